/-
  Calls as arguments: the size, a copy, one held against another. Lengths at most 1048576 where one is copied.
-/
import Derived.Test.YtkmacleakfbobaaGreatDoorForms
import Derived.Test.YtkmacleakfbobaaGreatDoorOpen
namespace Go.Proofs.YtkmacleakfbobaaGreatDoor
open Go.ChangeShapes Go.WideShapes Go.ChangeAt Go.RowKit Go.Joins
set_option linter.unusedVariables false
set_option maxRecDepth 100000

/-- A call as a value. -/
abbrev clV (cl sq ac : Int) (a : Option Addr) (n cap : Nat) : Value := .agg #[.int .i64 cl, .int .i64 sq, .int .i64 ac, .slice a n cap]

theorem Cel.quadC {w : World} {B : Nat} {x y z u : Value} {t : TypeId} (h : Cel w B [x, y, z, u] t) : w.cell? ⟨B, 0, none⟩ = some x ∧ w.cell? ⟨B, 1, none⟩ = some y ∧ w.cell? ⟨B, 2, none⟩ = some z ∧ w.cell? ⟨B, 3, none⟩ = some u := ⟨h.cell 0, h.cell 1, h.cell 2, h.cell 3⟩

theorem eqC_same (cl sq ac : Int) (a : Option Addr) (n cap : Nat) (a' : Option Addr) (cap' : Nat) (tl : List Int) (w : World) (h : Ints w a n tl) (h' : Ints w a' n tl) (hn : n ≤ 1048576) :
    Calls Tryz.prog 6 #[clV cl sq ac a n cap, clV cl sq ac a' n cap'] w fun e w' => e = .returned (.bool true) ∧ Below w.heap.size w w' := by
  have h1 : (cl != cl) = false := by simp
  have h2 : (sq != sq) = false := by simp
  have h3 : (ac != ac) = false := by simp
  have HE := eqB_refl tl
  go_enter Tryz.func6, Tryz.ntmps6
  go_wp2_with fail
  refine (eq_any _ _ _ _ _ _ tl tl _ ((h.alloc _).alloc _) ((h'.alloc _).alloc _) hn hn).mono ?_
  rintro e w1 ⟨rfl, b1⟩
  rw [HE]
  go_wp2
  go_ret
  exact ⟨rfl, (((Below.refl _ _).alloc (Nat.le_refl _) _).alloc (by simp) _).trans (b1.mono (by simp; omega))⟩

end Go.Proofs.YtkmacleakfbobaaGreatDoor
