/-
  Calls as arguments: the size, a copy, one held against another. Lengths at most 1048576 where one is copied.
-/
import Derived.Test.YtpmihhbgjimpmaaGreatDoorForms
import Derived.Test.YtpmihhbgjimpmaaGreatDoorOpen
namespace Go.Proofs.YtpmihhbgjimpmaaGreatDoor
open Go.ChangeShapes Go.WideShapes Go.ChangeAt Go.RowKit Go.Joins
set_option linter.unusedVariables false
set_option maxRecDepth 100000

/-- A call as a value. -/
abbrev clV (cl sq ac : Int) (a : Option Addr) (n cap : Nat) : Value := .agg #[.int .i64 cl, .int .i64 sq, .int .i64 ac, .slice a n cap]

theorem Cel.quadC {w : World} {B : Nat} {x y z u : Value} {t : TypeId} (h : Cel w B [x, y, z, u] t) : w.cell? ⟨B, 0, none⟩ = some x ∧ w.cell? ⟨B, 1, none⟩ = some y ∧ w.cell? ⟨B, 2, none⟩ = some z ∧ w.cell? ⟨B, 3, none⟩ = some u := ⟨h.cell 0, h.cell 1, h.cell 2, h.cell 3⟩

theorem szC_any (cl sq ac : Int) (a : Option Addr) (n cap : Nat) (l : Int) (w : World) (hn : n ≤ maxLen) (h0 : 0 ≤ l) (hl : l ≤ 1048576) :
    Calls Tryz.prog 117 #[clV cl sq ac a n cap, .int .i64 l] w fun e w' => e = .returned (.int .i64 (leftOf l n)) ∧ Below w.heap.size w w' := by
  have g1 := leftOf_ge l n
  by_cases h : leftOf l n < 0
  · go_enter Tryz.func117, Tryz.ntmps117
    go_wp2_with fail
    refine (sz_any _ _ _ _ _ hn h0 hl).mono ?_
    rintro e w1 ⟨rfl, rfl⟩
    go_wp2
    go_ret
    exact ⟨ret_int (by omega), (Below.refl _ _).alloc (Nat.le_refl _) _⟩
  · go_enter Tryz.func117, Tryz.ntmps117
    go_wp2_with fail
    refine (sz_any _ _ _ _ _ hn h0 hl).mono ?_
    rintro e w1 ⟨rfl, rfl⟩
    go_wp2
    go_ret
    exact ⟨ret_int rfl, (Below.refl _ _).alloc (Nat.le_refl _) _⟩

set_option maxHeartbeats 1600000 in
theorem toC_any (cl sq ac : Int) (a : Option Addr) (n cap : Nat) (C : List Int) (w : World) (hC : Ints w a n C) (hn : n ≤ 1048576) :
    Calls Tryz.prog 120 #[clV cl sq ac a n cap] w fun e w' => ∃ B1, e = .returned (clV cl sq ac (some ⟨B1, 0, none⟩) n n) ∧ Below w.heap.size w w' ∧ w.heap.size ≤ B1 ∧ Blk w' B1 C := by
  go_enter Tryz.func120, Tryz.ntmps120
  go_wp2_with fail
  refine (to_any _ _ _ _ _ (((hC.alloc _).alloc _).alloc _) hn).mono ?_
  rintro e w1 ⟨rfl, b1, k1⟩
  have p1 := ((Cel.new (w.alloc _) _ _).alloc _).below b1
  have p2 := (Cel.new ((w.alloc _).alloc _) _ _).below b1
  rw [World.size_alloc] at p1
  rw [World.size_alloc, World.size_alloc] at p2
  rw [World.size_alloc, World.size_alloc, World.size_alloc] at k1
  have s1 := k1.lt
  have B1 : Below w.heap.size w w1 := ((((Below.refl _ _).alloc (Nat.le_refl _) _).alloc (by simp) _).alloc (by simp; omega) _).trans (b1.mono (by simp; omega))
  clear b1
  have g0 := p2.cell 0
  have g1 := p2.cell 1
  have g2 := p2.cell 2
  have g3 := p2.cell 3
  have f3 := p2.free 3
  have e0 := p1.cell 0
  have e1 := p1.cell 1
  have e2 := p1.cell 2
  have e3 := p1.cell 3
  have h0 := p1.free 0
  have h1 := p1.free 1
  have h2 := p1.free 2
  have h3 := p1.free 3
  simp only [List.getElem?_cons_zero, List.getElem?_cons_succ] at g0 g1 g2 g3 e0 e1 e2 e3
  have hlt1 : w.heap.size + 1 < w1.heap.size := by omega
  have hlt2 : w.heap.size + 1 + 1 < w1.heap.size := by omega
  go_wp2
  refine bodyPost_ret (v := clV cl sq ac (some ⟨w.heap.size + 1 + 1 + 1, 0, none⟩) n n) (by simp [results, Tryz.results120, go_sem, e0, e1, e2, e3]) rfl ⟨_, rfl, ?_, by omega, ?_⟩
  · exact ((((B1.setCell (by simp only []; omega) _).setCell (by simp only []; omega) _).setCell (by simp only []; omega) _).setCell (by simp only []; omega) _).setCell (by simp only []; omega) _
  · exact ((((k1.setOther (by omega) _ _).setOther (by omega) _ _).setOther (by omega) _ _).setOther (by omega) _ _).setOther (by omega) _ _

theorem eqC_same (cl sq ac : Int) (a : Option Addr) (n cap : Nat) (a' : Option Addr) (cap' : Nat) (tl : List Int) (w : World) (h : Ints w a n tl) (h' : Ints w a' n tl) (hn : n ≤ 1048576) :
    Calls Tryz.prog 123 #[clV cl sq ac a n cap, clV cl sq ac a' n cap'] w fun e w' => e = .returned (.bool true) ∧ Below w.heap.size w w' := by
  have h1 : (cl != cl) = false := by simp
  have h2 : (sq != sq) = false := by simp
  have h3 : (ac != ac) = false := by simp
  have HE := eqB_refl tl
  go_enter Tryz.func123, Tryz.ntmps123
  go_wp2_with fail
  refine (eq_any _ _ _ _ _ _ tl tl _ ((h.alloc _).alloc _) ((h'.alloc _).alloc _) hn hn).mono ?_
  rintro e w1 ⟨rfl, b1⟩
  rw [HE]
  go_wp2
  go_ret
  exact ⟨rfl, (((Below.refl _ _).alloc (Nat.le_refl _) _).alloc (by simp) _).trans (b1.mono (by simp; omega))⟩

theorem open_call {H : Type} {enc : TypeId × Value → H} {W : World} {r : Reach} {b0 : Nat} {v : Value} {d : DataW H} {p : List MemPlace}
    (hv : Value.okWide Tryz.prog W r b0 120 v) (h : DataW.Trod enc Tryz.prog W 0 (fun _ => true) true 120 v d p) :
    ∃ cl sq ac a n cap C, v = clV cl sq ac a n cap ∧ (Lit.int .i64 cl).wf = true ∧ (Lit.int .i64 sq).wf = true ∧ (Lit.int .i64 ac).wf = true ∧ Ints W a n C ∧ n ≤ maxLen := by
  obtain ⟨v0, v1, v2, v3, y0, y1, y2, y3, k, rfl, -, -, h0, h1, h2, h3⟩ := open_agg4 Tryz.underlying120 (by kernel_rfl) (by kernel_rfl) hv h
  obtain ⟨cl, rfl, w1⟩ := open_num h0
  obtain ⟨sq, rfl, w2⟩ := open_num h1
  obtain ⟨ac, rfl, w3⟩ := open_num h2
  obtain ⟨a, n, cap, C, rfl, hC, hn⟩ := open_row h3
  exact ⟨cl, sq, ac, a, n, cap, C, rfl, w1, w2, w3, hC, hn⟩

end Go.Proofs.YtpmihhbgjimpmaaGreatDoor
