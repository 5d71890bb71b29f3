/-
  What an act came to, held against another, marked; a row's lists marked. Lengths at most 1048576.
-/
import Derived.Test.YtpmihhbgjimpmaaGreatDoorRowDoS
import Derived.Test.YtpmihhbgjimpmaaGreatDoorMarkS2
namespace Go.Proofs.YtpmihhbgjimpmaaGreatDoor
open Go.RowKit
set_option linter.unusedVariables false
set_option maxRecDepth 100000

theorem eqRes_same (code : Int) (a : Option Addr) (n cap : Nat) (a' : Option Addr) (cap' : Nat) (tl : List Int) (w : World) (h : Ints w a n tl) (h' : Ints w a' n tl) (hn : n ≤ 1048576) :
    Calls Tryz.prog 79 #[resV code a n cap, resV code a' n cap'] w fun e w' => e = .returned (.bool true) ∧ Below w.heap.size w w' := by
  have hc : (code != code) = false := by simp
  have HE := eqB_refl tl
  go_enter Tryz.func79, Tryz.ntmps79
  go_wp2_with fail
  refine (eq_any _ _ _ _ _ _ tl tl _ ((h.alloc _).alloc _) ((h'.alloc _).alloc _) hn hn).mono ?_
  rintro e w1 ⟨rfl, b1⟩
  rw [HE]
  go_wp2
  go_ret
  exact ⟨rfl, (((Below.refl _ _).alloc (Nat.le_refl _) _).alloc (by simp) _).trans (b1.mono (by simp; omega))⟩

end Go.Proofs.YtpmihhbgjimpmaaGreatDoor
