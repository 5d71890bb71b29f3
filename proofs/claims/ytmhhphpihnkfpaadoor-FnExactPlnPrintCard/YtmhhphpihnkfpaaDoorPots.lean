/-
  The form that is 0, and the form that is one pot, as both texts make them.
-/
import Derived.Test.YtmhhphpihnkfpaaDoorSums
namespace Go.Proofs.YtmhhphpihnkfpaaDoor
open Go.RowKit
set_option linter.unusedVariables false

/-- The form that is pot v: nothing, if there is no such pot. -/
def potC (v : Int) : List Int := if 0 ≤ v ∧ v ≤ 2 then [0, 0, 0].set v.toNat 1 else []
def potD (v : Int) : List Int := if 0 ≤ v ∧ v ≤ 2 then [0, 0] else []
theorem potC_in (v : Int) (k : Nat) (hv : v = k) (hk : k ≤ 2) : potC v = [0, 0, 0].set k 1 := by subst hv; unfold potC; rw [if_pos (by omega)]; rfl
theorem potD_in (v : Int) (h0 : 0 ≤ v) (h2 : v ≤ 2) : potD v = [0, 0] := by unfold potD; rw [if_pos ⟨h0, h2⟩]
theorem potC_out (v : Int) (h : ¬ (0 ≤ v ∧ v ≤ 2)) : potC v = [] := by unfold potC; rw [if_neg h]
theorem potD_out (v : Int) (h : ¬ (0 ≤ v ∧ v ≤ 2)) : potD v = [] := by unfold potD; rw [if_neg h]
theorem potC_len (v : Int) : (potC v).length ≤ 1048576 := by unfold potC; split <;> simp
theorem potD_len (v : Int) : (potD v).length ≤ 1048576 := by unfold potD; split <;> simp

end Go.Proofs.YtmhhphpihnkfpaaDoor
