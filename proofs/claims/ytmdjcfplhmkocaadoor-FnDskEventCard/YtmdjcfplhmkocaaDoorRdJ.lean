/-
  A result, as the program reads it: its word. The library's strconv.Atoi is taken by what it answers (ReadsN).
-/
import Derived.Test.YtmdjcfplhmkocaaDoorRdI
import Derived.Deep.RegionHeld3
import Derived.Deep.DeepCutAuto
namespace Go.Proofs.YtmdjcfplhmkocaaDoor
open Go.RowKit Go.Deep
set_option linter.unusedVariables false
set_option maxRecDepth 100000

theorem code_at {x : List UInt8} {k : Nat} (h1 : 1 ≤ k) (h3 : k ≤ 3) (h : wordL k = x) : codeTo x 4 = k := by
  subst h
  have : k = 1 ∨ k = 2 ∨ k = 3 := by omega
  rcases this with rfl | rfl | rfl <;> decide
theorem code_none {x : List UInt8} (h : ∀ k : Nat, 1 ≤ k → k < 4 → wordL k ≠ x) : codeTo x 4 = 0 := by
  rw [codeTo, if_neg (h 3 (by omega) (by omega)), codeTo, if_neg (h 2 (by omega) (by omega)), codeTo, if_neg (h 1 (by omega) (by omega)), codeTo]

theorem JA.box {w w3 w4 : World} {v : Value} {xs : List Int} {r : Nat} (B3 : Below w.heap.size w w3) (j : JA w3 v xs w4) (hB : w.heap.size ≤ r) (hr : r < w3.heap.size) (i l : Nat) (x y : Value) : JA w v xs ((w4.setCell ⟨r, i, none⟩ x).setCell ⟨r, l, none⟩ y) := by
  refine ⟨((B3.trans (j.b.mono B3.size)).setCell hB _).setCell hB _, j.o.1, ?_⟩
  rcases j.o.2 with h2 | ⟨g, cap, cur, hv, hg, hh, q⟩
  · exact Or.inl h2
  · have := B3.size
    refine Or.inr ⟨g, cap, cur, hv, by omega, ?_, q⟩
    rw [Below.heap_setCell _ _ _ _ (show g ≠ r by omega), Below.heap_setCell _ _ _ _ (show g ≠ r by omega)]; exact hh

end Go.Proofs.YtmdjcfplhmkocaaDoor
