/-
  A small form that is drawn: whatever the bytes are, a form of the common lengths in two blocks of its own, with small numbers.
-/
import Derived.Test.YtmdjcfplhmkocaaDoorDrF
import Derived.Test.YtmdjcfplhmkocaaDoorTk
import Derived.Test.YtmdjcfplhmkocaaDoorLin
namespace Go.Proofs.YtmdjcfplhmkocaaDoor
open Go.RowKit
set_option linter.unusedVariables false
set_option maxRecDepth 100000

theorem bnd.set {M : Int} {zs : List Int} (h : bnd M zs) (i : Nat) {x : Int} (h1 : -M ≤ x) (h2 : x ≤ M) : bnd M (zs.set i x) := by
  intro j
  have hj := h j
  by_cases e : i = j
  · subst e
    by_cases hl : i < zs.length
    · rw [List.getElem?_set_self hl]; simp; omega
    · rw [List.getElem?_eq_none (by rw [List.length_set]; omega)]
      rw [List.getElem?_eq_none (by omega)] at hj
      exact hj
  · rw [List.getElem?_set_ne e]; exact hj

section
variable {w W W' : World} {R : Nat} {a : Option Addr} {n cap : Nat} {bs : List Int} {q : Int} {fb B1 B2 : Nat} {C D : List Int} {K M : Int}
theorem Blk.touchF {S : Nat → Prop} {B : Nat} {zs : List Int} (h : Blk W B zs) (t : Touch S W W') (hn : ¬ S B) : Blk W' B zs := by
  have hl := h.lt
  unfold Blk at *
  rw [t.block B hl hn]; exact h
theorem Rd.setNew (h : Rd W R a n cap bs q) {B : Nat} (hB : B ≠ R) (ha : 0 < n → ∀ b o, a = some ⟨b, o, none⟩ → b ≠ B) (i : Nat) (v : Value) : Rd (W.setCell ⟨B, i, none⟩ v) R a n cap bs q := by
  have t : Touch (fun x => x = B) W (W.setCell ⟨B, i, none⟩ v) := Touch.setCell (S := fun x => x = B) (Touch.refl _ _) rfl _
  exact h.touch t (fun e => hB e.symm) (fun h0 b o e => ha h0 b o e)
theorem lit_cell {L j : Nat} {xs : List Int} {t : TypeId} (h : Cel W L (xs.map (Value.int .i64)) t) (hj : j < xs.length) : W.cell? ⟨L, j, none⟩ = some (.int .i64 (xs[j]?.getD 0)) := by
  have := h.cell j
  rw [List.getElem?_map, List.getElem?_eq_getElem hj] at this
  rw [List.getElem?_eq_getElem hj]
  exact this
end
theorem lit_6 (j : Nat) (hj : j < 6) : -2 ≤ ([0, 0, 0, 1, -1, 2] : List Int)[j]?.getD 0 ∧ ([0, 0, 0, 1, -1, 2] : List Int)[j]?.getD 0 ≤ 2 := by
  rcases j with _ | _ | _ | _ | _ | _ | _ | _ | j <;> first | omega | simp
theorem lit_5 (j : Nat) (hj : j < 5) : -2 ≤ ([0, 0, 1, -1, 2] : List Int)[j]?.getD 0 ∧ ([0, 0, 1, -1, 2] : List Int)[j]?.getD 0 ≤ 2 := by
  rcases j with _ | _ | _ | _ | _ | _ | _ | _ | j <;> first | omega | simp
theorem lit_8 (j : Nat) (hj : j < 8) : -20 ≤ ([0, 0, 1, -1, 5, -5, 20, -20] : List Int)[j]?.getD 0 ∧ ([0, 0, 1, -1, 5, -5, 20, -20] : List Int)[j]?.getD 0 ≤ 20 := by
  rcases j with _ | _ | _ | _ | _ | _ | _ | _ | j <;> first | omega | simp

end Go.Proofs.YtmdjcfplhmkocaaDoor
