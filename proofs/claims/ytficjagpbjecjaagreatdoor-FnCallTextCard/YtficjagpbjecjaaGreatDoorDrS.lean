/-
  A small form that is drawn: whatever the bytes are, a form of the common lengths in two blocks of its own, with small numbers.
-/
import Derived.Test.YtficjagpbjecjaaGreatDoorDrF
import Derived.Test.YtficjagpbjecjaaGreatDoorTk
import Derived.Test.YtficjagpbjecjaaGreatDoorLin
namespace Go.Proofs.YtficjagpbjecjaaGreatDoor
open Go.RowKit
set_option linter.unusedVariables false
set_option maxRecDepth 100000

theorem bnd.set {M : Int} {zs : List Int} (h : bnd M zs) (i : Nat) {x : Int} (h1 : -M ≤ x) (h2 : x ≤ M) : bnd M (zs.set i x) := by
  intro j
  have hj := h j
  by_cases e : i = j
  · subst e
    by_cases hl : i < zs.length
    · rw [List.getElem?_set_self hl]; simp; omega
    · rw [List.getElem?_eq_none (by rw [List.length_set]; omega)]
      rw [List.getElem?_eq_none (by omega)] at hj
      exact hj
  · rw [List.getElem?_set_ne e]; exact hj

/-- A form that is being drawn: its two boxes, its two lists, the reader. -/
structure SmI (w W : World) (R : Nat) (a : Option Addr) (n cap : Nat) (bs : List Int) (q : Int) (fb B1 B2 : Nat) (C D : List Int) (K M : Int) : Prop where
  t : Touch (fun x => x = R) w W
  r : Rd W R a n cap bs q
  f : F32 W (w.heap.size + 1) B1 B2 C D
  cb : Cel W fb [.slice (some ⟨B1, 0, none⟩) 3 3, .slice (some ⟨B2, 0, none⟩) 2 2, .int .i64 K] 178
  rb : Cel W w.heap.size [.slice none 0 0, .slice none 0 0, .int .i64 0] 178
  hf : w.heap.size < fb
  n1 : B1 ≠ fb
  n2 : B2 ≠ fb
  hR : R < w.heap.size
  ha : 0 < n → ∀ b o, a = some ⟨b, o, none⟩ → b < w.heap.size
  sC : bnd M C
  sD : bnd M D
section
variable {w W W' : World} {R : Nat} {a : Option Addr} {n cap : Nat} {bs : List Int} {q : Int} {fb B1 B2 : Nat} {C D : List Int} {K M : Int}
theorem SmI.below (s : SmI w W R a n cap bs q fb B1 B2 C D K M) (b : Below W.heap.size W W') : SmI w W' R a n cap bs q fb B1 B2 C D K M :=
  ⟨s.t.trans (Touch.of b), s.r.below b, s.f.below b, s.cb.below b, s.rb.below b, s.hf, s.n1, s.n2, s.hR, s.ha, s.sC, s.sD⟩
theorem Blk.touchF {S : Nat → Prop} {B : Nat} {zs : List Int} (h : Blk W B zs) (t : Touch S W W') (hn : ¬ S B) : Blk W' B zs := by
  have hl := h.lt
  unfold Blk at *
  rw [t.block B hl hn]; exact h
theorem SmI.pick {q' : Int} (s : SmI w W R a n cap bs q fb B1 B2 C D K M) (t : Touch (fun x => x = R) W W') (r : Rd W' R a n cap bs q') : SmI w W' R a n cap bs q' fb B1 B2 C D K M := by
  have h1 := s.f.b1
  have h2 := s.f.b2
  have h3 := s.hR
  have h4 := s.hf
  exact ⟨s.t.trans t, r, ⟨s.f.k1.touchF t (by omega), s.f.k2.touchF t (by omega), s.f.l1, s.f.l2, s.f.b1, s.f.b2, s.f.ne⟩, s.cb.touch t (by omega), s.rb.touch t (by omega), s.hf, s.n1, s.n2, s.hR, s.ha, s.sC, s.sD⟩
theorem Rd.setNew (h : Rd W R a n cap bs q) {B : Nat} (hB : B ≠ R) (ha : 0 < n → ∀ b o, a = some ⟨b, o, none⟩ → b ≠ B) (i : Nat) (v : Value) : Rd (W.setCell ⟨B, i, none⟩ v) R a n cap bs q := by
  have t : Touch (fun x => x = B) W (W.setCell ⟨B, i, none⟩ v) := Touch.setCell (S := fun x => x = B) (Touch.refl _ _) rfl _
  exact h.touch t (fun e => hB e.symm) (fun h0 b o e => ha h0 b o e)
theorem SmI.setC (s : SmI w W R a n cap bs q fb B1 B2 C D K M) (i : Nat) {x : Int} (x1 : -M ≤ x) (x2 : x ≤ M) : SmI w (W.setCell ⟨B1, i, none⟩ (.int .i64 x)) R a n cap bs q fb B1 B2 (C.set i x) D K M := by
  have h1 := s.f.b1
  have h3 := s.hR
  exact ⟨s.t.setNewF (by omega) i _, s.r.setNew (by omega) (fun h0 b o e => by have := s.ha h0 b o e; omega) i _, s.f.setC i x, s.cb.setOther (fun e => s.n1 e.symm) _ _, s.rb.setOther (by omega) _ _, s.hf, s.n1, s.n2, s.hR, s.ha, s.sC.set i x1 x2, s.sD⟩
theorem SmI.setD (s : SmI w W R a n cap bs q fb B1 B2 C D K M) (i : Nat) {x : Int} (x1 : -M ≤ x) (x2 : x ≤ M) : SmI w (W.setCell ⟨B2, i, none⟩ (.int .i64 x)) R a n cap bs q fb B1 B2 C (D.set i x) K M := by
  have h1 := s.f.b2
  have h3 := s.hR
  exact ⟨s.t.setNewF (by omega) i _, s.r.setNew (by omega) (fun h0 b o e => by have := s.ha h0 b o e; omega) i _, s.f.setD i x, s.cb.setOther (fun e => s.n2 e.symm) _ _, s.rb.setOther (by omega) _ _, s.hf, s.n1, s.n2, s.hR, s.ha, s.sC, s.sD.set i x1 x2⟩
theorem lit_cell {L j : Nat} {xs : List Int} {t : TypeId} (h : Cel W L (xs.map (Value.int .i64)) t) (hj : j < xs.length) : W.cell? ⟨L, j, none⟩ = some (.int .i64 (xs[j]?.getD 0)) := by
  have := h.cell j
  rw [List.getElem?_map, List.getElem?_eq_getElem hj] at this
  rw [List.getElem?_eq_getElem hj]
  exact this
end
theorem lit_6 (j : Nat) (hj : j < 6) : -2 ≤ ([0, 0, 0, 1, -1, 2] : List Int)[j]?.getD 0 ∧ ([0, 0, 0, 1, -1, 2] : List Int)[j]?.getD 0 ≤ 2 := by
  rcases j with _ | _ | _ | _ | _ | _ | _ | _ | j <;> first | omega | simp
theorem lit_5 (j : Nat) (hj : j < 5) : -2 ≤ ([0, 0, 1, -1, 2] : List Int)[j]?.getD 0 ∧ ([0, 0, 1, -1, 2] : List Int)[j]?.getD 0 ≤ 2 := by
  rcases j with _ | _ | _ | _ | _ | _ | _ | _ | j <;> first | omega | simp
theorem lit_8 (j : Nat) (hj : j < 8) : -20 ≤ ([0, 0, 1, -1, 5, -5, 20, -20] : List Int)[j]?.getD 0 ∧ ([0, 0, 1, -1, 5, -5, 20, -20] : List Int)[j]?.getD 0 ≤ 20 := by
  rcases j with _ | _ | _ | _ | _ | _ | _ | _ | j <;> first | omega | simp

end Go.Proofs.YtficjagpbjecjaaGreatDoor
