/-
  A form that is drawn, now and then with something wrong: whatever the bytes are, two lists of at most three numbers in new memory.
-/
import Derived.Test.YtmdjcfplhmkocaaDoorDrS
import Derived.Test.YtmdjcfplhmkocaaDoorDrA
namespace Go.Proofs.YtmdjcfplhmkocaaDoor
open Go.RowKit
set_option linter.unusedVariables false
set_option maxRecDepth 100000

/-- A form was drawn: its lists lie in new memory, the reader has gone on. -/
structure FmN (w w' : World) (R : Nat) (a : Option Addr) (n cap : Nat) (bs : List Int) (p q : Int) (B1 nC B2 nD : Nat) (C D : List Int) : Prop where
  t : Touch (fun x => x = R) w w'
  r : Rd w' R a n cap bs q
  c : Ints w' (some ⟨B1, 0, none⟩) nC C
  d : Ints w' (some ⟨B2, 0, none⟩) nD D
  c4 : nC ≤ 4
  d4 : nD ≤ 4
  c1 : 1 ≤ nC
  d1 : 1 ≤ nD
  b1 : w.heap.size ≤ B1
  b2 : w.heap.size ≤ B2
  q0 : p ≤ q
  q1 : q ≤ p + 20
theorem Blk.own {W : World} {B base n : Nat} {zs : List Int} (h : Blk W B zs) (hl : zs.length = n) (hb : base ≤ B) (hn : n ≤ 1000) : W.ownsRow base 3 1 (.slice (some ⟨B, 0, none⟩) n n) n (zs.map (Value.int .i64)) := by
  subst hl
  exact ⟨by simp, .inr ⟨B, zs.length, _, rfl, hb, h, Nat.le_refl _, by unfold maxLen; omega, by simp, by rw [List.take_of_length_le (by simp)]⟩⟩
theorem Ints.setFar {W : World} {a : Option Addr} {n B : Nat} {zs : List Int} (h : Ints W a n zs) (hB : ∀ b o, a = some ⟨b, o, none⟩ → b ≠ B) (i : Nat) (v : Value) : Ints (W.setCell ⟨B, i, none⟩ v) a n zs := by
  refine ⟨h.1, fun k hk => ?_⟩
  obtain ⟨b, off, e, hc⟩ := h.2 k hk
  exact ⟨b, off, e, (World.cell?_of_block (Below.heap_setCell W ⟨B, i, none⟩ v b (hB b off e))).trans hc⟩
theorem Ints.cut {W : World} {a : Option Addr} {n k : Nat} {zs : List Int} (h : Ints W a n zs) (hk : k ≤ n) : Ints W a k (zs.take k) := by
  refine ⟨by rw [List.length_take, h.1]; omega, fun i hi => ?_⟩
  obtain ⟨b, off, e, hc⟩ := h.2 i (by omega)
  exact ⟨b, off, e, by rw [hc]; simp [hi]⟩
theorem FmN.set {w W : World} {R : Nat} {a : Option Addr} {n cap : Nat} {bs : List Int} {p q : Int} {B1 nC B2 nD : Nat} {C D : List Int} (h : FmN w W R a n cap bs p q B1 nC B2 nD C D) {B : Nat} (hB : w.heap.size ≤ B) (h1 : B1 ≠ B) (h2 : B2 ≠ B) (hR : R < w.heap.size) (ha : 0 < n → ∀ b o, a = some ⟨b, o, none⟩ → b < w.heap.size) (i : Nat) (v : Value) : FmN w (W.setCell ⟨B, i, none⟩ v) R a n cap bs p q B1 nC B2 nD C D :=
  ⟨h.t.setNewF hB i v, h.r.setNew (by omega) (fun h0 b o e => by have := ha h0 b o e; omega) i v, h.c.setFar (fun b o e => by simp only [Option.some.injEq, Addr.mk.injEq] at e; omega) i v, h.d.setFar (fun b o e => by simp only [Option.some.injEq, Addr.mk.injEq] at e; omega) i v, h.c4, h.d4, h.c1, h.d1, h.b1, h.b2, h.q0, h.q1⟩
theorem bnd.up {M N : Int} {zs : List Int} (h : bnd M zs) (hM : M ≤ N) : bnd N zs := fun i => by have := h i; omega
theorem litF_4 (j : Nat) (hj : j < 4) : -10000001 ≤ ([10000000, -10000000, 1000, 77] : List Int)[j]?.getD 0 ∧ ([10000000, -10000000, 1000, 77] : List Int)[j]?.getD 0 ≤ 10000001 := by
  rcases j with _ | _ | _ | _ | j <;> first | omega | simp
theorem litF_2 (j : Nat) (hj : j < 2) : -10000001 ≤ ([10000001, -10000001] : List Int)[j]?.getD 0 ∧ ([10000001, -10000001] : List Int)[j]?.getD 0 ≤ 10000001 := by
  rcases j with _ | _ | _ | _ | j <;> first | omega | simp
theorem litF_3 (j : Nat) (hj : j < 3) : -10000001 ≤ ([10000001, -10000001, 10000000] : List Int)[j]?.getD 0 ∧ ([10000001, -10000001, 10000000] : List Int)[j]?.getD 0 ≤ 10000001 := by
  rcases j with _ | _ | _ | _ | j <;> first | omega | simp

end Go.Proofs.YtmdjcfplhmkocaaDoor
