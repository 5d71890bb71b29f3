/-
  Slices of forms that a call makes: chunks of three cells in one block, each form's lists in blocks of their own.
-/
import Derived.Test.YtdigmokjedckeaaGreatDoorSlices
namespace Go.Proofs.YtdigmokjedckeaaGreatDoor
open Go.RowKit
set_option linter.unusedVariables false

/-- Chunks of three, one behind the other. -/
def three (cs : List (List Value)) : Prop := ∀ c ∈ cs, c.length = 3
theorem flat_len : ∀ (cs : List (List Value)), three cs → cs.flatten.length = cs.length * 3
  | [], _ => rfl
  | c :: cs, h => by
    have h1 := h c (by simp)
    have h2 := flat_len cs (fun d hd => h d (by simp [hd]))
    simp only [List.flatten_cons, List.length_append, h1, h2, List.length_cons]
    omega
theorem flat_get : ∀ (cs : List (List Value)) (k r : Nat), three cs → r < 3 → cs.flatten[k * 3 + r]? = (cs[k]?.getD [])[r]?
  | [], k, r, _, _ => by simp
  | c :: cs, 0, r, h, hr => by
    have h1 := h c (by simp)
    simp only [List.flatten_cons, Nat.zero_mul, Nat.zero_add, List.getElem?_cons_zero, Option.getD_some]
    rw [List.getElem?_append_left (by omega)]
  | c :: cs, k + 1, r, h, hr => by
    have h1 := h c (by simp)
    have h2 := flat_get cs k r (fun d hd => h d (by simp [hd])) hr
    simp only [List.flatten_cons, List.getElem?_cons_succ]
    rw [List.getElem?_append_right (by omega), h1, ← h2]
    congr 1
    omega
theorem flat_set : ∀ (cs : List (List Value)) (k : Nat) (x y z : Value), three cs → k < cs.length → ((cs.flatten.set (k * 3) x).set (k * 3 + 1) y).set (k * 3 + 2) z = (cs.set k [x, y, z]).flatten
  | [], k, x, y, z, _, hk => by simp at hk
  | c :: cs, 0, x, y, z, h, _ => by
    have h1 := h c (by simp)
    match c, h1 with
    | [u, v, t], _ => simp
  | c :: cs, k + 1, x, y, z, h, hk => by
    have h1 := h c (by simp)
    have h2 := flat_set cs k x y z (fun d hd => h d (by simp [hd])) (by simpa using hk)
    simp only [List.flatten_cons, List.set_cons_succ]
    rw [← h2]
    rw [List.set_append_right _ _ (by omega), List.set_append_right _ _ (by omega), List.set_append_right _ _ (by omega), h1]
    have a1 : (k + 1) * 3 - 3 = k * 3 := by omega
    have a2 : (k + 1) * 3 + 1 - 3 = k * 3 + 1 := by omega
    have a3 : (k + 1) * 3 + 2 - 3 = k * 3 + 2 := by omega
    rw [a1, a2, a3]
theorem three_rep (n : Nat) (c : List Value) (h : c.length = 3) : three (List.replicate n c) := fun d hd => by rw [List.eq_of_mem_replicate hd]; exact h
theorem three_app {a b : List (List Value)} (ha : three a) (hb : three b) : three (a ++ b) := fun d hd => by
  rcases List.mem_append.1 hd with h | h
  · exact ha d h
  · exact hb d h
theorem three_map (gs : List FV) : three (gs.map FV.cs) := fun d hd => by
  obtain ⟨g, _, rfl⟩ := List.mem_map.1 hd
  rfl

def zcs : List Value := [.slice none 0 0, .slice none 0 0, .int .i64 0]
theorem made3 (n : Nat) : (madeCells #[.slice none 0 0, .slice none 0 0, .int .i64 0] (n * 3)).toList = (List.replicate n zcs).flatten := by
  apply List.ext_getElem?
  intro j
  have hl := flat_len (List.replicate n zcs) (three_rep n zcs rfl)
  rw [List.length_replicate] at hl
  by_cases hj : j < n * 3
  · have hk : j / 3 < n := by omega
    have e := flat_get (List.replicate n zcs) (j / 3) (j % 3) (three_rep n zcs rfl) (by omega)
    have e2 : j / 3 * 3 + j % 3 = j := by omega
    rw [e2] at e
    rw [e, List.getElem?_replicate, if_pos hk]
    have hm : j % 3 < 3 := by omega
    simp only [madeCells, Option.getD_some]
    simp [hj]
    match j % 3, hm with
    | 0, _ => rfl
    | 1, _ => rfl
    | 2, _ => rfl
  · have h1 : (madeCells #[.slice none 0 0, .slice none 0 0, .int .i64 0] (n * 3)).toList.length ≤ j := by
      rw [Array.length_toList, size_madeCells]; omega
    have h2 : (List.replicate n zcs).flatten.length ≤ j := by omega
    rw [List.getElem?_eq_none h1, List.getElem?_eq_none h2]

/-- Block B holds the chunks; the forms' lists lie in blocks p i and q i, each behind those ahead of it, from lo on. -/
structure MF (W : World) (B lo : Nat) (cs : List (List Value)) (gs : List FV) (p q : Nat → Nat) : Prop where
  c : W.heap[B]? = some (.cells cs.flatten.toArray 98 (0, 0))
  t : three cs
  l : ∀ i, i < gs.length → cs[i]? = some (gs[i]?.getD noFV).cs ∧ (gs[i]?.getD noFV).a = some ⟨p i, 0, none⟩ ∧ (gs[i]?.getD noFV).c = some ⟨q i, 0, none⟩ ∧ Blk W (p i) (gs[i]?.getD noFV).C ∧ Blk W (q i) (gs[i]?.getD noFV).D ∧ (gs[i]?.getD noFV).C.length = (gs[i]?.getD noFV).n ∧ (gs[i]?.getD noFV).D.length = (gs[i]?.getD noFV).m ∧ (gs[i]?.getD noFV).n ≤ 1048576 ∧ (gs[i]?.getD noFV).m ≤ 1048576 ∧ lo ≤ p i ∧ p i < q i ∧ q i < W.heap.size ∧ ∀ j, j < i → q j < p i
  b : B < lo
  s : lo ≤ W.heap.size
theorem MF.below {W W' : World} {B lo : Nat} {cs : List (List Value)} {gs : List FV} {p q : Nat → Nat} (h : MF W B lo cs gs p q) (b : Below W.heap.size W W') : MF W' B lo cs gs p q := by
  refine ⟨by rw [b.block B (lt_of_block h.c)]; exact h.c, h.t, fun i hi => ?_, h.b, Nat.le_trans h.s b.size⟩
  obtain ⟨a1, a2, a3, a4, a5, a6, a7, a8, a9, a10, a11, a12, a13⟩ := h.l i hi
  have := b.size
  exact ⟨a1, a2, a3, a4.below b, a5.below b, a6, a7, a8, a9, a10, a11, by omega, a13⟩
theorem MF.cell {W : World} {B lo : Nat} {cs : List (List Value)} {gs : List FV} {p q : Nat → Nat} (h : MF W B lo cs gs p q) (k r : Nat) (hr : r < 3) : W.cell? ⟨B, k * 3 + r, none⟩ = (cs[k]?.getD [])[r]? := by
  have hc := h.c
  rw [← flat_get cs k r h.t hr]
  simp [World.cell?, hc]
theorem MF.free {W : World} {B lo : Nat} {cs : List (List Value)} {gs : List FV} {p q : Nat → Nat} (h : MF W B lo cs gs p q) (i : Nat) : W.frozen? ⟨B, i, none⟩ = false := by
  have hc := h.c
  simp [World.frozen?, hc]
theorem MF.g {W : World} {B lo : Nat} {cs : List (List Value)} {gs : List FV} {p q : Nat → Nat} (h : MF W B lo cs gs p q) : FormsG W (some ⟨B, 0, none⟩) gs := by
  intro i hi
  obtain ⟨a1, a2, a3, a4, a5, a6, a7, a8, a9, _⟩ := h.l i hi
  have c0 := h.cell i 0 (by omega)
  have c1 := h.cell i 1 (by omega)
  have c2 := h.cell i 2 (by omega)
  rw [a1] at c0 c1 c2
  refine ⟨B, 0, rfl, by rw [Nat.zero_add]; exact c0, by rw [Nat.zero_add]; exact c1, by rw [Nat.zero_add]; exact c2, ⟨?_, ?_, a8, a9⟩⟩
  · rw [a2, ← a6]; exact a4.ints
  · rw [a3, ← a7]; exact a5.ints

/-- One form more is laid. -/
theorem MF.step {W W1 : World} {B lo k P Q : Nat} {cs : List (List Value)} {gs : List FV} {p q : Nat → Nat} {C D : List Int} {n m : Nat} {K : Int} (h : MF W B lo cs gs p q) (hk : gs.length = k) (hkN : k < cs.length) (b : Below W.heap.size W W1) (hP : W.heap.size ≤ P) (hPQ : P < Q) (k1 : Blk W1 P C) (k2 : Blk W1 Q D) (hC : C.length = n) (hD : D.length = m) (hn : n ≤ 1048576) (hm : m ≤ 1048576) :
    MF (((W1.setCell ⟨B, k * 3, none⟩ (.slice (some ⟨P, 0, none⟩) n n)).setCell ⟨B, k * 3 + 1, none⟩ (.slice (some ⟨Q, 0, none⟩) m m)).setCell ⟨B, k * 3 + 2, none⟩ (.int .i64 K)) B lo (cs.set k [.slice (some ⟨P, 0, none⟩) n n, .slice (some ⟨Q, 0, none⟩) m m, .int .i64 K]) (gs ++ [⟨some ⟨P, 0, none⟩, n, n, some ⟨Q, 0, none⟩, m, m, K, C, D⟩]) (fun i => if i = k then P else p i) (fun i => if i = k then Q else q i) := by
  have h1 := h.below b
  have hB := lt_of_block h.c
  have hlo := h.b
  have hQl := k2.lt
  have hs : ∀ (x : Nat) (o : Option Obj), x ≠ B → W1.heap[x]? = o → (((W1.setCell ⟨B, k * 3, none⟩ (.slice (some ⟨P, 0, none⟩) n n)).setCell ⟨B, k * 3 + 1, none⟩ (.slice (some ⟨Q, 0, none⟩) m m)).setCell ⟨B, k * 3 + 2, none⟩ (.int .i64 K)).heap[x]? = o := fun x o hx ho => by
    rw [Below.heap_setCell _ _ _ _ hx, Below.heap_setCell _ _ _ _ hx, Below.heap_setCell _ _ _ _ hx]; exact ho
  refine ⟨?_, ?_, fun i hi => ?_, h.b, by rw [size_setCell, size_setCell, size_setCell]; exact h1.s⟩
  · have e1 := heap_setCell_same W1 B (k * 3) _ _ (.slice (some ⟨P, 0, none⟩) n n) h1.c
    have e2 := heap_setCell_same _ B (k * 3 + 1) _ _ (.slice (some ⟨Q, 0, none⟩) m m) e1
    have e3 := heap_setCell_same _ B (k * 3 + 2) _ _ (.int .i64 K) e2
    rw [e3]
    simp only [List.setIfInBounds_toArray]
    rw [flat_set cs k _ _ _ h.t hkN]
  · intro d hd
    rcases List.mem_or_eq_of_mem_set hd with h2 | h2
    · exact h.t d h2
    · rw [h2]; rfl
  · rw [List.length_append, hk] at hi
    simp only [List.length_cons, List.length_nil] at hi
    by_cases e : i = k
    · subst e
      rw [List.getElem?_append_right (by omega), hk]
      simp only [Nat.sub_self, List.getElem?_cons_zero, Option.getD_some, if_true]
      refine ⟨by rw [List.getElem?_set_self hkN]; rfl, trivial, trivial, hs P _ (by omega) k1, hs Q _ (by omega) k2, hC, hD, hn, hm, by have := h.s; omega, hPQ, by rw [size_setCell, size_setCell, size_setCell]; exact hQl, fun j hj => ?_⟩
      rw [if_neg (by omega)]
      obtain ⟨_, _, _, _, _, _, _, _, _, _, _, a12, _⟩ := h.l j (by omega)
      omega
    · rw [List.getElem?_append_left (by omega)]
      obtain ⟨a1, a2, a3, a4, a5, a6, a7, a8, a9, a10, a11, a12, a13⟩ := h1.l i (by omega)
      simp only [if_neg e]
      refine ⟨by rw [List.getElem?_set_ne (by omega)]; exact a1, a2, a3, hs _ _ (by omega) a4, hs _ _ (by omega) a5, a6, a7, a8, a9, a10, a11, by rw [size_setCell, size_setCell, size_setCell]; exact a12, fun j hj => ?_⟩
      rw [if_neg (by omega)]
      exact a13 j hj

/-- A copy of a form holds what the form holds. -/
def copies (fs gs : List FV) : Prop := ∀ i, i < gs.length → (gs[i]?.getD noFV).C = (fs[i]?.getD noFV).C ∧ (gs[i]?.getD noFV).D = (fs[i]?.getD noFV).D ∧ (gs[i]?.getD noFV).K = (fs[i]?.getD noFV).K ∧ (gs[i]?.getD noFV).n = (fs[i]?.getD noFV).n ∧ (gs[i]?.getD noFV).m = (fs[i]?.getD noFV).m

theorem Tryz.infoForm : (Tryz.prog.info? 98).map (fun i => (i.zero, i.size, i.bytes)) = some (some (.agg #[.slice none 0 0, .slice none 0 0, .int .i64 0]), 3, 56) := by kernel_rfl

end Go.Proofs.YtdigmokjedckeaaGreatDoor
