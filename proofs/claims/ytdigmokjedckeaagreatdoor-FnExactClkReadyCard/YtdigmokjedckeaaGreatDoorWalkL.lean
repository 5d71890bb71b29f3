/-
  Slices of rows in new memory: one row, two slices joined. How many ways there are.
-/
import Derived.Test.YtdigmokjedckeaaGreatDoorRowEnd
namespace Go.Proofs.YtdigmokjedckeaaGreatDoor
open Go.RowKit Go.Deep
set_option linter.unusedVariables false
set_option maxRecDepth 100000

theorem goW_ne {ls : List LV} (f : Nat) : ∀ (i : Nat) (y : Way), 0 < (goW ls f i y).length := by
  induction f with
  | zero => intro i y; simp [goW]
  | succ f ih =>
    intro i y
    rw [goW]
    split
    · split
      · rw [List.length_append]; have := ih (i + 1) (y.guard (intoX (ls[i]?.getD noLV).f y.pots)); omega
      · split
        · exact ih _ _
        · split
          · exact ih _ _
          · simp
    · simp
theorem goW_len {ls : List LV} (f : Nat) : ∀ (i : Nat) (y : Way), (goW ls f i y).length ≤ 2 ^ f := by
  induction f with
  | zero => intro i y; simp [goW]
  | succ f ih =>
    intro i y
    have hp : 1 ≤ 2 ^ f := Nat.one_le_two_pow
    have h2 : 2 ^ (f + 1) = 2 ^ f + 2 ^ f := by rw [Nat.pow_succ]; omega
    rw [goW]
    split
    · split
      · rw [List.length_append]
        have h3 := ih (i + 1) (y.guard (intoX (ls[i]?.getD noLV).f y.pots))
        have h4 := ih (i + 1 + (ls[i]?.getD noLV).skip.toNat) (y.guard (minusX (intoX (ls[i]?.getD noLV).f y.pots)))
        omega
      · split
        · have := ih (i + 1) (y.add (ls[i]?.getD noLV).pot.toNat (intoX (ls[i]?.getD noLV).f y.pots)); omega
        · split
          · have := ih (i + 1) (y.tell (intoX (ls[i]?.getD noLV).f y.pots)); omega
          · simp; omega
    · simp; omega
theorem goW_128 {ls : List LV} {f i : Nat} {y : Way} (hf : f ≤ 7) : (goW ls f i y).length ≤ 128 :=
  Nat.le_trans (goW_len f i y) (Nat.le_trans (Nat.pow_le_pow_right (by omega) hf) (by decide))

theorem FOff.grown {W W' : World} {B G g : Nat} {a : Option Addr} {fs : List Frm} (h : FOff W (fun k => k < B ∨ k = G) a fs) (hg : W.grownBy W' (some G)) (hat : g = G ∨ W.heap.size ≤ g) : FOff W' (fun k => k < B ∨ k = g) a fs := fun W'' t => by
  refine h W'' ⟨t.os.trans hg.os, t.tape.trans hg.tape, t.output.trans hg.output, Nat.le_trans hg.size t.size, fun k hk hn => ?_⟩
  have hk1 : ¬ k < B := fun e => hn (Or.inl e)
  have hk2 : k ≠ G := fun e => hn (Or.inr e)
  rw [t.block k (Nat.lt_of_lt_of_le hk hg.size) (fun e => by omega)]
  exact hg.block k hk (fun e => by simp only [Option.some.injEq] at e; omega)

theorem FOwn.grown {W W' : World} {B G g : Nat} {T : Nat → Prop} {v : Value} {n : Nat} {fs : List Frm} (h : FOwn W (fun k => (k < B ∨ k = G) ∨ T k) v n fs) (hg : W.grownBy W' (some G)) (hat : g = G ∨ W.heap.size ≤ g) : FOwn W' (fun k => (k < B ∨ k = g) ∨ T k) v n fs := by
  obtain ⟨xs, h⟩ := h
  refine ⟨xs, fun W'' t => h W'' ⟨t.os.trans hg.os, t.tape.trans hg.tape, t.output.trans hg.output, Nat.le_trans hg.size t.size, fun k hk hn => ?_⟩⟩
  have hk1 : ¬ k < B := fun e => hn (Or.inl (Or.inl e))
  have hk2 : k ≠ G := fun e => hn (Or.inl (Or.inr e))
  have hk3 : ¬ T k := fun e => hn (Or.inr e)
  rw [t.block k (Nat.lt_of_lt_of_le hk hg.size) (fun e => by
    rcases e with (e | e) | e
    · exact hk1 e
    · omega
    · exact hk3 e)]
  exact hg.block k hk (fun e => by simp only [Option.some.injEq] at e; omega)

def noR : RowM := ⟨[], [], [], false⟩
/-- Rows in cells, each of whose lists is its own. -/
def RowsOwn (W : World) (S : Nat → Prop) (xs : List Value) (rs : List RowM) : Prop :=
  ∀ j, j < rs.length → ∃ ga gc aa ac ta tc, xs[j * 4]? = some (.slice ga (rs[j]?.getD noR).guards.length gc) ∧ xs[j * 4 + 1]? = some (.slice aa (rs[j]?.getD noR).adds.length ac) ∧ xs[j * 4 + 2]? = some (.slice ta (rs[j]?.getD noR).tells.length tc) ∧ xs[j * 4 + 3]? = some (.bool (rs[j]?.getD noR).stop) ∧ RowOwn W S ga gc aa ac ta tc (rs[j]?.getD noR)
theorem RowsOwn.map {W W' : World} {S S' : Nat → Prop} {xs : List Value} {rs : List RowM} (h : RowsOwn W S xs rs) (hf : ∀ (T : Nat → Prop) v n fs, FOwn W (fun k => S k ∨ T k) v n fs → FOwn W' (fun k => S' k ∨ T k) v n fs) : RowsOwn W' S' xs rs := fun j hj => by
  obtain ⟨ga, gc, aa, ac, ta, tc, e0, e1, e2, e3, f0, f1, f2⟩ := h j hj
  exact ⟨ga, gc, aa, ac, ta, tc, e0, e1, e2, e3, hf _ _ _ _ f0, hf _ _ _ _ f1, hf _ _ _ _ f2⟩
theorem RowsOwn.join {W : World} {S : Nat → Prop} {xs ys : List Value} {rs ss : List RowM} (h1 : RowsOwn W S xs rs) (h2 : RowsOwn W S ys ss) (hl : xs.length = rs.length * 4) : RowsOwn W S (xs ++ ys) (rs ++ ss) := fun j hj => by
  rw [List.length_append] at hj
  by_cases hjr : j < rs.length
  · rw [List.getElem?_append_left (l₁ := rs) hjr, List.getElem?_append_left (by omega), List.getElem?_append_left (by omega), List.getElem?_append_left (by omega), List.getElem?_append_left (by omega)]
    exact h1 j hjr
  · rw [List.getElem?_append_right (l₁ := rs) (by omega), List.getElem?_append_right (by omega), List.getElem?_append_right (by omega), List.getElem?_append_right (by omega), List.getElem?_append_right (by omega), hl]
    have := h2 (j - rs.length) (by omega)
    rw [show j * 4 - rs.length * 4 = (j - rs.length) * 4 by omega, show j * 4 + 1 - rs.length * 4 = (j - rs.length) * 4 + 1 by omega, show j * 4 + 2 - rs.length * 4 = (j - rs.length) * 4 + 2 by omega, show j * 4 + 3 - rs.length * 4 = (j - rs.length) * 4 + 3 by omega]
    exact this
/-- Rows in cells; they read on whatever becomes of the blocks of S. -/
def RowsOk (W : World) (S : Nat → Prop) (xs : List Value) (rs : List RowM) : Prop :=
  ∀ j, j < rs.length → ∃ ga gc aa ac ta tc, xs[j * 4]? = some (.slice ga (rs[j]?.getD noR).guards.length gc) ∧ xs[j * 4 + 1]? = some (.slice aa (rs[j]?.getD noR).adds.length ac) ∧ xs[j * 4 + 2]? = some (.slice ta (rs[j]?.getD noR).tells.length tc) ∧ xs[j * 4 + 3]? = some (.bool (rs[j]?.getD noR).stop) ∧
    FOff W S ga (rs[j]?.getD noR).guards ∧ FOff W S aa (rs[j]?.getD noR).adds ∧ FOff W S ta (rs[j]?.getD noR).tells
theorem RowsOk.map {W W' : World} {S S' : Nat → Prop} {xs : List Value} {rs : List RowM} (h : RowsOk W S xs rs) (hf : ∀ a fs, FOff W S a fs → FOff W' S' a fs) : RowsOk W' S' xs rs := fun j hj => by
  obtain ⟨ga, gc, aa, ac, ta, tc, e0, e1, e2, e3, f0, f1, f2⟩ := h j hj
  exact ⟨ga, gc, aa, ac, ta, tc, e0, e1, e2, e3, hf _ _ f0, hf _ _ f1, hf _ _ f2⟩
theorem RowsOk.join {W : World} {S : Nat → Prop} {xs ys : List Value} {rs ss : List RowM} (h1 : RowsOk W S xs rs) (h2 : RowsOk W S ys ss) (hl : xs.length = rs.length * 4) : RowsOk W S (xs ++ ys) (rs ++ ss) := fun j hj => by
  rw [List.length_append] at hj
  by_cases hjr : j < rs.length
  · rw [List.getElem?_append_left (l₁ := rs) hjr, List.getElem?_append_left (by omega), List.getElem?_append_left (by omega), List.getElem?_append_left (by omega), List.getElem?_append_left (by omega)]
    exact h1 j hjr
  · rw [List.getElem?_append_right (l₁ := rs) (by omega), List.getElem?_append_right (by omega), List.getElem?_append_right (by omega), List.getElem?_append_right (by omega), List.getElem?_append_right (by omega), hl]
    have := h2 (j - rs.length) (by omega)
    rw [show j * 4 - rs.length * 4 = (j - rs.length) * 4 by omega, show j * 4 + 1 - rs.length * 4 = (j - rs.length) * 4 + 1 by omega, show j * 4 + 2 - rs.length * 4 = (j - rs.length) * 4 + 2 by omega, show j * 4 + 3 - rs.length * 4 = (j - rs.length) * 4 + 3 by omega]
    exact this

/-- A slice of rows, in memory made since w. -/
structure JR (w : World) (G cap : Nat) (xs : List Value) (rs : List RowM) (W : World) : Prop where
  b : Below w.heap.size w W
  o : W.ownsRow w.heap.size 106 4 (.slice (some ⟨G, 0, none⟩) rs.length cap) rs.length xs
  r : RowsOk W (fun k => k < w.heap.size ∨ k = G) xs rs
  u : RowsOwn W (fun k => k < w.heap.size ∨ k = G) xs rs
theorem JR.below {w W W' : World} {G cap : Nat} {xs : List Value} {rs : List RowM} (j : JR w G cap xs rs W) (h : Below W.heap.size W W') : JR w G cap xs rs W' := ⟨j.b.trans (h.mono j.b.size), own_below j.o h, j.r.map (fun _ _ f => f.below h), j.u.map (fun _ _ _ _ f => f.below h)⟩
theorem JR.lt {w W : World} {G cap : Nat} {xs : List Value} {rs : List RowM} (j : JR w G cap xs rs W) : w.heap.size ≤ G ∧ G < W.heap.size := by
  rcases j.o.2 with ⟨h, _⟩ | ⟨g, cap', cur, h, hg, hh, _⟩
  · cases h
  · simp only [Value.slice.injEq, Option.some.injEq, Addr.mk.injEq, and_true, true_and] at h
    obtain ⟨rfl, _⟩ := h
    exact ⟨hg, lt_of_block hh⟩
/-- Two slices joined: the second was made behind the first. -/
theorem JR.join {w w1 W W' : World} {G cap G2 cap2 g cp n1 n2 : Nat} {xs ys : List Value} {rs ss : List RowM} (j : JR w G cap xs rs W) (j2 : JR w1 G2 cap2 ys ss W) (hb : w.heap.size ≤ w1.heap.size) (hG : G < w1.heap.size) (hn1 : rs.length = n1) (hn2 : ss.length = n2)
    (hown : W'.ownsRow w.heap.size 106 4 (.slice (some ⟨g, 0, none⟩) (n1 + n2) cp) (n1 + n2) (xs ++ ys)) (hg : W.grownBy W' (some G)) {H : Nat} (hat : some G = some g ∨ g = H) (hH : W.heap.size = H) : JR w g cp (xs ++ ys) (rs ++ ss) W' := by
  subst hn1 hn2
  have hat' : g = G ∨ W.heap.size ≤ g := by
    rcases hat with h | h
    · simp only [Option.some.injEq] at h; exact Or.inl h.symm
    · exact Or.inr (by omega)
  have r2 : RowsOk W (fun k => k < w.heap.size ∨ k = G) ys ss := j2.r.map (fun _ _ f => f.mono (fun k hk => by omega))
  have u2 : RowsOwn W (fun k => k < w.heap.size ∨ k = G) ys ss := j2.u.map (fun _ _ _ _ f => f.mono (fun k hk => by
    rcases hk with hk | hk
    · exact Or.inl (by omega)
    · exact Or.inr hk))
  refine ⟨j.b.grown hg j.b.size (fun z hz => by simp only [Option.some.injEq] at hz; have := j.lt; omega), by rw [List.length_append]; exact hown, ?_, ?_⟩
  · exact (j.r.join r2 j.o.1).map (fun _ _ f => f.grown hg hat')
  · exact (j.u.join u2 j.o.1).map (fun _ _ _ _ f => f.grown hg hat')

end Go.Proofs.YtdigmokjedckeaaGreatDoor
