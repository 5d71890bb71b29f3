/-
  Slices of lines: the size, a copy, one held against another; when an act is ok; the steps that the program makes of one. Lengths at most 1048576.
-/
import Derived.Test.YtemcinobgdphnaaLine
import Derived.Deep.AppendLies
namespace Go.Proofs.Ytemcinobgdphnaa
open Go.ChangeShapes Go.WideShapes Go.ChangeAt Go.RowKit Go.Joins Go.Deep
set_option linter.unusedVariables false
set_option maxRecDepth 100000

/-- A slice of lines. -/
def LinesG (w : World) (ad : Option Addr) (ls : List LV) : Prop :=
  ∀ i, i < ls.length → ∃ b off, ad = some ⟨b, off, none⟩ ∧ (∀ r, r < 6 → w.cell? ⟨b, off + i * 6 + r, none⟩ = (ls[i]?.getD noLV).cs[r]?) ∧ (ls[i]?.getD noLV).f.At w
theorem cells_below {w w' : World} {b o : Nat} {l : LV} (h : ∀ r, r < 6 → w.cell? ⟨b, o + r, none⟩ = l.cs[r]?) (hb : Below w.heap.size w w') : ∀ r, r < 6 → w'.cell? ⟨b, o + r, none⟩ = l.cs[r]? := fun r hr => by
  have hl : b < w.heap.size := by
    have := h 0 (by omega)
    exact block_lt (v := .int .i64 l.kind) (by rw [this]; rfl)
  rw [hb.cell (p := ⟨b, o + r, none⟩) hl]; exact h r hr
theorem LinesG.below {w w' : World} {ad : Option Addr} {ls : List LV} (h : LinesG w ad ls) (hb : Below w.heap.size w w') : LinesG w' ad ls := fun i hi => by
  obtain ⟨b, off, e, hc, ha⟩ := h i hi
  exact ⟨b, off, e, cells_below hc hb, ha.below hb⟩
theorem LinesM.below {w w' : World} {ad : Option Addr} {ls : List LV} (h : LinesM w ad ls) (hb : Below w.heap.size w w') : LinesM w' ad ls := fun i hi => by
  obtain ⟨b, off, e, hc, h1, h2, h3⟩ := h i hi
  exact ⟨b, off, e, cells_below hc hb, h1.below hb, h2.below hb, h3⟩
theorem LinesM.g {w : World} {ad : Option Addr} {ls : List LV} (h : LinesM w ad ls) (hs : ∀ i, i < ls.length → (ls[i]?.getD noLV).f.n ≤ 1048576 ∧ (ls[i]?.getD noLV).f.m ≤ 1048576) : LinesG w ad ls := fun i hi => by
  obtain ⟨b, off, e, hc, h1, h2, h3⟩ := h i hi
  exact ⟨b, off, e, hc, ⟨h1, h2, (hs i hi).1, (hs i hi).2⟩⟩
theorem six_of {w : World} {b o : Nat} {l : LV} (h : ∀ r, r < 6 → w.cell? ⟨b, o + r, none⟩ = l.cs[r]?) :
    w.cell? ⟨b, o, none⟩ = some (.int .i64 l.kind) ∧ w.cell? ⟨b, o + 1, none⟩ = some (.int .i64 l.pot) ∧ w.cell? ⟨b, o + 2, none⟩ = some (.int .i64 l.skip) ∧ w.cell? ⟨b, o + 3, none⟩ = some (.slice l.f.a l.f.n l.f.cap) ∧ w.cell? ⟨b, o + 4, none⟩ = some (.slice l.f.c l.f.m l.f.cap') ∧ w.cell? ⟨b, o + 5, none⟩ = some (.int .i64 l.f.K) :=
  ⟨h 0 (by omega), h 1 (by omega), h 2 (by omega), h 3 (by omega), h 4 (by omega), h 5 (by omega)⟩

theorem open_lineC {H : Type} {enc : TypeId × Value → H} {W : World} {fuel : Nat} {cs : List Value} {x : DataW H × List MemPlace}
    (hf : DataW.trod enc Try.prog W 0 (fun _ => true) true fuel 51 cs = some x) :
    ∃ l : LV, cs = l.cs ∧ Ints W l.f.a l.f.n l.f.C ∧ Ints W l.f.c l.f.m l.f.D ∧ l.f.n ≤ maxLen ∧ l.f.m ≤ maxLen := by
  obtain ⟨y0, y1, y2, y3, n, _, hl, h0, h1, h2, h3⟩ := trod_struct4 Try.underlying51 hf
  have hl' : cs.length = 6 := hl.trans (by kernel_rfl)
  match cs, hl' with
  | [c0, c1, c2, c3, c4, c5], _ =>
    have k3 : Try.prog.cellsOf 3 = 1 := by kernel_rfl
    have k57 : Try.prog.cellsOf 34 = 3 := by kernel_rfl
    simp only [k3, k57, List.drop_zero, List.drop_succ_cons, List.take_succ_cons, List.take_zero] at h0 h1 h2 h3
    obtain ⟨a0, rfl, _⟩ := open_num h0
    obtain ⟨a1, rfl, _⟩ := open_num h1
    obtain ⟨a2, rfl, _⟩ := open_num h2
    obtain ⟨f, e, hf'⟩ := open_formC h3
    simp only [FV.cs, List.cons.injEq, and_true] at e
    obtain ⟨rfl, rfl, rfl⟩ := e
    exact ⟨⟨a0, a1, a2, f⟩, rfl, hf'⟩

theorem open_linesC {H : Type} {enc : TypeId × Value → H} {W : World} {fuel : Nat} {v : Value} {y : DataW H × List MemPlace}
    (hf : DataW.trod enc Try.prog W 0 (fun _ => true) true fuel 52 [v] = some y) :
    ∃ ad N cap ls, v = .slice ad N cap ∧ ls.length = N ∧ LinesM W ad ls ∧ N ≤ maxLen := by
  obtain ⟨ad, N, cap, fs, hv, hl, hN, hall⟩ := open_sliceC noLV LV.cs (fun l => Ints W l.f.a l.f.n l.f.C ∧ Ints W l.f.c l.f.m l.f.D ∧ l.f.n ≤ maxLen ∧ l.f.m ≤ maxLen) (c := 6) (by omega) Try.underlying52 (by kernel_rfl) (fun _ => rfl) (fun fuel cs x hx => open_lineC hx) hf
  exact ⟨ad, N, cap, fs, hv, hl, hall, hN⟩
theorem open_lines {H : Type} {enc : TypeId × Value → H} {W : World} {r : Reach} {b0 : Nat} {v : Value} {d : DataW H} {p : List MemPlace}
    (hv : Value.okWide Try.prog W r b0 52 v) (h : DataW.Trod enc Try.prog W 0 (fun _ => true) true 52 v d p) :
    ∃ ad N cap ls, v = .slice ad N cap ∧ ls.length = N ∧ LinesM W ad ls ∧ N ≤ maxLen := by
  obtain ⟨a0, len0, cap0, rfl⟩ := okWide_slice Try.underlying52 hv
  obtain ⟨fuel, hf⟩ := h
  exact open_linesC (by simpa [Value.cells] using hf)

/-- Six cells set in a row. -/
def six (vs : List Value) (o : Nat) (x0 x1 x2 x3 x4 x5 : Value) : List Value := (((((vs.set o x0).set (o + 1) x1).set (o + 2) x2).set (o + 3) x3).set (o + 4) x4).set (o + 5) x5
theorem six_len (vs : List Value) (o : Nat) (x0 x1 x2 x3 x4 x5 : Value) : (six vs o x0 x1 x2 x3 x4 x5).length = vs.length := by simp [six]
theorem six_ne (vs : List Value) (o : Nat) (x0 x1 x2 x3 x4 x5 : Value) (j : Nat) (h : j < o ∨ o + 6 ≤ j) : (six vs o x0 x1 x2 x3 x4 x5)[j]? = vs[j]? := by
  unfold six
  rw [List.getElem?_set_ne (by omega), List.getElem?_set_ne (by omega), List.getElem?_set_ne (by omega), List.getElem?_set_ne (by omega), List.getElem?_set_ne (by omega), List.getElem?_set_ne (by omega)]
theorem six_at (vs : List Value) (o : Nat) (x0 x1 x2 x3 x4 x5 : Value) (h : o + 6 ≤ vs.length) (r : Nat) (hr : r < 6) : (six vs o x0 x1 x2 x3 x4 x5)[o + r]? = [x0, x1, x2, x3, x4, x5][r]? := by
  have hcase : r = 0 ∨ r = 1 ∨ r = 2 ∨ r = 3 ∨ r = 4 ∨ r = 5 := by omega
  unfold six
  rcases hcase with rfl | rfl | rfl | rfl | rfl | rfl
  · simp only [Nat.add_zero]
    rw [List.getElem?_set_ne (by omega), List.getElem?_set_ne (by omega), List.getElem?_set_ne (by omega), List.getElem?_set_ne (by omega), List.getElem?_set_ne (by omega), List.getElem?_set_self (by omega)]; rfl
  · rw [List.getElem?_set_ne (by omega), List.getElem?_set_ne (by omega), List.getElem?_set_ne (by omega), List.getElem?_set_ne (by omega), List.getElem?_set_self (by simp; omega)]; rfl
  · rw [List.getElem?_set_ne (by omega), List.getElem?_set_ne (by omega), List.getElem?_set_ne (by omega), List.getElem?_set_self (by simp; omega)]; rfl
  · rw [List.getElem?_set_ne (by omega), List.getElem?_set_ne (by omega), List.getElem?_set_self (by simp; omega)]; rfl
  · rw [List.getElem?_set_ne (by omega), List.getElem?_set_self (by simp; omega)]; rfl
  · rw [List.getElem?_set_self (by simp; omega)]; rfl

/-- Block B holds N lines, of which those of gs have been laid; their lists lie in blocks p i and q i, each behind those ahead of it, from lo on. -/
structure ML (W : World) (B lo N : Nat) (gs : List LV) (p q : Nat → Nat) : Prop where
  c : ∃ vs : List Value, W.heap[B]? = some (.cells vs.toArray 51 (0, 0)) ∧ vs.length = N * 6 ∧ ∀ i, i < gs.length → ∀ r, r < 6 → vs[i * 6 + r]? = (gs[i]?.getD noLV).cs[r]?
  l : ∀ i, i < gs.length → (gs[i]?.getD noLV).f.a = some ⟨p i, 0, none⟩ ∧ (gs[i]?.getD noLV).f.c = some ⟨q i, 0, none⟩ ∧ Blk W (p i) (gs[i]?.getD noLV).f.C ∧ Blk W (q i) (gs[i]?.getD noLV).f.D ∧ (gs[i]?.getD noLV).f.C.length = (gs[i]?.getD noLV).f.n ∧ (gs[i]?.getD noLV).f.D.length = (gs[i]?.getD noLV).f.m ∧ (gs[i]?.getD noLV).f.n ≤ 1048576 ∧ (gs[i]?.getD noLV).f.m ≤ 1048576 ∧ lo ≤ p i ∧ p i < q i ∧ q i < W.heap.size ∧ ∀ j, j < i → q j < p i
  b : B < lo
  s : lo ≤ W.heap.size
theorem ML.lt {W : World} {B lo N : Nat} {gs : List LV} {p q : Nat → Nat} (h : ML W B lo N gs p q) : B < W.heap.size := by
  obtain ⟨vs, h1, _⟩ := h.c
  exact lt_of_block h1
theorem ML.below {W W' : World} {B lo N : Nat} {gs : List LV} {p q : Nat → Nat} (h : ML W B lo N gs p q) (b : Below W.heap.size W W') : ML W' B lo N gs p q := by
  obtain ⟨vs, h1, h2, h3⟩ := h.c
  refine ⟨⟨vs, by rw [b.block B (lt_of_block h1)]; exact h1, h2, h3⟩, fun i hi => ?_, h.b, Nat.le_trans h.s b.size⟩
  obtain ⟨a2, a3, a4, a5, a6, a7, a8, a9, a10, a11, a12, a13⟩ := h.l i hi
  have := b.size
  exact ⟨a2, a3, a4.below b, a5.below b, a6, a7, a8, a9, a10, a11, by omega, a13⟩
theorem ML.g {W : World} {B lo N : Nat} {gs : List LV} {p q : Nat → Nat} (h : ML W B lo N gs p q) : LinesG W (some ⟨B, 0, none⟩) gs := by
  intro i hi
  obtain ⟨vs, h1, h2, h3⟩ := h.c
  obtain ⟨a2, a3, a4, a5, a6, a7, a8, a9, _⟩ := h.l i hi
  refine ⟨B, 0, rfl, fun r hr => ?_, ⟨?_, ?_, a8, a9⟩⟩
  · rw [Nat.zero_add, ← h3 i hi r hr]
    simp [World.cell?, h1]
  · rw [a2, ← a6]; exact a4.ints
  · rw [a3, ← a7]; exact a5.ints

/-- One line more is laid. -/
theorem ML.step {W W1 : World} {B lo N k P Q : Nat} {gs : List LV} {p q : Nat → Nat} {kind pot skip : Int} {C D : List Int} {n m : Nat} {K : Int} (h : ML W B lo N gs p q) (hk : gs.length = k) (hkN : k < N) (b : Below W.heap.size W W1) (hP : W.heap.size ≤ P) (hPQ : P < Q) (k1 : Blk W1 P C) (k2 : Blk W1 Q D) (hC : C.length = n) (hD : D.length = m) (hn : n ≤ 1048576) (hm : m ≤ 1048576) :
    ML ((((((W1.setCell ⟨B, k * 6, none⟩ (.int .i64 kind)).setCell ⟨B, k * 6 + 1, none⟩ (.int .i64 pot)).setCell ⟨B, k * 6 + 2, none⟩ (.int .i64 skip)).setCell ⟨B, k * 6 + 3, none⟩ (.slice (some ⟨P, 0, none⟩) n n)).setCell ⟨B, k * 6 + 4, none⟩ (.slice (some ⟨Q, 0, none⟩) m m)).setCell ⟨B, k * 6 + 5, none⟩ (.int .i64 K)) B lo N (gs ++ [⟨kind, pot, skip, ⟨some ⟨P, 0, none⟩, n, n, some ⟨Q, 0, none⟩, m, m, K, C, D⟩⟩]) (fun i => if i = k then P else p i) (fun i => if i = k then Q else q i) := by
  have hB := h.lt
  have hb := h.b
  have hs := h.s
  have h' := h.below b
  obtain ⟨vs, v1, v2, v3⟩ := h'.c
  have kP : P ≠ B := by omega
  have kQ : Q ≠ B := by omega
  have lP := k1.lt
  have lQ := k2.lt
  refine ⟨⟨six vs (k * 6) (.int .i64 kind) (.int .i64 pot) (.int .i64 skip) (.slice (some ⟨P, 0, none⟩) n n) (.slice (some ⟨Q, 0, none⟩) m m) (.int .i64 K), ?_, by rw [six_len]; exact v2, fun i hi r hr => ?_⟩, fun i hi => ?_, h.b, ?_⟩
  · have c0 : Cel W1 B vs 51 := v1
    exact ((((((c0.set _ _).set _ _).set _ _).set _ _).set _ _).set _ _)
  · rw [List.length_append, hk] at hi
    simp only [List.length_cons, List.length_nil] at hi
    by_cases e : i = k
    · subst e
      rw [six_at _ _ _ _ _ _ _ _ (by rw [v2]; omega) r hr, List.getElem?_append_right (by omega), hk]
      simp [LV.cs]
    · rw [six_ne _ _ _ _ _ _ _ _ _ (by omega), List.getElem?_append_left (by omega)]
      exact v3 i (by omega) r hr
  · rw [List.length_append, hk] at hi
    simp only [List.length_cons, List.length_nil] at hi
    have hsz : ((((((W1.setCell ⟨B, k * 6, none⟩ (.int .i64 kind)).setCell ⟨B, k * 6 + 1, none⟩ (.int .i64 pot)).setCell ⟨B, k * 6 + 2, none⟩ (.int .i64 skip)).setCell ⟨B, k * 6 + 3, none⟩ (.slice (some ⟨P, 0, none⟩) n n)).setCell ⟨B, k * 6 + 4, none⟩ (.slice (some ⟨Q, 0, none⟩) m m)).setCell ⟨B, k * 6 + 5, none⟩ (.int .i64 K)).heap.size = W1.heap.size := by rw [size_setCell, size_setCell, size_setCell, size_setCell, size_setCell, size_setCell]
    rw [hsz]
    by_cases e : i = k
    · subst e
      rw [List.getElem?_append_right (by omega), hk]
      simp only [Nat.sub_self, List.getElem?_cons_zero, Option.getD_some, if_true]
      refine ⟨trivial, trivial, ?_, ?_, hC, hD, hn, hm, by omega, hPQ, lQ, fun j hj => ?_⟩
      · exact (((((k1.setOther kP _ _).setOther kP _ _).setOther kP _ _).setOther kP _ _).setOther kP _ _).setOther kP _ _
      · exact (((((k2.setOther kQ _ _).setOther kQ _ _).setOther kQ _ _).setOther kQ _ _).setOther kQ _ _).setOther kQ _ _
      · rw [if_neg (by omega)]
        obtain ⟨a2, a3, a4, a5, a6, a7, a8, a9, a10, a11, a12, a13⟩ := h.l j (by omega)
        omega
    · rw [List.getElem?_append_left (by omega), if_neg e, if_neg e]
      obtain ⟨a2, a3, a4, a5, a6, a7, a8, a9, a10, a11, a12, a13⟩ := h'.l i (by omega)
      have e1 : p i ≠ B := by omega
      have e2 : q i ≠ B := by omega
      refine ⟨a2, a3, ?_, ?_, a6, a7, a8, a9, a10, a11, a12, fun j hj => ?_⟩
      · exact (((((a4.setOther e1 _ _).setOther e1 _ _).setOther e1 _ _).setOther e1 _ _).setOther e1 _ _).setOther e1 _ _
      · exact (((((a5.setOther e2 _ _).setOther e2 _ _).setOther e2 _ _).setOther e2 _ _).setOther e2 _ _).setOther e2 _ _
      · rw [if_neg (by omega)]; exact a13 j hj
  · rw [size_setCell, size_setCell, size_setCell, size_setCell, size_setCell, size_setCell]; exact h'.s

/-- One list of lines holds what the other does. -/
def copiesL (ls gs : List LV) : Prop := ∀ i, i < gs.length → (gs[i]?.getD noLV).kind = (ls[i]?.getD noLV).kind ∧ (gs[i]?.getD noLV).pot = (ls[i]?.getD noLV).pot ∧ (gs[i]?.getD noLV).skip = (ls[i]?.getD noLV).skip ∧ (gs[i]?.getD noLV).f.C = (ls[i]?.getD noLV).f.C ∧ (gs[i]?.getD noLV).f.D = (ls[i]?.getD noLV).f.D ∧ (gs[i]?.getD noLV).f.K = (ls[i]?.getD noLV).f.K ∧ (gs[i]?.getD noLV).f.n = (ls[i]?.getD noLV).f.n ∧ (gs[i]?.getD noLV).f.m = (ls[i]?.getD noLV).f.m

theorem Try.infoLine : (Try.prog.info? 51).map (fun i => (i.zero, i.size, i.bytes)) = some (some (.agg #[.int .i64 0, .int .i64 0, .int .i64 0, .slice none 0 0, .slice none 0 0, .int .i64 0]), 6, 80) := by kernel_rfl

/-- Two lines are the same. -/
def sameL (f g : LV) : Prop := f.kind = g.kind ∧ f.pot = g.pot ∧ f.skip = g.skip ∧ eqF f.f.C f.f.D f.f.K g.f.C g.f.D g.f.K = true

end Go.Proofs.Ytemcinobgdphnaa
