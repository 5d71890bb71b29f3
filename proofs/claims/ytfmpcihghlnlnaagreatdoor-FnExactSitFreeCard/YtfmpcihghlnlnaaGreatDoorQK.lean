/-
  Slices of lines: the size, a copy, one held against another; when an act is ok; the steps that the program makes of one. Lengths at most 1048576.
-/
import Derived.Test.YtfmpcihghlnlnaaGreatDoorQJ
namespace Go.Proofs.YtfmpcihghlnlnaaGreatDoor
open Go.ChangeShapes Go.WideShapes Go.ChangeAt Go.RowKit Go.Joins Go.Deep
open List renaming getElem?_set_ne → qA, length_append → qB, getElem?_append_right → qC, getElem?_append_left → qD, getElem?_set_self → qE, length_cons → qF, length_nil → qG
open Nat renaming le_refl → qH, zero_le → qI
set_option linter.unusedVariables false
set_option maxRecDepth 100000
set_option maxHeartbeats 25600000
variable {B N lo o : Nat} {W w w' : World} {ad : Option Addr} {gs ls : List LV} {p q : Nat -> Nat}
def LinesG (w : World) (ad : Option Addr) (ls : List LV) : Prop :=
 ∀ i, i < ls.length -> ∃ b off, ad = some ⟨b, off, none⟩ /\ (∀ r, r < 6 -> w.cell? ⟨b, off + i * 6 + r, none⟩ = (ls[i]?.getD noLV).cs[r]?) /\ (ls[i]?.getD noLV).f.At w
theorem cells_below {b : Nat} {l : LV} (h : ∀ r, r < 6 -> w.cell? ⟨b, o + r, none⟩ = l.cs[r]?) (hb : Below w.heap.size w w') : ∀ r, r < 6 -> w'.cell? ⟨b, o + r, none⟩ = l.cs[r]? := fun r hr => by
 have hl : b < w.heap.size := by
  have := h 0 (by omega)
  exact block_lt (v := .int .i64 l.kind) (by rw [this]; rfl)
 rw [hb.cell (p := ⟨b, o + r, none⟩) hl]; exact h r hr
theorem LinesG.below (h : LinesG w ad ls) (hb : Below w.heap.size w w') : LinesG w' ad ls := fun i hi => by
 obtain ⟨b, off, e, hc, ha⟩ := h i hi
 exact ⟨b, off, e, cells_below hc hb, ha.below hb⟩
theorem LinesM.below (h : LinesM w ad ls) (hb : Below w.heap.size w w') : LinesM w' ad ls := fun i hi => by
 obtain ⟨b, off, e, hc, h1, h2, h3⟩ := h i hi
 exact ⟨b, off, e, cells_below hc hb, h1.below hb, h2.below hb, h3⟩
theorem LinesM.g (h : LinesM w ad ls) (hs : ∀ i, i < ls.length -> (ls[i]?.getD noLV).f.n <= 1048576 /\ (ls[i]?.getD noLV).f.m <= 1048576) : LinesG w ad ls := fun i hi => by
 obtain ⟨b, off, e, hc, h1, h2, h3⟩ := h i hi
 exact ⟨b, off, e, hc, ⟨h1, h2, (hs i hi).1, (hs i hi).2⟩⟩
theorem six_of {b : Nat} {l : LV} (h : ∀ r, r < 6 -> w.cell? ⟨b, o + r, none⟩ = l.cs[r]?) :
  w.cell? ⟨b, o, none⟩ = some (.int .i64 l.kind) /\ w.cell? ⟨b, o + 1, none⟩ = some (.int .i64 l.pot) /\ w.cell? ⟨b, o + 2, none⟩ = some (.int .i64 l.skip) /\ w.cell? ⟨b, o + 3, none⟩ = some (.slice l.f.a l.f.n l.f.cap) /\ w.cell? ⟨b, o + 4, none⟩ = some (.slice l.f.c l.f.m l.f.cap') /\ w.cell? ⟨b, o + 5, none⟩ = some (.int .i64 l.f.K) :=
 ⟨h 0 (by omega), h 1 (by omega), h 2 (by omega), h 3 (by omega), h 4 (by omega), h 5 (by omega)⟩
theorem open_lineC {H : Type} {enc : TypeId × Value -> H} {fuel : Nat} {cs : List Value} {x : DataW H × List MemPlace}
  (hf : DataW.trod enc Tryz.prog W 0 (fun _ => true) true fuel 102 cs = some x) :
  ∃ l : LV, cs = l.cs /\ Ints W l.f.a l.f.n l.f.C /\ Ints W l.f.c l.f.m l.f.D /\ l.f.n <= maxLen /\ l.f.m <= maxLen := by
 obtain ⟨y0, y1, y2, y3, n, _, hl, h0, h1, h2, h3⟩ := trod_struct4 Tryz.underlying102 hf;have hl' : cs.length = 6 := hl.trans (by kernel_rfl)
 match cs, hl' with
 | [c0, c1, c2, c3, c4, c5], _ =>
  have k3 : Tryz.prog.cellsOf 3 = 1 := by kernel_rfl
  have k57 : Tryz.prog.cellsOf 100 = 3 := by kernel_rfl
  simp only [k3, k57, List.drop_zero, List.drop_succ_cons, List.take_succ_cons, List.take_zero] at h0 h1 h2 h3;obtain ⟨a0, rfl, _⟩ := open_num h0;obtain ⟨a1, rfl, _⟩ := open_num h1;obtain ⟨a2, rfl, _⟩ := open_num h2;obtain ⟨f, e, hf'⟩ := open_formC h3;simp only [FV.cs, List.cons.injEq, and_true] at e;obtain ⟨rfl, rfl, rfl⟩ := e
  exact ⟨⟨a0, a1, a2, f⟩, rfl, hf'⟩
theorem open_linesC {H : Type} {enc : TypeId × Value -> H} {fuel : Nat} {v : Value} {y : DataW H × List MemPlace}
  (hf : DataW.trod enc Tryz.prog W 0 (fun _ => true) true fuel 69 [v] = some y) :
  ∃ ad N cap ls, v = .slice ad N cap /\ ls.length = N /\ LinesM W ad ls /\ N <= maxLen := by
 obtain ⟨ad, N, cap, fs, hv, hl, hN, hall⟩ := open_sliceC noLV LV.cs (fun l => Ints W l.f.a l.f.n l.f.C /\ Ints W l.f.c l.f.m l.f.D /\ l.f.n <= maxLen /\ l.f.m <= maxLen) (c := 6) (by omega) Tryz.underlying69 (by kernel_rfl) (fun _ => rfl) (fun fuel cs x hx => open_lineC hx) hf
 exact ⟨ad, N, cap, fs, hv, hl, hall, hN⟩
theorem szLS_any (ad : Option Addr) (N cap : Nat) (ls : List LV) (l : Int) (w : World) (hN : ls.length = N) (hF : LinesM w ad ls) (hN1 : N <= maxLen) (h0 : 0 <= l) (hl : l <= 1048576) :
  Calls Tryz.prog 31 #[.slice ad N cap, .int .i64 l] w fun e w' => ∃ r, e = .returned (.int .i64 r) /\ -1 <= r /\ r <= 1048576 /\ (0 <= r -> N <= 1048576 /\ ∀ i, i < ls.length -> (ls[i]?.getD noLV).f.n <= 1048576 /\ (ls[i]?.getD noLV).f.m <= 1048576) /\ Below w.heap.size w w' := by
 have HN : Hid (ls.length = N) := hN;clear hN;unfold maxLen at hN1
 by_cases h : l < N
 ·go_enter Tryz.func31, Tryz.ntmps31
  go_wp2
  go_ret
  exact ⟨-1, rfl, by omega, by omega, fun h => by omega, Below.refl _ _⟩
 have hN2 : N <= 1048576 := by omega
 have h' : (N : Int) <= l := by omega
 go_enter Tryz.func31, Tryz.ntmps31
 go_wp2_with fail
 go_loopw [1, 5] (fun lv i wr => ∃ k : Nat, k <= N /\ i = .int .i64 k /\ ∃ x : Int, lv = .int .i64 x /\ 0 <= x /\ x <= 1048576 /\ Below w.heap.size w wr /\ ∀ i, i < k -> (ls[i]?.getD noLV).f.n <= 1048576 /\ (ls[i]?.getD noLV).f.m <= 1048576) (fun _ i _ => N - (intOf i).toNat)
 case atStart => exact ⟨0, qI _, rfl, _, rfl, by omega, by omega, Below.refl _ _, fun i hi => by omega⟩
 case round =>
  obtain ⟨k, hk, rfl, x, rfl, hx0, hx1, hb, hall⟩ := hrel;have HA : Hid _ := hall;clear hall
  by_cases hlt : k < N
  ·obtain ⟨b, off, rfl, hc, h1, h2, h3, h4⟩ := (hF.below hb) k (by rw [HN.out]; exact hlt);generalize HG : ls[k]?.getD noLV = g at *;have HG' : Hid (ls[k]?.getD noLV = g) := HG;clear HG hF;obtain ⟨e0, e1, e2, e3, e4, e5⟩ := six_of hc;obtain ⟨gk, gp, gs, ⟨ga, gn, gcap, gc, gm, gcap', gK, gC, gD⟩⟩ := g;simp only at e0 e1 e2 e3 e4 e5 h3 h4;clear hc h1 h2;have g2 := leftOf_ge (leftOf x gn) gm
   by_cases hz : leftOf (leftOf x gn) gm < 0
   ·go_wp2_with fail
    refine (szL_any h3 h4 hx0 hx1).mono ?_;rintro e w1 ⟨rfl, b1⟩
    go_wp2
    go_ret
    exact ⟨-1, rfl, by omega, by omega, fun h => by omega, btr hb b1⟩
   have l2 := leftOf_le (l := leftOf x gn) (n := gm) (by omega);have l1 := leftOf_le (l := x) (n := gn) (by omega);have hz0 : 0 <= leftOf (leftOf x gn) gm := by omega
   have hz1 : leftOf (leftOf x gn) gm <= 1048576 := by omega
   have q1 : gn <= 1048576 := by omega
   have q2 : gm <= 1048576 := by omega
   have HA2 : Hid (∀ i, i < k + 1 -> (ls[i]?.getD noLV).f.n <= 1048576 /\ (ls[i]?.getD noLV).f.m <= 1048576) := fun i hi => by
    by_cases hik : i < k
    ·exact HA.out i hik
    obtain rfl : i = k := by omega
    rw [HG'.out]; exact ⟨q1, q2⟩
   clear l1 l2 hz
   go_wp2_with fail
   refine (szL_any h3 h4 hx0 hx1).mono ?_;rintro e w1 ⟨rfl, b1⟩
   go_wp2
   go_roundw
   case rel => exact ⟨k + 1, by omega, by go_num, _, rfl, hz0, hz1, btr hb b1, HA2.out⟩
   case measure => simp [intOf]; omega
  obtain rfl : k = N := by omega
  go_wp2
  go_ret
  exact ⟨x, rfl, by omega, by omega, fun _ => ⟨hN2, fun i hi => HA.out i (by rw [<- HN.out]; exact hi)⟩, hb⟩
def six (vs : List Value) (o : Nat) (x0 x1 x2 x3 x4 x5 : Value) : List Value := (((((vs.set o x0).set (o + 1) x1).set (o + 2) x2).set (o + 3) x3).set (o + 4) x4).set (o + 5) x5
theorem six_len (vs : List Value) (o : Nat) (x0 x1 x2 x3 x4 x5 : Value) : (six vs o x0 x1 x2 x3 x4 x5).length = vs.length := by simp [six]
theorem six_ne {vs : List Value} {x0 x1 x2 x3 x4 x5 : Value} {j : Nat} (h : j < o \/ o + 6 <= j) : (six vs o x0 x1 x2 x3 x4 x5)[j]? = vs[j]? := by
 unfold six;rw [qA (by omega), qA (by omega), qA (by omega), qA (by omega), qA (by omega), qA (by omega)]
theorem six_at {vs : List Value} {x0 x1 x2 x3 x4 x5 : Value} (h : o + 6 <= vs.length) (r : Nat) (hr : r < 6) : (six vs o x0 x1 x2 x3 x4 x5)[o + r]? = [x0, x1, x2, x3, x4, x5][r]? := by
 have hcase : r = 0 \/ r = 1 \/ r = 2 \/ r = 3 \/ r = 4 \/ r = 5 := by omega
 unfold six
 rcases hcase with rfl | rfl | rfl | rfl | rfl | rfl
 ·simp only [Nat.add_zero];rw [qA (by omega), qA (by omega), qA (by omega), qA (by omega), qA (by omega), qE (by omega)]; rfl
 ·rw [qA (by omega), qA (by omega), qA (by omega), qA (by omega), qE (by simp; omega)]; rfl
 ·rw [qA (by omega), qA (by omega), qA (by omega), qE (by simp; omega)]; rfl
 ·rw [qA (by omega), qA (by omega), qE (by simp; omega)]; rfl
 ·rw [qA (by omega), qE (by simp; omega)]; rfl
 rw [qE (by simp; omega)]; rfl
structure ML (W : World) (B lo N : Nat) (gs : List LV) (p q : Nat -> Nat) : Prop where
 c : ∃ vs : List Value, W.heap[B]? = some (.cells vs.toArray 123 (0, 0)) /\ vs.length = N * 6 /\ ∀ i, i < gs.length -> ∀ r, r < 6 -> vs[i * 6 + r]? = (gs[i]?.getD noLV).cs[r]?
 l : ∀ i, i < gs.length -> (gs[i]?.getD noLV).f.a = some ⟨p i, 0, none⟩ /\ (gs[i]?.getD noLV).f.c = some ⟨q i, 0, none⟩ /\ Blk W (p i) (gs[i]?.getD noLV).f.C /\ Blk W (q i) (gs[i]?.getD noLV).f.D /\ (gs[i]?.getD noLV).f.C.length = (gs[i]?.getD noLV).f.n /\ (gs[i]?.getD noLV).f.D.length = (gs[i]?.getD noLV).f.m /\ (gs[i]?.getD noLV).f.n <= 1048576 /\ (gs[i]?.getD noLV).f.m <= 1048576 /\ lo <= p i /\ p i < q i /\ q i < W.heap.size /\ ∀ j, j < i -> q j < p i
 b : B < lo
 s : lo <= W.heap.size
theorem ML.lt (h : ML W B lo N gs p q) : B < W.heap.size := by
 obtain ⟨vs, h1, _⟩ := h.c
 exact lt_of_block h1
theorem ML.below {W' : World} (h : ML W B lo N gs p q) (b : Below W.heap.size W W') : ML W' B lo N gs p q := by
 obtain ⟨vs, h1, h2, h3⟩ := h.c;refine ⟨⟨vs, by rw [b.block B (lt_of_block h1)]; exact h1, h2, h3⟩, fun i hi => ?_, h.b, Nat.le_trans h.s b.size⟩;obtain ⟨a2, a3, a4, a5, a6, a7, a8, a9, a10, a11, a12, a13⟩ := h.l i hi;have := b.size
 exact ⟨a2, a3, a4.below b, a5.below b, a6, a7, a8, a9, a10, a11, by omega, a13⟩
theorem ML.g (h : ML W B lo N gs p q) : LinesG W (some ⟨B, 0, none⟩) gs := by
 intro i hi;obtain ⟨vs, h1, h2, h3⟩ := h.c;obtain ⟨a2, a3, a4, a5, a6, a7, a8, a9, _⟩ := h.l i hi;refine ⟨B, 0, rfl, fun r hr => ?_, ⟨?_, ?_, a8, a9⟩⟩
 ·rw [Nat.zero_add, <- h3 i hi r hr];simp [World.cell?, h1]
 ·rw [a2, <- a6]; exact a4.ints
 rw [a3, <- a7]; exact a5.ints
theorem ML.step {W1 : World} {k P Q : Nat} {kind pot skip : Int} {C D : List Int} {n m : Nat} {K : Int} (h : ML W B lo N gs p q) (hk : gs.length = k) (hkN : k < N) (b : Below W.heap.size W W1) (hP : W.heap.size <= P) (hPQ : P < Q) (k1 : Blk W1 P C) (k2 : Blk W1 Q D) (hC : C.length = n) (hD : D.length = m) (hn : n <= 1048576) (hm : m <= 1048576) :
  ML ((((((W1.setCell ⟨B, k * 6, none⟩ (.int .i64 kind)).setCell ⟨B, k * 6 + 1, none⟩ (.int .i64 pot)).setCell ⟨B, k * 6 + 2, none⟩ (.int .i64 skip)).setCell ⟨B, k * 6 + 3, none⟩ (.slice (some ⟨P, 0, none⟩) n n)).setCell ⟨B, k * 6 + 4, none⟩ (.slice (some ⟨Q, 0, none⟩) m m)).setCell ⟨B, k * 6 + 5, none⟩ (.int .i64 K)) B lo N (gs ++ [⟨kind, pot, skip, ⟨some ⟨P, 0, none⟩, n, n, some ⟨Q, 0, none⟩, m, m, K, C, D⟩⟩]) (fun i => if i = k then P else p i) (fun i => if i = k then Q else q i) := by
 have hB := h.lt;have hb := h.b;have hs := h.s;have h' := h.below b;obtain ⟨vs, v1, v2, v3⟩ := h'.c;have kP : P ≠ B := by omega
 have kQ : Q ≠ B := by omega
 have lP := k1.lt;have lQ := k2.lt;refine ⟨⟨six vs (k * 6) (.int .i64 kind) (.int .i64 pot) (.int .i64 skip) (.slice (some ⟨P, 0, none⟩) n n) (.slice (some ⟨Q, 0, none⟩) m m) (.int .i64 K), ?_, by rw [six_len]; exact v2, fun i hi r hr => ?_⟩, fun i hi => ?_, h.b, ?_⟩
 ·have c0 : Cel W1 B vs 123 := v1
  exact ((((((c0.set _ _).set _ _).set _ _).set _ _).set _ _).set _ _)
 ·rw [qB, hk] at hi;simp only [qF, qG] at hi
  by_cases e : i = k
  ·subst e;rw [six_at (by rw [v2]; omega) r hr, qC (by omega), hk];simp [LV.cs]
  rw [six_ne (by omega), qD (by omega)]
  exact v3 i (by omega) r hr
 ·rw [qB, hk] at hi;simp only [qF, qG] at hi;have hsz : ((((((W1.setCell ⟨B, k * 6, none⟩ (.int .i64 kind)).setCell ⟨B, k * 6 + 1, none⟩ (.int .i64 pot)).setCell ⟨B, k * 6 + 2, none⟩ (.int .i64 skip)).setCell ⟨B, k * 6 + 3, none⟩ (.slice (some ⟨P, 0, none⟩) n n)).setCell ⟨B, k * 6 + 4, none⟩ (.slice (some ⟨Q, 0, none⟩) m m)).setCell ⟨B, k * 6 + 5, none⟩ (.int .i64 K)).heap.size = W1.heap.size := by rw [size_setCell, size_setCell, size_setCell, size_setCell, size_setCell, size_setCell]
  rw [hsz]
  by_cases e : i = k
  ·subst e;rw [qC (by omega), hk];simp only [Nat.sub_self, List.getElem?_cons_zero, Option.getD_some, if_true];refine ⟨trivial, trivial, ?_, ?_, hC, hD, hn, hm, by omega, hPQ, lQ, fun j hj => ?_⟩
   ·exact (((((k1.setOther kP _ _).setOther kP _ _).setOther kP _ _).setOther kP _ _).setOther kP _ _).setOther kP _ _
   ·exact (((((k2.setOther kQ _ _).setOther kQ _ _).setOther kQ _ _).setOther kQ _ _).setOther kQ _ _).setOther kQ _ _
   rw [if_neg (by omega)];obtain ⟨a2, a3, a4, a5, a6, a7, a8, a9, a10, a11, a12, a13⟩ := h.l j (by omega)
   omega
  rw [qD (by omega), if_neg e, if_neg e];obtain ⟨a2, a3, a4, a5, a6, a7, a8, a9, a10, a11, a12, a13⟩ := h'.l i (by omega);have e1 : p i ≠ B := by omega
  have e2 : q i ≠ B := by omega
  refine ⟨a2, a3, ?_, ?_, a6, a7, a8, a9, a10, a11, a12, fun j hj => ?_⟩
  ·exact (((((a4.setOther e1 _ _).setOther e1 _ _).setOther e1 _ _).setOther e1 _ _).setOther e1 _ _).setOther e1 _ _
  ·exact (((((a5.setOther e2 _ _).setOther e2 _ _).setOther e2 _ _).setOther e2 _ _).setOther e2 _ _).setOther e2 _ _
  rw [if_neg (by omega)]; exact a13 j hj
 rw [size_setCell, size_setCell, size_setCell, size_setCell, size_setCell, size_setCell]; exact h'.s
def copiesL (ls gs : List LV) : Prop := ∀ i, i < gs.length -> (gs[i]?.getD noLV).kind = (ls[i]?.getD noLV).kind /\ (gs[i]?.getD noLV).pot = (ls[i]?.getD noLV).pot /\ (gs[i]?.getD noLV).skip = (ls[i]?.getD noLV).skip /\ (gs[i]?.getD noLV).f.C = (ls[i]?.getD noLV).f.C /\ (gs[i]?.getD noLV).f.D = (ls[i]?.getD noLV).f.D /\ (gs[i]?.getD noLV).f.K = (ls[i]?.getD noLV).f.K /\ (gs[i]?.getD noLV).f.n = (ls[i]?.getD noLV).f.n /\ (gs[i]?.getD noLV).f.m = (ls[i]?.getD noLV).f.m
theorem Tryz.infoLine : (Tryz.prog.info? 123).map (fun i => (i.zero, i.size, i.bytes)) = some (some (.agg #[.int .i64 0, .int .i64 0, .int .i64 0, .slice none 0 0, .slice none 0 0, .int .i64 0]), 6, 80) := by kernel_rfl
theorem toLS_any (ad : Option Addr) (N cap : Nat) (ls : List LV) (w : World) (hN : ls.length = N) (hF : LinesG w ad ls) (hN1 : N <= 1048576) :
  Calls Tryz.prog 43 #[.slice ad N cap] w fun e w' => ∃ gs p q, e = .returned (.slice (some ⟨w.heap.size, 0, none⟩) N N) /\ gs.length = N /\ copiesL ls gs /\ Below w.heap.size w w' /\ ML w' w.heap.size (w.heap.size + 1) N gs p q := by
 have HN : Hid (ls.length = N) := hN;clear hN;obtain ⟨i0, hi, hz0, hz1, hz2⟩ := info_parts Tryz.infoLine
 go_enter Tryz.func43, Tryz.ntmps43
 go_wp2_with (at_make; refine wpList_make_full _ rfl (.tmp 6) (.tmp 6) 86 rfl w.heap.size 123 i0 (.agg #[.int .i64 0, .int .i64 0, .int .i64 0, .slice none 0 0, .slice none 0 0, .int .i64 0]) 6 Tryz.underlying86 hi hz0 hz1 .i64 .i64 _ _ N rfl rfl rfl rfl (by rw [hz2]; omega) (by unfold maxLen; omega) (qH _) ?_; intro w1 hown hgrow)
 have hb1 : Below w.heap.size w w1 := (Below.refl _ _).grown hgrow (qH _) (by simp)
 have m0 : ML w1 w.heap.size (w.heap.size + 1) N [] (fun _ => 0) (fun _ => 0) := by
  rcases hown.2 with ⟨h', _⟩ | ⟨g', cap', cur, h', _, hg, _, _, hcs, htake⟩
  ·simp at h'
  simp only [Value.slice.injEq, Option.some.injEq, Addr.mk.injEq, and_true, true_and] at h';obtain ⟨rfl, rfl⟩ := h';have hl : w.heap.size < w1.heap.size := lt_of_block hg
  exact ⟨⟨cur.toList, by rw [hg], by simpa using hcs, fun i hi => by simp at hi⟩, fun i hi => by simp at hi, by omega, by omega⟩
 clear hown hgrow hi hz0 hz1 hz2
 go_loopw [4] (fun i wr => ∃ k : Nat, k <= N /\ i = .int .i64 k /\ Below w.heap.size w wr /\ ∃ gs p q, gs.length = k /\ copiesL ls gs /\ ML wr w.heap.size (w.heap.size + 1) N gs p q) (fun i _ => N - (intOf i).toNat)
 case atStart => exact ⟨0, qI _, rfl, hb1, [], _, _, rfl, fun i hi => by simp at hi, m0⟩
 case round =>
  clear hb1 m0;obtain ⟨k, hk, rfl, hb, gs, p, q, hgs, hcp, hm⟩ := hrel;have HGS : Hid (gs.length = k) := hgs;have HCP : Hid (copiesL ls gs) := hcp;clear hgs hcp
  by_cases hlt : k < N
  ·obtain ⟨b, off, rfl, hc, hA⟩ := (hF.below hb) k (by rw [HN.out]; exact hlt);generalize HG : ls[k]?.getD noLV = g at *;have HG' : Hid (ls[k]?.getD noLV = g) := HG;clear HG hF;obtain ⟨e0, e1, e2, e3, e4, e5⟩ := six_of hc;obtain ⟨gk, gp, gz, ⟨ga, gn, gcap, gc, gm, gcap', gK, gC, gD⟩⟩ := g;obtain ⟨iC, iD, i1, i2⟩ := hA;simp only at e0 e1 e2 e3 e4 e5 iC iD i1 i2;clear hc
   go_wp2_with fail
   refine (toL_any gC gD iC iD i1 i2).mono ?_;rintro ee w2 ⟨P, Q, rfl, b2, hP, hPQ, k1, k2⟩;have ms := hm.step (kind := gk) (pot := gp) (skip := gz) (K := gK) HGS.out hlt b2 hP hPQ k1 k2 iC.1 iD.1 i1 i2;have hm2 := hm.below b2;obtain ⟨vs, v1, v2, v3⟩ := hm2.c;have c0 : Cel w2 w.heap.size vs 123 := v1;have hx : ∀ r, r < 6 -> ∃ x, w2.cell? ⟨w.heap.size, k * 6 + r, none⟩ = some x := fun r hr => ⟨_, (c0.cell (k * 6 + r)).trans (List.getElem?_eq_getElem (by rw [v2]; omega))⟩
   obtain ⟨x0, y0⟩ := hx 0 (by omega);obtain ⟨x1, y1⟩ := hx 1 (by omega);obtain ⟨x2, y2⟩ := hx 2 (by omega);obtain ⟨x3, y3⟩ := hx 3 (by omega);obtain ⟨x4, y4⟩ := hx 4 (by omega);obtain ⟨x5, y5⟩ := hx 5 (by omega);simp only [Nat.add_zero] at y0;have f0 := c0.free (k * 6);have f1 := c0.free (k * 6 + 1);have f2 := c0.free (k * 6 + 2);have f3 := c0.free (k * 6 + 3);have f4 := c0.free (k * 6 + 4);have f5 := c0.free (k * 6 + 5);have hb2 := btr hb b2;have RB := (((((hb2.setCell (p := ⟨w.heap.size, k * 6, none⟩) (qH _) (.int .i64 gk)).setCell (p := ⟨w.heap.size, k * 6 + 1, none⟩) (qH _) (.int .i64 gp)).setCell (p := ⟨w.heap.size, k * 6 + 2, none⟩) (qH _) (.int .i64 gz)).setCell (p := ⟨w.heap.size, k * 6 + 3, none⟩) (qH _) (.slice (some ⟨P, 0, none⟩) gn gn)).setCell (p := ⟨w.heap.size, k * 6 + 4, none⟩) (qH _) (.slice (some ⟨Q, 0, none⟩) gm gm)).setCell (p := ⟨w.heap.size, k * 6 + 5, none⟩) (qH _) (.int .i64 gK)
   have CP : copiesL ls (gs ++ [⟨gk, gp, gz, ⟨some ⟨P, 0, none⟩, gn, gn, some ⟨Q, 0, none⟩, gm, gm, gK, gC, gD⟩⟩]) := fun i hi => by
    rw [qB, HGS.out] at hi;simp only [qF, qG] at hi
    by_cases e : i = k
    ·subst e;rw [qC (by rw [HGS.out]; exact qH _), HGS.out, HG'.out];simp
    rw [qD (by rw [HGS.out]; omega)]
    exact HCP.out i (by rw [HGS.out]; omega)
   have HCP2 : Hid _ := CP;clear hm hm2 b2 hb hb2 iC iD e0 e1 e2 e3 e4 e5 k1 k2 c0 v1 v2 v3 hx CP
   go_wp2
   go_roundw
   case rel => exact ⟨k + 1, by omega, by go_num, RB, _, _, _, by rw [qB, HGS.out]; rfl, HCP2.out, ms⟩
   case measure => simp [intOf]; omega
  obtain rfl : k = N := by omega
  go_wp2
  go_ret
  exact ⟨gs, p, q, rfl, HGS.out, HCP.out, hb, hm⟩
def sameL (f g : LV) : Prop := f.kind = g.kind /\ f.pot = g.pot /\ f.skip = g.skip /\ eqF f.f.C f.f.D f.f.K g.f.C g.f.D g.f.K = true
theorem eqLS_same (ad ae : Option Addr) (N cap cap' : Nat) (fs gs : List LV) (w : World) (hN : fs.length = N) (hM : gs.length = N) (hF : LinesG w ad fs) (hG : LinesG w ae gs) (hN1 : N <= 1048576)
  (hsame : ∀ i, i < N -> sameL (fs[i]?.getD noLV) (gs[i]?.getD noLV)) :
  Calls Tryz.prog 52 #[.slice ad N cap, .slice ae N cap'] w fun e w' => e = .returned (.bool true) /\ Below w.heap.size w w' := by
 have HN : Hid (fs.length = N) := hN;have HM : Hid (gs.length = N) := hM;have HS : Hid _ := hsame;clear hN hM hsame
 go_enter Tryz.func52, Tryz.ntmps52
 go_wp2_with fail
 go_loopw [5] (fun i wr => ∃ k : Nat, k <= N /\ i = .int .i64 k /\ Below w.heap.size w wr) (fun i _ => N - (intOf i).toNat)
 case atStart => exact ⟨0, qI _, rfl, Below.refl _ _⟩
 case round =>
  obtain ⟨k, hk, rfl, hb⟩ := hrel
  by_cases hlt : k < N
  ·obtain ⟨b, off, rfl, hc, e3⟩ := (hF.below hb) k (by rw [HN.out]; exact hlt);obtain ⟨b', off', rfl, hc', d3⟩ := (hG.below hb) k (by rw [HM.out]; exact hlt);have hs := HS.out k hlt;generalize HG1 : fs[k]?.getD noLV = f at *;generalize HG2 : gs[k]?.getD noLV = g at *;clear HG1 HG2 hF hG;obtain ⟨x0, x1, x2, x3, x4, x5⟩ := six_of hc;obtain ⟨y0, y1, y2, y3, y4, y5⟩ := six_of hc';obtain ⟨fk, fp, fz, ⟨fa, fn, fcap, fc, fm, fcap', fK, fC, fD⟩⟩ := f;obtain ⟨gk, gp, gz, ⟨ga, gn, gcap, gc, gm, gcap', gK, gC, gD⟩⟩ := g;obtain ⟨iC, iD, i1, i2⟩ := e3;obtain ⟨jC, jD, j1, j2⟩ := d3;obtain ⟨z1, z2, z3, z4⟩ := hs;simp only at x0 x1 x2 x3 x4 x5 y0 y1 y2 y3 y4 y5 iC iD jC jD i1 i2 j1 j2 z1 z2 z3 z4;subst z1 z2 z3;clear hc hc';have hlt' : (k : Int) < (N : Int) := by omega
   go_wp2_with fail
   go_region_with (first | (go_at_call 92; refine (eqL_same fC fD gC gD (by exact iC.below (Below.refl _ _).drew) (by exact iD.below (Below.refl _ _).drew) (by exact jC.below (Below.refl _ _).drew) (by exact jD.below (Below.refl _ _).drew) i1 i2 j1 j2 z4).mono ?_; rintro ee w1 ⟨rfl, b1⟩))
   all_goals
    have b1' := below_of_drew b1
    go_wp2
    go_roundw
    case rel => exact ⟨k + 1, by omega, by go_num, btr hb b1'⟩
    case measure => simp [intOf]; omega
  go_wp2
  go_ret
  exact ⟨rfl, hb⟩
end Go.Proofs.YtfmpcihghlnlnaaGreatDoor
