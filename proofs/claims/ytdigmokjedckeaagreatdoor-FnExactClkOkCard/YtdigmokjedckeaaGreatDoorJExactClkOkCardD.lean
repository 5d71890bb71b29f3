/-
  Lemmas that the claim's last text rests on: DonS, Dig, Txt, Shelf, TxtI, Twn, TxtJ, ResOkW.
-/
import Derived.Test.YtdigmokjedckeaaGreatDoorJExactClkOkCardC
import Derived.Test.YtdigmokjedckeaaGreatDoorBase
import Derived.Lib.ItoaNum
import Derived.Lib.ItoaLen
import Derived.Laws.IdiomStrings
import Derived.Lib.Join
import Derived.Shelf.Strings.OnBuilder
import Derived.Shelf.LaysM
import Derived.Shelf.Strconv.Itoa3
import Derived.Ground.Names2Prog
import Derived.Ground.SlgnProg
import Derived.Test.YtdigmokjedckeaaGreatDoorProg
import Derived.Deep.AppendLies
import Derived.Lib.AppendIntMem
namespace Go.Proofs.YtdigmokjedckeaaGreatDoor
open Go.ChangeShapes Go.WideShapes Go.ChangeAt Go.RowKit Go.Joins Go.Deep
set_option linter.unusedVariables false
set_option maxRecDepth 100000

/-- A slice of them that came in. -/
def DSM (w : World) (ad : Option Addr) (fs : List DV) : Prop :=
 ∀ i, i < fs.length → ∃ b off, ad = some ⟨b, off, none⟩ ∧ (∀ r, r < 3 → w.cell? ⟨b, off + i * 3 + r, none⟩ = (fs[i]?.getD noD).cs[r]?) ∧ DM w (fs[i]?.getD noD)
theorem DSM.below {w w' : World} {ad : Option Addr} {fs : List DV} (h : DSM w ad fs) (hb : Below w.heap.size w w') : DSM w' ad fs := fun i hi => by
 obtain ⟨b, off, e, hc, hr⟩ := h i hi
 have hl : b < w.heap.size := block_lt (v := ((fs[i]?.getD noD).cs[0]?).getD (.bool false)) ((hc 0 (by omega)).trans rfl)
 exact ⟨b, off, e, fun r hr => by rw [hb.cell (p := ⟨b, off + i * 3 + r, none⟩) hl]; exact hc r hr, hr.below hb⟩
/-- One that may be copied. -/
def DSG (w : World) (ad : Option Addr) (fs : List DV) : Prop :=
 ∀ i, i < fs.length → ∃ b off, ad = some ⟨b, off, none⟩ ∧ (∀ r, r < 3 → w.cell? ⟨b, off + i * 3 + r, none⟩ = (fs[i]?.getD noD).cs[r]?) ∧ DG w (fs[i]?.getD noD)
theorem DSG.below {w w' : World} {ad : Option Addr} {fs : List DV} (h : DSG w ad fs) (hb : Below w.heap.size w w') : DSG w' ad fs := fun i hi => by
 obtain ⟨b, off, e, hc, hr⟩ := h i hi
 have hl : b < w.heap.size := block_lt (v := ((fs[i]?.getD noD).cs[0]?).getD (.bool false)) ((hc 0 (by omega)).trans rfl)
 exact ⟨b, off, e, fun r hr => by rw [hb.cell (p := ⟨b, off + i * 3 + r, none⟩) hl]; exact hc r hr, hr.below hb⟩
theorem DSM.g {w : World} {ad : Option Addr} {fs : List DV} (h : DSM w ad fs) (hs : ∀ i, i < fs.length → DZ (fs[i]?.getD noD)) : DSG w ad fs := fun i hi => by
 obtain ⟨b, off, e, hc, hr⟩ := h i hi
 exact ⟨b, off, e, hc, hr.g (hs i hi)⟩
theorem cellsD {w : World} {b o : Nat} {f : DV} (h : ∀ r, r < 3 → w.cell? ⟨b, o + r, none⟩ = f.cs[r]?) : w.cell? ⟨b, o, none⟩ = some (.int .i64 f.q) ∧ w.cell? ⟨b, o + 1, none⟩ = some (.int .i64 f.c) ∧ w.cell? ⟨b, o + 2, none⟩ = some (f.t.v) := ⟨h 0 (by omega), h 1 (by omega), h 2 (by omega)⟩

theorem open_DS {H : Type} {enc : TypeId × Value → H} {W : World} {fuel : Nat} {v : Value} {y : DataW H × List MemPlace}
  (hf : DataW.trod enc Tryz.prog W 0 (fun _ => true) true fuel 26 [v] = some y) :
  ∃ ad N cap fs, v = .slice ad N cap ∧ fs.length = N ∧ DSM W ad fs ∧ N ≤ maxLen := by
 obtain ⟨ad, N, cap, fs, hv, hl, hN, hall⟩ := open_sliceC noD DV.cs (fun f => DM W f) (c := 3) (by omega) Tryz.underlying26 (by kernel_rfl) (fun _ => rfl) (fun fuel cs x hx => open_DC hx) hf
 exact ⟨ad, N, cap, fs, hv, hl, hall, hN⟩

set_option maxHeartbeats 1600000 in
theorem szDS_any (ad : Option Addr) (N cap : Nat) (fs : List DV) (l : Int) (w : World) (hN : fs.length = N) (hF : DSM w ad fs) (hN1 : N ≤ maxLen) (h0 : 0 ≤ l) (hl : l ≤ 1048576) :
  Calls Tryz.prog 23 #[.slice ad N cap, .int .i64 l] w fun e w' => ∃ r, e = .returned (.int .i64 r) ∧ -1 ≤ r ∧ r ≤ 1048576 ∧ (0 ≤ r → N ≤ 1048576 ∧ ∀ i, i < fs.length → DZ (fs[i]?.getD noD)) ∧ Below w.heap.size w w' := by
 have HN : Hid (fs.length = N) := hN
 clear hN
 unfold maxLen at hN1
 by_cases h : l < N
 ·go_enter Tryz.func23, Tryz.ntmps23
  go_wp2
  go_ret
  exact ⟨-1, rfl, by omega, by omega, fun h => by omega, Below.refl _ _⟩
 ·have hN2 : N ≤ 1048576 := by omega
  have h' : (N : Int) ≤ l := by omega
  go_enter Tryz.func23, Tryz.ntmps23
  go_wp2_with fail
  go_loopw [1, 5] (fun lv i wr => ∃ k : Nat, k ≤ N ∧ i = .int .i64 k ∧ ∃ x : Int, lv = .int .i64 x ∧ 0 ≤ x ∧ x ≤ 1048576 ∧ Below w.heap.size w wr ∧ ∀ i, i < k → DZ (fs[i]?.getD noD)) (fun _ i _ => N - (intOf i).toNat)
  case atStart => exact ⟨0, Nat.zero_le _, rfl, _, rfl, by omega, by omega, Below.refl _ _, fun i hi => by omega⟩
  case round =>
   obtain ⟨k, hk, rfl, x, rfl, hx0, hx1, hb, hall⟩ := hrel
   have HA : Hid _ := hall
   clear hall
   by_cases hlt : k < N
   ·obtain ⟨b, off, rfl, hc, hr⟩ := (hF.below hb) k (by rw [HN.out]; exact hlt)
    generalize HG : fs[k]?.getD noD = g at *
    have HG' : Hid (fs[k]?.getD noD = g) := HG
    clear HG hF
    obtain ⟨e0, e1, e2⟩ := cellsD hc
    obtain ⟨gq, gc, ⟨gta, gtn, gtc, gtx⟩⟩ := g
    have e0' : wr.cell? ⟨b, off + k * 3, none⟩ = some (.int .i64 gq) := e0
    have e1' : wr.cell? ⟨b, off + k * 3 + 1, none⟩ = some (.int .i64 gc) := e1
    have e2' : wr.cell? ⟨b, off + k * 3 + 2, none⟩ = some (.slice gta gtn gtc) := e2
    clear e0 e1 e2 hc
    go_wp2_with fail
    refine (szD_ex _ _ _ _ _ gtx _ _ hr hx0 hx1).mono ?_
    rintro e w1 ⟨r, rfl, r0, r1, r2, b1⟩
    by_cases hz : r < 0
    ·go_wp2
     go_ret
     exact ⟨-1, rfl, by omega, by omega, fun h => by omega, hb.trans (b1.mono hb.size)⟩
    ·have hz0 : 0 ≤ r := by omega
     have HA2 : Hid (∀ i, i < k + 1 → DZ (fs[i]?.getD noD)) := fun i hi => by
      by_cases hik : i < k
      ·exact HA.out i hik
      ·obtain rfl : i = k := by omega
       rw [HG'.out]; exact r2 hz0
     clear r2
     go_wp2
     go_roundw
     case rel => exact ⟨k + 1, by omega, by go_num, _, rfl, hz0, r1, hb.trans (b1.mono hb.size), HA2.out⟩
     case measure => simp [intOf]; omega
   ·obtain rfl : k = N := by omega
    go_wp2
    go_ret
    exact ⟨x, rfl, by omega, by omega, fun _ => ⟨hN2, fun i hi => HA.out i (by rw [← HN.out]; exact hi)⟩, hb⟩

/-- So many cells set in a row. -/
def putD (vs : List Value) (o : Nat) (x0 x1 x2 : Value) : List Value := (((vs.set o x0).set (o + 1) x1).set (o + 2) x2)
theorem putD_len (vs : List Value) (o : Nat) (x0 x1 x2 : Value) : (putD vs o x0 x1 x2).length = vs.length := by simp [putD]
theorem putD_ne (vs : List Value) (o : Nat) (x0 x1 x2 : Value) (j : Nat) (h : j < o ∨ o + 3 ≤ j) : (putD vs o x0 x1 x2)[j]? = vs[j]? := by
 unfold putD
 rw [List.getElem?_set_ne (by omega), List.getElem?_set_ne (by omega), List.getElem?_set_ne (by omega)]
theorem putD_at (vs : List Value) (o : Nat) (x0 x1 x2 : Value) (h : o + 3 ≤ vs.length) (r : Nat) (hr : r < 3) : (putD vs o x0 x1 x2)[o + r]? = [x0, x1, x2][r]? := by
 have hcase : r = 0 ∨ r = 1 ∨ r = 2 := by omega
 unfold putD
 rcases hcase with rfl | rfl | rfl
 ·simp only [Nat.add_zero]
  rw [List.getElem?_set_ne (by omega), List.getElem?_set_ne (by omega), List.getElem?_set_self (by omega)]; rfl
 ·rw [List.getElem?_set_ne (by omega), List.getElem?_set_self (by simp; omega)]; rfl
 ·rw [List.getElem?_set_self (by simp; omega)]; rfl

/-- Block B holds N of them, of which those of gs have been laid. -/
structure MD (W : World) (B N : Nat) (gs : List DV) : Prop where
 c : ∃ vs : List Value, Cel W B vs 116 ∧ vs.length = N * 3 ∧ ∀ i, i < gs.length → ∀ r, r < 3 → vs[i * 3 + r]? = (gs[i]?.getD noD).cs[r]?
 l : ∀ i, i < gs.length → DK W (B + 1) (gs[i]?.getD noD)
theorem MD.lt {W : World} {B N : Nat} {gs : List DV} (h : MD W B N gs) : B < W.heap.size := by
 obtain ⟨vs, h1, _⟩ := h.c
 exact h1.lt
theorem MD.below {W W' : World} {B N : Nat} {gs : List DV} (h : MD W B N gs) (b : Below W.heap.size W W') : MD W' B N gs := by
 obtain ⟨vs, h1, h2, h3⟩ := h.c
 exact ⟨⟨vs, h1.below b, h2, h3⟩, fun i hi => (h.l i hi).below b⟩
theorem MD.g {W : World} {B N : Nat} {gs : List DV} (h : MD W B N gs) : DSG W (some ⟨B, 0, none⟩) gs := fun i hi => by
 obtain ⟨vs, h1, h2, h3⟩ := h.c
 exact ⟨B, 0, rfl, fun r hr => by rw [Nat.zero_add, h1.cell, h3 i hi r hr], (h.l i hi).g⟩
theorem MD.touch {S : Nat → Prop} {W W' : World} {B N : Nat} {gs : List DV} (h : MD W B N gs) (t : Touch S W W') (hs : ∀ k, S k → k < B) : MD W' B N gs := by
 obtain ⟨vs, h1, h2, h3⟩ := h.c
 exact ⟨⟨vs, h1.touch t (fun hh => by have := hs _ hh; omega), h2, h3⟩, fun i hi => (h.l i hi).touch t (fun k hk => by have := hs _ hk; omega)⟩
theorem MD.setLow {W : World} {B N : Nat} {gs : List DV} (h : MD W B N gs) {X : Nat} (hX : X < B) (i : Nat) (v : Value) : MD (W.setCell ⟨X, i, none⟩ v) B N gs := h.touch (S := fun x => x = X) (Touch.setCell (S := fun x => x = X) (Touch.refl _ _) rfl _) (fun k hk => by omega)
/-- One more is laid. -/
theorem MD.step {W W1 : World} {B N k : Nat} {gs : List DV} {gq : Int} {gc : Int} {Pt : Option Addr} {gtn : Nat} {Qt : List Int} (h : MD W B N gs) (hk : gs.length = k) (hkN : k < N) (b : Below W.heap.size W W1) (hs : DK W1 W.heap.size ⟨gq, gc, ⟨Pt, gtn, gtn, Qt⟩⟩) :
  MD (((W1.setCell ⟨B, k * 3, none⟩ (.int .i64 gq)).setCell ⟨B, k * 3 + 1, none⟩ (.int .i64 gc)).setCell ⟨B, k * 3 + 2, none⟩ (.slice Pt gtn gtn)) B N (gs ++ [⟨gq, gc, ⟨Pt, gtn, gtn, Qt⟩⟩]) := by
 have hB := h.lt
 obtain ⟨vs, h1, h2, h3⟩ := (h.below b).c
 have T : Touch (fun x => x = B) W1 (((W1.setCell ⟨B, k * 3, none⟩ (.int .i64 gq)).setCell ⟨B, k * 3 + 1, none⟩ (.int .i64 gc)).setCell ⟨B, k * 3 + 2, none⟩ (.slice Pt gtn gtn)) := (((Touch.refl (fun x => x = B) W1).setCell rfl _).setCell rfl _).setCell rfl _
 refine ⟨⟨putD vs (k * 3) (.int .i64 gq) (.int .i64 gc) (.slice Pt gtn gtn), (((h1).set _ _).set _ _).set _ _, by rw [putD_len]; exact h2, fun i hi r hr => ?_⟩, fun i hi => ?_⟩
 ·rw [List.length_append, hk] at hi
  simp only [List.length_cons, List.length_nil] at hi
  by_cases e : i = k
  ·subst e
   rw [putD_at _ _ _ _ _ (by rw [h2]; omega) r hr, List.getElem?_append_right (by omega), hk]
   simp [DV.cs, IV.v]
  ·rw [putD_ne _ _ _ _ _ _ (by omega), List.getElem?_append_left (by omega)]
   exact h3 i (by omega) r hr
 ·rw [List.length_append, hk] at hi
  simp only [List.length_cons, List.length_nil] at hi
  by_cases e : i = k
  ·subst e
   rw [List.getElem?_append_right (by omega), hk]
   simp only [Nat.sub_self, List.getElem?_cons_zero, Option.getD_some]
   exact (hs.mono (by omega)).touch T (fun x hx => by omega)
  ·rw [List.getElem?_append_left (by omega)]
   exact ((h.l i (by omega)).below b).touch T (fun x hx => by omega)

/-- Each holds what the other does. -/
def copiesDS (fs gs : List DV) : Prop := ∀ i, i < gs.length → copiesD (fs[i]?.getD noD) (gs[i]?.getD noD)

theorem Tryz.infoPlnDone : (Tryz.prog.info? 116).map (fun i => (i.zero, i.size, i.bytes)) = some (some (.agg #[.int .i64 0, .int .i64 0, .slice none 0 0]), 3, 40) := by kernel_rfl

set_option maxHeartbeats 3200000 in
theorem toDS_any (ad : Option Addr) (N cap : Nat) (fs : List DV) (w : World) (hN : fs.length = N) (hF : DSG w ad fs) (hN1 : N ≤ 1048576) :
  Calls Tryz.prog 30 #[.slice ad N cap] w fun e w' => ∃ gs, e = .returned (.slice (some ⟨w.heap.size, 0, none⟩) N N) ∧ gs.length = N ∧ copiesDS fs gs ∧ Below w.heap.size w w' ∧ MD w' w.heap.size N gs := by
 have HN : Hid (fs.length = N) := hN
 clear hN
 obtain ⟨i0, hi, hz0, hz1, hz2⟩ := info_parts Tryz.infoPlnDone
 go_enter Tryz.func30, Tryz.ntmps30
 go_wp2_with (at_make; refine wpList_make_full _ rfl (.tmp 6) (.tmp 6) 36 rfl w.heap.size 116 i0 (.agg #[.int .i64 0, .int .i64 0, .slice none 0 0]) 3 Tryz.underlying36 hi hz0 hz1 .i64 .i64 _ _ N rfl rfl rfl rfl (by rw [hz2]; omega) (by unfold maxLen; omega) (Nat.le_refl _) ?_; intro w1 hown hgrow)
 have hb1 : Below w.heap.size w w1 := (Below.refl _ _).grown hgrow (Nat.le_refl _) (by simp)
 have m0 : MD w1 w.heap.size N [] := by
  rcases hown.2 with ⟨h', _⟩ | ⟨g', cap', cur, h', _, hg, _, _, hcs, htake⟩
  ·simp at h'
  ·simp only [Value.slice.injEq, Option.some.injEq, Addr.mk.injEq, and_true, true_and] at h'
   obtain ⟨rfl, rfl⟩ := h'
   exact ⟨⟨cur.toList, by unfold Cel; rw [hg], by simpa using hcs, fun i hi => by simp at hi⟩, fun i hi => by simp at hi⟩
 clear hown hgrow hi hz0 hz1 hz2
 go_loopw [4] (fun i wr => ∃ k : Nat, k ≤ N ∧ i = .int .i64 k ∧ Below w.heap.size w wr ∧ ∃ gs, gs.length = k ∧ copiesDS fs gs ∧ MD wr w.heap.size N gs) (fun i _ => N - (intOf i).toNat)
 case atStart => exact ⟨0, Nat.zero_le _, rfl, hb1, [], rfl, fun i hi => by simp at hi, m0⟩
 case round =>
  clear hb1 m0
  obtain ⟨k, hk, rfl, hb, ts, hts, hcp, hm⟩ := hrel
  have HTS : Hid (ts.length = k) := hts
  have HCP : Hid (copiesDS fs ts) := hcp
  clear hts hcp
  by_cases hlt : k < N
  ·obtain ⟨b, off, rfl, hc, hr⟩ := (hF.below hb) k (by rw [HN.out]; exact hlt)
   generalize HG : fs[k]?.getD noD = g at *
   have HG' : Hid (fs[k]?.getD noD = g) := HG
   clear HG hF
   obtain ⟨e0, e1, e2⟩ := cellsD hc
   obtain ⟨gq, gc, ⟨gta, gtn, gtc, gtx⟩⟩ := g
   have e0' : wr.cell? ⟨b, off + k * 3, none⟩ = some (.int .i64 gq) := e0
   have e1' : wr.cell? ⟨b, off + k * 3 + 1, none⟩ = some (.int .i64 gc) := e1
   have e2' : wr.cell? ⟨b, off + k * 3 + 2, none⟩ = some (.slice gta gtn gtc) := e2
   clear e0 e1 e2 hc
   go_wp2_with fail
   refine (toD_ex _ _ _ _ _ gtx _ hr).mono ?_
   rintro ee w2 ⟨Pt, Qt, rfl, b2, hK, hcp2⟩
   have ms := hm.step HTS.out hlt b2 hK
   obtain ⟨vs, v1, v2, v3⟩ := (hm.below b2).c
   have hx : ∀ r, r < 3 → ∃ x, w2.cell? ⟨w.heap.size, k * 3 + r, none⟩ = some x := fun r hr => ⟨_, (v1.cell (k * 3 + r)).trans (List.getElem?_eq_getElem (by rw [v2]; omega))⟩
   obtain ⟨x0, y0⟩ := hx 0 (by omega)
   obtain ⟨x1, y1⟩ := hx 1 (by omega)
   obtain ⟨x2, y2⟩ := hx 2 (by omega)
   simp only [Nat.add_zero] at y0
   have f0 := v1.free (k * 3)
   have f1 := v1.free (k * 3 + 1)
   have f2 := v1.free (k * 3 + 2)
   have hb2 := hb.trans (b2.mono hb.size)
   have RB := (((hb2.setCell (p := ⟨w.heap.size, k * 3, none⟩) (Nat.le_refl _) (.int .i64 gq)).setCell (p := ⟨w.heap.size, k * 3 + 1, none⟩) (Nat.le_refl _) (.int .i64 gc)).setCell (p := ⟨w.heap.size, k * 3 + 2, none⟩) (Nat.le_refl _) (.slice Pt gtn gtn))
   have CP : copiesDS fs (ts ++ [⟨gq, gc, ⟨Pt, gtn, gtn, Qt⟩⟩]) := fun i hi => by
    rw [List.length_append, HTS.out] at hi
    simp only [List.length_cons, List.length_nil] at hi
    by_cases e : i = k
    ·subst e
     rw [List.getElem?_append_right (by rw [HTS.out]; exact Nat.le_refl _), HTS.out, HG'.out]
     simpa using hcp2
    ·rw [List.getElem?_append_left (by rw [HTS.out]; omega)]
     exact HCP.out i (by rw [HTS.out]; omega)
   have HCP2 : Hid _ := CP
   clear hm b2 hb hb2 v1 v2 v3 hx CP hr hcp2 hK
   go_wp2
   go_roundw
   case rel => exact ⟨k + 1, by omega, by go_num, RB, _, by rw [List.length_append, HTS.out]; rfl, HCP2.out, ms⟩
   case measure => simp [intOf]; omega
  ·obtain rfl : k = N := by omega
   go_wp2
   go_ret
   exact ⟨ts, rfl, HTS.out, HCP.out, hb, hm⟩

set_option maxHeartbeats 1600000 in
/-- Held against a slice that holds the same. -/
theorem eqDS_same (ad ae : Option Addr) (N cap cap' : Nat) (fs gs : List DV) (w : World) (hN : fs.length = N) (hM : gs.length = N) (hF : DSG w ad fs) (hG : DSG w ae gs) (hN1 : N ≤ 1048576)
  (hsame : ∀ i, i < N → sameD (fs[i]?.getD noD) (gs[i]?.getD noD)) :
  Calls Tryz.prog 37 #[.slice ad N cap, .slice ae N cap'] w fun e w' => e = .returned (.bool true) ∧ Below w.heap.size w w' := by
 have HN : Hid (fs.length = N) := hN
 have HM : Hid (gs.length = N) := hM
 have HS : Hid _ := hsame
 clear hN hM hsame
 go_enter Tryz.func37, Tryz.ntmps37
 go_wp2_with fail
 go_loopw [5] (fun i wr => ∃ k : Nat, k ≤ N ∧ i = .int .i64 k ∧ Below w.heap.size w wr) (fun i _ => N - (intOf i).toNat)
 case atStart => exact ⟨0, Nat.zero_le _, rfl, Below.refl _ _⟩
 case round =>
  obtain ⟨k, hk, rfl, hb⟩ := hrel
  by_cases hlt : k < N
  ·obtain ⟨b, off, rfl, hc, hr⟩ := (hF.below hb) k (by rw [HN.out]; exact hlt)
   obtain ⟨b', off', rfl, hc', hr'⟩ := (hG.below hb) k (by rw [HM.out]; exact hlt)
   have hs := HS.out k hlt
   generalize HG1 : fs[k]?.getD noD = fe at *
   generalize HG2 : gs[k]?.getD noD = g at *
   clear HG1 HG2 hF hG
   obtain ⟨e0, e1, e2⟩ := cellsD hc
   obtain ⟨feq, fec, ⟨feta, fetn, fetc, fetx⟩⟩ := fe
   have e0' : wr.cell? ⟨b, off + k * 3, none⟩ = some (.int .i64 feq) := e0
   have e1' : wr.cell? ⟨b, off + k * 3 + 1, none⟩ = some (.int .i64 fec) := e1
   have e2' : wr.cell? ⟨b, off + k * 3 + 2, none⟩ = some (.slice feta fetn fetc) := e2
   clear e0 e1 e2 hc
   obtain ⟨d0, d1, d2⟩ := cellsD hc'
   obtain ⟨gq, gc, ⟨gta, gtn, gtc, gtx⟩⟩ := g
   have d0' : wr.cell? ⟨b', off' + k * 3, none⟩ = some (.int .i64 gq) := d0
   have d1' : wr.cell? ⟨b', off' + k * 3 + 1, none⟩ = some (.int .i64 gc) := d1
   have d2' : wr.cell? ⟨b', off' + k * 3 + 2, none⟩ = some (.slice gta gtn gtc) := d2
   clear d0 d1 d2 hc'
   have hlt' : (k : Int) < (N : Int) := by omega
   go_wp2_with fail
   go_region_with (first | (go_at_call 80; refine (eqD_ex _ _ _ _ _ fetx _ _ _ _ _ gtx _ (by exact hr.below (Below.refl _ _).drew) (by exact hr'.below (Below.refl _ _).drew) hs).mono ?_; rintro ee w1 ⟨rfl, b1⟩))
   all_goals
    have b1' := below_of_drew b1
    go_wp2
    go_roundw
    case rel => exact ⟨k + 1, by omega, by go_num, hb.trans (b1'.mono hb.size)⟩
    case measure => simp [intOf]; omega
  ·go_wp2
   go_ret
   exact ⟨rfl, hb⟩

end Go.Proofs.YtdigmokjedckeaaGreatDoor
namespace Go.Proofs.YtdigmokjedckeaaGreatDoor
open Go.RowKit
set_option linter.unusedVariables false

theorem dec_step {k : Nat} (h : ¬ k < 10) : Lib.decDigits k = Lib.decDigits (k / 10) ++ [UInt8.ofNat (48 + k % 10)] := by
 rw [Lib.decDigits, dif_neg h]
theorem dec_one {k : Nat} (h : k < 10) : Lib.decDigits k = [UInt8.ofNat (48 + k)] := by
 rw [Lib.decDigits, dif_pos h]

/-- Two strings together. -/
theorem cat_str (a b : List UInt8) : ((⟨a.toArray⟩ : ByteArray) ++ (⟨b.toArray⟩ : ByteArray)) = ⟨(a ++ b).toArray⟩ := by
 apply ByteArray.ext
 simp
theorem cat_one (x : UInt8) (b : List UInt8) : ((⟨#[x]⟩ : ByteArray) ++ (⟨b.toArray⟩ : ByteArray)) = ⟨(x :: b).toArray⟩ := cat_str [x] b
theorem u8_add (m : Nat) (h : m < 10) : (48 : UInt8) + UInt8.ofNat m = UInt8.ofNat (48 + m) := by
 simp

set_option maxRecDepth 100000 in
set_option maxHeartbeats 800000 in
theorem digits_pos (N : Nat) (w : World) (hN : N ≤ 1000000000000000000) :
  Calls Tryz.prog 147 #[.int .i64 N] w fun e w' => e = .returned (.string ⟨(Lib.decDigits N).toArray⟩) ∧ Below w.heap.size w w' := by
 go_enter Tryz.func147, Tryz.ntmps147
 go_wp2_with fail
 go_loopw [0, 3] (fun n s wr => ∃ (k : Nat) (l : List UInt8), n = .int .i64 k ∧ s = .string ⟨l.toArray⟩ ∧ k + l.length ≤ N ∧ Lib.decDigits N = Lib.decDigits k ++ l ∧ Below w.heap.size w wr) (fun n _ _ => (intOf n).toNat)
 case atStart => exact ⟨N, [], rfl, rfl, Nat.le_refl _, by simp, Below.refl _ _⟩
 case round =>
  obtain ⟨k, l, rfl, rfl, hk, hd, hb⟩ := hrel
  have HD : Hid _ := hd
  clear hd
  have hll : l.length ≤ 1000000000000000000 := by omega
  have hkk : k ≤ 1000000000000000000 := by omega
  by_cases h9 : 9 < k
  ·have hcv : (convert 207 9 (.slice (some ⟨wr.heap.size, 0, none⟩) 1 1)).run Tryz.prog (wr.alloc (.cells #[.int .u8 (48 + (k : Int) % 10)] 5)) = .ok (.string ⟨#[UInt8.ofNat (48 + k % 10)]⟩) (wr.alloc (.cells #[.int .u8 (48 + (k : Int) % 10)] 5)) := run_convert_bytes_back (P := Tryz.prog) (wr.alloc (.cells #[.int .u8 (48 + (k : Int) % 10)] 5)) 207 9 5 ⟨wr.heap.size, 0, none⟩ 1 [UInt8.ofNat (48 + k % 10)] Tryz.underlying207 Tryz.underlying5 Tryz.underlying9 (fun j hj => by
    have : j = 0 := by simpa using hj
    subst this
    have hm : 48 + k % 10 < 256 := by omega
    simp [go_sem, Addr.add, Nat.mod_eq_of_lt hm])
   go_wp2
   go_roundw
   case rel => exact ⟨k / 10, UInt8.ofNat (48 + k % 10) :: l, by go_num, by rw [u8_add _ (by omega), cat_one], by rw [List.length_cons]; omega, by rw [HD.out, dec_step (by omega), List.append_assoc]; rfl, hb.alloc hb.size _⟩
   case measure => simp [intOf]; omega
  ·have hcv : (convert 207 9 (.slice (some ⟨wr.heap.size, 0, none⟩) 1 1)).run Tryz.prog (wr.alloc (.cells #[.int .u8 (48 + (k : Int))] 5)) = .ok (.string ⟨#[UInt8.ofNat (48 + k)]⟩) (wr.alloc (.cells #[.int .u8 (48 + (k : Int))] 5)) := run_convert_bytes_back (P := Tryz.prog) (wr.alloc (.cells #[.int .u8 (48 + (k : Int))] 5)) 207 9 5 ⟨wr.heap.size, 0, none⟩ 1 [UInt8.ofNat (48 + k)] Tryz.underlying207 Tryz.underlying5 Tryz.underlying9 (fun j hj => by
    have : j = 0 := by simpa using hj
    subst this
    have hm : 48 + k < 256 := by omega
    simp [go_sem, Addr.add, Nat.mod_eq_of_lt hm])
   go_wp2
   go_ret
   exact ⟨by rw [u8_add _ (by omega), cat_one, HD.out, dec_one (by omega)]; rfl, hb.alloc hb.size _⟩

set_option maxRecDepth 100000 in
set_option maxHeartbeats 800000 in
theorem digits_any (n : Int) (w : World) (h0 : -1000000000000000000 ≤ n) (h1 : n ≤ 1000000000000000000) :
  Calls Tryz.prog 147 #[.int .i64 n] w fun e w' => e = .returned (.string ⟨(Lib.itoa n).toArray⟩) ∧ Below w.heap.size w w' := by
 by_cases hn : n < 0
 ·have e : Lib.itoa n = 45 :: Lib.decDigits n.natAbs := by rw [Lib.itoa, if_pos hn]
  have hl : (Lib.decDigits n.natAbs).length ≤ 21 := by
   have := Lib.itoa_length_le n (by omega) (by omega)
   rw [e, List.length_cons] at this
   omega
  have HE : Hid _ := e
  clear e
  go_enter Tryz.func147, Tryz.ntmps147
  go_wp2_with fail
  refine (show Calls Tryz.prog 147 #[.int .i64 (-n)] w _ from (by have := digits_pos n.natAbs w (by omega); rw [show ((n.natAbs : Nat) : Int) = -n by omega] at this; exact this)).mono ?_
  rintro e w1 ⟨rfl, b1⟩
  go_wp2
  go_ret
  exact ⟨by rw [HE.out]; exact congrArg (fun x => Ending.returned (.string x)) (cat_one _ _), b1⟩
 ·have e : Lib.itoa n = Lib.decDigits n.toNat := by rw [Lib.itoa, if_neg hn]
  rw [e]
  have := digits_pos n.toNat w (by omega)
  rwa [show ((n.toNat : Nat) : Int) = n by omega] at this

end Go.Proofs.YtdigmokjedckeaaGreatDoor
namespace Go.Proofs.YtdigmokjedckeaaGreatDoor
open Go.RowKit
set_option linter.unusedVariables false
set_option maxRecDepth 100000

def wordL (c : Int) : List UInt8 := if c = 1 then [100, 111, 110, 101] else if c = 2 then [115, 116, 111, 112, 112, 101, 100] else if c = 3 then [111, 118, 101, 114] else []
def tailL (zs : List Int) : List UInt8 := Lib.joinTail [32] (zs.map Lib.itoa)
def resOkB (c : Int) (n : Nat) (zs : List Int) : Bool := inB c 1 3 && (decide (c = 1 ∨ n = 0) && (decide (n ≤ 6) && allB 999999999999 zs))
def resText (c : Int) (n : Nat) (zs : List Int) : List UInt8 := if resOkB c n zs = true then wordL c ++ tailL zs else []
theorem tail_step {zs : List Int} {k : Nat} (h : k < zs.length) : tailL (zs.take (k + 1)) = tailL (zs.take k) ++ ([32] ++ Lib.itoa (zs[k]?.getD 0)) := by
 unfold tailL Lib.joinTail
 rw [List.take_succ_eq_append_getElem h, List.getElem?_eq_getElem h, List.map_append, List.map_append, List.flatten_append]
 simp only [List.map_cons, List.map_nil, List.flatten_cons, List.flatten_nil, List.append_nil, Option.getD_some]
theorem tail_nil : tailL [] = [] := rfl
theorem tail_end {zs : List Int} {k : Nat} (h : zs.length ≤ k) : tailL (zs.take k) = tailL zs := by rw [List.take_of_length_le h]
theorem resText_no {c : Int} {n : Nat} {zs : List Int} (h : resOkB c n zs = false) : resText c n zs = [] := by rw [resText, h]; rfl
theorem resText_yes {c : Int} {n : Nat} {zs : List Int} (h : resOkB c n zs = true) : resText c n zs = wordL c ++ tailL zs := by rw [resText, if_pos h]
theorem word_len (c : Int) : (wordL c).length ≤ 7 := by
 unfold wordL
 split
 ·decide
 ·split
  ·decide
  ·split <;> decide

theorem allB_bnd' {m : Int} {zs : List Int} (hm : 0 ≤ m) (h : allB m zs = true) : ∀ i : Nat, -m ≤ zs[i]?.getD 0 ∧ zs[i]?.getD 0 ≤ m := by
 intro i
 by_cases hi : i < zs.length
 ·unfold allB at h
  rw [List.all_eq_true] at h
  have := inB_iff.1 (h zs[i] (List.getElem_mem hi))
  rw [List.getElem?_eq_getElem hi]
  simpa using this
 ·rw [List.getElem?_eq_none (by omega)]
  simp; omega

theorem ret_str {a b : List UInt8} (h : a = b) : Ending.returned (.string ⟨a.toArray⟩) = .returned (.string ⟨b.toArray⟩) := by rw [h]

set_option maxHeartbeats 1600000 in
theorem stext_any (c : Int) (a : Option Addr) (n cap : Nat) (zs : List Int) (w : World) (hC : Ints w a n zs) (hn : n ≤ 1048576) :
  Calls Tryz.prog 128 #[resP c a n cap] w fun e w' => e = .returned (.string ⟨(resText c n zs).toArray⟩) ∧ Below w.heap.size w w' := by
 have HL : Hid (zs.length = n) := hC.1
 have B0 := ((Below.refl w.heap.size w).alloc (Nat.le_refl _) (.cells #[.int .i64 c, .slice a n cap] 114)).alloc (by simp) (.cells #[.string ⟨#[]⟩, .string ⟨#[100, 111, 110, 101]⟩, .string ⟨#[115, 116, 111, 112, 112, 101, 100]⟩, .string ⟨#[111, 118, 101, 114]⟩] 9)
 cases h1 : inB c 1 3
 ·have HR : Hid _ := resText_no (c := c) (n := n) (zs := zs) (by simp [resOkB, h1])
  go_enter Tryz.func128, Tryz.ntmps128
  go_wp2_with fail
  refine (in_any _ _ _ _).mono ?_
  rintro e w1 ⟨rfl, rfl⟩
  rw [h1]
  go_wp2
  go_ret
  exact ⟨by rw [HR.out]; rfl, B0⟩
 have c13 := inB_iff.1 h1
 have H1 : Hid _ := h1
 by_cases h2 : c = 1 ∨ n = 0
 ·by_cases h3 : n ≤ 6
  ·cases h4 : allB 999999999999 zs
   ·have h4' : okN (n : Int) 999999999999 n zs = false := by rw [okN_is rfl, h4]
    have HR : Hid _ := resText_no (c := c) (n := n) (zs := zs) (by simp [resOkB, h4])
    rcases h2 with rfl | rfl
    ·go_enter Tryz.func128, Tryz.ntmps128
     go_wp2_with fail
     refine (in_any _ _ _ _).mono ?_
     rintro e w1 ⟨rfl, rfl⟩
     rw [h1]
     go_wp2_with fail
     refine (all_any _ _ _ zs _ _ _ (hC.below B0) hn (by omega) (by omega)).mono ?_
     rintro e w1 ⟨rfl, rfl⟩
     rw [h4']
     go_wp2
     go_ret
     exact ⟨by rw [HR.out]; rfl, B0⟩
    ·exfalso
     have : zs = [] := List.eq_nil_of_length_eq_zero HL.out
     subst this
     cases h4
   ·have H4 : Hid (okN (n : Int) 999999999999 n zs = true) := by show _ = _; rw [okN_is rfl, h4]
    have HR : Hid _ := resText_yes (c := c) (n := n) (zs := zs) (by simp [resOkB, h1, h2, h3, h4])
    have BZ : Hid (∀ i : Nat, -999999999999 ≤ zs[i]?.getD 0 ∧ zs[i]?.getD 0 ≤ 999999999999) := allB_bnd' (by omega) h4
    clear h1 h4
    by_cases e1 : c = 1
    ·subst e1
     clear h2
     go_enter Tryz.func128, Tryz.ntmps128
     go_wp2_with fail
     refine (in_any _ _ _ _).mono ?_
     rintro e w1 ⟨rfl, rfl⟩
     rw [H1.out]
     go_wp2_with fail
     refine (all_any _ _ _ zs _ _ _ (hC.below B0) hn (by omega) (by omega)).mono ?_
     rintro e w1 ⟨rfl, rfl⟩
     rw [H4.out]
     obtain ⟨W, hW⟩ : ∃ W, W = (w.alloc (.cells #[.int .i64 1, .slice a n cap] 114)).alloc (.cells #[.string ⟨#[]⟩, .string ⟨#[100, 111, 110, 101]⟩, .string ⟨#[115, 116, 111, 112, 112, 101, 100]⟩, .string ⟨#[111, 118, 101, 114]⟩] 9) := ⟨_, rfl⟩
     have bx : Cel W w.heap.size [.int .i64 1, .slice a n cap] 114 := by rw [hW]; exact (Cel.new w _ _).alloc _
     have wd : Cel W (w.heap.size + 1) [.string ⟨#[]⟩, .string ⟨#[100, 111, 110, 101]⟩, .string ⟨#[115, 116, 111, 112, 112, 101, 100]⟩, .string ⟨#[111, 118, 101, 114]⟩] 9 := by rw [hW]; have := Cel.new (w.alloc (.cells #[.int .i64 1, .slice a n cap] 114)) [.string ⟨#[]⟩, .string ⟨#[100, 111, 110, 101]⟩, .string ⟨#[115, 116, 111, 112, 112, 101, 100]⟩, .string ⟨#[111, 118, 101, 114]⟩] 9; rwa [World.size_alloc] at this
     rw [← hW] at B0 ⊢
     clear hW
     have k0 := bx.cell 0
     have k1 := bx.cell 1
     have k2 := wd.cell 1
     simp only [List.getElem?_cons_zero, List.getElem?_cons_succ] at k0 k1 k2
     have hW := hC.below B0
     clear hC wd
     go_wp2_with fail
     go_loopw [4, 5] (fun s i wr => ∃ (k : Nat) (L : List UInt8), k ≤ n ∧ i = .int .i64 k ∧ s = .string ⟨L.toArray⟩ ∧ L = wordL 1 ++ tailL (zs.take k) ∧ L.length ≤ 7 + 22 * k ∧ Below W.heap.size W wr) (fun _ i _ => n - (intOf i).toNat)
     case atStart => exact ⟨0, wordL 1, Nat.zero_le _, rfl, rfl, by simp [tail_nil], by decide, Below.refl _ _⟩
     case round =>
      obtain ⟨k, L, hk, rfl, rfl, hL, hlen, hb⟩ := hrel
      have HLL : Hid _ := hL
      clear hL
      have hlen' : L.length ≤ 1000 := by omega
      have kk1 := (bx.below hb).cell 1
      simp only [List.getElem?_cons_zero, List.getElem?_cons_succ] at kk1
      by_cases hlt : k < n
      ·obtain ⟨b, off, rfl, hcell⟩ := (hW.below hb).pos (by omega)
       have hck : wr.cell? ⟨b, off + k, none⟩ = some (.int .i64 (zs[k]?.getD 0)) := by rw [hcell k hlt]; simp
       have HT : Hid _ := tail_step (zs := zs) (k := k) (by rw [HL.out]; exact hlt)
       have hz := BZ.out k
       generalize HG : zs[k]?.getD 0 = z at *
       clear HG hcell
       obtain ⟨z1, z2⟩ := hz
       have hI := Lib.itoa_length_le z (by omega) (by omega)
       generalize HGI : Lib.itoa z = I at *
       have HGI' : Hid _ := HGI
       clear HGI
       go_wp2_with fail
       refine (digits_any z _ (by omega) (by omega)).mono ?_
       rintro e w2 ⟨rfl, b2⟩
       rw [HGI'.out]
       go_wp2
       go_roundw
       case rel => exact ⟨k + 1, L ++ [32] ++ I, by omega, by go_num, by rw [show (⟨#[32]⟩ : ByteArray) = ⟨[32].toArray⟩ from rfl, cat_str, cat_str], by rw [HT.out, HLL.out, List.append_assoc, List.append_assoc], by rw [List.length_append, List.length_append, List.length_cons, List.length_nil]; omega, hb.trans (b2.mono hb.size)⟩
       case measure => simp [intOf]; omega
      ·go_wp2
       go_ret
       exact ⟨by rw [HR.out, HLL.out, tail_end (by rw [HL.out]; omega)]; rfl, B0.trans (hb.mono B0.size)⟩
    ·have hn0 : n ≤ 0 := by omega
     clear h2
     by_cases e2 : c = 2
     ·subst e2
      go_enter Tryz.func128, Tryz.ntmps128
      go_wp2_with fail
      refine (in_any _ _ _ _).mono ?_
      rintro e w1 ⟨rfl, rfl⟩
      rw [H1.out]
      go_wp2_with fail
      refine (all_any _ _ _ zs _ _ _ (hC.below B0) hn (by omega) (by omega)).mono ?_
      rintro e w1 ⟨rfl, rfl⟩
      rw [H4.out]
      obtain ⟨W, hW⟩ : ∃ W, W = (w.alloc (.cells #[.int .i64 2, .slice a n cap] 114)).alloc (.cells #[.string ⟨#[]⟩, .string ⟨#[100, 111, 110, 101]⟩, .string ⟨#[115, 116, 111, 112, 112, 101, 100]⟩, .string ⟨#[111, 118, 101, 114]⟩] 9) := ⟨_, rfl⟩
      have bx : Cel W w.heap.size [.int .i64 2, .slice a n cap] 114 := by rw [hW]; exact (Cel.new w _ _).alloc _
      have wd : Cel W (w.heap.size + 1) [.string ⟨#[]⟩, .string ⟨#[100, 111, 110, 101]⟩, .string ⟨#[115, 116, 111, 112, 112, 101, 100]⟩, .string ⟨#[111, 118, 101, 114]⟩] 9 := by rw [hW]; have := Cel.new (w.alloc (.cells #[.int .i64 2, .slice a n cap] 114)) [.string ⟨#[]⟩, .string ⟨#[100, 111, 110, 101]⟩, .string ⟨#[115, 116, 111, 112, 112, 101, 100]⟩, .string ⟨#[111, 118, 101, 114]⟩] 9; rwa [World.size_alloc] at this
      rw [← hW] at B0 ⊢
      clear hW
      have k0 := bx.cell 0
      have k1 := bx.cell 1
      have k2 := wd.cell 2
      simp only [List.getElem?_cons_zero, List.getElem?_cons_succ] at k0 k1 k2
      have hW := hC.below B0
      clear hC wd
      go_wp2_with fail
      go_loopw [4, 5] (fun s i wr => ∃ (k : Nat) (L : List UInt8), k ≤ n ∧ i = .int .i64 k ∧ s = .string ⟨L.toArray⟩ ∧ L = wordL 2 ++ tailL (zs.take k) ∧ L.length ≤ 7 + 22 * k ∧ Below W.heap.size W wr) (fun _ i _ => n - (intOf i).toNat)
      case atStart => exact ⟨0, wordL 2, Nat.zero_le _, rfl, rfl, by simp [tail_nil], by decide, Below.refl _ _⟩
      case round =>
       obtain ⟨k, L, hk, rfl, rfl, hL, hlen, hb⟩ := hrel
       have HLL : Hid _ := hL
       clear hL
       have hlen' : L.length ≤ 1000 := by omega
       have kk1 := (bx.below hb).cell 1
       simp only [List.getElem?_cons_zero, List.getElem?_cons_succ] at kk1
       by_cases hlt : k < n
       ·exfalso; omega
       ·go_wp2
        go_ret
        exact ⟨by rw [HR.out, HLL.out, tail_end (by rw [HL.out]; omega)]; rfl, B0.trans (hb.mono B0.size)⟩
     ·obtain rfl : c = 3 := by omega
      go_enter Tryz.func128, Tryz.ntmps128
      go_wp2_with fail
      refine (in_any _ _ _ _).mono ?_
      rintro e w1 ⟨rfl, rfl⟩
      rw [H1.out]
      go_wp2_with fail
      refine (all_any _ _ _ zs _ _ _ (hC.below B0) hn (by omega) (by omega)).mono ?_
      rintro e w1 ⟨rfl, rfl⟩
      rw [H4.out]
      obtain ⟨W, hW⟩ : ∃ W, W = (w.alloc (.cells #[.int .i64 3, .slice a n cap] 114)).alloc (.cells #[.string ⟨#[]⟩, .string ⟨#[100, 111, 110, 101]⟩, .string ⟨#[115, 116, 111, 112, 112, 101, 100]⟩, .string ⟨#[111, 118, 101, 114]⟩] 9) := ⟨_, rfl⟩
      have bx : Cel W w.heap.size [.int .i64 3, .slice a n cap] 114 := by rw [hW]; exact (Cel.new w _ _).alloc _
      have wd : Cel W (w.heap.size + 1) [.string ⟨#[]⟩, .string ⟨#[100, 111, 110, 101]⟩, .string ⟨#[115, 116, 111, 112, 112, 101, 100]⟩, .string ⟨#[111, 118, 101, 114]⟩] 9 := by rw [hW]; have := Cel.new (w.alloc (.cells #[.int .i64 3, .slice a n cap] 114)) [.string ⟨#[]⟩, .string ⟨#[100, 111, 110, 101]⟩, .string ⟨#[115, 116, 111, 112, 112, 101, 100]⟩, .string ⟨#[111, 118, 101, 114]⟩] 9; rwa [World.size_alloc] at this
      rw [← hW] at B0 ⊢
      clear hW
      have k0 := bx.cell 0
      have k1 := bx.cell 1
      have k2 := wd.cell 3
      simp only [List.getElem?_cons_zero, List.getElem?_cons_succ] at k0 k1 k2
      have hW := hC.below B0
      clear hC wd
      go_wp2_with fail
      go_loopw [4, 5] (fun s i wr => ∃ (k : Nat) (L : List UInt8), k ≤ n ∧ i = .int .i64 k ∧ s = .string ⟨L.toArray⟩ ∧ L = wordL 3 ++ tailL (zs.take k) ∧ L.length ≤ 7 + 22 * k ∧ Below W.heap.size W wr) (fun _ i _ => n - (intOf i).toNat)
      case atStart => exact ⟨0, wordL 3, Nat.zero_le _, rfl, rfl, by simp [tail_nil], by decide, Below.refl _ _⟩
      case round =>
       obtain ⟨k, L, hk, rfl, rfl, hL, hlen, hb⟩ := hrel
       have HLL : Hid _ := hL
       clear hL
       have hlen' : L.length ≤ 1000 := by omega
       have kk1 := (bx.below hb).cell 1
       simp only [List.getElem?_cons_zero, List.getElem?_cons_succ] at kk1
       by_cases hlt : k < n
       ·exfalso; omega
       ·go_wp2
        go_ret
        exact ⟨by rw [HR.out, HLL.out, tail_end (by rw [HL.out]; omega)]; rfl, B0.trans (hb.mono B0.size)⟩
  ·have HR : Hid _ := resText_no (c := c) (n := n) (zs := zs) (by simp [resOkB, h3])
   obtain rfl : c = 1 := by omega
   go_enter Tryz.func128, Tryz.ntmps128
   go_wp2_with fail
   refine (in_any _ _ _ _).mono ?_
   rintro e w1 ⟨rfl, rfl⟩
   rw [h1]
   go_wp2
   go_ret
   exact ⟨by rw [HR.out]; rfl, B0⟩
 ·have HR : Hid _ := resText_no (c := c) (n := n) (zs := zs) (by simp [resOkB, h2])
  have hc1 : (c != 1) = true := by simp; omega
  have hn0 : (0 : Int) < n := by omega
  go_enter Tryz.func128, Tryz.ntmps128
  go_wp2_with fail
  refine (in_any _ _ _ _).mono ?_
  rintro e w1 ⟨rfl, rfl⟩
  rw [h1]
  go_wp2
  go_ret
  exact ⟨by rw [HR.out]; rfl, B0⟩

end Go.Proofs.YtdigmokjedckeaaGreatDoor
namespace Go.Proofs
open Go.Shelf
def Tryz.lays156_ren : Go.Shelf.Ren := ⟨fun | 156 => 144 | 165 => 155 | 166 => 156 | 169 => 157 | 240 => 169 | 241 => 170 | 276 => 183 | 277 => 184 | n => n, fun | 31 => 195 | 9 => 9 | 3 => 3 | 4 => 4 | 0 => 0 | 20 => 20 | 72 => 209 | 76 => 213 | 70 => 206 | 37 => 207 | 75 => 212 | 127 => 226 | 164 => 234 | 5 => 5 | 80 => 193 | n => n, fun | n => n⟩
theorem Tryz.lays156 : Go.Proofs.Lays.n156 Tryz.prog Tryz.lays156_ren := {
  mixed := by kernel_rfl
  f156 := Tryz.func144.trans (congrArg some (by kernel_rfl))
  f165 := Tryz.func155.trans (congrArg some (by kernel_rfl))
  f166 := Tryz.func156.trans (congrArg some (by kernel_rfl))
  f169 := Tryz.func157.trans (congrArg some (by kernel_rfl))
  f240 := Tryz.func169.trans (congrArg some (by kernel_rfl))
  f241 := Tryz.func170.trans (congrArg some (by kernel_rfl))
  f276 := Tryz.func183.trans (congrArg some (by kernel_rfl))
  f277 := Tryz.func184.trans (congrArg some (by kernel_rfl))
  t0 := Tryz.underlying0
  a0 := Tryz.isAgg0
  z0 := Tryz.sizeOf0
  v0 := Tryz.zeroValue0
  t3 := Tryz.underlying3
  a3 := Tryz.isAgg3
  z3 := Tryz.sizeOf3
  v3 := Tryz.zeroValue3
  t4 := Tryz.underlying4
  a4 := Tryz.isAgg4
  z4 := Tryz.sizeOf4
  v4 := Tryz.zeroValue4
  t9 := Tryz.underlying9
  a9 := Tryz.isAgg9
  z9 := Tryz.sizeOf9
  v9 := Tryz.zeroValue9
  t20 := Tryz.underlying20
  a20 := Tryz.isAgg20
  z20 := Tryz.sizeOf20
  v20 := Tryz.zeroValue20
  t31 := Tryz.underlying195
  a31 := Tryz.isAgg195
  z31 := Tryz.sizeOf195
  v31 := Tryz.zeroValue195
  t37 := Tryz.underlying207
  a37 := Tryz.isAgg207
  z37 := Tryz.sizeOf207
  v37 := Tryz.zeroValue207
  t70 := Tryz.underlying206
  a70 := Tryz.isAgg206
  z70 := Tryz.sizeOf206
  v70 := Tryz.zeroValue206
  t72 := Tryz.underlying209
  a72 := Tryz.isAgg209
  z72 := Tryz.sizeOf209
  v72 := Tryz.zeroValue209
  t75 := Tryz.underlying212
  a75 := Tryz.isAgg212
  z75 := Tryz.sizeOf212
  v75 := Tryz.zeroValue212
  t76 := Tryz.underlying213
  a76 := Tryz.isAgg213
  z76 := Tryz.sizeOf213
  v76 := Tryz.zeroValue213
  t127 := Tryz.underlying226
  a127 := Tryz.isAgg226
  z127 := Tryz.sizeOf226
  v127 := Tryz.zeroValue226
  t164 := Tryz.underlying234
  a164 := Tryz.isAgg234
  z164 := Tryz.sizeOf234
  v164 := Tryz.zeroValue234 }
theorem Tryz.Builder_Extra_156 : Builder.Extra Tryz.prog Tryz.lays156_ren := {
  sizeBuilder := by kernel_rfl
  liesBuilder := by kernel_rfl
  t5 := Tryz.underlying5
  a5 := Tryz.isAgg5
  z5 := Tryz.sizeOf5
  v5 := Tryz.zeroValue5
  infoByte := by kernel_rfl
  cellsByte := by kernel_rfl
  sizeByte := by kernel_rfl
  neB5 := by decide }
open Go.RowKit in
theorem Tryz.strings_Join_none (a : Option Addr) (c : Nat) (sep : ByteArray) (w : World) :
    Calls Tryz.prog 144 #[.slice a 0 c, .string sep] w fun e w' => e = .returned (.string ⟨#[]⟩) ∧ w' = w := Any.strings_Join_none Tryz.lays156 Tryz.Builder_Extra_156 a c sep w
open Go.RowKit in
theorem Tryz.strings_Join (bk o c : Nat) (xs : List ByteArray) (sep : ByteArray) (w : World) (hcells : ∀ (j : Nat) x, xs[j]? = some x → w.cell? ⟨bk, o + j, none⟩ = some (.string x)) (hbk : bk < w.heap.size) (hN : xs.length ≤ 140737488355328) (hcap : xs.length ≤ c) (hlen : (Lib.join (xs.map (·.data.toList)) sep.data.toList).length ≤ 140737488355328) :
    Calls Tryz.prog 144 #[.slice (some ⟨bk, o, none⟩) xs.length c, .string sep] w fun e w' => e = .returned (.string ⟨(Lib.join (xs.map (·.data.toList)) sep.data.toList).toArray⟩) ∧ Below w.heap.size w w' := Any.strings_Join Tryz.lays156 Tryz.Builder_Extra_156 bk o c xs sep w hcells hbk hN hcap hlen
def Tryz.laysM171_ren : Go.Shelf.Ren := ⟨fun | 171 => 154 | 243 => 168 | 246 => 182 | 283 => 186 | 284 => 187 | 285 => 188 | 286 => 189 | 129 => 191 | 317 => 190 | 318 => 192 | 319 => 193 | 320 => 194 | 337 => 195 | 338 => 196 | n => n, fun | 3 => 3 | 9 => 9 | 2 => 2 | 4 => 4 | 171 => 239 | 0 => 0 | 53 => 240 | 37 => 207 | 5 => 5 | 173 => 243 | 212 => 247 | 51 => 248 | 20 => 20 | 213 => 249 | 46 => 250 | 232 => 253 | 233 => 254 | n => n, fun | 17 => 1 | 18 => 2 | 19 => 3 | n => n⟩
theorem Tryz.laysM171 : Go.Proofs.LaysM.n171 Tryz.prog Tryz.laysM171_ren := {
  mixed := by kernel_rfl
  f129 := Tryz.func191.trans (congrArg some (by kernel_rfl))
  f171 := Tryz.func154.trans (congrArg some (by kernel_rfl))
  f243 := Tryz.func168.trans (congrArg some (by kernel_rfl))
  f246 := Tryz.func182.trans (congrArg some (by kernel_rfl))
  f283 := Tryz.func186.trans (congrArg some (by kernel_rfl))
  f284 := Tryz.func187.trans (congrArg some (by kernel_rfl))
  f285 := Tryz.func188.trans (congrArg some (by kernel_rfl))
  f286 := Tryz.func189.trans (congrArg some (by kernel_rfl))
  f317 := Tryz.func190.trans (congrArg some (by kernel_rfl))
  f318 := Tryz.func192.trans (congrArg some (by kernel_rfl))
  f319 := Tryz.func193.trans (congrArg some (by kernel_rfl))
  f320 := Tryz.func194.trans (congrArg some (by kernel_rfl))
  f337 := Tryz.func195.trans (congrArg some (by kernel_rfl))
  f338 := Tryz.func196.trans (congrArg some (by kernel_rfl))
  t0 := Tryz.underlying0
  a0 := Tryz.isAgg0
  z0 := Tryz.sizeOf0
  v0 := Tryz.zeroValue0
  t2 := Tryz.underlying2
  a2 := Tryz.isAgg2
  z2 := Tryz.sizeOf2
  v2 := Tryz.zeroValue2
  t3 := Tryz.underlying3
  a3 := Tryz.isAgg3
  z3 := Tryz.sizeOf3
  v3 := Tryz.zeroValue3
  t4 := Tryz.underlying4
  a4 := Tryz.isAgg4
  z4 := Tryz.sizeOf4
  v4 := Tryz.zeroValue4
  t5 := Tryz.underlying5
  a5 := Tryz.isAgg5
  z5 := Tryz.sizeOf5
  v5 := Tryz.zeroValue5
  t9 := Tryz.underlying9
  a9 := Tryz.isAgg9
  z9 := Tryz.sizeOf9
  v9 := Tryz.zeroValue9
  t20 := Tryz.underlying20
  a20 := Tryz.isAgg20
  z20 := Tryz.sizeOf20
  v20 := Tryz.zeroValue20
  t37 := Tryz.underlying207
  a37 := Tryz.isAgg207
  z37 := Tryz.sizeOf207
  v37 := Tryz.zeroValue207
  t46 := Tryz.underlying250
  a46 := Tryz.isAgg250
  z46 := Tryz.sizeOf250
  v46 := Tryz.zeroValue250
  t51 := Tryz.underlying248
  a51 := Tryz.isAgg248
  z51 := Tryz.sizeOf248
  v51 := Tryz.zeroValue248
  t53 := Tryz.underlying240
  a53 := Tryz.isAgg240
  z53 := Tryz.sizeOf240
  v53 := Tryz.zeroValue240
  t171 := Tryz.underlying239
  a171 := Tryz.isAgg239
  z171 := Tryz.sizeOf239
  v171 := Tryz.zeroValue239
  t173 := Tryz.underlying243
  a173 := Tryz.isAgg243
  z173 := Tryz.sizeOf243
  v173 := Tryz.zeroValue243
  t212 := Tryz.underlying247
  a212 := Tryz.isAgg247
  z212 := Tryz.sizeOf247
  v212 := Tryz.zeroValue247
  t213 := Tryz.underlying249
  a213 := Tryz.isAgg249
  z213 := Tryz.sizeOf249
  t232 := Tryz.underlying253
  a232 := Tryz.isAgg253
  z232 := Tryz.sizeOf253
  v232 := Tryz.zeroValue253
  t233 := Tryz.underlying254
  a233 := Tryz.isAgg254
  z233 := Tryz.sizeOf254
  v233 := Tryz.zeroValue254
  g17 := by kernel_rfl
  g18 := by kernel_rfl
  g19 := by kernel_rfl
  i0 := by kernel_rfl
  i2 := by kernel_rfl
  i3 := by kernel_rfl
  i4 := by kernel_rfl
  i5 := by kernel_rfl
  i9 := by kernel_rfl
  i20 := by kernel_rfl
  i37 := by kernel_rfl
  i46 := by kernel_rfl
  i51 := by kernel_rfl
  i53 := by kernel_rfl
  i171 := by kernel_rfl
  i173 := by kernel_rfl
  i212 := by kernel_rfl
  i232 := by kernel_rfl
  i233 := by kernel_rfl
  m17 := by kernel_rfl
  m18 := by kernel_rfl
  m19 := by kernel_rfl }
open Go.RowKit Go.Sort Go.Lib in
theorem Tryz.strconv_Itoa (n : Int) (h0 : -9223372036854775808 ≤ n) (h1 : n ≤ 9223372036854775807) (w : World) (htab : Lib.TabIs Tryz.prog w "internal/strconv.uint64pow10" .u64 Lib.pow10Tab) :
    Calls Tryz.prog 154 #[.int .i64 n] w fun e w' => e = .returned (.string ⟨(Lib.itoa n).toArray⟩) ∧ ∃ k os, w' = grow (w.drewN k) os := Any.strconv_Itoa Tryz.laysM171 n h0 h1 w htab
end Go.Proofs
namespace Go.Proofs.YtdigmokjedckeaaGreatDoor
open Go.RowKit
set_option linter.unusedVariables false
set_option maxRecDepth 100000

/-- A list of strings that has been made since w, and grows; old memory is as it was. -/
structure JT (w : World) (v : Value) (xs : List ByteArray) (W : World) : Prop where
 b : Below w.heap.size w W
 o : W.ownsRow w.heap.size 9 1 v xs.length (xs.map Value.string)
theorem JT.one (w : World) (x : ByteArray) : JT w (.slice (some ⟨w.heap.size, 0, none⟩) 1 1) [x] (w.alloc (.cells #[.string x] 9)) :=
 ⟨(Below.refl _ _).alloc (Nat.le_refl _) _, World.ownsRow_lit w #[.string x] 1 (Nat.le_refl _) (by unfold maxLen; omega) rfl⟩
theorem JT.alloc {w W : World} {v : Value} {xs : List ByteArray} (j : JT w v xs W) (o : Obj) : JT w v xs (W.alloc o) := ⟨j.b.alloc j.b.size _, j.o.alloc o⟩
theorem JT.below {w W W' : World} {v : Value} {xs : List ByteArray} (j : JT w v xs W) (h : Below W.heap.size W W') : JT w v xs W' := by
 refine ⟨j.b.trans (h.mono j.b.size), j.o.1, ?_⟩
 rcases j.o.2 with h2 | ⟨g, cap, cur, hv, hg, hh, r⟩
 ·exact Or.inl h2
 ·exact Or.inr ⟨g, cap, cur, hv, hg, by rw [h.block g (lt_of_block hh)]; exact hh, r⟩
theorem JT.app {w W W' : World} {v : Value} {xs : List ByteArray} {y : ByteArray} {g cap k : Nat} {o : Obj} (j : JT w v xs W) (hk : xs.length = k) (hown : W'.ownsRow w.heap.size 9 1 (.slice (some ⟨g, 0, none⟩) (k + 1) cap) (k + 1) (xs.map Value.string ++ [.string y])) (hg : (W.alloc o).grownBy W' v.ownBlock) :
  JT w (.slice (some ⟨g, 0, none⟩) (k + 1) cap) (xs ++ [y]) W' := by
 refine ⟨(j.alloc o).b.grown hg (j.alloc o).b.size (fun k hk => ((j.alloc o).o.lt k hk).1), ?_⟩
 rw [List.length_append, hk, List.map_append]
 exact hown
theorem JT.cells {w W : World} {v : Value} {xs : List ByteArray} {k : Nat} (j : JT w v xs W) (hk : xs.length = k) (h0 : 0 < k) : ∃ g cap, v = .slice (some ⟨g, 0, none⟩) k cap ∧ k ≤ cap ∧ g < W.heap.size ∧ ∀ (i : Nat) x, xs[i]? = some x → W.cell? ⟨g, 0 + i, none⟩ = some (.string x) := by
 subst hk
 rcases j.o.2 with ⟨hv, h⟩ | ⟨g, cap', cur, rfl, hg, hh, hl, _, _⟩
 ·omega
 ·refine ⟨g, cap', rfl, hl, lt_of_block hh, fun i x hx => ?_⟩
  have hi := (List.getElem?_eq_some_iff.1 hx).1
  have := j.o.cellAt i (by omega)
  rw [Nat.zero_add, this]
  simp [hx]

theorem newsS (w : World) (x : Value) (t : TypeId) : ∀ j u, [x][j]? = some u → (w.alloc (.cells #[x] t)).cell? ((⟨w.heap.size, 0, none⟩ : Addr).add j) = some u := fun j u hu => by
 match j, hu with
 | 0, hu =>
  simp only [List.getElem?_cons_zero, Option.some.injEq] at hu
  subst hu
  simp [Addr.add]
theorem oneS (x : ByteArray) : ∀ u ∈ [Value.string x], u.oneCell' = true := fun u hu => by
 simp at hu; subst hu; rfl
theorem Tryz.infoStr : (Tryz.prog.info? 9).map (fun i => (i.zero, i.size, i.bytes)) = some (some (.string ⟨#[]⟩), 1, 16) := by kernel_rfl

theorem word_any (c : Int) (w : World) : Calls Tryz.prog 153 #[.int .i64 c] w fun e w' => e = .returned (.string ⟨(wordL c).toArray⟩) ∧ w' = w := by
 by_cases h1 : c = 1
 ·subst h1
  go_enter Tryz.func153, Tryz.ntmps153
  go_wp2
  go_ret
  exact ⟨rfl, rfl⟩
 have h1' : (c == 1) = false := by simp [h1]
 by_cases h2 : c = 2
 ·subst h2
  go_enter Tryz.func153, Tryz.ntmps153
  go_wp2
  go_ret
  exact ⟨rfl, rfl⟩
 have h2' : (c == 2) = false := by simp [h2]
 by_cases h3 : c = 3
 ·subst h3
  go_enter Tryz.func153, Tryz.ntmps153
  go_wp2
  go_ret
  exact ⟨rfl, rfl⟩
 have h3' : (c == 3) = false := by simp [h3]
 have e : wordL c = [] := by rw [wordL, if_neg h1, if_neg h2, if_neg h3]
 rw [e]
 go_enter Tryz.func153, Tryz.ntmps153
 go_wp2
 go_ret
 exact ⟨rfl, rfl⟩

theorem tail_len {zs : List Int} (hb : ∀ i : Nat, -999999999999 ≤ zs[i]?.getD 0 ∧ zs[i]?.getD 0 ≤ 999999999999) : ∀ k, k ≤ zs.length → (tailL (zs.take k)).length ≤ 22 * k
 | 0, _ => by simp [tailL, Lib.joinTail]
 | k + 1, h => by
  have ih := tail_len hb k (by omega)
  have hz := hb k
  have := Lib.itoa_length_le (zs[k]?.getD 0) (by omega) (by omega)
  rw [tail_step (by omega), List.length_append, List.length_append]
  simp only [List.length_cons, List.length_nil]
  omega

end Go.Proofs.YtdigmokjedckeaaGreatDoor
namespace Go.Proofs.YtdigmokjedckeaaGreatDoor
open Go.RowKit
set_option linter.unusedVariables false
set_option maxRecDepth 100000

def wordsT (l : List UInt8) (zs : List Int) : List ByteArray := ⟨l.toArray⟩ :: zs.map fun z => ⟨(Lib.itoa z).toArray⟩
theorem wordsT_join (l : List UInt8) (zs : List Int) : Lib.join ((wordsT l zs).map (·.data.toList)) [32] = l ++ tailL zs := by
 rw [wordsT, List.map_cons, Lib.join_cons, tailL, List.map_map]
 rfl
theorem wordsT_step {l : List UInt8} {zs : List Int} {k : Nat} (h : k < zs.length) : wordsT l (zs.take (k + 1)) = wordsT l (zs.take k) ++ [⟨(Lib.itoa (zs[k]?.getD 0)).toArray⟩] := by
 rw [wordsT, wordsT, List.take_succ_eq_append_getElem h, List.getElem?_eq_getElem h, List.map_append]
 rfl
set_option maxHeartbeats 3200000 in
theorem itwn_any (l : List UInt8) (a : Option Addr) (n cap : Nat) (zs : List Int) (w : World) (hC : Ints w a n zs) (hn : n ≤ 1000) (hl : l.length ≤ 1000) (hz : ∀ i : Nat, -999999999999 ≤ zs[i]?.getD 0 ∧ zs[i]?.getD 0 ≤ 999999999999) (hT : Lib.TabBelow Tryz.prog w.heap.size w "internal/strconv.uint64pow10" .u64 Lib.pow10Tab) :
  Calls Tryz.prog 143 #[.string ⟨l.toArray⟩, .slice a n cap] w fun e w' => e = .returned (.string ⟨(l ++ tailL zs).toArray⟩) ∧ Below w.heap.size w w' := by
 have HL : Hid (zs.length = n) := hC.1
 have HTB : Hid _ := hT
 have BZ : Hid (∀ i : Nat, -999999999999 ≤ zs[i]?.getD 0 ∧ zs[i]?.getD 0 ≤ 999999999999) := hz
 have HLL : Hid (l.length ≤ 1000) := hl
 clear hT hz hl
 obtain ⟨i0, hi, hz0, hz1, hz2⟩ := info_parts Tryz.infoStr
 obtain ⟨S, hS⟩ : ∃ S : ByteArray, S = ⟨l.toArray⟩ := ⟨_, rfl⟩
 have HS0 : Hid (S = ⟨l.toArray⟩) := hS
 rw [← hS]
 clear hS
 go_enter Tryz.func143, Tryz.ntmps143
 go_wp2_with fail
 go_loopw [5, 7, 12] (fun v _ i wr => ∃ (k : Nat) (xs : List ByteArray), k ≤ n ∧ i = .int .i64 k ∧ xs.length = k + 1 ∧ xs = wordsT l (zs.take k) ∧ JT w v xs wr) (fun _ _ i _ => n - (intOf i).toNat)
 case atStart => exact ⟨0, _, Nat.zero_le _, rfl, rfl, by rw [HS0.out]; rfl, JT.one w S⟩
 case round =>
  obtain ⟨k, xs, hk, rfl, hxl, hxs, j⟩ := hrel
  have HXL : Hid _ := hxl
  have HXS : Hid _ := hxs
  clear hxl hxs
  have hjb := j.b.size
  by_cases hlt : k < n
  ·obtain ⟨b, off, rfl, hcell⟩ := (hC.below j.b).pos (by omega)
   have hck : wr.cell? ⟨b, off + k, none⟩ = some (.int .i64 (zs[k]?.getD 0)) := by rw [hcell k hlt]; simp
   have HS : Hid _ := wordsT_step (l := l) (zs := zs) (k := k) (by rw [HL.out]; exact hlt)
   have hz := BZ.out k
   generalize HG : zs[k]?.getD 0 = z at hck HS hz
   clear HG hcell
   obtain ⟨z1, z2⟩ := hz
   have tab : Lib.TabIs Tryz.prog wr "internal/strconv.uint64pow10" .u64 Lib.pow10Tab := HTB.out wr j.b
   go_wp2_with fail
   refine (Tryz.strconv_Itoa z (by omega) (by omega) _ tab).mono ?_
   rintro e w2 ⟨rfl, q, os, hw2⟩
   have b2 : Below wr.heap.size wr w2 := by rw [hw2]; exact Lib.below_grow _ _ (Nat.le_refl _) _ _
   clear hw2 tab
   have j2 := j.below b2
   have jo := j2.o
   rw [HXL.out] at jo
   have hjb2 := j2.b.size
   clear b2 j
   obtain ⟨I, hI⟩ : ∃ I : ByteArray, I = ⟨(Lib.itoa z).toArray⟩ := ⟨_, rfl⟩
   rw [← hI]
   have HI : Hid _ := hI
   clear hI
   go_wp2_with (at_builtin; go_must (refine wpList_append_lies _ rfl (.tmp 16) (.tmp 19) 195 rfl w.heap.size 9 i0 (.string ⟨#[]⟩) 1 16 Tryz.underlying195 hi hz0 hz1 hz2 rfl (by decide) _ _ _ rfl (jo.alloc _) ⟨w2.heap.size, 0, none⟩ 1 1 [.string I] rfl rfl (newsS _ _ _) (oneS _) (by omega) (by unfold maxLen; omega) (by omega) (by rw [World.size_alloc]; omega) _ rfl ?_); intro g cp w3 hown hgrow hat hlt1)
   have j3 := j2.app HXL.out hown hgrow
   clear hown hgrow jo j2 hat
   go_wp2
   go_roundw
   case rel => exact ⟨k + 1, _, by omega, by go_num, by rw [List.length_append, HXL.out]; rfl, by rw [HS.out, HXS.out, HI.out], j3⟩
   case measure => simp [intOf]; omega
  ·obtain rfl : k = n := by omega
   obtain ⟨g, gc, rfl, hcap, hg, hcs⟩ := j.cells HXL.out (by omega)
   have HJ := Tryz.strings_Join g 0 gc xs ⟨#[32]⟩ wr hcs hg (by rw [HXL.out]; omega) (by rw [HXL.out]; exact hcap) (by
    rw [HXS.out, List.take_of_length_le (by rw [HL.out]; exact Nat.le_refl _)]
    have := wordsT_join l zs
    rw [show (⟨#[32]⟩ : ByteArray).data.toList = [32] from rfl, this, List.length_append]
    have := tail_len BZ.out zs.length (Nat.le_refl _)
    rw [List.take_length] at this
    have := HLL.out
    have := HL.out
    omega)
   rw [HXL.out] at HJ
   have jb := j.b
   clear hcs hcap hg j
   go_wp2_with fail
   refine HJ.mono ?_
   rintro e w2 ⟨rfl, b2⟩
   have B2 := jb.trans (b2.mono (by omega))
   go_wp2
   go_ret
   refine ⟨?_, B2⟩
   rw [← wordsT_join l zs, HXS.out, List.take_of_length_le (by rw [HL.out]; exact Nat.le_refl _)]
   rfl

end Go.Proofs.YtdigmokjedckeaaGreatDoor
namespace Go.Proofs.YtdigmokjedckeaaGreatDoor
open Go.RowKit
set_option linter.unusedVariables false
set_option maxRecDepth 100000

set_option maxHeartbeats 3200000 in
theorem itext_any (c : Int) (a : Option Addr) (n cap : Nat) (zs : List Int) (w : World) (hC : Ints w a n zs) (hn : n ≤ 1048576) (hT : Lib.TabBelow Tryz.prog w.heap.size w "internal/strconv.uint64pow10" .u64 Lib.pow10Tab) :
  Calls Tryz.prog 139 #[resP c a n cap] w fun e w' => e = .returned (.string ⟨(resText c n zs).toArray⟩) ∧ Below w.heap.size w w' := by
 have HL : Hid (zs.length = n) := hC.1
 have HTB : Hid _ := hT
 clear hT
 have B0 := (Below.refl w.heap.size w).alloc (Nat.le_refl _) (.cells #[.int .i64 c, .slice a n cap] 114)
 obtain ⟨i0, hi, hz0, hz1, hz2⟩ := info_parts Tryz.infoStr
 cases h1 : inB c 1 3
 ·have HR : Hid _ := resText_no (c := c) (n := n) (zs := zs) (by simp [resOkB, h1])
  have c13 := inB_not.1 h1
  have hw : (⟨(wordL c).toArray⟩ : ByteArray) = ⟨#[]⟩ := by rw [wordL, if_neg (by omega), if_neg (by omega), if_neg (by omega)]
  have HW : Hid _ := hw
  clear hw h1
  go_enter Tryz.func139, Tryz.ntmps139
  go_wp2_with fail
  refine (word_any _ _).mono ?_
  rintro e w1 ⟨rfl, rfl⟩
  rw [HW.out]
  go_wp2
  go_ret
  exact ⟨by rw [HR.out]; rfl, B0⟩
 have c13 := inB_iff.1 h1
 by_cases h2 : c = 1 ∨ n = 0
 ·by_cases h3 : n ≤ 6
  ·cases h4 : allB 999999999999 zs
   ·have HR : Hid _ := resText_no (c := c) (n := n) (zs := zs) (by simp [resOkB, h4])
    rcases h2 with rfl | rfl
    ·go_enter Tryz.func139, Tryz.ntmps139
     go_wp2_with fail
     refine (word_any _ _).mono ?_
     rintro e w1 ⟨rfl, rfl⟩
     rw [show (⟨(wordL 1).toArray⟩ : ByteArray) = ⟨#[100, 111, 110, 101]⟩ from rfl]
     go_wp2_with fail
     refine (within_any _ _ _ zs _ _ (hC.below B0) hn (by omega) (by omega)).mono ?_
     rintro e w1 ⟨rfl, rfl⟩
     rw [h4]
     go_wp2
     go_ret
     exact ⟨by rw [HR.out]; rfl, B0⟩
    ·exfalso
     have : zs = [] := List.eq_nil_of_length_eq_zero HL.out
     subst this
     cases h4
   ·have H4 : Hid (allB 999999999999 zs = true) := h4
    have HR : Hid _ := resText_yes (c := c) (n := n) (zs := zs) (by simp [resOkB, h1, h2, h3, h4])
    have BZ : Hid (∀ i : Nat, -999999999999 ≤ zs[i]?.getD 0 ∧ zs[i]?.getD 0 ≤ 999999999999) := allB_bnd' (by omega) h4
    clear h1 h4
    by_cases e1 : c = 1
    ·subst e1
     clear h2
     go_enter Tryz.func139, Tryz.ntmps139
     go_wp2_with fail
     refine (word_any _ _).mono ?_
     rintro e w1 ⟨rfl, rfl⟩
     rw [show (⟨(wordL 1).toArray⟩ : ByteArray) = ⟨#[100, 111, 110, 101]⟩ from rfl]
     go_wp2_with fail
     refine (within_any _ _ _ zs _ _ (hC.below B0) hn (by omega) (by omega)).mono ?_
     rintro e w1 ⟨rfl, rfl⟩
     rw [H4.out]
     obtain ⟨W, hW⟩ : ∃ W, W = w.alloc (.cells #[.int .i64 1, .slice a n cap] 114) := ⟨_, rfl⟩
     have bx : Cel W w.heap.size [.int .i64 1, .slice a n cap] 114 := by rw [hW]; exact Cel.new w _ _
     rw [← hW] at B0 ⊢
     clear hW
     have k1 := bx.cell 1
     simp only [List.getElem?_cons_zero, List.getElem?_cons_succ] at k1
     have hCW := hC.below B0
     clear hC
     go_wp2_with fail
     refine (itwn_any (wordL 1) a n cap zs W hCW (by omega) (by have := word_len 1; omega) BZ.out (fun X hX => HTB.out X (B0.trans (hX.mono B0.size)))).mono ?_
     rintro e w2 ⟨rfl, b2⟩
     have B2 := B0.trans (b2.mono B0.size)
     obtain ⟨Z, hZ⟩ : ∃ Z : ByteArray, Z = ⟨(wordL 1 ++ tailL zs).toArray⟩ := ⟨_, rfl⟩
     have HZ : Hid (Z = ⟨(wordL 1 ++ tailL zs).toArray⟩) := hZ
     rw [← hZ]
     clear hZ k1 bx hCW
     go_wp2
     go_ret
     exact ⟨by rw [HR.out, HZ.out]; rfl, B2⟩
    ·have hn0 : n ≤ 0 := by omega
     have hn0' : ((n : Int) == 0) = true := by simp; omega
     clear h2
     by_cases e2 : c = 2
     ·subst e2
      go_enter Tryz.func139, Tryz.ntmps139
      go_wp2_with fail
      refine (word_any _ _).mono ?_
      rintro e w1 ⟨rfl, rfl⟩
      rw [show (⟨(wordL 2).toArray⟩ : ByteArray) = ⟨#[115, 116, 111, 112, 112, 101, 100]⟩ from rfl]
      go_wp2_with fail
      refine (within_any _ _ _ zs _ _ (hC.below B0) hn (by omega) (by omega)).mono ?_
      rintro e w1 ⟨rfl, rfl⟩
      rw [H4.out]
      obtain ⟨W, hW⟩ : ∃ W, W = w.alloc (.cells #[.int .i64 2, .slice a n cap] 114) := ⟨_, rfl⟩
      have bx : Cel W w.heap.size [.int .i64 2, .slice a n cap] 114 := by rw [hW]; exact Cel.new w _ _
      rw [← hW] at B0 ⊢
      clear hW
      have k1 := bx.cell 1
      simp only [List.getElem?_cons_zero, List.getElem?_cons_succ] at k1
      have hCW := hC.below B0
      clear hC
      go_wp2_with fail
      refine (itwn_any (wordL 2) a n cap zs W hCW (by omega) (by have := word_len 2; omega) BZ.out (fun X hX => HTB.out X (B0.trans (hX.mono B0.size)))).mono ?_
      rintro e w2 ⟨rfl, b2⟩
      have B2 := B0.trans (b2.mono B0.size)
      obtain ⟨Z, hZ⟩ : ∃ Z : ByteArray, Z = ⟨(wordL 2 ++ tailL zs).toArray⟩ := ⟨_, rfl⟩
      have HZ : Hid (Z = ⟨(wordL 2 ++ tailL zs).toArray⟩) := hZ
      rw [← hZ]
      clear hZ k1 bx hCW
      go_wp2
      go_ret
      exact ⟨by rw [HR.out, HZ.out]; rfl, B2⟩
     ·obtain rfl : c = 3 := by omega
      go_enter Tryz.func139, Tryz.ntmps139
      go_wp2_with fail
      refine (word_any _ _).mono ?_
      rintro e w1 ⟨rfl, rfl⟩
      rw [show (⟨(wordL 3).toArray⟩ : ByteArray) = ⟨#[111, 118, 101, 114]⟩ from rfl]
      go_wp2_with fail
      refine (within_any _ _ _ zs _ _ (hC.below B0) hn (by omega) (by omega)).mono ?_
      rintro e w1 ⟨rfl, rfl⟩
      rw [H4.out]
      obtain ⟨W, hW⟩ : ∃ W, W = w.alloc (.cells #[.int .i64 3, .slice a n cap] 114) := ⟨_, rfl⟩
      have bx : Cel W w.heap.size [.int .i64 3, .slice a n cap] 114 := by rw [hW]; exact Cel.new w _ _
      rw [← hW] at B0 ⊢
      clear hW
      have k1 := bx.cell 1
      simp only [List.getElem?_cons_zero, List.getElem?_cons_succ] at k1
      have hCW := hC.below B0
      clear hC
      go_wp2_with fail
      refine (itwn_any (wordL 3) a n cap zs W hCW (by omega) (by have := word_len 3; omega) BZ.out (fun X hX => HTB.out X (B0.trans (hX.mono B0.size)))).mono ?_
      rintro e w2 ⟨rfl, b2⟩
      have B2 := B0.trans (b2.mono B0.size)
      obtain ⟨Z, hZ⟩ : ∃ Z : ByteArray, Z = ⟨(wordL 3 ++ tailL zs).toArray⟩ := ⟨_, rfl⟩
      have HZ : Hid (Z = ⟨(wordL 3 ++ tailL zs).toArray⟩) := hZ
      rw [← hZ]
      clear hZ k1 bx hCW
      go_wp2
      go_ret
      exact ⟨by rw [HR.out, HZ.out]; rfl, B2⟩
  ·have HR : Hid _ := resText_no (c := c) (n := n) (zs := zs) (by simp [resOkB, h3])
   obtain rfl : c = 1 := by omega
   go_enter Tryz.func139, Tryz.ntmps139
   go_wp2_with fail
   refine (word_any _ _).mono ?_
   rintro e w1 ⟨rfl, rfl⟩
   rw [show (⟨(wordL 1).toArray⟩ : ByteArray) = ⟨#[100, 111, 110, 101]⟩ from rfl]
   go_wp2
   go_ret
   exact ⟨by rw [HR.out]; rfl, B0⟩
 ·have HR : Hid _ := resText_no (c := c) (n := n) (zs := zs) (by simp [resOkB, h2])
  have hn0 : ((n : Int) == 0) = false := by simp; omega
  clear h1
  by_cases e2 : c = 2
  ·subst e2
   go_enter Tryz.func139, Tryz.ntmps139
   go_wp2_with fail
   refine (word_any _ _).mono ?_
   rintro e w1 ⟨rfl, rfl⟩
   rw [show (⟨(wordL 2).toArray⟩ : ByteArray) = ⟨#[115, 116, 111, 112, 112, 101, 100]⟩ from rfl]
   go_wp2
   go_ret
   exact ⟨by rw [HR.out]; rfl, B0⟩
  ·obtain rfl : c = 3 := by omega
   go_enter Tryz.func139, Tryz.ntmps139
   go_wp2_with fail
   refine (word_any _ _).mono ?_
   rintro e w1 ⟨rfl, rfl⟩
   rw [show (⟨(wordL 3).toArray⟩ : ByteArray) = ⟨#[111, 118, 101, 114]⟩ from rfl]
   go_wp2
   go_ret
   exact ⟨by rw [HR.out]; rfl, B0⟩

end Go.Proofs.YtdigmokjedckeaaGreatDoor
namespace Go.Proofs.YtdigmokjedckeaaGreatDoor
open Go.RowKit
set_option linter.unusedVariables false
set_option maxRecDepth 100000

/-- A text is not empty. -/
def fullB (l : List UInt8) : Bool := !(⟨l.toArray⟩ : ByteArray).toList.isEmpty

set_option maxHeartbeats 800000 in
theorem sresok_any (c : Int) (a : Option Addr) (n cap : Nat) (zs : List Int) (w : World) (hC : Ints w a n zs) (hn : n ≤ 1048576) :
  Calls Tryz.prog 100 #[resP c a n cap] w fun e w' => e = .returned (.bool (fullB (resText c n zs))) ∧ Below w.heap.size w w' := by
 obtain ⟨T, hTx⟩ : ∃ T : ByteArray, T = ⟨(resText c n zs).toArray⟩ := ⟨_, rfl⟩
 have HTX : Hid _ := hTx
 clear hTx
 have B0 := (Below.refl w.heap.size w).alloc (Nat.le_refl _) (.cells #[.int .i64 c, .slice a n cap] 114)
 go_enter Tryz.func100, Tryz.ntmps100
 go_wp2_with fail
 refine (stext_any _ _ _ _ zs _ (hC.alloc _) hn).mono ?_
 rintro e w1 ⟨rfl, b1⟩
 rw [← HTX.out]
 go_wp2
 go_ret
 exact ⟨by rw [fullB, ← HTX.out]; rfl, B0.trans (b1.mono B0.size)⟩

set_option maxHeartbeats 800000 in
theorem iresok_any (c : Int) (a : Option Addr) (n cap : Nat) (zs : List Int) (w : World) (hC : Ints w a n zs) (hn : n ≤ 1048576) (hT : Lib.TabBelow Tryz.prog w.heap.size w "internal/strconv.uint64pow10" .u64 Lib.pow10Tab) :
  Calls Tryz.prog 113 #[resP c a n cap] w fun e w' => e = .returned (.bool (fullB (resText c n zs))) ∧ Below w.heap.size w w' := by
 obtain ⟨T, hTx⟩ : ∃ T : ByteArray, T = ⟨(resText c n zs).toArray⟩ := ⟨_, rfl⟩
 have HTX : Hid _ := hTx
 have HT : Hid _ := hT
 clear hTx hT
 have B0 := (Below.refl w.heap.size w).alloc (Nat.le_refl _) (.cells #[.int .i64 c, .slice a n cap] 114)
 go_enter Tryz.func113, Tryz.ntmps113
 go_wp2_with fail
 refine (itext_any _ _ _ _ zs _ (hC.alloc _) hn (fun w' h' => HT.out w' (B0.trans (h'.mono B0.size)))).mono ?_
 rintro e w1 ⟨rfl, b1⟩
 rw [← HTX.out]
 go_wp2
 go_ret
 exact ⟨by rw [fullB, ← HTX.out]; rfl, B0.trans (b1.mono B0.size)⟩

end Go.Proofs.YtdigmokjedckeaaGreatDoor
