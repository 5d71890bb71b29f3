/-
  Lemmas that the claim's last text rests on: CalS, GotE, GotS, SitP, ClkP, CallT, Tk, CallI, CallOkW, GotW, ClkW2.
-/
import Derived.Test.YtdigmokjedckeaaGreatDoorJExactClkOkCardE
import Derived.Test.YtdigmokjedckeaaGreatDoorForms
import Derived.Test.YtdigmokjedckeaaGreatDoorIntSS
import Derived.Test.YtdigmokjedckeaaGreatDoorJExactClkOkCardD
import Derived.Test.YtdigmokjedckeaaGreatDoorJExactClkOkCardC
import Derived.Test.YtdigmokjedckeaaGreatDoorKeyed
import Derived.Deep.DeepCutAuto
namespace Go.Proofs.YtdigmokjedckeaaGreatDoor
open Go.ChangeShapes Go.WideShapes Go.ChangeAt Go.RowKit Go.Joins Go.Deep
set_option linter.unusedVariables false
set_option maxRecDepth 100000

/-- A slice of them that came in. -/
def QSM (w : World) (ad : Option Addr) (fs : List QV) : Prop :=
 ∀ i, i < fs.length → ∃ b off, ad = some ⟨b, off, none⟩ ∧ (∀ r, r < 4 → w.cell? ⟨b, off + i * 4 + r, none⟩ = (fs[i]?.getD noQ).cs[r]?) ∧ QM w (fs[i]?.getD noQ)
theorem QSM.below {w w' : World} {ad : Option Addr} {fs : List QV} (h : QSM w ad fs) (hb : Below w.heap.size w w') : QSM w' ad fs := fun i hi => by
 obtain ⟨b, off, e, hc, hr⟩ := h i hi
 have hl : b < w.heap.size := block_lt (v := ((fs[i]?.getD noQ).cs[0]?).getD (.bool false)) ((hc 0 (by omega)).trans rfl)
 exact ⟨b, off, e, fun r hr => by rw [hb.cell (p := ⟨b, off + i * 4 + r, none⟩) hl]; exact hc r hr, hr.below hb⟩
/-- One that may be copied. -/
def QSG (w : World) (ad : Option Addr) (fs : List QV) : Prop :=
 ∀ i, i < fs.length → ∃ b off, ad = some ⟨b, off, none⟩ ∧ (∀ r, r < 4 → w.cell? ⟨b, off + i * 4 + r, none⟩ = (fs[i]?.getD noQ).cs[r]?) ∧ QG w (fs[i]?.getD noQ)
theorem QSG.below {w w' : World} {ad : Option Addr} {fs : List QV} (h : QSG w ad fs) (hb : Below w.heap.size w w') : QSG w' ad fs := fun i hi => by
 obtain ⟨b, off, e, hc, hr⟩ := h i hi
 have hl : b < w.heap.size := block_lt (v := ((fs[i]?.getD noQ).cs[0]?).getD (.bool false)) ((hc 0 (by omega)).trans rfl)
 exact ⟨b, off, e, fun r hr => by rw [hb.cell (p := ⟨b, off + i * 4 + r, none⟩) hl]; exact hc r hr, hr.below hb⟩
theorem QSM.g {w : World} {ad : Option Addr} {fs : List QV} (h : QSM w ad fs) (hs : ∀ i, i < fs.length → QZ (fs[i]?.getD noQ)) : QSG w ad fs := fun i hi => by
 obtain ⟨b, off, e, hc, hr⟩ := h i hi
 exact ⟨b, off, e, hc, hr.g (hs i hi)⟩
theorem cellsQ {w : World} {b o : Nat} {f : QV} (h : ∀ r, r < 4 → w.cell? ⟨b, o + r, none⟩ = f.cs[r]?) : w.cell? ⟨b, o, none⟩ = some (.int .i64 f.x) ∧ w.cell? ⟨b, o + 1, none⟩ = some (.int .i64 f.q) ∧ w.cell? ⟨b, o + 2, none⟩ = some (.int .i64 f.c) ∧ w.cell? ⟨b, o + 3, none⟩ = some (f.t.v) := ⟨h 0 (by omega), h 1 (by omega), h 2 (by omega), h 3 (by omega)⟩

theorem open_QS {H : Type} {enc : TypeId × Value → H} {W : World} {fuel : Nat} {v : Value} {y : DataW H × List MemPlace}
  (hf : DataW.trod enc Tryz.prog W 0 (fun _ => true) true fuel 43 [v] = some y) :
  ∃ ad N cap fs, v = .slice ad N cap ∧ fs.length = N ∧ QSM W ad fs ∧ N ≤ maxLen := by
 obtain ⟨ad, N, cap, fs, hv, hl, hN, hall⟩ := open_sliceC noQ QV.cs (fun f => QM W f) (c := 4) (by omega) Tryz.underlying43 (by kernel_rfl) (fun _ => rfl) (fun fuel cs x hx => open_QC hx) hf
 exact ⟨ad, N, cap, fs, hv, hl, hall, hN⟩

set_option maxHeartbeats 1600000 in
theorem szQS_any (ad : Option Addr) (N cap : Nat) (fs : List QV) (l : Int) (w : World) (hN : fs.length = N) (hF : QSM w ad fs) (hN1 : N ≤ maxLen) (h0 : 0 ≤ l) (hl : l ≤ 1048576) :
  Calls Tryz.prog 38 #[.slice ad N cap, .int .i64 l] w fun e w' => ∃ r, e = .returned (.int .i64 r) ∧ -1 ≤ r ∧ r ≤ 1048576 ∧ (0 ≤ r → N ≤ 1048576 ∧ ∀ i, i < fs.length → QZ (fs[i]?.getD noQ)) ∧ Below w.heap.size w w' := by
 have HN : Hid (fs.length = N) := hN
 clear hN
 unfold maxLen at hN1
 by_cases h : l < N
 ·go_enter Tryz.func38, Tryz.ntmps38
  go_wp2
  go_ret
  exact ⟨-1, rfl, by omega, by omega, fun h => by omega, Below.refl _ _⟩
 ·have hN2 : N ≤ 1048576 := by omega
  have h' : (N : Int) ≤ l := by omega
  go_enter Tryz.func38, Tryz.ntmps38
  go_wp2_with fail
  go_loopw [1, 5] (fun lv i wr => ∃ k : Nat, k ≤ N ∧ i = .int .i64 k ∧ ∃ x : Int, lv = .int .i64 x ∧ 0 ≤ x ∧ x ≤ 1048576 ∧ Below w.heap.size w wr ∧ ∀ i, i < k → QZ (fs[i]?.getD noQ)) (fun _ i _ => N - (intOf i).toNat)
  case atStart => exact ⟨0, Nat.zero_le _, rfl, _, rfl, by omega, by omega, Below.refl _ _, fun i hi => by omega⟩
  case round =>
   obtain ⟨k, hk, rfl, x, rfl, hx0, hx1, hb, hall⟩ := hrel
   have HA : Hid _ := hall
   clear hall
   by_cases hlt : k < N
   ·obtain ⟨b, off, rfl, hc, hr⟩ := (hF.below hb) k (by rw [HN.out]; exact hlt)
    generalize HG : fs[k]?.getD noQ = g at *
    have HG' : Hid (fs[k]?.getD noQ = g) := HG
    clear HG hF
    obtain ⟨e0, e1, e2, e3⟩ := cellsQ hc
    obtain ⟨gx, gq, gc, ⟨gta, gtn, gtc, gtx⟩⟩ := g
    have e0' : wr.cell? ⟨b, off + k * 4, none⟩ = some (.int .i64 gx) := e0
    have e1' : wr.cell? ⟨b, off + k * 4 + 1, none⟩ = some (.int .i64 gq) := e1
    have e2' : wr.cell? ⟨b, off + k * 4 + 2, none⟩ = some (.int .i64 gc) := e2
    have e3' : wr.cell? ⟨b, off + k * 4 + 3, none⟩ = some (.slice gta gtn gtc) := e3
    clear e0 e1 e2 e3 hc
    go_wp2_with fail
    refine (szQ_ex _ _ _ _ _ _ gtx _ _ hr hx0 hx1).mono ?_
    rintro e w1 ⟨r, rfl, r0, r1, r2, b1⟩
    by_cases hz : r < 0
    ·go_wp2
     go_ret
     exact ⟨-1, rfl, by omega, by omega, fun h => by omega, hb.trans (b1.mono hb.size)⟩
    ·have hz0 : 0 ≤ r := by omega
     have HA2 : Hid (∀ i, i < k + 1 → QZ (fs[i]?.getD noQ)) := fun i hi => by
      by_cases hik : i < k
      ·exact HA.out i hik
      ·obtain rfl : i = k := by omega
       rw [HG'.out]; exact r2 hz0
     clear r2
     go_wp2
     go_roundw
     case rel => exact ⟨k + 1, by omega, by go_num, _, rfl, hz0, r1, hb.trans (b1.mono hb.size), HA2.out⟩
     case measure => simp [intOf]; omega
   ·obtain rfl : k = N := by omega
    go_wp2
    go_ret
    exact ⟨x, rfl, by omega, by omega, fun _ => ⟨hN2, fun i hi => HA.out i (by rw [← HN.out]; exact hi)⟩, hb⟩

/-- So many cells set in a row. -/
def putQ (vs : List Value) (o : Nat) (x0 x1 x2 x3 : Value) : List Value := ((((vs.set o x0).set (o + 1) x1).set (o + 2) x2).set (o + 3) x3)
theorem putQ_len (vs : List Value) (o : Nat) (x0 x1 x2 x3 : Value) : (putQ vs o x0 x1 x2 x3).length = vs.length := by simp [putQ]
theorem putQ_ne (vs : List Value) (o : Nat) (x0 x1 x2 x3 : Value) (j : Nat) (h : j < o ∨ o + 4 ≤ j) : (putQ vs o x0 x1 x2 x3)[j]? = vs[j]? := by
 unfold putQ
 rw [List.getElem?_set_ne (by omega), List.getElem?_set_ne (by omega), List.getElem?_set_ne (by omega), List.getElem?_set_ne (by omega)]
theorem putQ_at (vs : List Value) (o : Nat) (x0 x1 x2 x3 : Value) (h : o + 4 ≤ vs.length) (r : Nat) (hr : r < 4) : (putQ vs o x0 x1 x2 x3)[o + r]? = [x0, x1, x2, x3][r]? := by
 have hcase : r = 0 ∨ r = 1 ∨ r = 2 ∨ r = 3 := by omega
 unfold putQ
 rcases hcase with rfl | rfl | rfl | rfl
 ·simp only [Nat.add_zero]
  rw [List.getElem?_set_ne (by omega), List.getElem?_set_ne (by omega), List.getElem?_set_ne (by omega), List.getElem?_set_self (by omega)]; rfl
 ·rw [List.getElem?_set_ne (by omega), List.getElem?_set_ne (by omega), List.getElem?_set_self (by simp; omega)]; rfl
 ·rw [List.getElem?_set_ne (by omega), List.getElem?_set_self (by simp; omega)]; rfl
 ·rw [List.getElem?_set_self (by simp; omega)]; rfl

/-- Block B holds N of them, of which those of gs have been laid. -/
structure MQ (W : World) (B N : Nat) (gs : List QV) : Prop where
 c : ∃ vs : List Value, Cel W B vs 131 ∧ vs.length = N * 4 ∧ ∀ i, i < gs.length → ∀ r, r < 4 → vs[i * 4 + r]? = (gs[i]?.getD noQ).cs[r]?
 l : ∀ i, i < gs.length → QK W (B + 1) (gs[i]?.getD noQ)
theorem MQ.lt {W : World} {B N : Nat} {gs : List QV} (h : MQ W B N gs) : B < W.heap.size := by
 obtain ⟨vs, h1, _⟩ := h.c
 exact h1.lt
theorem MQ.below {W W' : World} {B N : Nat} {gs : List QV} (h : MQ W B N gs) (b : Below W.heap.size W W') : MQ W' B N gs := by
 obtain ⟨vs, h1, h2, h3⟩ := h.c
 exact ⟨⟨vs, h1.below b, h2, h3⟩, fun i hi => (h.l i hi).below b⟩
theorem MQ.g {W : World} {B N : Nat} {gs : List QV} (h : MQ W B N gs) : QSG W (some ⟨B, 0, none⟩) gs := fun i hi => by
 obtain ⟨vs, h1, h2, h3⟩ := h.c
 exact ⟨B, 0, rfl, fun r hr => by rw [Nat.zero_add, h1.cell, h3 i hi r hr], (h.l i hi).g⟩
theorem MQ.touch {S : Nat → Prop} {W W' : World} {B N : Nat} {gs : List QV} (h : MQ W B N gs) (t : Touch S W W') (hs : ∀ k, S k → k < B) : MQ W' B N gs := by
 obtain ⟨vs, h1, h2, h3⟩ := h.c
 exact ⟨⟨vs, h1.touch t (fun hh => by have := hs _ hh; omega), h2, h3⟩, fun i hi => (h.l i hi).touch t (fun k hk => by have := hs _ hk; omega)⟩
theorem MQ.setLow {W : World} {B N : Nat} {gs : List QV} (h : MQ W B N gs) {X : Nat} (hX : X < B) (i : Nat) (v : Value) : MQ (W.setCell ⟨X, i, none⟩ v) B N gs := h.touch (S := fun x => x = X) (Touch.setCell (S := fun x => x = X) (Touch.refl _ _) rfl _) (fun k hk => by omega)
/-- One more is laid. -/
theorem MQ.step {W W1 : World} {B N k : Nat} {gs : List QV} {gx : Int} {gq : Int} {gc : Int} {Pt : Option Addr} {gtn : Nat} {Qt : List Int} (h : MQ W B N gs) (hk : gs.length = k) (hkN : k < N) (b : Below W.heap.size W W1) (hs : QK W1 W.heap.size ⟨gx, gq, gc, ⟨Pt, gtn, gtn, Qt⟩⟩) :
  MQ ((((W1.setCell ⟨B, k * 4, none⟩ (.int .i64 gx)).setCell ⟨B, k * 4 + 1, none⟩ (.int .i64 gq)).setCell ⟨B, k * 4 + 2, none⟩ (.int .i64 gc)).setCell ⟨B, k * 4 + 3, none⟩ (.slice Pt gtn gtn)) B N (gs ++ [⟨gx, gq, gc, ⟨Pt, gtn, gtn, Qt⟩⟩]) := by
 have hB := h.lt
 obtain ⟨vs, h1, h2, h3⟩ := (h.below b).c
 have T : Touch (fun x => x = B) W1 ((((W1.setCell ⟨B, k * 4, none⟩ (.int .i64 gx)).setCell ⟨B, k * 4 + 1, none⟩ (.int .i64 gq)).setCell ⟨B, k * 4 + 2, none⟩ (.int .i64 gc)).setCell ⟨B, k * 4 + 3, none⟩ (.slice Pt gtn gtn)) := ((((Touch.refl (fun x => x = B) W1).setCell rfl _).setCell rfl _).setCell rfl _).setCell rfl _
 refine ⟨⟨putQ vs (k * 4) (.int .i64 gx) (.int .i64 gq) (.int .i64 gc) (.slice Pt gtn gtn), ((((h1).set _ _).set _ _).set _ _).set _ _, by rw [putQ_len]; exact h2, fun i hi r hr => ?_⟩, fun i hi => ?_⟩
 ·rw [List.length_append, hk] at hi
  simp only [List.length_cons, List.length_nil] at hi
  by_cases e : i = k
  ·subst e
   rw [putQ_at _ _ _ _ _ _ (by rw [h2]; omega) r hr, List.getElem?_append_right (by omega), hk]
   simp [QV.cs, IV.v]
  ·rw [putQ_ne _ _ _ _ _ _ _ (by omega), List.getElem?_append_left (by omega)]
   exact h3 i (by omega) r hr
 ·rw [List.length_append, hk] at hi
  simp only [List.length_cons, List.length_nil] at hi
  by_cases e : i = k
  ·subst e
   rw [List.getElem?_append_right (by omega), hk]
   simp only [Nat.sub_self, List.getElem?_cons_zero, Option.getD_some]
   exact (hs.mono (by omega)).touch T (fun x hx => by omega)
  ·rw [List.getElem?_append_left (by omega)]
   exact ((h.l i (by omega)).below b).touch T (fun x hx => by omega)

/-- Each holds what the other does. -/
def copiesQS (fs gs : List QV) : Prop := ∀ i, i < gs.length → copiesQ (fs[i]?.getD noQ) (gs[i]?.getD noQ)

theorem Tryz.infoPlnCall : (Tryz.prog.info? 131).map (fun i => (i.zero, i.size, i.bytes)) = some (some (.agg #[.int .i64 0, .int .i64 0, .int .i64 0, .slice none 0 0]), 4, 48) := by kernel_rfl

set_option maxHeartbeats 3200000 in
theorem toQS_any (ad : Option Addr) (N cap : Nat) (fs : List QV) (w : World) (hN : fs.length = N) (hF : QSG w ad fs) (hN1 : N ≤ 1048576) :
  Calls Tryz.prog 41 #[.slice ad N cap] w fun e w' => ∃ gs, e = .returned (.slice (some ⟨w.heap.size, 0, none⟩) N N) ∧ gs.length = N ∧ copiesQS fs gs ∧ Below w.heap.size w w' ∧ MQ w' w.heap.size N gs := by
 have HN : Hid (fs.length = N) := hN
 clear hN
 obtain ⟨i0, hi, hz0, hz1, hz2⟩ := info_parts Tryz.infoPlnCall
 go_enter Tryz.func41, Tryz.ntmps41
 go_wp2_with (at_make; refine wpList_make_full _ rfl (.tmp 6) (.tmp 6) 49 rfl w.heap.size 131 i0 (.agg #[.int .i64 0, .int .i64 0, .int .i64 0, .slice none 0 0]) 4 Tryz.underlying49 hi hz0 hz1 .i64 .i64 _ _ N rfl rfl rfl rfl (by rw [hz2]; omega) (by unfold maxLen; omega) (Nat.le_refl _) ?_; intro w1 hown hgrow)
 have hb1 : Below w.heap.size w w1 := (Below.refl _ _).grown hgrow (Nat.le_refl _) (by simp)
 have m0 : MQ w1 w.heap.size N [] := by
  rcases hown.2 with ⟨h', _⟩ | ⟨g', cap', cur, h', _, hg, _, _, hcs, htake⟩
  ·simp at h'
  ·simp only [Value.slice.injEq, Option.some.injEq, Addr.mk.injEq, and_true, true_and] at h'
   obtain ⟨rfl, rfl⟩ := h'
   exact ⟨⟨cur.toList, by unfold Cel; rw [hg], by simpa using hcs, fun i hi => by simp at hi⟩, fun i hi => by simp at hi⟩
 clear hown hgrow hi hz0 hz1 hz2
 go_loopw [4] (fun i wr => ∃ k : Nat, k ≤ N ∧ i = .int .i64 k ∧ Below w.heap.size w wr ∧ ∃ gs, gs.length = k ∧ copiesQS fs gs ∧ MQ wr w.heap.size N gs) (fun i _ => N - (intOf i).toNat)
 case atStart => exact ⟨0, Nat.zero_le _, rfl, hb1, [], rfl, fun i hi => by simp at hi, m0⟩
 case round =>
  clear hb1 m0
  obtain ⟨k, hk, rfl, hb, ts, hts, hcp, hm⟩ := hrel
  have HTS : Hid (ts.length = k) := hts
  have HCP : Hid (copiesQS fs ts) := hcp
  clear hts hcp
  by_cases hlt : k < N
  ·obtain ⟨b, off, rfl, hc, hr⟩ := (hF.below hb) k (by rw [HN.out]; exact hlt)
   generalize HG : fs[k]?.getD noQ = g at *
   have HG' : Hid (fs[k]?.getD noQ = g) := HG
   clear HG hF
   obtain ⟨e0, e1, e2, e3⟩ := cellsQ hc
   obtain ⟨gx, gq, gc, ⟨gta, gtn, gtc, gtx⟩⟩ := g
   have e0' : wr.cell? ⟨b, off + k * 4, none⟩ = some (.int .i64 gx) := e0
   have e1' : wr.cell? ⟨b, off + k * 4 + 1, none⟩ = some (.int .i64 gq) := e1
   have e2' : wr.cell? ⟨b, off + k * 4 + 2, none⟩ = some (.int .i64 gc) := e2
   have e3' : wr.cell? ⟨b, off + k * 4 + 3, none⟩ = some (.slice gta gtn gtc) := e3
   clear e0 e1 e2 e3 hc
   go_wp2_with fail
   refine (toQ_ex _ _ _ _ _ _ gtx _ hr).mono ?_
   rintro ee w2 ⟨Pt, Qt, rfl, b2, hK, hcp2⟩
   have ms := hm.step HTS.out hlt b2 hK
   obtain ⟨vs, v1, v2, v3⟩ := (hm.below b2).c
   have hx : ∀ r, r < 4 → ∃ x, w2.cell? ⟨w.heap.size, k * 4 + r, none⟩ = some x := fun r hr => ⟨_, (v1.cell (k * 4 + r)).trans (List.getElem?_eq_getElem (by rw [v2]; omega))⟩
   obtain ⟨x0, y0⟩ := hx 0 (by omega)
   obtain ⟨x1, y1⟩ := hx 1 (by omega)
   obtain ⟨x2, y2⟩ := hx 2 (by omega)
   obtain ⟨x3, y3⟩ := hx 3 (by omega)
   simp only [Nat.add_zero] at y0
   have f0 := v1.free (k * 4)
   have f1 := v1.free (k * 4 + 1)
   have f2 := v1.free (k * 4 + 2)
   have f3 := v1.free (k * 4 + 3)
   have hb2 := hb.trans (b2.mono hb.size)
   have RB := ((((hb2.setCell (p := ⟨w.heap.size, k * 4, none⟩) (Nat.le_refl _) (.int .i64 gx)).setCell (p := ⟨w.heap.size, k * 4 + 1, none⟩) (Nat.le_refl _) (.int .i64 gq)).setCell (p := ⟨w.heap.size, k * 4 + 2, none⟩) (Nat.le_refl _) (.int .i64 gc)).setCell (p := ⟨w.heap.size, k * 4 + 3, none⟩) (Nat.le_refl _) (.slice Pt gtn gtn))
   have CP : copiesQS fs (ts ++ [⟨gx, gq, gc, ⟨Pt, gtn, gtn, Qt⟩⟩]) := fun i hi => by
    rw [List.length_append, HTS.out] at hi
    simp only [List.length_cons, List.length_nil] at hi
    by_cases e : i = k
    ·subst e
     rw [List.getElem?_append_right (by rw [HTS.out]; exact Nat.le_refl _), HTS.out, HG'.out]
     simpa using hcp2
    ·rw [List.getElem?_append_left (by rw [HTS.out]; omega)]
     exact HCP.out i (by rw [HTS.out]; omega)
   have HCP2 : Hid _ := CP
   clear hm b2 hb hb2 v1 v2 v3 hx CP hr hcp2 hK
   go_wp2
   go_roundw
   case rel => exact ⟨k + 1, by omega, by go_num, RB, _, by rw [List.length_append, HTS.out]; rfl, HCP2.out, ms⟩
   case measure => simp [intOf]; omega
  ·obtain rfl : k = N := by omega
   go_wp2
   go_ret
   exact ⟨ts, rfl, HTS.out, HCP.out, hb, hm⟩

set_option maxHeartbeats 1600000 in
/-- Held against a slice that holds the same. -/
theorem eqQS_same (ad ae : Option Addr) (N cap cap' : Nat) (fs gs : List QV) (w : World) (hN : fs.length = N) (hM : gs.length = N) (hF : QSG w ad fs) (hG : QSG w ae gs) (hN1 : N ≤ 1048576)
  (hsame : ∀ i, i < N → sameQ (fs[i]?.getD noQ) (gs[i]?.getD noQ)) :
  Calls Tryz.prog 47 #[.slice ad N cap, .slice ae N cap'] w fun e w' => e = .returned (.bool true) ∧ Below w.heap.size w w' := by
 have HN : Hid (fs.length = N) := hN
 have HM : Hid (gs.length = N) := hM
 have HS : Hid _ := hsame
 clear hN hM hsame
 go_enter Tryz.func47, Tryz.ntmps47
 go_wp2_with fail
 go_loopw [5] (fun i wr => ∃ k : Nat, k ≤ N ∧ i = .int .i64 k ∧ Below w.heap.size w wr) (fun i _ => N - (intOf i).toNat)
 case atStart => exact ⟨0, Nat.zero_le _, rfl, Below.refl _ _⟩
 case round =>
  obtain ⟨k, hk, rfl, hb⟩ := hrel
  by_cases hlt : k < N
  ·obtain ⟨b, off, rfl, hc, hr⟩ := (hF.below hb) k (by rw [HN.out]; exact hlt)
   obtain ⟨b', off', rfl, hc', hr'⟩ := (hG.below hb) k (by rw [HM.out]; exact hlt)
   have hs := HS.out k hlt
   generalize HG1 : fs[k]?.getD noQ = fe at *
   generalize HG2 : gs[k]?.getD noQ = g at *
   clear HG1 HG2 hF hG
   obtain ⟨e0, e1, e2, e3⟩ := cellsQ hc
   obtain ⟨fex, feq, fec, ⟨feta, fetn, fetc, fetx⟩⟩ := fe
   have e0' : wr.cell? ⟨b, off + k * 4, none⟩ = some (.int .i64 fex) := e0
   have e1' : wr.cell? ⟨b, off + k * 4 + 1, none⟩ = some (.int .i64 feq) := e1
   have e2' : wr.cell? ⟨b, off + k * 4 + 2, none⟩ = some (.int .i64 fec) := e2
   have e3' : wr.cell? ⟨b, off + k * 4 + 3, none⟩ = some (.slice feta fetn fetc) := e3
   clear e0 e1 e2 e3 hc
   obtain ⟨d0, d1, d2, d3⟩ := cellsQ hc'
   obtain ⟨gx, gq, gc, ⟨gta, gtn, gtc, gtx⟩⟩ := g
   have d0' : wr.cell? ⟨b', off' + k * 4, none⟩ = some (.int .i64 gx) := d0
   have d1' : wr.cell? ⟨b', off' + k * 4 + 1, none⟩ = some (.int .i64 gq) := d1
   have d2' : wr.cell? ⟨b', off' + k * 4 + 2, none⟩ = some (.int .i64 gc) := d2
   have d3' : wr.cell? ⟨b', off' + k * 4 + 3, none⟩ = some (.slice gta gtn gtc) := d3
   clear d0 d1 d2 d3 hc'
   have hlt' : (k : Int) < (N : Int) := by omega
   go_wp2_with fail
   go_region_with (first | (go_at_call 92; refine (eqQ_ex _ _ _ _ _ _ fetx _ _ _ _ _ _ gtx _ (by exact hr.below (Below.refl _ _).drew) (by exact hr'.below (Below.refl _ _).drew) hs).mono ?_; rintro ee w1 ⟨rfl, b1⟩))
   all_goals
    have b1' := below_of_drew b1
    go_wp2
    go_roundw
    case rel => exact ⟨k + 1, by omega, by go_num, hb.trans (b1'.mono hb.size)⟩
    case measure => simp [intOf]; omega
  ·go_wp2
   go_ret
   exact ⟨rfl, hb⟩

end Go.Proofs.YtdigmokjedckeaaGreatDoor
namespace Go.Proofs.YtdigmokjedckeaaGreatDoor
open Go.ChangeShapes Go.WideShapes Go.ChangeAt Go.RowKit Go.Joins Go.Deep
set_option linter.unusedVariables false
set_option maxRecDepth 100000

/-- One of them, and what it holds. -/
structure GV where
 h : Bool
 t : IV
 u : IV
def noG : GV := ⟨false, noI, noI⟩
def GV.cs (f : GV) : List Value := [.bool f.h, IV.v f.t, IV.v f.u]
def GM (w : World) (f : GV) : Prop := IM w f.t ∧ IM w f.u ∧ True
def GG (w : World) (f : GV) : Prop := IG w f.t ∧ IG w f.u ∧ True
def GZ (f : GV) : Prop := IS f.t ∧ IS f.u ∧ True
def GK (w : World) (lo : Nat) (f : GV) : Prop := IK w lo f.t ∧ IK w lo f.u ∧ True
def copiesG (f g : GV) : Prop := g.h = f.h ∧ copiesI f.t g.t ∧ copiesI f.u g.u ∧ True
def sameG (f g : GV) : Prop := f.h = g.h ∧ sameI f.t g.t ∧ sameI f.u g.u ∧ True
theorem GM.below {w w' : World} {f : GV} (h : GM w f) (hb : Below w.heap.size w w') : GM w' f := ⟨h.1.below hb, h.2.1.below hb, trivial⟩
theorem GG.below {w w' : World} {f : GV} (h : GG w f) (hb : Below w.heap.size w w') : GG w' f := ⟨h.1.below hb, h.2.1.below hb, trivial⟩
theorem GM.g {w : World} {f : GV} (h : GM w f) (hs : GZ f) : GG w f := ⟨(h.1).g hs.1, (h.2.1).g hs.2.1, trivial⟩
theorem GK.below {w w' : World} {lo : Nat} {f : GV} (h : GK w lo f) (hb : Below w.heap.size w w') : GK w' lo f := ⟨h.1.below hb, h.2.1.below hb, trivial⟩
theorem GK.touch {S : Nat → Prop} {w w' : World} {lo : Nat} {f : GV} (h : GK w lo f) (t : Touch S w w') (hs : ∀ k, S k → k < lo) : GK w' lo f := ⟨h.1.touch t hs, h.2.1.touch t hs, trivial⟩
theorem GK.mono {w : World} {lo lo' : Nat} {f : GV} (h : GK w lo f) (hl : lo' ≤ lo) : GK w lo' f := ⟨h.1.mono hl, h.2.1.mono hl, trivial⟩
theorem GK.g {w : World} {lo : Nat} {f : GV} (h : GK w lo f) : GG w f := ⟨h.1.g, h.2.1.g, trivial⟩

/-- What was told, as a value. -/
abbrev gtV (h : Bool) (a : Option Addr) (n cap : Nat) (c : Option Addr) (m cap' : Nat) : Value := .agg #[.bool h, .slice a n cap, .slice c m cap']

theorem open_GC {H : Type} {enc : TypeId × Value → H} {W : World} {fuel : Nat} {cs : List Value} {x : DataW H × List MemPlace}
  (hf : DataW.trod enc Tryz.prog W 0 (fun _ => true) true fuel 129 cs = some x) :
  ∃ f : GV, cs = f.cs ∧ GM W f := by
 obtain ⟨v0, v1, v2, y0, y1, y2, k, rfl, h0, h1, h2⟩ := open_cells3 Tryz.underlying129 (by kernel_rfl) (by kernel_rfl) hf
 obtain ⟨b, e, _⟩ := DataW.trod_bool Tryz.underlying4 h0
 obtain rfl : v0 = .bool b := by simpa using e
 obtain ⟨a, m, cap, C, rfl, hC, hm⟩ := open_row h1
 obtain ⟨a', m', cap', C', rfl, hC', hm'⟩ := open_row h2
 exact ⟨⟨b, ⟨a, m, cap, C⟩, ⟨a', m', cap', C'⟩⟩, rfl, ⟨hC, hm⟩, ⟨hC', hm'⟩, trivial⟩

set_option maxHeartbeats 800000 in
theorem szG_ex (h : Bool) (ta : Option Addr) (tn tc : Nat) (tx : List Int) (ua : Option Addr) (un uc : Nat) (ux : List Int) (l : Int) (w : World) (hM : GM w ⟨h, ⟨ta, tn, tc, tx⟩, ⟨ua, un, uc, ux⟩⟩) (h0 : 0 ≤ l) (hl : l ≤ 1048576) :
  Calls Tryz.prog 82 #[gtV h ta tn tc ua un uc, .int .i64 l] w fun e w' => ∃ r, e = .returned (.int .i64 r) ∧ -1 ≤ r ∧ r ≤ 1048576 ∧ (0 ≤ r → GZ ⟨h, ⟨ta, tn, tc, tx⟩, ⟨ua, un, uc, ux⟩⟩) ∧ Below w.heap.size w w' := by
 have h1 : IM w ⟨ta, tn, tc, tx⟩ := hM.1
 have h2 : IM w ⟨ua, un, uc, ux⟩ := hM.2.1
 clear hM
 have n0 := Cel.new w [.bool h, .slice ta tn tc, .slice ua un uc] 129
 have B0 := (Below.refl w.heap.size w).alloc (Nat.le_refl _) (.cells #[.bool h, .slice ta tn tc, .slice ua un uc] 129)
 go_enter Tryz.func82, Tryz.ntmps82
 go_wp2_with fail
 refine (szI_ex _ _ _ tx _ _ (h1.below B0) h0 hl).mono ?_
 rintro e w1 ⟨r1, rfl, p1, q1, s1, b1⟩
 have B1 := B0.trans (b1.mono B0.size)
 have n1 := n0.below b1
 obtain ⟨c0, c1, c2, -, -, -⟩ := n1.trio
 clear n0 B0 b1
 by_cases g1 : r1 < 0
 ·go_wp2
  go_ret
  exact ⟨-1, rfl, by omega, by omega, fun h => by omega, B1⟩
 have g1' : 0 ≤ r1 := by omega
 have S1 : Hid _ := s1 g1'
 clear s1 g1
 go_wp2_with fail
 refine (szI_ex _ _ _ ux _ _ (h2.below B1) g1' q1).mono ?_
 rintro e w2 ⟨r2, rfl, p2, q2, s2, b2⟩
 have B2 := B1.trans (b2.mono B1.size)
 clear c0 c1 c2 n1 B1 b2
 by_cases g2 : r2 < 0
 ·go_wp2
  go_ret
  exact ⟨-1, rfl, by omega, by omega, fun h => by omega, B2⟩
 have g2' : 0 ≤ r2 := by omega
 have S2 : Hid _ := s2 g2'
 clear s2 g2
 go_wp2
 go_ret
 exact ⟨r2, rfl, by omega, q2, fun _ => ⟨S1.out, S2.out, trivial⟩, B2⟩

set_option maxHeartbeats 1600000 in
theorem toG_ex (h : Bool) (ta : Option Addr) (tn tc : Nat) (tx : List Int) (ua : Option Addr) (un uc : Nat) (ux : List Int) (w : World) (hG : GG w ⟨h, ⟨ta, tn, tc, tx⟩, ⟨ua, un, uc, ux⟩⟩) :
  Calls Tryz.prog 86 #[gtV h ta tn tc ua un uc] w fun e w' => ∃ Pt Qt Pu Qu, e = .returned (gtV h Pt tn tn Pu un un) ∧ Below w.heap.size w w' ∧ GK w' w.heap.size ⟨h, ⟨Pt, tn, tn, Qt⟩, ⟨Pu, un, un, Qu⟩⟩ ∧ copiesG ⟨h, ⟨ta, tn, tc, tx⟩, ⟨ua, un, uc, ux⟩⟩ ⟨h, ⟨Pt, tn, tn, Qt⟩, ⟨Pu, un, un, Qu⟩⟩ := by
 have hC : Ints w ta tn tx := hG.1.1
 have hn : tn ≤ 1048576 := hG.1.2
 have hD : Ints w ua un ux := hG.2.1.1
 have hm : un ≤ 1048576 := hG.2.1.2
 clear hG
 have L1 : Hid (tx.length = tn) := hC.1
 have L2 : Hid (ux.length = un) := hD.1
 go_enter Tryz.func86, Tryz.ntmps86
 go_wp2_with fail
 refine (to_any _ _ _ tx _ (((hC.alloc _).alloc _).alloc _) hn).mono ?_
 rintro e w1 ⟨rfl, b1, k1⟩
 have p0 := (((Cel.new w _ _).alloc _).alloc _).below b1
 have p1 := ((Cel.new (w.alloc _) _ _).alloc _).below b1
 have p2 := (Cel.new ((w.alloc _).alloc _) _ _).below b1
 rw [World.size_alloc] at p1
 rw [World.size_alloc, World.size_alloc] at p2
 rw [World.size_alloc, World.size_alloc, World.size_alloc] at k1
 have s1 := k1.lt
 have B1 : Below w.heap.size w w1 := ((((Below.refl _ _).alloc (Nat.le_refl _) _).alloc (by simp) _).alloc (by simp; omega) _).trans (b1.mono (by simp; omega))
 clear b1
 obtain ⟨c0, c1, c2, -, -, -⟩ := p0.trio
 obtain ⟨d0, d1, d2, -, -, -⟩ := p2.trio
 have f0 := p2.free 1
 go_wp2_with fail
 have B2 := B1.setCell (p := ⟨w.heap.size + 1 + 1, 1, none⟩) (by show w.heap.size ≤ w.heap.size + 1 + 1; omega) (Value.slice (some ⟨w.heap.size + 1 + 1 + 1, 0, none⟩) tn tn)
 refine (to_any _ _ _ ux _ (hD.below B2) hm).mono ?_
 rintro e w2 ⟨rfl, b2, k2⟩
 clear c0 c1 c2 d0 d1 d2 f0
 have q1 := (p1.setOther (by omega) _ _).below b2
 have q2 := (p2.set _ _).below b2
 have k1' := (k1.setOther (B' := w.heap.size + 1 + 1) (by omega) 1 _).below b2
 have B3 := B2.trans (b2.mono B2.size)
 have s2 := k2.lt
 rw [size_setCell] at k2 s2
 clear p0 p1 p2 k1 b2 B1 B2
 simp only [List.set_cons_zero, List.set_cons_succ] at q2
 obtain ⟨d0, d1, d2, -, -, -⟩ := q2.trio
 obtain ⟨e0, e1, e2, -, -, -⟩ := q1.trio
 have f0 := q2.free 2
 have g0 := q1.free 0
 have g1 := q1.free 1
 have g2 := q1.free 2
 have hlt1 : w.heap.size + 1 < w2.heap.size := by omega
 have hlt2 : w.heap.size + 1 + 1 < w2.heap.size := by omega
 go_wp2
 refine bodyPost_ret (v := gtV h (some ⟨w.heap.size + 1 + 1 + 1, 0, none⟩) tn tn (some ⟨w1.heap.size, 0, none⟩) un un) (by simp [results, Tryz.results86, go_sem, e0, e1, e2]) rfl ⟨_, tx, _, ux, rfl, ?_, ⟨⟨_, rfl, by show _ ≤ _; omega, ?_, L1.out, hn⟩, ⟨_, rfl, by show _ ≤ _; omega, ?_, L2.out, hm⟩, trivial⟩, rfl, ⟨rfl, rfl⟩, ⟨rfl, rfl⟩, trivial⟩
 ·exact (((B3.setCell (by simp only []; omega) _).setCell (by simp only []; omega) _).setCell (by simp only []; omega) _).setCell (by simp only []; omega) _
 ·exact (((k1'.setOther (by omega) _ _).setOther (by omega) _ _).setOther (by omega) _ _).setOther (by omega) _ _
 ·exact (((k2.setOther (by omega) _ _).setOther (by omega) _ _).setOther (by omega) _ _).setOther (by omega) _ _

set_option maxHeartbeats 1600000 in
theorem eqG_ex (h : Bool) (ta : Option Addr) (tn tc : Nat) (tx : List Int) (ua : Option Addr) (un uc : Nat) (ux : List Int) (h' : Bool) (ta' : Option Addr) (tn' tc' : Nat) (tx' : List Int) (ua' : Option Addr) (un' uc' : Nat) (ux' : List Int) (w : World) (hA : GG w ⟨h, ⟨ta, tn, tc, tx⟩, ⟨ua, un, uc, ux⟩⟩) (hB : GG w ⟨h', ⟨ta', tn', tc', tx'⟩, ⟨ua', un', uc', ux'⟩⟩) (hs : sameG ⟨h, ⟨ta, tn, tc, tx⟩, ⟨ua, un, uc, ux⟩⟩ ⟨h', ⟨ta', tn', tc', tx'⟩, ⟨ua', un', uc', ux'⟩⟩) :
  Calls Tryz.prog 93 #[gtV h ta tn tc ua un uc, gtV h' ta' tn' tc' ua' un' uc'] w fun e w' => e = .returned (.bool true) ∧ Below w.heap.size w w' := by
 obtain ⟨e1, e2, e3, -⟩ := hs
 have e1' : h = h' := e1
 have e2' : tx = tx' := e2
 have e3' : ux = ux' := e3
 have i1 : Ints w ta tn tx := hA.1.1
 have z1 : tn ≤ 1048576 := hA.1.2
 have i2 : Ints w ua un ux := hA.2.1.1
 have z2 : un ≤ 1048576 := hA.2.1.2
 have j1 : Ints w ta' tn' tx' := hB.1.1
 have j2 : Ints w ua' un' ux' := hB.2.1.1
 have m1 : tn = tn' := by rw [← i1.1, ← j1.1, e2']
 have m2 : un = un' := by rw [← i2.1, ← j2.1, e3']
 clear hA hB e1 e2 e3
 subst e1' e2' e3' m1 m2
 have hc : (h != h) = false := by cases h <;> rfl
 have HE := eqB_refl tx
 have HF := eqB_refl ux
 have x0 := (Cel.new w [.bool h, .slice ta tn tc, .slice ua un uc] 133).alloc (.cells #[.bool h, .slice ta' tn tc', .slice ua' un uc'] 133)
 have y0 := Cel.new (w.alloc (.cells #[.bool h, .slice ta tn tc, .slice ua un uc] 133)) [.bool h, .slice ta' tn tc', .slice ua' un uc'] 133
 rw [World.size_alloc] at y0
 have B0 := ((Below.refl w.heap.size w).alloc (Nat.le_refl _) (.cells #[.bool h, .slice ta tn tc, .slice ua un uc] 133)).alloc (by simp) (.cells #[.bool h, .slice ta' tn tc', .slice ua' un uc'] 133)
 go_enter Tryz.func93, Tryz.ntmps93
 go_wp2_with fail
 refine (eq_any _ _ _ _ _ _ tx tx _ (i1.below B0) (j1.below B0) z1 z1).mono ?_
 rintro e w1 ⟨rfl, b1⟩
 rw [HE]
 have B1 := B0.trans (b1.mono B0.size)
 have x1 := x0.below b1
 have y1 := y0.below b1
 clear x0 y0 B0 b1
 obtain ⟨a0, a1, a2, -, -, -⟩ := x1.trio
 obtain ⟨c0, c1, c2, -, -, -⟩ := y1.trio
 go_wp2_with fail
 refine (eq_any _ _ _ _ _ _ ux ux _ (i2.below B1) (j2.below B1) z2 z2).mono ?_
 rintro e w2 ⟨rfl, b2⟩
 rw [HF]
 have B2 := B1.trans (b2.mono B1.size)
 go_wp2
 go_ret
 exact ⟨rfl, B2⟩

end Go.Proofs.YtdigmokjedckeaaGreatDoor
namespace Go.Proofs.YtdigmokjedckeaaGreatDoor
open Go.ChangeShapes Go.WideShapes Go.ChangeAt Go.RowKit Go.Joins Go.Deep
set_option linter.unusedVariables false
set_option maxRecDepth 100000

/-- A slice of them that came in. -/
def GSM (w : World) (ad : Option Addr) (fs : List GV) : Prop :=
 ∀ i, i < fs.length → ∃ b off, ad = some ⟨b, off, none⟩ ∧ (∀ r, r < 3 → w.cell? ⟨b, off + i * 3 + r, none⟩ = (fs[i]?.getD noG).cs[r]?) ∧ GM w (fs[i]?.getD noG)
theorem GSM.below {w w' : World} {ad : Option Addr} {fs : List GV} (h : GSM w ad fs) (hb : Below w.heap.size w w') : GSM w' ad fs := fun i hi => by
 obtain ⟨b, off, e, hc, hr⟩ := h i hi
 have hl : b < w.heap.size := block_lt (v := ((fs[i]?.getD noG).cs[0]?).getD (.bool false)) ((hc 0 (by omega)).trans rfl)
 exact ⟨b, off, e, fun r hr => by rw [hb.cell (p := ⟨b, off + i * 3 + r, none⟩) hl]; exact hc r hr, hr.below hb⟩
/-- One that may be copied. -/
def GSG (w : World) (ad : Option Addr) (fs : List GV) : Prop :=
 ∀ i, i < fs.length → ∃ b off, ad = some ⟨b, off, none⟩ ∧ (∀ r, r < 3 → w.cell? ⟨b, off + i * 3 + r, none⟩ = (fs[i]?.getD noG).cs[r]?) ∧ GG w (fs[i]?.getD noG)
theorem GSG.below {w w' : World} {ad : Option Addr} {fs : List GV} (h : GSG w ad fs) (hb : Below w.heap.size w w') : GSG w' ad fs := fun i hi => by
 obtain ⟨b, off, e, hc, hr⟩ := h i hi
 have hl : b < w.heap.size := block_lt (v := ((fs[i]?.getD noG).cs[0]?).getD (.bool false)) ((hc 0 (by omega)).trans rfl)
 exact ⟨b, off, e, fun r hr => by rw [hb.cell (p := ⟨b, off + i * 3 + r, none⟩) hl]; exact hc r hr, hr.below hb⟩
theorem GSM.g {w : World} {ad : Option Addr} {fs : List GV} (h : GSM w ad fs) (hs : ∀ i, i < fs.length → GZ (fs[i]?.getD noG)) : GSG w ad fs := fun i hi => by
 obtain ⟨b, off, e, hc, hr⟩ := h i hi
 exact ⟨b, off, e, hc, hr.g (hs i hi)⟩
theorem cellsG {w : World} {b o : Nat} {f : GV} (h : ∀ r, r < 3 → w.cell? ⟨b, o + r, none⟩ = f.cs[r]?) : w.cell? ⟨b, o, none⟩ = some (.bool f.h) ∧ w.cell? ⟨b, o + 1, none⟩ = some (f.t.v) ∧ w.cell? ⟨b, o + 2, none⟩ = some (f.u.v) := ⟨h 0 (by omega), h 1 (by omega), h 2 (by omega)⟩

theorem open_GS {H : Type} {enc : TypeId × Value → H} {W : World} {fuel : Nat} {v : Value} {y : DataW H × List MemPlace}
  (hf : DataW.trod enc Tryz.prog W 0 (fun _ => true) true fuel 44 [v] = some y) :
  ∃ ad N cap fs, v = .slice ad N cap ∧ fs.length = N ∧ GSM W ad fs ∧ N ≤ maxLen := by
 obtain ⟨ad, N, cap, fs, hv, hl, hN, hall⟩ := open_sliceC noG GV.cs (fun f => GM W f) (c := 3) (by omega) Tryz.underlying44 (by kernel_rfl) (fun _ => rfl) (fun fuel cs x hx => open_GC hx) hf
 exact ⟨ad, N, cap, fs, hv, hl, hall, hN⟩

set_option maxHeartbeats 1600000 in
theorem szGS_any (ad : Option Addr) (N cap : Nat) (fs : List GV) (l : Int) (w : World) (hN : fs.length = N) (hF : GSM w ad fs) (hN1 : N ≤ maxLen) (h0 : 0 ≤ l) (hl : l ≤ 1048576) :
  Calls Tryz.prog 39 #[.slice ad N cap, .int .i64 l] w fun e w' => ∃ r, e = .returned (.int .i64 r) ∧ -1 ≤ r ∧ r ≤ 1048576 ∧ (0 ≤ r → N ≤ 1048576 ∧ ∀ i, i < fs.length → GZ (fs[i]?.getD noG)) ∧ Below w.heap.size w w' := by
 have HN : Hid (fs.length = N) := hN
 clear hN
 unfold maxLen at hN1
 by_cases h : l < N
 ·go_enter Tryz.func39, Tryz.ntmps39
  go_wp2
  go_ret
  exact ⟨-1, rfl, by omega, by omega, fun h => by omega, Below.refl _ _⟩
 ·have hN2 : N ≤ 1048576 := by omega
  have h' : (N : Int) ≤ l := by omega
  go_enter Tryz.func39, Tryz.ntmps39
  go_wp2_with fail
  go_loopw [1, 5] (fun lv i wr => ∃ k : Nat, k ≤ N ∧ i = .int .i64 k ∧ ∃ x : Int, lv = .int .i64 x ∧ 0 ≤ x ∧ x ≤ 1048576 ∧ Below w.heap.size w wr ∧ ∀ i, i < k → GZ (fs[i]?.getD noG)) (fun _ i _ => N - (intOf i).toNat)
  case atStart => exact ⟨0, Nat.zero_le _, rfl, _, rfl, by omega, by omega, Below.refl _ _, fun i hi => by omega⟩
  case round =>
   obtain ⟨k, hk, rfl, x, rfl, hx0, hx1, hb, hall⟩ := hrel
   have HA : Hid _ := hall
   clear hall
   by_cases hlt : k < N
   ·obtain ⟨b, off, rfl, hc, hr⟩ := (hF.below hb) k (by rw [HN.out]; exact hlt)
    generalize HG : fs[k]?.getD noG = g at *
    have HG' : Hid (fs[k]?.getD noG = g) := HG
    clear HG hF
    obtain ⟨e0, e1, e2⟩ := cellsG hc
    obtain ⟨gh, ⟨gta, gtn, gtc, gtx⟩, ⟨gua, gun, guc, gux⟩⟩ := g
    have e0' : wr.cell? ⟨b, off + k * 3, none⟩ = some (.bool gh) := e0
    have e1' : wr.cell? ⟨b, off + k * 3 + 1, none⟩ = some (.slice gta gtn gtc) := e1
    have e2' : wr.cell? ⟨b, off + k * 3 + 2, none⟩ = some (.slice gua gun guc) := e2
    clear e0 e1 e2 hc
    go_wp2_with fail
    refine (szG_ex _ _ _ _ gtx _ _ _ gux _ _ hr hx0 hx1).mono ?_
    rintro e w1 ⟨r, rfl, r0, r1, r2, b1⟩
    by_cases hz : r < 0
    ·go_wp2
     go_ret
     exact ⟨-1, rfl, by omega, by omega, fun h => by omega, hb.trans (b1.mono hb.size)⟩
    ·have hz0 : 0 ≤ r := by omega
     have HA2 : Hid (∀ i, i < k + 1 → GZ (fs[i]?.getD noG)) := fun i hi => by
      by_cases hik : i < k
      ·exact HA.out i hik
      ·obtain rfl : i = k := by omega
       rw [HG'.out]; exact r2 hz0
     clear r2
     go_wp2
     go_roundw
     case rel => exact ⟨k + 1, by omega, by go_num, _, rfl, hz0, r1, hb.trans (b1.mono hb.size), HA2.out⟩
     case measure => simp [intOf]; omega
   ·obtain rfl : k = N := by omega
    go_wp2
    go_ret
    exact ⟨x, rfl, by omega, by omega, fun _ => ⟨hN2, fun i hi => HA.out i (by rw [← HN.out]; exact hi)⟩, hb⟩

/-- So many cells set in a row. -/
def putG (vs : List Value) (o : Nat) (x0 x1 x2 : Value) : List Value := (((vs.set o x0).set (o + 1) x1).set (o + 2) x2)
theorem putG_len (vs : List Value) (o : Nat) (x0 x1 x2 : Value) : (putG vs o x0 x1 x2).length = vs.length := by simp [putG]
theorem putG_ne (vs : List Value) (o : Nat) (x0 x1 x2 : Value) (j : Nat) (h : j < o ∨ o + 3 ≤ j) : (putG vs o x0 x1 x2)[j]? = vs[j]? := by
 unfold putG
 rw [List.getElem?_set_ne (by omega), List.getElem?_set_ne (by omega), List.getElem?_set_ne (by omega)]
theorem putG_at (vs : List Value) (o : Nat) (x0 x1 x2 : Value) (h : o + 3 ≤ vs.length) (r : Nat) (hr : r < 3) : (putG vs o x0 x1 x2)[o + r]? = [x0, x1, x2][r]? := by
 have hcase : r = 0 ∨ r = 1 ∨ r = 2 := by omega
 unfold putG
 rcases hcase with rfl | rfl | rfl
 ·simp only [Nat.add_zero]
  rw [List.getElem?_set_ne (by omega), List.getElem?_set_ne (by omega), List.getElem?_set_self (by omega)]; rfl
 ·rw [List.getElem?_set_ne (by omega), List.getElem?_set_self (by simp; omega)]; rfl
 ·rw [List.getElem?_set_self (by simp; omega)]; rfl

/-- Block B holds N of them, of which those of gs have been laid. -/
structure MG (W : World) (B N : Nat) (gs : List GV) : Prop where
 c : ∃ vs : List Value, Cel W B vs 133 ∧ vs.length = N * 3 ∧ ∀ i, i < gs.length → ∀ r, r < 3 → vs[i * 3 + r]? = (gs[i]?.getD noG).cs[r]?
 l : ∀ i, i < gs.length → GK W (B + 1) (gs[i]?.getD noG)
theorem MG.lt {W : World} {B N : Nat} {gs : List GV} (h : MG W B N gs) : B < W.heap.size := by
 obtain ⟨vs, h1, _⟩ := h.c
 exact h1.lt
theorem MG.below {W W' : World} {B N : Nat} {gs : List GV} (h : MG W B N gs) (b : Below W.heap.size W W') : MG W' B N gs := by
 obtain ⟨vs, h1, h2, h3⟩ := h.c
 exact ⟨⟨vs, h1.below b, h2, h3⟩, fun i hi => (h.l i hi).below b⟩
theorem MG.g {W : World} {B N : Nat} {gs : List GV} (h : MG W B N gs) : GSG W (some ⟨B, 0, none⟩) gs := fun i hi => by
 obtain ⟨vs, h1, h2, h3⟩ := h.c
 exact ⟨B, 0, rfl, fun r hr => by rw [Nat.zero_add, h1.cell, h3 i hi r hr], (h.l i hi).g⟩
theorem MG.touch {S : Nat → Prop} {W W' : World} {B N : Nat} {gs : List GV} (h : MG W B N gs) (t : Touch S W W') (hs : ∀ k, S k → k < B) : MG W' B N gs := by
 obtain ⟨vs, h1, h2, h3⟩ := h.c
 exact ⟨⟨vs, h1.touch t (fun hh => by have := hs _ hh; omega), h2, h3⟩, fun i hi => (h.l i hi).touch t (fun k hk => by have := hs _ hk; omega)⟩
theorem MG.setLow {W : World} {B N : Nat} {gs : List GV} (h : MG W B N gs) {X : Nat} (hX : X < B) (i : Nat) (v : Value) : MG (W.setCell ⟨X, i, none⟩ v) B N gs := h.touch (S := fun x => x = X) (Touch.setCell (S := fun x => x = X) (Touch.refl _ _) rfl _) (fun k hk => by omega)
/-- One more is laid. -/
theorem MG.step {W W1 : World} {B N k : Nat} {gs : List GV} {gh : Bool} {Pt : Option Addr} {gtn : Nat} {Qt : List Int} {Pu : Option Addr} {gun : Nat} {Qu : List Int} (h : MG W B N gs) (hk : gs.length = k) (hkN : k < N) (b : Below W.heap.size W W1) (hs : GK W1 W.heap.size ⟨gh, ⟨Pt, gtn, gtn, Qt⟩, ⟨Pu, gun, gun, Qu⟩⟩) :
  MG (((W1.setCell ⟨B, k * 3, none⟩ (.bool gh)).setCell ⟨B, k * 3 + 1, none⟩ (.slice Pt gtn gtn)).setCell ⟨B, k * 3 + 2, none⟩ (.slice Pu gun gun)) B N (gs ++ [⟨gh, ⟨Pt, gtn, gtn, Qt⟩, ⟨Pu, gun, gun, Qu⟩⟩]) := by
 have hB := h.lt
 obtain ⟨vs, h1, h2, h3⟩ := (h.below b).c
 have T : Touch (fun x => x = B) W1 (((W1.setCell ⟨B, k * 3, none⟩ (.bool gh)).setCell ⟨B, k * 3 + 1, none⟩ (.slice Pt gtn gtn)).setCell ⟨B, k * 3 + 2, none⟩ (.slice Pu gun gun)) := (((Touch.refl (fun x => x = B) W1).setCell rfl _).setCell rfl _).setCell rfl _
 refine ⟨⟨putG vs (k * 3) (.bool gh) (.slice Pt gtn gtn) (.slice Pu gun gun), (((h1).set _ _).set _ _).set _ _, by rw [putG_len]; exact h2, fun i hi r hr => ?_⟩, fun i hi => ?_⟩
 ·rw [List.length_append, hk] at hi
  simp only [List.length_cons, List.length_nil] at hi
  by_cases e : i = k
  ·subst e
   rw [putG_at _ _ _ _ _ (by rw [h2]; omega) r hr, List.getElem?_append_right (by omega), hk]
   simp [GV.cs, IV.v]
  ·rw [putG_ne _ _ _ _ _ _ (by omega), List.getElem?_append_left (by omega)]
   exact h3 i (by omega) r hr
 ·rw [List.length_append, hk] at hi
  simp only [List.length_cons, List.length_nil] at hi
  by_cases e : i = k
  ·subst e
   rw [List.getElem?_append_right (by omega), hk]
   simp only [Nat.sub_self, List.getElem?_cons_zero, Option.getD_some]
   exact (hs.mono (by omega)).touch T (fun x hx => by omega)
  ·rw [List.getElem?_append_left (by omega)]
   exact ((h.l i (by omega)).below b).touch T (fun x hx => by omega)

/-- Each holds what the other does. -/
def copiesGS (fs gs : List GV) : Prop := ∀ i, i < gs.length → copiesG (fs[i]?.getD noG) (gs[i]?.getD noG)

theorem Tryz.infoClkGot : (Tryz.prog.info? 133).map (fun i => (i.zero, i.size, i.bytes)) = some (some (.agg #[.bool false, .slice none 0 0, .slice none 0 0]), 3, 56) := by kernel_rfl

set_option maxHeartbeats 3200000 in
theorem toGS_any (ad : Option Addr) (N cap : Nat) (fs : List GV) (w : World) (hN : fs.length = N) (hF : GSG w ad fs) (hN1 : N ≤ 1048576) :
  Calls Tryz.prog 42 #[.slice ad N cap] w fun e w' => ∃ gs, e = .returned (.slice (some ⟨w.heap.size, 0, none⟩) N N) ∧ gs.length = N ∧ copiesGS fs gs ∧ Below w.heap.size w w' ∧ MG w' w.heap.size N gs := by
 have HN : Hid (fs.length = N) := hN
 clear hN
 obtain ⟨i0, hi, hz0, hz1, hz2⟩ := info_parts Tryz.infoClkGot
 go_enter Tryz.func42, Tryz.ntmps42
 go_wp2_with (at_make; refine wpList_make_full _ rfl (.tmp 6) (.tmp 6) 50 rfl w.heap.size 133 i0 (.agg #[.bool false, .slice none 0 0, .slice none 0 0]) 3 Tryz.underlying50 hi hz0 hz1 .i64 .i64 _ _ N rfl rfl rfl rfl (by rw [hz2]; omega) (by unfold maxLen; omega) (Nat.le_refl _) ?_; intro w1 hown hgrow)
 have hb1 : Below w.heap.size w w1 := (Below.refl _ _).grown hgrow (Nat.le_refl _) (by simp)
 have m0 : MG w1 w.heap.size N [] := by
  rcases hown.2 with ⟨h', _⟩ | ⟨g', cap', cur, h', _, hg, _, _, hcs, htake⟩
  ·simp at h'
  ·simp only [Value.slice.injEq, Option.some.injEq, Addr.mk.injEq, and_true, true_and] at h'
   obtain ⟨rfl, rfl⟩ := h'
   exact ⟨⟨cur.toList, by unfold Cel; rw [hg], by simpa using hcs, fun i hi => by simp at hi⟩, fun i hi => by simp at hi⟩
 clear hown hgrow hi hz0 hz1 hz2
 go_loopw [4] (fun i wr => ∃ k : Nat, k ≤ N ∧ i = .int .i64 k ∧ Below w.heap.size w wr ∧ ∃ gs, gs.length = k ∧ copiesGS fs gs ∧ MG wr w.heap.size N gs) (fun i _ => N - (intOf i).toNat)
 case atStart => exact ⟨0, Nat.zero_le _, rfl, hb1, [], rfl, fun i hi => by simp at hi, m0⟩
 case round =>
  clear hb1 m0
  obtain ⟨k, hk, rfl, hb, ts, hts, hcp, hm⟩ := hrel
  have HTS : Hid (ts.length = k) := hts
  have HCP : Hid (copiesGS fs ts) := hcp
  clear hts hcp
  by_cases hlt : k < N
  ·obtain ⟨b, off, rfl, hc, hr⟩ := (hF.below hb) k (by rw [HN.out]; exact hlt)
   generalize HG : fs[k]?.getD noG = g at *
   have HG' : Hid (fs[k]?.getD noG = g) := HG
   clear HG hF
   obtain ⟨e0, e1, e2⟩ := cellsG hc
   obtain ⟨gh, ⟨gta, gtn, gtc, gtx⟩, ⟨gua, gun, guc, gux⟩⟩ := g
   have e0' : wr.cell? ⟨b, off + k * 3, none⟩ = some (.bool gh) := e0
   have e1' : wr.cell? ⟨b, off + k * 3 + 1, none⟩ = some (.slice gta gtn gtc) := e1
   have e2' : wr.cell? ⟨b, off + k * 3 + 2, none⟩ = some (.slice gua gun guc) := e2
   clear e0 e1 e2 hc
   go_wp2_with fail
   refine (toG_ex _ _ _ _ gtx _ _ _ gux _ hr).mono ?_
   rintro ee w2 ⟨Pt, Qt, Pu, Qu, rfl, b2, hK, hcp2⟩
   have ms := hm.step HTS.out hlt b2 hK
   obtain ⟨vs, v1, v2, v3⟩ := (hm.below b2).c
   have hx : ∀ r, r < 3 → ∃ x, w2.cell? ⟨w.heap.size, k * 3 + r, none⟩ = some x := fun r hr => ⟨_, (v1.cell (k * 3 + r)).trans (List.getElem?_eq_getElem (by rw [v2]; omega))⟩
   obtain ⟨x0, y0⟩ := hx 0 (by omega)
   obtain ⟨x1, y1⟩ := hx 1 (by omega)
   obtain ⟨x2, y2⟩ := hx 2 (by omega)
   simp only [Nat.add_zero] at y0
   have f0 := v1.free (k * 3)
   have f1 := v1.free (k * 3 + 1)
   have f2 := v1.free (k * 3 + 2)
   have hb2 := hb.trans (b2.mono hb.size)
   have RB := (((hb2.setCell (p := ⟨w.heap.size, k * 3, none⟩) (Nat.le_refl _) (.bool gh)).setCell (p := ⟨w.heap.size, k * 3 + 1, none⟩) (Nat.le_refl _) (.slice Pt gtn gtn)).setCell (p := ⟨w.heap.size, k * 3 + 2, none⟩) (Nat.le_refl _) (.slice Pu gun gun))
   have CP : copiesGS fs (ts ++ [⟨gh, ⟨Pt, gtn, gtn, Qt⟩, ⟨Pu, gun, gun, Qu⟩⟩]) := fun i hi => by
    rw [List.length_append, HTS.out] at hi
    simp only [List.length_cons, List.length_nil] at hi
    by_cases e : i = k
    ·subst e
     rw [List.getElem?_append_right (by rw [HTS.out]; exact Nat.le_refl _), HTS.out, HG'.out]
     simpa using hcp2
    ·rw [List.getElem?_append_left (by rw [HTS.out]; omega)]
     exact HCP.out i (by rw [HTS.out]; omega)
   have HCP2 : Hid _ := CP
   clear hm b2 hb hb2 v1 v2 v3 hx CP hr hcp2 hK
   go_wp2
   go_roundw
   case rel => exact ⟨k + 1, by omega, by go_num, RB, _, by rw [List.length_append, HTS.out]; rfl, HCP2.out, ms⟩
   case measure => simp [intOf]; omega
  ·obtain rfl : k = N := by omega
   go_wp2
   go_ret
   exact ⟨ts, rfl, HTS.out, HCP.out, hb, hm⟩

set_option maxHeartbeats 1600000 in
/-- Held against a slice that holds the same. -/
theorem eqGS_same (ad ae : Option Addr) (N cap cap' : Nat) (fs gs : List GV) (w : World) (hN : fs.length = N) (hM : gs.length = N) (hF : GSG w ad fs) (hG : GSG w ae gs) (hN1 : N ≤ 1048576)
  (hsame : ∀ i, i < N → sameG (fs[i]?.getD noG) (gs[i]?.getD noG)) :
  Calls Tryz.prog 48 #[.slice ad N cap, .slice ae N cap'] w fun e w' => e = .returned (.bool true) ∧ Below w.heap.size w w' := by
 have HN : Hid (fs.length = N) := hN
 have HM : Hid (gs.length = N) := hM
 have HS : Hid _ := hsame
 clear hN hM hsame
 go_enter Tryz.func48, Tryz.ntmps48
 go_wp2_with fail
 go_loopw [5] (fun i wr => ∃ k : Nat, k ≤ N ∧ i = .int .i64 k ∧ Below w.heap.size w wr) (fun i _ => N - (intOf i).toNat)
 case atStart => exact ⟨0, Nat.zero_le _, rfl, Below.refl _ _⟩
 case round =>
  obtain ⟨k, hk, rfl, hb⟩ := hrel
  by_cases hlt : k < N
  ·obtain ⟨b, off, rfl, hc, hr⟩ := (hF.below hb) k (by rw [HN.out]; exact hlt)
   obtain ⟨b', off', rfl, hc', hr'⟩ := (hG.below hb) k (by rw [HM.out]; exact hlt)
   have hs := HS.out k hlt
   generalize HG1 : fs[k]?.getD noG = fe at *
   generalize HG2 : gs[k]?.getD noG = g at *
   clear HG1 HG2 hF hG
   obtain ⟨e0, e1, e2⟩ := cellsG hc
   obtain ⟨feh, ⟨feta, fetn, fetc, fetx⟩, ⟨feua, feun, feuc, feux⟩⟩ := fe
   have e0' : wr.cell? ⟨b, off + k * 3, none⟩ = some (.bool feh) := e0
   have e1' : wr.cell? ⟨b, off + k * 3 + 1, none⟩ = some (.slice feta fetn fetc) := e1
   have e2' : wr.cell? ⟨b, off + k * 3 + 2, none⟩ = some (.slice feua feun feuc) := e2
   clear e0 e1 e2 hc
   obtain ⟨d0, d1, d2⟩ := cellsG hc'
   obtain ⟨gh, ⟨gta, gtn, gtc, gtx⟩, ⟨gua, gun, guc, gux⟩⟩ := g
   have d0' : wr.cell? ⟨b', off' + k * 3, none⟩ = some (.bool gh) := d0
   have d1' : wr.cell? ⟨b', off' + k * 3 + 1, none⟩ = some (.slice gta gtn gtc) := d1
   have d2' : wr.cell? ⟨b', off' + k * 3 + 2, none⟩ = some (.slice gua gun guc) := d2
   clear d0 d1 d2 hc'
   have hlt' : (k : Int) < (N : Int) := by omega
   go_wp2_with fail
   go_region_with (first | (go_at_call 93; refine (eqG_ex _ _ _ _ fetx _ _ _ feux _ _ _ _ gtx _ _ _ gux _ (by exact hr.below (Below.refl _ _).drew) (by exact hr'.below (Below.refl _ _).drew) hs).mono ?_; rintro ee w1 ⟨rfl, b1⟩))
   all_goals
    have b1' := below_of_drew b1
    go_wp2
    go_roundw
    case rel => exact ⟨k + 1, by omega, by go_num, hb.trans (b1'.mono hb.size)⟩
    case measure => simp [intOf]; omega
  ·go_wp2
   go_ret
   exact ⟨rfl, hb⟩

end Go.Proofs.YtdigmokjedckeaaGreatDoor
namespace Go.Proofs.YtdigmokjedckeaaGreatDoor
open Go.ChangeShapes Go.WideShapes Go.ChangeAt Go.RowKit Go.Joins Go.Deep
set_option linter.unusedVariables false
set_option maxRecDepth 100000
theorem Cel.sixP {w : World} {B : Nat} {x y z u v t' : Value} {t : TypeId} (h : Cel w B [x, y, z, u, v, t'] t) : w.cell? ⟨B, 0, none⟩ = some x ∧ w.cell? ⟨B, 1, none⟩ = some y ∧ w.cell? ⟨B, 2, none⟩ = some z ∧ w.cell? ⟨B, 3, none⟩ = some u ∧ w.cell? ⟨B, 4, none⟩ = some v ∧ w.cell? ⟨B, 5, none⟩ = some t' := ⟨h.cell 0, h.cell 1, h.cell 2, h.cell 3, h.cell 4, h.cell 5⟩
theorem array6 {α : Type} {cs : Array α} (h : cs.size = 6) : ∃ c0 c1 c2 c3 c4 c5, cs = #[c0, c1, c2, c3, c4, c5] := by
 obtain ⟨l⟩ := cs
 match l, h with
 | [c0, c1, c2, c3, c4, c5], _ => exact ⟨c0, c1, c2, c3, c4, c5, rfl⟩
theorem trod_struct6 {H : Type} {enc : TypeId × Value → H} {W : World} {t : TypeId} {f0 f1 f2 f3 f4 f5 : Field} {fuel : Nat} {cs : List Value} {x : DataW H × List MemPlace} (ht : Tryz.prog.underlying t = some (.struct #[f0, f1, f2, f3, f4, f5])) (h : DataW.trod enc Tryz.prog W 0 (fun _ => true) true fuel t cs = some x) :
  ∃ y0 y1 y2 y3 y4 y5 n, DataW.trod enc Tryz.prog W 0 (fun _ => true) true n f0.type ((cs.drop f0.offset).take (Tryz.prog.cellsOf f0.type)) = some y0 ∧ DataW.trod enc Tryz.prog W 0 (fun _ => true) true n f1.type ((cs.drop f1.offset).take (Tryz.prog.cellsOf f1.type)) = some y1 ∧ DataW.trod enc Tryz.prog W 0 (fun _ => true) true n f2.type ((cs.drop f2.offset).take (Tryz.prog.cellsOf f2.type)) = some y2 ∧
   DataW.trod enc Tryz.prog W 0 (fun _ => true) true n f3.type ((cs.drop f3.offset).take (Tryz.prog.cellsOf f3.type)) = some y3 ∧ DataW.trod enc Tryz.prog W 0 (fun _ => true) true n f4.type ((cs.drop f4.offset).take (Tryz.prog.cellsOf f4.type)) = some y4 ∧ DataW.trod enc Tryz.prog W 0 (fun _ => true) true n f5.type ((cs.drop f5.offset).take (Tryz.prog.cellsOf f5.type)) = some y5 := by
 obtain ⟨xs, n, _, rfl, hl, hlen, hf⟩ := DataW.trod_struct ht h
 match xs, hlen with
 | [y0, y1, y2, y3, y4, y5], _ => exact ⟨y0, y1, y2, y3, y4, y5, n, by simpa using hf 0 f0 rfl, by simpa using hf 1 f1 rfl, by simpa using hf 2 f2 rfl, by simpa using hf 3 f3 rfl, by simpa using hf 4 f4 rfl, by simpa using hf 5 f5 rfl⟩
theorem open_agg6 {H : Type} {enc : TypeId × Value → H} {W : World} {r : Reach} {b0 : Nat} {t : TypeId} {f0 f1 f2 f3 f4 f5 : Field} {v : Value} {d : DataW H} {p : List MemPlace} (hs : Tryz.prog.underlying t = some (.struct #[f0, f1, f2, f3, f4, f5])) (hone : oneCellFields Tryz.prog #[f0, f1, f2, f3, f4, f5] = true) (hC : Tryz.prog.cellsOf t = 6)
  (hv : Value.okWide Tryz.prog W r b0 t v) (h : DataW.Trod enc Tryz.prog W 0 (fun _ => true) true t v d p) :
  ∃ (v0 v1 v2 v3 v4 v5 : Value) (y0 y1 y2 y3 y4 y5 : DataW H × List MemPlace) (n : Nat), v = .agg #[v0, v1, v2, v3, v4, v5] ∧
   DataW.trod enc Tryz.prog W 0 (fun _ => true) true n f0.type [v0] = some y0 ∧ DataW.trod enc Tryz.prog W 0 (fun _ => true) true n f1.type [v1] = some y1 ∧ DataW.trod enc Tryz.prog W 0 (fun _ => true) true n f2.type [v2] = some y2 ∧ DataW.trod enc Tryz.prog W 0 (fun _ => true) true n f3.type [v3] = some y3 ∧ DataW.trod enc Tryz.prog W 0 (fun _ => true) true n f4.type [v4] = some y4 ∧ DataW.trod enc Tryz.prog W 0 (fun _ => true) true n f5.type [v5] = some y5 := by
 obtain ⟨cs, rfl, hsz⟩ := okWide_struct hs hv
 obtain ⟨c0, c1, c2, c3, c4, c5, rfl⟩ := array6 (hsz.trans hC)
 obtain ⟨fuel, hf⟩ := h
 obtain ⟨y0, y1, y2, y3, y4, y5, n, h0, h1, h2, h3, h4, h5⟩ := trod_struct6 hs hf
 obtain ⟨o0, k0⟩ := hone_of hone 0 f0 rfl
 obtain ⟨o1, k1⟩ := hone_of hone 1 f1 rfl
 obtain ⟨o2, k2⟩ := hone_of hone 2 f2 rfl
 obtain ⟨o3, k3⟩ := hone_of hone 3 f3 rfl
 obtain ⟨o4, k4⟩ := hone_of hone 4 f4 rfl
 obtain ⟨o5, k5⟩ := hone_of hone 5 f5 rfl
 exact ⟨c0, c1, c2, c3, c4, c5, y0, y1, y2, y3, y4, y5, n, rfl, by simpa [Value.cells, o0, k0] using h0, by simpa [Value.cells, o1, k1] using h1, by simpa [Value.cells, o2, k2] using h2, by simpa [Value.cells, o3, k3] using h3, by simpa [Value.cells, o4, k4] using h4, by simpa [Value.cells, o5, k5] using h5⟩

end Go.Proofs.YtdigmokjedckeaaGreatDoor
namespace Go.Proofs.YtdigmokjedckeaaGreatDoor
open Go.ChangeShapes Go.WideShapes Go.ChangeAt Go.RowKit Go.Joins Go.Deep
set_option linter.unusedVariables false
set_option maxRecDepth 100000

/-- As a value. -/
abbrev ckV (u : Bool) (r : Int) (ba : Option Addr) (bn bc : Nat) (da : Option Addr) (dn dc : Nat) (ka : Option Addr) (kn kc : Nat) (ga : Option Addr) (gn gc : Nat) : Value := .agg #[.bool u, .int .i64 r, .slice ba bn bc, .slice da dn dc, .slice ka kn kc, .slice ga gn gc]
/-- What one holds, that may be copied. -/
structure CkAt (w : World) (ba : Option Addr) (bn : Nat) (bx : List Int) (da : Option Addr) (dn : Nat) (dx : List DV) (ka : Option Addr) (kn : Nat) (kx : List QV) (ga : Option Addr) (gn : Nat) (gx : List GV) : Prop where
 b : Ints w ba bn bx
 zb : bn ≤ 1048576
 d : DSG w da dx
 ld : dx.length = dn
 zd : dn ≤ 1048576
 k : QSG w ka kx
 lk : kx.length = kn
 zk : kn ≤ 1048576
 g : GSG w ga gx
 lg : gx.length = gn
 zg : gn ≤ 1048576
theorem CkAt.below {w w' : World} {ba : Option Addr} {bn : Nat} {bx : List Int} {da : Option Addr} {dn : Nat} {dx : List DV} {ka : Option Addr} {kn : Nat} {kx : List QV} {ga : Option Addr} {gn : Nat} {gx : List GV} (h : CkAt w ba bn bx da dn dx ka kn kx ga gn gx) (hb : Below w.heap.size w w') : CkAt w' ba bn bx da dn dx ka kn kx ga gn gx :=
 ⟨h.b.below hb, h.zb, h.d.below hb, h.ld, h.zd, h.k.below hb, h.lk, h.zk, h.g.below hb, h.lg, h.zg⟩
theorem CkAt.alloc {w : World} {ba : Option Addr} {bn : Nat} {bx : List Int} {da : Option Addr} {dn : Nat} {dx : List DV} {ka : Option Addr} {kn : Nat} {kx : List QV} {ga : Option Addr} {gn : Nat} {gx : List GV} (h : CkAt w ba bn bx da dn dx ka kn kx ga gn gx) (o : Obj) : CkAt (w.alloc o) ba bn bx da dn dx ka kn kx ga gn gx := h.below ((Below.refl _ _).alloc (Nat.le_refl _) _)
theorem CkAt.drewS {w : World} {ba : Option Addr} {bn : Nat} {bx : List Int} {da : Option Addr} {dn : Nat} {dx : List DV} {ka : Option Addr} {kn : Nat} {kx : List QV} {ga : Option Addr} {gn : Nat} {gx : List GV} (h : CkAt w ba bn bx da dn dx ka kn kx ga gn gx) : CkAt w.drew ba bn bx da dn dx ka kn kx ga gn gx := h.below (Below.refl _ _).drew

theorem open_clerk {H : Type} {enc : TypeId × Value → H} {W : World} {r0 : Reach} {b0 : Nat} {v : Value} {d0 : DataW H} {p : List MemPlace}
  (hv : Value.okWide Tryz.prog W r0 b0 46 v) (h : DataW.Trod enc Tryz.prog W 0 (fun _ => true) true 46 v d0 p) :
  ∃ u r ba bn bc bx da dn dc dx ka kn kc kx ga gn gc gx, v = ckV u r ba bn bc da dn dc ka kn kc ga gn gc ∧ (Lit.int .i64 r).wf = true ∧ Ints W ba bn bx ∧ bn ≤ maxLen ∧ dx.length = dn ∧ DSM W da dx ∧ dn ≤ maxLen ∧ kx.length = kn ∧ QSM W ka kx ∧ kn ≤ maxLen ∧ gx.length = gn ∧ GSM W ga gx ∧ gn ≤ maxLen := by
 obtain ⟨v0, v1, v2, v3, v4, v5, y0, y1, y2, y3, y4, y5, k, rfl, h0, h1, h2, h3, h4, h5⟩ := open_agg6 Tryz.underlying46 (by kernel_rfl) (by kernel_rfl) hv h
 obtain ⟨u, e0, _⟩ := DataW.trod_bool Tryz.underlying4 h0
 obtain rfl : v0 = .bool u := by simpa using e0
 obtain ⟨r, rfl, w1⟩ := open_num h1
 obtain ⟨ba, bn, bc, bx, rfl, i2, n2⟩ := open_row h2
 obtain ⟨da, dn, dc, dx, rfl, l3, m3, n3⟩ := open_DS h3
 obtain ⟨ka, kn, kc, kx, rfl, l4, m4, n4⟩ := open_QS h4
 obtain ⟨ga, gn, gc, gx, rfl, l5, m5, n5⟩ := open_GS h5
 exact ⟨u, r, ba, bn, bc, bx, da, dn, dc, dx, ka, kn, kc, kx, ga, gn, gc, gx, rfl, w1, i2, n2, l3, m3, n3, l4, m4, n4, l5, m5, n5⟩

set_option maxHeartbeats 1600000 in
theorem szCk_any (u : Bool) (r : Int) (ba : Option Addr) (bn bc : Nat) (bx : List Int) (da : Option Addr) (dn dc : Nat) (dx : List DV) (ka : Option Addr) (kn kc : Nat) (kx : List QV) (ga : Option Addr) (gn gc : Nat) (gx : List GV) (l : Int) (w : World) (hb : Ints w ba bn bx) (mb : bn ≤ maxLen) (ld : dx.length = dn) (hd : DSM w da dx) (md : dn ≤ maxLen) (lk : kx.length = kn) (hk : QSM w ka kx) (mk : kn ≤ maxLen) (lg : gx.length = gn) (hg : GSM w ga gx) (mg : gn ≤ maxLen) (h0 : 0 ≤ l) (hl : l ≤ 1048576) :
  Calls Tryz.prog 14 #[ckV u r ba bn bc da dn dc ka kn kc ga gn gc, .int .i64 l] w fun e w' => ∃ r', e = .returned (.int .i64 r') ∧ -1 ≤ r' ∧ r' ≤ 1048576 ∧ (0 ≤ r' → CkAt w ba bn bx da dn dx ka kn kx ga gn gx) ∧ Below w.heap.size w w' := by
 have n0 := BP.new w [.bool u, .int .i64 r, .slice ba bn bc, .slice da dn dc, .slice ka kn kc, .slice ga gn gc] 46
 have Ld : Hid (dx.length = dn) := ld
 clear ld
 have Lk : Hid (kx.length = kn) := lk
 clear lk
 have Lg : Hid (gx.length = gn) := lg
 clear lg
 go_enter Tryz.func14, Tryz.ntmps14
 go_wp2_with fail
 refine (szI_ex _ _ _ bx _ _ ⟨hb.below n0.b, mb⟩ h0 hl).mono ?_
 rintro e w1 ⟨r1, rfl, p1, q1, s1, b1⟩
 have n1 := n0.below b1
 obtain ⟨c0, c1, c2, c3, c4, c5⟩ := n1.p.sixP
 by_cases g1 : r1 < 0
 ·go_wp2
  go_ret
  exact ⟨-1, rfl, by omega, by omega, fun h => by omega, n1.b⟩
 have g1' : 0 ≤ r1 := by omega
 have S1 : Hid _ := s1 g1'
 clear s1 g1 n0 b1
 go_wp2_with fail
 refine (szDS_any _ _ _ dx _ _ Ld.out (hd.below n1.b) md g1' q1).mono ?_
 rintro e w2 ⟨r2, rfl, p2, q2, s2, b2⟩
 have n2 := n1.below b2
 clear c0 c1 c2 c3 c4 c5
 obtain ⟨c0, c1, c2, c3, c4, c5⟩ := n2.p.sixP
 by_cases g2 : r2 < 0
 ·go_wp2
  go_ret
  exact ⟨-1, rfl, by omega, by omega, fun h => by omega, n2.b⟩
 have g2' : 0 ≤ r2 := by omega
 have S2 : Hid _ := s2 g2'
 clear s2 g2 n1 b2
 go_wp2_with fail
 refine (szQS_any _ _ _ kx _ _ Lk.out (hk.below n2.b) mk g2' q2).mono ?_
 rintro e w3 ⟨r3, rfl, p3, q3, s3, b3⟩
 have n3 := n2.below b3
 clear c0 c1 c2 c3 c4 c5
 obtain ⟨c0, c1, c2, c3, c4, c5⟩ := n3.p.sixP
 by_cases g3 : r3 < 0
 ·go_wp2
  go_ret
  exact ⟨-1, rfl, by omega, by omega, fun h => by omega, n3.b⟩
 have g3' : 0 ≤ r3 := by omega
 have S3 : Hid _ := s3 g3'
 clear s3 g3 n2 b3
 go_wp2_with fail
 refine (szGS_any _ _ _ gx _ _ Lg.out (hg.below n3.b) mg g3' q3).mono ?_
 rintro e w4 ⟨r4, rfl, p4, q4, s4, b4⟩
 have n4 := n3.below b4
 clear c0 c1 c2 c3 c4 c5
 obtain ⟨c0, c1, c2, c3, c4, c5⟩ := n4.p.sixP
 by_cases g4 : r4 < 0
 ·go_wp2
  go_ret
  exact ⟨-1, rfl, by omega, by omega, fun h => by omega, n4.b⟩
 have g4' : 0 ≤ r4 := by omega
 have S4 : Hid _ := s4 g4'
 clear s4 g4 n3 b4
 go_wp2
 go_ret
 exact ⟨r4, rfl, by omega, q4, fun _ => ⟨hb, S1.out, hd.g S2.out.2, Ld.out, S2.out.1, hk.g S3.out.2, Lk.out, S3.out.1, hg.g S4.out.2, Lg.out, S4.out.1⟩, n4.b⟩

set_option maxHeartbeats 3200000 in
theorem toCk_any (u : Bool) (r : Int) (ba : Option Addr) (bn bc : Nat) (bx : List Int) (da : Option Addr) (dn dc : Nat) (dx : List DV) (ka : Option Addr) (kn kc : Nat) (kx : List QV) (ga : Option Addr) (gn gc : Nat) (gx : List GV) (w : World) (h : CkAt w ba bn bx da dn dx ka kn kx ga gn gx) :
  Calls Tryz.prog 16 #[ckV u r ba bn bc da dn dc ka kn kc ga gn gc] w fun e w' => ∃ Bb Bd yd Bk yk Bg yg, e = .returned (ckV u r (some ⟨Bb, 0, none⟩) bn bn (some ⟨Bd, 0, none⟩) dn dn (some ⟨Bk, 0, none⟩) kn kn (some ⟨Bg, 0, none⟩) gn gn) ∧ yd.length = dn ∧ copiesDS dx yd ∧ yk.length = kn ∧ copiesQS kx yk ∧ yg.length = gn ∧ copiesGS gx yg ∧ Below w.heap.size w w' ∧ Blk w' Bb bx ∧ MD w' Bd dn yd ∧ MQ w' Bk kn yk ∧ MG w' Bg gn yg ∧ w.heap.size ≤ Bb ∧ Bb < Bd ∧ Bd < Bk ∧ Bk < Bg := by
 have zb := h.zb
 have zd := h.zd
 have Ld : Hid (dx.length = dn) := h.ld
 have zk := h.zk
 have Lk : Hid (kx.length = kn) := h.lk
 have zg := h.zg
 have Lg : Hid (gx.length = gn) := h.lg
 go_enter Tryz.func16, Tryz.ntmps16
 go_wp2_with fail
 refine (to_any _ _ _ bx _ (((h.alloc _).alloc _).alloc _).b zb).mono ?_
 rintro e w1 ⟨rfl, b1, kb⟩
 have p0 := (((Cel.new w _ _).alloc _).alloc _).below b1
 have pr := ((Cel.new (w.alloc _) _ _).alloc _).below b1
 have px := (Cel.new ((w.alloc _).alloc _) _ _).below b1
 rw [World.size_alloc] at pr
 rw [World.size_alloc, World.size_alloc] at px
 rw [World.size_alloc, World.size_alloc, World.size_alloc] at kb
 have s1 := kb.lt
 have B1 : Below w.heap.size w w1 := ((((Below.refl _ _).alloc (Nat.le_refl _) _).alloc (by simp) _).alloc (by simp; omega) _).trans (b1.mono (by simp; omega))
 clear b1
 obtain ⟨c0, c1, c2, c3, c4, c5⟩ := p0.sixP
 obtain ⟨d0, d1, d2, d3, d4, d5⟩ := px.sixP
 have f0 := px.free 2
 go_wp2_with fail
 have B1s := B1.setCell (p := ⟨w.heap.size + 1 + 1, 2, none⟩) (by show w.heap.size ≤ w.heap.size + 1 + 1; omega) (Value.slice (some ⟨w.heap.size + 1 + 1 + 1, 0, none⟩) bn bn)
 refine (toDS_any _ _ _ dx _ Ld.out (h.below B1s).d zd).mono ?_
 rintro e w2 ⟨yd, rfl, lgd, cpd, b2, kd⟩
 have LGd : Hid _ := lgd
 have CPd : Hid _ := cpd
 clear lgd cpd
 clear c0 c1 c2 c3 c4 c5 d0 d1 d2 d3 d4 d5 f0
 replace p0 := (p0.setOther (by omega) _ _).below b2
 replace pr := (pr.setOther (by omega) _ _).below b2
 replace px := (px.set _ _).below b2
 replace kb := (kb.setOther (B' := w.heap.size + 1 + 1) (by omega) 2 _).below b2
 have B2 := B1s.trans (b2.mono B1s.size)
 rw [size_setCell] at kd
 have s2 := kd.lt
 clear b2 B1 B1s
 simp only [List.set_cons_zero, List.set_cons_succ] at px
 obtain ⟨c0, c1, c2, c3, c4, c5⟩ := p0.sixP
 obtain ⟨d0, d1, d2, d3, d4, d5⟩ := px.sixP
 have f0 := px.free 3
 go_wp2_with fail
 have B2s := B2.setCell (p := ⟨w.heap.size + 1 + 1, 3, none⟩) (by show w.heap.size ≤ w.heap.size + 1 + 1; omega) (Value.slice (some ⟨w1.heap.size, 0, none⟩) dn dn)
 refine (toQS_any _ _ _ kx _ Lk.out (h.below B2s).k zk).mono ?_
 rintro e w3 ⟨yk, rfl, lgk, cpk, b3, kk⟩
 have LGk : Hid _ := lgk
 have CPk : Hid _ := cpk
 clear lgk cpk
 clear c0 c1 c2 c3 c4 c5 d0 d1 d2 d3 d4 d5 f0
 replace p0 := (p0.setOther (by omega) _ _).below b3
 replace pr := (pr.setOther (by omega) _ _).below b3
 replace px := (px.set _ _).below b3
 replace kb := (kb.setOther (B' := w.heap.size + 1 + 1) (by omega) 3 _).below b3
 replace kd := (kd.setLow (X := w.heap.size + 1 + 1) (by omega) 3 _).below b3
 have B3 := B2s.trans (b3.mono B2s.size)
 rw [size_setCell] at kk
 have s3 := kk.lt
 clear b3 B2 B2s
 simp only [List.set_cons_zero, List.set_cons_succ] at px
 obtain ⟨c0, c1, c2, c3, c4, c5⟩ := p0.sixP
 obtain ⟨d0, d1, d2, d3, d4, d5⟩ := px.sixP
 have f0 := px.free 4
 go_wp2_with fail
 have B3s := B3.setCell (p := ⟨w.heap.size + 1 + 1, 4, none⟩) (by show w.heap.size ≤ w.heap.size + 1 + 1; omega) (Value.slice (some ⟨w2.heap.size, 0, none⟩) kn kn)
 refine (toGS_any _ _ _ gx _ Lg.out (h.below B3s).g zg).mono ?_
 rintro e w4 ⟨yg, rfl, lgg, cpg, b4, kg⟩
 have LGg : Hid _ := lgg
 have CPg : Hid _ := cpg
 clear lgg cpg
 clear c0 c1 c2 c3 c4 c5 d0 d1 d2 d3 d4 d5 f0
 replace p0 := (p0.setOther (by omega) _ _).below b4
 replace pr := (pr.setOther (by omega) _ _).below b4
 replace px := (px.set _ _).below b4
 replace kb := (kb.setOther (B' := w.heap.size + 1 + 1) (by omega) 4 _).below b4
 replace kd := (kd.setLow (X := w.heap.size + 1 + 1) (by omega) 4 _).below b4
 replace kk := (kk.setLow (X := w.heap.size + 1 + 1) (by omega) 4 _).below b4
 have B4 := B3s.trans (b4.mono B3s.size)
 rw [size_setCell] at kg
 have s4 := kg.lt
 clear b4 B3 B3s
 simp only [List.set_cons_zero, List.set_cons_succ] at px
 obtain ⟨d0, d1, d2, d3, d4, d5⟩ := px.sixP
 obtain ⟨e0, e1, e2, e3, e4, e5⟩ := pr.sixP
 have f0 := px.free 5
 have g0 := pr.free 0
 have g1 := pr.free 1
 have g2 := pr.free 2
 have g3 := pr.free 3
 have g4 := pr.free 4
 have g5 := pr.free 5
 have hlt1 : w.heap.size + 1 < w4.heap.size := by omega
 have hlt2 : w.heap.size + 1 + 1 < w4.heap.size := by omega
 go_wp2
 refine bodyPost_ret (v := ckV u r (some ⟨w.heap.size + 1 + 1 + 1, 0, none⟩) bn bn (some ⟨w1.heap.size, 0, none⟩) dn dn (some ⟨w2.heap.size, 0, none⟩) kn kn (some ⟨w3.heap.size, 0, none⟩) gn gn) (by simp [results, Tryz.results16, go_sem, e0, e1, e2, e3, e4, e5]) rfl ⟨_, _, yd, _, yk, _, yg, rfl, LGd.out, CPd.out, LGk.out, CPk.out, LGg.out, CPg.out, ?_, ?_, ?_, ?_, ?_, by omega, by omega, by omega, by omega⟩
 ·exact (((((((B4).setCell (by simp only []; omega) _).setCell (by simp only []; omega) _).setCell (by simp only []; omega) _).setCell (by simp only []; omega) _).setCell (by simp only []; omega) _).setCell (by simp only []; omega) _).setCell (by simp only []; omega) _
 ·exact (((((((kb).setOther (by omega) _ _).setOther (by omega) _ _).setOther (by omega) _ _).setOther (by omega) _ _).setOther (by omega) _ _).setOther (by omega) _ _).setOther (by omega) _ _
 ·exact (((((((kd).setLow (by omega) _ _).setLow (by omega) _ _).setLow (by omega) _ _).setLow (by omega) _ _).setLow (by omega) _ _).setLow (by omega) _ _).setLow (by omega) _ _
 ·exact (((((((kk).setLow (by omega) _ _).setLow (by omega) _ _).setLow (by omega) _ _).setLow (by omega) _ _).setLow (by omega) _ _).setLow (by omega) _ _).setLow (by omega) _ _
 ·exact (((((((kg).setLow (by omega) _ _).setLow (by omega) _ _).setLow (by omega) _ _).setLow (by omega) _ _).setLow (by omega) _ _).setLow (by omega) _ _).setLow (by omega) _ _

set_option maxHeartbeats 1600000 in
/-- Held against one that holds the same. -/
theorem eqCk_same (u : Bool) (r : Int) (ba : Option Addr) (bn bc : Nat) (bx : List Int) (da : Option Addr) (dn dc : Nat) (dx : List DV) (ka : Option Addr) (kn kc : Nat) (kx : List QV) (ga : Option Addr) (gn gc : Nat) (gx : List GV) (ba' : Option Addr) (bc' : Nat) (da' : Option Addr) (dc' : Nat) (dx' : List DV) (ka' : Option Addr) (kc' : Nat) (kx' : List QV) (ga' : Option Addr) (gc' : Nat) (gx' : List GV) (w : World) (h : CkAt w ba bn bx da dn dx ka kn kx ga gn gx) (h' : CkAt w ba' bn bx da' dn dx' ka' kn kx' ga' gn gx') (Ed : ∀ i, i < dn → sameD (dx[i]?.getD noD) (dx'[i]?.getD noD)) (Ek : ∀ i, i < kn → sameQ (kx[i]?.getD noQ) (kx'[i]?.getD noQ)) (Eg : ∀ i, i < gn → sameG (gx[i]?.getD noG) (gx'[i]?.getD noG)) :
  Calls Tryz.prog 18 #[ckV u r ba bn bc da dn dc ka kn kc ga gn gc, ckV u r ba' bn bc' da' dn dc' ka' kn kc' ga' gn gc'] w fun e w' => e = .returned (.bool true) ∧ Below w.heap.size w w' := by
 have HBb := eqB_refl bx
 have HEd : Hid _ := Ed
 clear Ed
 have HEk : Hid _ := Ek
 clear Ek
 have HEg : Hid _ := Eg
 clear Eg
 have hu : (u != u) = false := by cases u <;> rfl
 have hr : (r != r) = false := by simp
 have n0 := (BP.new w [.bool u, .int .i64 r, .slice ba bn bc, .slice da dn dc, .slice ka kn kc, .slice ga gn gc] 52).alloc (.cells #[.bool u, .int .i64 r, .slice ba' bn bc', .slice da' dn dc', .slice ka' kn kc', .slice ga' gn gc'] 52)
 have y0 := Cel.new (w.alloc (.cells #[.bool u, .int .i64 r, .slice ba bn bc, .slice da dn dc, .slice ka kn kc, .slice ga gn gc] 52)) [.bool u, .int .i64 r, .slice ba' bn bc', .slice da' dn dc', .slice ka' kn kc', .slice ga' gn gc'] 52
 rw [World.size_alloc] at y0
 go_enter Tryz.func18, Tryz.ntmps18
 go_wp2_with fail
 refine (eq_any _ _ _ _ _ _ bx bx _ (h.below n0.b).b (h'.below n0.b).b h.zb h.zb).mono ?_
 rintro e w1 ⟨rfl, b1⟩
 rw [HBb]
 have n1 := n0.below b1
 have y1 := y0.below b1
 clear n0 y0 b1
 obtain ⟨c0, c1, c2, c3, c4, c5⟩ := n1.p.sixP
 obtain ⟨d0, d1, d2, d3, d4, d5⟩ := y1.sixP
 go_wp2_with fail
 refine (eqDS_same _ _ _ _ _ dx dx' _ h.ld h'.ld (h.below n1.b).d (h'.below n1.b).d h.zd HEd.out).mono ?_
 rintro e w2 ⟨rfl, b2⟩
 have n2 := n1.below b2
 have y2 := y1.below b2
 clear n1 y1 b2 c0 c1 c2 c3 c4 c5 d0 d1 d2 d3 d4 d5
 obtain ⟨c0, c1, c2, c3, c4, c5⟩ := n2.p.sixP
 obtain ⟨d0, d1, d2, d3, d4, d5⟩ := y2.sixP
 go_wp2_with fail
 refine (eqQS_same _ _ _ _ _ kx kx' _ h.lk h'.lk (h.below n2.b).k (h'.below n2.b).k h.zk HEk.out).mono ?_
 rintro e w3 ⟨rfl, b3⟩
 have n3 := n2.below b3
 have y3 := y2.below b3
 clear n2 y2 b3 c0 c1 c2 c3 c4 c5 d0 d1 d2 d3 d4 d5
 obtain ⟨c0, c1, c2, c3, c4, c5⟩ := n3.p.sixP
 obtain ⟨d0, d1, d2, d3, d4, d5⟩ := y3.sixP
 go_wp2_with fail
 refine (eqGS_same _ _ _ _ _ gx gx' _ h.lg h'.lg (h.below n3.b).g (h'.below n3.b).g h.zg HEg.out).mono ?_
 rintro e w4 ⟨rfl, b4⟩
 have n4 := n3.below b4
 have y4 := y3.below b4
 clear n3 y3 b4 c0 c1 c2 c3 c4 c5 d0 d1 d2 d3 d4 d5
 go_wp2
 go_ret
 exact ⟨rfl, n4.b⟩

end Go.Proofs.YtdigmokjedckeaaGreatDoor
namespace Go.Proofs.YtdigmokjedckeaaGreatDoor
open Go.RowKit Go.Deep
set_option linter.unusedVariables false
set_option maxRecDepth 100000

def callOkB (cl sq ac : Int) (n : Nat) (zs : List Int) : Bool := inB cl 0 3 && (inB sq 1 300 && (inB ac 0 3 && okN 2 9 n zs))
def wClient : List UInt8 := [99, 108, 105, 101, 110, 116]
def wCall : List UInt8 := [99, 97, 108, 108]
def wAct : List UInt8 := [97, 99, 116]
def wWith : List UInt8 := [119, 105, 116, 104]
def callL (cl sq ac : Int) (zs : List Int) : List UInt8 := wClient ++ ([32] ++ (Lib.itoa cl ++ ([32] ++ (wCall ++ ([32] ++ (Lib.itoa sq ++ ([32] ++ (wAct ++ ([32] ++ (Lib.itoa ac ++ ([32] ++ (wWith ++ tailL zs))))))))))))
def callText (cl sq ac : Int) (n : Nat) (zs : List Int) : List UInt8 := if callOkB cl sq ac n zs = true then callL cl sq ac zs else []
theorem callText_no {cl sq ac : Int} {n : Nat} {zs : List Int} (h : callOkB cl sq ac n zs = false) : callText cl sq ac n zs = [] := by rw [callText, h]; rfl
theorem callText_yes {cl sq ac : Int} {n : Nat} {zs : List Int} (h : callOkB cl sq ac n zs = true) : callText cl sq ac n zs = callL cl sq ac zs := by rw [callText, if_pos h]
end Go.Proofs.YtdigmokjedckeaaGreatDoor
namespace Go.Proofs.YtdigmokjedckeaaGreatDoor
open Go.RowKit
section
variable {P : Program} {ops : Array Oper} {Q : Exit → Act → World → Prop} {md : Region.Mode} {S0 S : World → Prop} {s : Nat}
theorem tkE {i : Nat} {oi : Oper} {v : Value} {fuel : Nat} {listed : Array Bool} {a : Act} {w : World} (hi : ops[i]? = some oi) (hy : YieldsIf P ops S0 oi v a) (hS : S0 w ∧ S w)
    (h : wpAnyE P md ops Q S0 S s fuel (listed.setIfInBounds i true) (a.put oi.dst v) w)
    (hs : Region.noSelect ops = true := by kernel_rfl) (hf : Region.free md ops listed i = true := by kernel_rfl) (hr : (Region.ready md ops listed).contains i = true := by kernel_rfl) (his : i ≠ s := by decide)
    (hQ : ∀ c a w, Q (.panic c) (a.put oi.dst v) w → Q (.panic c) a w := by exact fun _ _ _ h => h) : wpAnyE P md ops Q S0 S s (fuel + 1) listed a w :=
  wpAnyE_take0 hi hs hf hr his hQ hy hS h
theorem tkL {i : Nat} {oi : Oper} {v : Value} {fuel : Nat} {listed : Array Bool} {a : Act} {w : World} (hi : ops[i]? = some oi) (hS : S0 w ∧ S w)
    (h : wpAnyE P md ops Q S0 S s fuel (listed.setIfInBounds i true) (a.put oi.dst v) w)
    (hw : Region.wanted oi (yielded ops a.tmps) = true := by rfl)
    (hy : ∀ w, S0 w → (execOp a.eval oi).run P w = .ok (.value v) w := by (intro wz hSw; (try dsimp only at hSw); go_simp; try (with_reducible rfl)))
    (hs : Region.noSelect ops = true := by kernel_rfl) (hf : Region.free md ops listed i = true := by kernel_rfl) (hr : (Region.ready md ops listed).contains i = true := by kernel_rfl) (his : i ≠ s := by decide)
    (hQ : ∀ c a w, Q (.panic c) (a.put oi.dst v) w → Q (.panic c) a w := by exact fun _ _ _ h => h) : wpAnyE P md ops Q S0 S s (fuel + 1) listed a w :=
  wpAnyE_take0 hi hs hf hr his hQ (Or.inl ⟨hw, hy⟩) hS h
theorem tkU {i : Nat} {oi : Oper} {fuel : Nat} {listed : Array Bool} {a : Act} {w : World} (hi : ops[i]? = some oi) (hS : S0 w ∧ S w)
    (h : wpAnyE P md ops Q S0 S s fuel (listed.setIfInBounds i true) (a.put oi.dst undef) w)
    (hw : Region.wanted oi (yielded ops a.tmps) = false := by kernel_rfl)
    (hs : Region.noSelect ops = true := by kernel_rfl) (hf : Region.free md ops listed i = true := by kernel_rfl) (hr : (Region.ready md ops listed).contains i = true := by kernel_rfl) (his : i ≠ s := by decide)
    (hQ : ∀ c a w, Q (.panic c) (a.put oi.dst undef) w → Q (.panic c) a w := by exact fun _ _ _ h => h) : wpAnyE P md ops Q S0 S s (fuel + 1) listed a w :=
  wpAnyE_take0 hi hs hf hr his hQ (Or.inr ⟨hw, rfl⟩) hS h
theorem tkM {i : Nat} {oi os : Oper} {v : Value} {fuel : Nat} {listed : Array Bool} {a : Act} {w : World} (hi : ops[i]? = some oi) (hos : ops[s]? = some os) (hS : S0 w ∧ S w)
    (h : wpAnyE P md ops Q S0 S s fuel (listed.setIfInBounds i true) (a.put oi.dst v) w)
    (hw : Region.wanted oi (yielded ops a.tmps) = true := by rfl)
    (hy : ∀ w, S w → (execOp a.eval oi).run P w = .ok (.value v) w := by (intro wz hSw; (try dsimp only at hSw); go_simp; try (with_reducible rfl)))
    (hs : Region.noSelect ops = true := by kernel_rfl) (hf : Region.free md ops listed i = true := by kernel_rfl) (hr : (Region.ready md ops listed).contains i = true := by kernel_rfl) (his : i ≠ s := by decide)
    (hls : listed.getD s true = false := by rfl) (hb : ∃ e ∈ os.after, Region.binds md e = true ∧ e.on = i := by simp [Region.binds])
    (hQ : ∀ c a w, Q (.panic c) (a.put oi.dst v) w → Q (.panic c) a w := by exact fun _ _ _ h => h) : wpAnyE P md ops Q S0 S s (fuel + 1) listed a w :=
  wpAnyE_take1 hi hos hs hf hr his hls hb hQ (Or.inl ⟨hw, hy⟩) hS h
end
end Go.Proofs.YtdigmokjedckeaaGreatDoor
namespace Go.Proofs.YtdigmokjedckeaaGreatDoor
open Go.RowKit
set_option linter.unusedVariables false
set_option maxRecDepth 100000

theorem one_intsC (w : World) (x : Int) (t : TypeId) : Ints (w.alloc (.cells #[.int .i64 x] t)) (some ⟨w.heap.size, 0, none⟩) 1 [x] :=
 ⟨rfl, fun i hi => ⟨w.heap.size, 0, rfl, by
  obtain rfl : i = 0 := by omega
  simp [go_sem]⟩⟩
theorem bet_oneC (x lo hi : Int) : betB lo hi [x] = inB x lo hi := by simp [betB]

theorem tail_one (x : Int) : tailL [x] = [32] ++ Lib.itoa x := by simp [tailL, Lib.joinTail]
def casL (cl sq : Int) : List UInt8 := wClient ++ ([32] ++ Lib.itoa cl) ++ [32] ++ (wCall ++ ([32] ++ Lib.itoa sq))
theorem ba_app (x y : List UInt8) : (⟨x.toArray⟩ : ByteArray) ++ (⟨y.toArray⟩ : ByteArray) = ⟨(x ++ y).toArray⟩ := by
 apply ByteArray.ext
 simp
theorem ba_len (x : List UInt8) : (⟨x.toArray⟩ : ByteArray).size = x.length := by simp [ByteArray.size]
theorem run_add (X : World) (x y : List UInt8) (h : x.length + y.length ≤ 100000) : (Op.stringOp .add (⟨x.toArray⟩ : ByteArray) (⟨y.toArray⟩ : ByteArray)).run Tryz.prog X = .ok (.string ⟨(x ++ y).toArray⟩) X := by
 have h2 : (⟨x.toArray⟩ : ByteArray).size + (⟨y.toArray⟩ : ByteArray).size ≤ maxLen := by rw [ba_len, ba_len]; unfold maxLen; omega
 rw [run_string_add_sum X _ _ h2, ba_app]
set_option maxHeartbeats 6400000 in
theorem icas_any (cl sq ac : Int) (a : Option Addr) (n cap : Nat) (w : World) (h1 : 0 ≤ cl ∧ cl < 4) (h2 : 1 ≤ sq ∧ sq ≤ 300) (hT : Lib.TabBelow Tryz.prog w.heap.size w "internal/strconv.uint64pow10" .u64 Lib.pow10Tab) :
  Calls Tryz.prog 142 #[clV cl sq ac a n cap] w fun e w' => e = .returned (.string ⟨(casL cl sq).toArray⟩) ∧ Below w.heap.size w w' := by
 have HTB : Hid _ := hT
 clear hT
 have q0 := Cel.new w [.int .i64 cl, .int .i64 sq, .int .i64 ac, .slice a n cap] 131
 have BZ := (Below.refl w.heap.size w).alloc (Nat.le_refl _) (.cells #[.int .i64 cl, .int .i64 sq, .int .i64 ac, .slice a n cap] 131)
 have l1 := Lib.itoa_length_le cl (by omega) (by omega)
 have l2 := Lib.itoa_length_le sq (by omega) (by omega)
 obtain ⟨T1, e1⟩ : ∃ T : ByteArray, (⟨(wClient ++ tailL [cl]).toArray⟩ : ByteArray) = T := ⟨_, rfl⟩
 obtain ⟨T2, e2⟩ : ∃ T : ByteArray, (⟨(wClient ++ tailL [cl] ++ [32]).toArray⟩ : ByteArray) = T := ⟨_, rfl⟩
 obtain ⟨T3, e3⟩ : ∃ T : ByteArray, (⟨(wCall ++ tailL [sq]).toArray⟩ : ByteArray) = T := ⟨_, rfl⟩
 obtain ⟨T4, e4⟩ : ∃ T : ByteArray, (⟨(casL cl sq).toArray⟩ : ByteArray) = T := ⟨_, rfl⟩
 have A1 : ∀ X : World, (Op.stringOp .add (T1 : ByteArray) (⟨#[32]⟩ : ByteArray)).run Tryz.prog X = .ok (.string T2) X := fun X => by
  rw [← e1, ← e2]
  exact run_add X _ [32] (by rw [tail_one]; simp only [List.length_append, List.length_cons, List.length_nil, wClient]; omega)
 have A2 : ∀ X : World, (Op.stringOp .add (T2 : ByteArray) (T3 : ByteArray)).run Tryz.prog X = .ok (.string T4) X := fun X => by
  rw [← e2, ← e3, ← e4]
  rw [run_add X _ _ (by rw [tail_one, tail_one]; simp only [List.length_append, List.length_cons, List.length_nil, wClient, wCall]; omega)]
  rw [tail_one, tail_one, casL]
 have E1 : Hid _ := e1
 have E3 : Hid _ := e3
 rw [e4]
 clear e1 e2 e3 e4 l1 l2
 go_enter Tryz.func142, Tryz.ntmps142
 go_upto_region 1 with fail
 obtain ⟨W, hW⟩ : ∃ W, W = w.alloc (.cells #[.int .i64 cl, .int .i64 sq, .int .i64 ac, .slice a n cap] 131) := ⟨_, rfl⟩
 obtain ⟨Q, hQ⟩ : ∃ Q, Q = w.heap.size := ⟨_, rfl⟩
 rw [← hQ, ← hW]
 rw [← hW] at q0 BZ
 rw [← hQ] at q0
 clear hW hQ
 refine wp_region_ends (fun X => X.cell? ⟨Q, 0, none⟩ = some (.int .i64 cl) ∧ X.cell? ⟨Q, 1, none⟩ = some (.int .i64 sq)) (fun _ => True) 10 (by kernel_rfl) ?_
 have dr : Below W.heap.size W W.drew := (Below.refl _ _).drew
 replace BZ := BZ.trans (dr.mono BZ.size)
 replace q0 := q0.below dr
 clear dr
 obtain ⟨V, hV⟩ : ∃ V, V = W.drew := ⟨_, rfl⟩
 rw [← hV]
 rw [← hV] at BZ q0
 clear hV
 have hSS : (fun X : World => X.cell? ⟨Q, 0, none⟩ = some (.int .i64 cl) ∧ X.cell? ⟨Q, 1, none⟩ = some (.int .i64 sq)) V ∧ True := ⟨⟨q0.cell 0, q0.cell 1⟩, trivial⟩
 refine tkL (i := 0) rfl hSS ?_
 refine tkL (i := 1) rfl hSS ?_
 refine tkL (i := 5) rfl hSS ?_
 refine tkL (i := 6) rfl hSS ?_
 simp only [Act.put, List.setIfInBounds_toArray, List.set_cons_succ, List.set_cons_zero, List.getElem_toArray, List.getElem_cons_succ, List.getElem_cons_zero]
 refine wpAnyE_two (i := 2) (j := 7) (by kernel_rfl) rfl rfl (fun Kn hK => ?_) (fun Kn hK => ?_)
 ·go_simp
  have al := (Below.refl V.heap.size V).alloc (Nat.le_refl _) (.cells #[.int .i64 cl] 3)
  have ia := one_intsC V cl 3
  replace BZ := BZ.trans (al.mono BZ.size)
  replace q0 := q0.below al
  clear al
  obtain ⟨Y1, hY1⟩ : ∃ W, W = V.alloc (.cells #[.int .i64 cl] 3) := ⟨_, rfl⟩
  rw [← hY1]
  rw [← hY1] at BZ q0 ia
  clear hY1
  clear hSS
  have hSS : (fun X : World => X.cell? ⟨Q, 0, none⟩ = some (.int .i64 cl) ∧ X.cell? ⟨Q, 1, none⟩ = some (.int .i64 sq)) Y1 ∧ True := ⟨⟨q0.cell 0, q0.cell 1⟩, trivial⟩
  refine hK.out _ _ ⟨hSS.1, fun _ => trivial⟩ ?_
  clear hK
  refine wpAnyE_two (i := 3) (j := 7) (by kernel_rfl) rfl rfl (fun Kn hK => ?_) (fun Kn hK => ?_)
  ·go_simp
   refine (itwn_any wClient _ _ _ [cl] _ ia (by omega) (by decide) (fun i => by match i with | 0 => (simp only [List.getElem?_cons_zero, Option.getD_some]; omega) | i + 1 => simp) (fun X hX => HTB.out X (BZ.trans (hX.mono BZ.size)))).mono ?_
   rintro ee w2 ⟨rfl, b9⟩
   rw [E1.out]
   replace BZ := BZ.trans (b9.mono BZ.size)
   replace q0 := q0.below b9
   replace ia := ia.below b9
   clear b9
   dsimp only
   clear hSS
   have hSS : (fun X : World => X.cell? ⟨Q, 0, none⟩ = some (.int .i64 cl) ∧ X.cell? ⟨Q, 1, none⟩ = some (.int .i64 sq)) w2 ∧ True := ⟨⟨q0.cell 0, q0.cell 1⟩, trivial⟩
   refine hK.out _ _ ⟨hSS.1, fun _ => trivial⟩ ?_
   clear hK
   refine wpAnyE_two (i := 4) (j := 7) (by kernel_rfl) rfl rfl (fun Kn hK => ?_) (fun Kn hK => ?_)
   ·go_simp
    clear hSS
    have hSS : (fun X : World => X.cell? ⟨Q, 0, none⟩ = some (.int .i64 cl) ∧ X.cell? ⟨Q, 1, none⟩ = some (.int .i64 sq)) w2 ∧ True := ⟨⟨q0.cell 0, q0.cell 1⟩, trivial⟩
    refine hK.out _ _ ⟨hSS.1, fun _ => trivial⟩ ?_
    clear hK
    refine wpAnyE_one (i := 7) (by kernel_rfl) rfl (fun Kn hK => ?_)
    go_simp
    have al := (Below.refl w2.heap.size w2).alloc (Nat.le_refl _) (.cells #[.int .i64 sq] 3)
    have ib := one_intsC w2 sq 3
    replace BZ := BZ.trans (al.mono BZ.size)
    replace q0 := q0.below al
    replace ia := ia.below al
    clear al
    obtain ⟨Y3, hY3⟩ : ∃ W, W = w2.alloc (.cells #[.int .i64 sq] 3) := ⟨_, rfl⟩
    rw [← hY3]
    rw [← hY3] at BZ q0 ia ib
    clear hY3
    clear hSS
    have hSS : (fun X : World => X.cell? ⟨Q, 0, none⟩ = some (.int .i64 cl) ∧ X.cell? ⟨Q, 1, none⟩ = some (.int .i64 sq)) Y3 ∧ True := ⟨⟨q0.cell 0, q0.cell 1⟩, trivial⟩
    refine hK.out _ _ ⟨hSS.1, fun _ => trivial⟩ ?_
    clear hK
    refine wpAnyE_one (i := 8) (by kernel_rfl) rfl (fun Kn hK => ?_)
    go_simp
    refine (itwn_any wCall _ _ _ [sq] _ ib (by omega) (by decide) (fun i => by match i with | 0 => (simp only [List.getElem?_cons_zero, Option.getD_some]; omega) | i + 1 => simp) (fun X hX => HTB.out X (BZ.trans (hX.mono BZ.size)))).mono ?_
    rintro ee w4 ⟨rfl, b9⟩
    rw [E3.out]
    replace BZ := BZ.trans (b9.mono BZ.size)
    replace q0 := q0.below b9
    replace ia := ia.below b9
    replace ib := ib.below b9
    clear b9
    dsimp only
    clear hSS
    have hSS : (fun X : World => X.cell? ⟨Q, 0, none⟩ = some (.int .i64 cl) ∧ X.cell? ⟨Q, 1, none⟩ = some (.int .i64 sq)) w4 ∧ True := ⟨⟨q0.cell 0, q0.cell 1⟩, trivial⟩
    refine hK.out _ _ ⟨hSS.1, fun _ => trivial⟩ ?_
    clear hK
    refine wpAnyE_one (i := 9) (by kernel_rfl) rfl (fun Kn hK => ?_)
    go_simp
    clear hSS
    have hSS : (fun X : World => X.cell? ⟨Q, 0, none⟩ = some (.int .i64 cl) ∧ X.cell? ⟨Q, 1, none⟩ = some (.int .i64 sq)) w4 ∧ True := ⟨⟨q0.cell 0, q0.cell 1⟩, trivial⟩
    refine hK.out _ _ ⟨hSS.1, fun _ => trivial⟩ ?_
    clear hK
    refine wpAnyE_one (i := 10) (by kernel_rfl) rfl (fun Kn hK => ?_)
    go_simp
    clear hSS
    have hSS : (fun X : World => X.cell? ⟨Q, 0, none⟩ = some (.int .i64 cl) ∧ X.cell? ⟨Q, 1, none⟩ = some (.int .i64 sq)) w4 ∧ True := ⟨⟨q0.cell 0, q0.cell 1⟩, trivial⟩
    refine hK.out _ _ ⟨hSS.1, fun _ => trivial⟩ ?_
    clear hK
    refine wpAnyE_done (by kernel_rfl) ?_ _
    clear hSS
    clear q0 A1 A2
    go_wp2
    go_ret
    exact ⟨rfl, BZ⟩
   ·go_simp
    have al := (Below.refl w2.heap.size w2).alloc (Nat.le_refl _) (.cells #[.int .i64 sq] 3)
    have ib := one_intsC w2 sq 3
    replace BZ := BZ.trans (al.mono BZ.size)
    replace q0 := q0.below al
    replace ia := ia.below al
    clear al
    obtain ⟨Y3, hY3⟩ : ∃ W, W = w2.alloc (.cells #[.int .i64 sq] 3) := ⟨_, rfl⟩
    rw [← hY3]
    rw [← hY3] at BZ q0 ia ib
    clear hY3
    clear hSS
    have hSS : (fun X : World => X.cell? ⟨Q, 0, none⟩ = some (.int .i64 cl) ∧ X.cell? ⟨Q, 1, none⟩ = some (.int .i64 sq)) Y3 ∧ True := ⟨⟨q0.cell 0, q0.cell 1⟩, trivial⟩
    refine hK.out _ _ ⟨hSS.1, fun _ => trivial⟩ ?_
    clear hK
    refine wpAnyE_two (i := 4) (j := 8) (by kernel_rfl) rfl rfl (fun Kn hK => ?_) (fun Kn hK => ?_)
    ·go_simp
     clear hSS
     have hSS : (fun X : World => X.cell? ⟨Q, 0, none⟩ = some (.int .i64 cl) ∧ X.cell? ⟨Q, 1, none⟩ = some (.int .i64 sq)) Y3 ∧ True := ⟨⟨q0.cell 0, q0.cell 1⟩, trivial⟩
     refine hK.out _ _ ⟨hSS.1, fun _ => trivial⟩ ?_
     clear hK
     refine wpAnyE_one (i := 8) (by kernel_rfl) rfl (fun Kn hK => ?_)
     go_simp
     refine (itwn_any wCall _ _ _ [sq] _ ib (by omega) (by decide) (fun i => by match i with | 0 => (simp only [List.getElem?_cons_zero, Option.getD_some]; omega) | i + 1 => simp) (fun X hX => HTB.out X (BZ.trans (hX.mono BZ.size)))).mono ?_
     rintro ee w4 ⟨rfl, b9⟩
     rw [E3.out]
     replace BZ := BZ.trans (b9.mono BZ.size)
     replace q0 := q0.below b9
     replace ia := ia.below b9
     replace ib := ib.below b9
     clear b9
     dsimp only
     clear hSS
     have hSS : (fun X : World => X.cell? ⟨Q, 0, none⟩ = some (.int .i64 cl) ∧ X.cell? ⟨Q, 1, none⟩ = some (.int .i64 sq)) w4 ∧ True := ⟨⟨q0.cell 0, q0.cell 1⟩, trivial⟩
     refine hK.out _ _ ⟨hSS.1, fun _ => trivial⟩ ?_
     clear hK
     refine wpAnyE_one (i := 9) (by kernel_rfl) rfl (fun Kn hK => ?_)
     go_simp
     clear hSS
     have hSS : (fun X : World => X.cell? ⟨Q, 0, none⟩ = some (.int .i64 cl) ∧ X.cell? ⟨Q, 1, none⟩ = some (.int .i64 sq)) w4 ∧ True := ⟨⟨q0.cell 0, q0.cell 1⟩, trivial⟩
     refine hK.out _ _ ⟨hSS.1, fun _ => trivial⟩ ?_
     clear hK
     refine wpAnyE_one (i := 10) (by kernel_rfl) rfl (fun Kn hK => ?_)
     go_simp
     clear hSS
     have hSS : (fun X : World => X.cell? ⟨Q, 0, none⟩ = some (.int .i64 cl) ∧ X.cell? ⟨Q, 1, none⟩ = some (.int .i64 sq)) w4 ∧ True := ⟨⟨q0.cell 0, q0.cell 1⟩, trivial⟩
     refine hK.out _ _ ⟨hSS.1, fun _ => trivial⟩ ?_
     clear hK
     refine wpAnyE_done (by kernel_rfl) ?_ _
     clear hSS
     clear q0 A1 A2
     go_wp2
     go_ret
     exact ⟨rfl, BZ⟩
    ·go_simp
     refine (itwn_any wCall _ _ _ [sq] _ ib (by omega) (by decide) (fun i => by match i with | 0 => (simp only [List.getElem?_cons_zero, Option.getD_some]; omega) | i + 1 => simp) (fun X hX => HTB.out X (BZ.trans (hX.mono BZ.size)))).mono ?_
     rintro ee w4 ⟨rfl, b9⟩
     rw [E3.out]
     replace BZ := BZ.trans (b9.mono BZ.size)
     replace q0 := q0.below b9
     replace ia := ia.below b9
     replace ib := ib.below b9
     clear b9
     dsimp only
     clear hSS
     have hSS : (fun X : World => X.cell? ⟨Q, 0, none⟩ = some (.int .i64 cl) ∧ X.cell? ⟨Q, 1, none⟩ = some (.int .i64 sq)) w4 ∧ True := ⟨⟨q0.cell 0, q0.cell 1⟩, trivial⟩
     refine hK.out _ _ ⟨hSS.1, fun _ => trivial⟩ ?_
     clear hK
     refine wpAnyE_one (i := 4) (by kernel_rfl) rfl (fun Kn hK => ?_)
     go_simp
     clear hSS
     have hSS : (fun X : World => X.cell? ⟨Q, 0, none⟩ = some (.int .i64 cl) ∧ X.cell? ⟨Q, 1, none⟩ = some (.int .i64 sq)) w4 ∧ True := ⟨⟨q0.cell 0, q0.cell 1⟩, trivial⟩
     refine hK.out _ _ ⟨hSS.1, fun _ => trivial⟩ ?_
     clear hK
     refine wpAnyE_one (i := 9) (by kernel_rfl) rfl (fun Kn hK => ?_)
     go_simp
     clear hSS
     have hSS : (fun X : World => X.cell? ⟨Q, 0, none⟩ = some (.int .i64 cl) ∧ X.cell? ⟨Q, 1, none⟩ = some (.int .i64 sq)) w4 ∧ True := ⟨⟨q0.cell 0, q0.cell 1⟩, trivial⟩
     refine hK.out _ _ ⟨hSS.1, fun _ => trivial⟩ ?_
     clear hK
     refine wpAnyE_one (i := 10) (by kernel_rfl) rfl (fun Kn hK => ?_)
     go_simp
     clear hSS
     have hSS : (fun X : World => X.cell? ⟨Q, 0, none⟩ = some (.int .i64 cl) ∧ X.cell? ⟨Q, 1, none⟩ = some (.int .i64 sq)) w4 ∧ True := ⟨⟨q0.cell 0, q0.cell 1⟩, trivial⟩
     refine hK.out _ _ ⟨hSS.1, fun _ => trivial⟩ ?_
     clear hK
     refine wpAnyE_done (by kernel_rfl) ?_ _
     clear hSS
     clear q0 A1 A2
     go_wp2
     go_ret
     exact ⟨rfl, BZ⟩
  ·go_simp
   have al := (Below.refl Y1.heap.size Y1).alloc (Nat.le_refl _) (.cells #[.int .i64 sq] 3)
   have ib := one_intsC Y1 sq 3
   replace BZ := BZ.trans (al.mono BZ.size)
   replace q0 := q0.below al
   replace ia := ia.below al
   clear al
   obtain ⟨Y2, hY2⟩ : ∃ W, W = Y1.alloc (.cells #[.int .i64 sq] 3) := ⟨_, rfl⟩
   rw [← hY2]
   rw [← hY2] at BZ q0 ia ib
   clear hY2
   clear hSS
   have hSS : (fun X : World => X.cell? ⟨Q, 0, none⟩ = some (.int .i64 cl) ∧ X.cell? ⟨Q, 1, none⟩ = some (.int .i64 sq)) Y2 ∧ True := ⟨⟨q0.cell 0, q0.cell 1⟩, trivial⟩
   refine hK.out _ _ ⟨hSS.1, fun _ => trivial⟩ ?_
   clear hK
   refine wpAnyE_one (i := 3) (by kernel_rfl) rfl (fun Kn hK => ?_)
   go_simp
   refine (itwn_any wClient _ _ _ [cl] _ ia (by omega) (by decide) (fun i => by match i with | 0 => (simp only [List.getElem?_cons_zero, Option.getD_some]; omega) | i + 1 => simp) (fun X hX => HTB.out X (BZ.trans (hX.mono BZ.size)))).mono ?_
   rintro ee w3 ⟨rfl, b9⟩
   rw [E1.out]
   replace BZ := BZ.trans (b9.mono BZ.size)
   replace q0 := q0.below b9
   replace ia := ia.below b9
   replace ib := ib.below b9
   clear b9
   dsimp only
   clear hSS
   have hSS : (fun X : World => X.cell? ⟨Q, 0, none⟩ = some (.int .i64 cl) ∧ X.cell? ⟨Q, 1, none⟩ = some (.int .i64 sq)) w3 ∧ True := ⟨⟨q0.cell 0, q0.cell 1⟩, trivial⟩
   refine hK.out _ _ ⟨hSS.1, fun _ => trivial⟩ ?_
   clear hK
   refine wpAnyE_two (i := 4) (j := 8) (by kernel_rfl) rfl rfl (fun Kn hK => ?_) (fun Kn hK => ?_)
   ·go_simp
    clear hSS
    have hSS : (fun X : World => X.cell? ⟨Q, 0, none⟩ = some (.int .i64 cl) ∧ X.cell? ⟨Q, 1, none⟩ = some (.int .i64 sq)) w3 ∧ True := ⟨⟨q0.cell 0, q0.cell 1⟩, trivial⟩
    refine hK.out _ _ ⟨hSS.1, fun _ => trivial⟩ ?_
    clear hK
    refine wpAnyE_one (i := 8) (by kernel_rfl) rfl (fun Kn hK => ?_)
    go_simp
    refine (itwn_any wCall _ _ _ [sq] _ ib (by omega) (by decide) (fun i => by match i with | 0 => (simp only [List.getElem?_cons_zero, Option.getD_some]; omega) | i + 1 => simp) (fun X hX => HTB.out X (BZ.trans (hX.mono BZ.size)))).mono ?_
    rintro ee w4 ⟨rfl, b9⟩
    rw [E3.out]
    replace BZ := BZ.trans (b9.mono BZ.size)
    replace q0 := q0.below b9
    replace ia := ia.below b9
    replace ib := ib.below b9
    clear b9
    dsimp only
    clear hSS
    have hSS : (fun X : World => X.cell? ⟨Q, 0, none⟩ = some (.int .i64 cl) ∧ X.cell? ⟨Q, 1, none⟩ = some (.int .i64 sq)) w4 ∧ True := ⟨⟨q0.cell 0, q0.cell 1⟩, trivial⟩
    refine hK.out _ _ ⟨hSS.1, fun _ => trivial⟩ ?_
    clear hK
    refine wpAnyE_one (i := 9) (by kernel_rfl) rfl (fun Kn hK => ?_)
    go_simp
    clear hSS
    have hSS : (fun X : World => X.cell? ⟨Q, 0, none⟩ = some (.int .i64 cl) ∧ X.cell? ⟨Q, 1, none⟩ = some (.int .i64 sq)) w4 ∧ True := ⟨⟨q0.cell 0, q0.cell 1⟩, trivial⟩
    refine hK.out _ _ ⟨hSS.1, fun _ => trivial⟩ ?_
    clear hK
    refine wpAnyE_one (i := 10) (by kernel_rfl) rfl (fun Kn hK => ?_)
    go_simp
    clear hSS
    have hSS : (fun X : World => X.cell? ⟨Q, 0, none⟩ = some (.int .i64 cl) ∧ X.cell? ⟨Q, 1, none⟩ = some (.int .i64 sq)) w4 ∧ True := ⟨⟨q0.cell 0, q0.cell 1⟩, trivial⟩
    refine hK.out _ _ ⟨hSS.1, fun _ => trivial⟩ ?_
    clear hK
    refine wpAnyE_done (by kernel_rfl) ?_ _
    clear hSS
    clear q0 A1 A2
    go_wp2
    go_ret
    exact ⟨rfl, BZ⟩
   ·go_simp
    refine (itwn_any wCall _ _ _ [sq] _ ib (by omega) (by decide) (fun i => by match i with | 0 => (simp only [List.getElem?_cons_zero, Option.getD_some]; omega) | i + 1 => simp) (fun X hX => HTB.out X (BZ.trans (hX.mono BZ.size)))).mono ?_
    rintro ee w4 ⟨rfl, b9⟩
    rw [E3.out]
    replace BZ := BZ.trans (b9.mono BZ.size)
    replace q0 := q0.below b9
    replace ia := ia.below b9
    replace ib := ib.below b9
    clear b9
    dsimp only
    clear hSS
    have hSS : (fun X : World => X.cell? ⟨Q, 0, none⟩ = some (.int .i64 cl) ∧ X.cell? ⟨Q, 1, none⟩ = some (.int .i64 sq)) w4 ∧ True := ⟨⟨q0.cell 0, q0.cell 1⟩, trivial⟩
    refine hK.out _ _ ⟨hSS.1, fun _ => trivial⟩ ?_
    clear hK
    refine wpAnyE_one (i := 4) (by kernel_rfl) rfl (fun Kn hK => ?_)
    go_simp
    clear hSS
    have hSS : (fun X : World => X.cell? ⟨Q, 0, none⟩ = some (.int .i64 cl) ∧ X.cell? ⟨Q, 1, none⟩ = some (.int .i64 sq)) w4 ∧ True := ⟨⟨q0.cell 0, q0.cell 1⟩, trivial⟩
    refine hK.out _ _ ⟨hSS.1, fun _ => trivial⟩ ?_
    clear hK
    refine wpAnyE_one (i := 9) (by kernel_rfl) rfl (fun Kn hK => ?_)
    go_simp
    clear hSS
    have hSS : (fun X : World => X.cell? ⟨Q, 0, none⟩ = some (.int .i64 cl) ∧ X.cell? ⟨Q, 1, none⟩ = some (.int .i64 sq)) w4 ∧ True := ⟨⟨q0.cell 0, q0.cell 1⟩, trivial⟩
    refine hK.out _ _ ⟨hSS.1, fun _ => trivial⟩ ?_
    clear hK
    refine wpAnyE_one (i := 10) (by kernel_rfl) rfl (fun Kn hK => ?_)
    go_simp
    clear hSS
    have hSS : (fun X : World => X.cell? ⟨Q, 0, none⟩ = some (.int .i64 cl) ∧ X.cell? ⟨Q, 1, none⟩ = some (.int .i64 sq)) w4 ∧ True := ⟨⟨q0.cell 0, q0.cell 1⟩, trivial⟩
    refine hK.out _ _ ⟨hSS.1, fun _ => trivial⟩ ?_
    clear hK
    refine wpAnyE_done (by kernel_rfl) ?_ _
    clear hSS
    clear q0 A1 A2
    go_wp2
    go_ret
    exact ⟨rfl, BZ⟩
 ·go_simp
  have al := (Below.refl V.heap.size V).alloc (Nat.le_refl _) (.cells #[.int .i64 sq] 3)
  have ib := one_intsC V sq 3
  replace BZ := BZ.trans (al.mono BZ.size)
  replace q0 := q0.below al
  clear al
  obtain ⟨Y1, hY1⟩ : ∃ W, W = V.alloc (.cells #[.int .i64 sq] 3) := ⟨_, rfl⟩
  rw [← hY1]
  rw [← hY1] at BZ q0 ib
  clear hY1
  clear hSS
  have hSS : (fun X : World => X.cell? ⟨Q, 0, none⟩ = some (.int .i64 cl) ∧ X.cell? ⟨Q, 1, none⟩ = some (.int .i64 sq)) Y1 ∧ True := ⟨⟨q0.cell 0, q0.cell 1⟩, trivial⟩
  refine hK.out _ _ ⟨hSS.1, fun _ => trivial⟩ ?_
  clear hK
  refine wpAnyE_one (i := 2) (by kernel_rfl) rfl (fun Kn hK => ?_)
  go_simp
  have al := (Below.refl Y1.heap.size Y1).alloc (Nat.le_refl _) (.cells #[.int .i64 cl] 3)
  have ia := one_intsC Y1 cl 3
  replace BZ := BZ.trans (al.mono BZ.size)
  replace q0 := q0.below al
  replace ib := ib.below al
  clear al
  obtain ⟨Y2, hY2⟩ : ∃ W, W = Y1.alloc (.cells #[.int .i64 cl] 3) := ⟨_, rfl⟩
  rw [← hY2]
  rw [← hY2] at BZ q0 ib ia
  clear hY2
  clear hSS
  have hSS : (fun X : World => X.cell? ⟨Q, 0, none⟩ = some (.int .i64 cl) ∧ X.cell? ⟨Q, 1, none⟩ = some (.int .i64 sq)) Y2 ∧ True := ⟨⟨q0.cell 0, q0.cell 1⟩, trivial⟩
  refine hK.out _ _ ⟨hSS.1, fun _ => trivial⟩ ?_
  clear hK
  refine wpAnyE_one (i := 3) (by kernel_rfl) rfl (fun Kn hK => ?_)
  go_simp
  refine (itwn_any wClient _ _ _ [cl] _ ia (by omega) (by decide) (fun i => by match i with | 0 => (simp only [List.getElem?_cons_zero, Option.getD_some]; omega) | i + 1 => simp) (fun X hX => HTB.out X (BZ.trans (hX.mono BZ.size)))).mono ?_
  rintro ee w3 ⟨rfl, b9⟩
  rw [E1.out]
  replace BZ := BZ.trans (b9.mono BZ.size)
  replace q0 := q0.below b9
  replace ib := ib.below b9
  replace ia := ia.below b9
  clear b9
  dsimp only
  clear hSS
  have hSS : (fun X : World => X.cell? ⟨Q, 0, none⟩ = some (.int .i64 cl) ∧ X.cell? ⟨Q, 1, none⟩ = some (.int .i64 sq)) w3 ∧ True := ⟨⟨q0.cell 0, q0.cell 1⟩, trivial⟩
  refine hK.out _ _ ⟨hSS.1, fun _ => trivial⟩ ?_
  clear hK
  refine wpAnyE_two (i := 4) (j := 8) (by kernel_rfl) rfl rfl (fun Kn hK => ?_) (fun Kn hK => ?_)
  ·go_simp
   clear hSS
   have hSS : (fun X : World => X.cell? ⟨Q, 0, none⟩ = some (.int .i64 cl) ∧ X.cell? ⟨Q, 1, none⟩ = some (.int .i64 sq)) w3 ∧ True := ⟨⟨q0.cell 0, q0.cell 1⟩, trivial⟩
   refine hK.out _ _ ⟨hSS.1, fun _ => trivial⟩ ?_
   clear hK
   refine wpAnyE_one (i := 8) (by kernel_rfl) rfl (fun Kn hK => ?_)
   go_simp
   refine (itwn_any wCall _ _ _ [sq] _ ib (by omega) (by decide) (fun i => by match i with | 0 => (simp only [List.getElem?_cons_zero, Option.getD_some]; omega) | i + 1 => simp) (fun X hX => HTB.out X (BZ.trans (hX.mono BZ.size)))).mono ?_
   rintro ee w4 ⟨rfl, b9⟩
   rw [E3.out]
   replace BZ := BZ.trans (b9.mono BZ.size)
   replace q0 := q0.below b9
   replace ib := ib.below b9
   replace ia := ia.below b9
   clear b9
   dsimp only
   clear hSS
   have hSS : (fun X : World => X.cell? ⟨Q, 0, none⟩ = some (.int .i64 cl) ∧ X.cell? ⟨Q, 1, none⟩ = some (.int .i64 sq)) w4 ∧ True := ⟨⟨q0.cell 0, q0.cell 1⟩, trivial⟩
   refine hK.out _ _ ⟨hSS.1, fun _ => trivial⟩ ?_
   clear hK
   refine wpAnyE_one (i := 9) (by kernel_rfl) rfl (fun Kn hK => ?_)
   go_simp
   clear hSS
   have hSS : (fun X : World => X.cell? ⟨Q, 0, none⟩ = some (.int .i64 cl) ∧ X.cell? ⟨Q, 1, none⟩ = some (.int .i64 sq)) w4 ∧ True := ⟨⟨q0.cell 0, q0.cell 1⟩, trivial⟩
   refine hK.out _ _ ⟨hSS.1, fun _ => trivial⟩ ?_
   clear hK
   refine wpAnyE_one (i := 10) (by kernel_rfl) rfl (fun Kn hK => ?_)
   go_simp
   clear hSS
   have hSS : (fun X : World => X.cell? ⟨Q, 0, none⟩ = some (.int .i64 cl) ∧ X.cell? ⟨Q, 1, none⟩ = some (.int .i64 sq)) w4 ∧ True := ⟨⟨q0.cell 0, q0.cell 1⟩, trivial⟩
   refine hK.out _ _ ⟨hSS.1, fun _ => trivial⟩ ?_
   clear hK
   refine wpAnyE_done (by kernel_rfl) ?_ _
   clear hSS
   clear q0 A1 A2
   go_wp2
   go_ret
   exact ⟨rfl, BZ⟩
  ·go_simp
   refine (itwn_any wCall _ _ _ [sq] _ ib (by omega) (by decide) (fun i => by match i with | 0 => (simp only [List.getElem?_cons_zero, Option.getD_some]; omega) | i + 1 => simp) (fun X hX => HTB.out X (BZ.trans (hX.mono BZ.size)))).mono ?_
   rintro ee w4 ⟨rfl, b9⟩
   rw [E3.out]
   replace BZ := BZ.trans (b9.mono BZ.size)
   replace q0 := q0.below b9
   replace ib := ib.below b9
   replace ia := ia.below b9
   clear b9
   dsimp only
   clear hSS
   have hSS : (fun X : World => X.cell? ⟨Q, 0, none⟩ = some (.int .i64 cl) ∧ X.cell? ⟨Q, 1, none⟩ = some (.int .i64 sq)) w4 ∧ True := ⟨⟨q0.cell 0, q0.cell 1⟩, trivial⟩
   refine hK.out _ _ ⟨hSS.1, fun _ => trivial⟩ ?_
   clear hK
   refine wpAnyE_one (i := 4) (by kernel_rfl) rfl (fun Kn hK => ?_)
   go_simp
   clear hSS
   have hSS : (fun X : World => X.cell? ⟨Q, 0, none⟩ = some (.int .i64 cl) ∧ X.cell? ⟨Q, 1, none⟩ = some (.int .i64 sq)) w4 ∧ True := ⟨⟨q0.cell 0, q0.cell 1⟩, trivial⟩
   refine hK.out _ _ ⟨hSS.1, fun _ => trivial⟩ ?_
   clear hK
   refine wpAnyE_one (i := 9) (by kernel_rfl) rfl (fun Kn hK => ?_)
   go_simp
   clear hSS
   have hSS : (fun X : World => X.cell? ⟨Q, 0, none⟩ = some (.int .i64 cl) ∧ X.cell? ⟨Q, 1, none⟩ = some (.int .i64 sq)) w4 ∧ True := ⟨⟨q0.cell 0, q0.cell 1⟩, trivial⟩
   refine hK.out _ _ ⟨hSS.1, fun _ => trivial⟩ ?_
   clear hK
   refine wpAnyE_one (i := 10) (by kernel_rfl) rfl (fun Kn hK => ?_)
   go_simp
   clear hSS
   have hSS : (fun X : World => X.cell? ⟨Q, 0, none⟩ = some (.int .i64 cl) ∧ X.cell? ⟨Q, 1, none⟩ = some (.int .i64 sq)) w4 ∧ True := ⟨⟨q0.cell 0, q0.cell 1⟩, trivial⟩
   refine hK.out _ _ ⟨hSS.1, fun _ => trivial⟩ ?_
   clear hK
   refine wpAnyE_done (by kernel_rfl) ?_ _
   clear hSS
   clear q0 A1 A2
   go_wp2
   go_ret
   exact ⟨rfl, BZ⟩
theorem JT.lit3 (w : World) (x1 x2 x3 : ByteArray) : JT w (.slice (some ⟨w.heap.size, 0, none⟩) 3 3) [x1, x2, x3] (w.alloc (.cells #[.string x1, .string x2, .string x3] 9)) :=
 ⟨(Below.refl _ _).alloc (Nat.le_refl _) _, World.ownsRow_lit w #[.string x1, .string x2, .string x3] 3 (Nat.le_refl _) (by unfold maxLen; omega) rfl⟩
theorem cjoin (cl sq ac : Int) (zs : List Int) : Lib.join ([(⟨(casL cl sq).toArray⟩ : ByteArray), ⟨(wAct ++ tailL [ac]).toArray⟩, ⟨(wWith ++ tailL zs).toArray⟩].map (·.data.toList)) [32] = callL cl sq ac zs := by
 rw [List.map_cons, Lib.join_cons, callL, casL, tail_one]
 simp [Lib.joinTail]
set_option maxHeartbeats 6400000 in
theorem ictext_any (cl sq ac : Int) (a : Option Addr) (n cap : Nat) (zs : List Int) (w : World) (hC : Ints w a n zs) (hn : n ≤ 1048576) (hT : Lib.TabBelow Tryz.prog w.heap.size w "internal/strconv.uint64pow10" .u64 Lib.pow10Tab) :
  Calls Tryz.prog 119 #[clV cl sq ac a n cap] w fun e w' => e = .returned (.string ⟨(callText cl sq ac n zs).toArray⟩) ∧ Below w.heap.size w w' := by
 have HTB : Hid _ := hT
 clear hT
 have q_0 := Cel.new w [.int .i64 cl, .int .i64 sq, .int .i64 ac, .slice a n cap] 131
 have B_0 := (Below.refl w.heap.size w).alloc (Nat.le_refl _) (.cells #[.int .i64 cl, .int .i64 sq, .int .i64 ac, .slice a n cap] 131)
 have q_s := q_0.alloc (.cells #[.int .i64 sq] 3)
 have B_s := B_0.alloc B_0.size (.cells #[.int .i64 sq] 3)
 have i_s := one_intsC (w.alloc (.cells #[.int .i64 cl, .int .i64 sq, .int .i64 ac, .slice a n cap] 131)) sq 3
 rw [World.size_alloc] at i_s
 obtain ⟨i0, hi, hz0, hz1, hz2⟩ := info_parts Tryz.infoStr
 obtain ⟨x1, hx1⟩ : ∃ x, x = decide (0 ≤ cl ∧ cl < 4) := ⟨_, rfl⟩
 obtain ⟨x2, hx2⟩ : ∃ x, x = betB 1 300 [sq] := ⟨_, rfl⟩
 obtain ⟨x3, hx3⟩ : ∃ x, x = decide (0 ≤ ac ∧ ac < 4) := ⟨_, rfl⟩
 obtain ⟨x4, hx4⟩ : ∃ x, x = okN 2 9 n zs := ⟨_, rfl⟩
 have pl : ∀ z : Int, decide (0 ≤ z ∧ z < 4) = inB z 0 3 := fun z => by
  cases h : inB z 0 3
  ·have := inB_not.1 h; simp; omega
  ·have := inB_iff.1 h; simp; omega
 have HB : Hid (callOkB cl sq ac n zs = (x1 && (x2 && (x3 && x4)))) := by show _ = _; rw [callOkB, hx1, hx2, hx3, hx4, bet_oneC, pl, pl]
 have H1 : Hid _ := hx1
 have H2 : Hid _ := hx2
 have H3 : Hid _ := hx3
 have H4 : Hid _ := hx4
 clear hx1 hx2 hx3 hx4 pl
 go_enter Tryz.func119, Tryz.ntmps119
 go_wp2_with fail
 refine (place_any _ _ _).mono ?_
 rintro e w1 ⟨rfl, rfl⟩
 rw [← H1.out]
 cases x1
 ·go_wp2
  go_ret
  exact ⟨ret_str (callText_no (by rw [HB.out]; rfl)).symm, B_0⟩
 go_wp2_with fail
 refine (between_any _ _ _ [sq] _ _ _ i_s (by omega)).mono ?_
 rintro e w1 ⟨rfl, rfl⟩
 rw [← H2.out]
 clear i_s q_0
 cases x2
 ·go_wp2
  go_ret
  exact ⟨ret_str (callText_no (by rw [HB.out]; rfl)).symm, B_s⟩
 go_wp2_with fail
 refine (place_any _ _ _).mono ?_
 rintro e w1 ⟨rfl, rfl⟩
 rw [← H3.out]
 cases x3
 ·go_wp2
  go_ret
  exact ⟨ret_str (callText_no (by rw [HB.out]; rfl)).symm, B_s⟩
 go_wp2_with fail
 refine (iarg_any _ _ _ zs _ (hC.below B_s) hn).mono ?_
 rintro e w1 ⟨rfl, rfl⟩
 rw [← H4.out]
 cases x4
 ·go_wp2
  go_ret
  exact ⟨ret_str (callText_no (by rw [HB.out]; rfl)).symm, B_s⟩
 have b1 := of_decide_eq_true H1.out.symm
 have b2 := inB_iff.1 ((bet_oneC sq 1 300).symm.trans H2.out.symm)
 have b3 := of_decide_eq_true H3.out.symm
 have hn2 : (n : Int) = 2 := by
  by_cases h : (n : Int) = 2
  ·exact h
  ·have := H4.out; rw [okN_not h] at this; cases this
 have hal : allB 9 zs = true := by have := H4.out; rw [okN_is hn2] at this; exact this.symm
 obtain rfl : n = 2 := by omega
 have BZ : Hid (∀ i : Nat, -9 ≤ zs[i]?.getD 0 ∧ zs[i]?.getD 0 ≤ 9) := allB_bnd' (by omega) hal
 have HL : Hid (zs.length = 2) := hC.1
 have HT : Hid (callText cl sq ac 2 zs = callL cl sq ac zs) := callText_yes (by rw [HB.out]; rfl)
 clear hal hn2 HB H1 H2 H3 H4 B_0
 obtain ⟨T1, e1⟩ : ∃ T : ByteArray, (⟨(casL cl sq).toArray⟩ : ByteArray) = T := ⟨_, rfl⟩
 obtain ⟨T2, e2⟩ : ∃ T : ByteArray, (⟨(wAct ++ tailL [ac]).toArray⟩ : ByteArray) = T := ⟨_, rfl⟩
 obtain ⟨T3, e3⟩ : ∃ T : ByteArray, (⟨(wWith ++ tailL zs).toArray⟩ : ByteArray) = T := ⟨_, rfl⟩
 have HJE : Hid (Lib.join ([T1, T2, T3].map (·.data.toList)) [32] = callL cl sq ac zs) := by show _ = _; rw [← e1, ← e2, ← e3]; exact cjoin cl sq ac zs
 have HLE : Hid ((callL cl sq ac zs).length ≤ 1000) := by
  show _ ≤ _
  have t1 := tail_len (zs := zs) (fun i => by have := BZ.out i; omega) zs.length (Nat.le_refl _)
  rw [List.take_length, HL.out] at t1
  have u1 := Lib.itoa_length_le cl (by omega) (by omega)
  have u2 := Lib.itoa_length_le sq (by omega) (by omega)
  have u3 := Lib.itoa_length_le ac (by omega) (by omega)
  rw [callL]
  simp only [List.length_append, List.length_cons, List.length_nil, wClient, wCall, wAct, wWith]
  omega
 have E1 : Hid _ := e1
 have E2 : Hid _ := e2
 have E3 : Hid _ := e3
 have HZ : Hid (∀ i : Nat, -9 ≤ zs[i]?.getD 0 ∧ zs[i]?.getD 0 ≤ 9) := BZ.out
 clear e1 e2 e3 BZ
 have hCs := hC.below B_s
 clear hC
 go_upto_region 3 with fail
 obtain ⟨W, hW⟩ : ∃ W, W = (w.alloc (.cells #[.int .i64 cl, .int .i64 sq, .int .i64 ac, .slice a 2 cap] 131)).alloc (.cells #[.int .i64 sq] 3) := ⟨_, rfl⟩
 obtain ⟨Q, hQ⟩ : ∃ Q, Q = w.heap.size := ⟨_, rfl⟩
 rw [← hQ, ← hW]
 rw [← hW] at q_s B_s hCs
 rw [← hQ] at q_s
 clear hW hQ
 have BZ := B_s
 clear B_s
 refine wp_region_ends (fun X => X.cell? ⟨Q, 0, none⟩ = some (.int .i64 cl) ∧ X.cell? ⟨Q, 1, none⟩ = some (.int .i64 sq) ∧ X.cell? ⟨Q, 2, none⟩ = some (.int .i64 ac) ∧ X.cell? ⟨Q, 3, none⟩ = some (.slice a 2 cap)) (fun _ => True) 10 (by kernel_rfl) ?_
 have dr : Below W.heap.size W W.drew := (Below.refl _ _).drew
 replace BZ := BZ.trans (dr.mono BZ.size)
 replace q_s := q_s.below dr
 replace hCs := hCs.below dr
 clear dr
 obtain ⟨V, hV⟩ : ∃ V, V = W.drew := ⟨_, rfl⟩
 rw [← hV]
 rw [← hV] at BZ q_s hCs
 clear hV
 have hSS : (fun X : World => X.cell? ⟨Q, 0, none⟩ = some (.int .i64 cl) ∧ X.cell? ⟨Q, 1, none⟩ = some (.int .i64 sq) ∧ X.cell? ⟨Q, 2, none⟩ = some (.int .i64 ac) ∧ X.cell? ⟨Q, 3, none⟩ = some (.slice a 2 cap)) V ∧ True := ⟨⟨q_s.cell 0, q_s.cell 1, q_s.cell 2, q_s.cell 3⟩, trivial⟩
 refine tkL (i := 0) rfl hSS ?_
 refine tkL (i := 2) rfl hSS ?_
 refine tkL (i := 3) rfl hSS ?_
 refine tkL (i := 6) rfl hSS ?_
 simp only [Act.put, List.setIfInBounds_toArray, List.set_cons_succ, List.set_cons_zero, List.getElem_toArray, List.getElem_cons_succ, List.getElem_cons_zero]
 refine tkL (i := 7) rfl hSS ?_
 refine wpAnyE_two (i := 1) (j := 4) (by kernel_rfl) rfl rfl (fun Kn hK => ?_) (fun Kn hK => ?_)
 ·go_simp
  refine (icas_any cl sq ac a 2 cap _ b1 b2 (fun X hX => HTB.out X (BZ.trans (hX.mono BZ.size)))).mono ?_
  rintro ee w1 ⟨rfl, b9⟩
  rw [E1.out]
  replace BZ := BZ.trans (b9.mono BZ.size)
  replace q_s := q_s.below b9
  replace hCs := hCs.below b9
  clear b9
  dsimp only
  clear hSS
  have hSS : (fun X : World => X.cell? ⟨Q, 0, none⟩ = some (.int .i64 cl) ∧ X.cell? ⟨Q, 1, none⟩ = some (.int .i64 sq) ∧ X.cell? ⟨Q, 2, none⟩ = some (.int .i64 ac) ∧ X.cell? ⟨Q, 3, none⟩ = some (.slice a 2 cap)) w1 ∧ True := ⟨⟨q_s.cell 0, q_s.cell 1, q_s.cell 2, q_s.cell 3⟩, trivial⟩
  refine hK.out _ _ ⟨hSS.1, fun _ => trivial⟩ ?_
  clear hK
  refine wpAnyE_one (i := 4) (by kernel_rfl) rfl (fun Kn hK => ?_)
  go_simp
  have al := (Below.refl w1.heap.size w1).alloc (Nat.le_refl _) (.cells #[.int .i64 ac] 3)
  have ia := one_intsC w1 ac 3
  replace BZ := BZ.trans (al.mono BZ.size)
  replace q_s := q_s.below al
  replace hCs := hCs.below al
  clear al
  obtain ⟨Y2, hY2⟩ : ∃ W, W = w1.alloc (.cells #[.int .i64 ac] 3) := ⟨_, rfl⟩
  rw [← hY2]
  rw [← hY2] at BZ q_s hCs ia
  clear hY2
  clear hSS
  have hSS : (fun X : World => X.cell? ⟨Q, 0, none⟩ = some (.int .i64 cl) ∧ X.cell? ⟨Q, 1, none⟩ = some (.int .i64 sq) ∧ X.cell? ⟨Q, 2, none⟩ = some (.int .i64 ac) ∧ X.cell? ⟨Q, 3, none⟩ = some (.slice a 2 cap)) Y2 ∧ True := ⟨⟨q_s.cell 0, q_s.cell 1, q_s.cell 2, q_s.cell 3⟩, trivial⟩
  refine hK.out _ _ ⟨hSS.1, fun _ => trivial⟩ ?_
  clear hK
  refine wpAnyE_one (i := 5) (by kernel_rfl) rfl (fun Kn hK => ?_)
  go_simp
  refine (itwn_any wAct _ _ _ [ac] _ ia (by omega) (by decide) (fun i => by match i with | 0 => (simp only [List.getElem?_cons_zero, Option.getD_some]; omega) | i + 1 => simp) (fun X hX => HTB.out X (BZ.trans (hX.mono BZ.size)))).mono ?_
  rintro ee w3 ⟨rfl, b9⟩
  rw [E2.out]
  replace BZ := BZ.trans (b9.mono BZ.size)
  replace q_s := q_s.below b9
  replace hCs := hCs.below b9
  replace ia := ia.below b9
  clear b9
  dsimp only
  clear hSS
  have hSS : (fun X : World => X.cell? ⟨Q, 0, none⟩ = some (.int .i64 cl) ∧ X.cell? ⟨Q, 1, none⟩ = some (.int .i64 sq) ∧ X.cell? ⟨Q, 2, none⟩ = some (.int .i64 ac) ∧ X.cell? ⟨Q, 3, none⟩ = some (.slice a 2 cap)) w3 ∧ True := ⟨⟨q_s.cell 0, q_s.cell 1, q_s.cell 2, q_s.cell 3⟩, trivial⟩
  refine hK.out _ _ ⟨hSS.1, fun _ => trivial⟩ ?_
  clear hK
  refine wpAnyE_one (i := 8) (by kernel_rfl) rfl (fun Kn hK => ?_)
  go_simp
  refine (itwn_any wWith _ _ _ zs _ hCs (by omega) (by decide) (fun i => by have := HZ.out i; omega) (fun X hX => HTB.out X (BZ.trans (hX.mono BZ.size)))).mono ?_
  rintro ee w4 ⟨rfl, b9⟩
  rw [E3.out]
  replace BZ := BZ.trans (b9.mono BZ.size)
  replace q_s := q_s.below b9
  replace hCs := hCs.below b9
  replace ia := ia.below b9
  clear b9
  dsimp only
  clear hSS
  have hSS : (fun X : World => X.cell? ⟨Q, 0, none⟩ = some (.int .i64 cl) ∧ X.cell? ⟨Q, 1, none⟩ = some (.int .i64 sq) ∧ X.cell? ⟨Q, 2, none⟩ = some (.int .i64 ac) ∧ X.cell? ⟨Q, 3, none⟩ = some (.slice a 2 cap)) w4 ∧ True := ⟨⟨q_s.cell 0, q_s.cell 1, q_s.cell 2, q_s.cell 3⟩, trivial⟩
  refine hK.out _ _ ⟨hSS.1, fun _ => trivial⟩ ?_
  clear hK
  refine wpAnyE_one (i := 9) (by kernel_rfl) rfl (fun Kn hK => ?_)
  go_simp
  have J0 := JT.lit3 w4 T1 T2 T3
  have al := J0.b
  have jo := J0
  replace BZ := BZ.trans (al.mono BZ.size)
  replace q_s := q_s.below al
  replace hCs := hCs.below al
  replace ia := ia.below al
  clear al
  obtain ⟨Y5, hY5⟩ : ∃ W, W = w4.alloc (.cells #[.string T1, .string T2, .string T3] 9) := ⟨_, rfl⟩
  rw [← hY5]
  rw [← hY5] at BZ J0 jo q_s hCs ia
  clear hY5
  clear hSS
  have hSS : (fun X : World => X.cell? ⟨Q, 0, none⟩ = some (.int .i64 cl) ∧ X.cell? ⟨Q, 1, none⟩ = some (.int .i64 sq) ∧ X.cell? ⟨Q, 2, none⟩ = some (.int .i64 ac) ∧ X.cell? ⟨Q, 3, none⟩ = some (.slice a 2 cap)) Y5 ∧ True := ⟨⟨q_s.cell 0, q_s.cell 1, q_s.cell 2, q_s.cell 3⟩, trivial⟩
  refine hK.out _ _ ⟨hSS.1, fun _ => trivial⟩ ?_
  clear hK
  refine wpAnyE_one (i := 10) (by kernel_rfl) rfl (fun Kn hK => ?_)
  go_simp
  clear hSS
  have hSS : (fun X : World => X.cell? ⟨Q, 0, none⟩ = some (.int .i64 cl) ∧ X.cell? ⟨Q, 1, none⟩ = some (.int .i64 sq) ∧ X.cell? ⟨Q, 2, none⟩ = some (.int .i64 ac) ∧ X.cell? ⟨Q, 3, none⟩ = some (.slice a 2 cap)) Y5 ∧ True := ⟨⟨q_s.cell 0, q_s.cell 1, q_s.cell 2, q_s.cell 3⟩, trivial⟩
  refine hK.out _ _ ⟨hSS.1, fun _ => trivial⟩ ?_
  clear hK
  refine wpAnyE_done (by kernel_rfl) ?_ _
  clear hSS
  clear q_s hCs
  obtain ⟨g, gc, eg, hcap, hg, hcs⟩ := J0.cells (k := 3) rfl (by omega)
  rw [eg]
  clear eg
  have HJ := Tryz.strings_Join g 0 gc [T1, T2, T3] ⟨#[32]⟩ Y5 hcs hg (by simp) (by simpa using hcap) (by
   rw [show (⟨#[32]⟩ : ByteArray).data.toList = [32] from rfl, HJE.out]
   have := HLE.out
   omega)
  clear hcs hcap hg J0 jo
  go_wp2_with fail
  refine HJ.mono ?_
  rintro e wE ⟨rfl, b9⟩
  have B2 := BZ.trans (b9.mono BZ.size)
  rw [HJE.out, ← HT.out]
  obtain ⟨ZZ, hZZ⟩ : ∃ Z : ByteArray, (⟨(callText cl sq ac 2 zs).toArray⟩ : ByteArray) = Z := ⟨_, rfl⟩
  rw [hZZ]
  have HZZ : Hid _ := hZZ
  clear hZZ HJ
  go_wp2
  go_ret
  exact ⟨by rw [HZZ.out]; rfl, B2⟩
 ·go_simp
  have al := (Below.refl V.heap.size V).alloc (Nat.le_refl _) (.cells #[.int .i64 ac] 3)
  have ia := one_intsC V ac 3
  replace BZ := BZ.trans (al.mono BZ.size)
  replace q_s := q_s.below al
  replace hCs := hCs.below al
  clear al
  obtain ⟨Y1, hY1⟩ : ∃ W, W = V.alloc (.cells #[.int .i64 ac] 3) := ⟨_, rfl⟩
  rw [← hY1]
  rw [← hY1] at BZ q_s hCs ia
  clear hY1
  clear hSS
  have hSS : (fun X : World => X.cell? ⟨Q, 0, none⟩ = some (.int .i64 cl) ∧ X.cell? ⟨Q, 1, none⟩ = some (.int .i64 sq) ∧ X.cell? ⟨Q, 2, none⟩ = some (.int .i64 ac) ∧ X.cell? ⟨Q, 3, none⟩ = some (.slice a 2 cap)) Y1 ∧ True := ⟨⟨q_s.cell 0, q_s.cell 1, q_s.cell 2, q_s.cell 3⟩, trivial⟩
  refine hK.out _ _ ⟨hSS.1, fun _ => trivial⟩ ?_
  clear hK
  refine wpAnyE_one (i := 1) (by kernel_rfl) rfl (fun Kn hK => ?_)
  go_simp
  refine (icas_any cl sq ac a 2 cap _ b1 b2 (fun X hX => HTB.out X (BZ.trans (hX.mono BZ.size)))).mono ?_
  rintro ee w2 ⟨rfl, b9⟩
  rw [E1.out]
  replace BZ := BZ.trans (b9.mono BZ.size)
  replace q_s := q_s.below b9
  replace hCs := hCs.below b9
  replace ia := ia.below b9
  clear b9
  dsimp only
  clear hSS
  have hSS : (fun X : World => X.cell? ⟨Q, 0, none⟩ = some (.int .i64 cl) ∧ X.cell? ⟨Q, 1, none⟩ = some (.int .i64 sq) ∧ X.cell? ⟨Q, 2, none⟩ = some (.int .i64 ac) ∧ X.cell? ⟨Q, 3, none⟩ = some (.slice a 2 cap)) w2 ∧ True := ⟨⟨q_s.cell 0, q_s.cell 1, q_s.cell 2, q_s.cell 3⟩, trivial⟩
  refine hK.out _ _ ⟨hSS.1, fun _ => trivial⟩ ?_
  clear hK
  refine wpAnyE_one (i := 5) (by kernel_rfl) rfl (fun Kn hK => ?_)
  go_simp
  refine (itwn_any wAct _ _ _ [ac] _ ia (by omega) (by decide) (fun i => by match i with | 0 => (simp only [List.getElem?_cons_zero, Option.getD_some]; omega) | i + 1 => simp) (fun X hX => HTB.out X (BZ.trans (hX.mono BZ.size)))).mono ?_
  rintro ee w3 ⟨rfl, b9⟩
  rw [E2.out]
  replace BZ := BZ.trans (b9.mono BZ.size)
  replace q_s := q_s.below b9
  replace hCs := hCs.below b9
  replace ia := ia.below b9
  clear b9
  dsimp only
  clear hSS
  have hSS : (fun X : World => X.cell? ⟨Q, 0, none⟩ = some (.int .i64 cl) ∧ X.cell? ⟨Q, 1, none⟩ = some (.int .i64 sq) ∧ X.cell? ⟨Q, 2, none⟩ = some (.int .i64 ac) ∧ X.cell? ⟨Q, 3, none⟩ = some (.slice a 2 cap)) w3 ∧ True := ⟨⟨q_s.cell 0, q_s.cell 1, q_s.cell 2, q_s.cell 3⟩, trivial⟩
  refine hK.out _ _ ⟨hSS.1, fun _ => trivial⟩ ?_
  clear hK
  refine wpAnyE_one (i := 8) (by kernel_rfl) rfl (fun Kn hK => ?_)
  go_simp
  refine (itwn_any wWith _ _ _ zs _ hCs (by omega) (by decide) (fun i => by have := HZ.out i; omega) (fun X hX => HTB.out X (BZ.trans (hX.mono BZ.size)))).mono ?_
  rintro ee w4 ⟨rfl, b9⟩
  rw [E3.out]
  replace BZ := BZ.trans (b9.mono BZ.size)
  replace q_s := q_s.below b9
  replace hCs := hCs.below b9
  replace ia := ia.below b9
  clear b9
  dsimp only
  clear hSS
  have hSS : (fun X : World => X.cell? ⟨Q, 0, none⟩ = some (.int .i64 cl) ∧ X.cell? ⟨Q, 1, none⟩ = some (.int .i64 sq) ∧ X.cell? ⟨Q, 2, none⟩ = some (.int .i64 ac) ∧ X.cell? ⟨Q, 3, none⟩ = some (.slice a 2 cap)) w4 ∧ True := ⟨⟨q_s.cell 0, q_s.cell 1, q_s.cell 2, q_s.cell 3⟩, trivial⟩
  refine hK.out _ _ ⟨hSS.1, fun _ => trivial⟩ ?_
  clear hK
  refine wpAnyE_one (i := 9) (by kernel_rfl) rfl (fun Kn hK => ?_)
  go_simp
  have J0 := JT.lit3 w4 T1 T2 T3
  have al := J0.b
  have jo := J0
  replace BZ := BZ.trans (al.mono BZ.size)
  replace q_s := q_s.below al
  replace hCs := hCs.below al
  replace ia := ia.below al
  clear al
  obtain ⟨Y5, hY5⟩ : ∃ W, W = w4.alloc (.cells #[.string T1, .string T2, .string T3] 9) := ⟨_, rfl⟩
  rw [← hY5]
  rw [← hY5] at BZ J0 jo q_s hCs ia
  clear hY5
  clear hSS
  have hSS : (fun X : World => X.cell? ⟨Q, 0, none⟩ = some (.int .i64 cl) ∧ X.cell? ⟨Q, 1, none⟩ = some (.int .i64 sq) ∧ X.cell? ⟨Q, 2, none⟩ = some (.int .i64 ac) ∧ X.cell? ⟨Q, 3, none⟩ = some (.slice a 2 cap)) Y5 ∧ True := ⟨⟨q_s.cell 0, q_s.cell 1, q_s.cell 2, q_s.cell 3⟩, trivial⟩
  refine hK.out _ _ ⟨hSS.1, fun _ => trivial⟩ ?_
  clear hK
  refine wpAnyE_one (i := 10) (by kernel_rfl) rfl (fun Kn hK => ?_)
  go_simp
  clear hSS
  have hSS : (fun X : World => X.cell? ⟨Q, 0, none⟩ = some (.int .i64 cl) ∧ X.cell? ⟨Q, 1, none⟩ = some (.int .i64 sq) ∧ X.cell? ⟨Q, 2, none⟩ = some (.int .i64 ac) ∧ X.cell? ⟨Q, 3, none⟩ = some (.slice a 2 cap)) Y5 ∧ True := ⟨⟨q_s.cell 0, q_s.cell 1, q_s.cell 2, q_s.cell 3⟩, trivial⟩
  refine hK.out _ _ ⟨hSS.1, fun _ => trivial⟩ ?_
  clear hK
  refine wpAnyE_done (by kernel_rfl) ?_ _
  clear hSS
  clear q_s hCs
  obtain ⟨g, gc, eg, hcap, hg, hcs⟩ := J0.cells (k := 3) rfl (by omega)
  rw [eg]
  clear eg
  have HJ := Tryz.strings_Join g 0 gc [T1, T2, T3] ⟨#[32]⟩ Y5 hcs hg (by simp) (by simpa using hcap) (by
   rw [show (⟨#[32]⟩ : ByteArray).data.toList = [32] from rfl, HJE.out]
   have := HLE.out
   omega)
  clear hcs hcap hg J0 jo
  go_wp2_with fail
  refine HJ.mono ?_
  rintro e wE ⟨rfl, b9⟩
  have B2 := BZ.trans (b9.mono BZ.size)
  rw [HJE.out, ← HT.out]
  obtain ⟨ZZ, hZZ⟩ : ∃ Z : ByteArray, (⟨(callText cl sq ac 2 zs).toArray⟩ : ByteArray) = Z := ⟨_, rfl⟩
  rw [hZZ]
  have HZZ : Hid _ := hZZ
  clear hZZ HJ
  go_wp2
  go_ret
  exact ⟨by rw [HZZ.out]; rfl, B2⟩

end Go.Proofs.YtdigmokjedckeaaGreatDoor
namespace Go.Proofs.YtdigmokjedckeaaGreatDoor
open Go.RowKit
set_option linter.unusedVariables false
set_option maxRecDepth 100000

/-- A text is not empty. -/
def fullC (l : List UInt8) : Bool := !(⟨l.toArray⟩ : ByteArray).toList.isEmpty
theorem full_call (x sq ac : Int) (n : Nat) (zs : List Int) : fullC (callText x sq ac n zs) = callOkB x sq ac n zs := by
 cases h : callOkB x sq ac n zs
 ·rw [callText_no h, fullC, ByteArray.toList_mk]; rfl
 ·rw [callText_yes h, fullC, ByteArray.toList_mk, callL]; rfl
/-- A call is ok in a plan that is. -/
def inCallB (cl : Int) (N : Nat) (x sq ac : Int) (n : Nat) (zs : List Int) : Bool := inB x 0 (cl - 1) && (inB sq 1 300 && (inB ac 0 (N - 1) && okN 2 9 n zs))
theorem pln_acts {cl : Int} {N : Nat} {ss : List L2V} {gn : Nat} {G : List Int} {sn : Nat} {S : List Int} (h : plnB cl N ss gn G sn S = true) : 1 ≤ N ∧ N ≤ 4 := by
 simp only [plnB, catB, Bool.and_eq_true] at h
 have h1 := inB_iff.1 h.2.1.1
 omega
theorem inCall_same {cl : Int} {N : Nat} {x sq ac : Int} {n : Nat} {zs : List Int} (h1 : cl ≤ 4) (h2 : N ≤ 4) : (decide (0 ≤ x ∧ x < cl) && (decide (0 ≤ ac ∧ ac < (N : Int)) && fullC (callText x sq ac n zs))) = inCallB cl N x sq ac n zs := by
 rw [full_call, callOkB, inCallB]
 have e1 : decide (0 ≤ x ∧ x < cl) = inB x 0 (cl - 1) := by
  cases h : inB x 0 (cl - 1)
  ·have := inB_not.1 h; simp; omega
  ·have := inB_iff.1 h; simp; omega
 have e2 : decide (0 ≤ ac ∧ ac < (N : Int)) = inB ac 0 (N - 1) := by
  cases h : inB ac 0 (N - 1)
  ·have := inB_not.1 h; simp; omega
  ·have := inB_iff.1 h; simp; omega
 rw [e1, e2]
 cases h : inB x 0 (cl - 1)
 ·simp
 ·have g1 := inB_iff.1 h
  rw [inB_iff.2 (show 0 ≤ x ∧ x ≤ 3 by omega)]
  cases h' : inB ac 0 (N - 1)
  ·simp
  ·have g2 := inB_iff.1 h'
   rw [inB_iff.2 (show 0 ≤ ac ∧ ac ≤ 3 by omega)]
   simp

set_option maxHeartbeats 1600000 in
theorem l6call_any (cl : Int) (ad : Option Addr) (N cap : Nat) (ga : Option Addr) (gn gc : Nat) (sa : Option Addr) (sn sc : Nat) (x sq ac : Int) (a : Option Addr) (n cc : Nat) (zs : List Int) (w : World) (hC : Ints w a n zs) (hn : n ≤ 1048576) (h1 : 1 ≤ cl ∧ cl ≤ 4) (h2 : 1 ≤ N ∧ N ≤ 4) :
  Calls Tryz.prog 84 #[plV cl ad N cap ga gn gc sa sn sc, clV x sq ac a n cc] w fun e w' => e = .returned (.bool (inCallB cl N x sq ac n zs)) ∧ Below w.heap.size w w' := by
 have B_0 := ((Below.refl w.heap.size w).alloc (Nat.le_refl _) (.cells #[.int .i64 cl, .slice ad N cap, .slice ga gn gc, .slice sa sn sc] 34)).alloc (by simp) (.cells #[.int .i64 x, .int .i64 sq, .int .i64 ac, .slice a n cc] 131)
 obtain ⟨x1, hx1⟩ : ∃ y, y = inB x 0 (cl - 1) := ⟨_, rfl⟩
 obtain ⟨x2, hx2⟩ : ∃ y, y = inB sq 1 300 := ⟨_, rfl⟩
 obtain ⟨x3, hx3⟩ : ∃ y, y = inB ac 0 ((N : Int) - 1) := ⟨_, rfl⟩
 obtain ⟨x4, hx4⟩ : ∃ y, y = okN 2 9 n zs := ⟨_, rfl⟩
 have HB : Hid (inCallB cl N x sq ac n zs = (x1 && (x2 && (x3 && x4)))) := by show _ = _; rw [inCallB, hx1, hx2, hx3, hx4]
 have H1 : Hid _ := hx1
 have H2 : Hid _ := hx2
 have H3 : Hid _ := hx3
 have H4 : Hid _ := hx4
 clear hx1 hx2 hx3 hx4
 obtain ⟨c1, c2⟩ := h1
 obtain ⟨d1, d2⟩ := h2
 go_enter Tryz.func84, Tryz.ntmps84
 go_wp2_with fail
 refine (in_any _ _ _ _).mono ?_
 rintro e w1 ⟨rfl, rfl⟩
 rw [← H1.out]
 cases x1
 ·go_wp2
  go_ret
  exact ⟨ret_bool (by rw [HB.out]; rfl), B_0⟩
 go_wp2_with fail
 refine (in_any _ _ _ _).mono ?_
 rintro e w1 ⟨rfl, rfl⟩
 rw [← H2.out]
 cases x2
 ·go_wp2
  go_ret
  exact ⟨ret_bool (by rw [HB.out]; rfl), B_0⟩
 go_wp2_with fail
 refine (in_any _ _ _ _).mono ?_
 rintro e w1 ⟨rfl, rfl⟩
 rw [← H3.out]
 cases x3
 ·go_wp2
  go_ret
  exact ⟨ret_bool (by rw [HB.out]; rfl), B_0⟩
 go_wp2_with fail
 refine (sarg_any _ _ _ zs _ (hC.below B_0) hn).mono ?_
 rintro e w1 ⟨rfl, rfl⟩
 rw [← H4.out]
 go_wp2
 go_ret
 exact ⟨ret_bool (by rw [HB.out]; rfl), B_0⟩

set_option maxHeartbeats 1600000 in
theorem icallok_any (cl : Int) (ad : Option Addr) (N cap : Nat) (ss : List L2V) (ga : Option Addr) (gn gc : Nat) (G : List Int) (sa : Option Addr) (sn sc : Nat) (S : List Int) (x sq ac : Int) (a : Option Addr) (n cc : Nat) (zs : List Int) (w : World) (h : PlAt w ad N ss ga gn G sa sn S) (hC : Ints w a n zs) (hn : n ≤ 1048576) (hT : Lib.TabBelow Tryz.prog w.heap.size w "internal/strconv.uint64pow10" .u64 Lib.pow10Tab) :
  Calls Tryz.prog 87 #[plV cl ad N cap ga gn gc sa sn sc, clV x sq ac a n cc] w fun e w' => e = .returned (.bool (plnB cl N ss gn G sn S && inCallB cl N x sq ac n zs)) ∧ Below w.heap.size w w' := by
 have HTB : Hid _ := hT
 clear hT
 have q_0 := (BP.new w [.int .i64 cl, .slice ad N cap, .slice ga gn gc, .slice sa sn sc] 34).alloc (.cells #[.int .i64 x, .int .i64 sq, .int .i64 ac, .slice a n cc] 131)
 have y_0 := Cel.new (w.alloc (.cells #[.int .i64 cl, .slice ad N cap, .slice ga gn gc, .slice sa sn sc] 34)) [.int .i64 x, .int .i64 sq, .int .i64 ac, .slice a n cc] 131
 rw [World.size_alloc] at y_0
 cases hp : plnB cl N ss gn G sn S
 ·have HP : Hid _ := hp
  clear hp
  go_enter Tryz.func87, Tryz.ntmps87
  go_wp2_with fail
  refine (iplnok_any _ _ _ _ ss _ _ _ G _ _ _ S _ ((h.alloc _).alloc _)).mono ?_
  rintro e w1 ⟨rfl, b1⟩
  rw [HP.out]
  have q_1 := q_0.below b1
  go_wp2
  go_ret
  exact ⟨ret_bool (by simp), q_1.b⟩
 have pp := (pln_parts hp).1
 have pa := pln_acts hp
 have HP : Hid _ := hp
 clear hp
 obtain ⟨x1, hx1⟩ : ∃ y, y = decide (0 ≤ x ∧ x < cl) := ⟨_, rfl⟩
 obtain ⟨x2, hx2⟩ : ∃ y, y = decide (0 ≤ ac ∧ ac < (N : Int)) := ⟨_, rfl⟩
 obtain ⟨T, hx3⟩ : ∃ y : ByteArray, y = ⟨(callText x sq ac n zs).toArray⟩ := ⟨_, rfl⟩
 have HB : Hid (inCallB cl N x sq ac n zs = (x1 && (x2 && !T.toList.isEmpty))) := by show _ = _; rw [← inCall_same pp.2 pa.2, hx1, hx2, hx3]; rfl
 have H1 : Hid _ := hx1
 have H2 : Hid _ := hx2
 have H3 : Hid _ := hx3
 clear hx1 hx2 hx3
 go_enter Tryz.func87, Tryz.ntmps87
 go_wp2_with fail
 refine (iplnok_any _ _ _ _ ss _ _ _ G _ _ _ S _ ((h.alloc _).alloc _)).mono ?_
 rintro e w1 ⟨rfl, b1⟩
 rw [HP.out]
 have q_1 := q_0.below b1
 have y_1 := y_0.below b1
 clear q_0 y_0 b1
 obtain ⟨c0, c1, c2, c3⟩ := q_1.p.quadP
 obtain ⟨d0, d1, d2, d3⟩ := y_1.quadC
 go_wp2_with fail
 refine (place_any _ _ _).mono ?_
 rintro e w2 ⟨rfl, rfl⟩
 rw [← H1.out]
 cases x1
 ·go_wp2
  go_ret
  exact ⟨ret_bool (by rw [HB.out]; rfl), q_1.b⟩
 go_wp2_with fail
 refine (place_any _ _ _).mono ?_
 rintro e w2 ⟨rfl, rfl⟩
 rw [← H2.out]
 cases x2
 ·go_wp2
  go_ret
  exact ⟨ret_bool (by rw [HB.out]; rfl), q_1.b⟩
 have B_1 := q_1.b
 go_wp2_with fail
 refine (ictext_any _ _ _ _ _ _ zs _ (hC.below q_1.b) hn (fun w' h' => HTB.out w' (B_1.trans (h'.mono B_1.size)))).mono ?_
 rintro e w2 ⟨rfl, b2⟩
 rw [← H3.out]
 have q_2 := q_1.below b2
 clear c0 c1 c2 c3 d0 d1 d2 d3 q_1 y_1 B_1 b2
 go_wp2
 go_ret
 exact ⟨ret_bool (by rw [HB.out]; rfl), q_2.b⟩

end Go.Proofs.YtdigmokjedckeaaGreatDoor
namespace Go.Proofs.YtdigmokjedckeaaGreatDoor
open Go.RowKit Go.Deep
set_option linter.unusedVariables false
set_option maxRecDepth 100000

theorem pln_catC {cl : Int} {N : Nat} {ss : List L2V} {gn : Nat} {G : List Int} {sn : Nat} {S : List Int} (h : plnB cl N ss gn G sn S = true) : catB N ss = true := by
 simp only [plnB, Bool.and_eq_true] at h
 exact h.2.1
/-- Numbers of clients are ok. -/
def seqsB (cl : Int) (n : Nat) (zs : List Int) : Bool := decide ((n : Int) = cl) && betB 0 300 zs
theorem seqs_not {cl : Int} {n : Nat} {zs : List Int} (h : ¬ (n : Int) = cl) : seqsB cl n zs = false := by simp [seqsB, h]
theorem seqs_is {cl : Int} {n : Nat} {zs : List Int} (h : (n : Int) = cl) : seqsB cl n zs = betB 0 300 zs := by simp [seqsB, h]
/-- What a site has told is ok. -/
def gotP (cl : Int) (gn bn : Nat) (bx G : List Int) (T : List (List Int)) (R : Nat → Bool) (i : Nat) (f : GV) : Bool :=
 if f.h = true then keepT bn gn bx G T i f.t.n f.t.x && (stillB R f.t.x && seqsB cl f.u.n f.u.x) else decide (f.t.n = 0) && decide (f.u.n = 0)
def gotsTo (cl : Int) (gn bn : Nat) (bx G : List Int) (T : List (List Int)) (R : Nat → Bool) (fs : List GV) (k : Nat) : Bool := (List.range k).all fun i => gotP cl gn bn bx G T R i (fs[i]?.getD noG)
def gotsB (cl : Int) (gn bn : Nat) (bx G : List Int) (T : List (List Int)) (R : Nat → Bool) (en : Nat) (fs : List GV) : Bool := decide (en = gn) && gotsTo cl gn bn bx G T R fs en
theorem range_go {P : Nat → Bool} {k : Nat} (h : (List.range k).all P = true) (h1 : P k = true) : (List.range (k + 1)).all P = true := by
 rw [List.range_succ, List.all_append, h]; simp [h1]
theorem range_no {P : Nat → Bool} {k n : Nat} (h : k < n) (h1 : P k = false) : (List.range n).all P = false := by
 rw [List.all_eq_false]
 exact ⟨k, by simpa using h, by simp [h1]⟩
theorem got_yes {cl : Int} {gn bn : Nat} {bx G : List Int} {T : List (List Int)} {R : Nat → Bool} {i : Nat} {t u : IV} : gotP cl gn bn bx G T R i ⟨true, t, u⟩ = (keepT bn gn bx G T i t.n t.x && (stillB R t.x && seqsB cl u.n u.x)) := by rw [gotP, if_pos rfl]
theorem got_no {cl : Int} {gn bn : Nat} {bx G : List Int} {T : List (List Int)} {R : Nat → Bool} {i : Nat} {t u : IV} : gotP cl gn bn bx G T R i ⟨false, t, u⟩ = (decide (t.n = 0) && decide (u.n = 0)) := by rw [gotP, if_neg (by simp)]
theorem map_list {α β : Type} (d : α) (f : α → β) {xs ys : List α} (hl : ys.length = xs.length) (h : ∀ i, i < ys.length → f (ys[i]?.getD d) = f (xs[i]?.getD d)) : ys.map f = xs.map f := by
 apply List.ext_getElem?
 intro i
 by_cases hi : i < ys.length
 ·have e := h i hi
  rw [List.getElem?_eq_getElem hi, List.getElem?_eq_getElem (by omega)] at e
  simp only [Option.getD_some] at e
  rw [List.getElem?_map, List.getElem?_map, List.getElem?_eq_getElem hi, List.getElem?_eq_getElem (by omega)]
  simp [e]
 ·rw [List.getElem?_eq_none (by simp; omega), List.getElem?_eq_none (by simp; omega)]
theorem range_same {P Q : Nat → Bool} {n : Nat} (h : ∀ i, i < n → P i = Q i) : (List.range n).all P = (List.range n).all Q := by
 induction n with
 | zero => rfl
 | succ n ih =>
  rw [List.range_succ, List.all_append, List.all_append, ih (fun i hi => h i (by omega))]
  simp [h n (by omega)]
theorem gots_copy {cl : Int} {gn bn : Nat} {bx G : List Int} {T : List (List Int)} {R : Nat → Bool} {en : Nat} {fs gs : List GV} (hl : gs.length = en) (h : copiesGS fs gs) : gotsB cl gn bn bx G T R en gs = gotsB cl gn bn bx G T R en fs := by
 rw [gotsB, gotsB, gotsTo, gotsTo, range_same (fun i hi => ?_)]
 obtain ⟨e1, ⟨e2, e3⟩, ⟨e4, e5⟩, -⟩ := h i (by omega)
 rw [gotP, gotP, e1, e2, e3, e4, e5]
theorem same_copyG {fs gs hs : List GV} {N : Nat} (h1 : gs.length = N) (h2 : hs.length = N) (c1 : copiesGS fs gs) (c2 : copiesGS fs hs) : ∀ i, i < N → sameG (gs[i]?.getD noG) (hs[i]?.getD noG) := fun i hi => by
 obtain ⟨a1, a2, a3, -⟩ := c1 i (by omega)
 obtain ⟨b1, b2, b3, -⟩ := c2 i (by omega)
 exact ⟨by rw [a1, b1], by show _ = _; rw [a2.2, b2.2], by show _ = _; rw [a3.2, b3.2], trivial⟩
theorem same_copyQ {fs gs hs : List QV} {N : Nat} (h1 : gs.length = N) (h2 : hs.length = N) (c1 : copiesQS fs gs) (c2 : copiesQS fs hs) : ∀ i, i < N → sameQ (gs[i]?.getD noQ) (hs[i]?.getD noQ) := fun i hi => by
 obtain ⟨a1, a2, a3, a4, -⟩ := c1 i (by omega)
 obtain ⟨b1, b2, b3, b4, -⟩ := c2 i (by omega)
 exact ⟨by rw [a1, b1], by rw [a2, b2], by rw [a3, b3], by show _ = _; rw [a4.2, b4.2], trivial⟩
/-- How many have told. -/
def hasN (fs : List GV) : Nat := fs.countP GV.h
theorem hasN_copy {fs gs : List GV} (hl : gs.length = fs.length) (h : copiesGS fs gs) : hasN gs = hasN fs := by
 have e : ∀ xs : List GV, hasN xs = (xs.map GV.h).countP id := fun xs => by rw [hasN, List.countP_map]; rfl
 rw [e, e, map_list noG GV.h hl (fun i hi => (h i hi).1)]
theorem has_snoc {fs : List GV} {k : Nat} (h : k < fs.length) : hasN (fs.take (k + 1)) = hasN (fs.take k) + (if (fs[k]?.getD noG).h = true then 1 else 0) := by
 rw [hasN, hasN, List.take_succ_eq_append_getElem h, List.countP_append, List.getElem?_eq_getElem h]
 simp [List.countP_cons]
theorem has_le (fs : List GV) : hasN fs ≤ fs.length := List.countP_le_length
theorem has_none {fs : List GV} {k : Nat} (h : k < fs.length) (h1 : (fs[k]?.getD noG).h = true) : hasN fs ≠ 0 := fun e => by
 rw [hasN, List.countP_eq_zero] at e
 rw [List.getElem?_eq_getElem h] at h1
 exact e _ (List.getElem_mem h) h1
/-- A call that waits is ok behind those ahead of it. -/
def wantP (cl : Int) (N : Nat) (fs : List QV) (k : Nat) : Bool := inCallB cl N (fs[k]?.getD noQ).x (fs[k]?.getD noQ).q (fs[k]?.getD noQ).c (fs[k]?.getD noQ).t.n (fs[k]?.getD noQ).t.x && decide (k = 0 ∨ (fs[k - 1]?.getD noQ).x < (fs[k]?.getD noQ).x)
def wantsB (cl : Int) (N kn : Nat) (fs : List QV) : Bool := (List.range kn).all (wantP cl N fs)
theorem wants_copy {cl : Int} {N kn : Nat} {fs gs : List QV} (hl : gs.length = kn) (h : copiesQS fs gs) : wantsB cl N kn gs = wantsB cl N kn fs := by
 refine range_same (fun i hi => ?_)
 obtain ⟨e1, e2, e3, ⟨e4, e5⟩, -⟩ := h i (by omega)
 obtain ⟨d1, -⟩ := h (i - 1) (by omega)
 rw [wantP, wantP, e1, e2, e3, e4, e5, d1]
/-- A clerk is ok, of a plan that is, with these parts and pins. -/
def clerkB (cl : Int) (N gn : Nat) (G : List Int) (T : List (List Int)) (R : Nat → Bool) (u : Bool) (r : Int) (bn : Nat) (bx : List Int) (dn : Nat) (dx : List DV) (kn : Nat) (kx : List QV) (en : Nat) (ex : List GV) : Bool :=
 inB r 0 200 && (okN 3 10000 bn bx && (donesB cl dn dx && (wantsB cl N kn kx && (gotsB cl gn bn bx G T R en ex && (u || (decide (kn = 0) && decide (hasN ex = 0)))))))
def clkB (cl : Int) (N : Nat) (ss : List L2V) (gn : Nat) (G : List Int) (sn : Nat) (S : List Int) (u : Bool) (r : Int) (bn : Nat) (bx : List Int) (dn : Nat) (dx : List DV) (kn : Nat) (kx : List QV) (en : Nat) (ex : List GV) : Bool :=
 plnB cl N ss gn G sn S && clerkB cl N gn G (catP ss) (pinsA ss) u r bn bx dn dx kn kx en ex
theorem clkB_copy {cl : Int} {N : Nat} {ss ts : List L2V} {gn : Nat} {G : List Int} {sn : Nat} {S : List Int} {u : Bool} {r : Int} {bn : Nat} {bx : List Int} {dn : Nat} {dx dy : List DV} {kn : Nat} {kx ky : List QV} {en : Nat} {ex ey : List GV} (h1 : ts.length = ss.length) (h2 : copiesL2S ss ts) (h3 : dy.length = dx.length) (h4 : copiesDS dx dy) (h5 : ky.length = kn) (h6 : copiesQS kx ky) (h7 : ey.length = en) (h8 : ex.length = en) (h9 : copiesGS ex ey) :
  clkB cl N ts gn G sn S u r bn bx dn dy kn ky en ey = clkB cl N ss gn G sn S u r bn bx dn dx kn kx en ex := by
 rw [clkB, clkB, clerkB, clerkB, plnB, plnB, copies_catP h1 h2, catP_copies h1 h2, pins_copies h1 h2, dones_copy h3 h4, wants_copy h5 h6, gots_copy h7 h9, hasN_copy (by omega) h9]

theorem iroundC_any (r : Int) (w : World) : Calls Tryz.prog 32 #[.int .i64 r] w fun e w' => e = .returned (.bool (inB r 0 200)) ∧ Below w.heap.size w w' := by
 go_enter Tryz.func32, Tryz.ntmps32
 go_wp2_with fail
 refine (between_any _ _ _ [r] _ _ _ (one_ints w r 3) (by omega)).mono ?_
 rintro e w1 ⟨rfl, rfl⟩
 go_wp2
 go_ret
 exact ⟨ret_bool (bet_one _ _ _), (Below.refl _ _).alloc (Nat.le_refl _) _⟩

set_option maxHeartbeats 800000 in
theorem sseqs_any (cl : Int) (ad : Option Addr) (N cap : Nat) (ga : Option Addr) (gn gc : Nat) (sa : Option Addr) (sn sc : Nat) (a : Option Addr) (n cc : Nat) (zs : List Int) (w : World) (h : Ints w a n zs) (hn : n ≤ 1048576) :
  Calls Tryz.prog 116 #[plV cl ad N cap ga gn gc sa sn sc, .slice a n cc] w fun e w' => e = .returned (.bool (seqsB cl n zs)) ∧ Below w.heap.size w w' := by
 have HZ : Hid (zs.length = n) := h.1
 have B0 := (Below.refl w.heap.size w).alloc (Nat.le_refl _) (.cells #[.int .i64 cl, .slice ad N cap, .slice ga gn gc, .slice sa sn sc] 34)
 by_cases hc : (n : Int) = cl
 ·have hc' : ((n : Int) != cl) = false := by simpa using hc
  have HC : Hid _ := hc
  clear hc
  go_enter Tryz.func116, Tryz.ntmps116
  go_wp2_with fail
  obtain ⟨W0, hW0⟩ : ∃ W, W = w.alloc (.cells #[.int .i64 cl, .slice ad N cap, .slice ga gn gc, .slice sa sn sc] 34) := ⟨_, rfl⟩
  rw [← hW0] at B0 ⊢
  clear hW0
  have h' := h.below B0
  clear h
  go_loop [5] (fun i => ∃ k : Nat, k ≤ n ∧ i = .int .i64 k ∧ betB 0 300 (zs.take k) = true) (fun i => n - (intOf i).toNat)
  case atStart => exact ⟨0, Nat.zero_le _, rfl, rfl⟩
  case round =>
   obtain ⟨k, hk, rfl, hall⟩ := hrel
   have HA : Hid _ := hall
   clear hall
   by_cases hlt : k < n
   ·obtain ⟨b, off, rfl, hcell⟩ := h'.pos (by omega)
    have hck := hcell k hlt
    have hlt' : (k : Int) < (n : Int) := by omega
    clear hcell
    cases hin : inB (zs[k]?.getD 0) 0 300
    ·go_wp2_with (go_at_call 25; refine (in_any _ _ _ _).mono ?_; rintro e w' ⟨rfl, rfl⟩)
     go_ret
     exact ⟨ret_bool (by rw [seqs_is HC.out, betB_false (by rw [HZ.out]; exact hlt) hin]), B0⟩
    ·go_wp2_with (go_at_call 25; refine (in_any _ _ _ _).mono ?_; rintro e w' ⟨rfl, rfl⟩)
     go_round
     case rel => exact ⟨k + 1, by omega, by go_num, betB_step (by rw [HZ.out]; exact hlt) HA.out hin⟩
     case measure => simp [intOf]; omega
   ·go_wp2
    go_ret
    exact ⟨ret_bool (by rw [seqs_is HC.out, betB_end (by rw [HZ.out]; omega) HA.out]), B0⟩
 ·have hc' : ((n : Int) != cl) = true := by simpa using hc
  go_enter Tryz.func116, Tryz.ntmps116
  go_wp2
  go_ret
  exact ⟨ret_bool (by rw [seqs_not hc]), B0⟩

set_option maxHeartbeats 800000 in
theorem iseqs_any (cl : Int) (ad : Option Addr) (N cap : Nat) (ga : Option Addr) (gn gc : Nat) (sa : Option Addr) (sn sc : Nat) (a : Option Addr) (n cc : Nat) (zs : List Int) (w : World) (h : Ints w a n zs) (hn : n ≤ 1048576) :
  Calls Tryz.prog 88 #[plV cl ad N cap ga gn gc sa sn sc, .slice a n cc] w fun e w' => e = .returned (.bool (seqsB cl n zs)) ∧ Below w.heap.size w w' := by
 have B0 := (Below.refl w.heap.size w).alloc (Nat.le_refl _) (.cells #[.int .i64 cl, .slice ad N cap, .slice ga gn gc, .slice sa sn sc] 34)
 by_cases hc : (n : Int) = cl
 ·have hc' : ((n : Int) == cl) = true := by simpa using hc
  have HC : Hid _ := hc
  clear hc
  go_enter Tryz.func88, Tryz.ntmps88
  go_wp2_with fail
  refine (between_any _ _ _ zs _ _ _ (h.below B0) hn).mono ?_
  rintro e w1 ⟨rfl, rfl⟩
  go_wp2
  go_ret
  exact ⟨ret_bool (by rw [seqs_is HC.out]), B0⟩
 ·have hc' : ((n : Int) == cl) = false := by simpa using hc
  go_enter Tryz.func88, Tryz.ntmps88
  go_wp2
  go_ret
  exact ⟨ret_bool (by rw [seqs_not hc]), B0⟩

set_option maxHeartbeats 800000 in
theorem inone_any (h : Bool) (ta : Option Addr) (tn tc : Nat) (ua : Option Addr) (un uc : Nat) (w : World) :
  Calls Tryz.prog 89 #[gtV h ta tn tc ua un uc] w fun e w' => e = .returned (.bool (!h && (decide (tn = 0) && decide (un = 0)))) ∧ Below w.heap.size w w' := by
 have B0 := (Below.refl w.heap.size w).alloc (Nat.le_refl _) (.cells #[.bool h, .slice ta tn tc, .slice ua un uc] 133)
 cases h
 ·by_cases h1 : tn = 0
  ·subst h1
   have e2 : ((un : Int) == 0) = decide (un = 0) := by by_cases hn : un = 0 <;> simp [hn]
   go_enter Tryz.func89, Tryz.ntmps89
   go_wp2
   go_ret
   exact ⟨ret_bool (by simp), B0⟩
  ·have h1' : ((tn : Int) == 0) = false := by simp; omega
   go_enter Tryz.func89, Tryz.ntmps89
   go_wp2
   go_ret
   exact ⟨ret_bool (by simp [h1]), B0⟩
 ·go_enter Tryz.func89, Tryz.ntmps89
  go_wp2
  go_ret
  exact ⟨ret_bool (by simp), B0⟩

end Go.Proofs.YtdigmokjedckeaaGreatDoor
namespace Go.Proofs.YtdigmokjedckeaaGreatDoor
open Go.RowKit Go.Deep
set_option linter.unusedVariables false
set_option maxRecDepth 100000

set_option maxHeartbeats 800000 in
theorem ihasC_any (h : Bool) (ta : Option Addr) (tn tc : Nat) (ua : Option Addr) (un uc : Nat) (w : World) :
  Calls Tryz.prog 91 #[gtV h ta tn tc ua un uc] w fun e w' => e = .returned (.bool h) ∧ Below w.heap.size w w' := by
 have B0 := (Below.refl w.heap.size w).alloc (Nat.le_refl _) (.cells #[.bool h, .slice ta tn tc, .slice ua un uc] 133)
 go_enter Tryz.func91, Tryz.ntmps91
 go_wp2
 go_ret
 exact ⟨rfl, B0⟩

set_option maxHeartbeats 1600000 in
theorem iindex_any (ea : Option Addr) (en ec : Nat) (ex : List GV) (w : World) (hE : GSG w ea ex) (lE : ex.length = en) (zE : en ≤ 1048576) :
  Calls Tryz.prog 120 #[.slice ea en ec, .func (.func 91) #[] #[]] w fun e w' => ∃ x : Int, e = .returned (.int .i64 x) ∧ decide (0 ≤ x) = decide (hasN ex ≠ 0) ∧ Below w.heap.size w w' := by
 have LE : Hid (ex.length = en) := lE
 clear lE
 go_enter Tryz.func120, Tryz.ntmps120
 go_wp2_with fail
 go_loopw [5, 8] (fun _ i wr => ∃ k : Nat, k ≤ en ∧ i = .int .i64 k ∧ Below w.heap.size w wr ∧ hasN (ex.take k) = 0) (fun _ i _ => en - (intOf i).toNat)
 case atStart => exact ⟨0, Nat.zero_le _, rfl, Below.refl _ _, by simp [hasN]⟩
 case round =>
  obtain ⟨k, hk, rfl, hb, hall⟩ := hrel
  have HA : Hid _ := hall
  clear hall
  by_cases hlt : k < en
  ·obtain ⟨b, off, rfl, hc, hr⟩ := (hE.below hb) k (by rw [LE.out]; exact hlt)
   generalize HG : ex[k]?.getD noG = g at *
   have HG' : Hid (ex[k]?.getD noG = g) := HG
   clear HG
   obtain ⟨e0, e1, e2⟩ := cellsG hc
   obtain ⟨gh, ⟨gta, gtn, gtc, gtx⟩, ⟨gua, gun, guc, gux⟩⟩ := g
   have e0' : wr.cell? ⟨b, off + k * 3, none⟩ = some (.bool gh) := e0
   have e1' : wr.cell? ⟨b, off + k * 3 + 1, none⟩ = some (.slice gta gtn gtc) := e1
   have e2' : wr.cell? ⟨b, off + k * 3 + 2, none⟩ = some (.slice gua gun guc) := e2
   have hI : Ints wr gta gtn gtx := hr.1.1
   have zI : gtn ≤ 1048576 := hr.1.2
   have hJ : Ints wr gua gun gux := hr.2.1.1
   have zJ : gun ≤ 1048576 := hr.2.1.2
   clear e0 e1 e2 hc hr
   have hlt' : (k : Int) < (en : Int) := by omega
   have HN : Hid (gh = true → hasN ex ≠ 0) := fun h => has_none (k := k) (by rw [LE.out]; exact hlt) (by rw [HG'.out]; exact h)
   have HS : Hid (gh = false → hasN (ex.take (k + 1)) = 0) := fun h => by rw [has_snoc (by rw [LE.out]; exact hlt), HA.out, HG'.out, h]; rfl
   clear HG'
   go_wp2_with fail
   refine (ihasC_any _ _ _ _ _ _ _ _).mono ?_
   rintro e w1 ⟨rfl, b1⟩
   have B1 := hb.trans (b1.mono hb.size)
   cases gh
   ·go_wp2
    go_roundw
    case rel => exact ⟨k + 1, by omega, by go_num, B1, HS.out (by first | rfl | trivial)⟩
    case measure => simp [intOf]; omega
   ·go_wp2
    go_ret
    exact ⟨_, rfl, by have := HN.out (by first | rfl | trivial); simp [this], B1⟩
  ·obtain rfl : k = en := by omega
   go_wp2
   go_ret
   exact ⟨-1, rfl, by have h := HA.out; rw [List.take_of_length_le (by rw [LE.out]; exact Nat.le_refl _)] at h; simp [h], hb⟩

set_option maxHeartbeats 800000 in
theorem icontains_any (ea : Option Addr) (en ec : Nat) (ex : List GV) (w : World) (hE : GSG w ea ex) (lE : ex.length = en) (zE : en ≤ 1048576) :
  Calls Tryz.prog 90 #[.slice ea en ec, .func (.func 91) #[] #[]] w fun e w' => e = .returned (.bool (decide (hasN ex ≠ 0))) ∧ Below w.heap.size w w' := by
 go_enter Tryz.func90, Tryz.ntmps90
 go_wp2_with fail
 refine (iindex_any _ _ _ ex _ hE lE zE).mono ?_
 rintro e w1 ⟨x, rfl, hx, b1⟩
 have HX : Hid _ := hx
 clear hx
 go_wp2
 go_ret
 exact ⟨ret_bool HX.out, b1⟩

set_option maxHeartbeats 800000 in
theorem ineeds_any (u : Bool) (r : Int) (ba : Option Addr) (bn bc : Nat) (da : Option Addr) (dn dc : Nat) (ka : Option Addr) (kn kc : Nat) (ea : Option Addr) (en ec : Nat) (ex : List GV) (w : World) (hE : GSG w ea ex) (lE : ex.length = en) (zE : en ≤ 1048576) :
  Calls Tryz.prog 46 #[ckV u r ba bn bc da dn dc ka kn kc ea en ec] w fun e w' => e = .returned (.bool (decide (0 < kn) || decide (hasN ex ≠ 0))) ∧ Below w.heap.size w w' := by
 have B0 := (Below.refl w.heap.size w).alloc (Nat.le_refl _) (.cells #[.bool u, .int .i64 r, .slice ba bn bc, .slice da dn dc, .slice ka kn kc, .slice ea en ec] 52)
 by_cases hk : 0 < kn
 ·have hd1 : decide ((0 : Int) < (kn : Int)) = true := by simp; omega
  have hd2 : decide (0 < kn) = true := by simp; omega
  have HK : Hid _ := hd2
  clear hk
  go_enter Tryz.func46, Tryz.ntmps46
  go_wp2
  go_ret
  exact ⟨ret_bool (by rw [HK.out]; rfl), B0⟩
 ·obtain rfl : kn = 0 := by omega
  go_enter Tryz.func46, Tryz.ntmps46
  go_wp2_with fail
  refine (icontains_any _ _ _ ex _ (hE.below B0) lE zE).mono ?_
  rintro e w1 ⟨rfl, b1⟩
  go_wp2
  go_ret
  exact ⟨ret_bool (by simp), B0.trans (b1.mono B0.size)⟩

set_option maxHeartbeats 3200000 in
theorem igots_any (cl : Int) (ad : Option Addr) (N cap : Nat) (ga : Option Addr) (gn gc : Nat) (sa : Option Addr) (sn sc : Nat) (ss : List L2V) (G S : List Int) (u : Bool) (r : Int) (ba : Option Addr) (bn bc : Nat) (da : Option Addr) (dn dc : Nat) (ka : Option Addr) (kn kc : Nat) (ea : Option Addr) (en ec : Nat) (bx : List Int) (ex : List GV) (w : World) (hp : PlAt w ad N ss ga gn G sa sn S) (hcat : catB N ss = true) (hB : Ints w ba bn bx) (zb : bn ≤ 1048576) (hE : GSG w ea ex) (lE : ex.length = en) (zE : en ≤ 1048576) :
  Calls Tryz.prog 45 #[ckV u r ba bn bc da dn dc ka kn kc ea en ec, plV cl ad N cap ga gn gc sa sn sc] w fun e w' => e = .returned (.bool (gotsB cl gn bn bx G (catP ss) (pinsA ss) en ex)) ∧ Below w.heap.size w w' := by
 have LE : Hid (ex.length = en) := lE
 have HCT : Hid _ := hcat
 clear lE hcat
 have y0 := (Cel.new w [.bool u, .int .i64 r, .slice ba bn bc, .slice da dn dc, .slice ka kn kc, .slice ea en ec] 52).alloc (.cells #[.int .i64 cl, .slice ad N cap, .slice ga gn gc, .slice sa sn sc] 34)
 have q0 := Cel.new (w.alloc (.cells #[.bool u, .int .i64 r, .slice ba bn bc, .slice da dn dc, .slice ka kn kc, .slice ea en ec] 52)) [.int .i64 cl, .slice ad N cap, .slice ga gn gc, .slice sa sn sc] 34
 rw [World.size_alloc] at q0
 have B0 := ((Below.refl w.heap.size w).alloc (Nat.le_refl _) (.cells #[.bool u, .int .i64 r, .slice ba bn bc, .slice da dn dc, .slice ka kn kc, .slice ea en ec] 52)).alloc (by simp) (.cells #[.int .i64 cl, .slice ad N cap, .slice ga gn gc, .slice sa sn sc] 34)
 by_cases hc : en = gn
 ·have hc' : ((en : Int) != (gn : Int)) = false := by simp [hc]
  have HC : Hid _ := hc
  clear hc
  go_enter Tryz.func45, Tryz.ntmps45
  go_wp2_with fail
  obtain ⟨W0, hW0⟩ : ∃ W, W = (w.alloc (.cells #[.bool u, .int .i64 r, .slice ba bn bc, .slice da dn dc, .slice ka kn kc, .slice ea en ec] 52)).alloc (.cells #[.int .i64 cl, .slice ad N cap, .slice ga gn gc, .slice sa sn sc] 34) := ⟨_, rfl⟩
  rw [← hW0] at q0 y0 B0 ⊢
  clear hW0
  go_loopw [5, 6, 7, 18] (fun _ _ _ i wr => ∃ k : Nat, k ≤ en ∧ i = .int .i64 k ∧ Below W0.heap.size W0 wr ∧ gotsTo cl gn bn bx G (catP ss) (pinsA ss) ex k = true) (fun _ _ _ i _ => en - (intOf i).toNat)
  case atStart => exact ⟨0, Nat.zero_le _, rfl, Below.refl _ _, rfl⟩
  case round =>
   obtain ⟨k, hk, rfl, hb0, hall⟩ := hrel
   have HA : Hid _ := hall
   clear hall
   have hb := B0.trans (hb0.mono B0.size)
   obtain ⟨c0, c1, c2, c3⟩ := (q0.below hb0).quadP
   obtain ⟨d0, d1, d2, d3, d4, d5⟩ := (y0.below hb0).sixP
   by_cases hlt : k < en
   ·obtain ⟨b, off, rfl, hc, hr⟩ := (hE.below hb) k (by rw [LE.out]; exact hlt)
    generalize HG : ex[k]?.getD noG = g at *
    have HG' : Hid (ex[k]?.getD noG = g) := HG
    clear HG
    obtain ⟨e0, e1, e2⟩ := cellsG hc
    obtain ⟨gh, ⟨gta, gtn, gtc, gtx⟩, ⟨gua, gun, guc, gux⟩⟩ := g
    have e0' : wr.cell? ⟨b, off + k * 3, none⟩ = some (.bool gh) := e0
    have e1' : wr.cell? ⟨b, off + k * 3 + 1, none⟩ = some (.slice gta gtn gtc) := e1
    have e2' : wr.cell? ⟨b, off + k * 3 + 2, none⟩ = some (.slice gua gun guc) := e2
    have hI : Ints wr gta gtn gtx := hr.1.1
    have zI : gtn ≤ 1048576 := hr.1.2
    have hJ : Ints wr gua gun gux := hr.2.1.1
    have zJ : gun ≤ 1048576 := hr.2.1.2
    clear e0 e1 e2 hc hr
    have hlt' : (k : Int) < (en : Int) := by omega
    have NO : Hid (gotP cl gn bn bx G (catP ss) (pinsA ss) k ⟨gh, ⟨gta, gtn, gtc, gtx⟩, ⟨gua, gun, guc, gux⟩⟩ = false → gotsB cl gn bn bx G (catP ss) (pinsA ss) en ex = false) := fun h => by rw [gotsB, gotsTo, range_no hlt (by rw [HG'.out]; exact h)]; simp
    have YES : Hid (gotP cl gn bn bx G (catP ss) (pinsA ss) k ⟨gh, ⟨gta, gtn, gtc, gtx⟩, ⟨gua, gun, guc, gux⟩⟩ = true → gotsTo cl gn bn bx G (catP ss) (pinsA ss) ex (k + 1) = true) := fun h => range_go HA.out (by rw [HG'.out]; exact h)
    have bA := hb0.alloc hb0.size (.cells #[.bool gh, .slice gta gtn gtc, .slice gua gun guc] 133)
    have BA := hb.alloc hb.size (.cells #[.bool gh, .slice gta gtn gtc, .slice gua gun guc] 133)
    have qA := (q0.below hb0).alloc (.cells #[.bool gh, .slice gta gtn gtc, .slice gua gun guc] 133)
    have yA := (y0.below hb0).alloc (.cells #[.bool gh, .slice gta gtn gtc, .slice gua gun guc] 133)
    obtain ⟨v0, v1, v2, v3⟩ := qA.quadP
    obtain ⟨r0, r1, r2, r3, r4, r5⟩ := yA.sixP
    clear qA yA
    cases gh
    ·obtain ⟨x, hx⟩ : ∃ x, x = (decide (gtn = 0) && decide (gun = 0)) := ⟨_, rfl⟩
     have HX : Hid (x = (decide (gtn = 0) && decide (gun = 0))) := hx
     clear hx
     go_wp2_with fail
     refine (inone_any _ _ _ _ _ _ _ _).mono ?_
     rintro e w1 ⟨rfl, b1⟩
     rw [← HX.out]
     have B1 := BA.trans (b1.mono BA.size)
     have b01 := bA.trans (b1.mono bA.size)
     cases x
     ·have HV : Hid _ := NO.out (by rw [got_no]; exact HX.out.symm)
      go_wp2
      go_ret
      exact ⟨ret_bool (by rw [HV.out]), B1⟩
     ·have HY : Hid _ := YES.out (by rw [got_no]; exact HX.out.symm)
      go_wp2
      go_roundw
      case rel => exact ⟨k + 1, by omega, by go_num, b01, HY.out⟩
      case measure => simp [intOf]; omega
    ·obtain ⟨x1, hx1⟩ : ∃ x, x = seqsB cl gun gux := ⟨_, rfl⟩
     have H1 : Hid (x1 = seqsB cl gun gux) := hx1
     obtain ⟨x2, hx2⟩ : ∃ x, x = (keepT bn gn bx G (catP ss) k gtn gtx && stillB (pinsA ss) gtx) := ⟨_, rfl⟩
     have H2 : Hid (x2 = (keepT bn gn bx G (catP ss) k gtn gtx && stillB (pinsA ss) gtx)) := hx2
     have HP2 : Hid (gotP cl gn bn bx G (catP ss) (pinsA ss) k ⟨true, ⟨gta, gtn, gtc, gtx⟩, ⟨gua, gun, guc, gux⟩⟩ = (x2 && x1)) := by
      show _ = _
      rw [got_yes, hx1, hx2]
      show (keepT bn gn bx G (catP ss) k gtn gtx && (stillB (pinsA ss) gtx && seqsB cl gun gux)) = _
      rw [Bool.and_assoc]
     clear hx1 hx2
     go_wp2_with fail
     refine (iseqs_any _ _ _ _ _ _ _ _ _ _ _ _ _ gux _ (hJ.alloc _) zJ).mono ?_
     rintro e w1 ⟨rfl, b1⟩
     rw [← H1.out]
     have bg := (Cel.new wr [.bool true, .slice gta gtn gtc, .slice gua gun guc] 133).below b1
     have B1 := BA.trans (b1.mono BA.size)
     have b01 := bA.trans (b1.mono bA.size)
     have q1 := q0.below b01
     have y1 := y0.below b01
     obtain ⟨i0, i1, i2⟩ := bg.three
     obtain ⟨j0, j1, j2, j3⟩ := q1.quadP
     obtain ⟨l0, l1, l2, l3, l4, l5⟩ := y1.sixP
     cases x1
     ·have HV : Hid _ := NO.out (by rw [HP2.out]; simp)
      go_wp2_with fail
      refine (inone_any _ _ _ _ _ _ _ _).mono ?_
      rintro e w2 ⟨rfl, b2⟩
      go_wp2
      go_ret
      exact ⟨ret_bool (by rw [HV.out]), B1.trans (b2.mono B1.size)⟩
     ·go_wp2_with fail
      refine (ikeeps_any _ _ _ _ _ _ _ _ _ _ ss G S _ _ _ bx _ _ _ _ gtx _ (hp.below B1) HCT.out (hB.below B1) zb ((hI.alloc _).below b1) zI).mono ?_
      rintro e w2 ⟨rfl, b2⟩
      rw [← H2.out]
      have bg2 := bg.below b2
      have B2 := B1.trans (b2.mono B1.size)
      have b02 := b01.trans (b2.mono b01.size)
      obtain ⟨m0, m1, m2⟩ := bg2.three
      cases x2
      ·have HV : Hid _ := NO.out (by rw [HP2.out]; rfl)
       go_wp2_with fail
       refine (inone_any _ _ _ _ _ _ _ _).mono ?_
       rintro e w3 ⟨rfl, b3⟩
       go_wp2
       go_ret
       exact ⟨ret_bool (by rw [HV.out]), B2.trans (b3.mono B2.size)⟩
      ·have HY : Hid _ := YES.out (by rw [HP2.out]; rfl)
       go_wp2
       go_roundw
       case rel => exact ⟨k + 1, by omega, by go_num, b02, HY.out⟩
       case measure => simp [intOf]; omega
   ·obtain rfl : k = en := by omega
    go_wp2
    go_ret
    exact ⟨ret_bool (by rw [gotsB, HA.out, HC.out]; simp), hb⟩
 ·have hc' : ((en : Int) != (gn : Int)) = true := by simp; omega
  go_enter Tryz.func45, Tryz.ntmps45
  go_wp2
  go_ret
  exact ⟨ret_bool (by rw [gotsB]; simp [hc]), B0⟩

end Go.Proofs.YtdigmokjedckeaaGreatDoor
