/-
  For all bytes FnLocNothing returns true, and what came in reads behind the call as it did. No condition. (who may go nowhere can turn nothing)
-/
import Derived.Test.YtemcinobgdphnaaGreatQRa
namespace Go.Proofs.YtemcinobgdphnaaGreat.fnLocNothing
set_option maxHeartbeats 25600000
open Go.ChangeShapes Go.WideShapes Go.ChangeAt Go.RowKit
set_option linter.unusedVariables false
set_option maxRecDepth 100000
theorem open_bytesT {H : Type} {enc : TypeId × Value → H} {W : World} {r : Reach} {b0 : Nat} {v : Value} {d : DataW H} {p : List MemPlace}
  (hv : Value.okWide Tryz.prog W r b0 22 v) (h : DataW.Trod enc Tryz.prog W 0 (fun _ => true) true 22 v d p) : ∃ a n cap zs, v = .slice a n cap ∧ BInts W a n zs ∧ (n ≤ cap ∧ cap ≤ maxLen) := by
 obtain ⟨a0, len0, cap0, rfl⟩ := okWide_slice Tryz.underlying22 hv;obtain ⟨fuel, hf⟩ := h
 rcases open_ints Tryz.underlying22 Tryz.underlying5 (by kernel_rfl) hf with ⟨hcs, _⟩ | ⟨x, l, c, zs, hcs, _, hl, hm, hz, _, hcell, hwz⟩
 ·simp [Value.cells] at hcs;obtain ⟨rfl, rfl, rfl⟩ := hcs
  exact ⟨none, 0, 0, [], rfl, ⟨rfl, fun i hi => by omega, fun i => by simp⟩, by omega, by unfold maxLen; omega⟩
 simp [Value.cells] at hcs;obtain ⟨rfl, rfl, rfl⟩ := hcs;have hz' : zs.length = cap0 := by simpa using hz
 refine ⟨some x, len0, cap0, zs.take len0, rfl, ⟨by rw [List.length_take]; omega, fun i hi => ?_, fun i => ?_⟩, hl, hm⟩
 ·obtain ⟨b, off, spot⟩ := x;have hc0 := hcell 0 (by omega);have hspot : spot = none := by simpa [Addr.add] using World.cell?_spot hc0
  subst hspot;refine ⟨b, off, rfl, ?_⟩;have hc := hcell i (by omega)
  have : W.cell? ⟨b, off + i, none⟩ = some (.int .u8 (zs.getD i 0)) := by
   by_cases h0 : i = 0
   ·subst h0; simpa [Addr.add] using hc
   simpa [Addr.add, h0] using hc
  rw [this];simp [hi]
 by_cases hi : i < (zs.take len0).length
 ·rw [List.getElem?_eq_getElem hi];have := hwz _ (List.mem_of_mem_take (List.getElem_mem hi));simpa [Lit.wf, IntKind.min, IntKind.max, IntKind.signed, IntKind.bits] using this
 rw [List.getElem?_eq_none (by omega)];simp
def Zer (G : List Int) (k : Nat) : Prop := ∀ i : Nat, i < k → G[i]?.getD 0 = 0
theorem zer_set {G : List Int} {k : Nat} (h : Zer G k) (hk : k < G.length) : Zer (G.set k 0) (k + 1) := fun i hi => by
 by_cases e : i = k
 ·subst e; rw [List.getElem?_set_self hk]; rfl
 rw [List.getElem?_set_ne (fun x => e x.symm)]; exact h i (by omega)
theorem zer_at {G : List Int} (h : Zer G G.length) {i : Nat} : G[i]?.getD 0 = 0 := by
 by_cases hi : i < G.length
 ·exact h i hi
 rw [List.getElem?_eq_none (by omega)]; rfl
theorem walk (w : World) (a : Option Addr) (n cap : Nat) (A0 : List Int) (hA0 : BInts w a n A0) (hn : n ≤ cap ∧ cap ≤ maxLen) :
  Calls Tryz.prog 5 #[.slice a n cap] w fun e w' => e = .returned (.bool true) ∧ Below w.heap.size w w' := by
 obtain ⟨hn2, hn3⟩ := hn
 by_cases hn1 : n ≤ 1048576
 ·go_enter Tryz.func5, Tryz.ntmps5
  go_wp2_with fail
  refine (dLoc A0 hA0 hn2 hn1 hn3).mono ?_;rintro ee w1 ⟨ad, N, c, ss, ba, bn, bc, ga, gn, gc, B, G, s, ea, en, ec, E, kk, ua, un, uc, U, rfl, b1, hN, hN5, hB, hbn, hgn, _, _, _, hU, hun, hs0, hs3, hk0, hk5, gb, LL, hO, hoff, hlate⟩;have BB := b1;clear b1;have HN : Hid (ss.length = N) := hN;clear hN;have HOF : Hid _ := hoff;have HLT : Hid _ := hlate;clear hoff hlate;have hc0 : Below w1.heap.size w1 w1 := Below.refl _ _;have zB1 := BB.size;have HGB : Hid (0 < gn → gb < w1.heap.size) := fun h0 => hO.lt h0;have al := (Below.refl (w1).heap.size (w1)).alloc (Nat.le_refl _) (.cells #[.slice ba bn bc, .slice ga gn gc] 26);replace BB := btr BB al;replace hc0 := btr hc0 al;replace hB := hB.below al;replace hU := hU.below al;replace hO := hO.below al;clear al;have q4 := Cel.new (w1) [.slice ba bn bc, .slice ga gn gc] 26;obtain ⟨g4_0, g4_1⟩ := q4.c2
  go_upto_region 4 with fail
  generalize (w1).alloc (.cells #[.slice ba bn bc, .slice ga gn gc] 26) = W2 at hB hU hO q4 BB hc0 g4_0 g4_1 ⊢;obtain ⟨X4, hX4⟩ : ∃ x, x = w1.heap.size := ⟨_, rfl⟩
  rw [← hX4];rw [← hX4] at q4 g4_0 g4_1;have loX4 : w1.heap.size ≤ X4 := by omega
  have upX4 : X4 ≤ w1.heap.size := by omega
  clear hX4;clear g4_0 g4_1;have HC0 : Hid _ := hc0;clear hc0
  go_wp2_with fail
  go_loopw [9] (fun i wr => ∃ (k : Nat) (D : List Int), k ≤ gn ∧ i = .int .i64 k ∧ OwnX wr ga gb gn D ∧ Zer D k ∧ Ints wr ba bn B ∧ Ints wr ua un U ∧ Cel wr X4 [.slice ba bn bc, .slice ga gn gc] 26 ∧ Below w.heap.size w wr ∧ Touch (fun z => z = gb ∧ 0 < gn) W2 wr) (fun i _ => gn - (intOf i).toNat)
  case atStart => exact ⟨0, G, Nat.zero_le _, rfl, hO, fun i hi => by omega, hB, hU, q4, BB, Touch.refl _ _⟩
  case round =>
   clear hB hU hO q4 BB;obtain ⟨k, D, hk, rfl, hO, hz, hB, hU, q4, BB, TG⟩ := hrel
   by_cases hlt : k < gn
   ·have hlt' : (k : Int) < (gn : Int) := by omega
    have h0 : 0 < gn := by omega
    obtain ⟨rfl, hc, hf⟩ := hO.pos h0;have d0 := hc k hlt;have d1 := hf k;have HD : Hid (D.length = gn) := hO.1;have OF := HOF.out h0;have GB := HGB.out h0;have TX : Touch (fun z => z = gb ∧ 0 < gn) wr (wr.setCell ⟨gb, k, none⟩ (.int .i64 0)) := Touch.setCell (S := (fun z => z = gb ∧ 0 < gn)) (Touch.refl _ _) ⟨rfl, h0⟩ _;have hO2 := hO.set hlt 0;have hB2 := hB.off TX (fun b o e h => OF.2.2.1 b o e h.1);have hU2 := hU.off TX (fun b o e h => OF.2.2.2.2 b o e h.1);have q42 := q4.touch TX (fun h => by have := h.1; omega);have BB2 := BB.setCell (p := ⟨gb, k, none⟩) (by simp only []; omega) (.int .i64 0);have TG2 := TG.trans TX;obtain ⟨g4_0, g4_1⟩ := q4.c2
    go_wp2
    go_roundw
    case rel => exact ⟨k + 1, _, by omega, by go_num, hO2, zer_set hz (by rw [HD.out]; exact hlt), hB2, hU2, q42, BB2, TG2⟩
    case measure => simp [intOf]; omega
   have hlt' : ¬ (k : Int) < (gn : Int) := by omega
   obtain rfl : k = gn := by omega
   have hA := HLT.out (fun z => z = gb ∧ 0 < k) wr ((Touch.of HC0.out).trans TG) (fun z hz => by have := (HOF.out hz.2).2.1; have := hz.1; omega);have hG := hO.ints
   have HZ : Hid (D[s.toNat]?.getD 0 = 0) := by
    have hz2 : Zer D D.length := by rw [hO.1]; exact hz
    exact zer_at hz2
   obtain ⟨wq, hwq⟩ : ∃ x, x = wr := ⟨_, rfl⟩
   subst hwq;clear TG hO hz HOF HGB HC0 HLT;obtain ⟨g4_0, g4_1⟩ := q4.c2
   go_upto_region 9 with fail
   clear g4_0 g4_1;have lz := lit000 wq;have az := (Below.refl wq.heap.size wq).alloc (Nat.le_refl _) (.cells #[.int .i64 0, .int .i64 0, .int .i64 0] 3);replace BB := btr BB az;replace hA := hA.below az;replace hB := hB.below az;replace hG := hG.below az;replace hU := hU.below az;replace q4 := q4.below az;clear az;generalize wq.alloc (.cells #[.int .i64 0, .int .i64 0, .int .i64 0] 3) = wz at lz hA hB hG hU q4 BB ⊢;generalize wq.heap.size = ZB at lz ⊢;obtain ⟨x, hx⟩ : ∃ x, locL bn k B D N ss s 3 [0, 0, 0] kk un U = x := ⟨_, rfl⟩
   have HX : Hid (locL bn k B D N ss s 3 [0, 0, 0] kk un U = x) := hx;clear hx;obtain ⟨x1, x2, x3, x4⟩ := x;obtain ⟨g4_0, g4_1⟩ := q4.c2
   go_wp2_with fail
   refine (iloc_any ad N c ba bn bc ga k gc s (some ⟨ZB, 0, none⟩) 3 3 kk ua un uc ss B D [0, 0, 0] U hA hB hG lz hU HN.out).mono ?_;rintro ee w3 hL;rw [HX.out] at hL;obtain ⟨pa, pn, pcap, pB, pc, pk, pcap2, pB2, rfl, pl1, pl2, pb, po1, po2, -, -, -⟩ := hL;have pi1 := po1.ints;have pi2 := po2.ints;clear po1 po2;dsimp only at pl1 pl2 pi1 pi2;clear g4_0 g4_1;replace BB := btr BB pb;replace hA := hA.below pb;replace hB := hB.below pb;replace hG := hG.below pb;replace hU := hU.below pb;replace lz := lz.below pb;replace q4 := q4.below pb;clear pb;have al := (Below.refl (w3).heap.size (w3)).alloc (Nat.le_refl _) (.cells #[.int .i64 x1, .slice pa pn pcap] 30);replace BB := btr BB al;replace hA := hA.below al;replace hB := hB.below al;replace hG := hG.below al;replace hU := hU.below al;replace lz := lz.below al;replace pi1 := pi1.below al;replace pi2 := pi2.below al;replace q4 := q4.below al;clear al;have q11 := Cel.new (w3) [.int .i64 x1, .slice pa pn pcap] 30;obtain ⟨g4_0, g4_1⟩ := q4.c2;obtain ⟨g11_0, g11_1⟩ := q11.c2
   go_wp2_with fail
   generalize (w3).alloc (.cells #[.int .i64 x1, .slice pa pn pcap] 30) = W4 at hA hB hG hU lz pi1 pi2 q4 q11 BB g4_0 g4_1 g11_0 g11_1 ⊢;obtain ⟨X11, hX11⟩ : ∃ x, x = w3.heap.size := ⟨_, rfl⟩
   rw [← hX11];rw [← hX11] at q11 g11_0 g11_1;have loX11 : w3.heap.size ≤ X11 := by omega
   have upX11 : X11 ≤ w3.heap.size := by omega
   clear hX11;refine (sloc_any ad N c ba bn bc ga k gc s (some ⟨ZB, 0, none⟩) 3 3 kk ua un uc ss B D [0, 0, 0] U hA hB hG lz hU HN.out).mono ?_;rintro ee w5 hL;rw [HX.out] at hL;obtain ⟨qa, qn, qcap, qB, qc, qk, qcap2, qB2, rfl, ql1, ql2, qb, qo1, qo2, -, -, -⟩ := hL;have qi1 := qo1.ints;have qi2 := qo2.ints;clear qo1 qo2;dsimp only at ql1 ql2 qi1 qi2;clear g4_0 g4_1 g11_0 g11_1;replace BB := btr BB qb;replace hA := hA.below qb;replace hB := hB.below qb;replace hG := hG.below qb;replace hU := hU.below qb;replace lz := lz.below qb;replace pi1 := pi1.below qb;replace pi2 := pi2.below qb;replace q4 := q4.below qb;replace q11 := q11.below qb;clear qb;have al := (Below.refl (w5).heap.size (w5)).alloc (Nat.le_refl _) (.cells #[.int .i64 x1, .slice qa qn qcap] 30);replace BB := btr BB al;replace hA := hA.below al;replace hB := hB.below al;replace hG := hG.below al;replace hU := hU.below al;replace lz := lz.below al;replace pi1 := pi1.below al;replace pi2 := pi2.below al;replace qi1 := qi1.below al;replace qi2 := qi2.below al;replace q4 := q4.below al;replace q11 := q11.below al;clear al;have q14 := Cel.new (w5) [.int .i64 x1, .slice qa qn qcap] 30;have HAC : Hid (ActsOk N ss) := LSG.acts hA HN.out;have hLN := loc_len (k := 3) (E := [0, 0, 0]) rfl (by decide) HAC.out HX.out;obtain ⟨hLN1, hLN2⟩ := hLN;have hne : (x4 != x4) = false := by cases x4 <;> rfl
   obtain ⟨g4_0, g4_1⟩ := q4.c2;obtain ⟨g11_0, g11_1⟩ := q11.c2;obtain ⟨g14_0, g14_1⟩ := q14.c2
   go_wp2_with fail
   generalize (w5).alloc (.cells #[.int .i64 x1, .slice qa qn qcap] 30) = W6 at hA hB hG hU lz pi1 pi2 qi1 qi2 q4 q11 q14 BB g4_0 g4_1 g11_0 g11_1 g14_0 g14_1 ⊢;obtain ⟨X14, hX14⟩ : ∃ x, x = w5.heap.size := ⟨_, rfl⟩
   rw [← hX14];rw [← hX14] at q14 g14_0 g14_1;have loX14 : w5.heap.size ≤ X14 := by omega
   have upX14 : X14 ≤ w5.heap.size := by omega
   clear hX14;refine (coR_any x1 x1 x2 x2 pi1 qi1).mono ?_;rintro ee w7 ⟨rfl, b4⟩;rw [coRB_same];clear g4_0 g4_1 g11_0 g11_1 g14_0 g14_1;replace BB := btr BB b4;replace hA := hA.below b4;replace hB := hB.below b4;replace hG := hG.below b4;replace hU := hU.below b4;replace lz := lz.below b4;replace pi1 := pi1.below b4;replace pi2 := pi2.below b4;replace qi1 := qi1.below b4;replace qi2 := qi2.below b4;replace q4 := q4.below b4;replace q11 := q11.below b4;replace q14 := q14.below b4;clear b4;obtain ⟨g4_0, g4_1⟩ := q4.c2;obtain ⟨g11_0, g11_1⟩ := q11.c2;obtain ⟨g14_0, g14_1⟩ := q14.c2
   go_wp2_with fail
   refine (coI_any x3 x3 pi2 qi2 (by omega) (by omega)).mono ?_;rintro ee w8 ⟨rfl, b5⟩;rw [eqB_refl];clear g4_0 g4_1 g11_0 g11_1 g14_0 g14_1;replace BB := btr BB b5;replace hA := hA.below b5;replace hB := hB.below b5;replace hG := hG.below b5;replace hU := hU.below b5;replace lz := lz.below b5;replace pi1 := pi1.below b5;replace pi2 := pi2.below b5;replace qi1 := qi1.below b5;replace qi2 := qi2.below b5;replace q4 := q4.below b5;replace q11 := q11.below b5;replace q14 := q14.below b5;clear b5
   cases x4
   ·have hne : (false != false) = false := rfl;clear HX HZ HAC;obtain ⟨g4_0, g4_1⟩ := q4.c2;obtain ⟨g11_0, g11_1⟩ := q11.c2;obtain ⟨g14_0, g14_1⟩ := q14.c2
    go_wp2_with fail
    refine (coHolds_any).mono ?_;rintro ee w9 ⟨rfl, bh⟩;clear g4_0 g4_1 g11_0 g11_1 g14_0 g14_1;replace BB := btr BB bh;replace hA := hA.below bh;replace hB := hB.below bh;replace hG := hG.below bh;replace hU := hU.below bh;replace lz := lz.below bh;replace pi1 := pi1.below bh;replace pi2 := pi2.below bh;replace qi1 := qi1.below bh;replace qi2 := qi2.below bh;replace q4 := q4.below bh;replace q11 := q11.below bh;replace q14 := q14.below bh;clear bh
    go_wp2
    go_ret
    exact ⟨rfl, BB⟩
   have hZZ := loc_nothing HZ.out HX.out;obtain ⟨e3, e2⟩ := hZZ;have HE3 : Hid (x3 = [0, 0, 0]) := e3;have HE2 : Hid (x2 = [] ∨ x1 = 1) := e2;clear e3 e2 HX HZ HAC;have hne : (true != true) = false := rfl;obtain ⟨g4_0, g4_1⟩ := q4.c2;obtain ⟨g11_0, g11_1⟩ := q11.c2;obtain ⟨g14_0, g14_1⟩ := q14.c2
   go_wp2_with fail
   refine (coI_any x3 [0, 0, 0] pi2 lz (by omega) (by omega)).mono ?_;rintro ee w9 ⟨rfl, b6⟩;rw [HE3.out, eqB_refl];clear g4_0 g4_1 g11_0 g11_1 g14_0 g14_1;replace BB := btr BB b6;replace hA := hA.below b6;replace hB := hB.below b6;replace hG := hG.below b6;replace hU := hU.below b6;replace lz := lz.below b6;replace pi1 := pi1.below b6;replace pi2 := pi2.below b6;replace qi1 := qi1.below b6;replace qi2 := qi2.below b6;replace q4 := q4.below b6;replace q11 := q11.below b6;replace q14 := q14.below b6;clear b6
   by_cases hz : pn = 0
   ·have hz1 : ((pn : Int) == 0) = true := by simpa using hz
    obtain ⟨g4_0, g4_1⟩ := q4.c2;obtain ⟨g11_0, g11_1⟩ := q11.c2;obtain ⟨g14_0, g14_1⟩ := q14.c2
    go_wp2_with fail
    refine (coHolds_any).mono ?_;rintro ee w10 ⟨rfl, bh⟩;clear g4_0 g4_1 g11_0 g11_1 g14_0 g14_1;replace BB := btr BB bh;replace hA := hA.below bh;replace hB := hB.below bh;replace hG := hG.below bh;replace hU := hU.below bh;replace lz := lz.below bh;replace pi1 := pi1.below bh;replace pi2 := pi2.below bh;replace qi1 := qi1.below bh;replace qi2 := qi2.below bh;replace q4 := q4.below bh;replace q11 := q11.below bh;replace q14 := q14.below bh;clear bh
    go_wp2
    go_ret
    exact ⟨rfl, BB⟩
   have hz1 : ((pn : Int) == 0) = false := by simp; omega
   obtain rfl : x1 = 1 := by
    rcases HE2.out with h | h
    ·rw [h] at pl1; simp at pl1; omega
    exact h
   obtain ⟨g4_0, g4_1⟩ := q4.c2;obtain ⟨g11_0, g11_1⟩ := q11.c2;obtain ⟨g14_0, g14_1⟩ := q14.c2
   go_wp2_with fail
   refine (coHolds_any).mono ?_;rintro ee w10 ⟨rfl, bh⟩;clear g4_0 g4_1 g11_0 g11_1 g14_0 g14_1;replace BB := btr BB bh;replace hA := hA.below bh;replace hB := hB.below bh;replace hG := hG.below bh;replace hU := hU.below bh;replace lz := lz.below bh;replace pi1 := pi1.below bh;replace pi2 := pi2.below bh;replace qi1 := qi1.below bh;replace qi2 := qi2.below bh;replace q4 := q4.below bh;replace q11 := q11.below bh;replace q14 := q14.below bh;clear bh
   go_wp2
   go_ret
   exact ⟨rfl, BB⟩
 go_enter Tryz.func5, Tryz.ntmps5
 go_wp2
 go_ret
 exact ⟨rfl, Below.refl _ _⟩
/-! ### The row's step -/
theorem lifted (os : Os) (started : os.Started) (H : Type) (enc : TypeId × Value → H) :
  ReturnsInHanded {} Tryz.checked os 5 .any (Rows.fnLocNothingSpec.pre6 enc Tryz.prog Tryz.f5 Rows.fnLocNothingRow.domain false) (Rows.fnLocNothingSpec.post enc Tryz.prog Tryz.f5 false true false false) := by
 refine returnsInHanded_of_change (C := Tryz.checked) own started (by kernel_rfl) Tryz.func5
  (ChangeSpec.witness6 (enc := enc) (C := Tryz.checked) false ⟨#[], #[.slice none 0 0], []⟩ 8 (by kernel_rfl) (by kernel_rfl) (by kernel_rfl) (by kernel_rfl)) ?_
 intro W base args ds gs before hval0 hW hcnd _;have hval : ∀ (j : Nat) t v, Tryz.f5.params[j]? = some t → args[j]? = some v → Value.okWide Tryz.prog W .any base t v := hval0;have hW' := hW;obtain ⟨p, q, hA0, hV, rfl, hfz, hnd⟩ := hW;have hA : DataW.TrodAll enc Tryz.prog W 0 (fun _ => true) true Tryz.f5.params.toList args.toList ds p := hA0;rw [Tryz.params5] at hA hval;obtain ⟨v0, vs0, d0, ds0, p0, q0, hargs, rfl, rfl, h0, r0⟩ := trodAll_cons hA;obtain ⟨rfl, rfl, rfl⟩ := trodAll_nil r0;obtain rfl : args = #[v0] := by cases args; simp_all
 obtain ⟨rfl, rfl⟩ := trodVars_none hV;have k0 := h0;have lt0 : ∀ x ∈ p0, x.block < W.heap.size := by obtain ⟨m, hm⟩ := k0; exact DataW.trod_lt m _ _ _ hm
 obtain ⟨a0, n0, cap0, C0, rfl, hC0, hn0⟩ := open_bytesT (hval 0 22 v0 rfl rfl) h0;clear hA0 hval0;refine (walk W a0 n0 cap0 C0 hC0 hn0).mono fun e W' ⟨he, bel⟩ => ?_;subst he
 exact ⟨_, rfl, _, _, _, [], _, [], hW', trodAll_mk1 (shut_bool Tryz.underlying4 _), (trodAll_cons_mk (Below.trod laidOut (by kernel_rfl) (of_decide_eq_true (by kernel_rfl)) k0 bel lt0) trodAll_mk0), rfl, bel.frame _, fun h => by cases h⟩
theorem over : Rows.fnLocNothingRow.holds Tryz.pinned (OpenSpec.ofChange Rows.fnLocNothingSpec) :=
 OpenClaim.holds_of_wide 5 Tryz.f5 rfl rfl rfl rfl rfl rfl rfl ⟨rfl, rfl, rfl, rfl, rfl⟩ rfl rfl rfl rfl rfl (by kernel_rfl) Tryz.func5 (by kernel_rfl)
  (of_decide_eq_true (by kernel_rfl)) (by unfold Func.isWrapper; first | (rw [if_pos (by decide +kernel)]; kernel_rfl) | (rw [if_neg (by decide +kernel)]; exact ⟨rfl, rfl⟩))
  (fun os started H enc _ => lifted os started H enc)
end Go.Proofs.YtemcinobgdphnaaGreat.fnLocNothing
namespace Go.Proofs.YtemcinobgdphnaaGreat
theorem fnLocNothing_holds : Rows.FnLocNothingSaid := fnLocNothing.over
#print axioms fnLocNothing_holds
end Go.Proofs.YtemcinobgdphnaaGreat
