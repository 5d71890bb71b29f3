/-
  For all bytes FnLocAlone returns true, and what came in reads behind the call as it did. No condition. (whoever is alone can do all but what is pinned)
-/
import Derived.Test.YtemcinobgdphnaaGreatQLc
namespace Go.Proofs.YtemcinobgdphnaaGreat.fnLocAlone
set_option maxHeartbeats 25600000
open Go.ChangeShapes Go.WideShapes Go.ChangeAt Go.RowKit
set_option linter.unusedVariables false
set_option maxRecDepth 100000
theorem open_bytesT {H : Type} {enc : TypeId × Value → H} {W : World} {r : Reach} {b0 : Nat} {v : Value} {d : DataW H} {p : List MemPlace}
  (hv : Value.okWide Tryz.prog W r b0 22 v) (h : DataW.Trod enc Tryz.prog W 0 (fun _ => true) true 22 v d p) : ∃ a n cap zs, v = .slice a n cap ∧ BInts W a n zs ∧ (n ≤ cap ∧ cap ≤ maxLen) := by
 obtain ⟨a0, len0, cap0, rfl⟩ := okWide_slice Tryz.underlying22 hv;obtain ⟨fuel, hf⟩ := h
 rcases open_ints Tryz.underlying22 Tryz.underlying5 (by kernel_rfl) hf with ⟨hcs, _⟩ | ⟨x, l, c, zs, hcs, _, hl, hm, hz, _, hcell, hwz⟩
 ·simp [Value.cells] at hcs;obtain ⟨rfl, rfl, rfl⟩ := hcs
  exact ⟨none, 0, 0, [], rfl, ⟨rfl, fun i hi => by omega, fun i => by simp⟩, by omega, by unfold maxLen; omega⟩
 simp [Value.cells] at hcs;obtain ⟨rfl, rfl, rfl⟩ := hcs;have hz' : zs.length = cap0 := by simpa using hz
 refine ⟨some x, len0, cap0, zs.take len0, rfl, ⟨by rw [List.length_take]; omega, fun i hi => ?_, fun i => ?_⟩, hl, hm⟩
 ·obtain ⟨b, off, spot⟩ := x;have hc0 := hcell 0 (by omega);have hspot : spot = none := by simpa [Addr.add] using World.cell?_spot hc0
  subst hspot;refine ⟨b, off, rfl, ?_⟩;have hc := hcell i (by omega)
  have : W.cell? ⟨b, off + i, none⟩ = some (.int .u8 (zs.getD i 0)) := by
   by_cases h0 : i = 0
   ·subst h0; simpa [Addr.add] using hc
   simpa [Addr.add, h0] using hc
  rw [this];simp [hi]
 by_cases hi : i < (zs.take len0).length
 ·rw [List.getElem?_eq_getElem hi];have := hwz _ (List.mem_of_mem_take (List.getElem_mem hi));simpa [Lit.wf, IntKind.min, IntKind.max, IntKind.signed, IntKind.bits] using this
 rw [List.getElem?_eq_none (by omega)];simp
theorem ints_take {W : World} {a : Option Addr} {n k : Nat} {zs : List Int} (h : Ints W a n zs) (hk : k ≤ n) : Ints W a k (zs.take k) := by
 refine ⟨by rw [List.length_take, h.1]; omega, fun i hi => ?_⟩;obtain ⟨b, o, e, c⟩ := h.2 i (by omega);refine ⟨b, o, e, ?_⟩;rw [c, List.getD_eq_getElem?_getD, List.getD_eq_getElem?_getD, List.getElem?_take_of_lt hi]
theorem trtB_one {n m : Nat} {C D : List Int} (h : trtB n m C D = true) (hm : m ≤ 1) (hl : D.length = m) : n = 3 ∧ m = 1 ∧ bnd 10000 C ∧ ∃ g, D = [g] := by
 unfold trtB at h;simp only [Bool.and_eq_true] at h;have a := okN_elim (by omega) h.1;have b := inB_iff.1 h.2.1;obtain rfl : m = 1 := by omega
 match D, hl with
 | [g], _ => exact ⟨by omega, rfl, a.2, g, rfl⟩
def frB (f : Nat → Bool) (AD : List Int) (k : Nat) : Bool := (List.range k).all fun v => !f v || AD[v]?.getD 0 == 0
theorem frB_succ (f : Nat → Bool) (AD : List Int) (k : Nat) : frB f AD (k + 1) = (frB f AD k && (!f k || AD[k]?.getD 0 == 0)) := by
 unfold frB;rw [List.range_succ, List.all_append];simp
theorem frB_pin (f : Nat → Bool) (AD : List Int) : (!pinned f AD) = frB f AD 3 := by
 show (!((f 0 && !(AD[0]?.getD 0 == 0)) || ((f 1 && !(AD[1]?.getD 0 == 0)) || ((f 2 && !(AD[2]?.getD 0 == 0)) || false)))) = ((!f 0 || AD[0]?.getD 0 == 0) && ((!f 1 || AD[1]?.getD 0 == 0) && ((!f 2 || AD[2]?.getD 0 == 0) && true)))
 generalize (AD[0]?.getD 0 == 0) = a;generalize (AD[1]?.getD 0 == 0) = b;generalize (AD[2]?.getD 0 == 0) = c
 cases f 0 <;> cases f 1 <;> cases f 2 <;> cases a <;> cases b <;> cases c <;> rfl
theorem sub_take {xs ys : List Int} {k : Nat} (hx : k < xs.length) (hy : k < ys.length) : (List.zipWith (· - ·) xs ys).take (k + 1) = (List.zipWith (· - ·) xs ys).take k ++ [xs[k]?.getD 0 - ys[k]?.getD 0] := by
 have hl : k < (List.zipWith (· - ·) xs ys).length := by rw [List.length_zipWith]; omega
 rw [List.take_succ_eq_append_getElem hl, List.getElem_zipWith, List.getElem?_eq_getElem hx, List.getElem?_eq_getElem hy]
 rfl
theorem take_last {xs : List Int} {k : Nat} (h : k < xs.length) : (xs.take (k + 1))[k]?.getD 0 = xs[k]?.getD 0 := by rw [List.getElem?_take_of_lt (by omega)]
theorem trt_of {n m : Nat} {C D : List Int} {N : Nat} {ss : List L2V} {s : Int} {k : Nat} {E : List Int} {kk : Int} {l : Nat} {U : List Int} {x1 : Int} {x2 x3 : List Int} (h : locL n m C D N ss s k E kk l U = (x1, x2, x3, true)) : catB N ss = true ∧ trtB n m C D = true ∧ okN 2 9 l U = true ∧ kk < N := by
 obtain ⟨hcat, hkk, hU, hv, _⟩ := loc_out h;have h3 := inB_iff.1 hkk;unfold viewB at hv;simp only [Bool.and_eq_true] at hv
 exact ⟨hcat, hv.1, hU, by omega⟩
theorem run_bnd {N : Nat} {ls : List LV} {V : List Int} {U : List Int} (hN : ls.length = N) (h : runB N ls 3 V 2 U = true) (hV : V.length = 3) (hU : U.length = 2) : bnd 10000 (runPots N ls 3 V 2 U) ∧ (runPots N ls 3 V 2 U).length = 3 := ⟨(okN_elim (by omega) (run_left hN h hV hU).hp).2, pots_threeE h hV⟩
theorem walk (w : World) (a : Option Addr) (n cap : Nat) (A0 : List Int) (hA0 : BInts w a n A0) (hn : n ≤ cap ∧ cap ≤ maxLen) :
  Calls Tryz.prog 4 #[.slice a n cap] w fun e w' => e = .returned (.bool true) ∧ Below w.heap.size w w' := by
 obtain ⟨hn2, hn3⟩ := hn
 by_cases hn1 : n ≤ 1048576
 ·go_enter Tryz.func4, Tryz.ntmps4
  go_wp2_with fail
  refine (dLocC A0 hA0 hn2 hn1 hn3).mono ?_;rintro ee w1 ⟨ad, N, c, ss, ba, bn, bc, ga, gn, gc, B, G, s, ea, en, ec, E, kk, ua, un, uc, U, rfl, b1, hN, hN5, hB, hbn, hgn, _, hE, hen, hU, hun, hs0, hs3, hk0, hk5, ⟨gb, LL, hO, hoff, hlate⟩, hgc⟩;have BB := b1;clear b1;have HN : Hid (ss.length = N) := hN;clear hN hE hs0 hs3 hen;have hG := hO.ints;have hA := hlate (fun _ => False) w1 (Touch.refl _ _) (fun k h => h.elim);clear hoff hlate;have HB1 : Hid (Ints w1 ba bn B) := hB;have HU1 : Hid (Ints w1 ua un U) := hU;have HA1 : Hid (LSG w1 ad ss) := hA;have HG1 : Hid (Ints w1 ga gn G) := hG;have HBB1 : Hid (Below w.heap.size w w1) := BB;have HO1 : Hid (0 < gn → ga = some ⟨gb, 0, none⟩) := fun h0 => (hO.pos h0).1;have hc0 : Below w1.heap.size w1 w1 := Below.refl _ _;clear hO;have al := (Below.refl (w1).heap.size (w1)).alloc (Nat.le_refl _) (.cells #[.slice ba bn bc, .slice ga gn gc] 26);replace BB := btr BB al;replace hc0 := btr hc0 al;replace hB := hB.below al;replace hU := hU.below al;replace hG := hG.below al;replace hA := hA.below al;clear al;have q4 := Cel.new (w1) [.slice ba bn bc, .slice ga gn gc] 26;obtain ⟨g4_0, g4_1⟩ := q4.c2
  go_upto_region 4 with fail
  generalize (w1).alloc (.cells #[.slice ba bn bc, .slice ga gn gc] 26) = W2 at hB hU hG hA q4 BB hc0 g4_0 g4_1 ⊢;obtain ⟨X4, hX4⟩ : ∃ x, x = w1.heap.size := ⟨_, rfl⟩
  rw [← hX4];rw [← hX4] at q4 g4_0 g4_1;have loX4 : w1.heap.size ≤ X4 := by omega
  have upX4 : X4 ≤ w1.heap.size := by omega
  clear hX4;clear g4_0 g4_1;generalize W2 = wb at hB hU hG hA q4 BB hc0 ⊢;obtain ⟨g4_0, g4_1⟩ := q4.c2
  go_upto_if 37 with fail
  clear g4_0 g4_1
  go_cut [] (fun wx => ∃ (m1 : Nat) (D : List Int), m1 ≤ 1 ∧ D.length = m1 ∧ Ints wx ga m1 D ∧ Cel wx X4 [.slice ba bn bc, .slice ga m1 gc] 26 ∧ Ints wx ba bn B ∧ Ints wx ua un U ∧ LSG wx ad ss ∧ Below w.heap.size w wx)
  case first =>
   by_cases hg0 : 0 < gn
   ·have hg0' : (0 : Int) < (gn : Int) := by omega
    have hga := HO1.out hg0;have HG2 : Hid (Ints w1 ga 1 (G.take 1) ∧ (G.take 1).length = 1) := ⟨ints_take HG1.out (by omega), by rw [List.length_take, HG1.out.1]; omega⟩
    subst hga;have f4_1 := q4.free 1;have l4 := q4.lt;have hgc1 : 1 ≤ gc := by omega
    have hgc2 : (1 : Int) ≤ (gc : Int) := by omega
    clear hB hU hG hA BB;obtain ⟨g4_0, g4_1⟩ := q4.c2;have hc2 := hc0.setCell (p := ⟨X4, 1, none⟩) (by simp only []; omega) (.slice (some ⟨gb, 0, none⟩) 1 gc);have q42 := q4.set 1 (.slice (some ⟨gb, 0, none⟩) 1 gc);simp only [List.set_cons_succ, List.set_cons_zero] at q42;clear q4 hc0
    go_wp2
    go_meet
    case rel => exact ⟨1, G.take 1, Nat.le_refl _, HG2.out.2, HG2.out.1.below hc2, q42, HB1.out.below hc2, HU1.out.below hc2, HA1.out.below hc2, btr HBB1.out hc2⟩
   obtain rfl : gn = 0 := by omega
   have hg0' : ¬ (0 : Int) < (0 : Int) := by omega
   obtain ⟨g4_0, g4_1⟩ := q4.c2
   go_wp2
   go_meet
   case rel => exact ⟨0, [], by omega, rfl, ⟨rfl, fun i hi => by omega⟩, q4, hB, hU, hA, BB⟩
  case rest =>
   clear hB hU hG hA q4 BB hc0 HB1 HU1 HA1 HG1 HBB1 HO1;obtain ⟨m1, D, hm1, hDl, hG, q4, hB, hU, hA, BB⟩ := hcut;have HDL : Hid (D.length = m1) := hDl;clear hDl
   go_upto_region 7 with fail
   have lz := lit000 wc;have az := (Below.refl wc.heap.size wc).alloc (Nat.le_refl _) (.cells #[.int .i64 0, .int .i64 0, .int .i64 0] 3);replace BB := btr BB az;replace hB := hB.below az;replace hU := hU.below az;replace hG := hG.below az;replace hA := hA.below az;replace q4 := q4.below az;clear az;generalize wc.alloc (.cells #[.int .i64 0, .int .i64 0, .int .i64 0] 3) = wz at lz hB hU hG hA q4 BB ⊢;generalize wc.heap.size = ZB at lz ⊢;obtain ⟨x, hx⟩ : ∃ x, locL bn m1 B D N ss 0 3 [0, 0, 0] kk un U = x := ⟨_, rfl⟩
   have HX : Hid (locL bn m1 B D N ss 0 3 [0, 0, 0] kk un U = x) := hx;clear hx;obtain ⟨x1, x2, x3, x4⟩ := x;obtain ⟨g4_0, g4_1⟩ := q4.c2
   go_wp2_with fail
   refine (iloc_any ad N c ba bn bc ga m1 gc 0 (some ⟨ZB, 0, none⟩) 3 3 kk ua un uc ss B D [0, 0, 0] U hA hB hG lz hU HN.out (by omega) (by omega) (by omega) (by omega) (by omega)).mono ?_;rintro ee w3 hL;rw [HX.out] at hL;obtain ⟨pa, pn, pcap, pB, pc, pk, pcap2, pB2, rfl, pl1, pl2, pb, po1, po2, -, -, -⟩ := hL;have pi1 := po1.ints;have pi2 := po2.ints;clear po1 po2;dsimp only at pl1 pl2 pi1 pi2;clear g4_0 g4_1;replace BB := btr BB pb;replace hB := hB.below pb;replace hU := hU.below pb;replace hG := hG.below pb;replace hA := hA.below pb;replace lz := lz.below pb;replace q4 := q4.below pb;clear pb;have al := (Below.refl (w3).heap.size (w3)).alloc (Nat.le_refl _) (.cells #[.int .i64 x1, .slice pa pn pcap] 30);replace BB := btr BB al;replace hB := hB.below al;replace hU := hU.below al;replace hG := hG.below al;replace hA := hA.below al;replace lz := lz.below al;replace pi1 := pi1.below al;replace pi2 := pi2.below al;replace q4 := q4.below al;clear al;have q10 := Cel.new (w3) [.int .i64 x1, .slice pa pn pcap] 30;obtain ⟨g4_0, g4_1⟩ := q4.c2;obtain ⟨g10_0, g10_1⟩ := q10.c2
   go_wp2_with fail
   generalize (w3).alloc (.cells #[.int .i64 x1, .slice pa pn pcap] 30) = W4 at hB hU hG hA lz pi1 pi2 q4 q10 BB g4_0 g4_1 g10_0 g10_1 ⊢;obtain ⟨X10, hX10⟩ : ∃ x, x = w3.heap.size := ⟨_, rfl⟩
   rw [← hX10];rw [← hX10] at q10 g10_0 g10_1;have loX10 : w3.heap.size ≤ X10 := by omega
   have upX10 : X10 ≤ w3.heap.size := by omega
   clear hX10;refine (sloc_any ad N c ba bn bc ga m1 gc 0 (some ⟨ZB, 0, none⟩) 3 3 kk ua un uc ss B D [0, 0, 0] U hA hB hG lz hU HN.out (by omega) (by omega) (by omega) (by omega) (by omega)).mono ?_;rintro ee w5 hL;rw [HX.out] at hL;obtain ⟨qa, qn, qcap, qB, qc, qk, qcap2, qB2, rfl, ql1, ql2, qb, qo1, qo2, -, -, -⟩ := hL;have qi1 := qo1.ints;have qi2 := qo2.ints;clear qo1 qo2;dsimp only at ql1 ql2 qi1 qi2;clear g4_0 g4_1 g10_0 g10_1;replace BB := btr BB qb;replace hB := hB.below qb;replace hU := hU.below qb;replace hG := hG.below qb;replace hA := hA.below qb;replace lz := lz.below qb;replace pi1 := pi1.below qb;replace pi2 := pi2.below qb;replace q4 := q4.below qb;replace q10 := q10.below qb;clear qb;have al := (Below.refl (w5).heap.size (w5)).alloc (Nat.le_refl _) (.cells #[.int .i64 x1, .slice qa qn qcap] 30);replace BB := btr BB al;replace hB := hB.below al;replace hU := hU.below al;replace hG := hG.below al;replace hA := hA.below al;replace lz := lz.below al;replace pi1 := pi1.below al;replace pi2 := pi2.below al;replace qi1 := qi1.below al;replace qi2 := qi2.below al;replace q4 := q4.below al;replace q10 := q10.below al;clear al;have q13 := Cel.new (w5) [.int .i64 x1, .slice qa qn qcap] 30;have HAC : Hid (ActsOk N ss) := LSG.acts hA HN.out;have HE3 : Hid (([0, 0, 0] : List Int).length = 3) := lz.1;have hne : (x4 != x4) = false := by cases x4 <;> rfl
   have HLN : Hid (x2.length ≤ 1000 ∧ x3.length ≤ 4) := loc_len HE3.out (by omega) HAC.out HX.out;have hLN1 := HLN.out.1;have hLN2 := HLN.out.2;obtain ⟨g4_0, g4_1⟩ := q4.c2;obtain ⟨g10_0, g10_1⟩ := q10.c2;obtain ⟨g13_0, g13_1⟩ := q13.c2
   go_wp2_with fail
   generalize (w5).alloc (.cells #[.int .i64 x1, .slice qa qn qcap] 30) = W6 at hB hU hG hA lz pi1 pi2 qi1 qi2 q4 q10 q13 BB g4_0 g4_1 g10_0 g10_1 g13_0 g13_1 ⊢;obtain ⟨X13, hX13⟩ : ∃ x, x = w5.heap.size := ⟨_, rfl⟩
   rw [← hX13];rw [← hX13] at q13 g13_0 g13_1;have loX13 : w5.heap.size ≤ X13 := by omega
   have upX13 : X13 ≤ w5.heap.size := by omega
   clear hX13;refine (coR_any x1 x1 x2 x2 pi1 qi1).mono ?_;rintro ee w7 ⟨rfl, b4⟩;rw [coRB_same];clear g4_0 g4_1 g10_0 g10_1 g13_0 g13_1;replace BB := btr BB b4;replace hB := hB.below b4;replace hU := hU.below b4;replace hG := hG.below b4;replace hA := hA.below b4;replace lz := lz.below b4;replace pi1 := pi1.below b4;replace pi2 := pi2.below b4;replace qi1 := qi1.below b4;replace qi2 := qi2.below b4;replace q4 := q4.below b4;replace q10 := q10.below b4;replace q13 := q13.below b4;clear b4;obtain ⟨g4_0, g4_1⟩ := q4.c2;obtain ⟨g10_0, g10_1⟩ := q10.c2;obtain ⟨g13_0, g13_1⟩ := q13.c2
   go_wp2_with fail
   refine (coI_any x3 x3 pi2 qi2 (by omega) (by omega)).mono ?_;rintro ee w8 ⟨rfl, b5⟩;rw [eqB_refl];clear g4_0 g4_1 g10_0 g10_1 g13_0 g13_1;replace BB := btr BB b5;replace hB := hB.below b5;replace hU := hU.below b5;replace hG := hG.below b5;replace hA := hA.below b5;replace lz := lz.below b5;replace pi1 := pi1.below b5;replace pi2 := pi2.below b5;replace qi1 := qi1.below b5;replace qi2 := qi2.below b5;replace q4 := q4.below b5;replace q10 := q10.below b5;replace q13 := q13.below b5;clear b5;obtain ⟨g4_0, g4_1⟩ := q4.c2;obtain ⟨g10_0, g10_1⟩ := q10.c2;obtain ⟨g13_0, g13_1⟩ := q13.c2
   go_wp2_with fail
   refine (scat_any ss HN.out hA (by omega)).mono ?_;rintro ee w9 ⟨rfl, b6⟩;clear g4_0 g4_1 g10_0 g10_1 g13_0 g13_1;replace BB := btr BB b6;replace hB := hB.below b6;replace hU := hU.below b6;replace hG := hG.below b6;replace hA := hA.below b6;replace lz := lz.below b6;replace pi1 := pi1.below b6;replace pi2 := pi2.below b6;replace qi1 := qi1.below b6;replace qi2 := qi2.below b6;replace q4 := q4.below b6;replace q10 := q10.below b6;replace q13 := q13.below b6;clear b6
   cases hc1 : catB N ss
   ·have hx4 : x4 = false := by
     cases x4
     ·rfl
     have ht := trt_of HX.out;rw [hc1] at ht; exact absurd ht.1 (by decide)
    subst hx4;clear HX HAC HLN;obtain ⟨g4_0, g4_1⟩ := q4.c2;obtain ⟨g10_0, g10_1⟩ := q10.c2;obtain ⟨g13_0, g13_1⟩ := q13.c2
    go_wp2_with fail
    refine (coHolds_any).mono ?_;rintro ee w10 ⟨rfl, bh⟩;clear g4_0 g4_1 g10_0 g10_1 g13_0 g13_1;replace BB := btr BB bh;replace hB := hB.below bh;replace hU := hU.below bh;replace hG := hG.below bh;replace hA := hA.below bh;replace lz := lz.below bh;replace pi1 := pi1.below bh;replace pi2 := pi2.below bh;replace qi1 := qi1.below bh;replace qi2 := qi2.below bh;replace q4 := q4.below bh;replace q10 := q10.below bh;replace q13 := q13.below bh;clear bh
    go_wp2
    go_ret
    exact ⟨rfl, BB⟩
   have HC : Hid (catB N ss = true) := hc1;clear hc1;obtain ⟨g4_0, g4_1⟩ := q4.c2;obtain ⟨g10_0, g10_1⟩ := q10.c2;obtain ⟨g13_0, g13_1⟩ := q13.c2
   go_wp2_with fail
   refine (strt_any B D hB hG (by omega) (by omega)).mono ?_;rintro ee w10 ⟨rfl, b7⟩;clear g4_0 g4_1 g10_0 g10_1 g13_0 g13_1;replace BB := btr BB b7;replace hB := hB.below b7;replace hU := hU.below b7;replace hG := hG.below b7;replace hA := hA.below b7;replace lz := lz.below b7;replace pi1 := pi1.below b7;replace pi2 := pi2.below b7;replace qi1 := qi1.below b7;replace qi2 := qi2.below b7;replace q4 := q4.below b7;replace q10 := q10.below b7;replace q13 := q13.below b7;clear b7
   cases hc2 : trtB bn m1 B D
   ·have hx4 : x4 = false := by
     cases x4
     ·rfl
     have ht := trt_of HX.out;rw [hc2] at ht; exact absurd ht.2.1 (by decide)
    subst hx4;clear HX HAC HLN;obtain ⟨g4_0, g4_1⟩ := q4.c2;obtain ⟨g10_0, g10_1⟩ := q10.c2;obtain ⟨g13_0, g13_1⟩ := q13.c2
    go_wp2_with fail
    refine (coHolds_any).mono ?_;rintro ee w11 ⟨rfl, bh⟩;clear g4_0 g4_1 g10_0 g10_1 g13_0 g13_1;replace BB := btr BB bh;replace hB := hB.below bh;replace hU := hU.below bh;replace hG := hG.below bh;replace hA := hA.below bh;replace lz := lz.below bh;replace pi1 := pi1.below bh;replace pi2 := pi2.below bh;replace qi1 := qi1.below bh;replace qi2 := qi2.below bh;replace q4 := q4.below bh;replace q10 := q10.below bh;replace q13 := q13.below bh;clear bh
    go_wp2
    go_ret
    exact ⟨rfl, BB⟩
   have HT : Hid (trtB bn m1 B D = true) := hc2;clear hc2;obtain ⟨g4_0, g4_1⟩ := q4.c2;obtain ⟨g10_0, g10_1⟩ := q10.c2;obtain ⟨g13_0, g13_1⟩ := q13.c2
   go_wp2_with fail
   refine (sarg_any U hU (by omega)).mono ?_;rintro ee v11 ⟨rfl, rfl⟩
   cases hc3 : okN 2 9 un U
   ·have hx4 : x4 = false := by
     cases x4
     ·rfl
     have ht := trt_of HX.out;rw [hc3] at ht; exact absurd ht.2.2.1 (by decide)
    subst hx4;clear HX HAC HLN
    go_wp2_with fail
    refine (coHolds_any).mono ?_;rintro ee w12 ⟨rfl, bh⟩;clear g4_0 g4_1 g10_0 g10_1 g13_0 g13_1;replace BB := btr BB bh;replace hB := hB.below bh;replace hU := hU.below bh;replace hG := hG.below bh;replace hA := hA.below bh;replace lz := lz.below bh;replace pi1 := pi1.below bh;replace pi2 := pi2.below bh;replace qi1 := qi1.below bh;replace qi2 := qi2.below bh;replace q4 := q4.below bh;replace q10 := q10.below bh;replace q13 := q13.below bh;clear bh
    go_wp2
    go_ret
    exact ⟨rfl, BB⟩
   have HUK : Hid (okN 2 9 un U = true) := hc3;clear hc3;have hk0' : ¬ kk < 0 := by omega
   by_cases hc4 : kk < (N : Int)
   ·have hk4 : ¬ (N : Int) ≤ kk := by omega
    have hk4' : ¬ kk ≥ (N : Int) := by omega
    obtain ⟨rfl, rfl, hbB, g0, rfl⟩ := trtB_one HT.out hm1 HDL.out;have h2u := (okN_elim (by omega) HUK.out).1;obtain rfl : un = 2 := by omega
    have HBB : Hid (bnd 10000 B) := hbB
    have hN4 : N ≤ 4 := by
     have h := HC.out;simp only [catB, Bool.and_eq_true] at h;have := inB_iff.1 h.1
     omega
    obtain ⟨kn, rfl⟩ := Int.eq_ofNat_of_zero_le hk0;have hkN : kn < N := by omega
    have HLA : Hid _ := loc_alone hB.1 HAC.out HC.out HT.out HUK.out (inB_iff.2 ⟨by omega, by omega⟩) HX.out;obtain ⟨ab, ao, rfl, p0, hl⟩ := hA kn (by rw [HN.out]; omega)
    have HLA2 : Hid (∀ a : L2V, ss[kn]?.getD noL = a → (runCode a.n a.x 3 B 2 U = 3 ∨ x4 = (!pinned (pinsA ss) (List.zipWith (· - ·) (runPots a.n a.x 3 B 2 U) B) && keepB 3 1 B [g0] (ivs (catP ss)) 0 3 (List.zipWith (· - ·) (runPots a.n a.x 3 B 2 U) B)) ∨ (runCode a.n a.x 3 B 2 U = 2 ∧ x4 = true)) ∧ (x4 = true → x1 = runCode a.n a.x 3 B 2 U ∧ x2 = runTells a.n a.x 3 B 2 U)) := fun a ha => by
     have h := HLA.out;simp only [Int.toNat_natCast] at h;rw [ha] at h
     exact h
    have hact : actB (ss[kn]?.getD noL).n (ss[kn]?.getD noL).x = true := by
     have h := HC.out;simp only [catB, Bool.and_eq_true] at h;have hkl : kn < ss.length := by rw [HN.out]; omega
     rw [List.getElem?_eq_getElem hkl]
     exact List.all_eq_true.1 h.2 _ (List.getElem_mem hkl)
    obtain ⟨la, hla⟩ : ∃ a, ss[kn]?.getD noL = a := ⟨_, rfl⟩
    have hRA := HLA2.out _ hla;rw [hla] at p0 hl hact;clear hla HLA2 HLA;obtain ⟨la, ln, lc, ls⟩ := la;obtain ⟨hl1, hl2, hl3⟩ := hl;dsimp only at hl1 hl2 hl3 hact hRA;dsimp only [L2V.v] at p0
    have hrb : runB ln ls 3 B 2 U = true := by
     have h := HT.out;unfold trtB at h;simp only [Bool.and_eq_true] at h;rw [runB, hact, h.1, HUK.out]; rfl
    have HPX : Hid _ := run_bnd hl1 hrb hB.1 hU.1;have HTL : Hid ((runTells ln ls 3 B 2 U).length ≤ 6) := (run_left hl1 hrb hB.1 hU.1).hn;have HL1 : Hid (ls.length = ln) := hl1;clear hl1 hrb hact;have hkN' : (kn : Int) < (N : Int) := by omega
    obtain ⟨RC, hRC⟩ : ∃ x, runCode ln ls 3 B 2 U = x := ⟨_, rfl⟩
    obtain ⟨TL, hTL⟩ : ∃ x, runTells ln ls 3 B 2 U = x := ⟨_, rfl⟩
    obtain ⟨PX, hPX⟩ : ∃ x, runPots ln ls 3 B 2 U = x := ⟨_, rfl⟩
    have HE : Hid (runCode ln ls 3 B 2 U = RC ∧ runTells ln ls 3 B 2 U = TL ∧ runPots ln ls 3 B 2 U = PX) := ⟨hRC, hTL, hPX⟩
    rw [hRC, hTL, hPX, frB_pin] at hRA;rw [hTL] at HTL;rw [hPX] at HPX;clear hRC hTL hPX;obtain ⟨F, hF⟩ : ∃ F, pinsA ss = F := ⟨_, rfl⟩
    have HF : Hid (pinsA ss = F) := hF;rw [hF] at hRA;clear hF;have HRA : Hid _ := hRA;clear hRA HAC HX;clear q13
    go_upto_region 13 with fail
    clear g4_0 g4_1 g10_0 g10_1 g13_0 g13_1;generalize v11 = wk at p0 hl2 hB hU hG hA lz pi1 pi2 qi1 qi2 q4 q10 BB ⊢
    go_cut [16, 17] (fun v p wx => ∃ (P : Nat) (a1 : Option Addr) (n1 c1 : Nat) (a2 : Option Addr) (c2 : Nat), v = .pointer (some ⟨P, 0, none⟩) ∧ p = .slice a2 3 c2 ∧ Cel wx P [.int .i64 RC, .slice a1 n1 c1] 30 ∧ Ints wx a1 n1 TL ∧ Ints wx a2 3 PX ∧ Below wk.heap.size wk wx)
    case first =>
     clear BB HRA lz pi1 pi2 qi1 qi2 q10 hG hA;refine wp_region_ends (fun X => X.cell? ⟨ab, ao + kn, none⟩ = some (.slice la ln lc) ∧ X.cell? ⟨X4, 0, none⟩ = some (.slice ba 3 bc)) (fun _ => True) 13 (by kernel_rfl) ?_;have p1 := q4.cell 0;simp only [List.getElem?_cons_zero] at p1;have dr : Below wk.heap.size wk wk.drew := (Below.refl _ _).drew;have KP : Hid (∀ X : World, Below wk.heap.size wk X → (X.cell? ⟨ab, ao + kn, none⟩ = some (.slice la ln lc) ∧ X.cell? ⟨X4, 0, none⟩ = some (.slice ba 3 bc))) := fun X hX => ⟨(hX.cell (p := ⟨ab, ao + kn, none⟩) (block_lt p0)).trans p0, (hX.cell (p := ⟨X4, 0, none⟩) (block_lt p1)).trans p1⟩
     obtain ⟨V0, hV0⟩ : ∃ V, V = wk.drew := ⟨_, rfl⟩
     rw [← hV0] at dr ⊢;clear hV0;have hSS := And.intro (KP.out _ dr) True.intro;have hl2' := hl2.below dr;have hB' := hB.below dr;have hU' := hU.below dr;clear p0 p1 q4 hl2 hB hU;refine tkl 0 rfl hSS ?_;refine tkl 1 rfl hSS ?_;refine tkl 2 rfl hSS ?_;refine tkl 3 rfl hSS ?_;refine tkl 4 rfl hSS ?_;refine tkl 5 rfl hSS ?_;refine tkl 6 rfl hSS ?_;clear hSS;refine wo2 7 11 rfl rfl (fun K hK => ?_) fun K hK => ?_
     ·go_simp;refine (irun_any la ln lc ls B U HL1.out hl2' hl3 hB' hU').mono ?_;rintro ee Wr ⟨a1, n1, c1, r1, a2, n2, c2, r2, rfl, hq1, hq2, bb1, o1, o2, lr1, lr2, -⟩;obtain ⟨e1, e2, e3⟩ := HE.out;rw [e1];rw [e2] at o1;rw [e3] at o2 hq2;obtain rfl : n2 = 3 := by rw [← hq2]; exact HPX.out.2
      clear e1 e2 e3 hq1 hq2 hl2' hB' hU';have bR := btr dr bb1;(try dsimp only);refine kk0 hK (KP.out _ bR) ?_;have hSS := And.intro (KP.out _ bR) True.intro;refine tkl 8 rfl hSS ?_;refine tkl 9 rfl hSS ?_;refine tkl 10 rfl hSS ?_;clear hSS;refine wo1 11 rfl fun K hK => ?_;go_simp;have al := (Below.refl Wr.heap.size Wr).alloc (Nat.le_refl _) (.cells #[.int .i64 0, .slice none 0 0] 30);have qp := Cel.new Wr [.int .i64 0, .slice none 0 0] 30;have hr1 : 0 < n1 → r1 < Wr.heap.size := fun h => o1.lt h;have hr2 := o2.lt (by omega);replace o1 := o1.below al;replace o2 := o2.below al;have bA := btr bR al;have bRs := bR.size;obtain ⟨W2, hW2⟩ : ∃ V, V = Wr.alloc (.cells #[.int .i64 0, .slice none 0 0] 30) := ⟨_, rfl⟩
      rw [← hW2];rw [← hW2] at o1 o2 bA qp;clear hW2 al;obtain ⟨P, hP⟩ : ∃ x, x = Wr.heap.size := ⟨_, rfl⟩
      rw [← hP];rw [← hP] at qp;have hp1 : 0 < n1 → P ≠ r1 := fun h => by have := hr1 h; omega
      have hp2 : 0 < 3 → P ≠ r2 := fun h => by omega
      have hPk : wk.heap.size ≤ P := by omega
      clear hP;(try dsimp only);refine kk0 hK (KP.out _ bA) ?_;refine wo1 12 rfl fun K hK => ?_;have g0 := qp.cell 0;have g1 := qp.cell 1;have h0 := qp.free 0;have h1 := qp.free 1;have lq := qp.lt;simp only [List.getElem?_cons_zero, List.getElem?_cons_succ] at g0 g1;go_simp;clear g0 g1 h0 h1 lq;have q2 := (qp.set 0 (.int .i64 RC)).set 1 (.slice a1 n1 c1);simp only [List.set_cons_succ, List.set_cons_zero] at q2;have t1 := ((o1.setOther hp1 0 (.int .i64 RC)).setOther hp1 1 (.slice a1 n1 c1)).ints;have t2 := ((o2.setOther hp2 0 (.int .i64 RC)).setOther hp2 1 (.slice a1 n1 c1)).ints;have bF := (bA.setCell (p := ⟨P, 0, none⟩) (by simp only []; omega) (.int .i64 RC)).setCell (p := ⟨P, 1, none⟩) (by simp only []; omega) (.slice a1 n1 c1);clear qp o1 o2;(try dsimp only);refine kk0 hK (KP.out _ bF) ?_;refine wo1 13 rfl fun K hK => ?_;go_simp;(try dsimp only);refine kk0 hK (KP.out _ bF) ?_;refine wod ?_ _
      go_wp2_with fail
      go_meet
      case rel => exact ⟨P, a1, n1, c1, a2, c2, rfl, rfl, q2, t1, t2, bF⟩
     go_simp;have al := (Below.refl V0.heap.size V0).alloc (Nat.le_refl _) (.cells #[.int .i64 0, .slice none 0 0] 30);have qp := Cel.new V0 [.int .i64 0, .slice none 0 0] 30;replace hl2' := hl2'.below al;replace hB' := hB'.below al;replace hU' := hU'.below al;have bA := btr dr al;have drs := dr.size;have zA : V0.heap.size + 1 ≤ (V0.alloc (.cells #[.int .i64 0, .slice none 0 0] 30)).heap.size := by rw [World.size_alloc]; omega
     obtain ⟨W2, hW2⟩ : ∃ V, V = V0.alloc (.cells #[.int .i64 0, .slice none 0 0] 30) := ⟨_, rfl⟩
     rw [← hW2];rw [← hW2] at hl2' hB' hU' bA qp zA;clear hW2 al;obtain ⟨P, hP⟩ : ∃ x, x = V0.heap.size := ⟨_, rfl⟩
     rw [← hP];rw [← hP] at qp;have hPk : wk.heap.size ≤ P := by omega
     have hPl : P < W2.heap.size := by omega
     clear hP;(try dsimp only);refine kk0 hK (KP.out _ bA) ?_;refine wo1 7 rfl fun K hK => ?_;go_simp;refine (irun_any la ln lc ls B U HL1.out hl2' hl3 hB' hU').mono ?_;rintro ee Wr ⟨a1, n1, c1, r1, a2, n2, c2, r2, rfl, hq1, hq2, bb1, o1, o2, lr1, lr2, -⟩;obtain ⟨e1, e2, e3⟩ := HE.out;rw [e1];rw [e2] at o1;rw [e3] at o2 hq2;obtain rfl : n2 = 3 := by rw [← hq2]; exact HPX.out.2
     clear e1 e2 e3 hq1 hq2 hl2' hB' hU';have bR := btr bA bb1;replace qp := qp.below bb1;have hp1 : 0 < n1 → P ≠ r1 := fun h => by have := lr1 h; omega
     have hp2 : 0 < 3 → P ≠ r2 := fun h => by have := lr2 h; omega
     (try dsimp only);refine kk0 hK (KP.out _ bR) ?_;have hSS := And.intro (KP.out _ bR) True.intro;refine tkl 8 rfl hSS ?_;refine tkl 9 rfl hSS ?_;refine tkl 10 rfl hSS ?_;clear hSS;refine wo1 12 rfl fun K hK => ?_;have g0 := qp.cell 0;have g1 := qp.cell 1;have h0 := qp.free 0;have h1 := qp.free 1;have lq := qp.lt;simp only [List.getElem?_cons_zero, List.getElem?_cons_succ] at g0 g1;go_simp;clear g0 g1 h0 h1 lq;have q2 := (qp.set 0 (.int .i64 RC)).set 1 (.slice a1 n1 c1);simp only [List.set_cons_succ, List.set_cons_zero] at q2;have t1 := ((o1.setOther hp1 0 (.int .i64 RC)).setOther hp1 1 (.slice a1 n1 c1)).ints;have t2 := ((o2.setOther hp2 0 (.int .i64 RC)).setOther hp2 1 (.slice a1 n1 c1)).ints;have bF := (bR.setCell (p := ⟨P, 0, none⟩) (by simp only []; omega) (.int .i64 RC)).setCell (p := ⟨P, 1, none⟩) (by simp only []; omega) (.slice a1 n1 c1);clear qp o1 o2;(try dsimp only);refine kk0 hK (KP.out _ bF) ?_;refine wo1 13 rfl fun K hK => ?_;go_simp;(try dsimp only);refine kk0 hK (KP.out _ bF) ?_;refine wod ?_ _
     go_wp2_with fail
     go_meet
     case rel => exact ⟨P, a1, n1, c1, a2, c2, rfl, rfl, q2, t1, t2, bF⟩
    case rest =>
     obtain ⟨P, a1, n1, c1, a2, c2, rfl, rfl, q16, hT1, hP2, b9⟩ := hcut;clear p0 hl2 hl3 HE HL1;replace BB := btr BB b9;replace hB := hB.below b9;replace hU := hU.below b9;replace hG := hG.below b9;replace hA := hA.below b9;replace lz := lz.below b9;replace pi1 := pi1.below b9;replace pi2 := pi2.below b9;replace qi1 := qi1.below b9;replace qi2 := qi2.below b9;replace q4 := q4.below b9;replace q10 := q10.below b9;clear b9;have hn1 : n1 ≤ 6 := by rw [← hT1.1]; exact HTL.out
     obtain ⟨AD, hAD⟩ : ∃ x, List.zipWith (· - ·) PX B = x := ⟨_, rfl⟩
     have HAD : Hid (List.zipWith (· - ·) PX B = AD) := hAD;have hRA := HRA.out;rw [hAD] at hRA;clear HRA hAD;have HRA : Hid _ := hRA;clear hRA;have HADL : Hid (AD.length = 3) := by (show AD.length = 3; rw [← HAD.out, List.length_zipWith, HPX.out.2, hB.1]; rfl)
     have HBL : Hid (B.length = 3) := hB.1
     go_wp2_with fail
     obtain ⟨wl, hwl⟩ : ∃ x, x = wc := ⟨_, rfl⟩
     subst hwl
     go_loopw [18, 19, 20] (fun v fr i wr => ∃ (k : Nat) (xs : List Int), k ≤ 3 ∧ i = .int .i64 k ∧ fr = .bool (frB F AD k) ∧ xs = AD.take k ∧ JA wl v xs wr) (fun _ _ i _ => 3 - (intOf i).toNat)
     case atStart => exact ⟨0, [], by omega, rfl, rfl, rfl, JA.lit _⟩
     case round =>
      obtain ⟨k, xs, hk, rfl, rfl, hxs, j⟩ := hrel;have HXS : Hid (xs = AD.take k) := hxs;have HXL : Hid (xs.length = k) := by (show xs.length = k; rw [hxs, List.length_take, HADL.out]; omega)
      clear hxs
      by_cases hlt : k < 3
      ·have hlt' : (k : Int) < 3 := by omega
       obtain ⟨pb, po, rfl, hpc⟩ := hP2.pos (by omega);obtain ⟨vb, vo, rfl, hvc⟩ := hB.pos (by omega);have d1 := hpc k hlt;have d2 := hvc k hlt;clear hpc hvc;have HST : Hid (AD.take (k + 1) = AD.take k ++ [PX[k]?.getD 0 - B[k]?.getD 0]) := by (show AD.take (k + 1) = _; rw [← HAD.out]; exact sub_take (by rw [HPX.out.2]; exact hlt) (by rw [HBL.out]; exact hlt))
       have HLA : Hid ((AD.take (k + 1))[k]?.getD 0 = AD[k]?.getD 0) := take_last (by rw [HADL.out]; exact hlt);obtain ⟨m1a, m2a⟩ := HPX.out.1 k;obtain ⟨m3a, m4a⟩ := HBB.out k;rw [List.getD_eq_getElem?_getD] at d1 d2;generalize PX[k]?.getD 0 = x at d1 HST m1a m2a;generalize B[k]?.getD 0 = yv at d2 HST m3a m4a;have hwr : IntKind.i64.wrap (x - yv) = x - yv := wrap_id (by omega) (by omega);obtain ⟨i0, hi, hz0, hz1, hz2⟩ := info_parts Tryz.infoInt;have d3 := q4.cell 0;simp only [List.getElem?_cons_zero] at d3;have KL : Hid (∀ X : World, Below wl.heap.size wl X → (X.cell? ⟨pb, po + k, none⟩ = some (.int .i64 x) ∧ X.cell? ⟨vb, vo + k, none⟩ = some (.int .i64 yv) ∧ X.cell? ⟨X4, 0, none⟩ = some (.slice (some ⟨vb, vo, none⟩) 3 bc))) := fun X hX => ⟨(hX.cell (p := ⟨pb, po + k, none⟩) (block_lt d1)).trans d1, (hX.cell (p := ⟨vb, vo + k, none⟩) (block_lt d2)).trans d2, (hX.cell (p := ⟨X4, 0, none⟩) (block_lt d3)).trans d3⟩
       have HA2 : Hid (LSG wl (some ⟨ab, ao, none⟩) ss) := hA;clear d1 d2 d3 BB hB hU hG hA lz pi1 pi2 qi1 qi2 hT1 hP2 q4 q10 q16
       go_upto_region 19 with fail
       refine wp_region_ends (fun X => X.cell? ⟨pb, po + k, none⟩ = some (.int .i64 x) ∧ X.cell? ⟨vb, vo + k, none⟩ = some (.int .i64 yv) ∧ X.cell? ⟨X4, 0, none⟩ = some (.slice (some ⟨vb, vo, none⟩) 3 bc)) (fun _ => True) 13 (by kernel_rfl) ?_;have dr : Below wr.heap.size wr wr.drew := (Below.refl _ _).drew;obtain ⟨V0, hV0⟩ : ∃ V, V = wr.drew := ⟨_, rfl⟩
       rw [← hV0] at dr ⊢;clear hV0;have j1 := j.below dr;clear j dr;have hSS := And.intro (KL.out _ j1.b) True.intro;refine tkl 0 rfl hSS ?_;refine tkl 1 rfl hSS ?_;refine tkl 2 rfl hSS ?_;simp only [Act.put, List.setIfInBounds_toArray, List.set_cons_succ, List.set_cons_zero, List.getElem_toArray, List.getElem_cons_succ, List.getElem_cons_zero];refine tkl 3 rfl hSS ?_;refine tkl 4 rfl hSS ?_;refine tkl 5 rfl hSS ?_;simp only [Act.put, List.setIfInBounds_toArray, List.set_cons_succ, List.set_cons_zero, List.getElem_toArray, List.getElem_cons_succ, List.getElem_cons_zero];refine tkl 6 rfl hSS ?_;refine tkl 7 rfl hSS ?_;refine tkl 8 rfl hSS ?_;simp only [Act.put, List.setIfInBounds_toArray, List.set_cons_succ, List.set_cons_zero, List.getElem_toArray, List.getElem_cons_succ, List.getElem_cons_zero];refine tkl 9 rfl hSS ?_;refine tkl 10 rfl hSS ?_;clear hSS;refine wo1 11 rfl fun K hK => ?_;go_simp;have jo := j1.o;rw [HXL.out] at jo;have j2 := j1.alloc (.cells #[.int .i64 (x - yv)] 3);have hjb := j1.b.size;refine kk0 hK (KL.out _ j2.b) ?_;refine wo1 12 rfl fun K hK => ?_;rw [if_pos (by rfl)];refine wp_append_lies _ (.tmp 122) (.tmp 133) 24 rfl wl.heap.size 3 i0 (.int .i64 0) 1 8 Tryz.underlying24 hi hz0 hz1 hz2 rfl (by decide) _ k _ (by rfl) (jo.alloc _) ⟨V0.heap.size, 0, none⟩ 1 1 [.int .i64 (x - yv)] (by rfl) (by rfl) (news1 V0) (one1) (by omega) (by unfold maxLen; omega) (by omega) j2.b.size _ rfl ?_;intro g9 cp9 w9 hown hgrow hat9 hlt9;have j9 := j1.app HXL.out hown hgrow
       refine kk0 hK (KL.out _ j9.b) ?_;clear hK K hown hgrow hat9 hlt9 j1 j2 jo;refine wo1 13 rfl fun K hK => ?_;go_simp;refine kk0 hK (KL.out _ j9.b) ?_;refine wod ?_ _;clear KL;have HXN : Hid (xs ++ [x - yv] = AD.take (k + 1)) := by (show _ = _; rw [HST.out, HXS.out])
       have HFS : Hid (frB F AD (k + 1) = (frB F AD k && (!F k || AD[k]?.getD 0 == 0))) := frB_succ F AD k;have hA9 := HA2.out.below j9.b;clear HST HXS HA2
       cases hfr : frB F AD k
       ·go_wp2
        go_roundw
        case rel => exact ⟨k + 1, _, by omega, by go_num, by rw [HFS.out, hfr]; rfl, HXN.out, j9⟩
        case measure => simp [intOf]; omega
       go_wp2_with fail
       refine (pPins ss HN.out hA9 (by omega) HC.out).mono ?_;rintro ee wp ⟨Gp, cpp, rfl, bp, hp, lGp⟩;rw [HF.out] at hp;have hpc := (hp.at hlt).1;have jp := j9.below bp;clear hp bp hA9 j9
       cases hfk : F k
       ·rw [hfk] at hpc
        go_wp2
        go_roundw
        case rel => exact ⟨k + 1, _, by omega, by go_num, by rw [HFS.out, hfr, hfk]; rfl, HXN.out, jp⟩
        case measure => simp [intOf]; omega
       rw [hfk] at hpc;obtain ⟨aq, cq, eq, _, hIq, _⟩ := jp.ints;have HLQ : Hid ((xs ++ [x - yv]).length = k + 1) := by (show _ = _; rw [List.length_append, HXL.out]; rfl)
       rw [HLQ.out] at eq hIq;simp only [Value.slice.injEq] at eq;obtain ⟨rfl, _, rfl⟩ := eq;obtain ⟨bq, oq, eq2, hcq⟩ := hIq.pos (by omega);simp only [Option.some.injEq, Addr.mk.injEq, and_true] at eq2;obtain ⟨rfl, rfl⟩ := eq2;have dq := hcq k (by omega);rw [List.getD_eq_getElem?_getD, HXN.out, HLA.out, Nat.zero_add] at dq;clear hcq hIq;have hkk9 : (k : Int) < (k : Int) + 1 := by omega
       by_cases hz : AD[k]?.getD 0 = 0
       ·rw [hz] at dq
        go_wp2
        go_roundw
        case rel => exact ⟨k + 1, _, by omega, by go_num, by rw [HFS.out, hfr, hfk, hz]; rfl, HXN.out, jp⟩
        case measure => simp [intOf]; omega
       obtain ⟨zz, hzz⟩ : ∃ z, AD[k]?.getD 0 = z := ⟨_, rfl⟩
       have HZZ : Hid (AD[k]?.getD 0 = zz) := hzz;rw [hzz] at dq hz;clear hzz;have hz1 : (zz == 0) = false := by simpa using hz
       go_wp2
       go_roundw
       case rel => exact ⟨k + 1, _, by omega, by go_num, by rw [HFS.out, hfr, hfk, HZZ.out, hz1]; rfl, HXN.out, jp⟩
       case measure => simp [intOf]; omega
      have hlt' : ¬ (k : Int) < 3 := by omega
      obtain rfl : k = 3 := by omega
      have hxa : xs = AD := by (rw [HXS.out, List.take_of_length_le (by rw [HADL.out]; omega)])
      have hb := j.b;obtain ⟨a3, c3, e3, _, hAD, _⟩ := j.ints;rw [HXL.out] at e3 hAD;rw [hxa] at hAD;subst e3;clear j HXS HXL hxa hk hlt;replace BB := btr BB hb;replace hB := hB.below hb;replace hU := hU.below hb;replace hG := hG.below hb;replace hA := hA.below hb;replace lz := lz.below hb;replace pi1 := pi1.below hb;replace pi2 := pi2.below hb;replace qi1 := qi1.below hb;replace qi2 := qi2.below hb;replace hT1 := hT1.below hb;replace hP2 := hP2.below hb;replace q4 := q4.below hb;replace q10 := q10.below hb;replace q16 := q16.below hb;clear hb;obtain ⟨wm, hwm⟩ : ∃ x, x = wr := ⟨_, rfl⟩
      subst hwm
      cases hfr : frB F AD 3
      ·have HR : Hid ((RC = 3 ∨ x4 = false ∨ (RC = 2 ∧ x4 = true)) ∧ (x4 = true → x1 = RC ∧ x2 = TL)) := by
        have h := HRA.out;rw [hfr] at h
        exact h
       clear hfr;obtain ⟨g4_0, g4_1⟩ := q4.c2;obtain ⟨g10_0, g10_1⟩ := q10.c2;obtain ⟨g16_0, g16_1⟩ := q16.c2
       go_upto_region 21 with fail
       clear g4_0 g4_1 g10_0 g10_1 g16_0 g16_1;refine wp_region_ends (fun X => X.cell? ⟨X4, 0, none⟩ = some (.slice ba 3 bc) ∧ X.cell? ⟨X4, 1, none⟩ = some (.slice ga 1 gc) ∧ X.cell? ⟨X10, 0, none⟩ = some (.int .i64 x1) ∧ X.cell? ⟨X10, 1, none⟩ = some (.slice pa pn pcap) ∧ X.cell? ⟨P, 0, none⟩ = some (.int .i64 RC) ∧ X.cell? ⟨P, 1, none⟩ = some (.slice a1 n1 c1)) (fun _ => True) 8 (by kernel_rfl) ?_;have dr : Below wm.heap.size wm wm.drew := (Below.refl _ _).drew;replace BB := btr BB dr;replace hB := hB.below dr;replace hU := hU.below dr;replace hG := hG.below dr;replace hA := hA.below dr;replace lz := lz.below dr;replace pi1 := pi1.below dr;replace pi2 := pi2.below dr;replace qi1 := qi1.below dr;replace qi2 := qi2.below dr;replace hT1 := hT1.below dr;replace hP2 := hP2.below dr;replace hAD := hAD.below dr;replace q4 := q4.below dr;replace q10 := q10.below dr;replace q16 := q16.below dr;clear dr;generalize wm.drew = V12 at hB hU hG hA lz pi1 pi2 qi1 qi2 hT1 hP2 hAD q4 q10 q16 BB ⊢;have hSS : (V12.cell? ⟨X4, 0, none⟩ = some (.slice ba 3 bc) ∧ V12.cell? ⟨X4, 1, none⟩ = some (.slice ga 1 gc) ∧ V12.cell? ⟨X10, 0, none⟩ = some (.int .i64 x1) ∧ V12.cell? ⟨X10, 1, none⟩ = some (.slice pa pn pcap) ∧ V12.cell? ⟨P, 0, none⟩ = some (.int .i64 RC) ∧ V12.cell? ⟨P, 1, none⟩ = some (.slice a1 n1 c1)) ∧ True := ⟨⟨q4.cell 0, q4.cell 1, q10.cell 0, q10.cell 1, q16.cell 0, q16.cell 1⟩, trivial⟩
       refine tkl 0 rfl hSS ?_;refine tkl 1 rfl hSS ?_;refine tku 2 rfl hSS ?_;refine tku 3 rfl hSS ?_;simp only [Act.put, List.setIfInBounds_toArray, List.set_cons_succ, List.set_cons_zero, List.getElem_toArray, List.getElem_cons_succ, List.getElem_cons_zero];refine tku 5 rfl hSS ?_;refine tku 4 rfl hSS ?_;refine tku 6 rfl hSS ?_;refine tkl 7 rfl hSS ?_;simp only [Act.put, List.setIfInBounds_toArray, List.set_cons_succ, List.set_cons_zero, List.getElem_toArray, List.getElem_cons_succ, List.getElem_cons_zero];refine wo1 8 rfl fun K hK => ?_;go_simp;refine kk0 hK (hSS.1) ?_;refine wod ?_ _;clear hSS
       go_upto_region 22 with fail
       cases x4
       ·have HR2 : Hid (RC = 3 ∨ false = false ∨ (RC = 2 ∧ false = true)) := HR.out.1;clear HR HRA
        by_cases h3 : RC = 3
        ·have h31 : (RC == 3) = true := by simpa using h3
         obtain ⟨g16_0, g16_1⟩ := q16.c2
         go_wp2
         go_ret
         exact ⟨rfl, BB⟩
        have h31 : (RC == 3) = false := by simpa using h3
        obtain ⟨g16_0, g16_1⟩ := q16.c2
        go_wp2
        go_ret
        exact ⟨rfl, BB⟩
       have HR2 : Hid (RC = 3 ∨ true = false ∨ (RC = 2 ∧ true = true)) := HR.out.1;obtain ⟨rfl, rfl⟩ := HR.out.2 rfl;clear HR HRA;have hn9 : pn ≤ 1000 := by omega
       by_cases h3 : x1 = 3
       ·have h31 : (x1 == 3) = true := by simpa using h3
        clear h3 HR2;obtain ⟨g4_0, g4_1⟩ := q4.c2;obtain ⟨g10_0, g10_1⟩ := q10.c2;obtain ⟨g16_0, g16_1⟩ := q16.c2
        go_wp2_with fail
        refine (coR_any x1 x1 x2 x2 hT1 pi1).mono ?_;rintro ee w13 ⟨rfl, be1⟩;rw [coRB_same];clear g4_0 g4_1 g10_0 g10_1 g16_0 g16_1;replace BB := btr BB be1;replace hB := hB.below be1;replace hU := hU.below be1;replace hG := hG.below be1;replace hA := hA.below be1;replace lz := lz.below be1;replace pi1 := pi1.below be1;replace pi2 := pi2.below be1;replace qi1 := qi1.below be1;replace qi2 := qi2.below be1;replace hT1 := hT1.below be1;replace hP2 := hP2.below be1;replace hAD := hAD.below be1;replace q4 := q4.below be1;replace q10 := q10.below be1;replace q16 := q16.below be1;clear be1
        go_wp2
        go_ret
        exact ⟨rfl, BB⟩
       have h31 : (x1 == 3) = false := by simpa using h3
       have h2 : x1 = 2 := by
        rcases HR2.out with h | h | h
        ·exact absurd h h3
        ·cases h
        exact h.1
       have h21 : (x1 == 2) = true := by simpa using h2
       clear h2;clear h3 HR2;obtain ⟨g4_0, g4_1⟩ := q4.c2;obtain ⟨g10_0, g10_1⟩ := q10.c2;obtain ⟨g16_0, g16_1⟩ := q16.c2
       go_wp2_with fail
       refine (coR_any x1 x1 x2 x2 hT1 pi1).mono ?_;rintro ee w13 ⟨rfl, be1⟩;rw [coRB_same];clear g4_0 g4_1 g10_0 g10_1 g16_0 g16_1;replace BB := btr BB be1;replace hB := hB.below be1;replace hU := hU.below be1;replace hG := hG.below be1;replace hA := hA.below be1;replace lz := lz.below be1;replace pi1 := pi1.below be1;replace pi2 := pi2.below be1;replace qi1 := qi1.below be1;replace qi2 := qi2.below be1;replace hT1 := hT1.below be1;replace hP2 := hP2.below be1;replace hAD := hAD.below be1;replace q4 := q4.below be1;replace q10 := q10.below be1;replace q16 := q16.below be1;clear be1
       go_wp2
       go_ret
       exact ⟨rfl, BB⟩
      cases hkb : keepB 3 1 B [g0] (ivs (catP ss)) 0 3 AD
      ·have HR : Hid ((RC = 3 ∨ x4 = false ∨ (RC = 2 ∧ x4 = true)) ∧ (x4 = true → x1 = RC ∧ x2 = TL)) := by
        have h := HRA.out;rw [hfr, hkb] at h
        exact h
       have HKB : Hid (keepB 3 1 B [g0] (ivs (catP ss)) 0 3 AD = false) := hkb;clear hfr hkb;obtain ⟨g4_0, g4_1⟩ := q4.c2;obtain ⟨g10_0, g10_1⟩ := q10.c2;obtain ⟨g16_0, g16_1⟩ := q16.c2
       go_upto_region 21 with fail
       clear g4_0 g4_1 g10_0 g10_1 g16_0 g16_1;refine wp_region_ends (fun X => X.cell? ⟨X4, 0, none⟩ = some (.slice ba 3 bc) ∧ X.cell? ⟨X4, 1, none⟩ = some (.slice ga 1 gc) ∧ X.cell? ⟨X10, 0, none⟩ = some (.int .i64 x1) ∧ X.cell? ⟨X10, 1, none⟩ = some (.slice pa pn pcap) ∧ X.cell? ⟨P, 0, none⟩ = some (.int .i64 RC) ∧ X.cell? ⟨P, 1, none⟩ = some (.slice a1 n1 c1)) (fun _ => True) 8 (by kernel_rfl) ?_;have dr : Below wm.heap.size wm wm.drew := (Below.refl _ _).drew;replace BB := btr BB dr;replace hB := hB.below dr;replace hU := hU.below dr;replace hG := hG.below dr;replace hA := hA.below dr;replace lz := lz.below dr;replace pi1 := pi1.below dr;replace pi2 := pi2.below dr;replace qi1 := qi1.below dr;replace qi2 := qi2.below dr;replace hT1 := hT1.below dr;replace hP2 := hP2.below dr;replace hAD := hAD.below dr;replace q4 := q4.below dr;replace q10 := q10.below dr;replace q16 := q16.below dr;clear dr;generalize wm.drew = V12 at hB hU hG hA lz pi1 pi2 qi1 qi2 hT1 hP2 hAD q4 q10 q16 BB ⊢;have hSS : (V12.cell? ⟨X4, 0, none⟩ = some (.slice ba 3 bc) ∧ V12.cell? ⟨X4, 1, none⟩ = some (.slice ga 1 gc) ∧ V12.cell? ⟨X10, 0, none⟩ = some (.int .i64 x1) ∧ V12.cell? ⟨X10, 1, none⟩ = some (.slice pa pn pcap) ∧ V12.cell? ⟨P, 0, none⟩ = some (.int .i64 RC) ∧ V12.cell? ⟨P, 1, none⟩ = some (.slice a1 n1 c1)) ∧ True := ⟨⟨q4.cell 0, q4.cell 1, q10.cell 0, q10.cell 1, q16.cell 0, q16.cell 1⟩, trivial⟩
       refine tkl 0 rfl hSS ?_;refine tkl 1 rfl hSS ?_;refine tkl 2 rfl hSS ?_;refine tkl 3 rfl hSS ?_;simp only [Act.put, List.setIfInBounds_toArray, List.set_cons_succ, List.set_cons_zero, List.getElem_toArray, List.getElem_cons_succ, List.getElem_cons_zero];refine tkl 5 rfl hSS ?_;refine wo1 4 rfl fun K hK => ?_;go_simp;refine (pParts ss HN.out hA (by omega) HC.out).mono ?_;rintro ee w13 ⟨ta, tc, ts, tn, rfl, b11, hTT, htn, htn1, htl, htc⟩;replace BB := btr BB b11;replace hB := hB.below b11;replace hU := hU.below b11;replace hG := hG.below b11;replace hA := hA.below b11;replace lz := lz.below b11;replace pi1 := pi1.below b11;replace pi2 := pi2.below b11;replace qi1 := qi1.below b11;replace qi2 := qi2.below b11;replace hT1 := hT1.below b11;replace hP2 := hP2.below b11;replace hAD := hAD.below b11;replace q4 := q4.below b11;replace q10 := q10.below b11;replace q16 := q16.below b11;clear b11;clear hSS;have hSS : (w13.cell? ⟨X4, 0, none⟩ = some (.slice ba 3 bc) ∧ w13.cell? ⟨X4, 1, none⟩ = some (.slice ga 1 gc) ∧ w13.cell? ⟨X10, 0, none⟩ = some (.int .i64 x1) ∧ w13.cell? ⟨X10, 1, none⟩ = some (.slice pa pn pcap) ∧ w13.cell? ⟨P, 0, none⟩ = some (.int .i64 RC) ∧ w13.cell? ⟨P, 1, none⟩ = some (.slice a1 n1 c1)) ∧ True := ⟨⟨q4.cell 0, q4.cell 1, q10.cell 0, q10.cell 1, q16.cell 0, q16.cell 1⟩, trivial⟩
       (try dsimp only);refine kk0 hK (hSS.1) ?_;refine wo1 6 rfl fun K hK => ?_;go_simp;refine (pKeep 0 B [g0] AD ts (ivs (catP ss)) hB hG hAD htn hTT htl htc).mono ?_;rintro ee w14 ⟨rfl, b12⟩;rw [HKB.out];replace BB := btr BB b12;replace hB := hB.below b12;replace hU := hU.below b12;replace hG := hG.below b12;replace hA := hA.below b12;replace lz := lz.below b12;replace pi1 := pi1.below b12;replace pi2 := pi2.below b12;replace qi1 := qi1.below b12;replace qi2 := qi2.below b12;replace hT1 := hT1.below b12;replace hP2 := hP2.below b12;replace hAD := hAD.below b12;replace hTT := hTT.below b12;replace q4 := q4.below b12;replace q10 := q10.below b12;replace q16 := q16.below b12;clear b12;clear hSS;have hSS : (w14.cell? ⟨X4, 0, none⟩ = some (.slice ba 3 bc) ∧ w14.cell? ⟨X4, 1, none⟩ = some (.slice ga 1 gc) ∧ w14.cell? ⟨X10, 0, none⟩ = some (.int .i64 x1) ∧ w14.cell? ⟨X10, 1, none⟩ = some (.slice pa pn pcap) ∧ w14.cell? ⟨P, 0, none⟩ = some (.int .i64 RC) ∧ w14.cell? ⟨P, 1, none⟩ = some (.slice a1 n1 c1)) ∧ True := ⟨⟨q4.cell 0, q4.cell 1, q10.cell 0, q10.cell 1, q16.cell 0, q16.cell 1⟩, trivial⟩
       (try dsimp only);refine kk0 hK (hSS.1) ?_;refine tkl 7 rfl hSS ?_;refine wo1 8 rfl fun K hK => ?_;go_simp;refine kk0 hK (hSS.1) ?_;refine wod ?_ _;clear hSS
       go_upto_region 22 with fail
       cases x4
       ·have HR2 : Hid (RC = 3 ∨ false = false ∨ (RC = 2 ∧ false = true)) := HR.out.1;clear HR HRA
        by_cases h3 : RC = 3
        ·have h31 : (RC == 3) = true := by simpa using h3
         obtain ⟨g16_0, g16_1⟩ := q16.c2
         go_wp2
         go_ret
         exact ⟨rfl, BB⟩
        have h31 : (RC == 3) = false := by simpa using h3
        obtain ⟨g16_0, g16_1⟩ := q16.c2
        go_wp2
        go_ret
        exact ⟨rfl, BB⟩
       have HR2 : Hid (RC = 3 ∨ true = false ∨ (RC = 2 ∧ true = true)) := HR.out.1;obtain ⟨rfl, rfl⟩ := HR.out.2 rfl;clear HR HRA;have hn9 : pn ≤ 1000 := by omega
       by_cases h3 : x1 = 3
       ·have h31 : (x1 == 3) = true := by simpa using h3
        clear h3 HR2;obtain ⟨g4_0, g4_1⟩ := q4.c2;obtain ⟨g10_0, g10_1⟩ := q10.c2;obtain ⟨g16_0, g16_1⟩ := q16.c2
        go_wp2_with fail
        refine (coR_any x1 x1 x2 x2 hT1 pi1).mono ?_;rintro ee w15 ⟨rfl, be1⟩;rw [coRB_same];clear g4_0 g4_1 g10_0 g10_1 g16_0 g16_1;replace BB := btr BB be1;replace hB := hB.below be1;replace hU := hU.below be1;replace hG := hG.below be1;replace hA := hA.below be1;replace lz := lz.below be1;replace pi1 := pi1.below be1;replace pi2 := pi2.below be1;replace qi1 := qi1.below be1;replace qi2 := qi2.below be1;replace hT1 := hT1.below be1;replace hP2 := hP2.below be1;replace hAD := hAD.below be1;replace hTT := hTT.below be1;replace q4 := q4.below be1;replace q10 := q10.below be1;replace q16 := q16.below be1;clear be1
        go_wp2
        go_ret
        exact ⟨rfl, BB⟩
       have h31 : (x1 == 3) = false := by simpa using h3
       have h2 : x1 = 2 := by
        rcases HR2.out with h | h | h
        ·exact absurd h h3
        ·cases h
        exact h.1
       have h21 : (x1 == 2) = true := by simpa using h2
       clear h2;clear h3 HR2;obtain ⟨g4_0, g4_1⟩ := q4.c2;obtain ⟨g10_0, g10_1⟩ := q10.c2;obtain ⟨g16_0, g16_1⟩ := q16.c2
       go_wp2_with fail
       refine (coR_any x1 x1 x2 x2 hT1 pi1).mono ?_;rintro ee w15 ⟨rfl, be1⟩;rw [coRB_same];clear g4_0 g4_1 g10_0 g10_1 g16_0 g16_1;replace BB := btr BB be1;replace hB := hB.below be1;replace hU := hU.below be1;replace hG := hG.below be1;replace hA := hA.below be1;replace lz := lz.below be1;replace pi1 := pi1.below be1;replace pi2 := pi2.below be1;replace qi1 := qi1.below be1;replace qi2 := qi2.below be1;replace hT1 := hT1.below be1;replace hP2 := hP2.below be1;replace hAD := hAD.below be1;replace hTT := hTT.below be1;replace q4 := q4.below be1;replace q10 := q10.below be1;replace q16 := q16.below be1;clear be1
       go_wp2
       go_ret
       exact ⟨rfl, BB⟩
      have HR : Hid ((RC = 3 ∨ x4 = true ∨ (RC = 2 ∧ x4 = true)) ∧ (x4 = true → x1 = RC ∧ x2 = TL)) := by
       have h := HRA.out;rw [hfr, hkb] at h
       exact h
      have HKB : Hid (keepB 3 1 B [g0] (ivs (catP ss)) 0 3 AD = true) := hkb;clear hfr hkb;obtain ⟨g4_0, g4_1⟩ := q4.c2;obtain ⟨g10_0, g10_1⟩ := q10.c2;obtain ⟨g16_0, g16_1⟩ := q16.c2
      go_upto_region 21 with fail
      clear g4_0 g4_1 g10_0 g10_1 g16_0 g16_1;refine wp_region_ends (fun X => X.cell? ⟨X4, 0, none⟩ = some (.slice ba 3 bc) ∧ X.cell? ⟨X4, 1, none⟩ = some (.slice ga 1 gc) ∧ X.cell? ⟨X10, 0, none⟩ = some (.int .i64 x1) ∧ X.cell? ⟨X10, 1, none⟩ = some (.slice pa pn pcap) ∧ X.cell? ⟨P, 0, none⟩ = some (.int .i64 RC) ∧ X.cell? ⟨P, 1, none⟩ = some (.slice a1 n1 c1)) (fun _ => True) 8 (by kernel_rfl) ?_;have dr : Below wm.heap.size wm wm.drew := (Below.refl _ _).drew;replace BB := btr BB dr;replace hB := hB.below dr;replace hU := hU.below dr;replace hG := hG.below dr;replace hA := hA.below dr;replace lz := lz.below dr;replace pi1 := pi1.below dr;replace pi2 := pi2.below dr;replace qi1 := qi1.below dr;replace qi2 := qi2.below dr;replace hT1 := hT1.below dr;replace hP2 := hP2.below dr;replace hAD := hAD.below dr;replace q4 := q4.below dr;replace q10 := q10.below dr;replace q16 := q16.below dr;clear dr;generalize wm.drew = V12 at hB hU hG hA lz pi1 pi2 qi1 qi2 hT1 hP2 hAD q4 q10 q16 BB ⊢;have hSS : (V12.cell? ⟨X4, 0, none⟩ = some (.slice ba 3 bc) ∧ V12.cell? ⟨X4, 1, none⟩ = some (.slice ga 1 gc) ∧ V12.cell? ⟨X10, 0, none⟩ = some (.int .i64 x1) ∧ V12.cell? ⟨X10, 1, none⟩ = some (.slice pa pn pcap) ∧ V12.cell? ⟨P, 0, none⟩ = some (.int .i64 RC) ∧ V12.cell? ⟨P, 1, none⟩ = some (.slice a1 n1 c1)) ∧ True := ⟨⟨q4.cell 0, q4.cell 1, q10.cell 0, q10.cell 1, q16.cell 0, q16.cell 1⟩, trivial⟩
      refine tkl 0 rfl hSS ?_;refine tkl 1 rfl hSS ?_;refine tkl 2 rfl hSS ?_;refine tkl 3 rfl hSS ?_;simp only [Act.put, List.setIfInBounds_toArray, List.set_cons_succ, List.set_cons_zero, List.getElem_toArray, List.getElem_cons_succ, List.getElem_cons_zero];refine tkl 5 rfl hSS ?_;refine wo1 4 rfl fun K hK => ?_;go_simp;refine (pParts ss HN.out hA (by omega) HC.out).mono ?_;rintro ee w13 ⟨ta, tc, ts, tn, rfl, b11, hTT, htn, htn1, htl, htc⟩;replace BB := btr BB b11;replace hB := hB.below b11;replace hU := hU.below b11;replace hG := hG.below b11;replace hA := hA.below b11;replace lz := lz.below b11;replace pi1 := pi1.below b11;replace pi2 := pi2.below b11;replace qi1 := qi1.below b11;replace qi2 := qi2.below b11;replace hT1 := hT1.below b11;replace hP2 := hP2.below b11;replace hAD := hAD.below b11;replace q4 := q4.below b11;replace q10 := q10.below b11;replace q16 := q16.below b11;clear b11;clear hSS;have hSS : (w13.cell? ⟨X4, 0, none⟩ = some (.slice ba 3 bc) ∧ w13.cell? ⟨X4, 1, none⟩ = some (.slice ga 1 gc) ∧ w13.cell? ⟨X10, 0, none⟩ = some (.int .i64 x1) ∧ w13.cell? ⟨X10, 1, none⟩ = some (.slice pa pn pcap) ∧ w13.cell? ⟨P, 0, none⟩ = some (.int .i64 RC) ∧ w13.cell? ⟨P, 1, none⟩ = some (.slice a1 n1 c1)) ∧ True := ⟨⟨q4.cell 0, q4.cell 1, q10.cell 0, q10.cell 1, q16.cell 0, q16.cell 1⟩, trivial⟩
      (try dsimp only);refine kk0 hK (hSS.1) ?_;refine wo1 6 rfl fun K hK => ?_;go_simp;refine (pKeep 0 B [g0] AD ts (ivs (catP ss)) hB hG hAD htn hTT htl htc).mono ?_;rintro ee w14 ⟨rfl, b12⟩;rw [HKB.out];replace BB := btr BB b12;replace hB := hB.below b12;replace hU := hU.below b12;replace hG := hG.below b12;replace hA := hA.below b12;replace lz := lz.below b12;replace pi1 := pi1.below b12;replace pi2 := pi2.below b12;replace qi1 := qi1.below b12;replace qi2 := qi2.below b12;replace hT1 := hT1.below b12;replace hP2 := hP2.below b12;replace hAD := hAD.below b12;replace hTT := hTT.below b12;replace q4 := q4.below b12;replace q10 := q10.below b12;replace q16 := q16.below b12;clear b12;clear hSS;have hSS : (w14.cell? ⟨X4, 0, none⟩ = some (.slice ba 3 bc) ∧ w14.cell? ⟨X4, 1, none⟩ = some (.slice ga 1 gc) ∧ w14.cell? ⟨X10, 0, none⟩ = some (.int .i64 x1) ∧ w14.cell? ⟨X10, 1, none⟩ = some (.slice pa pn pcap) ∧ w14.cell? ⟨P, 0, none⟩ = some (.int .i64 RC) ∧ w14.cell? ⟨P, 1, none⟩ = some (.slice a1 n1 c1)) ∧ True := ⟨⟨q4.cell 0, q4.cell 1, q10.cell 0, q10.cell 1, q16.cell 0, q16.cell 1⟩, trivial⟩
      (try dsimp only);refine kk0 hK (hSS.1) ?_;refine tkl 7 rfl hSS ?_;refine wo1 8 rfl fun K hK => ?_;go_simp;refine kk0 hK (hSS.1) ?_;refine wod ?_ _;clear hSS
      go_upto_region 22 with fail
      cases x4
      ·have HR2 : Hid (RC = 3 ∨ false = true ∨ (RC = 2 ∧ false = true)) := HR.out.1;clear HR HRA
       by_cases h3 : RC = 3
       ·have h31 : (RC == 3) = true := by simpa using h3
        obtain ⟨g16_0, g16_1⟩ := q16.c2
        go_wp2
        go_ret
        exact ⟨rfl, BB⟩
       have h31 : (RC == 3) = false := by simpa using h3
       exfalso
       rcases HR2.out with h | h | h
       ·exact h3 h
       ·cases h
       cases h.2
      have HR2 : Hid (RC = 3 ∨ true = true ∨ (RC = 2 ∧ true = true)) := HR.out.1;obtain ⟨rfl, rfl⟩ := HR.out.2 rfl;clear HR HRA;have hn9 : pn ≤ 1000 := by omega
      by_cases h3 : x1 = 3
      ·have h31 : (x1 == 3) = true := by simpa using h3
       clear h3 HR2;obtain ⟨g4_0, g4_1⟩ := q4.c2;obtain ⟨g10_0, g10_1⟩ := q10.c2;obtain ⟨g16_0, g16_1⟩ := q16.c2
       go_wp2_with fail
       refine (coR_any x1 x1 x2 x2 hT1 pi1).mono ?_;rintro ee w15 ⟨rfl, be1⟩;rw [coRB_same];clear g4_0 g4_1 g10_0 g10_1 g16_0 g16_1;replace BB := btr BB be1;replace hB := hB.below be1;replace hU := hU.below be1;replace hG := hG.below be1;replace hA := hA.below be1;replace lz := lz.below be1;replace pi1 := pi1.below be1;replace pi2 := pi2.below be1;replace qi1 := qi1.below be1;replace qi2 := qi2.below be1;replace hT1 := hT1.below be1;replace hP2 := hP2.below be1;replace hAD := hAD.below be1;replace hTT := hTT.below be1;replace q4 := q4.below be1;replace q10 := q10.below be1;replace q16 := q16.below be1;clear be1
       go_wp2
       go_ret
       exact ⟨rfl, BB⟩
      have h31 : (x1 == 3) = false := by simpa using h3
      clear h3 HR2;obtain ⟨g4_0, g4_1⟩ := q4.c2;obtain ⟨g10_0, g10_1⟩ := q10.c2;obtain ⟨g16_0, g16_1⟩ := q16.c2
      go_wp2_with fail
      refine (coR_any x1 x1 x2 x2 hT1 pi1).mono ?_;rintro ee w15 ⟨rfl, be1⟩;rw [coRB_same];clear g4_0 g4_1 g10_0 g10_1 g16_0 g16_1;replace BB := btr BB be1;replace hB := hB.below be1;replace hU := hU.below be1;replace hG := hG.below be1;replace hA := hA.below be1;replace lz := lz.below be1;replace pi1 := pi1.below be1;replace pi2 := pi2.below be1;replace qi1 := qi1.below be1;replace qi2 := qi2.below be1;replace hT1 := hT1.below be1;replace hP2 := hP2.below be1;replace hAD := hAD.below be1;replace hTT := hTT.below be1;replace q4 := q4.below be1;replace q10 := q10.below be1;replace q16 := q16.below be1;clear be1
      go_wp2
      go_ret
      exact ⟨rfl, BB⟩
   have hk4 : (N : Int) ≤ kk := by omega
   have hk4' : kk ≥ (N : Int) := by omega
   have hx4 : x4 = false := by
    cases x4
    ·rfl
    have ht := trt_of HX.out
    omega
   subst hx4;clear HX HAC HLN
   go_wp2_with fail
   refine (coHolds_any).mono ?_;rintro ee w12 ⟨rfl, bh⟩;clear g4_0 g4_1 g10_0 g10_1 g13_0 g13_1;replace BB := btr BB bh;replace hB := hB.below bh;replace hU := hU.below bh;replace hG := hG.below bh;replace hA := hA.below bh;replace lz := lz.below bh;replace pi1 := pi1.below bh;replace pi2 := pi2.below bh;replace qi1 := qi1.below bh;replace qi2 := qi2.below bh;replace q4 := q4.below bh;replace q10 := q10.below bh;replace q13 := q13.below bh;clear bh
   go_wp2
   go_ret
   exact ⟨rfl, BB⟩
 go_enter Tryz.func4, Tryz.ntmps4
 go_wp2
 go_ret
 exact ⟨rfl, Below.refl _ _⟩
/-! ### The row's step -/
theorem lifted (os : Os) (started : os.Started) (H : Type) (enc : TypeId × Value → H) :
  ReturnsInHanded {} Tryz.checked os 4 .any (Rows.fnLocAloneSpec.pre6 enc Tryz.prog Tryz.f4 Rows.fnLocAloneRow.domain false) (Rows.fnLocAloneSpec.post enc Tryz.prog Tryz.f4 false true false false) := by
 refine returnsInHanded_of_change (C := Tryz.checked) own started (by kernel_rfl) Tryz.func4
  (ChangeSpec.witness6 (enc := enc) (C := Tryz.checked) false ⟨#[], #[.slice none 0 0], []⟩ 8 (by kernel_rfl) (by kernel_rfl) (by kernel_rfl) (by kernel_rfl)) ?_
 intro W base args ds gs before hval0 hW hcnd _;have hval : ∀ (j : Nat) t v, Tryz.f4.params[j]? = some t → args[j]? = some v → Value.okWide Tryz.prog W .any base t v := hval0;have hW' := hW;obtain ⟨p, q, hA0, hV, rfl, hfz, hnd⟩ := hW;have hA : DataW.TrodAll enc Tryz.prog W 0 (fun _ => true) true Tryz.f4.params.toList args.toList ds p := hA0;rw [Tryz.params4] at hA hval;obtain ⟨v0, vs0, d0, ds0, p0, q0, hargs, rfl, rfl, h0, r0⟩ := trodAll_cons hA;obtain ⟨rfl, rfl, rfl⟩ := trodAll_nil r0;obtain rfl : args = #[v0] := by cases args; simp_all
 obtain ⟨rfl, rfl⟩ := trodVars_none hV;have k0 := h0;have lt0 : ∀ x ∈ p0, x.block < W.heap.size := by obtain ⟨m, hm⟩ := k0; exact DataW.trod_lt m _ _ _ hm
 obtain ⟨a0, n0, cap0, C0, rfl, hC0, hn0⟩ := open_bytesT (hval 0 22 v0 rfl rfl) h0;clear hA0 hval0;refine (walk W a0 n0 cap0 C0 hC0 hn0).mono fun e W' ⟨he, bel⟩ => ?_;subst he
 exact ⟨_, rfl, _, _, _, [], _, [], hW', trodAll_mk1 (shut_bool Tryz.underlying4 _), (trodAll_cons_mk (Below.trod laidOut (by kernel_rfl) (of_decide_eq_true (by kernel_rfl)) k0 bel lt0) trodAll_mk0), rfl, bel.frame _, fun h => by cases h⟩
theorem over : Rows.fnLocAloneRow.holds Tryz.pinned (OpenSpec.ofChange Rows.fnLocAloneSpec) :=
 OpenClaim.holds_of_wide 4 Tryz.f4 rfl rfl rfl rfl rfl rfl rfl ⟨rfl, rfl, rfl, rfl, rfl⟩ rfl rfl rfl rfl rfl (by kernel_rfl) Tryz.func4 (by kernel_rfl)
  (of_decide_eq_true (by kernel_rfl)) (by unfold Func.isWrapper; first | (rw [if_pos (by decide +kernel)]; kernel_rfl) | (rw [if_neg (by decide +kernel)]; exact ⟨rfl, rfl⟩))
  (fun os started H enc _ => lifted os started H enc)
end Go.Proofs.YtemcinobgdphnaaGreat.fnLocAlone
namespace Go.Proofs.YtemcinobgdphnaaGreat
theorem fnLocAlone_holds : Rows.FnLocAloneSaid := fnLocAlone.over
#print axioms fnLocAlone_holds
end Go.Proofs.YtemcinobgdphnaaGreat
