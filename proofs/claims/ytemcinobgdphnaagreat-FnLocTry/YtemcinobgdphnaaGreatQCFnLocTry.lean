/-
  For all bytes FnLocTry returns true, and what came in reads behind the call as it did. No condition. (what one site does alone is what would come of it over all)
-/
import Derived.Test.YtemcinobgdphnaaGreatQCc
namespace Go.Proofs.YtemcinobgdphnaaGreat.fnLocTry
set_option maxHeartbeats 25600000
open Go.ChangeShapes Go.WideShapes Go.ChangeAt Go.RowKit
set_option linter.unusedVariables false
set_option maxRecDepth 100000
theorem open_bytesT {H : Type} {enc : TypeId × Value → H} {W : World} {r : Reach} {b0 : Nat} {v : Value} {d : DataW H} {p : List MemPlace}
  (hv : Value.okWide Tryz.prog W r b0 22 v) (h : DataW.Trod enc Tryz.prog W 0 (fun _ => true) true 22 v d p) : ∃ a n cap zs, v = .slice a n cap ∧ BInts W a n zs ∧ (n ≤ cap ∧ cap ≤ maxLen) := by
 obtain ⟨a0, len0, cap0, rfl⟩ := okWide_slice Tryz.underlying22 hv;obtain ⟨fuel, hf⟩ := h
 rcases open_ints Tryz.underlying22 Tryz.underlying5 (by kernel_rfl) hf with ⟨hcs, _⟩ | ⟨x, l, c, zs, hcs, _, hl, hm, hz, _, hcell, hwz⟩
 ·simp [Value.cells] at hcs;obtain ⟨rfl, rfl, rfl⟩ := hcs
  exact ⟨none, 0, 0, [], rfl, ⟨rfl, fun i hi => by omega, fun i => by simp⟩, by omega, by unfold maxLen; omega⟩
 simp [Value.cells] at hcs;obtain ⟨rfl, rfl, rfl⟩ := hcs;have hz' : zs.length = cap0 := by simpa using hz
 refine ⟨some x, len0, cap0, zs.take len0, rfl, ⟨by rw [List.length_take]; omega, fun i hi => ?_, fun i => ?_⟩, hl, hm⟩
 ·obtain ⟨b, off, spot⟩ := x;have hc0 := hcell 0 (by omega);have hspot : spot = none := by simpa [Addr.add] using World.cell?_spot hc0
  subst hspot;refine ⟨b, off, rfl, ?_⟩;have hc := hcell i (by omega)
  have : W.cell? ⟨b, off + i, none⟩ = some (.int .u8 (zs.getD i 0)) := by
   by_cases h0 : i = 0
   ·subst h0; simpa [Addr.add] using hc
   simpa [Addr.add, h0] using hc
  rw [this];simp [hi]
 by_cases hi : i < (zs.take len0).length
 ·rw [List.getElem?_eq_getElem hi];have := hwz _ (List.mem_of_mem_take (List.getElem_mem hi));simpa [Lit.wf, IntKind.min, IntKind.max, IntKind.signed, IntKind.bits] using this
 rw [List.getElem?_eq_none (by omega)];simp
theorem lit3 {W : World} {B : Nat} {x y z : Int} (h : Cel W B [.int .i64 x, .int .i64 y, .int .i64 z] 3) : Ints W (some ⟨B, 0, none⟩) 3 [x, y, z] := ⟨rfl, fun i hi => ⟨B, 0, rfl, by
 rw [Nat.zero_add, h.cell i]
 match i, hi with
 | 0, _ => rfl
 | 1, _ => rfl
 | 2, _ => rfl⟩⟩
theorem bnd3 {M x y z : Int} (h0 : 0 ≤ M) (hx : -M ≤ x ∧ x ≤ M) (hy : -M ≤ y ∧ y ≤ M) (hz : -M ≤ z ∧ z ≤ M) : bnd M [x, y, z] := fun i => by
 match i with
 | 0 => exact hx
 | 1 => exact hy
 | 2 => exact hz
 | i + 3 => simp; omega
theorem wt {x d e : Int} (h1 : 0 < d) (h2 : d ≤ 9) (e0 : 0 ≤ e) (e4 : e ≤ 4) : -20 ≤ IntKind.i64.wrap (x.tmod d - e) ∧ IntKind.i64.wrap (x.tmod d - e) ≤ 20 := by
 have a := Int.tmod_lt_of_pos x h1;have b := Int.lt_tmod_of_pos x h1;rw [wrap_id (by omega) (by omega)]
 omega
theorem cellA {W : World} {b i : Nat} {v : Value} {o : Obj} (h : W.cell? ⟨b, i, none⟩ = some v) : (W.alloc o).cell? ⟨b, i, none⟩ = some v := by
 rw [((Below.refl W.heap.size W).alloc (Nat.le_refl _) o).cell (p := ⟨b, i, none⟩) (block_lt h)]
 exact h
theorem wt5 {x e : Int} (e0 : 0 ≤ e) (e4 : e ≤ 4) : -20 ≤ IntKind.i64.wrap (x.tmod 5 - e) ∧ IntKind.i64.wrap (x.tmod 5 - e) ≤ 20 := wt (by omega) (by omega) e0 e4
theorem own3 {W : World} {B : Nat} {x y z : Int} (h : Cel W B [.int .i64 x, .int .i64 y, .int .i64 z] 3) : OwnX W (some ⟨B, 0, none⟩) B 3 [x, y, z] := ⟨rfl, .inr ⟨rfl, _, h, fun i hi => by
 match i, hi with
 | 0, _ => rfl
 | 1, _ => rfl
 | 2, _ => rfl⟩⟩
def PinZ (f : Nat → Bool) (ys : List Int) (v : Nat) : Prop := bnd 20 ys ∧ ∀ j, j < v → f j = true → ys[j]?.getD 0 = 0
theorem PinZ.skip {f : Nat → Bool} {ys : List Int} {v : Nat} (h : PinZ f ys v) (hv : f v = false) : PinZ f ys (v + 1) := ⟨h.1, fun j hj hf => by
 by_cases e : j = v
 ·subst e; rw [hv] at hf; cases hf
 exact h.2 j (by omega) hf⟩
theorem PinZ.set {f : Nat → Bool} {ys : List Int} {v : Nat} (h : PinZ f ys v) (hl : v < ys.length) : PinZ f (ys.set v 0) (v + 1) := by
 have e : ∀ j : Nat, (ys.set v 0)[j]?.getD 0 = if j = v then 0 else ys[j]?.getD 0 := fun j => by
  by_cases e : j = v
  ·subst e; rw [List.getElem?_set_self hl, if_pos rfl]; rfl
  rw [List.getElem?_set_ne (fun x => e x.symm), if_neg e]
 refine ⟨fun j => ?_, fun j hj hf => ?_⟩
 ·have := h.1 j;rw [e]; split <;> omega
 rw [e]
 split
 ·rfl
 exact h.2 j (by omega) hf
theorem goodA_of {n m : Nat} {C D : List Int} {ss : List L2V} {f : Nat → Bool} {k : Nat} {ys : List Int} (hf : pinsA ss = f) (h : PinZ f ys 3) (hk : keepB n m C D (ivs (catP ss)) (k : Int) 3 ys = true) : GoodA D ss k ys := by
 unfold keepB at hk;simp only [Bool.and_eq_true, Int.toNat_natCast] at hk
 exact ⟨fun i => by have := h.1 i; omega, hk.2, fun v hv hp => h.2 v hv (by rw [← hf]; exact hp)⟩
theorem sumT_le {B : List Int} {es : List IV} (hB : B.length = 3) : ∀ k, (sumT B es k).length ≤ 3
 | 0 => by rw [sumT]; omega
 | k + 1 => by
  have := sumT_le (es := es) hB k;rw [sumT, List.length_zipWith]
  omega
theorem keep_bnd {n m : Nat} {C D : List Int} {P : List IV} {s : Int} {x : List Int} (h : keepB n m C D P s 3 x = true) : bnd 20000 x := by
 unfold keepB at h;simp only [Bool.and_eq_true] at h
 exact (viewB_elim h.1).2.2.2.2.2.2.2.2.1
theorem set_good {k u : Nat} {es : List IV} (hl : es.length = k) (h3 : ∀ i, i < k → (es[i]?.getD noI).n = 3) (hb : ∀ i, i < k → bnd 20000 (es[i]?.getD noI).x) {a : Option Addr} {c : Nat} {x : List Int} (hx : bnd 20000 x) {i : Nat} (hi : i < k) : ((es.set u ⟨a, 3, c, x⟩)[i]?.getD noI).n = 3 ∧ bnd 20000 ((es.set u ⟨a, 3, c, x⟩)[i]?.getD noI).x := by
 by_cases e : i = u
 ·subst e; rw [set_self (by omega)]; exact ⟨rfl, hx⟩
 rw [set_else e]; exact ⟨h3 i hi, hb i hi⟩
structure TryEnd (gn : Nat) (B G : List Int) (N : Nat) (ss : List L2V) (u : Nat) (kn : Nat) (U : List Int) (es : List IV) (x1 : Int) (x2 x3 : List Int) : Prop where
 k : keepB 3 gn B G (ivs (catP ss)) (u : Int) 3 x3 = true
 l : x3.length = 3
 r : okN 3 10000 3 (sumT B es gn) = true → ∀ y : IV, y.x = x3 → runCode (ss[kn]?.getD noL).n (ss[kn]?.getD noL).x 3 (sumT B es gn) 2 U = x1 ∧ runTells (ss[kn]?.getD noL).n (ss[kn]?.getD noL).x 3 (sumT B es gn) 2 U = x2 ∧ runPots (ss[kn]?.getD noL).n (ss[kn]?.getD noL).x 3 (sumT B es gn) 2 U = sumT B (es.set u y) gn
theorem try_end {gn : Nat} {B G E : List Int} {N : Nat} {ss : List L2V} {u kn : Nat} {U : List Int} {es : List IV} {x1 : Int} {x2 x3 : List Int} (hB : B.length = 3) (hG : G.length = gn) (hE : E.length = 3) (hA : ActsOk N ss) (hes : es.length = gn) (h3 : ∀ i, i < gn → (es[i]?.getD noI).x.length = 3) (hu : u < gn) (h : AddT G ss es gn u E) (hx : locL 3 gn B G N ss (u : Int) 3 E (kn : Int) 2 U = (x1, x2, x3, true)) : TryEnd gn B G N ss u kn U es x1 x2 x3 := by
 obtain ⟨h1, h2⟩ := loc_keeps hE hx;refine ⟨h1, h2, fun hV y hy => ?_⟩;have := loc_try hB hG hE hA hes h3 (h.2 hu) (fun i hi _ => (h.1 i hi).2.1) (fun i hi v hv hp => (h.1 i hi).2.2 v hv hp) hV hx y hy;simpa using this
theorem walk (w : World) (a : Option Addr) (n cap : Nat) (A0 : List Int) (hA0 : BInts w a n A0) (hn : n ≤ cap ∧ cap ≤ maxLen) (c : Option Addr) (m cap' : Nat) (B0 : List Int) (hB0 : BInts w c m B0) (hm : m ≤ cap' ∧ cap' ≤ maxLen) :
  Calls Tryz.prog 3 #[.slice a n cap, .slice c m cap'] w fun e w' => e = .returned (.bool true) ∧ Below w.heap.size w w' := by
 obtain ⟨hn2, hn3⟩ := hn;obtain ⟨hm2, hm3⟩ := hm
 by_cases hn1 : n ≤ 1048576
 ·by_cases hm1 : m ≤ 1048576
  ·go_enter Tryz.func3, Tryz.ntmps3
   go_wp2_with fail
   refine (dLoc A0 hA0 hn2 hn1 hn3).mono ?_;rintro ee w1 ⟨ad, N, c, ss, ba, bn, bc, ga, gn, gc, B, G, s, ea, en, ec, E, kk, ua, un, uc, U, rfl, b1, hN, hN5, hB, hbn, hgn, _, hE, hen, hU, hun, hs0, hs3, hk0, hk5, gb, LL, hO, hoff, hlate⟩;have BB := b1;replace hB0 := hB0.below b1;clear b1;have HN : Hid (ss.length = N) := hN;clear hN;have hG := hO.ints;have hA := hlate (fun _ => False) w1 (Touch.refl _ _) (fun k h => h.elim);clear hO hoff hlate;have al := (Below.refl (w1).heap.size (w1)).alloc (Nat.le_refl _) (.cells #[.slice ba bn bc, .slice ga gn gc] 26);replace BB := btr BB al;replace hB0 := hB0.below al;replace hB := hB.below al;replace hE := hE.below al;replace hU := hU.below al;replace hG := hG.below al;replace hA := hA.below al;clear al;have q6 := Cel.new (w1) [.slice ba bn bc, .slice ga gn gc] 26;obtain ⟨x, hx⟩ : ∃ x, locL bn gn B G N ss s en E kk un U = x := ⟨_, rfl⟩
   have HX : Hid (locL bn gn B G N ss s en E kk un U = x) := hx;clear hx;obtain ⟨x1, x2, x3, x4⟩ := x;obtain ⟨g6_0, g6_1⟩ := q6.c2
   go_wp2_with fail
   generalize (w1).alloc (.cells #[.slice ba bn bc, .slice ga gn gc] 26) = W2 at hB0 hB hE hU hG hA q6 BB g6_0 g6_1 ⊢;obtain ⟨X6, hX6⟩ : ∃ x, x = w1.heap.size := ⟨_, rfl⟩
   rw [← hX6];rw [← hX6] at q6 g6_0 g6_1;have loX6 : w1.heap.size ≤ X6 := by omega
   have upX6 : X6 ≤ w1.heap.size := by omega
   clear hX6;refine (iloc_any ad N c ba bn bc ga gn gc s ea en ec kk ua un uc ss B G E U hA hB hG hE hU HN.out (by omega) (by omega) (by omega) (by omega) (by omega)).mono ?_;rintro ee w3 hL;rw [HX.out] at hL;obtain ⟨pa, pn, pcap, pB, pc, pk, pcap2, pB2, rfl, pl1, pl2, pb, po1, po2, -, -, -⟩ := hL;have pi1 := po1.ints;have pi2 := po2.ints;clear po1 po2;dsimp only at pl1 pl2 pi1 pi2;clear g6_0 g6_1;replace BB := btr BB pb;replace hB0 := hB0.below pb;replace hB := hB.below pb;replace hE := hE.below pb;replace hU := hU.below pb;replace hG := hG.below pb;replace hA := hA.below pb;replace q6 := q6.below pb;clear pb;have al := (Below.refl (w3).heap.size (w3)).alloc (Nat.le_refl _) (.cells #[.int .i64 x1, .slice pa pn pcap] 30);replace BB := btr BB al;replace hB0 := hB0.below al;replace hB := hB.below al;replace hE := hE.below al;replace hU := hU.below al;replace hG := hG.below al;replace hA := hA.below al;replace pi1 := pi1.below al;replace pi2 := pi2.below al;replace q6 := q6.below al;clear al;have q11 := Cel.new (w3) [.int .i64 x1, .slice pa pn pcap] 30;obtain ⟨g6_0, g6_1⟩ := q6.c2;obtain ⟨g11_0, g11_1⟩ := q11.c2
   go_wp2_with fail
   generalize (w3).alloc (.cells #[.int .i64 x1, .slice pa pn pcap] 30) = W4 at hB0 hB hE hU hG hA pi1 pi2 q6 q11 BB g6_0 g6_1 g11_0 g11_1 ⊢;obtain ⟨X11, hX11⟩ : ∃ x, x = w3.heap.size := ⟨_, rfl⟩
   rw [← hX11];rw [← hX11] at q11 g11_0 g11_1;have loX11 : w3.heap.size ≤ X11 := by omega
   have upX11 : X11 ≤ w3.heap.size := by omega
   clear hX11;refine (sloc_any ad N c ba bn bc ga gn gc s ea en ec kk ua un uc ss B G E U hA hB hG hE hU HN.out (by omega) (by omega) (by omega) (by omega) (by omega)).mono ?_;rintro ee w5 hL;rw [HX.out] at hL;obtain ⟨qa, qn, qcap, qB, qc, qk, qcap2, qB2, rfl, ql1, ql2, qb, qo1, qo2, -, -, -⟩ := hL;have qi1 := qo1.ints;have qi2 := qo2.ints;clear qo1 qo2;dsimp only at ql1 ql2 qi1 qi2;clear g6_0 g6_1 g11_0 g11_1;replace BB := btr BB qb;replace hB0 := hB0.below qb;replace hB := hB.below qb;replace hE := hE.below qb;replace hU := hU.below qb;replace hG := hG.below qb;replace hA := hA.below qb;replace pi1 := pi1.below qb;replace pi2 := pi2.below qb;replace q6 := q6.below qb;replace q11 := q11.below qb;clear qb;have al := (Below.refl (w5).heap.size (w5)).alloc (Nat.le_refl _) (.cells #[.int .i64 x1, .slice qa qn qcap] 30);replace BB := btr BB al;replace hB0 := hB0.below al;replace hB := hB.below al;replace hE := hE.below al;replace hU := hU.below al;replace hG := hG.below al;replace hA := hA.below al;replace pi1 := pi1.below al;replace pi2 := pi2.below al;replace qi1 := qi1.below al;replace qi2 := qi2.below al;replace q6 := q6.below al;replace q11 := q11.below al;clear al;have q14 := Cel.new (w5) [.int .i64 x1, .slice qa qn qcap] 30;have HAC : Hid (ActsOk N ss) := LSG.acts hA HN.out;have HE3 : Hid (E.length = en) := hE.1;have hne : (x4 != x4) = false := by cases x4 <;> rfl
   have HLN : Hid (x2.length ≤ 1000 ∧ x3.length ≤ 4) := loc_len HE3.out (by omega) HAC.out HX.out;have hLN1 := HLN.out.1;have hLN2 := HLN.out.2;obtain ⟨g6_0, g6_1⟩ := q6.c2;obtain ⟨g11_0, g11_1⟩ := q11.c2;obtain ⟨g14_0, g14_1⟩ := q14.c2
   go_wp2_with fail
   generalize (w5).alloc (.cells #[.int .i64 x1, .slice qa qn qcap] 30) = W6 at hB0 hB hE hU hG hA pi1 pi2 qi1 qi2 q6 q11 q14 BB g6_0 g6_1 g11_0 g11_1 g14_0 g14_1 ⊢;obtain ⟨X14, hX14⟩ : ∃ x, x = w5.heap.size := ⟨_, rfl⟩
   rw [← hX14];rw [← hX14] at q14 g14_0 g14_1;have loX14 : w5.heap.size ≤ X14 := by omega
   have upX14 : X14 ≤ w5.heap.size := by omega
   clear hX14;refine (coR_any x1 x1 x2 x2 pi1 qi1).mono ?_;rintro ee w7 ⟨rfl, b4⟩;rw [coRB_same];clear g6_0 g6_1 g11_0 g11_1 g14_0 g14_1;replace BB := btr BB b4;replace hB0 := hB0.below b4;replace hB := hB.below b4;replace hE := hE.below b4;replace hU := hU.below b4;replace hG := hG.below b4;replace hA := hA.below b4;replace pi1 := pi1.below b4;replace pi2 := pi2.below b4;replace qi1 := qi1.below b4;replace qi2 := qi2.below b4;replace q6 := q6.below b4;replace q11 := q11.below b4;replace q14 := q14.below b4;clear b4;obtain ⟨g6_0, g6_1⟩ := q6.c2;obtain ⟨g11_0, g11_1⟩ := q11.c2;obtain ⟨g14_0, g14_1⟩ := q14.c2
   go_wp2_with fail
   refine (coI_any x3 x3 pi2 qi2 (by omega) (by omega)).mono ?_;rintro ee w8 ⟨rfl, b5⟩;rw [eqB_refl];clear g6_0 g6_1 g11_0 g11_1 g14_0 g14_1;replace BB := btr BB b5;replace hB0 := hB0.below b5;replace hB := hB.below b5;replace hE := hE.below b5;replace hU := hU.below b5;replace hG := hG.below b5;replace hA := hA.below b5;replace pi1 := pi1.below b5;replace pi2 := pi2.below b5;replace qi1 := qi1.below b5;replace qi2 := qi2.below b5;replace q6 := q6.below b5;replace q11 := q11.below b5;replace q14 := q14.below b5;clear b5
   cases x4
   ·have hne : (false != false) = false := rfl;have hLF := loc_false HX.out;obtain ⟨rfl, hLF⟩ := hLF;have HF : Hid (x3 = [] ∨ x3 = E) := hLF;clear hLF HX HAC HLN
    by_cases hz : pk = 0
    ·have hz1 : ((pk : Int) == 0) = true := by simpa using hz
     obtain ⟨g6_0, g6_1⟩ := q6.c2;obtain ⟨g11_0, g11_1⟩ := q11.c2;obtain ⟨g14_0, g14_1⟩ := q14.c2
     go_wp2_with fail
     refine (coHolds_any).mono ?_;rintro ee w9 ⟨rfl, bh⟩;clear g6_0 g6_1 g11_0 g11_1 g14_0 g14_1;replace BB := btr BB bh;replace hB0 := hB0.below bh;replace hB := hB.below bh;replace hE := hE.below bh;replace hU := hU.below bh;replace hG := hG.below bh;replace hA := hA.below bh;replace pi1 := pi1.below bh;replace pi2 := pi2.below bh;replace qi1 := qi1.below bh;replace qi2 := qi2.below bh;replace q6 := q6.below bh;replace q11 := q11.below bh;replace q14 := q14.below bh;clear bh
     go_wp2
     go_ret
     exact ⟨rfl, BB⟩
    have hz1 : ((pk : Int) == 0) = false := by simp; omega
    have HQ : Hid (x3 = E) := by
     rcases HF.out with h | h
     ·rw [h] at pl2; simp at pl2; omega
     exact h
    obtain ⟨g6_0, g6_1⟩ := q6.c2;obtain ⟨g11_0, g11_1⟩ := q11.c2;obtain ⟨g14_0, g14_1⟩ := q14.c2
    go_wp2_with fail
    refine (coI_any x3 E pi2 hE (by omega) (by omega)).mono ?_;rintro ee w9 ⟨rfl, b6⟩;rw [HQ.out, eqB_refl];clear g6_0 g6_1 g11_0 g11_1 g14_0 g14_1;replace BB := btr BB b6;replace hB0 := hB0.below b6;replace hB := hB.below b6;replace hE := hE.below b6;replace hU := hU.below b6;replace hG := hG.below b6;replace hA := hA.below b6;replace pi1 := pi1.below b6;replace pi2 := pi2.below b6;replace qi1 := qi1.below b6;replace qi2 := qi2.below b6;replace q6 := q6.below b6;replace q11 := q11.below b6;replace q14 := q14.below b6;clear b6;obtain ⟨g6_0, g6_1⟩ := q6.c2;obtain ⟨g11_0, g11_1⟩ := q11.c2;obtain ⟨g14_0, g14_1⟩ := q14.c2
    go_wp2_with fail
    refine (coHolds_any).mono ?_;rintro ee w10 ⟨rfl, bh⟩;clear g6_0 g6_1 g11_0 g11_1 g14_0 g14_1;replace BB := btr BB bh;replace hB0 := hB0.below bh;replace hB := hB.below bh;replace hE := hE.below bh;replace hU := hU.below bh;replace hG := hG.below bh;replace hA := hA.below bh;replace pi1 := pi1.below bh;replace pi2 := pi2.below bh;replace qi1 := qi1.below bh;replace qi2 := qi2.below bh;replace q6 := q6.below bh;replace q11 := q11.below bh;replace q14 := q14.below bh;clear bh
    go_wp2
    go_ret
    exact ⟨rfl, BB⟩
   have hne : (true != true) = false := rfl;have hY := loc_yes HX.out;obtain ⟨y1, rfl, rfl, rfl, y5, y6, y7, y8, y9, y10, y11, y12, y13, y14, y15, y16⟩ := hY;obtain ⟨u, rfl⟩ := Int.eq_ofNat_of_zero_le y7;obtain ⟨kn, rfl⟩ := Int.eq_ofNat_of_zero_le y9;have hug : u < gn := by omega
   have hkN : kn < N := by omega
   have HC : Hid (catB N ss = true) := y1;have HEG : Hid (GoodA G ss u E) := ⟨y13, (by simpa using y15), y16⟩
   have HG0 : Hid (∀ i : Nat, i < gn → 0 ≤ G[i]?.getD 0) := fun i hi => (y14 i (by rw [hG.1]; exact hi)).1;have HBB : Hid (bnd 10000 B) := y12;clear y1 y5 y6 y7 y8 y9 y10 y12 y13 y14 y15 y16 hs0 hs3 hk0 hk5 hLN1;have HKP : Hid (x3.length = 3) := (loc_keeps HE3.out HX.out).2;obtain rfl : pk = 3 := by rw [← pl2, HKP.out]
   have HP1 : Hid (x2.length = pn) := pl1;clear pl1 pl2 ql1 ql2 hLN2;have hpn : pn ≤ 1000 := by rw [← HP1.out]; exact HLN.out.1
   clear HLN qi1 qi2;obtain ⟨F, hF⟩ : ∃ F, pinsA ss = F := ⟨_, rfl⟩
   have HF : Hid (pinsA ss = F) := hF;obtain ⟨i0, hi, hz0, hz1, hz2⟩ := info_parts Tryz.infoI;obtain ⟨g6_0, g6_1⟩ := q6.c2;obtain ⟨g11_0, g11_1⟩ := q11.c2;obtain ⟨g14_0, g14_1⟩ := q14.c2
   go_wp2_with fail
   refine (pParts ss HN.out hA (by omega) HC.out).mono ?_;rintro ee w9 ⟨ta, tc, ts, tn, rfl, b6, hT, htn, htn1, htl, htc⟩;clear g6_0 g6_1 g11_0 g11_1 g14_0 g14_1;replace BB := btr BB b6;replace hB0 := hB0.below b6;replace hB := hB.below b6;replace hE := hE.below b6;replace hU := hU.below b6;replace hG := hG.below b6;replace hA := hA.below b6;replace pi1 := pi1.below b6;replace pi2 := pi2.below b6;replace q6 := q6.below b6;replace q11 := q11.below b6;replace q14 := q14.below b6;clear b6;have HT : Hid (ts.length = tn ∧ ts.length = (ivs (catP ss)).length ∧ copiesIS (ivs (catP ss)) ts) := ⟨htn, htl, htc⟩
   clear htn htl htc;obtain ⟨g6_0, g6_1⟩ := q6.c2;obtain ⟨g11_0, g11_1⟩ := q11.c2;obtain ⟨g14_0, g14_1⟩ := q14.c2
   go_wp2_with fail
   refine (pPins ss HN.out hA (by omega) HC.out).mono ?_;rintro ee w10 ⟨Gp, cp, rfl, b7, hP, lGp⟩;rw [hF] at hP;clear g6_0 g6_1 g11_0 g11_1 g14_0 g14_1;replace BB := btr BB b7;replace hB0 := hB0.below b7;replace hB := hB.below b7;replace hE := hE.below b7;replace hU := hU.below b7;replace hG := hG.below b7;replace hA := hA.below b7;replace pi1 := pi1.below b7;replace pi2 := pi2.below b7;replace hT := hT.below b7;replace q6 := q6.below b7;replace q11 := q11.below b7;replace q14 := q14.below b7;clear b7;clear hF lGp
   go_wp2_with fail
   generalize w10 = wb at hB0 hB hE hU hG hA pi1 pi2 hT hP q6 q11 q14 BB ⊢;have HEA : Hid (∀ b o, ea = some ⟨b, o, none⟩ → b < wb.heap.size) := fun b o e => by (have h := hE; rw [e] at h; exact h.blk (by omega))
   have HPA : Hid (∀ b o, pc = some ⟨b, o, none⟩ → b < wb.heap.size) := fun b o e => by (have h := pi2; rw [e] at h; exact h.blk (by omega))
   have HWB : Hid (w.heap.size ≤ wb.heap.size) := BB.size;have HBW : Hid (Below w.heap.size w wb) := BB;have HOLD : Hid (Ints wb ba 3 B ∧ Ints wb ga gn G ∧ ISG wb (some ⟨ta, 0, none⟩) ts ∧ Ints wb pc 3 x3 ∧ Ints wb pa pn x2 ∧ Cel wb X6 [.slice ba 3 bc, .slice ga gn gc] 26 ∧ Cel wb X11 [.int .i64 x1, .slice pa pn pcap] 30) := ⟨hB, hG, hT, pi2, pi1, q6, q11⟩
   go_loopw [19, 20] (fun v i wr => ∃ (k : Nat) (es : List IV) (G1 c1 : Nat), k ≤ gn ∧ i = .int .i64 k ∧ v = .slice (some ⟨G1, 0, none⟩) k c1 ∧ es.length = k ∧ JP wb G1 c1 es wr ∧ AddT G ss es k u E) (fun _ i _ => gn - (intOf i).toNat)
   case atStart => exact ⟨0, [], _, _, by omega, rfl, rfl, rfl, JP.nil wb wb (Below.refl _ _), AddT.nil G ss u E⟩
   case round =>
    obtain ⟨k, es, G1, c1, hk, rfl, rfl, hes, j, ak⟩ := hrel;have HES : Hid (es.length = k) := hes;clear hes;have hb := j.b;replace BB := btr BB hb;replace hB0 := hB0.below hb;replace hB := hB.below hb;replace hE := hE.below hb;replace hU := hU.below hb;replace hG := hG.below hb;replace hA := hA.below hb;replace pi1 := pi1.below hb;replace pi2 := pi2.below hb;replace hT := hT.below hb;replace hP := hP.below hb;replace q6 := q6.below hb;replace q11 := q11.below hb;replace q14 := q14.below hb;clear hb
    by_cases hlt : k < gn
    ·have hlt' : (k : Int) < (gn : Int) := by omega
     generalize wr = wo at j hB0 hB hE hU hG hA pi1 pi2 hT hP q6 q11 q14 BB ⊢;have JG : Hid (G1 < wo.heap.size) := j.lt.2;obtain ⟨g6_0, g6_1⟩ := q6.c2;obtain ⟨g11_0, g11_1⟩ := q11.c2;obtain ⟨g14_0, g14_1⟩ := q14.c2
     go_wp2_with fail
     clear g6_0 g6_1 g11_0 g11_1 g14_0 g14_1
     go_loopw [21, 22] (fun x jx wx => ∃ (j2 xa : Nat) (xs : List Int), j2 ≤ 32 ∧ jx = .int .i64 j2 ∧ x = .slice (some ⟨xa, 0, none⟩) 3 3 ∧ Ints wx (some ⟨xa, 0, none⟩) 3 xs ∧ GoodA G ss k xs ∧ wo.heap.size ≤ xa ∧ Below wo.heap.size wo wx) (fun _ jx _ => 40 - (intOf jx).toNat)
     case atStart => exact ⟨0, _, _, by omega, rfl, rfl, lit3 (Cel.new wo _ _), GoodA.zero (HG0.out k hlt), Nat.le_refl _, bal⟩
     case round =>
      obtain ⟨j2, xa, xs, hj2, rfl, rfl, hX, bX, lX, hb⟩ := hrel;have hb0 := hb;have HBX : Hid (GoodA G ss k xs) := bX;clear bX;replace BB := btr BB hb;replace hB0 := hB0.below hb;replace hB := hB.below hb;replace hE := hE.below hb;replace hU := hU.below hb;replace hG := hG.below hb;replace hA := hA.below hb;replace pi1 := pi1.below hb;replace pi2 := pi2.below hb;replace hT := hT.below hb;replace hP := hP.below hb;replace q6 := q6.below hb;replace q11 := q11.below hb;replace q14 := q14.below hb;clear hb
      go_upto_region 18 with fail
      go_cut [121] from 113 to 169 (fun v wx => v = .bool (decide (j2 + 2 < m) && decide (j2 < 30)) ∧ wx = wr)
      case first =>
       clear hB0 hB hE hU hG hA pi1 pi2 hT hP hX q6 q11 q14 BB j
       by_cases h1 : j2 + 2 < m
       ·have h1' : (j2 : Int) + 2 < (m : Int) := by omega
        have HD1 : Hid (decide (j2 + 2 < m) = true) := decide_eq_true h1
        by_cases h2 : j2 < 30
        ·have h2' : (j2 : Int) < 30 := by omega
         have HD2 : Hid (decide (j2 < 30) = true) := decide_eq_true h2
         go_wp2
         go_meet
         case rel => exact ⟨by rw [HD1.out, HD2.out]; rfl, rfl⟩
        have h2' : ¬ (j2 : Int) < 30 := by omega
        have HD2 : Hid (decide (j2 < 30) = false) := decide_eq_false h2
        go_wp2
        go_meet
        case rel => exact ⟨by rw [HD1.out, HD2.out]; rfl, rfl⟩
       have h1' : ¬ (j2 : Int) + 2 < (m : Int) := by omega
       have HD1 : Hid (decide (j2 + 2 < m) = false) := decide_eq_false h1
       go_wp2
       go_meet
       case rel => exact ⟨by rw [HD1.out]; rfl, rfl⟩
      case rest =>
       obtain ⟨rfl, rfl⟩ := hcut
       cases hgo : (decide (j2 + 2 < m) && decide (j2 < 30))
       ·clear hgo;replace j := j.below hb0;have jlt := j.lt;have j1 := j;clear j
        by_cases hks : k = u
        ·have hks' : ((k : Int) == (u : Int)) = true := by rw [hks]; simp
         have HGK : Hid (GoodA G ss k E) := by (show GoodA G ss k E; rw [hks]; exact HEG.out)
         clear hX hks;have hGx : ∀ b o, (ea : Option Addr) = some ⟨b, o, none⟩ → b ≠ G1 := fun b o e => by (have h := HEA.out b o e; have := jlt.1; omega)
         have al := (Below.refl wc.heap.size wc).alloc (Nat.le_refl _) (.cells #[.slice ea 3 ec] 24);have oj := own_below j1.o al;rw [HES.out] at oj;have hsz := (j1.below al).b.size;clear al
         go_wp2_with (at_builtin; refine wpList_append_lies _ rfl (.tmp 174) (.tmp 176) 36 rfl wb.heap.size 24 i0 _ 1 24 Tryz.underlying36 hi hz0 hz1 hz2 rfl (by omega) (.slice (some ⟨G1, 0, none⟩) k c1) k (es.map IV.v) (by rfl) oj ⟨wc.heap.size, 0, none⟩ 1 1 [.slice ea 3 ec] (by rfl) (by rfl) (World.news_of_block (cs := #[.slice ea 3 ec]) (t := 24) (fr := (0, 0)) (heap_alloc_new wc _)) (by simp [Value.oneCell']) (by omega) (by unfold maxLen; omega) (by omega) hsz (wc.heap.size + 1) (by rw [World.size_alloc]) ?_)
         intro g9 cp9 w9 hown hgrow hat9 _;have jn := j1.app (s := ⟨ea, 3, ec, E⟩) HES.out rfl hE hGx hown hgrow (by rcases hat9 with h | h; exact .inl (by simpa [Value.ownBlock] using h.symm); exact .inr (by omega));clear hown hgrow j1 oj
         go_wp2
         go_roundw
         case rel => exact ⟨k + 1, _, g9, cp9, by omega, by go_num, rfl, by rw [List.length_append, HES.out]; rfl, jn, ak.app HES.out HGK.out (fun _ => rfl)⟩
         case measure => simp [intOf]; omega
        have hks' : ((k : Int) == (u : Int)) = false := by simp; omega
        have hGx : ∀ b o, ((some ⟨xa, 0, none⟩) : Option Addr) = some ⟨b, o, none⟩ → b ≠ G1 := fun b o e => by (have e' : (some ⟨xa, 0, none⟩ : Option Addr) = some ⟨b, o, none⟩ := e; simp only [Option.some.injEq, Addr.mk.injEq] at e'; have := JG.out; omega)
        have al := (Below.refl wc.heap.size wc).alloc (Nat.le_refl _) (.cells #[.slice (some ⟨xa, 0, none⟩) 3 3] 24);have oj := own_below j1.o al;rw [HES.out] at oj;have hsz := (j1.below al).b.size;clear al
        go_wp2_with (at_builtin; refine wpList_append_lies _ rfl (.tmp 174) (.tmp 176) 36 rfl wb.heap.size 24 i0 _ 1 24 Tryz.underlying36 hi hz0 hz1 hz2 rfl (by omega) (.slice (some ⟨G1, 0, none⟩) k c1) k (es.map IV.v) (by rfl) oj ⟨wc.heap.size, 0, none⟩ 1 1 [.slice (some ⟨xa, 0, none⟩) 3 3] (by rfl) (by rfl) (World.news_of_block (cs := #[.slice (some ⟨xa, 0, none⟩) 3 3]) (t := 24) (fr := (0, 0)) (heap_alloc_new wc _)) (by simp [Value.oneCell']) (by omega) (by unfold maxLen; omega) (by omega) hsz (wc.heap.size + 1) (by rw [World.size_alloc]) ?_)
        intro g9 cp9 w9 hown hgrow hat9 _;have jn := j1.app (s := ⟨(some ⟨xa, 0, none⟩), 3, 3, xs⟩) HES.out rfl hX hGx hown hgrow (by rcases hat9 with h | h; exact .inl (by simpa [Value.ownBlock] using h.symm); exact .inr (by omega));clear hown hgrow j1 oj
        go_wp2
        go_roundw
        case rel => exact ⟨k + 1, _, g9, cp9, by omega, by go_num, rfl, by rw [List.length_append, HES.out]; rfl, jn, ak.app HES.out HBX.out (fun h => absurd h hks)⟩
        case measure => simp [intOf]; omega
       obtain ⟨wk, hwk⟩ : ∃ x, x = wc := ⟨_, rfl⟩
       subst hwk;have hg2 : j2 + 2 < m ∧ j2 < 30 := by simpa using hgo
       obtain ⟨hg2, hg3⟩ := hg2;clear hgo;obtain ⟨mb, mo, rfl, hcm⟩ := hB0.pos (by omega);have d0 := hcm j2 (by omega);have d1 := hcm (j2 + 1) (by omega);have d2 := hcm (j2 + 2) (by omega);have v0 := hB0.2.2 j2;have v1 := hB0.2.2 (j2 + 1);have v2 := hB0.2.2 (j2 + 2);clear hcm;obtain ⟨q0, hq0⟩ : ∃ q, q = B0.getD j2 0 := ⟨_, rfl⟩
       obtain ⟨q1, hq1⟩ : ∃ q, q = B0.getD (j2 + 1) 0 := ⟨_, rfl⟩
       obtain ⟨q2, hq2⟩ : ∃ q, q = B0.getD (j2 + 2) 0 := ⟨_, rfl⟩
       rw [← hq0] at d0;rw [← hq1] at d1;rw [← hq2] at d2;rw [← List.getD_eq_getElem?_getD, ← hq0] at v0;rw [← List.getD_eq_getElem?_getD, ← hq1] at v1;rw [← List.getD_eq_getElem?_getD, ← hq2] at v2;clear hq0 hq1 hq2;have a1 : (j2 : Int) < (m : Int) := by omega
       have a2 : (j2 : Int) + 1 < (m : Int) := by omega
       have a3 : (j2 : Int) + 2 < (m : Int) := by omega
       go_upto_region 20 with fail
       go_cut [23] from 113 to 169 (fun v wx => ∃ (y0 y1 y2 : Int) (Y : Nat), v = .slice (some ⟨Y, 0, none⟩) 3 3 ∧ Cel wx Y [.int .i64 y0, .int .i64 y1, .int .i64 y2] 3 ∧ (-20 ≤ y0 ∧ y0 ≤ 20) ∧ (-20 ≤ y1 ∧ y1 ≤ 20) ∧ (-20 ≤ y2 ∧ y2 ≤ 20) ∧ wk.heap.size ≤ Y ∧ Below wk.heap.size wk wx)
       case first =>
        clear hB0 hB hE hU hG hA pi1 pi2 hT hP hX q6 q11 q14 BB j;have i1 : IntKind.i64.wrap ((j2 : Int) + 1) = (j2 : Int) + 1 := wrap_id (by omega) (by omega);have i2 : IntKind.i64.wrap ((j2 : Int) + 2) = (j2 : Int) + 2 := wrap_id (by omega) (by omega);have n1 : ((j2 : Int) + 1).toNat = j2 + 1 := by omega
        have n2 : ((j2 : Int) + 2).toNat = j2 + 2 := by omega
        have p1 : 0 ≤ (j2 : Int) + 1 := by omega
        have p2 : 0 ≤ (j2 : Int) + 2 := by omega
        refine wp_region_ends (fun X => X.cell? ⟨mb, mo + j2, none⟩ = some (.int .u8 q0) ∧ X.cell? ⟨mb, mo + (j2 + 1), none⟩ = some (.int .u8 q1) ∧ X.cell? ⟨mb, mo + (j2 + 2), none⟩ = some (.int .u8 q2)) (fun _ => True) 27 (by kernel_rfl) ?_;have dr : Below wk.heap.size wk wk.drew := (Below.refl _ _).drew;have hSS : (fun X : World => X.cell? ⟨mb, mo + j2, none⟩ = some (.int .u8 q0) ∧ X.cell? ⟨mb, mo + (j2 + 1), none⟩ = some (.int .u8 q1) ∧ X.cell? ⟨mb, mo + (j2 + 2), none⟩ = some (.int .u8 q2)) wk.drew ∧ True := ⟨⟨d0, d1, d2⟩, trivial⟩
        obtain ⟨V, hV⟩ : ∃ V, V = wk.drew := ⟨_, rfl⟩
        rw [← hV];rw [← hV] at hSS dr;clear hV d0 d1 d2;refine tkl 0 rfl hSS ?_;refine tkl 1 rfl hSS ?_;refine tkl 2 rfl hSS ?_;simp only [Act.put, List.setIfInBounds_toArray, List.set_cons_succ, List.set_cons_zero, List.getElem_toArray, List.getElem_cons_succ, List.getElem_cons_zero];refine tkl 3 rfl hSS ?_;refine tkl 4 rfl hSS ?_;refine tkl 5 rfl hSS ?_;simp only [Act.put, List.setIfInBounds_toArray, List.set_cons_succ, List.set_cons_zero, List.getElem_toArray, List.getElem_cons_succ, List.getElem_cons_zero];refine tkl 6 rfl hSS ?_;refine tkl 7 rfl hSS ?_;refine tkl 8 rfl hSS ?_;simp only [Act.put, List.setIfInBounds_toArray, List.set_cons_succ, List.set_cons_zero, List.getElem_toArray, List.getElem_cons_succ, List.getElem_cons_zero];refine tkl 9 rfl hSS ?_;refine tkl 10 rfl hSS ?_;refine tkl 11 rfl hSS ?_;simp only [Act.put, List.setIfInBounds_toArray, List.set_cons_succ, List.set_cons_zero, List.getElem_toArray, List.getElem_cons_succ, List.getElem_cons_zero];refine tkl 12 rfl hSS ?_;refine tkl 13 rfl hSS ?_;refine tkl 14 rfl hSS ?_;simp only [Act.put, List.setIfInBounds_toArray, List.set_cons_succ, List.set_cons_zero, List.getElem_toArray, List.getElem_cons_succ, List.getElem_cons_zero];refine tkl 15 rfl hSS ?_;refine tkl 16 rfl hSS ?_;refine tkl 17 rfl hSS ?_;simp only [Act.put, List.setIfInBounds_toArray, List.set_cons_succ, List.set_cons_zero, List.getElem_toArray, List.getElem_cons_succ, List.getElem_cons_zero];refine tkl 18 rfl hSS ?_;refine tkl 19 rfl hSS ?_
        refine tkl 20 rfl hSS ?_;simp only [Act.put, List.setIfInBounds_toArray, List.set_cons_succ, List.set_cons_zero, List.getElem_toArray, List.getElem_cons_succ, List.getElem_cons_zero];refine tkl 21 rfl hSS ?_;refine tkl 22 rfl hSS ?_;refine tkl 23 rfl hSS ?_;simp only [Act.put, List.setIfInBounds_toArray, List.set_cons_succ, List.set_cons_zero, List.getElem_toArray, List.getElem_cons_succ, List.getElem_cons_zero];refine tkl 24 rfl hSS ?_;refine tkl 25 rfl hSS ?_;refine wpAnyE_one (i := 26) (by kernel_rfl) rfl (fun Kn hK => ?_);go_simp;refine hK.out _ _ ⟨⟨cellA hSS.1.1, cellA hSS.1.2.1, cellA hSS.1.2.2⟩, fun _ => trivial⟩ ?_;clear hK;refine wpAnyE_one (i := 27) (by kernel_rfl) rfl (fun Kn hK => ?_);go_simp;refine hK.out _ _ ⟨⟨cellA hSS.1.1, cellA hSS.1.2.1, cellA hSS.1.2.2⟩, fun _ => trivial⟩ ?_;clear hK;refine wod ?_ _;have zd := dr.size
        go_wp2_with fail
        go_meet
        case rel => exact ⟨_, _, _, _, rfl, Cel.new V _ _, wt (by omega) (by omega) (by omega) (by omega), wt (by omega) (by omega) (by omega) (by omega), wt (by omega) (by omega) (by omega) (by omega), zd, dr.alloc zd _⟩
       case rest =>
        obtain ⟨y0, y1, y2, Y, rfl, cY, hy0, hy1, hy2, lY, b7⟩ := hcut;have oY := own3 cY;have HPZ : Hid (PinZ F [y0, y1, y2] 0) := ⟨bnd3 (by omega) hy0 hy1 hy2, fun j hj => by omega⟩
        clear cY d0 d1 d2 v0 v1 v2 a1 a2 a3 hy0 hy1 hy2
        go_wp2_with fail
        go_loopw [24] (fun vx wx => ∃ (v : Nat) (ys : List Int), v ≤ 3 ∧ vx = .int .i64 v ∧ OwnX wx (some ⟨Y, 0, none⟩) Y 3 ys ∧ PinZ F ys v ∧ Below wk.heap.size wk wx) (fun vx _ => 3 - (intOf vx).toNat)
        case atStart => exact ⟨0, _, by omega, rfl, oY, HPZ.out, b7⟩
        case round =>
         clear oY HPZ b7;obtain ⟨v, ys, hv, rfl, oY, pz, bY⟩ := hrel;have HYL : Hid (ys.length = 3) := oY.1;have HPZ : Hid (PinZ F ys v) := pz;clear pz
         by_cases hv3 : v < 3
         ·have hv' : (v : Int) < 3 := by omega
          have hpc := ((hP.below bY).at hv3).1;obtain ⟨d4, d5⟩ := ownx_cell oY hv3;clear hB0 hB hE hU hG hA pi1 pi2 hT hP hX q6 q11 q14 BB j hb0
          cases hf : F v
          ·rw [hf] at hpc
           go_wp2
           go_roundw
           case rel => exact ⟨v + 1, _, by omega, by go_num, oY, HPZ.out.skip hf, bY⟩
           case measure => simp [intOf]; omega
          rw [hf] at hpc
          go_wp2
          go_roundw
          case rel => exact ⟨v + 1, _, by omega, by go_num, oY.set hv3 0, HPZ.out.set (by rw [HYL.out]; exact hv3), bY.setCell (p := ⟨Y, v, none⟩) lY _⟩
          case measure => simp [intOf]; omega
         have hv' : ¬ (v : Int) < 3 := by omega
         obtain rfl : v = 3 := by omega
         have hY := oY.ints;have hYl := Nat.le_trans hb0.size lY;clear oY HYL hv3 hv;replace BB := btr BB bY;replace hb0 := btr hb0 bY;replace hB0 := hB0.below bY;replace hB := hB.below bY;replace hE := hE.below bY;replace hU := hU.below bY;replace hG := hG.below bY;replace hA := hA.below bY;replace pi1 := pi1.below bY;replace pi2 := pi2.below bY;replace hT := hT.below bY;replace hP := hP.below bY;replace hX := hX.below bY;replace q6 := q6.below bY;replace q11 := q11.below bY;replace q14 := q14.below bY;clear bY;obtain ⟨wr9, hwr9⟩ : ∃ x, x = wr := ⟨_, rfl⟩
         subst hwr9;obtain ⟨g6_0, g6_1⟩ := q6.c2;obtain ⟨g11_0, g11_1⟩ := q11.c2;obtain ⟨g14_0, g14_1⟩ := q14.c2
         go_wp2_with fail
         refine (pKeep (k : Int) B G ys ts (ivs (catP ss)) hB hG hY HT.out.1 hT HT.out.2.1 HT.out.2.2).mono ?_;rintro ee w11 ⟨rfl, b8⟩;clear g6_0 g6_1 g11_0 g11_1 g14_0 g14_1;replace BB := btr BB b8;replace hb0 := btr hb0 b8;replace hB0 := hB0.below b8;replace hB := hB.below b8;replace hE := hE.below b8;replace hU := hU.below b8;replace hG := hG.below b8;replace hA := hA.below b8;replace pi1 := pi1.below b8;replace pi2 := pi2.below b8;replace hT := hT.below b8;replace hP := hP.below b8;replace hX := hX.below b8;replace hY := hY.below b8;replace q6 := q6.below b8;replace q11 := q11.below b8;replace q14 := q14.below b8;clear b8
         cases hkk : keepB 3 gn B G (ivs (catP ss)) (k : Int) 3 ys
         ·clear hkk hB0 hB hE hU hG hA pi1 pi2 hT hP hY q6 q11 q14
          go_wp2
          go_roundw
          case rel => exact ⟨j2 + 3, xa, xs, by omega, by go_num, rfl, hX, HBX.out, lX, hb0⟩
          case measure => simp [intOf]; omega
         have HGD : Hid (GoodA G ss k ys) := goodA_of HF.out HPZ.out hkk;clear hkk hB0 hB hE hU hG hA pi1 pi2 hT hP hX q6 q11 q14
         go_wp2
         go_roundw
         case rel => exact ⟨j2 + 3, Y, _, by omega, by go_num, rfl, hY, HGD.out, hYl, hb0⟩
         case measure => simp [intOf]; omega
    obtain rfl : k = gn := by omega
    have hlt' : ¬ (k : Int) < (k : Int) := by omega
    have hbW := j.b;have hES := j.g;have H3 : Hid (∀ i, i < k → (es[i]?.getD noI).n = 3) := fun i hi => (j.k i (by rw [HES.out]; exact hi)).1;have HX3 : Hid (∀ i, i < k → (es[i]?.getD noI).x.length = 3) := fun i hi => (j.k i (by rw [HES.out]; exact hi)).2.1.1;have HTE : Hid (TryEnd k B G N ss u kn U es x1 x2 x3) := try_end hB.1 hG.1 hE.1 HAC.out HES.out HX3.out hug ak HX.out;have HBE : Hid (∀ i, i < k → bnd 20000 (es[i]?.getD noI).x) := fun i hi => (ak.1 i hi).1;clear HX ak HG0 HEG HX3 HEA hP;obtain ⟨we, hwe⟩ : ∃ x, x = wr := ⟨_, rfl⟩
    subst hwe;obtain ⟨g6_0, g6_1⟩ := q6.c2;obtain ⟨g11_0, g11_1⟩ := q11.c2;obtain ⟨g14_0, g14_1⟩ := q14.c2
    go_wp2_with fail
    refine (cosum_any B es hB hES HES.out (by omega) H3.out HBB.out HBE.out).mono ?_;rintro ee w11 ⟨vg, vc, rfl, hV, b9⟩;clear g6_0 g6_1 g11_0 g11_1 g14_0 g14_1;replace BB := btr BB b9;replace hbW := btr hbW b9;replace hB0 := hB0.below b9;replace hB := hB.below b9;replace hE := hE.below b9;replace hU := hU.below b9;replace hG := hG.below b9;replace hA := hA.below b9;replace pi1 := pi1.below b9;replace pi2 := pi2.below b9;replace hT := hT.below b9;replace hES := hES.below b9;replace j := j.below b9;replace q6 := q6.below b9;replace q11 := q11.below b9;replace q14 := q14.below b9;clear b9;obtain ⟨g6_0, g6_1⟩ := q6.c2;obtain ⟨g11_0, g11_1⟩ := q11.c2;obtain ⟨g14_0, g14_1⟩ := q14.c2
    go_wp2_with fail
    refine (ival_any (sumT B es k) hV (by omega)).mono ?_;rintro ee v12 ⟨rfl, rfl⟩
    cases hval : okN 3 10000 3 (sumT B es k)
    ·clear hval
     go_wp2_with fail
     refine (pKeep (u : Int) B G x3 ts (ivs (catP ss)) hB hG pi2 HT.out.1 hT HT.out.2.1 HT.out.2.2).mono ?_;rintro ee w13 ⟨rfl, ba1⟩;rw [HTE.out.k];clear g6_0 g6_1 g11_0 g11_1 g14_0 g14_1;replace BB := btr BB ba1;replace hbW := btr hbW ba1;replace hB0 := hB0.below ba1;replace hB := hB.below ba1;replace hE := hE.below ba1;replace hU := hU.below ba1;replace hG := hG.below ba1;replace hA := hA.below ba1;replace pi1 := pi1.below ba1;replace pi2 := pi2.below ba1;replace hT := hT.below ba1;replace hES := hES.below ba1;replace j := j.below ba1;replace hV := hV.below ba1;replace q6 := q6.below ba1;replace q11 := q11.below ba1;replace q14 := q14.below ba1;clear ba1
     go_wp2
     go_ret
     exact ⟨rfl, BB⟩
    have HR : Hid _ := HTE.out.r hval ⟨pc, 3, pcap2, x3⟩ rfl;clear hval;have HNN := HN.out;obtain ⟨ab, ao, rfl, p0, hl⟩ := hA kn (by omega);have HRA : Hid (∀ a : L2V, ss[kn]?.getD noL = a → runCode a.n a.x 3 (sumT B es k) 2 U = x1 ∧ runTells a.n a.x 3 (sumT B es k) 2 U = x2 ∧ runPots a.n a.x 3 (sumT B es k) 2 U = sumT B (es.set u ⟨pc, 3, pcap2, x3⟩) k) := fun a ha => by rw [← ha]; exact HR.out
    obtain ⟨la, hla⟩ : ∃ a, ss[kn]?.getD noL = a := ⟨_, rfl⟩
    have hRA := HRA.out _ hla;rw [hla] at p0 hl;clear hla HRA HR hA HNN;obtain ⟨la, ln, lc, ls⟩ := la;obtain ⟨hl1, hl2, hl3⟩ := hl;have HL1 : Hid (ls.length = ln) := hl1;have HRA : Hid _ := hRA;dsimp only at hl2 hl3;dsimp only [L2V.v] at p0;clear hl1 hRA;have hkN' : (kn : Int) < (N : Int) := by omega
    go_wp2_with fail
    have JGl := j.lt;refine (irun_any la ln lc ls (sumT B es k) U HL1.out hl2 hl3 hV hU (by omega) (by omega)).mono ?_;rintro ee w13 ⟨a1, n1, c1, r1, a2, n2, c2, r2, rfl, hq1, hq2, bb1, o1, o2, lr1, lr2, -⟩;have hRA := HRA.out;obtain ⟨e1, e2, e3⟩ := hRA;rw [e1];rw [e2] at o1 hq1;rw [e3] at o2 hq2;have HQ1 := HP1.out;obtain rfl : n1 = pn := by omega
    have h1g : 0 < n1 → G1 ≠ r1 := fun h => by have := lr1 h; omega
    have h2g : 0 < n2 → G1 ≠ r2 := fun h => by have := lr2 h; omega
    have HN2 : Hid (n2 ≤ 3 ∧ n2 = (sumT B (es.set u ⟨pc, 3, pcap2, x3⟩) k).length) := ⟨by rw [← hq2]; exact sumT_le hB.1 _, hq2.symm⟩
    clear e1 e2 e3 HRA lr1 lr2 p0 hl2 hq1 hq2 JGl HQ1;clear g6_0 g6_1 g11_0 g11_1 g14_0 g14_1;replace BB := btr BB bb1;replace hbW := btr hbW bb1;replace hB0 := hB0.below bb1;replace hB := hB.below bb1;replace hE := hE.below bb1;replace hU := hU.below bb1;replace hG := hG.below bb1;replace pi1 := pi1.below bb1;replace pi2 := pi2.below bb1;replace hT := hT.below bb1;replace hES := hES.below bb1;replace j := j.below bb1;replace hV := hV.below bb1;replace q6 := q6.below bb1;replace q11 := q11.below bb1;replace q14 := q14.below bb1;clear bb1;have JGq : Hid (G1 < w13.heap.size) := j.lt.2;have al := (Below.refl (w13).heap.size (w13)).alloc (Nat.le_refl _) (.cells #[.int .i64 x1, .slice a1 n1 c1] 30);replace BB := btr BB al;replace hbW := btr hbW al;replace hB0 := hB0.below al;replace hB := hB.below al;replace hE := hE.below al;replace hU := hU.below al;replace hG := hG.below al;replace pi1 := pi1.below al;replace pi2 := pi2.below al;replace hT := hT.below al;replace hES := hES.below al;replace j := j.below al;replace hV := hV.below al;replace o1 := o1.below al;replace o2 := o2.below al;replace q6 := q6.below al;replace q11 := q11.below al;replace q14 := q14.below al;clear al;have q26 := Cel.new (w13) [.int .i64 x1, .slice a1 n1 c1] 30;obtain ⟨g6_0, g6_1⟩ := q6.c2;obtain ⟨g11_0, g11_1⟩ := q11.c2;obtain ⟨g14_0, g14_1⟩ := q14.c2;obtain ⟨g26_0, g26_1⟩ := q26.c2
    go_upto_region 35 with fail
    generalize (w13).alloc (.cells #[.int .i64 x1, .slice a1 n1 c1] 30) = W14 at hB0 hB hE hU hG pi1 pi2 hT hES j hV o1 o2 q6 q11 q14 q26 BB hbW g6_0 g6_1 g11_0 g11_1 g14_0 g14_1 g26_0 g26_1 ⊢;obtain ⟨X26, hX26⟩ : ∃ x, x = w13.heap.size := ⟨_, rfl⟩
    rw [← hX26];rw [← hX26] at q26 g26_0 g26_1;have loX26 : w13.heap.size ≤ X26 := by omega
    have upX26 : X26 ≤ w13.heap.size := by omega
    clear hX26;clear g6_0 g6_1 g11_0 g11_1 g14_0 g14_1 g26_0 g26_1;have JGl := j.lt;have hpt := j.put (u := u) (y := ⟨pc, 3, pcap2, x3⟩) (by rw [HES.out]; omega) ⟨pi2, by (show (3 : Nat) ≤ 1048576); omega⟩ (fun _ b o e => by have := HPA.out b o e; have := JGl.1; omega);obtain ⟨d4, d5, hES2⟩ := hpt;have hu' : (u : Int) < (k : Int) := by omega
    clear hES j hB0 hB hE hU hG pi1 pi2 hT hV q6 q11 q14
    skip
    dsimp only [IV.v] at hES2;have hX26 : X26 ≠ G1 := by have := JGq.out; omega
    have t1 := (o1.setOther h1g u (.slice pc 3 pcap2)).ints;have t2 := (o2.setOther h2g u (.slice pc 3 pcap2)).ints;have q262 := q26.setOther hX26 u (.slice pc 3 pcap2);have bW2 := hbW.setCell (p := ⟨G1, u, none⟩) JGl.1 (.slice pc 3 pcap2);clear o1 o2 q26 hbW h1g h2g
    go_upto_region 36 with fail
    obtain ⟨W9, hW9⟩ : ∃ x, x = W14.setCell ⟨G1, u, none⟩ (.slice pc 3 pcap2) := ⟨_, rfl⟩
    rw [← hW9];rw [← hW9] at hES2 t1 t2 q262 bW2;clear hW9 d4 d5;have hB := HOLD.out.1.below bW2;have hG := HOLD.out.2.1.below bW2;have hT := HOLD.out.2.2.1.below bW2;have pi2 := HOLD.out.2.2.2.1.below bW2;have pi1 := HOLD.out.2.2.2.2.1.below bW2;have q6 := HOLD.out.2.2.2.2.2.1.below bW2;have q11 := HOLD.out.2.2.2.2.2.2.below bW2;have q26 := q262;have BB := HBW.out.trans (bW2.mono HWB.out);clear bW2 HOLD q262;have hn2 := HN2.out.1;obtain ⟨g6_0, g6_1⟩ := q6.c2;obtain ⟨g11_0, g11_1⟩ := q11.c2;obtain ⟨g26_0, g26_1⟩ := q26.c2
    go_wp2_with fail
    refine (coR_any x1 x1 x2 x2 t1 pi1).mono ?_;rintro ee w15 ⟨rfl, bc1⟩;rw [coRB_same];clear g6_0 g6_1 g11_0 g11_1 g26_0 g26_1;replace BB := btr BB bc1;replace hB := hB.below bc1;replace hG := hG.below bc1;replace hT := hT.below bc1;replace pi1 := pi1.below bc1;replace pi2 := pi2.below bc1;replace hES2 := hES2.below bc1;replace t1 := t1.below bc1;replace t2 := t2.below bc1;replace q6 := q6.below bc1;replace q11 := q11.below bc1;replace q26 := q26.below bc1;clear bc1;have HS3 : Hid (∀ i, i < k → ((es.set u ⟨pc, 3, pcap2, x3⟩)[i]?.getD noI).n = 3 ∧ bnd 20000 ((es.set u ⟨pc, 3, pcap2, x3⟩)[i]?.getD noI).x) := fun i hi => set_good HES.out H3.out HBE.out (keep_bnd HTE.out.k) hi;have HSL : Hid ((es.set u ⟨pc, 3, pcap2, x3⟩).length = k) := by rw [List.length_set]; exact HES.out
    obtain ⟨g6_0, g6_1⟩ := q6.c2;obtain ⟨g11_0, g11_1⟩ := q11.c2;obtain ⟨g26_0, g26_1⟩ := q26.c2
    go_wp2_with fail
    refine (cosum_any B (es.set u ⟨pc, 3, pcap2, x3⟩) hB hES2 HSL.out (by omega) (fun i hi => (HS3.out i hi).1) HBB.out (fun i hi => (HS3.out i hi).2)).mono ?_;rintro ee w16 ⟨vg2, vc2, rfl, hV2, bc2⟩;clear g6_0 g6_1 g11_0 g11_1 g26_0 g26_1;replace BB := btr BB bc2;replace hB := hB.below bc2;replace hG := hG.below bc2;replace hT := hT.below bc2;replace pi1 := pi1.below bc2;replace pi2 := pi2.below bc2;replace hES2 := hES2.below bc2;replace t1 := t1.below bc2;replace t2 := t2.below bc2;replace q6 := q6.below bc2;replace q11 := q11.below bc2;replace q26 := q26.below bc2;clear bc2;obtain ⟨g6_0, g6_1⟩ := q6.c2;obtain ⟨g11_0, g11_1⟩ := q11.c2;obtain ⟨g26_0, g26_1⟩ := q26.c2
    go_wp2_with fail
    refine (coI_any (sumT B (es.set u ⟨pc, 3, pcap2, x3⟩) k) (sumT B (es.set u ⟨pc, 3, pcap2, x3⟩) k) t2 hV2 (by omega) (by omega)).mono ?_;rintro ee w17 ⟨rfl, bc3⟩;rw [eqB_refl];clear g6_0 g6_1 g11_0 g11_1 g26_0 g26_1;replace BB := btr BB bc3;replace hB := hB.below bc3;replace hG := hG.below bc3;replace hT := hT.below bc3;replace pi1 := pi1.below bc3;replace pi2 := pi2.below bc3;replace hES2 := hES2.below bc3;replace t1 := t1.below bc3;replace t2 := t2.below bc3;replace hV2 := hV2.below bc3;replace q6 := q6.below bc3;replace q11 := q11.below bc3;replace q26 := q26.below bc3;clear bc3;obtain ⟨g6_0, g6_1⟩ := q6.c2;obtain ⟨g11_0, g11_1⟩ := q11.c2;obtain ⟨g26_0, g26_1⟩ := q26.c2
    go_wp2_with fail
    refine (pKeep (u : Int) B G x3 ts (ivs (catP ss)) hB hG pi2 HT.out.1 hT HT.out.2.1 HT.out.2.2).mono ?_;rintro ee w18 ⟨rfl, bc4⟩;rw [HTE.out.k];clear g6_0 g6_1 g11_0 g11_1 g26_0 g26_1;replace BB := btr BB bc4;replace hB := hB.below bc4;replace hG := hG.below bc4;replace hT := hT.below bc4;replace pi1 := pi1.below bc4;replace pi2 := pi2.below bc4;replace hES2 := hES2.below bc4;replace t1 := t1.below bc4;replace t2 := t2.below bc4;replace hV2 := hV2.below bc4;replace q6 := q6.below bc4;replace q11 := q11.below bc4;replace q26 := q26.below bc4;clear bc4
    go_wp2
    go_ret
    exact ⟨rfl, BB⟩
  go_enter Tryz.func3, Tryz.ntmps3
  go_wp2
  go_ret
  exact ⟨rfl, Below.refl _ _⟩
 go_enter Tryz.func3, Tryz.ntmps3
 go_wp2
 go_ret
 exact ⟨rfl, Below.refl _ _⟩
/-! ### The row's step -/
theorem lifted (os : Os) (started : os.Started) (H : Type) (enc : TypeId × Value → H) :
  ReturnsInHanded {} Tryz.checked os 3 .any (Rows.fnLocTrySpec.pre6 enc Tryz.prog Tryz.f3 Rows.fnLocTryRow.domain false) (Rows.fnLocTrySpec.post enc Tryz.prog Tryz.f3 false true false false) := by
 refine returnsInHanded_of_change (C := Tryz.checked) own started (by kernel_rfl) Tryz.func3
  (ChangeSpec.witness6 (enc := enc) (C := Tryz.checked) false ⟨#[], #[.slice none 0 0, .slice none 0 0], []⟩ 8 (by kernel_rfl) (by kernel_rfl) (by kernel_rfl) (by kernel_rfl)) ?_
 intro W base args ds gs before hval0 hW hcnd _;have hval : ∀ (j : Nat) t v, Tryz.f3.params[j]? = some t → args[j]? = some v → Value.okWide Tryz.prog W .any base t v := hval0;have hW' := hW;obtain ⟨p, q, hA0, hV, rfl, hfz, hnd⟩ := hW;have hA : DataW.TrodAll enc Tryz.prog W 0 (fun _ => true) true Tryz.f3.params.toList args.toList ds p := hA0;rw [Tryz.params3] at hA hval;obtain ⟨v0, vs0, d0, ds0, p0, q0, hargs, rfl, rfl, h0, r0⟩ := trodAll_cons hA;obtain ⟨v1, vs1, d1, ds1, p1, q1, rfl, rfl, rfl, h1, r1⟩ := trodAll_cons r0;obtain ⟨rfl, rfl, rfl⟩ := trodAll_nil r1;obtain rfl : args = #[v0, v1] := by cases args; simp_all
 obtain ⟨rfl, rfl⟩ := trodVars_none hV;have k0 := h0;have lt0 : ∀ x ∈ p0, x.block < W.heap.size := by obtain ⟨m, hm⟩ := k0; exact DataW.trod_lt m _ _ _ hm
 obtain ⟨a0, n0, cap0, C0, rfl, hC0, hn0⟩ := open_bytesT (hval 0 22 v0 rfl rfl) h0;have k1 := h1;have lt1 : ∀ x ∈ p1, x.block < W.heap.size := by obtain ⟨m, hm⟩ := k1; exact DataW.trod_lt m _ _ _ hm
 obtain ⟨a1, n1, cap1, C1, rfl, hC1, hn1⟩ := open_bytesT (hval 1 22 v1 rfl rfl) h1;clear hA0 hval0;refine (walk W a0 n0 cap0 C0 hC0 hn0 a1 n1 cap1 C1 hC1 hn1).mono fun e W' ⟨he, bel⟩ => ?_;subst he
 exact ⟨_, rfl, _, _, _, [], _, [], hW', trodAll_mk1 (shut_bool Tryz.underlying4 _), (trodAll_cons_mk (Below.trod laidOut (by kernel_rfl) (of_decide_eq_true (by kernel_rfl)) k0 bel lt0) (trodAll_cons_mk (Below.trod laidOut (by kernel_rfl) (of_decide_eq_true (by kernel_rfl)) k1 bel lt1) trodAll_mk0)), rfl, bel.frame _, fun h => by cases h⟩
theorem over : Rows.fnLocTryRow.holds Tryz.pinned (OpenSpec.ofChange Rows.fnLocTrySpec) :=
 OpenClaim.holds_of_wide 3 Tryz.f3 rfl rfl rfl rfl rfl rfl rfl ⟨rfl, rfl, rfl, rfl, rfl⟩ rfl rfl rfl rfl rfl (by kernel_rfl) Tryz.func3 (by kernel_rfl)
  (of_decide_eq_true (by kernel_rfl)) (by unfold Func.isWrapper; first | (rw [if_pos (by decide +kernel)]; kernel_rfl) | (rw [if_neg (by decide +kernel)]; exact ⟨rfl, rfl⟩))
  (fun os started H enc _ => lifted os started H enc)
end Go.Proofs.YtemcinobgdphnaaGreat.fnLocTry
namespace Go.Proofs.YtemcinobgdphnaaGreat
theorem fnLocTry_holds : Rows.FnLocTrySaid := fnLocTry.over
#print axioms fnLocTry_holds
end Go.Proofs.YtemcinobgdphnaaGreat
