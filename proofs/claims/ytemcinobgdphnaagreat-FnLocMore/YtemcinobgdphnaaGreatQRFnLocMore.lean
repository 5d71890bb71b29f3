/-
  For all bytes FnLocMore returns true, and what came in reads behind the call as it did. No condition. (more that is given lets more)
-/
import Derived.Test.YtemcinobgdphnaaGreatQRa
namespace Go.Proofs.YtemcinobgdphnaaGreat.fnLocMore
set_option maxHeartbeats 25600000
open Go.ChangeShapes Go.WideShapes Go.ChangeAt Go.RowKit
set_option linter.unusedVariables false
set_option maxRecDepth 100000
theorem open_bytesT {H : Type} {enc : TypeId × Value → H} {W : World} {r : Reach} {b0 : Nat} {v : Value} {d : DataW H} {p : List MemPlace}
  (hv : Value.okWide Tryz.prog W r b0 22 v) (h : DataW.Trod enc Tryz.prog W 0 (fun _ => true) true 22 v d p) : ∃ a n cap zs, v = .slice a n cap ∧ BInts W a n zs ∧ (n ≤ cap ∧ cap ≤ maxLen) := by
 obtain ⟨a0, len0, cap0, rfl⟩ := okWide_slice Tryz.underlying22 hv;obtain ⟨fuel, hf⟩ := h
 rcases open_ints Tryz.underlying22 Tryz.underlying5 (by kernel_rfl) hf with ⟨hcs, _⟩ | ⟨x, l, c, zs, hcs, _, hl, hm, hz, _, hcell, hwz⟩
 ·simp [Value.cells] at hcs;obtain ⟨rfl, rfl, rfl⟩ := hcs
  exact ⟨none, 0, 0, [], rfl, ⟨rfl, fun i hi => by omega, fun i => by simp⟩, by omega, by unfold maxLen; omega⟩
 simp [Value.cells] at hcs;obtain ⟨rfl, rfl, rfl⟩ := hcs;have hz' : zs.length = cap0 := by simpa using hz
 refine ⟨some x, len0, cap0, zs.take len0, rfl, ⟨by rw [List.length_take]; omega, fun i hi => ?_, fun i => ?_⟩, hl, hm⟩
 ·obtain ⟨b, off, spot⟩ := x;have hc0 := hcell 0 (by omega);have hspot : spot = none := by simpa [Addr.add] using World.cell?_spot hc0
  subst hspot;refine ⟨b, off, rfl, ?_⟩;have hc := hcell i (by omega)
  have : W.cell? ⟨b, off + i, none⟩ = some (.int .u8 (zs.getD i 0)) := by
   by_cases h0 : i = 0
   ·subst h0; simpa [Addr.add] using hc
   simpa [Addr.add, h0] using hc
  rw [this];simp [hi]
 by_cases hi : i < (zs.take len0).length
 ·rw [List.getElem?_eq_getElem hi];have := hwz _ (List.mem_of_mem_take (List.getElem_mem hi));simpa [Lit.wf, IntKind.min, IntKind.max, IntKind.signed, IntKind.bits] using this
 rw [List.getElem?_eq_none (by omega)];simp
theorem set_at {G : List Int} {k : Nat} {z : Int} (hk : k < G.length) (i : Nat) : (G.set k z)[i]?.getD 0 = if i = k then z else G[i]?.getD 0 := by
 by_cases e : i = k
 ·subst e; rw [List.getElem?_set_self hk, if_pos rfl]; rfl
 rw [List.getElem?_set_ne (fun x => e x.symm), if_neg e]
theorem more_own {n gn N u q : Nat} {B G E U : List Int} {ss : List L2V} {kk : Int} {l : Nat} {x1 : Int} {x2 x3 : List Int} {y : Int} (hB : B.length = n) (hG : G.length = gn) (hE : E.length = q) (hA : ActsOk N ss) (hu : u < gn) (hy : y = G[u]?.getD 0) (h50 : y < 50) (h : locL n gn B G N ss (u : Int) q E kk l U = (x1, x2, x3, true)) : locL n gn B (G.set u (y + 1)) N ss (u : Int) q E kk l U = (x1, x2, x3, true) := by
 have hg := (loc_yes h).g;have hs := set_at (G := G) (k := u) (z := y + 1) (by omega);refine loc_more hB hG hE hA (by rw [List.length_set]; exact hG) (fun i hi => ?_) ?_ (fun i hi hne => ?_) h
 ·have := hg i (by omega);rw [hs]; split
  ·rename_i e; subst e; omega
  exact this
 ·rw [Int.toNat_natCast, hs, if_pos rfl]; omega
 rw [hs, if_neg (by omega)]; omega
theorem more_less {n gn N u k q : Nat} {B G E U : List Int} {ss : List L2V} {kk : Int} {l : Nat} {x1 : Int} {x2 x3 : List Int} {y : Int} (hB : B.length = n) (hG : G.length = gn) (hE : E.length = q) (hA : ActsOk N ss) (hk : k < gn) (hku : ¬ k = u) (hy : y = G[k]?.getD 0) (h0 : 0 < y) (h : locL n gn B G N ss (u : Int) q E kk l U = (x1, x2, x3, true)) : locL n gn B (G.set k (y - 1)) N ss (u : Int) q E kk l U = (x1, x2, x3, true) := by
 have hg := (loc_yes h).g;have hs := set_at (G := G) (k := k) (z := y - 1) (by omega);refine loc_more hB hG hE hA (by rw [List.length_set]; exact hG) (fun i hi => ?_) ?_ (fun i hi hne => ?_) h
 ·have := hg i (by omega);rw [hs]; split
  ·rename_i e; subst e; omega
  exact this
 ·rw [Int.toNat_natCast, hs, if_neg (fun e => hku e.symm)]; omega
 rw [hs]; split
 ·rename_i e; subst e; omega
 omega
theorem walk (w : World) (a : Option Addr) (n cap : Nat) (A0 : List Int) (hA0 : BInts w a n A0) (hn : n ≤ cap ∧ cap ≤ maxLen) :
  Calls Tryz.prog 6 #[.slice a n cap] w fun e w' => e = .returned (.bool true) ∧ Below w.heap.size w w' := by
 obtain ⟨hn2, hn3⟩ := hn
 by_cases hn1 : n ≤ 1048576
 ·go_enter Tryz.func6, Tryz.ntmps6
  go_wp2_with fail
  refine (dLoc A0 hA0 hn2 hn1 hn3).mono ?_;rintro ee w1 ⟨ad, N, c, ss, ba, bn, bc, ga, gn, gc, B, G, s, ea, en, ec, E, kk, ua, un, uc, U, rfl, b1, hN, hN5, hB, hbn, hgn, _, hE, hen, hU, hun, hs0, hs3, hk0, hk5, gb, LL, hO, hoff, hlate⟩;have BB := b1;clear b1;have HN : Hid (ss.length = N) := hN;clear hN;have hG := hO.ints;have hA := hlate (fun _ => False) w1 (Touch.refl _ _) (fun k h => h.elim);clear hO hoff hlate;have al := (Below.refl (w1).heap.size (w1)).alloc (Nat.le_refl _) (.cells #[.slice ba bn bc, .slice ga gn gc] 26);replace BB := btr BB al;replace hB := hB.below al;replace hE := hE.below al;replace hU := hU.below al;replace hG := hG.below al;replace hA := hA.below al;clear al;have q4 := Cel.new (w1) [.slice ba bn bc, .slice ga gn gc] 26;obtain ⟨x, hx⟩ : ∃ x, locL bn gn B G N ss s en E kk un U = x := ⟨_, rfl⟩
  have HX : Hid (locL bn gn B G N ss s en E kk un U = x) := hx;clear hx;obtain ⟨x1, x2, x3, x4⟩ := x;obtain ⟨g4_0, g4_1⟩ := q4.c2
  go_wp2_with fail
  generalize (w1).alloc (.cells #[.slice ba bn bc, .slice ga gn gc] 26) = W2 at hB hE hU hG hA q4 BB g4_0 g4_1 ⊢;obtain ⟨X4, hX4⟩ : ∃ x, x = w1.heap.size := ⟨_, rfl⟩
  rw [← hX4];rw [← hX4] at q4 g4_0 g4_1;have loX4 : w1.heap.size ≤ X4 := by omega
  have upX4 : X4 ≤ w1.heap.size := by omega
  clear hX4;refine (iloc_any ad N c ba bn bc ga gn gc s ea en ec kk ua un uc ss B G E U hA hB hG hE hU HN.out).mono ?_;rintro ee w3 hL;rw [HX.out] at hL;obtain ⟨pa, pn, pcap, pB, pc, pk, pcap2, pB2, rfl, pl1, pl2, pb, po1, po2, -, -, -⟩ := hL;have pi1 := po1.ints;have pi2 := po2.ints;clear po1 po2;dsimp only at pl1 pl2 pi1 pi2;clear g4_0 g4_1;replace BB := btr BB pb;replace hB := hB.below pb;replace hE := hE.below pb;replace hU := hU.below pb;replace hG := hG.below pb;replace hA := hA.below pb;replace q4 := q4.below pb;clear pb;have al := (Below.refl (w3).heap.size (w3)).alloc (Nat.le_refl _) (.cells #[.int .i64 x1, .slice pa pn pcap] 30);replace BB := btr BB al;replace hB := hB.below al;replace hE := hE.below al;replace hU := hU.below al;replace hG := hG.below al;replace hA := hA.below al;replace pi1 := pi1.below al;replace pi2 := pi2.below al;replace q4 := q4.below al;clear al;have q9 := Cel.new (w3) [.int .i64 x1, .slice pa pn pcap] 30;obtain ⟨g4_0, g4_1⟩ := q4.c2;obtain ⟨g9_0, g9_1⟩ := q9.c2
  go_wp2_with fail
  generalize (w3).alloc (.cells #[.int .i64 x1, .slice pa pn pcap] 30) = W4 at hB hE hU hG hA pi1 pi2 q4 q9 BB g4_0 g4_1 g9_0 g9_1 ⊢;obtain ⟨X9, hX9⟩ : ∃ x, x = w3.heap.size := ⟨_, rfl⟩
  rw [← hX9];rw [← hX9] at q9 g9_0 g9_1;have loX9 : w3.heap.size ≤ X9 := by omega
  have upX9 : X9 ≤ w3.heap.size := by omega
  clear hX9;refine (sloc_any ad N c ba bn bc ga gn gc s ea en ec kk ua un uc ss B G E U hA hB hG hE hU HN.out).mono ?_;rintro ee w5 hL;rw [HX.out] at hL;obtain ⟨qa, qn, qcap, qB, qc, qk, qcap2, qB2, rfl, ql1, ql2, qb, qo1, qo2, -, -, -⟩ := hL;have qi1 := qo1.ints;have qi2 := qo2.ints;clear qo1 qo2;dsimp only at ql1 ql2 qi1 qi2;clear g4_0 g4_1 g9_0 g9_1;replace BB := btr BB qb;replace hB := hB.below qb;replace hE := hE.below qb;replace hU := hU.below qb;replace hG := hG.below qb;replace hA := hA.below qb;replace pi1 := pi1.below qb;replace pi2 := pi2.below qb;replace q4 := q4.below qb;replace q9 := q9.below qb;clear qb;have al := (Below.refl (w5).heap.size (w5)).alloc (Nat.le_refl _) (.cells #[.int .i64 x1, .slice qa qn qcap] 30);replace BB := btr BB al;replace hB := hB.below al;replace hE := hE.below al;replace hU := hU.below al;replace hG := hG.below al;replace hA := hA.below al;replace pi1 := pi1.below al;replace pi2 := pi2.below al;replace qi1 := qi1.below al;replace qi2 := qi2.below al;replace q4 := q4.below al;replace q9 := q9.below al;clear al;have q12 := Cel.new (w5) [.int .i64 x1, .slice qa qn qcap] 30;have HAC : Hid (ActsOk N ss) := LSG.acts hA HN.out;have HE3 : Hid ((E : List Int).length = en) := hE.1;have hne : (x4 != x4) = false := by cases x4 <;> rfl
  have HLN : Hid (x2.length ≤ 1000 ∧ x3.length ≤ 4) := loc_len HE3.out (by omega) HAC.out HX.out;have hLN1 := HLN.out.1;have hLN2 := HLN.out.2;obtain ⟨g4_0, g4_1⟩ := q4.c2;obtain ⟨g9_0, g9_1⟩ := q9.c2;obtain ⟨g12_0, g12_1⟩ := q12.c2
  go_wp2_with fail
  generalize (w5).alloc (.cells #[.int .i64 x1, .slice qa qn qcap] 30) = W6 at hB hE hU hG hA pi1 pi2 qi1 qi2 q4 q9 q12 BB g4_0 g4_1 g9_0 g9_1 g12_0 g12_1 ⊢;obtain ⟨X12, hX12⟩ : ∃ x, x = w5.heap.size := ⟨_, rfl⟩
  rw [← hX12];rw [← hX12] at q12 g12_0 g12_1;have loX12 : w5.heap.size ≤ X12 := by omega
  have upX12 : X12 ≤ w5.heap.size := by omega
  clear hX12;refine (coR_any x1 x1 x2 x2 pi1 qi1).mono ?_;rintro ee w7 ⟨rfl, b4⟩;rw [coRB_same];clear g4_0 g4_1 g9_0 g9_1 g12_0 g12_1;replace BB := btr BB b4;replace hB := hB.below b4;replace hE := hE.below b4;replace hU := hU.below b4;replace hG := hG.below b4;replace hA := hA.below b4;replace pi1 := pi1.below b4;replace pi2 := pi2.below b4;replace qi1 := qi1.below b4;replace qi2 := qi2.below b4;replace q4 := q4.below b4;replace q9 := q9.below b4;replace q12 := q12.below b4;clear b4;obtain ⟨g4_0, g4_1⟩ := q4.c2;obtain ⟨g9_0, g9_1⟩ := q9.c2;obtain ⟨g12_0, g12_1⟩ := q12.c2
  go_wp2_with fail
  refine (coI_any x3 x3 pi2 qi2 (by omega) (by omega)).mono ?_;rintro ee w8 ⟨rfl, b5⟩;rw [eqB_refl];clear g4_0 g4_1 g9_0 g9_1 g12_0 g12_1;replace BB := btr BB b5;replace hB := hB.below b5;replace hE := hE.below b5;replace hU := hU.below b5;replace hG := hG.below b5;replace hA := hA.below b5;replace pi1 := pi1.below b5;replace pi2 := pi2.below b5;replace qi1 := qi1.below b5;replace qi2 := qi2.below b5;replace q4 := q4.below b5;replace q9 := q9.below b5;replace q12 := q12.below b5;clear b5
  cases x4
  ·have hne : (false != false) = false := rfl;clear HX HAC HLN;obtain ⟨g4_0, g4_1⟩ := q4.c2;obtain ⟨g9_0, g9_1⟩ := q9.c2;obtain ⟨g12_0, g12_1⟩ := q12.c2
   go_upto_region 9 with fail
   clear g4_0 g4_1 g9_0 g9_1 g12_0 g12_1
   cases htb : trtB bn gn B G
   ·have HT : Hid (trtB bn gn B G = false) := htb;clear htb;refine wp_region_ends (fun X => X.cell? ⟨X4, 0, none⟩ = some (.slice ba bn bc) ∧ X.cell? ⟨X4, 1, none⟩ = some (.slice ga gn gc) ∧ X.cell? ⟨X9, 0, none⟩ = some (.int .i64 x1) ∧ X.cell? ⟨X9, 1, none⟩ = some (.slice pa pn pcap) ∧ X.cell? ⟨X12, 0, none⟩ = some (.int .i64 x1) ∧ X.cell? ⟨X12, 1, none⟩ = some (.slice qa qn qcap)) (fun _ => True) 8 (by kernel_rfl) ?_;have dr : Below w8.heap.size w8 w8.drew := (Below.refl _ _).drew;replace BB := btr BB dr;replace hB := hB.below dr;replace hE := hE.below dr;replace hU := hU.below dr;replace hG := hG.below dr;replace hA := hA.below dr;replace pi1 := pi1.below dr;replace pi2 := pi2.below dr;replace qi1 := qi1.below dr;replace qi2 := qi2.below dr;replace q4 := q4.below dr;replace q9 := q9.below dr;replace q12 := q12.below dr;clear dr;generalize w8.drew = V9 at hB hE hU hG hA pi1 pi2 qi1 qi2 q4 q9 q12 BB ⊢;have hSS : (V9.cell? ⟨X4, 0, none⟩ = some (.slice ba bn bc) ∧ V9.cell? ⟨X4, 1, none⟩ = some (.slice ga gn gc) ∧ V9.cell? ⟨X9, 0, none⟩ = some (.int .i64 x1) ∧ V9.cell? ⟨X9, 1, none⟩ = some (.slice pa pn pcap) ∧ V9.cell? ⟨X12, 0, none⟩ = some (.int .i64 x1) ∧ V9.cell? ⟨X12, 1, none⟩ = some (.slice qa qn qcap)) ∧ True := ⟨⟨q4.cell 0, q4.cell 1, q9.cell 0, q9.cell 1, q12.cell 0, q12.cell 1⟩, trivial⟩
    refine tkl 0 rfl hSS ?_;refine tkl 2 rfl hSS ?_;refine wo1 1 rfl fun K hK => ?_;go_simp;refine (itrt_any B G hB hG (by omega) (by omega)).mono ?_;rintro ee w10 ⟨rfl, b6⟩;rw [HT.out];replace BB := btr BB b6;replace hB := hB.below b6;replace hE := hE.below b6;replace hU := hU.below b6;replace hG := hG.below b6;replace hA := hA.below b6;replace pi1 := pi1.below b6;replace pi2 := pi2.below b6;replace qi1 := qi1.below b6;replace qi2 := qi2.below b6;replace q4 := q4.below b6;replace q9 := q9.below b6;replace q12 := q12.below b6;clear b6;clear hSS;have hSS : (w10.cell? ⟨X4, 0, none⟩ = some (.slice ba bn bc) ∧ w10.cell? ⟨X4, 1, none⟩ = some (.slice ga gn gc) ∧ w10.cell? ⟨X9, 0, none⟩ = some (.int .i64 x1) ∧ w10.cell? ⟨X9, 1, none⟩ = some (.slice pa pn pcap) ∧ w10.cell? ⟨X12, 0, none⟩ = some (.int .i64 x1) ∧ w10.cell? ⟨X12, 1, none⟩ = some (.slice qa qn qcap)) ∧ True := ⟨⟨q4.cell 0, q4.cell 1, q9.cell 0, q9.cell 1, q12.cell 0, q12.cell 1⟩, trivial⟩
    (try dsimp only);refine kk0 hK (hSS.1) ?_;refine wo1 3 rfl fun K hK => ?_;go_simp;refine (strt_any B G hB hG (by omega) (by omega)).mono ?_;rintro ee w11 ⟨rfl, b7⟩;rw [HT.out];replace BB := btr BB b7;replace hB := hB.below b7;replace hE := hE.below b7;replace hU := hU.below b7;replace hG := hG.below b7;replace hA := hA.below b7;replace pi1 := pi1.below b7;replace pi2 := pi2.below b7;replace qi1 := qi1.below b7;replace qi2 := qi2.below b7;replace q4 := q4.below b7;replace q9 := q9.below b7;replace q12 := q12.below b7;clear b7;clear hSS;have hSS : (w11.cell? ⟨X4, 0, none⟩ = some (.slice ba bn bc) ∧ w11.cell? ⟨X4, 1, none⟩ = some (.slice ga gn gc) ∧ w11.cell? ⟨X9, 0, none⟩ = some (.int .i64 x1) ∧ w11.cell? ⟨X9, 1, none⟩ = some (.slice pa pn pcap) ∧ w11.cell? ⟨X12, 0, none⟩ = some (.int .i64 x1) ∧ w11.cell? ⟨X12, 1, none⟩ = some (.slice qa qn qcap)) ∧ True := ⟨⟨q4.cell 0, q4.cell 1, q9.cell 0, q9.cell 1, q12.cell 0, q12.cell 1⟩, trivial⟩
    (try dsimp only);refine kk0 hK (hSS.1) ?_;refine tkl 4 rfl hSS ?_;refine tkl 5 rfl hSS ?_;refine wo1 6 rfl fun K hK => ?_;go_simp;refine (coHolds_any).mono ?_;rintro ee w12 ⟨rfl, b8⟩;replace BB := btr BB b8;replace hB := hB.below b8;replace hE := hE.below b8;replace hU := hU.below b8;replace hG := hG.below b8;replace hA := hA.below b8;replace pi1 := pi1.below b8;replace pi2 := pi2.below b8;replace qi1 := qi1.below b8;replace qi2 := qi2.below b8;replace q4 := q4.below b8;replace q9 := q9.below b8;replace q12 := q12.below b8;clear b8;clear hSS;have hSS : (w12.cell? ⟨X4, 0, none⟩ = some (.slice ba bn bc) ∧ w12.cell? ⟨X4, 1, none⟩ = some (.slice ga gn gc) ∧ w12.cell? ⟨X9, 0, none⟩ = some (.int .i64 x1) ∧ w12.cell? ⟨X9, 1, none⟩ = some (.slice pa pn pcap) ∧ w12.cell? ⟨X12, 0, none⟩ = some (.int .i64 x1) ∧ w12.cell? ⟨X12, 1, none⟩ = some (.slice qa qn qcap)) ∧ True := ⟨⟨q4.cell 0, q4.cell 1, q9.cell 0, q9.cell 1, q12.cell 0, q12.cell 1⟩, trivial⟩
    (try dsimp only);refine kk0 hK (hSS.1) ?_;refine tkl 7 rfl hSS ?_;refine wo1 8 rfl fun K hK => ?_;go_simp;refine kk0 hK (hSS.1) ?_;refine wod ?_ _;clear hSS
    go_wp2
    go_ret
    exact ⟨rfl, BB⟩
   have HT : Hid (trtB bn gn B G = true) := htb;clear htb;refine wp_region_ends (fun X => X.cell? ⟨X4, 0, none⟩ = some (.slice ba bn bc) ∧ X.cell? ⟨X4, 1, none⟩ = some (.slice ga gn gc) ∧ X.cell? ⟨X9, 0, none⟩ = some (.int .i64 x1) ∧ X.cell? ⟨X9, 1, none⟩ = some (.slice pa pn pcap) ∧ X.cell? ⟨X12, 0, none⟩ = some (.int .i64 x1) ∧ X.cell? ⟨X12, 1, none⟩ = some (.slice qa qn qcap)) (fun _ => True) 8 (by kernel_rfl) ?_;have dr : Below w8.heap.size w8 w8.drew := (Below.refl _ _).drew;replace BB := btr BB dr;replace hB := hB.below dr;replace hE := hE.below dr;replace hU := hU.below dr;replace hG := hG.below dr;replace hA := hA.below dr;replace pi1 := pi1.below dr;replace pi2 := pi2.below dr;replace qi1 := qi1.below dr;replace qi2 := qi2.below dr;replace q4 := q4.below dr;replace q9 := q9.below dr;replace q12 := q12.below dr;clear dr;generalize w8.drew = V9 at hB hE hU hG hA pi1 pi2 qi1 qi2 q4 q9 q12 BB ⊢;have hSS : (V9.cell? ⟨X4, 0, none⟩ = some (.slice ba bn bc) ∧ V9.cell? ⟨X4, 1, none⟩ = some (.slice ga gn gc) ∧ V9.cell? ⟨X9, 0, none⟩ = some (.int .i64 x1) ∧ V9.cell? ⟨X9, 1, none⟩ = some (.slice pa pn pcap) ∧ V9.cell? ⟨X12, 0, none⟩ = some (.int .i64 x1) ∧ V9.cell? ⟨X12, 1, none⟩ = some (.slice qa qn qcap)) ∧ True := ⟨⟨q4.cell 0, q4.cell 1, q9.cell 0, q9.cell 1, q12.cell 0, q12.cell 1⟩, trivial⟩
   refine tkl 0 rfl hSS ?_;refine tkl 2 rfl hSS ?_;refine wo1 1 rfl fun K hK => ?_;go_simp;refine (itrt_any B G hB hG (by omega) (by omega)).mono ?_;rintro ee w10 ⟨rfl, b6⟩;rw [HT.out];replace BB := btr BB b6;replace hB := hB.below b6;replace hE := hE.below b6;replace hU := hU.below b6;replace hG := hG.below b6;replace hA := hA.below b6;replace pi1 := pi1.below b6;replace pi2 := pi2.below b6;replace qi1 := qi1.below b6;replace qi2 := qi2.below b6;replace q4 := q4.below b6;replace q9 := q9.below b6;replace q12 := q12.below b6;clear b6;clear hSS;have hSS : (w10.cell? ⟨X4, 0, none⟩ = some (.slice ba bn bc) ∧ w10.cell? ⟨X4, 1, none⟩ = some (.slice ga gn gc) ∧ w10.cell? ⟨X9, 0, none⟩ = some (.int .i64 x1) ∧ w10.cell? ⟨X9, 1, none⟩ = some (.slice pa pn pcap) ∧ w10.cell? ⟨X12, 0, none⟩ = some (.int .i64 x1) ∧ w10.cell? ⟨X12, 1, none⟩ = some (.slice qa qn qcap)) ∧ True := ⟨⟨q4.cell 0, q4.cell 1, q9.cell 0, q9.cell 1, q12.cell 0, q12.cell 1⟩, trivial⟩
   (try dsimp only);refine kk0 hK (hSS.1) ?_;refine wo1 3 rfl fun K hK => ?_;go_simp;refine (strt_any B G hB hG (by omega) (by omega)).mono ?_;rintro ee w11 ⟨rfl, b7⟩;rw [HT.out];replace BB := btr BB b7;replace hB := hB.below b7;replace hE := hE.below b7;replace hU := hU.below b7;replace hG := hG.below b7;replace hA := hA.below b7;replace pi1 := pi1.below b7;replace pi2 := pi2.below b7;replace qi1 := qi1.below b7;replace qi2 := qi2.below b7;replace q4 := q4.below b7;replace q9 := q9.below b7;replace q12 := q12.below b7;clear b7;clear hSS;have hSS : (w11.cell? ⟨X4, 0, none⟩ = some (.slice ba bn bc) ∧ w11.cell? ⟨X4, 1, none⟩ = some (.slice ga gn gc) ∧ w11.cell? ⟨X9, 0, none⟩ = some (.int .i64 x1) ∧ w11.cell? ⟨X9, 1, none⟩ = some (.slice pa pn pcap) ∧ w11.cell? ⟨X12, 0, none⟩ = some (.int .i64 x1) ∧ w11.cell? ⟨X12, 1, none⟩ = some (.slice qa qn qcap)) ∧ True := ⟨⟨q4.cell 0, q4.cell 1, q9.cell 0, q9.cell 1, q12.cell 0, q12.cell 1⟩, trivial⟩
   (try dsimp only);refine kk0 hK (hSS.1) ?_;refine tkl 4 rfl hSS ?_;refine tkl 5 rfl hSS ?_;refine wo1 6 rfl fun K hK => ?_;go_simp;refine (coHolds_any).mono ?_;rintro ee w12 ⟨rfl, b8⟩;replace BB := btr BB b8;replace hB := hB.below b8;replace hE := hE.below b8;replace hU := hU.below b8;replace hG := hG.below b8;replace hA := hA.below b8;replace pi1 := pi1.below b8;replace pi2 := pi2.below b8;replace qi1 := qi1.below b8;replace qi2 := qi2.below b8;replace q4 := q4.below b8;replace q9 := q9.below b8;replace q12 := q12.below b8;clear b8;clear hSS;have hSS : (w12.cell? ⟨X4, 0, none⟩ = some (.slice ba bn bc) ∧ w12.cell? ⟨X4, 1, none⟩ = some (.slice ga gn gc) ∧ w12.cell? ⟨X9, 0, none⟩ = some (.int .i64 x1) ∧ w12.cell? ⟨X9, 1, none⟩ = some (.slice pa pn pcap) ∧ w12.cell? ⟨X12, 0, none⟩ = some (.int .i64 x1) ∧ w12.cell? ⟨X12, 1, none⟩ = some (.slice qa qn qcap)) ∧ True := ⟨⟨q4.cell 0, q4.cell 1, q9.cell 0, q9.cell 1, q12.cell 0, q12.cell 1⟩, trivial⟩
   (try dsimp only);refine kk0 hK (hSS.1) ?_;refine tkl 7 rfl hSS ?_;refine wo1 8 rfl fun K hK => ?_;go_simp;refine kk0 hK (hSS.1) ?_;refine wod ?_ _;clear hSS
   go_wp2
   go_ret
   exact ⟨rfl, BB⟩
  have hne : (true != true) = false := rfl;have hY := loc_yes HX.out;obtain ⟨y1, rfl, rfl, rfl, y5, y6, y7, y8, y9, y10, y11, y12, y13, y14, y15, y16⟩ := hY;obtain ⟨u, rfl⟩ := Int.eq_ofNat_of_zero_le y7;obtain ⟨kn, rfl⟩ := Int.eq_ofNat_of_zero_le y9;have hug : u < gn := by omega
  have hkN : kn < N := by omega
  have HC : Hid (catB N ss = true) := y1;have HEG : Hid (GoodA G ss u E) := ⟨y13, (by simpa using y15), y16⟩
  have HGB : Hid (∀ i : Nat, i < gn → 0 ≤ G[i]?.getD 0 ∧ G[i]?.getD 0 ≤ 50) := fun i hi => y14 i (by rw [hG.1]; exact hi);have HBB : Hid (bnd 10000 B) := y12;clear y1 y5 y6 y7 y8 y9 y10 y12 y13 y14 y15 y16 hs0 hs3 hk0 hk5 hLN1;have HKP : Hid (x3.length = 3) := (loc_keeps HE3.out HX.out).2;obtain rfl : pk = 3 := by rw [← pl2, HKP.out]
  have HP1 : Hid (x2.length = pn) := pl1;clear pl1 pl2 ql1 ql2 hLN2;have hpn : pn ≤ 1000 := by rw [← HP1.out]; exact HLN.out.1
  clear HLN qi1 qi2;clear q12;obtain ⟨g4_0, g4_1⟩ := q4.c2;obtain ⟨g9_0, g9_1⟩ := q9.c2
  go_upto_region 10 with fail
  clear g4_0 g4_1 g9_0 g9_1;generalize w8 = wb at hB hE hU hG hA pi1 pi2 q4 q9 BB ⊢
  go_wp2_with fail
  go_loopw [15] (fun i wr => ∃ k : Nat, k ≤ gn ∧ i = .int .i64 k ∧ Below wb.heap.size wb wr) (fun i _ => gn - (intOf i).toNat)
  case atStart => exact ⟨0, by omega, rfl, Below.refl _ _⟩
  case round =>
   obtain ⟨k, hk, rfl, hb⟩ := hrel;have hb0 := Below.refl wb.heap.size wb;replace BB := btr BB hb;replace hb0 := btr hb0 hb;replace hB := hB.below hb;replace hE := hE.below hb;replace hU := hU.below hb;replace hG := hG.below hb;replace hA := hA.below hb;replace pi1 := pi1.below hb;replace pi2 := pi2.below hb;replace q4 := q4.below hb;replace q9 := q9.below hb;clear hb
   by_cases hlt : k < gn
   ·have hlt' : (k : Int) < (gn : Int) := by omega
    obtain ⟨wn, hwn⟩ : ∃ x, x = wr := ⟨_, rfl⟩
    subst hwn;have HGl : Hid (G.length = gn) := hG.1;have HBl : Hid (B.length = 3) := hB.1;obtain ⟨g4_0, g4_1⟩ := q4.c2;obtain ⟨g9_0, g9_1⟩ := q9.c2
    go_upto_region 13 with fail
    clear g4_0 g4_1 g9_0 g9_1
    go_cut [16] from 79 to 159 (fun v wx => ∃ P c8 B8, v = .pointer (some ⟨P, 0, none⟩) ∧ Cel wx P [.slice ba 3 bc, .slice (some ⟨B8, 0, none⟩) gn c8] 26 ∧ OwnX wx (some ⟨B8, 0, none⟩) B8 gn G ∧ P ≠ B8 ∧ wn.heap.size ≤ P ∧ wn.heap.size ≤ B8 ∧ Below wn.heap.size wn wx)
    case first =>
     clear hB hE hU hA pi1 pi2 q9 BB hb0 HX HAC HE3 HN HKP HP1 HEG HBB HC;have BV := Below.refl wn.heap.size wn;have x4C := q4.lt;refine wp_region_ends (fun X => X.cell? ⟨X4, 0, none⟩ = some (.slice ba 3 bc) ∧ X.cell? ⟨X4, 1, none⟩ = some (.slice ga gn gc)) (fun _ => True) 8 (by kernel_rfl) ?_;have dr : Below wn.heap.size wn wn.drew := (Below.refl _ _).drew;replace BV := btr BV dr;replace hG := hG.below dr;replace q4 := q4.below dr;clear dr;generalize wn.drew = V0 at hG q4 BV ⊢;have hSS : (V0.cell? ⟨X4, 0, none⟩ = some (.slice ba 3 bc) ∧ V0.cell? ⟨X4, 1, none⟩ = some (.slice ga gn gc)) ∧ True := ⟨⟨q4.cell 0, q4.cell 1⟩, trivial⟩
     refine tkl 0 rfl hSS ?_;refine tkl 3 rfl hSS ?_;refine tkl 1 rfl hSS ?_;refine tkl 4 rfl hSS ?_;refine wo2 2 7 rfl rfl (fun K hK => ?_) fun K hK => ?_
     ·go_simp;have al := (Below.refl V0.heap.size V0).alloc (Nat.le_refl _) (.cells #[] 3);have y2 := BV.size;have sz := al.size;replace BV := btr BV al;replace hG := hG.below al;replace q4 := q4.below al;have ol := World.ownsRow_lit (base := wn.heap.size) (e := 3) (size := 1) V0 #[] 0 y2 (by unfold maxLen; omega) rfl;obtain ⟨V1, hV1⟩ : ∃ V, V = V0.alloc (.cells #[] 3) := ⟨_, rfl⟩
      rw [← hV1];have zV1 : V0.heap.size + 1 ≤ V1.heap.size := by rw [hV1, World.size_alloc]; omega
      rw [← hV1] at hG q4 BV ol;clear hV1;obtain ⟨L, hL⟩ : ∃ x, x = V0.heap.size := ⟨_, rfl⟩
      rw [← hL];rw [← hL] at ol;have yL : wn.heap.size ≤ L := by omega
      have yL2 : L < V1.heap.size := by omega
      clear hL al sz y2;clear hSS;have hSS : (V1.cell? ⟨X4, 0, none⟩ = some (.slice ba 3 bc) ∧ V1.cell? ⟨X4, 1, none⟩ = some (.slice ga gn gc)) ∧ True := ⟨⟨q4.cell 0, q4.cell 1⟩, trivial⟩
      refine kk0 hK (hSS.1) ?_;refine wo2 5 7 rfl rfl (fun K hK => ?_) fun K hK => ?_
      ·rw [if_pos (by rfl)];have y2 := BV.size;refine wp_copyG (.tmp 88) (.tmp 90) rfl wn.heap.size L ga gn gc G (by rfl) ol (by rfl) hG (by omega) (by omega) y2 yL ?_;intro c8 B8 V2 hBn hTn ox hor;have sz := hTn.size;replace BV := BV.trans hBn;have q4' := q4.touch hTn (fun e => by omega);clear q4;have q4 := q4';clear q4';have yB : wn.heap.size ≤ B8 := hor.1;have yB2 : B8 < V2.heap.size := ox.lt (by omega);clear hG ol hBn hTn hor y2 sz;clear hSS;have hSS : (V2.cell? ⟨X4, 0, none⟩ = some (.slice ba 3 bc) ∧ V2.cell? ⟨X4, 1, none⟩ = some (.slice ga gn gc)) ∧ True := ⟨⟨q4.cell 0, q4.cell 1⟩, trivial⟩
       refine kk0 hK (hSS.1) ?_;refine tkl 6 rfl hSS ?_;refine wo1 7 rfl fun K hK => ?_;go_simp;have al := (Below.refl V2.heap.size V2).alloc (Nat.le_refl _) (.cells #[.slice none 0 0, .slice none 0 0] 26);have y2 := BV.size;have sz := al.size;replace BV := btr BV al;replace q4 := q4.below al;replace ox := ox.below al;have qp := Cel.new V2 [.slice none 0 0, .slice none 0 0] 26;obtain ⟨V3, hV3⟩ : ∃ V, V = V2.alloc (.cells #[.slice none 0 0, .slice none 0 0] 26) := ⟨_, rfl⟩
       rw [← hV3];have zV3 : V2.heap.size + 1 ≤ V3.heap.size := by rw [hV3, World.size_alloc]; omega
       rw [← hV3] at q4 BV ox qp;clear hV3;obtain ⟨P, hP⟩ : ∃ x, x = V2.heap.size := ⟨_, rfl⟩
       rw [← hP];rw [← hP] at qp;have yP : wn.heap.size ≤ P := by omega
       have yP2 : P < V3.heap.size := by omega
       have yPB : P ≠ B8 := by omega
       clear hP al sz y2;clear hSS;have hSS : (V3.cell? ⟨X4, 0, none⟩ = some (.slice ba 3 bc) ∧ V3.cell? ⟨X4, 1, none⟩ = some (.slice ga gn gc)) ∧ True := ⟨⟨q4.cell 0, q4.cell 1⟩, trivial⟩
       refine kk0 hK (hSS.1) ?_;refine wo1 8 rfl fun K hK => ?_;have g0 := qp.cell 0;have g1 := qp.cell 1;have h0 := qp.free 0;have h1 := qp.free 1;have lq := qp.lt;simp only [List.getElem?_cons_zero, List.getElem?_cons_succ] at g0 g1;go_simp;clear g0 g1 h0 h1 lq hSS;replace qp := qp.set 0 (.slice ba 3 bc);replace q4 := q4.setOther (B' := P) (by omega) 0 (.slice ba 3 bc);replace ox := ox.setOther (X := P) (fun _ => yPB) 0 (.slice ba 3 bc);replace BV := BV.setCell (p := ⟨P, 0, none⟩) (by simp only []; omega) (.slice ba 3 bc);replace qp := qp.set 1 (.slice (some ⟨B8, 0, none⟩) gn c8);replace q4 := q4.setOther (B' := P) (by omega) 1 (.slice (some ⟨B8, 0, none⟩) gn c8);replace ox := ox.setOther (X := P) (fun _ => yPB) 1 (.slice (some ⟨B8, 0, none⟩) gn c8);replace BV := BV.setCell (p := ⟨P, 1, none⟩) (by simp only []; omega) (.slice (some ⟨B8, 0, none⟩) gn c8);simp only [List.set_cons_succ, List.set_cons_zero] at qp;have hSS : (World.cell? _ ⟨X4, 0, none⟩ = some (.slice ba 3 bc) ∧ World.cell? _ ⟨X4, 1, none⟩ = some (.slice ga gn gc)) ∧ True := ⟨⟨q4.cell 0, q4.cell 1⟩, trivial⟩
       refine kk0 hK (hSS.1) ?_;refine wod ?_ _;clear hSS
       go_wp2_with fail
       go_meet
       case rel => exact ⟨P, c8, B8, rfl, qp, ox, yPB, yP, yB, BV⟩
      go_simp;have al := (Below.refl V1.heap.size V1).alloc (Nat.le_refl _) (.cells #[.slice none 0 0, .slice none 0 0] 26);have y2 := BV.size;have sz := al.size;replace BV := btr BV al;replace hG := hG.below al;replace q4 := q4.below al;replace ol := own_belowL ol al;have qp := Cel.new V1 [.slice none 0 0, .slice none 0 0] 26;obtain ⟨V2, hV2⟩ : ∃ V, V = V1.alloc (.cells #[.slice none 0 0, .slice none 0 0] 26) := ⟨_, rfl⟩
      rw [← hV2];have zV2 : V1.heap.size + 1 ≤ V2.heap.size := by rw [hV2, World.size_alloc]; omega
      rw [← hV2] at hG q4 BV ol qp;clear hV2;obtain ⟨P, hP⟩ : ∃ x, x = V1.heap.size := ⟨_, rfl⟩
      rw [← hP];rw [← hP] at qp;have yP : wn.heap.size ≤ P := by omega
      have yP2 : P < V2.heap.size := by omega
      have yPL : P ≠ L := by omega
      clear hP al sz y2;clear hSS;have hSS : (V2.cell? ⟨X4, 0, none⟩ = some (.slice ba 3 bc) ∧ V2.cell? ⟨X4, 1, none⟩ = some (.slice ga gn gc)) ∧ True := ⟨⟨q4.cell 0, q4.cell 1⟩, trivial⟩
      refine kk0 hK (hSS.1) ?_;refine wo1 5 rfl fun K hK => ?_;rw [if_pos (by rfl)];have y2 := BV.size;refine wp_copyG (.tmp 88) (.tmp 90) rfl wn.heap.size L ga gn gc G (by rfl) ol (by rfl) hG (by omega) (by omega) y2 yL ?_;intro c8 B8 V3 hBn hTn ox hor;have sz := hTn.size;replace BV := BV.trans hBn;have q4' := q4.touch hTn (fun e => by omega);clear q4;have q4 := q4';clear q4';have yB : wn.heap.size ≤ B8 := hor.1;have yB2 : B8 < V3.heap.size := ox.lt (by omega);replace qp := qp.touch hTn (fun e => by omega);have yPB : P ≠ B8 := by rcases hor.2 with h | h <;> omega
      clear hG ol hBn hTn hor y2 sz;clear hSS;have hSS : (V3.cell? ⟨X4, 0, none⟩ = some (.slice ba 3 bc) ∧ V3.cell? ⟨X4, 1, none⟩ = some (.slice ga gn gc)) ∧ True := ⟨⟨q4.cell 0, q4.cell 1⟩, trivial⟩
      refine kk0 hK (hSS.1) ?_;refine tkl 6 rfl hSS ?_;refine wo1 8 rfl fun K hK => ?_;have g0 := qp.cell 0;have g1 := qp.cell 1;have h0 := qp.free 0;have h1 := qp.free 1;have lq := qp.lt;simp only [List.getElem?_cons_zero, List.getElem?_cons_succ] at g0 g1;go_simp;clear g0 g1 h0 h1 lq hSS;replace qp := qp.set 0 (.slice ba 3 bc);replace q4 := q4.setOther (B' := P) (by omega) 0 (.slice ba 3 bc);replace ox := ox.setOther (X := P) (fun _ => yPB) 0 (.slice ba 3 bc);replace BV := BV.setCell (p := ⟨P, 0, none⟩) (by simp only []; omega) (.slice ba 3 bc);replace qp := qp.set 1 (.slice (some ⟨B8, 0, none⟩) gn c8);replace q4 := q4.setOther (B' := P) (by omega) 1 (.slice (some ⟨B8, 0, none⟩) gn c8);replace ox := ox.setOther (X := P) (fun _ => yPB) 1 (.slice (some ⟨B8, 0, none⟩) gn c8);replace BV := BV.setCell (p := ⟨P, 1, none⟩) (by simp only []; omega) (.slice (some ⟨B8, 0, none⟩) gn c8);simp only [List.set_cons_succ, List.set_cons_zero] at qp;have hSS : (World.cell? _ ⟨X4, 0, none⟩ = some (.slice ba 3 bc) ∧ World.cell? _ ⟨X4, 1, none⟩ = some (.slice ga gn gc)) ∧ True := ⟨⟨q4.cell 0, q4.cell 1⟩, trivial⟩
      refine kk0 hK (hSS.1) ?_;refine wod ?_ _;clear hSS
      go_wp2_with fail
      go_meet
      case rel => exact ⟨P, c8, B8, rfl, qp, ox, yPB, yP, yB, BV⟩
     go_simp;have al := (Below.refl V0.heap.size V0).alloc (Nat.le_refl _) (.cells #[.slice none 0 0, .slice none 0 0] 26);have y2 := BV.size;have sz := al.size;replace BV := btr BV al;replace hG := hG.below al;replace q4 := q4.below al;have qp := Cel.new V0 [.slice none 0 0, .slice none 0 0] 26;obtain ⟨V1, hV1⟩ : ∃ V, V = V0.alloc (.cells #[.slice none 0 0, .slice none 0 0] 26) := ⟨_, rfl⟩
     rw [← hV1];have zV1 : V0.heap.size + 1 ≤ V1.heap.size := by rw [hV1, World.size_alloc]; omega
     rw [← hV1] at hG q4 BV qp;clear hV1;obtain ⟨P, hP⟩ : ∃ x, x = V0.heap.size := ⟨_, rfl⟩
     rw [← hP];rw [← hP] at qp;have yP : wn.heap.size ≤ P := by omega
     have yP2 : P < V1.heap.size := by omega
     clear hP al sz y2;clear hSS;have hSS : (V1.cell? ⟨X4, 0, none⟩ = some (.slice ba 3 bc) ∧ V1.cell? ⟨X4, 1, none⟩ = some (.slice ga gn gc)) ∧ True := ⟨⟨q4.cell 0, q4.cell 1⟩, trivial⟩
     refine kk0 hK (hSS.1) ?_;refine wo1 2 rfl fun K hK => ?_;go_simp;have al := (Below.refl V1.heap.size V1).alloc (Nat.le_refl _) (.cells #[] 3);have y2 := BV.size;have sz := al.size;replace BV := btr BV al;replace hG := hG.below al;replace q4 := q4.below al;replace qp := qp.below al;have ol := World.ownsRow_lit (base := wn.heap.size) (e := 3) (size := 1) V1 #[] 0 y2 (by unfold maxLen; omega) rfl;obtain ⟨V2, hV2⟩ : ∃ V, V = V1.alloc (.cells #[] 3) := ⟨_, rfl⟩
     rw [← hV2];have zV2 : V1.heap.size + 1 ≤ V2.heap.size := by rw [hV2, World.size_alloc]; omega
     rw [← hV2] at hG q4 BV ol qp;clear hV2;obtain ⟨L, hL⟩ : ∃ x, x = V1.heap.size := ⟨_, rfl⟩
     rw [← hL];rw [← hL] at ol;have yL : wn.heap.size ≤ L := by omega
     have yL2 : L < V2.heap.size := by omega
     have yPL : P ≠ L := by omega
     clear hL al sz y2;clear hSS;have hSS : (V2.cell? ⟨X4, 0, none⟩ = some (.slice ba 3 bc) ∧ V2.cell? ⟨X4, 1, none⟩ = some (.slice ga gn gc)) ∧ True := ⟨⟨q4.cell 0, q4.cell 1⟩, trivial⟩
     refine kk0 hK (hSS.1) ?_;refine wo1 5 rfl fun K hK => ?_;rw [if_pos (by rfl)];have y2 := BV.size;refine wp_copyG (.tmp 88) (.tmp 90) rfl wn.heap.size L ga gn gc G (by rfl) ol (by rfl) hG (by omega) (by omega) y2 yL ?_;intro c8 B8 V3 hBn hTn ox hor;have sz := hTn.size;replace BV := BV.trans hBn;have q4' := q4.touch hTn (fun e => by omega);clear q4;have q4 := q4';clear q4';have yB : wn.heap.size ≤ B8 := hor.1;have yB2 : B8 < V3.heap.size := ox.lt (by omega);replace qp := qp.touch hTn (fun e => by omega);have yPB : P ≠ B8 := by rcases hor.2 with h | h <;> omega
     clear hG ol hBn hTn hor y2 sz;clear hSS;have hSS : (V3.cell? ⟨X4, 0, none⟩ = some (.slice ba 3 bc) ∧ V3.cell? ⟨X4, 1, none⟩ = some (.slice ga gn gc)) ∧ True := ⟨⟨q4.cell 0, q4.cell 1⟩, trivial⟩
     refine kk0 hK (hSS.1) ?_;refine tkl 6 rfl hSS ?_;refine wo1 8 rfl fun K hK => ?_;have g0 := qp.cell 0;have g1 := qp.cell 1;have h0 := qp.free 0;have h1 := qp.free 1;have lq := qp.lt;simp only [List.getElem?_cons_zero, List.getElem?_cons_succ] at g0 g1;go_simp;clear g0 g1 h0 h1 lq hSS;replace qp := qp.set 0 (.slice ba 3 bc);replace q4 := q4.setOther (B' := P) (by omega) 0 (.slice ba 3 bc);replace ox := ox.setOther (X := P) (fun _ => yPB) 0 (.slice ba 3 bc);replace BV := BV.setCell (p := ⟨P, 0, none⟩) (by simp only []; omega) (.slice ba 3 bc);replace qp := qp.set 1 (.slice (some ⟨B8, 0, none⟩) gn c8);replace q4 := q4.setOther (B' := P) (by omega) 1 (.slice (some ⟨B8, 0, none⟩) gn c8);replace ox := ox.setOther (X := P) (fun _ => yPB) 1 (.slice (some ⟨B8, 0, none⟩) gn c8);replace BV := BV.setCell (p := ⟨P, 1, none⟩) (by simp only []; omega) (.slice (some ⟨B8, 0, none⟩) gn c8);simp only [List.set_cons_succ, List.set_cons_zero] at qp;have hSS : (World.cell? _ ⟨X4, 0, none⟩ = some (.slice ba 3 bc) ∧ World.cell? _ ⟨X4, 1, none⟩ = some (.slice ga gn gc)) ∧ True := ⟨⟨q4.cell 0, q4.cell 1⟩, trivial⟩
     refine kk0 hK (hSS.1) ?_;refine wod ?_ _;clear hSS
     go_wp2_with fail
     go_meet
     case rel => exact ⟨P, c8, B8, rfl, qp, ox, yPB, yP, yB, BV⟩
    case rest =>
     obtain ⟨P, c8, B8, rfl, qp, ox, yPB, yP, yB, b8⟩ := hcut;have hun := hlt;obtain ⟨hy0, hy1⟩ := HGB.out k hun;have d1 := (ownx_cell ox hun).1;have d2 := (ownx_cell ox hun).2;obtain ⟨y, hy⟩ : ∃ y, y = G[k]?.getD 0 := ⟨_, rfl⟩
     have HyG : Hid (y = G[k]?.getD 0) := hy;rw [← hy] at hy0 hy1 d1;clear hy;have p0 := qp.cell 0;have p1 := qp.cell 1;simp only [List.getElem?_cons_zero, List.getElem?_cons_succ] at p0 p1;have lB := ox.lt (by omega)
     by_cases hku : k = u
     ·have hk1 : ((k : Int) == (u : Int)) = true := by rw [hku]; simp
      have hk2 : ((k : Int) != (u : Int)) = false := by rw [hku]; simp
      have HKU : Hid (k = u) := hku;clear hku
      by_cases h50 : y < 50
      ·have HLD : Hid (locL 3 gn B (G.set k (y + 1)) N ss (u : Int) 3 E (kn : Int) 2 U = (x1, x2, x3, true)) := by (rw [HKU.out]; exact more_own HBl.out HGl.out HE3.out HAC.out hug (by rw [HyG.out, HKU.out]) h50 HX.out)
       go_upto_region 15 with fail
       refine wp_region_ends (fun X => X.cell? ⟨P, 0, none⟩ = some (.slice ba 3 bc) ∧ X.cell? ⟨P, 1, none⟩ = some (.slice (some ⟨B8, 0, none⟩) gn c8)) (fun X => X.cell? ⟨B8, k, none⟩ = some (.int .i64 y)) 10 (by kernel_rfl) ?_;have dr : Below wc.heap.size wc wc.drew := (Below.refl _ _).drew;replace b8 := btr b8 dr;replace qp := qp.below dr;replace ox := ox.below dr;clear d1 d2 p0 p1 dr lB;generalize wc.drew = V0 at b8 qp ox ⊢;have d1 := (ownx_cell ox hun).1;have d2 := (ownx_cell ox hun).2;rw [← HyG.out] at d1;have lB := ox.lt (by omega);have wy : IntKind.i64.wrap (y + 1) = y + 1 := wrap_id (by omega) (by omega);have hSS : (fun X : World => X.cell? ⟨P, 0, none⟩ = some (.slice ba 3 bc) ∧ X.cell? ⟨P, 1, none⟩ = some (.slice (some ⟨B8, 0, none⟩) gn c8)) V0 ∧ (fun X : World => X.cell? ⟨B8, k, none⟩ = some (.int .i64 y)) V0 := ⟨⟨qp.cell 0, qp.cell 1⟩, d1⟩
       refine tkl 0 rfl hSS ?_;refine tkl 1 rfl hSS ?_;refine tkl 2 rfl hSS ?_;refine tkl 3 rfl hSS ?_;refine tkl 4 rfl hSS ?_;refine tkl 5 rfl hSS ?_;refine tkl 6 rfl hSS ?_;refine tkM (i := 7) rfl rfl hSS ?_;refine tkl 8 rfl hSS ?_;refine wo1 9 rfl fun K hK => ?_;go_simp;refine hK.out _ _ ⟨hSS.1, fun _ => hSS.2⟩ ?_;clear hK K hSS;refine wo1 10 rfl fun K hK => ?_;go_simp;clear d1 d2;have hD := (ownx_own ox hun (y + 1)).ints;replace qp := qp.setOther (B' := B8) yPB k (.int .i64 (y + 1));replace b8 := b8.setCell (p := ⟨B8, k, none⟩) (by simp only []; omega) (.int .i64 (y + 1));refine hK.out _ _ ⟨⟨qp.cell 0, qp.cell 1⟩, fun h => absurd h (by decide)⟩ ?_;refine wod ?_ _;clear ox lB;generalize V0.setCell ⟨B8, k, none⟩ (.int .i64 (y + 1)) = W9 at hD qp b8 ⊢;replace BB := btr BB b8;replace hb0 := btr hb0 b8;replace hB := hB.below b8;replace hE := hE.below b8;replace hU := hU.below b8;replace hG := hG.below b8;replace hA := hA.below b8;replace pi1 := pi1.below b8;replace pi2 := pi2.below b8;replace q4 := q4.below b8;replace q9 := q9.below b8;clear b8;obtain ⟨g4_0, g4_1⟩ := q4.c2;obtain ⟨g9_0, g9_1⟩ := q9.c2;obtain ⟨g16_0, g16_1⟩ := qp.c2
       go_wp2_with fail
       refine (iloc_any ad N c ba 3 bc (some ⟨B8, 0, none⟩) gn c8 (u : Int) ea 3 ec (kn : Int) ua 2 uc ss B (G.set k (y + 1)) E U hA hB hD hE hU HN.out).mono ?_;rintro ee w9 hL;rw [HLD.out] at hL;obtain ⟨za, zn, zcap, zB, zc, zk, zcap2, zB2, rfl, zl1, zl2, zb, zo1, zo2, -, -, -⟩ := hL;have zi1 := zo1.ints;have zi2 := zo2.ints;clear zo1 zo2;dsimp only at zl1 zl2 zi1 zi2;clear g4_0 g4_1 g9_0 g9_1 g16_0 g16_1;replace BB := btr BB zb;replace hb0 := btr hb0 zb;replace hB := hB.below zb;replace hE := hE.below zb;replace hU := hU.below zb;replace hG := hG.below zb;replace hA := hA.below zb;replace pi1 := pi1.below zb;replace pi2 := pi2.below zb;replace hD := hD.below zb;replace q4 := q4.below zb;replace q9 := q9.below zb;replace qp := qp.below zb;clear zb;obtain rfl : zn = pn := by rw [← zl1, HP1.out]
       obtain rfl : zk = 3 := by rw [← zl2, HKP.out]
       clear zl1 zl2 HLD HGl HBl HX HGB HEG HyG;have al := (Below.refl (w9).heap.size (w9)).alloc (Nat.le_refl _) (.cells #[.int .i64 x1, .slice za zn zcap] 30);replace BB := btr BB al;replace hb0 := btr hb0 al;replace hB := hB.below al;replace hE := hE.below al;replace hU := hU.below al;replace hG := hG.below al;replace hA := hA.below al;replace pi1 := pi1.below al;replace pi2 := pi2.below al;replace hD := hD.below al;replace zi1 := zi1.below al;replace zi2 := zi2.below al;replace q4 := q4.below al;replace q9 := q9.below al;replace qp := qp.below al;clear al;have q17 := Cel.new (w9) [.int .i64 x1, .slice za zn zcap] 30;obtain ⟨g4_0, g4_1⟩ := q4.c2;obtain ⟨g9_0, g9_1⟩ := q9.c2;obtain ⟨g16_0, g16_1⟩ := qp.c2;obtain ⟨g17_0, g17_1⟩ := q17.c2
       go_wp2_with fail
       generalize (w9).alloc (.cells #[.int .i64 x1, .slice za zn zcap] 30) = W10 at hB hE hU hG hA pi1 pi2 hD zi1 zi2 q4 q9 qp q17 BB hb0 g4_0 g4_1 g9_0 g9_1 g16_0 g16_1 g17_0 g17_1 ⊢;obtain ⟨X17, hX17⟩ : ∃ x, x = w9.heap.size := ⟨_, rfl⟩
       rw [← hX17];rw [← hX17] at q17 g17_0 g17_1;have loX17 : w9.heap.size ≤ X17 := by omega
       have upX17 : X17 ≤ w9.heap.size := by omega
       clear hX17;refine (coR_any x1 x1 x2 x2 zi1 pi1).mono ?_;rintro ee w11 ⟨rfl, bd1⟩;rw [coRB_same];clear g4_0 g4_1 g9_0 g9_1 g16_0 g16_1 g17_0 g17_1;replace BB := btr BB bd1;replace hb0 := btr hb0 bd1;replace hB := hB.below bd1;replace hE := hE.below bd1;replace hU := hU.below bd1;replace hG := hG.below bd1;replace hA := hA.below bd1;replace pi1 := pi1.below bd1;replace pi2 := pi2.below bd1;replace hD := hD.below bd1;replace zi1 := zi1.below bd1;replace zi2 := zi2.below bd1;replace q4 := q4.below bd1;replace q9 := q9.below bd1;replace qp := qp.below bd1;replace q17 := q17.below bd1;clear bd1;obtain ⟨g4_0, g4_1⟩ := q4.c2;obtain ⟨g9_0, g9_1⟩ := q9.c2;obtain ⟨g16_0, g16_1⟩ := qp.c2;obtain ⟨g17_0, g17_1⟩ := q17.c2
       go_wp2_with fail
       refine (coI_any x3 x3 zi2 pi2 (by omega) (by omega)).mono ?_;rintro ee w12 ⟨rfl, bd2⟩;rw [eqB_refl];clear g4_0 g4_1 g9_0 g9_1 g16_0 g16_1 g17_0 g17_1;replace BB := btr BB bd2;replace hb0 := btr hb0 bd2;replace hB := hB.below bd2;replace hE := hE.below bd2;replace hU := hU.below bd2;replace hG := hG.below bd2;replace hA := hA.below bd2;replace pi1 := pi1.below bd2;replace pi2 := pi2.below bd2;replace hD := hD.below bd2;replace zi1 := zi1.below bd2;replace zi2 := zi2.below bd2;replace q4 := q4.below bd2;replace q9 := q9.below bd2;replace qp := qp.below bd2;replace q17 := q17.below bd2;clear bd2;clear hB hE hU hG hA pi1 pi2 hD zi1 zi2 q4 q9 qp q17 BB
       go_wp2
       go_roundw
       case rel => exact ⟨k + 1, by omega, by go_num, hb0⟩
       case measure => simp [intOf]; omega
      have HLD : Hid (locL 3 gn B G N ss (u : Int) 3 E (kn : Int) 2 U = (x1, x2, x3, true)) := HX.out
      go_upto_region 18 with fail
      clear d1 d2 p0 p1 lB;have hD := ox.ints;clear ox;replace BB := btr BB b8;replace hb0 := btr hb0 b8;replace hB := hB.below b8;replace hE := hE.below b8;replace hU := hU.below b8;replace hG := hG.below b8;replace hA := hA.below b8;replace pi1 := pi1.below b8;replace pi2 := pi2.below b8;replace q4 := q4.below b8;replace q9 := q9.below b8;clear b8;obtain ⟨g4_0, g4_1⟩ := q4.c2;obtain ⟨g9_0, g9_1⟩ := q9.c2;obtain ⟨g16_0, g16_1⟩ := qp.c2
      go_wp2_with fail
      refine (iloc_any ad N c ba 3 bc (some ⟨B8, 0, none⟩) gn c8 (u : Int) ea 3 ec (kn : Int) ua 2 uc ss B G E U hA hB hD hE hU HN.out).mono ?_;rintro ee w9 hL;rw [HLD.out] at hL;obtain ⟨za, zn, zcap, zB, zc, zk, zcap2, zB2, rfl, zl1, zl2, zb, zo1, zo2, -, -, -⟩ := hL;have zi1 := zo1.ints;have zi2 := zo2.ints;clear zo1 zo2;dsimp only at zl1 zl2 zi1 zi2;clear g4_0 g4_1 g9_0 g9_1 g16_0 g16_1;replace BB := btr BB zb;replace hb0 := btr hb0 zb;replace hB := hB.below zb;replace hE := hE.below zb;replace hU := hU.below zb;replace hG := hG.below zb;replace hA := hA.below zb;replace pi1 := pi1.below zb;replace pi2 := pi2.below zb;replace hD := hD.below zb;replace q4 := q4.below zb;replace q9 := q9.below zb;replace qp := qp.below zb;clear zb;obtain rfl : zn = pn := by rw [← zl1, HP1.out]
      obtain rfl : zk = 3 := by rw [← zl2, HKP.out]
      clear zl1 zl2 HLD HGl HBl HX HGB HEG HyG;have al := (Below.refl (w9).heap.size (w9)).alloc (Nat.le_refl _) (.cells #[.int .i64 x1, .slice za zn zcap] 30);replace BB := btr BB al;replace hb0 := btr hb0 al;replace hB := hB.below al;replace hE := hE.below al;replace hU := hU.below al;replace hG := hG.below al;replace hA := hA.below al;replace pi1 := pi1.below al;replace pi2 := pi2.below al;replace hD := hD.below al;replace zi1 := zi1.below al;replace zi2 := zi2.below al;replace q4 := q4.below al;replace q9 := q9.below al;replace qp := qp.below al;clear al;have q17 := Cel.new (w9) [.int .i64 x1, .slice za zn zcap] 30;obtain ⟨g4_0, g4_1⟩ := q4.c2;obtain ⟨g9_0, g9_1⟩ := q9.c2;obtain ⟨g16_0, g16_1⟩ := qp.c2;obtain ⟨g17_0, g17_1⟩ := q17.c2
      go_wp2_with fail
      generalize (w9).alloc (.cells #[.int .i64 x1, .slice za zn zcap] 30) = W10 at hB hE hU hG hA pi1 pi2 hD zi1 zi2 q4 q9 qp q17 BB hb0 g4_0 g4_1 g9_0 g9_1 g16_0 g16_1 g17_0 g17_1 ⊢;obtain ⟨X17, hX17⟩ : ∃ x, x = w9.heap.size := ⟨_, rfl⟩
      rw [← hX17];rw [← hX17] at q17 g17_0 g17_1;have loX17 : w9.heap.size ≤ X17 := by omega
      have upX17 : X17 ≤ w9.heap.size := by omega
      clear hX17;refine (coR_any x1 x1 x2 x2 zi1 pi1).mono ?_;rintro ee w11 ⟨rfl, bd1⟩;rw [coRB_same];clear g4_0 g4_1 g9_0 g9_1 g16_0 g16_1 g17_0 g17_1;replace BB := btr BB bd1;replace hb0 := btr hb0 bd1;replace hB := hB.below bd1;replace hE := hE.below bd1;replace hU := hU.below bd1;replace hG := hG.below bd1;replace hA := hA.below bd1;replace pi1 := pi1.below bd1;replace pi2 := pi2.below bd1;replace hD := hD.below bd1;replace zi1 := zi1.below bd1;replace zi2 := zi2.below bd1;replace q4 := q4.below bd1;replace q9 := q9.below bd1;replace qp := qp.below bd1;replace q17 := q17.below bd1;clear bd1;obtain ⟨g4_0, g4_1⟩ := q4.c2;obtain ⟨g9_0, g9_1⟩ := q9.c2;obtain ⟨g16_0, g16_1⟩ := qp.c2;obtain ⟨g17_0, g17_1⟩ := q17.c2
      go_wp2_with fail
      refine (coI_any x3 x3 zi2 pi2 (by omega) (by omega)).mono ?_;rintro ee w12 ⟨rfl, bd2⟩;rw [eqB_refl];clear g4_0 g4_1 g9_0 g9_1 g16_0 g16_1 g17_0 g17_1;replace BB := btr BB bd2;replace hb0 := btr hb0 bd2;replace hB := hB.below bd2;replace hE := hE.below bd2;replace hU := hU.below bd2;replace hG := hG.below bd2;replace hA := hA.below bd2;replace pi1 := pi1.below bd2;replace pi2 := pi2.below bd2;replace hD := hD.below bd2;replace zi1 := zi1.below bd2;replace zi2 := zi2.below bd2;replace q4 := q4.below bd2;replace q9 := q9.below bd2;replace qp := qp.below bd2;replace q17 := q17.below bd2;clear bd2;clear hB hE hU hG hA pi1 pi2 hD zi1 zi2 q4 q9 qp q17 BB
      go_wp2
      go_roundw
      case rel => exact ⟨k + 1, by omega, by go_num, hb0⟩
      case measure => simp [intOf]; omega
     have hk1 : ((k : Int) == (u : Int)) = false := by simp; omega
     have hk2 : ((k : Int) != (u : Int)) = true := by simp; omega
     by_cases h0 : 0 < y
     ·have hy9 : y > 0 := h0;have HLD : Hid (locL 3 gn B (G.set k (y - 1)) N ss (u : Int) 3 E (kn : Int) 2 U = (x1, x2, x3, true)) := more_less HBl.out HGl.out HE3.out HAC.out hun hku HyG.out h0 HX.out
      go_upto_region 17 with fail
      refine wp_region_ends (fun X => X.cell? ⟨P, 0, none⟩ = some (.slice ba 3 bc) ∧ X.cell? ⟨P, 1, none⟩ = some (.slice (some ⟨B8, 0, none⟩) gn c8)) (fun X => X.cell? ⟨B8, k, none⟩ = some (.int .i64 y)) 10 (by kernel_rfl) ?_;have dr : Below wc.heap.size wc wc.drew := (Below.refl _ _).drew;replace b8 := btr b8 dr;replace qp := qp.below dr;replace ox := ox.below dr;clear d1 d2 p0 p1 dr lB;generalize wc.drew = V0 at b8 qp ox ⊢;have d1 := (ownx_cell ox hun).1;have d2 := (ownx_cell ox hun).2;rw [← HyG.out] at d1;have lB := ox.lt (by omega);have wy : IntKind.i64.wrap (y - 1) = y - 1 := wrap_id (by omega) (by omega);have hSS : (fun X : World => X.cell? ⟨P, 0, none⟩ = some (.slice ba 3 bc) ∧ X.cell? ⟨P, 1, none⟩ = some (.slice (some ⟨B8, 0, none⟩) gn c8)) V0 ∧ (fun X : World => X.cell? ⟨B8, k, none⟩ = some (.int .i64 y)) V0 := ⟨⟨qp.cell 0, qp.cell 1⟩, d1⟩
      refine tkl 0 rfl hSS ?_;refine tkl 1 rfl hSS ?_;refine tkl 2 rfl hSS ?_;refine tkl 3 rfl hSS ?_;refine tkl 4 rfl hSS ?_;refine tkl 5 rfl hSS ?_;refine tkl 6 rfl hSS ?_;refine tkM (i := 7) rfl rfl hSS ?_;refine tkl 8 rfl hSS ?_;refine wo1 9 rfl fun K hK => ?_;go_simp;refine hK.out _ _ ⟨hSS.1, fun _ => hSS.2⟩ ?_;clear hK K hSS;refine wo1 10 rfl fun K hK => ?_;go_simp;clear d1 d2;have hD := (ownx_own ox hun (y - 1)).ints;replace qp := qp.setOther (B' := B8) yPB k (.int .i64 (y - 1));replace b8 := b8.setCell (p := ⟨B8, k, none⟩) (by simp only []; omega) (.int .i64 (y - 1));refine hK.out _ _ ⟨⟨qp.cell 0, qp.cell 1⟩, fun h => absurd h (by decide)⟩ ?_;refine wod ?_ _;clear ox lB;generalize V0.setCell ⟨B8, k, none⟩ (.int .i64 (y - 1)) = W9 at hD qp b8 ⊢;replace BB := btr BB b8;replace hb0 := btr hb0 b8;replace hB := hB.below b8;replace hE := hE.below b8;replace hU := hU.below b8;replace hG := hG.below b8;replace hA := hA.below b8;replace pi1 := pi1.below b8;replace pi2 := pi2.below b8;replace q4 := q4.below b8;replace q9 := q9.below b8;clear b8;obtain ⟨g4_0, g4_1⟩ := q4.c2;obtain ⟨g9_0, g9_1⟩ := q9.c2;obtain ⟨g16_0, g16_1⟩ := qp.c2
      go_wp2_with fail
      refine (iloc_any ad N c ba 3 bc (some ⟨B8, 0, none⟩) gn c8 (u : Int) ea 3 ec (kn : Int) ua 2 uc ss B (G.set k (y - 1)) E U hA hB hD hE hU HN.out).mono ?_;rintro ee w9 hL;rw [HLD.out] at hL;obtain ⟨za, zn, zcap, zB, zc, zk, zcap2, zB2, rfl, zl1, zl2, zb, zo1, zo2, -, -, -⟩ := hL;have zi1 := zo1.ints;have zi2 := zo2.ints;clear zo1 zo2;dsimp only at zl1 zl2 zi1 zi2;clear g4_0 g4_1 g9_0 g9_1 g16_0 g16_1;replace BB := btr BB zb;replace hb0 := btr hb0 zb;replace hB := hB.below zb;replace hE := hE.below zb;replace hU := hU.below zb;replace hG := hG.below zb;replace hA := hA.below zb;replace pi1 := pi1.below zb;replace pi2 := pi2.below zb;replace hD := hD.below zb;replace q4 := q4.below zb;replace q9 := q9.below zb;replace qp := qp.below zb;clear zb;obtain rfl : zn = pn := by rw [← zl1, HP1.out]
      obtain rfl : zk = 3 := by rw [← zl2, HKP.out]
      clear zl1 zl2 HLD HGl HBl HX HGB HEG HyG;have al := (Below.refl (w9).heap.size (w9)).alloc (Nat.le_refl _) (.cells #[.int .i64 x1, .slice za zn zcap] 30);replace BB := btr BB al;replace hb0 := btr hb0 al;replace hB := hB.below al;replace hE := hE.below al;replace hU := hU.below al;replace hG := hG.below al;replace hA := hA.below al;replace pi1 := pi1.below al;replace pi2 := pi2.below al;replace hD := hD.below al;replace zi1 := zi1.below al;replace zi2 := zi2.below al;replace q4 := q4.below al;replace q9 := q9.below al;replace qp := qp.below al;clear al;have q17 := Cel.new (w9) [.int .i64 x1, .slice za zn zcap] 30;obtain ⟨g4_0, g4_1⟩ := q4.c2;obtain ⟨g9_0, g9_1⟩ := q9.c2;obtain ⟨g16_0, g16_1⟩ := qp.c2;obtain ⟨g17_0, g17_1⟩ := q17.c2
      go_wp2_with fail
      generalize (w9).alloc (.cells #[.int .i64 x1, .slice za zn zcap] 30) = W10 at hB hE hU hG hA pi1 pi2 hD zi1 zi2 q4 q9 qp q17 BB hb0 g4_0 g4_1 g9_0 g9_1 g16_0 g16_1 g17_0 g17_1 ⊢;obtain ⟨X17, hX17⟩ : ∃ x, x = w9.heap.size := ⟨_, rfl⟩
      rw [← hX17];rw [← hX17] at q17 g17_0 g17_1;have loX17 : w9.heap.size ≤ X17 := by omega
      have upX17 : X17 ≤ w9.heap.size := by omega
      clear hX17;refine (coR_any x1 x1 x2 x2 zi1 pi1).mono ?_;rintro ee w11 ⟨rfl, bd1⟩;rw [coRB_same];clear g4_0 g4_1 g9_0 g9_1 g16_0 g16_1 g17_0 g17_1;replace BB := btr BB bd1;replace hb0 := btr hb0 bd1;replace hB := hB.below bd1;replace hE := hE.below bd1;replace hU := hU.below bd1;replace hG := hG.below bd1;replace hA := hA.below bd1;replace pi1 := pi1.below bd1;replace pi2 := pi2.below bd1;replace hD := hD.below bd1;replace zi1 := zi1.below bd1;replace zi2 := zi2.below bd1;replace q4 := q4.below bd1;replace q9 := q9.below bd1;replace qp := qp.below bd1;replace q17 := q17.below bd1;clear bd1;obtain ⟨g4_0, g4_1⟩ := q4.c2;obtain ⟨g9_0, g9_1⟩ := q9.c2;obtain ⟨g16_0, g16_1⟩ := qp.c2;obtain ⟨g17_0, g17_1⟩ := q17.c2
      go_wp2_with fail
      refine (coI_any x3 x3 zi2 pi2 (by omega) (by omega)).mono ?_;rintro ee w12 ⟨rfl, bd2⟩;rw [eqB_refl];clear g4_0 g4_1 g9_0 g9_1 g16_0 g16_1 g17_0 g17_1;replace BB := btr BB bd2;replace hb0 := btr hb0 bd2;replace hB := hB.below bd2;replace hE := hE.below bd2;replace hU := hU.below bd2;replace hG := hG.below bd2;replace hA := hA.below bd2;replace pi1 := pi1.below bd2;replace pi2 := pi2.below bd2;replace hD := hD.below bd2;replace zi1 := zi1.below bd2;replace zi2 := zi2.below bd2;replace q4 := q4.below bd2;replace q9 := q9.below bd2;replace qp := qp.below bd2;replace q17 := q17.below bd2;clear bd2;clear hB hE hU hG hA pi1 pi2 hD zi1 zi2 q4 q9 qp q17 BB
      go_wp2
      go_roundw
      case rel => exact ⟨k + 1, by omega, by go_num, hb0⟩
      case measure => simp [intOf]; omega
     have hy9 : ¬ y > 0 := h0;have HLD : Hid (locL 3 gn B G N ss (u : Int) 3 E (kn : Int) 2 U = (x1, x2, x3, true)) := HX.out
     go_upto_region 18 with fail
     clear d1 d2 p0 p1 lB;have hD := ox.ints;clear ox;replace BB := btr BB b8;replace hb0 := btr hb0 b8;replace hB := hB.below b8;replace hE := hE.below b8;replace hU := hU.below b8;replace hG := hG.below b8;replace hA := hA.below b8;replace pi1 := pi1.below b8;replace pi2 := pi2.below b8;replace q4 := q4.below b8;replace q9 := q9.below b8;clear b8;obtain ⟨g4_0, g4_1⟩ := q4.c2;obtain ⟨g9_0, g9_1⟩ := q9.c2;obtain ⟨g16_0, g16_1⟩ := qp.c2
     go_wp2_with fail
     refine (iloc_any ad N c ba 3 bc (some ⟨B8, 0, none⟩) gn c8 (u : Int) ea 3 ec (kn : Int) ua 2 uc ss B G E U hA hB hD hE hU HN.out).mono ?_;rintro ee w9 hL;rw [HLD.out] at hL;obtain ⟨za, zn, zcap, zB, zc, zk, zcap2, zB2, rfl, zl1, zl2, zb, zo1, zo2, -, -, -⟩ := hL;have zi1 := zo1.ints;have zi2 := zo2.ints;clear zo1 zo2;dsimp only at zl1 zl2 zi1 zi2;clear g4_0 g4_1 g9_0 g9_1 g16_0 g16_1;replace BB := btr BB zb;replace hb0 := btr hb0 zb;replace hB := hB.below zb;replace hE := hE.below zb;replace hU := hU.below zb;replace hG := hG.below zb;replace hA := hA.below zb;replace pi1 := pi1.below zb;replace pi2 := pi2.below zb;replace hD := hD.below zb;replace q4 := q4.below zb;replace q9 := q9.below zb;replace qp := qp.below zb;clear zb;obtain rfl : zn = pn := by rw [← zl1, HP1.out]
     obtain rfl : zk = 3 := by rw [← zl2, HKP.out]
     clear zl1 zl2 HLD HGl HBl HX HGB HEG HyG;have al := (Below.refl (w9).heap.size (w9)).alloc (Nat.le_refl _) (.cells #[.int .i64 x1, .slice za zn zcap] 30);replace BB := btr BB al;replace hb0 := btr hb0 al;replace hB := hB.below al;replace hE := hE.below al;replace hU := hU.below al;replace hG := hG.below al;replace hA := hA.below al;replace pi1 := pi1.below al;replace pi2 := pi2.below al;replace hD := hD.below al;replace zi1 := zi1.below al;replace zi2 := zi2.below al;replace q4 := q4.below al;replace q9 := q9.below al;replace qp := qp.below al;clear al;have q17 := Cel.new (w9) [.int .i64 x1, .slice za zn zcap] 30;obtain ⟨g4_0, g4_1⟩ := q4.c2;obtain ⟨g9_0, g9_1⟩ := q9.c2;obtain ⟨g16_0, g16_1⟩ := qp.c2;obtain ⟨g17_0, g17_1⟩ := q17.c2
     go_wp2_with fail
     generalize (w9).alloc (.cells #[.int .i64 x1, .slice za zn zcap] 30) = W10 at hB hE hU hG hA pi1 pi2 hD zi1 zi2 q4 q9 qp q17 BB hb0 g4_0 g4_1 g9_0 g9_1 g16_0 g16_1 g17_0 g17_1 ⊢;obtain ⟨X17, hX17⟩ : ∃ x, x = w9.heap.size := ⟨_, rfl⟩
     rw [← hX17];rw [← hX17] at q17 g17_0 g17_1;have loX17 : w9.heap.size ≤ X17 := by omega
     have upX17 : X17 ≤ w9.heap.size := by omega
     clear hX17;refine (coR_any x1 x1 x2 x2 zi1 pi1).mono ?_;rintro ee w11 ⟨rfl, bd1⟩;rw [coRB_same];clear g4_0 g4_1 g9_0 g9_1 g16_0 g16_1 g17_0 g17_1;replace BB := btr BB bd1;replace hb0 := btr hb0 bd1;replace hB := hB.below bd1;replace hE := hE.below bd1;replace hU := hU.below bd1;replace hG := hG.below bd1;replace hA := hA.below bd1;replace pi1 := pi1.below bd1;replace pi2 := pi2.below bd1;replace hD := hD.below bd1;replace zi1 := zi1.below bd1;replace zi2 := zi2.below bd1;replace q4 := q4.below bd1;replace q9 := q9.below bd1;replace qp := qp.below bd1;replace q17 := q17.below bd1;clear bd1;obtain ⟨g4_0, g4_1⟩ := q4.c2;obtain ⟨g9_0, g9_1⟩ := q9.c2;obtain ⟨g16_0, g16_1⟩ := qp.c2;obtain ⟨g17_0, g17_1⟩ := q17.c2
     go_wp2_with fail
     refine (coI_any x3 x3 zi2 pi2 (by omega) (by omega)).mono ?_;rintro ee w12 ⟨rfl, bd2⟩;rw [eqB_refl];clear g4_0 g4_1 g9_0 g9_1 g16_0 g16_1 g17_0 g17_1;replace BB := btr BB bd2;replace hb0 := btr hb0 bd2;replace hB := hB.below bd2;replace hE := hE.below bd2;replace hU := hU.below bd2;replace hG := hG.below bd2;replace hA := hA.below bd2;replace pi1 := pi1.below bd2;replace pi2 := pi2.below bd2;replace hD := hD.below bd2;replace zi1 := zi1.below bd2;replace zi2 := zi2.below bd2;replace q4 := q4.below bd2;replace q9 := q9.below bd2;replace qp := qp.below bd2;replace q17 := q17.below bd2;clear bd2;clear hB hE hU hG hA pi1 pi2 hD zi1 zi2 q4 q9 qp q17 BB
     go_wp2
     go_roundw
     case rel => exact ⟨k + 1, by omega, by go_num, hb0⟩
     case measure => simp [intOf]; omega
   have hlt' : ¬ (k : Int) < (gn : Int) := by omega
   obtain ⟨g4_0, g4_1⟩ := q4.c2;obtain ⟨g9_0, g9_1⟩ := q9.c2
   go_wp2
   go_ret
   exact ⟨rfl, BB⟩
 go_enter Tryz.func6, Tryz.ntmps6
 go_wp2
 go_ret
 exact ⟨rfl, Below.refl _ _⟩
/-! ### The row's step -/
theorem lifted (os : Os) (started : os.Started) (H : Type) (enc : TypeId × Value → H) :
  ReturnsInHanded {} Tryz.checked os 6 .any (Rows.fnLocMoreSpec.pre6 enc Tryz.prog Tryz.f6 Rows.fnLocMoreRow.domain false) (Rows.fnLocMoreSpec.post enc Tryz.prog Tryz.f6 false true false false) := by
 refine returnsInHanded_of_change (C := Tryz.checked) own started (by kernel_rfl) Tryz.func6
  (ChangeSpec.witness6 (enc := enc) (C := Tryz.checked) false ⟨#[], #[.slice none 0 0], []⟩ 8 (by kernel_rfl) (by kernel_rfl) (by kernel_rfl) (by kernel_rfl)) ?_
 intro W base args ds gs before hval0 hW hcnd _;have hval : ∀ (j : Nat) t v, Tryz.f6.params[j]? = some t → args[j]? = some v → Value.okWide Tryz.prog W .any base t v := hval0;have hW' := hW;obtain ⟨p, q, hA0, hV, rfl, hfz, hnd⟩ := hW;have hA : DataW.TrodAll enc Tryz.prog W 0 (fun _ => true) true Tryz.f6.params.toList args.toList ds p := hA0;rw [Tryz.params6] at hA hval;obtain ⟨v0, vs0, d0, ds0, p0, q0, hargs, rfl, rfl, h0, r0⟩ := trodAll_cons hA;obtain ⟨rfl, rfl, rfl⟩ := trodAll_nil r0;obtain rfl : args = #[v0] := by cases args; simp_all
 obtain ⟨rfl, rfl⟩ := trodVars_none hV;have k0 := h0;have lt0 : ∀ x ∈ p0, x.block < W.heap.size := by obtain ⟨m, hm⟩ := k0; exact DataW.trod_lt m _ _ _ hm
 obtain ⟨a0, n0, cap0, C0, rfl, hC0, hn0⟩ := open_bytesT (hval 0 22 v0 rfl rfl) h0;clear hA0 hval0;refine (walk W a0 n0 cap0 C0 hC0 hn0).mono fun e W' ⟨he, bel⟩ => ?_;subst he
 exact ⟨_, rfl, _, _, _, [], _, [], hW', trodAll_mk1 (shut_bool Tryz.underlying4 _), (trodAll_cons_mk (Below.trod laidOut (by kernel_rfl) (of_decide_eq_true (by kernel_rfl)) k0 bel lt0) trodAll_mk0), rfl, bel.frame _, fun h => by cases h⟩
theorem over : Rows.fnLocMoreRow.holds Tryz.pinned (OpenSpec.ofChange Rows.fnLocMoreSpec) :=
 OpenClaim.holds_of_wide 6 Tryz.f6 rfl rfl rfl rfl rfl rfl rfl ⟨rfl, rfl, rfl, rfl, rfl⟩ rfl rfl rfl rfl rfl (by kernel_rfl) Tryz.func6 (by kernel_rfl)
  (of_decide_eq_true (by kernel_rfl)) (by unfold Func.isWrapper; first | (rw [if_pos (by decide +kernel)]; kernel_rfl) | (rw [if_neg (by decide +kernel)]; exact ⟨rfl, rfl⟩))
  (fun os started H enc _ => lifted os started H enc)
end Go.Proofs.YtemcinobgdphnaaGreat.fnLocMore
namespace Go.Proofs.YtemcinobgdphnaaGreat
theorem fnLocMore_holds : Rows.FnLocMoreSaid := fnLocMore.over
#print axioms fnLocMore_holds
end Go.Proofs.YtemcinobgdphnaaGreat
