/-
  Lemmas that the claim's last text rests on.
-/
import Derived.Test.YtdaiaohlkdolmaaGreatLxU
namespace Go.Proofs.YtdaiaohlkdolmaaGreat
open Go.RowKit Go.Deep Go.Shelf Go.ChangeShapes Go.WideShapes Go.ChangeAt Go.Joins
open List renaming getElem?_eq_getElem → qA, getElem?_set_ne → qB
open Nat renaming le_refl → qC
set_option linter.unusedVariables false
set_option linter.unusedSimpArgs false
set_option maxRecDepth 100000
set_option maxHeartbeats 25600000
variable {N : Nat} {ss ts : List L2V}
theorem pots_known {acts : List L2V} {ts : List IV} (h : ts.map IV.x = catP acts) (m : Nat) (C D : List Int) (s : Int) (U : List Int) : ∀ x v, v < 3 -> (potB m C D ts s x U v).2.2 = true := fun x v hv => by
 have hp : partL (potX v).1 ∈ pots3 := by
  rcases v with _ | _ | _ | v
  ·decide +kernel
  ·decide +kernel
  ·decide +kernel
  omega
 have h2 : ¬ hasI ts (partL (potX v).1) < 0 := by rw [hasI, h]; exact has_pos (pot_in hp)
 rw [potB, bnds, if_neg h2]
 split <;> rfl
theorem sloc_any (ad : Option Addr) (N cc : Nat) (a : Option Addr) (n cap : Nat) (c : Option Addr) (m cap' : Nat) (s : Int) (e : Option Addr) (k ec : Nat) (kk : Int) (u : Option Addr) (l uc : Nat) (ss : List L2V) (C D E U : List Int) (w : World)
  (hA : LSG w ad ss) (hC : Ints w a n C) (hD : Ints w c m D) (hE : Ints w e k E) (hU : Ints w u l U) (hN : ss.length = N) (hN1 : N <= 1048576) (hn : n <= 1048576) (hm : m <= 1048576) (hk : k <= 1048576) (hl : l <= 1048576) :
  Calls Tryz.prog 6 #[.slice ad N cc, treV a n cap c m cap', .int .i64 s, .slice e k ec, .int .i64 kk, .slice u l uc] w fun r w' => LocD w w' r (locL n m C D N ss s k E kk l U) := by
 have HN : Hid (ss.length = N) := hN;obtain ⟨R, hR⟩ : ∃ R, locL n m C D N ss s k E kk l U = R := ⟨_, rfl⟩
 have HR0 : Hid (locL n m C D N ss s k E kk l U = R) := hR;rw [hR];clear hN hR
 go_enter Tryz.func6, Tryz.ntmps6
 have al := (Below.refl (w).heap.size (w)).alloc (qC _) (.cells #[.slice a n cap, .slice c m cap'] 34);have BB := al;replace hA := hA.below al;replace hC := hC.below al;replace hD := hD.below al;replace hE := hE.below al;replace hU := hU.below al;clear al;have q7 := Cel.new (w) [.slice a n cap, .slice c m cap'] 34;have al := (Below.refl ((w).alloc (.cells #[.slice a n cap, .slice c m cap'] 34)).heap.size ((w).alloc (.cells #[.slice a n cap, .slice c m cap'] 34))).alloc (qC _) (.cells #[.int .i64 0, .slice none 0 0] 29);replace BB := btr BB al;replace hA := hA.below al;replace hC := hC.below al;replace hD := hD.below al;replace hE := hE.below al;replace hU := hU.below al;replace q7 := q7.below al;clear al;have q12 := Cel.new ((w).alloc (.cells #[.slice a n cap, .slice c m cap'] 34)) [.int .i64 0, .slice none 0 0] 29;simp only [World.size_alloc] at q12;obtain ⟨g7_0, g7_1⟩ := q7.c2;obtain ⟨g12_0, g12_1⟩ := q12.c2
 go_wp2_with fail
 generalize ((w).alloc (.cells #[.slice a n cap, .slice c m cap'] 34)).alloc (.cells #[.int .i64 0, .slice none 0 0] 29) = W1 at hA hC hD hE hU q7 q12 BB g7_0 g7_1 g12_0 g12_1 ⊢;obtain ⟨X12, hX12⟩ : ∃ x, x = w.heap.size + 1 := ⟨_, rfl⟩
 rw [<- hX12];rw [<- hX12] at q12 g12_0 g12_1;have loX12 : w.heap.size + 1 <= X12 := by omega
 have upX12 : X12 <= w.heap.size + 1 := by omega
 clear hX12;obtain ⟨X7, hX7⟩ : ∃ x, x = w.heap.size := ⟨_, rfl⟩
 rw [<- hX7];rw [<- hX7] at q7 g7_0 g7_1;have loX7 : w.heap.size <= X7 := by omega
 have upX7 : X7 <= w.heap.size := by omega
 clear hX7;refine (scat_any ss HN.out hA hN1).mono ?_;rintro ee w2 ⟨rfl, b1⟩;clear g7_0 g7_1 g12_0 g12_1;replace BB := btr BB b1;replace hA := hA.below b1;replace hC := hC.below b1;replace hD := hD.below b1;replace hE := hE.below b1;replace hU := hU.below b1;replace q7 := q7.below b1;replace q12 := q12.below b1;clear b1
 cases h1 : catB N ss
 ·obtain ⟨g7_0, g7_1⟩ := q7.c2;obtain ⟨g12_0, g12_1⟩ := q12.c2
  go_upto_region 2 with fail
  clear g7_0 g7_1 g12_0 g12_1;have al := (Below.refl w2.heap.size w2).alloc (qC _) (.cells #[] 3);have BA := btr BB al;have hlt1 := q12.lt;have zB := BB.size;obtain ⟨d0, d1, f0, f1⟩ := q12.pair;have HR : Hid (R = (0, [], [], false)) := by (show _ = _; rw [<- HR0.out]; simp [locL, h1])
  clear al hA hC hD hE hU
  go_wp2
  exact bodyPost_ret (v := .tuple #[resV 0 none 0 0, .slice (some ⟨w2.heap.size, 0, none⟩) 0 0, .bool false]) (by simp [results, Tryz.results6, go_sem, d0, d1, hlt1]) rfl (by rw [HR.out]; unfold LocD; exact ⟨none, 0, 0, 0, _, 0, 0, 0, rfl, rfl, rfl, (((BB.setCell (by simp only []; omega) _).setCell (by simp only []; omega) _).alloc (by rw [size_setCell, size_setCell]; exact BB.size) _), OwnX.nil _ _ _, OwnX.nil _ _ _, fun h => by omega, fun h => by omega, fun h => by omega⟩)
 obtain ⟨g7_0, g7_1⟩ := q7.c2;obtain ⟨g12_0, g12_1⟩ := q12.c2
 go_wp2_with fail
 refine (in_any).mono ?_;rintro ee v3 ⟨rfl, rfl⟩
 cases h2 : inB kk 0 ((N : Int) - 1)
 ·go_upto_region 2 with fail
  clear g7_0 g7_1 g12_0 g12_1;have al := (Below.refl v3.heap.size v3).alloc (qC _) (.cells #[] 3);have BA := btr BB al;have hlt1 := q12.lt;have zB := BB.size;obtain ⟨d0, d1, f0, f1⟩ := q12.pair;have HR : Hid (R = (0, [], [], false)) := by (show _ = _; rw [<- HR0.out]; simp [locL, h1, h2])
  clear al hA hC hD hE hU
  go_wp2
  exact bodyPost_ret (v := .tuple #[resV 0 none 0 0, .slice (some ⟨v3.heap.size, 0, none⟩) 0 0, .bool false]) (by simp [results, Tryz.results6, go_sem, d0, d1, hlt1]) rfl (by rw [HR.out]; unfold LocD; exact ⟨none, 0, 0, 0, _, 0, 0, 0, rfl, rfl, rfl, (((BB.setCell (by simp only []; omega) _).setCell (by simp only []; omega) _).alloc (by rw [size_setCell, size_setCell]; exact BB.size) _), OwnX.nil _ _ _, OwnX.nil _ _ _, fun h => by omega, fun h => by omega, fun h => by omega⟩)
 go_wp2_with fail
 refine (sarg_any U hU hl).mono ?_;rintro ee v4 ⟨rfl, rfl⟩
 cases h3 : okN 2 9 l U
 ·go_upto_region 2 with fail
  clear g7_0 g7_1 g12_0 g12_1;have al := (Below.refl v4.heap.size v4).alloc (qC _) (.cells #[] 3);have BA := btr BB al;have hlt1 := q12.lt;have zB := BB.size;obtain ⟨d0, d1, f0, f1⟩ := q12.pair;have HR : Hid (R = (0, [], [], false)) := by (show _ = _; rw [<- HR0.out]; simp [locL, h1, h2, h3])
  clear al hA hC hD hE hU
  go_wp2
  exact bodyPost_ret (v := .tuple #[resV 0 none 0 0, .slice (some ⟨v4.heap.size, 0, none⟩) 0 0, .bool false]) (by simp [results, Tryz.results6, go_sem, d0, d1, hlt1]) rfl (by rw [HR.out]; unfold LocD; exact ⟨none, 0, 0, 0, _, 0, 0, 0, rfl, rfl, rfl, (((BB.setCell (by simp only []; omega) _).setCell (by simp only []; omega) _).alloc (by rw [size_setCell, size_setCell]; exact BB.size) _), OwnX.nil _ _ _, OwnX.nil _ _ _, fun h => by omega, fun h => by omega, fun h => by omega⟩)
 have hk2 := inB_iff.1 h2;have h4 := (catB_parts h1).1;obtain ⟨rfl, bU⟩ := okN_nat (by omega) h3;obtain ⟨kn, rfl⟩ : ∃ kn : Nat, kk = kn := ⟨kk.toNat, by omega⟩
 have hkN : kn < N := by omega
 clear hk2;have HP4 : Hid (catB N ss = true /\ inB (kn : Int) 0 ((N : Int) - 1) = true /\ okN 2 9 2 U = true) := ⟨h1, h2, h3⟩
 clear h1 h2 h3
 go_wp2_with fail
 refine (sboth_any ss HN.out hA (catB_parts HP4.out.1).2 h4).mono ?_;rintro ee w5 ⟨G, cG, ts, nt, P, cP, rfl, hnt, jp, hts, hnt2, oP, lP⟩;have bJ := jp.b;have hIS := jp.g;have h3n : ∀ i, i < ts.length -> (ts[i]?.getD noI).n = 3 := fun i hi => (jp.k i hi).1;clear jp;clear g7_0 g7_1 g12_0 g12_1;replace BB := btr BB bJ;replace hA := hA.below bJ;replace hC := hC.below bJ;replace hD := hD.below bJ;replace hE := hE.below bJ;replace hU := hU.below bJ;replace q7 := q7.below bJ;replace q12 := q12.below bJ;clear bJ;obtain ⟨hcl, hcp⟩ := copies_ivs hts h3n;have HTL : Hid (ts.length = nt) := hnt;have hKn := pots_known hts m C D s U;have hL1 : nt <= 1048576 := by omega
 have E1 : Hid (∀ n C D k E, viewB n m C D (ivs (catP ss)) s k E = viewB n m C D ts s k E) := fun n C D k E => (viewB_copy hcl hcp).symm;have E2 : Hid (∀ g E, keepsB g E (ivs (catP ss)) = keepsB g E ts) := fun g E => (keepsB_copy hcl hcp).symm;have E3 : Hid (∀ C D E U, sureR m C D (ivs (catP ss)) s E U = sureR m C D ts s E U) := fun C D E U => (sureR_copy hcl hcp).symm;have E4 : Hid (∀ C D E U f st AD TL, tryL m C D (ivs (catP ss)) s E U f st AD TL = tryL m C D ts s E U f st AD TL) := fun C D E U f st AD TL => (tryL_copy hcl hcp).symm;have HKN : Hid (∀ x v, v < 3 -> (potB m C D ts s x U v).2.2 = true) := hKn;clear hcl hcp hts h3n hnt hKn;obtain ⟨g7_0, g7_1⟩ := q7.c2;obtain ⟨g12_0, g12_1⟩ := q12.c2
 go_wp2_with fail
 refine (skeep_any a n cap c m cap' (some ⟨G, 0, none⟩) nt cG s e k ec C D E ts hC hD hE HTL.out hIS hn hm hk hL1).mono ?_;rintro ee w6 ⟨rfl, b5⟩;clear g7_0 g7_1 g12_0 g12_1;replace BB := btr BB b5;replace hA := hA.below b5;replace hC := hC.below b5;replace hD := hD.below b5;replace hE := hE.below b5;replace hU := hU.below b5;replace hIS := hIS.below b5;replace oP := oP.below b5;replace q7 := q7.below b5;replace q12 := q12.below b5;clear b5
 cases h5 : keepB n m C D ts s k E
 ·have h56 : viewB n m C D ts s k E = false \/ keepsB (D[s.toNat]?.getD 0) E ts = false := by
   rw [keepB, Bool.and_eq_false_iff] at h5; exact h5
  have HK0 : Hid ((!viewB n m C D ts s k E || !keepsB (D[s.toNat]?.getD 0) E ts) = true) := by (show _ = _; rcases h56 with h | h <;> simp [h])
  clear h56;obtain ⟨g7_0, g7_1⟩ := q7.c2;obtain ⟨g12_0, g12_1⟩ := q12.c2
  go_upto_region 5 with fail
  clear g7_0 g7_1 g12_0 g12_1;have al := (Below.refl w6.heap.size w6).alloc (qC _) (.cells #[] 3);have BA := btr BB al;have hlt1 := q12.lt;have zB := BB.size;obtain ⟨d0, d1, f0, f1⟩ := q12.pair;have HR : Hid (R = (0, [], [], false)) := by (show _ = _; rw [<- HR0.out]; simp [locL, HP4.out.1, HP4.out.2.1, HP4.out.2.2, E1.out, E2.out, HK0.out])
  clear al hA hC hD hE hU
  go_wp2
  exact bodyPost_ret (v := .tuple #[resV 0 none 0 0, .slice (some ⟨w6.heap.size, 0, none⟩) 0 0, .bool false]) (by simp [results, Tryz.results6, go_sem, d0, d1, hlt1]) rfl (by rw [HR.out]; unfold LocD; exact ⟨none, 0, 0, 0, _, 0, 0, 0, rfl, rfl, rfl, (((BB.setCell (by simp only []; omega) _).setCell (by simp only []; omega) _).alloc (by rw [size_setCell, size_setCell]; exact BB.size) _), OwnX.nil _ _ _, OwnX.nil _ _ _, fun h => by omega, fun h => by omega, fun h => by omega⟩)
 have h56 : viewB n m C D ts s k E = true /\ keepsB (D[s.toNat]?.getD 0) E ts = true := by
  rw [keepB, Bool.and_eq_true] at h5; exact h5
 obtain ⟨h6, h7⟩ := h56;clear h5;obtain ⟨rfl, bC, hm1, hm3, hps, hs0, hs1, rfl, bE, bD⟩ := viewB_elim h6;obtain ⟨g7_0, g7_1⟩ := q7.c2;obtain ⟨g12_0, g12_1⟩ := q12.c2
 go_wp2_with fail
 refine (sstill_any (pinsA ss) E oP hE).mono ?_;rintro ee v7 ⟨rfl, rfl⟩
 cases h8 : pinned (pinsA ss) E
 ·have hix : kn < ss.length := by rw [HN.out]; exact hkN
  have hsok : (ss[kn]?.getD noL).ok = true := by
   rw [qA hix]
   exact List.all_eq_true.1 (catB_parts HP4.out.1).2 _ (List.getElem_mem hix)
  have HR : Hid (R = tryA m C D ts s E U (pinsA ss) (rowsL (ss[kn]?.getD noL).x)) := by
   show _ = _
   rw [<- HR0.out];simp only [locL, HP4.out.1, HP4.out.2.1, HP4.out.2.2, E1.out, E2.out, E3.out, h6, h7, h8, Int.toNat_natCast, Bool.not_true, Bool.or_false, Bool.false_eq_true, if_false, tryA, tryR, E4.out]
   cases (rowsL (ss[kn]?.getD noL).x).find? (sureR m C D ts s E U) <;> rfl
  have HH6 : Hid _ := h6;clear h7 h8
  go_wp2_with fail
  refine (stry_any ad N cc ss (some ⟨G, 0, none⟩) nt cG P cP (pinsA ss) a cap c m cap' s e ec kn u uc C D E U ts hA hix hsok hC hD hE hU HTL.out hIS hL1 HN.out hN1 h6 HP4.out.2.2 oP HKN.out).mono ?_;rintro ee w8 hL;rw [<- HR.out] at hL;obtain ⟨x1, x2, x3, x4⟩ := R;obtain ⟨xa, xn, xcap, XB, ya, yn, ycap, YB, rfl, hl1, hl2, bT, o1, o2, lo1, lo2, hne⟩ := hL;have HL1 : Hid (x2.length = xn) := hl1;have HL2 : Hid (x3.length = yn) := hl2;clear hl1 hl2;have lX0 := q12.lt;have zB0 := BB.size;clear g7_0 g7_1 g12_0 g12_1;replace BB := btr BB bT;replace hA := hA.below bT;replace hC := hC.below bT;replace hD := hD.below bT;replace hE := hE.below bT;replace hU := hU.below bT;replace hIS := hIS.below bT;replace oP := oP.below bT;replace q7 := q7.below bT;replace q12 := q12.below bT;clear bT;obtain ⟨g12_0, g12_1⟩ := q12.c2;have f12_0 := q12.free 0;have f12_1 := q12.free 1;have l12 := q12.lt;have z12 := (q12.set 0 (.int .i64 x1)).set 1 (.slice xa xn xcap);have z120 := z12.cell 0;have z121 := z12.cell 1;simp only [List.getElem?_cons_zero, List.getElem?_cons_succ, List.set_cons_zero, List.set_cons_succ] at z120 z121;clear z12;have hBB := (BB.setCell (p := ⟨X12, 0, none⟩) (by simp only []; omega) (.int .i64 x1)).setCell (p := ⟨X12, 1, none⟩) (by simp only []; omega) (.slice xa xn xcap);have o11 := (o1.setOther (X := X12) (fun h => by have := lo1 h; omega) 0 (.int .i64 x1)).setOther (X := X12) (fun h => by have := lo1 h; omega) 1 (.slice xa xn xcap)
  have o22 := (o2.setOther (X := X12) (fun h => by have := lo2 h; omega) 0 (.int .i64 x1)).setOther (X := X12) (fun h => by have := lo2 h; omega) 1 (.slice xa xn xcap)
  go_wp2
  exact bodyPost_ret (v := .tuple #[resV x1 xa xn xcap, .slice ya yn ycap, .bool x4]) (by simp [results, Tryz.results6, go_sem, z120, z121]) rfl (by unfold LocD; exact ⟨xa, xn, xcap, XB, ya, yn, ycap, YB, rfl, HL1.out, HL2.out, hBB, o11, o22, fun h => by have := lo1 h; omega, fun h => by have := lo2 h; omega, hne⟩)
 go_upto_region 5 with fail
 clear g7_0 g7_1 g12_0 g12_1;have al := (Below.refl v7.heap.size v7).alloc (qC _) (.cells #[] 3);have BA := btr BB al;have hlt1 := q12.lt;have zB := BB.size;obtain ⟨d0, d1, f0, f1⟩ := q12.pair;have HR : Hid (R = (0, [], [], false)) := by (show _ = _; rw [<- HR0.out]; simp [locL, HP4.out.1, HP4.out.2.1, HP4.out.2.2, E1.out, E2.out, h6, h7, h8])
 clear al hA hC hD hE hU
 go_wp2
 exact bodyPost_ret (v := .tuple #[resV 0 none 0 0, .slice (some ⟨v7.heap.size, 0, none⟩) 0 0, .bool false]) (by simp [results, Tryz.results6, go_sem, d0, d1, hlt1]) rfl (by rw [HR.out]; unfold LocD; exact ⟨none, 0, 0, 0, _, 0, 0, 0, rfl, rfl, rfl, (((BB.setCell (by simp only []; omega) _).setCell (by simp only []; omega) _).alloc (by rw [size_setCell, size_setCell]; exact BB.size) _), OwnX.nil _ _ _, OwnX.nil _ _ _, fun h => by omega, fun h => by omega, fun h => by omega⟩)
section
variable {F : Fence} {n : Nat} {P : Program} {ops : Array Oper} {Q : Exit -> Act -> World -> Prop} {md : Region.Mode} {S : World -> Prop}
end
attribute [local go_sem] Oper.semAt_some
structure ActsOk (N : Nat) (ss : List L2V) : Prop where
 n : ss.length = N
 D : ∀ i, i < ss.length -> ∀ q, q < (ss[i]?.getD noL).x.length -> ((ss[i]?.getD noL).x[q]?.getD noLV).f.D.length = ((ss[i]?.getD noL).x[q]?.getD noLV).f.m
 f : catB N ss = true -> ∀ a ∈ ss, ∀ r ∈ rowsL a.x, RowFit r
theorem LSG.acts {w : World} {ad : Option Addr} {N : Nat} {ss : List L2V} (h : LSG w ad ss) (hN : ss.length = N) : ActsOk N ss := ⟨hN, fun i hi q hq => by
 obtain ⟨_, _, _, _, h2⟩ := h i hi;obtain ⟨_, _, _, _, h3⟩ := h2.2.1 q hq
 exact h3.D.1, fun hc a ha => by
 obtain ⟨i, hi, rfl⟩ := List.mem_iff_getElem.1 ha;obtain ⟨_, _, _, _, h2⟩ := h i hi;rw [qA hi, Option.getD_some] at h2;simp only [catB, Bool.and_eq_true] at hc;have hact : actB ss[i].n ss[i].x = true := List.all_eq_true.1 hc.2 _ ha
 exact rowsL_fit (by rw [h2.1]; exact (actB_parts hact).1) (actB_parts hact).2 h2.2.1⟩
theorem loc_len {n m : Nat} {C D : List Int} {N : Nat} {ss : List L2V} {s : Int} {k : Nat} {E : List Int} {kk : Int} {l : Nat} {U : List Int} {x1 : Int} {x2 x3 : List Int} {b : Bool} (hE : E.length = k) (hk4 : k <= 4) (hA : ActsOk N ss) (h : locL n m C D N ss s k E kk l U = (x1, x2, x3, b)) : x2.length <= 1000 /\ x3.length <= 4 := by
 unfold locL at h
 split at h
 ·simp only [Prod.mk.injEq] at h;rw [<- h.2.1, <- h.2.2.1]; simp
 rename_i h1
 split at h
 ·simp only [Prod.mk.injEq] at h;rw [<- h.2.1, <- h.2.2.1]; simp
 rename_i h2
 simp only [Bool.or_eq_true, not_or, Bool.not_eq_true, Bool.not_eq_true', Bool.not_eq_false] at h1 h2;have hkk : inB kk 0 ((N : Int) - 1) = true := by simpa using h1.1.2
 have hcat : catB N ss = true := by simpa using h1.1.1
 have hkk' := inB_iff.1 hkk;have hN := hA.n;have hkl : kk.toNat < ss.length := by omega
 have hmem : ss[kk.toNat]?.getD noL ∈ ss := by rw [qA hkl]; exact List.getElem_mem _
 generalize ss[kk.toNat]?.getD noL = a at hmem h
 cases hf : (rowsL a.x).find? (sureR m C D (ivs (catP ss)) s E U) with
 | none =>
  rw [hf] at h;simp only [Prod.mk.injEq] at h;rw [<- h.2.1, <- h.2.2.1]; simp; omega
 | some r =>
  rw [hf] at h;have hrm := List.mem_of_find?_eq_some hf;have hr := hA.f hcat a hmem r hrm;have ht := hr.lt;have ha := hr.la;dsimp only at h;unfold tryR tryL at h;have hz : (List.zipWith (· + ·) E (r.adds.map (atX C U))).length <= 4 := by rw [List.length_zipWith]; omega
  have ht' : (r.tells.map (atX C U)).length <= 1000 := by rw [List.length_map]; exact ht
  generalize List.zipWith (· + ·) E (r.adds.map (atX C U)) = Z at h hz;generalize r.tells.map (atX C U) = T at h ht';have hE' : E.length <= 4 := by omega
  split at h
  ·simp only [Prod.mk.injEq] at h;rw [<- h.2.1, <- h.2.2.1]; exact ⟨by simp, hE'⟩
  split at h
  ·simp only [Prod.mk.injEq] at h;rw [<- h.2.1, <- h.2.2.1]; exact ⟨by simp, hE'⟩
  split at h
  ·simp only [Prod.mk.injEq] at h;rw [<- h.2.1, <- h.2.2.1]; exact ⟨by simp, hE'⟩
  split at h
  ·simp only [Prod.mk.injEq] at h;rw [<- h.2.1, <- h.2.2.1]; exact ⟨by simp, hE'⟩
  simp only [Prod.mk.injEq] at h;rw [<- h.2.1, <- h.2.2.1]; exact ⟨ht', hz⟩
theorem goW_copies {ls gs : List LV} (hl : gs.length = ls.length) (h : copiesL ls gs) (f : Nat) : ∀ (i : Nat) (y : Way), goW gs f i y = goW ls f i y := by
 induction f with
 | zero => intro i y; rfl
 | succ f ih =>
  intro i y;rw [goW, goW, hl]
  by_cases hi : i < ls.length
  ·obtain ⟨a1, a2, a3, a4, a5, a6, _⟩ := h i (by omega);have e : intoX (gs[i]?.getD noLV).f y.pots = intoX (ls[i]?.getD noLV).f y.pots := by rw [intoX, intoX, a4, a5, a6]
   rw [if_pos hi, if_pos hi, a1, a2, a3, e, ih, ih, ih, ih]
  rw [if_neg hi, if_neg hi]
theorem rowsL_copies {ls gs : List LV} (hl : gs.length = ls.length) (h : copiesL ls gs) : rowsL gs = rowsL ls := goW_copies hl h 7 0 way0
theorem copies_mapP (hl : ts.length = ss.length) (h : copiesL2S ss ts) : ts.map L2V.ok = ss.map L2V.ok := by
 apply List.ext_getElem?
 intro i
 by_cases hi : i < ts.length
 ·obtain ⟨e1, e2, e3⟩ := h i hi;have : (ts[i]?.getD noL).ok = (ss[i]?.getD noL).ok := by rw [L2V.ok, L2V.ok, e1]; exact copiesL_act e2 e3
  rw [qA hi, qA (by omega)] at this;simp only [Option.getD_some] at this;rw [List.getElem?_map, List.getElem?_map, qA hi, qA (by omega)];simp [this]
 rw [List.getElem?_eq_none (by simp; omega), List.getElem?_eq_none (by simp; omega)]
theorem copies_catP (hl : ts.length = ss.length) (h : copiesL2S ss ts) : catB N ts = catB N ss := by
 have h3 := copies_mapP hl h;have e1 : ∀ xs : List L2V, xs.all L2V.ok = (xs.map L2V.ok).all id := fun xs => by simp [List.all_map]
 rw [catB, catB, e1, e1, h3]
theorem copies_sameP {us : List L2V} (h1 : ts.length = N) (h2 : us.length = N) (c1 : copiesL2S ss ts) (c2 : copiesL2S ss us) (hl : ∀ i, i < N -> (ts[i]?.getD noL).x.length = (ts[i]?.getD noL).n) : ∀ i, i < N -> sameL2 (ts[i]?.getD noL) (us[i]?.getD noL) := fun i hi => by
 obtain ⟨a1, a2, a3⟩ := c1 i (by omega);obtain ⟨b1, b2, b3⟩ := c2 i (by omega);refine ⟨by rw [a1, b1], fun j hj => ?_⟩;have e1 := hl i hi
 exact copiesL_same (N := (ts[i]?.getD noL).n) e1 (by rw [b2, <- a2]; exact e1) a3 b3 j hj
theorem ML2.lens {W : World} {B : Nat} (h : ML2 W B N ts) (hl : ts.length = N) : ∀ i, i < N -> (ts[i]?.getD noL).x.length = (ts[i]?.getD noL).n := fun i hi => by
 obtain ⟨b, off, _, _, h⟩ := h.g i (by rw [hl]; exact hi)
 exact h.1
theorem rows_map (hl : ts.length = ss.length) (h : copiesL2S ss ts) : ts.map (fun s => rowsL s.x) = ss.map (fun s => rowsL s.x) := by
 apply List.ext_getElem?
 intro i
 by_cases hi : i < ts.length
 ·obtain ⟨e1, e2, e3⟩ := h i hi;have := rowsL_copies e2 e3;rw [qA hi, qA (by omega)] at this;simp only [Option.getD_some] at this;rw [List.getElem?_map, List.getElem?_map, qA hi, qA (by omega)];simp [this]
 rw [List.getElem?_eq_none (by simp; omega), List.getElem?_eq_none (by simp; omega)]
theorem pins_copies (hl : ts.length = ss.length) (h : copiesL2S ss ts) : pinsA ts = pinsA ss := by
 funext v
 have e : ∀ xs : List L2V, pinsA xs v = (xs.map (fun s => rowsL s.x)).any (fun r => readsR r v) := fun xs => by simp [pinsA, List.any_map, Function.comp_def]
 rw [e, e, rows_map hl h]
theorem catP_copies (hl : ts.length = ss.length) (h : copiesL2S ss ts) : catP ts = catP ss := by
 have e : ∀ xs : List L2V, catP xs = (xs.map (fun s => rowsL s.x)).foldl rowsP pots3 := fun xs => by rw [catP, actsP, List.foldl_map]
 rw [e, e, rows_map hl h]
structure MKL (W : World) (B N s k : Nat) (gs : List LV) (p q : Nat -> Nat) (wr : World) : Prop where
 c : ∃ cur : List Value, Cel wr B cur 95 /\ cur.length = N * 6 /\ ∀ i, i < N -> cur[i * 6 + 3]? = some (.slice (gs[i]?.getD noLV).f.a (gs[i]?.getD noLV).f.n (gs[i]?.getD noLV).f.cap) /\ cur[i * 6 + 4]? = some (.slice (gs[i]?.getD noLV).f.c (gs[i]?.getD noLV).f.m (gs[i]?.getD noLV).f.cap')
 o : ∀ i, k <= i -> i < N -> Blk wr (p i) (gs[i]?.getD noLV).f.C /\ Blk wr (q i) (gs[i]?.getD noLV).f.D
 t : Touch (fun x => B <= x /\ x < s) W wr
theorem markLS_any (B lo N cap s : Nat) (gs : List LV) (p q : Nat -> Nat) (k0 : Int) {W : World} (h : ML W B lo N gs p q) (hN : gs.length = N) (hN1 : N <= 1048576) (hk0 : 0 <= k0) (hk1 : k0 <= 3000000000000000000) (hBs : B < s) (hqs : ∀ i, i < N -> q i < s) :
  Calls Tryz.prog 43 #[.slice (some ⟨B, 0, none⟩) N cap, .int .i64 k0] W fun e w' => ∃ r, e = .returned (.int .i64 r) /\ 0 <= r /\ r <= k0 + N * 2097156 /\ Touch (fun x => B <= x /\ x < s) W w' := by
 have HQ : Hid _ := hqs;clear hqs;have HN : Hid (gs.length = N) := hN;have hl := h.l;rw [hN] at hl;have HL : Hid _ := hl;have hB := h.b
 have m0 : MKL W B N s 0 gs p q W := by
  obtain ⟨vs, v1, v2, v3⟩ := h.c;refine ⟨⟨vs, v1, v2, fun i hi => ?_⟩, fun i _ hi => ?_, Touch.refl _ _⟩
  ·exact ⟨v3 i (by omega) 3 (by omega), v3 i (by omega) 4 (by omega)⟩
  obtain ⟨_, _, a4, a5, _⟩ := hl i hi
  exact ⟨a4, a5⟩
 clear hl h hN
 go_enter Tryz.func43, Tryz.ntmps43
 go_wp2_with fail
 go_loopw [1, 5] (fun kv i wr => ∃ k : Nat, k <= N /\ i = .int .i64 k /\ ∃ x : Int, kv = .int .i64 x /\ 0 <= x /\ x <= k0 + k * 2097156 /\ MKL W B N s k gs p q wr) (fun _ i _ => N - (intOf i).toNat)
 case atStart => exact ⟨0, Nat.zero_le _, rfl, k0, rfl, hk0, by omega, m0⟩
 case round =>
  clear m0;obtain ⟨k, hk, rfl, x, rfl, hx0, hx1, mk⟩ := hrel
  by_cases hlt : k < N
  ·obtain ⟨ea, ec, -, -, lC, lD, n1, m1, hp, hpq, hq, hj⟩ := HL.out k hlt;have hqk := HQ.out k hlt;obtain ⟨bC, bD⟩ := mk.o k (qC _) hlt;obtain ⟨cur, hcur, hsz, hcells⟩ := mk.c;have hc := hcells k hlt;have HCS : Hid _ := hcells;clear hcells
   have HJ : Hid (∀ i, k + 1 <= i -> i < N -> q k < p i /\ p i < q i) := fun i hi hiN => by
    obtain ⟨_, _, _, _, _, _, _, _, _, h11, _, h13⟩ := HL.out i hiN
    exact ⟨h13 k (by omega), h11⟩
   generalize HG : gs[k]?.getD noLV = g at *;clear HG;obtain ⟨gk, gp, gz, ⟨ga, gn, gcap, gc, gm, gcap', gK, gC, gD⟩⟩ := g;simp only at ea ec lC lD n1 m1 bC bD hc;subst ea ec;have hx : ∀ r, r < 6 -> ∃ x, wr.cell? ⟨B, k * 6 + r, none⟩ = some x := fun r hr => ⟨_, (hcur.cell (k * 6 + r)).trans (qA (by rw [hsz]; omega))⟩
   obtain ⟨x0, y0⟩ := hx 0 (by omega);obtain ⟨x1, y1⟩ := hx 1 (by omega);obtain ⟨x2, y2⟩ := hx 2 (by omega);simp only [Nat.add_zero] at y0;have f0 := hcur.free (k * 6);have f1 := hcur.free (k * 6 + 1);have f2 := hcur.free (k * 6 + 2);have y3 : wr.cell? ⟨B, k * 6 + 3, none⟩ = some (.slice (some ⟨p k, 0, none⟩) gn gcap) := (hcur.cell _).trans hc.1;have s1 := mk.t.size;have hlt3 : (k : Int) < (N : Int) := by omega
   have c3 := ((hcur.set (k * 6) (.int .i64 x)).set (k * 6 + 1) (.int .i64 (x + 1))).set (k * 6 + 2) (.int .i64 (x + 1 + 1));have kP : p k ≠ B := by omega
   have kQ : q k ≠ B := by omega
   have bC3 := ((bC.setOther kP (k * 6) (.int .i64 x)).setOther kP (k * 6 + 1) (.int .i64 (x + 1))).setOther kP (k * 6 + 2) (.int .i64 (x + 1 + 1));have bD3 := ((bD.setOther kQ (k * 6) (.int .i64 x)).setOther kQ (k * 6 + 1) (.int .i64 (x + 1))).setOther kQ (k * 6 + 2) (.int .i64 (x + 1 + 1));have t3 : Touch (fun y => B <= y /\ y < s) W (((wr.setCell ⟨B, k * 6, none⟩ (.int .i64 x)).setCell ⟨B, k * 6 + 1, none⟩ (.int .i64 (x + 1))).setCell ⟨B, k * 6 + 2, none⟩ (.int .i64 (x + 1 + 1))) := ((mk.t.setCell (B := B) ⟨qC _, by omega⟩ _).setCell (B := B) ⟨qC _, by omega⟩ _).setCell (B := B) ⟨qC _, by omega⟩ _
   have o3 : ∀ i, k + 1 <= i -> i < N -> Blk (((wr.setCell ⟨B, k * 6, none⟩ (.int .i64 x)).setCell ⟨B, k * 6 + 1, none⟩ (.int .i64 (x + 1))).setCell ⟨B, k * 6 + 2, none⟩ (.int .i64 (x + 1 + 1))) (p i) (gs[i]?.getD noLV).f.C /\ Blk (((wr.setCell ⟨B, k * 6, none⟩ (.int .i64 x)).setCell ⟨B, k * 6 + 1, none⟩ (.int .i64 (x + 1))).setCell ⟨B, k * 6 + 2, none⟩ (.int .i64 (x + 1 + 1))) (q i) (gs[i]?.getD noLV).f.D := fun i hi hiN => by
    obtain ⟨o1, o2⟩ := mk.o i (by omega) hiN;obtain ⟨j1, j2⟩ := HJ.out i hi hiN;have n1 : p i ≠ B := by omega
    have n2 : q i ≠ B := by omega
    exact ⟨((o1.setOther n1 _ _).setOther n1 _ _).setOther n1 _ _, ((o2.setOther n2 _ _).setOther n2 _ _).setOther n2 _ _⟩
   have O3 : Hid _ := o3;clear o3 bC bD mk hx
   go_wp2_with fail
   obtain ⟨w0, hw0⟩ : ∃ w0, w0 = (((wr.setCell ⟨B, k * 6, none⟩ (.int .i64 x)).setCell ⟨B, k * 6 + 1, none⟩ (.int .i64 (x + 1))).setCell ⟨B, k * 6 + 2, none⟩ (.int .i64 (x + 1 + 1))) := ⟨_, rfl⟩
   rw [<- hw0] at c3 bC3 bD3 t3 O3 ⊢;clear hw0 y0 y1 y2 y3 f0 f1 f2 hcur;refine (mark_any (p k) gC (.inr ⟨rfl, bC3⟩) lC n1 (by omega)).mono ?_;rintro ee w1 ⟨rfl, t1, -⟩;have c4 := c3.touch t1 (by omega);have z3 : ((((cur.set (k * 6) (.int .i64 x)).set (k * 6 + 1) (.int .i64 (x + 1))).set (k * 6 + 2) (.int .i64 (x + 1 + 1)))).length = N * 6 := by simp [hsz]
   have H3 : Hid (∀ i, i < N -> ((((cur.set (k * 6) (.int .i64 x)).set (k * 6 + 1) (.int .i64 (x + 1))).set (k * 6 + 2) (.int .i64 (x + 1 + 1))))[i * 6 + 3]? = some (.slice (gs[i]?.getD noLV).f.a (gs[i]?.getD noLV).f.n (gs[i]?.getD noLV).f.cap) /\ ((((cur.set (k * 6) (.int .i64 x)).set (k * 6 + 1) (.int .i64 (x + 1))).set (k * 6 + 2) (.int .i64 (x + 1 + 1))))[i * 6 + 4]? = some (.slice (gs[i]?.getD noLV).f.c (gs[i]?.getD noLV).f.m (gs[i]?.getD noLV).f.cap')) := fun i hi => by
    rw [qB (by omega), qB (by omega), qB (by omega), qB (by omega), qB (by omega), qB (by omega)]
    exact HCS.out i hi
   have y4 : w1.cell? ⟨B, k * 6 + 4, none⟩ = some (.slice (some ⟨q k, 0, none⟩) gm gcap') := (c4.cell _).trans (by
    rw [qB (by omega), qB (by omega), qB (by omega)]; exact hc.2)
   have bD1 : OwnAt w1 (some ⟨q k, 0, none⟩) (q k) gD := OwnAt.touch (.inr ⟨rfl, bD3⟩) t1 (by omega);clear c3 hc HCS;generalize ((cur.set (k * 6) (.int .i64 x)).set (k * 6 + 1) (.int .i64 (x + 1))).set (k * 6 + 2) (.int .i64 (x + 1 + 1)) = cu at *
   go_wp2_with fail
   refine (mark_any (q k) gD bD1 lD m1 (by omega)).mono ?_;rintro ee w2 ⟨rfl, t2, -⟩;have c5 := c4.touch t2 (by omega);obtain ⟨v5, hv5⟩ : ∃ v, w2.cell? ⟨B, k * 6 + 5, none⟩ = some v := ⟨_, (c5.cell (k * 6 + 5)).trans (qA (by rw [z3]; omega))⟩
   have f5 := c5.free (k * 6 + 5)
   have M2 : MKL W B N s (k + 1) gs p q (w2.setCell ⟨B, k * 6 + 5, none⟩ (.int .i64 (x + 1 + 1 + 1 + gn + gm))) := by
    have T12 : Touch (fun y => B <= y /\ y < s) W w2 := (t3.trans (t1.mono fun y hy => by omega)).trans (t2.mono fun y hy => by omega);refine ⟨⟨_, c5.set (k * 6 + 5) _, by simp [z3], fun i hi => ?_⟩, fun i hi hiN => ?_, T12.setCell (B := B) ⟨qC _, by omega⟩ _⟩
    ·rw [qB (by omega), qB (by omega)]
     exact H3.out i hi
    obtain ⟨o1, o2⟩ := O3.out i hi hiN;obtain ⟨j1, j2⟩ := HJ.out i hi hiN
    have e1 : Blk w2 (p i) (gs[i]?.getD noLV).f.C := by
     unfold Blk at *; rw [t2.block _ (Nat.lt_of_lt_of_le (lt_of_block o1) t1.size) (by omega), t1.block _ (lt_of_block o1) (by omega)]; exact o1
    have e2 : Blk w2 (q i) (gs[i]?.getD noLV).f.D := by
     unfold Blk at *; rw [t2.block _ (Nat.lt_of_lt_of_le (lt_of_block o2) t1.size) (by omega), t1.block _ (lt_of_block o2) (by omega)]; exact o2
    exact ⟨e1.so, e2.so⟩
   clear bC3 bD3 bD1 c4 c5 t1 t2 t3 y4 H3 O3
   go_wp2
   go_roundw
   case rel => exact ⟨k + 1, by omega, by go_num, _, rfl, by omega, by omega, M2⟩
   case measure => simp [intOf]; omega
  go_wp2
  go_ret
  obtain rfl : k = N := by omega
  exact ⟨x, rfl, hx0, hx1, mk.t⟩
theorem LK.from {w : World} {lo lo' hi : Nat} {s : L2V} (h : LK w lo s) (hr : InR lo' hi s) : LK w lo' s := by
 obtain ⟨B, l, p, q, h1, h2, h3⟩ := h
 exact ⟨B, l, p, q, h1, (hr.1 B h1).1, h3⟩
theorem markL2_any {B cap : Nat} (ts : List L2V) (c : Nat -> Nat) {k0 : Int} {W : World} (h : ML2 W B N ts) (hN : ts.length = N) (hN1 : N <= 1048576) (c0 : B < c 0) (hc : ∀ i, i < N -> c i <= c (i + 1) /\ InR (c i) (c (i + 1)) (ts[i]?.getD noL)) (hk0 : 0 <= k0) (hk1 : k0 <= 1000) :
  Calls Tryz.prog 15 #[.slice (some ⟨B, 0, none⟩) N cap, .int .i64 k0] W fun e w' => ∃ r, e = .returned (.int .i64 r) /\ 0 <= r /\ r <= k0 + N * 2199027449856 /\ Touch (fun x => B < x /\ x < c N) W w' := by
 have HC : Hid _ := hc;have HN : Hid (ts.length = N) := hN;have HM : Hid (ML2 W B N ts) := h;have HL := h.lt;clear hc hN h
 go_enter Tryz.func15, Tryz.ntmps15
 go_wp2_with fail
 go_loopw [1, 5] (fun kv i wr => ∃ k : Nat, k <= N /\ i = .int .i64 k /\ ∃ x : Int, kv = .int .i64 x /\ 0 <= x /\ x <= k0 + k * 2199027449856 /\ B < c k /\ Touch (fun x => B < x /\ x < c k) W wr) (fun _ i _ => N - (intOf i).toNat)
 case atStart => exact ⟨0, Nat.zero_le _, rfl, k0, rfl, hk0, by omega, c0, Touch.refl _ _⟩
 case round =>
  obtain ⟨k, hk, rfl, x, rfl, hx0, hx1, hck, t⟩ := hrel
  by_cases hlt : k < N
  ·obtain ⟨d1, d2⟩ := HC.out k hlt;obtain ⟨vs, v1, v2, v3⟩ := HM.out.c;have hK : LK wr (c k) (ts[k]?.getD noL) := ((HM.out.l k (by rw [HN.out]; exact hlt)).from d2).touch t (fun x hx => hx.2);have hv := (v1.touch t (fun hx => Nat.lt_irrefl _ hx.1)).cell k;rw [v3 k (by rw [HN.out]; exact hlt)] at hv;generalize HG : ts[k]?.getD noL = g at *;clear HG v1 v3;obtain ⟨ga, gn, gcap, gx⟩ := g;obtain ⟨B', l', p', q', e1, e2, e3, e4, e5⟩ := hK;simp only at e1 e3 e4 e5;subst e1;have hv' : wr.cell? ⟨B, k, none⟩ = some (.slice (some ⟨B', 0, none⟩) gn gcap) := hv
   have hq : ∀ i, i < gn -> q' i < c (k + 1) := fun i hi => by
    obtain ⟨_, a3, _⟩ := e3.l i (by omega)
    exact d2.2 i (by show i < gx.length; omega) _ a3
   have hB' := (d2.1 B' rfl).2;have HQ : Hid _ := hq;clear hq hv d2
   go_wp2_with fail
   refine (markLS_any B' l' gn gcap (c (k + 1)) gx p' q' x e3 e4 e5 hx0 (by omega) hB' HQ.out).mono ?_;rintro ee w1 ⟨r, rfl, r0, r1, t1⟩;have t2 : Touch (fun x => B < x /\ x < c (k + 1)) W w1 := (t.mono fun y hy => by omega).trans (t1.mono fun y hy => by omega);clear t t1 e3
   go_wp2
   go_roundw
   case rel => exact ⟨k + 1, by omega, by go_num, _, rfl, r0, by omega, by omega, t2⟩
   case measure => simp [intOf]; omega
  go_wp2
  go_ret
  obtain rfl : k = N := by omega
  exact ⟨x, rfl, hx0, hx1, t⟩
end Go.Proofs.YtdaiaohlkdolmaaGreat
