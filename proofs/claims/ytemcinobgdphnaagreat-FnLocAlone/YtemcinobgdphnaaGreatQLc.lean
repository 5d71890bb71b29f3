/-
  Lemmas that the claim's last text rests on.
-/
import Derived.Test.YtemcinobgdphnaaGreatQLb
namespace Go.Proofs.YtemcinobgdphnaaGreat
open Go.RowKit Go.Deep
open List renaming length_append → qA
open Nat renaming le_refl → qB
set_option linter.unusedVariables false
set_option linter.unusedSimpArgs false
set_option maxRecDepth 100000
set_option maxHeartbeats 25600000
variable {N q : Nat} {U V : List Int} {ls : List LV}
theorem pots_known {acts : List L2V} {ts : List IV} (h : ts.map IV.x = catP acts) (m : Nat) (C D : List Int) (s : Int) (U : List Int) : ∀ x v, v < 3 -> (potB m C D ts s x U v).2.2 = true := fun x v hv => by
 have hp : partL (potX v).1 ∈ pots3 := by
  rcases v with _ | _ | _ | v
  ·decide +kernel
  ·decide +kernel
  ·decide +kernel
  omega
 have h2 : ¬ hasI ts (partL (potX v).1) < 0 := by rw [hasI, h]; exact has_pos (pot_in hp)
 rw [potB, bnds, if_neg h2]
 split <;> rfl
theorem sloc_any (ad : Option Addr) (N cc : Nat) (a : Option Addr) (n cap : Nat) (c : Option Addr) (m cap' : Nat) (s : Int) (e : Option Addr) (k ec : Nat) (kk : Int) (u : Option Addr) (l uc : Nat) (ss : List L2V) (C D E U : List Int) {w : World}
  (hA : LSG w ad ss) (hC : Ints w a n C) (hD : Ints w c m D) (hE : Ints w e k E) (hU : Ints w u l U) (hN : ss.length = N) (hN1 : N <= 1048576) (hn : n <= 1048576) (hm : m <= 1048576) (hk : k <= 1048576) (hl : l <= 1048576) :
  Calls Tryz.prog 10 #[.slice ad N cc, treV a n cap c m cap', .int .i64 s, .slice e k ec, .int .i64 kk, .slice u l uc] w fun r w' => LocD w w' r (locL n m C D N ss s k E kk l U) := by
 have HN : Hid (ss.length = N) := hN;obtain ⟨R, hR⟩ : ∃ R, locL n m C D N ss s k E kk l U = R := ⟨_, rfl⟩
 have HR0 : Hid (locL n m C D N ss s k E kk l U = R) := hR;rw [hR];clear hN hR
 go_enter Tryz.func10, Tryz.ntmps10
 have al := (Below.refl (w).heap.size (w)).alloc (qB _) (.cells #[.slice a n cap, .slice c m cap'] 26);have BB := al;replace hA := hA.below al;replace hC := hC.below al;replace hD := hD.below al;replace hE := hE.below al;replace hU := hU.below al;clear al;have q7 := Cel.new (w) [.slice a n cap, .slice c m cap'] 26;have al := (Below.refl ((w).alloc (.cells #[.slice a n cap, .slice c m cap'] 26)).heap.size ((w).alloc (.cells #[.slice a n cap, .slice c m cap'] 26))).alloc (qB _) (.cells #[.int .i64 0, .slice none 0 0] 30);replace BB := btr BB al;replace hA := hA.below al;replace hC := hC.below al;replace hD := hD.below al;replace hE := hE.below al;replace hU := hU.below al;replace q7 := q7.below al;clear al;have q12 := Cel.new ((w).alloc (.cells #[.slice a n cap, .slice c m cap'] 26)) [.int .i64 0, .slice none 0 0] 30;simp only [World.size_alloc] at q12;obtain ⟨g7_0, g7_1⟩ := q7.c2;obtain ⟨g12_0, g12_1⟩ := q12.c2
 go_wp2_with fail
 generalize ((w).alloc (.cells #[.slice a n cap, .slice c m cap'] 26)).alloc (.cells #[.int .i64 0, .slice none 0 0] 30) = W1 at hA hC hD hE hU q7 q12 BB g7_0 g7_1 g12_0 g12_1 ⊢;obtain ⟨X12, hX12⟩ : ∃ x, x = w.heap.size + 1 := ⟨_, rfl⟩
 rw [<- hX12];rw [<- hX12] at q12 g12_0 g12_1;have loX12 : w.heap.size + 1 <= X12 := by omega
 have upX12 : X12 <= w.heap.size + 1 := by omega
 clear hX12;obtain ⟨X7, hX7⟩ : ∃ x, x = w.heap.size := ⟨_, rfl⟩
 rw [<- hX7];rw [<- hX7] at q7 g7_0 g7_1;have loX7 : w.heap.size <= X7 := by omega
 have upX7 : X7 <= w.heap.size := by omega
 clear hX7;refine (scat_any ss HN.out hA hN1).mono ?_;rintro ee w2 ⟨rfl, b1⟩;clear g7_0 g7_1 g12_0 g12_1;replace BB := btr BB b1;replace hA := hA.below b1;replace hC := hC.below b1;replace hD := hD.below b1;replace hE := hE.below b1;replace hU := hU.below b1;replace q7 := q7.below b1;replace q12 := q12.below b1;clear b1
 cases h1 : catB N ss
 ·obtain ⟨g7_0, g7_1⟩ := q7.c2;obtain ⟨g12_0, g12_1⟩ := q12.c2
  go_upto_region 2 with fail
  clear g7_0 g7_1 g12_0 g12_1;have al := (Below.refl w2.heap.size w2).alloc (qB _) (.cells #[] 3);have BA := btr BB al;have hlt1 := q12.lt;have zB := BB.size;obtain ⟨d0, d1, f0, f1⟩ := q12.pair;have HR : Hid (R = (0, [], [], false)) := by (show _ = _; rw [<- HR0.out]; simp [locL, h1])
  clear al hA hC hD hE hU
  go_wp2
  exact bodyPost_ret (v := .tuple #[resV 0 none 0 0, .slice (some ⟨w2.heap.size, 0, none⟩) 0 0, .bool false]) (by simp [results, Tryz.results10, go_sem, d0, d1, hlt1]) rfl (by rw [HR.out]; unfold LocD; exact ⟨none, 0, 0, 0, _, 0, 0, 0, rfl, rfl, rfl, (((BB.setCell (by simp only []; omega) _).setCell (by simp only []; omega) _).alloc (by rw [size_setCell, size_setCell]; exact BB.size) _), OwnX.nil _ _ _, OwnX.nil _ _ _, fun h => by omega, fun h => by omega, fun h => by omega⟩)
 obtain ⟨g7_0, g7_1⟩ := q7.c2;obtain ⟨g12_0, g12_1⟩ := q12.c2
 go_wp2_with fail
 refine (in_any).mono ?_;rintro ee v3 ⟨rfl, rfl⟩
 cases h2 : inB kk 0 ((N : Int) - 1)
 ·go_upto_region 2 with fail
  clear g7_0 g7_1 g12_0 g12_1;have al := (Below.refl v3.heap.size v3).alloc (qB _) (.cells #[] 3);have BA := btr BB al;have hlt1 := q12.lt;have zB := BB.size;obtain ⟨d0, d1, f0, f1⟩ := q12.pair;have HR : Hid (R = (0, [], [], false)) := by (show _ = _; rw [<- HR0.out]; simp [locL, h1, h2])
  clear al hA hC hD hE hU
  go_wp2
  exact bodyPost_ret (v := .tuple #[resV 0 none 0 0, .slice (some ⟨v3.heap.size, 0, none⟩) 0 0, .bool false]) (by simp [results, Tryz.results10, go_sem, d0, d1, hlt1]) rfl (by rw [HR.out]; unfold LocD; exact ⟨none, 0, 0, 0, _, 0, 0, 0, rfl, rfl, rfl, (((BB.setCell (by simp only []; omega) _).setCell (by simp only []; omega) _).alloc (by rw [size_setCell, size_setCell]; exact BB.size) _), OwnX.nil _ _ _, OwnX.nil _ _ _, fun h => by omega, fun h => by omega, fun h => by omega⟩)
 go_wp2_with fail
 refine (sarg_any U hU hl).mono ?_;rintro ee v4 ⟨rfl, rfl⟩
 cases h3 : okN 2 9 l U
 ·go_upto_region 2 with fail
  clear g7_0 g7_1 g12_0 g12_1;have al := (Below.refl v4.heap.size v4).alloc (qB _) (.cells #[] 3);have BA := btr BB al;have hlt1 := q12.lt;have zB := BB.size;obtain ⟨d0, d1, f0, f1⟩ := q12.pair;have HR : Hid (R = (0, [], [], false)) := by (show _ = _; rw [<- HR0.out]; simp [locL, h1, h2, h3])
  clear al hA hC hD hE hU
  go_wp2
  exact bodyPost_ret (v := .tuple #[resV 0 none 0 0, .slice (some ⟨v4.heap.size, 0, none⟩) 0 0, .bool false]) (by simp [results, Tryz.results10, go_sem, d0, d1, hlt1]) rfl (by rw [HR.out]; unfold LocD; exact ⟨none, 0, 0, 0, _, 0, 0, 0, rfl, rfl, rfl, (((BB.setCell (by simp only []; omega) _).setCell (by simp only []; omega) _).alloc (by rw [size_setCell, size_setCell]; exact BB.size) _), OwnX.nil _ _ _, OwnX.nil _ _ _, fun h => by omega, fun h => by omega, fun h => by omega⟩)
 have hk2 := inB_iff.1 h2;have h4 := (catB_parts h1).1;obtain ⟨rfl, bU⟩ := okN_nat (by omega) h3;obtain ⟨kn, rfl⟩ : ∃ kn : Nat, kk = kn := ⟨kk.toNat, by omega⟩
 have hkN : kn < N := by omega
 clear hk2;have HP4 : Hid (catB N ss = true /\ inB (kn : Int) 0 ((N : Int) - 1) = true /\ okN 2 9 2 U = true) := ⟨h1, h2, h3⟩
 clear h1 h2 h3
 go_wp2_with fail
 refine (sboth_any ss HN.out hA (catB_parts HP4.out.1).2 h4).mono ?_;rintro ee w5 ⟨G, cG, ts, nt, P, cP, rfl, hnt, jp, hts, hnt2, oP, lP⟩;have bJ := jp.b;have hIS := jp.g;have h3n : ∀ i, i < ts.length -> (ts[i]?.getD noI).n = 3 := fun i hi => (jp.k i hi).1;clear jp;clear g7_0 g7_1 g12_0 g12_1;replace BB := btr BB bJ;replace hA := hA.below bJ;replace hC := hC.below bJ;replace hD := hD.below bJ;replace hE := hE.below bJ;replace hU := hU.below bJ;replace q7 := q7.below bJ;replace q12 := q12.below bJ;clear bJ;obtain ⟨hcl, hcp⟩ := copies_ivs hts h3n;have HTL : Hid (ts.length = nt) := hnt;have hKn := pots_known hts m C D s U;have hL1 : nt <= 1048576 := by omega
 have E1 : Hid (∀ n C D k E, viewB n m C D (ivs (catP ss)) s k E = viewB n m C D ts s k E) := fun n C D k E => (viewB_copy hcl hcp).symm;have E2 : Hid (∀ g E, keepsB g E (ivs (catP ss)) = keepsB g E ts) := fun g E => (keepsB_copy hcl hcp).symm;have E3 : Hid (∀ C D E U, sureR m C D (ivs (catP ss)) s E U = sureR m C D ts s E U) := fun C D E U => (sureR_copy hcl hcp).symm;have E4 : Hid (∀ C D E U f st AD TL, tryL m C D (ivs (catP ss)) s E U f st AD TL = tryL m C D ts s E U f st AD TL) := fun C D E U f st AD TL => (tryL_copy hcl hcp).symm;have HKN : Hid (∀ x v, v < 3 -> (potB m C D ts s x U v).2.2 = true) := hKn;clear hcl hcp hts h3n hnt hKn;obtain ⟨g7_0, g7_1⟩ := q7.c2;obtain ⟨g12_0, g12_1⟩ := q12.c2
 go_wp2_with fail
 refine (skeep_any a n cap c m cap' (some ⟨G, 0, none⟩) nt cG s e k ec C D E ts hC hD hE HTL.out hIS hn hm hk hL1).mono ?_;rintro ee w6 ⟨rfl, b5⟩;clear g7_0 g7_1 g12_0 g12_1;replace BB := btr BB b5;replace hA := hA.below b5;replace hC := hC.below b5;replace hD := hD.below b5;replace hE := hE.below b5;replace hU := hU.below b5;replace hIS := hIS.below b5;replace oP := oP.below b5;replace q7 := q7.below b5;replace q12 := q12.below b5;clear b5
 cases h5 : keepB n m C D ts s k E
 ·have h56 : viewB n m C D ts s k E = false \/ keepsB (D[s.toNat]?.getD 0) E ts = false := by
   rw [keepB, Bool.and_eq_false_iff] at h5; exact h5
  have HK0 : Hid ((!viewB n m C D ts s k E || !keepsB (D[s.toNat]?.getD 0) E ts) = true) := by (show _ = _; rcases h56 with h | h <;> simp [h])
  clear h56;obtain ⟨g7_0, g7_1⟩ := q7.c2;obtain ⟨g12_0, g12_1⟩ := q12.c2
  go_upto_region 5 with fail
  clear g7_0 g7_1 g12_0 g12_1;have al := (Below.refl w6.heap.size w6).alloc (qB _) (.cells #[] 3);have BA := btr BB al;have hlt1 := q12.lt;have zB := BB.size;obtain ⟨d0, d1, f0, f1⟩ := q12.pair;have HR : Hid (R = (0, [], [], false)) := by (show _ = _; rw [<- HR0.out]; simp [locL, HP4.out.1, HP4.out.2.1, HP4.out.2.2, E1.out, E2.out, HK0.out])
  clear al hA hC hD hE hU
  go_wp2
  exact bodyPost_ret (v := .tuple #[resV 0 none 0 0, .slice (some ⟨w6.heap.size, 0, none⟩) 0 0, .bool false]) (by simp [results, Tryz.results10, go_sem, d0, d1, hlt1]) rfl (by rw [HR.out]; unfold LocD; exact ⟨none, 0, 0, 0, _, 0, 0, 0, rfl, rfl, rfl, (((BB.setCell (by simp only []; omega) _).setCell (by simp only []; omega) _).alloc (by rw [size_setCell, size_setCell]; exact BB.size) _), OwnX.nil _ _ _, OwnX.nil _ _ _, fun h => by omega, fun h => by omega, fun h => by omega⟩)
 have h56 : viewB n m C D ts s k E = true /\ keepsB (D[s.toNat]?.getD 0) E ts = true := by
  rw [keepB, Bool.and_eq_true] at h5; exact h5
 obtain ⟨h6, h7⟩ := h56;clear h5;obtain ⟨rfl, bC, hm1, hm3, hps, hs0, hs1, rfl, bE, bD⟩ := viewB_elim h6;obtain ⟨g7_0, g7_1⟩ := q7.c2;obtain ⟨g12_0, g12_1⟩ := q12.c2
 go_wp2_with fail
 refine (sstill_any (pinsA ss) E oP hE).mono ?_;rintro ee v7 ⟨rfl, rfl⟩
 cases h8 : pinned (pinsA ss) E
 ·have hix : kn < ss.length := by rw [HN.out]; exact hkN
  have hsok : (ss[kn]?.getD noL).ok = true := by
   rw [List.getElem?_eq_getElem hix]
   exact List.all_eq_true.1 (catB_parts HP4.out.1).2 _ (List.getElem_mem hix)
  have HR : Hid (R = tryA m C D ts s E U (pinsA ss) (rowsL (ss[kn]?.getD noL).x)) := by
   show _ = _
   rw [<- HR0.out];simp only [locL, HP4.out.1, HP4.out.2.1, HP4.out.2.2, E1.out, E2.out, E3.out, h6, h7, h8, Int.toNat_natCast, Bool.not_true, Bool.or_false, Bool.false_eq_true, if_false, tryA, tryR, E4.out]
   cases (rowsL (ss[kn]?.getD noL).x).find? (sureR m C D ts s E U) <;> rfl
  have HH6 : Hid _ := h6;clear h7 h8
  go_wp2_with fail
  refine (stry_any ad N cc ss (some ⟨G, 0, none⟩) nt cG P cP (pinsA ss) a cap c m cap' s e ec kn u uc C D E U ts hA hix hsok hC hD hE hU HTL.out hIS hL1 HN.out hN1 h6 HP4.out.2.2 oP HKN.out).mono ?_;rintro ee w8 hL;rw [<- HR.out] at hL;obtain ⟨x1, x2, x3, x4⟩ := R;obtain ⟨xa, xn, xcap, XB, ya, yn, ycap, YB, rfl, hl1, hl2, bT, o1, o2, lo1, lo2, hne⟩ := hL;have HL1 : Hid (x2.length = xn) := hl1;have HL2 : Hid (x3.length = yn) := hl2;clear hl1 hl2;have lX0 := q12.lt;have zB0 := BB.size;clear g7_0 g7_1 g12_0 g12_1;replace BB := btr BB bT;replace hA := hA.below bT;replace hC := hC.below bT;replace hD := hD.below bT;replace hE := hE.below bT;replace hU := hU.below bT;replace hIS := hIS.below bT;replace oP := oP.below bT;replace q7 := q7.below bT;replace q12 := q12.below bT;clear bT;obtain ⟨g12_0, g12_1⟩ := q12.c2;have f12_0 := q12.free 0;have f12_1 := q12.free 1;have l12 := q12.lt;have z12 := (q12.set 0 (.int .i64 x1)).set 1 (.slice xa xn xcap);have z120 := z12.cell 0;have z121 := z12.cell 1;simp only [List.getElem?_cons_zero, List.getElem?_cons_succ, List.set_cons_zero, List.set_cons_succ] at z120 z121;clear z12;have hBB := (BB.setCell (p := ⟨X12, 0, none⟩) (by simp only []; omega) (.int .i64 x1)).setCell (p := ⟨X12, 1, none⟩) (by simp only []; omega) (.slice xa xn xcap);have o11 := (o1.setOther (X := X12) (fun h => by have := lo1 h; omega) 0 (.int .i64 x1)).setOther (X := X12) (fun h => by have := lo1 h; omega) 1 (.slice xa xn xcap)
  have o22 := (o2.setOther (X := X12) (fun h => by have := lo2 h; omega) 0 (.int .i64 x1)).setOther (X := X12) (fun h => by have := lo2 h; omega) 1 (.slice xa xn xcap)
  go_wp2
  exact bodyPost_ret (v := .tuple #[resV x1 xa xn xcap, .slice ya yn ycap, .bool x4]) (by simp [results, Tryz.results10, go_sem, z120, z121]) rfl (by unfold LocD; exact ⟨xa, xn, xcap, XB, ya, yn, ycap, YB, rfl, HL1.out, HL2.out, hBB, o11, o22, fun h => by have := lo1 h; omega, fun h => by have := lo2 h; omega, hne⟩)
 go_upto_region 5 with fail
 clear g7_0 g7_1 g12_0 g12_1;have al := (Below.refl v7.heap.size v7).alloc (qB _) (.cells #[] 3);have BA := btr BB al;have hlt1 := q12.lt;have zB := BB.size;obtain ⟨d0, d1, f0, f1⟩ := q12.pair;have HR : Hid (R = (0, [], [], false)) := by (show _ = _; rw [<- HR0.out]; simp [locL, HP4.out.1, HP4.out.2.1, HP4.out.2.2, E1.out, E2.out, h6, h7, h8])
 clear al hA hC hD hE hU
 go_wp2
 exact bodyPost_ret (v := .tuple #[resV 0 none 0 0, .slice (some ⟨v7.heap.size, 0, none⟩) 0 0, .bool false]) (by simp [results, Tryz.results10, go_sem, d0, d1, hlt1]) rfl (by rw [HR.out]; unfold LocD; exact ⟨none, 0, 0, 0, _, 0, 0, 0, rfl, rfl, rfl, (((BB.setCell (by simp only []; omega) _).setCell (by simp only []; omega) _).alloc (by rw [size_setCell, size_setCell]; exact BB.size) _), OwnX.nil _ _ _, OwnX.nil _ _ _, fun h => by omega, fun h => by omega, fun h => by omega⟩)
def coRB (c d : Int) (xs ys : List Int) : Bool := (c == d) && eqB xs ys
theorem coRB_same (c : Int) (xs : List Int) : coRB c c xs xs = true := by simp [coRB, eqB]
theorem coR_any (c d : Int) {a : Option Addr} {n cap : Nat} {b : Option Addr} {m cap' : Nat} (xs ys : List Int) {w : World} (h : Ints w a n xs) (h' : Ints w b m ys) (hn : n <= 1048576 := by omega) (hm : m <= 1048576 := by omega) :
  Calls Tryz.prog 11 #[resV c a n cap, resV d b m cap'] w fun e w' => e = .returned (.bool (coRB c d xs ys)) /\ Below w.heap.size w w' := by
 cases h1 : (c == d)
 ·go_enter Tryz.func11, Tryz.ntmps11
  go_wp2
  go_ret
  exact ⟨ret_bool (by simp [coRB, h1]), (bal).alloc (by simp) _⟩
 go_enter Tryz.func11, Tryz.ntmps11
 go_wp2_with fail
 refine (coI_any xs ys ((h.alloc _).alloc _) ((h'.alloc _).alloc _) hn hm).mono ?_;rintro e w1 ⟨rfl, b1⟩
 go_wp2
 go_ret
 exact ⟨ret_bool (by simp [coRB, h1]), ((bal).alloc (by simp) _).trans (b1.mono (by simp; omega))⟩
theorem bnd.snoc {M y : Int} {zs : List Int} (h : bnd M zs) (h0 : 0 <= M) (h1 : -M <= y) (h2 : y <= M) : bnd M (zs ++ [y]) := by
 intro i
 by_cases hi : i < zs.length
 ·rw [List.getElem?_append_left hi]; exact h i
 by_cases he : i = zs.length
 ·subst he; simp; omega
 rw [List.getElem?_eq_none (by rw [qA]; simp; omega)]; simp; omega
theorem small_atF {g : LV} {x : List Int} {M : Int} (hs : smallB g.f.n g.f.m g.f.C g.f.D g.f.K = true) (bV : bnd M x) (bU : bnd 9 U) (hM : 0 <= M := by omega) : -(6 * M + 56) <= atF x U g.f /\ atF x U g.f <= 6 * M + 56 := by
 obtain ⟨_, _, bC, bD, k1, k2⟩ := small_elim hs
 exact (small_at bC bD k1 k2 bV bU hM).2.2
theorem goL_tells (U : List Int) (ls : List LV) (h6 : ls.length <= 6) (hall : ls.all LV.ok = true) (bU : bnd 9 U) : ∀ (f i : Nat) (x tl : List Int), (i <= 6 -> bnd (bd i) x) -> tl.length <= i -> tl.length <= 6 -> bnd 13000000000 tl -> (goL U ls f i x tl).2.2.length <= 6 /\ bnd 13000000000 (goL U ls f i x tl).2.2
 | 0, i, x, tl, hx, hi, h, hb => ⟨h, hb⟩
 | f + 1, i, x, tl, hx, hi, h, hb => by
  unfold goL
  split
  ·rename_i hl
   have hok := allL_at hall hl;have hbx := hx (by omega);have hp := bd_pos i;have h2 := bd_six (n := i) (by omega)
   split
   ·rename_i hk
    refine goL_tells U ls h6 hall bU f _ x tl (fun hj => bnd_mono hbx (bd_mono ?_)) ?_ h hb
    ·split <;> omega
    split <;> omega
   split
   ·rename_i hk
    have hs : smallB (ls[i]?.getD noLV).f.n (ls[i]?.getD noLV).f.m (ls[i]?.getD noLV).f.C (ls[i]?.getD noLV).f.D (ls[i]?.getD noLV).f.K = true := by
     have h := hok;simp only [LV.ok, hk] at h
     exact (line_two h).2.2
    have ha := small_atF hs hbx bU;refine goL_tells U ls h6 hall bU f (i + 1) _ tl (fun _ => ?_) (by omega) h hb;have := hbx (ls[i]?.getD noLV).pot.toNat
    exact bnd_set (bnd_mono hbx (bd_succ i)) (by simp only [bd]; omega) (by simp only [bd]; omega)
   split
   ·rename_i hk
    have hs : smallB (ls[i]?.getD noLV).f.n (ls[i]?.getD noLV).f.m (ls[i]?.getD noLV).f.C (ls[i]?.getD noLV).f.D (ls[i]?.getD noLV).f.K = true := by
     have h := hok;simp only [LV.ok, hk] at h
     exact line_three h
    have ha := small_atF hs hbx bU
    exact goL_tells U ls h6 hall bU f (i + 1) x _ (fun _ => bnd_mono hbx (bd_succ i)) (by rw [qA]; simp; omega) (by rw [qA]; simp; omega) (hb.snoc (by omega) (by omega) (by omega))
   exact ⟨h, hb⟩
  exact ⟨h, hb⟩
structure RunLeft (c : Int) (tl pl V : List Int) : Prop where
 hc : 1 <= c /\ c <= 3
 hp : okN 3 10000 3 pl = true
 hv : c ≠ 1 -> pl = V /\ tl = []
 hn : tl.length <= 6
 ht : allB 999999999999 tl = true
theorem bnd_allE {m : Int} {zs : List Int} (h : bnd m zs) : allB m zs = true := by
 unfold allB;rw [List.all_eq_true];intro z hz;obtain ⟨i, hi, rfl⟩ := List.mem_iff_getElem.1 hz;have := h i;rw [List.getElem?_eq_getElem hi] at this
 exact inB_iff.2 this
theorem run_left (hN : ls.length = N) (h : runB N ls 3 V q U = true) (hV : V.length = 3) (hU : U.length = q) : RunLeft (runCode N ls 3 V q U) (runTells N ls 3 V q U) (runPots N ls 3 V q U) V := by
 have h' := h;simp only [runB, Bool.and_eq_true] at h';have h6 := actB_six h'.1.1;have bV := okN_elim (by omega) h'.1.2;have bU := okN_elim (by omega) h'.2;have gt := goL_tells U ls (by omega) h6.2 bU.2 7 0 V [] (fun _ => bV.2) (by simp) (by simp) (fun i => by simp);have gl := (goL_len U ls 7 0 V []).1
 cases hs : (runL U ls V).1
 ·obtain ⟨x, tl, e⟩ : ∃ x tl, runL U ls V = (false, x, tl) := ⟨(runL U ls V).2.1, (runL U ls V).2.2, by rw [<- hs]⟩
  obtain ⟨e1, e2, e3⟩ := run_go h e;have e' : goL U ls 7 0 V [] = (false, x, tl) := e;rw [e'] at gt gl;rw [e1, e2, e3]
  cases hk : okN 3 10000 3 x
  ·have c1 : endCode x = 3 := by rw [endCode, hk]; rfl
   have c2 : endTells x tl = [] := by rw [endTells, hk]; rfl
   have c3 : endPots V x = V := by rw [endPots, hk]; rfl
   rw [c1, c2, c3]
   exact ⟨by omega, h'.1.2, fun _ => ⟨rfl, rfl⟩, by simp, rfl⟩
  have c1 : endCode x = 1 := by rw [endCode, hk]; rfl
  have c2 : endTells x tl = tl := by rw [endTells, hk]; rfl
  have c3 : endPots V x = x := by rw [endPots, hk]; rfl
  rw [c1, c2, c3]
  exact ⟨by omega, hk, fun h => absurd rfl h, gt.1, bnd_allE (bnd_mono gt.2 (by omega))⟩
 obtain ⟨e1, e2, e3⟩ := run_stop h hs;rw [e1, e2, e3]
 exact ⟨by omega, h'.1.2, fun _ => ⟨rfl, rfl⟩, by simp, rfl⟩
theorem runB_threeE {p : Nat} (h : runB N ls p V q U = true) : p = 3 /\ q = 2 /\ ls.all LV.ok = true /\ actB N ls = true := by
 unfold runB at h;simp only [Bool.and_eq_true] at h;have h1 := (okN_elim (by omega) h.1.2).1;have h2 := (okN_elim (by omega) h.2).1
 exact ⟨by omega, by omega, (actB_six h.1.1).2, h.1.1⟩
theorem pots_threeE {p : Nat} (h : runB N ls p V q U = true) (hV : V.length = p) : (runPots N ls p V q U).length = 3 := by
 have h3 := (runB_threeE h).1;have hg := (goL_len U ls 7 0 V []).1;unfold runPots;rw [if_pos h]
 split
 ·omega
 unfold endPots
 split
 ·unfold runL; omega
 omega
end Go.Proofs.YtemcinobgdphnaaGreat
