/-
  Lemmas that the claim's last text rests on.
-/
import Derived.Test.YtemcinobgdphnaaGreatQCb
namespace Go.Proofs.YtemcinobgdphnaaGreat
open Go.RowKit Go.Deep
open Option.some renaming injEq → qA
open List renaming setIfInBounds_toArray → qB, set_cons_zero → qC, set_cons_succ → qD, getElem?_eq_getElem → qE, getElem_cons_zero → qF, getElem_cons_succ → qG, getElem_toArray → qH
open Nat renaming le_refl → qI
set_option linter.unusedVariables false
set_option linter.unusedSimpArgs false
set_option maxRecDepth 100000
set_option maxHeartbeats 25600000
variable {W : World}
theorem pots_known {acts : List L2V} {ts : List IV} (h : ts.map IV.x = catP acts) (m : Nat) (C D : List Int) (s : Int) (U : List Int) : ∀ x v, v < 3 -> (potB m C D ts s x U v).2.2 = true := fun x v hv => by
 have hp : partL (potX v).1 ∈ pots3 := by
  rcases v with _ | _ | _ | v
  ·decide +kernel
  ·decide +kernel
  ·decide +kernel
  omega
 have h2 : ¬ hasI ts (partL (potX v).1) < 0 := by rw [hasI, h]; exact has_pos (pot_in hp)
 rw [potB, bnds, if_neg h2]
 split <;> rfl
theorem sloc_any (ad : Option Addr) (N cc : Nat) (a : Option Addr) (n cap : Nat) (c : Option Addr) (m cap' : Nat) (s : Int) (e : Option Addr) (k ec : Nat) (kk : Int) (u : Option Addr) (l uc : Nat) (ss : List L2V) (C D E U : List Int) {w : World}
  (hA : LSG w ad ss) (hC : Ints w a n C) (hD : Ints w c m D) (hE : Ints w e k E) (hU : Ints w u l U) (hN : ss.length = N) (hN1 : N <= 1048576) (hn : n <= 1048576) (hm : m <= 1048576) (hk : k <= 1048576) (hl : l <= 1048576) :
  Calls Tryz.prog 10 #[.slice ad N cc, treV a n cap c m cap', .int .i64 s, .slice e k ec, .int .i64 kk, .slice u l uc] w fun r w' => LocD w w' r (locL n m C D N ss s k E kk l U) := by
 have HN : Hid (ss.length = N) := hN;obtain ⟨R, hR⟩ : ∃ R, locL n m C D N ss s k E kk l U = R := ⟨_, rfl⟩
 have HR0 : Hid (locL n m C D N ss s k E kk l U = R) := hR;rw [hR];clear hN hR
 go_enter Tryz.func10, Tryz.ntmps10
 have al := (Below.refl (w).heap.size (w)).alloc (qI _) (.cells #[.slice a n cap, .slice c m cap'] 26);have BB := al;replace hA := hA.below al;replace hC := hC.below al;replace hD := hD.below al;replace hE := hE.below al;replace hU := hU.below al;clear al;have q7 := Cel.new (w) [.slice a n cap, .slice c m cap'] 26;have al := (Below.refl ((w).alloc (.cells #[.slice a n cap, .slice c m cap'] 26)).heap.size ((w).alloc (.cells #[.slice a n cap, .slice c m cap'] 26))).alloc (qI _) (.cells #[.int .i64 0, .slice none 0 0] 30);replace BB := btr BB al;replace hA := hA.below al;replace hC := hC.below al;replace hD := hD.below al;replace hE := hE.below al;replace hU := hU.below al;replace q7 := q7.below al;clear al;have q12 := Cel.new ((w).alloc (.cells #[.slice a n cap, .slice c m cap'] 26)) [.int .i64 0, .slice none 0 0] 30;simp only [World.size_alloc] at q12;obtain ⟨g7_0, g7_1⟩ := q7.c2;obtain ⟨g12_0, g12_1⟩ := q12.c2
 go_wp2_with fail
 generalize ((w).alloc (.cells #[.slice a n cap, .slice c m cap'] 26)).alloc (.cells #[.int .i64 0, .slice none 0 0] 30) = W1 at hA hC hD hE hU q7 q12 BB g7_0 g7_1 g12_0 g12_1 ⊢;obtain ⟨X12, hX12⟩ : ∃ x, x = w.heap.size + 1 := ⟨_, rfl⟩
 rw [<- hX12];rw [<- hX12] at q12 g12_0 g12_1;have loX12 : w.heap.size + 1 <= X12 := by omega
 have upX12 : X12 <= w.heap.size + 1 := by omega
 clear hX12;obtain ⟨X7, hX7⟩ : ∃ x, x = w.heap.size := ⟨_, rfl⟩
 rw [<- hX7];rw [<- hX7] at q7 g7_0 g7_1;have loX7 : w.heap.size <= X7 := by omega
 have upX7 : X7 <= w.heap.size := by omega
 clear hX7;refine (scat_any ss HN.out hA hN1).mono ?_;rintro ee w2 ⟨rfl, b1⟩;clear g7_0 g7_1 g12_0 g12_1;replace BB := btr BB b1;replace hA := hA.below b1;replace hC := hC.below b1;replace hD := hD.below b1;replace hE := hE.below b1;replace hU := hU.below b1;replace q7 := q7.below b1;replace q12 := q12.below b1;clear b1
 cases h1 : catB N ss
 ·obtain ⟨g7_0, g7_1⟩ := q7.c2;obtain ⟨g12_0, g12_1⟩ := q12.c2
  go_upto_region 2 with fail
  clear g7_0 g7_1 g12_0 g12_1;have al := (Below.refl w2.heap.size w2).alloc (qI _) (.cells #[] 3);have BA := btr BB al;have hlt1 := q12.lt;have zB := BB.size;obtain ⟨d0, d1, f0, f1⟩ := q12.pair;have HR : Hid (R = (0, [], [], false)) := by (show _ = _; rw [<- HR0.out]; simp [locL, h1])
  clear al hA hC hD hE hU
  go_wp2
  exact bodyPost_ret (v := .tuple #[resV 0 none 0 0, .slice (some ⟨w2.heap.size, 0, none⟩) 0 0, .bool false]) (by simp [results, Tryz.results10, go_sem, d0, d1, hlt1]) rfl (by rw [HR.out]; unfold LocD; exact ⟨none, 0, 0, 0, _, 0, 0, 0, rfl, rfl, rfl, (((BB.setCell (by simp only []; omega) _).setCell (by simp only []; omega) _).alloc (by rw [size_setCell, size_setCell]; exact BB.size) _), OwnX.nil _ _ _, OwnX.nil _ _ _, fun h => by omega, fun h => by omega, fun h => by omega⟩)
 obtain ⟨g7_0, g7_1⟩ := q7.c2;obtain ⟨g12_0, g12_1⟩ := q12.c2
 go_wp2_with fail
 refine (in_any).mono ?_;rintro ee v3 ⟨rfl, rfl⟩
 cases h2 : inB kk 0 ((N : Int) - 1)
 ·go_upto_region 2 with fail
  clear g7_0 g7_1 g12_0 g12_1;have al := (Below.refl v3.heap.size v3).alloc (qI _) (.cells #[] 3);have BA := btr BB al;have hlt1 := q12.lt;have zB := BB.size;obtain ⟨d0, d1, f0, f1⟩ := q12.pair;have HR : Hid (R = (0, [], [], false)) := by (show _ = _; rw [<- HR0.out]; simp [locL, h1, h2])
  clear al hA hC hD hE hU
  go_wp2
  exact bodyPost_ret (v := .tuple #[resV 0 none 0 0, .slice (some ⟨v3.heap.size, 0, none⟩) 0 0, .bool false]) (by simp [results, Tryz.results10, go_sem, d0, d1, hlt1]) rfl (by rw [HR.out]; unfold LocD; exact ⟨none, 0, 0, 0, _, 0, 0, 0, rfl, rfl, rfl, (((BB.setCell (by simp only []; omega) _).setCell (by simp only []; omega) _).alloc (by rw [size_setCell, size_setCell]; exact BB.size) _), OwnX.nil _ _ _, OwnX.nil _ _ _, fun h => by omega, fun h => by omega, fun h => by omega⟩)
 go_wp2_with fail
 refine (sarg_any U hU hl).mono ?_;rintro ee v4 ⟨rfl, rfl⟩
 cases h3 : okN 2 9 l U
 ·go_upto_region 2 with fail
  clear g7_0 g7_1 g12_0 g12_1;have al := (Below.refl v4.heap.size v4).alloc (qI _) (.cells #[] 3);have BA := btr BB al;have hlt1 := q12.lt;have zB := BB.size;obtain ⟨d0, d1, f0, f1⟩ := q12.pair;have HR : Hid (R = (0, [], [], false)) := by (show _ = _; rw [<- HR0.out]; simp [locL, h1, h2, h3])
  clear al hA hC hD hE hU
  go_wp2
  exact bodyPost_ret (v := .tuple #[resV 0 none 0 0, .slice (some ⟨v4.heap.size, 0, none⟩) 0 0, .bool false]) (by simp [results, Tryz.results10, go_sem, d0, d1, hlt1]) rfl (by rw [HR.out]; unfold LocD; exact ⟨none, 0, 0, 0, _, 0, 0, 0, rfl, rfl, rfl, (((BB.setCell (by simp only []; omega) _).setCell (by simp only []; omega) _).alloc (by rw [size_setCell, size_setCell]; exact BB.size) _), OwnX.nil _ _ _, OwnX.nil _ _ _, fun h => by omega, fun h => by omega, fun h => by omega⟩)
 have hk2 := inB_iff.1 h2;have h4 := (catB_parts h1).1;obtain ⟨rfl, bU⟩ := okN_nat (by omega) h3;obtain ⟨kn, rfl⟩ : ∃ kn : Nat, kk = kn := ⟨kk.toNat, by omega⟩
 have hkN : kn < N := by omega
 clear hk2;have HP4 : Hid (catB N ss = true /\ inB (kn : Int) 0 ((N : Int) - 1) = true /\ okN 2 9 2 U = true) := ⟨h1, h2, h3⟩
 clear h1 h2 h3
 go_wp2_with fail
 refine (sboth_any ss HN.out hA (catB_parts HP4.out.1).2 h4).mono ?_;rintro ee w5 ⟨G, cG, ts, nt, P, cP, rfl, hnt, jp, hts, hnt2, oP, lP⟩;have bJ := jp.b;have hIS := jp.g;have h3n : ∀ i, i < ts.length -> (ts[i]?.getD noI).n = 3 := fun i hi => (jp.k i hi).1;clear jp;clear g7_0 g7_1 g12_0 g12_1;replace BB := btr BB bJ;replace hA := hA.below bJ;replace hC := hC.below bJ;replace hD := hD.below bJ;replace hE := hE.below bJ;replace hU := hU.below bJ;replace q7 := q7.below bJ;replace q12 := q12.below bJ;clear bJ;obtain ⟨hcl, hcp⟩ := copies_ivs hts h3n;have HTL : Hid (ts.length = nt) := hnt;have hKn := pots_known hts m C D s U;have hL1 : nt <= 1048576 := by omega
 have E1 : Hid (∀ n C D k E, viewB n m C D (ivs (catP ss)) s k E = viewB n m C D ts s k E) := fun n C D k E => (viewB_copy hcl hcp).symm;have E2 : Hid (∀ g E, keepsB g E (ivs (catP ss)) = keepsB g E ts) := fun g E => (keepsB_copy hcl hcp).symm;have E3 : Hid (∀ C D E U, sureR m C D (ivs (catP ss)) s E U = sureR m C D ts s E U) := fun C D E U => (sureR_copy hcl hcp).symm;have E4 : Hid (∀ C D E U f st AD TL, tryL m C D (ivs (catP ss)) s E U f st AD TL = tryL m C D ts s E U f st AD TL) := fun C D E U f st AD TL => (tryL_copy hcl hcp).symm;have HKN : Hid (∀ x v, v < 3 -> (potB m C D ts s x U v).2.2 = true) := hKn;clear hcl hcp hts h3n hnt hKn;obtain ⟨g7_0, g7_1⟩ := q7.c2;obtain ⟨g12_0, g12_1⟩ := q12.c2
 go_wp2_with fail
 refine (skeep_any a n cap c m cap' (some ⟨G, 0, none⟩) nt cG s e k ec C D E ts hC hD hE HTL.out hIS hn hm hk hL1).mono ?_;rintro ee w6 ⟨rfl, b5⟩;clear g7_0 g7_1 g12_0 g12_1;replace BB := btr BB b5;replace hA := hA.below b5;replace hC := hC.below b5;replace hD := hD.below b5;replace hE := hE.below b5;replace hU := hU.below b5;replace hIS := hIS.below b5;replace oP := oP.below b5;replace q7 := q7.below b5;replace q12 := q12.below b5;clear b5
 cases h5 : keepB n m C D ts s k E
 ·have h56 : viewB n m C D ts s k E = false \/ keepsB (D[s.toNat]?.getD 0) E ts = false := by
   rw [keepB, Bool.and_eq_false_iff] at h5; exact h5
  have HK0 : Hid ((!viewB n m C D ts s k E || !keepsB (D[s.toNat]?.getD 0) E ts) = true) := by (show _ = _; rcases h56 with h | h <;> simp [h])
  clear h56;obtain ⟨g7_0, g7_1⟩ := q7.c2;obtain ⟨g12_0, g12_1⟩ := q12.c2
  go_upto_region 5 with fail
  clear g7_0 g7_1 g12_0 g12_1;have al := (Below.refl w6.heap.size w6).alloc (qI _) (.cells #[] 3);have BA := btr BB al;have hlt1 := q12.lt;have zB := BB.size;obtain ⟨d0, d1, f0, f1⟩ := q12.pair;have HR : Hid (R = (0, [], [], false)) := by (show _ = _; rw [<- HR0.out]; simp [locL, HP4.out.1, HP4.out.2.1, HP4.out.2.2, E1.out, E2.out, HK0.out])
  clear al hA hC hD hE hU
  go_wp2
  exact bodyPost_ret (v := .tuple #[resV 0 none 0 0, .slice (some ⟨w6.heap.size, 0, none⟩) 0 0, .bool false]) (by simp [results, Tryz.results10, go_sem, d0, d1, hlt1]) rfl (by rw [HR.out]; unfold LocD; exact ⟨none, 0, 0, 0, _, 0, 0, 0, rfl, rfl, rfl, (((BB.setCell (by simp only []; omega) _).setCell (by simp only []; omega) _).alloc (by rw [size_setCell, size_setCell]; exact BB.size) _), OwnX.nil _ _ _, OwnX.nil _ _ _, fun h => by omega, fun h => by omega, fun h => by omega⟩)
 have h56 : viewB n m C D ts s k E = true /\ keepsB (D[s.toNat]?.getD 0) E ts = true := by
  rw [keepB, Bool.and_eq_true] at h5; exact h5
 obtain ⟨h6, h7⟩ := h56;clear h5;obtain ⟨rfl, bC, hm1, hm3, hps, hs0, hs1, rfl, bE, bD⟩ := viewB_elim h6;obtain ⟨g7_0, g7_1⟩ := q7.c2;obtain ⟨g12_0, g12_1⟩ := q12.c2
 go_wp2_with fail
 refine (sstill_any (pinsA ss) E oP hE).mono ?_;rintro ee v7 ⟨rfl, rfl⟩
 cases h8 : pinned (pinsA ss) E
 ·have hix : kn < ss.length := by rw [HN.out]; exact hkN
  have hsok : (ss[kn]?.getD noL).ok = true := by
   rw [qE hix]
   exact List.all_eq_true.1 (catB_parts HP4.out.1).2 _ (List.getElem_mem hix)
  have HR : Hid (R = tryA m C D ts s E U (pinsA ss) (rowsL (ss[kn]?.getD noL).x)) := by
   show _ = _
   rw [<- HR0.out];simp only [locL, HP4.out.1, HP4.out.2.1, HP4.out.2.2, E1.out, E2.out, E3.out, h6, h7, h8, Int.toNat_natCast, Bool.not_true, Bool.or_false, Bool.false_eq_true, if_false, tryA, tryR, E4.out]
   cases (rowsL (ss[kn]?.getD noL).x).find? (sureR m C D ts s E U) <;> rfl
  have HH6 : Hid _ := h6;clear h7 h8
  go_wp2_with fail
  refine (stry_any ad N cc ss (some ⟨G, 0, none⟩) nt cG P cP (pinsA ss) a cap c m cap' s e ec kn u uc C D E U ts hA hix hsok hC hD hE hU HTL.out hIS hL1 HN.out hN1 h6 HP4.out.2.2 oP HKN.out).mono ?_;rintro ee w8 hL;rw [<- HR.out] at hL;obtain ⟨x1, x2, x3, x4⟩ := R;obtain ⟨xa, xn, xcap, XB, ya, yn, ycap, YB, rfl, hl1, hl2, bT, o1, o2, lo1, lo2, hne⟩ := hL;have HL1 : Hid (x2.length = xn) := hl1;have HL2 : Hid (x3.length = yn) := hl2;clear hl1 hl2;have lX0 := q12.lt;have zB0 := BB.size;clear g7_0 g7_1 g12_0 g12_1;replace BB := btr BB bT;replace hA := hA.below bT;replace hC := hC.below bT;replace hD := hD.below bT;replace hE := hE.below bT;replace hU := hU.below bT;replace hIS := hIS.below bT;replace oP := oP.below bT;replace q7 := q7.below bT;replace q12 := q12.below bT;clear bT;obtain ⟨g12_0, g12_1⟩ := q12.c2;have f12_0 := q12.free 0;have f12_1 := q12.free 1;have l12 := q12.lt;have z12 := (q12.set 0 (.int .i64 x1)).set 1 (.slice xa xn xcap);have z120 := z12.cell 0;have z121 := z12.cell 1;simp only [List.getElem?_cons_zero, List.getElem?_cons_succ, qC, qD] at z120 z121;clear z12;have hBB := (BB.setCell (p := ⟨X12, 0, none⟩) (by simp only []; omega) (.int .i64 x1)).setCell (p := ⟨X12, 1, none⟩) (by simp only []; omega) (.slice xa xn xcap);have o11 := (o1.setOther (X := X12) (fun h => by have := lo1 h; omega) 0 (.int .i64 x1)).setOther (X := X12) (fun h => by have := lo1 h; omega) 1 (.slice xa xn xcap)
  have o22 := (o2.setOther (X := X12) (fun h => by have := lo2 h; omega) 0 (.int .i64 x1)).setOther (X := X12) (fun h => by have := lo2 h; omega) 1 (.slice xa xn xcap)
  go_wp2
  exact bodyPost_ret (v := .tuple #[resV x1 xa xn xcap, .slice ya yn ycap, .bool x4]) (by simp [results, Tryz.results10, go_sem, z120, z121]) rfl (by unfold LocD; exact ⟨xa, xn, xcap, XB, ya, yn, ycap, YB, rfl, HL1.out, HL2.out, hBB, o11, o22, fun h => by have := lo1 h; omega, fun h => by have := lo2 h; omega, hne⟩)
 go_upto_region 5 with fail
 clear g7_0 g7_1 g12_0 g12_1;have al := (Below.refl v7.heap.size v7).alloc (qI _) (.cells #[] 3);have BA := btr BB al;have hlt1 := q12.lt;have zB := BB.size;obtain ⟨d0, d1, f0, f1⟩ := q12.pair;have HR : Hid (R = (0, [], [], false)) := by (show _ = _; rw [<- HR0.out]; simp [locL, HP4.out.1, HP4.out.2.1, HP4.out.2.2, E1.out, E2.out, h6, h7, h8])
 clear al hA hC hD hE hU
 go_wp2
 exact bodyPost_ret (v := .tuple #[resV 0 none 0 0, .slice (some ⟨v7.heap.size, 0, none⟩) 0 0, .bool false]) (by simp [results, Tryz.results10, go_sem, d0, d1, hlt1]) rfl (by rw [HR.out]; unfold LocD; exact ⟨none, 0, 0, 0, _, 0, 0, 0, rfl, rfl, rfl, (((BB.setCell (by simp only []; omega) _).setCell (by simp only []; omega) _).alloc (by rw [size_setCell, size_setCell]; exact BB.size) _), OwnX.nil _ _ _, OwnX.nil _ _ _, fun h => by omega, fun h => by omega, fun h => by omega⟩)
def coRB (c d : Int) (xs ys : List Int) : Bool := (c == d) && eqB xs ys
theorem coRB_same (c : Int) (xs : List Int) : coRB c c xs xs = true := by simp [coRB, eqB]
theorem coR_any (c d : Int) {a : Option Addr} {n cap : Nat} {b : Option Addr} {m cap' : Nat} (xs ys : List Int) {w : World} (h : Ints w a n xs) (h' : Ints w b m ys) (hn : n <= 1048576 := by omega) (hm : m <= 1048576 := by omega) :
  Calls Tryz.prog 11 #[resV c a n cap, resV d b m cap'] w fun e w' => e = .returned (.bool (coRB c d xs ys)) /\ Below w.heap.size w w' := by
 cases h1 : (c == d)
 ·go_enter Tryz.func11, Tryz.ntmps11
  go_wp2
  go_ret
  exact ⟨ret_bool (by simp [coRB, h1]), (bal).alloc (by simp) _⟩
 go_enter Tryz.func11, Tryz.ntmps11
 go_wp2_with fail
 refine (coI_any xs ys ((h.alloc _).alloc _) ((h'.alloc _).alloc _) hn hm).mono ?_;rintro e w1 ⟨rfl, b1⟩
 go_wp2
 go_ret
 exact ⟨ret_bool (by simp [coRB, h1]), ((bal).alloc (by simp) _).trans (b1.mono (by simp; omega))⟩
theorem wp_copyG {o : Oper} {a : Act} {K : Act -> World -> Prop} {Q : Exit -> Act -> World -> Prop} (s x : Operand) (ho : o.op = .call { callee := .builtin .append, args := #[s, x], argTypes := #[24, 24] }) (base L : Nat) (ad : Option Addr) (n cap : Nat) (zs : List Int)
  (hs : a.eval s = .slice (some ⟨L, 0, none⟩) 0 0) (hown : W.ownsRow base 3 1 (.slice (some ⟨L, 0, none⟩) 0 0) 0 []) (hx : a.eval x = .slice ad n cap) (hb : Ints W ad n zs) (h0 : 0 < n) (hn : n <= 1048576) (hbase : base <= W.heap.size) (hL : base <= L)
  (h : ∀ cap' B' W1, Below base W W1 -> Touch (fun z => z = L) W W1 -> OwnX W1 (some ⟨B', 0, none⟩) B' n zs -> (base <= B' /\ (B' = L \/ W.heap.size <= B')) -> K (a.put o.dst (.slice (some ⟨B', 0, none⟩) n cap')) W1) : o.wp Tryz.prog a W K Q := by
 obtain ⟨i0, hi, hz0, hz1, hz2⟩ := info_parts Tryz.infoInt;obtain ⟨B, off, rfl, hcell⟩ := hb.pos h0;have hl := hb.1;have hcl : ∀ i, i < n -> W.cell? ⟨B, off + i, none⟩ = some (.int .i64 (zs.getD i 0)) := fun i hi => by rw [hcell i hi]
 refine wp_append_lies _ s x 24 ho base 3 i0 (.int .i64 0) 1 8 Tryz.underlying24 hi hz0 hz1 hz2 rfl (by omega) _ 0 [] hs hown ⟨B, off, none⟩ n cap (zs.map (Value.int .i64)) hx (by rw [List.length_map, hl, Nat.mul_one]) (newsI hcl hl) (oneI) h0 (by unfold maxLen; omega) (by omega) hbase _ rfl ?_;intro g cp W1 ho1 hg hat hlt;have hB : Below base W W1 := (Below.refl base W).grown hg hbase (fun z hz => by simp only [Value.ownBlock, qA] at hz; omega);simp only [Nat.zero_add]
 have hgb : base <= g /\ (g = L \/ W.heap.size <= g) := by
  rcases hat with e | e
  ·simp only [Value.ownBlock, qA] at e; omega
  omega
 refine h _ g W1 hB ⟨hB.os, hB.tape, hB.output, hB.size, fun C hC hne => ?_⟩ ?_ hgb
 ·rw [hg.block C hC (by simp only [Value.ownBlock]; intro e; simp only [qA] at e; exact hne e)]
 rcases ho1.2 with ⟨hv, _⟩ | ⟨g', cap', cur, hv, hg', hh, hl', _, hs', ht⟩
 ·simp at hv
 simp only [Value.slice.injEq, qA, Addr.mk.injEq, and_true, true_and] at hv;obtain ⟨rfl, rfl⟩ := hv;refine ⟨hl, .inr ⟨rfl, cur.toList, by unfold Cel; simpa using hh, fun i hi => ?_⟩⟩;have h1 : (cur.toList.take ((0 + n) * 1))[i]? = (zs.map (Value.int .i64))[i]? := by rw [ht]; rfl
 rw [List.getElem?_take, if_pos (by omega)] at h1;rw [h1];have hi2 : i < zs.length := by omega
 simp [hi2]
theorem ownx_cell {B n i : Nat} {zs : List Int} (h : OwnX W (some ⟨B, 0, none⟩) B n zs) (hi : i < n) : W.cell? ⟨B, i, none⟩ = some (.int .i64 (zs[i]?.getD 0)) /\ W.frozen? ⟨B, i, none⟩ = false := by
 rcases h.2 with h0 | ⟨_, cur, hc, hv⟩
 ·omega
 exact ⟨(hc.cell i).trans (hv i hi), hc.free i⟩
theorem ownx_own {B n i : Nat} {zs : List Int} (h : OwnX W (some ⟨B, 0, none⟩) B n zs) (hi : i < n) (y : Int) : OwnX (W.setCell ⟨B, i, none⟩ (.int .i64 y)) (some ⟨B, 0, none⟩) B n (zs.set i y) := by
 have hl := h.1
 rcases h.2 with h0 | ⟨_, cur, hc, hv⟩
 ·omega
 refine ⟨by rw [List.length_set]; exact hl, .inr ⟨rfl, _, hc.set i (.int .i64 y), fun k hk => ?_⟩⟩
 by_cases e : k = i
 ·subst e;have hk2 : k < cur.length := (List.getElem?_eq_some_iff.1 (hv k hk)).1;rw [List.getElem?_set_self hk2, List.getElem?_set_self (by omega)]
  rfl
 rw [List.getElem?_set_ne (fun x => e x.symm), List.getElem?_set_ne (fun x => e x.symm)]
 exact hv k hk
theorem sumT_bnd {B : List Int} {es : List IV} (hB : B.length = 3) (bB : bnd 10000 B) : ∀ k : Nat, (∀ i : Nat, i < k -> (es[i]?.getD noI).x.length = 3 /\ bnd 20000 (es[i]?.getD noI).x) -> bnd (10000 + 20000 * (k : Int)) (sumT B es k)
 | 0, _ => fun i => by have := bB i; simp only [sumT]; omega
 | k + 1, h => fun i => by
  have ih := sumT_bnd hB bB k (fun i hi => h i (by omega)) i;have hl := sumT_len hB k (fun i hi => (h i (by omega)).1);have hk := h k (by omega);have hx := hk.2 i;simp only [sumT]
  by_cases hi : i < 3
  ·have e : (List.zipWith (· + ·) (sumT B es k) (es[k]?.getD noI).x)[i]?.getD 0 = (sumT B es k)[i]?.getD 0 + (es[k]?.getD noI).x[i]?.getD 0 := by
    rw [List.getElem?_zipWith, qE (by omega), qE (by omega)]
    rfl
   rw [e]
   omega
  rw [List.getElem?_eq_none (by rw [zip_len hl hk.1]; omega)];simp only [Option.getD_none]
  omega
def mixV (P X : List Int) (v : Nat) : List Int := (List.zipWith (· + ·) P X).take v ++ P.drop v
theorem mix_at {P X : List Int} (hP : P.length = 3) (hX : X.length = 3) : ∀ v, v < 3 -> (mixV P X v)[v]?.getD 0 = P[v]?.getD 0 /\ (mixV P X v).set v (P[v]?.getD 0 + X[v]?.getD 0) = mixV P X (v + 1) := fun v hv => by
 match P, hP, X, hX with
 | [a, b, c], _, [d, e, f], _ =>
  match v, hv with
  | 0, _ => exact ⟨rfl, rfl⟩
  | 1, _ => exact ⟨rfl, rfl⟩
  | 2, _ => exact ⟨rfl, rfl⟩
theorem mix_end {P X : List Int} (hP : P.length = 3) (hX : X.length = 3) : mixV P X 3 = List.zipWith (· + ·) P X := by
 match P, hP, X, hX with
 | [a, b, c], _, [d, e, f], _ => rfl
theorem cosum_any {a : Option Addr} {cap : Nat} (B : List Int) {ad : Option Addr} {N c : Nat} (es : List IV) {w : World} (hB : Ints w a 3 B) (hE : ISG w ad es) (hN : es.length = N) (hN3 : N <= 3) (h3 : ∀ i, i < N -> (es[i]?.getD noI).n = 3) (bB : bnd 10000 B) (bE : ∀ i, i < N -> bnd 20000 (es[i]?.getD noI).x) :
  Calls Tryz.prog 17 #[.slice a 3 cap, .slice ad N c] w fun e w' => ∃ g cg, e = .returned (.slice (some ⟨g, 0, none⟩) 3 cg) /\ Ints w' (some ⟨g, 0, none⟩) 3 (sumT B es N) /\ Below w.heap.size w w' := by
 have HN : Hid (es.length = N) := hN;have H3 : Hid (∀ i, i < N -> (es[i]?.getD noI).n = 3) := h3;have HB : Hid (B.length = 3) := hB.1;have HX : Hid (∀ i, i < N -> (es[i]?.getD noI).x.length = 3 /\ bnd 20000 (es[i]?.getD noI).x) := fun i hi => ⟨by obtain ⟨_, _, _, _, hI, _⟩ := hE i (by rw [hN]; exact hi); rw [hI.1]; exact h3 i hi, bE i hi⟩
 have HS : Hid (∀ k : Nat, k <= N -> bnd (10000 + 20000 * (k : Int)) (sumT B es k) /\ (sumT B es k).length = 3) := fun k hk => ⟨sumT_bnd HB.out bB k (fun i hi => HX.out i (by omega)), sumT_len HB.out k (fun i hi => (HX.out i (by omega)).1)⟩
 clear hN h3 bB bE;have al := (Below.refl w.heap.size w).alloc (qI _) (.cells #[] 3);have o0 := World.ownsRow_lit (base := w.heap.size) (e := 3) (size := 1) w #[] 0 (qI _) (by unfold maxLen; omega) rfl;have hBa := hB.below al
 go_enter Tryz.func17, Tryz.ntmps17
 go_wp2_with (at_builtin; refine wpList_plain rfl (fun K hK => ?_); refine wp_copyG (.tmp 8) (.tmp 9) rfl w.heap.size w.heap.size a 3 cap B (by rfl) o0 (by rfl) hBa (by omega) (by omega) (by rw [World.size_alloc]; omega) (qI _) ?_)
 intro c8 B8 W1 hBn hTn ox hB8 hor;refine hK _ _ ?_;have b1 := al.trans hBn
 skip
 clear hBn hTn al o0 hBa hor hB
 go_wp2_with fail
 go_loopw [6] (fun i wr => ∃ k : Nat, k <= N /\ i = .int .i64 k /\ OwnX wr (some ⟨B8, 0, none⟩) B8 3 (sumT B es k) /\ Below w.heap.size w wr) (fun i _ => N - (intOf i).toNat)
 case atStart => exact ⟨0, by omega, rfl, ox, b1⟩
 case round =>
  clear ox b1;obtain ⟨k, hk, rfl, ox, b1⟩ := hrel
  by_cases hlt : k < N
  ·have hlt' : (k : Int) < (N : Int) := by omega
   obtain ⟨b', o', e', hc0, hI0, _⟩ := hE k (by rw [HN.out]; exact hlt);subst e';have hn3 := H3.out k hlt;have hx := HX.out k hlt;have hs := HS.out k (by omega);have hsum : sumT B es (k + 1) = List.zipWith (· + ·) (sumT B es k) (es[k]?.getD noI).x := rfl;rw [hn3] at hI0;obtain ⟨y, hy⟩ : ∃ y, y = es[k]?.getD noI := ⟨_, rfl⟩
   rw [<- hy] at hc0 hI0 hn3 hx hsum;obtain ⟨Z, hZ⟩ : ∃ Z, Z = sumT B es k := ⟨_, rfl⟩
   rw [<- hZ] at hs hsum ox;have hc1 : w.cell? ⟨b', o' + k, none⟩ = some (.slice y.a y.n y.cap) := hc0;rw [hn3] at hc1;have HSUM : Hid (sumT B es (k + 1) = List.zipWith (· + ·) Z y.x) := hsum;have HZL : Hid (Z.length = 3 /\ y.x.length = 3) := ⟨hs.2, hx.1⟩
   have HZB : Hid (bnd (10000 + 20000 * (k : Int)) Z /\ bnd 20000 y.x) := ⟨hs.1, hx.2⟩
   obtain ⟨b5, o5, e5, hcy⟩ := hI0.pos (by omega);have HE5 : Hid (y.a = some ⟨b5, o5, none⟩) := e5;rw [e5] at hc1;have ox0 : OwnX wr (some ⟨B8, 0, none⟩) B8 3 (mixV Z y.x 0) := ox;clear hc0 hsum hs hx hy hZ e5 ox
   go_wp2_with fail
   go_loopw [7] (fun i wx => ∃ v : Nat, v <= 3 /\ i = .int .i64 v /\ OwnX wx (some ⟨B8, 0, none⟩) B8 3 (mixV Z y.x v) /\ Below w.heap.size w wx) (fun i _ => 3 - (intOf i).toNat)
   case atStart => exact ⟨0, by omega, rfl, ox0, b1⟩
   case round =>
    clear ox0 b1;obtain ⟨v, hv, rfl, ox, b1⟩ := hrel
    by_cases hlv : v < 3
    ·have hlv' : (v : Int) < 3 := by omega
     obtain ⟨m1, m2⟩ := mix_at HZL.out.1 HZL.out.2 v hlv;have z1 := HZB.out.1 v;have z2 := HZB.out.2 v;have d0 := (ownx_cell ox hlv).1;have f0 := (ownx_cell ox hlv).2;rw [m1] at d0;have d2 : w.cell? ⟨b5, o5 + v, none⟩ = some (.int .i64 (y.x[v]?.getD 0)) := hcy v hlv;have ox2 := ownx_own ox hlv (Z[v]?.getD 0 + y.x[v]?.getD 0);rw [m2] at ox2;have lq := ox.lt (by omega);obtain ⟨p, hp⟩ : ∃ p, p = Z[v]?.getD 0 := ⟨_, rfl⟩
     obtain ⟨t, ht⟩ : ∃ t, t = y.x[v]?.getD 0 := ⟨_, rfl⟩
     rw [<- hp] at d0 z1 ox2;rw [<- ht] at d2 z2 ox2;have hw : IntKind.i64.wrap (p + t) = p + t := wrap_id (by omega) (by omega);clear hp ht m1 m2;have e1 : wr.cell? ⟨b', o' + k, none⟩ = some (.slice (some ⟨b5, o5, none⟩) 3 y.cap) := by rw [b1.cell (p := ⟨b', o' + k, none⟩) (block_lt hc1)]; exact hc1
     have e2 : wr.cell? ⟨b5, o5 + v, none⟩ = some (.int .i64 t) := by rw [b1.cell (p := ⟨b5, o5 + v, none⟩) (block_lt d2)]; exact d2
     go_upto_region 8 with fail
     refine wp_region_ends (fun X => X.cell? ⟨b', o' + k, none⟩ = some (.slice (some ⟨b5, o5, none⟩) 3 y.cap) /\ X.cell? ⟨b5, o5 + v, none⟩ = some (.int .i64 t)) (fun X => X.cell? ⟨B8, v, none⟩ = some (.int .i64 p)) 15 (by kernel_rfl) ?_;have dr : Below wr.heap.size wr wr.drew := (Below.refl _ _).drew;have hSS : (fun X : World => X.cell? ⟨b', o' + k, none⟩ = some (.slice (some ⟨b5, o5, none⟩) 3 y.cap) /\ X.cell? ⟨b5, o5 + v, none⟩ = some (.int .i64 t)) wr.drew /\ (fun X : World => X.cell? ⟨B8, v, none⟩ = some (.int .i64 p)) wr.drew := ⟨⟨e1, e2⟩, d0⟩
     have b2 := btr b1 dr;have ox3 : OwnX (wr.drew.setCell ⟨B8, v, none⟩ (.int .i64 (p + t))) (some ⟨B8, 0, none⟩) B8 3 (mixV Z y.x (v + 1)) := ox2;have f1 : wr.drew.frozen? ⟨B8, v, none⟩ = false := f0;have d1 : wr.drew.cell? ⟨B8, v, none⟩ = some (.int .i64 p) := d0;have l1 : B8 < wr.drew.heap.size := lq;have b3 := b2.setCell (p := ⟨B8, v, none⟩) (by simp only []; omega) (.int .i64 (p + t));have g1 : (wr.drew.setCell ⟨B8, v, none⟩ (.int .i64 (p + t))).cell? ⟨b', o' + k, none⟩ = some (.slice (some ⟨b5, o5, none⟩) 3 y.cap) := by rw [b3.cell (p := ⟨b', o' + k, none⟩) (block_lt hc1)]; exact hc1
     have g2 : (wr.drew.setCell ⟨B8, v, none⟩ (.int .i64 (p + t))).cell? ⟨b5, o5 + v, none⟩ = some (.int .i64 t) := by rw [b3.cell (p := ⟨b5, o5 + v, none⟩) (block_lt d2)]; exact d2
     clear dr e1 e2 d0 f0 lq ox2 ox;generalize wr.drew = V at hSS b2 ox3 f1 d1 l1 b3 g1 g2 ⊢;refine tkl 0 rfl hSS ?_;refine tkl 1 rfl hSS ?_;refine tkl 2 rfl hSS ?_;simp only [Act.put, qB, qD, qC, qH, qG, qF];refine tkl 3 rfl hSS ?_;refine tkl 4 rfl hSS ?_;refine tkM (i := 5) rfl rfl hSS ?_;simp only [Act.put, qB, qD, qC, qH, qG, qF];refine tkl 6 rfl hSS ?_;refine tkl 7 rfl hSS ?_;refine tkl 8 rfl hSS ?_;simp only [Act.put, qB, qD, qC, qH, qG, qF];refine tkl 9 rfl hSS ?_;refine tkl 10 rfl hSS ?_;refine tkl 11 rfl hSS ?_;simp only [Act.put, qB, qD, qC, qH, qG, qF];refine tkl 12 rfl hSS ?_;refine tkl 13 rfl hSS ?_;refine wpAnyE_one (i := 14) (by kernel_rfl) rfl (fun Kn hK => ?_);go_simp;refine hK.out _ _ ⟨hSS.1, fun _ => hSS.2⟩ ?_;clear hK hSS;refine wpAnyE_one (i := 15) (by kernel_rfl) rfl (fun Kn hK => ?_);go_simp;refine hK.out _ _ ⟨⟨g1, g2⟩, fun h => absurd h (by decide)⟩ ?_;clear hK d1 f1 l1 g1 g2;refine wod ?_ _
     go_wp2
     go_roundw
     case rel => exact ⟨v + 1, by omega, by go_num, ox3, b3⟩
     case measure => simp [intOf]; omega
    obtain rfl : v = 3 := by omega
    have hlv' : ¬ ((3 : Nat) : Int) < 3 := by omega
    have oxe : OwnX wr (some ⟨B8, 0, none⟩) B8 3 (sumT B es (k + 1)) := by rw [HSUM.out, <- mix_end HZL.out.1 HZL.out.2]; exact ox
    clear ox
    go_wp2
    go_roundw
    case rel => exact ⟨k + 1, by omega, by go_num, oxe, b1⟩
    case measure => simp [intOf]; omega
  obtain rfl : k = N := by omega
  have hlt' : ¬ (k : Int) < (k : Int) := by omega
  have hf := ox.ints;clear ox
  go_wp2
  go_ret
  first | exact ⟨B8, c8, rfl, hf, b1⟩ | exact ⟨B8, ⟨c8, rfl⟩, hf, b1⟩ | exact ⟨⟨c8, rfl⟩, hf, b1⟩ | exact ⟨B8, rfl, hf, b1⟩ | exact ⟨B8, hf, b1⟩ | exact ⟨hf, b1⟩
end Go.Proofs.YtemcinobgdphnaaGreat
