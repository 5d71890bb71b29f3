/-
  TrtBounds: what both texts answer. Lengths at most 1048576.
-/
import Derived.Test.YtfmpcihghlnlnaaGreatDoorQl
namespace Go.Proofs.YtfmpcihghlnlnaaGreatDoor
open Go.RowKit Go.Deep
set_option linter.unusedVariables false
set_option maxRecDepth 100000
set_option maxHeartbeats 25600000
theorem field_zero (Z1 Z2 : Nat) (W : World) : (Instr.field 106 (formV (some ⟨Z1, 0, none⟩) 3 3 (some ⟨Z2, 0, none⟩) 2 2 0) 0).run Tryz.prog W = .ok (.slice (some ⟨Z1, 0, none⟩) 3 3) W := by kernel_rfl
theorem sbounds_any (a : Option Addr) (n cap : Nat) (c : Option Addr) (m cap' : Nat) (ad : Option Addr) (N pc : Nat) (s : Int) (e : Option Addr) (k ec : Nat) (fa : Option Addr) (fn fcap : Nat) (fc : Option Addr) (fm fcap' : Nat) (FK : Int) (u : Option Addr) (l uc : Nat) (C D E FC FD U : List Int) (ss : List IV) (w : World)
  (hC : Ints w a n C) (hD : Ints w c m D) (hE : Ints w e k E) (hA : Ints w fa fn FC) (hB : Ints w fc fm FD) (hU : Ints w u l U) (hN : ss.length = N) (hF : ISG w ad ss) (hn : n <= 1048576) (hm : m <= 1048576) (hk : k <= 1048576) (hfn : fn <= 1048576) (hfm : fm <= 1048576) (hl : l <= 1048576) (hN1 : N <= 1048576) :
  Calls Tryz.prog 98 #[treV a n cap c m cap', .slice ad N pc, .int .i64 s, .slice e k ec, formV fa fn fcap fc fm fcap' FK, .slice u l uc] w fun r w' => r = .returned (ansV (bansB n m C D ss s k E fn fm FC FD FK l U)) /\ Below w.heap.size w w' := by
 have HN : Hid (ss.length = N) := hN;clear hN;have q_0 := (Cel.new w [.slice a n cap, .slice c m cap'] 59).alloc (.cells #[.slice fa fn fcap, .slice fc fm fcap', .int .i64 FK] 106);have f_0 := Cel.new (w.alloc (.cells #[.slice a n cap, .slice c m cap'] 59)) [.slice fa fn fcap, .slice fc fm fcap', .int .i64 FK] 106;have B_0 := ((Below.refl w.heap.size w).alloc (Nat.le_refl _) (.cells #[.slice a n cap, .slice c m cap'] 59)).alloc (by simp) (.cells #[.slice fa fn fcap, .slice fc fm fcap', .int .i64 FK] 106);rw [World.size_alloc] at f_0
 cases h0 : trtB n m C D
 ·go_enter Tryz.func98, Tryz.ntmps98
  go_wp2_with fail
  refine (strt_any C D (hC.below B_0) (hD.below B_0) hn hm).mono ?_;rintro r w1 ⟨rfl, b_1⟩;rw [h0];have B_1 := btr B_0 b_1;have q_1 := q_0.below b_1;have f_1 := f_0.below b_1;clear B_0 f_0 q_0 b_1;obtain ⟨c_q0, c_q1⟩ := q_1.two;obtain ⟨c_f0, c_f1, c_f2⟩ := f_1.three
  go_wp2
  refine bodyPost_ret (v := .tuple #[.int .i64 0, .int .i64 0, .bool false]) (by simp [results, Tryz.results98, go_sem]) rfl ⟨?_, B_1⟩;rw [bansB, if_neg (by simp [bokB, viewB, h0])]
  rfl
 cases h1 : partsB ss
 ·go_enter Tryz.func98, Tryz.ntmps98
  go_wp2_with fail
  refine (strt_any C D (hC.below B_0) (hD.below B_0) hn hm).mono ?_;rintro r w1 ⟨rfl, b_1⟩;rw [h0];have B_1 := btr B_0 b_1;have q_1 := q_0.below b_1;have f_1 := f_0.below b_1;clear B_0 f_0 q_0 b_1;obtain ⟨c_q0, c_q1⟩ := q_1.two;obtain ⟨c_f0, c_f1, c_f2⟩ := f_1.three
  go_wp2_with fail
  refine (sparts_any ss HN.out (hF.below B_1) hN1).mono ?_;rintro r w2 ⟨rfl, rfl⟩;rw [h1]
  go_wp2
  refine bodyPost_ret (v := .tuple #[.int .i64 0, .int .i64 0, .bool false]) (by simp [results, Tryz.results98, go_sem]) rfl ⟨?_, B_1⟩;rw [bansB, if_neg (by simp [bokB, viewB, h1])]
  rfl
 cases h2 : inB s 0 ((m : Int) - 1)
 ·go_enter Tryz.func98, Tryz.ntmps98
  go_wp2_with fail
  refine (strt_any C D (hC.below B_0) (hD.below B_0) hn hm).mono ?_;rintro r w1 ⟨rfl, b_1⟩;rw [h0];have B_1 := btr B_0 b_1;have q_1 := q_0.below b_1;have f_1 := f_0.below b_1;clear B_0 f_0 q_0 b_1;obtain ⟨c_q0, c_q1⟩ := q_1.two;obtain ⟨c_f0, c_f1, c_f2⟩ := f_1.three
  go_wp2_with fail
  refine (sparts_any ss HN.out (hF.below B_1) hN1).mono ?_;rintro r w2 ⟨rfl, rfl⟩;rw [h1]
  go_wp2_with fail
  refine (in_any).mono ?_;rintro r w3 ⟨rfl, rfl⟩;rw [h2]
  go_wp2
  refine bodyPost_ret (v := .tuple #[.int .i64 0, .int .i64 0, .bool false]) (by simp [results, Tryz.results98, go_sem]) rfl ⟨?_, B_1⟩;rw [bansB, if_neg (by simp [bokB, viewB, h2])]
  rfl
 cases h3 : okN 3 20000 k E
 ·go_enter Tryz.func98, Tryz.ntmps98
  go_wp2_with fail
  refine (strt_any C D (hC.below B_0) (hD.below B_0) hn hm).mono ?_;rintro r w1 ⟨rfl, b_1⟩;rw [h0];have B_1 := btr B_0 b_1;have q_1 := q_0.below b_1;have f_1 := f_0.below b_1;clear B_0 f_0 q_0 b_1;obtain ⟨c_q0, c_q1⟩ := q_1.two;obtain ⟨c_f0, c_f1, c_f2⟩ := f_1.three
  go_wp2_with fail
  refine (sparts_any ss HN.out (hF.below B_1) hN1).mono ?_;rintro r w2 ⟨rfl, rfl⟩;rw [h1]
  go_wp2_with fail
  refine (in_any).mono ?_;rintro r w3 ⟨rfl, rfl⟩;rw [h2]
  go_wp2_with fail
  refine (all_any E _ _ (hE.below B_1) hk).mono ?_;rintro r w4 ⟨rfl, rfl⟩;rw [h3]
  go_wp2
  refine bodyPost_ret (v := .tuple #[.int .i64 0, .int .i64 0, .bool false]) (by simp [results, Tryz.results98, go_sem]) rfl ⟨?_, B_1⟩;rw [bansB, if_neg (by simp [bokB, viewB, h3])]
  rfl
 cases h4 : formB fn fm FC FD FK
 ·go_enter Tryz.func98, Tryz.ntmps98
  go_wp2_with fail
  refine (strt_any C D (hC.below B_0) (hD.below B_0) hn hm).mono ?_;rintro r w1 ⟨rfl, b_1⟩;rw [h0];have B_1 := btr B_0 b_1;have q_1 := q_0.below b_1;have f_1 := f_0.below b_1;clear B_0 f_0 q_0 b_1;obtain ⟨c_q0, c_q1⟩ := q_1.two;obtain ⟨c_f0, c_f1, c_f2⟩ := f_1.three
  go_wp2_with fail
  refine (sparts_any ss HN.out (hF.below B_1) hN1).mono ?_;rintro r w2 ⟨rfl, rfl⟩;rw [h1]
  go_wp2_with fail
  refine (in_any).mono ?_;rintro r w3 ⟨rfl, rfl⟩;rw [h2]
  go_wp2_with fail
  refine (all_any E _ _ (hE.below B_1) hk).mono ?_;rintro r w4 ⟨rfl, rfl⟩;rw [h3]
  go_wp2_with fail
  refine (sok_any FC FD (hA.below B_1) (hB.below B_1) hfn hfm).mono ?_;rintro r w5 ⟨rfl, b_5⟩;rw [h4];clear c_q0 c_q1 c_f0 c_f1 c_f2;have B_5 := btr B_1 b_5;have q_5 := q_1.below b_5;have f_5 := f_1.below b_5;clear B_1 f_1 q_1 b_5;obtain ⟨c_q0, c_q1⟩ := q_5.two;obtain ⟨c_f0, c_f1, c_f2⟩ := f_5.three
  go_wp2
  refine bodyPost_ret (v := .tuple #[.int .i64 0, .int .i64 0, .bool false]) (by simp [results, Tryz.results98, go_sem]) rfl ⟨?_, B_5⟩;rw [bansB, if_neg (by simp [bokB, viewB, h4])]
  rfl
 cases h5 : okN 2 9 l U
 ·go_enter Tryz.func98, Tryz.ntmps98
  go_wp2_with fail
  refine (strt_any C D (hC.below B_0) (hD.below B_0) hn hm).mono ?_;rintro r w1 ⟨rfl, b_1⟩;rw [h0];have B_1 := btr B_0 b_1;have q_1 := q_0.below b_1;have f_1 := f_0.below b_1;clear B_0 f_0 q_0 b_1;obtain ⟨c_q0, c_q1⟩ := q_1.two;obtain ⟨c_f0, c_f1, c_f2⟩ := f_1.three
  go_wp2_with fail
  refine (sparts_any ss HN.out (hF.below B_1) hN1).mono ?_;rintro r w2 ⟨rfl, rfl⟩;rw [h1]
  go_wp2_with fail
  refine (in_any).mono ?_;rintro r w3 ⟨rfl, rfl⟩;rw [h2]
  go_wp2_with fail
  refine (all_any E _ _ (hE.below B_1) hk).mono ?_;rintro r w4 ⟨rfl, rfl⟩;rw [h3]
  go_wp2_with fail
  refine (sok_any FC FD (hA.below B_1) (hB.below B_1) hfn hfm).mono ?_;rintro r w5 ⟨rfl, b_5⟩;rw [h4];clear c_q0 c_q1 c_f0 c_f1 c_f2;have B_5 := btr B_1 b_5;have q_5 := q_1.below b_5;have f_5 := f_1.below b_5;clear B_1 f_1 q_1 b_5;obtain ⟨c_q0, c_q1⟩ := q_5.two;obtain ⟨c_f0, c_f1, c_f2⟩ := f_5.three
  go_wp2_with fail
  refine (sarg_any U (hU.below B_5) hl).mono ?_;rintro r w6 ⟨rfl, rfl⟩;rw [h5]
  go_wp2
  refine bodyPost_ret (v := .tuple #[.int .i64 0, .int .i64 0, .bool false]) (by simp [results, Tryz.results98, go_sem]) rfl ⟨?_, B_5⟩;rw [bansB, if_neg (by simp [bokB, viewB, h5])]
  rfl
 have hv : viewB n m C D ss s k E = true := by simp [viewB, h0, h1, h2, h3]
 have hbo : bokB n m C D ss s k E fn fm FC FD FK l U = true := by simp [bokB, hv, h4, h5]
 obtain ⟨e1, bC, m1, m2, -, s0, s1, e2, bE, bD⟩ := viewB_elim hv;obtain ⟨e3, e4, bA, bB, K1, K2⟩ := formB_elim h4;obtain ⟨e5, bU⟩ := okN_elim (by omega) h5;have e6 : l = 2 := by omega
 clear e5;rw [bansB, if_pos hbo];subst e1 e2 e3 e4 e6;have H0 : Hid _ := h0;have H1 : Hid _ := h1;have H2 : Hid _ := h2;have H3 : Hid _ := h3;have H4 : Hid _ := h4;have H5 : Hid _ := h5;clear hv hbo h0 h1 h2 h3 h4 h5;have HZ : Hid ((List.zipWith (· + ·) C E).length = 3) := by show _ = _; rw [List.length_zipWith, hC.1, hE.1]; rfl
 have bV : bnd 30000 (List.zipWith (· + ·) C E) := fun i => by have := bnd_zip (by rw [hC.1, hE.1]) bC bE i; omega
 have ob := others_bnd (s := s) bD m (by rw [hD.1]; exact Nat.le_refl _) m2;have p1 := dot_bnd (bndP_of bA bV) 3;have p2 := dot_bnd (bndP_of bB bU) 2;obtain ⟨x, hx⟩ : ∃ x, x = bnds m C D ss s E FC FD FK U := ⟨_, rfl⟩
 rw [<- hx];have HV : Hid (bnd 30000 (List.zipWith (· + ·) C E)) := bV;have HCE : Hid (bnd 1000000000 C /\ bnd 1000000000 E) := ⟨fun i => by have := bC i; omega, fun i => by have := bE i; omega⟩
 obtain ⟨n, hn'⟩ : ∃ n, n = atV FC FD FK (List.zipWith (· + ·) C E) U := ⟨_, rfl⟩
 obtain ⟨o, ho⟩ : ∃ o, o = others D s m := ⟨_, rfl⟩
 have n1 : -10000000000000 <= n := by rw [hn']; unfold atV; omega
 have n2 : n <= 10000000000000 := by rw [hn']; unfold atV; omega
 rw [<- ho] at ob;rw [bnds, <- hn', <- ho] at hx;have HI : Hid _ := hx;have HNN : Hid _ := hn';have HO : Hid _ := ho;obtain ⟨o1, o2⟩ := ob;have o3 : o <= 150 := by omega
 have hw1 : IntKind.i64.wrap (n - o) = n - o := wrap_id (by omega) (by omega);have hw2 : IntKind.i64.wrap (n + o) = n + o := wrap_id (by omega) (by omega);have HW : Hid (IntKind.i64.wrap (n - o) = n - o /\ IntKind.i64.wrap (n + o) = n + o) := ⟨hw1, hw2⟩
 have bK : -10000000 <= FK /\ FK <= 10000000 := ⟨K1, K2⟩
 clear hx hn' ho o2 p1 p2 bV bD bC bE hw1 hw2
 go_enter Tryz.func98, Tryz.ntmps98
 go_wp2_with fail
 refine (strt_any C D (hC.below B_0) (hD.below B_0) hn hm).mono ?_;rintro r w1 ⟨rfl, b_1⟩;rw [H0.out];have B_1 := btr B_0 b_1;have q_1 := q_0.below b_1;have f_1 := f_0.below b_1;clear B_0 f_0 q_0 b_1;obtain ⟨c_q0, c_q1⟩ := q_1.two;obtain ⟨c_f0, c_f1, c_f2⟩ := f_1.three
 go_wp2_with fail
 refine (sparts_any ss HN.out (hF.below B_1) hN1).mono ?_;rintro r w2 ⟨rfl, rfl⟩;rw [H1.out]
 go_wp2_with fail
 refine (in_any).mono ?_;rintro r w3 ⟨rfl, rfl⟩;rw [H2.out]
 go_wp2_with fail
 refine (all_any E _ _ (hE.below B_1) hk).mono ?_;rintro r w4 ⟨rfl, rfl⟩;rw [H3.out]
 go_wp2_with fail
 refine (sok_any FC FD (hA.below B_1) (hB.below B_1) hfn hfm).mono ?_;rintro r w5 ⟨rfl, b_5⟩;rw [H4.out];clear c_q0 c_q1 c_f0 c_f1 c_f2;have B_5 := btr B_1 b_5;have q_5 := q_1.below b_5;have f_5 := f_1.below b_5;clear B_1 f_1 q_1 b_5;obtain ⟨c_q0, c_q1⟩ := q_5.two;obtain ⟨c_f0, c_f1, c_f2⟩ := f_5.three
 go_wp2_with fail
 refine (sarg_any U (hU.below B_5) hl).mono ?_;rintro r w6 ⟨rfl, rfl⟩;rw [H5.out];clear c_q0 c_q1 c_f0 c_f1 c_f2;have CC : Hid (∀ X : World, Cel X w.heap.size [.slice a 3 cap, .slice c m cap'] 59 -> Cel X (w.heap.size + 1) [.slice fa 3 fcap, .slice fc 2 fcap', .int .i64 FK] 106 -> X.cell? ⟨w.heap.size, 0, none⟩ = some (.slice a 3 cap) /\ X.cell? ⟨w.heap.size, 1, none⟩ = some (.slice c m cap') /\ X.cell? ⟨w.heap.size + 1, 0, none⟩ = some (.slice fa 3 fcap) /\ X.cell? ⟨w.heap.size + 1, 1, none⟩ = some (.slice fc 2 fcap') /\ X.cell? ⟨w.heap.size + 1, 2, none⟩ = some (.int .i64 FK)) := fun X h1 h2 => ⟨h1.cell 0, h1.cell 1, h2.cell 0, h2.cell 1, h2.cell 2⟩
 have hn0 := CC.out _ q_5 f_5
 go_upto_region 3 with fail
 go_region_held3 (fun w' => w'.cell? ⟨w.heap.size, 0, none⟩ = some (.slice a 3 cap) /\ w'.cell? ⟨w.heap.size, 1, none⟩ = some (.slice c m cap') /\ w'.cell? ⟨w.heap.size + 1, 0, none⟩ = some (.slice fa 3 fcap) /\ w'.cell? ⟨w.heap.size + 1, 1, none⟩ = some (.slice fc 2 fcap') /\ w'.cell? ⟨w.heap.size + 1, 2, none⟩ = some (.int .i64 FK)) (first | with_reducible assumption | exact hn0)
  (first
   | (go_at_call 100
      refine (sum5_any C E (by exact hC.below B_5.drew) (by exact hE.below B_5.drew) HCE.out.1 HCE.out.2).mono ?_;rintro ee y1 ⟨v, rfl, j⟩;obtain ⟨va, vc, rfl, iV⟩ := j.slice3 HZ.out;have x_1 := below_of_drew j.b;have X_1 := btr B_5 x_1;have qx_1 := q_5.below x_1;have fx_1 := f_5.below x_1
      have hn1 := CC.out y1 qx_1 fx_1)
   | (go_at_call 102
      refine (sat30_any _ _ _ _ _ FC FD _ _ _ _ (List.zipWith (· + ·) C E) U _ (by exact hA.below X_1) (by exact hB.below X_1) iV (by exact hU.below X_1) bA bB bK HV.out bU).mono ?_;rintro ee y2 ⟨rfl, x_2⟩;rw [<- HNN.out];have X_2 := btr X_1 x_2;have qx_2 := qx_1.below x_2;have fx_2 := fx_1.below x_2
      have hn2 := CC.out y2 qx_2 fx_2))
 clear hn0 hn1 iV j x_1 x_2 X_1 qx_1 fx_1 B_5 q_5 f_5;obtain ⟨k0, k1, k2, k3, k4⟩ := hn2
 go_wp2_with fail
 refine (spart_any FC (hA.below X_2) (by omega)).mono ?_;rintro r w21 ⟨pa, pcap, rfl, b_21, ip_21, -⟩;clear k0 k1 k2 k3 k4;have B_21 := btr X_2 b_21;have q_21 := qx_2.below b_21;have f_21 := fx_2.below b_21;clear X_2 fx_2 qx_2 b_21;obtain ⟨c_q0, c_q1⟩ := q_21.two;obtain ⟨c_f0, c_f1, c_f2⟩ := f_21.three
 go_wp2_with fail
 refine (szero_any).mono ?_;rintro r w22 ⟨Z1, Z2, rfl, b_22, -, -, -, kz_22, -⟩;clear c_q0 c_q1 c_f0 c_f1 c_f2;have B_22 := btr B_21 b_22;have q_22 := q_21.below b_22;have f_22 := f_21.below b_22;have ip_22 := ip_21.below b_22;clear B_21 f_21 ip_21 q_21 b_22;obtain ⟨c_q0, c_q1⟩ := q_22.two;obtain ⟨c_f0, c_f1, c_f2⟩ := f_22.three;have hfd := field_zero Z1 Z2
 go_wp2_with fail
 refine (l4same_any _ _ (partL FC) [0, 0, 0] ip_22 (show Ints _ _ 3 _ from kz_22.ints' rfl) (by omega) (by omega)).mono ?_;rintro r w23 ⟨rfl, b_23⟩;clear c_q0 c_q1 c_f0 c_f1 c_f2;have B_23 := btr B_22 b_23;have q_23 := q_22.below b_23;have f_23 := f_22.below b_23;have ip_23 := ip_22.below b_23;clear B_22 f_22 ip_22 kz_22 q_22 b_23;obtain ⟨c_q0, c_q1⟩ := q_23.two;obtain ⟨c_f0, c_f1, c_f2⟩ := f_23.three;clear hfd
 cases hz : eqB (partL FC) [0, 0, 0]
 ·go_wp2_with fail
  refine (shas_any _ _ ss _ (partL FC) HN.out (hF.below B_23) hN1 ip_23).mono ?_;rintro r w24 ⟨rfl, b_24⟩;clear c_q0 c_q1 c_f0 c_f1 c_f2;have B_24 := btr B_23 b_24;have q_24 := q_23.below b_24;have f_24 := f_23.below b_24;clear B_23 f_23 ip_23 q_23 b_24;obtain ⟨c_q0, c_q1⟩ := q_24.two;obtain ⟨c_f0, c_f1, c_f2⟩ := f_24.three
  by_cases hh : hasI ss (partL FC) < 0
  ·have X : x = (0, 0, false) := by rw [HI.out, hz, if_neg (by decide), if_pos hh]
   have HX2 : Hid _ := X;clear X
   go_wp2
   refine bodyPost_ret (v := .tuple #[.int .i64 0, .int .i64 0, .bool false]) (by simp [results, Tryz.results98, go_sem]) rfl ⟨by rw [HX2.out]; rfl, B_24⟩
  have X : x = (n - o, n + o, true) := by rw [HI.out, hz, if_neg (by decide), if_neg hh]
  have HX2 : Hid _ := X;clear X;clear c_q0 c_q1 c_f0 c_f1 c_f2;have hn0 := CC.out _ q_24 f_24
  go_upto_region 9 with fail
  go_region_held3 (fun w' => w'.cell? ⟨w.heap.size, 0, none⟩ = some (.slice a 3 cap) /\ w'.cell? ⟨w.heap.size, 1, none⟩ = some (.slice c m cap') /\ w'.cell? ⟨w.heap.size + 1, 0, none⟩ = some (.slice fa 3 fcap) /\ w'.cell? ⟨w.heap.size + 1, 1, none⟩ = some (.slice fc 2 fcap') /\ w'.cell? ⟨w.heap.size + 1, 2, none⟩ = some (.int .i64 FK)) (first | with_reducible assumption | exact hn0)
   (first
    | (go_at_call 137
       refine (sothers_any D s (by exact hD.below Z_1)).mono ?_;rintro ee y4 ⟨rfl, z_2⟩;rw [<- HO.out];have Z_2 := btr Z_1 z_2
       have hn4 := CC.out y4 (qz_1.below z_2) (fz_1.below z_2))
    | (go_at_call 137
       refine (sothers_any D s (by exact hD.below B_24.drew)).mono ?_;rintro ee y3 ⟨rfl, zd_1⟩;rw [<- HO.out];have z_1 := below_of_drew zd_1;have Z_1 := btr B_24 z_1;have qz_1 := q_24.below z_1;have fz_1 := f_24.below z_1
       have hn3 := CC.out y3 qz_1 fz_1))
  rw [HW.out.1, HW.out.2]
  go_wp2
  refine bodyPost_ret (v := .tuple #[.int .i64 (n - o), .int .i64 (n + o), .bool true]) (by simp [results, Tryz.results98, go_sem]) rfl ⟨by rw [HX2.out]; rfl, Z_2⟩
 have X : x = (n, n, true) := by rw [HI.out, hz, if_pos rfl]
 have HX2 : Hid _ := X;clear X
 go_wp2
 refine bodyPost_ret (v := .tuple #[.int .i64 n, .int .i64 n, .bool true]) (by simp [results, Tryz.results98, go_sem]) rfl ⟨by rw [HX2.out]; rfl, B_23⟩
end Go.Proofs.YtfmpcihghlnlnaaGreatDoor
