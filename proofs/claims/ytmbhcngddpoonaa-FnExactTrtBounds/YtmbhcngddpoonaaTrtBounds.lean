/-
  For every treaty, slice of slices of ints, number, slice of ints, form and slice of ints FnExactTrtBounds returns true, and all read behind the call as they did. No condition.
-/
import Derived.Test.YtmbhcngddpoonaaBoundsI
import Derived.Test.YtmbhcngddpoonaaBoundsS
namespace Go.Proofs.Ytmbhcngddpoonaa.fnExactTrtBounds
open Go.ChangeShapes Go.WideShapes Go.ChangeAt Go.RowKit Go.Deep
set_option linter.unusedVariables false

theorem _root_.Go.Proofs.Ytmbhcngddpoonaa.MI.alloc {W : World} {B N : Nat} {ts : List IV} (h : MI W B N ts) (o : Obj) : MI (W.alloc o) B N ts := h.below ((Below.refl _ _).alloc (Nat.le_refl _) _)

set_option maxRecDepth 100000 in
set_option maxHeartbeats 12800000 in
theorem walk (w : World) (a : Option Addr) (n cap : Nat) (c : Option Addr) (m cap' : Nat) (C D : List Int) (hC : Ints w a n C) (hD : Ints w c m D) (hn : n ≤ maxLen) (hm : m ≤ maxLen) (ad : Option Addr) (N pc : Nat) (ss : List IV) (hl : ss.length = N) (hM : ISM w ad ss) (hN1 : N ≤ maxLen) (s : Int) (ws : (Lit.int .i64 s).wf = true) (e : Option Addr) (k ec : Nat) (E : List Int) (hE : Ints w e k E) (hk1 : k ≤ maxLen)
    (fa : Option Addr) (fn fcap : Nat) (fc : Option Addr) (fm fcap' : Nat) (FK : Int) (FC FD : List Int) (hA : Ints w fa fn FC) (hB : Ints w fc fm FD) (hfn : fn ≤ maxLen) (hfm : fm ≤ maxLen) (wK : (Lit.int .i64 FK).wf = true) (u : Option Addr) (l uc : Nat) (U : List Int) (hU : Ints w u l U) (hl1 : l ≤ maxLen) :
    Calls Try.prog 7 #[treV a n cap c m cap', .slice ad N pc, .int .i64 s, .slice e k ec, formV fa fn fcap fc fm fcap' FK, .slice u l uc] w fun r w' => r = .returned (.bool true) ∧ Below w.heap.size w w' := by
  have HN : Hid (ss.length = N) := hl
  have HE : Hid (E.length = k) := hE.1
  have HC : Hid (C.length = n) := hC.1
  have HD : Hid (D.length = m) := hD.1
  have HA : Hid (FC.length = fn) := hA.1
  have HB : Hid (FD.length = fm) := hB.1
  have HU : Hid (U.length = l) := hU.1
  clear hl
  have hk2 := hk1
  unfold maxLen at hk2
  have hl2 := hl1
  unfold maxLen at hl2
  have q_0 := (Cel.new w [.slice a n cap, .slice c m cap'] 24).alloc (.cells #[.slice fa fn fcap, .slice fc fm fcap', .int .i64 FK] 44)
  have f_0 := Cel.new (w.alloc (.cells #[.slice a n cap, .slice c m cap'] 24)) [.slice fa fn fcap, .slice fc fm fcap', .int .i64 FK] 44
  have B_0 := ((Below.refl w.heap.size w).alloc (Nat.le_refl _) (.cells #[.slice a n cap, .slice c m cap'] 24)).alloc (by simp) (.cells #[.slice fa fn fcap, .slice fc fm fcap', .int .i64 FK] 44)
  rw [World.size_alloc] at f_0
  by_cases hk0 : 1048576 < k
  · go_enter Try.func7, Try.ntmps7
    go_wp2
    go_ret
    exact ⟨rfl, B_0⟩
  by_cases hl0 : 1048576 < l
  · go_enter Try.func7, Try.ntmps7
    go_wp2
    go_ret
    exact ⟨rfl, B_0⟩
  have hk : k ≤ 1048576 := by omega
  have hl : l ≤ 1048576 := by omega
  clear hk0 hk1 hk2 hl0 hl1 hl2
  have g1 := leftOf_ge 1048576 n
  have g2 := leftOf_ge (leftOf 1048576 n) m
  by_cases h : leftOf (leftOf 1048576 n) m < 0
  · go_enter Try.func7, Try.ntmps7
    go_wp2_with fail
    refine (szT_any _ _ _ _ _ _ _ _ hn hm (by omega) (by omega)).mono ?_
    rintro r w1 ⟨rfl, b1⟩
    go_wp2
    go_ret
    exact ⟨rfl, B_0.trans (b1.mono B_0.size)⟩
  have l2 := leftOf_le (l := leftOf 1048576 n) (n := m) (by omega)
  have l1 := leftOf_le (l := 1048576) (n := n) (by omega)
  have hn1 : n ≤ 1048576 := by omega
  have hm1 : m ≤ 1048576 := by omega
  have h' : 0 ≤ leftOf (leftOf 1048576 n) m := by omega
  have h'' : leftOf (leftOf 1048576 n) m ≤ 1048576 := by omega
  obtain ⟨x, hx⟩ : ∃ x, x = leftOf (leftOf 1048576 n) m := ⟨_, rfl⟩
  have HX : Hid _ := hx
  rw [← hx] at h' h''
  clear l1 l2 g1 g2 h hx
  obtain ⟨v, hv⟩ : ∃ v, v = bansB n m C D ss s k E fn fm FC FD FK l U := ⟨_, rfl⟩
  have HS : Hid (∀ ts : List IV, ts.length = N → copiesIS ss ts → bansB n m C D ts s k E fn fm FC FD FK l U = v) := fun ts h1 h2 => by rw [hv, bansB_copy (by rw [h1, HN.out]) h2]
  clear hv
  obtain ⟨v0, v1, v2⟩ := v
  go_enter Try.func7, Try.ntmps7
  go_wp2_with fail
  refine (szT_any _ _ _ _ _ _ _ _ hn hm (by omega) (by omega)).mono ?_
  rintro r w1 ⟨rfl, b_1⟩
  rw [← HX.out]
  have B_1 := B_0.trans (b_1.mono B_0.size)
  have q_1 := q_0.below b_1
  have f_1 := f_0.below b_1
  clear B_0 f_0 q_0 b_1
  obtain ⟨c_q0, c_q1⟩ := q_1.two
  obtain ⟨c_f0, c_f1, c_f2⟩ := f_1.three
  go_wp2_with fail
  refine (szIS_any _ _ _ ss _ _ HN.out (hM.below B_1) hN1 h' h'').mono ?_
  rintro r w2 ⟨y, rfl, p1, q1, s1, b_2⟩
  clear c_q0 c_q1 c_f0 c_f1 c_f2
  have B_2 := B_1.trans (b_2.mono B_1.size)
  have q_2 := q_1.below b_2
  have f_2 := f_1.below b_2
  clear B_1 f_1 q_1 b_2
  obtain ⟨c_q0, c_q1⟩ := q_2.two
  obtain ⟨c_f0, c_f1, c_f2⟩ := f_2.three
  by_cases hr : y < 0
  · go_wp2
    go_ret
    exact ⟨rfl, B_2⟩
  have hr' : 0 ≤ y := by omega
  obtain ⟨hN, hsz⟩ := s1 hr'
  have hF := hM.g hsz
  clear hM s1 hsz p1 hr
  have g1 := leftOf_ge y fn
  have g2 := leftOf_ge (leftOf y fn) fm
  by_cases hr2 : leftOf (leftOf y fn) fm < 0
  · go_wp2_with fail
    refine (szF_any _ _ _ _ _ _ _ _ _ hfn hfm hr' q1).mono ?_
    rintro r w3 ⟨rfl, b_3⟩
    clear c_q0 c_q1 c_f0 c_f1 c_f2
    have B_3 := B_2.trans (b_3.mono B_2.size)
    have q_3 := q_2.below b_3
    have f_3 := f_2.below b_3
    clear B_2 f_2 q_2 b_3
    obtain ⟨c_q0, c_q1⟩ := q_3.two
    obtain ⟨c_f0, c_f1, c_f2⟩ := f_3.three
    go_wp2
    go_ret
    exact ⟨rfl, B_3⟩
  have l2 := leftOf_le (l := leftOf y fn) (n := fm) (by omega)
  have l1 := leftOf_le (l := y) (n := fn) (by omega)
  have hfn1 : fn ≤ 1048576 := by omega
  have hfm1 : fm ≤ 1048576 := by omega
  have hy3 : 0 ≤ leftOf (leftOf y fn) fm := by omega
  clear l1 l2 g1 g2 hr2
  go_wp2_with fail
  refine (szF_any _ _ _ _ _ _ _ _ _ hfn hfm hr' q1).mono ?_
  rintro r w3 ⟨rfl, b_3⟩
  clear c_q0 c_q1 c_f0 c_f1 c_f2
  have B_3 := B_2.trans (b_3.mono B_2.size)
  have q_3 := q_2.below b_3
  have f_3 := f_2.below b_3
  clear B_2 f_2 q_2 b_3
  obtain ⟨c_q0, c_q1⟩ := q_3.two
  obtain ⟨c_f0, c_f1, c_f2⟩ := f_3.three
  clear c_q0 c_q1 c_f0 c_f1 c_f2
  have hn0 : w3.cell? ⟨w.heap.size, 0, none⟩ = some (.slice a n cap) ∧ w3.cell? ⟨w.heap.size, 1, none⟩ = some (.slice c m cap') ∧ w3.cell? ⟨w.heap.size + 1, 0, none⟩ = some (.slice fa fn fcap) ∧ w3.cell? ⟨w.heap.size + 1, 1, none⟩ = some (.slice fc fm fcap') ∧ w3.cell? ⟨w.heap.size + 1, 2, none⟩ = some (.int .i64 FK) := ⟨q_3.cell 0, q_3.cell 1, f_3.cell 0, f_3.cell 1, f_3.cell 2⟩
  go_upto_region 15 with fail
  go_region_held3 (fun w' => w'.cell? ⟨w.heap.size, 0, none⟩ = some (.slice a n cap) ∧ w'.cell? ⟨w.heap.size, 1, none⟩ = some (.slice c m cap') ∧ w'.cell? ⟨w.heap.size + 1, 0, none⟩ = some (.slice fa fn fcap) ∧ w'.cell? ⟨w.heap.size + 1, 1, none⟩ = some (.slice fc fm fcap') ∧ w'.cell? ⟨w.heap.size + 1, 2, none⟩ = some (.int .i64 FK)) (first | with_reducible assumption | exact hn0)
    (first
      | (go_at_call 11
         refine (toT_any _ _ _ _ _ _ C D _ (by exact hC.below (Below.drew B_3)) (by exact hD.below (Below.drew B_3)) hn1 hm1).mono ?_
         rintro ee w4 ⟨P11, P21, rfl, bd_4, -, -, kc_4, kd_4⟩
         have b_4 := below_of_drew bd_4
         have B_4 := B_3.trans (b_4.mono B_3.size)
         have q_4 := q_3.below b_4
         have f_4 := f_3.below b_4
         have hn4_ : w4.cell? ⟨w.heap.size, 0, none⟩ = some (.slice a n cap) ∧ w4.cell? ⟨w.heap.size, 1, none⟩ = some (.slice c m cap') ∧ w4.cell? ⟨w.heap.size + 1, 0, none⟩ = some (.slice fa fn fcap) ∧ w4.cell? ⟨w.heap.size + 1, 1, none⟩ = some (.slice fc fm fcap') ∧ w4.cell? ⟨w.heap.size + 1, 2, none⟩ = some (.int .i64 FK) := ⟨q_4.cell 0, q_4.cell 1, f_4.cell 0, f_4.cell 1, f_4.cell 2⟩)
      | (go_at_call 18
         refine (toIS_any _ _ _ ss _ HN.out (by exact hF.below B_4) hN).mono ?_
         rintro ee w5 ⟨ts1, rfl, hg1, hc1, b_5, mi_5⟩
         have B_5 := B_4.trans (b_5.mono B_4.size)
         have q_5 := q_4.below b_5
         have f_5 := f_4.below b_5
         have kc_5 := kc_4.below b_5
         have kd_5 := kd_4.below b_5
         have hn5_ : w5.cell? ⟨w.heap.size, 0, none⟩ = some (.slice a n cap) ∧ w5.cell? ⟨w.heap.size, 1, none⟩ = some (.slice c m cap') ∧ w5.cell? ⟨w.heap.size + 1, 0, none⟩ = some (.slice fa fn fcap) ∧ w5.cell? ⟨w.heap.size + 1, 1, none⟩ = some (.slice fc fm fcap') ∧ w5.cell? ⟨w.heap.size + 1, 2, none⟩ = some (.int .i64 FK) := ⟨q_5.cell 0, q_5.cell 1, f_5.cell 0, f_5.cell 1, f_5.cell 2⟩)
      | (go_at_call_of 19 (Value.slice e k ec)
         refine (to_any _ _ _ E _ (by exact hE.below B_5) hk).mono ?_
         rintro ee w6 ⟨rfl, b_6, ke_6⟩
         have B_6 := B_5.trans (b_6.mono B_5.size)
         have q_6 := q_5.below b_6
         have f_6 := f_5.below b_6
         have kc_6 := kc_5.below b_6
         have kd_6 := kd_5.below b_6
         have mi_6 := mi_5.below b_6
         have hn6_ : w6.cell? ⟨w.heap.size, 0, none⟩ = some (.slice a n cap) ∧ w6.cell? ⟨w.heap.size, 1, none⟩ = some (.slice c m cap') ∧ w6.cell? ⟨w.heap.size + 1, 0, none⟩ = some (.slice fa fn fcap) ∧ w6.cell? ⟨w.heap.size + 1, 1, none⟩ = some (.slice fc fm fcap') ∧ w6.cell? ⟨w.heap.size + 1, 2, none⟩ = some (.int .i64 FK) := ⟨q_6.cell 0, q_6.cell 1, f_6.cell 0, f_6.cell 1, f_6.cell 2⟩)
      | (go_at_call 27
         refine (toF_any _ _ _ _ _ _ _ FC FD _ (by exact hA.below B_6) (by exact hB.below B_6) hfn1 hfm1).mono ?_
         rintro ee w7 ⟨F11, F21, rfl, b_7, -, -, ka_7, kb_7⟩
         have B_7 := B_6.trans (b_7.mono B_6.size)
         have q_7 := q_6.below b_7
         have f_7 := f_6.below b_7
         have kc_7 := kc_6.below b_7
         have kd_7 := kd_6.below b_7
         have mi_7 := mi_6.below b_7
         have ke_7 := ke_6.below b_7
         have hn7_ : w7.cell? ⟨w.heap.size, 0, none⟩ = some (.slice a n cap) ∧ w7.cell? ⟨w.heap.size, 1, none⟩ = some (.slice c m cap') ∧ w7.cell? ⟨w.heap.size + 1, 0, none⟩ = some (.slice fa fn fcap) ∧ w7.cell? ⟨w.heap.size + 1, 1, none⟩ = some (.slice fc fm fcap') ∧ w7.cell? ⟨w.heap.size + 1, 2, none⟩ = some (.int .i64 FK) := ⟨q_7.cell 0, q_7.cell 1, f_7.cell 0, f_7.cell 1, f_7.cell 2⟩)
      | (go_at_call_of 19 (Value.slice u l uc)
         refine (to_any _ _ _ U _ (by exact hU.below B_7) hl).mono ?_
         rintro ee w8 ⟨rfl, b_8, ku_8⟩
         have B_8 := B_7.trans (b_8.mono B_7.size)
         have q_8 := q_7.below b_8
         have f_8 := f_7.below b_8
         have kc_8 := kc_7.below b_8
         have kd_8 := kd_7.below b_8
         have mi_8 := mi_7.below b_8
         have ke_8 := ke_7.below b_8
         have ka_8 := ka_7.below b_8
         have kb_8 := kb_7.below b_8
         have hn8_ : w8.cell? ⟨w.heap.size, 0, none⟩ = some (.slice a n cap) ∧ w8.cell? ⟨w.heap.size, 1, none⟩ = some (.slice c m cap') ∧ w8.cell? ⟨w.heap.size + 1, 0, none⟩ = some (.slice fa fn fcap) ∧ w8.cell? ⟨w.heap.size + 1, 1, none⟩ = some (.slice fc fm fcap') ∧ w8.cell? ⟨w.heap.size + 1, 2, none⟩ = some (.int .i64 FK) := ⟨q_8.cell 0, q_8.cell 1, f_8.cell 0, f_8.cell 1, f_8.cell 2⟩)
      | (go_at_call 26
         refine (sbounds_any _ _ _ _ _ _ _ _ _ _ _ _ _ _ _ _ _ _ _ _ _ _ _ C D E FC FD U ts1 _ (kc_8.ints' HC.out) (kd_8.ints' HD.out) (ke_8.ints' HE.out) (ka_8.ints' HA.out) (kb_8.ints' HB.out) (ku_8.ints' HU.out) hg1 mi_8.g hn1 hm1 hk hfn1 hfm1 hl hN).mono ?_
         rintro ee w9 ⟨rfl, b_9⟩
         rw [HS.out ts1 hg1 hc1, ansV]
         have B_9 := B_8.trans (b_9.mono B_8.size)
         have q_9 := q_8.below b_9
         have f_9 := f_8.below b_9
         have hn9_ : w9.cell? ⟨w.heap.size, 0, none⟩ = some (.slice a n cap) ∧ w9.cell? ⟨w.heap.size, 1, none⟩ = some (.slice c m cap') ∧ w9.cell? ⟨w.heap.size + 1, 0, none⟩ = some (.slice fa fn fcap) ∧ w9.cell? ⟨w.heap.size + 1, 1, none⟩ = some (.slice fc fm fcap') ∧ w9.cell? ⟨w.heap.size + 1, 2, none⟩ = some (.int .i64 FK) := ⟨q_9.cell 0, q_9.cell 1, f_9.cell 0, f_9.cell 1, f_9.cell 2⟩))
  clear hn0 hn4_ hn5_ hn6_ hn7_ hn8_ hn9_ B_3 B_4 B_5 B_6 B_7 B_8 b_4 b_5 b_6 b_7 b_8 b_9 bd_4 f_3 f_4 f_5 f_6 f_7 f_8 ka_7 ka_8 kb_7 kb_8 kc_4 kc_5 kc_6 kc_7 kc_8 kd_4 kd_5 kd_6 kd_7 kd_8 ke_6 ke_7 ke_8 ku_8 mi_5 mi_6 mi_7 mi_8 q_3 q_4 q_5 q_6 q_7 q_8
  obtain ⟨c_q0, c_q1⟩ := q_9.two
  obtain ⟨c_f0, c_f1, c_f2⟩ := f_9.three
  clear hg1 hc1
  clear ts1
  go_wp2_with fail
  refine (toT_any _ _ _ _ _ _ C D _ (hC.below B_9) (hD.below B_9) hn1 hm1).mono ?_
  rintro r w10 ⟨P12, P22, rfl, b_10, -, -, kc_10, kd_10⟩
  clear c_q0 c_q1 c_f0 c_f1 c_f2
  have B_10 := B_9.trans (b_10.mono B_9.size)
  have q_10 := q_9.below b_10
  have f_10 := f_9.below b_10
  clear B_9 f_9 q_9 b_10
  obtain ⟨c_q0, c_q1⟩ := q_10.two
  obtain ⟨c_f0, c_f1, c_f2⟩ := f_10.three
  go_wp2_with fail
  refine (toIS_any _ _ _ ss _ HN.out (hF.below (B_10.alloc B_10.size _)) hN).mono ?_
  rintro r w11 ⟨ts2, rfl, hg2, hc2, b_11, mi_11⟩
  clear c_q0 c_q1 c_f0 c_f1 c_f2
  have B_11 := (B_10.alloc B_10.size _).trans (b_11.mono (B_10.alloc B_10.size _).size)
  have q_11 := (q_10.alloc _).below b_11
  have f_11 := (f_10.alloc _).below b_11
  have kc_11 := (kc_10.alloc _).below b_11
  have kd_11 := (kd_10.alloc _).below b_11
  have xb_11 := (Cel.new w10 _ _).below b_11
  clear B_10 f_10 kc_10 kd_10 q_10 b_11
  obtain ⟨c_q0, c_q1⟩ := q_11.two
  obtain ⟨c_f0, c_f1, c_f2⟩ := f_11.three
  obtain ⟨c_xb0, c_xb1⟩ := xb_11.two
  rw [World.size_alloc] at mi_11
  go_wp2_with fail
  refine (to_any _ _ _ E _ (hE.below B_11) hk).mono ?_
  rintro r w12 ⟨rfl, b_12, ke_12⟩
  clear c_q0 c_q1 c_f0 c_f1 c_f2 c_xb0 c_xb1
  have B_12 := B_11.trans (b_12.mono B_11.size)
  have q_12 := q_11.below b_12
  have f_12 := f_11.below b_12
  have kc_12 := kc_11.below b_12
  have kd_12 := kd_11.below b_12
  have xb_12 := xb_11.below b_12
  have mi_12 := mi_11.below b_12
  clear B_11 f_11 kc_11 kd_11 mi_11 q_11 xb_11 b_12
  obtain ⟨c_q0, c_q1⟩ := q_12.two
  obtain ⟨c_f0, c_f1, c_f2⟩ := f_12.three
  obtain ⟨c_xb0, c_xb1⟩ := xb_12.two
  go_wp2_with fail
  refine (toF_any _ _ _ _ _ _ _ FC FD _ (hA.below B_12) (hB.below B_12) hfn1 hfm1).mono ?_
  rintro r w13 ⟨F12, F22, rfl, b_13, -, -, ka_13, kb_13⟩
  clear c_q0 c_q1 c_f0 c_f1 c_f2 c_xb0 c_xb1
  have B_13 := B_12.trans (b_13.mono B_12.size)
  have q_13 := q_12.below b_13
  have f_13 := f_12.below b_13
  have kc_13 := kc_12.below b_13
  have kd_13 := kd_12.below b_13
  have xb_13 := xb_12.below b_13
  have mi_13 := mi_12.below b_13
  have ke_13 := ke_12.below b_13
  clear B_12 f_12 kc_12 kd_12 ke_12 mi_12 q_12 xb_12 b_13
  obtain ⟨c_q0, c_q1⟩ := q_13.two
  obtain ⟨c_f0, c_f1, c_f2⟩ := f_13.three
  obtain ⟨c_xb0, c_xb1⟩ := xb_13.two
  go_wp2_with fail
  refine (to_any _ _ _ U _ (hU.below (B_13.alloc B_13.size _)) hl).mono ?_
  rintro r w14 ⟨rfl, b_14, ku_14⟩
  clear c_q0 c_q1 c_f0 c_f1 c_f2 c_xb0 c_xb1
  have B_14 := (B_13.alloc B_13.size _).trans (b_14.mono (B_13.alloc B_13.size _).size)
  have q_14 := (q_13.alloc _).below b_14
  have f_14 := (f_13.alloc _).below b_14
  have kc_14 := (kc_13.alloc _).below b_14
  have kd_14 := (kd_13.alloc _).below b_14
  have xb_14 := (xb_13.alloc _).below b_14
  have mi_14 := (mi_13.alloc _).below b_14
  have ke_14 := (ke_13.alloc _).below b_14
  have ka_14 := (ka_13.alloc _).below b_14
  have kb_14 := (kb_13.alloc _).below b_14
  have yb_14 := (Cel.new w13 _ _).below b_14
  clear B_13 f_13 ka_13 kb_13 kc_13 kd_13 ke_13 mi_13 q_13 xb_13 b_14
  obtain ⟨c_q0, c_q1⟩ := q_14.two
  obtain ⟨c_f0, c_f1, c_f2⟩ := f_14.three
  obtain ⟨c_xb0, c_xb1⟩ := xb_14.two
  obtain ⟨c_yb0, c_yb1, c_yb2⟩ := yb_14.three
  rw [World.size_alloc] at ku_14
  have HG : Hid _ := hg2
  have HC2 : Hid _ := hc2
  clear hg2 hc2
  go_wp2_with fail
  refine (ibounds_any _ _ _ _ _ _ _ _ _ _ _ _ _ _ _ _ _ _ _ _ _ _ _ C D E FC FD U ts2 _ (kc_14.ints' HC.out) (kd_14.ints' HD.out) (ke_14.ints' HE.out) (ka_14.ints' HA.out) (kb_14.ints' HB.out) (ku_14.ints' HU.out) HG.out mi_14.g hn1 hm1 hk hfn1 hfm1 hl hN).mono ?_
  rintro r w15 ⟨rfl, b_15⟩
  rw [HS.out ts2 HG.out HC2.out, ansV]
  clear c_q0 c_q1 c_f0 c_f1 c_f2 c_xb0 c_xb1 c_yb0 c_yb1 c_yb2
  have B_15 := B_14.trans (b_15.mono B_14.size)
  have q_15 := q_14.below b_15
  have f_15 := f_14.below b_15
  have kc_15 := kc_14.below b_15
  have kd_15 := kd_14.below b_15
  have xb_15 := xb_14.below b_15
  have mi_15 := mi_14.below b_15
  have ke_15 := ke_14.below b_15
  have ka_15 := ka_14.below b_15
  have kb_15 := kb_14.below b_15
  have yb_15 := yb_14.below b_15
  have ku_15 := ku_14.below b_15
  clear B_14 f_14 ka_14 kb_14 kc_14 kd_14 ke_14 ku_14 mi_14 q_14 xb_14 yb_14 b_15
  obtain ⟨c_q0, c_q1⟩ := q_15.two
  obtain ⟨c_f0, c_f1, c_f2⟩ := f_15.three
  obtain ⟨c_xb0, c_xb1⟩ := xb_15.two
  obtain ⟨c_yb0, c_yb1, c_yb2⟩ := yb_15.three
  clear c_q0 c_q1 c_f0 c_f1 c_f2 c_xb0 c_xb1 c_yb0 c_yb1 c_yb2
  have hn0 : w15.cell? ⟨w.heap.size, 0, none⟩ = some (.slice a n cap) ∧ w15.cell? ⟨w.heap.size, 1, none⟩ = some (.slice c m cap') ∧ w15.cell? ⟨w10.heap.size, 0, none⟩ = some (.slice (some ⟨P12, 0, none⟩) n n) ∧ w15.cell? ⟨w10.heap.size, 1, none⟩ = some (.slice (some ⟨P22, 0, none⟩) m m) := ⟨q_15.cell 0, q_15.cell 1, xb_15.cell 0, xb_15.cell 1⟩
  have hv0 : (v0 != v0) = false := by simp
  have hv1 : (v1 != v1) = false := by simp
  have hv2 : (v2 != v2) = false := by simp
  go_upto_region 24 with fail
  go_region_held3 (fun w' => w'.cell? ⟨w.heap.size, 0, none⟩ = some (.slice a n cap) ∧ w'.cell? ⟨w.heap.size, 1, none⟩ = some (.slice c m cap') ∧ w'.cell? ⟨w10.heap.size, 0, none⟩ = some (.slice (some ⟨P12, 0, none⟩) n n) ∧ w'.cell? ⟨w10.heap.size, 1, none⟩ = some (.slice (some ⟨P22, 0, none⟩) m m)) (first | with_reducible assumption | exact hn0)
    (first
      | (go_at_call 11
         refine (toT_any _ _ _ _ _ _ C D _ (by exact hC.below (Below.drew B_15)) (by exact hD.below (Below.drew B_15)) hn1 hm1).mono ?_
         rintro ee w16 ⟨Y1, Y2, rfl, bd_16, -, -, ky_16, kz_16⟩
         have b_16 := below_of_drew bd_16
         have B_16 := B_15.trans (b_16.mono B_15.size)
         have q_16 := q_15.below b_16
         have f_16 := f_15.below b_16
         have kc_16 := kc_15.below b_16
         have kd_16 := kd_15.below b_16
         have xb_16 := xb_15.below b_16
         have mi_16 := mi_15.below b_16
         have ke_16 := ke_15.below b_16
         have ka_16 := ka_15.below b_16
         have kb_16 := kb_15.below b_16
         have yb_16 := yb_15.below b_16
         have ku_16 := ku_15.below b_16
         have hn16_ : w16.cell? ⟨w.heap.size, 0, none⟩ = some (.slice a n cap) ∧ w16.cell? ⟨w.heap.size, 1, none⟩ = some (.slice c m cap') ∧ w16.cell? ⟨w10.heap.size, 0, none⟩ = some (.slice (some ⟨P12, 0, none⟩) n n) ∧ w16.cell? ⟨w10.heap.size, 1, none⟩ = some (.slice (some ⟨P22, 0, none⟩) m m) := ⟨q_16.cell 0, q_16.cell 1, xb_16.cell 0, xb_16.cell 1⟩)
      | (go_at_call 13
         refine (eqT_same _ _ _ _ _ _ C D _ _ _ _ _ (by exact kc_16.ints' HC.out) (by exact kd_16.ints' HD.out) (by exact ky_16.ints' HC.out) (by exact kz_16.ints' HD.out) hn1 hm1).mono ?_
         rintro ee w17 ⟨rfl, b_17⟩
         have B_17 := B_16.trans (b_17.mono B_16.size)
         have q_17 := q_16.below b_17
         have f_17 := f_16.below b_17
         have xb_17 := xb_16.below b_17
         have mi_17 := mi_16.below b_17
         have ke_17 := ke_16.below b_17
         have ka_17 := ka_16.below b_17
         have kb_17 := kb_16.below b_17
         have yb_17 := yb_16.below b_17
         have ku_17 := ku_16.below b_17
         have hn17_ : w17.cell? ⟨w.heap.size, 0, none⟩ = some (.slice a n cap) ∧ w17.cell? ⟨w.heap.size, 1, none⟩ = some (.slice c m cap') ∧ w17.cell? ⟨w10.heap.size, 0, none⟩ = some (.slice (some ⟨P12, 0, none⟩) n n) ∧ w17.cell? ⟨w10.heap.size, 1, none⟩ = some (.slice (some ⟨P22, 0, none⟩) m m) := ⟨q_17.cell 0, q_17.cell 1, xb_17.cell 0, xb_17.cell 1⟩))
  clear hn0 hn16_ hn17_ B_15 B_16 b_16 b_17 bd_16 f_15 f_16 ka_15 ka_16 kb_15 kb_16 kc_15 kc_16 kd_15 kd_16 ke_15 ke_16 ku_15 ku_16 ky_16 kz_16 mi_15 mi_16 q_15 q_16 q_17 xb_15 xb_16 xb_17 yb_15 yb_16
  obtain ⟨c_f0, c_f1, c_f2⟩ := f_17.three
  obtain ⟨c_yb0, c_yb1, c_yb2⟩ := yb_17.three
  go_wp2_with fail
  refine (toIS_any _ _ _ ss _ HN.out (hF.below B_17) hN).mono ?_
  rintro r w18 ⟨us, rfl, hg3, hc3, b_18, mu_18⟩
  clear c_f0 c_f1 c_f2 c_yb0 c_yb1 c_yb2
  have B_18 := B_17.trans (b_18.mono B_17.size)
  have f_18 := f_17.below b_18
  have mi_18 := mi_17.below b_18
  have ke_18 := ke_17.below b_18
  have ka_18 := ka_17.below b_18
  have kb_18 := kb_17.below b_18
  have yb_18 := yb_17.below b_18
  have ku_18 := ku_17.below b_18
  clear B_17 f_17 ka_17 kb_17 ke_17 ku_17 mi_17 yb_17 b_18
  obtain ⟨c_f0, c_f1, c_f2⟩ := f_18.three
  obtain ⟨c_yb0, c_yb1, c_yb2⟩ := yb_18.three
  go_wp2_with fail
  refine (eqIS_same _ _ _ _ _ ts2 us _ HG.out hg3 mi_18.g mu_18.g hN (copies_sameI HG.out hg3 HC2.out hc3)).mono ?_
  rintro r w19 ⟨rfl, b_19⟩
  clear c_f0 c_f1 c_f2 c_yb0 c_yb1 c_yb2
  have B_19 := B_18.trans (b_19.mono B_18.size)
  have f_19 := f_18.below b_19
  have ke_19 := ke_18.below b_19
  have ka_19 := ka_18.below b_19
  have kb_19 := kb_18.below b_19
  have yb_19 := yb_18.below b_19
  have ku_19 := ku_18.below b_19
  clear B_18 f_18 ka_18 kb_18 ke_18 ku_18 mi_18 mu_18 yb_18 b_19
  obtain ⟨c_f0, c_f1, c_f2⟩ := f_19.three
  obtain ⟨c_yb0, c_yb1, c_yb2⟩ := yb_19.three
  have heE := eqB_refl E
  go_wp2_with fail
  refine (to_any _ _ _ E _ (hE.below B_19) hk).mono ?_
  rintro r w20 ⟨rfl, b_20, kf_20⟩
  clear c_f0 c_f1 c_f2 c_yb0 c_yb1 c_yb2
  have B_20 := B_19.trans (b_20.mono B_19.size)
  have f_20 := f_19.below b_20
  have ke_20 := ke_19.below b_20
  have ka_20 := ka_19.below b_20
  have kb_20 := kb_19.below b_20
  have yb_20 := yb_19.below b_20
  have ku_20 := ku_19.below b_20
  clear B_19 f_19 ka_19 kb_19 ke_19 ku_19 yb_19 b_20
  obtain ⟨c_f0, c_f1, c_f2⟩ := f_20.three
  obtain ⟨c_yb0, c_yb1, c_yb2⟩ := yb_20.three
  go_wp2_with fail
  refine (eq_any _ _ _ _ _ _ E E _ (ke_20.ints' HE.out) (kf_20.ints' HE.out) hk hk).mono ?_
  rintro r w21 ⟨rfl, b_21⟩
  clear c_f0 c_f1 c_f2 c_yb0 c_yb1 c_yb2
  have B_21 := B_20.trans (b_21.mono B_20.size)
  have f_21 := f_20.below b_21
  have ka_21 := ka_20.below b_21
  have kb_21 := kb_20.below b_21
  have yb_21 := yb_20.below b_21
  have ku_21 := ku_20.below b_21
  clear B_20 f_20 ka_20 kb_20 ke_20 kf_20 ku_20 yb_20 b_21
  obtain ⟨c_f0, c_f1, c_f2⟩ := f_21.three
  obtain ⟨c_yb0, c_yb1, c_yb2⟩ := yb_21.three
  have heF := eqF_refl FC FD FK
  clear c_f0 c_f1 c_f2 c_yb0 c_yb1 c_yb2
  have hn0 : w21.cell? ⟨w.heap.size + 1, 0, none⟩ = some (.slice fa fn fcap) ∧ w21.cell? ⟨w.heap.size + 1, 1, none⟩ = some (.slice fc fm fcap') ∧ w21.cell? ⟨w.heap.size + 1, 2, none⟩ = some (.int .i64 FK) ∧ w21.cell? ⟨w13.heap.size, 0, none⟩ = some (.slice (some ⟨F12, 0, none⟩) fn fn) ∧ w21.cell? ⟨w13.heap.size, 1, none⟩ = some (.slice (some ⟨F22, 0, none⟩) fm fm) ∧ w21.cell? ⟨w13.heap.size, 2, none⟩ = some (.int .i64 FK) := ⟨f_21.cell 0, f_21.cell 1, f_21.cell 2, yb_21.cell 0, yb_21.cell 1, yb_21.cell 2⟩
  go_upto_region 30 with fail
  go_region_held3 (fun w' => w'.cell? ⟨w.heap.size + 1, 0, none⟩ = some (.slice fa fn fcap) ∧ w'.cell? ⟨w.heap.size + 1, 1, none⟩ = some (.slice fc fm fcap') ∧ w'.cell? ⟨w.heap.size + 1, 2, none⟩ = some (.int .i64 FK) ∧ w'.cell? ⟨w13.heap.size, 0, none⟩ = some (.slice (some ⟨F12, 0, none⟩) fn fn) ∧ w'.cell? ⟨w13.heap.size, 1, none⟩ = some (.slice (some ⟨F22, 0, none⟩) fm fm) ∧ w'.cell? ⟨w13.heap.size, 2, none⟩ = some (.int .i64 FK)) (first | with_reducible assumption | exact hn0)
    (first
      | (go_at_call 27
         refine (toF_any _ _ _ _ _ _ _ FC FD _ (by exact hA.below (Below.drew B_21)) (by exact hB.below (Below.drew B_21)) hfn1 hfm1).mono ?_
         rintro ee w22 ⟨Y3, Y4, rfl, bd_22, -, -, kv_22, kw_22⟩
         have b_22 := below_of_drew bd_22
         have B_22 := B_21.trans (b_22.mono B_21.size)
         have f_22 := f_21.below b_22
         have ka_22 := ka_21.below b_22
         have kb_22 := kb_21.below b_22
         have yb_22 := yb_21.below b_22
         have ku_22 := ku_21.below b_22
         have hn22_ : w22.cell? ⟨w.heap.size + 1, 0, none⟩ = some (.slice fa fn fcap) ∧ w22.cell? ⟨w.heap.size + 1, 1, none⟩ = some (.slice fc fm fcap') ∧ w22.cell? ⟨w.heap.size + 1, 2, none⟩ = some (.int .i64 FK) ∧ w22.cell? ⟨w13.heap.size, 0, none⟩ = some (.slice (some ⟨F12, 0, none⟩) fn fn) ∧ w22.cell? ⟨w13.heap.size, 1, none⟩ = some (.slice (some ⟨F22, 0, none⟩) fm fm) ∧ w22.cell? ⟨w13.heap.size, 2, none⟩ = some (.int .i64 FK) := ⟨f_22.cell 0, f_22.cell 1, f_22.cell 2, yb_22.cell 0, yb_22.cell 1, yb_22.cell 2⟩)
      | (go_at_call 29
         refine (eqF_any _ _ _ _ _ _ _ FC FD _ _ _ _ _ _ _ FC FD _ (by exact ka_22.ints' HA.out) (by exact kb_22.ints' HB.out) (by exact kv_22.ints' HA.out) (by exact kw_22.ints' HB.out) hfn1 hfm1 hfn1 hfm1).mono ?_
         rintro ee w23 ⟨rfl, b_23⟩
         rw [heF]
         have B_23 := B_22.trans (b_23.mono B_22.size)
         have f_23 := f_22.below b_23
         have yb_23 := yb_22.below b_23
         have ku_23 := ku_22.below b_23
         have hn23_ : w23.cell? ⟨w.heap.size + 1, 0, none⟩ = some (.slice fa fn fcap) ∧ w23.cell? ⟨w.heap.size + 1, 1, none⟩ = some (.slice fc fm fcap') ∧ w23.cell? ⟨w.heap.size + 1, 2, none⟩ = some (.int .i64 FK) ∧ w23.cell? ⟨w13.heap.size, 0, none⟩ = some (.slice (some ⟨F12, 0, none⟩) fn fn) ∧ w23.cell? ⟨w13.heap.size, 1, none⟩ = some (.slice (some ⟨F22, 0, none⟩) fm fm) ∧ w23.cell? ⟨w13.heap.size, 2, none⟩ = some (.int .i64 FK) := ⟨f_23.cell 0, f_23.cell 1, f_23.cell 2, yb_23.cell 0, yb_23.cell 1, yb_23.cell 2⟩))
  clear hn0 hn22_ hn23_ B_21 B_22 b_22 b_23 bd_22 f_21 f_22 f_23 ka_21 ka_22 kb_21 kb_22 ku_21 ku_22 kv_22 kw_22 yb_21 yb_22 yb_23
  have heU := eqB_refl U
  go_wp2_with fail
  refine (to_any _ _ _ U _ (hU.below B_23) hl).mono ?_
  rintro r w24 ⟨rfl, b_24, kg_24⟩
  have B_24 := B_23.trans (b_24.mono B_23.size)
  have ku_24 := ku_23.below b_24
  clear B_23 ku_23 b_24
  go_wp2_with fail
  refine (eq_any _ _ _ _ _ _ U U _ (ku_24.ints' HU.out) (kg_24.ints' HU.out) hl hl).mono ?_
  rintro r w25 ⟨rfl, b_25⟩
  have B_25 := B_24.trans (b_25.mono B_24.size)
  clear B_24 kg_24 ku_24 b_25
  go_wp2
  go_ret
  exact ⟨rfl, B_25⟩

/-! ### The row's step -/
set_option maxRecDepth 100000 in
theorem lifted (os : Os) (started : os.Started) (H : Type) (enc : TypeId × Value → H) :
    ReturnsInHanded {} Try.checked os 7 .any (Rows.fnExactTrtBoundsSpec.pre6 enc Try.prog Try.f7 Rows.fnExactTrtBoundsRow.domain false) (Rows.fnExactTrtBoundsSpec.post enc Try.prog Try.f7 false true false false) := by
  refine returnsInHanded_of_change (C := Try.checked) own started (by kernel_rfl) Try.func7
    (ChangeSpec.witness6 (enc := enc) (C := Try.checked) false ⟨#[], #[.agg #[.slice none 0 0, .slice none 0 0], .slice none 0 0, .int .i64 0, .slice none 0 0, .agg #[.slice none 0 0, .slice none 0 0, .int .i64 0], .slice none 0 0], []⟩ 8 (by kernel_rfl) (by kernel_rfl) (by kernel_rfl) (by kernel_rfl)) ?_
  intro W base args ds gs before hval0 hW hcnd _
  have hval : ∀ (j : Nat) t v, Try.f7.params[j]? = some t → args[j]? = some v → Value.okWide Try.prog W .any base t v := hval0
  have hW' := hW
  obtain ⟨p, q, hA0, hV, rfl, hfz, hnd⟩ := hW
  have hA : DataW.TrodAll enc Try.prog W 0 (fun _ => true) true Try.f7.params.toList args.toList ds p := hA0
  rw [Try.params7] at hA hval
  obtain ⟨v0, vs0, d0, ds0, p0, q0, hargs, rfl, rfl, h0, r0⟩ := trodAll_cons hA
  obtain ⟨v1, vs1, d1, ds1, p1, q1, rfl, rfl, rfl, h1, r1⟩ := trodAll_cons r0
  obtain ⟨v2, vs2, d2, ds2, p2, q2, rfl, rfl, rfl, h2, r2⟩ := trodAll_cons r1
  obtain ⟨v3, vs3, d3, ds3, p3, q3, rfl, rfl, rfl, h3, r3⟩ := trodAll_cons r2
  obtain ⟨v4, vs4, d4, ds4, p4, q4, rfl, rfl, rfl, h4, r4⟩ := trodAll_cons r3
  obtain ⟨v5, vs5, d5, ds5, p5, q5, rfl, rfl, rfl, h5, r5⟩ := trodAll_cons r4
  obtain ⟨rfl, rfl, rfl⟩ := trodAll_nil r5
  obtain rfl : args = #[v0, v1, v2, v3, v4, v5] := by cases args; simp_all
  obtain ⟨rfl, rfl⟩ := trodVars_none hV
  have k0 := h0
  have lt0 : ∀ x ∈ p0, x.block < W.heap.size := by obtain ⟨m, hm⟩ := k0; exact DataW.trod_lt m _ _ _ hm
  obtain ⟨a0, n0, cap0, c0, m0, cap0', C0, D0, rfl, hC0, hD0, hn0, hm0⟩ := open_treaty (hval 0 24 v0 rfl rfl) h0
  have k1 := h1
  have lt1 : ∀ x ∈ p1, x.block < W.heap.size := by obtain ⟨m, hm⟩ := k1; exact DataW.trod_lt m _ _ _ hm
  obtain ⟨a1, n1, cap1, ss1, rfl, hl1, hF1, hn1⟩ := open_IS (hval 1 33 v1 rfl rfl) h1
  have k2 := h2
  have lt2 : ∀ x ∈ p2, x.block < W.heap.size := by obtain ⟨m, hm⟩ := k2; exact DataW.trod_lt m _ _ _ hm
  obtain ⟨x2, rfl, wx2⟩ := open_numT h2 (hval 2 3 v2 rfl rfl)
  have k3 := h3
  have lt3 : ∀ x ∈ p3, x.block < W.heap.size := by obtain ⟨m, hm⟩ := k3; exact DataW.trod_lt m _ _ _ hm
  obtain ⟨a3, n3, cap3, C3, rfl, hC3, hn3⟩ := open_rowT (hval 3 22 v3 rfl rfl) h3
  have k4 := h4
  have lt4 : ∀ x ∈ p4, x.block < W.heap.size := by obtain ⟨m, hm⟩ := k4; exact DataW.trod_lt m _ _ _ hm
  obtain ⟨a4, n4, cap4, c4, m4, cap4', K4, C4, D4, rfl, hC4, hD4, hn4, hm4, wK4⟩ := open_form (hval 4 44 v4 rfl rfl) h4
  have k5 := h5
  have lt5 : ∀ x ∈ p5, x.block < W.heap.size := by obtain ⟨m, hm⟩ := k5; exact DataW.trod_lt m _ _ _ hm
  obtain ⟨a5, n5, cap5, C5, rfl, hC5, hn5⟩ := open_rowT (hval 5 22 v5 rfl rfl) h5
  clear hA0 hval0
  refine (walk W a0 n0 cap0 c0 m0 cap0' C0 D0 hC0 hD0 hn0 hm0 a1 n1 cap1 ss1 hl1 hF1 hn1 x2 wx2 a3 n3 cap3 C3 hC3 hn3 a4 n4 cap4 c4 m4 cap4' K4 C4 D4 hC4 hD4 hn4 hm4 wK4 a5 n5 cap5 C5 hC5 hn5).mono fun e W' ⟨he, bel⟩ => ?_
  subst he
  exact ⟨_, rfl, _, _, _, [], _, [], hW', trodAll_mk1 (shut_bool Try.underlying4 _), (trodAll_cons_mk (Below.trod laidOut (by kernel_rfl) (of_decide_eq_true (by kernel_rfl)) k0 bel lt0) (trodAll_cons_mk (Below.trod laidOut (by kernel_rfl) (of_decide_eq_true (by kernel_rfl)) k1 bel lt1) (trodAll_cons_mk (Below.trod laidOut (by kernel_rfl) (of_decide_eq_true (by kernel_rfl)) k2 bel lt2) (trodAll_cons_mk (Below.trod laidOut (by kernel_rfl) (of_decide_eq_true (by kernel_rfl)) k3 bel lt3) (trodAll_cons_mk (Below.trod laidOut (by kernel_rfl) (of_decide_eq_true (by kernel_rfl)) k4 bel lt4) (trodAll_cons_mk (Below.trod laidOut (by kernel_rfl) (of_decide_eq_true (by kernel_rfl)) k5 bel lt5) trodAll_mk0)))))), rfl, bel.frame _, fun h => by cases h⟩

theorem over : Rows.fnExactTrtBoundsRow.holds Try.pinned (OpenSpec.ofChange Rows.fnExactTrtBoundsSpec) :=
  OpenClaim.holds_of_wide 7 Try.f7 rfl rfl rfl rfl rfl rfl rfl ⟨rfl, rfl, rfl, rfl, rfl⟩ rfl rfl rfl rfl rfl (by kernel_rfl) Try.func7 (by kernel_rfl)
    (of_decide_eq_true (by kernel_rfl)) (by unfold Func.isWrapper; first | (rw [if_pos (by decide +kernel)]; kernel_rfl) | (rw [if_neg (by decide +kernel)]; exact ⟨rfl, rfl⟩))
    (fun os started H enc _ => lifted os started H enc)

end Go.Proofs.Ytmbhcngddpoonaa.fnExactTrtBounds
namespace Go.Proofs.Ytmbhcngddpoonaa
/-- The statement. -/
theorem fnExactTrtBounds_holds : Rows.FnExactTrtBoundsSaid := fnExactTrtBounds.over
#print axioms fnExactTrtBounds_holds
end Go.Proofs.Ytmbhcngddpoonaa
