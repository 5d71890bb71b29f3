/-
  For every treaty, slice of slices of ints, number and slice of ints FnExactTrtKeeps returns true, and all read behind the call as they did. No condition.
-/
import Derived.Test.YtmbhcngddpoonaaKeepsS
namespace Go.Proofs.Ytmbhcngddpoonaa.fnExactTrtKeeps
open Go.ChangeShapes Go.WideShapes Go.ChangeAt Go.RowKit Go.Deep
set_option linter.unusedVariables false

set_option maxRecDepth 100000 in
set_option maxHeartbeats 6400000 in
theorem walk (w : World) (a : Option Addr) (n cap : Nat) (c : Option Addr) (m cap' : Nat) (C D : List Int) (hC : Ints w a n C) (hD : Ints w c m D) (hn : n ≤ maxLen) (hm : m ≤ maxLen) (ad : Option Addr) (N pc : Nat) (ss : List IV) (hl : ss.length = N) (hM : ISM w ad ss) (hN1 : N ≤ maxLen) (s : Int) (ws : (Lit.int .i64 s).wf = true) (e : Option Addr) (k ec : Nat) (E : List Int) (hE : Ints w e k E) (hk1 : k ≤ maxLen) :
    Calls Try.prog 5 #[treV a n cap c m cap', .slice ad N pc, .int .i64 s, .slice e k ec] w fun r w' => r = .returned (.bool true) ∧ Below w.heap.size w w' := by
  have HN : Hid (ss.length = N) := hl
  have HE : Hid (E.length = k) := hE.1
  have HC : Hid (C.length = n) := hC.1
  have HD : Hid (D.length = m) := hD.1
  clear hl
  have hk2 := hk1
  unfold maxLen at hk2
  have q_0 := Cel.new w [.slice a n cap, .slice c m cap'] 24
  have B_0 := (Below.refl w.heap.size w).alloc (Nat.le_refl _) (.cells #[.slice a n cap, .slice c m cap'] 24)
  by_cases hk0 : 1048576 < k
  · go_enter Try.func5, Try.ntmps5
    go_wp2
    go_ret
    exact ⟨rfl, B_0⟩
  have hk : k ≤ 1048576 := by omega
  clear hk0 hk1 hk2
  have g1 := leftOf_ge 1048576 n
  have g2 := leftOf_ge (leftOf 1048576 n) m
  by_cases h : leftOf (leftOf 1048576 n) m < 0
  · go_enter Try.func5, Try.ntmps5
    go_wp2_with fail
    refine (szT_any _ _ _ _ _ _ _ _ hn hm (by omega) (by omega)).mono ?_
    rintro r w1 ⟨rfl, b1⟩
    go_wp2
    go_ret
    exact ⟨rfl, B_0.trans (b1.mono B_0.size)⟩
  have l2 := leftOf_le (l := leftOf 1048576 n) (n := m) (by omega)
  have l1 := leftOf_le (l := 1048576) (n := n) (by omega)
  have hn1 : n ≤ 1048576 := by omega
  have hm1 : m ≤ 1048576 := by omega
  have h' : 0 ≤ leftOf (leftOf 1048576 n) m := by omega
  have h'' : leftOf (leftOf 1048576 n) m ≤ 1048576 := by omega
  obtain ⟨x, hx⟩ : ∃ x, x = leftOf (leftOf 1048576 n) m := ⟨_, rfl⟩
  have HX : Hid _ := hx
  rw [← hx] at h' h''
  clear l1 l2 g1 g2 h hx
  obtain ⟨v, hv⟩ : ∃ v, v = keepB n m C D ss s k E := ⟨_, rfl⟩
  have HS : Hid (∀ ts : List IV, ts.length = N → copiesIS ss ts → keepB n m C D ts s k E = v) := fun ts h1 h2 => by rw [hv, keepB_copy (by rw [h1, HN.out]) h2]
  clear hv
  go_enter Try.func5, Try.ntmps5
  go_wp2_with fail
  refine (szT_any _ _ _ _ _ _ _ _ hn hm (by omega) (by omega)).mono ?_
  rintro r w1 ⟨rfl, b_1⟩
  rw [← HX.out]
  have B_1 := B_0.trans (b_1.mono B_0.size)
  have q_1 := q_0.below b_1
  clear B_0 q_0 b_1
  obtain ⟨c_q0, c_q1⟩ := q_1.two
  go_wp2_with fail
  refine (szIS_any _ _ _ ss _ _ HN.out (hM.below B_1) hN1 h' h'').mono ?_
  rintro r w2 ⟨y, rfl, p1, q1, s1, b_2⟩
  clear c_q0 c_q1
  have B_2 := B_1.trans (b_2.mono B_1.size)
  have q_2 := q_1.below b_2
  clear B_1 q_1 b_2
  obtain ⟨c_q0, c_q1⟩ := q_2.two
  by_cases hr : y < 0
  · go_wp2
    go_ret
    exact ⟨rfl, B_2⟩
  have hr' : 0 ≤ y := by omega
  obtain ⟨hN, hsz⟩ := s1 hr'
  have hF := hM.g hsz
  clear hM s1 hsz p1 q1 hr
  go_wp2_with fail
  refine (toT_any _ _ _ _ _ _ C D _ (hC.below B_2) (hD.below B_2) hn1 hm1).mono ?_
  rintro r w3 ⟨P11, P21, rfl, b_3, -, -, kc_3, kd_3⟩
  clear c_q0 c_q1
  have B_3 := B_2.trans (b_3.mono B_2.size)
  have q_3 := q_2.below b_3
  clear B_2 q_2 b_3
  obtain ⟨c_q0, c_q1⟩ := q_3.two
  go_wp2_with fail
  refine (toIS_any _ _ _ ss _ HN.out (hF.below B_3) hN).mono ?_
  rintro r w4 ⟨ts1, rfl, hg1, hc1, b_4, mi_4⟩
  clear c_q0 c_q1
  have B_4 := B_3.trans (b_4.mono B_3.size)
  have q_4 := q_3.below b_4
  have kc_4 := kc_3.below b_4
  have kd_4 := kd_3.below b_4
  clear B_3 kc_3 kd_3 q_3 b_4
  obtain ⟨c_q0, c_q1⟩ := q_4.two
  go_wp2_with fail
  refine (to_any _ _ _ E _ (hE.below B_4) hk).mono ?_
  rintro r w5 ⟨rfl, b_5, ke_5⟩
  clear c_q0 c_q1
  have B_5 := B_4.trans (b_5.mono B_4.size)
  have q_5 := q_4.below b_5
  have kc_5 := kc_4.below b_5
  have kd_5 := kd_4.below b_5
  have mi_5 := mi_4.below b_5
  clear B_4 kc_4 kd_4 mi_4 q_4 b_5
  obtain ⟨c_q0, c_q1⟩ := q_5.two
  go_wp2_with fail
  refine (skeep_any _ _ _ _ _ _ _ _ _ _ _ _ _ C D E ts1 _ (kc_5.ints' HC.out) (kd_5.ints' HD.out) (ke_5.ints' HE.out) hg1 mi_5.g hn1 hm1 hk hN).mono ?_
  rintro r w6 ⟨rfl, b_6⟩
  rw [HS.out ts1 hg1 hc1]
  clear c_q0 c_q1
  have B_6 := B_5.trans (b_6.mono B_5.size)
  have q_6 := q_5.below b_6
  clear B_5 kc_5 kd_5 ke_5 mi_5 q_5 b_6
  obtain ⟨c_q0, c_q1⟩ := q_6.two
  clear hg1 hc1
  clear ts1
  go_wp2_with fail
  refine (toT_any _ _ _ _ _ _ C D _ (hC.below B_6) (hD.below B_6) hn1 hm1).mono ?_
  rintro r w7 ⟨P12, P22, rfl, b_7, -, -, kc_7, kd_7⟩
  clear c_q0 c_q1
  have B_7 := B_6.trans (b_7.mono B_6.size)
  have q_7 := q_6.below b_7
  clear B_6 q_6 b_7
  obtain ⟨c_q0, c_q1⟩ := q_7.two
  go_wp2_with fail
  refine (toIS_any _ _ _ ss _ HN.out (hF.below (B_7.alloc B_7.size _)) hN).mono ?_
  rintro r w8 ⟨ts2, rfl, hg2, hc2, b_8, mi_8⟩
  clear c_q0 c_q1
  have B_8 := (B_7.alloc B_7.size _).trans (b_8.mono (B_7.alloc B_7.size _).size)
  have q_8 := (q_7.alloc _).below b_8
  have kc_8 := (kc_7.alloc _).below b_8
  have kd_8 := (kd_7.alloc _).below b_8
  have xb_8 := (Cel.new w7 _ _).below b_8
  clear B_7 kc_7 kd_7 q_7 b_8
  obtain ⟨c_q0, c_q1⟩ := q_8.two
  obtain ⟨c_xb0, c_xb1⟩ := xb_8.two
  rw [World.size_alloc] at mi_8
  go_wp2_with fail
  refine (to_any _ _ _ E _ (hE.below B_8) hk).mono ?_
  rintro r w9 ⟨rfl, b_9, ke_9⟩
  clear c_q0 c_q1 c_xb0 c_xb1
  have B_9 := B_8.trans (b_9.mono B_8.size)
  have q_9 := q_8.below b_9
  have kc_9 := kc_8.below b_9
  have kd_9 := kd_8.below b_9
  have xb_9 := xb_8.below b_9
  have mi_9 := mi_8.below b_9
  clear B_8 kc_8 kd_8 mi_8 q_8 xb_8 b_9
  obtain ⟨c_q0, c_q1⟩ := q_9.two
  obtain ⟨c_xb0, c_xb1⟩ := xb_9.two
  have HG : Hid _ := hg2
  have HC2 : Hid _ := hc2
  clear hg2 hc2
  go_wp2_with fail
  refine (ikeep_any _ _ _ _ _ _ _ _ _ _ _ _ _ C D E ts2 _ (kc_9.ints' HC.out) (kd_9.ints' HD.out) (ke_9.ints' HE.out) HG.out mi_9.g hn1 hm1 hk hN).mono ?_
  rintro r w10 ⟨rfl, b_10⟩
  rw [HS.out ts2 HG.out HC2.out]
  clear c_q0 c_q1 c_xb0 c_xb1
  have B_10 := B_9.trans (b_10.mono B_9.size)
  have q_10 := q_9.below b_10
  have kc_10 := kc_9.below b_10
  have kd_10 := kd_9.below b_10
  have xb_10 := xb_9.below b_10
  have mi_10 := mi_9.below b_10
  have ke_10 := ke_9.below b_10
  clear B_9 kc_9 kd_9 ke_9 mi_9 q_9 xb_9 b_10
  obtain ⟨c_q0, c_q1⟩ := q_10.two
  obtain ⟨c_xb0, c_xb1⟩ := xb_10.two
  clear c_q0 c_q1 c_xb0 c_xb1
  have hn0 : w10.cell? ⟨w.heap.size, 0, none⟩ = some (.slice a n cap) ∧ w10.cell? ⟨w.heap.size, 1, none⟩ = some (.slice c m cap') ∧ w10.cell? ⟨w7.heap.size, 0, none⟩ = some (.slice (some ⟨P12, 0, none⟩) n n) ∧ w10.cell? ⟨w7.heap.size, 1, none⟩ = some (.slice (some ⟨P22, 0, none⟩) m m) := ⟨q_10.cell 0, q_10.cell 1, xb_10.cell 0, xb_10.cell 1⟩
  have hvv : (v != v) = false := by simp
  go_upto_region 17 with fail
  go_region_held3 (fun w' => w'.cell? ⟨w.heap.size, 0, none⟩ = some (.slice a n cap) ∧ w'.cell? ⟨w.heap.size, 1, none⟩ = some (.slice c m cap') ∧ w'.cell? ⟨w7.heap.size, 0, none⟩ = some (.slice (some ⟨P12, 0, none⟩) n n) ∧ w'.cell? ⟨w7.heap.size, 1, none⟩ = some (.slice (some ⟨P22, 0, none⟩) m m)) (first | with_reducible assumption | exact hn0)
    (first
      | (go_at_call 11
         refine (toT_any _ _ _ _ _ _ C D _ (by exact hC.below B_10.drew) (by exact hD.below B_10.drew) hn1 hm1).mono ?_
         rintro ee w11 ⟨Y1, Y2, rfl, bd_11, -, -, ky, kz⟩
         have b_11 := below_of_drew bd_11
         have B_11 := B_10.trans (b_11.mono B_10.size)
         have q_11 := q_10.below b_11
         have kc_11 := kc_10.below b_11
         have kd_11 := kd_10.below b_11
         have xb_11 := xb_10.below b_11
         have mi_11 := mi_10.below b_11
         have ke_11 := ke_10.below b_11
         have hn1_ : w11.cell? ⟨w.heap.size, 0, none⟩ = some (.slice a n cap) ∧ w11.cell? ⟨w.heap.size, 1, none⟩ = some (.slice c m cap') ∧ w11.cell? ⟨w7.heap.size, 0, none⟩ = some (.slice (some ⟨P12, 0, none⟩) n n) ∧ w11.cell? ⟨w7.heap.size, 1, none⟩ = some (.slice (some ⟨P22, 0, none⟩) m m) := ⟨q_11.cell 0, q_11.cell 1, xb_11.cell 0, xb_11.cell 1⟩)
      | (go_at_call 13
         refine (eqT_same _ _ _ _ _ _ C D _ _ _ _ _ (by exact kc_11.ints' HC.out) (by exact kd_11.ints' HD.out) (by exact ky.ints' HC.out) (by exact kz.ints' HD.out) hn1 hm1).mono ?_
         rintro ee w12 ⟨rfl, b_12⟩
         have B_12 := B_11.trans (b_12.mono B_11.size)
         have q_12 := q_11.below b_12
         have kc_12 := kc_11.below b_12
         have kd_12 := kd_11.below b_12
         have xb_12 := xb_11.below b_12
         have mi_12 := mi_11.below b_12
         have ke_12 := ke_11.below b_12
         have hn2_ : w12.cell? ⟨w.heap.size, 0, none⟩ = some (.slice a n cap) ∧ w12.cell? ⟨w.heap.size, 1, none⟩ = some (.slice c m cap') ∧ w12.cell? ⟨w7.heap.size, 0, none⟩ = some (.slice (some ⟨P12, 0, none⟩) n n) ∧ w12.cell? ⟨w7.heap.size, 1, none⟩ = some (.slice (some ⟨P22, 0, none⟩) m m) := ⟨q_12.cell 0, q_12.cell 1, xb_12.cell 0, xb_12.cell 1⟩))
  go_wp2_with fail
  refine (toIS_any _ _ _ ss _ HN.out (hF.below B_12) hN).mono ?_
  rintro r w13 ⟨us, rfl, hg3, hc3, b_13, mu_13⟩
  have B_13 := B_12.trans (b_13.mono B_12.size)
  have mi_13 := mi_12.below b_13
  have ke_13 := ke_12.below b_13
  clear B_12 ke_12 mi_12 b_13
  go_wp2_with fail
  refine (eqIS_same _ _ _ _ _ ts2 us _ HG.out hg3 mi_13.g mu_13.g hN (copies_sameI HG.out hg3 HC2.out hc3)).mono ?_
  rintro r w14 ⟨rfl, b_14⟩
  have B_14 := B_13.trans (b_14.mono B_13.size)
  have ke_14 := ke_13.below b_14
  clear B_13 ke_13 mi_13 mu_13 b_14
  have heE := eqB_refl E
  go_wp2_with fail
  refine (to_any _ _ _ E _ (hE.below B_14) hk).mono ?_
  rintro r w15 ⟨rfl, b_15, kf_15⟩
  have B_15 := B_14.trans (b_15.mono B_14.size)
  have ke_15 := ke_14.below b_15
  clear B_14 ke_14 b_15
  go_wp2_with fail
  refine (eq_any _ _ _ _ _ _ E E _ (ke_15.ints' HE.out) (kf_15.ints' HE.out) hk hk).mono ?_
  rintro r w16 ⟨rfl, b_16⟩
  have B_16 := B_15.trans (b_16.mono B_15.size)
  clear B_15 ke_15 kf_15 b_16
  go_wp2
  go_ret
  exact ⟨rfl, B_16⟩

/-! ### The row's step -/
set_option maxRecDepth 100000 in
theorem lifted (os : Os) (started : os.Started) (H : Type) (enc : TypeId × Value → H) :
    ReturnsInHanded {} Try.checked os 5 .any (Rows.fnExactTrtKeepsSpec.pre6 enc Try.prog Try.f5 Rows.fnExactTrtKeepsRow.domain false) (Rows.fnExactTrtKeepsSpec.post enc Try.prog Try.f5 false true false false) := by
  refine returnsInHanded_of_change (C := Try.checked) own started (by kernel_rfl) Try.func5
    (ChangeSpec.witness6 (enc := enc) (C := Try.checked) false ⟨#[], #[.agg #[.slice none 0 0, .slice none 0 0], .slice none 0 0, .int .i64 0, .slice none 0 0], []⟩ 8 (by kernel_rfl) (by kernel_rfl) (by kernel_rfl) (by kernel_rfl)) ?_
  intro W base args ds gs before hval0 hW hcnd _
  have hval : ∀ (j : Nat) t v, Try.f5.params[j]? = some t → args[j]? = some v → Value.okWide Try.prog W .any base t v := hval0
  have hW' := hW
  obtain ⟨p, q, hA0, hV, rfl, hfz, hnd⟩ := hW
  have hA : DataW.TrodAll enc Try.prog W 0 (fun _ => true) true Try.f5.params.toList args.toList ds p := hA0
  rw [Try.params5] at hA hval
  obtain ⟨v0, vs0, d0, ds0, p0, q0, hargs, rfl, rfl, h0, r0⟩ := trodAll_cons hA
  obtain ⟨v1, vs1, d1, ds1, p1, q1, rfl, rfl, rfl, h1, r1⟩ := trodAll_cons r0
  obtain ⟨v2, vs2, d2, ds2, p2, q2, rfl, rfl, rfl, h2, r2⟩ := trodAll_cons r1
  obtain ⟨v3, vs3, d3, ds3, p3, q3, rfl, rfl, rfl, h3, r3⟩ := trodAll_cons r2
  obtain ⟨rfl, rfl, rfl⟩ := trodAll_nil r3
  obtain rfl : args = #[v0, v1, v2, v3] := by cases args; simp_all
  obtain ⟨rfl, rfl⟩ := trodVars_none hV
  have k0 := h0
  have lt0 : ∀ x ∈ p0, x.block < W.heap.size := by obtain ⟨m, hm⟩ := k0; exact DataW.trod_lt m _ _ _ hm
  obtain ⟨a0, n0, cap0, c0, m0, cap0', C0, D0, rfl, hC0, hD0, hn0, hm0⟩ := open_treaty (hval 0 24 v0 rfl rfl) h0
  have k1 := h1
  have lt1 : ∀ x ∈ p1, x.block < W.heap.size := by obtain ⟨m, hm⟩ := k1; exact DataW.trod_lt m _ _ _ hm
  obtain ⟨a1, n1, cap1, ss1, rfl, hl1, hF1, hn1⟩ := open_IS (hval 1 33 v1 rfl rfl) h1
  have k2 := h2
  have lt2 : ∀ x ∈ p2, x.block < W.heap.size := by obtain ⟨m, hm⟩ := k2; exact DataW.trod_lt m _ _ _ hm
  obtain ⟨x2, rfl, wx2⟩ := open_numT h2 (hval 2 3 v2 rfl rfl)
  have k3 := h3
  have lt3 : ∀ x ∈ p3, x.block < W.heap.size := by obtain ⟨m, hm⟩ := k3; exact DataW.trod_lt m _ _ _ hm
  obtain ⟨a3, n3, cap3, C3, rfl, hC3, hn3⟩ := open_rowT (hval 3 22 v3 rfl rfl) h3
  clear hA0 hval0
  refine (walk W a0 n0 cap0 c0 m0 cap0' C0 D0 hC0 hD0 hn0 hm0 a1 n1 cap1 ss1 hl1 hF1 hn1 x2 wx2 a3 n3 cap3 C3 hC3 hn3).mono fun e W' ⟨he, bel⟩ => ?_
  subst he
  exact ⟨_, rfl, _, _, _, [], _, [], hW', trodAll_mk1 (shut_bool Try.underlying4 _), (trodAll_cons_mk (Below.trod laidOut (by kernel_rfl) (of_decide_eq_true (by kernel_rfl)) k0 bel lt0) (trodAll_cons_mk (Below.trod laidOut (by kernel_rfl) (of_decide_eq_true (by kernel_rfl)) k1 bel lt1) (trodAll_cons_mk (Below.trod laidOut (by kernel_rfl) (of_decide_eq_true (by kernel_rfl)) k2 bel lt2) (trodAll_cons_mk (Below.trod laidOut (by kernel_rfl) (of_decide_eq_true (by kernel_rfl)) k3 bel lt3) trodAll_mk0)))), rfl, bel.frame _, fun h => by cases h⟩

theorem over : Rows.fnExactTrtKeepsRow.holds Try.pinned (OpenSpec.ofChange Rows.fnExactTrtKeepsSpec) :=
  OpenClaim.holds_of_wide 5 Try.f5 rfl rfl rfl rfl rfl rfl rfl ⟨rfl, rfl, rfl, rfl, rfl⟩ rfl rfl rfl rfl rfl (by kernel_rfl) Try.func5 (by kernel_rfl)
    (of_decide_eq_true (by kernel_rfl)) (by unfold Func.isWrapper; first | (rw [if_pos (by decide +kernel)]; kernel_rfl) | (rw [if_neg (by decide +kernel)]; exact ⟨rfl, rfl⟩))
    (fun os started H enc _ => lifted os started H enc)

end Go.Proofs.Ytmbhcngddpoonaa.fnExactTrtKeeps
namespace Go.Proofs.Ytmbhcngddpoonaa
/-- The statement. -/
theorem fnExactTrtKeeps_holds : Rows.FnExactTrtKeepsSaid := fnExactTrtKeeps.over
#print axioms fnExactTrtKeeps_holds
end Go.Proofs.Ytmbhcngddpoonaa
