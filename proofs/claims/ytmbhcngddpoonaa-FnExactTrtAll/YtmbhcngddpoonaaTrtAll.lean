/-
  For every treaty and every two slices of slices of ints FnExactTrtAll returns true, and all read behind the call as they did. No condition.
-/
import Derived.Test.YtmbhcngddpoonaaAll
namespace Go.Proofs.Ytmbhcngddpoonaa.fnExactTrtAll
open Go.ChangeShapes Go.WideShapes Go.ChangeAt Go.RowKit Go.Deep
set_option linter.unusedVariables false

set_option maxRecDepth 100000 in
set_option maxHeartbeats 6400000 in
theorem walk (w : World) (a : Option Addr) (n cap : Nat) (c : Option Addr) (m cap' : Nat) (C D : List Int) (hC : Ints w a n C) (hD : Ints w c m D) (hn : n ≤ maxLen) (hm : m ≤ maxLen) (ad : Option Addr) (N pc : Nat) (ss : List IV) (hl : ss.length = N) (hM : ISM w ad ss) (hN1 : N ≤ maxLen) (e : Option Addr) (L ec : Nat) (ls : List IV) (hL : ls.length = L) (hE : ISM w e ls) (hL1 : L ≤ maxLen) :
    Calls Try.prog 6 #[treV a n cap c m cap', .slice ad N pc, .slice e L ec] w fun r w' => r = .returned (.bool true) ∧ Below w.heap.size w w' := by
  have HN : Hid (ss.length = N) := hl
  have HL : Hid (ls.length = L) := hL
  have HC : Hid (C.length = n) := hC.1
  have HD : Hid (D.length = m) := hD.1
  clear hl hL
  have q_0 := Cel.new w [.slice a n cap, .slice c m cap'] 24
  have B_0 := (Below.refl w.heap.size w).alloc (Nat.le_refl _) (.cells #[.slice a n cap, .slice c m cap'] 24)
  have g1 := leftOf_ge 1048576 n
  have g2 := leftOf_ge (leftOf 1048576 n) m
  by_cases h : leftOf (leftOf 1048576 n) m < 0
  · go_enter Try.func6, Try.ntmps6
    go_wp2_with fail
    refine (szT_any _ _ _ _ _ _ _ _ hn hm (by omega) (by omega)).mono ?_
    rintro r w1 ⟨rfl, b1⟩
    go_wp2
    go_ret
    exact ⟨rfl, B_0.trans (b1.mono B_0.size)⟩
  have l2 := leftOf_le (l := leftOf 1048576 n) (n := m) (by omega)
  have l1 := leftOf_le (l := 1048576) (n := n) (by omega)
  have hn1 : n ≤ 1048576 := by omega
  have hm1 : m ≤ 1048576 := by omega
  have h' : 0 ≤ leftOf (leftOf 1048576 n) m := by omega
  have h'' : leftOf (leftOf 1048576 n) m ≤ 1048576 := by omega
  obtain ⟨x, hx⟩ : ∃ x, x = leftOf (leftOf 1048576 n) m := ⟨_, rfl⟩
  have HX : Hid _ := hx
  rw [← hx] at h' h''
  clear l1 l2 g1 g2 h hx
  obtain ⟨v, hv⟩ : ∃ v, v = allKeepB n m C D ss ls L := ⟨_, rfl⟩
  have HS : Hid (∀ ts us : List IV, ts.length = N → copiesIS ss ts → us.length = L → copiesIS ls us → allKeepB n m C D ts us L = v) := fun ts us h1 h2 h3 h4 => by rw [hv, allKeepB_copy (by rw [h1, HN.out]) h2 h4 h3]
  clear hv
  go_enter Try.func6, Try.ntmps6
  go_wp2_with fail
  refine (szT_any _ _ _ _ _ _ _ _ hn hm (by omega) (by omega)).mono ?_
  rintro r w1 ⟨rfl, b_1⟩
  rw [← HX.out]
  have B_1 := B_0.trans (b_1.mono B_0.size)
  have q_1 := q_0.below b_1
  clear B_0 q_0 b_1
  obtain ⟨c_q0, c_q1⟩ := q_1.two
  go_wp2_with fail
  refine (szIS_any _ _ _ ss _ _ HN.out (hM.below B_1) hN1 h' h'').mono ?_
  rintro r w2 ⟨y, rfl, p1, q1, s1, b_2⟩
  clear c_q0 c_q1
  have B_2 := B_1.trans (b_2.mono B_1.size)
  have q_2 := q_1.below b_2
  clear B_1 q_1 b_2
  obtain ⟨c_q0, c_q1⟩ := q_2.two
  by_cases hr : y < 0
  · go_wp2
    go_ret
    exact ⟨rfl, B_2⟩
  have hr' : 0 ≤ y := by omega
  obtain ⟨hN, hsz⟩ := s1 hr'
  have hF := hM.g hsz
  clear hM s1 hsz p1 hr
  go_wp2_with fail
  refine (szIS_any _ _ _ ls _ _ HL.out (hE.below B_2) hL1 hr' q1).mono ?_
  rintro r w3 ⟨y2, rfl, p2, q2, s2, b_3⟩
  clear c_q0 c_q1
  have B_3 := B_2.trans (b_3.mono B_2.size)
  have q_3 := q_2.below b_3
  clear B_2 q_2 b_3
  obtain ⟨c_q0, c_q1⟩ := q_3.two
  by_cases hr : y2 < 0
  · go_wp2
    go_ret
    exact ⟨rfl, B_3⟩
  have hr2 : 0 ≤ y2 := by omega
  obtain ⟨hLL, hsz⟩ := s2 hr2
  have hG := hE.g hsz
  clear hE s2 hsz p2 q2 q1 hr
  go_wp2_with fail
  refine (toT_any _ _ _ _ _ _ C D _ (hC.below B_3) (hD.below B_3) hn1 hm1).mono ?_
  rintro r w4 ⟨P11, P21, rfl, b_4, -, -, kc_4, kd_4⟩
  clear c_q0 c_q1
  have B_4 := B_3.trans (b_4.mono B_3.size)
  have q_4 := q_3.below b_4
  clear B_3 q_3 b_4
  obtain ⟨c_q0, c_q1⟩ := q_4.two
  go_wp2_with fail
  refine (toIS_any _ _ _ ss _ HN.out (hF.below B_4) hN).mono ?_
  rintro r w5 ⟨ts1, rfl, hg1, hc1, b_5, mi_5⟩
  clear c_q0 c_q1
  have B_5 := B_4.trans (b_5.mono B_4.size)
  have q_5 := q_4.below b_5
  have kc_5 := kc_4.below b_5
  have kd_5 := kd_4.below b_5
  clear B_4 kc_4 kd_4 q_4 b_5
  obtain ⟨c_q0, c_q1⟩ := q_5.two
  go_wp2_with fail
  refine (toIS_any _ _ _ ls _ HL.out (hG.below B_5) hLL).mono ?_
  rintro r w6 ⟨us1, rfl, hh1, hd1, b_6, mj_6⟩
  clear c_q0 c_q1
  have B_6 := B_5.trans (b_6.mono B_5.size)
  have q_6 := q_5.below b_6
  have kc_6 := kc_5.below b_6
  have kd_6 := kd_5.below b_6
  have mi_6 := mi_5.below b_6
  clear B_5 kc_5 kd_5 mi_5 q_5 b_6
  obtain ⟨c_q0, c_q1⟩ := q_6.two
  go_wp2_with fail
  refine (sall_any _ _ _ _ _ _ _ _ _ _ _ _ C D ts1 us1 _ (kc_6.ints' HC.out) (kd_6.ints' HD.out) hg1 mi_6.g hh1 mj_6.g hn1 hm1 hN hLL).mono ?_
  rintro r w7 ⟨rfl, b_7⟩
  rw [HS.out ts1 us1 hg1 hc1 hh1 hd1]
  clear c_q0 c_q1
  have B_7 := B_6.trans (b_7.mono B_6.size)
  have q_7 := q_6.below b_7
  clear B_6 kc_6 kd_6 mi_6 mj_6 q_6 b_7
  obtain ⟨c_q0, c_q1⟩ := q_7.two
  clear hg1 hc1 hh1 hd1
  clear ts1 us1
  go_wp2_with fail
  refine (toT_any _ _ _ _ _ _ C D _ (hC.below B_7) (hD.below B_7) hn1 hm1).mono ?_
  rintro r w8 ⟨P12, P22, rfl, b_8, -, -, kc_8, kd_8⟩
  clear c_q0 c_q1
  have B_8 := B_7.trans (b_8.mono B_7.size)
  have q_8 := q_7.below b_8
  clear B_7 q_7 b_8
  obtain ⟨c_q0, c_q1⟩ := q_8.two
  go_wp2_with fail
  refine (toIS_any _ _ _ ss _ HN.out (hF.below (B_8.alloc B_8.size _)) hN).mono ?_
  rintro r w9 ⟨ts2, rfl, hg2, hc2, b_9, mi_9⟩
  clear c_q0 c_q1
  have B_9 := (B_8.alloc B_8.size _).trans (b_9.mono (B_8.alloc B_8.size _).size)
  have q_9 := (q_8.alloc _).below b_9
  have kc_9 := (kc_8.alloc _).below b_9
  have kd_9 := (kd_8.alloc _).below b_9
  have xb_9 := (Cel.new w8 _ _).below b_9
  clear B_8 kc_8 kd_8 q_8 b_9
  obtain ⟨c_q0, c_q1⟩ := q_9.two
  obtain ⟨c_xb0, c_xb1⟩ := xb_9.two
  rw [World.size_alloc] at mi_9
  go_wp2_with fail
  refine (toIS_any _ _ _ ls _ HL.out (hG.below B_9) hLL).mono ?_
  rintro r w10 ⟨us2, rfl, hh2, hd2, b_10, mj_10⟩
  clear c_q0 c_q1 c_xb0 c_xb1
  have B_10 := B_9.trans (b_10.mono B_9.size)
  have q_10 := q_9.below b_10
  have kc_10 := kc_9.below b_10
  have kd_10 := kd_9.below b_10
  have xb_10 := xb_9.below b_10
  have mi_10 := mi_9.below b_10
  clear B_9 kc_9 kd_9 mi_9 q_9 xb_9 b_10
  obtain ⟨c_q0, c_q1⟩ := q_10.two
  obtain ⟨c_xb0, c_xb1⟩ := xb_10.two
  have HG : Hid _ := hg2
  have HC2 : Hid _ := hc2
  have HH : Hid _ := hh2
  have HD2 : Hid _ := hd2
  clear hg2 hc2 hh2 hd2
  go_wp2_with fail
  refine (iall_any _ _ _ _ _ _ _ _ _ _ _ _ C D ts2 us2 _ (kc_10.ints' HC.out) (kd_10.ints' HD.out) HG.out mi_10.g HH.out mj_10.g hn1 hm1 hN hLL).mono ?_
  rintro r w11 ⟨rfl, b_11⟩
  rw [HS.out ts2 us2 HG.out HC2.out HH.out HD2.out]
  clear c_q0 c_q1 c_xb0 c_xb1
  have B_11 := B_10.trans (b_11.mono B_10.size)
  have q_11 := q_10.below b_11
  have kc_11 := kc_10.below b_11
  have kd_11 := kd_10.below b_11
  have xb_11 := xb_10.below b_11
  have mi_11 := mi_10.below b_11
  have mj_11 := mj_10.below b_11
  clear B_10 kc_10 kd_10 mi_10 mj_10 q_10 xb_10 b_11
  obtain ⟨c_q0, c_q1⟩ := q_11.two
  obtain ⟨c_xb0, c_xb1⟩ := xb_11.two
  clear c_q0 c_q1 c_xb0 c_xb1
  have hn0 : w11.cell? ⟨w.heap.size, 0, none⟩ = some (.slice a n cap) ∧ w11.cell? ⟨w.heap.size, 1, none⟩ = some (.slice c m cap') ∧ w11.cell? ⟨w8.heap.size, 0, none⟩ = some (.slice (some ⟨P12, 0, none⟩) n n) ∧ w11.cell? ⟨w8.heap.size, 1, none⟩ = some (.slice (some ⟨P22, 0, none⟩) m m) := ⟨q_11.cell 0, q_11.cell 1, xb_11.cell 0, xb_11.cell 1⟩
  have hvv : (v != v) = false := by simp
  go_upto_region 18 with fail
  go_region_held3 (fun w' => w'.cell? ⟨w.heap.size, 0, none⟩ = some (.slice a n cap) ∧ w'.cell? ⟨w.heap.size, 1, none⟩ = some (.slice c m cap') ∧ w'.cell? ⟨w8.heap.size, 0, none⟩ = some (.slice (some ⟨P12, 0, none⟩) n n) ∧ w'.cell? ⟨w8.heap.size, 1, none⟩ = some (.slice (some ⟨P22, 0, none⟩) m m)) (first | with_reducible assumption | exact hn0)
    (first
      | (go_at_call 11
         refine (toT_any _ _ _ _ _ _ C D _ (by exact hC.below B_11.drew) (by exact hD.below B_11.drew) hn1 hm1).mono ?_
         rintro ee w12 ⟨Y1, Y2, rfl, bd_12, -, -, ky, kz⟩
         have b_12 := below_of_drew bd_12
         have B_12 := B_11.trans (b_12.mono B_11.size)
         have q_12 := q_11.below b_12
         have kc_12 := kc_11.below b_12
         have kd_12 := kd_11.below b_12
         have xb_12 := xb_11.below b_12
         have mi_12 := mi_11.below b_12
         have mj_12 := mj_11.below b_12
         have hn1_ : w12.cell? ⟨w.heap.size, 0, none⟩ = some (.slice a n cap) ∧ w12.cell? ⟨w.heap.size, 1, none⟩ = some (.slice c m cap') ∧ w12.cell? ⟨w8.heap.size, 0, none⟩ = some (.slice (some ⟨P12, 0, none⟩) n n) ∧ w12.cell? ⟨w8.heap.size, 1, none⟩ = some (.slice (some ⟨P22, 0, none⟩) m m) := ⟨q_12.cell 0, q_12.cell 1, xb_12.cell 0, xb_12.cell 1⟩)
      | (go_at_call 13
         refine (eqT_same _ _ _ _ _ _ C D _ _ _ _ _ (by exact kc_12.ints' HC.out) (by exact kd_12.ints' HD.out) (by exact ky.ints' HC.out) (by exact kz.ints' HD.out) hn1 hm1).mono ?_
         rintro ee w13 ⟨rfl, b_13⟩
         have B_13 := B_12.trans (b_13.mono B_12.size)
         have q_13 := q_12.below b_13
         have kc_13 := kc_12.below b_13
         have kd_13 := kd_12.below b_13
         have xb_13 := xb_12.below b_13
         have mi_13 := mi_12.below b_13
         have mj_13 := mj_12.below b_13
         have hn2_ : w13.cell? ⟨w.heap.size, 0, none⟩ = some (.slice a n cap) ∧ w13.cell? ⟨w.heap.size, 1, none⟩ = some (.slice c m cap') ∧ w13.cell? ⟨w8.heap.size, 0, none⟩ = some (.slice (some ⟨P12, 0, none⟩) n n) ∧ w13.cell? ⟨w8.heap.size, 1, none⟩ = some (.slice (some ⟨P22, 0, none⟩) m m) := ⟨q_13.cell 0, q_13.cell 1, xb_13.cell 0, xb_13.cell 1⟩))
  go_wp2_with fail
  refine (toIS_any _ _ _ ss _ HN.out (hF.below B_13) hN).mono ?_
  rintro r w14 ⟨vs, rfl, hg3, hc3, b_14, mu_14⟩
  have B_14 := B_13.trans (b_14.mono B_13.size)
  have mi_14 := mi_13.below b_14
  have mj_14 := mj_13.below b_14
  clear B_13 mi_13 mj_13 b_14
  go_wp2_with fail
  refine (eqIS_same _ _ _ _ _ ts2 vs _ HG.out hg3 mi_14.g mu_14.g hN (copies_sameI HG.out hg3 HC2.out hc3)).mono ?_
  rintro r w15 ⟨rfl, b_15⟩
  have B_15 := B_14.trans (b_15.mono B_14.size)
  have mj_15 := mj_14.below b_15
  clear B_14 mi_14 mj_14 mu_14 b_15
  go_wp2_with fail
  refine (toIS_any _ _ _ ls _ HL.out (hG.below B_15) hLL).mono ?_
  rintro r w16 ⟨xs, rfl, hg4, hc4, b_16, mv_16⟩
  have B_16 := B_15.trans (b_16.mono B_15.size)
  have mj_16 := mj_15.below b_16
  clear B_15 mj_15 b_16
  go_wp2_with fail
  refine (eqIS_same _ _ _ _ _ us2 xs _ HH.out hg4 mj_16.g mv_16.g hLL (copies_sameI HH.out hg4 HD2.out hc4)).mono ?_
  rintro r w17 ⟨rfl, b_17⟩
  have B_17 := B_16.trans (b_17.mono B_16.size)
  clear B_16 mj_16 mv_16 b_17
  go_wp2
  go_ret
  exact ⟨rfl, B_17⟩

/-! ### The row's step -/
set_option maxRecDepth 100000 in
theorem lifted (os : Os) (started : os.Started) (H : Type) (enc : TypeId × Value → H) :
    ReturnsInHanded {} Try.checked os 6 .any (Rows.fnExactTrtAllSpec.pre6 enc Try.prog Try.f6 Rows.fnExactTrtAllRow.domain false) (Rows.fnExactTrtAllSpec.post enc Try.prog Try.f6 false true false false) := by
  refine returnsInHanded_of_change (C := Try.checked) own started (by kernel_rfl) Try.func6
    (ChangeSpec.witness6 (enc := enc) (C := Try.checked) false ⟨#[], #[.agg #[.slice none 0 0, .slice none 0 0], .slice none 0 0, .slice none 0 0], []⟩ 8 (by kernel_rfl) (by kernel_rfl) (by kernel_rfl) (by kernel_rfl)) ?_
  intro W base args ds gs before hval0 hW hcnd _
  have hval : ∀ (j : Nat) t v, Try.f6.params[j]? = some t → args[j]? = some v → Value.okWide Try.prog W .any base t v := hval0
  have hW' := hW
  obtain ⟨p, q, hA0, hV, rfl, hfz, hnd⟩ := hW
  have hA : DataW.TrodAll enc Try.prog W 0 (fun _ => true) true Try.f6.params.toList args.toList ds p := hA0
  rw [Try.params6] at hA hval
  obtain ⟨v0, vs0, d0, ds0, p0, q0, hargs, rfl, rfl, h0, r0⟩ := trodAll_cons hA
  obtain ⟨v1, vs1, d1, ds1, p1, q1, rfl, rfl, rfl, h1, r1⟩ := trodAll_cons r0
  obtain ⟨v2, vs2, d2, ds2, p2, q2, rfl, rfl, rfl, h2, r2⟩ := trodAll_cons r1
  obtain ⟨rfl, rfl, rfl⟩ := trodAll_nil r2
  obtain rfl : args = #[v0, v1, v2] := by cases args; simp_all
  obtain ⟨rfl, rfl⟩ := trodVars_none hV
  have k0 := h0
  have lt0 : ∀ x ∈ p0, x.block < W.heap.size := by obtain ⟨m, hm⟩ := k0; exact DataW.trod_lt m _ _ _ hm
  obtain ⟨a0, n0, cap0, c0, m0, cap0', C0, D0, rfl, hC0, hD0, hn0, hm0⟩ := open_treaty (hval 0 24 v0 rfl rfl) h0
  have k1 := h1
  have lt1 : ∀ x ∈ p1, x.block < W.heap.size := by obtain ⟨m, hm⟩ := k1; exact DataW.trod_lt m _ _ _ hm
  obtain ⟨a1, n1, cap1, ss1, rfl, hl1, hF1, hn1⟩ := open_IS (hval 1 33 v1 rfl rfl) h1
  have k2 := h2
  have lt2 : ∀ x ∈ p2, x.block < W.heap.size := by obtain ⟨m, hm⟩ := k2; exact DataW.trod_lt m _ _ _ hm
  obtain ⟨a2, n2, cap2, ss2, rfl, hl2, hF2, hn2⟩ := open_IS (hval 2 33 v2 rfl rfl) h2
  clear hA0 hval0
  refine (walk W a0 n0 cap0 c0 m0 cap0' C0 D0 hC0 hD0 hn0 hm0 a1 n1 cap1 ss1 hl1 hF1 hn1 a2 n2 cap2 ss2 hl2 hF2 hn2).mono fun e W' ⟨he, bel⟩ => ?_
  subst he
  exact ⟨_, rfl, _, _, _, [], _, [], hW', trodAll_mk1 (shut_bool Try.underlying4 _), (trodAll_cons_mk (Below.trod laidOut (by kernel_rfl) (of_decide_eq_true (by kernel_rfl)) k0 bel lt0) (trodAll_cons_mk (Below.trod laidOut (by kernel_rfl) (of_decide_eq_true (by kernel_rfl)) k1 bel lt1) (trodAll_cons_mk (Below.trod laidOut (by kernel_rfl) (of_decide_eq_true (by kernel_rfl)) k2 bel lt2) trodAll_mk0))), rfl, bel.frame _, fun h => by cases h⟩

theorem over : Rows.fnExactTrtAllRow.holds Try.pinned (OpenSpec.ofChange Rows.fnExactTrtAllSpec) :=
  OpenClaim.holds_of_wide 6 Try.f6 rfl rfl rfl rfl rfl rfl rfl ⟨rfl, rfl, rfl, rfl, rfl⟩ rfl rfl rfl rfl rfl (by kernel_rfl) Try.func6 (by kernel_rfl)
    (of_decide_eq_true (by kernel_rfl)) (by unfold Func.isWrapper; first | (rw [if_pos (by decide +kernel)]; kernel_rfl) | (rw [if_neg (by decide +kernel)]; exact ⟨rfl, rfl⟩))
    (fun os started H enc _ => lifted os started H enc)

end Go.Proofs.Ytmbhcngddpoonaa.fnExactTrtAll
namespace Go.Proofs.Ytmbhcngddpoonaa
/-- The statement. -/
theorem fnExactTrtAll_holds : Rows.FnExactTrtAllSaid := fnExactTrtAll.over
#print axioms fnExactTrtAll_holds
end Go.Proofs.Ytmbhcngddpoonaa
