/-
  For all slices of slices of lines FnExactCatForms returns true, and they read behind the call as they did. No condition.
-/
import Derived.Test.YtomlnlcgfdojnaaXCatFL
import Derived.Test.YtomlnlcgfdojnaaPackI
namespace Go.Proofs.Ytomlnlcgfdojnaa.fnExactCatForms
open Go.ChangeShapes Go.WideShapes Go.ChangeAt Go.RowKit
set_option linter.unusedVariables false

set_option maxRecDepth 100000 in
set_option maxHeartbeats 6400000 in
theorem walk (w : World) (ad : Option Addr) (N cap : Nat) (ss : List L2V) (hl : ss.length = N) (hM : LSM w ad ss) (hN1 : N ≤ maxLen) :
    Calls Try.prog 7 #[.slice ad N cap] w fun e w' => e = .returned (.bool true) ∧ Below w.heap.size w w' := by
  have HN : Hid (ss.length = N) := hl
  clear hl
  go_enter Try.func7, Try.ntmps7
  go_wp2_with fail
  refine (szL2S_any _ _ _ ss _ _ HN.out hM hN1 (by omega) (by omega)).mono ?_
  rintro e w1 ⟨r, rfl, p1, q1, s1, b1⟩
  by_cases hr : r < 0
  · go_wp2
    go_ret
    exact ⟨rfl, b1⟩
  have hr' : 0 ≤ r := by omega
  obtain ⟨hN, hsz⟩ := s1 hr'
  have hF := hM.g hsz
  clear hM s1 hsz p1 q1 hr
  obtain ⟨T, hT⟩ : ∃ T, T = catT (catB N ss) (catP ss) := ⟨_, rfl⟩
  have same : ∀ gs, gs.length = N → copiesL2S ss gs → catT (catB N gs) (catP gs) = T := fun gs h1 h2 => by rw [hT, copies_catP (by rw [h1, HN.out]) h2, catP_copies (by rw [h1, HN.out]) h2]
  have HS : Hid _ := same
  clear same hT
  go_wp2_with fail
  refine (toL2S_any _ _ _ ss _ HN.out (hF.below b1) hN).mono ?_
  rintro e w2 ⟨gs, rfl, hg, hc, b2, m2⟩
  have B2 := b1.trans (b2.mono b1.size)
  clear b1 b2
  go_wp2_with fail
  refine (scatforms_at T _ _ _ gs _ hg m2.g hN (HS.out gs hg hc)).mono ?_
  rintro e w3 ⟨a0, c0, t3s, rfl, b3, a3, x3, n3⟩
  have HX3 : Hid (t3s.map IV.x = T) := x3
  have nn : ¬ (1 + 3 * (T.length : Int) < 0) := by omega
  have V3 : Below w3.heap.size w3 w3 := Below.refl _ _
  clear x3
  have sz3 : w.heap.size ≤ w3.heap.size := (B2.trans (b3.mono B2.size)).size
  have B3 := B2.trans (b3.mono B2.size)
  clear b3 B2 m2 hc hg
  clear gs
  go_wp2_with fail
  refine (toL2S_any _ _ _ ss _ HN.out (hF.below B3) hN).mono ?_
  rintro e w4 ⟨gs, rfl, hg, hc, b4, m4⟩
  have HG : Hid (gs.length = N) := hg
  have HC : Hid (copiesL2S ss gs) := hc
  obtain ⟨cc, cc0, cc1, cc2⟩ := m4.d
  rw [hg] at cc1 cc2
  have HCC : Hid _ := cc2
  have HLE : Hid _ := m4.lens hg
  have l34 := m4.lt
  clear cc2
  have B4 := B3.trans (b4.mono B3.size)
  have V4 := V3.trans (b4.mono V3.size)
  clear b4 B3 hg hc V3
  go_wp2_with fail
  refine (icatforms_at T _ _ _ gs _ HG.out m4.g hN (HS.out gs HG.out HC.out)).mono ?_
  rintro e w5 ⟨ai, ci, rfl, b5, u5⟩
  have B5 := B4.trans (b5.mono B4.size)
  have m5 := m4.below b5
  have V5 := V4.trans (b5.mono V4.size)
  have z5 := b5.size
  clear b5 B4 m4 V4
  obtain ⟨t5s, g5, g5x⟩ := u5.isg
  go_wp2_with fail
  refine (eqUF _ _ _ _ T t5s t3s _ g5 g5x (a3.below V5) HX3.out n3).mono ?_
  rintro e w6 ⟨rfl, b6⟩
  have B6 := B5.trans (b6.mono B5.size)
  have m6 := m5.below b6
  have V6 := V5.trans (b6.mono V5.size)
  have u6 := u5.below b6
  have z6 := b6.size
  clear b6 B5 m5 V5 u5 g5 g5x t5s
  go_wp2_with fail
  refine (toL2S_any _ _ _ ss _ HN.out (hF.below B6) hN).mono ?_
  rintro e w7 ⟨gs2, rfl, hg2, hc2, b7, k7⟩
  have B7 := B6.trans (b7.mono B6.size)
  have m7 := m6.below b7
  have V7 := V6.trans (b7.mono V6.size)
  have u7 := u6.below b7
  have z7 := b7.size
  clear b7 B6 m6 V6 u6
  go_wp2_with fail
  refine (eqL2S_same _ _ _ _ _ gs gs2 _ HG.out hg2 m7.g k7.g hN (copies_sameP HG.out hg2 HC.out hc2 HLE.out)).mono ?_
  rintro e w8 ⟨rfl, b8⟩
  have B8 := B7.trans (b8.mono B7.size)
  have m8 := m7.below b8
  have V8 := V7.trans (b8.mono V7.size)
  have u8 := u7.below b8
  have z8 := b8.size
  clear b8 B7 m7 V7 u7 k7 hg2 hc2
  go_wp2_with fail
  refine (markL2_any _ _ _ gs cc _ _ m8 HG.out hN cc0 HCC.out (by omega) (by omega)).mono ?_
  rintro e w9 ⟨r1, rfl, r10, r11, t9⟩
  have B9 := B8.trans (t9.below B8.size (fun k hk => by omega))
  have V9 := V8.trans (t9.below V8.size (fun k hk => by omega))
  have u9 := u8.touch t9 (fun k hk => by omega)
  have z9 := t9.size
  have hr1 : ¬ r1 < 0 := by omega
  clear B8 V8 u8 m8 t9 r11
  obtain ⟨t9s, g9, g9x⟩ := u9.isg
  go_wp2_with fail
  refine (eqUF _ _ _ _ T t9s t3s _ g9 g9x (a3.below V9) HX3.out n3).mono ?_
  rintro e wa ⟨rfl, ba⟩
  have Ba := B9.trans (ba.mono B9.size)
  have Va := V9.trans (ba.mono V9.size)
  have ua := u9.below ba
  have za := ba.size
  clear ba B9 V9 u9 g9 g9x t9s
  go_wp2_with fail
  refine (markUF ai _ _ T _ _ ua n3).mono ?_
  rintro e wb ⟨rfl, tb, ub⟩
  have Bb := Ba.trans (tb.below Ba.size (fun k hk => by omega))
  have Vb := Va.trans (tb.below Va.size (fun k hk => by omega))
  have zb := tb.size
  clear Ba Va ua tb
  go_wp2_with fail
  refine (heldUF ai _ _ T _ ub n3).mono ?_
  rintro e wc' ⟨rfl, rfl⟩
  go_wp2_with fail
  refine (toL2S_any _ _ _ ss _ HN.out (hF.below Bb) hN).mono ?_
  rintro e wd ⟨gs2, rfl, hg2, hc2, bd, kd⟩
  have Bd := Bb.trans (bd.mono Bb.size)
  have Vd := Vb.trans (bd.mono Vb.size)
  have ud := ub.below bd
  clear bd Bb Vb ub
  go_wp2_with fail
  refine (icatforms_at T _ _ _ gs2 _ hg2 kd.g hN (HS.out gs2 hg2 hc2)).mono ?_
  rintro e we ⟨aj, cj, rfl, be, ue⟩
  have Be := Bd.trans (be.mono Bd.size)
  have Ve := Vd.trans (be.mono Vd.size)
  have ue2 := ud.below be
  clear be Bd Vd ud kd
  obtain ⟨tes, ge, gex⟩ := ue.isg
  go_wp2_with fail
  refine (eqUF _ _ _ _ T tes t3s _ ge gex (a3.below Ve) HX3.out n3).mono ?_
  rintro e wf ⟨rfl, bf⟩
  have Bf := Be.trans (bf.mono Be.size)
  have uf := ue2.below bf
  clear bf Be Ve ue ue2
  go_wp2_with fail
  refine (heldUF ai _ _ T _ uf n3).mono ?_
  rintro e wg ⟨rfl, rfl⟩
  go_wp2
  go_ret
  exact ⟨rfl, Bf⟩

/-! ### The row's step -/
set_option maxRecDepth 100000 in
theorem lifted (os : Os) (started : os.Started) (H : Type) (enc : TypeId × Value → H) :
    ReturnsInHanded {} Try.checked os 7 .any (Rows.fnExactCatFormsSpec.pre6 enc Try.prog Try.f7 Rows.fnExactCatFormsRow.domain false) (Rows.fnExactCatFormsSpec.post enc Try.prog Try.f7 false true false false) := by
  refine returnsInHanded_of_change (C := Try.checked) own started (by kernel_rfl) Try.func7
    (ChangeSpec.witness6 (enc := enc) (C := Try.checked) false ⟨#[], #[.slice none 0 0], []⟩ 8 (by kernel_rfl) (by kernel_rfl) (by kernel_rfl) (by kernel_rfl)) ?_
  intro W base args ds gs before hval0 hW hcnd _
  have hval : ∀ (j : Nat) t v, Try.f7.params[j]? = some t → args[j]? = some v → Value.okWide Try.prog W .any base t v := hval0
  have hW' := hW
  obtain ⟨p, q, hA0, hV, rfl, hfz, hnd⟩ := hW
  have hA : DataW.TrodAll enc Try.prog W 0 (fun _ => true) true Try.f7.params.toList args.toList ds p := hA0
  rw [Try.params7] at hA hval
  obtain ⟨v0, vs0, d0, ds0, p0, q0, hargs, rfl, rfl, h0, r0⟩ := trodAll_cons hA
  obtain ⟨rfl, rfl, rfl⟩ := trodAll_nil r0
  obtain rfl : args = #[v0] := by cases args; simp_all
  obtain ⟨rfl, rfl⟩ := trodVars_none hV
  have k0 := h0
  have lt0 : ∀ x ∈ p0, x.block < W.heap.size := by obtain ⟨m, hm⟩ := k0; exact DataW.trod_lt m _ _ _ hm
  obtain ⟨a0, n0, cap0, ss0, rfl, hl0, hF0, hn0⟩ := open_LS (hval 0 37 v0 rfl rfl) h0
  clear hA0 hval0
  refine (walk W a0 n0 cap0 ss0 hl0 hF0 hn0).mono fun e W' ⟨he, bel⟩ => ?_
  subst he
  exact ⟨_, rfl, _, _, _, [], _, [], hW', trodAll_mk1 (shut_bool Try.underlying4 _), (trodAll_cons_mk (Below.trod laidOut (by kernel_rfl) (of_decide_eq_true (by kernel_rfl)) k0 bel lt0) trodAll_mk0), rfl, bel.frame _, fun h => by cases h⟩

theorem over : Rows.fnExactCatFormsRow.holds Try.pinned (OpenSpec.ofChange Rows.fnExactCatFormsSpec) :=
  OpenClaim.holds_of_wide 7 Try.f7 rfl rfl rfl rfl rfl rfl rfl ⟨rfl, rfl, rfl, rfl, rfl⟩ rfl rfl rfl rfl rfl (by kernel_rfl) Try.func7 (by kernel_rfl)
    (of_decide_eq_true (by kernel_rfl)) (by unfold Func.isWrapper; first | (rw [if_pos (by decide +kernel)]; kernel_rfl) | (rw [if_neg (by decide +kernel)]; exact ⟨rfl, rfl⟩))
    (fun os started H enc _ => lifted os started H enc)

end Go.Proofs.Ytomlnlcgfdojnaa.fnExactCatForms
namespace Go.Proofs.Ytomlnlcgfdojnaa
/-- The statement. -/
theorem fnExactCatForms_holds : Rows.FnExactCatFormsSaid := fnExactCatForms.over
#print axioms fnExactCatForms_holds
end Go.Proofs.Ytomlnlcgfdojnaa
