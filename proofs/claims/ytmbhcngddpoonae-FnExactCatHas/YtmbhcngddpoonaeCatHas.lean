/-
  For every slice of slices of ints and every slice of ints FnExactCatHas returns true, and both read behind the call as they did. No condition.
-/
import Derived.Test.YtmbhcngddpoonaeHas
namespace Go.Proofs.Ytmbhcngddpoonae.fnExactCatHas
open Go.ChangeShapes Go.WideShapes Go.ChangeAt Go.RowKit
set_option linter.unusedVariables false

theorem copies_map {ss ts : List IV} (hl : ts.length = ss.length) (h : copiesIS ss ts) : ts.map IV.x = ss.map IV.x := by
  apply List.ext_getElem?
  intro i
  by_cases hi : i < ts.length
  · have := (h i hi).2
    rw [List.getElem?_eq_getElem hi, List.getElem?_eq_getElem (by omega)] at this
    simp only [Option.getD_some] at this
    rw [List.getElem?_map, List.getElem?_map, List.getElem?_eq_getElem hi, List.getElem?_eq_getElem (by omega)]
    simp [this]
  · rw [List.getElem?_eq_none (by simp; omega), List.getElem?_eq_none (by simp; omega)]
theorem copies_same {ss ts us : List IV} {N : Nat} (h1 : ts.length = N) (h2 : us.length = N) (c1 : copiesIS ss ts) (c2 : copiesIS ss us) : ∀ i, i < N → sameI (ts[i]?.getD noI) (us[i]?.getD noI) := fun i hi => by
  have a := (c1 i (by omega)).2
  have b := (c2 i (by omega)).2
  show _ = _
  rw [a, b]

set_option maxRecDepth 100000 in
set_option maxHeartbeats 6400000 in
theorem walk (w : World) (ad : Option Addr) (N cap : Nat) (ss : List IV) (hl : ss.length = N) (hM : ISM w ad ss) (hN1 : N ≤ maxLen) (c : Option Addr) (m cap' : Nat) (part : List Int) (hP : Ints w c m part) (hm1 : m ≤ maxLen) :
    Calls Try.prog 4 #[.slice ad N cap, .slice c m cap'] w fun e w' => e = .returned (.bool true) ∧ Below w.heap.size w w' := by
  have HN : Hid (ss.length = N) := hl
  have HP : Hid (part.length = m) := hP.1
  clear hl
  have hm2 := hm1
  unfold maxLen at hm2
  by_cases hm0 : 1048576 < m
  · go_enter Try.func4, Try.ntmps4
    go_wp2
    go_ret
    exact ⟨rfl, Below.refl _ _⟩
  have hm : m ≤ 1048576 := by omega
  clear hm0 hm1 hm2
  go_enter Try.func4, Try.ntmps4
  go_wp2_with fail
  refine (szIS_any _ _ _ ss _ _ HN.out hM hN1 (by omega) (by omega)).mono ?_
  rintro e w1 ⟨r, rfl, p1, q1, s1, b1⟩
  by_cases hr : r < 0
  · go_wp2
    go_ret
    exact ⟨rfl, b1⟩
  have hr' : 0 ≤ r := by omega
  obtain ⟨hN, hsz⟩ := s1 hr'
  have hF := hM.g hsz
  clear hM s1 hsz p1 q1 hr
  obtain ⟨v, hv⟩ : ∃ v, v = hasI ss part := ⟨_, rfl⟩
  have same : ∀ ts, ts.length = N → copiesIS ss ts → hasI ts part = v := fun ts h1 h2 => by rw [hv, hasI, hasI, copies_map (by rw [h1, HN.out]) h2]
  have HS : Hid _ := same
  clear same hv
  go_wp2_with fail
  refine (toIS_any _ _ _ ss _ HN.out (hF.below b1) hN).mono ?_
  rintro e w2 ⟨ts, rfl, hg, hc, b2, m2⟩
  have B2 := b1.trans (b2.mono b1.size)
  clear b1 b2
  go_wp2_with fail
  refine (to_any _ _ _ part _ (hP.below B2) hm).mono ?_
  rintro e w2a ⟨rfl, b2a, ka⟩
  have B2a := B2.trans (b2a.mono B2.size)
  have m2a := m2.below b2a
  clear B2 b2a m2
  go_wp2_with fail
  refine (shas_any _ _ _ ts _ _ _ part _ hg m2a.g hN (ka.ints' HP.out) hm).mono ?_
  rintro e w3 ⟨rfl, b3⟩
  rw [HS.out ts hg hc]
  have B3 := B2a.trans (b3.mono B2a.size)
  clear b3 B2a m2a hc hg ka
  clear ts
  go_wp2_with fail
  refine (toIS_any _ _ _ ss _ HN.out (hF.below B3) hN).mono ?_
  rintro e w4 ⟨ts, rfl, hg, hc, b4, m4⟩
  have HG : Hid (ts.length = N) := hg
  have HC : Hid (copiesIS ss ts) := hc
  have B4 := B3.trans (b4.mono B3.size)
  clear b4 B3 hg hc
  go_wp2_with fail
  refine (to_any _ _ _ part _ (hP.below B4) hm).mono ?_
  rintro e w5 ⟨rfl, b5, ka⟩
  have B5 := B4.trans (b5.mono B4.size)
  have m5 := m4.below b5
  clear B4 b5 m4
  go_wp2_with fail
  refine (ihas_any _ _ _ ts _ _ _ part _ HG.out m5.g hN (ka.ints' HP.out) hm).mono ?_
  rintro e w6 ⟨rfl, b6⟩
  rw [HS.out ts HG.out HC.out]
  have B6 := B5.trans (b6.mono B5.size)
  have m6 := m5.below b6
  have ka6 := ka.below b6
  clear b6 B5 m5 ka
  have hvv : (v != v) = false := by simp
  go_wp2_with fail
  refine (toIS_any _ _ _ ss _ HN.out (hF.below B6) hN).mono ?_
  rintro e w7 ⟨us, rfl, hg2, hc2, b7, m7⟩
  have B7 := B6.trans (b7.mono B6.size)
  have m67 := m6.below b7
  have ka7 := ka6.below b7
  clear b7 B6 m6 ka6
  go_wp2_with fail
  refine (eqIS_same _ _ _ _ _ ts us _ HG.out hg2 m67.g m7.g hN (copies_same HG.out hg2 HC.out hc2)).mono ?_
  rintro e w8 ⟨rfl, b8⟩
  have B8 := B7.trans (b8.mono B7.size)
  have ka8 := ka7.below b8
  clear b8 B7 m67 m7 ka7 hc2 hg2
  have heP := eqB_refl part
  go_wp2_with fail
  refine (to_any _ _ _ part _ (hP.below B8) hm).mono ?_
  rintro e w9 ⟨rfl, b9, kb⟩
  have B9 := B8.trans (b9.mono B8.size)
  have ka9 := ka8.below b9
  clear b9 B8 ka8
  go_wp2_with fail
  refine (eq_any _ _ _ _ _ _ part part _ (ka9.ints' HP.out) (kb.ints' HP.out) hm hm).mono ?_
  rintro e w10 ⟨rfl, b10⟩
  have B10 := B9.trans (b10.mono B9.size)
  go_wp2
  go_ret
  exact ⟨rfl, B10⟩

/-! ### The row's step -/
set_option maxRecDepth 100000 in
theorem lifted (os : Os) (started : os.Started) (H : Type) (enc : TypeId × Value → H) :
    ReturnsInHanded {} Try.checked os 4 .any (Rows.fnExactCatHasSpec.pre6 enc Try.prog Try.f4 Rows.fnExactCatHasRow.domain false) (Rows.fnExactCatHasSpec.post enc Try.prog Try.f4 false true false false) := by
  refine returnsInHanded_of_change (C := Try.checked) own started (by kernel_rfl) Try.func4
    (ChangeSpec.witness6 (enc := enc) (C := Try.checked) false ⟨#[], #[.slice none 0 0, .slice none 0 0], []⟩ 8 (by kernel_rfl) (by kernel_rfl) (by kernel_rfl) (by kernel_rfl)) ?_
  intro W base args ds gs before hval0 hW hcnd _
  have hval : ∀ (j : Nat) t v, Try.f4.params[j]? = some t → args[j]? = some v → Value.okWide Try.prog W .any base t v := hval0
  have hW' := hW
  obtain ⟨p, q, hA0, hV, rfl, hfz, hnd⟩ := hW
  have hA : DataW.TrodAll enc Try.prog W 0 (fun _ => true) true Try.f4.params.toList args.toList ds p := hA0
  rw [Try.params4] at hA hval
  obtain ⟨v0, vs0, d0, ds0, p0, q0, hargs, rfl, rfl, h0, r0⟩ := trodAll_cons hA
  obtain ⟨v1, vs1, d1, ds1, p1, q1, rfl, rfl, rfl, h1, r1⟩ := trodAll_cons r0
  obtain ⟨rfl, rfl, rfl⟩ := trodAll_nil r1
  obtain rfl : args = #[v0, v1] := by cases args; simp_all
  obtain ⟨rfl, rfl⟩ := trodVars_none hV
  have k0 := h0
  have lt0 : ∀ x ∈ p0, x.block < W.heap.size := by obtain ⟨m, hm⟩ := k0; exact DataW.trod_lt m _ _ _ hm
  obtain ⟨a0, n0, cap0, ss0, rfl, hl0, hF0, hn0⟩ := open_IS (hval 0 34 v0 rfl rfl) h0
  have k1 := h1
  have lt1 : ∀ x ∈ p1, x.block < W.heap.size := by obtain ⟨m, hm⟩ := k1; exact DataW.trod_lt m _ _ _ hm
  obtain ⟨a1, n1, cap1, C1, rfl, hC1, hn1⟩ := open_rowT (hval 1 22 v1 rfl rfl) h1
  clear hA0 hval0
  refine (walk W a0 n0 cap0 ss0 hl0 hF0 hn0 a1 n1 cap1 C1 hC1 hn1).mono fun e W' ⟨he, bel⟩ => ?_
  subst he
  exact ⟨_, rfl, _, _, _, [], _, [], hW', trodAll_mk1 (shut_bool Try.underlying4 _), (trodAll_cons_mk (Below.trod laidOut (by kernel_rfl) (of_decide_eq_true (by kernel_rfl)) k0 bel lt0) (trodAll_cons_mk (Below.trod laidOut (by kernel_rfl) (of_decide_eq_true (by kernel_rfl)) k1 bel lt1) trodAll_mk0)), rfl, bel.frame _, fun h => by cases h⟩

theorem over : Rows.fnExactCatHasRow.holds Try.pinned (OpenSpec.ofChange Rows.fnExactCatHasSpec) :=
  OpenClaim.holds_of_wide 4 Try.f4 rfl rfl rfl rfl rfl rfl rfl ⟨rfl, rfl, rfl, rfl, rfl⟩ rfl rfl rfl rfl rfl (by kernel_rfl) Try.func4 (by kernel_rfl)
    (of_decide_eq_true (by kernel_rfl)) (by unfold Func.isWrapper; first | (rw [if_pos (by decide +kernel)]; kernel_rfl) | (rw [if_neg (by decide +kernel)]; exact ⟨rfl, rfl⟩))
    (fun os started H enc _ => lifted os started H enc)

end Go.Proofs.Ytmbhcngddpoonae.fnExactCatHas
namespace Go.Proofs.Ytmbhcngddpoonae
/-- The statement. -/
theorem fnExactCatHas_holds : Rows.FnExactCatHasSaid := fnExactCatHas.over
#print axioms fnExactCatHas_holds
end Go.Proofs.Ytmbhcngddpoonae
