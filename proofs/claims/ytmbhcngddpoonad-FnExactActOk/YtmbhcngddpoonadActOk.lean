/-
  For every slice of lines FnExactActOk returns true, and the lines read behind the call as they did. No condition.
-/
import Derived.Test.YtmbhcngddpoonadAct
namespace Go.Proofs.Ytmbhcngddpoonad.fnExactActOk
open Go.ChangeShapes Go.WideShapes Go.ChangeAt Go.RowKit
set_option linter.unusedVariables false

theorem copiesL_same {fs gs hs : List LV} {N : Nat} (hg : gs.length = N) (hh : hs.length = N) (h1 : copiesL fs gs) (h2 : copiesL fs hs) : ∀ i, i < N → sameL (gs[i]?.getD noLV) (hs[i]?.getD noLV) := fun i hi => by
  obtain ⟨a1, a2, a3, a4, a5, a6, _⟩ := h1 i (by omega)
  obtain ⟨b1, b2, b3, b4, b5, b6, _⟩ := h2 i (by omega)
  refine ⟨by rw [a1, b1], by rw [a2, b2], by rw [a3, b3], ?_⟩
  rw [a4, a5, a6, b4, b5, b6]
  exact eqF_refl _ _ _
theorem copiesL_map {α : Type} (P : LV → α) (hP : ∀ f g : LV, f.kind = g.kind → f.pot = g.pot → f.skip = g.skip → f.f.C = g.f.C → f.f.D = g.f.D → f.f.K = g.f.K → f.f.n = g.f.n → f.f.m = g.f.m → P f = P g) {fs gs : List LV} (hl : gs.length = fs.length) (h : copiesL fs gs) : gs.map P = fs.map P := by
  apply List.ext_getElem?
  intro i
  by_cases hi : i < gs.length
  · obtain ⟨a1, a2, a3, a4, a5, a6, a7, a8⟩ := h i hi
    have := hP _ _ a1 a2 a3 a4 a5 a6 a7 a8
    rw [List.getElem?_eq_getElem hi, List.getElem?_eq_getElem (by omega)] at this
    simp only [Option.getD_some] at this
    rw [List.getElem?_map, List.getElem?_map, List.getElem?_eq_getElem hi, List.getElem?_eq_getElem (by omega)]
    simp [this]
  · rw [List.getElem?_eq_none (by simp; omega), List.getElem?_eq_none (by simp; omega)]
theorem copiesL_act {fs gs : List LV} {N : Nat} (hl : gs.length = fs.length) (h : copiesL fs gs) : actB N gs = actB N fs := by
  have h1 := copiesL_map LV.ok (fun f g a1 a2 a3 a4 a5 a6 a7 a8 => by simp only [LV.ok, a1, a2, a3, a4, a5, a6, a7, a8]) hl h
  have h2 := copiesL_map LV.tst (fun f g a1 a2 a3 a4 a5 a6 a7 a8 => by simp only [LV.tst, a1]) hl h
  have e1 : ∀ xs : List LV, xs.all LV.ok = (xs.map LV.ok).all id := fun xs => by simp [List.all_map]
  have e2 : ∀ xs : List LV, tests xs = (xs.map LV.tst).countP id := fun xs => by simp [tests, List.countP_map]
  rw [actB, actB, e1, e1, e2, e2, h1, h2]

set_option maxRecDepth 100000 in
set_option maxHeartbeats 6400000 in
theorem walk (w : World) (ad : Option Addr) (N cap : Nat) (ls : List LV) (hl : ls.length = N) (hM : LinesM w ad ls) (hN1 : N ≤ maxLen) :
    Calls Try.prog 5 #[.slice ad N cap] w fun e w' => e = .returned (.bool true) ∧ Below w.heap.size w w' := by
  have HN : Hid (ls.length = N) := hl
  clear hl
  go_enter Try.func5, Try.ntmps5
  go_wp2_with fail
  refine (szLS_any _ _ _ ls _ _ HN.out hM hN1 (by omega) (by omega)).mono ?_
  rintro e w1 ⟨r, rfl, p1, q1, s1, b1⟩
  by_cases hr : r < 0
  · go_wp2
    go_ret
    exact ⟨rfl, b1⟩
  have hr' : 0 ≤ r := by omega
  obtain ⟨hN, hsz⟩ := s1 hr'
  have hF := hM.g hsz
  clear hM s1 hsz p1 q1 hr
  obtain ⟨v, hv⟩ : ∃ v, v = actB N ls := ⟨_, rfl⟩
  have same : ∀ gs, gs.length = N → copiesL ls gs → actB N gs = v := fun gs h1 h2 => by rw [hv]; exact copiesL_act (by rw [h1, HN.out]) h2
  have HS : Hid _ := same
  clear same hv
  go_wp2_with fail
  refine (toLS_any _ _ _ ls _ HN.out (hF.below b1) hN).mono ?_
  rintro e w2 ⟨gs, p, q, rfl, hg, hc, b2, m2⟩
  have B2 := b1.trans (b2.mono b1.size)
  clear b1 b2
  go_wp2_with fail
  refine (sact_any _ _ _ gs _ hg m2.g hN).mono ?_
  rintro e w3 ⟨rfl, b3⟩
  rw [HS.out gs hg hc]
  have B3 := B2.trans (b3.mono B2.size)
  clear b3 B2 m2 hc hg
  clear gs p q
  go_wp2_with fail
  refine (toLS_any _ _ _ ls _ HN.out (hF.below B3) hN).mono ?_
  rintro e w4 ⟨gs, p, q, rfl, hg, hc, b4, m4⟩
  have HG : Hid (gs.length = N) := hg
  have HC : Hid (copiesL ls gs) := hc
  have B4 := B3.trans (b4.mono B3.size)
  clear b4 B3 hg hc
  go_wp2_with fail
  refine (iact_any _ _ _ gs _ HG.out m4.g hN).mono ?_
  rintro e w5 ⟨rfl, b5⟩
  rw [HS.out gs HG.out HC.out]
  have B5 := B4.trans (b5.mono B4.size)
  have m5 := m4.below b5
  clear b5 B4 m4
  have hvv : (v != v) = false := by cases v <;> rfl
  go_wp2_with fail
  refine (toLS_any _ _ _ ls _ HN.out (hF.below B5) hN).mono ?_
  rintro e w6 ⟨gs2, p2, q2, rfl, hg2, hc2, b6, m6⟩
  have B6 := B5.trans (b6.mono B5.size)
  have m56 := m5.below b6
  clear b6 B5 m5
  go_wp2_with fail
  refine (eqLS_same _ _ _ _ _ gs gs2 _ HG.out hg2 m56.g m6.g hN (copiesL_same HG.out hg2 HC.out hc2)).mono ?_
  rintro e w7 ⟨rfl, b7⟩
  have B7 := B6.trans (b7.mono B6.size)
  go_wp2
  go_ret
  exact ⟨rfl, B7⟩

/-! ### The row's step -/
set_option maxRecDepth 100000 in
theorem lifted (os : Os) (started : os.Started) (H : Type) (enc : TypeId × Value → H) :
    ReturnsInHanded {} Try.checked os 5 .any (Rows.fnExactActOkSpec.pre6 enc Try.prog Try.f5 Rows.fnExactActOkRow.domain false) (Rows.fnExactActOkSpec.post enc Try.prog Try.f5 false true false false) := by
  refine returnsInHanded_of_change (C := Try.checked) own started (by kernel_rfl) Try.func5
    (ChangeSpec.witness6 (enc := enc) (C := Try.checked) false ⟨#[], #[.slice none 0 0], []⟩ 8 (by kernel_rfl) (by kernel_rfl) (by kernel_rfl) (by kernel_rfl)) ?_
  intro W base args ds gs before hval0 hW hcnd _
  have hval : ∀ (j : Nat) t v, Try.f5.params[j]? = some t → args[j]? = some v → Value.okWide Try.prog W .any base t v := hval0
  have hW' := hW
  obtain ⟨p, q, hA0, hV, rfl, hfz, hnd⟩ := hW
  have hA : DataW.TrodAll enc Try.prog W 0 (fun _ => true) true Try.f5.params.toList args.toList ds p := hA0
  rw [Try.params5] at hA hval
  obtain ⟨v0, vs0, d0, ds0, p0, q0, hargs, rfl, rfl, h0, r0⟩ := trodAll_cons hA
  obtain ⟨rfl, rfl, rfl⟩ := trodAll_nil r0
  obtain rfl : args = #[v0] := by cases args; simp_all
  obtain ⟨rfl, rfl⟩ := trodVars_none hV
  have k0 := h0
  have lt0 : ∀ x ∈ p0, x.block < W.heap.size := by obtain ⟨m, hm⟩ := k0; exact DataW.trod_lt m _ _ _ hm
  obtain ⟨a0, n0, cap0, ls0, rfl, hl0, hF0, hn0⟩ := open_lines (hval 0 43 v0 rfl rfl) h0
  clear hA0 hval0
  refine (walk W a0 n0 cap0 ls0 hl0 hF0 hn0).mono fun e W' ⟨he, bel⟩ => ?_
  subst he
  exact ⟨_, rfl, _, _, _, [], _, [], hW', trodAll_mk1 (shut_bool Try.underlying4 _), (trodAll_cons_mk (Below.trod laidOut (by kernel_rfl) (of_decide_eq_true (by kernel_rfl)) k0 bel lt0) trodAll_mk0), rfl, bel.frame _, fun h => by cases h⟩

theorem over : Rows.fnExactActOkRow.holds Try.pinned (OpenSpec.ofChange Rows.fnExactActOkSpec) :=
  OpenClaim.holds_of_wide 5 Try.f5 rfl rfl rfl rfl rfl rfl rfl ⟨rfl, rfl, rfl, rfl, rfl⟩ rfl rfl rfl rfl rfl (by kernel_rfl) Try.func5 (by kernel_rfl)
    (of_decide_eq_true (by kernel_rfl)) (by unfold Func.isWrapper; first | (rw [if_pos (by decide +kernel)]; kernel_rfl) | (rw [if_neg (by decide +kernel)]; exact ⟨rfl, rfl⟩))
    (fun os started H enc _ => lifted os started H enc)

end Go.Proofs.Ytmbhcngddpoonad.fnExactActOk
namespace Go.Proofs.Ytmbhcngddpoonad
/-- The statement. -/
theorem fnExactActOk_holds : Rows.FnExactActOkSaid := fnExactActOk.over
#print axioms fnExactActOk_holds
end Go.Proofs.Ytmbhcngddpoonad
