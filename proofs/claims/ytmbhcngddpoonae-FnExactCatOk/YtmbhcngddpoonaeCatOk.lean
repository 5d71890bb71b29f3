/-
  For all slices of slices of lines FnExactCatOk returns true, and they read behind the call as they did. No condition.
-/
import Derived.Test.YtmbhcngddpoonaeCat
namespace Go.Proofs.Ytmbhcngddpoonae.fnExactCatOk
open Go.ChangeShapes Go.WideShapes Go.ChangeAt Go.RowKit
set_option linter.unusedVariables false

theorem copies_map {ss ts : List L2V} (hl : ts.length = ss.length) (h : copiesL2S ss ts) : ts.map L2V.ok = ss.map L2V.ok := by
  apply List.ext_getElem?
  intro i
  by_cases hi : i < ts.length
  · obtain ⟨e1, e2, e3⟩ := h i hi
    have : (ts[i]?.getD noL).ok = (ss[i]?.getD noL).ok := by rw [L2V.ok, L2V.ok, e1]; exact copiesL_act e2 e3
    rw [List.getElem?_eq_getElem hi, List.getElem?_eq_getElem (by omega)] at this
    simp only [Option.getD_some] at this
    rw [List.getElem?_map, List.getElem?_map, List.getElem?_eq_getElem hi, List.getElem?_eq_getElem (by omega)]
    simp [this]
  · rw [List.getElem?_eq_none (by simp; omega), List.getElem?_eq_none (by simp; omega)]
theorem copies_same {ss ts us : List L2V} {N : Nat} (h1 : ts.length = N) (h2 : us.length = N) (c1 : copiesL2S ss ts) (c2 : copiesL2S ss us) (hl : ∀ i, i < N → (ts[i]?.getD noL).x.length = (ts[i]?.getD noL).n) (hl2 : ∀ i, i < N → (us[i]?.getD noL).x.length = (us[i]?.getD noL).n) : ∀ i, i < N → sameL2 (ts[i]?.getD noL) (us[i]?.getD noL) := fun i hi => by
  obtain ⟨a1, a2, a3⟩ := c1 i (by omega)
  obtain ⟨b1, b2, b3⟩ := c2 i (by omega)
  refine ⟨by rw [a1, b1], fun j hj => ?_⟩
  have e1 := hl i hi
  have e2 := hl2 i hi
  exact copiesL_same (N := (ts[i]?.getD noL).n) e1 (by rw [b2, ← a2]; exact e1) a3 b3 j hj

set_option maxRecDepth 100000 in
set_option maxHeartbeats 6400000 in
theorem walk (w : World) (ad : Option Addr) (N cap : Nat) (ss : List L2V) (hl : ss.length = N) (hM : LSM w ad ss) (hN1 : N ≤ maxLen) :
    Calls Try.prog 5 #[.slice ad N cap] w fun e w' => e = .returned (.bool true) ∧ Below w.heap.size w w' := by
  have HN : Hid (ss.length = N) := hl
  clear hl
  go_enter Try.func5, Try.ntmps5
  go_wp2_with fail
  refine (szL2S_any _ _ _ ss _ _ HN.out hM hN1 (by omega) (by omega)).mono ?_
  rintro e w1 ⟨r, rfl, p1, q1, s1, b1⟩
  by_cases hr : r < 0
  · go_wp2
    go_ret
    exact ⟨rfl, b1⟩
  have hr' : 0 ≤ r := by omega
  obtain ⟨hN, hsz⟩ := s1 hr'
  have hF := hM.g hsz
  clear hM s1 hsz p1 q1 hr
  obtain ⟨v, hv⟩ : ∃ v, v = catB N ss := ⟨_, rfl⟩
  have same : ∀ ts, ts.length = N → copiesL2S ss ts → catB N ts = v := fun ts h1 h2 => by
    have h3 := copies_map (by rw [h1, HN.out]) h2
    have e1 : ∀ xs : List L2V, xs.all L2V.ok = (xs.map L2V.ok).all id := fun xs => by simp [List.all_map]
    rw [hv, catB, catB, e1, e1, h3]
  have HS : Hid _ := same
  clear same hv
  go_wp2_with fail
  refine (toL2S_any _ _ _ ss _ HN.out (hF.below b1) hN).mono ?_
  rintro e w2 ⟨ts, rfl, hg, hc, b2, m2⟩
  have B2 := b1.trans (b2.mono b1.size)
  clear b1 b2
  go_wp2_with fail
  refine (scat_any _ _ _ ts _ hg m2.g hN).mono ?_
  rintro e w3 ⟨rfl, b3⟩
  rw [HS.out ts hg hc]
  have B3 := B2.trans (b3.mono B2.size)
  clear b3 B2 m2 hc hg
  clear ts
  go_wp2_with fail
  refine (toL2S_any _ _ _ ss _ HN.out (hF.below B3) hN).mono ?_
  rintro e w4 ⟨ts, rfl, hg, hc, b4, m4⟩
  have HG : Hid (ts.length = N) := hg
  have HC : Hid (copiesL2S ss ts) := hc
  have B4 := B3.trans (b4.mono B3.size)
  clear b4 B3 hg hc
  go_wp2_with fail
  refine (icat_any _ _ _ ts _ HG.out m4.g hN).mono ?_
  rintro e w6 ⟨rfl, b6⟩
  rw [HS.out ts HG.out HC.out]
  have B6 := B4.trans (b6.mono B4.size)
  have m6 := m4.below b6
  clear b6 B4 m4
  have hvv : (v != v) = false := by cases v <;> rfl
  go_wp2_with fail
  refine (toL2S_any _ _ _ ss _ HN.out (hF.below B6) hN).mono ?_
  rintro e w7 ⟨us, rfl, hg2, hc2, b7, m7⟩
  have B7 := B6.trans (b7.mono B6.size)
  have m67 := m6.below b7
  clear b7 B6 m6
  have hx1 : ∀ i, i < N → (ts[i]?.getD noL).x.length = (ts[i]?.getD noL).n := fun i hi => by
    obtain ⟨b, off, _, _, h⟩ := m67.g i (by rw [HG.out]; exact hi)
    exact h.1
  have hx2 : ∀ i, i < N → (us[i]?.getD noL).x.length = (us[i]?.getD noL).n := fun i hi => by
    obtain ⟨b, off, _, _, h⟩ := m7.g i (by rw [hg2]; exact hi)
    exact h.1
  have HSM : Hid _ := copies_same HG.out hg2 HC.out hc2 hx1 hx2
  clear hx1 hx2
  go_wp2_with fail
  refine (eqL2S_same _ _ _ _ _ ts us _ HG.out hg2 m67.g m7.g hN HSM.out).mono ?_
  rintro e w8 ⟨rfl, b8⟩
  have B8 := B7.trans (b8.mono B7.size)
  go_wp2
  go_ret
  exact ⟨rfl, B8⟩

/-! ### The row's step -/
set_option maxRecDepth 100000 in
theorem lifted (os : Os) (started : os.Started) (H : Type) (enc : TypeId × Value → H) :
    ReturnsInHanded {} Try.checked os 5 .any (Rows.fnExactCatOkSpec.pre6 enc Try.prog Try.f5 Rows.fnExactCatOkRow.domain false) (Rows.fnExactCatOkSpec.post enc Try.prog Try.f5 false true false false) := by
  refine returnsInHanded_of_change (C := Try.checked) own started (by kernel_rfl) Try.func5
    (ChangeSpec.witness6 (enc := enc) (C := Try.checked) false ⟨#[], #[.slice none 0 0], []⟩ 8 (by kernel_rfl) (by kernel_rfl) (by kernel_rfl) (by kernel_rfl)) ?_
  intro W base args ds gs before hval0 hW hcnd _
  have hval : ∀ (j : Nat) t v, Try.f5.params[j]? = some t → args[j]? = some v → Value.okWide Try.prog W .any base t v := hval0
  have hW' := hW
  obtain ⟨p, q, hA0, hV, rfl, hfz, hnd⟩ := hW
  have hA : DataW.TrodAll enc Try.prog W 0 (fun _ => true) true Try.f5.params.toList args.toList ds p := hA0
  rw [Try.params5] at hA hval
  obtain ⟨v0, vs0, d0, ds0, p0, q0, hargs, rfl, rfl, h0, r0⟩ := trodAll_cons hA
  obtain ⟨rfl, rfl, rfl⟩ := trodAll_nil r0
  obtain rfl : args = #[v0] := by cases args; simp_all
  obtain ⟨rfl, rfl⟩ := trodVars_none hV
  have k0 := h0
  have lt0 : ∀ x ∈ p0, x.block < W.heap.size := by obtain ⟨m, hm⟩ := k0; exact DataW.trod_lt m _ _ _ hm
  obtain ⟨a0, n0, cap0, ss0, rfl, hl0, hF0, hn0⟩ := open_LS (hval 0 41 v0 rfl rfl) h0
  clear hA0 hval0
  refine (walk W a0 n0 cap0 ss0 hl0 hF0 hn0).mono fun e W' ⟨he, bel⟩ => ?_
  subst he
  exact ⟨_, rfl, _, _, _, [], _, [], hW', trodAll_mk1 (shut_bool Try.underlying4 _), (trodAll_cons_mk (Below.trod laidOut (by kernel_rfl) (of_decide_eq_true (by kernel_rfl)) k0 bel lt0) trodAll_mk0), rfl, bel.frame _, fun h => by cases h⟩

theorem over : Rows.fnExactCatOkRow.holds Try.pinned (OpenSpec.ofChange Rows.fnExactCatOkSpec) :=
  OpenClaim.holds_of_wide 5 Try.f5 rfl rfl rfl rfl rfl rfl rfl ⟨rfl, rfl, rfl, rfl, rfl⟩ rfl rfl rfl rfl rfl (by kernel_rfl) Try.func5 (by kernel_rfl)
    (of_decide_eq_true (by kernel_rfl)) (by unfold Func.isWrapper; first | (rw [if_pos (by decide +kernel)]; kernel_rfl) | (rw [if_neg (by decide +kernel)]; exact ⟨rfl, rfl⟩))
    (fun os started H enc _ => lifted os started H enc)

end Go.Proofs.Ytmbhcngddpoonae.fnExactCatOk
namespace Go.Proofs.Ytmbhcngddpoonae
/-- The statement. -/
theorem fnExactCatOk_holds : Rows.FnExactCatOkSaid := fnExactCatOk.over
#print axioms fnExactCatOk_holds
end Go.Proofs.Ytmbhcngddpoonae
