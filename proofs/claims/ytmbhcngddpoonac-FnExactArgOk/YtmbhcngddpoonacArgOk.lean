/-
  For every slice of ints FnExactArgOk returns true, and the slice reads behind the call as it did. No condition.
-/
import Derived.Test.YtmbhcngddpoonacWalks
namespace Go.Proofs.Ytmbhcngddpoonac.fnExactArgOk
open Go.ChangeShapes Go.WideShapes Go.ChangeAt Go.RowKit
open Go.ChangeMaps (open_string shut_string)
set_option linter.unusedVariables false

theorem walk (a0 : Option Addr) (len0 cap0 : Nat) (z0 : List Int) (w : World) (w0 : IsRow .i64 w a0 len0 cap0 z0) :
    Calls Try.prog 5 #[.slice a0 len0 cap0] w fun e w' => e = .returned (.bool true) ∧ Below w.heap.size w w' := by
  have hI := w0.ints
  clear w0
  by_cases hn : len0 ≤ 1048576
  · go_enter Try.func5, Try.ntmps5
    go_wp2_with fail
    refine (to_any _ _ _ _ _ hI hn).mono ?_
    rintro e w1 ⟨rfl, b1, k1⟩
    have I1 := k1.ints' hI.1
    go_wp2_with fail
    refine (sarg_any _ _ _ _ _ I1 hn).mono ?_
    rintro e w1' ⟨rfl, rfl⟩
    go_wp2_with fail
    refine (to_any _ _ _ _ _ (hI.below b1) hn).mono ?_
    rintro e w2 ⟨rfl, b2, k2⟩
    have I2 := k2.ints' hI.1
    go_wp2_with fail
    refine (iarg_any _ _ _ _ _ I2 hn).mono ?_
    rintro e w2' ⟨rfl, rfl⟩
    have b12 : Below w.heap.size w w2' := b1.trans (b2.mono b1.size)
    go_wp2_with fail
    refine (to_any _ _ _ _ _ (hI.below b12) hn).mono ?_
    rintro e w3 ⟨rfl, b3, k3⟩
    have I3 := k3.ints' hI.1
    have b13 : Below w.heap.size w w3 := b12.trans (b3.mono b12.size)
    go_wp2_with fail
    refine (eq_any _ _ _ _ _ _ _ _ _ (I2.below b3) I3 hn hn).mono ?_
    rintro e w4 ⟨rfl, b4⟩
    have he := eqB_refl (z0.take len0)
    go_wp2
    go_ret
    exact ⟨rfl, b13.trans (b4.mono b13.size)⟩
  · go_enter Try.func5, Try.ntmps5
    go_wp2
    go_ret
    exact ⟨rfl, Below.refl _ _⟩

/-! ### THE ROW's STEP: WRITTEN OUT: LEAVE IT -/
set_option maxRecDepth 100000 in
theorem lifted (os : Os) (started : os.Started) (H : Type) (enc : TypeId × Value → H) :
    ReturnsInHanded {} Try.checked os 5 .any (Rows.fnExactArgOkSpec.pre6 enc Try.prog Try.f5 Rows.fnExactArgOkRow.domain false) (Rows.fnExactArgOkSpec.post enc Try.prog Try.f5 false true false false) := by
  refine returnsInHanded_of_change (C := Try.checked) own started (by kernel_rfl) Try.func5
    (ChangeSpec.witness6 (enc := enc) (C := Try.checked) false ⟨#[], #[.slice none 0 0], []⟩ 8 (by kernel_rfl) (by kernel_rfl) (by kernel_rfl) (by kernel_rfl)) ?_
  intro W base args ds gs before hval0 hW hcnd _
  have hval : ∀ (j : Nat) t v, Try.f5.params[j]? = some t → args[j]? = some v → Value.okWide Try.prog W .any base t v := hval0
  have hW' := hW
  obtain ⟨p, q, hA0, hV, rfl, hfz, hnd⟩ := hW
  have hA : DataW.TrodAll enc Try.prog W 0 (fun _ => true) true Try.f5.params.toList args.toList ds p := hA0
  rw [Try.params5] at hA hval
  obtain ⟨v0, vs0, d0, ds0, p0, q0, hargs, rfl, rfl, h0, r0⟩ := trodAll_cons hA
  obtain ⟨rfl, rfl, rfl⟩ := trodAll_nil r0
  obtain rfl : args = #[v0] := by cases args; simp_all
  obtain ⟨rfl, rfl⟩ := trodVars_none hV
  obtain ⟨a0, len0, cap0, rfl⟩ := okWide_slice Try.underlying22 (hval 0 22 v0 rfl rfl)
  have k0 := h0
  have lt0 : ∀ x ∈ p0, x.block < W.heap.size := by obtain ⟨m, hm⟩ := k0; exact DataW.trod_lt m _ _ _ hm
  obtain ⟨z0, w0⟩ : ∃ zs, IsRow .i64 W a0 len0 cap0 zs := by
    obtain ⟨fuel, hf⟩ := h0
    rcases open_ints Try.underlying22 Try.underlying3 (by kernel_rfl) hf with ⟨hcs, _⟩ | ⟨x, l, c, zs, hcs, _, hl, hm, hz, _, hcell, hwz⟩
    · simp [Value.cells] at hcs
      obtain ⟨rfl, rfl, rfl⟩ := hcs
      exact ⟨[], .inl ⟨rfl, rfl, rfl, rfl⟩⟩
    · simp [Value.cells] at hcs
      obtain ⟨rfl, rfl, rfl⟩ := hcs
      exact ⟨zs, .inr ⟨_, rfl, hl, hm, by simpa using hz, hcell, hwz⟩⟩
  clear hA0 hval0
  refine (walk a0 len0 cap0 z0 W w0).mono fun e W' ⟨he, bel⟩ => ?_
  subst he
  exact ⟨_, rfl, _, _, _, [], _, [], hW', trodAll_mk1 (shut_bool Try.underlying4 _), (trodAll_cons_mk (Below.trod laidOut (by kernel_rfl) (of_decide_eq_true (by kernel_rfl)) k0 bel lt0) trodAll_mk0), rfl, bel.frame _, fun h => by cases h⟩

theorem over : Rows.fnExactArgOkRow.holds Try.pinned (OpenSpec.ofChange Rows.fnExactArgOkSpec) :=
  OpenClaim.holds_of_wide 5 Try.f5 rfl rfl rfl rfl rfl rfl rfl ⟨rfl, rfl, rfl, rfl, rfl⟩ rfl rfl rfl rfl rfl (by kernel_rfl) Try.func5 (by kernel_rfl)
    (of_decide_eq_true (by kernel_rfl)) (by unfold Func.isWrapper; first | (rw [if_pos (by decide +kernel)]; kernel_rfl) | (rw [if_neg (by decide +kernel)]; exact ⟨rfl, rfl⟩))
    (fun os started H enc _ => lifted os started H enc)

end Go.Proofs.Ytmbhcngddpoonac.fnExactArgOk
namespace Go.Proofs.Ytmbhcngddpoonac
/-- The statement. -/
theorem fnExactArgOk_holds : Rows.FnExactArgOkSaid := fnExactArgOk.over
#print axioms fnExactArgOk_holds
end Go.Proofs.Ytmbhcngddpoonac
