/-
  For every form FnExactFrmOk returns true, and the form reads behind the call as it did. No condition.
-/
import Derived.Test.YtmbhcngddpoonacForms
import Derived.Test.YtmbhcngddpoonacOpen
namespace Go.Proofs.Ytmbhcngddpoonac.fnExactFrmOk
open Go.ChangeShapes Go.WideShapes Go.ChangeAt Go.RowKit
set_option linter.unusedVariables false

theorem ifok_any (a : Option Addr) (n cap : Nat) (c : Option Addr) (m cap' : Nat) (K : Int) (C D : List Int) (w : World) (hC : Ints w a n C) (hD : Ints w c m D) (hn : n ≤ 1048576) (hm : m ≤ 1048576) :
    Calls Try.prog 12 #[formV a n cap c m cap' K] w fun e w' => e = .returned (.bool (formB n m C D K)) ∧ Below w.heap.size w w' := by
  go_enter Try.func12, Try.ntmps12
  go_wp2_with fail
  refine (iok_any _ _ _ _ _ _ _ C D _ (hC.alloc _) (hD.alloc _) hn hm).mono ?_
  rintro e w1 ⟨rfl, b1⟩
  go_wp2
  go_ret
  exact ⟨rfl, ((Below.refl _ _).alloc (Nat.le_refl _) _).trans (b1.mono (by simp))⟩

set_option maxHeartbeats 1600000 in
theorem walk (a : Option Addr) (n cap : Nat) (c : Option Addr) (m cap' : Nat) (K : Int) (C D : List Int) (w : World) (hC : Ints w a n C) (hD : Ints w c m D) (hn : n ≤ maxLen) (hm : m ≤ maxLen) :
    Calls Try.prog 3 #[formV a n cap c m cap' K] w fun e w' => e = .returned (.bool true) ∧ Below w.heap.size w w' := by
  have g1 := leftOf_ge 1048576 n
  have g2 := leftOf_ge (leftOf 1048576 n) m
  by_cases h : leftOf (leftOf 1048576 n) m < 0
  · go_enter Try.func3, Try.ntmps3
    go_wp2_with fail
    refine (szF_any _ _ _ _ _ _ _ _ _ hn hm (by omega) (by omega)).mono ?_
    rintro e w1 ⟨rfl, b1⟩
    go_wp2
    go_ret
    exact ⟨rfl, ((Below.refl _ _).alloc (Nat.le_refl _) _).trans (b1.mono (by simp))⟩
  · have l2 := leftOf_le (l := leftOf 1048576 n) (n := m) (by omega)
    have l1 := leftOf_le (l := 1048576) (n := n) (by omega)
    have hn1 : n ≤ 1048576 := by omega
    have hm1 : m ≤ 1048576 := by omega
    have h' : 0 ≤ leftOf (leftOf 1048576 n) m := by omega
    clear l1 l2 g1 g2 h
    go_enter Try.func3, Try.ntmps3
    go_wp2_with fail
    refine (szF_any _ _ _ _ _ _ _ _ _ hn hm (by omega) (by omega)).mono ?_
    rintro e w1 ⟨rfl, b1⟩
    have q0 := (Cel.new w _ _).below b1
    have B1 := ((Below.refl _ _).alloc (Nat.le_refl _) _).trans (b1.mono (by simp))
    have c0 := q0.cell 0
    have c1 := q0.cell 1
    have c2 := q0.cell 2
    simp only [List.getElem?_cons_zero, List.getElem?_cons_succ] at c0 c1 c2
    go_wp2_with fail
    refine (toF_any _ _ _ _ _ _ _ C D _ (hC.below B1) (hD.below B1) hn1 hm1).mono ?_
    rintro e w2 ⟨P1, P2, rfl, b2, ho1, ho2, k1, k2⟩
    have i1 := k1.ints' hC.1
    have i2 := k2.ints' hD.1
    have B2 := B1.trans (b2.mono B1.size)
    go_wp2_with fail
    refine (sok_any _ _ _ _ _ _ _ C D _ i1 i2 hn1 hm1).mono ?_
    rintro e w3 ⟨rfl, b3⟩
    have B3 := B2.trans (b3.mono B2.size)
    have q3 := (q0.below b2).below b3
    clear c0 c1 c2 k1 k2 i1 i2
    have c0 := q3.cell 0
    have c1 := q3.cell 1
    have c2 := q3.cell 2
    simp only [List.getElem?_cons_zero, List.getElem?_cons_succ] at c0 c1 c2
    go_wp2_with fail
    refine (toF_any _ _ _ _ _ _ _ C D _ (hC.below B3) (hD.below B3) hn1 hm1).mono ?_
    rintro e w4 ⟨X1, X2, rfl, b4, ho3, ho4, k3, k4⟩
    have B4 := B3.trans (b4.mono B3.size)
    have i3 := k3.ints' hC.1
    have i4 := k4.ints' hD.1
    go_wp2_with fail
    refine (ifok_any _ _ _ _ _ _ _ C D _ (i3.alloc _) (i4.alloc _) hn1 hm1).mono ?_
    rintro e w5 ⟨rfl, b5⟩
    have B5 := (B4.alloc B4.size _).trans (b5.mono (by have := B4.size; simp; omega))
    have q5 := ((q3.below b4).alloc _).below b5
    have x5 := (Cel.new w4 _ _).below b5
    have i5 := (i3.alloc _).below b5
    have i6 := (i4.alloc _).below b5
    clear c0 c1 c2 i3 i4 k3 k4 q3 q0 b1 b2 b3 b4 b5 B1 B2 B3 B4
    have c0 := q5.cell 0
    have c1 := q5.cell 1
    have c2 := q5.cell 2
    have c3 := x5.cell 0
    have c4 := x5.cell 1
    have c5 := x5.cell 2
    simp only [List.getElem?_cons_zero, List.getElem?_cons_succ] at c0 c1 c2 c3 c4 c5
    have he := eqF_refl C D K
    go_wp2_with fail
    go_region_with (first | (go_at_call 11; go_must (refine (toF_any _ _ _ _ _ _ _ C D _ (by exact hC.below B5.drew) (by exact hD.below B5.drew) hn1 hm1).mono ?_; rintro e w6 ⟨Y1, Y2, rfl, b6, ho5, ho6, k5, k6⟩; have b6' := below_of_drew b6; have d3 := (x5.below b6').cell 0; have d4 := (x5.below b6').cell 1; have d5 := (x5.below b6').cell 2; simp only [List.getElem?_cons_zero, List.getElem?_cons_succ] at d3 d4 d5)) | (go_at_call 13; refine (eqF_any _ _ _ _ _ _ _ C D _ _ _ _ _ _ _ C D _ (by exact i5.below b6') (by exact i6.below b6') (by exact k5.ints' hC.1) (by exact k6.ints' hD.1) hn1 hm1 hn1 hm1).mono ?_; rintro e w7 ⟨rfl, b7⟩))
    all_goals
      have B6 := B5.trans (b6'.mono B5.size)
      have B7 := B6.trans (b7.mono B6.size)
      go_wp2
      go_ret
      exact ⟨rfl, B7⟩

/-! ### THE ROW's STEP: WRITTEN OUT: LEAVE IT -/
set_option maxRecDepth 100000 in
theorem lifted (os : Os) (started : os.Started) (H : Type) (enc : TypeId × Value → H) :
    ReturnsInHanded {} Try.checked os 3 .any (Rows.fnExactFrmOkSpec.pre6 enc Try.prog Try.f3 Rows.fnExactFrmOkRow.domain false) (Rows.fnExactFrmOkSpec.post enc Try.prog Try.f3 false true false false) := by
  refine returnsInHanded_of_change (C := Try.checked) own started (by kernel_rfl) Try.func3
    (ChangeSpec.witness6 (enc := enc) (C := Try.checked) false ⟨#[], #[.agg #[.slice none 0 0, .slice none 0 0, .int .i64 0]], []⟩ 8 (by kernel_rfl) (by kernel_rfl) (by kernel_rfl) (by kernel_rfl)) ?_
  intro W base args ds gs before hval0 hW hcnd _
  have hval : ∀ (j : Nat) t v, Try.f3.params[j]? = some t → args[j]? = some v → Value.okWide Try.prog W .any base t v := hval0
  have hW' := hW
  obtain ⟨p, q, hA0, hV, rfl, hfz, hnd⟩ := hW
  have hA : DataW.TrodAll enc Try.prog W 0 (fun _ => true) true Try.f3.params.toList args.toList ds p := hA0
  rw [Try.params3] at hA hval
  obtain ⟨v0, vs0, d0, ds0, p0, q0, hargs, rfl, rfl, h0, r0⟩ := trodAll_cons hA
  obtain ⟨rfl, rfl, rfl⟩ := trodAll_nil r0
  obtain rfl : args = #[v0] := by cases args; simp_all
  obtain ⟨rfl, rfl⟩ := trodVars_none hV
  have k0 := h0
  have lt0 : ∀ x ∈ p0, x.block < W.heap.size := by obtain ⟨m, hm⟩ := k0; exact DataW.trod_lt m _ _ _ hm
  obtain ⟨a, n, cap, c, m, cap', K, C, D, rfl, hC, hD, hn, hm, -⟩ := open_form (hval 0 24 v0 rfl rfl) h0
  clear hA0 hval0
  refine (walk a n cap c m cap' K C D W hC hD hn hm).mono fun e W' ⟨he, bel⟩ => ?_
  subst he
  exact ⟨_, rfl, _, _, _, [], _, [], hW', trodAll_mk1 (shut_bool Try.underlying4 _), (trodAll_cons_mk (Below.trod laidOut (by kernel_rfl) (of_decide_eq_true (by kernel_rfl)) k0 bel lt0) trodAll_mk0), rfl, bel.frame _, fun h => by cases h⟩

theorem over : Rows.fnExactFrmOkRow.holds Try.pinned (OpenSpec.ofChange Rows.fnExactFrmOkSpec) :=
  OpenClaim.holds_of_wide 3 Try.f3 rfl rfl rfl rfl rfl rfl rfl ⟨rfl, rfl, rfl, rfl, rfl⟩ rfl rfl rfl rfl rfl (by kernel_rfl) Try.func3 (by kernel_rfl)
    (of_decide_eq_true (by kernel_rfl)) (by unfold Func.isWrapper; first | (rw [if_pos (by decide +kernel)]; kernel_rfl) | (rw [if_neg (by decide +kernel)]; exact ⟨rfl, rfl⟩))
    (fun os started H enc _ => lifted os started H enc)

end Go.Proofs.Ytmbhcngddpoonac.fnExactFrmOk
namespace Go.Proofs.Ytmbhcngddpoonac
/-- The statement. -/
theorem fnExactFrmOk_holds : Rows.FnExactFrmOkSaid := fnExactFrmOk.over
#print axioms fnExactFrmOk_holds
end Go.Proofs.Ytmbhcngddpoonac
