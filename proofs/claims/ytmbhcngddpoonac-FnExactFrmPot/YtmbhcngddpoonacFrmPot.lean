/-
  For every number FnExactFrmPot returns true. No condition.
-/
import Derived.Test.YtmbhcngddpoonacPots
import Derived.Test.YtmbhcngddpoonacOpen
namespace Go.Proofs.Ytmbhcngddpoonac.fnExactFrmPot
open Go.ChangeShapes Go.WideShapes Go.ChangeAt Go.RowKit
set_option linter.unusedVariables false

set_option maxHeartbeats 1600000 in
theorem walk (w : World) (v : Int) (wv : (Lit.int .i64 v).wf = true) :
    Calls Try.prog 6 #[.int .i64 v] w fun e w' => e = .returned (.bool true) ∧ Below w.heap.size w w' := by
  clear wv
  obtain ⟨C, hC⟩ : ∃ C : List Int, C = potC v := ⟨_, rfl⟩
  obtain ⟨D, hD⟩ : ∃ D : List Int, D = potD v := ⟨_, rfl⟩
  obtain ⟨K, hK⟩ : ∃ K : Int, K = 0 := ⟨_, rfl⟩
  have hs : ∀ w, Calls Try.prog 20 #[.int .i64 v] w fun e w' => Res w w' e C D K := by rw [hC, hD, hK]; exact spot_any v
  have hi : ∀ w, Calls Try.prog 21 #[.int .i64 v] w fun e w' => Res w w' e C D K := by rw [hC, hD, hK]; exact ipot_any v
  have hlC : C.length ≤ 1048576 := by rw [hC]; exact potC_len v
  have hlD : D.length ≤ 1048576 := by rw [hD]; exact potD_len v
  clear hC hD hK
  go_enter Try.func6, Try.ntmps6
  go_wp2_with fail
  refine (hs _).mono ?_
  rintro e w1 ⟨a, n, cap, c, m, cap', B1, B2, rfl, hn, hm, b1, oC, oD, g1, g2, g3⟩
  have hn1 : n ≤ 1048576 := by rw [← hn]; exact hlC
  have hm1 : m ≤ 1048576 := by rw [← hm]; exact hlD
  have HN : Hid (C.length = n) := hn
  have HM : Hid (D.length = m) := hm
  clear hn hm
  go_wp2_with fail
  refine (hi _).mono ?_
  rintro e w2 ⟨a', n', cpa, c', m', cpc, P1, P2, rfl, hn, hm, b2, pC, pD, q1, q2, q3⟩
  obtain rfl : n' = n := by rw [← hn, HN.out]
  obtain rfl : m' = m := by rw [← hm, HM.out]
  clear hn hm
  rw [World.size_alloc] at q1 q2
  have v1 := (Cel.new w1 _ _).below b2
  have oC1 := (oC.below ((Below.refl _ _).alloc (Nat.le_refl _) _)).below b2
  have oD1 := (oD.below ((Below.refl _ _).alloc (Nat.le_refl _) _)).below b2
  have l1 : 0 < n' → B1 < w1.heap.size := fun h => oC.lt (by rw [HN.out]; exact h)
  have l2 : 0 < m' → B2 < w1.heap.size := fun h => oD.lt (by rw [HM.out]; exact h)
  have z2 : w1.heap.size < w2.heap.size := v1.lt
  have bb : Below w.heap.size w w2 := (b1.alloc b1.size _).trans (b2.mono (by have := b1.size; simp; omega))
  have zz := b1.size
  clear b1 b2 oC oD
  have c0 := v1.cell 0
  have c1 := v1.cell 1
  have c2 := v1.cell 2
  simp only [List.getElem?_cons_zero, List.getElem?_cons_succ] at c0 c1 c2
  have iC := pC.ints' HN.out
  have iD := pD.ints' HM.out
  have jC := oC1.ints' HN.out
  have jD := oD1.ints' HM.out
  have y1 : 0 < n' → P1 < w2.heap.size := fun h => pC.lt (by rw [HN.out]; exact h)
  have y2 : 0 < m' → P2 < w2.heap.size := fun h => pD.lt (by rw [HM.out]; exact h)
  have he := eqF_refl C D K
  go_wp2_with fail
  refine (eqF_any _ _ _ _ _ _ _ C D _ _ _ _ _ _ _ C D _ (iC.alloc _) (iD.alloc _) (jC.alloc _) (jD.alloc _) hn1 hm1 hn1 hm1).mono ?_
  rintro e w3 ⟨rfl, b3⟩
  have al : Below w2.heap.size w2 (w2.alloc (Obj.cells #[Value.slice a' n' cpa, Value.slice c' m' cpc, Value.int IntKind.i64 K] 27)) := (Below.refl _ _).alloc (Nat.le_refl _) _
  have u3 := (Cel.new w2 _ _).below b3
  have v3 := (v1.alloc _).below b3
  have pC3 := (pC.below al).below b3
  have pD3 := (pD.below al).below b3
  have oC3 := (oC1.below al).below b3
  have oD3 := (oD1.below al).below b3
  have bb3 : Below w.heap.size w w3 := (bb.trans (al.mono bb.size)).trans (b3.mono (by have := bb.size; simp; omega))
  have z3 : w2.heap.size < w3.heap.size := u3.lt
  clear c0 c1 c2 iC iD jC jD v1 pC pD oC1 oD1 b3 bb al
  have c0 := u3.cell 0
  have c1 := u3.cell 1
  have c2 := u3.cell 2
  simp only [List.getElem?_cons_zero, List.getElem?_cons_succ] at c0 c1 c2
  go_wp2_with fail
  refine (markF_any _ _ _ _ _ _ _ P1 P2 C D _ _ pC3 pD3 q3 HN.out HM.out hn1 hm1 (by omega) (by omega)).mono ?_
  rintro e w4 ⟨rfl, t4, mC, mD⟩
  have u4 := u3.touch t4 (by omega)
  have v4 := v3.touch t4 (by omega)
  have oC4 : OwnAt w4 a B1 C := by
    by_cases h0 : 0 < n'
    · exact oC3.touch t4 (by have := l1 h0; omega)
    · exact .inl (List.eq_nil_of_length_eq_zero (by rw [HN.out]; omega))
  have oD4 : OwnAt w4 c B2 D := by
    by_cases h0 : 0 < m'
    · exact oD3.touch t4 (by have := l2 h0; omega)
    · exact .inl (List.eq_nil_of_length_eq_zero (by rw [HM.out]; omega))
  have bb4 : Below w.heap.size w w4 := bb3.trans (t4.below bb3.size (by intro k h; omega))
  have z4 : w3.heap.size ≤ w4.heap.size := t4.size
  have iC := mC.ints' (ramp_len _ _)
  have iD := mD.ints' (ramp_len _ _)
  clear c0 c1 c2 u3 v3 pC3 pD3 oC3 oD3 t4 bb3
  have c0 := u4.cell 0
  have c1 := u4.cell 1
  have c2 := u4.cell 2
  simp only [List.getElem?_cons_zero, List.getElem?_cons_succ] at c0 c1 c2
  have y3 : 0 ≤ (1 : Int) + n' + m' := by omega
  have y4 : ((1 : Int) + n' + m' != 1 + n' + m') = false := by simp
  go_wp2_with fail
  refine (heldF_any _ _ _ _ _ _ _ _ _ iC iD hn1 hm1 (by omega) (by omega)).mono ?_
  rintro e w5 ⟨rfl, b5⟩
  have u5 := u4.below b5
  have v5 := v4.below b5
  have mC5 := mC.below b5
  have mD5 := mD.below b5
  have oC5 := oC4.below b5
  have oD5 := oD4.below b5
  have bb5 := bb4.trans (b5.mono bb4.size)
  have z5 : w4.heap.size ≤ w5.heap.size := b5.size
  clear c0 c1 c2 iC iD mC mD oC4 oD4 u4 v4 b5 bb4
  go_wp2_with fail
  refine (hi _).mono ?_
  rintro e w6 ⟨a2, n2, cpx, c2', m2, cpy, Q1, Q2, rfl, hn, hm, b6, rC, rD, -, -, -⟩
  obtain rfl : n2 = n' := by rw [← hn, HN.out]
  obtain rfl : m2 = m' := by rw [← hm, HM.out]
  clear hn hm
  have u6 := u5.below b6
  have v6 := v5.below b6
  have mC6 := mC5.below b6
  have mD6 := mD5.below b6
  have jC := (oC5.below b6).ints' HN.out
  have jD := (oD5.below b6).ints' HM.out
  have iC := rC.ints' HN.out
  have iD := rD.ints' HM.out
  have bb6 := bb5.trans (b6.mono bb5.size)
  have z6 : w5.heap.size ≤ w6.heap.size := b6.size
  have z7 : w1.heap.size < w6.heap.size := v6.lt
  have z8 : w2.heap.size < w6.heap.size := u6.lt
  clear u5 v5 mC5 mD5 oC5 oD5 b6 bb5 rC rD
  have c0 := v6.cell 0
  have c1 := v6.cell 1
  have c2 := v6.cell 2
  simp only [List.getElem?_cons_zero, List.getElem?_cons_succ] at c0 c1 c2
  go_wp2_with fail
  refine (eqF_any _ _ _ _ _ _ _ C D _ _ _ _ _ _ _ C D _ (iC.alloc _) (iD.alloc _) (jC.alloc _) (jD.alloc _) hn1 hm1 hn1 hm1).mono ?_
  rintro e w7 ⟨rfl, b7⟩
  have u7 := (u6.alloc _).below b7
  have kC := ((mC6.below ((Below.refl _ _).alloc (Nat.le_refl _) _)).below b7).ints' (ramp_len _ _)
  have kD := ((mD6.below ((Below.refl _ _).alloc (Nat.le_refl _) _)).below b7).ints' (ramp_len _ _)
  have bb7 : Below w.heap.size w w7 := (bb6.alloc bb6.size _).trans (b7.mono (by have := bb6.size; simp; omega))
  clear c0 c1 c2 u6 v6 mC6 mD6 jC jD iC iD b7 bb6
  have c0 := u7.cell 0
  have c1 := u7.cell 1
  have c2 := u7.cell 2
  simp only [List.getElem?_cons_zero, List.getElem?_cons_succ] at c0 c1 c2
  go_wp2_with fail
  refine (heldF_any _ _ _ _ _ _ _ _ _ kC kD hn1 hm1 (by omega) (by omega)).mono ?_
  rintro e w8 ⟨rfl, b8⟩
  have bb8 := bb7.trans (b8.mono bb7.size)
  go_wp2
  go_ret
  exact ⟨rfl, bb8⟩

/-! ### The row's step -/
set_option maxRecDepth 100000 in
theorem lifted (os : Os) (started : os.Started) (H : Type) (enc : TypeId × Value → H) :
    ReturnsInHanded {} Try.checked os 6 .any (Rows.fnExactFrmPotSpec.pre6 enc Try.prog Try.f6 Rows.fnExactFrmPotRow.domain false) (Rows.fnExactFrmPotSpec.post enc Try.prog Try.f6 false true false false) := by
  refine returnsInHanded_of_change (C := Try.checked) own started (by kernel_rfl) Try.func6
    (ChangeSpec.witness6 (enc := enc) (C := Try.checked) false ⟨#[], #[.int .i64 0], []⟩ 8 (by kernel_rfl) (by kernel_rfl) (by kernel_rfl) (by kernel_rfl)) ?_
  intro W base args ds gs before hval0 hW hcnd _
  have hval : ∀ (j : Nat) t v, Try.f6.params[j]? = some t → args[j]? = some v → Value.okWide Try.prog W .any base t v := hval0
  have hW' := hW
  obtain ⟨p, q, hA0, hV, rfl, hfz, hnd⟩ := hW
  have hA : DataW.TrodAll enc Try.prog W 0 (fun _ => true) true Try.f6.params.toList args.toList ds p := hA0
  rw [Try.params6] at hA hval
  obtain ⟨v0, vs0, d0, ds0, p0, q0, hargs, rfl, rfl, h0, r0⟩ := trodAll_cons hA
  obtain ⟨rfl, rfl, rfl⟩ := trodAll_nil r0
  obtain rfl : args = #[v0] := by cases args; simp_all
  obtain ⟨rfl, rfl⟩ := trodVars_none hV
  have k0 := h0
  have lt0 : ∀ x ∈ p0, x.block < W.heap.size := by obtain ⟨m, hm⟩ := k0; exact DataW.trod_lt m _ _ _ hm
  obtain ⟨x0, rfl, wx0⟩ := open_numT h0 (hval 0 3 v0 rfl rfl)
  clear hA0 hval0
  refine (walk W x0 wx0).mono fun e W' ⟨he, bel⟩ => ?_
  subst he
  exact ⟨_, rfl, _, _, _, [], _, [], hW', trodAll_mk1 (shut_bool Try.underlying4 _), (trodAll_cons_mk (Below.trod laidOut (by kernel_rfl) (of_decide_eq_true (by kernel_rfl)) k0 bel lt0) trodAll_mk0), rfl, bel.frame _, fun h => by cases h⟩

theorem over : Rows.fnExactFrmPotRow.holds Try.pinned (OpenSpec.ofChange Rows.fnExactFrmPotSpec) :=
  OpenClaim.holds_of_wide 6 Try.f6 rfl rfl rfl rfl rfl rfl rfl ⟨rfl, rfl, rfl, rfl, rfl⟩ rfl rfl rfl rfl rfl (by kernel_rfl) Try.func6 (by kernel_rfl)
    (of_decide_eq_true (by kernel_rfl)) (by unfold Func.isWrapper; first | (rw [if_pos (by decide +kernel)]; kernel_rfl) | (rw [if_neg (by decide +kernel)]; exact ⟨rfl, rfl⟩))
    (fun os started H enc _ => lifted os started H enc)

end Go.Proofs.Ytmbhcngddpoonac.fnExactFrmPot
namespace Go.Proofs.Ytmbhcngddpoonac
/-- The statement. -/
theorem fnExactFrmPot_holds : Rows.FnExactFrmPotSaid := fnExactFrmPot.over
#print axioms fnExactFrmPot_holds
end Go.Proofs.Ytmbhcngddpoonac
