/-
  For every form, and all that the pots and the arguments could be, FnExactFrmAt returns true, and what came in reads behind the call as it did. No condition.
-/
import Derived.Test.YtmbhcngddpoonadAt
import Derived.Test.YtmbhcngddpoonadOpen
namespace Go.Proofs.Ytmbhcngddpoonad.fnExactFrmAt
open Go.ChangeShapes Go.WideShapes Go.ChangeAt Go.RowKit
set_option linter.unusedVariables false

set_option maxHeartbeats 3200000 in
theorem walk (w : World) (a : Option Addr) (n cap : Nat) (c : Option Addr) (m cap' : Nat) (K : Int) (C D : List Int) (hC : Ints w a n C) (hD : Ints w c m D) (hn : n ≤ maxLen) (hm : m ≤ maxLen) (wK : (Lit.int .i64 K).wf = true)
    (v : Option Addr) (p cv : Nat) (V : List Int) (hV : Ints w v p V) (hp : p ≤ maxLen) (u : Option Addr) (q cu : Nat) (A : List Int) (hA : Ints w u q A) (hq : q ≤ maxLen) :
    Calls Try.prog 3 #[formV a n cap c m cap' K, .slice v p cv, .slice u q cu] w fun e w' => e = .returned (.bool true) ∧ Below w.heap.size w w' := by
  clear wK
  by_cases hp1 : p ≤ 1048576
  · by_cases hq1 : q ≤ 1048576
    · have g1 := leftOf_ge 1048576 n
      have g2 := leftOf_ge (leftOf 1048576 n) m
      by_cases h : leftOf (leftOf 1048576 n) m < 0
      · go_enter Try.func3, Try.ntmps3
        go_wp2_with fail
        refine (szF_any _ _ _ _ _ _ _ _ _ hn hm (by omega) (by omega)).mono ?_
        rintro e w1 ⟨rfl, b1⟩
        go_wp2
        go_ret
        exact ⟨rfl, ((Below.refl _ _).alloc (Nat.le_refl _) _).trans (b1.mono (by simp))⟩
      · have l2 := leftOf_le (l := leftOf 1048576 n) (n := m) (by omega)
        have l1 := leftOf_le (l := 1048576) (n := n) (by omega)
        have hn1 : n ≤ 1048576 := by omega
        have hm1 : m ≤ 1048576 := by omega
        have h' : 0 ≤ leftOf (leftOf 1048576 n) m := by omega
        clear l1 l2 g1 g2 h
        go_enter Try.func3, Try.ntmps3
        go_wp2_with fail
        refine (szF_any _ _ _ _ _ _ _ _ _ hn hm (by omega) (by omega)).mono ?_
        rintro e w1 ⟨rfl, b1⟩
        have q0 := (Cel.new w _ _).below b1
        have B1 := ((Below.refl _ _).alloc (Nat.le_refl _) _).trans (b1.mono (by simp))
        have c0 := q0.cell 0
        have c1 := q0.cell 1
        have c2 := q0.cell 2
        simp only [List.getElem?_cons_zero, List.getElem?_cons_succ] at c0 c1 c2
        go_wp2_with fail
        refine (toF_any _ _ _ _ _ _ _ C D _ (hC.below B1) (hD.below B1) hn1 hm1).mono ?_
        rintro e w2 ⟨P1, P2, rfl, b2, ho1, ho2, k1, k2⟩
        have B2 := B1.trans (b2.mono B1.size)
        have q2 := q0.below b2
        go_wp2_with fail
        refine (to_any _ _ _ _ _ (hV.below B2) hp1).mono ?_
        rintro e w3 ⟨rfl, b3, k3⟩
        have B3 := B2.trans (b3.mono B2.size)
        have q3 := q2.below b3
        go_wp2_with fail
        refine (to_any _ _ _ _ _ (hA.below B3) hq1).mono ?_
        rintro e w4 ⟨rfl, b4, k4⟩
        have B4 := B3.trans (b4.mono B3.size)
        have q4 := q3.below b4
        have i1 := ((k1.below b3).below b4).ints' hC.1
        have i2 := ((k2.below b3).below b4).ints' hD.1
        have i3 := (k3.below b4).ints' hV.1
        have i4 := k4.ints' hA.1
        go_wp2_with fail
        refine (sfat_any _ _ _ _ _ _ _ C D _ _ _ _ _ _ V A _ i1 i2 i3 i4 hn1 hm1 hp1 hq1).mono ?_
        rintro e w5 ⟨rfl, b5⟩
        have B5 := B4.trans (b5.mono B4.size)
        have q5 := q4.below b5
        clear c0 c1 c2 i1 i2 i3 i4 k1 k2 k3 k4 q0 q2 q3 q4 b1 b2 b3 b4 b5 B1 B2 B3 B4
        have c0 := q5.cell 0
        have c1 := q5.cell 1
        have c2 := q5.cell 2
        simp only [List.getElem?_cons_zero, List.getElem?_cons_succ] at c0 c1 c2
        go_wp2_with fail
        refine (toF_any _ _ _ _ _ _ _ C D _ (hC.below B5) (hD.below B5) hn1 hm1).mono ?_
        rintro e w6 ⟨X1, X2, rfl, b6, ho3, ho4, k5, k6⟩
        have B6 := B5.trans (b6.mono B5.size)
        have B6' := B6.alloc B6.size (Obj.cells #[Value.slice (some ⟨X1, 0, none⟩) n n, Value.slice (some ⟨X2, 0, none⟩) m m, Value.int IntKind.i64 K] 28)
        have q6 := (q5.below b6).alloc (Obj.cells #[Value.slice (some ⟨X1, 0, none⟩) n n, Value.slice (some ⟨X2, 0, none⟩) m m, Value.int IntKind.i64 K] 28)
        go_wp2_with fail
        refine (to_any _ _ _ _ _ (hV.below B6') hp1).mono ?_
        rintro e w7 ⟨rfl, b7, k7⟩
        rw [World.size_alloc] at k7
        have x7 := (Cel.new w6 _ _).below b7
        have j1 := (k5.alloc _).below b7
        have j2 := (k6.alloc _).below b7
        have B7 := B6'.trans (b7.mono B6'.size)
        have q7 := q6.below b7
        go_wp2_with fail
        refine (to_any _ _ _ _ _ (hA.below B7) hq1).mono ?_
        rintro e w8 ⟨rfl, b8, k8⟩
        have x8 := x7.below b8
        have i1 := (j1.below b8).ints' hC.1
        have i2 := (j2.below b8).ints' hD.1
        have i3 := (k7.below b8).ints' hV.1
        have i4 := k8.ints' hA.1
        have B8 := B7.trans (b8.mono B7.size)
        have q8 := q7.below b8
        clear c0 c1 c2
        have c0 := x8.cell 0
        have c1 := x8.cell 1
        have c2 := x8.cell 2
        simp only [List.getElem?_cons_zero, List.getElem?_cons_succ] at c0 c1 c2
        go_wp2_with fail
        refine (ifat_any _ _ _ _ _ _ _ C D _ _ _ _ _ _ V A _ i1 i2 i3 i4 hn1 hm1 hp1 hq1).mono ?_
        rintro e w9 ⟨rfl, b9⟩
        have B9 := B8.trans (b9.mono B8.size)
        have q9 := q8.below b9
        have x9 := x8.below b9
        have I1 := i1.below b9
        have I2 := i2.below b9
        have I3 := i3.below b9
        have I4 := i4.below b9
        clear c0 c1 c2 i1 i2 i3 i4 k5 k6 k7 k8 q5 q6 q7 q8 x7 x8 j1 j2 b6 b7 b8 b9 B5 B6 B6' B7 B8
        have c0 := q9.cell 0
        have c1 := q9.cell 1
        have c2 := q9.cell 2
        have c3 := x9.cell 0
        have c4 := x9.cell 1
        have c5 := x9.cell 2
        simp only [List.getElem?_cons_zero, List.getElem?_cons_succ] at c0 c1 c2 c3 c4 c5
        have he := eqF_refl C D K
        have he1 := eqB_refl V
        have he2 := eqB_refl A
        go_wp2_with fail
        go_region_with (first | (go_at_call 11; refine (toF_any _ _ _ _ _ _ _ C D _ (by exact hC.below B9.drew) (by exact hD.below B9.drew) hn1 hm1).mono ?_; rintro e wa ⟨Y1, Y2, rfl, ba, ho5, ho6, ka, kb⟩; have ba' := below_of_drew ba; have d3 := (x9.below ba').cell 0; have d4 := (x9.below ba').cell 1; have d5 := (x9.below ba').cell 2; simp only [List.getElem?_cons_zero, List.getElem?_cons_succ] at d3 d4 d5) | (go_at_call 14; refine (eqF_any _ _ _ _ _ _ _ C D _ _ _ _ _ _ _ C D _ (by exact I1.below ba') (by exact I2.below ba') (by exact ka.ints' hC.1) (by exact kb.ints' hD.1) hn1 hm1 hn1 hm1).mono ?_; rintro e wb ⟨rfl, bb⟩))
        all_goals
          have Ba := B9.trans (ba'.mono B9.size)
          have Bb := Ba.trans (bb.mono Ba.size)
          have J3 := (I3.below ba').below bb
          have J4 := (I4.below ba').below bb
          clear d3 d4 d5 c0 c1 c2 c3 c4 c5 ba ba' bb Ba ka kb
          go_wp2_with fail
          refine (to_any _ _ _ _ _ (hV.below Bb) hp1).mono ?_
          rintro e wc ⟨rfl, bc, kc⟩
          have Bc := Bb.trans (bc.mono Bb.size)
          go_wp2_with fail
          refine (eq_any _ _ _ _ _ _ V V _ (J3.below bc) (kc.ints' hV.1) hp1 hp1).mono ?_
          rintro e wd ⟨rfl, bd⟩
          have Bd := Bc.trans (bd.mono Bc.size)
          go_wp2_with fail
          refine (to_any _ _ _ _ _ (hA.below Bd) hq1).mono ?_
          rintro e we ⟨rfl, be, ke⟩
          have Be := Bd.trans (be.mono Bd.size)
          go_wp2_with fail
          refine (eq_any _ _ _ _ _ _ A A _ (((J4.below bc).below bd).below be) (ke.ints' hA.1) hq1 hq1).mono ?_
          rintro e wf ⟨rfl, bf⟩
          have Bf := Be.trans (bf.mono Be.size)
          go_wp2
          go_ret
          exact ⟨rfl, Bf⟩
    · go_enter Try.func3, Try.ntmps3
      go_wp2
      go_ret
      exact ⟨rfl, (Below.refl _ _).alloc (Nat.le_refl _) _⟩
  · go_enter Try.func3, Try.ntmps3
    go_wp2
    go_ret
    exact ⟨rfl, (Below.refl _ _).alloc (Nat.le_refl _) _⟩

/-! ### The row's step -/
set_option maxRecDepth 100000 in
theorem lifted (os : Os) (started : os.Started) (H : Type) (enc : TypeId × Value → H) :
    ReturnsInHanded {} Try.checked os 3 .any (Rows.fnExactFrmAtSpec.pre6 enc Try.prog Try.f3 Rows.fnExactFrmAtRow.domain false) (Rows.fnExactFrmAtSpec.post enc Try.prog Try.f3 false true false false) := by
  refine returnsInHanded_of_change (C := Try.checked) own started (by kernel_rfl) Try.func3
    (ChangeSpec.witness6 (enc := enc) (C := Try.checked) false ⟨#[], #[.agg #[.slice none 0 0, .slice none 0 0, .int .i64 0], .slice none 0 0, .slice none 0 0], []⟩ 8 (by kernel_rfl) (by kernel_rfl) (by kernel_rfl) (by kernel_rfl)) ?_
  intro W base args ds gs before hval0 hW hcnd _
  have hval : ∀ (j : Nat) t v, Try.f3.params[j]? = some t → args[j]? = some v → Value.okWide Try.prog W .any base t v := hval0
  have hW' := hW
  obtain ⟨p, q, hA0, hV, rfl, hfz, hnd⟩ := hW
  have hA : DataW.TrodAll enc Try.prog W 0 (fun _ => true) true Try.f3.params.toList args.toList ds p := hA0
  rw [Try.params3] at hA hval
  obtain ⟨v0, vs0, d0, ds0, p0, q0, hargs, rfl, rfl, h0, r0⟩ := trodAll_cons hA
  obtain ⟨v1, vs1, d1, ds1, p1, q1, rfl, rfl, rfl, h1, r1⟩ := trodAll_cons r0
  obtain ⟨v2, vs2, d2, ds2, p2, q2, rfl, rfl, rfl, h2, r2⟩ := trodAll_cons r1
  obtain ⟨rfl, rfl, rfl⟩ := trodAll_nil r2
  obtain rfl : args = #[v0, v1, v2] := by cases args; simp_all
  obtain ⟨rfl, rfl⟩ := trodVars_none hV
  have k0 := h0
  have lt0 : ∀ x ∈ p0, x.block < W.heap.size := by obtain ⟨m, hm⟩ := k0; exact DataW.trod_lt m _ _ _ hm
  obtain ⟨a0, n0, cap0, c0, m0, cap0', K0, C0, D0, rfl, hC0, hD0, hn0, hm0, wK0⟩ := open_form (hval 0 24 v0 rfl rfl) h0
  have k1 := h1
  have lt1 : ∀ x ∈ p1, x.block < W.heap.size := by obtain ⟨m, hm⟩ := k1; exact DataW.trod_lt m _ _ _ hm
  obtain ⟨a1, n1, cap1, C1, rfl, hC1, hn1⟩ := open_rowT (hval 1 22 v1 rfl rfl) h1
  have k2 := h2
  have lt2 : ∀ x ∈ p2, x.block < W.heap.size := by obtain ⟨m, hm⟩ := k2; exact DataW.trod_lt m _ _ _ hm
  obtain ⟨a2, n2, cap2, C2, rfl, hC2, hn2⟩ := open_rowT (hval 2 22 v2 rfl rfl) h2
  clear hA0 hval0
  refine (walk W a0 n0 cap0 c0 m0 cap0' K0 C0 D0 hC0 hD0 hn0 hm0 wK0 a1 n1 cap1 C1 hC1 hn1 a2 n2 cap2 C2 hC2 hn2).mono fun e W' ⟨he, bel⟩ => ?_
  subst he
  exact ⟨_, rfl, _, _, _, [], _, [], hW', trodAll_mk1 (shut_bool Try.underlying4 _), (trodAll_cons_mk (Below.trod laidOut (by kernel_rfl) (of_decide_eq_true (by kernel_rfl)) k0 bel lt0) (trodAll_cons_mk (Below.trod laidOut (by kernel_rfl) (of_decide_eq_true (by kernel_rfl)) k1 bel lt1) (trodAll_cons_mk (Below.trod laidOut (by kernel_rfl) (of_decide_eq_true (by kernel_rfl)) k2 bel lt2) trodAll_mk0))), rfl, bel.frame _, fun h => by cases h⟩

theorem over : Rows.fnExactFrmAtRow.holds Try.pinned (OpenSpec.ofChange Rows.fnExactFrmAtSpec) :=
  OpenClaim.holds_of_wide 3 Try.f3 rfl rfl rfl rfl rfl rfl rfl ⟨rfl, rfl, rfl, rfl, rfl⟩ rfl rfl rfl rfl rfl (by kernel_rfl) Try.func3 (by kernel_rfl)
    (of_decide_eq_true (by kernel_rfl)) (by unfold Func.isWrapper; first | (rw [if_pos (by decide +kernel)]; kernel_rfl) | (rw [if_neg (by decide +kernel)]; exact ⟨rfl, rfl⟩))
    (fun os started H enc _ => lifted os started H enc)

end Go.Proofs.Ytmbhcngddpoonad.fnExactFrmAt
namespace Go.Proofs.Ytmbhcngddpoonad
/-- The statement. -/
theorem fnExactFrmAt_holds : Rows.FnExactFrmAtSaid := fnExactFrmAt.over
#print axioms fnExactFrmAt_holds
end Go.Proofs.Ytmbhcngddpoonad
