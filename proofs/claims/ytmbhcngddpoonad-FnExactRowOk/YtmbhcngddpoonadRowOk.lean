/-
  For every row FnExactRowOk returns true, and the row reads behind the call as it did. No condition.
-/
import Derived.Test.YtmbhcngddpoonadRow
import Derived.Deep.DeepCutAuto
namespace Go.Proofs.Ytmbhcngddpoonad.fnExactRowOk
open Go.ChangeShapes Go.WideShapes Go.ChangeAt Go.RowKit
set_option linter.unusedVariables false

set_option maxRecDepth 100000 in
set_option maxHeartbeats 6400000 in
theorem walk (w : World) (g : Option Addr) (G cg : Nat) (gs : List FV) (a : Option Addr) (A ca : Nat) (ls : List FV) (t : Option Addr) (T ct : Nat) (ts : List FV) (st : Bool)
    (hg : gs.length = G) (hG : FormsM w g gs) (hG1 : G ≤ maxLen) (ha : ls.length = A) (hA : FormsM w a ls) (hA1 : A ≤ maxLen) (ht : ts.length = T) (hT : FormsM w t ts) (hT1 : T ≤ maxLen) :
    Calls Try.prog 7 #[rowV g G cg a A ca t T ct st] w fun e w' => e = .returned (.bool true) ∧ Below w.heap.size w w' := by
  have n0 := BX.new w [.slice g G cg, .slice a A ca, .slice t T ct, .bool st] 60
  have HG : Hid (gs.length = G) := hg
  have HA : Hid (ls.length = A) := ha
  have HT : Hid (ts.length = T) := ht
  clear hg ha ht
  go_enter Try.func7, Try.ntmps7
  go_wp2_with fail
  refine (szRow_any _ _ _ gs _ _ _ ls _ _ _ ts _ _ _ HG.out (fun i hi => ((hG.below n0.b) i hi)) hG1 HA.out (hA.below n0.b) hA1 HT.out (hT.below n0.b) hT1 (by omega) (by omega)).mono ?_
  rintro e w1 ⟨r, rfl, p1, q1, s1, b1⟩
  have n1 := n0.below b1
  obtain ⟨c0, c1, c2, c3⟩ := n1.p.quad
  by_cases hr : r < 0
  · go_wp2
    go_ret
    exact ⟨rfl, n1.b⟩
  have hr' : 0 ≤ r := by omega
  have R0 := s1 hr'
  have hR : RowAt w g G gs a A ls t T ts := by
    refine ⟨hG.g ?_, hA.g ?_, hT.g ?_, HG.out, HA.out, HT.out, R0.zg, R0.za, R0.zt⟩
    · intro i hi; obtain ⟨b, o, e, e0, e1, e2, e3⟩ := R0.g i hi; exact ⟨e3.hn, e3.hm⟩
    · intro i hi; obtain ⟨b, o, e, e0, e1, e2, e3⟩ := R0.a i hi; exact ⟨e3.hn, e3.hm⟩
    · intro i hi; obtain ⟨b, o, e, e0, e1, e2, e3⟩ := R0.t i hi; exact ⟨e3.hn, e3.hm⟩
  have zg := hR.zg
  have za := hR.za
  have zt := hR.zt
  clear s1 R0 b1 n0 hG hA hT hr p1 q1
  obtain ⟨v, hv⟩ : ∃ v, v = rowB gs ls ts A T st := ⟨_, rfl⟩
  have same : ∀ gs' ls' ts', gs'.length = G → ls'.length = A → ts'.length = T → copies gs gs' → copies ls ls' → copies ts ts' → rowB gs' ls' ts' A T st = v := fun gs' ls' ts' h1 h2 h3 c1 c2 c3 => by
    rw [hv, rowB, rowB, copies_ok (by rw [h1, HG.out]) c1, copies_ok (by rw [h2, HA.out]) c2, copies_ok (by rw [h3, HT.out]) c3]
  have HS : Hid _ := same
  clear same hv
  go_wp2_with fail
  refine (toRow_any _ _ _ gs _ _ _ ls _ _ _ ts _ _ (hR.below n1.b)).mono ?_
  rintro e w2 ⟨B1, B2, B3, gs', ls', ts', X, Y, Z, p1, q1, p2, q2, p3, q3, rfl, k1, k2, k3, m2, b2⟩
  have n2 := n1.below b2
  clear c0 c1 c2 c3 b2 n1
  go_wp2_with fail
  refine (srow_any _ _ _ gs' _ _ _ ls' _ _ _ ts' _ _ (m2.at zg za zt)).mono ?_
  rintro e w3 ⟨rfl, b3⟩
  rw [HS.out gs' ls' ts' m2.hg m2.ha m2.ht k1 k2 k3]
  have n3 := n2.below b3
  clear b3 n2 m2 k1 k2 k3
  clear gs' ls' ts' X Y Z p1 q1 p2 q2 p3 q3
  obtain ⟨c0, c1, c2, c3⟩ := n3.p.quad
  go_wp2_with fail
  refine (toRow_any _ _ _ gs _ _ _ ls _ _ _ ts _ _ (hR.below n3.b)).mono ?_
  rintro e w4 ⟨V1, V2, V3, gs', ls', ts', X, Y, Z, p1, q1, p2, q2, p3, q3, rfl, k1, k2, k3, m4, b4⟩
  have n4 := n3.below b4
  have K1 : Hid (copies gs gs') := k1
  have K2 : Hid (copies ls ls') := k2
  have K3 : Hid (copies ts ts') := k3
  clear c0 c1 c2 c3 b4 n3 k1 k2 k3
  go_wp2_with fail
  refine (irow_any _ _ _ gs' _ _ _ ls' _ _ _ ts' _ _ ((m4.at zg za zt).alloc _)).mono ?_
  rintro e w5 ⟨rfl, b5⟩
  rw [HS.out gs' ls' ts' m4.hg m4.ha m4.ht K1.out K2.out K3.out]
  have n5 := (n4.alloc _).below b5
  have x5 := (Cel.new w4 [.slice (some ⟨V1, 0, none⟩) G G, .slice (some ⟨V2, 0, none⟩) A A, .slice (some ⟨V3, 0, none⟩) T T, .bool st] 64).below b5
  have m5 := ((m4.at zg za zt).alloc _).below b5
  have LG : Hid (gs'.length = G) := m4.hg
  have LA : Hid (ls'.length = A) := m4.ha
  have LT : Hid (ts'.length = T) := m4.ht
  clear b5 n4 m4
  have hvv : (v != v) = false := by cases v <;> rfl
  obtain ⟨c0, c1, c2, c3⟩ := n5.p.quad
  obtain ⟨d0, d1, d2, d3⟩ := x5.quad
  go_wp2_with fail
  go_region_with (first | (go_at_call 39; go_must (refine (toRow_any _ _ _ gs _ _ _ ls _ _ _ ts _ _ (by exact hR.below n5.b.drew)).mono ?_; rintro e w6 ⟨B1', B2', B3', gs2, ls2, ts2, X2, Y2, Z2, pa, qa, pb, qb, pc, qc, rfl, k1, k2, k3, m6, b6⟩; have b6' := below_of_drew b6; obtain ⟨f0, f1, f2, f3⟩ := (x5.below b6').quad)) | (go_at_call 41; refine (eqRow_same _ _ _ gs' _ _ _ ls' _ _ _ ts' _ _ gs2 _ _ ls2 _ _ ts2 _ _ (by exact m5.below b6') (by exact m6.at zg za zt) (copies_eq LG.out m6.hg K1.out k1) (copies_eq LA.out m6.ha K2.out k2) (copies_eq LT.out m6.ht K3.out k3)).mono ?_; rintro e w7 ⟨rfl, b7⟩))
  all_goals
    have n6 := n5.below b6'
    have n7 := n6.below b7
    go_wp2
    go_ret
    exact ⟨rfl, n7.b⟩

/-! ### The row's step -/
set_option maxRecDepth 100000 in
theorem lifted (os : Os) (started : os.Started) (H : Type) (enc : TypeId × Value → H) :
    ReturnsInHanded {} Try.checked os 7 .any (Rows.fnExactRowOkSpec.pre6 enc Try.prog Try.f7 Rows.fnExactRowOkRow.domain false) (Rows.fnExactRowOkSpec.post enc Try.prog Try.f7 false true false false) := by
  refine returnsInHanded_of_change (C := Try.checked) own started (by kernel_rfl) Try.func7
    (ChangeSpec.witness6 (enc := enc) (C := Try.checked) false ⟨#[], #[.agg #[.slice none 0 0, .slice none 0 0, .slice none 0 0, .bool false]], []⟩ 8 (by kernel_rfl) (by kernel_rfl) (by kernel_rfl) (by kernel_rfl)) ?_
  intro W base args ds gs before hval0 hW hcnd _
  have hval : ∀ (j : Nat) t v, Try.f7.params[j]? = some t → args[j]? = some v → Value.okWide Try.prog W .any base t v := hval0
  have hW' := hW
  obtain ⟨p, q, hA0, hV, rfl, hfz, hnd⟩ := hW
  have hA : DataW.TrodAll enc Try.prog W 0 (fun _ => true) true Try.f7.params.toList args.toList ds p := hA0
  rw [Try.params7] at hA hval
  obtain ⟨v0, vs0, d0, ds0, p0, q0, hargs, rfl, rfl, h0, r0⟩ := trodAll_cons hA
  obtain ⟨rfl, rfl, rfl⟩ := trodAll_nil r0
  obtain rfl : args = #[v0] := by cases args; simp_all
  obtain ⟨rfl, rfl⟩ := trodVars_none hV
  have k0 := h0
  have lt0 : ∀ x ∈ p0, x.block < W.heap.size := by obtain ⟨m, hm⟩ := k0; exact DataW.trod_lt m _ _ _ hm
  obtain ⟨g0, G0, cg0, gs0, a0, A0, ca0, ls0, t0, T0, ct0, ts0, st0, rfl, hg0, hG0, zg0, ha0, hF0, za0, ht0, hT0, zt0⟩ := open_rowR (hval 0 60 v0 rfl rfl) h0
  clear hA0 hval0
  refine (walk W g0 G0 cg0 gs0 a0 A0 ca0 ls0 t0 T0 ct0 ts0 st0 hg0 hG0 zg0 ha0 hF0 za0 ht0 hT0 zt0).mono fun e W' ⟨he, bel⟩ => ?_
  subst he
  exact ⟨_, rfl, _, _, _, [], _, [], hW', trodAll_mk1 (shut_bool Try.underlying4 _), (trodAll_cons_mk (Below.trod laidOut (by kernel_rfl) (of_decide_eq_true (by kernel_rfl)) k0 bel lt0) trodAll_mk0), rfl, bel.frame _, fun h => by cases h⟩

theorem over : Rows.fnExactRowOkRow.holds Try.pinned (OpenSpec.ofChange Rows.fnExactRowOkSpec) :=
  OpenClaim.holds_of_wide 7 Try.f7 rfl rfl rfl rfl rfl rfl rfl ⟨rfl, rfl, rfl, rfl, rfl⟩ rfl rfl rfl rfl rfl (by kernel_rfl) Try.func7 (by kernel_rfl)
    (of_decide_eq_true (by kernel_rfl)) (by unfold Func.isWrapper; first | (rw [if_pos (by decide +kernel)]; kernel_rfl) | (rw [if_neg (by decide +kernel)]; exact ⟨rfl, rfl⟩))
    (fun os started H enc _ => lifted os started H enc)

end Go.Proofs.Ytmbhcngddpoonad.fnExactRowOk
namespace Go.Proofs.Ytmbhcngddpoonad
/-- The statement. -/
theorem fnExactRowOk_holds : Rows.FnExactRowOkSaid := fnExactRowOk.over
#print axioms fnExactRowOk_holds
end Go.Proofs.Ytmbhcngddpoonad
