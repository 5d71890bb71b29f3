/-
  For every plan and every number FnExactPlnHome returns true, and the plan reads behind the call as it did. No condition.
-/
import Derived.Test.YtkmacleakfbobaaPlanW
import Derived.Deep.RegionHeld3
namespace Go.Proofs.Ytkmacleakfbobaa.fnExactPlnHome
open Go.ChangeShapes Go.WideShapes Go.ChangeAt Go.RowKit Go.Deep
set_option linter.unusedVariables false

set_option maxRecDepth 100000 in
set_option maxHeartbeats 6400000 in
theorem walk (w : World) (cl : Int) (ad : Option Addr) (N cap : Nat) (ss : List L2V) (ga : Option Addr) (gn gc : Nat) (G : List Int) (sa : Option Addr) (sn sc : Nat) (S : List Int) (hl : ss.length = N) (hM : LSM w ad ss) (hN : N ≤ maxLen) (hG : Ints w ga gn G) (hg : gn ≤ maxLen) (hS : Ints w sa sn S) (hs : sn ≤ maxLen) (x0 : Int) (wx0 : (Lit.int .i64 x0).wf = true) :
    Calls Try.prog 4 #[plV cl ad N cap ga gn gc sa sn sc, .int .i64 x0] w fun r w' => r = .returned (.bool true) ∧ Below w.heap.size w w' := by
  have q_0 := BP.new w [.int .i64 cl, .slice ad N cap, .slice ga gn gc, .slice sa sn sc] 25
  have HL : Hid (ss.length = N) := hl
  clear hl
  go_enter Try.func4, Try.ntmps4
  go_wp2_with fail
  refine (szP_any _ _ _ _ ss _ _ _ G _ _ _ S _ _ HL.out (hM.below q_0.b) hN (hG.below q_0.b) hg (hS.below q_0.b) hs (by omega) (by omega)).mono ?_
  rintro r w1 ⟨x, rfl, x1, x2, x3, b_1⟩
  have q_1 := q_0.below b_1
  by_cases hx : x < 0
  · go_wp2
    go_ret
    exact ⟨rfl, q_1.b⟩
  have hx' : 0 ≤ x := by omega
  have P_1 := (x3 hx').below b_1
  clear q_0 b_1 x3 hx x1 x2 hM hG hS hN hg hs
  have HH : Hid (∀ ts, ts.length = N → copiesL2S ss ts → catB N ts = catB N ss) := fun ts h1 h2 => copies_catP (by rw [h1, HL.out]) h2
  obtain ⟨c0, c1, c2, c3⟩ := q_1.p.quadP
  go_wp2_with fail
  refine (toP_any _ _ _ _ ss _ _ _ G _ _ _ S _ P_1).mono ?_
  rintro r w2 ⟨D1, D2, D3, ts, rfl, lt, cp, b_2, m_2, k_2, l_2⟩
  have HT : Hid (ts.length = N) := lt
  have HC : Hid (copiesL2S ss ts) := cp
  have q_2 := q_1.below b_2
  have P_2 := P_1.below b_2
  have Q_2 : PlAt w2 (some ⟨D1, 0, none⟩) N ts (some ⟨D2, 0, none⟩) gn G (some ⟨D3, 0, none⟩) sn S := ⟨m_2.g, lt, P_2.za, k_2.ints' P_2.g.1, P_2.zg, l_2.ints' P_2.s.1, P_2.zs⟩
  clear q_1 P_1 b_2 lt cp m_2 k_2 l_2 c0 c1 c2 c3
  have HV : Hid (plnB cl N ts gn G sn S = plnB cl N ss gn G sn S) := by show _ = _; rw [plnB, plnB, HH.out ts HT.out HC.out]
  obtain ⟨v, hv⟩ : ∃ v, v = homeN (plnB cl N ss gn G sn S) cl x0 gn := ⟨_, rfl⟩
  have HW : Hid _ := hv
  clear hv
  go_wp2_with fail
  refine (shome_any _ _ _ _ ts _ _ _ G _ _ _ S _ _ Q_2 wx0).mono ?_
  rintro r w3 ⟨rfl, b_3⟩
  rw [HV.out, ← HW.out]
  have q_3 := q_2.below b_3
  have P_3 := P_2.below b_3
  clear q_2 P_2 Q_2 b_3
  clear HV HT HC ts
  obtain ⟨c0, c1, c2, c3⟩ := q_3.p.quadP
  go_wp2_with fail
  refine (toP_any _ _ _ _ ss _ _ _ G _ _ _ S _ P_3).mono ?_
  rintro r w4 ⟨D1, D2, D3, ts, rfl, lt, cp, b_4, m_4, k_4, l_4⟩
  have HT : Hid (ts.length = N) := lt
  have HC : Hid (copiesL2S ss ts) := cp
  have q_4 := q_3.below b_4
  have P_4 := P_3.below b_4
  have HLE : Hid _ := m_4.lens lt
  have Q_4 : PlAt w4 (some ⟨D1, 0, none⟩) N ts (some ⟨D2, 0, none⟩) gn G (some ⟨D3, 0, none⟩) sn S := ⟨m_4.g, lt, P_4.za, k_4.ints' P_4.g.1, P_4.zg, l_4.ints' P_4.s.1, P_4.zs⟩
  clear q_3 P_3 b_4 lt cp m_4 k_4 l_4 c0 c1 c2 c3
  have HV : Hid (plnB cl N ts gn G sn S = plnB cl N ss gn G sn S) := by show _ = _; rw [plnB, plnB, HH.out ts HT.out HC.out]
  go_wp2_with fail
  refine (ihome_any _ _ _ _ ts _ _ _ G _ _ _ S _ _ (Q_4.alloc _) wx0).mono ?_
  rintro r w5 ⟨rfl, b_5⟩
  rw [HV.out, ← HW.out]
  have B_4 := q_4.b
  have B_5 := (B_4.alloc B_4.size _).trans (b_5.mono (B_4.alloc B_4.size _).size)
  have q_5 := (q_4.p.alloc _).below b_5
  have xb_5 := (Cel.new w4 _ _).below b_5
  have P_5 := (P_4.alloc _).below b_5
  have Q_5 := (Q_4.alloc _).below b_5
  clear q_4 P_4 Q_4 b_5 B_4
  have hvv : (v != v) = false := by simp
  have hn0 : (w5.cell? ⟨w.heap.size, 0, none⟩ = some (.int .i64 cl) ∧ w5.cell? ⟨w.heap.size, 1, none⟩ = some (.slice ad N cap) ∧ w5.cell? ⟨w.heap.size, 2, none⟩ = some (.slice ga gn gc) ∧ w5.cell? ⟨w.heap.size, 3, none⟩ = some (.slice sa sn sc)) ∧ (w5.cell? ⟨w4.heap.size, 0, none⟩ = some (.int .i64 cl) ∧ w5.cell? ⟨w4.heap.size, 1, none⟩ = some (.slice (some ⟨D1, 0, none⟩) N N) ∧ w5.cell? ⟨w4.heap.size, 2, none⟩ = some (.slice (some ⟨D2, 0, none⟩) gn gn) ∧ w5.cell? ⟨w4.heap.size, 3, none⟩ = some (.slice (some ⟨D3, 0, none⟩) sn sn)) := ⟨q_5.quadP, xb_5.quadP⟩
  go_upto_region 10 with fail
  go_region_held3 (fun w' => (w'.cell? ⟨w.heap.size, 0, none⟩ = some (.int .i64 cl) ∧ w'.cell? ⟨w.heap.size, 1, none⟩ = some (.slice ad N cap) ∧ w'.cell? ⟨w.heap.size, 2, none⟩ = some (.slice ga gn gc) ∧ w'.cell? ⟨w.heap.size, 3, none⟩ = some (.slice sa sn sc)) ∧ (w'.cell? ⟨w4.heap.size, 0, none⟩ = some (.int .i64 cl) ∧ w'.cell? ⟨w4.heap.size, 1, none⟩ = some (.slice (some ⟨D1, 0, none⟩) N N) ∧ w'.cell? ⟨w4.heap.size, 2, none⟩ = some (.slice (some ⟨D2, 0, none⟩) gn gn) ∧ w'.cell? ⟨w4.heap.size, 3, none⟩ = some (.slice (some ⟨D3, 0, none⟩) sn sn))) (first | with_reducible assumption | exact hn0)
    (first
      | (go_at_call 7
         refine (toP_any _ _ _ _ ss _ _ _ G _ _ _ S _ (by exact P_5.drewP)).mono ?_
         rintro ee w6 ⟨Y1, Y2, Y3, us, rfl, lu, cu, bd_6, my_6, ky_6, ly_6⟩
         have b_6 := below_of_drew bd_6
         have B_6 := B_5.trans (b_6.mono B_5.size)
         have q_6 := q_5.below b_6
         have P_6 := P_5.below b_6
         have Q_6 := Q_5.below b_6
         have xb_6 := xb_5.below b_6
         have HU : Hid _ := copies_sameP HT.out lu HC.out cu HLE.out
         have hn6_ : (w6.cell? ⟨w.heap.size, 0, none⟩ = some (.int .i64 cl) ∧ w6.cell? ⟨w.heap.size, 1, none⟩ = some (.slice ad N cap) ∧ w6.cell? ⟨w.heap.size, 2, none⟩ = some (.slice ga gn gc) ∧ w6.cell? ⟨w.heap.size, 3, none⟩ = some (.slice sa sn sc)) ∧ (w6.cell? ⟨w4.heap.size, 0, none⟩ = some (.int .i64 cl) ∧ w6.cell? ⟨w4.heap.size, 1, none⟩ = some (.slice (some ⟨D1, 0, none⟩) N N) ∧ w6.cell? ⟨w4.heap.size, 2, none⟩ = some (.slice (some ⟨D2, 0, none⟩) gn gn) ∧ w6.cell? ⟨w4.heap.size, 3, none⟩ = some (.slice (some ⟨D3, 0, none⟩) sn sn)) := ⟨q_6.quadP, xb_6.quadP⟩)
      | (go_at_call 9
         refine (eqP_same _ _ _ _ ts _ _ _ G _ _ _ S _ _ us _ _ _ _ _ (by exact Q_6) (by exact ⟨my_6.g, lu, P_6.za, ky_6.ints' P_6.g.1, P_6.zg, ly_6.ints' P_6.s.1, P_6.zs⟩) (by exact HU.out)).mono ?_
         rintro ee w7 ⟨rfl, b_7⟩
         have B_7 := B_6.trans (b_7.mono B_6.size)
         have q_7 := q_6.below b_7
         have xb_7 := xb_6.below b_7
         have hn7_ : (w7.cell? ⟨w.heap.size, 0, none⟩ = some (.int .i64 cl) ∧ w7.cell? ⟨w.heap.size, 1, none⟩ = some (.slice ad N cap) ∧ w7.cell? ⟨w.heap.size, 2, none⟩ = some (.slice ga gn gc) ∧ w7.cell? ⟨w.heap.size, 3, none⟩ = some (.slice sa sn sc)) ∧ (w7.cell? ⟨w4.heap.size, 0, none⟩ = some (.int .i64 cl) ∧ w7.cell? ⟨w4.heap.size, 1, none⟩ = some (.slice (some ⟨D1, 0, none⟩) N N) ∧ w7.cell? ⟨w4.heap.size, 2, none⟩ = some (.slice (some ⟨D2, 0, none⟩) gn gn) ∧ w7.cell? ⟨w4.heap.size, 3, none⟩ = some (.slice (some ⟨D3, 0, none⟩) sn sn)) := ⟨q_7.quadP, xb_7.quadP⟩))
  clear hn0 hn6_ hn7_ B_5 B_6 b_6 b_7 bd_6 q_5 q_6 q_7 xb_5 xb_6 xb_7 P_5 P_6 Q_5 Q_6 my_6 ky_6 ly_6
  go_wp2
  go_ret
  exact ⟨rfl, B_7⟩

/-! ### The row's step -/
set_option maxRecDepth 100000 in
theorem lifted (os : Os) (started : os.Started) (H : Type) (enc : TypeId × Value → H) :
    ReturnsInHanded {} Try.checked os 4 .any (Rows.fnExactPlnHomeSpec.pre6 enc Try.prog Try.f4 Rows.fnExactPlnHomeRow.domain false) (Rows.fnExactPlnHomeSpec.post enc Try.prog Try.f4 false true false false) := by
  refine returnsInHanded_of_change (C := Try.checked) own started (by kernel_rfl) Try.func4
    (ChangeSpec.witness6 (enc := enc) (C := Try.checked) false ⟨#[], #[.agg #[.int .i64 0, .slice none 0 0, .slice none 0 0, .slice none 0 0], .int .i64 0], []⟩ 8 (by kernel_rfl) (by kernel_rfl) (by kernel_rfl) (by kernel_rfl)) ?_
  intro W base args ds gs before hval0 hW hcnd _
  have hval : ∀ (j : Nat) t v, Try.f4.params[j]? = some t → args[j]? = some v → Value.okWide Try.prog W .any base t v := hval0
  have hW' := hW
  obtain ⟨p, q, hA0, hV, rfl, hfz, hnd⟩ := hW
  have hA : DataW.TrodAll enc Try.prog W 0 (fun _ => true) true Try.f4.params.toList args.toList ds p := hA0
  rw [Try.params4] at hA hval
  obtain ⟨v0, vs0, d0, ds0, p0, q0, hargs, rfl, rfl, h0, r0⟩ := trodAll_cons hA
  obtain ⟨v1, vs1, d1, ds1, p1, q1, rfl, rfl, rfl, h1, r1⟩ := trodAll_cons r0
  obtain ⟨rfl, rfl, rfl⟩ := trodAll_nil r1
  obtain rfl : args = #[v0, v1] := by cases args; simp_all
  obtain ⟨rfl, rfl⟩ := trodVars_none hV
  have k0 := h0
  have lt0 : ∀ x ∈ p0, x.block < W.heap.size := by obtain ⟨m, hm⟩ := k0; exact DataW.trod_lt m _ _ _ hm
  obtain ⟨cl0, ad0, N0, cap0, ss0, ga0, gn0, gc0, G0, sa0, sn0, sc0, S0, rfl, wc0, hl0, hM0, hN0, hG0, hg0, hS0, hs0⟩ := open_plan (hval 0 25 v0 rfl rfl) h0
  have k1 := h1
  have lt1 : ∀ x ∈ p1, x.block < W.heap.size := by obtain ⟨m, hm⟩ := k1; exact DataW.trod_lt m _ _ _ hm
  obtain ⟨x1, rfl, wx1⟩ := open_numT h1 (hval 1 3 v1 rfl rfl)
  clear hA0 hval0
  refine (walk W cl0 ad0 N0 cap0 ss0 ga0 gn0 gc0 G0 sa0 sn0 sc0 S0 hl0 hM0 hN0 hG0 hg0 hS0 hs0 x1 wx1).mono fun e W' ⟨he, bel⟩ => ?_
  subst he
  exact ⟨_, rfl, _, _, _, [], _, [], hW', trodAll_mk1 (shut_bool Try.underlying4 _), (trodAll_cons_mk (Below.trod laidOut (by kernel_rfl) (of_decide_eq_true (by kernel_rfl)) k0 bel lt0) (trodAll_cons_mk (Below.trod laidOut (by kernel_rfl) (of_decide_eq_true (by kernel_rfl)) k1 bel lt1) trodAll_mk0)), rfl, bel.frame _, fun h => by cases h⟩

theorem over : Rows.fnExactPlnHomeRow.holds Try.pinned (OpenSpec.ofChange Rows.fnExactPlnHomeSpec) :=
  OpenClaim.holds_of_wide 4 Try.f4 rfl rfl rfl rfl rfl rfl rfl ⟨rfl, rfl, rfl, rfl, rfl⟩ rfl rfl rfl rfl rfl (by kernel_rfl) Try.func4 (by kernel_rfl)
    (of_decide_eq_true (by kernel_rfl)) (by unfold Func.isWrapper; first | (rw [if_pos (by decide +kernel)]; kernel_rfl) | (rw [if_neg (by decide +kernel)]; exact ⟨rfl, rfl⟩))
    (fun os started H enc _ => lifted os started H enc)

end Go.Proofs.Ytkmacleakfbobaa.fnExactPlnHome
namespace Go.Proofs.Ytkmacleakfbobaa
/-- The statement. -/
theorem fnExactPlnHome_holds : Rows.FnExactPlnHomeSaid := fnExactPlnHome.over
#print axioms fnExactPlnHome_holds
end Go.Proofs.Ytkmacleakfbobaa
