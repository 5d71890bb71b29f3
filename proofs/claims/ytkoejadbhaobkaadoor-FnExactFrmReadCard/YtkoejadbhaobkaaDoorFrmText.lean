/-
  For every form FnExactFrmText returns true, and the form reads behind the call as it did; the library's tables that are listed are as its text lays them. No other condition.
-/
import Derived.Test.YtkoejadbhaobkaaDoorFTxtI
import Derived.Test.YtkoejadbhaobkaaDoorOpen
import Derived.Test.YtkoejadbhaobkaaDoorTie
import Derived.Test.YtkoejadbhaobkaaDoorCards
import Derived.Stop.LaidErr
import Derived.Lib.LaidTab
import Derived.LaidMore
import Derived.Lay
import Derived.SevenTiedAt
import Derived.Stop.Joined
import Derived.Deep.RegionHeld3
import Derived.Deep.DeepCutAuto
namespace Go.Proofs.YtkoejadbhaobkaaDoor.fnExactFrmText
open Go.ChangeShapes Go.WideShapes Go.ChangeAt Go.RowKit Go.Deep
set_option linter.unusedVariables false

theorem _root_.Go.Proofs.YtkoejadbhaobkaaDoor.Cel.three {w : World} {B : Nat} {v0 v1 v2 : Value} {t : TypeId} (h : Cel w B [v0, v1, v2] t) : w.cell? ⟨B, 0, none⟩ = some v0 ∧ w.cell? ⟨B, 1, none⟩ = some v1 ∧ w.cell? ⟨B, 2, none⟩ = some v2 := ⟨h.cell 0, h.cell 1, h.cell 2⟩

set_option maxRecDepth 100000 in
theorem iftext_any (a : Option Addr) (n cap : Nat) (c : Option Addr) (m cap' : Nat) (K : Int) (C D : List Int) (w : World) (hC : Ints w a n C) (hD : Ints w c m D) (hn : n ≤ 1048576) (hm : m ≤ 1048576) (hT : Lib.TabBelow Tryd.prog w.heap.size w "internal/strconv.uint64pow10" .u64 Lib.pow10Tab) :
    Calls Tryd.prog 10 #[formV a n cap c m cap' K] w fun e w' => e = .returned (.string ⟨(formText n m C D K).toArray⟩) ∧ Below w.heap.size w w' := by
  have q0 := Cel.new w [.slice a n cap, .slice c m cap', .int .i64 K] 27
  have b0 := (Below.refl w.heap.size w).alloc (Nat.le_refl _) (.cells #[.slice a n cap, .slice c m cap', .int .i64 K] 27)
  have HT : Hid _ := hT
  clear hT
  cases h1 : formB n m C D K
  · have HR : Hid _ := formText_no h1
    go_enter Tryd.func10, Tryd.ntmps10
    go_wp2_with fail
    refine (iok_any _ _ _ _ _ _ _ C D _ (hC.below b0) (hD.below b0) hn hm).mono ?_
    rintro e w1 ⟨rfl, b1⟩
    rw [h1]
    go_wp2
    go_ret
    exact ⟨by rw [HR.out]; rfl, b0.trans (b1.mono b0.size)⟩
  · have HR : Hid _ := formText_yes h1
    obtain ⟨e1, e2, bC, bD, K1, K2⟩ := formB_elim h1
    have H1 : Hid _ := h1
    clear h1
    subst e1 e2
    go_enter Tryd.func10, Tryd.ntmps10
    go_wp2_with fail
    refine (iok_any _ _ _ _ _ _ _ C D _ (hC.below b0) (hD.below b0) hn hm).mono ?_
    rintro e w1 ⟨rfl, b1⟩
    rw [H1.out]
    have B1 := b0.trans (b1.mono b0.size)
    obtain ⟨c0, c1, c2⟩ := (q0.below b1).three
    go_wp2_with fail
    refine (text_any _ _ _ _ _ C D _ (hC.below B1) (hD.below B1) bC bD K1 K2 (fun w' h' => HT.out w' (B1.trans (h'.mono B1.size)))).mono ?_
    rintro e w2 ⟨rfl, b2⟩
    go_wp2
    go_ret
    exact ⟨by rw [HR.out]; rfl, B1.trans (b2.mono B1.size)⟩

set_option maxRecDepth 100000 in
set_option maxHeartbeats 6400000 in
theorem walk (w : World) (a : Option Addr) (n cap : Nat) (c : Option Addr) (m cap' : Nat) (K : Int) (C D : List Int) (hC : Ints w a n C) (hD : Ints w c m D) (hn : n ≤ maxLen) (hm : m ≤ maxLen) (wK : (Lit.int .i64 K).wf = true) (hT : Lib.TabBelow Tryd.prog w.heap.size w "internal/strconv.uint64pow10" .u64 Lib.pow10Tab) :
    Calls Tryd.prog 3 #[formV a n cap c m cap' K] w fun r w' => r = .returned (.bool true) ∧ Below w.heap.size w w' := by
  have HC : Hid (C.length = n) := hC.1
  have HD : Hid (D.length = m) := hD.1
  have HT : Hid _ := hT
  clear hT
  have q_0 := Cel.new w [.slice a n cap, .slice c m cap', .int .i64 K] 24
  have B_0 := (Below.refl w.heap.size w).alloc (Nat.le_refl _) (.cells #[.slice a n cap, .slice c m cap', .int .i64 K] 24)
  have g1 := leftOf_ge 1048576 n
  have g2 := leftOf_ge (leftOf 1048576 n) m
  by_cases h : leftOf (leftOf 1048576 n) m < 0
  · go_enter Tryd.func3, Tryd.ntmps3
    go_wp2_with fail
    refine (szF_any _ _ _ _ _ _ _ _ _ hn hm (by omega) (by omega)).mono ?_
    rintro r w1 ⟨rfl, b1⟩
    go_wp2
    go_ret
    exact ⟨rfl, B_0.trans (b1.mono B_0.size)⟩
  have l2 := leftOf_le (l := leftOf 1048576 n) (n := m) (by omega)
  have l1 := leftOf_le (l := 1048576) (n := n) (by omega)
  have hn1 : n ≤ 1048576 := by omega
  have hm1 : m ≤ 1048576 := by omega
  have h' : 0 ≤ leftOf (leftOf 1048576 n) m := by omega
  obtain ⟨x, hx⟩ : ∃ x, x = leftOf (leftOf 1048576 n) m := ⟨_, rfl⟩
  have HX : Hid _ := hx
  rw [← hx] at h'
  clear l1 l2 g1 g2 h hx
  obtain ⟨T, hTx⟩ : ∃ T : ByteArray, T = ⟨(formText n m C D K).toArray⟩ := ⟨_, rfl⟩
  have HTX : Hid _ := hTx
  clear hTx
  go_enter Tryd.func3, Tryd.ntmps3
  go_wp2_with fail
  refine (szF_any _ _ _ _ _ _ _ _ _ hn hm (by omega) (by omega)).mono ?_
  rintro r w1 ⟨rfl, b_1⟩
  rw [← HX.out]
  have B_1 := B_0.trans (b_1.mono B_0.size)
  have q_1 := q_0.below b_1
  clear B_0 q_0 b_1
  obtain ⟨c_q0, c_q1, c_q2⟩ := q_1.three
  go_wp2_with fail
  refine (toF_any _ _ _ _ _ _ _ C D _ (hC.below B_1) (hD.below B_1) hn1 hm1).mono ?_
  rintro r w2 ⟨P1, P2, rfl, b_2, -, -, kc_2, kd_2⟩
  clear c_q0 c_q1 c_q2
  have B_2 := B_1.trans (b_2.mono B_1.size)
  have q_2 := q_1.below b_2
  clear B_1 q_1 b_2
  obtain ⟨c_q0, c_q1, c_q2⟩ := q_2.three
  go_wp2_with fail
  refine (sftext_any _ _ _ _ _ _ _ C D _ (kc_2.ints' HC.out) (kd_2.ints' HD.out) hn1 hm1).mono ?_
  rintro r w3 ⟨rfl, b_3⟩
  rw [← HTX.out]
  clear c_q0 c_q1 c_q2
  have B_3 := B_2.trans (b_3.mono B_2.size)
  have q_3 := q_2.below b_3
  clear B_2 kc_2 kd_2 q_2 b_3
  obtain ⟨c_q0, c_q1, c_q2⟩ := q_3.three
  go_wp2_with fail
  refine (toF_any _ _ _ _ _ _ _ C D _ (hC.below B_3) (hD.below B_3) hn1 hm1).mono ?_
  rintro r w4 ⟨P3, P4, rfl, b_4, -, -, kc_4, kd_4⟩
  clear c_q0 c_q1 c_q2
  have B_4 := B_3.trans (b_4.mono B_3.size)
  have q_4 := q_3.below b_4
  clear B_3 q_3 b_4
  obtain ⟨c_q0, c_q1, c_q2⟩ := q_4.three
  go_wp2_with fail
  refine (iftext_any _ _ _ _ _ _ _ C D _ ((kc_4.alloc _).ints' HC.out) ((kd_4.alloc _).ints' HD.out) hn1 hm1 (fun w' h' => HT.out w' ((B_4.alloc B_4.size _).trans (h'.mono ((B_4.alloc B_4.size _).size))))).mono ?_
  rintro r w5 ⟨rfl, b_5⟩
  rw [← HTX.out]
  clear c_q0 c_q1 c_q2
  have B_5 := (B_4.alloc B_4.size _).trans (b_5.mono (B_4.alloc B_4.size _).size)
  have q_5 := (q_4.alloc _).below b_5
  have kc_5 := (kc_4.alloc _).below b_5
  have kd_5 := (kd_4.alloc _).below b_5
  have xb_5 := (Cel.new w4 _ _).below b_5
  clear B_4 kc_4 kd_4 q_4 b_5
  obtain ⟨c_q0, c_q1, c_q2⟩ := q_5.three
  obtain ⟨c_xb0, c_xb1, c_xb2⟩ := xb_5.three
  clear c_q0 c_q1 c_q2 c_xb0 c_xb1 c_xb2
  have hn0 : w5.cell? ⟨w.heap.size, 0, none⟩ = some (.slice a n cap) ∧ w5.cell? ⟨w.heap.size, 1, none⟩ = some (.slice c m cap') ∧ w5.cell? ⟨w.heap.size, 2, none⟩ = some (.int .i64 K) ∧ w5.cell? ⟨w4.heap.size, 0, none⟩ = some (.slice (some ⟨P3, 0, none⟩) n n) ∧ w5.cell? ⟨w4.heap.size, 1, none⟩ = some (.slice (some ⟨P4, 0, none⟩) m m) ∧ w5.cell? ⟨w4.heap.size, 2, none⟩ = some (.int .i64 K) := ⟨q_5.cell 0, q_5.cell 1, q_5.cell 2, xb_5.cell 0, xb_5.cell 1, xb_5.cell 2⟩
  go_upto_region 10 with fail
  go_region_held3 (fun w' => w'.cell? ⟨w.heap.size, 0, none⟩ = some (.slice a n cap) ∧ w'.cell? ⟨w.heap.size, 1, none⟩ = some (.slice c m cap') ∧ w'.cell? ⟨w.heap.size, 2, none⟩ = some (.int .i64 K) ∧ w'.cell? ⟨w4.heap.size, 0, none⟩ = some (.slice (some ⟨P3, 0, none⟩) n n) ∧ w'.cell? ⟨w4.heap.size, 1, none⟩ = some (.slice (some ⟨P4, 0, none⟩) m m) ∧ w'.cell? ⟨w4.heap.size, 2, none⟩ = some (.int .i64 K)) (first | with_reducible assumption | exact hn0)
    (first
      | (go_at_call 9
         refine (toF_any _ _ _ _ _ _ _ C D _ (by exact hC.below (Below.drew B_5)) (by exact hD.below (Below.drew B_5)) hn1 hm1).mono ?_
         rintro ee w6 ⟨Y1, Y2, rfl, bd_6, -, -, ky_6, kz_6⟩
         have b_6 := below_of_drew bd_6
         have B_6 := B_5.trans (b_6.mono B_5.size)
         have q_6 := q_5.below b_6
         have kc_6 := kc_5.below b_6
         have kd_6 := kd_5.below b_6
         have xb_6 := xb_5.below b_6
         have hn6_ : w6.cell? ⟨w.heap.size, 0, none⟩ = some (.slice a n cap) ∧ w6.cell? ⟨w.heap.size, 1, none⟩ = some (.slice c m cap') ∧ w6.cell? ⟨w.heap.size, 2, none⟩ = some (.int .i64 K) ∧ w6.cell? ⟨w4.heap.size, 0, none⟩ = some (.slice (some ⟨P3, 0, none⟩) n n) ∧ w6.cell? ⟨w4.heap.size, 1, none⟩ = some (.slice (some ⟨P4, 0, none⟩) m m) ∧ w6.cell? ⟨w4.heap.size, 2, none⟩ = some (.int .i64 K) := ⟨q_6.cell 0, q_6.cell 1, q_6.cell 2, xb_6.cell 0, xb_6.cell 1, xb_6.cell 2⟩)
      | (go_at_call 11
         refine (eqF_any _ _ _ _ _ _ _ C D _ _ _ _ _ _ _ C D _ (by exact kc_6.ints' HC.out) (by exact kd_6.ints' HD.out) (by exact ky_6.ints' HC.out) (by exact kz_6.ints' HD.out) hn1 hm1 hn1 hm1).mono ?_
         rintro ee w7 ⟨rfl, b_7⟩
         rw [eqF_refl C D K]
         have B_7 := B_6.trans (b_7.mono B_6.size)
         have q_7 := q_6.below b_7
         have xb_7 := xb_6.below b_7
         have hn7_ : w7.cell? ⟨w.heap.size, 0, none⟩ = some (.slice a n cap) ∧ w7.cell? ⟨w.heap.size, 1, none⟩ = some (.slice c m cap') ∧ w7.cell? ⟨w.heap.size, 2, none⟩ = some (.int .i64 K) ∧ w7.cell? ⟨w4.heap.size, 0, none⟩ = some (.slice (some ⟨P3, 0, none⟩) n n) ∧ w7.cell? ⟨w4.heap.size, 1, none⟩ = some (.slice (some ⟨P4, 0, none⟩) m m) ∧ w7.cell? ⟨w4.heap.size, 2, none⟩ = some (.int .i64 K) := ⟨q_7.cell 0, q_7.cell 1, q_7.cell 2, xb_7.cell 0, xb_7.cell 1, xb_7.cell 2⟩))
  clear hn0 hn6_ hn7_ B_5 B_6 b_6 b_7 bd_6 kc_5 kc_6 kd_5 kd_6 ky_6 kz_6 q_5 q_6 q_7 xb_5 xb_6 xb_7
  go_wp2
  go_ret
  exact ⟨rfl, B_7⟩

/-! ### The row's step -/
theorem tab_of {W : World} (h : laidMetH Tryd.prog Rows.fnExactFrmTextRow.laid W) : Lib.TabIs Tryd.prog W "internal/strconv.uint64pow10" .u64 Lib.pow10Tab := by
  rw [MakeChecks.laidMetH_plain _ _ _ (by kernel_rfl)] at h
  have h2 : laidMet Tryd.prog [("internal/strconv.uint64pow10", Lib.tabData .u64 Lib.pow10Tab)] W := h.tail.tail
  exact Lib.tabIs_of_head (g := 0) (t := 113) (e := 91) (n := 20) (by kernel_rfl) (by kernel_rfl) Tryd.underlying113 Tryd.underlying91 (by kernel_rfl) (by kernel_rfl) h2

set_option maxRecDepth 100000 in
theorem lifted (os : Os) (started : os.Started) (H : Type) (enc : TypeId × Value → H) :
    ReturnsInHanded {} Tryd.checked os 3 .any (fun w args => (Rows.fnExactFrmTextSpec.pre enc Tryd.prog Tryd.f3 Rows.fnExactFrmTextRow.domain false w args ∧ laidMetH Tryd.prog Rows.fnExactFrmTextRow.laid w) ∧ sizedMet enc Tryd.prog Tryd.f3 (OpenSpec.ofChange Rows.fnExactFrmTextSpec) false w args) (Rows.fnExactFrmTextSpec.post enc Tryd.prog Tryd.f3 false true false false) := by
  refine returnsInHanded_of_change_and (C := Tryd.checked) (X := fun w _ => laidMetH Tryd.prog Rows.fnExactFrmTextRow.laid w) (fun _ _ _ hh h => h.of_heap hh) own started (by kernel_rfl) Tryd.func3
    (ChangeSpec.witness_shaped (enc := enc) (C := Tryd.checked) (os := os) (X := fun w _ => laidMetH Tryd.prog Rows.fnExactFrmTextRow.laid w) false (World.laidAll Tryd.prog os Rows.fnExactFrmTextRow.laid) #[.agg #[.slice none 0 0, .slice none 0 0, .int .i64 0]] 8 (World.laidAll_os _ _ _)
      (World.shaped_of_ZipB (by kernel_rfl) (by kernel_rfl)) (by kernel_rfl) (by kernel_rfl) (by kernel_rfl)
      (by rw [MakeChecks.laidMetH_plain _ _ _ (by kernel_rfl)]; exact laidMet_laidAll _ (by kernel_rfl) (by kernel_rfl))) ?_
  intro W base args ds gs before hval0 hW hcnd _ hL _
  have hval : ∀ (j : Nat) t v, Tryd.f3.params[j]? = some t → args[j]? = some v → Value.okWide Tryd.prog W .any base t v := hval0
  have hW' := hW
  obtain ⟨p, q, hA0, hV, rfl, hfz, hnd⟩ := hW
  have hA : DataW.TrodAll enc Tryd.prog W 0 (fun _ => true) true Tryd.f3.params.toList args.toList ds p := hA0
  rw [Tryd.params3] at hA hval
  obtain ⟨v0, vs0, d0, ds0, p0, q0, hargs, rfl, rfl, h0, r0⟩ := trodAll_cons hA
  obtain ⟨rfl, rfl, rfl⟩ := trodAll_nil r0
  obtain rfl : args = #[v0] := by cases args; simp_all
  obtain ⟨rfl, rfl⟩ := trodVars_none hV
  have k0 := h0
  have lt0 : ∀ x ∈ p0, x.block < W.heap.size := by obtain ⟨m, hm⟩ := k0; exact DataW.trod_lt m _ _ _ hm
  obtain ⟨a0, n0, cap0, c0, m0, cap0', K0, C0, D0, rfl, hC0, hD0, hn0, hm0, wK0⟩ := open_form (hval 0 24 v0 rfl rfl) h0
  clear hA0 hval0
  refine (walk W a0 n0 cap0 c0 m0 cap0' K0 C0 D0 hC0 hD0 hn0 hm0 wK0 (Lib.tabBelow_of_tabIs (tab_of hL))).mono fun e W' ⟨he, bel⟩ => ?_
  subst he
  exact ⟨_, rfl, _, _, _, [], _, [], hW', trodAll_mk1 (shut_bool Tryd.underlying4 _), (trodAll_cons_mk (Below.trod laidOut (by kernel_rfl) (of_decide_eq_true (by kernel_rfl)) k0 bel lt0) trodAll_mk0), rfl, bel.frame _, fun h => by cases h⟩

theorem over : Rows.fnExactFrmTextRow.holds Tryd.pinned (OpenSpec.ofChange Rows.fnExactFrmTextSpec) :=
  OpenClaim.holds_of_wide 3 Tryd.f3 rfl rfl rfl rfl rfl rfl rfl ⟨rfl, rfl, rfl, rfl, rfl⟩ rfl rfl rfl rfl rfl (by kernel_rfl) Tryd.func3 (by kernel_rfl)
    (of_decide_eq_true (by kernel_rfl)) (by unfold Func.isWrapper; first | (rw [if_pos (by decide +kernel)]; kernel_rfl) | (rw [if_neg (by decide +kernel)]; exact ⟨rfl, rfl⟩))
    (fun os started H enc _ => lifted os started H enc)

end Go.Proofs.YtkoejadbhaobkaaDoor.fnExactFrmText
namespace Go.Proofs.YtkoejadbhaobkaaDoor
/-- The statement. -/
theorem fnExactFrmText_holds : Rows.FnExactFrmTextCardSaid :=
  Claim7.holds_tied_plain_at .later [] [.data, .data, .data] true Rows.fnExactFrmTextCard.stood.harness true fnExactFrmText.over (fun _ h => by cases h) (by kernel_rfl) (fun _ h => by cases h) fnExactFrmText_row_tie rfl ⟨rfl, rfl⟩ (by kernel_rfl) rfl
    (fun f fn hf hfn => by
      obtain rfl : f = 3 := Option.some.inj ((show Tryd.prog.funcNamed Rows.fnExactFrmTextRow.func = some 3 by kernel_rfl).symm.trans hf) |>.symm
      obtain rfl : fn = Tryd.f3 := (Option.some.inj (Tryd.func3.symm.trans hfn)).symm
      exact ⟨by kernel_rfl, fun j t ht => by
        rw [Tryd.params3] at ht
        have hm : t ∈ [24] := by simpa using Array.mem_of_getElem? ht
        have hall : ([24].all fun u => !Tryd.prog.wantsStandIn u) = true := by kernel_rfl
        exact (show Tryd.prog.wantsStandIn t = false by simpa using List.all_eq_true.1 hall t hm)⟩)
    (by kernel_rfl)
#print axioms fnExactFrmText_holds
end Go.Proofs.YtkoejadbhaobkaaDoor
