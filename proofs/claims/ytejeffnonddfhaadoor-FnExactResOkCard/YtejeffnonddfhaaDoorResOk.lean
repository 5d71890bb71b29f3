/-
  For every result FnExactResOk returns true, and the result reads behind the call as it did; the library's tables that are listed are as its text lays them. No other condition.
-/
import Derived.Test.YtejeffnonddfhaaDoorResOkW
import Derived.Test.YtejeffnonddfhaaDoorTie
import Derived.Test.YtejeffnonddfhaaDoorCards
import Derived.Stop.LaidErr
import Derived.Lib.LaidTab
import Derived.LaidMore
import Derived.Lay
import Derived.SevenTiedAt
import Derived.Stop.Joined
import Derived.Deep.RegionHeld3
import Derived.Deep.DeepCutAuto
namespace Go.Proofs.YtejeffnonddfhaaDoor.fnExactResOk
open Go.ChangeShapes Go.WideShapes Go.ChangeAt Go.RowKit Go.Deep
set_option linter.unusedVariables false

theorem _root_.Go.Proofs.YtejeffnonddfhaaDoor.Cel.two {w : World} {B : Nat} {v0 v1 : Value} {t : TypeId} (h : Cel w B [v0, v1] t) : w.cell? ⟨B, 0, none⟩ = some v0 ∧ w.cell? ⟨B, 1, none⟩ = some v1 := ⟨h.cell 0, h.cell 1⟩

set_option maxRecDepth 100000 in
set_option maxHeartbeats 6400000 in
theorem walk (w : World) (c : Int) (a : Option Addr) (n cap : Nat) (C : List Int) (wc : (Lit.int .i64 c).wf = true) (hC : Ints w a n C) (hn : n ≤ maxLen) (hT : Lib.TabBelow Tryd.prog w.heap.size w "internal/strconv.uint64pow10" .u64 Lib.pow10Tab) :
    Calls Tryd.prog 4 #[resP c a n cap] w fun r w' => r = .returned (.bool true) ∧ Below w.heap.size w w' := by
  have HC : Hid (C.length = n) := hC.1
  have HT : Hid _ := hT
  clear hT
  have q_0 := Cel.new w [.int .i64 c, .slice a n cap] 24
  have B_0 := (Below.refl w.heap.size w).alloc (Nat.le_refl _) (.cells #[.int .i64 c, .slice a n cap] 24)
  have g1 := leftOf_ge 1048576 n
  by_cases h : leftOf 1048576 n < 0
  · go_enter Tryd.func4, Tryd.ntmps4
    go_wp2_with fail
    refine (szR_any _ _ _ _ _ _ hn (by omega) (by omega)).mono ?_
    rintro r w1 ⟨rfl, b1⟩
    go_wp2
    go_ret
    exact ⟨rfl, B_0.trans (b1.mono B_0.size)⟩
  have l1 := leftOf_le (l := 1048576) (n := n) (by omega)
  have hn1 : n ≤ 1048576 := by omega
  have h' : 0 ≤ leftOf 1048576 n := by omega
  obtain ⟨x, hx⟩ : ∃ x, x = leftOf 1048576 n := ⟨_, rfl⟩
  have HX : Hid _ := hx
  rw [← hx] at h'
  clear l1 g1 h hx
  obtain ⟨T, hTx⟩ : ∃ T : Bool, T = fullB (resText c n C) := ⟨_, rfl⟩
  have HTX : Hid _ := hTx
  clear hTx
  go_enter Tryd.func4, Tryd.ntmps4
  go_wp2_with fail
  refine (szR_any _ _ _ _ _ _ hn (by omega) (by omega)).mono ?_
  rintro r w1 ⟨rfl, b_1⟩
  rw [← HX.out]
  have B_1 := B_0.trans (b_1.mono B_0.size)
  have q_1 := q_0.below b_1
  clear B_0 q_0 b_1
  obtain ⟨c_q0, c_q1⟩ := q_1.two
  go_wp2_with fail
  refine (toR_any _ _ _ _ C _ (hC.below B_1) hn1).mono ?_
  rintro r w2 ⟨P1, rfl, b_2, -, kc_2⟩
  clear c_q0 c_q1
  have B_2 := B_1.trans (b_2.mono B_1.size)
  have q_2 := q_1.below b_2
  clear B_1 q_1 b_2
  obtain ⟨c_q0, c_q1⟩ := q_2.two
  go_wp2_with fail
  refine (sresok_any _ _ _ _ C _ (kc_2.ints' HC.out) hn1).mono ?_
  rintro r w3 ⟨rfl, b_3⟩
  rw [← HTX.out]
  clear c_q0 c_q1
  have B_3 := B_2.trans (b_3.mono B_2.size)
  have q_3 := q_2.below b_3
  clear B_2 kc_2 q_2 b_3
  obtain ⟨c_q0, c_q1⟩ := q_3.two
  go_wp2_with fail
  refine (toR_any _ _ _ _ C _ (hC.below B_3) hn1).mono ?_
  rintro r w4 ⟨P2, rfl, b_4, -, kc_4⟩
  clear c_q0 c_q1
  have B_4 := B_3.trans (b_4.mono B_3.size)
  have q_4 := q_3.below b_4
  clear B_3 q_3 b_4
  obtain ⟨c_q0, c_q1⟩ := q_4.two
  go_wp2_with fail
  refine (iresok_any _ _ _ _ C _ ((kc_4.alloc _).ints' HC.out) hn1 (fun w' h' => HT.out w' ((B_4.alloc B_4.size _).trans (h'.mono ((B_4.alloc B_4.size _).size))))).mono ?_
  rintro r w5 ⟨rfl, b_5⟩
  rw [← HTX.out]
  clear c_q0 c_q1
  have B_5 := (B_4.alloc B_4.size _).trans (b_5.mono (B_4.alloc B_4.size _).size)
  have q_5 := (q_4.alloc _).below b_5
  have kc_5 := (kc_4.alloc _).below b_5
  have xb_5 := (Cel.new w4 _ _).below b_5
  clear B_4 kc_4 q_4 b_5
  obtain ⟨c_q0, c_q1⟩ := q_5.two
  obtain ⟨c_xb0, c_xb1⟩ := xb_5.two
  have hvv : (T != T) = false := by cases T <;> rfl
  clear c_q0 c_q1 c_xb0 c_xb1
  have hn0 : w5.cell? ⟨w.heap.size, 0, none⟩ = some (.int .i64 c) ∧ w5.cell? ⟨w.heap.size, 1, none⟩ = some (.slice a n cap) ∧ w5.cell? ⟨w4.heap.size, 0, none⟩ = some (.int .i64 c) ∧ w5.cell? ⟨w4.heap.size, 1, none⟩ = some (.slice (some ⟨P2, 0, none⟩) n n) := ⟨q_5.cell 0, q_5.cell 1, xb_5.cell 0, xb_5.cell 1⟩
  go_upto_region 10 with fail
  go_region_held3 (fun w' => w'.cell? ⟨w.heap.size, 0, none⟩ = some (.int .i64 c) ∧ w'.cell? ⟨w.heap.size, 1, none⟩ = some (.slice a n cap) ∧ w'.cell? ⟨w4.heap.size, 0, none⟩ = some (.int .i64 c) ∧ w'.cell? ⟨w4.heap.size, 1, none⟩ = some (.slice (some ⟨P2, 0, none⟩) n n)) (first | with_reducible assumption | exact hn0)
    (first
      | (go_at_call 10
         refine (toR_any _ _ _ _ C _ (by exact hC.below (Below.drew B_5)) hn1).mono ?_
         rintro ee w6 ⟨Y1, rfl, bd_6, -, ky_6⟩
         have b_6 := below_of_drew bd_6
         have B_6 := B_5.trans (b_6.mono B_5.size)
         have q_6 := q_5.below b_6
         have kc_6 := kc_5.below b_6
         have xb_6 := xb_5.below b_6
         have hn6_ : w6.cell? ⟨w.heap.size, 0, none⟩ = some (.int .i64 c) ∧ w6.cell? ⟨w.heap.size, 1, none⟩ = some (.slice a n cap) ∧ w6.cell? ⟨w4.heap.size, 0, none⟩ = some (.int .i64 c) ∧ w6.cell? ⟨w4.heap.size, 1, none⟩ = some (.slice (some ⟨P2, 0, none⟩) n n) := ⟨q_6.cell 0, q_6.cell 1, xb_6.cell 0, xb_6.cell 1⟩)
      | (go_at_call 12
         refine (eqR_same _ _ _ _ _ _ C _ (by exact kc_6.ints' HC.out) (by exact ky_6.ints' HC.out) hn1).mono ?_
         rintro ee w7 ⟨rfl, b_7⟩
         have B_7 := B_6.trans (b_7.mono B_6.size)
         have q_7 := q_6.below b_7
         have xb_7 := xb_6.below b_7
         have hn7_ : w7.cell? ⟨w.heap.size, 0, none⟩ = some (.int .i64 c) ∧ w7.cell? ⟨w.heap.size, 1, none⟩ = some (.slice a n cap) ∧ w7.cell? ⟨w4.heap.size, 0, none⟩ = some (.int .i64 c) ∧ w7.cell? ⟨w4.heap.size, 1, none⟩ = some (.slice (some ⟨P2, 0, none⟩) n n) := ⟨q_7.cell 0, q_7.cell 1, xb_7.cell 0, xb_7.cell 1⟩))
  clear hn0 hn6_ hn7_ B_5 B_6 b_6 b_7 bd_6 kc_5 kc_6 ky_6 q_5 q_6 q_7 xb_5 xb_6 xb_7
  go_wp2
  go_ret
  exact ⟨rfl, B_7⟩

/-! ### The row's step -/
theorem tab_of {W : World} (h : laidMetH Tryd.prog Rows.fnExactResOkRow.laid W) : Lib.TabIs Tryd.prog W "internal/strconv.uint64pow10" .u64 Lib.pow10Tab := by
  rw [MakeChecks.laidMetH_plain _ _ _ (by kernel_rfl)] at h
  have h2 : laidMet Tryd.prog [("internal/strconv.uint64pow10", Lib.tabData .u64 Lib.pow10Tab)] W := h.tail.tail
  exact Lib.tabIs_of_head (g := 1) (t := 149) (e := 130) (n := 20) (by kernel_rfl) (by kernel_rfl) Tryd.underlying149 Tryd.underlying130 (by kernel_rfl) (by kernel_rfl) h2

set_option maxRecDepth 100000 in
theorem lifted (os : Os) (started : os.Started) (H : Type) (enc : TypeId × Value → H) :
    ReturnsInHanded {} Tryd.checked os 4 .any (fun w args => (Rows.fnExactResOkSpec.pre enc Tryd.prog Tryd.f4 Rows.fnExactResOkRow.domain false w args ∧ laidMetH Tryd.prog Rows.fnExactResOkRow.laid w) ∧ sizedMet enc Tryd.prog Tryd.f4 (OpenSpec.ofChange Rows.fnExactResOkSpec) false w args) (Rows.fnExactResOkSpec.post enc Tryd.prog Tryd.f4 false true false false) := by
  refine returnsInHanded_of_change_and (C := Tryd.checked) (X := fun w _ => laidMetH Tryd.prog Rows.fnExactResOkRow.laid w) (fun _ _ _ hh h => h.of_heap hh) own started (by kernel_rfl) Tryd.func4
    (ChangeSpec.witness_shaped (enc := enc) (C := Tryd.checked) (os := os) (X := fun w _ => laidMetH Tryd.prog Rows.fnExactResOkRow.laid w) false (World.laidAll Tryd.prog os Rows.fnExactResOkRow.laid) #[.agg #[.int .i64 0, .slice none 0 0]] 8 (World.laidAll_os _ _ _)
      (World.shaped_of_ZipB (by kernel_rfl) (by kernel_rfl)) (by kernel_rfl) (by kernel_rfl) (by kernel_rfl)
      (by rw [MakeChecks.laidMetH_plain _ _ _ (by kernel_rfl)]; exact laidMet_laidAll _ (by kernel_rfl) (by kernel_rfl))) ?_
  intro W base args ds gs before hval0 hW hcnd _ hL _
  have hval : ∀ (j : Nat) t v, Tryd.f4.params[j]? = some t → args[j]? = some v → Value.okWide Tryd.prog W .any base t v := hval0
  have hW' := hW
  obtain ⟨p, q, hA0, hV, rfl, hfz, hnd⟩ := hW
  have hA : DataW.TrodAll enc Tryd.prog W 0 (fun _ => true) true Tryd.f4.params.toList args.toList ds p := hA0
  rw [Tryd.params4] at hA hval
  obtain ⟨v0, vs0, d0, ds0, p0, q0, hargs, rfl, rfl, h0, r0⟩ := trodAll_cons hA
  obtain ⟨rfl, rfl, rfl⟩ := trodAll_nil r0
  obtain rfl : args = #[v0] := by cases args; simp_all
  obtain ⟨rfl, rfl⟩ := trodVars_none hV
  have k0 := h0
  have lt0 : ∀ x ∈ p0, x.block < W.heap.size := by obtain ⟨m, hm⟩ := k0; exact DataW.trod_lt m _ _ _ hm
  obtain ⟨x0, a0, n0, cap0, C0, rfl, wx0, hC0, hn0⟩ := open_res (hval 0 24 v0 rfl rfl) h0
  clear hA0 hval0
  refine (walk W x0 a0 n0 cap0 C0 wx0 hC0 hn0 (Lib.tabBelow_of_tabIs (tab_of hL))).mono fun e W' ⟨he, bel⟩ => ?_
  subst he
  exact ⟨_, rfl, _, _, _, [], _, [], hW', trodAll_mk1 (shut_bool Tryd.underlying4 _), (trodAll_cons_mk (Below.trod laidOut (by kernel_rfl) (of_decide_eq_true (by kernel_rfl)) k0 bel lt0) trodAll_mk0), rfl, bel.frame _, fun h => by cases h⟩

theorem over : Rows.fnExactResOkRow.holds Tryd.pinned (OpenSpec.ofChange Rows.fnExactResOkSpec) :=
  OpenClaim.holds_of_wide 4 Tryd.f4 rfl rfl rfl rfl rfl rfl rfl ⟨rfl, rfl, rfl, rfl, rfl⟩ rfl rfl rfl rfl rfl (by kernel_rfl) Tryd.func4 (by kernel_rfl)
    (of_decide_eq_true (by kernel_rfl)) (by unfold Func.isWrapper; first | (rw [if_pos (by decide +kernel)]; kernel_rfl) | (rw [if_neg (by decide +kernel)]; exact ⟨rfl, rfl⟩))
    (fun os started H enc _ => lifted os started H enc)

end Go.Proofs.YtejeffnonddfhaaDoor.fnExactResOk
namespace Go.Proofs.YtejeffnonddfhaaDoor
/-- The statement. -/
theorem fnExactResOk_holds : Rows.FnExactResOkCardSaid :=
  Claim7.holds_tied_plain_at .later [] [.data, .data, .data] true Rows.fnExactResOkCard.stood.harness Rows.fnExactResOkCard.stood.looks fnExactResOk.over (fun _ h => by cases h) (by kernel_rfl) (fun _ h => by cases h) fnExactResOk_row_tie rfl ⟨rfl, rfl⟩ (by kernel_rfl) rfl
    (fun f fn hf hfn => by
      obtain rfl : f = 4 := Option.some.inj ((show Tryd.prog.funcNamed Rows.fnExactResOkRow.func = some 4 by kernel_rfl).symm.trans hf) |>.symm
      obtain rfl : fn = Tryd.f4 := (Option.some.inj (Tryd.func4.symm.trans hfn)).symm
      exact ⟨by kernel_rfl, fun j t ht => by
        rw [Tryd.params4] at ht
        have hm : t ∈ [24] := by simpa using Array.mem_of_getElem? ht
        have hall : ([24].all fun u => !Tryd.prog.wantsStandIn u) = true := by kernel_rfl
        exact (show Tryd.prog.wantsStandIn t = false by simpa using List.all_eq_true.1 hall t hm)⟩)
    (by kernel_rfl)
#print axioms fnExactResOk_holds
end Go.Proofs.YtejeffnonddfhaaDoor
