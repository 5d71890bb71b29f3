/-
 For every plan, every clerk and both words FnExactClkFall returns true, and all read behind the call as they did; the library's tables that are listed are as its text lays them. No other condition.
-/
import Derived.Test.YtacfoeekmcnpjaaGreatDoorTie
import Derived.Stop.LaidErr
import Derived.Lib.LaidTab
import Derived.LaidMore
import Derived.Lay
import Derived.Stop.Joined
import Derived.Test.YtacfoeekmcnpjaaGreatDoorQJFClkFall
import Derived.Test.YtacfoeekmcnpjaaGreatDoorQClkFallW
namespace Go.Proofs.YtacfoeekmcnpjaaGreatDoor.fnExactClkFall
open Go.ChangeShapes Go.WideShapes Go.ChangeAt Go.RowKit Go.Deep
set_option linter.unusedVariables false

/-! ### The row's step -/
theorem tab_of {W : World} (h : laidMetH Tryz.prog Rows.fnExactClkFallRow.laid W) : Lib.TabIs Tryz.prog W "internal/strconv.uint64pow10" .u64 Lib.pow10Tab := by
 rw [MakeChecks.laidMetH_plain _ _ _ (by kernel_rfl)] at h
 have h2 : laidMet Tryz.prog [("internal/strconv.uint64pow10", Lib.tabData .u64 Lib.pow10Tab)] W := h.tail.tail
 exact Lib.tabIs_of_head (g := 0) (t := 393) (e := 380) (n := 20) (by kernel_rfl) (by kernel_rfl) Tryz.underlying393 Tryz.underlying380 (by kernel_rfl) (by kernel_rfl) h2
set_option maxRecDepth 100000 in
set_option maxHeartbeats 3200000 in
theorem lifted (os : Os) (started : os.Started) (H : Type) (enc : TypeId × Value → H) :
  ReturnsInHanded {} Tryz.checked os 8 .any (fun w args => (Rows.fnExactClkFallSpec.pre enc Tryz.prog Tryz.f8 Rows.fnExactClkFallRow.domain false w args ∧ laidMetH Tryz.prog Rows.fnExactClkFallRow.laid w) ∧ sizedMet enc Tryz.prog Tryz.f8 (OpenSpec.ofChange Rows.fnExactClkFallSpec) false w args) (Rows.fnExactClkFallSpec.post enc Tryz.prog Tryz.f8 false true false false) := by
 refine returnsInHanded_of_change_and (C := Tryz.checked) (X := fun w _ => laidMetH Tryz.prog Rows.fnExactClkFallRow.laid w) (fun _ _ _ hh h => h.of_heap hh) own started (by kernel_rfl) Tryz.func8
  (ChangeSpec.witness_shaped (enc := enc) (C := Tryz.checked) (os := os) (X := fun w _ => laidMetH Tryz.prog Rows.fnExactClkFallRow.laid w) false (World.laidAll Tryz.prog os Rows.fnExactClkFallRow.laid) #[.agg #[.int .i64 0, .slice none 0 0, .slice none 0 0, .slice none 0 0], .agg #[.bool false, .int .i64 0, .slice none 0 0, .slice none 0 0, .slice none 0 0, .slice none 0 0], .bool false] 8 (World.laidAll_os _ _ _)
   (World.shaped_of_ZipB (by kernel_rfl) (by kernel_rfl)) (by kernel_rfl) (by kernel_rfl) (by kernel_rfl)
   (by rw [MakeChecks.laidMetH_plain _ _ _ (by kernel_rfl)]; exact laidMet_laidAll _ (by kernel_rfl) (by kernel_rfl))) ?_
 intro W base args ds gs before hval0 hW hcnd _ hL _
 have hval : ∀ (j : Nat) t v, Tryz.f8.params[j]? = some t → args[j]? = some v → Value.okWide Tryz.prog W .any base t v := hval0
 have hW' := hW
 obtain ⟨p, q, hA0, hV, rfl, hfz, hnd⟩ := hW
 have hA : DataW.TrodAll enc Tryz.prog W 0 (fun _ => true) true Tryz.f8.params.toList args.toList ds p := hA0
 rw [Tryz.params8] at hA hval
 obtain ⟨v0, vs0, d0, ds0, p0, q0, hargs, rfl, rfl, h0, r0⟩ := trodAll_cons hA
 obtain ⟨v1, vs1, d1, ds1, p1, q1, rfl, rfl, rfl, h1, r1⟩ := trodAll_cons r0
 obtain ⟨v2, vs2, d2, ds2, p2, q2, rfl, rfl, rfl, h2, r2⟩ := trodAll_cons r1
 obtain ⟨rfl, rfl, rfl⟩ := trodAll_nil r2
 obtain rfl : args = #[v0, v1, v2] := by cases args; simp_all
 obtain ⟨rfl, rfl⟩ := trodVars_none hV
 have k0 := h0
 have lt0 : ∀ x ∈ p0, x.block < W.heap.size := by obtain ⟨m, hm⟩ := k0; exact DataW.trod_lt m _ _ _ hm
 obtain ⟨cl0, ad0, N0, pc0, ss0, ga0, gn0, gc0, G0, sa0, sn0, sc0, S0, rfl, wc0, hl0, hM0, hN0, hG0, hg0, hS0, hs0⟩ := open_plan (hval 0 25 v0 rfl rfl) h0
 have k1 := h1
 have lt1 : ∀ x ∈ p1, x.block < W.heap.size := by obtain ⟨m, hm⟩ := k1; exact DataW.trod_lt m _ _ _ hm
 obtain ⟨zu1, zr1, zba1, zbn1, zbc1, zbx1, zda1, zdn1, zdc1, zdx1, zka1, zkn1, zkc1, zkx1, zea1, zen1, zec1, zex1, rfl, zwr1, zhb1, zmb1, zld1, zhd1, zmd1, zlk1, zhk1, zmk1, zle1, zhe1, zme1⟩ := open_clerk (hval 1 31 v1 rfl rfl) h1
 have k2 := h2
 have lt2 : ∀ x ∈ p2, x.block < W.heap.size := by obtain ⟨m, hm⟩ := k2; exact DataW.trod_lt m _ _ _ hm
 obtain ⟨zb2, rfl, rfl, rfl⟩ := open_bool Tryz.underlying4 (hval 2 4 v2 rfl rfl) h2
 clear hA0 hval0
 refine (walk W cl0 ad0 N0 pc0 ss0 ga0 gn0 gc0 G0 sa0 sn0 sc0 S0 hl0 hM0 hN0 hG0 hg0 hS0 hs0 zu1 zr1 zba1 zbn1 zbc1 zbx1 zda1 zdn1 zdc1 zdx1 zka1 zkn1 zkc1 zkx1 zea1 zen1 zec1 zex1 zhb1 zmb1 zld1 zhd1 zmd1 zlk1 zhk1 zmk1 zle1 zhe1 zme1 zb2 (Lib.tabBelow_of_tabIs (tab_of hL))).mono fun e W' ⟨he, bel⟩ => ?_
 subst he
 exact ⟨_, rfl, _, _, _, [], _, [], hW', trodAll_mk1 (shut_bool Tryz.underlying4 _), (trodAll_cons_mk (Below.trod laidOut (by kernel_rfl) (of_decide_eq_true (by kernel_rfl)) k0 bel lt0) (trodAll_cons_mk (Below.trod laidOut (by kernel_rfl) (of_decide_eq_true (by kernel_rfl)) k1 bel lt1) (trodAll_cons_mk (Below.trod laidOut (by kernel_rfl) (of_decide_eq_true (by kernel_rfl)) k2 bel lt2) trodAll_mk0))), rfl, bel.frame _, fun h => by cases h⟩
theorem over : Rows.fnExactClkFallRow.holds Tryz.pinned (OpenSpec.ofChange Rows.fnExactClkFallSpec) :=
 OpenClaim.holds_of_wide 8 Tryz.f8 rfl rfl rfl rfl rfl rfl rfl ⟨rfl, rfl, rfl, rfl, rfl⟩ rfl rfl rfl rfl rfl jfFnExactClkFall.fnm Tryz.func8 jfFnExactClkFall.closed
  (of_decide_eq_true (by kernel_rfl)) (by unfold Func.isWrapper; first | (rw [if_pos (by decide +kernel)]; kernel_rfl) | (rw [if_neg (by decide +kernel)]; exact ⟨rfl, rfl⟩))
  (fun os started H enc _ => lifted os started H enc)
end Go.Proofs.YtacfoeekmcnpjaaGreatDoor.fnExactClkFall
namespace Go.Proofs.YtacfoeekmcnpjaaGreatDoor
/-- The statement. -/
theorem fnExactClkFall_holds : Rows.FnExactClkFallCardSaid :=
 Claim7.holds_tied_plain_at .later [] [.data, .data, .data] true Rows.fnExactClkFallCard.stood.harness Rows.fnExactClkFallCard.stood.looks fnExactClkFall.over (fun _ h => by cases h) jfFnExactClkFall.wfb (fun _ h => by cases h) fnExactClkFall_row_tie rfl ⟨rfl, rfl⟩ jfFnExactClkFall.mn rfl
  (fun f fn hf hfn => by
   obtain rfl : f = 8 := Option.some.inj (jfFnExactClkFall.fnm.symm.trans hf) |>.symm
   obtain rfl : fn = Tryz.f8 := (Option.some.inj (Tryz.func8.symm.trans hfn)).symm
   exact ⟨jfFnExactClkFall.lk, fun j t ht => by
    rw [Tryz.params8] at ht
    have hm : t ∈ [25, 31, 4] := by simpa using Array.mem_of_getElem? ht
    have hall : ([25, 31, 4].all fun u => !Tryz.prog.wantsStandIn u) = true := by kernel_rfl
    exact (show Tryz.prog.wantsStandIn t = false by simpa using List.all_eq_true.1 hall t hm)⟩)
  jfFnExactClkFall.goes
#print axioms fnExactClkFall_holds
end Go.Proofs.YtacfoeekmcnpjaaGreatDoor
