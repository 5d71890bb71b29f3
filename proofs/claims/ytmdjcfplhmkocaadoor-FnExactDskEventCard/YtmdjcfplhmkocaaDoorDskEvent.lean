/-
  For every text FnExactDskEvent returns true; the library's variables that are listed are as its text lays them. No other condition.
-/
import Derived.Test.YtmdjcfplhmkocaaDoorDeV
import Derived.Test.YtmdjcfplhmkocaaDoorTie
import Derived.Test.YtmdjcfplhmkocaaDoorCards
import Derived.Stop.LaidErr
import Derived.Lib.LaidTab
import Derived.LaidMore
import Derived.Lay
import Derived.SevenTiedAt
import Derived.Stop.Joined
import Derived.HandedShaped
import Derived.ChangeMaps5
namespace Go.Proofs.YtmdjcfplhmkocaaDoor.fnExactDskEvent
open Go.ChangeShapes Go.WideShapes Go.ChangeAt Go.RowKit Go.Deep
open Go.ChangeMaps (open_string shut_string)
set_option linter.unusedVariables false

theorem far {S : Nat → Prop} {w w' : World} {B : Nat} {vs : List Value} {t : TypeId} (h : Cel w B vs t) (hb : Touch S w w') (hn : ¬ S B) : Cel w' B vs t := h.touch hb hn

set_option maxRecDepth 100000 in
set_option maxHeartbeats 6400000 in
theorem walk (w : World) (l : List UInt8) (hA : ReadsN w) (hP : Splits w) (hU : CutsB w) (hT : Lib.TabBelow Tryd.prog w.heap.size w "internal/strconv.uint64pow10" .u64 Lib.pow10Tab) :
    Calls Tryd.prog 4 #[.string ⟨l.toArray⟩] w fun r w' => r = .returned (.bool true) ∧ Below w.heap.size w w' := by
  by_cases hl : l.length ≤ 1048576
  · have hi : ¬ (1048576 : Int) < (l.length : Int) := by omega
    obtain ⟨⟨c0, c1, c2, xs, ok⟩, hF⟩ : ∃ r, evL l = r := ⟨_, rfl⟩
    have HF : Hid _ := hF
    obtain ⟨n, hn⟩ : ∃ n, xs.length = n := ⟨_, rfl⟩
    have HN : Hid _ := hn
    have hn6 : n ≤ 6 := by rw [← hn]; exact (Nat.le_trans (evL_small hF) (by omega))
    have hn1 : n ≤ 1048576 := by omega
    have HA : Hid _ := hA
    have HP : Hid _ := hP
    have HT : Hid _ := hT
    have HU : Hid _ := hU
    clear hF hn hA hP hT hU
    go_enter Tryd.func4, Tryd.ntmps4
    go_wp2_with fail
    refine (sdsk_at HF.out HN.out _).mono ?_
    rintro e w1 ⟨aw, cw, rfl, b1, iw⟩
    have iw2 := iw.alloc (.cells #[.int .i64 c0, .int .i64 c1, .int .i64 c2, .slice aw n cw] 26)
    have B2 := b1.alloc b1.size (.cells #[.int .i64 c0, .int .i64 c1, .int .i64 c2, .slice aw n cw] 26)
    have x3 := Cel.new w1 [.int .i64 c0, .int .i64 c1, .int .i64 c2, .slice aw n cw] 26
    have z2 : w1.heap.size < (w1.alloc (.cells #[.int .i64 c0, .int .i64 c1, .int .i64 c2, .slice aw n cw] 26)).heap.size := x3.lt
    clear iw b1
    go_wp2_with fail
    obtain ⟨w2, hw2⟩ : ∃ w2, w2 = w1.alloc (.cells #[.int .i64 c0, .int .i64 c1, .int .i64 c2, .slice aw n cw] 26) := ⟨_, rfl⟩
    replace x3 : Cel w2 w1.heap.size [.int .i64 c0, .int .i64 c1, .int .i64 c2, .slice aw n cw] 26 := by rw [hw2]; exact x3
    rw [← hw2] at iw2 B2 z2 ⊢
    clear hw2
    refine (idsk_at HF.out HN.out _ hl (ReadsN.below HA.out B2) (splits_below HP.out B2) (CutsB.below HU.out B2) (fun w' h' => HT.out w' (B2.trans (h'.mono B2.size)))).mono ?_
    rintro e w3 ⟨a, cap, B, rfl, b3, o3, hB⟩
    have hB5 : 0 < n → B < w3.heap.size := fun h => o3.lt h
    have x33 := x3.below b3
    have r30 := x33.cell 0
    have r31 := x33.cell 1
    have r32 := x33.cell 2
    have r33 := x33.cell 3
    have lt3 := x33.lt
    simp only [List.getElem?_cons_zero, List.getElem?_cons_succ] at r30 r31 r32 r33
    have hok : (ok != ok) = false := by simp
    have hok2 : (ok == ok) = true := by simp
    go_wp2_with fail
    obtain ⟨w4, hw4⟩ : ∃ w4, w4 = w3.alloc (.cells #[.int .i64 c0, .int .i64 c1, .int .i64 c2, .slice a n cap] 26) := ⟨_, rfl⟩
    have o4 : OwnX w4 a B n xs := by rw [hw4]; exact o3.alloc _
    have b4 : Below w2.heap.size w2 w4 := by rw [hw4]; exact b3.alloc b3.size _
    have x5 : Cel w4 w3.heap.size [.int .i64 c0, .int .i64 c1, .int .i64 c2, .slice a n cap] 26 := by rw [hw4]; exact Cel.new w3 _ _
    rw [← hw4]
    clear hw4 o3 b3 x33 r30 r31 r32 r33 lt3
    refine (eqEv_same _ _ _ _ _ _ _ _ xs _ o4.ints (iw2.below b4) hn1).mono ?_
    rintro e w5 ⟨rfl, b5⟩
    have x55 := x5.below b5
    have o5 := o4.below b5
    have b25 := b4.trans (b5.mono b4.size)
    clear x5 o4 b4 b5
    have r50 := x55.cell 0
    have r51 := x55.cell 1
    have r52 := x55.cell 2
    have r53 := x55.cell 3
    simp only [List.getElem?_cons_zero, List.getElem?_cons_succ] at r50 r51 r52 r53
    go_wp2_with fail
    refine (markEv_any _ _ _ _ _ _ B xs 1 _ o5 hn1 (by omega) (by omega)).mono ?_
    rintro e w6 ⟨rfl, t6, o6⟩
    have b26 := b25.trans (t6.below b25.size (fun k hk => by obtain ⟨rfl, h⟩ := hk; exact hB h))
    have x56 := x55.touch t6 (fun hk => by have h1 := hB5 hk.2; have h2 := hk.1; omega)
    clear x55 o5 b25 t6 r50 r51 r52 r53
    have r50 := x56.cell 0
    have r51 := x56.cell 1
    have r52 := x56.cell 2
    have r53 := x56.cell 3
    simp only [List.getElem?_cons_zero, List.getElem?_cons_succ] at r50 r51 r52 r53
    go_wp2_with fail
    refine (heldEv_any _ _ _ _ _ _ 1 _ o6.ints hn1 (by omega) (by omega)).mono ?_
    rintro e w7 ⟨rfl, b7⟩
    have x57 := x56.below b7
    have o7 := o6.below b7
    have b27 := b26.trans (b7.mono b26.size)
    have B7 := B2.trans (b27.mono B2.size)
    have hm0 : ¬ (1 : Int) + (n : Int) < 0 := by omega
    clear x56 o6 b26 b7 r50 r51 r52 r53
    go_wp2_with fail
    refine (idsk_at HF.out HN.out _ hl (ReadsN.below HA.out B7) (splits_below HP.out B7) (CutsB.below HU.out B7) (fun w' h' => HT.out w' (B7.trans (h'.mono B7.size)))).mono ?_
    rintro e w8 ⟨a2, cap2, Bq, rfl, b8, o8, -⟩
    have x58 := x57.below b8
    have o78 := o7.below b8
    have b28 := b27.trans (b8.mono b27.size)
    have x38 := x3.below b28
    have r30 := x38.cell 0
    have r31 := x38.cell 1
    have r32 := x38.cell 2
    have r33 := x38.cell 3
    have lt3 := x38.lt
    simp only [List.getElem?_cons_zero, List.getElem?_cons_succ] at r30 r31 r32 r33
    clear x57 o7 b27 b8
    go_wp2_with fail
    obtain ⟨w9, hw9⟩ : ∃ w9, w9 = w8.alloc (.cells #[.int .i64 c0, .int .i64 c1, .int .i64 c2, .slice a2 n cap2] 26) := ⟨_, rfl⟩
    have o89 : OwnX w9 a2 Bq n xs := by rw [hw9]; exact o8.alloc _
    have o79 : OwnX w9 a B n (ramp 1 n) := by rw [hw9]; exact o78.alloc _
    have b29 : Below w2.heap.size w2 w9 := by rw [hw9]; exact b28.alloc b28.size _
    have x59 : Cel w9 w3.heap.size [.int .i64 c0, .int .i64 c1, .int .i64 c2, .slice a n cap] 26 := by rw [hw9]; exact x58.below ((Below.refl _ _).alloc (Nat.le_refl _) _)
    rw [← hw9]
    clear hw9 o8 o78 b28 x58 x38 r30 r31 r32 r33 lt3
    refine (eqEv_same _ _ _ _ _ _ _ _ xs _ o89.ints (iw2.below b29) hn1).mono ?_
    rintro e w10 ⟨rfl, b10⟩
    have x510 := x59.below b10
    have o710 := o79.below b10
    have b210 := b29.trans (b10.mono b29.size)
    clear x59 o79 b29 b10 o89
    have r50 := x510.cell 0
    have r51 := x510.cell 1
    have r52 := x510.cell 2
    have r53 := x510.cell 3
    simp only [List.getElem?_cons_zero, List.getElem?_cons_succ] at r50 r51 r52 r53
    go_wp2_with fail
    refine (heldEv_any _ _ _ _ _ _ 1 _ o710.ints hn1 (by omega) (by omega)).mono ?_
    rintro e w11 ⟨rfl, b11⟩
    have b211 := b210.trans (b11.mono b210.size)
    have B11 := B2.trans (b211.mono B2.size)
    clear x510 o710 b210 b11 r50 r51 r52 r53 b211
    go_wp2
    go_ret
    exact ⟨rfl, B11⟩
  · have hi : (1048576 : Int) < (l.length : Int) := by omega
    go_enter Tryd.func4, Tryd.ntmps4
    go_wp2
    go_ret
    exact ⟨rfl, Below.refl _ _⟩

/-! ### The row's step -/
theorem star : "*" ++ "errors.errorString" = "*errors.errorString" := by decide
theorem rowErr (u : TypeId) (h : Tryd.prog.typeName? 3 u = some "*errors.errorString") : u = 116 :=
  typeName_ptr_named (nm := "errors.errorString") (by rw [star]; kernel_rfl) (by kernel_rfl) (by decide) u (by rw [star]; exact h)
theorem tab_of {W : World} (h : laidMetH Tryd.prog Rows.fnExactDskEventRow.laid W) : Lib.TabIs Tryd.prog W "internal/strconv.uint64pow10" .u64 Lib.pow10Tab := by
  rw [MakeChecks.laidMetH_plain _ _ _ (by kernel_rfl)] at h
  have h2 : laidMet Tryd.prog (("internal/strconv.uint64pow10", Lib.tabData .u64 Lib.pow10Tab) :: Rows.fnExactDskEventRow.laid.tail.tail.tail) W := h.tail.tail
  exact Lib.tabIs_of_head (g := 5) (t := 120) (e := 97) (n := 20) (by kernel_rfl) (by kernel_rfl) Tryd.underlying120 Tryd.underlying97 (by kernel_rfl) (by kernel_rfl) h2
theorem reads_laid {W : World} (h : laidMetH Tryd.prog Rows.fnExactDskEventRow.laid W) : ReadsN W := by
  rw [MakeChecks.laidMetH_plain _ _ _ (by kernel_rfl)] at h
  have hR := h.tail.tail.tail.tail
  obtain ⟨a1, s1, hv1, -, -, -⟩ := laid_sentinel hR (g := 2) (by kernel_rfl) (by kernel_rfl) Tryd.underlying68 rowErr Tryd.underlying116 Tryd.underlying118 rfl rfl Tryd.underlying9 (by kernel_rfl) (by kernel_rfl)
  obtain ⟨a0, s0, hv0, -, -, -⟩ := laid_sentinel hR.tail (g := 1) (by kernel_rfl) (by kernel_rfl) Tryd.underlying68 rowErr Tryd.underlying116 Tryd.underlying118 rfl rfl Tryd.underlying9 (by kernel_rfl) (by kernel_rfl)
  exact reads_of W _ _ _ _ hv0 hv1

set_option maxRecDepth 100000 in
theorem step {H : Type} {enc : TypeId × Value → H} (W : World) (base : Nat) (args : Array Value) (ds gs : List (DataW H)) (before : List MemPlace)
    (hval0 : ∀ (j : Nat) t v, Tryd.f4.params[j]? = some t → args[j]? = some v → Value.okWide Tryd.prog W .any base t v)
    (hW : DataW.Whole enc Tryd.prog Tryd.f4.params.toList Rows.fnExactDskEventSpec.vars false W args.toList ds gs before)
    (hL : laidMetH Tryd.prog Rows.fnExactDskEventRow.laid W) (hsh : W.ShapedOpen Tryd.prog) :
    Calls Tryd.prog 4 args W fun e W' => ∃ v, e = .returned v ∧ Rows.fnExactDskEventSpec.post enc Tryd.prog Tryd.f4 false true false false W args v W' := by
  have hval : ∀ (j : Nat) t v, Tryd.f4.params[j]? = some t → args[j]? = some v → Value.okWide Tryd.prog W .any base t v := hval0
  have hW' := hW
  obtain ⟨p, q, hA0, hV, rfl, hfz, hnd⟩ := hW
  have hA : DataW.TrodAll enc Tryd.prog W 0 (fun _ => true) true Tryd.f4.params.toList args.toList ds p := hA0
  rw [Tryd.params4] at hA hval
  obtain ⟨v0, vs0, d0, ds0, p0, q0, hargs, rfl, rfl, h0, r0⟩ := trodAll_cons hA
  obtain ⟨rfl, rfl, rfl⟩ := trodAll_nil r0
  obtain rfl : args = #[v0] := by cases args; simp_all
  obtain ⟨rfl, rfl⟩ := trodVars_none hV
  have k0 := h0
  have lt0 : ∀ x ∈ p0, x.block < W.heap.size := by obtain ⟨m, hm⟩ := k0; exact DataW.trod_lt m _ _ _ hm
  obtain ⟨s, rfl, rfl, rfl, hs⟩ := open_string Tryd.underlying9 (hval 0 9 v0 rfl rfl) h0
  obtain ⟨l, rfl⟩ : ∃ l : List UInt8, s = ⟨l.toArray⟩ := ⟨s.data.toList, by cases s; simp⟩
  obtain ⟨m, hm⟩ := Tryd.laysM146.s1_3 W hsh
  clear hA0 hval0
  refine (walk W l (reads_laid hL) (splits_of W m hm) (cutsB_of W m hm) (Lib.tabBelow_of_tabIs (tab_of hL))).mono fun e W' ⟨he, bel⟩ => ?_
  subst he
  exact ⟨_, rfl, _, _, _, [], _, [], hW', trodAll_mk1 (shut_bool Tryd.underlying4 _), (trodAll_cons_mk (Below.trod laidOut (by kernel_rfl) (of_decide_eq_true (by kernel_rfl)) k0 bel lt0) trodAll_mk0), rfl, bel.frame _, fun h => by cases h⟩

set_option maxRecDepth 100000 in
theorem lifted (os : Os) (started : os.Started) (H : Type) (enc : TypeId × Value → H) :
    ReturnsInHanded {} Tryd.checked os 4 .any (fun w args => (Rows.fnExactDskEventSpec.pre enc Tryd.prog Tryd.f4 Rows.fnExactDskEventRow.domain false w args ∧ laidMetH Tryd.prog Rows.fnExactDskEventRow.laid w) ∧ sizedMet enc Tryd.prog Tryd.f4 (OpenSpec.ofChange Rows.fnExactDskEventSpec) false w args) (Rows.fnExactDskEventSpec.post enc Tryd.prog Tryd.f4 false true false false) := by
  refine returnsInHanded_of_calls own started (by kernel_rfl)
    (ChangeSpec.witness_shaped (enc := enc) (C := Tryd.checked) (os := os) (X := fun w _ => laidMetH Tryd.prog Rows.fnExactDskEventRow.laid w) false (World.laidAll Tryd.prog os Rows.fnExactDskEventRow.laid) #[.string ⟨#[]⟩] 8 (World.laidAll_os _ _ _)
      (World.shaped_of_ZipB (by kernel_rfl) (by kernel_rfl)) (by kernel_rfl) (by kernel_rfl) (by kernel_rfl)
      (by rw [MakeChecks.laidMetH_plain _ _ _ (by kernel_rfl)]; exact laidMet_laidAll _ (by kernel_rfl) (by kernel_rfl))) ?_
  intro w0 tape i _ hsh _ hok hpre _
  obtain ⟨_, _, _, fn', hfn', _, _, _, _, hval⟩ := hok
  obtain rfl : fn' = Tryd.f4 := Option.some.inj (hfn'.symm.trans Tryd.func4)
  obtain ⟨⟨⟨ds, gs, before, hw, -⟩, hx⟩, -⟩ := hpre
  have hL : laidMetH Tryd.prog Rows.fnExactDskEventRow.laid (w0.forCall tape i) := hx.of_heap (by rfl)
  refine (step (w0.forCall tape i) w0.heap.size i.args ds gs before hval (DataW.Whole.of_heap (w' := w0.forCall tape i) (by rfl) hw) hL hsh).mono ?_
  rintro e W' ⟨v, rfl, hp⟩
  exact ChangeSpec.post_blind hp

theorem over : Rows.fnExactDskEventRow.holds Tryd.pinned (OpenSpec.ofChange Rows.fnExactDskEventSpec) :=
  OpenClaim.holds_of_wide 4 Tryd.f4 rfl rfl rfl rfl rfl rfl rfl ⟨rfl, rfl, rfl, rfl, rfl⟩ rfl rfl rfl rfl rfl (by kernel_rfl) Tryd.func4 (by kernel_rfl)
    (of_decide_eq_true (by kernel_rfl)) (by unfold Func.isWrapper; first | (rw [if_pos (by decide +kernel)]; kernel_rfl) | (rw [if_neg (by decide +kernel)]; exact ⟨rfl, rfl⟩))
    (fun os started H enc _ => lifted os started H enc)

end Go.Proofs.YtmdjcfplhmkocaaDoor.fnExactDskEvent
namespace Go.Proofs.YtmdjcfplhmkocaaDoor
/-- The statement. -/
theorem fnExactDskEvent_holds : Rows.FnExactDskEventCardSaid :=
  Claim7.holds_tied_plain_at .later [] [.data, .data, .data, .data, .sentinel, .sentinel, .pinned] true Rows.fnExactDskEventCard.stood.harness Rows.fnExactDskEventCard.stood.looks fnExactDskEvent.over (fun _ h => by cases h) (by kernel_rfl) (fun _ h => by cases h) fnExactDskEvent_row_tie rfl ⟨rfl, rfl⟩ (by kernel_rfl) rfl
    (fun f fn hf hfn => by
      obtain rfl : f = 4 := Option.some.inj ((show Tryd.prog.funcNamed Rows.fnExactDskEventRow.func = some 4 by kernel_rfl).symm.trans hf) |>.symm
      obtain rfl : fn = Tryd.f4 := (Option.some.inj (Tryd.func4.symm.trans hfn)).symm
      exact ⟨by kernel_rfl, fun j t ht => by
        rw [Tryd.params4] at ht
        have hm : t ∈ [9] := by simpa using Array.mem_of_getElem? ht
        have hall : ([9].all fun u => !Tryd.prog.wantsStandIn u) = true := by kernel_rfl
        exact (show Tryd.prog.wantsStandIn t = false by simpa using List.all_eq_true.1 hall t hm)⟩)
    (by kernel_rfl)
#print axioms fnExactDskEvent_holds
end Go.Proofs.YtmdjcfplhmkocaaDoor
