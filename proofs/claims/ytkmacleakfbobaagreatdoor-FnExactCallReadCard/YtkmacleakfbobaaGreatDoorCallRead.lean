/-
  For every text FnExactCallRead returns true; the library's variables that are listed are as its text lays them. No other condition.
-/
import Derived.Test.YtkmacleakfbobaaGreatDoorCaM
import Derived.Test.YtkmacleakfbobaaGreatDoorTie
import Derived.Test.YtkmacleakfbobaaGreatDoorCards
import Derived.Stop.LaidErr
import Derived.Lib.LaidTab
import Derived.LaidMore
import Derived.Lay
import Derived.SevenTiedAt
import Derived.Stop.Joined
import Derived.HandedShaped
import Derived.LaidHandle
import Derived.ChangeMaps5
namespace Go.Proofs.YtkmacleakfbobaaGreatDoor.fnExactCallRead
open Go.ChangeShapes Go.WideShapes Go.ChangeAt Go.RowKit Go.Deep
open Go.ChangeMaps (open_string shut_string)
set_option linter.unusedVariables false

theorem far {S : Nat → Prop} {w w' : World} {B : Nat} {vs : List Value} {t : TypeId} (h : Cel w B vs t) (hb : Touch S w w') (hn : ¬ S B) : Cel w' B vs t := h.touch hb hn

set_option maxRecDepth 100000 in
set_option maxHeartbeats 6400000 in
theorem walk (w : World) (l : List UInt8) (hA : ReadsN w) (hP : Splits w) (hE : ErrT w) (hT : Lib.TabBelow Tryz.prog w.heap.size w "internal/strconv.uint64pow10" .u64 Lib.pow10Tab) :
    Calls Tryz.prog 3 #[.string ⟨l.toArray⟩] w fun r w' => r = .returned (.bool true) ∧ Below w.heap.size w w' := by
  by_cases hl : l.length ≤ 1048576
  · have hi : ¬ (1048576 : Int) < (l.length : Int) := by omega
    obtain ⟨⟨⟨cl, sq, ac, xs⟩, ok⟩, hF⟩ : ∃ r, caF l = r := ⟨_, rfl⟩
    have HF : Hid _ := hF
    obtain ⟨n, hn⟩ : ∃ n, xs.length = n := ⟨_, rfl⟩
    have HN : Hid _ := hn
    have hn6 : n ≤ 6 := by have h2 : xs.length ≤ 2 := caF_small hF
                           omega
    have hn1 : n ≤ 1048576 := by omega
    have HA : Hid _ := hA
    have HP : Hid _ := hP
    have HT : Hid _ := hT
    have HE : Hid _ := hE
    clear hF hn hA hP hT hE
    go_enter Tryz.func3, Tryz.ntmps3
    go_wp2_with fail
    refine (scread_at HF.out HN.out _).mono ?_
    rintro e w1 ⟨aw, cw, rfl, b1, iw⟩
    have iw2 := iw.alloc (.cells #[.int .i64 cl, .int .i64 sq, .int .i64 ac, .slice aw n cw] 24)
    have B2 := b1.alloc b1.size (.cells #[.int .i64 cl, .int .i64 sq, .int .i64 ac, .slice aw n cw] 24)
    have x3 := Cel.new w1 [.int .i64 cl, .int .i64 sq, .int .i64 ac, .slice aw n cw] 24
    have z2 : w1.heap.size < (w1.alloc (.cells #[.int .i64 cl, .int .i64 sq, .int .i64 ac, .slice aw n cw] 24)).heap.size := x3.lt
    clear iw b1
    go_wp2_with fail
    obtain ⟨w2, hw2⟩ : ∃ w2, w2 = w1.alloc (.cells #[.int .i64 cl, .int .i64 sq, .int .i64 ac, .slice aw n cw] 24) := ⟨_, rfl⟩
    replace x3 : Cel w2 w1.heap.size [.int .i64 cl, .int .i64 sq, .int .i64 ac, .slice aw n cw] 24 := by rw [hw2]; exact x3
    rw [← hw2] at iw2 B2 z2 ⊢
    clear hw2
    refine (icread_at HF.out HN.out _ hl (ReadsN.below HA.out B2) (Splits.below HP.out B2) (ErrT.below HE.out B2) (fun w' h' => HT.out w' (B2.trans (h'.mono B2.size)))).mono ?_
    rintro e w3 ⟨a, cap, B, rfl, b3, o3, hB⟩
    have hB5 : 0 < n → B < w3.heap.size := fun h => o3.lt h
    have x33 := x3.below b3
    obtain ⟨r30, r31, r32, r33⟩ := x33.quadC
    have lt3 := x33.lt
    have hok : (ok != ok) = false := by simp
    have hok2 : (ok == ok) = true := by simp
    go_wp2_with fail
    obtain ⟨w4, hw4⟩ : ∃ w4, w4 = w3.alloc (.cells #[.int .i64 cl, .int .i64 sq, .int .i64 ac, .slice a n cap] 24) := ⟨_, rfl⟩
    have o4 : OwnX w4 a B n xs := by rw [hw4]; exact o3.alloc _
    have b4 : Below w2.heap.size w2 w4 := by rw [hw4]; exact b3.alloc b3.size _
    have x5 : Cel w4 w3.heap.size [.int .i64 cl, .int .i64 sq, .int .i64 ac, .slice a n cap] 24 := by rw [hw4]; exact Cel.new w3 _ _
    rw [← hw4]
    clear hw4 o3 b3 x33 r30 r31 r32 r33 lt3
    refine (eqC_same _ _ _ _ _ _ _ _ xs _ o4.ints (iw2.below b4) hn1).mono ?_
    rintro e w5 ⟨rfl, b5⟩
    have x55 := x5.below b5
    have o5 := o4.below b5
    have b25 := b4.trans (b5.mono b4.size)
    clear x5 o4 b4 b5
    obtain ⟨r50, r51, r52, r53⟩ := x55.quadC
    go_wp2_with fail
    refine (markC_any _ _ _ _ _ _ B xs 1 _ o5 hn1 (by omega) (by omega)).mono ?_
    rintro e w6 ⟨rfl, t6, o6⟩
    have b26 := b25.trans (t6.below b25.size (fun k hk => by obtain ⟨rfl, h⟩ := hk; exact hB h))
    have x56 := x55.touch t6 (fun hk => by have h1 := hB5 hk.2; have h2 := hk.1; omega)
    clear x55 o5 b25 t6 r50 r51 r52 r53
    obtain ⟨r50, r51, r52, r53⟩ := x56.quadC
    go_wp2_with fail
    refine (heldC_any _ _ _ _ _ _ 1 _ o6.ints hn1 (by omega) (by omega)).mono ?_
    rintro e w7 ⟨rfl, b7⟩
    have x57 := x56.below b7
    have o7 := o6.below b7
    have b27 := b26.trans (b7.mono b26.size)
    have B7 := B2.trans (b27.mono B2.size)
    have hm0 : ¬ (1 : Int) + (n : Int) < 0 := by omega
    clear x56 o6 b26 b7 r50 r51 r52 r53
    go_wp2_with fail
    refine (icread_at HF.out HN.out _ hl (ReadsN.below HA.out B7) (Splits.below HP.out B7) (ErrT.below HE.out B7) (fun w' h' => HT.out w' (B7.trans (h'.mono B7.size)))).mono ?_
    rintro e w8 ⟨a2, cap2, Bq, rfl, b8, o8, -⟩
    have x58 := x57.below b8
    have o78 := o7.below b8
    have b28 := b27.trans (b8.mono b27.size)
    have x38 := x3.below b28
    obtain ⟨r30, r31, r32, r33⟩ := x38.quadC
    have lt3 := x38.lt
    clear x57 o7 b27 b8
    go_wp2_with fail
    obtain ⟨w9, hw9⟩ : ∃ w9, w9 = w8.alloc (.cells #[.int .i64 cl, .int .i64 sq, .int .i64 ac, .slice a2 n cap2] 24) := ⟨_, rfl⟩
    have o89 : OwnX w9 a2 Bq n xs := by rw [hw9]; exact o8.alloc _
    have o79 : OwnX w9 a B n (ramp 1 n) := by rw [hw9]; exact o78.alloc _
    have b29 : Below w2.heap.size w2 w9 := by rw [hw9]; exact b28.alloc b28.size _
    have x59 : Cel w9 w3.heap.size [.int .i64 cl, .int .i64 sq, .int .i64 ac, .slice a n cap] 24 := by rw [hw9]; exact x58.below ((Below.refl _ _).alloc (Nat.le_refl _) _)
    rw [← hw9]
    clear hw9 o8 o78 b28 x58 x38 r30 r31 r32 r33 lt3
    refine (eqC_same _ _ _ _ _ _ _ _ xs _ o89.ints (iw2.below b29) hn1).mono ?_
    rintro e w10 ⟨rfl, b10⟩
    have x510 := x59.below b10
    have o710 := o79.below b10
    have b210 := b29.trans (b10.mono b29.size)
    clear x59 o79 b29 b10 o89
    obtain ⟨r50, r51, r52, r53⟩ := x510.quadC
    go_wp2_with fail
    refine (heldC_any _ _ _ _ _ _ 1 _ o710.ints hn1 (by omega) (by omega)).mono ?_
    rintro e w11 ⟨rfl, b11⟩
    have b211 := b210.trans (b11.mono b210.size)
    have B11 := B2.trans (b211.mono B2.size)
    clear x510 o710 b210 b11 r50 r51 r52 r53 b211
    go_wp2
    go_ret
    exact ⟨rfl, B11⟩
  · have hi : (1048576 : Int) < (l.length : Int) := by omega
    go_enter Tryz.func3, Tryz.ntmps3
    go_wp2
    go_ret
    exact ⟨rfl, Below.refl _ _⟩

/-! ### The row's step -/
theorem star : "*" ++ "errors.errorString" = "*errors.errorString" := by decide
theorem rowErr (u : TypeId) (h : Tryz.prog.typeName? 3 u = some "*errors.errorString") : u = 133 :=
  typeName_ptr_named (nm := "errors.errorString") (by rw [star]; kernel_rfl) (by kernel_rfl) (by decide) u (by rw [star]; exact h)
theorem parts_of {W : World} (h : laidMetH Tryz.prog Rows.fnExactCallReadRow.laid W) : laidMet Tryz.prog (("math/bits.deBruijn32tab", Rows.laid_math_bits_deBruijn32tab) :: ("math/bits.deBruijn64tab", Rows.laid_math_bits_deBruijn64tab) :: ("internal/strconv.uint64pow10", Lib.tabData .u64 Lib.pow10Tab) :: ("unicode/utf8.acceptRanges", Rows.laid_unicode_utf8_acceptRanges) :: ("strconv.ErrRange", Rows.laid_strconv_ErrRange) :: ("strconv.ErrSyntax", Rows.laid_strconv_ErrSyntax) :: [("unicode/utf8.first", Rows.laid_unicode_utf8_first)]) W ∧ handlesMet Tryz.prog [("errors.errorType", Rows.laid_errors_errorType)] W := h
theorem tab_of {W : World} (h : laidMetH Tryz.prog Rows.fnExactCallReadRow.laid W) : Lib.TabIs Tryz.prog W "internal/strconv.uint64pow10" .u64 Lib.pow10Tab := by
  have h2 := (parts_of h).1.tail.tail
  exact Lib.tabIs_of_head (g := 6) (t := 137) (e := 111) (n := 20) (by kernel_rfl) (by kernel_rfl) Tryz.underlying137 Tryz.underlying111 (by kernel_rfl) (by kernel_rfl) h2
theorem et : Tryz.prog.globalNamed "errors.errorType" = some 0 := by kernel_rfl
theorem rt : (Tryz.prog.cutTypes.find? (·.1 == "internal/reflectlite.rtype")).map (·.2) = some 84 := by kernel_rfl
theorem oneRow : ((List.range 171).filter fun t => Tryz.prog.rowNamed t [101, 114, 114, 111, 114]) = [37] := by kernel_rfl
theorem sizeT : Tryz.prog.types.size = 171 := by kernel_rfl
theorem errT_of {W : World} (h : laidMetH Tryz.prog Rows.fnExactCallReadRow.laid W) : ErrT W := by
  obtain ⟨name, u, ty, e1, e2, e3, e4, e5⟩ := (parts_of h).2 _ (List.mem_singleton.2 rfl)
  have en : name = [101, 114, 114, 111, 114] := (Option.some.inj e1).symm
  subst en
  obtain rfl := Option.some.inj (rt.symm.trans e2)
  have hm : ty ∈ (List.range 171).filter fun t => Tryz.prog.rowNamed t [101, 114, 114, 111, 114] := List.mem_filter.2 ⟨List.mem_range.2 (by rw [← sizeT]; exact e3), e4⟩
  rw [oneRow] at hm
  obtain rfl := List.mem_singleton.1 hm
  have hh : typeHandle Tryz.prog 37 = hnd 37 := by kernel_rfl
  rw [hh] at e5
  simpa [ErrT] using World.var?_cell et e5 0
noncomputable def W0 (os : Os) : World :=
  let w0 := World.holding Tryz.prog os ⟨#[], #[], []⟩
  { w0 with heap := w0.heap.modify 0 fun
      | .cells _ t frozen => .cells #[.iface 84 (.agg #[hnd 37])] t frozen
      | o => o }
noncomputable def WL (os : Os) : World := (W0 os).layVars Tryz.prog (Rows.fnExactCallReadRow.laid.filter fun x => x.2.handleName?.isNone)
theorem WL_os (os : Os) : (WL os).os = os := World.layVars_os _ _ _
theorem WL_met (os : Os) (args : Array Value) : laidMetH Tryz.prog Rows.fnExactCallReadRow.laid ((WL os).forCall (fun _ _ => 0) ⟨#[], args, []⟩).memory := by
  have e1 : ((Rows.fnExactCallReadRow.laid.filter fun x => x.2.handleName?.isNone).filter fun x => ((Rows.fnExactCallReadRow.laid.filter fun x => x.2.handleName?.isNone).map (·.1)).contains x.1) = (Rows.fnExactCallReadRow.laid.filter fun x => x.2.handleName?.isNone) := List.filter_eq_self.2 fun x hx => List.contains_iff_mem.2 (List.mem_map.2 ⟨x, hx, rfl⟩)
  have e2 : ((Rows.fnExactCallReadRow.laid.filter fun x => x.2.handleName?.isNone).filter fun x => !((Rows.fnExactCallReadRow.laid.filter fun x => x.2.handleName?.isNone).map (·.1)).contains x.1) = [] := List.filter_eq_nil_iff.2 fun x hx => by rw [List.contains_iff_mem.2 (List.mem_map.2 ⟨x, hx, rfl⟩)]; simp
  have h : laidMet Tryz.prog (Rows.fnExactCallReadRow.laid.filter fun x => x.2.handleName?.isNone) (WL os) := laidMet_layVars (w0 := W0 os) ((Rows.fnExactCallReadRow.laid.filter fun x => x.2.handleName?.isNone).map (·.1)) [] (by rw [e1]; rfl) (by rw [e1]; kernel_rfl) (by rw [e1]; kernel_rfl) (by rw [e2]; exact LaidIn.none)
  exact laidMetH_of_parts (h.of_heap (by simp [World.memory, World.forCall, Input.heap])) (by kernel_rfl)
theorem reads_laid {W : World} (h : laidMetH Tryz.prog Rows.fnExactCallReadRow.laid W) : ReadsN W := by
  have hR := (parts_of h).1.tail.tail.tail.tail
  obtain ⟨a1, s1, hv1, -, -, -⟩ := laid_sentinel hR (g := 3) (by kernel_rfl) (by kernel_rfl) Tryz.underlying37 rowErr Tryz.underlying133 Tryz.underlying135 rfl rfl Tryz.underlying9 (by kernel_rfl) (by kernel_rfl)
  obtain ⟨a0, s0, hv0, -, -, -⟩ := laid_sentinel hR.tail (g := 2) (by kernel_rfl) (by kernel_rfl) Tryz.underlying37 rowErr Tryz.underlying133 Tryz.underlying135 rfl rfl Tryz.underlying9 (by kernel_rfl) (by kernel_rfl)
  exact reads_of W _ _ _ _ hv0 hv1

set_option maxRecDepth 100000 in
theorem step {H : Type} {enc : TypeId × Value → H} (W : World) (base : Nat) (args : Array Value) (ds gs : List (DataW H)) (before : List MemPlace)
    (hval0 : ∀ (j : Nat) t v, Tryz.f3.params[j]? = some t → args[j]? = some v → Value.okWide Tryz.prog W .any base t v)
    (hW : DataW.Whole enc Tryz.prog Tryz.f3.params.toList Rows.fnExactCallReadSpec.vars false W args.toList ds gs before)
    (hL : laidMetH Tryz.prog Rows.fnExactCallReadRow.laid W) (hsh : W.ShapedOpen Tryz.prog) :
    Calls Tryz.prog 3 args W fun e W' => ∃ v, e = .returned v ∧ Rows.fnExactCallReadSpec.post enc Tryz.prog Tryz.f3 false true false false W args v W' := by
  have hval : ∀ (j : Nat) t v, Tryz.f3.params[j]? = some t → args[j]? = some v → Value.okWide Tryz.prog W .any base t v := hval0
  have hW' := hW
  obtain ⟨p, q, hA0, hV, rfl, hfz, hnd⟩ := hW
  have hA : DataW.TrodAll enc Tryz.prog W 0 (fun _ => true) true Tryz.f3.params.toList args.toList ds p := hA0
  rw [Tryz.params3] at hA hval
  obtain ⟨v0, vs0, d0, ds0, p0, q0, hargs, rfl, rfl, h0, r0⟩ := trodAll_cons hA
  obtain ⟨rfl, rfl, rfl⟩ := trodAll_nil r0
  obtain rfl : args = #[v0] := by cases args; simp_all
  obtain ⟨rfl, rfl⟩ := trodVars_none hV
  have k0 := h0
  have lt0 : ∀ x ∈ p0, x.block < W.heap.size := by obtain ⟨m, hm⟩ := k0; exact DataW.trod_lt m _ _ _ hm
  obtain ⟨s, rfl, rfl, rfl, hs⟩ := open_string Tryz.underlying9 (hval 0 9 v0 rfl rfl) h0
  obtain ⟨l, rfl⟩ : ∃ l : List UInt8, s = ⟨l.toArray⟩ := ⟨s.data.toList, by cases s; simp⟩
  obtain ⟨m, hm⟩ := Tryz.laysM146.s1_3 W hsh
  clear hA0 hval0
  refine (walk W l (reads_laid hL) (splits_of W m hm) (errT_of hL) (Lib.tabBelow_of_tabIs (tab_of hL))).mono fun e W' ⟨he, bel⟩ => ?_
  subst he
  exact ⟨_, rfl, _, _, _, [], _, [], hW', trodAll_mk1 (shut_bool Tryz.underlying4 _), (trodAll_cons_mk (Below.trod laidOut (by kernel_rfl) (of_decide_eq_true (by kernel_rfl)) k0 bel lt0) trodAll_mk0), rfl, bel.frame _, fun h => by cases h⟩

set_option maxRecDepth 100000 in
theorem lifted (os : Os) (started : os.Started) (H : Type) (enc : TypeId × Value → H) :
    ReturnsInHanded {} Tryz.checked os 3 .any (fun w args => (Rows.fnExactCallReadSpec.pre enc Tryz.prog Tryz.f3 Rows.fnExactCallReadRow.domain false w args ∧ laidMetH Tryz.prog Rows.fnExactCallReadRow.laid w) ∧ sizedMet enc Tryz.prog Tryz.f3 (OpenSpec.ofChange Rows.fnExactCallReadSpec) false w args) (Rows.fnExactCallReadSpec.post enc Tryz.prog Tryz.f3 false true false false) := by
  refine returnsInHanded_of_calls own started (by kernel_rfl)
    (ChangeSpec.witness_shaped (enc := enc) (C := Tryz.checked) (os := os) (X := fun w _ => laidMetH Tryz.prog Rows.fnExactCallReadRow.laid w) false (WL os) #[.string ⟨#[]⟩] 8 (WL_os os)
      (World.shaped_of_ZipB (by kernel_rfl) (by kernel_rfl)) (by kernel_rfl) (by kernel_rfl) (by kernel_rfl)
      (WL_met os _)) ?_
  intro w0 tape i _ hsh _ hok hpre _
  obtain ⟨_, _, _, fn', hfn', _, _, _, _, hval⟩ := hok
  obtain rfl : fn' = Tryz.f3 := Option.some.inj (hfn'.symm.trans Tryz.func3)
  obtain ⟨⟨⟨ds, gs, before, hw, -⟩, hx⟩, -⟩ := hpre
  have hL : laidMetH Tryz.prog Rows.fnExactCallReadRow.laid (w0.forCall tape i) := hx.of_heap (by rfl)
  refine (step (w0.forCall tape i) w0.heap.size i.args ds gs before hval (DataW.Whole.of_heap (w' := w0.forCall tape i) (by rfl) hw) hL hsh).mono ?_
  rintro e W' ⟨v, rfl, hp⟩
  exact ChangeSpec.post_blind hp

theorem over : Rows.fnExactCallReadRow.holds Tryz.pinned (OpenSpec.ofChange Rows.fnExactCallReadSpec) :=
  OpenClaim.holds_of_wide 3 Tryz.f3 rfl rfl rfl rfl rfl rfl rfl ⟨rfl, rfl, rfl, rfl, rfl⟩ rfl rfl rfl rfl rfl (by kernel_rfl) Tryz.func3 (by kernel_rfl)
    (of_decide_eq_true (by kernel_rfl)) (by unfold Func.isWrapper; first | (rw [if_pos (by decide +kernel)]; kernel_rfl) | (rw [if_neg (by decide +kernel)]; exact ⟨rfl, rfl⟩))
    (fun os started H enc _ => lifted os started H enc)

end Go.Proofs.YtkmacleakfbobaaGreatDoor.fnExactCallRead
namespace Go.Proofs.YtkmacleakfbobaaGreatDoor
/-- The statement. -/
theorem fnExactCallRead_holds : Rows.FnExactCallReadCardSaid :=
  Claim7.holds_tied_plain_at .later [] [.data, .data, .data, .data, .handle, .sentinel, .sentinel, .pinned] true Rows.fnExactCallReadCard.stood.harness Rows.fnExactCallReadCard.stood.looks fnExactCallRead.over (fun _ h => by cases h) (by kernel_rfl) (fun _ h => by cases h) fnExactCallRead_row_tie rfl ⟨rfl, rfl⟩ (by kernel_rfl) rfl
    (fun f fn hf hfn => by
      obtain rfl : f = 3 := Option.some.inj ((show Tryz.prog.funcNamed Rows.fnExactCallReadRow.func = some 3 by kernel_rfl).symm.trans hf) |>.symm
      obtain rfl : fn = Tryz.f3 := (Option.some.inj (Tryz.func3.symm.trans hfn)).symm
      exact ⟨by kernel_rfl, fun j t ht => by
        rw [Tryz.params3] at ht
        have hm : t ∈ [9] := by simpa using Array.mem_of_getElem? ht
        have hall : ([9].all fun u => !Tryz.prog.wantsStandIn u) = true := by kernel_rfl
        exact (show Tryz.prog.wantsStandIn t = false by simpa using List.all_eq_true.1 hall t hm)⟩)
    (by kernel_rfl)
#print axioms fnExactCallRead_holds
end Go.Proofs.YtkmacleakfbobaaGreatDoor
