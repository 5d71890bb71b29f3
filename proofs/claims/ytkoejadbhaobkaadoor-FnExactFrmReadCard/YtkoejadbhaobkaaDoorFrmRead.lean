/-
  For every text FnExactFrmRead returns true; the library's variables that are listed are as its text lays them. No other condition.
-/
import Derived.Test.YtkoejadbhaobkaaDoorRfX
import Derived.Test.YtkoejadbhaobkaaDoorRdM
import Derived.Test.YtkoejadbhaobkaaDoorTie
import Derived.Test.YtkoejadbhaobkaaDoorCards
import Derived.Stop.LaidErr
import Derived.Lib.LaidTab
import Derived.LaidMore
import Derived.Lay
import Derived.SevenTiedAt
import Derived.Stop.Joined
import Derived.HandedShaped
import Derived.ChangeMaps5
namespace Go.Proofs.YtkoejadbhaobkaaDoor.fnExactFrmRead
open Go.ChangeShapes Go.WideShapes Go.ChangeAt Go.RowKit Go.Deep
open Go.ChangeMaps (open_string shut_string)
set_option linter.unusedVariables false

theorem ownAt_below {w w' : World} {a : Option Addr} {B : Nat} {zs : List Int} (h : OwnAt w a B zs) (b : Below w.heap.size w w') : OwnAt w' a B zs := by
  rcases h with h | ⟨e, k⟩
  · exact .inl h
  · exact .inr ⟨e, k.below b⟩
theorem ownAt_ints {w : World} {a : Option Addr} {B n : Nat} {zs : List Int} (h : OwnAt w a B zs) (hn : zs.length = n) : Ints w a n zs := by
  subst hn
  exact h.ints

set_option maxRecDepth 100000 in
set_option maxHeartbeats 6400000 in
theorem walk (w : World) (l : List UInt8) (hA : ReadsN w) (hP : Splits w) (hU : Cuts w) (hT : Lib.TabBelow Tryd.prog w.heap.size w "internal/strconv.uint64pow10" .u64 Lib.pow10Tab) :
    Calls Tryd.prog 5 #[.string ⟨l.toArray⟩] w fun r w' => r = .returned (.bool true) ∧ Below w.heap.size w w' := by
  by_cases hl : l.length ≤ 1048576
  · have hi : ¬ (1048576 : Int) < (l.length : Int) := by omega
    obtain ⟨⟨⟨C, D, K⟩, ok⟩, hF⟩ : ∃ r, rfF l = r := ⟨_, rfl⟩
    have HF : Hid _ := hF
    obtain ⟨n, hn⟩ : ∃ n, C.length = n := ⟨_, rfl⟩
    obtain ⟨m, hm⟩ : ∃ m, D.length = m := ⟨_, rfl⟩
    have HN : Hid _ := hn
    have HM : Hid _ := hm
    have hsm := rfF_small hF
    have hn1 : n ≤ 1048576 := by omega
    have hm1 : m ≤ 1048576 := by omega
    have HA : Hid _ := hA
    have HP : Hid _ := hP
    have HU : Hid _ := hU
    have HT : Hid _ := hT
    have HE := eqF_refl C D K
    have HEE : Hid _ := HE
    clear hF hA hP hT hU HE
    go_enter Tryd.func5, Tryd.ntmps5
    go_wp2_with fail
    refine (sfread_at HF.out HN.out HM.out _).mono ?_
    rintro e w1 ⟨aw, cw, bw, dw, rfl, b1, iw, jw⟩
    have iw2 := iw.alloc (.cells #[.slice aw n cw, .slice bw m dw, .int .i64 K] 27)
    have jw2 := jw.alloc (.cells #[.slice aw n cw, .slice bw m dw, .int .i64 K] 27)
    have B2 := b1.alloc b1.size (.cells #[.slice aw n cw, .slice bw m dw, .int .i64 K] 27)
    have x3 := Cel.new w1 [.slice aw n cw, .slice bw m dw, .int .i64 K] 27
    clear iw jw b1
    go_wp2_with fail
    obtain ⟨w2, hw2⟩ : ∃ w2, w2 = w1.alloc (.cells #[.slice aw n cw, .slice bw m dw, .int .i64 K] 27) := ⟨_, rfl⟩
    replace x3 : Cel w2 w1.heap.size [.slice aw n cw, .slice bw m dw, .int .i64 K] 27 := by rw [hw2]; exact x3
    rw [← hw2] at iw2 jw2 B2 ⊢
    clear hw2
    refine (ifread_at HF.out HN.out HM.out _ hl (ReadsN.below HA.out B2) (Splits.below HP.out B2) (Cuts.below HU.out B2) (fun w' h' => HT.out w' (B2.trans (h'.mono B2.size)))).mono ?_
    rintro e w3 ⟨a, cap, c, cap', Q1, Q2, rfl, b3, o3, p3, hQ1, hQ2, hQ⟩
    have x33 := x3.below b3
    have r30 := x33.cell 0
    have r31 := x33.cell 1
    have r32 := x33.cell 2
    have lt3 := x33.lt
    simp only [List.getElem?_cons_zero, List.getElem?_cons_succ] at r30 r31 r32
    have hok : (ok != ok) = false := by simp
    have hok2 : (ok == ok) = true := by simp
    go_wp2_with fail
    obtain ⟨w4, hw4⟩ : ∃ w4, w4 = w3.alloc (.cells #[.slice a n cap, .slice c m cap', .int .i64 K] 27) := ⟨_, rfl⟩
    have A4 : Below w3.heap.size w3 w4 := by rw [hw4]; exact (Below.refl _ _).alloc (Nat.le_refl _) _
    have o4 := ownAt_below o3 A4
    have p4 := ownAt_below p3 A4
    have b4 : Below w2.heap.size w2 w4 := b3.trans (A4.mono b3.size)
    have x5 : Cel w4 w3.heap.size [.slice a n cap, .slice c m cap', .int .i64 K] 27 := by rw [hw4]; exact Cel.new w3 _ _
    rw [← hw4]
    clear hw4 o3 p3 b3 x33 r30 r31 r32 lt3 A4
    refine (eqF_any _ _ _ _ _ _ K C D _ _ _ _ _ _ K C D _ (ownAt_ints o4 HN.out) (ownAt_ints p4 HM.out) (iw2.below b4) (jw2.below b4) hn1 hm1 hn1 hm1).mono ?_
    rintro e w5 ⟨rfl, b5⟩
    rw [HEE.out]
    have x55 := x5.below b5
    have o5 := ownAt_below o4 b5
    have p5 := ownAt_below p4 b5
    have b25 := b4.trans (b5.mono b4.size)
    clear x5 o4 p4 b4 b5
    have r50 := x55.cell 0
    have r51 := x55.cell 1
    have r52 := x55.cell 2
    simp only [List.getElem?_cons_zero, List.getElem?_cons_succ] at r50 r51 r52
    go_wp2_with fail
    refine (markF_any _ _ _ _ _ _ K Q1 Q2 C D 1 _ o5 p5 hQ HN.out HM.out hn1 hm1 (by omega) (by omega)).mono ?_
    rintro e w6 ⟨rfl, t6, o6, p6⟩
    have b26 := b25.trans (t6.below b25.size (fun k hk => by rcases hk with ⟨rfl, h⟩ | ⟨rfl, h⟩; exact (hQ1 h).1; exact (hQ2 h).1))
    have x56 := x55.touch t6 (fun hk => by rcases hk with ⟨e, h⟩ | ⟨e, h⟩; have := (hQ1 h).2; omega; have := (hQ2 h).2; omega)
    clear x55 o5 p5 b25 t6 r50 r51 r52
    have r50 := x56.cell 0
    have r51 := x56.cell 1
    have r52 := x56.cell 2
    simp only [List.getElem?_cons_zero, List.getElem?_cons_succ] at r50 r51 r52
    have lenr : ∀ (k : Int) (q : Nat), (ramp k q).length = q := fun k q => ramp_len k q
    go_wp2_with fail
    refine (heldF_any _ _ _ _ _ _ K 1 _ (ownAt_ints o6 (lenr _ _)) (ownAt_ints p6 (lenr _ _)) hn1 hm1 (by omega) (by omega)).mono ?_
    rintro e w7 ⟨rfl, b7⟩
    have x57 := x56.below b7
    have o7 := ownAt_below o6 b7
    have p7 := ownAt_below p6 b7
    have b27 := b26.trans (b7.mono b26.size)
    have B7 := B2.trans (b27.mono B2.size)
    have hm0 : ¬ (1 : Int) + (n : Int) + (m : Int) < 0 := by omega
    clear x56 o6 p6 b26 b7 r50 r51 r52
    go_wp2_with fail
    refine (ifread_at HF.out HN.out HM.out _ hl (ReadsN.below HA.out B7) (Splits.below HP.out B7) (Cuts.below HU.out B7) (fun w' h' => HT.out w' (B7.trans (h'.mono B7.size)))).mono ?_
    rintro e w8 ⟨a2, cap2, c2, cap2', Q3, Q4, rfl, b8, o8, p8, -, -, -⟩
    have x58 := x57.below b8
    have o78 := ownAt_below o7 b8
    have p78 := ownAt_below p7 b8
    have b28 := b27.trans (b8.mono b27.size)
    have x38 := x3.below b28
    have r30 := x38.cell 0
    have r31 := x38.cell 1
    have r32 := x38.cell 2
    have lt3 := x38.lt
    simp only [List.getElem?_cons_zero, List.getElem?_cons_succ] at r30 r31 r32
    clear x57 o7 p7 b27 b8
    go_wp2_with fail
    obtain ⟨w9, hw9⟩ : ∃ w9, w9 = w8.alloc (.cells #[.slice a2 n cap2, .slice c2 m cap2', .int .i64 K] 27) := ⟨_, rfl⟩
    have A9 : Below w8.heap.size w8 w9 := by rw [hw9]; exact (Below.refl _ _).alloc (Nat.le_refl _) _
    have o89 := ownAt_below o8 A9
    have p89 := ownAt_below p8 A9
    have o79 := ownAt_below o78 A9
    have p79 := ownAt_below p78 A9
    have b29 := b28.trans (A9.mono b28.size)
    have x59 := x58.below A9
    rw [← hw9]
    clear hw9 o8 p8 o78 p78 b28 x58 x38 r30 r31 r32 lt3 A9
    refine (eqF_any _ _ _ _ _ _ K C D _ _ _ _ _ _ K C D _ (ownAt_ints o89 HN.out) (ownAt_ints p89 HM.out) (iw2.below b29) (jw2.below b29) hn1 hm1 hn1 hm1).mono ?_
    rintro e w10 ⟨rfl, b10⟩
    rw [HEE.out]
    have x510 := x59.below b10
    have o710 := ownAt_below o79 b10
    have p710 := ownAt_below p79 b10
    have b210 := b29.trans (b10.mono b29.size)
    clear x59 o79 p79 b29 b10 o89 p89
    have r50 := x510.cell 0
    have r51 := x510.cell 1
    have r52 := x510.cell 2
    simp only [List.getElem?_cons_zero, List.getElem?_cons_succ] at r50 r51 r52
    go_wp2_with fail
    refine (heldF_any _ _ _ _ _ _ K 1 _ (ownAt_ints o710 (lenr _ _)) (ownAt_ints p710 (lenr _ _)) hn1 hm1 (by omega) (by omega)).mono ?_
    rintro e w11 ⟨rfl, b11⟩
    have b211 := b210.trans (b11.mono b210.size)
    have B11 := B2.trans (b211.mono B2.size)
    clear x510 o710 p710 b210 b11 r50 r51 r52 b211
    go_wp2
    go_ret
    exact ⟨rfl, B11⟩
  · have hi : (1048576 : Int) < (l.length : Int) := by omega
    go_enter Tryd.func5, Tryd.ntmps5
    go_wp2
    go_ret
    exact ⟨rfl, Below.refl _ _⟩

/-! ### The row's step -/
theorem star : "*" ++ "errors.errorString" = "*errors.errorString" := by decide
theorem rowErr (u : TypeId) (h : Tryd.prog.typeName? 3 u = some "*errors.errorString") : u = 127 :=
  typeName_ptr_named (nm := "errors.errorString") (by rw [star]; kernel_rfl) (by kernel_rfl) (by decide) u (by rw [star]; exact h)
theorem tab_of {W : World} (h : laidMetH Tryd.prog Rows.fnExactFrmReadRow.laid W) : Lib.TabIs Tryd.prog W "internal/strconv.uint64pow10" .u64 Lib.pow10Tab := by
  rw [MakeChecks.laidMetH_plain _ _ _ (by kernel_rfl)] at h
  have h2 : laidMet Tryd.prog (("internal/strconv.uint64pow10", Lib.tabData .u64 Lib.pow10Tab) :: Rows.fnExactFrmReadRow.laid.tail.tail.tail) W := h.tail.tail
  exact Lib.tabIs_of_head (g := 0) (t := 113) (e := 91) (n := 20) (by kernel_rfl) (by kernel_rfl) Tryd.underlying113 Tryd.underlying91 (by kernel_rfl) (by kernel_rfl) h2
theorem reads_laid {W : World} (h : laidMetH Tryd.prog Rows.fnExactFrmReadRow.laid W) : ReadsN W := by
  rw [MakeChecks.laidMetH_plain _ _ _ (by kernel_rfl)] at h
  have hR := h.tail.tail.tail.tail
  obtain ⟨a1, s1, hv1, -, -, -⟩ := laid_sentinel hR (g := 3) (by kernel_rfl) (by kernel_rfl) Tryd.underlying74 rowErr Tryd.underlying127 Tryd.underlying129 rfl rfl Tryd.underlying9 (by kernel_rfl) (by kernel_rfl)
  obtain ⟨a0, s0, hv0, -, -, -⟩ := laid_sentinel hR.tail (g := 2) (by kernel_rfl) (by kernel_rfl) Tryd.underlying74 rowErr Tryd.underlying127 Tryd.underlying129 rfl rfl Tryd.underlying9 (by kernel_rfl) (by kernel_rfl)
  exact reads_of W _ _ _ _ hv0 hv1

set_option maxRecDepth 100000 in
theorem step {H : Type} {enc : TypeId × Value → H} (W : World) (base : Nat) (args : Array Value) (ds gs : List (DataW H)) (before : List MemPlace)
    (hval0 : ∀ (j : Nat) t v, Tryd.f5.params[j]? = some t → args[j]? = some v → Value.okWide Tryd.prog W .any base t v)
    (hW : DataW.Whole enc Tryd.prog Tryd.f5.params.toList Rows.fnExactFrmReadSpec.vars false W args.toList ds gs before)
    (hL : laidMetH Tryd.prog Rows.fnExactFrmReadRow.laid W) (hsh : W.ShapedOpen Tryd.prog) :
    Calls Tryd.prog 5 args W fun e W' => ∃ v, e = .returned v ∧ Rows.fnExactFrmReadSpec.post enc Tryd.prog Tryd.f5 false true false false W args v W' := by
  have hval : ∀ (j : Nat) t v, Tryd.f5.params[j]? = some t → args[j]? = some v → Value.okWide Tryd.prog W .any base t v := hval0
  have hW' := hW
  obtain ⟨p, q, hA0, hV, rfl, hfz, hnd⟩ := hW
  have hA : DataW.TrodAll enc Tryd.prog W 0 (fun _ => true) true Tryd.f5.params.toList args.toList ds p := hA0
  rw [Tryd.params5] at hA hval
  obtain ⟨v0, vs0, d0, ds0, p0, q0, hargs, rfl, rfl, h0, r0⟩ := trodAll_cons hA
  obtain ⟨rfl, rfl, rfl⟩ := trodAll_nil r0
  obtain rfl : args = #[v0] := by cases args; simp_all
  obtain ⟨rfl, rfl⟩ := trodVars_none hV
  have k0 := h0
  have lt0 : ∀ x ∈ p0, x.block < W.heap.size := by obtain ⟨m, hm⟩ := k0; exact DataW.trod_lt m _ _ _ hm
  obtain ⟨s, rfl, rfl, rfl, hs⟩ := open_string Tryd.underlying9 (hval 0 9 v0 rfl rfl) h0
  obtain ⟨l, rfl⟩ : ∃ l : List UInt8, s = ⟨l.toArray⟩ := ⟨s.data.toList, by cases s; simp⟩
  obtain ⟨m, hm⟩ := Tryd.laysM146.s1_3 W hsh
  clear hA0 hval0
  refine (walk W l (reads_laid hL) (splits_of W m hm) (cuts_of W m hm) (Lib.tabBelow_of_tabIs (tab_of hL))).mono fun e W' ⟨he, bel⟩ => ?_
  subst he
  exact ⟨_, rfl, _, _, _, [], _, [], hW', trodAll_mk1 (shut_bool Tryd.underlying4 _), (trodAll_cons_mk (Below.trod laidOut (by kernel_rfl) (of_decide_eq_true (by kernel_rfl)) k0 bel lt0) trodAll_mk0), rfl, bel.frame _, fun h => by cases h⟩

set_option maxRecDepth 100000 in
theorem lifted (os : Os) (started : os.Started) (H : Type) (enc : TypeId × Value → H) :
    ReturnsInHanded {} Tryd.checked os 5 .any (fun w args => (Rows.fnExactFrmReadSpec.pre enc Tryd.prog Tryd.f5 Rows.fnExactFrmReadRow.domain false w args ∧ laidMetH Tryd.prog Rows.fnExactFrmReadRow.laid w) ∧ sizedMet enc Tryd.prog Tryd.f5 (OpenSpec.ofChange Rows.fnExactFrmReadSpec) false w args) (Rows.fnExactFrmReadSpec.post enc Tryd.prog Tryd.f5 false true false false) := by
  refine returnsInHanded_of_calls own started (by kernel_rfl)
    (ChangeSpec.witness_shaped (enc := enc) (C := Tryd.checked) (os := os) (X := fun w _ => laidMetH Tryd.prog Rows.fnExactFrmReadRow.laid w) false (World.laidAll Tryd.prog os Rows.fnExactFrmReadRow.laid) #[.string ⟨#[]⟩] 8 (World.laidAll_os _ _ _)
      (World.shaped_of_ZipB (by kernel_rfl) (by kernel_rfl)) (by kernel_rfl) (by kernel_rfl) (by kernel_rfl)
      (by rw [MakeChecks.laidMetH_plain _ _ _ (by kernel_rfl)]; exact laidMet_laidAll _ (by kernel_rfl) (by kernel_rfl))) ?_
  intro w0 tape i _ hsh _ hok hpre _
  obtain ⟨_, _, _, fn', hfn', _, _, _, _, hval⟩ := hok
  obtain rfl : fn' = Tryd.f5 := Option.some.inj (hfn'.symm.trans Tryd.func5)
  obtain ⟨⟨⟨ds, gs, before, hw, -⟩, hx⟩, -⟩ := hpre
  have hL : laidMetH Tryd.prog Rows.fnExactFrmReadRow.laid (w0.forCall tape i) := hx.of_heap (by rfl)
  refine (step (w0.forCall tape i) w0.heap.size i.args ds gs before hval (DataW.Whole.of_heap (w' := w0.forCall tape i) (by rfl) hw) hL hsh).mono ?_
  rintro e W' ⟨v, rfl, hp⟩
  exact ChangeSpec.post_blind hp

theorem over : Rows.fnExactFrmReadRow.holds Tryd.pinned (OpenSpec.ofChange Rows.fnExactFrmReadSpec) :=
  OpenClaim.holds_of_wide 5 Tryd.f5 rfl rfl rfl rfl rfl rfl rfl ⟨rfl, rfl, rfl, rfl, rfl⟩ rfl rfl rfl rfl rfl (by kernel_rfl) Tryd.func5 (by kernel_rfl)
    (of_decide_eq_true (by kernel_rfl)) (by unfold Func.isWrapper; first | (rw [if_pos (by decide +kernel)]; kernel_rfl) | (rw [if_neg (by decide +kernel)]; exact ⟨rfl, rfl⟩))
    (fun os started H enc _ => lifted os started H enc)

end Go.Proofs.YtkoejadbhaobkaaDoor.fnExactFrmRead
namespace Go.Proofs.YtkoejadbhaobkaaDoor
/-- The statement. -/
theorem fnExactFrmRead_holds : Rows.FnExactFrmReadCardSaid :=
  Claim7.holds_tied_plain_at .later [] [.data, .data, .data, .data, .sentinel, .sentinel, .pinned] true Rows.fnExactFrmReadCard.stood.harness true fnExactFrmRead.over (fun _ h => by cases h) (by kernel_rfl) (fun _ h => by cases h) fnExactFrmRead_row_tie rfl ⟨rfl, rfl⟩ (by kernel_rfl) rfl
    (fun f fn hf hfn => by
      obtain rfl : f = 5 := Option.some.inj ((show Tryd.prog.funcNamed Rows.fnExactFrmReadRow.func = some 5 by kernel_rfl).symm.trans hf) |>.symm
      obtain rfl : fn = Tryd.f5 := (Option.some.inj (Tryd.func5.symm.trans hfn)).symm
      exact ⟨by kernel_rfl, fun j t ht => by
        rw [Tryd.params5] at ht
        have hm : t ∈ [9] := by simpa using Array.mem_of_getElem? ht
        have hall : ([9].all fun u => !Tryd.prog.wantsStandIn u) = true := by kernel_rfl
        exact (show Tryd.prog.wantsStandIn t = false by simpa using List.all_eq_true.1 hall t hm)⟩)
    (by kernel_rfl)
#print axioms fnExactFrmRead_holds
end Go.Proofs.YtkoejadbhaobkaaDoor
