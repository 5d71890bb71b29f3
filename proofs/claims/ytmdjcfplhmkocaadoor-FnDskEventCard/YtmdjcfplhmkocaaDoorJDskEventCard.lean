/-
  For all bytes FnDskEvent returns true, and what came in reads behind the call as it did. The library's variables that are listed are as its text lays them; no other condition. (a line is one thing, or nothing)
-/
import Derived.Test.YtmdjcfplhmkocaaDoorDrEv
import Derived.Test.YtmdjcfplhmkocaaDoorJDskEventCardA
import Derived.Test.YtmdjcfplhmkocaaDoorFvC
import Derived.Test.YtmdjcfplhmkocaaDoorOpen
import Derived.Test.YtmdjcfplhmkocaaDoorTie
import Derived.Test.YtmdjcfplhmkocaaDoorCards
import Derived.Stop.LaidErr
import Derived.Lib.LaidTab
import Derived.LaidMore
import Derived.Lay
import Derived.SevenTiedAt
import Derived.Stop.Joined
import Derived.HandedShaped
import Derived.ChangeMaps5
namespace Go.Proofs.YtmdjcfplhmkocaaDoor.fnDskEvent
open Go.ChangeShapes Go.WideShapes Go.ChangeAt Go.RowKit Go.Deep
set_option linter.unusedVariables false
set_option maxRecDepth 100000

theorem open_bytesT {H : Type} {enc : TypeId × Value → H} {W : World} {r : Reach} {b0 : Nat} {v : Value} {d : DataW H} {p : List MemPlace}
    (hv : Value.okWide Tryd.prog W r b0 22 v) (h : DataW.Trod enc Tryd.prog W 0 (fun _ => true) true 22 v d p) : ∃ a n cap zs, v = .slice a n cap ∧ BInts W a n zs ∧ (n ≤ cap ∧ cap ≤ maxLen) := by
  obtain ⟨a0, len0, cap0, rfl⟩ := okWide_slice Tryd.underlying22 hv
  obtain ⟨fuel, hf⟩ := h
  rcases open_ints Tryd.underlying22 Tryd.underlying5 (by kernel_rfl) hf with ⟨hcs, _⟩ | ⟨x, l, c, zs, hcs, _, hl, hm, hz, _, hcell, hwz⟩
  · simp [Value.cells] at hcs
    obtain ⟨rfl, rfl, rfl⟩ := hcs
    exact ⟨none, 0, 0, [], rfl, ⟨rfl, fun i hi => by omega, fun i => by simp⟩, by omega, by unfold maxLen; omega⟩
  · simp [Value.cells] at hcs
    obtain ⟨rfl, rfl, rfl⟩ := hcs
    have hz' : zs.length = cap0 := by simpa using hz
    refine ⟨some x, len0, cap0, zs.take len0, rfl, ⟨by rw [List.length_take]; omega, fun i hi => ?_, fun i => ?_⟩, hl, hm⟩
    · obtain ⟨b, off, spot⟩ := x
      have hc0 := hcell 0 (by omega)
      have hspot : spot = none := by simpa [Addr.add] using World.cell?_spot hc0
      subst hspot
      refine ⟨b, off, rfl, ?_⟩
      have hc := hcell i (by omega)
      have : W.cell? ⟨b, off + i, none⟩ = some (.int .u8 (zs.getD i 0)) := by
        by_cases h0 : i = 0
        · subst h0; simpa [Addr.add] using hc
        · simpa [Addr.add, h0] using hc
      rw [this]
      simp [hi]
    · by_cases hi : i < (zs.take len0).length
      · rw [List.getElem?_eq_getElem hi]
        have := hwz _ (List.mem_of_mem_take (List.getElem_mem hi))
        simpa [Lit.wf, IntKind.min, IntKind.max, IntKind.signed, IntKind.bits] using this
      · rw [List.getElem?_eq_none (by omega)]
        simp

theorem bytesD (S : ByteArray) : ∃ l : List UInt8, S = ⟨l.toArray⟩ ∧ l.length = S.size := ⟨S.data.toList, by cases S; simp, by cases S; simp [ByteArray.size]⟩
set_option maxHeartbeats 1600000 in
theorem dDsk (a : Option Addr) (n cap : Nat) (bs : List Int) (w : World) (h : BInts w a n bs) (hn : n ≤ cap) (hn1 : n ≤ 1048576) (hc : cap ≤ maxLen) :
    Calls Tryd.prog 5 #[.slice a n cap] w fun e w' => ∃ l : List UInt8, e = .returned (.string ⟨l.toArray⟩) ∧ Below w.heap.size w w' ∧ l.length ≤ 1000 := by
  go_enter Tryd.func5, Tryd.ntmps5
  go_wp2_with fail
  refine (open_any _ _ _ bs _ h hn hn1 hc).mono ?_
  rintro e w1 ⟨R, n', cap2, bs', rfl, b1, hR, r1⟩
  have hRl := r1.c.lt
  go_wp2_with fail
  refine (evline_f R a n' cap2 bs' 0 _ r1 (by omega) (by omega)).mono ?_
  rintro e w2 ⟨S, q, rfl, hS, t2, -, -, -⟩
  have BB : Below w.heap.size w w2 := b1.trans (t2.below (by have := b1.size; omega) (fun k hk => by omega))
  obtain ⟨l, rfl, hl⟩ := bytesD S
  go_wp2
  go_ret
  exact ⟨l, rfl, BB, by omega⟩
theorem wordsF_count : ∀ (t acc : List UInt8), (wordsF acc t).length = t.count 32 + 1
  | [], acc => by simp [wordsF]
  | b :: t, acc => by
    rw [wordsF]
    split
    · rename_i hb
      rw [List.length_cons, wordsF_count t []]
      subst hb
      simp
    · rename_i hb
      rw [wordsF_count t]
      have : b ≠ 32 := hb
      simp [this]
theorem ev_more (l : List UInt8) : evL (l ++ [32, 49, 32, 49, 32, 49, 32, 49, 32, 49, 32, 49]) = (0, 0, 0, [], false) := by
  cases h : lineN (l ++ [32, 49, 32, 49, 32, 49, 32, 49, 32, 49, 32, 49]) with
  | none => exact evL_none h
  | some zs =>
    rw [evL_some h]
    rw [lineN] at h
    split at h
    · have h1 := nmS_len h
      have h2 : (wordsOf (l ++ [32, 49, 32, 49, 32, 49, 32, 49, 32, 49, 32, 49])).length = (l ++ [32, 49, 32, 49, 32, 49, 32, 49, 32, 49, 32, 49]).count 32 + 1 := wordsF_count _ []
      have h3 : 6 ≤ (l ++ [32, 49, 32, 49, 32, 49, 32, 49, 32, 49, 32, 49]).count 32 := by
        rw [List.count_append]
        have : ([32, 49, 32, 49, 32, 49, 32, 49, 32, 49, 32, 49] : List UInt8).count 32 = 6 := by decide
        omega
      rw [List.length_drop] at h1
      have hz : 6 ≤ zs.length := by omega
      generalize (wordsOf (l ++ [32, 49, 32, 49, 32, 49, 32, 49, 32, 49, 32, 49])).headD [] = x
      have c1 : callL zs = noE := by rw [callL, if_neg (by omega)]
      have c2 : ∀ k t, bareL k t zs = noE := fun k t => by rw [bareL, if_neg (by omega)]
      have c3 : ∀ k, oneL k zs = noE := fun k => by rw [oneL, if_neg (by omega)]
      rw [evX]
      repeat' split
      all_goals first | exact c1 | exact c2 _ _ | exact c3 _ | rfl
    · cases h
theorem ev_fall : evL [102, 97, 108, 108, 32, 50] = (8, 2, 0, [], true) := by decide +kernel
theorem cat_ones (l : List UInt8) (hl : l.length ≤ 1000) (X : World) : (Op.stringOp .add ⟨l.toArray⟩ ⟨#[32, 49, 32, 49, 32, 49, 32, 49, 32, 49, 32, 49]⟩).run Tryd.prog X = .ok (.string ⟨(l ++ [32, 49, 32, 49, 32, 49, 32, 49, 32, 49, 32, 49]).toArray⟩) X := by
  rw [run_string_add_sum X _ _ (show (⟨l.toArray⟩ : ByteArray).size + _ ≤ maxLen by
    have : (⟨l.toArray⟩ : ByteArray).size = l.length := by simp [ByteArray.size]
    rw [this]
    show l.length + 12 ≤ maxLen
    unfold maxLen; omega)]
  rw [show (⟨#[32, 49, 32, 49, 32, 49, 32, 49, 32, 49, 32, 49]⟩ : ByteArray) = ⟨([32, 49, 32, 49, 32, 49, 32, 49, 32, 49, 32, 49] : List UInt8).toArray⟩ from rfl, cat_str]

set_option maxHeartbeats 6400000 in
theorem walk (w : World) (a : Option Addr) (n cap : Nat) (A0 : List Int) (hA0 : BInts w a n A0) (hn : n ≤ cap ∧ cap ≤ maxLen) (hA : ReadsN w) (hP : Splits w) (hU : CutsB w) (hT : Lib.TabBelow Tryd.prog w.heap.size w "internal/strconv.uint64pow10" .u64 Lib.pow10Tab) :
    Calls Tryd.prog 3 #[.slice a n cap] w fun e w' => e = .returned (.bool true) ∧ Below w.heap.size w w' := by
  obtain ⟨hn2, hn3⟩ := hn
  by_cases hn1 : n ≤ 1048576
  · have HTB : Hid _ := hT
    have HA : Hid _ := hA
    have HP : Hid _ := hP
    have HU : Hid _ := hU
    clear hT hA hP hU
    go_enter Tryd.func3, Tryd.ntmps3
    go_wp2_with fail
    refine (dDsk _ _ _ A0 _ hA0 hn2 hn1 hn3).mono ?_
    rintro ee w1 ⟨l, rfl, b1, hl⟩
    have BB := b1
    clear b1
    clear hA0
    obtain ⟨⟨k0, t0, c0, xs, ok⟩, hF⟩ : ∃ r, evL l = r := ⟨_, rfl⟩
    have HF : Hid (evL l = (k0, t0, c0, xs, ok)) := hF
    obtain ⟨m2, hm4⟩ : ∃ n, xs.length = n := ⟨_, rfl⟩
    have HM : Hid (xs.length = m2) := hm4
    have hm6 : m2 ≤ 2 := by rw [← hm4]; exact evL_small hF
    clear hF hm4
    obtain ⟨L, hL⟩ : ∃ L : ByteArray, L = ⟨l.toArray⟩ := ⟨_, rfl⟩
    have HL : Hid (L = ⟨l.toArray⟩) := hL
    have hl0 : l.length ≤ 1048576 := by omega
    rw [← hL]
    clear hL
    go_wp2_with fail
    rw [HL.out]
    refine (idsk_at HF.out HM.out _ hl0 (ReadsN.below HA.out BB) (splits_below HP.out BB) (CutsB.below HU.out BB) (fun X hX => HTB.out X (BB.trans (hX.mono BB.size)))).mono ?_
    rintro ee w2 ⟨a1, c1, B1, rfl, b4, o1, _⟩
    replace BB := BB.trans (b4.mono BB.size)
    clear b4
    have hg := o1.ints
    clear o1
    rw [← HL.out]
    have al := (Below.refl (w2).heap.size (w2)).alloc (Nat.le_refl _) (.cells #[.int .i64 k0, .int .i64 t0, .int .i64 c0, .slice a1 m2 c1] 26)
    replace BB := BB.trans (al.mono BB.size)
    replace hg := hg.below al
    clear al
    have q4 := Cel.new (w2) [.int .i64 k0, .int .i64 t0, .int .i64 c0, .slice a1 m2 c1] 26
    have g4_0 := q4.cell 0
    have g4_1 := q4.cell 1
    have g4_2 := q4.cell 2
    have g4_3 := q4.cell 3
    simp only [List.getElem?_cons_zero, List.getElem?_cons_succ] at g4_0 g4_1 g4_2 g4_3
    go_wp2_with fail
    obtain ⟨W3, hW3⟩ : ∃ W, W = (w2).alloc (.cells #[.int .i64 k0, .int .i64 t0, .int .i64 c0, .slice a1 m2 c1] 26) := ⟨_, rfl⟩
    rw [← hW3]
    rw [← hW3] at hg q4 BB g4_0 g4_1 g4_2 g4_3
    clear hW3
    obtain ⟨X4, hX4⟩ : ∃ x, x = w2.heap.size := ⟨_, rfl⟩
    rw [← hX4]
    rw [← hX4] at q4 g4_0 g4_1 g4_2 g4_3
    clear hX4
    rw [HL.out]
    refine (sdsk_at HF.out HM.out _).mono ?_
    rintro ee w4 ⟨a2, c2, rfl, b5, hw⟩
    clear g4_0 g4_1 g4_2 g4_3
    replace BB := BB.trans (b5.mono BB.size)
    replace hg := hg.below b5
    replace q4 := q4.below b5
    clear b5
    rw [← HL.out]
    have al := (Below.refl (w4).heap.size (w4)).alloc (Nat.le_refl _) (.cells #[.int .i64 k0, .int .i64 t0, .int .i64 c0, .slice a2 m2 c2] 26)
    replace BB := BB.trans (al.mono BB.size)
    replace hg := hg.below al
    replace hw := hw.below al
    replace q4 := q4.below al
    clear al
    have q6 := Cel.new (w4) [.int .i64 k0, .int .i64 t0, .int .i64 c0, .slice a2 m2 c2] 26
    have x1 : (ok != ok) = false := by cases ok <;> rfl
    have x2 : (k0 != k0) = false := by simp
    have x3 : (t0 != t0) = false := by simp
    have x4 : (c0 != c0) = false := by simp
    have g4_0 := q4.cell 0
    have g4_1 := q4.cell 1
    have g4_2 := q4.cell 2
    have g4_3 := q4.cell 3
    have g6_0 := q6.cell 0
    have g6_1 := q6.cell 1
    have g6_2 := q6.cell 2
    have g6_3 := q6.cell 3
    simp only [List.getElem?_cons_zero, List.getElem?_cons_succ] at g4_0 g4_1 g4_2 g4_3 g6_0 g6_1 g6_2 g6_3
    go_wp2_with fail
    obtain ⟨W5, hW5⟩ : ∃ W, W = (w4).alloc (.cells #[.int .i64 k0, .int .i64 t0, .int .i64 c0, .slice a2 m2 c2] 26) := ⟨_, rfl⟩
    rw [← hW5]
    rw [← hW5] at hg hw q4 q6 BB g4_0 g4_1 g4_2 g4_3 g6_0 g6_1 g6_2 g6_3
    clear hW5
    obtain ⟨X6, hX6⟩ : ∃ x, x = w4.heap.size := ⟨_, rfl⟩
    rw [← hX6]
    rw [← hX6] at q6 g6_0 g6_1 g6_2 g6_3
    clear hX6
    refine (coI_any _ _ _ _ _ _ xs xs _ hg hw (by omega) (by omega)).mono ?_
    rintro ee w6 ⟨rfl, b7⟩
    rw [eqB_refl]
    clear g4_0 g4_1 g4_2 g4_3 g6_0 g6_1 g6_2 g6_3
    replace BB := BB.trans (b7.mono BB.size)
    replace hg := hg.below b7
    replace hw := hw.below b7
    replace q4 := q4.below b7
    replace q6 := q6.below b7
    clear b7
    clear hg hw q6 q4 x1 x2 x3 x4
    have hcat : ∀ X : World, (Op.stringOp .add L ⟨#[32, 49, 32, 49, 32, 49, 32, 49, 32, 49, 32, 49]⟩).run Tryd.prog X = .ok (.string ⟨(l ++ [32, 49, 32, 49, 32, 49, 32, 49, 32, 49, 32, 49]).toArray⟩) X := fun X => by rw [HL.out]; exact cat_ones l hl X
    go_wp2_with fail
    refine (idsk_at (ev_more l) rfl _ (by rw [List.length_append]; simp only [List.length_cons, List.length_nil]; omega) (ReadsN.below HA.out BB) (splits_below HP.out BB) (CutsB.below HU.out BB) (fun X hX => HTB.out X (BB.trans (hX.mono BB.size)))).mono ?_
    rintro ee w7 ⟨a3, c3, B3, rfl, b8, _, _⟩
    replace BB := BB.trans (b8.mono BB.size)
    clear b8
    have al := (Below.refl (w7).heap.size (w7)).alloc (Nat.le_refl _) (.cells #[.int .i64 0, .int .i64 0, .int .i64 0, .slice a3 0 c3] 26)
    replace BB := BB.trans (al.mono BB.size)
    clear al
    have q8 := Cel.new (w7) [.int .i64 0, .int .i64 0, .int .i64 0, .slice a3 0 c3] 26
    have g8_0 := q8.cell 0
    have g8_1 := q8.cell 1
    have g8_2 := q8.cell 2
    have g8_3 := q8.cell 3
    simp only [List.getElem?_cons_zero, List.getElem?_cons_succ] at g8_0 g8_1 g8_2 g8_3
    go_wp2_with fail
    obtain ⟨W8, hW8⟩ : ∃ W, W = (w7).alloc (.cells #[.int .i64 0, .int .i64 0, .int .i64 0, .slice a3 0 c3] 26) := ⟨_, rfl⟩
    rw [← hW8]
    rw [← hW8] at q8 BB g8_0 g8_1 g8_2 g8_3
    clear hW8
    obtain ⟨X8, hX8⟩ : ∃ x, x = w7.heap.size := ⟨_, rfl⟩
    rw [← hX8]
    rw [← hX8] at q8 g8_0 g8_1 g8_2 g8_3
    clear hX8
    rw [show (⟨#[102, 97, 108, 108, 32, 50]⟩ : ByteArray) = ⟨([102, 97, 108, 108, 32, 50] : List UInt8).toArray⟩ from rfl]
    refine (idsk_at ev_fall rfl _ (by decide) (ReadsN.below HA.out BB) (splits_below HP.out BB) (CutsB.below HU.out BB) (fun X hX => HTB.out X (BB.trans (hX.mono BB.size)))).mono ?_
    rintro ee w9 ⟨a4, c4, B4, rfl, b9, _, _⟩
    clear g8_0 g8_1 g8_2 g8_3
    replace BB := BB.trans (b9.mono BB.size)
    replace q8 := q8.below b9
    clear b9
    have al := (Below.refl (w9).heap.size (w9)).alloc (Nat.le_refl _) (.cells #[.int .i64 8, .int .i64 2, .int .i64 0, .slice a4 0 c4] 26)
    replace BB := BB.trans (al.mono BB.size)
    replace q8 := q8.below al
    clear al
    have q10 := Cel.new (w9) [.int .i64 8, .int .i64 2, .int .i64 0, .slice a4 0 c4] 26
    have g8_0 := q8.cell 0
    have g8_1 := q8.cell 1
    have g8_2 := q8.cell 2
    have g8_3 := q8.cell 3
    have g10_0 := q10.cell 0
    have g10_1 := q10.cell 1
    have g10_2 := q10.cell 2
    have g10_3 := q10.cell 3
    simp only [List.getElem?_cons_zero, List.getElem?_cons_succ] at g8_0 g8_1 g8_2 g8_3 g10_0 g10_1 g10_2 g10_3
    go_wp2
    go_ret
    exact ⟨rfl, BB⟩
  · go_enter Tryd.func3, Tryd.ntmps3
    go_wp2
    go_ret
    exact ⟨rfl, Below.refl _ _⟩

/-! ### The row's step -/
theorem star : "*" ++ "errors.errorString" = "*errors.errorString" := by decide
theorem rowErr (u : TypeId) (h : Tryd.prog.typeName? 3 u = some "*errors.errorString") : u = 116 :=
  typeName_ptr_named (nm := "errors.errorString") (by rw [star]; kernel_rfl) (by kernel_rfl) (by decide) u (by rw [star]; exact h)
theorem tab_of {W : World} (h : laidMetH Tryd.prog Rows.fnDskEventRow.laid W) : Lib.TabIs Tryd.prog W "internal/strconv.uint64pow10" .u64 Lib.pow10Tab := by
  rw [MakeChecks.laidMetH_plain _ _ _ (by kernel_rfl)] at h
  have h2 : laidMet Tryd.prog (("internal/strconv.uint64pow10", Lib.tabData .u64 Lib.pow10Tab) :: Rows.fnDskEventRow.laid.tail.tail.tail) W := h.tail.tail
  exact Lib.tabIs_of_head (g := 5) (t := 120) (e := 97) (n := 20) (by kernel_rfl) (by kernel_rfl) Tryd.underlying120 Tryd.underlying97 (by kernel_rfl) (by kernel_rfl) h2
theorem reads_laid {W : World} (h : laidMetH Tryd.prog Rows.fnDskEventRow.laid W) : ReadsN W := by
  rw [MakeChecks.laidMetH_plain _ _ _ (by kernel_rfl)] at h
  have hR := h.tail.tail.tail.tail
  obtain ⟨a1, s1, hv1, -, -, -⟩ := laid_sentinel hR (g := 2) (by kernel_rfl) (by kernel_rfl) Tryd.underlying68 rowErr Tryd.underlying116 Tryd.underlying118 rfl rfl Tryd.underlying9 (by kernel_rfl) (by kernel_rfl)
  obtain ⟨a0, s0, hv0, -, -, -⟩ := laid_sentinel hR.tail (g := 1) (by kernel_rfl) (by kernel_rfl) Tryd.underlying68 rowErr Tryd.underlying116 Tryd.underlying118 rfl rfl Tryd.underlying9 (by kernel_rfl) (by kernel_rfl)
  exact reads_of W _ _ _ _ hv0 hv1

set_option maxRecDepth 100000 in
theorem step {H : Type} {enc : TypeId × Value → H} (W : World) (base : Nat) (args : Array Value) (ds gs : List (DataW H)) (before : List MemPlace)
    (hval0 : ∀ (j : Nat) t v, Tryd.f3.params[j]? = some t → args[j]? = some v → Value.okWide Tryd.prog W .any base t v)
    (hW : DataW.Whole enc Tryd.prog Tryd.f3.params.toList Rows.fnDskEventSpec.vars false W args.toList ds gs before)
    (hL : laidMetH Tryd.prog Rows.fnDskEventRow.laid W) (hsh : W.ShapedOpen Tryd.prog) :
    Calls Tryd.prog 3 args W fun e W' => ∃ v, e = .returned v ∧ Rows.fnDskEventSpec.post enc Tryd.prog Tryd.f3 false true false false W args v W' := by
  have hval : ∀ (j : Nat) t v, Tryd.f3.params[j]? = some t → args[j]? = some v → Value.okWide Tryd.prog W .any base t v := hval0
  have hW' := hW
  obtain ⟨p, q, hA0, hV, rfl, hfz, hnd⟩ := hW
  have hA : DataW.TrodAll enc Tryd.prog W 0 (fun _ => true) true Tryd.f3.params.toList args.toList ds p := hA0
  rw [Tryd.params3] at hA hval
  obtain ⟨v0, vs0, d0, ds0, p0, q0, hargs, rfl, rfl, h0, r0⟩ := trodAll_cons hA
  obtain ⟨rfl, rfl, rfl⟩ := trodAll_nil r0
  obtain rfl : args = #[v0] := by cases args; simp_all
  obtain ⟨rfl, rfl⟩ := trodVars_none hV
  have k0 := h0
  have lt0 : ∀ x ∈ p0, x.block < W.heap.size := by obtain ⟨m, hm⟩ := k0; exact DataW.trod_lt m _ _ _ hm
  obtain ⟨a0, n0, cap0, C0, rfl, hC0, hn0⟩ := open_bytesT (hval 0 22 v0 rfl rfl) h0
  obtain ⟨m, hm⟩ := Tryd.laysM146.s1_3 W hsh
  clear hA0 hval0
  refine (walk W a0 n0 cap0 C0 hC0 hn0 (reads_laid hL) (splits_of W m hm) (cutsB_of W m hm) (Lib.tabBelow_of_tabIs (tab_of hL))).mono fun e W' ⟨he, bel⟩ => ?_
  subst he
  exact ⟨_, rfl, _, _, _, [], _, [], hW', trodAll_mk1 (shut_bool Tryd.underlying4 _), (trodAll_cons_mk (Below.trod laidOut (by kernel_rfl) (of_decide_eq_true (by kernel_rfl)) k0 bel lt0) trodAll_mk0), rfl, bel.frame _, fun h => by cases h⟩

set_option maxRecDepth 100000 in
theorem lifted (os : Os) (started : os.Started) (H : Type) (enc : TypeId × Value → H) :
    ReturnsInHanded {} Tryd.checked os 3 .any (fun w args => (Rows.fnDskEventSpec.pre enc Tryd.prog Tryd.f3 Rows.fnDskEventRow.domain false w args ∧ laidMetH Tryd.prog Rows.fnDskEventRow.laid w) ∧ sizedMet enc Tryd.prog Tryd.f3 (OpenSpec.ofChange Rows.fnDskEventSpec) false w args) (Rows.fnDskEventSpec.post enc Tryd.prog Tryd.f3 false true false false) := by
  refine returnsInHanded_of_calls own started (by kernel_rfl)
    (ChangeSpec.witness_shaped (enc := enc) (C := Tryd.checked) (os := os) (X := fun w _ => laidMetH Tryd.prog Rows.fnDskEventRow.laid w) false (World.laidAll Tryd.prog os Rows.fnDskEventRow.laid) #[.slice none 0 0] 8 (World.laidAll_os _ _ _)
      (World.shaped_of_ZipB (by kernel_rfl) (by kernel_rfl)) (by kernel_rfl) (by kernel_rfl) (by kernel_rfl)
      (by rw [MakeChecks.laidMetH_plain _ _ _ (by kernel_rfl)]; exact laidMet_laidAll _ (by kernel_rfl) (by kernel_rfl))) ?_
  intro w0 tape i _ hsh _ hok hpre _
  obtain ⟨_, _, _, fn', hfn', _, _, _, _, hval⟩ := hok
  obtain rfl : fn' = Tryd.f3 := Option.some.inj (hfn'.symm.trans Tryd.func3)
  obtain ⟨⟨⟨ds, gs, before, hw, -⟩, hx⟩, -⟩ := hpre
  have hL : laidMetH Tryd.prog Rows.fnDskEventRow.laid (w0.forCall tape i) := hx.of_heap (by rfl)
  refine (step (w0.forCall tape i) w0.heap.size i.args ds gs before hval (DataW.Whole.of_heap (w' := w0.forCall tape i) (by rfl) hw) hL hsh).mono ?_
  rintro e W' ⟨v, rfl, hp⟩
  exact ChangeSpec.post_blind hp

theorem over : Rows.fnDskEventRow.holds Tryd.pinned (OpenSpec.ofChange Rows.fnDskEventSpec) :=
  OpenClaim.holds_of_wide 3 Tryd.f3 rfl rfl rfl rfl rfl rfl rfl ⟨rfl, rfl, rfl, rfl, rfl⟩ rfl rfl rfl rfl rfl (by kernel_rfl) Tryd.func3 (by kernel_rfl)
    (of_decide_eq_true (by kernel_rfl)) (by unfold Func.isWrapper; first | (rw [if_pos (by decide +kernel)]; kernel_rfl) | (rw [if_neg (by decide +kernel)]; exact ⟨rfl, rfl⟩))
    (fun os started H enc _ => lifted os started H enc)

end Go.Proofs.YtmdjcfplhmkocaaDoor.fnDskEvent
namespace Go.Proofs.YtmdjcfplhmkocaaDoor
/-- The statement. -/
theorem fnDskEvent_holds : Rows.FnDskEventCardSaid :=
  Claim7.holds_tied_plain_at .later [] [.data, .data, .data, .data, .sentinel, .sentinel, .pinned] true Rows.fnDskEventCard.stood.harness Rows.fnDskEventCard.stood.looks fnDskEvent.over (fun _ h => by cases h) (by kernel_rfl) (fun _ h => by cases h) fnDskEvent_row_tie rfl ⟨rfl, rfl⟩ (by kernel_rfl) rfl
    (fun f fn hf hfn => by
      obtain rfl : f = 3 := Option.some.inj ((show Tryd.prog.funcNamed Rows.fnDskEventRow.func = some 3 by kernel_rfl).symm.trans hf) |>.symm
      obtain rfl : fn = Tryd.f3 := (Option.some.inj (Tryd.func3.symm.trans hfn)).symm
      exact ⟨by kernel_rfl, fun j t ht => by
        rw [Tryd.params3] at ht
        have hm : t ∈ [22] := by simpa using Array.mem_of_getElem? ht
        have hall : ([22].all fun u => !Tryd.prog.wantsStandIn u) = true := by kernel_rfl
        exact (show Tryd.prog.wantsStandIn t = false by simpa using List.all_eq_true.1 hall t hm)⟩)
    (by kernel_rfl)
#print axioms fnDskEvent_holds
end Go.Proofs.YtmdjcfplhmkocaaDoor
