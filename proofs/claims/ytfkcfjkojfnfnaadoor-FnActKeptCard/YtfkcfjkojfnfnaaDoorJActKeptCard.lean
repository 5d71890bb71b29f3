/-
  For all bytes FnActKept returns true, and what came in reads behind the call as it did. The library's tables that are listed are as its text lays them; no other condition. (what does not come to its end turns nothing)
-/
import Derived.Test.YtfkcfjkojfnfnaaDoorRunE
import Derived.Test.YtfkcfjkojfnfnaaDoorJActKeptCardA
import Derived.Test.YtfkcfjkojfnfnaaDoorOpen
import Derived.Test.YtfkcfjkojfnfnaaDoorTie
import Derived.Test.YtfkcfjkojfnfnaaDoorCards
import Derived.Stop.LaidErr
import Derived.Lib.LaidTab
import Derived.LaidMore
import Derived.Lay
import Derived.SevenTiedAt
import Derived.Stop.Joined
namespace Go.Proofs.YtfkcfjkojfnfnaaDoor.fnActKept
open Go.ChangeShapes Go.WideShapes Go.ChangeAt Go.RowKit
set_option linter.unusedVariables false
set_option maxRecDepth 100000

theorem open_bytesT {H : Type} {enc : TypeId × Value → H} {W : World} {r : Reach} {b0 : Nat} {v : Value} {d : DataW H} {p : List MemPlace}
    (hv : Value.okWide Tryd.prog W r b0 22 v) (h : DataW.Trod enc Tryd.prog W 0 (fun _ => true) true 22 v d p) : ∃ a n cap zs, v = .slice a n cap ∧ BInts W a n zs ∧ (n ≤ cap ∧ cap ≤ maxLen) := by
  obtain ⟨a0, len0, cap0, rfl⟩ := okWide_slice Tryd.underlying22 hv
  obtain ⟨fuel, hf⟩ := h
  rcases open_ints Tryd.underlying22 Tryd.underlying5 (by kernel_rfl) hf with ⟨hcs, _⟩ | ⟨x, l, c, zs, hcs, _, hl, hm, hz, _, hcell, hwz⟩
  · simp [Value.cells] at hcs
    obtain ⟨rfl, rfl, rfl⟩ := hcs
    exact ⟨none, 0, 0, [], rfl, ⟨rfl, fun i hi => by omega, fun i => by simp⟩, by omega, by unfold maxLen; omega⟩
  · simp [Value.cells] at hcs
    obtain ⟨rfl, rfl, rfl⟩ := hcs
    have hz' : zs.length = cap0 := by simpa using hz
    refine ⟨some x, len0, cap0, zs.take len0, rfl, ⟨by rw [List.length_take]; omega, fun i hi => ?_, fun i => ?_⟩, hl, hm⟩
    · obtain ⟨b, off, spot⟩ := x
      have hc0 := hcell 0 (by omega)
      have hspot : spot = none := by simpa [Addr.add] using World.cell?_spot hc0
      subst hspot
      refine ⟨b, off, rfl, ?_⟩
      have hc := hcell i (by omega)
      have : W.cell? ⟨b, off + i, none⟩ = some (.int .u8 (zs.getD i 0)) := by
        by_cases h0 : i = 0
        · subst h0; simpa [Addr.add] using hc
        · simpa [Addr.add, h0] using hc
      rw [this]
      simp [hi]
    · by_cases hi : i < (zs.take len0).length
      · rw [List.getElem?_eq_getElem hi]
        have := hwz _ (List.mem_of_mem_take (List.getElem_mem hi))
        simpa [Lit.wf, IntKind.min, IntKind.max, IntKind.signed, IntKind.bits] using this
      · rw [List.getElem?_eq_none (by omega)]
        simp

theorem full_yes {c : Int} {n : Nat} {zs : List Int} (h : resOkB c n zs = true) : fullB (resText c n zs) = true := by
  have hc : inB c 1 3 = true := by
    simp only [resOkB, Bool.and_eq_true] at h
    exact h.1
  have hc := inB_iff.1 hc
  rw [resText_yes h, fullB]
  have hw : ∃ x xs, wordL c = x :: xs := by
    unfold wordL
    by_cases h1 : c = 1
    · exact ⟨_, _, by rw [if_pos h1]⟩
    · rw [if_neg h1]
      by_cases h2 : c = 2
      · exact ⟨_, _, by rw [if_pos h2]⟩
      · rw [if_neg h2, if_pos (by omega)]
        exact ⟨_, _, rfl⟩
  obtain ⟨x, xs, e⟩ := hw
  rw [e]
  simp [ByteArray.toList_mk]
theorem left_ok {c : Int} {tl pl V : List Int} {n : Nat} (h : RunLeft c tl pl V) (hn : tl.length = n) : resOkB c n tl = true := by
  subst hn
  have h1 : inB c 1 3 = true := inB_iff.2 h.hc
  have h2 : c = 1 ∨ tl.length = 0 := by
    by_cases e : c = 1
    · exact .inl e
    · right; rw [(h.hv e).2]; rfl
  have h3 := h.hn
  simp only [resOkB, h1, h.ht, Bool.true_and, Bool.and_true, Bool.and_eq_true, decide_eq_true_eq]
  exact ⟨h2, h3⟩

set_option maxHeartbeats 6400000 in
theorem walk (w : World) (a : Option Addr) (n cap : Nat) (A0 : List Int) (hA0 : BInts w a n A0) (hn : n ≤ cap ∧ cap ≤ maxLen) (hT : Lib.TabBelow Tryd.prog w.heap.size w "internal/strconv.uint64pow10" .u64 Lib.pow10Tab) :
    Calls Tryd.prog 5 #[.slice a n cap] w fun e w' => e = .returned (.bool true) ∧ Below w.heap.size w w' := by
  obtain ⟨hn2, hn3⟩ := hn
  by_cases hn1 : n ≤ 1048576
  · have HTB : Hid _ := hT
    clear hT
    go_enter Tryd.func5, Tryd.ntmps5
    go_wp2_with fail
    refine (dRun _ _ _ A0 _ hA0 hn2 hn1 hn3).mono ?_
    rintro ee w1 ⟨ad, N, c, ls, va, p, cv, V, ua, q, cu, A, base, rfl, b1, hG, hN, hN8, _, hV, hA, hp, hq⟩
    have BB := b1
    clear b1
    have HN : Hid (ls.length = N) := hN
    clear hN
    go_wp2_with fail
    refine (pRun _ _ _ ls _ _ _ V _ _ _ A _ HN.out hG (by omega) hV hA (by omega) (by omega)).mono ?_
    rintro ee w2 ⟨a1, n1, c1, a2, n2, c2, rfl, htl, hpt, b5⟩
    replace BB := BB.trans (b5.mono BB.size)
    replace hG := hG.below b5
    replace hV := hV.below b5
    replace hA := hA.below b5
    clear b5
    obtain ⟨RC, hRC⟩ : ∃ x, runCode N ls p V q A = x := ⟨_, rfl⟩
    have HRC : Hid (runCode N ls p V q A = RC) := hRC
    rw [hRC]
    clear hRC
    obtain ⟨TL, hTL⟩ : ∃ x, runTells N ls p V q A = x := ⟨_, rfl⟩
    have HTL : Hid (runTells N ls p V q A = TL) := hTL
    rw [hTL] at htl
    clear hTL
    obtain ⟨PX, hPX⟩ : ∃ x, runPots N ls p V q A = x := ⟨_, rfl⟩
    have HPX : Hid (runPots N ls p V q A = PX) := hPX
    rw [hPX] at hpt
    clear hPX
    have n1b : n1 ≤ 1048576 := by rw [← htl.1, ← HTL.out]; have := runTells_le N ls p V q A; omega
    have n2b : n2 ≤ 1048576 := by rw [← hpt.1, ← HPX.out]; have := runPots_le N ls p V q A; have := hV.1; omega
    have al := (Below.refl (w2).heap.size (w2)).alloc (Nat.le_refl _) (.cells #[.int .i64 RC, .slice a1 n1 c1] 36)
    replace BB := BB.trans (al.mono BB.size)
    replace hG := hG.below al
    replace hV := hV.below al
    replace hA := hA.below al
    replace htl := htl.below al
    replace hpt := hpt.below al
    clear al
    have q6 := Cel.new (w2) [.int .i64 RC, .slice a1 n1 c1] 36
    have g6_0 := q6.cell 0
    have g6_1 := q6.cell 1
    simp only [List.getElem?_cons_zero, List.getElem?_cons_succ] at g6_0 g6_1
    go_wp2_with fail
    obtain ⟨W3, hW3⟩ : ∃ W, W = (w2).alloc (.cells #[.int .i64 RC, .slice a1 n1 c1] 36) := ⟨_, rfl⟩
    rw [← hW3]
    rw [← hW3] at hG hV hA htl hpt q6 BB g6_0 g6_1
    clear hW3
    obtain ⟨X6, hX6⟩ : ∃ x, x = w2.heap.size := ⟨_, rfl⟩
    rw [← hX6]
    rw [← hX6] at q6 g6_0 g6_1
    clear hX6
    refine (qRun _ _ _ ls _ _ _ V _ _ _ A _ HN.out hG (by omega) hV hA (by omega) (by omega)).mono ?_
    rintro ee w4 ⟨a3, n3, c3, a4, n4, c4, rfl, hul, hqt, b6⟩
    clear g6_0 g6_1
    replace BB := BB.trans (b6.mono BB.size)
    replace hG := hG.below b6
    replace hV := hV.below b6
    replace hA := hA.below b6
    replace htl := htl.below b6
    replace hpt := hpt.below b6
    replace q6 := q6.below b6
    clear b6
    rw [HRC.out]
    rw [HTL.out] at hul
    rw [HPX.out] at hqt
    obtain rfl : n3 = n1 := by rw [← hul.1, ← htl.1]
    obtain rfl : n4 = n2 := by rw [← hqt.1, ← hpt.1]
    have al := (Below.refl (w4).heap.size (w4)).alloc (Nat.le_refl _) (.cells #[.int .i64 RC, .slice a3 n3 c3] 36)
    replace BB := BB.trans (al.mono BB.size)
    replace hG := hG.below al
    replace hV := hV.below al
    replace hA := hA.below al
    replace htl := htl.below al
    replace hpt := hpt.below al
    replace hul := hul.below al
    replace hqt := hqt.below al
    replace q6 := q6.below al
    clear al
    have q8 := Cel.new (w4) [.int .i64 RC, .slice a3 n3 c3] 36
    have g6_0 := q6.cell 0
    have g6_1 := q6.cell 1
    have g8_0 := q8.cell 0
    have g8_1 := q8.cell 1
    simp only [List.getElem?_cons_zero, List.getElem?_cons_succ] at g6_0 g6_1 g8_0 g8_1
    go_wp2_with fail
    obtain ⟨W5, hW5⟩ : ∃ W, W = (w4).alloc (.cells #[.int .i64 RC, .slice a3 n3 c3] 36) := ⟨_, rfl⟩
    rw [← hW5]
    rw [← hW5] at hG hV hA htl hpt hul hqt q6 q8 BB g6_0 g6_1 g8_0 g8_1
    clear hW5
    obtain ⟨X8, hX8⟩ : ∃ x, x = w4.heap.size := ⟨_, rfl⟩
    rw [← hX8]
    rw [← hX8] at q8 g8_0 g8_1
    clear hX8
    refine (coR_any RC RC _ _ _ _ _ _ TL TL _ htl hul n1b n1b).mono ?_
    rintro ee w6 ⟨rfl, bw⟩
    rw [coRB_same]
    clear g6_0 g6_1 g8_0 g8_1
    replace BB := BB.trans (bw.mono BB.size)
    replace hG := hG.below bw
    replace hV := hV.below bw
    replace hA := hA.below bw
    replace htl := htl.below bw
    replace hpt := hpt.below bw
    replace hul := hul.below bw
    replace hqt := hqt.below bw
    replace q6 := q6.below bw
    replace q8 := q8.below bw
    clear bw
    have g6_0 := q6.cell 0
    have g6_1 := q6.cell 1
    have g8_0 := q8.cell 0
    have g8_1 := q8.cell 1
    simp only [List.getElem?_cons_zero, List.getElem?_cons_succ] at g6_0 g6_1 g8_0 g8_1
    go_wp2_with fail
    refine (coI_any _ _ _ _ _ _ PX PX _ hpt hqt n2b n2b).mono ?_
    rintro ee w7 ⟨rfl, bv⟩
    rw [eqB_refl]
    clear g6_0 g6_1 g8_0 g8_1
    replace BB := BB.trans (bv.mono BB.size)
    replace hG := hG.below bv
    replace hV := hV.below bv
    replace hA := hA.below bv
    replace htl := htl.below bv
    replace hpt := hpt.below bv
    replace hul := hul.below bv
    replace hqt := hqt.below bv
    replace q6 := q6.below bv
    replace q8 := q8.below bv
    clear bv
    clear hul hqt q8
    have g6_0 := q6.cell 0
    have g6_1 := q6.cell 1
    simp only [List.getElem?_cons_zero, List.getElem?_cons_succ] at g6_0 g6_1
    go_wp2_with fail
    refine (sact_any _ _ _ ls _ HN.out hG (by omega)).mono ?_
    rintro ee w8 ⟨rfl, b5⟩
    clear g6_0 g6_1
    replace BB := BB.trans (b5.mono BB.size)
    replace hG := hG.below b5
    replace hV := hV.below b5
    replace hA := hA.below b5
    replace htl := htl.below b5
    replace hpt := hpt.below b5
    replace q6 := q6.below b5
    clear b5
    cases hB : actB N ls
    · have hno : runB N ls p V q A = false := by (simp only [runB, hB, Bool.false_and])
      obtain ⟨z1, z2, z3⟩ := run_no hno
      obtain rfl : RC = 0 := by rw [← HRC.out, z1]
      obtain rfl : n4 = 0 := by rw [← hpt.1, ← HPX.out, z3]; rfl
      clear hno z1 z2 z3
      have g6_0 := q6.cell 0
      have g6_1 := q6.cell 1
      simp only [List.getElem?_cons_zero, List.getElem?_cons_succ] at g6_0 g6_1
      go_wp2_with fail
      refine (coHolds_any _).mono ?_
      rintro ee w9 ⟨rfl, bh⟩
      clear g6_0 g6_1
      replace BB := BB.trans (bh.mono BB.size)
      replace hG := hG.below bh
      replace hV := hV.below bh
      replace hA := hA.below bh
      replace htl := htl.below bh
      replace hpt := hpt.below bh
      replace q6 := q6.below bh
      clear bh
      go_wp2
      go_ret
      exact ⟨rfl, BB⟩
    · have HB : Hid (actB N ls = true) := hB
      clear hB
      have g6_0 := q6.cell 0
      have g6_1 := q6.cell 1
      simp only [List.getElem?_cons_zero, List.getElem?_cons_succ] at g6_0 g6_1
      go_wp2_with fail
      refine (sval_any _ _ _ V _ hV (by omega)).mono ?_
      rintro ee v9 ⟨rfl, rfl⟩
      cases hv : okN 3 10000 p V
      · have hno : runB N ls p V q A = false := by (simp only [runB, hv, Bool.and_false, Bool.false_and])
        obtain ⟨z1, z2, z3⟩ := run_no hno
        obtain rfl : RC = 0 := by rw [← HRC.out, z1]
        obtain rfl : n4 = 0 := by rw [← hpt.1, ← HPX.out, z3]; rfl
        clear hno z1 z2 z3
        go_wp2_with fail
        refine (coHolds_any _).mono ?_
        rintro ee w10 ⟨rfl, bh⟩
        clear g6_0 g6_1
        replace BB := BB.trans (bh.mono BB.size)
        replace hG := hG.below bh
        replace hV := hV.below bh
        replace hA := hA.below bh
        replace htl := htl.below bh
        replace hpt := hpt.below bh
        replace q6 := q6.below bh
        clear bh
        go_wp2
        go_ret
        exact ⟨rfl, BB⟩
      · have HV : Hid (okN 3 10000 p V = true) := hv
        clear hv
        go_wp2_with fail
        refine (sarg_any _ _ _ A _ hA (by omega)).mono ?_
        rintro ee v10 ⟨rfl, rfl⟩
        cases hg : okN 2 9 q A
        · have hno : runB N ls p V q A = false := by (simp only [runB, hg, Bool.and_false])
          obtain ⟨z1, z2, z3⟩ := run_no hno
          obtain rfl : RC = 0 := by rw [← HRC.out, z1]
          obtain rfl : n4 = 0 := by rw [← hpt.1, ← HPX.out, z3]; rfl
          clear hno z1 z2 z3
          go_wp2_with fail
          refine (coHolds_any _).mono ?_
          rintro ee w11 ⟨rfl, bh⟩
          clear g6_0 g6_1
          replace BB := BB.trans (bh.mono BB.size)
          replace hG := hG.below bh
          replace hV := hV.below bh
          replace hA := hA.below bh
          replace htl := htl.below bh
          replace hpt := hpt.below bh
          replace q6 := q6.below bh
          clear bh
          go_wp2
          go_ret
          exact ⟨rfl, BB⟩
        · have HR : Hid (runB N ls p V q A = true) := by (show _ = _; simp only [runB, HB.out, HV.out, hg, Bool.and_self])
          obtain rfl : p = 3 := (runB_threeE HR.out).1
          have LF : Hid (RunLeft RC TL PX V) := by (have h := run_left HN.out HR.out hV.1 hA.1; rw [HRC.out, HTL.out, HPX.out] at h; exact h)
          have hp3 : n4 = 3 := by rw [← hpt.1, ← HPX.out]; exact pots_threeE HR.out hV.1
          subst hp3
          clear hg HR HV HB HRC HTL HPX
          go_wp2_with fail
          refine (ival_any _ _ _ PX _ hpt (by omega)).mono ?_
          rintro ee v11 ⟨rfl, rfl⟩
          rw [LF.out.hp]
          by_cases hc : RC = 1
          · have e1 : (RC == 1) = true := by rw [hc]; rfl
            clear hc
            have hFL : fullB (resText RC n3 TL) = true := full_yes (left_ok LF.out htl.1)
            go_wp2_with fail
            refine (iresok_any RC _ _ _ TL _ htl n1b (fun X hX => HTB.out X (BB.trans (hX.mono BB.size)))).mono ?_
            rintro ee w12 ⟨rfl, br⟩
            rw [hFL]
            clear g6_0 g6_1
            replace BB := BB.trans (br.mono BB.size)
            replace hG := hG.below br
            replace hV := hV.below br
            replace hA := hA.below br
            replace htl := htl.below br
            replace hpt := hpt.below br
            replace q6 := q6.below br
            clear br
            clear hG hV hA htl hpt q6 LF
            go_wp2
            go_ret
            exact ⟨rfl, BB⟩
          · have e1 : (RC == 1) = false := by simpa using hc
            obtain ⟨rfl, rfl⟩ := LF.out.hv hc
            obtain rfl : n3 = 0 := htl.1.symm
            clear hc
            go_wp2_with fail
            refine (coI_any _ _ _ _ _ _ PX PX _ hpt hV n2b (by omega)).mono ?_
            rintro ee w12 ⟨rfl, bv⟩
            rw [eqB_refl]
            clear g6_0 g6_1
            replace BB := BB.trans (bv.mono BB.size)
            replace hG := hG.below bv
            replace hV := hV.below bv
            replace hA := hA.below bv
            replace htl := htl.below bv
            replace hpt := hpt.below bv
            replace q6 := q6.below bv
            clear bv
            have hFL : fullB (resText RC 0 []) = true := full_yes (left_ok LF.out rfl)
            have g6_0 := q6.cell 0
            have g6_1 := q6.cell 1
            simp only [List.getElem?_cons_zero, List.getElem?_cons_succ] at g6_0 g6_1
            go_wp2_with fail
            refine (iresok_any RC _ _ _ [] _ htl n1b (fun X hX => HTB.out X (BB.trans (hX.mono BB.size)))).mono ?_
            rintro ee w13 ⟨rfl, br⟩
            rw [hFL]
            clear g6_0 g6_1
            replace BB := BB.trans (br.mono BB.size)
            replace hG := hG.below br
            replace hV := hV.below br
            replace hA := hA.below br
            replace htl := htl.below br
            replace hpt := hpt.below br
            replace q6 := q6.below br
            clear br
            clear hG hV hA htl hpt q6 LF
            go_wp2
            go_ret
            exact ⟨rfl, BB⟩
  · go_enter Tryd.func5, Tryd.ntmps5
    go_wp2
    go_ret
    exact ⟨rfl, Below.refl _ _⟩

/-! ### The row's step -/
theorem tab_of {W : World} (h : laidMetH Tryd.prog Rows.fnActKeptRow.laid W) : Lib.TabIs Tryd.prog W "internal/strconv.uint64pow10" .u64 Lib.pow10Tab := by
  rw [MakeChecks.laidMetH_plain _ _ _ (by kernel_rfl)] at h
  have h2 : laidMet Tryd.prog [("internal/strconv.uint64pow10", Lib.tabData .u64 Lib.pow10Tab)] W := h.tail.tail
  exact Lib.tabIs_of_head (g := 3) (t := 184) (e := 171) (n := 20) (by kernel_rfl) (by kernel_rfl) Tryd.underlying184 Tryd.underlying171 (by kernel_rfl) (by kernel_rfl) h2

set_option maxRecDepth 100000 in
theorem lifted (os : Os) (started : os.Started) (H : Type) (enc : TypeId × Value → H) :
    ReturnsInHanded {} Tryd.checked os 5 .any (fun w args => (Rows.fnActKeptSpec.pre enc Tryd.prog Tryd.f5 Rows.fnActKeptRow.domain false w args ∧ laidMetH Tryd.prog Rows.fnActKeptRow.laid w) ∧ sizedMet enc Tryd.prog Tryd.f5 (OpenSpec.ofChange Rows.fnActKeptSpec) false w args) (Rows.fnActKeptSpec.post enc Tryd.prog Tryd.f5 false true false false) := by
  refine returnsInHanded_of_change_and (C := Tryd.checked) (X := fun w _ => laidMetH Tryd.prog Rows.fnActKeptRow.laid w) (fun _ _ _ hh h => h.of_heap hh) own started (by kernel_rfl) Tryd.func5
    (ChangeSpec.witness_shaped (enc := enc) (C := Tryd.checked) (os := os) (X := fun w _ => laidMetH Tryd.prog Rows.fnActKeptRow.laid w) false (World.laidAll Tryd.prog os Rows.fnActKeptRow.laid) #[.slice none 0 0] 8 (World.laidAll_os _ _ _)
      (World.shaped_of_ZipB (by kernel_rfl) (by kernel_rfl)) (by kernel_rfl) (by kernel_rfl) (by kernel_rfl)
      (by rw [MakeChecks.laidMetH_plain _ _ _ (by kernel_rfl)]; exact laidMet_laidAll _ (by kernel_rfl) (by kernel_rfl))) ?_
  intro W base args ds gs before hval0 hW hcnd _ hL _
  have hval : ∀ (j : Nat) t v, Tryd.f5.params[j]? = some t → args[j]? = some v → Value.okWide Tryd.prog W .any base t v := hval0
  have hW' := hW
  obtain ⟨p, q, hA0, hV, rfl, hfz, hnd⟩ := hW
  have hA : DataW.TrodAll enc Tryd.prog W 0 (fun _ => true) true Tryd.f5.params.toList args.toList ds p := hA0
  rw [Tryd.params5] at hA hval
  obtain ⟨v0, vs0, d0, ds0, p0, q0, hargs, rfl, rfl, h0, r0⟩ := trodAll_cons hA
  obtain ⟨rfl, rfl, rfl⟩ := trodAll_nil r0
  obtain rfl : args = #[v0] := by cases args; simp_all
  obtain ⟨rfl, rfl⟩ := trodVars_none hV
  have k0 := h0
  have lt0 : ∀ x ∈ p0, x.block < W.heap.size := by obtain ⟨m, hm⟩ := k0; exact DataW.trod_lt m _ _ _ hm
  obtain ⟨a0, n0, cap0, C0, rfl, hC0, hn0⟩ := open_bytesT (hval 0 22 v0 rfl rfl) h0
  clear hA0 hval0
  refine (walk W a0 n0 cap0 C0 hC0 hn0 (Lib.tabBelow_of_tabIs (tab_of hL))).mono fun e W' ⟨he, bel⟩ => ?_
  subst he
  exact ⟨_, rfl, _, _, _, [], _, [], hW', trodAll_mk1 (shut_bool Tryd.underlying4 _), (trodAll_cons_mk (Below.trod laidOut (by kernel_rfl) (of_decide_eq_true (by kernel_rfl)) k0 bel lt0) trodAll_mk0), rfl, bel.frame _, fun h => by cases h⟩

theorem over : Rows.fnActKeptRow.holds Tryd.pinned (OpenSpec.ofChange Rows.fnActKeptSpec) :=
  OpenClaim.holds_of_wide 5 Tryd.f5 rfl rfl rfl rfl rfl rfl rfl ⟨rfl, rfl, rfl, rfl, rfl⟩ rfl rfl rfl rfl rfl (by kernel_rfl) Tryd.func5 (by kernel_rfl)
    (of_decide_eq_true (by kernel_rfl)) (by unfold Func.isWrapper; first | (rw [if_pos (by decide +kernel)]; kernel_rfl) | (rw [if_neg (by decide +kernel)]; exact ⟨rfl, rfl⟩))
    (fun os started H enc _ => lifted os started H enc)

end Go.Proofs.YtfkcfjkojfnfnaaDoor.fnActKept
namespace Go.Proofs.YtfkcfjkojfnfnaaDoor
/-- The statement. -/
theorem fnActKept_holds : Rows.FnActKeptCardSaid :=
  Claim7.holds_tied_plain_at .later [] [.data, .data, .data] true Rows.fnActKeptCard.stood.harness Rows.fnActKeptCard.stood.looks fnActKept.over (fun _ h => by cases h) (by kernel_rfl) (fun _ h => by cases h) fnActKept_row_tie rfl ⟨rfl, rfl⟩ (by kernel_rfl) rfl
    (fun f fn hf hfn => by
      obtain rfl : f = 5 := Option.some.inj ((show Tryd.prog.funcNamed Rows.fnActKeptRow.func = some 5 by kernel_rfl).symm.trans hf) |>.symm
      obtain rfl : fn = Tryd.f5 := (Option.some.inj (Tryd.func5.symm.trans hfn)).symm
      exact ⟨by kernel_rfl, fun j t ht => by
        rw [Tryd.params5] at ht
        have hm : t ∈ [22] := by simpa using Array.mem_of_getElem? ht
        have hall : ([22].all fun u => !Tryd.prog.wantsStandIn u) = true := by kernel_rfl
        exact (show Tryd.prog.wantsStandIn t = false by simpa using List.all_eq_true.1 hall t hm)⟩)
    (by kernel_rfl)
#print axioms fnActKept_holds
end Go.Proofs.YtfkcfjkojfnfnaaDoor
