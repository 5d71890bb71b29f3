/-
  For all bytes FnActStop returns true, and what came in reads behind the call as it did. No condition. (behind a stop nothing counts)
-/
import Derived.Test.YtmjbmpfpbaolnaaRunD
import Derived.Test.YtmjbmpfpbaolnaaOpen
namespace Go.Proofs.Ytmjbmpfpbaolnaa.fnActStop
open Go.ChangeShapes Go.WideShapes Go.ChangeAt Go.RowKit
set_option linter.unusedVariables false
set_option maxRecDepth 100000

theorem open_bytesT {H : Type} {enc : TypeId × Value → H} {W : World} {r : Reach} {b0 : Nat} {v : Value} {d : DataW H} {p : List MemPlace}
    (hv : Value.okWide Try.prog W r b0 22 v) (h : DataW.Trod enc Try.prog W 0 (fun _ => true) true 22 v d p) : ∃ a n cap zs, v = .slice a n cap ∧ BInts W a n zs ∧ (n ≤ cap ∧ cap ≤ maxLen) := by
  obtain ⟨a0, len0, cap0, rfl⟩ := okWide_slice Try.underlying22 hv
  obtain ⟨fuel, hf⟩ := h
  rcases open_ints Try.underlying22 Try.underlying5 (by kernel_rfl) hf with ⟨hcs, _⟩ | ⟨x, l, c, zs, hcs, _, hl, hm, hz, _, hcell, hwz⟩
  · simp [Value.cells] at hcs
    obtain ⟨rfl, rfl, rfl⟩ := hcs
    exact ⟨none, 0, 0, [], rfl, ⟨rfl, fun i hi => by omega, fun i => by simp⟩, by omega, by unfold maxLen; omega⟩
  · simp [Value.cells] at hcs
    obtain ⟨rfl, rfl, rfl⟩ := hcs
    have hz' : zs.length = cap0 := by simpa using hz
    refine ⟨some x, len0, cap0, zs.take len0, rfl, ⟨by rw [List.length_take]; omega, fun i hi => ?_, fun i => ?_⟩, hl, hm⟩
    · obtain ⟨b, off, spot⟩ := x
      have hc0 := hcell 0 (by omega)
      have hspot : spot = none := by simpa [Addr.add] using World.cell?_spot hc0
      subst hspot
      refine ⟨b, off, rfl, ?_⟩
      have hc := hcell i (by omega)
      have : W.cell? ⟨b, off + i, none⟩ = some (.int .u8 (zs.getD i 0)) := by
        by_cases h0 : i = 0
        · subst h0; simpa [Addr.add] using hc
        · simpa [Addr.add, h0] using hc
      rw [this]
      simp [hi]
    · by_cases hi : i < (zs.take len0).length
      · rw [List.getElem?_eq_getElem hi]
        have := hwz _ (List.mem_of_mem_take (List.getElem_mem hi))
        simpa [Lit.wf, IntKind.min, IntKind.max, IntKind.signed, IntKind.bits] using this
      · rw [List.getElem?_eq_none (by omega)]
        simp

/-- Lines that lie in one block of their own. -/
def OwnL (base : Nat) (v : Value) (N : Nat) (ls : List LV) (W : World) : Prop := W.ownsRow base 30 6 v N (ls.flatMap LV.cs)
theorem OwnL.below {base N : Nat} {v : Value} {ls : List LV} {W W' : World} (h : OwnL base v N ls W) (b : Below W.heap.size W W') : OwnL base v N ls W' := own_belowL h b
def stopL : LV := ⟨4, 0, 0, noFV⟩
theorem stop_ok : stopL.ok = true := by decide
theorem stop_at (W : World) : stopL.f.At W := ⟨⟨rfl, fun i hi => absurd hi (Nat.not_lt_zero _)⟩, ⟨rfl, fun i hi => absurd hi (Nat.not_lt_zero _)⟩, Nat.zero_le _, Nat.zero_le _⟩
theorem actB_front {N : Nat} {ls : List LV} (h : actB N ls = true) (h6 : ¬ N = 6) : actB (N + 1) (stopL :: ls) = true := by
  unfold actB at h ⊢
  simp only [Bool.and_eq_true, decide_eq_true_eq] at h ⊢
  refine ⟨⟨by omega, by rw [List.all_cons, stop_ok, h.1.2]; rfl⟩, ?_⟩
  have e : tests (stopL :: ls) = tests ls := by unfold tests; rw [List.countP_cons]; simp [LV.tst, stopL]
  rw [e]; exact h.2
theorem actB_back {N : Nat} {ls : List LV} (h : actB N ls = true) (h6 : ¬ N = 6) : actB (N + 1) (ls ++ [stopL]) = true := by
  unfold actB at h ⊢
  simp only [Bool.and_eq_true, decide_eq_true_eq] at h ⊢
  refine ⟨⟨by omega, by rw [List.all_append, h.1.2, List.all_cons, stop_ok]; rfl⟩, ?_⟩
  have e : tests (ls ++ [stopL]) = tests ls := by unfold tests; rw [List.countP_append]; simp [LV.tst, stopL]
  rw [e]; exact h.2
theorem own_some {base N c : Nat} {ad : Option Addr} {ls : List LV} {W : World} (h : OwnL base (.slice ad N c) N ls W) (h0 : 0 < N) : ∃ g, ad = some ⟨g, 0, none⟩ := by
  rcases h.2 with ⟨_, h1⟩ | ⟨g, cap', cur, hv, _⟩
  · omega
  · simp only [Value.slice.injEq] at hv
    exact ⟨g, hv.1⟩
theorem endCode_is (x : List Int) : endCode x = 1 ∨ endCode x = 3 := by unfold endCode; split <;> simp
theorem runCode_not {N : Nat} {ls : List LV} {p : Nat} {V : List Int} {q : Nat} {U : List Int} (h : runB N ls p V q U = true) : ¬ runCode N ls p V q U = 0 := by
  unfold runCode
  rw [if_pos h]
  have := endCode_is (runL U ls V).2.1
  split <;> omega
theorem run_front {N : Nat} {ls : List LV} {p : Nat} {V : List Int} {q : Nat} {U : List Int} (h : runB N ls p V q U = true) (h6 : ¬ N = 6) : runCode (N + 1) (stopL :: ls) p V q U = 2 := by
  unfold runB at h
  simp only [Bool.and_eq_true] at h
  have hb : runB (N + 1) (stopL :: ls) p V q U = true := by unfold runB; rw [actB_front h.1.1 h6, h.1.2, h.2]; rfl
  exact (run_stop hb (by unfold runL goL; rfl)).1
theorem run_back {N : Nat} {ls : List LV} {p : Nat} {V : List Int} {q : Nat} {U : List Int} (h : runB N ls p V q U = true) (h6 : ¬ N = 6) : runCode (N + 1) (ls ++ [stopL]) p V q U = 2 ∨ (runCode (N + 1) (ls ++ [stopL]) p V q U = runCode N ls p V q U ∧ runTells (N + 1) (ls ++ [stopL]) p V q U = runTells N ls p V q U ∧ ¬ runCode N ls p V q U = 2) := by
  have h' := h
  unfold runB at h'
  simp only [Bool.and_eq_true] at h'
  have hb : runB (N + 1) (ls ++ [stopL]) p V q U = true := by unfold runB; rw [actB_back h'.1.1 h6, h'.1.2, h'.2]; rfl
  rcases goL_stop U ls stopL rfl 7 0 V [] with hs | ⟨he, hn⟩
  · left; exact (run_stop hb hs).1
  · right
    have he' : runL U (ls ++ [stopL]) V = runL U ls V := he
    have hn' : (runL U ls V).1 = false := hn
    refine ⟨?_, ?_, ?_⟩
    · unfold runCode; rw [if_pos hb, if_pos h, he']
    · unfold runTells; rw [if_pos hb, if_pos h, he']
    · unfold runCode; rw [if_pos h, hn']
      have := endCode_is (runL U ls V).2.1
      simp only [Bool.false_eq_true, if_false]
      omega

set_option maxHeartbeats 6400000 in
theorem walk (w : World) (a : Option Addr) (n cap : Nat) (A0 : List Int) (hA0 : BInts w a n A0) (hn : n ≤ cap ∧ cap ≤ maxLen) :
    Calls Try.prog 4 #[.slice a n cap] w fun e w' => e = .returned (.bool true) ∧ Below w.heap.size w w' := by
  obtain ⟨hn2, hn3⟩ := hn
  by_cases hn1 : n ≤ 1048576
  · go_enter Try.func4, Try.ntmps4
    go_wp2_with fail
    refine (dRun _ _ _ A0 _ hA0 hn2 hn1 hn3).mono ?_
    rintro ee w1 ⟨ad, N, c, ls, va, p, cv, V, ua, q, cu, A, base, rfl, b1, hG, hN, hN8, o, hV, hA, hp, hq⟩
    have BB := b1
    clear b1
    have hO : OwnL base (.slice ad N c) N ls w1 := o
    clear o
    have HN : Hid (ls.length = N) := hN
    clear hN
    go_wp2_with fail
    refine (pRun _ _ _ ls _ _ _ V _ _ _ A _ HN.out hG (by omega) hV hA (by omega) (by omega)).mono ?_
    rintro ee w2 ⟨a1, n1, c1, a2, n2, c2, rfl, ht, hpt, b2⟩
    replace BB := BB.trans (b2.mono BB.size)
    replace hG := hG.below b2
    replace hV := hV.below b2
    replace hA := hA.below b2
    replace hO := hO.below b2
    clear b2
    have bn1 : n1 ≤ 7 := by rw [← ht.1]; exact runTells_le _ _ _ _ _ _
    have bn2 : n2 ≤ 4 := by rw [← hpt.1]; exact Nat.le_trans (runPots_le _ _ _ _ _ _) (by rw [hV.1]; exact hp)
    have al := (Below.refl (w2).heap.size (w2)).alloc (Nat.le_refl _) (.cells #[.int .i64 (runCode N ls p V q A), .slice a1 n1 c1] 36)
    replace BB := BB.trans (al.mono BB.size)
    replace hG := hG.below al
    replace hV := hV.below al
    replace hA := hA.below al
    replace hO := hO.below al
    replace ht := ht.below al
    replace hpt := hpt.below al
    clear al
    have q6 := Cel.new (w2) [.int .i64 (runCode N ls p V q A), .slice a1 n1 c1] 36
    have g6_0 := q6.cell 0
    have g6_1 := q6.cell 1
    simp only [List.getElem?_cons_zero, List.getElem?_cons_succ] at g6_0 g6_1
    go_wp2_with fail
    obtain ⟨W3, hW3⟩ : ∃ W, W = (w2).alloc (.cells #[.int .i64 (runCode N ls p V q A), .slice a1 n1 c1] 36) := ⟨_, rfl⟩
    rw [← hW3]
    rw [← hW3] at hG hV hA hO ht hpt q6 BB g6_0 g6_1
    clear hW3
    obtain ⟨X6, hX6⟩ : ∃ x, x = w2.heap.size := ⟨_, rfl⟩
    rw [← hX6]
    rw [← hX6] at q6 g6_0 g6_1
    clear hX6
    refine (qRun _ _ _ ls _ _ _ V _ _ _ A _ HN.out hG (by omega) hV hA (by omega) (by omega)).mono ?_
    rintro ee w4 ⟨a3, n3, c3, a4, n4, c4, rfl, ku, kpt, b3⟩
    clear g6_0 g6_1
    replace BB := BB.trans (b3.mono BB.size)
    replace hG := hG.below b3
    replace hV := hV.below b3
    replace hA := hA.below b3
    replace hO := hO.below b3
    replace ht := ht.below b3
    replace hpt := hpt.below b3
    replace q6 := q6.below b3
    clear b3
    have bn3 : n3 ≤ 7 := by rw [← ku.1]; exact runTells_le _ _ _ _ _ _
    have bn4 : n4 ≤ 4 := by rw [← kpt.1]; exact Nat.le_trans (runPots_le _ _ _ _ _ _) (by rw [hV.1]; exact hp)
    have al := (Below.refl (w4).heap.size (w4)).alloc (Nat.le_refl _) (.cells #[.int .i64 (runCode N ls p V q A), .slice a3 n3 c3] 36)
    replace BB := BB.trans (al.mono BB.size)
    replace hG := hG.below al
    replace hV := hV.below al
    replace hA := hA.below al
    replace hO := hO.below al
    replace ht := ht.below al
    replace hpt := hpt.below al
    replace ku := ku.below al
    replace kpt := kpt.below al
    replace q6 := q6.below al
    clear al
    have q8 := Cel.new (w4) [.int .i64 (runCode N ls p V q A), .slice a3 n3 c3] 36
    have g6_0 := q6.cell 0
    have g6_1 := q6.cell 1
    have g8_0 := q8.cell 0
    have g8_1 := q8.cell 1
    simp only [List.getElem?_cons_zero, List.getElem?_cons_succ] at g6_0 g6_1 g8_0 g8_1
    go_wp2_with fail
    obtain ⟨W5, hW5⟩ : ∃ W, W = (w4).alloc (.cells #[.int .i64 (runCode N ls p V q A), .slice a3 n3 c3] 36) := ⟨_, rfl⟩
    rw [← hW5]
    rw [← hW5] at hG hV hA hO ht hpt ku kpt q6 q8 BB g6_0 g6_1 g8_0 g8_1
    clear hW5
    obtain ⟨X8, hX8⟩ : ∃ x, x = w4.heap.size := ⟨_, rfl⟩
    rw [← hX8]
    rw [← hX8] at q8 g8_0 g8_1
    clear hX8
    refine (coR_any (runCode N ls p V q A) (runCode N ls p V q A) _ _ _ _ _ _ (runTells N ls p V q A) (runTells N ls p V q A) _ ht ku (by omega) (by omega)).mono ?_
    rintro ee w6 ⟨rfl, b4⟩
    rw [coRB_same]
    clear g6_0 g6_1 g8_0 g8_1
    replace BB := BB.trans (b4.mono BB.size)
    replace hG := hG.below b4
    replace hV := hV.below b4
    replace hA := hA.below b4
    replace hO := hO.below b4
    replace ht := ht.below b4
    replace hpt := hpt.below b4
    replace ku := ku.below b4
    replace kpt := kpt.below b4
    replace q6 := q6.below b4
    replace q8 := q8.below b4
    clear b4
    have g6_0 := q6.cell 0
    have g6_1 := q6.cell 1
    have g8_0 := q8.cell 0
    have g8_1 := q8.cell 1
    simp only [List.getElem?_cons_zero, List.getElem?_cons_succ] at g6_0 g6_1 g8_0 g8_1
    go_wp2_with fail
    refine (coI_any _ _ _ _ _ _ (runPots N ls p V q A) (runPots N ls p V q A) _ hpt kpt (by omega) (by omega)).mono ?_
    rintro ee w7 ⟨rfl, b5⟩
    rw [eqB_refl]
    clear g6_0 g6_1 g8_0 g8_1
    replace BB := BB.trans (b5.mono BB.size)
    replace hG := hG.below b5
    replace hV := hV.below b5
    replace hA := hA.below b5
    replace hO := hO.below b5
    replace ht := ht.below b5
    replace hpt := hpt.below b5
    replace ku := ku.below b5
    replace kpt := kpt.below b5
    replace q6 := q6.below b5
    replace q8 := q8.below b5
    clear b5
    clear ku kpt q8
    cases hB : runB N ls p V q A
    · have ec : ((runCode N ls p V q A) == 0) = true := by rw [(run_no hB).1]; rfl
      have g6_0 := q6.cell 0
      have g6_1 := q6.cell 1
      simp only [List.getElem?_cons_zero, List.getElem?_cons_succ] at g6_0 g6_1
      go_wp2_with fail
      refine (coHolds_any _).mono ?_
      rintro ee w8 ⟨rfl, bh⟩
      clear g6_0 g6_1
      replace BB := BB.trans (bh.mono BB.size)
      replace hG := hG.below bh
      replace hV := hV.below bh
      replace hA := hA.below bh
      replace hO := hO.below bh
      replace ht := ht.below bh
      replace hpt := hpt.below bh
      replace q6 := q6.below bh
      clear bh
      go_wp2
      go_ret
      exact ⟨rfl, BB⟩
    · have ec : ((runCode N ls p V q A) == 0) = false := by have h := runCode_not hB; simpa using h
      by_cases h6 : N = 6
      · have e6 : ((N : Int) == 6) = true := by rw [h6]; rfl
        clear h6
        have g6_0 := q6.cell 0
        have g6_1 := q6.cell 1
        simp only [List.getElem?_cons_zero, List.getElem?_cons_succ] at g6_0 g6_1
        go_wp2_with fail
        refine (coHolds_any _).mono ?_
        rintro ee w8 ⟨rfl, bh⟩
        clear g6_0 g6_1
        replace BB := BB.trans (bh.mono BB.size)
        replace hG := hG.below bh
        replace hV := hV.below bh
        replace hA := hA.below bh
        replace hO := hO.below bh
        replace ht := ht.below bh
        replace hpt := hpt.below bh
        replace q6 := q6.below bh
        clear bh
        go_wp2
        go_ret
        exact ⟨rfl, BB⟩
      · have e6 : ((N : Int) == 6) = false := by simp; omega
        have hN5 : N ≤ 5 := by unfold runB at hB; simp only [Bool.and_eq_true] at hB; have := (actB_six hB.1.1).1; omega
        obtain ⟨i0, hi, hz0, hz1, hz2⟩ := info_parts Try.infoLn
        have g6_0 := q6.cell 0
        have g6_1 := q6.cell 1
        simp only [List.getElem?_cons_zero, List.getElem?_cons_succ] at g6_0 g6_1
        go_upto_region 10 with fail
        clear g6_0 g6_1
        go_cut [10] (fun v wx => ∃ xa xc, v = .slice xa (N + 1) xc ∧ LinesG wx xa (stopL :: ls) ∧ Below w7.heap.size w7 wx)
        case first =>
          have al := (Below.refl w7.heap.size w7).alloc (Nat.le_refl _) (.cells #[.int .i64 4, .int .i64 0, .int .i64 0, .slice none 0 0, .slice none 0 0, .int .i64 0] 30)
          have ol := World.ownsRow_lit (base := w7.heap.size) (e := 30) (size := 6) w7 #[.int .i64 4, .int .i64 0, .int .i64 0, .slice none 0 0, .slice none 0 0, .int .i64 0] 1 (Nat.le_refl _) (by unfold maxLen; omega) rfl
          have oa := hO.below al
          clear hO
          by_cases h0 : 0 < N
          · obtain ⟨g, rfl⟩ : ∃ g, ad = some ⟨g, 0, none⟩ := own_some oa h0
            go_wp2_with (at_builtin; refine wpList_append_lies _ rfl (.tmp 59) (.tmp 60) 23 rfl w7.heap.size 30 i0 _ 6 80 Try.underlying23 hi hz0 hz1 hz2 rfl (by omega) (.slice (some ⟨w7.heap.size, 0, none⟩) 1 1) 1 _ (by rfl) ol ⟨g, 0, none⟩ N c (ls.flatMap LV.cs) (by rfl) (by rw [flatL_len, HN.out]) (newsL oa) (flatL_one ls) h0 (by unfold maxLen; omega) (by omega) al.size _ rfl ?_)
            intro g9 c9 w9 hown hgrow _ _
            have b9 := al.trans ((Below.refl w7.heap.size _).grown hgrow al.size (fun z hz => (ol.lt z hz).1))
            have l9 : LinesG w9 (some ⟨g9, 0, none⟩) (stopL :: ls) := linesG_own (base := w7.heap.size) (N := 1 + N) (by simpa [stopL, LV.cs, noFV] using hown) (by rw [List.length_cons, HN.out]; omega) (fun i hi => by rcases i with _ | i; exact stop_at _; obtain ⟨_, _, _, _, h⟩ := hG i (by simpa using hi); exact h.below b9)
            clear hown hgrow ol oa
            go_wp2
            go_meet
            case rel => exact ⟨_, c9, by rw [Nat.add_comm], l9, b9⟩
          · have l0 : LinesG (w7.alloc (.cells #[.int .i64 4, .int .i64 0, .int .i64 0, .slice none 0 0, .slice none 0 0, .int .i64 0] 30)) (some ⟨w7.heap.size, 0, none⟩) [stopL] := linesG_own (base := w7.heap.size) (N := 1) ol rfl (fun i hi => by rcases i with _ | i; exact stop_at _; simp at hi)
            obtain rfl : N = 0 := by omega
            have hls : ls = [] := List.eq_nil_of_length_eq_zero HN.out
            subst hls
            clear oa ol
            cases ad
            · go_wp2
              go_meet
              case rel => exact ⟨_, _, rfl, l0, al⟩
            · go_wp2
              go_meet
              case rel => exact ⟨_, _, rfl, l0, al⟩
        case rest =>
          obtain ⟨xa, xc, rfl, hX, b9⟩ := hcut
          replace BB := BB.trans (b9.mono BB.size)
          replace hG := hG.below b9
          replace hV := hV.below b9
          replace hA := hA.below b9
          replace hO := hO.below b9
          replace ht := ht.below b9
          replace hpt := hpt.below b9
          replace q6 := q6.below b9
          clear b9
          have g6_0 := q6.cell 0
          have g6_1 := q6.cell 1
          simp only [List.getElem?_cons_zero, List.getElem?_cons_succ] at g6_0 g6_1
          go_wp2_with fail
          refine (pRun _ _ _ (stopL :: ls) _ _ _ V _ _ _ A _ (by rw [List.length_cons, HN.out]) hX (by omega) hV hA (by omega) (by omega)).mono ?_
          rintro ee w8 ⟨a5, n5, c5, a6, n6, c6, rfl, hu, _, b2⟩
          clear g6_0 g6_1
          replace BB := BB.trans (b2.mono BB.size)
          replace hG := hG.below b2
          replace hV := hV.below b2
          replace hA := hA.below b2
          replace hO := hO.below b2
          replace ht := ht.below b2
          replace hpt := hpt.below b2
          replace hX := hX.below b2
          replace q6 := q6.below b2
          clear b2
          clear hX
          rw [run_front hB h6]
          have al := (Below.refl (w8).heap.size (w8)).alloc (Nat.le_refl _) (.cells #[.int .i64 2, .slice a5 n5 c5] 36)
          replace BB := BB.trans (al.mono BB.size)
          replace hG := hG.below al
          replace hV := hV.below al
          replace hA := hA.below al
          replace hO := hO.below al
          replace ht := ht.below al
          replace hpt := hpt.below al
          replace hu := hu.below al
          replace q6 := q6.below al
          clear al
          have q11 := Cel.new (w8) [.int .i64 2, .slice a5 n5 c5] 36
          have g6_0 := q6.cell 0
          have g6_1 := q6.cell 1
          have g11_0 := q11.cell 0
          have g11_1 := q11.cell 1
          simp only [List.getElem?_cons_zero, List.getElem?_cons_succ] at g6_0 g6_1 g11_0 g11_1
          go_upto_region 12 with fail
          obtain ⟨W9, hW9⟩ : ∃ W, W = (w8).alloc (.cells #[.int .i64 2, .slice a5 n5 c5] 36) := ⟨_, rfl⟩
          rw [← hW9]
          rw [← hW9] at hG hV hA hO ht hpt hu q6 q11 BB g6_0 g6_1 g11_0 g11_1
          clear hW9
          obtain ⟨X11, hX11⟩ : ∃ x, x = w8.heap.size := ⟨_, rfl⟩
          rw [← hX11]
          rw [← hX11] at q11 g11_0 g11_1
          clear hX11
          clear g6_0 g6_1 g11_0 g11_1
          go_cut [13] (fun v wx => ∃ ya yc, v = .slice ya (N + 1) yc ∧ LinesG wx ya (ls ++ [stopL]) ∧ Below W9.heap.size W9 wx)
          case first =>
            have al := (Below.refl W9.heap.size W9).alloc (Nat.le_refl _) (.cells #[] 30)
            have o0 := World.ownsRow_lit (base := W9.heap.size) (e := 30) (size := 6) W9 #[] 0 (Nat.le_refl _) (by unfold maxLen; omega) rfl
            have oa := hO.below al
            go_wp2_with (at_builtin; refine wpList_plain rfl (fun K hK => ?_); refine wp_copyL (.tmp 69) (.tmp 70) rfl W9.heap.size base W9.heap.size N ad c ls (by rfl) o0 (by rfl) oa HN.out (by omega) al.size ?_)
            intro v2 W2 b2 t2 o2 _
            refine hK _ _ ?_
            clear hK K t2 o0 oa
            have B2 := al.trans b2
            clear al b2
            obtain ⟨y2, cp2, rfl⟩ := own_slice o2
            have al := (Below.refl W2.heap.size W2).alloc (Nat.le_refl _) (.cells #[.int .i64 4, .int .i64 0, .int .i64 0, .slice none 0 0, .slice none 0 0, .int .i64 0] 30)
            replace o2 := own_belowL o2 al
            replace B2 := B2.trans (al.mono B2.size)
            clear al
            have hsz := B2.size
            go_wp2_with (at_builtin; refine wpList_append_lies _ rfl (.tmp 71) (.tmp 73) 23 rfl W9.heap.size 30 i0 _ 6 80 Try.underlying23 hi hz0 hz1 hz2 rfl (by omega) (.slice y2 N cp2) N (ls.flatMap LV.cs) (by rfl) o2 ⟨W2.heap.size, 0, none⟩ 1 1 [.int .i64 4, .int .i64 0, .int .i64 0, .slice none 0 0, .slice none 0 0, .int .i64 0] (by rfl) (by rfl) (World.news_of_block (cs := #[.int .i64 4, .int .i64 0, .int .i64 0, .slice none 0 0, .slice none 0 0, .int .i64 0]) (t := 30) (fr := (0, 0)) (heap_alloc_new W2 _)) (by simp [Value.oneCell']) (by omega) (by unfold maxLen; omega) (by omega) hsz (W2.heap.size + 1) (by rw [World.size_alloc]) ?_)
            intro g9 c9 w9 hown hgrow _ _
            have B9 := B2.trans ((Below.refl W9.heap.size _).grown hgrow hsz (fun z hz => (o2.lt z hz).1))
            have l9 : LinesG w9 (some ⟨g9, 0, none⟩) (ls ++ [stopL]) := linesG_own (base := W9.heap.size) (by rw [List.flatMap_append]; simpa [stopL, LV.cs, noFV] using hown) (by rw [List.length_append, HN.out]; rfl) (fun i hi => at_app (fun i hi => by obtain ⟨_, _, _, _, h⟩ := hG i hi; exact h.below B9) (stop_at _) i hi)
            clear hown hgrow o2
            go_wp2
            go_meet
            case rel => exact ⟨_, c9, rfl, l9, B9⟩
          case rest =>
            obtain ⟨ya, yc, rfl, hY, b9⟩ := hcut
            replace BB := BB.trans (b9.mono BB.size)
            replace hG := hG.below b9
            replace hV := hV.below b9
            replace hA := hA.below b9
            replace hO := hO.below b9
            replace ht := ht.below b9
            replace hpt := hpt.below b9
            replace hu := hu.below b9
            replace q6 := q6.below b9
            replace q11 := q11.below b9
            clear b9
            have g6_0 := q6.cell 0
            have g6_1 := q6.cell 1
            have g11_0 := q11.cell 0
            have g11_1 := q11.cell 1
            simp only [List.getElem?_cons_zero, List.getElem?_cons_succ] at g6_0 g6_1 g11_0 g11_1
            go_wp2_with fail
            refine (pRun _ _ _ (ls ++ [stopL]) _ _ _ V _ _ _ A _ (by rw [List.length_append, HN.out]; rfl) hY (by omega) hV hA (by omega) (by omega)).mono ?_
            rintro ee w10 ⟨a7, n7, c7, a8, n8, c8, rfl, hw, _, b2⟩
            clear g6_0 g6_1 g11_0 g11_1
            replace BB := BB.trans (b2.mono BB.size)
            replace hG := hG.below b2
            replace hV := hV.below b2
            replace hA := hA.below b2
            replace hO := hO.below b2
            replace ht := ht.below b2
            replace hpt := hpt.below b2
            replace hu := hu.below b2
            replace hY := hY.below b2
            replace q6 := q6.below b2
            replace q11 := q11.below b2
            clear b2
            have b7 : n7 ≤ 7 := by rw [← hw.1]; exact runTells_le _ _ _ _ _ _
            have al := (Below.refl (w10).heap.size (w10)).alloc (Nat.le_refl _) (.cells #[.int .i64 (runCode (N + 1) (ls ++ [stopL]) p V q A), .slice a7 n7 c7] 36)
            replace BB := BB.trans (al.mono BB.size)
            replace hG := hG.below al
            replace hV := hV.below al
            replace hA := hA.below al
            replace hO := hO.below al
            replace ht := ht.below al
            replace hpt := hpt.below al
            replace hu := hu.below al
            replace hY := hY.below al
            replace hw := hw.below al
            replace q6 := q6.below al
            replace q11 := q11.below al
            clear al
            have q14 := Cel.new (w10) [.int .i64 (runCode (N + 1) (ls ++ [stopL]) p V q A), .slice a7 n7 c7] 36
            have g6_0 := q6.cell 0
            have g6_1 := q6.cell 1
            have g11_0 := q11.cell 0
            have g11_1 := q11.cell 1
            have g14_0 := q14.cell 0
            have g14_1 := q14.cell 1
            simp only [List.getElem?_cons_zero, List.getElem?_cons_succ] at g6_0 g6_1 g11_0 g11_1 g14_0 g14_1
            go_upto_region 14 with fail
            obtain ⟨W11, hW11⟩ : ∃ W, W = (w10).alloc (.cells #[.int .i64 (runCode (N + 1) (ls ++ [stopL]) p V q A), .slice a7 n7 c7] 36) := ⟨_, rfl⟩
            rw [← hW11]
            rw [← hW11] at hG hV hA hO ht hpt hu hY hw q6 q11 q14 BB g6_0 g6_1 g11_0 g11_1 g14_0 g14_1
            clear hW11
            obtain ⟨X14, hX14⟩ : ∃ x, x = w10.heap.size := ⟨_, rfl⟩
            rw [← hX14]
            rw [← hX14] at q14 g14_0 g14_1
            clear hX14
            rcases run_back hB h6 with h2 | ⟨h3, h4, h5⟩
            · have eb : (runCode (N + 1) (ls ++ [stopL]) p V q A == 2) = true := by rw [h2]; rfl
              clear h2
              go_wp2
              go_ret
              exact ⟨rfl, BB⟩
            · have H3 : Hid (runCode (N + 1) (ls ++ [stopL]) p V q A = runCode N ls p V q A) := h3
              have H4 : Hid (runTells (N + 1) (ls ++ [stopL]) p V q A = runTells N ls p V q A) := h4
              clear h3 h4
              by_cases h2 : runCode (N + 1) (ls ++ [stopL]) p V q A = 2
              · have eb : (runCode (N + 1) (ls ++ [stopL]) p V q A == 2) = true := by rw [h2]; rfl
                clear h2
                go_wp2
                go_ret
                exact ⟨rfl, BB⟩
              · have eb : (runCode (N + 1) (ls ++ [stopL]) p V q A == 2) = false := by simpa using h2
                have er : (runCode N ls p V q A != 2) = true := by simpa using h5
                clear h2 h5
                go_wp2_with fail
                refine (coR_any (runCode (N + 1) (ls ++ [stopL]) p V q A) (runCode N ls p V q A) _ _ _ _ _ _ (runTells (N + 1) (ls ++ [stopL]) p V q A) (runTells N ls p V q A) _ hw ht (by omega) (by omega)).mono ?_
                rintro ee w12 ⟨rfl, b9⟩
                rw [H3.out, H4.out, coRB_same]
                clear g6_0 g6_1 g11_0 g11_1 g14_0 g14_1
                replace BB := BB.trans (b9.mono BB.size)
                replace hG := hG.below b9
                replace hV := hV.below b9
                replace hA := hA.below b9
                replace hO := hO.below b9
                replace ht := ht.below b9
                replace hpt := hpt.below b9
                replace hu := hu.below b9
                replace hY := hY.below b9
                replace hw := hw.below b9
                replace q6 := q6.below b9
                replace q11 := q11.below b9
                replace q14 := q14.below b9
                clear b9
                have g6_0 := q6.cell 0
                have g6_1 := q6.cell 1
                have g11_0 := q11.cell 0
                have g11_1 := q11.cell 1
                have g14_0 := q14.cell 0
                have g14_1 := q14.cell 1
                simp only [List.getElem?_cons_zero, List.getElem?_cons_succ] at g6_0 g6_1 g11_0 g11_1 g14_0 g14_1
                go_wp2
                go_ret
                exact ⟨rfl, BB⟩
  · go_enter Try.func4, Try.ntmps4
    go_wp2
    go_ret
    exact ⟨rfl, Below.refl _ _⟩

/-! ### The row's step -/
set_option maxRecDepth 100000 in
theorem lifted (os : Os) (started : os.Started) (H : Type) (enc : TypeId × Value → H) :
    ReturnsInHanded {} Try.checked os 4 .any (Rows.fnActStopSpec.pre6 enc Try.prog Try.f4 Rows.fnActStopRow.domain false) (Rows.fnActStopSpec.post enc Try.prog Try.f4 false true false false) := by
  refine returnsInHanded_of_change (C := Try.checked) own started (by kernel_rfl) Try.func4
    (ChangeSpec.witness6 (enc := enc) (C := Try.checked) false ⟨#[], #[.slice none 0 0], []⟩ 8 (by kernel_rfl) (by kernel_rfl) (by kernel_rfl) (by kernel_rfl)) ?_
  intro W base args ds gs before hval0 hW hcnd _
  have hval : ∀ (j : Nat) t v, Try.f4.params[j]? = some t → args[j]? = some v → Value.okWide Try.prog W .any base t v := hval0
  have hW' := hW
  obtain ⟨p, q, hA0, hV, rfl, hfz, hnd⟩ := hW
  have hA : DataW.TrodAll enc Try.prog W 0 (fun _ => true) true Try.f4.params.toList args.toList ds p := hA0
  rw [Try.params4] at hA hval
  obtain ⟨v0, vs0, d0, ds0, p0, q0, hargs, rfl, rfl, h0, r0⟩ := trodAll_cons hA
  obtain ⟨rfl, rfl, rfl⟩ := trodAll_nil r0
  obtain rfl : args = #[v0] := by cases args; simp_all
  obtain ⟨rfl, rfl⟩ := trodVars_none hV
  have k0 := h0
  have lt0 : ∀ x ∈ p0, x.block < W.heap.size := by obtain ⟨m, hm⟩ := k0; exact DataW.trod_lt m _ _ _ hm
  obtain ⟨a0, n0, cap0, C0, rfl, hC0, hn0⟩ := open_bytesT (hval 0 22 v0 rfl rfl) h0
  clear hA0 hval0
  refine (walk W a0 n0 cap0 C0 hC0 hn0).mono fun e W' ⟨he, bel⟩ => ?_
  subst he
  exact ⟨_, rfl, _, _, _, [], _, [], hW', trodAll_mk1 (shut_bool Try.underlying4 _), (trodAll_cons_mk (Below.trod laidOut (by kernel_rfl) (of_decide_eq_true (by kernel_rfl)) k0 bel lt0) trodAll_mk0), rfl, bel.frame _, fun h => by cases h⟩

theorem over : Rows.fnActStopRow.holds Try.pinned (OpenSpec.ofChange Rows.fnActStopSpec) :=
  OpenClaim.holds_of_wide 4 Try.f4 rfl rfl rfl rfl rfl rfl rfl ⟨rfl, rfl, rfl, rfl, rfl⟩ rfl rfl rfl rfl rfl (by kernel_rfl) Try.func4 (by kernel_rfl)
    (of_decide_eq_true (by kernel_rfl)) (by unfold Func.isWrapper; first | (rw [if_pos (by decide +kernel)]; kernel_rfl) | (rw [if_neg (by decide +kernel)]; exact ⟨rfl, rfl⟩))
    (fun os started H enc _ => lifted os started H enc)

end Go.Proofs.Ytmjbmpfpbaolnaa.fnActStop
namespace Go.Proofs.Ytmjbmpfpbaolnaa
/-- The statement. -/
theorem fnActStop_holds : Rows.FnActStopSaid := fnActStop.over
#print axioms fnActStop_holds
end Go.Proofs.Ytmjbmpfpbaolnaa
