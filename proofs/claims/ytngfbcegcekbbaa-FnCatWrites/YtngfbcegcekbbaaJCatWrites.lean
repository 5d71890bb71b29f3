/-
  For all bytes FnCatWrites returns true, and what came in reads behind the call as it did. No condition. (what an act does not turn stays)
-/
import Derived.Test.YtngfbcegcekbbaaJCatWritesA
import Derived.Test.YtngfbcegcekbbaaJCatWritesC
import Derived.Test.YtngfbcegcekbbaaOpen
namespace Go.Proofs.Ytngfbcegcekbbaa.fnCatWrites
open Go.ChangeShapes Go.WideShapes Go.ChangeAt Go.RowKit
set_option linter.unusedVariables false
set_option maxRecDepth 100000

theorem open_bytesT {H : Type} {enc : TypeId × Value → H} {W : World} {r : Reach} {b0 : Nat} {v : Value} {d : DataW H} {p : List MemPlace}
    (hv : Value.okWide Try.prog W r b0 22 v) (h : DataW.Trod enc Try.prog W 0 (fun _ => true) true 22 v d p) : ∃ a n cap zs, v = .slice a n cap ∧ BInts W a n zs ∧ (n ≤ cap ∧ cap ≤ maxLen) := by
  obtain ⟨a0, len0, cap0, rfl⟩ := okWide_slice Try.underlying22 hv
  obtain ⟨fuel, hf⟩ := h
  rcases open_ints Try.underlying22 Try.underlying5 (by kernel_rfl) hf with ⟨hcs, _⟩ | ⟨x, l, c, zs, hcs, _, hl, hm, hz, _, hcell, hwz⟩
  · simp [Value.cells] at hcs
    obtain ⟨rfl, rfl, rfl⟩ := hcs
    exact ⟨none, 0, 0, [], rfl, ⟨rfl, fun i hi => by omega, fun i => by simp⟩, by omega, by unfold maxLen; omega⟩
  · simp [Value.cells] at hcs
    obtain ⟨rfl, rfl, rfl⟩ := hcs
    have hz' : zs.length = cap0 := by simpa using hz
    refine ⟨some x, len0, cap0, zs.take len0, rfl, ⟨by rw [List.length_take]; omega, fun i hi => ?_, fun i => ?_⟩, hl, hm⟩
    · obtain ⟨b, off, spot⟩ := x
      have hc0 := hcell 0 (by omega)
      have hspot : spot = none := by simpa [Addr.add] using World.cell?_spot hc0
      subst hspot
      refine ⟨b, off, rfl, ?_⟩
      have hc := hcell i (by omega)
      have : W.cell? ⟨b, off + i, none⟩ = some (.int .u8 (zs.getD i 0)) := by
        by_cases h0 : i = 0
        · subst h0; simpa [Addr.add] using hc
        · simpa [Addr.add, h0] using hc
      rw [this]
      simp [hi]
    · by_cases hi : i < (zs.take len0).length
      · rw [List.getElem?_eq_getElem hi]
        have := hwz _ (List.mem_of_mem_take (List.getElem_mem hi))
        simpa [Lit.wf, IntKind.min, IntKind.max, IntKind.signed, IntKind.bits] using this
      · rw [List.getElem?_eq_none (by omega)]
        simp

theorem endCode_isW (x : List Int) : endCode x = 1 ∨ endCode x = 3 := by unfold endCode; split <;> simp
theorem runCode_notW {N : Nat} {ls : List LV} {p : Nat} {V : List Int} {q : Nat} {U : List Int} (h : runB N ls p V q U = true) : ¬ runCode N ls p V q U = 0 := by
  unfold runCode
  rw [if_pos h]
  have := endCode_isW (runL U ls V).2.1
  split <;> omega

set_option maxHeartbeats 6400000 in
theorem walk (w : World) (a : Option Addr) (n cap : Nat) (A0 : List Int) (hA0 : BInts w a n A0) (hn : n ≤ cap ∧ cap ≤ maxLen) :
    Calls Try.prog 7 #[.slice a n cap] w fun e w' => e = .returned (.bool true) ∧ Below w.heap.size w w' := by
  obtain ⟨hn2, hn3⟩ := hn
  by_cases hn1 : n ≤ 1048576
  · go_enter Try.func7, Try.ntmps7
    go_wp2_with fail
    refine (dRun _ _ _ A0 _ hA0 hn2 hn1 hn3).mono ?_
    rintro ee w1 ⟨ad, N, c, ls, va, p, cv, V, ua, q, cu, A, base, rfl, b1, hG, hN, hN8, _, hV, hA, hp, hq⟩
    have BB := b1
    clear b1
    have HN : Hid (ls.length = N) := hN
    clear hN
    go_wp2_with fail
    refine (pWrites _ _ _ ls _ HN.out hG (by omega)).mono ?_
    rintro ee w2 ⟨wa, wn, wc, rfl, hwn, hb1, b2⟩
    replace BB := BB.trans (b2.mono BB.size)
    replace hG := hG.below b2
    replace hV := hV.below b2
    replace hA := hA.below b2
    clear b2
    have HW : Hid (wn = mulN (actB N ls)) := hwn
    clear hwn
    go_wp2_with fail
    refine (qWrites _ _ _ ls _ HN.out hG (by omega)).mono ?_
    rintro ee w3 ⟨xa, xn, xc, rfl, hxn, hb2, b3⟩
    replace BB := BB.trans (b3.mono BB.size)
    replace hG := hG.below b3
    replace hV := hV.below b3
    replace hA := hA.below b3
    replace hb1 := hb1.below b3
    clear b3
    obtain rfl : xn = wn := by rw [hxn, HW.out]
    clear hxn
    go_wp2_with fail
    refine (coB_any _ _ _ _ _ _ _ hb1 hb2).mono ?_
    rintro ee w4 ⟨rfl, b4⟩
    replace BB := BB.trans (b4.mono BB.size)
    replace hG := hG.below b4
    replace hV := hV.below b4
    replace hA := hA.below b4
    replace hb1 := hb1.below b4
    replace hb2 := hb2.below b4
    clear b4
    clear hb2
    go_wp2_with fail
    refine (pRun _ _ _ ls _ _ _ V _ _ _ A _ HN.out hG (by omega) hV hA (by omega) (by omega)).mono ?_
    rintro ee w5 ⟨a1, n1, c1, a2, n2, c2, rfl, _, hpt, b5⟩
    replace BB := BB.trans (b5.mono BB.size)
    replace hG := hG.below b5
    replace hV := hV.below b5
    replace hA := hA.below b5
    replace hb1 := hb1.below b5
    clear b5
    have al := (Below.refl (w5).heap.size (w5)).alloc (Nat.le_refl _) (.cells #[.int .i64 (runCode N ls p V q A), .slice a1 n1 c1] 57)
    replace BB := BB.trans (al.mono BB.size)
    replace hG := hG.below al
    replace hV := hV.below al
    replace hA := hA.below al
    replace hb1 := hb1.below al
    replace hpt := hpt.below al
    clear al
    have q7 := Cel.new (w5) [.int .i64 (runCode N ls p V q A), .slice a1 n1 c1] 57
    cases hB : runB N ls p V q A
    · have ec : ((runCode N ls p V q A) == 0) = true := by rw [(run_no hB).1]; rfl
      have g7_0 := q7.cell 0
      have g7_1 := q7.cell 1
      simp only [List.getElem?_cons_zero, List.getElem?_cons_succ] at g7_0 g7_1
      go_wp2_with fail
      obtain ⟨W6, hW6⟩ : ∃ W, W = (w5).alloc (.cells #[.int .i64 (runCode N ls p V q A), .slice a1 n1 c1] 57) := ⟨_, rfl⟩
      rw [← hW6]
      rw [← hW6] at hG hV hA hb1 hpt q7 BB g7_0 g7_1
      clear hW6
      obtain ⟨X7, hX7⟩ : ∃ x, x = w5.heap.size := ⟨_, rfl⟩
      rw [← hX7]
      rw [← hX7] at q7 g7_0 g7_1
      clear hX7
      refine (coHolds_any _).mono ?_
      rintro ee w7 ⟨rfl, bh⟩
      clear g7_0 g7_1
      replace BB := BB.trans (bh.mono BB.size)
      replace hG := hG.below bh
      replace hV := hV.below bh
      replace hA := hA.below bh
      replace hb1 := hb1.below bh
      replace hpt := hpt.below bh
      replace q7 := q7.below bh
      clear bh
      go_wp2
      go_ret
      exact ⟨rfl, BB⟩
    · have ec : ((runCode N ls p V q A) == 0) = false := by have h := runCode_notW hB; simpa using h
      have g7_0 := q7.cell 0
      have g7_1 := q7.cell 1
      simp only [List.getElem?_cons_zero, List.getElem?_cons_succ] at g7_0 g7_1
      go_upto_region 8 with fail
      obtain ⟨W6, hW6⟩ : ∃ W, W = (w5).alloc (.cells #[.int .i64 (runCode N ls p V q A), .slice a1 n1 c1] 57) := ⟨_, rfl⟩
      rw [← hW6]
      rw [← hW6] at hG hV hA hb1 hpt q7 BB g7_0 g7_1
      clear hW6
      obtain ⟨X7, hX7⟩ : ∃ x, x = w5.heap.size := ⟨_, rfl⟩
      rw [← hX7]
      rw [← hX7] at q7 g7_0 g7_1
      clear hX7
      clear g7_0 g7_1
      have h3 := runB_three hB
      obtain rfl : p = 3 := h3.1
      obtain rfl : xn = 3 := by rw [HW.out, h3.2.2.2]; rfl
      obtain rfl : n2 = 3 := by rw [← hpt.1]; exact pots_three hB hV.1
      have HX : Hid (∀ v, v < 3 → writesR (rowsL ls) v = false → (runPots N ls 3 V q A)[v]?.getD 0 = V[v]?.getD 0) := fun v hv hw => writes_not hB hV.1 (fun k hk => by obtain ⟨_, _, _, _, h⟩ := hG k hk; exact h.D.1) hv hw
      clear h3 hB HW
      generalize runPots N ls 3 V q A = X at hpt HX
      generalize writesR (rowsL ls) = F at hb1 HX
      have g7_0 := q7.cell 0
      have g7_1 := q7.cell 1
      simp only [List.getElem?_cons_zero, List.getElem?_cons_succ] at g7_0 g7_1
      go_wp2_with fail
      clear g7_0 g7_1
      go_loopw [9] (fun i wr => ∃ k : Nat, k ≤ 3 ∧ i = .int .i64 k ∧ Below W6.heap.size W6 wr) (fun i _ => 3 - (intOf i).toNat)
      case atStart => exact ⟨0, by omega, rfl, Below.refl _ _⟩
      case round =>
        obtain ⟨k, hk, rfl, hb⟩ := hrel
        have hb0 := hb
        replace BB := BB.trans (hb.mono BB.size)
        replace hG := hG.below hb
        replace hV := hV.below hb
        replace hA := hA.below hb
        replace hb1 := hb1.below hb
        replace hpt := hpt.below hb
        replace q7 := q7.below hb
        clear hb
        by_cases hlt : k < 3
        · have hk' : (k : Int) < 3 := by omega
          obtain ⟨G, rfl, hcB⟩ := hb1.c (by omega)
          obtain ⟨b2, o2, rfl, hcX⟩ := hpt.pos (by omega)
          obtain ⟨b3, o3, rfl, hcV⟩ := hV.pos (by omega)
          have d1 := hcB k hlt
          have d2 := hcX k hlt
          have d3 := hcV k hlt
          have hx := HX.out k hlt
          clear hcB hcX hcV hb1 hpt hV hG hA q7 hp hq hN8
          cases hf : F k
          · rw [hf] at d1
            have e0 : (X[k]?.getD 0 != V[k]?.getD 0) = false := by rw [hx hf]; simp
            clear hf hx HX
            go_wp2_with fail
            go_quiet (fail)
            go_wp2
            go_roundw
            case rel => exact ⟨k + 1, by omega, by go_num, below_drewN hb0 _⟩
            case measure => simp [intOf]; omega
          · rw [hf] at d1
            clear hf hx HX
            go_wp2_with fail
            go_quiet (fail)
            go_wp2
            go_roundw
            case rel => exact ⟨k + 1, by omega, by go_num, below_drewN hb0 _⟩
            case measure => simp [intOf]; omega
        · have hk' : ¬ (k : Int) < 3 := by omega
          have g7_0 := q7.cell 0
          have g7_1 := q7.cell 1
          simp only [List.getElem?_cons_zero, List.getElem?_cons_succ] at g7_0 g7_1
          go_wp2_with fail
          refine (coHolds_any _).mono ?_
          rintro ee w7 ⟨rfl, bh⟩
          clear g7_0 g7_1
          replace BB := BB.trans (bh.mono BB.size)
          replace hG := hG.below bh
          replace hV := hV.below bh
          replace hA := hA.below bh
          replace hb1 := hb1.below bh
          replace hpt := hpt.below bh
          replace q7 := q7.below bh
          clear bh
          go_wp2
          go_ret
          exact ⟨rfl, BB⟩
  · go_enter Try.func7, Try.ntmps7
    go_wp2
    go_ret
    exact ⟨rfl, Below.refl _ _⟩

/-! ### The row's step -/
set_option maxRecDepth 100000 in
theorem lifted (os : Os) (started : os.Started) (H : Type) (enc : TypeId × Value → H) :
    ReturnsInHanded {} Try.checked os 7 .any (Rows.fnCatWritesSpec.pre6 enc Try.prog Try.f7 Rows.fnCatWritesRow.domain false) (Rows.fnCatWritesSpec.post enc Try.prog Try.f7 false true false false) := by
  refine returnsInHanded_of_change (C := Try.checked) own started (by kernel_rfl) Try.func7
    (ChangeSpec.witness6 (enc := enc) (C := Try.checked) false ⟨#[], #[.slice none 0 0], []⟩ 8 (by kernel_rfl) (by kernel_rfl) (by kernel_rfl) (by kernel_rfl)) ?_
  intro W base args ds gs before hval0 hW hcnd _
  have hval : ∀ (j : Nat) t v, Try.f7.params[j]? = some t → args[j]? = some v → Value.okWide Try.prog W .any base t v := hval0
  have hW' := hW
  obtain ⟨p, q, hA0, hV, rfl, hfz, hnd⟩ := hW
  have hA : DataW.TrodAll enc Try.prog W 0 (fun _ => true) true Try.f7.params.toList args.toList ds p := hA0
  rw [Try.params7] at hA hval
  obtain ⟨v0, vs0, d0, ds0, p0, q0, hargs, rfl, rfl, h0, r0⟩ := trodAll_cons hA
  obtain ⟨rfl, rfl, rfl⟩ := trodAll_nil r0
  obtain rfl : args = #[v0] := by cases args; simp_all
  obtain ⟨rfl, rfl⟩ := trodVars_none hV
  have k0 := h0
  have lt0 : ∀ x ∈ p0, x.block < W.heap.size := by obtain ⟨m, hm⟩ := k0; exact DataW.trod_lt m _ _ _ hm
  obtain ⟨a0, n0, cap0, C0, rfl, hC0, hn0⟩ := open_bytesT (hval 0 22 v0 rfl rfl) h0
  clear hA0 hval0
  refine (walk W a0 n0 cap0 C0 hC0 hn0).mono fun e W' ⟨he, bel⟩ => ?_
  subst he
  exact ⟨_, rfl, _, _, _, [], _, [], hW', trodAll_mk1 (shut_bool Try.underlying4 _), (trodAll_cons_mk (Below.trod laidOut (by kernel_rfl) (of_decide_eq_true (by kernel_rfl)) k0 bel lt0) trodAll_mk0), rfl, bel.frame _, fun h => by cases h⟩

theorem over : Rows.fnCatWritesRow.holds Try.pinned (OpenSpec.ofChange Rows.fnCatWritesSpec) :=
  OpenClaim.holds_of_wide 7 Try.f7 rfl rfl rfl rfl rfl rfl rfl ⟨rfl, rfl, rfl, rfl, rfl⟩ rfl rfl rfl rfl rfl (by kernel_rfl) Try.func7 (by kernel_rfl)
    (of_decide_eq_true (by kernel_rfl)) (by unfold Func.isWrapper; first | (rw [if_pos (by decide +kernel)]; kernel_rfl) | (rw [if_neg (by decide +kernel)]; exact ⟨rfl, rfl⟩))
    (fun os started H enc _ => lifted os started H enc)

end Go.Proofs.Ytngfbcegcekbbaa.fnCatWrites
namespace Go.Proofs.Ytngfbcegcekbbaa
/-- The statement. -/
theorem fnCatWrites_holds : Rows.FnCatWritesSaid := fnCatWrites.over
#print axioms fnCatWrites_holds
end Go.Proofs.Ytngfbcegcekbbaa
