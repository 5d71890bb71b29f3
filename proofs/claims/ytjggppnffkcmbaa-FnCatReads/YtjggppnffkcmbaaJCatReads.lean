/-
  For all bytes FnCatReads returns true, and what came in reads behind the call as it did. No condition. (what an act neither tells of nor adds by turns no answer)
-/
import Derived.Test.YtjggppnffkcmbaaJCatReadsB
import Derived.Test.YtjggppnffkcmbaaJCatReadsC
import Derived.Test.YtjggppnffkcmbaaJCatReadsD
import Derived.Test.YtjggppnffkcmbaaOpen
namespace Go.Proofs.Ytjggppnffkcmbaa.fnCatReads
open Go.ChangeShapes Go.WideShapes Go.ChangeAt Go.RowKit
set_option linter.unusedVariables false
set_option maxRecDepth 100000

theorem open_bytesT {H : Type} {enc : TypeId × Value → H} {W : World} {r : Reach} {b0 : Nat} {v : Value} {d : DataW H} {p : List MemPlace}
    (hv : Value.okWide Try.prog W r b0 22 v) (h : DataW.Trod enc Try.prog W 0 (fun _ => true) true 22 v d p) : ∃ a n cap zs, v = .slice a n cap ∧ BInts W a n zs ∧ (n ≤ cap ∧ cap ≤ maxLen) := by
  obtain ⟨a0, len0, cap0, rfl⟩ := okWide_slice Try.underlying22 hv
  obtain ⟨fuel, hf⟩ := h
  rcases open_ints Try.underlying22 Try.underlying5 (by kernel_rfl) hf with ⟨hcs, _⟩ | ⟨x, l, c, zs, hcs, _, hl, hm, hz, _, hcell, hwz⟩
  · simp [Value.cells] at hcs
    obtain ⟨rfl, rfl, rfl⟩ := hcs
    exact ⟨none, 0, 0, [], rfl, ⟨rfl, fun i hi => by omega, fun i => by simp⟩, by omega, by unfold maxLen; omega⟩
  · simp [Value.cells] at hcs
    obtain ⟨rfl, rfl, rfl⟩ := hcs
    have hz' : zs.length = cap0 := by simpa using hz
    refine ⟨some x, len0, cap0, zs.take len0, rfl, ⟨by rw [List.length_take]; omega, fun i hi => ?_, fun i => ?_⟩, hl, hm⟩
    · obtain ⟨b, off, spot⟩ := x
      have hc0 := hcell 0 (by omega)
      have hspot : spot = none := by simpa [Addr.add] using World.cell?_spot hc0
      subst hspot
      refine ⟨b, off, rfl, ?_⟩
      have hc := hcell i (by omega)
      have : W.cell? ⟨b, off + i, none⟩ = some (.int .u8 (zs.getD i 0)) := by
        by_cases h0 : i = 0
        · subst h0; simpa [Addr.add] using hc
        · simpa [Addr.add, h0] using hc
      rw [this]
      simp [hi]
    · by_cases hi : i < (zs.take len0).length
      · rw [List.getElem?_eq_getElem hi]
        have := hwz _ (List.mem_of_mem_take (List.getElem_mem hi))
        simpa [Lit.wf, IntKind.min, IntKind.max, IntKind.signed, IntKind.bits] using this
      · rw [List.getElem?_eq_none (by omega)]
        simp

theorem endCode_isR (x : List Int) : endCode x = 1 ∨ endCode x = 3 := by unfold endCode; split <;> simp
theorem runCode_notR {N : Nat} {ls : List LV} {p : Nat} {V : List Int} {q : Nat} {U : List Int} (h : runB N ls p V q U = true) : ¬ runCode N ls p V q U = 0 := by
  unfold runCode
  rw [if_pos h]
  have := endCode_isR (runL U ls V).2.1
  split <;> omega
theorem ownB_bo {W : World} {G : Nat} {f : Nat → Bool} (h : OwnB W G f) : Bo W (some ⟨G, 0, none⟩) 3 f := ⟨Nat.le_refl _, fun _ => ⟨G, rfl, fun v hv => by
  obtain ⟨cur, hc, hh⟩ := h
  rw [hc.cell v]
  exact hh v hv⟩⟩
theorem qReads (ad : Option Addr) (N cap : Nat) (ls : List LV) (w : World) (hN : ls.length = N) (hF : LinesG w ad ls) (hN1 : N ≤ 1048576) :
    Calls Try.prog 35 #[.slice ad N cap] w fun e w' => BoM w w' e (actB N ls) (readsR (rowsL ls)) :=
  (scatreads_any ad N cap ls w hN hF hN1).mono fun e w' h => by
    obtain ⟨b, ⟨hA, G, he⟩ | ⟨hA, G, cG, he, _, ho⟩⟩ := h
    · exact ⟨_, _, _, he, by rw [hA]; rfl, Bo.none _ _ _, b⟩
    · exact ⟨_, _, _, he, by rw [hA]; rfl, ownB_bo ho, b⟩
theorem pReads (ad : Option Addr) (N cap : Nat) (ls : List LV) (w : World) (hN : ls.length = N) (hF : LinesG w ad ls) (hN1 : N ≤ 1048576) :
    Calls Try.prog 33 #[.slice ad N cap] w fun e w' => BoM w w' e (actB N ls) (readsR (rowsL ls)) :=
  (icatreads_any ad N cap ls w hN hF hN1).mono fun e w' h => by
    obtain ⟨b, ⟨hA, he⟩ | ⟨hA, G, cG, he, _, ho⟩⟩ := h
    · exact ⟨_, _, _, he, by rw [hA]; rfl, Bo.none _ _ _, b⟩
    · exact ⟨_, _, _, he, by rw [hA]; rfl, ho.bo, b⟩
/-- What the walk keeps, behind the pots that are not read were turned. -/
structure Twin (N : Nat) (ls : List LV) (V O U : List Int) (F : Nat → Bool) : Prop where
  b : runB N ls 3 V 2 U = true
  v : V.length = 3
  o : O.length = 3
  d : ∀ k, k < ls.length → (ls[k]?.getD noLV).f.D.length = (ls[k]?.getD noLV).f.m
  f : readsR (rowsL ls) = F
  r : ∀ v, v < 3 → F v = true → O[v]?.getD 0 = V[v]?.getD 0

set_option maxHeartbeats 6400000 in
theorem walk (w : World) (a : Option Addr) (n cap : Nat) (A0 : List Int) (hA0 : BInts w a n A0) (hn : n ≤ cap ∧ cap ≤ maxLen) :
    Calls Try.prog 7 #[.slice a n cap] w fun e w' => e = .returned (.bool true) ∧ Below w.heap.size w w' := by
  obtain ⟨hn2, hn3⟩ := hn
  by_cases hn1 : n ≤ 1048576
  · go_enter Try.func7, Try.ntmps7
    go_wp2_with fail
    refine (dRun _ _ _ A0 _ hA0 hn2 hn1 hn3).mono ?_
    rintro ee w1 ⟨ad, N, c, ls, va, p, cv, V, ua, q, cu, A, base, rfl, b1, hG, hN, hN8, _, hV, hA, hp, hq⟩
    have BB := b1
    clear b1
    have HN : Hid (ls.length = N) := hN
    clear hN
    go_wp2_with fail
    refine (pReads _ _ _ ls _ HN.out hG (by omega)).mono ?_
    rintro ee w2 ⟨wa, wn, wc, rfl, hwn, hb1, b2⟩
    replace BB := BB.trans (b2.mono BB.size)
    replace hG := hG.below b2
    replace hV := hV.below b2
    replace hA := hA.below b2
    clear b2
    have HW : Hid (wn = mulN (actB N ls)) := hwn
    clear hwn
    go_wp2_with fail
    refine (qReads _ _ _ ls _ HN.out hG (by omega)).mono ?_
    rintro ee w3 ⟨xa, xn, xc, rfl, hxn, hb2, b3⟩
    replace BB := BB.trans (b3.mono BB.size)
    replace hG := hG.below b3
    replace hV := hV.below b3
    replace hA := hA.below b3
    replace hb1 := hb1.below b3
    clear b3
    obtain rfl : xn = wn := by rw [hxn, HW.out]
    clear hxn
    go_wp2_with fail
    refine (coB_any _ _ _ _ _ _ _ hb1 hb2).mono ?_
    rintro ee w4 ⟨rfl, b4⟩
    replace BB := BB.trans (b4.mono BB.size)
    replace hG := hG.below b4
    replace hV := hV.below b4
    replace hA := hA.below b4
    replace hb1 := hb1.below b4
    replace hb2 := hb2.below b4
    clear b4
    clear hb2
    go_wp2_with fail
    refine (pRun _ _ _ ls _ _ _ V _ _ _ A _ HN.out hG (by omega) hV hA (by omega) (by omega)).mono ?_
    rintro ee w5 ⟨a1, n1, c1, a2, n2, c2, rfl, htl, hpt, b5⟩
    replace BB := BB.trans (b5.mono BB.size)
    replace hG := hG.below b5
    replace hV := hV.below b5
    replace hA := hA.below b5
    replace hb1 := hb1.below b5
    clear b5
    have al := (Below.refl (w5).heap.size (w5)).alloc (Nat.le_refl _) (.cells #[.int .i64 (runCode N ls p V q A), .slice a1 n1 c1] 38)
    replace BB := BB.trans (al.mono BB.size)
    replace hG := hG.below al
    replace hV := hV.below al
    replace hA := hA.below al
    replace hb1 := hb1.below al
    replace htl := htl.below al
    replace hpt := hpt.below al
    clear al
    have q7 := Cel.new (w5) [.int .i64 (runCode N ls p V q A), .slice a1 n1 c1] 38
    cases hB : runB N ls p V q A
    · have ec : ((runCode N ls p V q A) == 0) = true := by rw [(run_no hB).1]; rfl
      have g7_0 := q7.cell 0
      have g7_1 := q7.cell 1
      simp only [List.getElem?_cons_zero, List.getElem?_cons_succ] at g7_0 g7_1
      go_wp2_with fail
      obtain ⟨W6, hW6⟩ : ∃ W, W = (w5).alloc (.cells #[.int .i64 (runCode N ls p V q A), .slice a1 n1 c1] 38) := ⟨_, rfl⟩
      rw [← hW6]
      rw [← hW6] at hG hV hA hb1 htl hpt q7 BB g7_0 g7_1
      clear hW6
      obtain ⟨X7, hX7⟩ : ∃ x, x = w5.heap.size := ⟨_, rfl⟩
      rw [← hX7]
      rw [← hX7] at q7 g7_0 g7_1
      clear hX7
      refine (coHolds_any _).mono ?_
      rintro ee w7 ⟨rfl, bh⟩
      clear g7_0 g7_1
      replace BB := BB.trans (bh.mono BB.size)
      replace hG := hG.below bh
      replace hV := hV.below bh
      replace hA := hA.below bh
      replace hb1 := hb1.below bh
      replace htl := htl.below bh
      replace hpt := hpt.below bh
      replace q7 := q7.below bh
      clear bh
      go_wp2
      go_ret
      exact ⟨rfl, BB⟩
    · have ec : ((runCode N ls p V q A) == 0) = false := by have h := runCode_notR hB; simpa using h
      have g7_0 := q7.cell 0
      have g7_1 := q7.cell 1
      simp only [List.getElem?_cons_zero, List.getElem?_cons_succ] at g7_0 g7_1
      go_upto_region 10 with fail
      obtain ⟨W6, hW6⟩ : ∃ W, W = (w5).alloc (.cells #[.int .i64 (runCode N ls p V q A), .slice a1 n1 c1] 38) := ⟨_, rfl⟩
      rw [← hW6]
      rw [← hW6] at hG hV hA hb1 htl hpt q7 BB g7_0 g7_1
      clear hW6
      obtain ⟨X7, hX7⟩ : ∃ x, x = w5.heap.size := ⟨_, rfl⟩
      rw [← hX7]
      rw [← hX7] at q7 g7_0 g7_1
      clear hX7
      clear g7_0 g7_1
      have h3 := runB_three hB
      obtain rfl : p = 3 := h3.1
      obtain rfl : q = 2 := h3.2.1
      obtain rfl : xn = 3 := by rw [HW.out, h3.2.2.2]; rfl
      obtain rfl : n2 = 3 := by rw [← hpt.1]; exact pots_three hB hV.1
      have HB : Hid (runB N ls 3 V 2 A = true) := hB
      have HA : Hid (actB N ls = true) := h3.2.2.2
      have n1b : n1 ≤ 1048576 := by rw [← htl.1]; have := runTells_le N ls 3 V 2 A; omega
      have HV : Hid (∀ i : Nat, -10000 ≤ V[i]?.getD 0 ∧ V[i]?.getD 0 ≤ 10000) := by
        have h := hB
        simp only [runB, Bool.and_eq_true] at h
        exact (okN_elim (by omega) h.1.2).2
      have HD : Hid (∀ k, k < ls.length → (ls[k]?.getD noLV).f.D.length = (ls[k]?.getD noLV).f.m) := fun k hk => by obtain ⟨_, _, _, _, h⟩ := hG k hk; exact h.D.1
      clear h3 hB HW ec
      obtain ⟨F, hF⟩ : ∃ F, readsR (rowsL ls) = F := ⟨_, rfl⟩
      have HF : Hid (readsR (rowsL ls) = F) := hF
      rw [hF] at hb1
      clear hF
      obtain ⟨RC, hRC⟩ : ∃ x, runCode N ls 3 V 2 A = x := ⟨_, rfl⟩
      have HRC : Hid (runCode N ls 3 V 2 A = RC) := hRC
      rw [hRC]
      rw [hRC] at q7
      clear hRC
      obtain ⟨TL, hTL⟩ : ∃ x, runTells N ls 3 V 2 A = x := ⟨_, rfl⟩
      have HTL : Hid (runTells N ls 3 V 2 A = TL) := hTL
      rw [hTL] at htl
      clear hTL
      obtain ⟨PX, hPX⟩ : ∃ x, runPots N ls 3 V 2 A = x := ⟨_, rfl⟩
      have HPX : Hid (runPots N ls 3 V 2 A = PX) := hPX
      rw [hPX] at hpt
      clear hPX
      have al := (Below.refl W6.heap.size W6).alloc (Nat.le_refl _) (.cells #[] 3)
      have o0 := World.ownsRow_lit (base := W6.heap.size) (e := 3) (size := 1) W6 #[] 0 (Nat.le_refl _) (by unfold maxLen; omega) rfl
      have hVa := hV.below al
      go_wp2_with (at_builtin; refine wpList_plain rfl (fun K hK => ?_); refine wp_copyG (.tmp 43) (.tmp 44) rfl W6.heap.size W6.heap.size va 3 cv V (by rfl) o0 (by rfl) hVa (by omega) (by omega) (by rw [World.size_alloc]; omega) (Nat.le_refl _) ?_)
      intro c8 B8 W1 hBn hTn ox hB8 hor
      refine hK _ _ ?_
      clear hK K
      have bz := al.trans hBn
      clear hBn hTn al o0 hVa hor
      go_wp2_with fail
      go_loopw [10] (fun i wr => ∃ (k : Nat) (O : List Int), k ≤ 3 ∧ i = .int .i64 k ∧ OwnX wr (some ⟨B8, 0, none⟩) B8 3 O ∧ Hid (∀ v, v < 3 → F v = true → O[v]?.getD 0 = V[v]?.getD 0) ∧ Below W6.heap.size W6 wr) (fun i _ => 3 - (intOf i).toNat)
      case atStart => exact ⟨0, V, by omega, rfl, ox, fun _ _ _ => rfl, bz⟩
      case round =>
        clear ox bz
        obtain ⟨k, O, hk, rfl, ox, HO, hb⟩ := hrel
        have hb0 := hb
        replace BB := BB.trans (hb.mono BB.size)
        replace hG := hG.below hb
        replace hV := hV.below hb
        replace hA := hA.below hb
        replace hb1 := hb1.below hb
        replace htl := htl.below hb
        replace hpt := hpt.below hb
        replace q7 := q7.below hb
        clear hb
        by_cases hlt : k < 3
        · have hk' : (k : Int) < 3 := by omega
          obtain ⟨G, rfl, hcB⟩ := hb1.c (by omega)
          obtain ⟨b3, o3, rfl, hcV⟩ := hV.pos (by omega)
          have d1 := hcB k hlt
          have d3 := hcV k hlt
          have d4 := ownx_cell ox hlt
          obtain ⟨d4, d5⟩ := d4
          have v1 := HV.out k
          obtain ⟨v1, v2⟩ := v1
          have ol := ox.1
          obtain ⟨M, hM⟩ : ∃ M : Int, Int.tmod (n : Int) 7 = M := ⟨_, rfl⟩
          have m0 : 0 ≤ M := by rw [← hM]; exact Int.tmod_nonneg _ (by omega)
          have m1 : M < 7 := by rw [← hM]; exact Int.tmod_lt_of_pos _ (by omega)
          generalize hvk : V[k]?.getD 0 = y at d3 v1 v2
          clear hcB hcV hb1 hpt htl hV hG hA q7 hp hq hN8 HV HD HB HA HF HRC HTL HPX HN n1b
          cases hf : F k
          · rw [hf] at d1
            go_wp2_with fail
            go_roundw
            case rel => exact ⟨k + 1, _, by omega, by go_num, ownx_own ox hlt _, fun v hv h => by
              by_cases e : v = k
              · subst e; rw [hf] at h; cases h
              · rw [List.getElem?_set_ne (fun x => e x.symm)]; exact HO.out v hv h, hb0.setCell (by simp only []; omega) _⟩
            case measure => simp [intOf]; omega
          · rw [hf] at d1
            clear d3 d4 d5 hM m0 m1
            go_wp2
            go_roundw
            case rel => exact ⟨k + 1, O, by omega, by go_num, ox, HO, hb0⟩
            case measure => simp [intOf]; omega
        · have hk' : ¬ (k : Int) < 3 := by omega
          obtain ⟨wq, hwq⟩ : ∃ x, x = wr := ⟨_, rfl⟩
          subst hwq
          have HT : Hid (Twin N ls V O A F) := ⟨HB.out, hV.1, ox.1, HD.out, HF.out, HO.out⟩
          have hO := ox.ints
          clear ox HO hb0 HV HD HB HF hB8 hb1 hk hk'
          have g7_0 := q7.cell 0
          have g7_1 := q7.cell 1
          simp only [List.getElem?_cons_zero, List.getElem?_cons_succ] at g7_0 g7_1
          go_wp2_with fail
          refine (pRun _ _ _ ls _ _ _ O _ _ _ A _ HN.out hG (by omega) hO hA (by omega) (by omega)).mono ?_
          rintro ee w7 ⟨a3, n3, c3, a4, n4, c4, rfl, hul, hqt, b6⟩
          clear g7_0 g7_1
          replace BB := BB.trans (b6.mono BB.size)
          replace hG := hG.below b6
          replace hV := hV.below b6
          replace hA := hA.below b6
          replace htl := htl.below b6
          replace hpt := hpt.below b6
          replace hO := hO.below b6
          replace q7 := q7.below b6
          clear b6
          have n3b : n3 ≤ 1048576 := by rw [← hul.1]; have := runTells_le N ls 3 O 2 A; omega
          obtain ⟨RD, hRD⟩ : ∃ x, runCode N ls 3 O 2 A = x := ⟨_, rfl⟩
          have HRD : Hid (runCode N ls 3 O 2 A = RD) := hRD
          rw [hRD]
          clear hRD
          obtain ⟨UL, hUL⟩ : ∃ x, runTells N ls 3 O 2 A = x := ⟨_, rfl⟩
          have HUL : Hid (runTells N ls 3 O 2 A = UL) := hUL
          rw [hUL] at hul
          clear hUL
          obtain ⟨PY, hPY⟩ : ∃ x, runPots N ls 3 O 2 A = x := ⟨_, rfl⟩
          have HPY : Hid (runPots N ls 3 O 2 A = PY) := hPY
          rw [hPY] at hqt
          clear hPY
          have al := (Below.refl (w7).heap.size (w7)).alloc (Nat.le_refl _) (.cells #[.int .i64 RD, .slice a3 n3 c3] 38)
          replace BB := BB.trans (al.mono BB.size)
          replace hG := hG.below al
          replace hV := hV.below al
          replace hA := hA.below al
          replace htl := htl.below al
          replace hpt := hpt.below al
          replace hO := hO.below al
          replace hul := hul.below al
          replace hqt := hqt.below al
          replace q7 := q7.below al
          clear al
          have q11 := Cel.new (w7) [.int .i64 RD, .slice a3 n3 c3] 38
          have g7_0 := q7.cell 0
          have g7_1 := q7.cell 1
          have g11_0 := q11.cell 0
          have g11_1 := q11.cell 1
          simp only [List.getElem?_cons_zero, List.getElem?_cons_succ] at g7_0 g7_1 g11_0 g11_1
          go_wp2_with fail
          obtain ⟨W8, hW8⟩ : ∃ W, W = (w7).alloc (.cells #[.int .i64 RD, .slice a3 n3 c3] 38) := ⟨_, rfl⟩
          rw [← hW8]
          rw [← hW8] at hG hV hA htl hpt hO hul hqt q7 q11 BB g7_0 g7_1 g11_0 g11_1
          clear hW8
          obtain ⟨X11, hX11⟩ : ∃ x, x = w7.heap.size := ⟨_, rfl⟩
          rw [← hX11]
          rw [← hX11] at q11 g11_0 g11_1
          clear hX11
          refine (pRows _ _ _ ls _ HN.out hG (by omega)).mono ?_
          rintro ee w9 ⟨ra, rn, rc, rfl, hrn, hr, b7⟩
          clear g7_0 g7_1 g11_0 g11_1
          replace BB := BB.trans (b7.mono BB.size)
          replace hG := hG.below b7
          replace hV := hV.below b7
          replace hA := hA.below b7
          replace htl := htl.below b7
          replace hpt := hpt.below b7
          replace hO := hO.below b7
          replace hul := hul.below b7
          replace hqt := hqt.below b7
          replace q7 := q7.below b7
          replace q11 := q11.below b7
          clear b7
          have HR : Hid ((rowsL ls).length = rn ∧ rn ≤ 8 ∧ ∀ r ∈ rowsL ls, RowFit r ∧ (r.stop = true → r.adds.length = 0 ∧ r.tells.length = 0) ∧ (r.stop = false → r.adds.length = 3)) := ⟨by rw [hrn, rowsB_yes HA.out], by rw [hrn]; exact rowsB_le HN.out, fun r hr => ⟨rowsB_fit HN.out hG r (by rw [rowsB_yes HA.out]; exact hr), goW_sh ls 7 0 way0 r hr⟩⟩
          rw [rowsB_yes HA.out] at hr
          clear hrn HA hG HN
          have g7_0 := q7.cell 0
          have g7_1 := q7.cell 1
          have g11_0 := q11.cell 0
          have g11_1 := q11.cell 1
          simp only [List.getElem?_cons_zero, List.getElem?_cons_succ] at g7_0 g7_1 g11_0 g11_1
          go_wp2_with fail
          clear g7_0 g7_1 g11_0 g11_1
          go_loopw [14] (fun i wr => ∃ j : Nat, j ≤ rn ∧ i = .int .i64 j ∧ Below w9.heap.size w9 wr) (fun i _ => rn - (intOf i).toNat)
          case atStart => exact ⟨0, by omega, rfl, Below.refl _ _⟩
          case round =>
            obtain ⟨j, hj, rfl, hb⟩ := hrel
            have hb0 := hb
            replace BB := BB.trans (hb.mono BB.size)
            replace hV := hV.below hb
            replace hA := hA.below hb
            replace htl := htl.below hb
            replace hpt := hpt.below hb
            replace hO := hO.below hb
            replace hul := hul.below hb
            replace hqt := hqt.below hb
            replace hr := hr.below hb
            replace q7 := q7.below hb
            replace q11 := q11.below hb
            clear hb
            by_cases hlt2 : j < rn
            · have rn8 : rn ≤ 8 := HR.out.2.1
              have hj' : (j : Int) < (rn : Int) := by omega
              have hjl : j < (rowsL ls).length := by rw [HR.out.1]; exact hlt2
              obtain ⟨b, ga, gc, aa, ac, ta, tc, rfl, p0, p1, p2, p3, f0, f1, f2⟩ := hr j hjl
              have hm : (rowsL ls)[j]?.getD noR ∈ rowsL ls := by rw [List.getElem?_eq_getElem hjl]; exact List.getElem_mem _
              have hf := HR.out.2.2 _ hm
              obtain ⟨r, hre⟩ : ∃ r, (rowsL ls)[j]?.getD noR = r := ⟨_, rfl⟩
              rw [hre] at p0 p1 p2 p3 f0 f1 f2 hm hf
              clear hre hjl hr
              obtain ⟨gs, us, ts, RA, hB, eg, _, _⟩ := row_rowAt hf.1 hf.2 f0 f1 f2
              clear f0 f1 f2 hB hf
              have HX : Hid (fitG V A r = true → fitG O A r = true → RC = 1 → RD = 1 → (∀ v, v < 3 → PX[v]?.getD 0 - V[v]?.getD 0 = PY[v]?.getD 0 - O[v]?.getD 0) ∧ TL = UL ∧ PX.length = 3 ∧ PY.length = 3) := fun g1 g2 c1 c2 => by
                have h := reads_same HT.out.b HT.out.v HT.out.o HT.out.d (fun v hv hh => HT.out.r v hv (by rw [← HT.out.f]; exact hh)) hm g1 g2 (HRC.out.trans c1) (HRD.out.trans c2)
                rw [HPX.out, HPY.out, HTL.out, HUL.out] at h
                exact h
              have HEG : Hid (gs.map FV.frm = r.guards) := eg
              clear eg hm HR
              obtain ⟨rg, ru, rt, st⟩ := r
              dsimp only at p0 p1 p2 p3 RA
              generalize rg.length = G at p0 RA
              generalize ru.length = L at p1 RA
              generalize rt.length = T at p2 RA
              have PC : Hid (wr.cell? ⟨b, j * 4, none⟩ = some (.slice ga G gc) ∧ wr.cell? ⟨b, j * 4 + 1, none⟩ = some (.slice aa L ac) ∧ wr.cell? ⟨b, j * 4 + 2, none⟩ = some (.slice ta T tc) ∧ wr.cell? ⟨b, j * 4 + 3, none⟩ = some (.bool st)) := ⟨p0, p1, p2, p3⟩
              obtain ⟨wp, hwp⟩ : ∃ x, x = wr := ⟨_, rfl⟩
              subst hwp
              go_wp2_with fail
              refine (ifits_any _ _ _ gs _ _ _ us _ _ _ ts st _ _ _ V _ _ _ A _ RA hV hA (by omega) (by omega)).mono ?_
              rintro ee w10 ⟨rfl, b8⟩
              have bp := b8
              replace BB := BB.trans (b8.mono BB.size)
              replace hb0 := hb0.trans (b8.mono hb0.size)
              replace hV := hV.below b8
              replace hA := hA.below b8
              replace htl := htl.below b8
              replace hpt := hpt.below b8
              replace hO := hO.below b8
              replace hul := hul.below b8
              replace hqt := hqt.below b8
              replace RA := RA.below b8
              replace q7 := q7.below b8
              replace q11 := q11.below b8
              clear b8
              clear p0 p1 p2 p3
              have p0 := (bp.cell (p := ⟨b, j * 4, none⟩) (block_lt PC.out.1)).trans PC.out.1
              have p1 := (bp.cell (p := ⟨b, j * 4 + 1, none⟩) (block_lt PC.out.1)).trans PC.out.2.1
              have p2 := (bp.cell (p := ⟨b, j * 4 + 2, none⟩) (block_lt PC.out.1)).trans PC.out.2.2.1
              have p3 := (bp.cell (p := ⟨b, j * 4 + 3, none⟩) (block_lt PC.out.1)).trans PC.out.2.2.2
              clear PC bp
              cases h1 : fitsB gs us ts L T st 3 2 V A
              · clear h1 HX HEG p0 p1 p2 p3
                go_wp2
                go_roundw
                case rel => exact ⟨j + 1, by omega, by go_num, hb0⟩
                case measure => simp [intOf]; omega
              · go_wp2_with fail
                refine (ifits_any _ _ _ gs _ _ _ us _ _ _ ts st _ _ _ O _ _ _ A _ RA hO hA (by omega) (by omega)).mono ?_
                rintro ee w11 ⟨rfl, b9⟩
                replace BB := BB.trans (b9.mono BB.size)
                replace hb0 := hb0.trans (b9.mono hb0.size)
                replace hV := hV.below b9
                replace hA := hA.below b9
                replace htl := htl.below b9
                replace hpt := hpt.below b9
                replace hO := hO.below b9
                replace hul := hul.below b9
                replace hqt := hqt.below b9
                replace RA := RA.below b9
                replace q7 := q7.below b9
                replace q11 := q11.below b9
                clear b9
                clear p0 p1 p2 p3 RA
                cases h2 : fitsB gs us ts L T st 3 2 O A
                · clear h2 HX HEG
                  go_wp2
                  go_roundw
                  case rel => exact ⟨j + 1, by omega, by go_num, hb0⟩
                  case measure => simp [intOf]; omega
                · have g7_0 := q7.cell 0
                  have g7_1 := q7.cell 1
                  have g11_0 := q11.cell 0
                  have g11_1 := q11.cell 1
                  simp only [List.getElem?_cons_zero, List.getElem?_cons_succ] at g7_0 g7_1 g11_0 g11_1
                  by_cases h3 : RC = 1
                  · by_cases h4 : RD = 1
                    · obtain ⟨HD2, rfl, hl3, hl4⟩ := HX.out (fits_fitG HEG.out h1) (fits_fitG HEG.out h2) h3 h4
                      subst h3
                      subst h4
                      clear h1 h2 HX HEG
                      obtain rfl : n4 = 3 := by rw [← hqt.1]; exact hl4
                      obtain rfl : n3 = n1 := by rw [← hul.1, ← htl.1]
                      have HZ : Hid (∀ v, v < 3 → PX[v]?.getD 0 - V[v]?.getD 0 = PY[v]?.getD 0 - O[v]?.getD 0) := HD2
                      clear HD2 hl3 hl4
                      go_wp2_with fail
                      clear g7_0 g7_1 g11_0 g11_1
                      go_loopw [15] (fun i wr => ∃ k : Nat, k ≤ 3 ∧ i = .int .i64 k ∧ Below w11.heap.size w11 wr) (fun i _ => 3 - (intOf i).toNat)
                      case atStart => exact ⟨0, by omega, rfl, Below.refl _ _⟩
                      case round =>
                        obtain ⟨k, hk, rfl, hb⟩ := hrel
                        have hbk := hb
                        replace BB := BB.trans (hb.mono BB.size)
                        replace hb0 := hb0.trans (hb.mono hb0.size)
                        replace hV := hV.below hb
                        replace hA := hA.below hb
                        replace htl := htl.below hb
                        replace hpt := hpt.below hb
                        replace hO := hO.below hb
                        replace hul := hul.below hb
                        replace hqt := hqt.below hb
                        replace q7 := q7.below hb
                        replace q11 := q11.below hb
                        clear hb
                        by_cases hlt3 : k < 3
                        · have hk' : (k : Int) < 3 := by omega
                          obtain ⟨b1, o1, rfl, hc1⟩ := hpt.pos (by omega)
                          obtain ⟨b2, o2, rfl, hc2⟩ := hV.pos (by omega)
                          obtain ⟨b3, o3, rfl, hc3⟩ := hqt.pos (by omega)
                          obtain ⟨b4, o4, e4, hc4⟩ := hO.pos (by omega)
                          simp only [Option.some.injEq, Addr.mk.injEq] at e4
                          obtain ⟨rfl, rfl, _⟩ := e4
                          have d1 := hc1 k hlt3
                          have d2 := hc2 k hlt3
                          have d3 := hc3 k hlt3
                          have d4 := hc4 k hlt3
                          rw [Nat.zero_add] at d4
                          have hz := HZ.out k hlt3
                          have hq1 : (wrap64 (PX[k]?.getD 0 - V[k]?.getD 0) != wrap64 (PY[k]?.getD 0 - O[k]?.getD 0)) = false := by rw [hz]; simp
                          clear hz
                          clear HZ hc1 hc2 hc3 hc4 hpt hV hqt hO htl hul hA q7 q11
                          go_wp2_with fail
                          go_quiet (fail)
                          go_wp2
                          go_roundw
                          case rel => exact ⟨k + 1, by omega, by go_num, below_drewN hbk _⟩
                          case measure => simp [intOf]; omega
                        · have hk' : ¬ (k : Int) < 3 := by omega
                          have g7_0 := q7.cell 0
                          have g7_1 := q7.cell 1
                          have g11_0 := q11.cell 0
                          have g11_1 := q11.cell 1
                          simp only [List.getElem?_cons_zero, List.getElem?_cons_succ] at g7_0 g7_1 g11_0 g11_1
                          go_wp2_with fail
                          refine (coI_any _ _ _ _ _ _ TL TL _ htl hul n1b n1b).mono ?_
                          rintro ee w12 ⟨rfl, bw⟩
                          rw [eqB_refl]
                          clear g7_0 g7_1 g11_0 g11_1
                          replace BB := BB.trans (bw.mono BB.size)
                          replace hb0 := hb0.trans (bw.mono hb0.size)
                          replace hV := hV.below bw
                          replace hA := hA.below bw
                          replace htl := htl.below bw
                          replace hpt := hpt.below bw
                          replace hO := hO.below bw
                          replace hul := hul.below bw
                          replace hqt := hqt.below bw
                          replace q7 := q7.below bw
                          replace q11 := q11.below bw
                          clear bw
                          go_wp2
                          go_ret
                          exact ⟨rfl, BB⟩
                    · have e1 : (RC == 1) = true := by rw [h3]; rfl
                      have e2 : (RD == 1) = false := by simpa using h4
                      clear h3 h4 HX HEG
                      go_wp2
                      go_roundw
                      case rel => exact ⟨j + 1, by omega, by go_num, hb0⟩
                      case measure => simp [intOf]; omega
                  · have e1 : (RC == 1) = false := by simpa using h3
                    clear h3 HX HEG
                    go_wp2
                    go_roundw
                    case rel => exact ⟨j + 1, by omega, by go_num, hb0⟩
                    case measure => simp [intOf]; omega
            · have hj' : ¬ (j : Int) < (rn : Int) := by omega
              go_wp2
              go_ret
              exact ⟨rfl, BB⟩
  · go_enter Try.func7, Try.ntmps7
    go_wp2
    go_ret
    exact ⟨rfl, Below.refl _ _⟩

/-! ### The row's step -/
set_option maxRecDepth 100000 in
theorem lifted (os : Os) (started : os.Started) (H : Type) (enc : TypeId × Value → H) :
    ReturnsInHanded {} Try.checked os 7 .any (Rows.fnCatReadsSpec.pre6 enc Try.prog Try.f7 Rows.fnCatReadsRow.domain false) (Rows.fnCatReadsSpec.post enc Try.prog Try.f7 false true false false) := by
  refine returnsInHanded_of_change (C := Try.checked) own started (by kernel_rfl) Try.func7
    (ChangeSpec.witness6 (enc := enc) (C := Try.checked) false ⟨#[], #[.slice none 0 0], []⟩ 8 (by kernel_rfl) (by kernel_rfl) (by kernel_rfl) (by kernel_rfl)) ?_
  intro W base args ds gs before hval0 hW hcnd _
  have hval : ∀ (j : Nat) t v, Try.f7.params[j]? = some t → args[j]? = some v → Value.okWide Try.prog W .any base t v := hval0
  have hW' := hW
  obtain ⟨p, q, hA0, hV, rfl, hfz, hnd⟩ := hW
  have hA : DataW.TrodAll enc Try.prog W 0 (fun _ => true) true Try.f7.params.toList args.toList ds p := hA0
  rw [Try.params7] at hA hval
  obtain ⟨v0, vs0, d0, ds0, p0, q0, hargs, rfl, rfl, h0, r0⟩ := trodAll_cons hA
  obtain ⟨rfl, rfl, rfl⟩ := trodAll_nil r0
  obtain rfl : args = #[v0] := by cases args; simp_all
  obtain ⟨rfl, rfl⟩ := trodVars_none hV
  have k0 := h0
  have lt0 : ∀ x ∈ p0, x.block < W.heap.size := by obtain ⟨m, hm⟩ := k0; exact DataW.trod_lt m _ _ _ hm
  obtain ⟨a0, n0, cap0, C0, rfl, hC0, hn0⟩ := open_bytesT (hval 0 22 v0 rfl rfl) h0
  clear hA0 hval0
  refine (walk W a0 n0 cap0 C0 hC0 hn0).mono fun e W' ⟨he, bel⟩ => ?_
  subst he
  exact ⟨_, rfl, _, _, _, [], _, [], hW', trodAll_mk1 (shut_bool Try.underlying4 _), (trodAll_cons_mk (Below.trod laidOut (by kernel_rfl) (of_decide_eq_true (by kernel_rfl)) k0 bel lt0) trodAll_mk0), rfl, bel.frame _, fun h => by cases h⟩

theorem over : Rows.fnCatReadsRow.holds Try.pinned (OpenSpec.ofChange Rows.fnCatReadsSpec) :=
  OpenClaim.holds_of_wide 7 Try.f7 rfl rfl rfl rfl rfl rfl rfl ⟨rfl, rfl, rfl, rfl, rfl⟩ rfl rfl rfl rfl rfl (by kernel_rfl) Try.func7 (by kernel_rfl)
    (of_decide_eq_true (by kernel_rfl)) (by unfold Func.isWrapper; first | (rw [if_pos (by decide +kernel)]; kernel_rfl) | (rw [if_neg (by decide +kernel)]; exact ⟨rfl, rfl⟩))
    (fun os started H enc _ => lifted os started H enc)

end Go.Proofs.Ytjggppnffkcmbaa.fnCatReads
namespace Go.Proofs.Ytjggppnffkcmbaa
/-- The statement. -/
theorem fnCatReads_holds : Rows.FnCatReadsSaid := fnCatReads.over
#print axioms fnCatReads_holds
end Go.Proofs.Ytjggppnffkcmbaa
