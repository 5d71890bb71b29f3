/-
  For all bytes FnRowsOne returns true, and what came in reads behind the call as it did. No condition. (there is one way, and it is the act)
-/
import Derived.Test.YtkpnhclaidcbdaaGreatJRowsOneB
import Derived.Test.YtkpnhclaidcbdaaGreatJRowsOneC
import Derived.Test.YtkpnhclaidcbdaaGreatJRowsOneD
import Derived.Test.YtkpnhclaidcbdaaGreatJRowsOneA
import Derived.Test.YtkpnhclaidcbdaaGreatOpen
namespace Go.Proofs.YtkpnhclaidcbdaaGreat.fnRowsOne
open Go.ChangeShapes Go.WideShapes Go.ChangeAt Go.RowKit
set_option linter.unusedVariables false
set_option maxRecDepth 100000

theorem open_bytesT {H : Type} {enc : TypeId × Value → H} {W : World} {r : Reach} {b0 : Nat} {v : Value} {d : DataW H} {p : List MemPlace}
    (hv : Value.okWide Tryz.prog W r b0 22 v) (h : DataW.Trod enc Tryz.prog W 0 (fun _ => true) true 22 v d p) : ∃ a n cap zs, v = .slice a n cap ∧ BInts W a n zs ∧ (n ≤ cap ∧ cap ≤ maxLen) := by
  obtain ⟨a0, len0, cap0, rfl⟩ := okWide_slice Tryz.underlying22 hv
  obtain ⟨fuel, hf⟩ := h
  rcases open_ints Tryz.underlying22 Tryz.underlying5 (by kernel_rfl) hf with ⟨hcs, _⟩ | ⟨x, l, c, zs, hcs, _, hl, hm, hz, _, hcell, hwz⟩
  · simp [Value.cells] at hcs
    obtain ⟨rfl, rfl, rfl⟩ := hcs
    exact ⟨none, 0, 0, [], rfl, ⟨rfl, fun i hi => by omega, fun i => by simp⟩, by omega, by unfold maxLen; omega⟩
  · simp [Value.cells] at hcs
    obtain ⟨rfl, rfl, rfl⟩ := hcs
    have hz' : zs.length = cap0 := by simpa using hz
    refine ⟨some x, len0, cap0, zs.take len0, rfl, ⟨by rw [List.length_take]; omega, fun i hi => ?_, fun i => ?_⟩, hl, hm⟩
    · obtain ⟨b, off, spot⟩ := x
      have hc0 := hcell 0 (by omega)
      have hspot : spot = none := by simpa [Addr.add] using World.cell?_spot hc0
      subst hspot
      refine ⟨b, off, rfl, ?_⟩
      have hc := hcell i (by omega)
      have : W.cell? ⟨b, off + i, none⟩ = some (.int .u8 (zs.getD i 0)) := by
        by_cases h0 : i = 0
        · subst h0; simpa [Addr.add] using hc
        · simpa [Addr.add, h0] using hc
      rw [this]
      simp [hi]
    · by_cases hi : i < (zs.take len0).length
      · rw [List.getElem?_eq_getElem hi]
        have := hwz _ (List.mem_of_mem_take (List.getElem_mem hi))
        simpa [Lit.wf, IntKind.min, IntKind.max, IntKind.signed, IntKind.bits] using this
      · rw [List.getElem?_eq_none (by omega)]
        simp

theorem zip_ends {g : FV → Int} {h : Frm → Int} (hgh : ∀ f : FV, h f.frm = g f) {V : List Int} {us : List FV} (hV : V.length = 3) (hu : us.length = 3) : List.zipWith (· + ·) V (us.map g) = (List.range 3).map fun v => V[v]?.getD 0 + h ((us.map FV.frm)[v]?.getD noX) := by
  match V, hV, us, hu with
  | [a, b, c], _, [x, y, z], _ =>
    show [a + g x, b + g y, c + g z] = [a + h x.frm, b + h y.frm, c + h z.frm]
    rw [hgh, hgh, hgh]
theorem do_run {N : Nat} {ls : List LV} {V U : List Int} {r : RowM} {gs us ts : List FV} (h : runB N ls 3 V 2 U = true) (hV : V.length = 3) (hD : ∀ k, k < ls.length → (ls[k]?.getD noLV).f.D.length = (ls[k]?.getD noLV).f.m) (hm : r ∈ rowsL ls) (hf : fitG V U r = true)
    (hr : rowB gs us ts r.adds.length r.tells.length r.stop = true) (eu : us.map FV.frm = r.adds) (et : ts.map FV.frm = r.tells) :
    doCode gs us ts r.adds.length r.tells.length r.stop 3 2 V U = runCode N ls 3 V 2 U ∧ doTells gs us ts r.adds.length r.tells.length r.stop 3 2 V U = runTells N ls 3 V 2 U ∧ doPots gs us ts r.adds.length r.tells.length r.stop 3 2 V U = runPots N ls 3 V 2 U := by
  have h3 := runB_three h
  have hw := way_is hV h3.2.2.1 hD hm hf
  have h' := h
  simp only [runB, Bool.and_eq_true] at h'
  have hb : doB gs us ts r.adds.length r.tells.length r.stop 3 2 V U = true := by
    simp only [doB, hr, h'.1.2, h'.2, Bool.and_self]
  cases hs : r.stop
  · rw [hs] at hb hr
    obtain ⟨a1, a2, a3⟩ := do_go hb
    obtain ⟨e1, e2⟩ := hw.ad hs
    have hst : (runL U ls V).1 = false := by rw [hw.st, hs]
    have hx : doX us V U = rowEnd V U r := by
      have hl : r.adds.length = 3 := rowB_three hr
      have hl2 : us.length = 3 := by rw [← hl, ← eu, List.length_map]
      rw [doX, rowEnd, ← eu]
      exact zip_ends (g := atF V U) (h := atX V U) (fun f => rfl) hV hl2
    have ht : ts.map (atF V U) = r.tells.map (atX V U) := by rw [← et, List.map_map]; rfl
    rw [a1, a2, a3, hx, ht, ← e1, ← e2]
    simp only [runCode, runTells, runPots, h, hst, if_true, Bool.false_eq_true, if_false, and_self]
  · rw [hs] at hb
    obtain ⟨a1, a2, a3⟩ := do_stop hb
    have hst : (runL U ls V).1 = true := by rw [hw.st, hs]
    rw [a1, a2, a3]
    simp only [runCode, runTells, runPots, h, hst, if_true, and_self]
theorem cnt_succ {α : Type} {P : α → Bool} {xs : List α} {k : Nat} (d : α) (hk : k < xs.length) : (xs.take (k + 1)).countP P = (xs.take k).countP P + (if P (xs[k]?.getD d) then 1 else 0) := by
  rw [List.take_succ_eq_append_getElem hk, List.countP_append, List.getElem?_eq_getElem hk]
  simp [List.countP_cons]
theorem cnt_one {N : Nat} {ls : List LV} {V U : List Int} (h : runB N ls 3 V 2 U = true) (hV : V.length = 3) (hD : ∀ k, k < ls.length → (ls[k]?.getD noLV).f.D.length = (ls[k]?.getD noLV).f.m) : (rowsL ls).countP (fitG V U) = 1 := by
  obtain ⟨r, hr, _⟩ := runL_way (U := U) hV (runB_three h).2.2.1 hD
  rw [List.countP_eq_length_filter, hr]
  rfl
/-- What the walk keeps of the act and its ways. -/
structure Wo (N : Nat) (ls : List LV) (V U : List Int) (rn : Nat) : Prop where
  n : ls.length = N
  b : runB N ls 3 V 2 U = true
  v : V.length = 3
  d : ∀ k, k < ls.length → (ls[k]?.getD noLV).f.D.length = (ls[k]?.getD noLV).f.m
  l : (rowsL ls).length = rn
  f : ∀ r ∈ rowsL ls, RowFit r ∧ (r.stop = true → r.adds.length = 0 ∧ r.tells.length = 0) ∧ (r.stop = false → r.adds.length = 3)
theorem pDo (g : Option Addr) (G cg : Nat) (gs : List FV) (a : Option Addr) (A ca : Nat) (ls : List FV) (t : Option Addr) (T ct : Nat) (ts : List FV) (st : Bool) (v : Option Addr) (p cv : Nat) (V : List Int) (u : Option Addr) (q cu : Nat) (U : List Int) (w : World) (h : RowAt w g G gs a A ls t T ts) (hV : Ints w v p V) (hU : Ints w u q U) (hp : p ≤ 1048576) (hq : q ≤ 1048576) :
    Calls Tryz.prog 18 #[rowV g G cg a A ca t T ct st, .slice v p cv, .slice u q cu] w fun e w' => RunM w w' e (doCode gs ls ts A T st p q V U) (doTells gs ls ts A T st p q V U) (doPots gs ls ts A T st p q V U) :=
  (idoing_any g G cg gs a A ca ls t T ct ts st v p cv V u q cu U w h hV hU hp hq).mono fun e w' h => RunM.of h

set_option maxHeartbeats 6400000 in
theorem walk (w : World) (a : Option Addr) (n cap : Nat) (A0 : List Int) (hA0 : BInts w a n A0) (hn : n ≤ cap ∧ cap ≤ maxLen) :
    Calls Tryz.prog 3 #[.slice a n cap] w fun e w' => e = .returned (.bool true) ∧ Below w.heap.size w w' := by
  obtain ⟨hn2, hn3⟩ := hn
  by_cases hn1 : n ≤ 1048576
  · go_enter Tryz.func3, Tryz.ntmps3
    go_wp2_with fail
    refine (dRun _ _ _ A0 _ hA0 hn2 hn1 hn3).mono ?_
    rintro ee w1 ⟨ad, N, c, ls, va, p, cv, V, ua, q, cu, A, base, rfl, b1, hG, hN, hN8, _, hV, hA, hp, hq⟩
    have BB := b1
    clear b1
    have HN : Hid (ls.length = N) := hN
    clear hN
    go_wp2_with fail
    refine (pRows _ _ _ ls _ HN.out hG (by omega)).mono ?_
    rintro ee w2 ⟨ra, rn, rc, rfl, hrn, hr, b2⟩
    replace BB := BB.trans (b2.mono BB.size)
    replace hG := hG.below b2
    replace hV := hV.below b2
    replace hA := hA.below b2
    clear b2
    have HR : Hid (rn = (rowsB N ls).length) := hrn
    clear hrn
    go_wp2_with fail
    refine (qRows _ _ _ ls _ HN.out hG (by omega)).mono ?_
    rintro ee w3 ⟨sa, sn, sc, rfl, hsn, hs, b3⟩
    replace BB := BB.trans (b3.mono BB.size)
    replace hG := hG.below b3
    replace hV := hV.below b3
    replace hA := hA.below b3
    replace hr := hr.below b3
    clear b3
    obtain rfl : sn = rn := by rw [hsn, HR.out]
    clear hsn
    have hr8 : sn ≤ 8 := by rw [HR.out]; exact rowsB_le HN.out
    go_wp2_with fail
    refine (coRs_any _ _ _ _ _ _ _ HR.out.symm (by omega) (rowsB_fit HN.out hG) hr hs).mono ?_
    rintro ee w4 ⟨rfl, b4⟩
    replace BB := BB.trans (b4.mono BB.size)
    replace hG := hG.below b4
    replace hV := hV.below b4
    replace hA := hA.below b4
    replace hr := hr.below b4
    replace hs := hs.below b4
    clear b4
    clear hs
    go_wp2_with fail
    refine (sact_any _ _ _ ls _ HN.out hG (by omega)).mono ?_
    rintro ee w5 ⟨rfl, b5⟩
    replace BB := BB.trans (b5.mono BB.size)
    replace hG := hG.below b5
    replace hV := hV.below b5
    replace hA := hA.below b5
    replace hr := hr.below b5
    clear b5
    cases hB : actB N ls
    · have HB : Hid (actB N ls = false) := hB
      clear hB
      clear hr
      go_wp2_with fail
      refine (iact_any _ _ _ ls _ HN.out hG (by omega)).mono ?_
      rintro ee w6 ⟨rfl, b6⟩
      rw [HB.out]
      replace BB := BB.trans (b6.mono BB.size)
      replace hG := hG.below b6
      replace hV := hV.below b6
      replace hA := hA.below b6
      clear b6
      go_wp2_with fail
      refine (sact_any _ _ _ ls _ HN.out hG (by omega)).mono ?_
      rintro ee w7 ⟨rfl, b6⟩
      rw [HB.out]
      replace BB := BB.trans (b6.mono BB.size)
      replace hG := hG.below b6
      replace hV := hV.below b6
      replace hA := hA.below b6
      clear b6
      go_wp2_with fail
      refine (coHolds_any _).mono ?_
      rintro ee w8 ⟨rfl, bh⟩
      replace BB := BB.trans (bh.mono BB.size)
      replace hG := hG.below bh
      replace hV := hV.below bh
      replace hA := hA.below bh
      clear bh
      go_wp2
      go_ret
      exact ⟨rfl, BB⟩
    · have HB : Hid (actB N ls = true) := hB
      clear hB
      go_wp2_with fail
      refine (sval_any _ _ _ V _ hV (by omega)).mono ?_
      rintro ee v6 ⟨rfl, rfl⟩
      cases hv : okN 3 10000 p V
      · clear hv
        clear hr
        go_wp2_with fail
        refine (iact_any _ _ _ ls _ HN.out hG (by omega)).mono ?_
        rintro ee w7 ⟨rfl, b7⟩
        rw [HB.out]
        replace BB := BB.trans (b7.mono BB.size)
        replace hG := hG.below b7
        replace hV := hV.below b7
        replace hA := hA.below b7
        clear b7
        go_wp2_with fail
        refine (sact_any _ _ _ ls _ HN.out hG (by omega)).mono ?_
        rintro ee w8 ⟨rfl, b7⟩
        rw [HB.out]
        replace BB := BB.trans (b7.mono BB.size)
        replace hG := hG.below b7
        replace hV := hV.below b7
        replace hA := hA.below b7
        clear b7
        go_wp2_with fail
        refine (coHolds_any _).mono ?_
        rintro ee w9 ⟨rfl, bh⟩
        replace BB := BB.trans (bh.mono BB.size)
        replace hG := hG.below bh
        replace hV := hV.below bh
        replace hA := hA.below bh
        clear bh
        go_wp2
        go_ret
        exact ⟨rfl, BB⟩
      · have HV : Hid (okN 3 10000 p V = true) := hv
        clear hv
        go_wp2_with fail
        refine (sarg_any _ _ _ A _ hA (by omega)).mono ?_
        rintro ee v7 ⟨rfl, rfl⟩
        cases ha : okN 2 9 q A
        · clear ha
          clear hr
          go_wp2_with fail
          refine (iact_any _ _ _ ls _ HN.out hG (by omega)).mono ?_
          rintro ee w8 ⟨rfl, b7⟩
          rw [HB.out]
          replace BB := BB.trans (b7.mono BB.size)
          replace hG := hG.below b7
          replace hV := hV.below b7
          replace hA := hA.below b7
          clear b7
          go_wp2_with fail
          refine (sact_any _ _ _ ls _ HN.out hG (by omega)).mono ?_
          rintro ee w9 ⟨rfl, b7⟩
          rw [HB.out]
          replace BB := BB.trans (b7.mono BB.size)
          replace hG := hG.below b7
          replace hV := hV.below b7
          replace hA := hA.below b7
          clear b7
          go_wp2_with fail
          refine (coHolds_any _).mono ?_
          rintro ee w10 ⟨rfl, bh⟩
          replace BB := BB.trans (bh.mono BB.size)
          replace hG := hG.below bh
          replace hV := hV.below bh
          replace hA := hA.below bh
          clear bh
          go_wp2
          go_ret
          exact ⟨rfl, BB⟩
        · have HRB : Hid (runB N ls p V q A = true) := by (show _ = _; simp only [runB, HB.out, HV.out, ha, Bool.and_self])
          clear ha
          have h3 := runB_three HRB.out
          obtain rfl : p = 3 := h3.1
          obtain rfl : q = 2 := h3.2.1
          have HW : Hid (Wo N ls V A sn) := ⟨HN.out, HRB.out, hV.1, fun k hk => by (obtain ⟨_, _, _, _, h⟩ := hG k hk; exact h.D.1), by rw [HR.out, rowsB_yes HB.out], fun r hr => ⟨rowsB_fit HN.out hG r (by rw [rowsB_yes HB.out]; exact hr), goW_sh ls 7 0 way0 r hr⟩⟩
          rw [rowsB_yes HB.out] at hr
          clear h3 HRB HV HR HB HN
          go_wp2_with fail
          go_loopw [7, 8] (fun m i wr => ∃ k z : Nat, k ≤ sn ∧ i = .int .i64 k ∧ m = .int .i64 z ∧ z ≤ k ∧ Hid (z = ((rowsL ls).take k).countP (fitG V A)) ∧ Below v7.heap.size v7 wr) (fun _ i _ => sn - (intOf i).toNat)
          case atStart => exact ⟨0, 0, by omega, rfl, rfl, by omega, rfl, Below.refl _ _⟩
          case round =>
            obtain ⟨j, z, hj, rfl, rfl, hz, HZ, hb⟩ := hrel
            have hb0 := hb
            replace BB := BB.trans (hb.mono BB.size)
            replace hG := hG.below hb
            replace hV := hV.below hb
            replace hA := hA.below hb
            replace hr := hr.below hb
            clear hb
            by_cases hlt : j < sn
            · have hj' : (j : Int) < (sn : Int) := by omega
              have hjl : j < (rowsL ls).length := by rw [HW.out.l]; exact hlt
              obtain ⟨b, ga, gc, aa, ac, ta, tc, rfl, p0, p1, p2, p3, f0, f1, f2⟩ := hr j hjl
              have hm : (rowsL ls)[j]?.getD noR ∈ rowsL ls := by rw [List.getElem?_eq_getElem hjl]; exact List.getElem_mem _
              have hf := HW.out.f _ hm
              have HC : Hid (((rowsL ls).take (j + 1)).countP (fitG V A) = ((rowsL ls).take j).countP (fitG V A) + (if fitG V A ((rowsL ls)[j]?.getD noR) then 1 else 0)) := cnt_succ noR hjl
              obtain ⟨r, hre⟩ : ∃ r, (rowsL ls)[j]?.getD noR = r := ⟨_, rfl⟩
              rw [hre] at p0 p1 p2 p3 f0 f1 f2 hm hf HC
              clear hre hjl hr
              obtain ⟨gs, us, ts, RA, hB, eg, eu, et⟩ := row_rowAt hf.1 hf.2 f0 f1 f2
              clear f0 f1 f2 hf
              have HX : Hid (fitG V A r = true → doCode gs us ts r.adds.length r.tells.length r.stop 3 2 V A = runCode N ls 3 V 2 A ∧ doTells gs us ts r.adds.length r.tells.length r.stop 3 2 V A = runTells N ls 3 V 2 A ∧ doPots gs us ts r.adds.length r.tells.length r.stop 3 2 V A = runPots N ls 3 V 2 A) := fun hf => do_run HW.out.b HW.out.v HW.out.d hm hf hB eu et
              have HFB : Hid (fitsB gs us ts r.adds.length r.tells.length r.stop 3 2 V A = fitG V A r) := by
                have h := HW.out.b
                simp only [runB, Bool.and_eq_true] at h
                exact fitG_fits eg hB h.1.2 h.2
              clear eg eu et hm hB
              obtain ⟨rg, ru, rt, st⟩ := r
              dsimp only at p0 p1 p2 p3 RA HX HFB
              generalize rg.length = G at p0 RA
              generalize ru.length = L at p1 RA HX HFB
              generalize rt.length = T at p2 RA HX HFB
              have PC : Hid (wr.cell? ⟨b, j * 4, none⟩ = some (.slice ga G gc) ∧ wr.cell? ⟨b, j * 4 + 1, none⟩ = some (.slice aa L ac) ∧ wr.cell? ⟨b, j * 4 + 2, none⟩ = some (.slice ta T tc) ∧ wr.cell? ⟨b, j * 4 + 3, none⟩ = some (.bool st)) := ⟨p0, p1, p2, p3⟩
              obtain ⟨wp, hwp⟩ : ∃ x, x = wr := ⟨_, rfl⟩
              subst hwp
              go_wp2_with fail
              refine (ifits_any _ _ _ gs _ _ _ us _ _ _ ts st _ _ _ V _ _ _ A _ RA hV hA (by omega) (by omega)).mono ?_
              rintro ee w8 ⟨rfl, b8⟩
              rw [HFB.out]
              clear HFB
              have bp := b8
              replace BB := BB.trans (b8.mono BB.size)
              replace hb0 := hb0.trans (b8.mono hb0.size)
              replace hG := hG.below b8
              replace hV := hV.below b8
              replace hA := hA.below b8
              replace RA := RA.below b8
              clear b8
              clear p0 p1 p2 p3
              have p0 := (bp.cell (p := ⟨b, j * 4, none⟩) (block_lt PC.out.1)).trans PC.out.1
              have p1 := (bp.cell (p := ⟨b, j * 4 + 1, none⟩) (block_lt PC.out.1)).trans PC.out.2.1
              have p2 := (bp.cell (p := ⟨b, j * 4 + 2, none⟩) (block_lt PC.out.1)).trans PC.out.2.2.1
              have p3 := (bp.cell (p := ⟨b, j * 4 + 3, none⟩) (block_lt PC.out.1)).trans PC.out.2.2.2
              clear PC bp
              cases h1 : fitG V A ⟨rg, ru, rt, st⟩
              · have HZ' : Hid (z = ((rowsL ls).take (j + 1)).countP (fitG V A)) := by
                  show _ = _
                  rw [HC.out, h1, HZ.out]; rfl
                clear h1 HX HC p0 p1 p2 p3 RA hG hV hA
                go_wp2
                go_roundw
                case rel => exact ⟨j + 1, z, by omega, by go_num, rfl, by omega, HZ', hb0⟩
                case measure => simp [intOf]; omega
              · have HZ' : Hid (z + 1 = ((rowsL ls).take (j + 1)).countP (fitG V A)) := by
                  show _ = _
                  rw [HC.out, h1, HZ.out]; rfl
                have HX2 := HX.out h1
                clear h1 HX HC HZ
                obtain ⟨x1, x2, x3⟩ := HX2
                have HX3 : Hid (doCode gs us ts L T st 3 2 V A = runCode N ls 3 V 2 A ∧ doTells gs us ts L T st 3 2 V A = runTells N ls 3 V 2 A ∧ doPots gs us ts L T st 3 2 V A = runPots N ls 3 V 2 A) := ⟨x1, x2, x3⟩
                clear x1 x2 x3
                go_wp2_with fail
                refine (pDo _ _ _ gs _ _ _ us _ _ _ ts st _ _ _ V _ _ _ A _ RA hV hA (by omega) (by omega)).mono ?_
                rintro ee w9 ⟨a1, n1, c1, a2, n2, c2, rfl, htl, hpt, b9⟩
                replace BB := BB.trans (b9.mono BB.size)
                replace hb0 := hb0.trans (b9.mono hb0.size)
                replace hG := hG.below b9
                replace hV := hV.below b9
                replace hA := hA.below b9
                replace RA := RA.below b9
                clear b9
                rw [HX3.out.1]
                rw [HX3.out.2.1] at htl
                rw [HX3.out.2.2] at hpt
                clear HX3 p0 p1 p2 p3 RA
                obtain ⟨RC, hRC⟩ : ∃ x, runCode N ls 3 V 2 A = x := ⟨_, rfl⟩
                have HRC : Hid (runCode N ls 3 V 2 A = RC) := hRC
                rw [hRC]
                clear hRC
                obtain ⟨TL, hTL⟩ : ∃ x, runTells N ls 3 V 2 A = x := ⟨_, rfl⟩
                have HTL : Hid (runTells N ls 3 V 2 A = TL) := hTL
                rw [hTL] at htl
                clear hTL
                obtain ⟨PX, hPX⟩ : ∃ x, runPots N ls 3 V 2 A = x := ⟨_, rfl⟩
                have HPX : Hid (runPots N ls 3 V 2 A = PX) := hPX
                rw [hPX] at hpt
                clear hPX
                have n1b : n1 ≤ 1048576 := by rw [← htl.1, ← HTL.out]; have := runTells_le N ls 3 V 2 A; omega
                have n2b : n2 ≤ 1048576 := by rw [← hpt.1, ← HPX.out]; have := runPots_le N ls 3 V 2 A; have := hV.1; omega
                have al := (Below.refl (w9).heap.size (w9)).alloc (Nat.le_refl _) (.cells #[.int .i64 RC, .slice a1 n1 c1] 38)
                replace BB := BB.trans (al.mono BB.size)
                replace hb0 := hb0.trans (al.mono hb0.size)
                replace hG := hG.below al
                replace hV := hV.below al
                replace hA := hA.below al
                replace htl := htl.below al
                replace hpt := hpt.below al
                clear al
                have q9 := Cel.new (w9) [.int .i64 RC, .slice a1 n1 c1] 38
                have g9_0 := q9.cell 0
                have g9_1 := q9.cell 1
                simp only [List.getElem?_cons_zero, List.getElem?_cons_succ] at g9_0 g9_1
                go_wp2_with fail
                obtain ⟨W10, hW10⟩ : ∃ W, W = (w9).alloc (.cells #[.int .i64 RC, .slice a1 n1 c1] 38) := ⟨_, rfl⟩
                rw [← hW10]
                rw [← hW10] at hG hV hA htl hpt q9 BB hb0 g9_0 g9_1
                clear hW10
                obtain ⟨X9, hX9⟩ : ∃ x, x = w9.heap.size := ⟨_, rfl⟩
                rw [← hX9]
                rw [← hX9] at q9 g9_0 g9_1
                clear hX9
                refine (pRun _ _ _ ls _ _ _ V _ _ _ A _ HW.out.n hG (by omega) hV hA (by omega) (by omega)).mono ?_
                rintro ee w11 ⟨a3, n3, c3, a4, n4, c4, rfl, hul, hqt, b6⟩
                clear g9_0 g9_1
                replace BB := BB.trans (b6.mono BB.size)
                replace hb0 := hb0.trans (b6.mono hb0.size)
                replace hG := hG.below b6
                replace hV := hV.below b6
                replace hA := hA.below b6
                replace htl := htl.below b6
                replace hpt := hpt.below b6
                replace q9 := q9.below b6
                clear b6
                rw [HRC.out]
                rw [HTL.out] at hul
                rw [HPX.out] at hqt
                obtain rfl : n3 = n1 := by rw [← hul.1, ← htl.1]
                obtain rfl : n4 = n2 := by rw [← hqt.1, ← hpt.1]
                have al := (Below.refl (w11).heap.size (w11)).alloc (Nat.le_refl _) (.cells #[.int .i64 RC, .slice a3 n3 c3] 38)
                replace BB := BB.trans (al.mono BB.size)
                replace hb0 := hb0.trans (al.mono hb0.size)
                replace hG := hG.below al
                replace hV := hV.below al
                replace hA := hA.below al
                replace htl := htl.below al
                replace hpt := hpt.below al
                replace hul := hul.below al
                replace hqt := hqt.below al
                replace q9 := q9.below al
                clear al
                have q11 := Cel.new (w11) [.int .i64 RC, .slice a3 n3 c3] 38
                have g9_0 := q9.cell 0
                have g9_1 := q9.cell 1
                have g11_0 := q11.cell 0
                have g11_1 := q11.cell 1
                simp only [List.getElem?_cons_zero, List.getElem?_cons_succ] at g9_0 g9_1 g11_0 g11_1
                go_wp2_with fail
                obtain ⟨W12, hW12⟩ : ∃ W, W = (w11).alloc (.cells #[.int .i64 RC, .slice a3 n3 c3] 38) := ⟨_, rfl⟩
                rw [← hW12]
                rw [← hW12] at hG hV hA htl hpt hul hqt q9 q11 BB hb0 g9_0 g9_1 g11_0 g11_1
                clear hW12
                obtain ⟨X11, hX11⟩ : ∃ x, x = w11.heap.size := ⟨_, rfl⟩
                rw [← hX11]
                rw [← hX11] at q11 g11_0 g11_1
                clear hX11
                refine (coR_any RC RC _ _ _ _ _ _ TL TL _ htl hul n1b n1b).mono ?_
                rintro ee w13 ⟨rfl, bw⟩
                rw [coRB_same]
                clear g9_0 g9_1 g11_0 g11_1
                replace BB := BB.trans (bw.mono BB.size)
                replace hb0 := hb0.trans (bw.mono hb0.size)
                replace hG := hG.below bw
                replace hV := hV.below bw
                replace hA := hA.below bw
                replace htl := htl.below bw
                replace hpt := hpt.below bw
                replace hul := hul.below bw
                replace hqt := hqt.below bw
                replace q9 := q9.below bw
                replace q11 := q11.below bw
                clear bw
                have g9_0 := q9.cell 0
                have g9_1 := q9.cell 1
                have g11_0 := q11.cell 0
                have g11_1 := q11.cell 1
                simp only [List.getElem?_cons_zero, List.getElem?_cons_succ] at g9_0 g9_1 g11_0 g11_1
                go_wp2_with fail
                refine (coI_any _ _ _ _ _ _ PX PX _ hpt hqt n2b n2b).mono ?_
                rintro ee w14 ⟨rfl, bv⟩
                rw [eqB_refl]
                clear g9_0 g9_1 g11_0 g11_1
                replace BB := BB.trans (bv.mono BB.size)
                replace hb0 := hb0.trans (bv.mono hb0.size)
                replace hG := hG.below bv
                replace hV := hV.below bv
                replace hA := hA.below bv
                replace htl := htl.below bv
                replace hpt := hpt.below bv
                replace hul := hul.below bv
                replace hqt := hqt.below bv
                replace q9 := q9.below bv
                replace q11 := q11.below bv
                clear bv
                clear hG hV hA htl hpt hul hqt q9 q11
                go_wp2
                go_roundw
                case rel => exact ⟨j + 1, z + 1, by omega, by go_num, by go_num, by omega, HZ', hb0⟩
                case measure => simp [intOf]; omega
            · have hj' : ¬ (j : Int) < (sn : Int) := by omega
              obtain rfl : z = 1 := by
                rw [HZ.out, List.take_of_length_le (by rw [HW.out.l]; omega)]
                exact cnt_one HW.out.b HW.out.v HW.out.d
              clear hG hV hA hr
              go_wp2
              go_ret
              exact ⟨rfl, BB⟩
  · go_enter Tryz.func3, Tryz.ntmps3
    go_wp2
    go_ret
    exact ⟨rfl, Below.refl _ _⟩

/-! ### The row's step -/
set_option maxRecDepth 100000 in
theorem lifted (os : Os) (started : os.Started) (H : Type) (enc : TypeId × Value → H) :
    ReturnsInHanded {} Tryz.checked os 3 .any (Rows.fnRowsOneSpec.pre6 enc Tryz.prog Tryz.f3 Rows.fnRowsOneRow.domain false) (Rows.fnRowsOneSpec.post enc Tryz.prog Tryz.f3 false true false false) := by
  refine returnsInHanded_of_change (C := Tryz.checked) own started (by kernel_rfl) Tryz.func3
    (ChangeSpec.witness6 (enc := enc) (C := Tryz.checked) false ⟨#[], #[.slice none 0 0], []⟩ 8 (by kernel_rfl) (by kernel_rfl) (by kernel_rfl) (by kernel_rfl)) ?_
  intro W base args ds gs before hval0 hW hcnd _
  have hval : ∀ (j : Nat) t v, Tryz.f3.params[j]? = some t → args[j]? = some v → Value.okWide Tryz.prog W .any base t v := hval0
  have hW' := hW
  obtain ⟨p, q, hA0, hV, rfl, hfz, hnd⟩ := hW
  have hA : DataW.TrodAll enc Tryz.prog W 0 (fun _ => true) true Tryz.f3.params.toList args.toList ds p := hA0
  rw [Tryz.params3] at hA hval
  obtain ⟨v0, vs0, d0, ds0, p0, q0, hargs, rfl, rfl, h0, r0⟩ := trodAll_cons hA
  obtain ⟨rfl, rfl, rfl⟩ := trodAll_nil r0
  obtain rfl : args = #[v0] := by cases args; simp_all
  obtain ⟨rfl, rfl⟩ := trodVars_none hV
  have k0 := h0
  have lt0 : ∀ x ∈ p0, x.block < W.heap.size := by obtain ⟨m, hm⟩ := k0; exact DataW.trod_lt m _ _ _ hm
  obtain ⟨a0, n0, cap0, C0, rfl, hC0, hn0⟩ := open_bytesT (hval 0 22 v0 rfl rfl) h0
  clear hA0 hval0
  refine (walk W a0 n0 cap0 C0 hC0 hn0).mono fun e W' ⟨he, bel⟩ => ?_
  subst he
  exact ⟨_, rfl, _, _, _, [], _, [], hW', trodAll_mk1 (shut_bool Tryz.underlying4 _), (trodAll_cons_mk (Below.trod laidOut (by kernel_rfl) (of_decide_eq_true (by kernel_rfl)) k0 bel lt0) trodAll_mk0), rfl, bel.frame _, fun h => by cases h⟩

theorem over : Rows.fnRowsOneRow.holds Tryz.pinned (OpenSpec.ofChange Rows.fnRowsOneSpec) :=
  OpenClaim.holds_of_wide 3 Tryz.f3 rfl rfl rfl rfl rfl rfl rfl ⟨rfl, rfl, rfl, rfl, rfl⟩ rfl rfl rfl rfl rfl (by kernel_rfl) Tryz.func3 (by kernel_rfl)
    (of_decide_eq_true (by kernel_rfl)) (by unfold Func.isWrapper; first | (rw [if_pos (by decide +kernel)]; kernel_rfl) | (rw [if_neg (by decide +kernel)]; exact ⟨rfl, rfl⟩))
    (fun os started H enc _ => lifted os started H enc)

end Go.Proofs.YtkpnhclaidcbdaaGreat.fnRowsOne
namespace Go.Proofs.YtkpnhclaidcbdaaGreat
/-- The statement. -/
theorem fnRowsOne_holds : Rows.FnRowsOneSaid := fnRowsOne.over
#print axioms fnRowsOne_holds
end Go.Proofs.YtkpnhclaidcbdaaGreat
