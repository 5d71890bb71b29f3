/-
  For all bytes FnRowDo returns true, and what came in reads behind the call as it did. No condition. (a way adds what it says)
-/
import Derived.Test.YtemcinobgdphnaaJRowDoB
import Derived.Test.YtemcinobgdphnaaJRowDoA
import Derived.Test.YtemcinobgdphnaaOpen
namespace Go.Proofs.Ytemcinobgdphnaa.fnRowDo
open Go.ChangeShapes Go.WideShapes Go.ChangeAt Go.RowKit
set_option linter.unusedVariables false
set_option maxRecDepth 100000

theorem open_bytesT {H : Type} {enc : TypeId × Value → H} {W : World} {r : Reach} {b0 : Nat} {v : Value} {d : DataW H} {p : List MemPlace}
    (hv : Value.okWide Try.prog W r b0 22 v) (h : DataW.Trod enc Try.prog W 0 (fun _ => true) true 22 v d p) : ∃ a n cap zs, v = .slice a n cap ∧ BInts W a n zs ∧ (n ≤ cap ∧ cap ≤ maxLen) := by
  obtain ⟨a0, len0, cap0, rfl⟩ := okWide_slice Try.underlying22 hv
  obtain ⟨fuel, hf⟩ := h
  rcases open_ints Try.underlying22 Try.underlying5 (by kernel_rfl) hf with ⟨hcs, _⟩ | ⟨x, l, c, zs, hcs, _, hl, hm, hz, _, hcell, hwz⟩
  · simp [Value.cells] at hcs
    obtain ⟨rfl, rfl, rfl⟩ := hcs
    exact ⟨none, 0, 0, [], rfl, ⟨rfl, fun i hi => by omega, fun i => by simp⟩, by omega, by unfold maxLen; omega⟩
  · simp [Value.cells] at hcs
    obtain ⟨rfl, rfl, rfl⟩ := hcs
    have hz' : zs.length = cap0 := by simpa using hz
    refine ⟨some x, len0, cap0, zs.take len0, rfl, ⟨by rw [List.length_take]; omega, fun i hi => ?_, fun i => ?_⟩, hl, hm⟩
    · obtain ⟨b, off, spot⟩ := x
      have hc0 := hcell 0 (by omega)
      have hspot : spot = none := by simpa [Addr.add] using World.cell?_spot hc0
      subst hspot
      refine ⟨b, off, rfl, ?_⟩
      have hc := hcell i (by omega)
      have : W.cell? ⟨b, off + i, none⟩ = some (.int .u8 (zs.getD i 0)) := by
        by_cases h0 : i = 0
        · subst h0; simpa [Addr.add] using hc
        · simpa [Addr.add, h0] using hc
      rw [this]
      simp [hi]
    · by_cases hi : i < (zs.take len0).length
      · rw [List.getElem?_eq_getElem hi]
        have := hwz _ (List.mem_of_mem_take (List.getElem_mem hi))
        simpa [Lit.wf, IntKind.min, IntKind.max, IntKind.signed, IntKind.bits] using this
      · rw [List.getElem?_eq_none (by omega)]
        simp

theorem pDo (g : Option Addr) (G cg : Nat) (gs : List FV) (a : Option Addr) (A ca : Nat) (ls : List FV) (t : Option Addr) (T ct : Nat) (ts : List FV) (st : Bool) (v : Option Addr) (p cv : Nat) (V : List Int) (u : Option Addr) (q cu : Nat) (U : List Int) (w : World) (h : RowAt w g G gs a A ls t T ts) (hV : Ints w v p V) (hU : Ints w u q U) (hp : p ≤ 1048576) (hq : q ≤ 1048576) :
    Calls Try.prog 15 #[rowV g G cg a A ca t T ct st, .slice v p cv, .slice u q cu] w fun e w' => RunM w w' e (doCode gs ls ts A T st p q V U) (doTells gs ls ts A T st p q V U) (doPots gs ls ts A T st p q V U) :=
  (idoing_any g G cg gs a A ca ls t T ct ts st v p cv V u q cu U w h hV hU hp hq).mono fun e w' h => RunM.of h
theorem qDo (g : Option Addr) (G cg : Nat) (gs : List FV) (a : Option Addr) (A ca : Nat) (ls : List FV) (t : Option Addr) (T ct : Nat) (ts : List FV) (st : Bool) (v : Option Addr) (p cv : Nat) (V : List Int) (u : Option Addr) (q cu : Nat) (U : List Int) (w : World) (h : RowAt w g G gs a A ls t T ts) (hV : Ints w v p V) (hU : Ints w u q U) (hp : p ≤ 1048576) (hq : q ≤ 1048576) :
    Calls Try.prog 16 #[rowV g G cg a A ca t T ct st, .slice v p cv, .slice u q cu] w fun e w' => RunM w w' e (doCode gs ls ts A T st p q V U) (doTells gs ls ts A T st p q V U) (doPots gs ls ts A T st p q V U) :=
  (sdoing_any g G cg gs a A ca ls t T ct ts st v p cv V u q cu U w h hV hU hp hq).mono fun e w' h => RunM.of h
theorem coRB_refl (c : Int) (xs : List Int) : coRB c c xs xs = true := by simp [coRB, eqB_refl]
/-- What was done: each pot has so much more, what is told is what the forms are. -/
structure Done (gs ls ts : List FV) (A T : Nat) (st : Bool) (p q : Nat) (V U : List Int) : Prop where
  p3 : p = 3
  q2 : q = 2
  a3 : A = 3
  bV : bnd 10000 V
  bU : bnd 9 U
  ol : ls.all FV.ok = true
  ot : ts.all FV.ok = true
  kV : okN 3 10000 p V = true
  kU : okN 2 9 q U = true
  ok : okN 3 10000 3 (doPots gs ls ts A T st p q V U) = true
  pl : (doPots gs ls ts A T st p q V U).length = 3
  pots : ∀ v, v < 3 → (doPots gs ls ts A T st p q V U)[v]?.getD 0 = V[v]?.getD 0 + atF V U (ls[v]?.getD noFV)
  tells : doTells gs ls ts A T st p q V U = ts.map (atF V U)
theorem zip3 {V : List Int} {us : List FV} {g : FV → Int} (hV : V.length = 3) (hu : us.length = 3) (v : Nat) (hv : v < 3) : (List.zipWith (· + ·) V (us.map g))[v]?.getD 0 = V[v]?.getD 0 + g (us[v]?.getD noFV) := by
  match V, hV, us, hu with
  | [a, b, c], _, [x, y, z], _ =>
    match v, hv with
    | 0, _ => rfl
    | 1, _ => rfl
    | 2, _ => rfl
theorem done_of {gs ls ts : List FV} {A T : Nat} {st : Bool} {p q : Nat} {V U : List Int} (hl : ls.length = A) (hV : V.length = p) (h : doCode gs ls ts A T st p q V U = 1) : Done gs ls ts A T st p q V U := by
  unfold doCode at h
  split at h
  · rename_i hb
    have hb' := hb
    simp only [doB, Bool.and_eq_true] at hb'
    obtain ⟨⟨hr, hv⟩, hu⟩ := hb'
    split at h
    · omega
    · rename_i hst
      obtain rfl : st = false := by simpa using hst
      obtain ⟨-, e2, e3⟩ := do_go hb
      obtain ⟨p3, bV⟩ := okN_nat (by omega) hv
      obtain ⟨q2, bU⟩ := okN_nat (by omega) hu
      have a3 : A = 3 := rowB_three hr
      have hV3 : V.length = 3 := by rw [hV]; exact p3
      have hl3 : ls.length = 3 := by rw [hl]; exact a3
      have hk : okN 3 10000 3 (doX ls V U) = true := by
        unfold endCode at h
        split at h
        · assumption
        · omega
      have e3' : doPots gs ls ts A T false p q V U = doX ls V U := by rw [e3, endPots, if_pos hk]
      obtain ⟨g1, g2, g3⟩ := rowB_g hr
      refine ⟨p3, q2, a3, bV, bU, g2, g3, hv, hu, by rw [e3']; exact hk, ?_, fun v hv3 => ?_, by rw [e2, endTells, if_pos hk]⟩
      · rw [e3', doX, List.length_zipWith, List.length_map, hV3, hl3]; rfl
      · rw [e3', doX]; exact zip3 hV3 hl3 v hv3
  · omega
theorem pots_else {gs ls ts : List FV} {A T : Nat} {st : Bool} {p q : Nat} {V U : List Int} (h : ¬ doCode gs ls ts A T st p q V U = 1) (h0 : ¬ doCode gs ls ts A T st p q V U = 0) : doPots gs ls ts A T st p q V U = V := by
  unfold doCode at h h0
  unfold doPots
  split
  · rename_i hb
    rw [if_pos hb] at h
    split
    · rfl
    · rename_i hst
      rw [if_neg hst] at h
      unfold endCode at h
      split at h
      · omega
      · rename_i hk
        rw [endPots, if_neg hk]
  · rename_i hb
    rw [if_neg hb] at h0
    omega
theorem tells_small {gs ls ts : List FV} {A T : Nat} {st : Bool} {p q : Nat} {V U : List Int} (h : ts.length = T) : (doTells gs ls ts A T st p q V U).length ≤ T := by
  unfold doTells endTells
  split
  · split
    · simp
    · split
      · rw [List.length_map]; omega
      · simp
  · simp
theorem pots_small {gs ls ts : List FV} {A T : Nat} {st : Bool} {p q : Nat} {V U : List Int} (h : ls.length = A) (hV : V.length = p) : (doPots gs ls ts A T st p q V U).length ≤ A + p := by
  unfold doPots endPots
  split
  · split
    · omega
    · split
      · rw [doX, List.length_zipWith]; omega
      · omega
  · simp
theorem atOk_of {f : FV} {p q : Nat} {V U : List Int} (h : f.ok = true) (kV : okN 3 10000 p V = true) (kU : okN 2 9 q U = true) : atOk f.n f.m p q f.C f.D f.K V U = true := by
  simp only [atOk, Bool.and_eq_true]
  exact ⟨⟨h, kV⟩, kU⟩

set_option maxHeartbeats 12800000 in
theorem walk (w : World) (a : Option Addr) (n cap : Nat) (A0 : List Int) (hA0 : BInts w a n A0) (hn : n ≤ cap ∧ cap ≤ maxLen) :
    Calls Try.prog 4 #[.slice a n cap] w fun e w' => e = .returned (.bool true) ∧ Below w.heap.size w w' := by
  obtain ⟨hn2, hn3⟩ := hn
  by_cases hn1 : n ≤ 1048576
  · go_enter Try.func4, Try.ntmps4
    go_wp2_with fail
    refine (dRowDo _ _ _ A0 _ hA0 hn2 hn1 hn3).mono ?_
    rintro ee w1 ⟨ga, G, gc, gs, aa, A, ac, ls, ta, T, tc, ts, st, va, p, cv, V, ua, q, cu, U, rfl, b1, RA, hV, hU, hp, hq, zG, zL, zS⟩
    have BB := b1
    clear b1
    have al := (Below.refl (w1).heap.size (w1)).alloc (Nat.le_refl _) (.cells #[.slice ga G gc, .slice aa A ac, .slice ta T tc, .bool st] 25)
    replace BB := BB.trans (al.mono BB.size)
    replace RA := RA.below al
    replace hV := hV.below al
    replace hU := hU.below al
    clear al
    have q3 := Cel.new (w1) [.slice ga G gc, .slice aa A ac, .slice ta T tc, .bool st] 25
    have HA : Hid (ls.length = A) := RA.ha
    have HT : Hid (ts.length = T) := RA.ht
    have HV : Hid (V.length = p) := hV.1
    have g3_0 := q3.cell 0
    have g3_1 := q3.cell 1
    have g3_2 := q3.cell 2
    have g3_3 := q3.cell 3
    simp only [List.getElem?_cons_zero, List.getElem?_cons_succ] at g3_0 g3_1 g3_2 g3_3
    go_wp2_with fail
    obtain ⟨W2, hW2⟩ : ∃ W, W = (w1).alloc (.cells #[.slice ga G gc, .slice aa A ac, .slice ta T tc, .bool st] 25) := ⟨_, rfl⟩
    rw [← hW2]
    rw [← hW2] at RA hV hU q3 BB g3_0 g3_1 g3_2 g3_3
    clear hW2
    obtain ⟨X3, hX3⟩ : ∃ x, x = w1.heap.size := ⟨_, rfl⟩
    rw [← hX3]
    rw [← hX3] at q3 g3_0 g3_1 g3_2 g3_3
    clear hX3
    refine (pDo _ _ _ gs _ _ _ ls _ _ _ ts st _ _ _ V _ _ _ U _ RA hV hU (by omega) (by omega)).mono ?_
    rintro ee w3 ⟨a1, n1, c1, a2, n2, c2, rfl, ht1, hp1, b2⟩
    clear g3_0 g3_1 g3_2 g3_3
    replace BB := BB.trans (b2.mono BB.size)
    replace RA := RA.below b2
    replace hV := hV.below b2
    replace hU := hU.below b2
    replace q3 := q3.below b2
    clear b2
    obtain ⟨CO, hCO⟩ : ∃ x, doCode gs ls ts A T st p q V U = x := ⟨_, rfl⟩
    have HC : Hid (doCode gs ls ts A T st p q V U = CO) := hCO
    rw [hCO]
    clear hCO
    obtain ⟨TL, hTL⟩ : ∃ x, doTells gs ls ts A T st p q V U = x := ⟨_, rfl⟩
    have HTL : Hid (doTells gs ls ts A T st p q V U = TL) := hTL
    rw [hTL] at ht1
    clear hTL
    obtain ⟨PO, hPO⟩ : ∃ x, doPots gs ls ts A T st p q V U = x := ⟨_, rfl⟩
    have HPO : Hid (doPots gs ls ts A T st p q V U = PO) := hPO
    rw [hPO] at hp1
    clear hPO
    skip
    have al := (Below.refl (w3).heap.size (w3)).alloc (Nat.le_refl _) (.cells #[.int .i64 CO, .slice a1 n1 c1] 38)
    replace BB := BB.trans (al.mono BB.size)
    replace RA := RA.below al
    replace hV := hV.below al
    replace hU := hU.below al
    replace ht1 := ht1.below al
    replace hp1 := hp1.below al
    replace q3 := q3.below al
    clear al
    have q6 := Cel.new (w3) [.int .i64 CO, .slice a1 n1 c1] 38
    have g3_0 := q3.cell 0
    have g3_1 := q3.cell 1
    have g3_2 := q3.cell 2
    have g3_3 := q3.cell 3
    have g6_0 := q6.cell 0
    have g6_1 := q6.cell 1
    simp only [List.getElem?_cons_zero, List.getElem?_cons_succ] at g3_0 g3_1 g3_2 g3_3 g6_0 g6_1
    go_wp2_with fail
    obtain ⟨W4, hW4⟩ : ∃ W, W = (w3).alloc (.cells #[.int .i64 CO, .slice a1 n1 c1] 38) := ⟨_, rfl⟩
    rw [← hW4]
    rw [← hW4] at RA hV hU ht1 hp1 q3 q6 BB g3_0 g3_1 g3_2 g3_3 g6_0 g6_1
    clear hW4
    obtain ⟨X6, hX6⟩ : ∃ x, x = w3.heap.size := ⟨_, rfl⟩
    rw [← hX6]
    rw [← hX6] at q6 g6_0 g6_1
    clear hX6
    refine (qDo _ _ _ gs _ _ _ ls _ _ _ ts st _ _ _ V _ _ _ U _ RA hV hU (by omega) (by omega)).mono ?_
    rintro ee w5 ⟨a3, n3, c3, a4, n4, c4, rfl, ht2, hp2, b3⟩
    rw [HC.out]
    rw [HTL.out] at ht2
    rw [HPO.out] at hp2
    clear g3_0 g3_1 g3_2 g3_3 g6_0 g6_1
    replace BB := BB.trans (b3.mono BB.size)
    replace RA := RA.below b3
    replace hV := hV.below b3
    replace hU := hU.below b3
    replace ht1 := ht1.below b3
    replace hp1 := hp1.below b3
    replace q3 := q3.below b3
    replace q6 := q6.below b3
    clear b3
    obtain rfl : n3 = n1 := by rw [← ht1.1, ← ht2.1]
    obtain rfl : n4 = n2 := by rw [← hp1.1, ← hp2.1]
    have hn1b : n3 ≤ 1048576 := by
      have h := tells_small (gs := gs) (ls := ls) (ts := ts) (A := A) (T := T) (st := st) (p := p) (q := q) (V := V) (U := U) RA.ht
      rw [HTL.out, ht1.1] at h
      omega
    have hn2b : n4 ≤ 1048576 := by
      have h := pots_small (gs := gs) (ls := ls) (ts := ts) (A := A) (T := T) (st := st) (p := p) (q := q) (U := U) RA.ha hV.1
      rw [HPO.out, hp1.1] at h
      omega
    have al := (Below.refl (w5).heap.size (w5)).alloc (Nat.le_refl _) (.cells #[.int .i64 CO, .slice a3 n3 c3] 38)
    replace BB := BB.trans (al.mono BB.size)
    replace RA := RA.below al
    replace hV := hV.below al
    replace hU := hU.below al
    replace ht1 := ht1.below al
    replace hp1 := hp1.below al
    replace ht2 := ht2.below al
    replace hp2 := hp2.below al
    replace q3 := q3.below al
    replace q6 := q6.below al
    clear al
    have q8 := Cel.new (w5) [.int .i64 CO, .slice a3 n3 c3] 38
    have g3_0 := q3.cell 0
    have g3_1 := q3.cell 1
    have g3_2 := q3.cell 2
    have g3_3 := q3.cell 3
    have g6_0 := q6.cell 0
    have g6_1 := q6.cell 1
    have g8_0 := q8.cell 0
    have g8_1 := q8.cell 1
    simp only [List.getElem?_cons_zero, List.getElem?_cons_succ] at g3_0 g3_1 g3_2 g3_3 g6_0 g6_1 g8_0 g8_1
    go_wp2_with fail
    obtain ⟨W6, hW6⟩ : ∃ W, W = (w5).alloc (.cells #[.int .i64 CO, .slice a3 n3 c3] 38) := ⟨_, rfl⟩
    rw [← hW6]
    rw [← hW6] at RA hV hU ht1 hp1 ht2 hp2 q3 q6 q8 BB g3_0 g3_1 g3_2 g3_3 g6_0 g6_1 g8_0 g8_1
    clear hW6
    obtain ⟨X8, hX8⟩ : ∃ x, x = w5.heap.size := ⟨_, rfl⟩
    rw [← hX8]
    rw [← hX8] at q8 g8_0 g8_1
    clear hX8
    refine (coR_any CO CO _ _ _ _ _ _ TL TL _ ht1 ht2 hn1b hn1b).mono ?_
    rintro ee w7 ⟨rfl, b4⟩
    rw [coRB_refl]
    clear g3_0 g3_1 g3_2 g3_3 g6_0 g6_1 g8_0 g8_1
    replace BB := BB.trans (b4.mono BB.size)
    replace RA := RA.below b4
    replace hV := hV.below b4
    replace hU := hU.below b4
    replace ht1 := ht1.below b4
    replace hp1 := hp1.below b4
    replace ht2 := ht2.below b4
    replace hp2 := hp2.below b4
    replace q3 := q3.below b4
    replace q6 := q6.below b4
    replace q8 := q8.below b4
    clear b4
    have g3_0 := q3.cell 0
    have g3_1 := q3.cell 1
    have g3_2 := q3.cell 2
    have g3_3 := q3.cell 3
    have g6_0 := q6.cell 0
    have g6_1 := q6.cell 1
    have g8_0 := q8.cell 0
    have g8_1 := q8.cell 1
    simp only [List.getElem?_cons_zero, List.getElem?_cons_succ] at g3_0 g3_1 g3_2 g3_3 g6_0 g6_1 g8_0 g8_1
    go_wp2_with fail
    refine (coI_any _ _ _ _ _ _ PO PO _ hp1 hp2 hn2b hn2b).mono ?_
    rintro ee w8 ⟨rfl, b5⟩
    rw [eqB_refl]
    clear g3_0 g3_1 g3_2 g3_3 g6_0 g6_1 g8_0 g8_1
    replace BB := BB.trans (b5.mono BB.size)
    replace RA := RA.below b5
    replace hV := hV.below b5
    replace hU := hU.below b5
    replace ht1 := ht1.below b5
    replace hp1 := hp1.below b5
    replace ht2 := ht2.below b5
    replace hp2 := hp2.below b5
    replace q3 := q3.below b5
    replace q6 := q6.below b5
    replace q8 := q8.below b5
    clear b5
    clear ht2 hp2 q8
    by_cases hc : CO = 1
    · have HD0 : Hid (Done gs ls ts A T st p q V U) := done_of HA.out HV.out (by rw [HC.out]; exact hc)
      clear HC HA HV
      subst hc
      have hD := HD0.out
      obtain rfl : p = 3 := hD.p3
      obtain rfl : q = 2 := hD.q2
      obtain rfl : A = 3 := hD.a3
      have HP : Hid (∀ v, v < 3 → PO[v]?.getD 0 = V[v]?.getD 0 + atF V U (ls[v]?.getD noFV)) := by
        have h := hD.pots
        rw [HPO.out] at h
        exact h
      obtain rfl : n4 = 3 := by rw [← hp1.1, ← HPO.out]; exact hD.pl
      have HK : Hid (okN 3 10000 3 PO = true) := by
        have h := hD.ok
        rw [HPO.out] at h
        exact h
      have HQ : Hid (TL = ts.map (atF V U)) := by
        show _ = _
        rw [← HTL.out]
        exact hD.tells
      obtain rfl : n3 = T := by rw [← ht1.1, HQ.out, List.length_map]; exact HT.out
      have HB : Hid (bnd 10000 V ∧ bnd 9 U ∧ ls.all FV.ok = true ∧ ts.all FV.ok = true ∧ okN 3 10000 3 V = true ∧ okN 2 9 2 U = true) := ⟨hD.bV, hD.bU, hD.ol, hD.ot, hD.kV, hD.kU⟩
      clear hD HD0 HPO HTL
      have g3_0 := q3.cell 0
      have g3_1 := q3.cell 1
      have g3_2 := q3.cell 2
      have g3_3 := q3.cell 3
      have g6_0 := q6.cell 0
      have g6_1 := q6.cell 1
      simp only [List.getElem?_cons_zero, List.getElem?_cons_succ] at g3_0 g3_1 g3_2 g3_3 g6_0 g6_1
      go_wp2_with fail
      clear g3_0 g3_1 g3_2 g3_3 g6_0 g6_1
      go_loopw [10] (fun i wr => ∃ k : Nat, k ≤ 3 ∧ i = .int .i64 k ∧ Below w8.heap.size w8 wr) (fun i _ => 3 - (intOf i).toNat)
      case atStart => exact ⟨0, by omega, rfl, Below.refl _ _⟩
      case round =>
        obtain ⟨k, hk, rfl, hb⟩ := hrel
        have hc0 := hb
        replace BB := BB.trans (hb.mono BB.size)
        replace RA := RA.below hb
        replace hV := hV.below hb
        replace hU := hU.below hb
        replace ht1 := ht1.below hb
        replace hp1 := hp1.below hb
        replace q3 := q3.below hb
        replace q6 := q6.below hb
        clear hb
        by_cases hlt : k < 3
        · have hk' : (k : Int) < 3 := by omega
          have hkl : k < ls.length := by rw [RA.ha]; exact hlt
          obtain ⟨b, off, rfl, p0, p1, p2, hAt⟩ := RA.a k hkl
          have hfo : (ls[k]?.getD noFV).ok = true := all_at HB.out.2.2.1 hkl
          have hfb := atF_bnd (V := V) (U := U) hfo HB.out.1 HB.out.2.1
          have HG : Hid (PO[k]?.getD 0 = V[k]?.getD 0 + atF V U (ls[k]?.getD noFV)) := HP.out k hlt
          generalize ls[k]?.getD noFV = f at p0 p1 p2 hAt hfo hfb HG
          have HF : Hid (f.ok = true) := hfo
          clear hfo hkl
          have g3_0 := q3.cell 0
          have g3_1 := q3.cell 1
          have g3_2 := q3.cell 2
          have g3_3 := q3.cell 3
          have g6_0 := q6.cell 0
          have g6_1 := q6.cell 1
          simp only [List.getElem?_cons_zero, List.getElem?_cons_succ] at g3_0 g3_1 g3_2 g3_3 g6_0 g6_1
          go_wp2_with fail
          refine (ifat_any _ _ _ _ _ _ f.K f.C f.D _ _ _ _ _ _ V U _ hAt.C hAt.D hV hU hAt.hn hAt.hm (by omega) (by omega)).mono ?_
          rintro ee w9 ⟨rfl, b8⟩
          have HO : Hid _ := atOk_of HF.out HB.out.2.2.2.2.1 HB.out.2.2.2.2.2
          rw [atN_yes HO.out, HO.out]
          clear p0 p1 p2 HO
          clear g3_0 g3_1 g3_2 g3_3 g6_0 g6_1
          replace BB := BB.trans (b8.mono BB.size)
          replace hc0 := hc0.trans (b8.mono hc0.size)
          replace RA := RA.below b8
          replace hV := hV.below b8
          replace hU := hU.below b8
          replace ht1 := ht1.below b8
          replace hp1 := hp1.below b8
          replace hAt := hAt.below b8
          replace q3 := q3.below b8
          replace q6 := q6.below b8
          clear b8
          obtain ⟨z, hz⟩ : ∃ z, atV f.C f.D f.K V U = z := ⟨_, rfl⟩
          have hz' : atF V U f = z := hz
          rw [hz]
          rw [hz'] at hfb
          have HG' := HG.out
          rw [hz'] at HG'
          clear hz hz' HG HF hAt
          have hb1 := HB.out.1 k
          obtain ⟨pb, po, rfl, hpc⟩ := hp1.pos (by omega)
          obtain ⟨vb, vo, rfl, hvc⟩ := hV.pos (by omega)
          have hp1c := hpc k hlt
          have hv1c := hvc k hlt
          clear hpc hvc
          rw [List.getD_eq_getElem?_getD, HG'] at hp1c
          rw [List.getD_eq_getElem?_getD] at hv1c
          generalize V[k]?.getD 0 = y at hp1c hv1c hb1
          have hw : IntKind.i64.wrap (y + z) = y + z := wrap_id (by omega) (by omega)
          have hne : (y + z != y + z) = false := by simp
          clear HG'
          go_upto_region 14 with fail
          refine wp_region_ends (fun X => X.cell? ⟨pb, po + k, none⟩ = some (.int .i64 (y + z)) ∧ X.cell? ⟨vb, vo + k, none⟩ = some (.int .i64 y)) (fun _ => True) 10 (by kernel_rfl) ?_
          have dr : Below w9.heap.size w9 w9.drew := (Below.refl _ _).drew
          obtain ⟨VV, hVV⟩ : ∃ V, V = w9.drew := ⟨_, rfl⟩
          have hSS : (VV.cell? ⟨pb, po + k, none⟩ = some (.int .i64 (y + z)) ∧ VV.cell? ⟨vb, vo + k, none⟩ = some (.int .i64 y)) ∧ True := by (rw [hVV]; exact ⟨⟨hp1c, hv1c⟩, trivial⟩)
          rw [← hVV]
          rw [← hVV] at dr
          clear hVV hp1c hv1c
          replace hc0 := hc0.trans (dr.mono hc0.size)
          clear dr
          refine wpAnyE_take0 (i := 0) (v := ?rgxv0) rfl (by kernel_rfl) (by kernel_rfl) (by kernel_rfl) (by decide) (fun _ _ _ h => h) (Or.inl ⟨by rfl, ?rgxhy0⟩) hSS ?_
          case rgxhy0 => (intro wz hSw; (try dsimp only at hSw); go_simp; try (with_reducible rfl))
          refine wpAnyE_take0 (i := 1) (v := ?rgxv1) rfl (by kernel_rfl) (by kernel_rfl) (by kernel_rfl) (by decide) (fun _ _ _ h => h) (Or.inl ⟨by rfl, ?rgxhy1⟩) hSS ?_
          case rgxhy1 => (intro wz hSw; (try dsimp only at hSw); go_simp; try (with_reducible rfl))
          refine wpAnyE_take0 (i := 2) (v := ?rgxv2) rfl (by kernel_rfl) (by kernel_rfl) (by kernel_rfl) (by decide) (fun _ _ _ h => h) (Or.inl ⟨by rfl, ?rgxhy2⟩) hSS ?_
          case rgxhy2 => (intro wz hSw; (try dsimp only at hSw); go_simp; try (with_reducible rfl))
          refine wpAnyE_take0 (i := 3) (v := ?rgxv3) rfl (by kernel_rfl) (by kernel_rfl) (by kernel_rfl) (by decide) (fun _ _ _ h => h) (Or.inl ⟨by rfl, ?rgxhy3⟩) hSS ?_
          case rgxhy3 => (intro wz hSw; (try dsimp only at hSw); go_simp; try (with_reducible rfl))
          simp only [Act.put, List.setIfInBounds_toArray, List.set_cons_succ, List.set_cons_zero, List.getElem_toArray, List.getElem_cons_succ, List.getElem_cons_zero]
          refine wpAnyE_take0 (i := 4) (v := ?rgxv4) rfl (by kernel_rfl) (by kernel_rfl) (by kernel_rfl) (by decide) (fun _ _ _ h => h) (Or.inl ⟨by rfl, ?rgxhy4⟩) hSS ?_
          case rgxhy4 => (intro wz hSw; (try dsimp only at hSw); go_simp; try (with_reducible rfl))
          refine wpAnyE_take0 (i := 5) (v := ?rgxv5) rfl (by kernel_rfl) (by kernel_rfl) (by kernel_rfl) (by decide) (fun _ _ _ h => h) (Or.inl ⟨by rfl, ?rgxhy5⟩) hSS ?_
          case rgxhy5 => (intro wz hSw; (try dsimp only at hSw); go_simp; try (with_reducible rfl))
          refine wpAnyE_take0 (i := 6) (v := ?rgxv6) rfl (by kernel_rfl) (by kernel_rfl) (by kernel_rfl) (by decide) (fun _ _ _ h => h) (Or.inl ⟨by rfl, ?rgxhy6⟩) hSS ?_
          case rgxhy6 => (intro wz hSw; (try dsimp only at hSw); go_simp; try (with_reducible rfl))
          refine wpAnyE_take0 (i := 7) (v := ?rgxv7) rfl (by kernel_rfl) (by kernel_rfl) (by kernel_rfl) (by decide) (fun _ _ _ h => h) (Or.inl ⟨by rfl, ?rgxhy7⟩) hSS ?_
          case rgxhy7 => (intro wz hSw; (try dsimp only at hSw); go_simp; try (with_reducible rfl))
          simp only [Act.put, List.setIfInBounds_toArray, List.set_cons_succ, List.set_cons_zero, List.getElem_toArray, List.getElem_cons_succ, List.getElem_cons_zero]
          refine wpAnyE_take0 (i := 8) (v := ?rgxv8) rfl (by kernel_rfl) (by kernel_rfl) (by kernel_rfl) (by decide) (fun _ _ _ h => h) (Or.inl ⟨by rfl, ?rgxhy8⟩) hSS ?_
          case rgxhy8 => (intro wz hSw; (try dsimp only at hSw); go_simp; try (with_reducible rfl))
          refine wpAnyE_take0 (i := 9) (v := ?rgxv9) rfl (by kernel_rfl) (by kernel_rfl) (by kernel_rfl) (by decide) (fun _ _ _ h => h) (Or.inl ⟨by rfl, ?rgxhy9⟩) hSS ?_
          case rgxhy9 => (intro wz hSw; (try dsimp only at hSw); go_simp; try (with_reducible rfl))
          refine wpAnyE_one (i := 10) (by kernel_rfl) rfl (fun K hK => ?_)
          go_simp
          refine hK.out _ _ ⟨hSS.1, fun _ => trivial⟩ ?_
          clear hK K
          refine wpAnyE_done (by kernel_rfl) ?_ _
          clear hSS
          go_wp2
          go_roundw
          case rel => exact ⟨k + 1, by omega, by go_num, hc0⟩
          case measure => simp [intOf]; omega
        · have hk' : ¬ (k : Int) < 3 := by omega
          clear hc0 HP
          have g3_0 := q3.cell 0
          have g3_1 := q3.cell 1
          have g3_2 := q3.cell 2
          have g3_3 := q3.cell 3
          have g6_0 := q6.cell 0
          have g6_1 := q6.cell 1
          simp only [List.getElem?_cons_zero, List.getElem?_cons_succ] at g3_0 g3_1 g3_2 g3_3 g6_0 g6_1
          go_wp2_with fail
          clear g3_0 g3_1 g3_2 g3_3 g6_0 g6_1
          clear hk hk' hlt
          go_loopw [13] (fun i wr2 => ∃ j : Nat, j ≤ n3 ∧ i = .int .i64 j ∧ Below wr.heap.size wr wr2) (fun i _ => n3 - (intOf i).toNat)
          case atStart => exact ⟨0, by omega, rfl, Below.refl _ _⟩
          case round =>
            obtain ⟨j, hj, rfl, hb⟩ := hrel
            have hc0 := hb
            replace BB := BB.trans (hb.mono BB.size)
            replace RA := RA.below hb
            replace hV := hV.below hb
            replace hU := hU.below hb
            replace ht1 := ht1.below hb
            replace hp1 := hp1.below hb
            replace q3 := q3.below hb
            replace q6 := q6.below hb
            clear hb
            by_cases hlt : j < n3
            · have hj' : (j : Int) < (n3 : Int) := by omega
              have hkl : j < ts.length := by rw [RA.ht]; exact hlt
              obtain ⟨b, off, rfl, p0, p1, p2, hAt⟩ := RA.t j hkl
              have hfo : (ts[j]?.getD noFV).ok = true := all_at HB.out.2.2.2.1 hkl
              have hfb := atF_bnd (V := V) (U := U) hfo HB.out.1 HB.out.2.1
              have HG : Hid (TL[j]?.getD 0 = atF V U (ts[j]?.getD noFV)) := (by rw [HQ.out, List.getElem?_map]; rw [List.getElem?_eq_getElem hkl]; rfl)
              generalize ts[j]?.getD noFV = f at p0 p1 p2 hAt hfo hfb HG
              have HF : Hid (f.ok = true) := hfo
              clear hfo hkl
              have g3_0 := q3.cell 0
              have g3_1 := q3.cell 1
              have g3_2 := q3.cell 2
              have g3_3 := q3.cell 3
              have g6_0 := q6.cell 0
              have g6_1 := q6.cell 1
              simp only [List.getElem?_cons_zero, List.getElem?_cons_succ] at g3_0 g3_1 g3_2 g3_3 g6_0 g6_1
              go_wp2_with fail
              refine (ifat_any _ _ _ _ _ _ f.K f.C f.D _ _ _ _ _ _ V U _ hAt.C hAt.D hV hU hAt.hn hAt.hm (by omega) (by omega)).mono ?_
              rintro ee w9 ⟨rfl, b8⟩
              have HO : Hid _ := atOk_of HF.out HB.out.2.2.2.2.1 HB.out.2.2.2.2.2
              rw [atN_yes HO.out, HO.out]
              clear p0 p1 p2 HO
              clear g3_0 g3_1 g3_2 g3_3 g6_0 g6_1
              replace BB := BB.trans (b8.mono BB.size)
              replace hc0 := hc0.trans (b8.mono hc0.size)
              replace RA := RA.below b8
              replace hV := hV.below b8
              replace hU := hU.below b8
              replace ht1 := ht1.below b8
              replace hp1 := hp1.below b8
              replace hAt := hAt.below b8
              replace q3 := q3.below b8
              replace q6 := q6.below b8
              clear b8
              obtain ⟨z, hz⟩ : ∃ z, atV f.C f.D f.K V U = z := ⟨_, rfl⟩
              have hz' : atF V U f = z := hz
              rw [hz]
              rw [hz'] at hfb
              have HG' := HG.out
              rw [hz'] at HG'
              clear hz hz' HG HF hAt
              obtain ⟨tb, tf, rfl, htc⟩ := ht1.pos (by omega)
              have ht1c := htc j hlt
              clear htc
              rw [List.getD_eq_getElem?_getD, HG'] at ht1c
              have hne : (z != z) = false := by simp
              clear HG'
              have g3_0 := q3.cell 0
              have g3_1 := q3.cell 1
              have g3_2 := q3.cell 2
              have g3_3 := q3.cell 3
              have g6_0 := q6.cell 0
              have g6_1 := q6.cell 1
              simp only [List.getElem?_cons_zero, List.getElem?_cons_succ] at g3_0 g3_1 g3_2 g3_3 g6_0 g6_1
              go_wp2
              go_roundw
              case rel => exact ⟨j + 1, by omega, by go_num, hc0⟩
              case measure => simp [intOf]; omega
            · have hj' : ¬ (j : Int) < (n3 : Int) := by omega
              have en : ((n3 : Int) == (n3 : Int)) = true := by simp
              clear hc0
              have g3_0 := q3.cell 0
              have g3_1 := q3.cell 1
              have g3_2 := q3.cell 2
              have g3_3 := q3.cell 3
              have g6_0 := q6.cell 0
              have g6_1 := q6.cell 1
              simp only [List.getElem?_cons_zero, List.getElem?_cons_succ] at g3_0 g3_1 g3_2 g3_3 g6_0 g6_1
              go_wp2_with fail
              refine (ival_any _ _ _ PO _ hp1 (by omega)).mono ?_
              rintro ee v9 ⟨rfl, rfl⟩
              rw [HK.out]
              go_wp2
              go_ret
              exact ⟨rfl, BB⟩
    · have hc1 : (CO != 1) = true := by simpa using hc
      by_cases hz : CO = 0
      · have hz1 : (CO == 0) = true := by simpa using hz
        have g3_0 := q3.cell 0
        have g3_1 := q3.cell 1
        have g3_2 := q3.cell 2
        have g3_3 := q3.cell 3
        have g6_0 := q6.cell 0
        have g6_1 := q6.cell 1
        simp only [List.getElem?_cons_zero, List.getElem?_cons_succ] at g3_0 g3_1 g3_2 g3_3 g6_0 g6_1
        go_wp2_with fail
        refine (coHolds_any _).mono ?_
        rintro ee w9 ⟨rfl, bh⟩
        clear g3_0 g3_1 g3_2 g3_3 g6_0 g6_1
        replace BB := BB.trans (bh.mono BB.size)
        replace RA := RA.below bh
        replace hV := hV.below bh
        replace hU := hU.below bh
        replace ht1 := ht1.below bh
        replace hp1 := hp1.below bh
        replace q3 := q3.below bh
        replace q6 := q6.below bh
        clear bh
        go_wp2
        go_ret
        exact ⟨rfl, BB⟩
      · have hz1 : (CO == 0) = false := by simpa using hz
        have HE : Hid (PO = V) := by (show _ = _; rw [← HPO.out]; exact pots_else (by rw [HC.out]; exact hc) (by rw [HC.out]; exact hz))
        rw [HE.out] at hp1
        have g3_0 := q3.cell 0
        have g3_1 := q3.cell 1
        have g3_2 := q3.cell 2
        have g3_3 := q3.cell 3
        have g6_0 := q6.cell 0
        have g6_1 := q6.cell 1
        simp only [List.getElem?_cons_zero, List.getElem?_cons_succ] at g3_0 g3_1 g3_2 g3_3 g6_0 g6_1
        go_wp2_with fail
        refine (coI_any _ _ _ _ _ _ V V _ hp1 hV hn2b (by omega)).mono ?_
        rintro ee w9 ⟨rfl, b6⟩
        rw [eqB_refl]
        clear g3_0 g3_1 g3_2 g3_3 g6_0 g6_1
        replace BB := BB.trans (b6.mono BB.size)
        replace RA := RA.below b6
        replace hV := hV.below b6
        replace hU := hU.below b6
        replace ht1 := ht1.below b6
        replace hp1 := hp1.below b6
        replace q3 := q3.below b6
        replace q6 := q6.below b6
        clear b6
        have g3_0 := q3.cell 0
        have g3_1 := q3.cell 1
        have g3_2 := q3.cell 2
        have g3_3 := q3.cell 3
        have g6_0 := q6.cell 0
        have g6_1 := q6.cell 1
        simp only [List.getElem?_cons_zero, List.getElem?_cons_succ] at g3_0 g3_1 g3_2 g3_3 g6_0 g6_1
        go_wp2_with fail
        refine (coHolds_any _).mono ?_
        rintro ee w10 ⟨rfl, bh⟩
        clear g3_0 g3_1 g3_2 g3_3 g6_0 g6_1
        replace BB := BB.trans (bh.mono BB.size)
        replace RA := RA.below bh
        replace hV := hV.below bh
        replace hU := hU.below bh
        replace ht1 := ht1.below bh
        replace hp1 := hp1.below bh
        replace q3 := q3.below bh
        replace q6 := q6.below bh
        clear bh
        go_wp2
        go_ret
        exact ⟨rfl, BB⟩
  · go_enter Try.func4, Try.ntmps4
    go_wp2
    go_ret
    exact ⟨rfl, Below.refl _ _⟩

/-! ### The row's step -/
set_option maxRecDepth 100000 in
theorem lifted (os : Os) (started : os.Started) (H : Type) (enc : TypeId × Value → H) :
    ReturnsInHanded {} Try.checked os 4 .any (Rows.fnRowDoSpec.pre6 enc Try.prog Try.f4 Rows.fnRowDoRow.domain false) (Rows.fnRowDoSpec.post enc Try.prog Try.f4 false true false false) := by
  refine returnsInHanded_of_change (C := Try.checked) own started (by kernel_rfl) Try.func4
    (ChangeSpec.witness6 (enc := enc) (C := Try.checked) false ⟨#[], #[.slice none 0 0], []⟩ 8 (by kernel_rfl) (by kernel_rfl) (by kernel_rfl) (by kernel_rfl)) ?_
  intro W base args ds gs before hval0 hW hcnd _
  have hval : ∀ (j : Nat) t v, Try.f4.params[j]? = some t → args[j]? = some v → Value.okWide Try.prog W .any base t v := hval0
  have hW' := hW
  obtain ⟨p, q, hA0, hV, rfl, hfz, hnd⟩ := hW
  have hA : DataW.TrodAll enc Try.prog W 0 (fun _ => true) true Try.f4.params.toList args.toList ds p := hA0
  rw [Try.params4] at hA hval
  obtain ⟨v0, vs0, d0, ds0, p0, q0, hargs, rfl, rfl, h0, r0⟩ := trodAll_cons hA
  obtain ⟨rfl, rfl, rfl⟩ := trodAll_nil r0
  obtain rfl : args = #[v0] := by cases args; simp_all
  obtain ⟨rfl, rfl⟩ := trodVars_none hV
  have k0 := h0
  have lt0 : ∀ x ∈ p0, x.block < W.heap.size := by obtain ⟨m, hm⟩ := k0; exact DataW.trod_lt m _ _ _ hm
  obtain ⟨a0, n0, cap0, C0, rfl, hC0, hn0⟩ := open_bytesT (hval 0 22 v0 rfl rfl) h0
  clear hA0 hval0
  refine (walk W a0 n0 cap0 C0 hC0 hn0).mono fun e W' ⟨he, bel⟩ => ?_
  subst he
  exact ⟨_, rfl, _, _, _, [], _, [], hW', trodAll_mk1 (shut_bool Try.underlying4 _), (trodAll_cons_mk (Below.trod laidOut (by kernel_rfl) (of_decide_eq_true (by kernel_rfl)) k0 bel lt0) trodAll_mk0), rfl, bel.frame _, fun h => by cases h⟩

theorem over : Rows.fnRowDoRow.holds Try.pinned (OpenSpec.ofChange Rows.fnRowDoSpec) :=
  OpenClaim.holds_of_wide 4 Try.f4 rfl rfl rfl rfl rfl rfl rfl ⟨rfl, rfl, rfl, rfl, rfl⟩ rfl rfl rfl rfl rfl (by kernel_rfl) Try.func4 (by kernel_rfl)
    (of_decide_eq_true (by kernel_rfl)) (by unfold Func.isWrapper; first | (rw [if_pos (by decide +kernel)]; kernel_rfl) | (rw [if_neg (by decide +kernel)]; exact ⟨rfl, rfl⟩))
    (fun os started H enc _ => lifted os started H enc)

end Go.Proofs.Ytemcinobgdphnaa.fnRowDo
namespace Go.Proofs.Ytemcinobgdphnaa
/-- The statement. -/
theorem fnRowDo_holds : Rows.FnRowDoSaid := fnRowDo.over
#print axioms fnRowDo_holds
end Go.Proofs.Ytemcinobgdphnaa
