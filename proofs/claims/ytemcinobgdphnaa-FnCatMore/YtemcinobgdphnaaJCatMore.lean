/-
  For all bytes FnCatMore returns true, and what came in reads behind the call as it did. No condition. (one act more keeps all parts and pins)
-/
import Derived.Test.YtemcinobgdphnaaJCatMoreB
import Derived.Test.YtemcinobgdphnaaJCatMoreC
import Derived.Test.YtemcinobgdphnaaJCatMoreE
import Derived.Test.YtemcinobgdphnaaJCatMoreF
import Derived.Test.YtemcinobgdphnaaJCatMoreA
import Derived.Test.YtemcinobgdphnaaJCatMoreG
import Derived.Test.YtemcinobgdphnaaOpen
namespace Go.Proofs.Ytemcinobgdphnaa.fnCatMore
open Go.ChangeShapes Go.WideShapes Go.ChangeAt Go.RowKit
set_option linter.unusedVariables false
set_option maxRecDepth 100000

theorem open_bytesT {H : Type} {enc : TypeId × Value → H} {W : World} {r : Reach} {b0 : Nat} {v : Value} {d : DataW H} {p : List MemPlace}
    (hv : Value.okWide Try.prog W r b0 22 v) (h : DataW.Trod enc Try.prog W 0 (fun _ => true) true 22 v d p) : ∃ a n cap zs, v = .slice a n cap ∧ BInts W a n zs ∧ (n ≤ cap ∧ cap ≤ maxLen) := by
  obtain ⟨a0, len0, cap0, rfl⟩ := okWide_slice Try.underlying22 hv
  obtain ⟨fuel, hf⟩ := h
  rcases open_ints Try.underlying22 Try.underlying5 (by kernel_rfl) hf with ⟨hcs, _⟩ | ⟨x, l, c, zs, hcs, _, hl, hm, hz, _, hcell, hwz⟩
  · simp [Value.cells] at hcs
    obtain ⟨rfl, rfl, rfl⟩ := hcs
    exact ⟨none, 0, 0, [], rfl, ⟨rfl, fun i hi => by omega, fun i => by simp⟩, by omega, by unfold maxLen; omega⟩
  · simp [Value.cells] at hcs
    obtain ⟨rfl, rfl, rfl⟩ := hcs
    have hz' : zs.length = cap0 := by simpa using hz
    refine ⟨some x, len0, cap0, zs.take len0, rfl, ⟨by rw [List.length_take]; omega, fun i hi => ?_, fun i => ?_⟩, hl, hm⟩
    · obtain ⟨b, off, spot⟩ := x
      have hc0 := hcell 0 (by omega)
      have hspot : spot = none := by simpa [Addr.add] using World.cell?_spot hc0
      subst hspot
      refine ⟨b, off, rfl, ?_⟩
      have hc := hcell i (by omega)
      have : W.cell? ⟨b, off + i, none⟩ = some (.int .u8 (zs.getD i 0)) := by
        by_cases h0 : i = 0
        · subst h0; simpa [Addr.add] using hc
        · simpa [Addr.add, h0] using hc
      rw [this]
      simp [hi]
    · by_cases hi : i < (zs.take len0).length
      · rw [List.getElem?_eq_getElem hi]
        have := hwz _ (List.mem_of_mem_take (List.getElem_mem hi))
        simpa [Lit.wf, IntKind.min, IntKind.max, IntKind.signed, IntKind.bits] using this
      · rw [List.getElem?_eq_none (by omega)]
        simp

set_option maxHeartbeats 3200000 in
theorem coPs_any (a c : Option Addr) (n cap cap' : Nat) (ts us : List IV) (w : World) (hN : ts.length = n) (hM : us.length = n) (hn1 : n ≤ 1048576) (hx : ts.map IV.x = us.map IV.x) (h : ISG w a ts) (h' : ISG w c us) :
    Calls Try.prog 22 #[.slice a n cap, .slice c n cap'] w fun e w' => e = .returned (.bool true) ∧ Below w.heap.size w w' := by
  have HN : Hid (ts.length = n ∧ us.length = n ∧ ts.map IV.x = us.map IV.x) := ⟨hN, hM, hx⟩
  clear hN hM hx
  go_enter Try.func22, Try.ntmps22
  go_wp2_with fail
  go_loopw [5] (fun i wr => ∃ k : Nat, k ≤ n ∧ i = .int .i64 k ∧ Below w.heap.size w wr) (fun i _ => n - (intOf i).toNat)
  case atStart => exact ⟨0, Nat.zero_le _, rfl, Below.refl _ _⟩
  case round =>
    obtain ⟨k, hk, rfl, hnx⟩ := hrel
    by_cases hlt : k < n
    · have k1 : k < ts.length := by rw [HN.out.1]; exact hlt
      have k2 : k < us.length := by rw [HN.out.2.1]; exact hlt
      obtain ⟨b, o, rfl, c1, g1⟩ := h k k1
      obtain ⟨b', o', rfl, c2, g2⟩ := h' k k2
      have ex : (ts[k]?.getD noI).x = (us[k]?.getD noI).x := by
        have e := congrArg (fun l : List (List Int) => l[k]?.getD []) HN.out.2.2
        simp only [List.getElem?_map] at e
        rw [List.getElem?_eq_getElem k1, List.getElem?_eq_getElem k2] at e ⊢
        simpa using e
      generalize ts[k]?.getD noI = x at c1 g1 ex
      generalize us[k]?.getD noI = y at c2 g2 ex
      obtain ⟨xi, xn⟩ := g1
      obtain ⟨yi, yn⟩ := g2
      have p0 : w.cell? ⟨b, o + k, none⟩ = some (.slice x.a x.n x.cap) := c1
      have p1 : w.cell? ⟨b', o' + k, none⟩ = some (.slice y.a y.n y.cap) := c2
      clear c1 c2 h h' HN k1 k2
      have hlt' : (k : Int) < (n : Int) := by omega
      have KP : Hid (∀ X, Below w.heap.size w X → (X.cell? ⟨b, o + k, none⟩ = some (.slice x.a x.n x.cap) ∧ X.cell? ⟨b', o' + k, none⟩ = some (.slice y.a y.n y.cap))) := fun X hX => ⟨(hX.cell (p := ⟨b, o + k, none⟩) (block_lt p0)).trans p0, (hX.cell (p := ⟨b', o' + k, none⟩) (block_lt p1)).trans p1⟩
      go_upto_region 6 with fail
      refine wp_region_ends (fun X => X.cell? ⟨b, o + k, none⟩ = some (.slice x.a x.n x.cap) ∧ X.cell? ⟨b', o' + k, none⟩ = some (.slice y.a y.n y.cap)) (fun _ => True) 9 (by kernel_rfl) ?_
      have BV : Below w.heap.size w wr.drew := hnx.drew
      obtain ⟨V, hV⟩ : ∃ V, V = wr.drew := ⟨_, rfl⟩
      rw [← hV] at BV
      rw [← hV]
      clear hV
      have hSS : (V.cell? ⟨b, o + k, none⟩ = some (.slice x.a x.n x.cap) ∧ V.cell? ⟨b', o' + k, none⟩ = some (.slice y.a y.n y.cap)) ∧ True := ⟨KP.out _ BV, trivial⟩
      refine wpAnyE_take0 (i := 0) (v := ?cpxv0) rfl (by kernel_rfl) (by kernel_rfl) (by kernel_rfl) (by decide) (fun _ _ _ h => h) (Or.inl ⟨by rfl, ?cpxhy0⟩) hSS ?_
      case cpxhy0 => (intro wz hSw; (try dsimp only at hSw); go_simp; try (with_reducible rfl))
      refine wpAnyE_take0 (i := 1) (v := ?cpxv1) rfl (by kernel_rfl) (by kernel_rfl) (by kernel_rfl) (by decide) (fun _ _ _ h => h) (Or.inl ⟨by rfl, ?cpxhy1⟩) hSS ?_
      case cpxhy1 => (intro wz hSw; (try dsimp only at hSw); go_simp; try (with_reducible rfl))
      refine wpAnyE_take0 (i := 2) (v := ?cpxv2) rfl (by kernel_rfl) (by kernel_rfl) (by kernel_rfl) (by decide) (fun _ _ _ h => h) (Or.inl ⟨by rfl, ?cpxhy2⟩) hSS ?_
      case cpxhy2 => (intro wz hSw; (try dsimp only at hSw); go_simp; try (with_reducible rfl))
      refine wpAnyE_take0 (i := 3) (v := ?cpxv3) rfl (by kernel_rfl) (by kernel_rfl) (by kernel_rfl) (by decide) (fun _ _ _ h => h) (Or.inl ⟨by rfl, ?cpxhy3⟩) hSS ?_
      case cpxhy3 => (intro wz hSw; (try dsimp only at hSw); go_simp; try (with_reducible rfl))
      simp only [Act.put, List.setIfInBounds_toArray, List.set_cons_succ, List.set_cons_zero, List.getElem_toArray, List.getElem_cons_succ, List.getElem_cons_zero]
      refine wpAnyE_take0 (i := 4) (v := ?cpxv4) rfl (by kernel_rfl) (by kernel_rfl) (by kernel_rfl) (by decide) (fun _ _ _ h => h) (Or.inl ⟨by rfl, ?cpxhy4⟩) hSS ?_
      case cpxhy4 => (intro wz hSw; (try dsimp only at hSw); go_simp; try (with_reducible rfl))
      refine wpAnyE_take0 (i := 5) (v := ?cpxv5) rfl (by kernel_rfl) (by kernel_rfl) (by kernel_rfl) (by decide) (fun _ _ _ h => h) (Or.inl ⟨by rfl, ?cpxhy5⟩) hSS ?_
      case cpxhy5 => (intro wz hSw; (try dsimp only at hSw); go_simp; try (with_reducible rfl))
      refine wpAnyE_take0 (i := 6) (v := ?cpxv6) rfl (by kernel_rfl) (by kernel_rfl) (by kernel_rfl) (by decide) (fun _ _ _ h => h) (Or.inl ⟨by rfl, ?cpxhy6⟩) hSS ?_
      case cpxhy6 => (intro wz hSw; (try dsimp only at hSw); go_simp; try (with_reducible rfl))
      refine wpAnyE_take0 (i := 7) (v := ?cpxv7) rfl (by kernel_rfl) (by kernel_rfl) (by kernel_rfl) (by decide) (fun _ _ _ h => h) (Or.inl ⟨by rfl, ?cpxhy7⟩) hSS ?_
      case cpxhy7 => (intro wz hSw; (try dsimp only at hSw); go_simp; try (with_reducible rfl))
      simp only [Act.put, List.setIfInBounds_toArray, List.set_cons_succ, List.set_cons_zero, List.getElem_toArray, List.getElem_cons_succ, List.getElem_cons_zero]
      refine wpAnyE_one (i := 8) (by kernel_rfl) rfl (fun K hK => ?_)
      go_simp
      refine (coI_any _ _ _ _ _ _ x.x y.x V (xi.below BV) (yi.below BV) xn yn).mono ?_
      rintro ee w1 ⟨rfl, b1⟩
      rw [ex, eqB_refl]
      have B1 := BV.trans (b1.mono BV.size)
      clear hSS
      have hSS : (w1.cell? ⟨b, o + k, none⟩ = some (.slice x.a x.n x.cap) ∧ w1.cell? ⟨b', o' + k, none⟩ = some (.slice y.a y.n y.cap)) ∧ True := ⟨KP.out _ B1, trivial⟩
      (try dsimp only)
      refine hK.out _ _ ⟨hSS.1, fun _ => trivial⟩ ?_
      clear hK K
      refine wpAnyE_one (i := 9) (by kernel_rfl) rfl (fun K hK => ?_)
      go_simp
      refine hK.out _ _ ⟨hSS.1, fun _ => trivial⟩ ?_
      clear hK K
      refine wpAnyE_done (by kernel_rfl) ?_ _
      clear hSS
      clear KP
      go_wp2
      go_roundw
      case rel => exact ⟨k + 1, by omega, by go_num, B1⟩
      case measure => simp [intOf]; omega
    · have hlt' : ¬ (k : Int) < (n : Int) := by omega
      go_wp2
      go_ret
      exact ⟨rfl, hnx⟩
set_option maxHeartbeats 1600000 in
theorem dForms (a : Option Addr) (n cap : Nat) (bs : List Int) (w : World) (h : BInts w a n bs) (hn : n ≤ cap) (hn1 : n ≤ 1048576) (hc : cap ≤ maxLen) :
    Calls Try.prog 20 #[.slice a n cap] w fun e w' => ∃ ad N c ss, e = .returned (.slice ad N c) ∧ Below w.heap.size w w' ∧ LSG w' ad ss ∧ ss.length = N ∧ N ≤ 5 := by
  go_enter Try.func20, Try.ntmps20
  go_wp2_with fail
  refine (open_any _ _ _ bs _ h hn hn1 hc).mono ?_
  rintro e w1 ⟨R, n', cap2, bs', rfl, b1, hR, r1⟩
  have hRl := r1.c.lt
  go_wp2_with fail
  refine (anyacts_f R a n' cap2 bs' 0 8 _ r1 (by omega) (by omega) (by omega) (by omega) r1.ha).mono ?_
  rintro e w2 ⟨ad, N, c, ss, q, rfl, j, hN, hN5, q0, q1⟩
  have BB : Below w.heap.size w w2 := b1.trans (j.t.below (by have := b1.size; omega) (fun k hk => by omega))
  have hG := j.lsg hN
  clear r1 b1 j
  go_wp2
  go_ret
  exact ⟨_, N, c, ss, rfl, BB, hG, hN, hN5⟩
theorem pParts (ad : Option Addr) (N cap : Nat) (ss : List L2V) (w : World) (hN : ss.length = N) (hF : LSG w ad ss) (hN1 : N ≤ 1048576) (hc : catB N ss = true) :
    Calls Try.prog 21 #[.slice ad N cap] w fun e w' => ∃ a cG ts n, e = .returned (.slice a n cG) ∧ Below w.heap.size w w' ∧ ISG w' a ts ∧ ts.length = n ∧ ts.map IV.x = catP ss ∧ n ≤ cG ∧ n ≤ 600000 :=
  (icatforms_any ad N cap ss w hN hF hN1).mono fun e w' h => by
    obtain ⟨b, ⟨hA, _⟩ | ⟨_, G, cG, ts, bs, he, hx, j⟩⟩ := h
    · rw [hA] at hc; cases hc
    · have hl : ts.length = (catP ss).length := by rw [← hx, List.length_map]
      have h4 : ss.length ≤ 4 := by
        simp only [catB, Bool.and_eq_true] at hc
        have := inB_iff.1 hc.1
        omega
      have hle := catP_le h4
      have hcap : (catP ss).length ≤ cG := by
        rcases j.o.2 with ⟨h, _⟩ | ⟨g, cap', cur, e, _, _, hl', _⟩
        · cases h
        · simp only [Value.slice.injEq] at e
          obtain ⟨_, e2, rfl⟩ := e
          omega
      have hg : ISG w' (some ⟨G, 0, none⟩) ts := fun i hi => by
        obtain ⟨h1, h2, _⟩ := j.k i hi
        have ho := j.o
        rw [← hl] at ho
        refine ⟨G, 0, rfl, ?_, ?_, by omega⟩
        · rw [Nat.zero_add, own_cell ho i (by omega), List.getElem?_map, List.getElem?_eq_getElem hi]; rfl
        · rw [h1]; exact h2.ints
      exact ⟨_, cG, ts, _, he, b, hg, hl, hx, hcap, hle⟩
theorem pPins (ad : Option Addr) (N cap : Nat) (ss : List L2V) (w : World) (hN : ss.length = N) (hF : LSG w ad ss) (hN1 : N ≤ 1048576) (hc : catB N ss = true) :
    Calls Try.prog 26 #[.slice ad N cap] w fun e w' => ∃ G cG, e = .returned (.slice (some ⟨G, 0, none⟩) 3 cG) ∧ Below w.heap.size w w' ∧ OwnBB w' G (pinsA ss) :=
  (icatpins_any ad N cap ss w hN hF hN1).mono fun e w' h => by
    obtain ⟨b, ⟨hA, _⟩ | ⟨_, G, cG, he, _, ho⟩⟩ := h
    · rw [hA] at hc; cases hc
    · exact ⟨G, cG, he, b, ho⟩
theorem pForms (T : List (List Int)) (ad : Option Addr) (N cap : Nat) (gs : List L2V) (w : World) (hN : gs.length = N) (hF : LSG w ad gs) (hN1 : N ≤ 1048576) (hT : catT (catB N gs) (catP gs) = T) :
    Calls Try.prog 21 #[.slice ad N cap] w fun e w' => ∃ a cp ts, e = .returned (.slice a T.length cp) ∧ Below w.heap.size w w' ∧ ISG w' a ts ∧ ts.map IV.x = T :=
  (icatforms_at T ad N cap gs w hN hF hN1 hT).mono fun e w' ⟨a, cp, he, b, u⟩ => by
    obtain ⟨ts, h1, h2⟩ := u.isg
    exact ⟨a, cp, ts, he, b, h1, h2⟩
theorem isg_take {W : World} {a : Option Addr} {ts : List IV} {k : Nat} (h : ISG W a ts) : ISG W a (ts.take k) := fun i hi => by
  rw [List.length_take] at hi
  rw [List.getElem?_take_of_lt (by omega)]
  exact h i (by omega)
/-- Acts with one more behind them. -/
structure More (N : Nat) (ss : List L2V) (a : L2V) : Prop where
  l : (ss ++ [a]).length = N + 1
  c : catB (N + 1) (ss ++ [a]) = true
theorem more_of {N : Nat} {ss : List L2V} {a : L2V} (h : catB N ss = true) (hl : ss.length = N) (h4 : N < 4) (ha : a.ok = true) : More N ss a := ⟨by rw [List.length_append, hl]; rfl, catB_more h h4 ha⟩
theorem at0 {N : Nat} {ss : List L2V} (hl : ss.length = N) (h0 : 0 < N) : ss[0]?.getD noL ∈ ss := by rw [List.getElem?_eq_getElem (by omega)]; exact List.getElem_mem _
theorem cat_ok {N : Nat} {ss : List L2V} (h : catB N ss = true) {a : L2V} (ha : a ∈ ss) : a.ok = true := by
  simp only [catB, Bool.and_eq_true] at h
  exact List.all_eq_true.1 h.2 a ha
theorem map_snoc (ss : List L2V) (a : L2V) : (ss ++ [a]).map L2V.v = ss.map L2V.v ++ [a.v] := by simp

set_option maxHeartbeats 25600000 in
theorem walk (w : World) (a : Option Addr) (n cap : Nat) (A0 : List Int) (hA0 : BInts w a n A0) (hn : n ≤ cap ∧ cap ≤ maxLen) :
    Calls Try.prog 5 #[.slice a n cap] w fun e w' => e = .returned (.bool true) ∧ Below w.heap.size w w' := by
  obtain ⟨hn2, hn3⟩ := hn
  by_cases hn1 : n ≤ 1048576
  · go_enter Try.func5, Try.ntmps5
    go_wp2_with fail
    refine (dForms _ _ _ A0 _ hA0 hn2 hn1 hn3).mono ?_
    rintro ee w1 ⟨ad, N, c, ss, rfl, b1, hG, hN, hN5⟩
    have BB := b1
    clear b1
    have HN : Hid (ss.length = N) := hN
    clear hN
    obtain ⟨T, hT⟩ : ∃ T, catT (catB N ss) (catP ss) = T := ⟨_, rfl⟩
    have HT : Hid (catT (catB N ss) (catP ss) = T) := hT
    clear hT
    go_wp2_with fail
    refine (pForms T _ _ _ ss _ HN.out hG (by omega) HT.out).mono ?_
    rintro ee w2 ⟨pa, pc, ts, rfl, b2, hP, hts⟩
    replace BB := BB.trans (b2.mono BB.size)
    replace hG := hG.below b2
    clear b2
    have HP : Hid (ts.map IV.x = T ∧ ts.length = T.length) := ⟨hts, by rw [← hts, List.length_map]⟩
    clear hts
    go_wp2_with fail
    refine (scatforms_at T _ _ _ ss _ HN.out hG (by omega) HT.out).mono ?_
    rintro ee w3 ⟨qa, qc, us, rfl, b3, hQ, hus, hT6⟩
    replace BB := BB.trans (b3.mono BB.size)
    replace hG := hG.below b3
    replace hP := hP.below b3
    clear b3
    have HQ : Hid (us.map IV.x = T ∧ us.length = T.length) := ⟨hus, by rw [← hus, List.length_map]⟩
    clear hus
    go_wp2_with fail
    refine (coPs_any _ _ _ _ _ ts us _ HP.out.2 HQ.out.2 (by omega) (HP.out.1.trans HQ.out.1.symm) hP hQ).mono ?_
    rintro ee w4 ⟨rfl, b4⟩
    replace BB := BB.trans (b4.mono BB.size)
    replace hG := hG.below b4
    replace hP := hP.below b4
    replace hQ := hQ.below b4
    clear b4
    clear hQ HQ
    go_wp2_with fail
    refine (scat_any _ _ _ ss _ HN.out hG (by omega)).mono ?_
    rintro ee w5 ⟨rfl, b5⟩
    replace BB := BB.trans (b5.mono BB.size)
    replace hG := hG.below b5
    replace hP := hP.below b5
    clear b5
    cases hB : catB N ss
    · have HB : Hid (catB N ss = false) := hB
      clear hB
      go_wp2_with fail
      refine (icat_any _ _ _ ss _ HN.out hG (by omega)).mono ?_
      rintro ee w6 ⟨rfl, b6⟩
      rw [HB.out]
      replace BB := BB.trans (b6.mono BB.size)
      replace hG := hG.below b6
      replace hP := hP.below b6
      clear b6
      go_wp2_with fail
      refine (scat_any _ _ _ ss _ HN.out hG (by omega)).mono ?_
      rintro ee w7 ⟨rfl, b7⟩
      rw [HB.out]
      replace BB := BB.trans (b7.mono BB.size)
      replace hG := hG.below b7
      replace hP := hP.below b7
      clear b7
      go_wp2_with fail
      refine (coHolds_any _).mono ?_
      rintro ee w8 ⟨rfl, bh⟩
      replace BB := BB.trans (bh.mono BB.size)
      replace hG := hG.below bh
      replace hP := hP.below bh
      clear bh
      go_wp2
      go_ret
      exact ⟨rfl, BB⟩
    · have HB : Hid (catB N ss = true) := hB
      clear hB
      have h14 : 1 ≤ N ∧ N ≤ 4 := by
        have h := HB.out
        simp only [catB, Bool.and_eq_true] at h
        have := inB_iff.1 h.1
        omega
      obtain ⟨hN1, hN4⟩ := h14
      by_cases h4 : N = 4
      · have h41 : ((N : Int) == 4) = true := by simp; omega
        clear h4
        go_wp2_with fail
        refine (icat_any _ _ _ ss _ HN.out hG (by omega)).mono ?_
        rintro ee w6 ⟨rfl, b6⟩
        rw [HB.out]
        replace BB := BB.trans (b6.mono BB.size)
        replace hG := hG.below b6
        replace hP := hP.below b6
        clear b6
        go_wp2_with fail
        refine (scat_any _ _ _ ss _ HN.out hG (by omega)).mono ?_
        rintro ee w7 ⟨rfl, b7⟩
        rw [HB.out]
        replace BB := BB.trans (b7.mono BB.size)
        replace hG := hG.below b7
        replace hP := hP.below b7
        clear b7
        go_wp2_with fail
        refine (coHolds_any _).mono ?_
        rintro ee w8 ⟨rfl, bh⟩
        replace BB := BB.trans (bh.mono BB.size)
        replace hG := hG.below bh
        replace hP := hP.below bh
        clear bh
        go_wp2
        go_ret
        exact ⟨rfl, BB⟩
      · have h41 : ((N : Int) == 4) = false := by simp; omega
        have hl4 : N < 4 := by omega
        have HTP : Hid (T = catP ss) := by (show T = _; rw [← HT.out, HB.out]; rfl)
        obtain ⟨L, hL⟩ : ∃ L, T.length = L := ⟨_, rfl⟩
        have HLL : Hid (T.length = L ∧ ts.length = L) := ⟨hL, by rw [HP.out.2, hL]⟩
        rw [hL] at hT6
        rw [hL]
        clear hL
        go_upto_region 9 with fail
        obtain ⟨wb, hwb⟩ : ∃ x, x = w5 := ⟨_, rfl⟩
        rw [← hwb]
        rw [← hwb] at hG hP BB
        clear hwb
        go_cut [5] (fun v wx => ∃ (g c' b1 b2 b3 b4 bl : Nat) (r : Int), v = .slice (some ⟨g, 0, none⟩) (N + 1) c' ∧ LSG wx (some ⟨g, 0, none⟩) (ss ++ [moreL b1 b2 b3 b4 bl r]) ∧ 0 ≤ r ∧ r ≤ 2 ∧ Below wb.heap.size wb wx)
        case first =>
          obtain ⟨i0, hi, hz0, hz1, hz2⟩ := info_parts Try.infoA
          have al := (Below.refl wb.heap.size wb).alloc (Nat.le_refl _) (.cells #[] 52)
          have o0 := World.ownsRow_lit (base := wb.heap.size) (e := 52) (size := 1) wb #[] 0 (Nat.le_refl _) (by unfold maxLen; omega) rfl
          have hGa := hG.below al
          have HEA : Hid (∀ a ∈ ss, LG wb a) := hG.each
          clear BB hP hG
          obtain ⟨r, hr⟩ : ∃ r : Int, Int.tmod (n : Int) 3 = r := ⟨_, rfl⟩
          have r0 : 0 ≤ r := by rw [← hr]; exact Int.tmod_nonneg _ (by omega)
          have r2 : r < 3 := by rw [← hr]; exact Int.tmod_lt_of_pos _ (by omega)
          go_wp2_with (at_builtin; refine wpList_plain rfl (fun K hK => ?_); refine wp_copyA (.tmp 38) (.tmp 39) rfl wb.heap.size wb.heap.size ad N c ss (by rfl) o0 (by rfl) hGa HN.out (by omega) (by omega) (by rw [World.size_alloc]; omega) (Nat.le_refl _) ?_)
          intro g8 c8 W1 hBn hTn ho8 hge hor
          refine hK _ _ ?_
          clear hK K hGa o0
          have bW := al.trans hBn
          have g8l := ho8.lt g8 rfl
          clear al hBn hTn hor
          have s0 := bW.size
          have ak := (Below.refl (W1).heap.size (W1)).alloc (Nat.le_refl _) (.cells #[.int .i64 1, .int .i64 2, .int .i64 r] 3)
          replace bW := bW.trans (ak.mono bW.size)
          replace ho8 := own_below ho8 ak
          have k0 := Cel.new (W1) [.int .i64 1, .int .i64 2, .int .i64 r] 3
          clear ak
          have ak := (Below.refl ((W1).alloc (.cells #[.int .i64 1, .int .i64 2, .int .i64 r] 3)).heap.size ((W1).alloc (.cells #[.int .i64 1, .int .i64 2, .int .i64 r] 3))).alloc (Nat.le_refl _) (.cells #[.int .i64 0, .int .i64 0] 3)
          replace bW := bW.trans (ak.mono bW.size)
          replace ho8 := own_below ho8 ak
          replace k0 := k0.below ak
          have k1 := Cel.new ((W1).alloc (.cells #[.int .i64 1, .int .i64 2, .int .i64 r] 3)) [.int .i64 0, .int .i64 0] 3
          simp only [World.size_alloc] at k1
          clear ak
          have ak := (Below.refl (((W1).alloc (.cells #[.int .i64 1, .int .i64 2, .int .i64 r] 3)).alloc (.cells #[.int .i64 0, .int .i64 0] 3)).heap.size (((W1).alloc (.cells #[.int .i64 1, .int .i64 2, .int .i64 r] 3)).alloc (.cells #[.int .i64 0, .int .i64 0] 3))).alloc (Nat.le_refl _) (.cells #[.int .i64 0, .int .i64 0, .int .i64 1] 3)
          replace bW := bW.trans (ak.mono bW.size)
          replace ho8 := own_below ho8 ak
          replace k0 := k0.below ak
          replace k1 := k1.below ak
          have k2 := Cel.new (((W1).alloc (.cells #[.int .i64 1, .int .i64 2, .int .i64 r] 3)).alloc (.cells #[.int .i64 0, .int .i64 0] 3)) [.int .i64 0, .int .i64 0, .int .i64 1] 3
          simp only [World.size_alloc] at k2
          clear ak
          have ak := (Below.refl ((((W1).alloc (.cells #[.int .i64 1, .int .i64 2, .int .i64 r] 3)).alloc (.cells #[.int .i64 0, .int .i64 0] 3)).alloc (.cells #[.int .i64 0, .int .i64 0, .int .i64 1] 3)).heap.size ((((W1).alloc (.cells #[.int .i64 1, .int .i64 2, .int .i64 r] 3)).alloc (.cells #[.int .i64 0, .int .i64 0] 3)).alloc (.cells #[.int .i64 0, .int .i64 0, .int .i64 1] 3))).alloc (Nat.le_refl _) (.cells #[.int .i64 0, .int .i64 0] 3)
          replace bW := bW.trans (ak.mono bW.size)
          replace ho8 := own_below ho8 ak
          replace k0 := k0.below ak
          replace k1 := k1.below ak
          replace k2 := k2.below ak
          have k3 := Cel.new ((((W1).alloc (.cells #[.int .i64 1, .int .i64 2, .int .i64 r] 3)).alloc (.cells #[.int .i64 0, .int .i64 0] 3)).alloc (.cells #[.int .i64 0, .int .i64 0, .int .i64 1] 3)) [.int .i64 0, .int .i64 0] 3
          simp only [World.size_alloc] at k3
          clear ak
          have ak := (Below.refl (((((W1).alloc (.cells #[.int .i64 1, .int .i64 2, .int .i64 r] 3)).alloc (.cells #[.int .i64 0, .int .i64 0] 3)).alloc (.cells #[.int .i64 0, .int .i64 0, .int .i64 1] 3)).alloc (.cells #[.int .i64 0, .int .i64 0] 3)).heap.size (((((W1).alloc (.cells #[.int .i64 1, .int .i64 2, .int .i64 r] 3)).alloc (.cells #[.int .i64 0, .int .i64 0] 3)).alloc (.cells #[.int .i64 0, .int .i64 0, .int .i64 1] 3)).alloc (.cells #[.int .i64 0, .int .i64 0] 3))).alloc (Nat.le_refl _) (.cells #[.int .i64 1, .int .i64 0, .int .i64 1, .slice (some ⟨W1.heap.size, 0, none⟩) 3 3, .slice (some ⟨W1.heap.size + 1, 0, none⟩) 2 2, .int .i64 0, .int .i64 3, .int .i64 0, .int .i64 0, .slice (some ⟨W1.heap.size + 1 + 1, 0, none⟩) 3 3, .slice (some ⟨W1.heap.size + 1 + 1 + 1, 0, none⟩) 2 2, .int .i64 0] 51)
          replace bW := bW.trans (ak.mono bW.size)
          replace ho8 := own_below ho8 ak
          replace k0 := k0.below ak
          replace k1 := k1.below ak
          replace k2 := k2.below ak
          replace k3 := k3.below ak
          have k4 := Cel.new (((((W1).alloc (.cells #[.int .i64 1, .int .i64 2, .int .i64 r] 3)).alloc (.cells #[.int .i64 0, .int .i64 0] 3)).alloc (.cells #[.int .i64 0, .int .i64 0, .int .i64 1] 3)).alloc (.cells #[.int .i64 0, .int .i64 0] 3)) [.int .i64 1, .int .i64 0, .int .i64 1, .slice (some ⟨W1.heap.size, 0, none⟩) 3 3, .slice (some ⟨W1.heap.size + 1, 0, none⟩) 2 2, .int .i64 0, .int .i64 3, .int .i64 0, .int .i64 0, .slice (some ⟨W1.heap.size + 1 + 1, 0, none⟩) 3 3, .slice (some ⟨W1.heap.size + 1 + 1 + 1, 0, none⟩) 2 2, .int .i64 0] 51
          simp only [World.size_alloc] at k4
          clear ak
          have ak := (Below.refl ((((((W1).alloc (.cells #[.int .i64 1, .int .i64 2, .int .i64 r] 3)).alloc (.cells #[.int .i64 0, .int .i64 0] 3)).alloc (.cells #[.int .i64 0, .int .i64 0, .int .i64 1] 3)).alloc (.cells #[.int .i64 0, .int .i64 0] 3)).alloc (.cells #[.int .i64 1, .int .i64 0, .int .i64 1, .slice (some ⟨W1.heap.size, 0, none⟩) 3 3, .slice (some ⟨W1.heap.size + 1, 0, none⟩) 2 2, .int .i64 0, .int .i64 3, .int .i64 0, .int .i64 0, .slice (some ⟨W1.heap.size + 1 + 1, 0, none⟩) 3 3, .slice (some ⟨W1.heap.size + 1 + 1 + 1, 0, none⟩) 2 2, .int .i64 0] 51)).heap.size ((((((W1).alloc (.cells #[.int .i64 1, .int .i64 2, .int .i64 r] 3)).alloc (.cells #[.int .i64 0, .int .i64 0] 3)).alloc (.cells #[.int .i64 0, .int .i64 0, .int .i64 1] 3)).alloc (.cells #[.int .i64 0, .int .i64 0] 3)).alloc (.cells #[.int .i64 1, .int .i64 0, .int .i64 1, .slice (some ⟨W1.heap.size, 0, none⟩) 3 3, .slice (some ⟨W1.heap.size + 1, 0, none⟩) 2 2, .int .i64 0, .int .i64 3, .int .i64 0, .int .i64 0, .slice (some ⟨W1.heap.size + 1 + 1, 0, none⟩) 3 3, .slice (some ⟨W1.heap.size + 1 + 1 + 1, 0, none⟩) 2 2, .int .i64 0] 51))).alloc (Nat.le_refl _) (.cells #[.slice (some ⟨W1.heap.size + 1 + 1 + 1 + 1, 0, none⟩) 2 2] 52)
          replace bW := bW.trans (ak.mono bW.size)
          replace ho8 := own_below ho8 ak
          replace k0 := k0.below ak
          replace k1 := k1.below ak
          replace k2 := k2.below ak
          replace k3 := k3.below ak
          replace k4 := k4.below ak
          have k5 := Cel.new ((((((W1).alloc (.cells #[.int .i64 1, .int .i64 2, .int .i64 r] 3)).alloc (.cells #[.int .i64 0, .int .i64 0] 3)).alloc (.cells #[.int .i64 0, .int .i64 0, .int .i64 1] 3)).alloc (.cells #[.int .i64 0, .int .i64 0] 3)).alloc (.cells #[.int .i64 1, .int .i64 0, .int .i64 1, .slice (some ⟨W1.heap.size, 0, none⟩) 3 3, .slice (some ⟨W1.heap.size + 1, 0, none⟩) 2 2, .int .i64 0, .int .i64 3, .int .i64 0, .int .i64 0, .slice (some ⟨W1.heap.size + 1 + 1, 0, none⟩) 3 3, .slice (some ⟨W1.heap.size + 1 + 1 + 1, 0, none⟩) 2 2, .int .i64 0] 51)) [.slice (some ⟨W1.heap.size + 1 + 1 + 1 + 1, 0, none⟩) 2 2] 52
          simp only [World.size_alloc] at k5
          clear ak
          obtain ⟨W7, hW7⟩ : ∃ x, x = ((((((W1).alloc (.cells #[.int .i64 1, .int .i64 2, .int .i64 r] 3)).alloc (.cells #[.int .i64 0, .int .i64 0] 3)).alloc (.cells #[.int .i64 0, .int .i64 0, .int .i64 1] 3)).alloc (.cells #[.int .i64 0, .int .i64 0] 3)).alloc (.cells #[.int .i64 1, .int .i64 0, .int .i64 1, .slice (some ⟨W1.heap.size, 0, none⟩) 3 3, .slice (some ⟨W1.heap.size + 1, 0, none⟩) 2 2, .int .i64 0, .int .i64 3, .int .i64 0, .int .i64 0, .slice (some ⟨W1.heap.size + 1 + 1, 0, none⟩) 3 3, .slice (some ⟨W1.heap.size + 1 + 1 + 1, 0, none⟩) 2 2, .int .i64 0] 51)).alloc (.cells #[.slice (some ⟨W1.heap.size + 1 + 1 + 1 + 1, 0, none⟩) 2 2] 52) := ⟨_, rfl⟩
          have hs7 : W7.heap.size = W1.heap.size + 1 + 1 + 1 + 1 + 1 + 1 := by rw [hW7]; simp only [World.size_alloc]
          rw [← hW7] at bW ho8 k0 k1 k2 k3 k4 k5
          have hlg := moreL_lg k0 k1 k2 k3 k4
          go_wp2_with (at_builtin; rw [← hW7]; refine wpList_append_lies _ rfl (.tmp 40) (.tmp 53) 44 rfl wb.heap.size 52 i0 _ 1 24 Try.underlying44 hi hz0 hz1 hz2 rfl (by omega) (.slice (some ⟨g8, 0, none⟩) N c8) N (ss.map L2V.v) (by rfl) ho8 ⟨W1.heap.size + 1 + 1 + 1 + 1 + 1, 0, none⟩ 1 1 [.slice (some ⟨W1.heap.size + 1 + 1 + 1 + 1, 0, none⟩) 2 2] (by rfl) (by rfl) (World.news_of_block (cs := #[.slice (some ⟨W1.heap.size + 1 + 1 + 1 + 1, 0, none⟩) 2 2]) (t := 52) (fr := (0, 0)) k5) (by simp [Value.oneCell']) (by omega) (by unfold maxLen; omega) (by omega) bW.size _ rfl ?_)
          intro g9 cp9 w9 hown hgrow hat9 _
          rw [← hW7] at hgrow
          have TG : Touch (fun z => z = g8) W7 w9 := ⟨hgrow.os, hgrow.tape, hgrow.output, hgrow.size, fun z hz hn => hgrow.block z hz (fun e => hn (by (have e' : some g8 = some z := e.symm); simp only [Option.some.injEq] at e'; exact e'.symm))⟩
          have bF := bW.grown hgrow bW.size (fun z hz => by (have hz' : some g8 = some z := hz); simp only [Option.some.injEq] at hz'; omega)
          have hl9 := moreL_lg (k0.touch TG (by omega)) (k1.touch TG (by omega)) (k2.touch TG (by omega)) (k3.touch TG (by omega)) (k4.touch TG (by omega))
          clear hlg k0 k1 k2 k3 k4 k5 TG hgrow hat9 hW7 hs7 ho8 bW
          have hLS : LSG w9 (some ⟨g9, 0, none⟩) (ss ++ [moreL (W1.heap.size) (W1.heap.size + 1) (W1.heap.size + 1 + 1) (W1.heap.size + 1 + 1 + 1) (W1.heap.size + 1 + 1 + 1 + 1) r]) := own_lsg (by rw [map_snoc]; exact hown) (by rw [List.length_append, HN.out]; rfl) (fun a ha => by
            rcases List.mem_append.1 ha with ha | ha
            · exact (HEA.out a ha).below bF
            · simp only [List.mem_singleton] at ha; subst ha; exact hl9)
          clear hown hl9
          go_wp2_with fail
          go_meet
          case rel => exact ⟨g9, cp9, _, _, _, _, _, r, rfl, hLS, r0, by omega, bF⟩
        case rest =>
          obtain ⟨g1, c1, b1, b2, b3, b4, bl, r, rfl, hM, r0, r2, b9⟩ := hcut
          have HM : Hid (More N ss (moreL b1 b2 b3 b4 bl r) ∧ readsR (rowsL (moreL b1 b2 b3 b4 bl r).x) 2 = true) := ⟨more_of HB.out HN.out hl4 (moreL_ok r0 r2), moreL_reads r0 r2⟩
          replace BB := BB.trans (b9.mono BB.size)
          replace hG := hG.below b9
          replace hP := hP.below b9
          clear b9
          generalize moreL b1 b2 b3 b4 bl r = am at hM HM
          clear r0 r2
          go_upto_region 10 with fail
          obtain ⟨wd, hwd⟩ : ∃ x, x = wc := ⟨_, rfl⟩
          subst hwd
          obtain ⟨a0, ha0⟩ : ∃ a, ss[0]?.getD noL = a := ⟨_, rfl⟩
          have HA0 : Hid (a0 ∈ ss) := by (show a0 ∈ ss; rw [← ha0]; exact at0 HN.out hN1)
          have hcell := hG 0 (by rw [HN.out]; omega)
          rw [ha0] at hcell
          clear ha0
          obtain ⟨ab, ao, rfl, p0, hl0⟩ := hcell
          obtain ⟨la, ln, lc, ls⟩ := a0
          dsimp only [L2V.v] at p0
          rw [Nat.add_zero] at p0
          go_cut [6] (fun v wx => ∃ (g c' : Nat), v = .slice (some ⟨g, 0, none⟩) (N + 1) c' ∧ LSG wx (some ⟨g, 0, none⟩) (ss ++ [⟨la, ln, lc, ls⟩]) ∧ Below wd.heap.size wd wx)
          case first =>
            obtain ⟨i0, hi, hz0, hz1, hz2⟩ := info_parts Try.infoA
            have HEA : Hid (∀ a ∈ ss, LG wd a) := hG.each
            have HG : Hid (LSG wd (some ⟨ab, ao, none⟩) ss) := hG
            have KP : Hid (∀ X : World, Below wd.heap.size wd X → (X.cell? ⟨ab, ao, none⟩ = some (.slice la ln lc))) := fun X hX => (hX.cell (p := ⟨ab, ao, none⟩) (block_lt p0)).trans p0
            clear BB hP hG hM p0 hl0
            refine wp_region_ends (fun X => X.cell? ⟨ab, ao, none⟩ = some (.slice la ln lc)) (fun _ => True) 8 (by kernel_rfl) ?_
            have bV : Below wd.heap.size wd wd.drew := (Below.refl _ _).drew
            obtain ⟨V0, hV0⟩ : ∃ V, V = wd.drew := ⟨_, rfl⟩
            rw [← hV0] at bV ⊢
            clear hV0
            have hSS := And.intro (KP.out _ bV) True.intro
            have hN0 : (0 : Int) < (N : Int) := by omega
            have hNp : 0 < N := by omega
            refine tkL (i := 1) rfl hSS ?_
            refine tkL (i := 3) rfl hSS ?_
            refine tkL (i := 4) rfl hSS ?_
            refine tkL (i := 5) rfl hSS ?_
            clear hSS
            refine wpAnyE_two (i := 0) (j := 6) (by kernel_rfl) rfl rfl (fun K hK => ?_) (fun K hK => ?_)
            · go_simp
              have al := (Below.refl V0.heap.size V0).alloc (Nat.le_refl _) (.cells #[] 52)
              have y2 := bV.size
              have sz := al.size
              replace bV := bV.trans (al.mono bV.size)
              have ol := World.ownsRow_lit (base := wd.heap.size) (e := 52) (size := 1) V0 #[] 0 y2 (by unfold maxLen; omega) rfl
              obtain ⟨V1, hV1⟩ : ∃ V, V = V0.alloc (.cells #[] 52) := ⟨_, rfl⟩
              rw [← hV1]
              have zV1 : V0.heap.size + 1 ≤ V1.heap.size := by rw [hV1, World.size_alloc]; omega
              rw [← hV1] at bV ol
              clear hV1
              obtain ⟨L0, hL0⟩ : ∃ x, x = V0.heap.size := ⟨_, rfl⟩
              rw [← hL0]
              rw [← hL0] at ol
              have yL : wd.heap.size ≤ L0 := by omega
              have yL2 : L0 < V1.heap.size := by omega
              clear hL0 al sz y2
              refine hK.out _ _ ⟨KP.out _ bV, fun _ => trivial⟩ ?_
              clear hK K
              refine wpAnyE_two (i := 2) (j := 6) (by kernel_rfl) rfl rfl (fun K hK => ?_) (fun K hK => ?_)
              · rw [if_pos (by rfl)]
                have y2 := bV.size
                refine wp_copyA (.tmp 55) (.tmp 56) rfl wd.heap.size L0 (some ⟨ab, ao, none⟩) N c ss (by rfl) ol (by rfl) (HG.out.below bV) HN.out (by omega) (by omega) y2 yL ?_
                intro g8 c8 V2 hBn hTn og hor
                replace bV := bV.trans hBn
                have yg := hor.1
                clear ol hBn hTn hor y2
                refine hK.out _ _ ⟨KP.out _ bV, fun _ => trivial⟩ ?_
                clear hK K
                refine wpAnyE_one (i := 6) (by kernel_rfl) rfl (fun K hK => ?_)
                go_simp
                have al := (Below.refl V2.heap.size V2).alloc (Nat.le_refl _) (.cells #[.slice la ln lc] 52)
                have y2 := bV.size
                have sz := al.size
                replace bV := bV.trans (al.mono bV.size)
                replace og := own_below og al
                have qn := Cel.new V2 [.slice la ln lc] 52
                obtain ⟨V3, hV3⟩ : ∃ V, V = V2.alloc (.cells #[.slice la ln lc] 52) := ⟨_, rfl⟩
                rw [← hV3]
                have zV3 : V2.heap.size + 1 ≤ V3.heap.size := by rw [hV3, World.size_alloc]; omega
                rw [← hV3] at bV og qn
                clear hV3
                obtain ⟨Nb, hNb⟩ : ∃ x, x = V2.heap.size := ⟨_, rfl⟩
                rw [← hNb]
                rw [← hNb] at qn
                have yNs : Nb < V3.heap.size := by omega
                clear hNb al sz y2
                refine hK.out _ _ ⟨KP.out _ bV, fun _ => trivial⟩ ?_
                clear hK K
                refine wpAnyE_one (i := 7) (by kernel_rfl) rfl (fun K hK => ?_)
                rw [if_pos (by rfl)]
                refine wp_append_lies _ (.tmp 57) (.tmp 61) 44 rfl wd.heap.size 52 i0 (.slice none 0 0) 1 24 Try.underlying44 hi hz0 hz1 hz2 rfl (by decide) (.slice (some ⟨g8, 0, none⟩) N c8) N (ss.map L2V.v) (by rfl) og ⟨Nb, 0, none⟩ 1 1 [.slice la ln lc] (by rfl) (by rfl) (World.news_of_block (cs := #[.slice la ln lc]) (t := 52) (fr := (0, 0)) qn) (by simp [Value.oneCell']) (by omega) (by unfold maxLen; omega) (by omega) bV.size _ rfl ?_
                intro g9 cp9 w9 hown hgrow hat9 hlt9
                have bF := bV.grown hgrow bV.size (fun z hz => by (have hz' : some g8 = some z := hz); simp only [Option.some.injEq] at hz'; omega)
                clear hgrow hat9 hlt9 og qn
                refine hK.out _ _ ⟨KP.out _ bF, fun _ => trivial⟩ ?_
                clear hK K
                refine wpAnyE_one (i := 8) (by kernel_rfl) rfl (fun K hK => ?_)
                go_simp
                refine hK.out _ _ ⟨KP.out _ bF, fun _ => trivial⟩ ?_
                clear hK K
                refine wpAnyE_done (by kernel_rfl) ?_ _
                have hLS : LSG w9 (some ⟨g9, 0, none⟩) (ss ++ [⟨la, ln, lc, ls⟩]) := own_lsg (by rw [map_snoc]; exact hown) (by rw [List.length_append, HN.out]; rfl) (fun a ha => by
                  rcases List.mem_append.1 ha with ha | ha
                  · exact (HEA.out a ha).below bF
                  · simp only [List.mem_singleton] at ha; subst ha; exact (HEA.out _ HA0.out).below bF)
                clear hown
                go_wp2_with fail
                go_meet
                case rel => exact ⟨g9, cp9, rfl, hLS, bF⟩
              · go_simp
                have al := (Below.refl V1.heap.size V1).alloc (Nat.le_refl _) (.cells #[.slice la ln lc] 52)
                have y2 := bV.size
                have sz := al.size
                replace bV := bV.trans (al.mono bV.size)
                replace ol := own_below ol al
                have qn := Cel.new V1 [.slice la ln lc] 52
                obtain ⟨V2, hV2⟩ : ∃ V, V = V1.alloc (.cells #[.slice la ln lc] 52) := ⟨_, rfl⟩
                rw [← hV2]
                have zV2 : V1.heap.size + 1 ≤ V2.heap.size := by rw [hV2, World.size_alloc]; omega
                rw [← hV2] at bV ol qn
                clear hV2
                obtain ⟨Nb, hNb⟩ : ∃ x, x = V1.heap.size := ⟨_, rfl⟩
                rw [← hNb]
                rw [← hNb] at qn
                have yNs : Nb < V2.heap.size := by omega
                have yNL : Nb ≠ L0 := by omega
                clear hNb al sz y2
                refine hK.out _ _ ⟨KP.out _ bV, fun _ => trivial⟩ ?_
                clear hK K
                refine wpAnyE_one (i := 2) (by kernel_rfl) rfl (fun K hK => ?_)
                rw [if_pos (by rfl)]
                have y2 := bV.size
                refine wp_copyA (.tmp 55) (.tmp 56) rfl wd.heap.size L0 (some ⟨ab, ao, none⟩) N c ss (by rfl) ol (by rfl) (HG.out.below bV) HN.out (by omega) (by omega) y2 yL ?_
                intro g8 c8 V3 hBn hTn og hor
                replace bV := bV.trans hBn
                replace qn := qn.touch hTn yNL
                have yg := hor.1
                clear ol hBn hTn hor y2
                refine hK.out _ _ ⟨KP.out _ bV, fun _ => trivial⟩ ?_
                clear hK K
                refine wpAnyE_one (i := 7) (by kernel_rfl) rfl (fun K hK => ?_)
                rw [if_pos (by rfl)]
                refine wp_append_lies _ (.tmp 57) (.tmp 61) 44 rfl wd.heap.size 52 i0 (.slice none 0 0) 1 24 Try.underlying44 hi hz0 hz1 hz2 rfl (by decide) (.slice (some ⟨g8, 0, none⟩) N c8) N (ss.map L2V.v) (by rfl) og ⟨Nb, 0, none⟩ 1 1 [.slice la ln lc] (by rfl) (by rfl) (World.news_of_block (cs := #[.slice la ln lc]) (t := 52) (fr := (0, 0)) qn) (by simp [Value.oneCell']) (by omega) (by unfold maxLen; omega) (by omega) bV.size _ rfl ?_
                intro g9 cp9 w9 hown hgrow hat9 hlt9
                have bF := bV.grown hgrow bV.size (fun z hz => by (have hz' : some g8 = some z := hz); simp only [Option.some.injEq] at hz'; omega)
                clear hgrow hat9 hlt9 og qn
                refine hK.out _ _ ⟨KP.out _ bF, fun _ => trivial⟩ ?_
                clear hK K
                refine wpAnyE_one (i := 8) (by kernel_rfl) rfl (fun K hK => ?_)
                go_simp
                refine hK.out _ _ ⟨KP.out _ bF, fun _ => trivial⟩ ?_
                clear hK K
                refine wpAnyE_done (by kernel_rfl) ?_ _
                have hLS : LSG w9 (some ⟨g9, 0, none⟩) (ss ++ [⟨la, ln, lc, ls⟩]) := own_lsg (by rw [map_snoc]; exact hown) (by rw [List.length_append, HN.out]; rfl) (fun a ha => by
                  rcases List.mem_append.1 ha with ha | ha
                  · exact (HEA.out a ha).below bF
                  · simp only [List.mem_singleton] at ha; subst ha; exact (HEA.out _ HA0.out).below bF)
                clear hown
                go_wp2_with fail
                go_meet
                case rel => exact ⟨g9, cp9, rfl, hLS, bF⟩
            · go_simp
              have al := (Below.refl V0.heap.size V0).alloc (Nat.le_refl _) (.cells #[.slice la ln lc] 52)
              have y2 := bV.size
              have sz := al.size
              replace bV := bV.trans (al.mono bV.size)
              have qn := Cel.new V0 [.slice la ln lc] 52
              obtain ⟨V1, hV1⟩ : ∃ V, V = V0.alloc (.cells #[.slice la ln lc] 52) := ⟨_, rfl⟩
              rw [← hV1]
              have zV1 : V0.heap.size + 1 ≤ V1.heap.size := by rw [hV1, World.size_alloc]; omega
              rw [← hV1] at bV qn
              clear hV1
              obtain ⟨Nb, hNb⟩ : ∃ x, x = V0.heap.size := ⟨_, rfl⟩
              rw [← hNb]
              rw [← hNb] at qn
              have yNs : Nb < V1.heap.size := by omega
              clear hNb al sz y2
              refine hK.out _ _ ⟨KP.out _ bV, fun _ => trivial⟩ ?_
              clear hK K
              refine wpAnyE_one (i := 0) (by kernel_rfl) rfl (fun K hK => ?_)
              go_simp
              have al := (Below.refl V1.heap.size V1).alloc (Nat.le_refl _) (.cells #[] 52)
              have y2 := bV.size
              have sz := al.size
              replace bV := bV.trans (al.mono bV.size)
              replace qn := qn.below al
              have ol := World.ownsRow_lit (base := wd.heap.size) (e := 52) (size := 1) V1 #[] 0 y2 (by unfold maxLen; omega) rfl
              obtain ⟨V2, hV2⟩ : ∃ V, V = V1.alloc (.cells #[] 52) := ⟨_, rfl⟩
              rw [← hV2]
              have zV2 : V1.heap.size + 1 ≤ V2.heap.size := by rw [hV2, World.size_alloc]; omega
              rw [← hV2] at bV ol qn
              clear hV2
              obtain ⟨L0, hL0⟩ : ∃ x, x = V1.heap.size := ⟨_, rfl⟩
              rw [← hL0]
              rw [← hL0] at ol
              have yL : wd.heap.size ≤ L0 := by omega
              have yL2 : L0 < V2.heap.size := by omega
              have yNL : Nb ≠ L0 := by omega
              clear hL0 al sz y2
              refine hK.out _ _ ⟨KP.out _ bV, fun _ => trivial⟩ ?_
              clear hK K
              refine wpAnyE_one (i := 2) (by kernel_rfl) rfl (fun K hK => ?_)
              rw [if_pos (by rfl)]
              have y2 := bV.size
              refine wp_copyA (.tmp 55) (.tmp 56) rfl wd.heap.size L0 (some ⟨ab, ao, none⟩) N c ss (by rfl) ol (by rfl) (HG.out.below bV) HN.out (by omega) (by omega) y2 yL ?_
              intro g8 c8 V3 hBn hTn og hor
              replace bV := bV.trans hBn
              replace qn := qn.touch hTn yNL
              have yg := hor.1
              clear ol hBn hTn hor y2
              refine hK.out _ _ ⟨KP.out _ bV, fun _ => trivial⟩ ?_
              clear hK K
              refine wpAnyE_one (i := 7) (by kernel_rfl) rfl (fun K hK => ?_)
              rw [if_pos (by rfl)]
              refine wp_append_lies _ (.tmp 57) (.tmp 61) 44 rfl wd.heap.size 52 i0 (.slice none 0 0) 1 24 Try.underlying44 hi hz0 hz1 hz2 rfl (by decide) (.slice (some ⟨g8, 0, none⟩) N c8) N (ss.map L2V.v) (by rfl) og ⟨Nb, 0, none⟩ 1 1 [.slice la ln lc] (by rfl) (by rfl) (World.news_of_block (cs := #[.slice la ln lc]) (t := 52) (fr := (0, 0)) qn) (by simp [Value.oneCell']) (by omega) (by unfold maxLen; omega) (by omega) bV.size _ rfl ?_
              intro g9 cp9 w9 hown hgrow hat9 hlt9
              have bF := bV.grown hgrow bV.size (fun z hz => by (have hz' : some g8 = some z := hz); simp only [Option.some.injEq] at hz'; omega)
              clear hgrow hat9 hlt9 og qn
              refine hK.out _ _ ⟨KP.out _ bF, fun _ => trivial⟩ ?_
              clear hK K
              refine wpAnyE_one (i := 8) (by kernel_rfl) rfl (fun K hK => ?_)
              go_simp
              refine hK.out _ _ ⟨KP.out _ bF, fun _ => trivial⟩ ?_
              clear hK K
              refine wpAnyE_done (by kernel_rfl) ?_ _
              have hLS : LSG w9 (some ⟨g9, 0, none⟩) (ss ++ [⟨la, ln, lc, ls⟩]) := own_lsg (by rw [map_snoc]; exact hown) (by rw [List.length_append, HN.out]; rfl) (fun a ha => by
                rcases List.mem_append.1 ha with ha | ha
                · exact (HEA.out a ha).below bF
                · simp only [List.mem_singleton] at ha; subst ha; exact (HEA.out _ HA0.out).below bF)
              clear hown
              go_wp2_with fail
              go_meet
              case rel => exact ⟨g9, cp9, rfl, hLS, bF⟩
          case rest =>
            obtain ⟨g2, c2, rfl, hW2, b10⟩ := hcut
            clear p0 hl0
            have HM2 : Hid (More N ss ⟨la, ln, lc, ls⟩) := more_of HB.out HN.out hl4 (cat_ok HB.out HA0.out)
            replace BB := BB.trans (b10.mono BB.size)
            replace hG := hG.below b10
            replace hP := hP.below b10
            replace hM := hM.below b10
            clear b10
            generalize (⟨la, ln, lc, ls⟩ : L2V) = a0 at hW2 HM2 HA0
            go_wp2_with fail
            refine (pParts _ _ _ (ss ++ [am]) _ HM.out.1.l hM (by omega) HM.out.1.c).mono ?_
            rintro ee w6 ⟨ma, mc, t2, m2, rfl, b11, hP2, hl2, hx2, hcap, hm2⟩
            replace BB := BB.trans (b11.mono BB.size)
            replace hG := hG.below b11
            replace hP := hP.below b11
            replace hM := hM.below b11
            replace hW2 := hW2.below b11
            clear b11
            have H2 : Hid (t2.length = m2 ∧ t2.map IV.x = catP (ss ++ [am])) := ⟨hl2, hx2⟩
            clear hl2 hx2
            have hLm : L ≤ m2 := by
              have h := (catP_more ss am).length_le
              rw [← H2.out.2, List.length_map, H2.out.1, ← HTP.out, HLL.out.1] at h
              exact h
            go_wp2_with fail
            refine (pPins _ _ _ (ss ++ [am]) _ HM.out.1.l hM (by omega) HM.out.1.c).mono ?_
            rintro ee w7 ⟨Gm, gc2, rfl, b12, hQ2⟩
            replace BB := BB.trans (b12.mono BB.size)
            replace hG := hG.below b12
            replace hP := hP.below b12
            replace hM := hM.below b12
            replace hW2 := hW2.below b12
            replace hP2 := hP2.below b12
            clear b12
            go_wp2_with fail
            obtain ⟨wl, hwl⟩ : ∃ x, x = w7 := ⟨_, rfl⟩
            rw [← hwl]
            rw [← hwl] at hG hP hM hW2 hP2 hQ2 BB
            clear hwl
            go_loopw [9] (fun i wr => ∃ k : Nat, k ≤ 3 ∧ i = .int .i64 k ∧ Below wl.heap.size wl wr) (fun i _ => 3 - (intOf i).toNat)
            case atStart => exact ⟨0, by omega, rfl, Below.refl _ _⟩
            case round =>
              obtain ⟨k, hk, rfl, hb⟩ := hrel
              have hb0 := Below.refl wl.heap.size wl
              replace BB := BB.trans (hb.mono BB.size)
              replace hb0 := hb0.trans (hb.mono hb0.size)
              replace hG := hG.below hb
              replace hP := hP.below hb
              replace hM := hM.below hb
              replace hW2 := hW2.below hb
              replace hP2 := hP2.below hb
              replace hQ2 := hQ2.below hb
              clear hb
              by_cases hlt : k < 3
              · have hlt' : (k : Int) < 3 := by omega
                have HPM : Hid (pinsA (ss ++ [am]) k = (pinsA ss k || readsR (rowsL am.x) k)) := pinsA_more ss am k
                have hq2 := (hQ2.at hlt).1
                clear hq2
                go_wp2_with fail
                refine (pPins _ _ _ ss _ HN.out hG (by omega) HB.out).mono ?_
                rintro ee w8 ⟨Go1, gc1, rfl, b13, hQ1⟩
                replace BB := BB.trans (b13.mono BB.size)
                replace hb0 := hb0.trans (b13.mono hb0.size)
                replace hG := hG.below b13
                replace hP := hP.below b13
                replace hM := hM.below b13
                replace hW2 := hW2.below b13
                replace hP2 := hP2.below b13
                replace hQ2 := hQ2.below b13
                clear b13
                have hq1 := (hQ1.at hlt).1
                have hq2 := (hQ2.at hlt).1
                rw [HPM.out] at hq2
                clear HPM hG hP hM hW2 hP2 hQ2 hQ1 BB
                cases hf : pinsA ss k
                · rw [hf] at hq1
                  go_wp2
                  go_roundw
                  case rel => exact ⟨k + 1, by omega, by go_num, hb0⟩
                  case measure => simp [intOf]; omega
                · rw [hf] at hq1 hq2
                  rw [Bool.true_or] at hq2
                  go_wp2
                  go_roundw
                  case rel => exact ⟨k + 1, by omega, by go_num, hb0⟩
                  case measure => simp [intOf]; omega
              · have hlt' : ¬ (k : Int) < 3 := by omega
                clear hb0
                obtain ⟨we, hwe⟩ : ∃ x, x = wr := ⟨_, rfl⟩
                subst hwe
                have hLm' : (L : Int) ≤ (m2 : Int) := by omega
                have hLm2 : (m2 : Int) ≥ (L : Int) := by omega
                have hLc : L ≤ mc := by omega
                have hLc' : (L : Int) ≤ (mc : Int) := by omega
                have hq2 := (hQ2.at (v := 2) (by omega)).1
                have HR2 : Hid (pinsA (ss ++ [am]) 2 = true) := by (show _ = _; rw [pinsA_more, HM.out.2, Bool.or_true])
                rw [HR2.out] at hq2
                have hPt : ISG we ma (t2.take L) := isg_take hP2
                have HTL : Hid ((t2.take L).length = L ∧ (t2.take L).map IV.x = ts.map IV.x) := ⟨by rw [List.length_take, H2.out.1]; omega, by rw [List.map_take, H2.out.2, HP.out.1, HTP.out, ← HLL.out.1, HTP.out, catP_take]⟩
                go_wp2_with fail
                refine (coPs_any _ _ _ _ _ (t2.take L) ts _ HTL.out.1 HLL.out.2 (by omega) HTL.out.2 hPt hP).mono ?_
                rintro ee w8 ⟨rfl, b14⟩
                replace BB := BB.trans (b14.mono BB.size)
                replace hG := hG.below b14
                replace hP := hP.below b14
                replace hM := hM.below b14
                replace hW2 := hW2.below b14
                replace hP2 := hP2.below b14
                replace hQ2 := hQ2.below b14
                replace hPt := hPt.below b14
                clear b14
                clear hq2
                have hq2 := (hQ2.at (v := 2) (by omega)).1
                rw [HR2.out] at hq2
                go_wp2_with fail
                refine (pParts _ _ _ (ss ++ [a0]) _ HM2.out.l hW2 (by omega) HM2.out.c).mono ?_
                rintro ee w9 ⟨na, nc, t3, m3, rfl, b15, hP3, hl3, hx3, hcap3, hm3⟩
                replace BB := BB.trans (b15.mono BB.size)
                replace hG := hG.below b15
                replace hP := hP.below b15
                replace hM := hM.below b15
                replace hW2 := hW2.below b15
                replace hP2 := hP2.below b15
                replace hQ2 := hQ2.below b15
                replace hPt := hPt.below b15
                clear b15
                have H3 : Hid (t3.length = L ∧ t3.map IV.x = ts.map IV.x) := ⟨by rw [← HLL.out.1, HTP.out, ← catP_twice HA0.out, ← hx3, List.length_map], by rw [hx3, catP_twice HA0.out, HP.out.1, HTP.out]⟩
                obtain rfl : m3 = L := by rw [← hl3]; exact H3.out.1
                clear hx3 hl3
                go_wp2_with fail
                refine (coPs_any _ _ _ _ _ t3 ts _ H3.out.1 HLL.out.2 (by omega) H3.out.2 hP3 hP).mono ?_
                rintro ee w10 ⟨rfl, b16⟩
                replace BB := BB.trans (b16.mono BB.size)
                replace hG := hG.below b16
                replace hP := hP.below b16
                replace hM := hM.below b16
                replace hW2 := hW2.below b16
                replace hP2 := hP2.below b16
                replace hQ2 := hQ2.below b16
                replace hPt := hPt.below b16
                replace hP3 := hP3.below b16
                clear b16
                go_wp2_with fail
                refine (pPins _ _ _ (ss ++ [a0]) _ HM2.out.l hW2 (by omega) HM2.out.c).mono ?_
                rintro ee w11 ⟨Gt, gct, rfl, b17, hQ3⟩
                rw [pinsA_twice HA0.out] at hQ3
                replace BB := BB.trans (b17.mono BB.size)
                replace hG := hG.below b17
                replace hP := hP.below b17
                replace hM := hM.below b17
                replace hW2 := hW2.below b17
                replace hP2 := hP2.below b17
                replace hQ2 := hQ2.below b17
                replace hPt := hPt.below b17
                replace hP3 := hP3.below b17
                clear b17
                go_wp2_with fail
                refine (pPins _ _ _ ss _ HN.out hG (by omega) HB.out).mono ?_
                rintro ee w12 ⟨Gs, gcs, rfl, b18, hQ4⟩
                replace BB := BB.trans (b18.mono BB.size)
                replace hG := hG.below b18
                replace hP := hP.below b18
                replace hM := hM.below b18
                replace hW2 := hW2.below b18
                replace hP2 := hP2.below b18
                replace hQ2 := hQ2.below b18
                replace hPt := hPt.below b18
                replace hP3 := hP3.below b18
                replace hQ3 := hQ3.below b18
                clear b18
                go_wp2_with fail
                refine (coB_any _ _ _ _ _ _ _ hQ3.bo hQ4.bo).mono ?_
                rintro ee w13 ⟨rfl, b19⟩
                replace BB := BB.trans (b19.mono BB.size)
                replace hG := hG.below b19
                replace hP := hP.below b19
                replace hM := hM.below b19
                replace hW2 := hW2.below b19
                replace hP2 := hP2.below b19
                replace hQ2 := hQ2.below b19
                replace hPt := hPt.below b19
                replace hP3 := hP3.below b19
                replace hQ3 := hQ3.below b19
                replace hQ4 := hQ4.below b19
                clear b19
                go_wp2
                go_ret
                exact ⟨rfl, BB⟩
  · go_enter Try.func5, Try.ntmps5
    go_wp2
    go_ret
    exact ⟨rfl, Below.refl _ _⟩

/-! ### The row's step -/
set_option maxRecDepth 100000 in
theorem lifted (os : Os) (started : os.Started) (H : Type) (enc : TypeId × Value → H) :
    ReturnsInHanded {} Try.checked os 5 .any (Rows.fnCatMoreSpec.pre6 enc Try.prog Try.f5 Rows.fnCatMoreRow.domain false) (Rows.fnCatMoreSpec.post enc Try.prog Try.f5 false true false false) := by
  refine returnsInHanded_of_change (C := Try.checked) own started (by kernel_rfl) Try.func5
    (ChangeSpec.witness6 (enc := enc) (C := Try.checked) false ⟨#[], #[.slice none 0 0], []⟩ 8 (by kernel_rfl) (by kernel_rfl) (by kernel_rfl) (by kernel_rfl)) ?_
  intro W base args ds gs before hval0 hW hcnd _
  have hval : ∀ (j : Nat) t v, Try.f5.params[j]? = some t → args[j]? = some v → Value.okWide Try.prog W .any base t v := hval0
  have hW' := hW
  obtain ⟨p, q, hA0, hV, rfl, hfz, hnd⟩ := hW
  have hA : DataW.TrodAll enc Try.prog W 0 (fun _ => true) true Try.f5.params.toList args.toList ds p := hA0
  rw [Try.params5] at hA hval
  obtain ⟨v0, vs0, d0, ds0, p0, q0, hargs, rfl, rfl, h0, r0⟩ := trodAll_cons hA
  obtain ⟨rfl, rfl, rfl⟩ := trodAll_nil r0
  obtain rfl : args = #[v0] := by cases args; simp_all
  obtain ⟨rfl, rfl⟩ := trodVars_none hV
  have k0 := h0
  have lt0 : ∀ x ∈ p0, x.block < W.heap.size := by obtain ⟨m, hm⟩ := k0; exact DataW.trod_lt m _ _ _ hm
  obtain ⟨a0, n0, cap0, C0, rfl, hC0, hn0⟩ := open_bytesT (hval 0 22 v0 rfl rfl) h0
  clear hA0 hval0
  refine (walk W a0 n0 cap0 C0 hC0 hn0).mono fun e W' ⟨he, bel⟩ => ?_
  subst he
  exact ⟨_, rfl, _, _, _, [], _, [], hW', trodAll_mk1 (shut_bool Try.underlying4 _), (trodAll_cons_mk (Below.trod laidOut (by kernel_rfl) (of_decide_eq_true (by kernel_rfl)) k0 bel lt0) trodAll_mk0), rfl, bel.frame _, fun h => by cases h⟩

theorem over : Rows.fnCatMoreRow.holds Try.pinned (OpenSpec.ofChange Rows.fnCatMoreSpec) :=
  OpenClaim.holds_of_wide 5 Try.f5 rfl rfl rfl rfl rfl rfl rfl ⟨rfl, rfl, rfl, rfl, rfl⟩ rfl rfl rfl rfl rfl (by kernel_rfl) Try.func5 (by kernel_rfl)
    (of_decide_eq_true (by kernel_rfl)) (by unfold Func.isWrapper; first | (rw [if_pos (by decide +kernel)]; kernel_rfl) | (rw [if_neg (by decide +kernel)]; exact ⟨rfl, rfl⟩))
    (fun os started H enc _ => lifted os started H enc)

end Go.Proofs.Ytemcinobgdphnaa.fnCatMore
namespace Go.Proofs.Ytemcinobgdphnaa
/-- The statement. -/
theorem fnCatMore_holds : Rows.FnCatMoreSaid := fnCatMore.over
#print axioms fnCatMore_holds
end Go.Proofs.Ytemcinobgdphnaa
