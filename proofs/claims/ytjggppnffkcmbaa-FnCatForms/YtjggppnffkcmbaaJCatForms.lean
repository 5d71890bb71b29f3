/-
  For all bytes FnCatForms returns true, and what came in reads behind the call as it did. No condition. (all is kept an eye on)
-/
import Derived.Test.YtjggppnffkcmbaaDrAa
import Derived.Test.YtjggppnffkcmbaaJCatFormsC
import Derived.Test.YtjggppnffkcmbaaFvC
import Derived.Test.YtjggppnffkcmbaaOpen
namespace Go.Proofs.Ytjggppnffkcmbaa.fnCatForms
open Go.ChangeShapes Go.WideShapes Go.ChangeAt Go.RowKit
set_option linter.unusedVariables false
set_option maxRecDepth 100000

theorem open_bytesT {H : Type} {enc : TypeId × Value → H} {W : World} {r : Reach} {b0 : Nat} {v : Value} {d : DataW H} {p : List MemPlace}
    (hv : Value.okWide Try.prog W r b0 22 v) (h : DataW.Trod enc Try.prog W 0 (fun _ => true) true 22 v d p) : ∃ a n cap zs, v = .slice a n cap ∧ BInts W a n zs ∧ (n ≤ cap ∧ cap ≤ maxLen) := by
  obtain ⟨a0, len0, cap0, rfl⟩ := okWide_slice Try.underlying22 hv
  obtain ⟨fuel, hf⟩ := h
  rcases open_ints Try.underlying22 Try.underlying5 (by kernel_rfl) hf with ⟨hcs, _⟩ | ⟨x, l, c, zs, hcs, _, hl, hm, hz, _, hcell, hwz⟩
  · simp [Value.cells] at hcs
    obtain ⟨rfl, rfl, rfl⟩ := hcs
    exact ⟨none, 0, 0, [], rfl, ⟨rfl, fun i hi => by omega, fun i => by simp⟩, by omega, by unfold maxLen; omega⟩
  · simp [Value.cells] at hcs
    obtain ⟨rfl, rfl, rfl⟩ := hcs
    have hz' : zs.length = cap0 := by simpa using hz
    refine ⟨some x, len0, cap0, zs.take len0, rfl, ⟨by rw [List.length_take]; omega, fun i hi => ?_, fun i => ?_⟩, hl, hm⟩
    · obtain ⟨b, off, spot⟩ := x
      have hc0 := hcell 0 (by omega)
      have hspot : spot = none := by simpa [Addr.add] using World.cell?_spot hc0
      subst hspot
      refine ⟨b, off, rfl, ?_⟩
      have hc := hcell i (by omega)
      have : W.cell? ⟨b, off + i, none⟩ = some (.int .u8 (zs.getD i 0)) := by
        by_cases h0 : i = 0
        · subst h0; simpa [Addr.add] using hc
        · simpa [Addr.add, h0] using hc
      rw [this]
      simp [hi]
    · by_cases hi : i < (zs.take len0).length
      · rw [List.getElem?_eq_getElem hi]
        have := hwz _ (List.mem_of_mem_take (List.getElem_mem hi))
        simpa [Lit.wf, IntKind.min, IntKind.max, IntKind.signed, IntKind.bits] using this
      · rw [List.getElem?_eq_none (by omega)]
        simp

set_option maxHeartbeats 3200000 in
theorem coPs_any (a c : Option Addr) (n cap cap' : Nat) (ts us : List IV) (w : World) (hN : ts.length = n) (hM : us.length = n) (hn1 : n ≤ 1048576) (hx : ts.map IV.x = us.map IV.x) (h : ISG w a ts) (h' : ISG w c us) :
    Calls Try.prog 39 #[.slice a n cap, .slice c n cap'] w fun e w' => e = .returned (.bool true) ∧ Below w.heap.size w w' := by
  have HN : Hid (ts.length = n ∧ us.length = n ∧ ts.map IV.x = us.map IV.x) := ⟨hN, hM, hx⟩
  clear hN hM hx
  go_enter Try.func39, Try.ntmps39
  go_wp2_with fail
  go_loopw [5] (fun i wr => ∃ k : Nat, k ≤ n ∧ i = .int .i64 k ∧ Below w.heap.size w wr) (fun i _ => n - (intOf i).toNat)
  case atStart => exact ⟨0, Nat.zero_le _, rfl, Below.refl _ _⟩
  case round =>
    obtain ⟨k, hk, rfl, hnx⟩ := hrel
    by_cases hlt : k < n
    · have k1 : k < ts.length := by rw [HN.out.1]; exact hlt
      have k2 : k < us.length := by rw [HN.out.2.1]; exact hlt
      obtain ⟨b, o, rfl, c1, g1⟩ := h k k1
      obtain ⟨b', o', rfl, c2, g2⟩ := h' k k2
      have ex : (ts[k]?.getD noI).x = (us[k]?.getD noI).x := by
        have e := congrArg (fun l : List (List Int) => l[k]?.getD []) HN.out.2.2
        simp only [List.getElem?_map] at e
        rw [List.getElem?_eq_getElem k1, List.getElem?_eq_getElem k2] at e ⊢
        simpa using e
      generalize ts[k]?.getD noI = x at c1 g1 ex
      generalize us[k]?.getD noI = y at c2 g2 ex
      obtain ⟨xi, xn⟩ := g1
      obtain ⟨yi, yn⟩ := g2
      have p0 : w.cell? ⟨b, o + k, none⟩ = some (.slice x.a x.n x.cap) := c1
      have p1 : w.cell? ⟨b', o' + k, none⟩ = some (.slice y.a y.n y.cap) := c2
      clear c1 c2 h h' HN k1 k2
      have hlt' : (k : Int) < (n : Int) := by omega
      have KP : Hid (∀ X, Below w.heap.size w X → (X.cell? ⟨b, o + k, none⟩ = some (.slice x.a x.n x.cap) ∧ X.cell? ⟨b', o' + k, none⟩ = some (.slice y.a y.n y.cap))) := fun X hX => ⟨(hX.cell (p := ⟨b, o + k, none⟩) (block_lt p0)).trans p0, (hX.cell (p := ⟨b', o' + k, none⟩) (block_lt p1)).trans p1⟩
      go_upto_region 6 with fail
      refine wp_region_ends (fun X => X.cell? ⟨b, o + k, none⟩ = some (.slice x.a x.n x.cap) ∧ X.cell? ⟨b', o' + k, none⟩ = some (.slice y.a y.n y.cap)) (fun _ => True) 9 (by kernel_rfl) ?_
      have BV : Below w.heap.size w wr.drew := hnx.drew
      obtain ⟨V, hV⟩ : ∃ V, V = wr.drew := ⟨_, rfl⟩
      rw [← hV] at BV
      rw [← hV]
      clear hV
      have hSS : (V.cell? ⟨b, o + k, none⟩ = some (.slice x.a x.n x.cap) ∧ V.cell? ⟨b', o' + k, none⟩ = some (.slice y.a y.n y.cap)) ∧ True := ⟨KP.out _ BV, trivial⟩
      refine wpAnyE_take0 (i := 0) (v := ?cpxv0) rfl (by kernel_rfl) (by kernel_rfl) (by kernel_rfl) (by decide) (fun _ _ _ h => h) (Or.inl ⟨by rfl, ?cpxhy0⟩) hSS ?_
      case cpxhy0 => (intro wz hSw; (try dsimp only at hSw); go_simp; try (with_reducible rfl))
      refine wpAnyE_take0 (i := 1) (v := ?cpxv1) rfl (by kernel_rfl) (by kernel_rfl) (by kernel_rfl) (by decide) (fun _ _ _ h => h) (Or.inl ⟨by rfl, ?cpxhy1⟩) hSS ?_
      case cpxhy1 => (intro wz hSw; (try dsimp only at hSw); go_simp; try (with_reducible rfl))
      refine wpAnyE_take0 (i := 2) (v := ?cpxv2) rfl (by kernel_rfl) (by kernel_rfl) (by kernel_rfl) (by decide) (fun _ _ _ h => h) (Or.inl ⟨by rfl, ?cpxhy2⟩) hSS ?_
      case cpxhy2 => (intro wz hSw; (try dsimp only at hSw); go_simp; try (with_reducible rfl))
      refine wpAnyE_take0 (i := 3) (v := ?cpxv3) rfl (by kernel_rfl) (by kernel_rfl) (by kernel_rfl) (by decide) (fun _ _ _ h => h) (Or.inl ⟨by rfl, ?cpxhy3⟩) hSS ?_
      case cpxhy3 => (intro wz hSw; (try dsimp only at hSw); go_simp; try (with_reducible rfl))
      simp only [Act.put, List.setIfInBounds_toArray, List.set_cons_succ, List.set_cons_zero, List.getElem_toArray, List.getElem_cons_succ, List.getElem_cons_zero]
      refine wpAnyE_take0 (i := 4) (v := ?cpxv4) rfl (by kernel_rfl) (by kernel_rfl) (by kernel_rfl) (by decide) (fun _ _ _ h => h) (Or.inl ⟨by rfl, ?cpxhy4⟩) hSS ?_
      case cpxhy4 => (intro wz hSw; (try dsimp only at hSw); go_simp; try (with_reducible rfl))
      refine wpAnyE_take0 (i := 5) (v := ?cpxv5) rfl (by kernel_rfl) (by kernel_rfl) (by kernel_rfl) (by decide) (fun _ _ _ h => h) (Or.inl ⟨by rfl, ?cpxhy5⟩) hSS ?_
      case cpxhy5 => (intro wz hSw; (try dsimp only at hSw); go_simp; try (with_reducible rfl))
      refine wpAnyE_take0 (i := 6) (v := ?cpxv6) rfl (by kernel_rfl) (by kernel_rfl) (by kernel_rfl) (by decide) (fun _ _ _ h => h) (Or.inl ⟨by rfl, ?cpxhy6⟩) hSS ?_
      case cpxhy6 => (intro wz hSw; (try dsimp only at hSw); go_simp; try (with_reducible rfl))
      refine wpAnyE_take0 (i := 7) (v := ?cpxv7) rfl (by kernel_rfl) (by kernel_rfl) (by kernel_rfl) (by decide) (fun _ _ _ h => h) (Or.inl ⟨by rfl, ?cpxhy7⟩) hSS ?_
      case cpxhy7 => (intro wz hSw; (try dsimp only at hSw); go_simp; try (with_reducible rfl))
      simp only [Act.put, List.setIfInBounds_toArray, List.set_cons_succ, List.set_cons_zero, List.getElem_toArray, List.getElem_cons_succ, List.getElem_cons_zero]
      refine wpAnyE_one (i := 8) (by kernel_rfl) rfl (fun K hK => ?_)
      go_simp
      refine (coI_any _ _ _ _ _ _ x.x y.x V (xi.below BV) (yi.below BV) xn yn).mono ?_
      rintro ee w1 ⟨rfl, b1⟩
      rw [ex, eqB_refl]
      have B1 := BV.trans (b1.mono BV.size)
      clear hSS
      have hSS : (w1.cell? ⟨b, o + k, none⟩ = some (.slice x.a x.n x.cap) ∧ w1.cell? ⟨b', o' + k, none⟩ = some (.slice y.a y.n y.cap)) ∧ True := ⟨KP.out _ B1, trivial⟩
      (try dsimp only)
      refine hK.out _ _ ⟨hSS.1, fun _ => trivial⟩ ?_
      clear hK K
      refine wpAnyE_one (i := 9) (by kernel_rfl) rfl (fun K hK => ?_)
      go_simp
      refine hK.out _ _ ⟨hSS.1, fun _ => trivial⟩ ?_
      clear hK K
      refine wpAnyE_done (by kernel_rfl) ?_ _
      clear hSS
      clear KP
      go_wp2
      go_roundw
      case rel => exact ⟨k + 1, by omega, by go_num, B1⟩
      case measure => simp [intOf]; omega
    · have hlt' : ¬ (k : Int) < (n : Int) := by omega
      go_wp2
      go_ret
      exact ⟨rfl, hnx⟩
set_option maxHeartbeats 1600000 in
theorem dForms (a : Option Addr) (n cap : Nat) (bs : List Int) (w : World) (h : BInts w a n bs) (hn : n ≤ cap) (hn1 : n ≤ 1048576) (hc : cap ≤ maxLen) :
    Calls Try.prog 37 #[.slice a n cap] w fun e w' => ∃ ad N c ss, e = .returned (.slice ad N c) ∧ Below w.heap.size w w' ∧ LSG w' ad ss ∧ ss.length = N ∧ N ≤ 5 := by
  go_enter Try.func37, Try.ntmps37
  go_wp2_with fail
  refine (open_any _ _ _ bs _ h hn hn1 hc).mono ?_
  rintro e w1 ⟨R, n', cap2, bs', rfl, b1, hR, r1⟩
  have hRl := r1.c.lt
  go_wp2_with fail
  refine (anyacts_f R a n' cap2 bs' 0 8 _ r1 (by omega) (by omega) (by omega) (by omega) r1.ha).mono ?_
  rintro e w2 ⟨ad, N, c, ss, q, rfl, j, hN, hN5, q0, q1⟩
  have BB : Below w.heap.size w w2 := b1.trans (j.t.below (by have := b1.size; omega) (fun k hk => by omega))
  have hG := j.lsg hN
  clear r1 b1 j
  go_wp2
  go_ret
  exact ⟨_, N, c, ss, rfl, BB, hG, hN, hN5⟩
theorem pForms (T : List (List Int)) (ad : Option Addr) (N cap : Nat) (gs : List L2V) (w : World) (hN : gs.length = N) (hF : LSG w ad gs) (hN1 : N ≤ 1048576) (hT : catT (catB N gs) (catP gs) = T) :
    Calls Try.prog 38 #[.slice ad N cap] w fun e w' => ∃ a cp ts, e = .returned (.slice a T.length cp) ∧ Below w.heap.size w w' ∧ ISG w' a ts ∧ ts.map IV.x = T :=
  (icatforms_at T ad N cap gs w hN hF hN1 hT).mono fun e w' ⟨a, cp, he, b, u⟩ => by
    obtain ⟨ts, h1, h2⟩ := u.isg
    exact ⟨a, cp, ts, he, b, h1, h2⟩
theorem cat_act {N : Nat} {ss : List L2V} (h : catB N ss = true) {k : Nat} (hk : k < ss.length) : actB (ss[k]?.getD noL).n (ss[k]?.getD noL).x = true := by
  have := (catB_parts h).2
  rw [List.getElem?_eq_getElem hk]
  exact List.all_eq_true.1 this _ (List.getElem_mem hk)
theorem has_of {ts : List IV} {T : List (List Int)} {p : List Int} (h : ts.map IV.x = T) : hasI ts p = hasFrom p 0 T := by rw [hasI, h]
theorem potC_mem (v : Nat) (hv : v < 3) : potC (v : Int) ∈ pots3 := by
  match v, hv with
  | 0, _ => decide
  | 1, _ => decide
  | 2, _ => decide
theorem x_at {ts : List IV} {T : List (List Int)} (h : ts.map IV.x = T) {i : Nat} (hi : i < T.length) : (ts[i]?.getD noI).x = T[i]?.getD [] := by
  subst h
  rw [List.length_map] at hi
  simp [hi]
theorem wrapN (i : Nat) : ((i : Int) != (i : Int)) = false := by simp
/-- What the walk keeps of the acts and their parts. -/
structure Pq (N : Nat) (ss : List L2V) (T : List (List Int)) (ts : List IV) : Prop where
  n : ss.length = N
  c : catB N ss = true
  t : T = catP ss
  m : ts.map IV.x = T
  l : ts.length = T.length
theorem lit3 {W : World} {B : Nat} {x y z : Int} (h : Cel W B [.int .i64 x, .int .i64 y, .int .i64 z] 3) : Ints W (some ⟨B, 0, none⟩) 3 [x, y, z] := ⟨rfl, fun i hi => ⟨B, 0, rfl, by
  rw [Nat.zero_add, h.cell i]
  match i, hi with
  | 0, _ => rfl
  | 1, _ => rfl
  | 2, _ => rfl⟩⟩

set_option maxHeartbeats 12800000 in
theorem walk (w : World) (a : Option Addr) (n cap : Nat) (A0 : List Int) (hA0 : BInts w a n A0) (hn : n ≤ cap ∧ cap ≤ maxLen) :
    Calls Try.prog 8 #[.slice a n cap] w fun e w' => e = .returned (.bool true) ∧ Below w.heap.size w w' := by
  obtain ⟨hn2, hn3⟩ := hn
  by_cases hn1 : n ≤ 1048576
  · go_enter Try.func8, Try.ntmps8
    go_wp2_with fail
    refine (dForms _ _ _ A0 _ hA0 hn2 hn1 hn3).mono ?_
    rintro ee w1 ⟨ad, N, c, ss, rfl, b1, hG, hN, hN5⟩
    have BB := b1
    clear b1
    have HN : Hid (ss.length = N) := hN
    clear hN
    obtain ⟨T, hT⟩ : ∃ T, catT (catB N ss) (catP ss) = T := ⟨_, rfl⟩
    have HT : Hid (catT (catB N ss) (catP ss) = T) := hT
    clear hT
    go_wp2_with fail
    refine (pForms T _ _ _ ss _ HN.out hG (by omega) HT.out).mono ?_
    rintro ee w2 ⟨pa, pc, ts, rfl, b2, hP, hts⟩
    replace BB := BB.trans (b2.mono BB.size)
    replace hG := hG.below b2
    clear b2
    have HP : Hid (ts.map IV.x = T ∧ ts.length = T.length) := ⟨hts, by rw [← hts, List.length_map]⟩
    clear hts
    go_wp2_with fail
    refine (scatforms_at T _ _ _ ss _ HN.out hG (by omega) HT.out).mono ?_
    rintro ee w3 ⟨qa, qc, us, rfl, b3, hQ, hus, hT6⟩
    replace BB := BB.trans (b3.mono BB.size)
    replace hG := hG.below b3
    replace hP := hP.below b3
    clear b3
    have HQ : Hid (us.map IV.x = T ∧ us.length = T.length) := ⟨hus, by rw [← hus, List.length_map]⟩
    clear hus
    go_wp2_with fail
    refine (coPs_any _ _ _ _ _ ts us _ HP.out.2 HQ.out.2 (by omega) (HP.out.1.trans HQ.out.1.symm) hP hQ).mono ?_
    rintro ee w4 ⟨rfl, b4⟩
    replace BB := BB.trans (b4.mono BB.size)
    replace hG := hG.below b4
    replace hP := hP.below b4
    replace hQ := hQ.below b4
    clear b4
    clear hQ HQ
    go_wp2_with fail
    refine (icat_any _ _ _ ss _ HN.out hG (by omega)).mono ?_
    rintro ee w5 ⟨rfl, b5⟩
    replace BB := BB.trans (b5.mono BB.size)
    replace hG := hG.below b5
    replace hP := hP.below b5
    clear b5
    go_wp2_with fail
    refine (scat_any _ _ _ ss _ HN.out hG (by omega)).mono ?_
    rintro ee w6 ⟨rfl, b6⟩
    replace BB := BB.trans (b6.mono BB.size)
    replace hG := hG.below b6
    replace hP := hP.below b6
    clear b6
    have hcc : (catB N ss != catB N ss) = false := by simp
    go_wp2_with fail
    refine (scat_any _ _ _ ss _ HN.out hG (by omega)).mono ?_
    rintro ee w7 ⟨rfl, b7⟩
    replace BB := BB.trans (b7.mono BB.size)
    replace hG := hG.below b7
    replace hP := hP.below b7
    clear b7
    cases hB : catB N ss
    · have HL : Hid (T.length = 0) := by show _ = _; rw [← HT.out, hB]; rfl
      obtain ⟨L, hL⟩ : ∃ L, T.length = L := ⟨_, rfl⟩
      rw [hL]
      obtain rfl : L = 0 := by rw [← hL]; exact HL.out
      clear hL HL hP HP HT hT6 hcc
      go_wp2_with fail
      refine (coHolds_any _).mono ?_
      rintro ee w8 ⟨rfl, bh⟩
      replace BB := BB.trans (bh.mono BB.size)
      replace hG := hG.below bh
      clear bh
      go_wp2
      go_ret
      exact ⟨rfl, BB⟩
    · have HK : Hid (Pq N ss T ts) := ⟨HN.out, hB, by rw [← HT.out, hB]; rfl, HP.out.1, HP.out.2⟩
      clear HN HT HP hB hcc
      obtain ⟨L, hL⟩ : ∃ L, T.length = L := ⟨_, rfl⟩
      rw [hL] at hT6 ⊢
      have HL : Hid (ts.length = L ∧ T.length = L) := ⟨by rw [HK.out.l, hL], hL⟩
      have L3 : 3 ≤ L := by rw [← hL, HK.out.t]; exact catP_len ss
      clear hL
      go_wp2_with fail
      go_loopw [5] (fun i wr => ∃ k : Nat, k ≤ 3 ∧ i = .int .i64 k ∧ Below w7.heap.size w7 wr) (fun i _ => 3 - (intOf i).toNat)
      case atStart => exact ⟨0, by omega, rfl, Below.refl _ _⟩
      case round =>
        obtain ⟨v, hv, rfl, hb⟩ := hrel
        have hb0 := hb
        replace BB := BB.trans (hb.mono BB.size)
        replace hG := hG.below hb
        replace hP := hP.below hb
        clear hb
        by_cases hlv : v < 3
        · have hv' : (v : Int) < 3 := by omega
          have HH : Hid (¬ hasI ts (potC (v : Int)) < 0) := by show ¬ _; rw [has_of HK.out.m, HK.out.t]; exact has_pos (pot_in (potC_mem v hlv))
          go_wp2_with fail
          refine (pPot (v : Int) _).mono ?_
          rintro ee w8 ⟨fa, fn, fc, fb, fm, fd, rfl, hF, b8⟩
          replace BB := BB.trans (b8.mono BB.size)
          replace hb0 := hb0.trans (b8.mono hb0.size)
          replace hG := hG.below b8
          replace hP := hP.below b8
          clear b8
          have hfl : ∀ W, (Instr.field 34 (formV fa fn fc fb fm fd (potP (v : Int)).2.2) 0).run Try.prog W = .ok (.slice fa fn fc) W := fun W => field_C _ _ _ _ _ _ _ W
          go_wp2_with fail
          refine (ihas_any _ _ _ ts _ _ _ (potC (v : Int)) _ HL.out.1 hP (by omega) hF.C hF.hn).mono ?_
          rintro ee w9 ⟨rfl, b9⟩
          replace BB := BB.trans (b9.mono BB.size)
          replace hb0 := hb0.trans (b9.mono hb0.size)
          replace hG := hG.below b9
          replace hP := hP.below b9
          replace hF := hF.below b9
          clear b9
          have hh := HH.out
          clear HH
          generalize hasI ts (potC (v : Int)) = z at hh ⊢
          clear hF hP hG
          go_wp2
          go_roundw
          case rel => exact ⟨v + 1, by omega, by go_num, hb0⟩
          case measure => simp [intOf]; omega
        · have hv' : ¬ (v : Int) < 3 := by omega
          clear hb0
          obtain ⟨wq, hwq⟩ : ∃ x, x = wr := ⟨_, rfl⟩
          subst hwq
          go_wp2_with fail
          go_loopw [6] (fun i wr => ∃ k : Nat, k ≤ L ∧ i = .int .i64 k ∧ Below wq.heap.size wq wr) (fun i _ => L - (intOf i).toNat)
          case atStart => exact ⟨0, by omega, rfl, Below.refl _ _⟩
          case round =>
            obtain ⟨k, hk, rfl, hb⟩ := hrel
            have hb0 := hb
            replace BB := BB.trans (hb.mono BB.size)
            replace hG := hG.below hb
            replace hP := hP.below hb
            clear hb
            by_cases hlk : k < L
            · have hk' : (k : Int) < (L : Int) := by omega
              have kl : k < ts.length := by rw [HL.out.1]; exact hlk
              obtain ⟨b, o, rfl, ck, gk⟩ := hP k kl
              have HH : Hid (hasI ts (ts[k]?.getD noI).x = (k : Int)) := by
                show _ = _
                have hx := x_at HK.out.m (i := k) (by rw [HL.out.2]; exact hlk)
                rw [has_of HK.out.m, hx]
                have h := has_at T (by rw [HK.out.t]; exact (catP_good ss).1) 0 k (by rw [HL.out.2]; exact hlk)
                rw [h, Nat.zero_add]
              generalize ts[k]?.getD noI = y at ck gk HH
              obtain ⟨yi, yn⟩ := gk
              have ck' : wr.cell? ⟨b, o + k, none⟩ = some (.slice y.a y.n y.cap) := ck
              clear ck
              go_wp2_with fail
              refine (ihas_any _ _ _ ts _ _ _ y.x _ HL.out.1 hP (by omega) yi yn).mono ?_
              rintro ee w8 ⟨rfl, b9⟩
              replace BB := BB.trans (b9.mono BB.size)
              replace hb0 := hb0.trans (b9.mono hb0.size)
              replace hG := hG.below b9
              replace hP := hP.below b9
              replace yi := yi.below b9
              clear b9
              rw [HH.out]
              have hkk := wrapN k
              clear ck' yi hP hG HH
              go_wp2
              go_roundw
              case rel => exact ⟨k + 1, by omega, by go_num, hb0⟩
              case measure => simp [intOf]; omega
            · have hk' : ¬ (k : Int) < (L : Int) := by omega
              clear hb0
              obtain ⟨wp, hwp⟩ : ∃ x, x = wr := ⟨_, rfl⟩
              subst hwp
              go_wp2_with fail
              go_loopw [7] (fun i wr => ∃ k : Nat, k ≤ N ∧ i = .int .i64 k ∧ Below wp.heap.size wp wr) (fun i _ => N - (intOf i).toNat)
              case atStart => exact ⟨0, by omega, rfl, Below.refl _ _⟩
              case round =>
                obtain ⟨i, hi, rfl, hb⟩ := hrel
                have hb0 := hb
                replace BB := BB.trans (hb.mono BB.size)
                replace hG := hG.below hb
                replace hP := hP.below hb
                clear hb
                by_cases hli : i < N
                · have hi' : (i : Int) < (N : Int) := by omega
                  have il : i < ss.length := by rw [HK.out.n]; exact hli
                  obtain ⟨b, o, rfl, ci, gi⟩ := hG i il
                  have hok := cat_act HK.out.c il
                  have HM : Hid (∀ r ∈ rowsL (ss[i]?.getD noL).x, ∀ f ∈ r.guards, partL f.1 = [0, 0, 0] ∨ partL f.1 ∈ T) := fun r hr f hf => by
                    rw [HK.out.t]
                    exact catP_guard (by rw [List.getElem?_eq_getElem il]; exact List.getElem_mem _) hr hf
                  generalize ss[i]?.getD noL = y at ci gi hok HM
                  obtain ⟨yl, yg, yn⟩ := gi
                  have ci' : wr.cell? ⟨b, o + i, none⟩ = some (.slice y.a y.n y.cap) := ci
                  have HO : Hid (actB y.n y.x = true ∧ y.x.length = y.n) := ⟨hok, yl⟩
                  clear ci hok yl
                  go_wp2_with fail
                  refine (pRows _ _ _ y.x _ HO.out.2 yg yn).mono ?_
                  rintro ee w8 ⟨ra, rn, rc, rfl, hrn, hr, b9⟩
                  replace BB := BB.trans (b9.mono BB.size)
                  replace hb0 := hb0.trans (b9.mono hb0.size)
                  replace hG := hG.below b9
                  replace hP := hP.below b9
                  replace yg := yg.below b9
                  clear b9
                  have hr8 : rn ≤ 8 := by rw [hrn]; exact rowsB_le HO.out.2
                  have HR : Hid ((rowsL y.x).length = rn ∧ ∀ r ∈ rowsL y.x, r.guards.length ≤ 3) := ⟨by rw [hrn, rowsB_yes HO.out.1], fun r hr => ((rowsL_few HO.out.2 HO.out.1).2.2.2 r hr).1⟩
                  rw [rowsB_yes HO.out.1] at hr
                  clear hrn HO ci' yg
                  obtain ⟨wo, hwo⟩ : ∃ x, x = w8 := ⟨_, rfl⟩
                  subst hwo
                  go_wp2_with fail
                  have hb3 := hb0
                  go_loopw [9] (fun i wr => ∃ k : Nat, k ≤ rn ∧ i = .int .i64 k ∧ Below wo.heap.size wo wr) (fun i _ => rn - (intOf i).toNat)
                  case atStart => exact ⟨0, by omega, rfl, Below.refl _ _⟩
                  case round =>
                    obtain ⟨k, hk, rfl, hb⟩ := hrel
                    have hb1 := hb
                    replace BB := BB.trans (hb.mono BB.size)
                    replace hb0 := hb0.trans (hb.mono hb0.size)
                    replace hG := hG.below hb
                    replace hP := hP.below hb
                    replace hr := hr.below hb
                    clear hb
                    by_cases hlr : k < rn
                    · have hk' : (k : Int) < (rn : Int) := by omega
                      obtain ⟨wk, hwk⟩ : ∃ x, x = wr := ⟨_, rfl⟩
                      subst hwk
                      have kl : k < (rowsL y.x).length := by rw [HR.out.1]; exact hlr
                      have hm : (rowsL y.x)[k]?.getD noR ∈ rowsL y.x := by rw [List.getElem?_eq_getElem kl]; exact List.getElem_mem _
                      have g3 := HR.out.2 _ hm
                      have HM2 : Hid (∀ f ∈ ((rowsL y.x)[k]?.getD noR).guards, partL f.1 = [0, 0, 0] ∨ partL f.1 ∈ T) := HM.out _ hm
                      have HRK : Hid (∀ X, Below wk.heap.size wk X → ∃ b ga gc, ra = some ⟨b, 0, none⟩ ∧ X.cell? ⟨b, k * 4, none⟩ = some (.slice ga ((rowsL y.x)[k]?.getD noR).guards.length gc) ∧ FormsAt X ga ((rowsL y.x)[k]?.getD noR).guards) := fun X hX => by
                        obtain ⟨b, ga, gc, aa, ac, ta, tc, e, p0, p1, p2, p3, f0, f1, f2⟩ := (hr.below hX) k kl
                        exact ⟨b, ga, gc, e, p0, f0⟩
                      generalize ((rowsL y.x)[k]?.getD noR).guards = gl at g3 HM2 HRK
                      obtain ⟨G, hG'⟩ : ∃ G, gl.length = G := ⟨_, rfl⟩
                      have HGL : Hid (gl.length = G) := hG'
                      rw [hG'] at g3
                      clear hG' hm kl
                      go_wp2_with fail
                      go_loopw [10] (fun i wr => ∃ j : Nat, j ≤ G ∧ i = .int .i64 j ∧ Below wk.heap.size wk wr) (fun i _ => G - (intOf i).toNat)
                      case atStart => exact ⟨0, by omega, rfl, Below.refl _ _⟩
                      case round =>
                        obtain ⟨j, hj, rfl, hb⟩ := hrel
                        have hb2 := hb
                        replace BB := BB.trans (hb.mono BB.size)
                        replace hb0 := hb0.trans (hb.mono hb0.size)
                        replace hb1 := hb1.trans (hb.mono hb1.size)
                        replace hG := hG.below hb
                        replace hP := hP.below hb
                        replace hr := hr.below hb
                        clear hb
                        obtain ⟨b, ga, gc, rfl, p0, f0⟩ := HRK.out wr hb2
                        rw [HGL.out] at p0
                        by_cases hlj : j < G
                        · have hj' : (j : Int) < (G : Int) := by omega
                          have jl : j < gl.length := by rw [HGL.out]; exact hlj
                          obtain ⟨b4, o4, rfl, a4, c4, x4, y4, m0, m1, m2, I4, J4⟩ := f0 j jl
                          have HM3 : Hid (partL (gl[j]?.getD ([], [], 0)).1 = [0, 0, 0] ∨ partL (gl[j]?.getD ([], [], 0)).1 ∈ T) := HM2.out _ (by rw [List.getElem?_eq_getElem jl]; exact List.getElem_mem _)
                          generalize gl[j]?.getD ([], [], 0) = f at m2 I4 J4 HM3
                          clear f0 jl
                          go_wp2_with fail
                          refine (ipart_any _ _ _ _ _ _ _ f.1 _ I4 (by omega)).mono ?_
                          rintro ee w9 ⟨rfl, b9, kp⟩
                          have hpl : (partL f.1).length = 3 := by rw [part_len]; exact I4.1
                          have IP := kp.ints' hpl
                          generalize wr.heap.size + 1 = PB at IP ⊢
                          generalize partL f.1 = P at IP HM3 hpl
                          clear p0 m0 m1 m2 kp I4 J4
                          replace BB := BB.trans (b9.mono BB.size)
                          replace hb0 := hb0.trans (b9.mono hb0.size)
                          replace hb1 := hb1.trans (b9.mono hb1.size)
                          replace hb2 := hb2.trans (b9.mono hb2.size)
                          replace hG := hG.below b9
                          replace hP := hP.below b9
                          replace hr := hr.below b9
                          clear b9
                          have al := (Below.refl w9.heap.size w9).alloc (Nat.le_refl _) (.cells #[.int .i64 0, .int .i64 0, .int .i64 0] 3)
                          have IZ := lit3 (Cel.new w9 [.int .i64 0, .int .i64 0, .int .i64 0] 3)
                          replace BB := BB.trans (al.mono BB.size)
                          replace hb0 := hb0.trans (al.mono hb0.size)
                          replace hb1 := hb1.trans (al.mono hb1.size)
                          replace hb2 := hb2.trans (al.mono hb2.size)
                          replace hG := hG.below al
                          replace hP := hP.below al
                          replace hr := hr.below al
                          replace IP := IP.below al
                          clear al
                          go_wp2_with fail
                          refine (coI_any _ _ _ _ _ _ P [0, 0, 0] _ IP IZ (by omega) (by omega)).mono ?_
                          rintro ee w10 ⟨rfl, ba⟩
                          replace BB := BB.trans (ba.mono BB.size)
                          replace hb0 := hb0.trans (ba.mono hb0.size)
                          replace hb1 := hb1.trans (ba.mono hb1.size)
                          replace hb2 := hb2.trans (ba.mono hb2.size)
                          replace hG := hG.below ba
                          replace hP := hP.below ba
                          replace hr := hr.below ba
                          replace IP := IP.below ba
                          replace IZ := IZ.below ba
                          clear ba
                          by_cases hz : P = [0, 0, 0]
                          · have ez : eqB P [0, 0, 0] = true := by rw [hz, eqB_refl]
                            rw [ez]
                            clear IP IZ hP hG hr HM3 HM2 HRK
                            go_wp2
                            go_roundw
                            case rel => exact ⟨j + 1, by omega, by go_num, hb2⟩
                            case measure => simp [intOf]; omega
                          · have ez : eqB P [0, 0, 0] = false := by simpa [eqB] using hz
                            rw [ez]
                            have HH : Hid (¬ hasI ts P < 0) := by
                              show ¬ _
                              rw [has_of HK.out.m]
                              rcases HM3.out with h | h
                              · exact absurd h hz
                              · exact has_pos h
                            go_wp2_with fail
                            refine (ihas_any _ _ _ ts _ _ _ P _ HL.out.1 hP (by omega) IP (by omega)).mono ?_
                            rintro ee w11 ⟨rfl, bq⟩
                            replace BB := BB.trans (bq.mono BB.size)
                            replace hb0 := hb0.trans (bq.mono hb0.size)
                            replace hb1 := hb1.trans (bq.mono hb1.size)
                            replace hb2 := hb2.trans (bq.mono hb2.size)
                            replace hG := hG.below bq
                            replace hP := hP.below bq
                            replace hr := hr.below bq
                            replace IP := IP.below bq
                            replace IZ := IZ.below bq
                            clear bq
                            have hh := HH.out
                            generalize hasI ts P = zz at hh ⊢
                            clear IP IZ hP hG hr HM3 HM2 HRK HH
                            go_wp2
                            go_roundw
                            case rel => exact ⟨j + 1, by omega, by go_num, hb2⟩
                            case measure => simp [intOf]; omega
                        · have hj' : ¬ (j : Int) < (G : Int) := by omega
                          clear f0 hP hG hr HM2 HRK
                          go_wp2
                          go_roundw
                          case rel => exact ⟨k + 1, by omega, by go_num, hb1⟩
                          case measure => simp [intOf]; omega
                    · have hk' : ¬ (k : Int) < (rn : Int) := by omega
                      clear hP hG hr HM
                      go_wp2
                      go_roundw
                      case rel => exact ⟨i + 1, by omega, by go_num, hb0⟩
                      case measure => simp [intOf]; omega
                · have hi' : ¬ (i : Int) < (N : Int) := by omega
                  have HH : Hid (hasI ts [0, 0, 0] < 0) := by
                    show _ < _
                    rw [has_of HK.out.m, has_mem, HK.out.t]
                    exact (catP_good ss).2
                  clear hb0
                  have al := (Below.refl wr.heap.size wr).alloc (Nat.le_refl _) (.cells #[.int .i64 0, .int .i64 0, .int .i64 0] 3)
                  have IZ := lit3 (Cel.new wr [.int .i64 0, .int .i64 0, .int .i64 0] 3)
                  replace BB := BB.trans (al.mono BB.size)
                  replace hG := hG.below al
                  replace hP := hP.below al
                  clear al
                  go_wp2_with fail
                  refine (ihas_any _ _ _ ts _ _ _ [0, 0, 0] _ HL.out.1 hP (by omega) IZ (by omega)).mono ?_
                  rintro ee w8 ⟨rfl, bq⟩
                  replace BB := BB.trans (bq.mono BB.size)
                  replace hG := hG.below bq
                  replace hP := hP.below bq
                  replace IZ := IZ.below bq
                  clear bq
                  have hh := HH.out
                  generalize hasI ts [0, 0, 0] = zz at hh ⊢
                  have L3' : (3 : Int) ≤ (L : Int) := by omega
                  clear hP hG IZ HH
                  go_wp2
                  go_ret
                  exact ⟨rfl, BB⟩
  · go_enter Try.func8, Try.ntmps8
    go_wp2
    go_ret
    exact ⟨rfl, Below.refl _ _⟩

/-! ### The row's step -/
set_option maxRecDepth 100000 in
theorem lifted (os : Os) (started : os.Started) (H : Type) (enc : TypeId × Value → H) :
    ReturnsInHanded {} Try.checked os 8 .any (Rows.fnCatFormsSpec.pre6 enc Try.prog Try.f8 Rows.fnCatFormsRow.domain false) (Rows.fnCatFormsSpec.post enc Try.prog Try.f8 false true false false) := by
  refine returnsInHanded_of_change (C := Try.checked) own started (by kernel_rfl) Try.func8
    (ChangeSpec.witness6 (enc := enc) (C := Try.checked) false ⟨#[], #[.slice none 0 0], []⟩ 8 (by kernel_rfl) (by kernel_rfl) (by kernel_rfl) (by kernel_rfl)) ?_
  intro W base args ds gs before hval0 hW hcnd _
  have hval : ∀ (j : Nat) t v, Try.f8.params[j]? = some t → args[j]? = some v → Value.okWide Try.prog W .any base t v := hval0
  have hW' := hW
  obtain ⟨p, q, hA0, hV, rfl, hfz, hnd⟩ := hW
  have hA : DataW.TrodAll enc Try.prog W 0 (fun _ => true) true Try.f8.params.toList args.toList ds p := hA0
  rw [Try.params8] at hA hval
  obtain ⟨v0, vs0, d0, ds0, p0, q0, hargs, rfl, rfl, h0, r0⟩ := trodAll_cons hA
  obtain ⟨rfl, rfl, rfl⟩ := trodAll_nil r0
  obtain rfl : args = #[v0] := by cases args; simp_all
  obtain ⟨rfl, rfl⟩ := trodVars_none hV
  have k0 := h0
  have lt0 : ∀ x ∈ p0, x.block < W.heap.size := by obtain ⟨m, hm⟩ := k0; exact DataW.trod_lt m _ _ _ hm
  obtain ⟨a0, n0, cap0, C0, rfl, hC0, hn0⟩ := open_bytesT (hval 0 22 v0 rfl rfl) h0
  clear hA0 hval0
  refine (walk W a0 n0 cap0 C0 hC0 hn0).mono fun e W' ⟨he, bel⟩ => ?_
  subst he
  exact ⟨_, rfl, _, _, _, [], _, [], hW', trodAll_mk1 (shut_bool Try.underlying4 _), (trodAll_cons_mk (Below.trod laidOut (by kernel_rfl) (of_decide_eq_true (by kernel_rfl)) k0 bel lt0) trodAll_mk0), rfl, bel.frame _, fun h => by cases h⟩

theorem over : Rows.fnCatFormsRow.holds Try.pinned (OpenSpec.ofChange Rows.fnCatFormsSpec) :=
  OpenClaim.holds_of_wide 8 Try.f8 rfl rfl rfl rfl rfl rfl rfl ⟨rfl, rfl, rfl, rfl, rfl⟩ rfl rfl rfl rfl rfl (by kernel_rfl) Try.func8 (by kernel_rfl)
    (of_decide_eq_true (by kernel_rfl)) (by unfold Func.isWrapper; first | (rw [if_pos (by decide +kernel)]; kernel_rfl) | (rw [if_neg (by decide +kernel)]; exact ⟨rfl, rfl⟩))
    (fun os started H enc _ => lifted os started H enc)

end Go.Proofs.Ytjggppnffkcmbaa.fnCatForms
namespace Go.Proofs.Ytjggppnffkcmbaa
/-- The statement. -/
theorem fnCatForms_holds : Rows.FnCatFormsSaid := fnCatForms.over
#print axioms fnCatForms_holds
end Go.Proofs.Ytjggppnffkcmbaa
