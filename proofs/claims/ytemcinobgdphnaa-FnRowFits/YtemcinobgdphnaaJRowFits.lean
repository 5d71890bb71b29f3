/-
  For all bytes FnRowFits returns true, and what came in reads behind the call as it did. No condition. (a way fits just if its guards are 0 or more)
-/
import Derived.Test.YtemcinobgdphnaaJRowFitsB
import Derived.Test.YtemcinobgdphnaaJRowFitsA
import Derived.Test.YtemcinobgdphnaaOpen
namespace Go.Proofs.Ytemcinobgdphnaa.fnRowFits
open Go.ChangeShapes Go.WideShapes Go.ChangeAt Go.RowKit
set_option linter.unusedVariables false
set_option maxRecDepth 100000

theorem open_bytesT {H : Type} {enc : TypeId × Value → H} {W : World} {r : Reach} {b0 : Nat} {v : Value} {d : DataW H} {p : List MemPlace}
    (hv : Value.okWide Try.prog W r b0 22 v) (h : DataW.Trod enc Try.prog W 0 (fun _ => true) true 22 v d p) : ∃ a n cap zs, v = .slice a n cap ∧ BInts W a n zs ∧ (n ≤ cap ∧ cap ≤ maxLen) := by
  obtain ⟨a0, len0, cap0, rfl⟩ := okWide_slice Try.underlying22 hv
  obtain ⟨fuel, hf⟩ := h
  rcases open_ints Try.underlying22 Try.underlying5 (by kernel_rfl) hf with ⟨hcs, _⟩ | ⟨x, l, c, zs, hcs, _, hl, hm, hz, _, hcell, hwz⟩
  · simp [Value.cells] at hcs
    obtain ⟨rfl, rfl, rfl⟩ := hcs
    exact ⟨none, 0, 0, [], rfl, ⟨rfl, fun i hi => by omega, fun i => by simp⟩, by omega, by unfold maxLen; omega⟩
  · simp [Value.cells] at hcs
    obtain ⟨rfl, rfl, rfl⟩ := hcs
    have hz' : zs.length = cap0 := by simpa using hz
    refine ⟨some x, len0, cap0, zs.take len0, rfl, ⟨by rw [List.length_take]; omega, fun i hi => ?_, fun i => ?_⟩, hl, hm⟩
    · obtain ⟨b, off, spot⟩ := x
      have hc0 := hcell 0 (by omega)
      have hspot : spot = none := by simpa [Addr.add] using World.cell?_spot hc0
      subst hspot
      refine ⟨b, off, rfl, ?_⟩
      have hc := hcell i (by omega)
      have : W.cell? ⟨b, off + i, none⟩ = some (.int .u8 (zs.getD i 0)) := by
        by_cases h0 : i = 0
        · subst h0; simpa [Addr.add] using hc
        · simpa [Addr.add, h0] using hc
      rw [this]
      simp [hi]
    · by_cases hi : i < (zs.take len0).length
      · rw [List.getElem?_eq_getElem hi]
        have := hwz _ (List.mem_of_mem_take (List.getElem_mem hi))
        simpa [Lit.wf, IntKind.min, IntKind.max, IntKind.signed, IntKind.bits] using this
      · rw [List.getElem?_eq_none (by omega)]
        simp

def B0 (gs ls ts : List FV) (A T : Nat) (st : Bool) (p q : Nat) (V U : List Int) : Bool := rowB gs ls ts A T st && okN 3 10000 p V && okN 2 9 q U
theorem fitsB_eq {gs ls ts : List FV} {A T : Nat} {st : Bool} {p q : Nat} {V U : List Int} : fitsB gs ls ts A T st p q V U = (B0 gs ls ts A T st p q V U && gs.all (fitB V U)) := rfl
theorem all_no {P : FV → Bool} {fs : List FV} {k : Nat} (h : (fs.take k).all P = false) : fs.all P = false := by
  rw [← List.take_append_drop k fs, List.all_append, h]
  rfl
theorem fits_stop {gs ls ts : List FV} {A T : Nat} {st : Bool} {p q : Nat} {V U : List Int} {k : Nat} (h : (B0 gs ls ts A T st p q V U && (gs.take k).all (fitB V U)) = false) : fitsB gs ls ts A T st p q V U = false := by
  rw [fitsB_eq]
  cases hb : B0 gs ls ts A T st p q V U
  · rfl
  · rw [hb, Bool.true_and] at h
    rw [all_no h]
    rfl
theorem fits_step {gs ls ts : List FV} {A T : Nat} {st : Bool} {p q : Nat} {V U : List Int} {k : Nat} (hk : k < gs.length) (h : (B0 gs ls ts A T st p q V U && (gs.take k).all (fitB V U)) = true) :
    atOk (gs[k]?.getD noFV).n (gs[k]?.getD noFV).m p q (gs[k]?.getD noFV).C (gs[k]?.getD noFV).D (gs[k]?.getD noFV).K V U = true ∧ (B0 gs ls ts A T st p q V U && (gs.take (k + 1)).all (fitB V U)) = fitB V U (gs[k]?.getD noFV) := by
  rw [Bool.and_eq_true] at h
  obtain ⟨hb, ha⟩ := h
  have hb' := hb
  simp only [B0, Bool.and_eq_true] at hb'
  have hg := (rowB_g hb'.1.1).1
  have h1 := all_at hg hk
  refine ⟨?_, ?_⟩
  · simp only [atOk, Bool.and_eq_true]
    exact ⟨⟨h1, hb'.1.2⟩, hb'.2⟩
  · rw [hb, Bool.true_and, List.take_succ_eq_append_getElem hk, List.all_append, ha, List.getElem?_eq_getElem hk]
    simp
theorem row_none (w : World) : RowAt w none 0 [] none 0 [] none 0 [] := ⟨fun i hi => by simp at hi, fun i hi => by simp at hi, fun i hi => by simp at hi, rfl, rfl, rfl, by omega, by omega, by omega⟩

set_option maxHeartbeats 6400000 in
theorem walk (w : World) (a : Option Addr) (n cap : Nat) (A0 : List Int) (hA0 : BInts w a n A0) (hn : n ≤ cap ∧ cap ≤ maxLen) :
    Calls Try.prog 3 #[.slice a n cap] w fun e w' => e = .returned (.bool true) ∧ Below w.heap.size w w' := by
  obtain ⟨hn2, hn3⟩ := hn
  by_cases hn1 : n ≤ 1048576
  · go_enter Try.func3, Try.ntmps3
    go_wp2_with fail
    refine (dRowFits _ _ _ A0 _ hA0 hn2 hn1 hn3).mono ?_
    rintro ee w1 ⟨ga, G, gc, gs, aa, A, ac, ls, ta, T, tc, ts, st, va, p, cv, V, ua, q, cu, U, rfl, b1, hO, hp, hq, zG, zL, zS⟩
    obtain ⟨RA, hV, hU⟩ := hO _ (Touch.refl _ _)
    clear hO
    have BB := b1
    clear b1
    have al := (Below.refl (w1).heap.size (w1)).alloc (Nat.le_refl _) (.cells #[.slice ga G gc, .slice aa A ac, .slice ta T tc, .bool st] 25)
    replace BB := BB.trans (al.mono BB.size)
    replace RA := RA.below al
    replace hV := hV.below al
    replace hU := hU.below al
    clear al
    have q3 := Cel.new (w1) [.slice ga G gc, .slice aa A ac, .slice ta T tc, .bool st] 25
    go_upto_region 4 with fail
    obtain ⟨W2, hW2⟩ : ∃ W, W = (w1).alloc (.cells #[.slice ga G gc, .slice aa A ac, .slice ta T tc, .bool st] 25) := ⟨_, rfl⟩
    rw [← hW2]
    rw [← hW2] at RA hV hU q3 BB
    clear hW2
    obtain ⟨X3, hX3⟩ : ∃ x, x = w1.heap.size := ⟨_, rfl⟩
    rw [← hX3]
    rw [← hX3] at q3
    clear hX3
    have hb0 : Below W2.heap.size W2 W2 := Below.refl _ _
    go_cut [6] (fun f wx => f = .bool (B0 gs ls ts A T st p q V U) ∧ Below W2.heap.size W2 wx)
    case first =>
      have g3_0 := q3.cell 0
      have g3_1 := q3.cell 1
      have g3_2 := q3.cell 2
      have g3_3 := q3.cell 3
      simp only [List.getElem?_cons_zero, List.getElem?_cons_succ] at g3_0 g3_1 g3_2 g3_3
      go_wp2_with fail
      refine (irow_any _ _ _ gs _ _ _ ls _ _ _ ts st _ RA).mono ?_
      rintro ee w3 ⟨rfl, b2⟩
      clear g3_0 g3_1 g3_2 g3_3
      replace BB := BB.trans (b2.mono BB.size)
      replace hb0 := hb0.trans (b2.mono hb0.size)
      replace RA := RA.below b2
      replace hV := hV.below b2
      replace hU := hU.below b2
      replace q3 := q3.below b2
      clear b2
      cases h1 : rowB gs ls ts A T st
      · go_wp2
        go_meet
        case rel => exact ⟨by simp only [B0, h1, Bool.false_and], hb0⟩
      · have g3_0 := q3.cell 0
        have g3_1 := q3.cell 1
        have g3_2 := q3.cell 2
        have g3_3 := q3.cell 3
        simp only [List.getElem?_cons_zero, List.getElem?_cons_succ] at g3_0 g3_1 g3_2 g3_3
        go_wp2_with fail
        refine (ival_any _ _ _ V _ hV (by omega)).mono ?_
        rintro ee v4 ⟨rfl, rfl⟩
        cases h2 : okN 3 10000 p V
        · go_wp2
          go_meet
          case rel => exact ⟨by simp only [B0, h1, h2, Bool.and_false, Bool.false_and], hb0⟩
        · go_wp2_with fail
          refine (iarg_any _ _ _ U _ hU (by omega)).mono ?_
          rintro ee v5 ⟨rfl, rfl⟩
          go_wp2
          go_meet
          case rel => exact ⟨by simp only [B0, h1, h2, Bool.true_and], hb0⟩
    clear hb0
    obtain ⟨rfl, hb0⟩ := hcut
    replace BB := BB.trans (hb0.mono BB.size)
    replace RA := RA.below hb0
    replace hV := hV.below hb0
    replace hU := hU.below hb0
    replace q3 := q3.below hb0
    clear hb0
    go_wp2_with fail
    go_loopw [6, 7] (fun f i wr => ∃ (k : Nat) (u : Bool), k ≤ G ∧ i = .int .i64 k ∧ f = .bool u ∧ Hid ((B0 gs ls ts A T st p q V U && (gs.take k).all (fitB V U)) = u) ∧ Below wc.heap.size wc wr) (fun _ i _ => G - (intOf i).toNat)
    case atStart => exact ⟨0, _, by omega, rfl, rfl, (show _ = _ by simp), Below.refl _ _⟩
    case round =>
      obtain ⟨k, u, hk, rfl, rfl, HU, hb⟩ := hrel
      have hc0 := hb
      replace BB := BB.trans (hb.mono BB.size)
      replace RA := RA.below hb
      replace hV := hV.below hb
      replace hU := hU.below hb
      replace q3 := q3.below hb
      clear hb
      by_cases hlt : k < G
      · have hk' : (k : Int) < (G : Int) := by omega
        cases u
        · have HF : Hid (fitsB gs ls ts A T st p q V U = false) := fits_stop HU.out
          obtain ⟨rb, hrb⟩ : ∃ x, rowB gs ls ts A T st = x := ⟨_, rfl⟩
          have HR : Hid (rowB gs ls ts A T st = rb) := hrb
          clear hrb
          have e2 : (rb == rb) = true := by cases rb <;> rfl
          clear HU
          have g3_0 := q3.cell 0
          have g3_1 := q3.cell 1
          have g3_2 := q3.cell 2
          have g3_3 := q3.cell 3
          simp only [List.getElem?_cons_zero, List.getElem?_cons_succ] at g3_0 g3_1 g3_2 g3_3
          go_upto_region 10 with fail
          clear g3_0 g3_1 g3_2 g3_3
          refine wp_region_ends (fun X => X.cell? ⟨X3, 0, none⟩ = some (.slice ga G gc) ∧ X.cell? ⟨X3, 1, none⟩ = some (.slice aa A ac) ∧ X.cell? ⟨X3, 2, none⟩ = some (.slice ta T tc) ∧ X.cell? ⟨X3, 3, none⟩ = some (.bool st)) (fun _ => True) 28 (by kernel_rfl) ?_
          have dr : Below wr.heap.size wr wr.drew := (Below.refl _ _).drew
          replace BB := BB.trans (dr.mono BB.size)
          replace hc0 := hc0.trans (dr.mono hc0.size)
          replace RA := RA.below dr
          replace hV := hV.below dr
          replace hU := hU.below dr
          replace q3 := q3.below dr
          clear dr
          obtain ⟨V4, hV4⟩ : ∃ V, V = wr.drew := ⟨_, rfl⟩
          rw [← hV4]
          rw [← hV4] at RA hV hU q3 BB hc0
          clear hV4
          have hSS : (V4.cell? ⟨X3, 0, none⟩ = some (.slice ga G gc) ∧ V4.cell? ⟨X3, 1, none⟩ = some (.slice aa A ac) ∧ V4.cell? ⟨X3, 2, none⟩ = some (.slice ta T tc) ∧ V4.cell? ⟨X3, 3, none⟩ = some (.bool st)) ∧ True := ⟨⟨q3.cell 0, q3.cell 1, q3.cell 2, q3.cell 3⟩, trivial⟩
          refine wpAnyE_take0 (i := 0) (v := ?k1xv0) rfl (by kernel_rfl) (by kernel_rfl) (by kernel_rfl) (by decide) (fun _ _ _ h => h) (Or.inl ⟨by rfl, ?k1xhy0⟩) hSS ?_
          case k1xhy0 => (intro wz hSw; (try dsimp only at hSw); go_simp; try (with_reducible rfl))
          refine wpAnyE_take0 (i := 1) (v := ?k1xv1) rfl (by kernel_rfl) (by kernel_rfl) (by kernel_rfl) (by decide) (fun _ _ _ h => h) (Or.inl ⟨by rfl, ?k1xhy1⟩) hSS ?_
          case k1xhy1 => (intro wz hSw; (try dsimp only at hSw); go_simp; try (with_reducible rfl))
          refine wpAnyE_take0 (i := 2) (v := ?k1xv2) rfl (by kernel_rfl) (by kernel_rfl) (by kernel_rfl) (by decide) (fun _ _ _ h => h) (Or.inl ⟨by rfl, ?k1xhy2⟩) hSS ?_
          case k1xhy2 => (intro wz hSw; (try dsimp only at hSw); go_simp; try (with_reducible rfl))
          refine wpAnyE_take0 (i := 4) (v := ?k1xv4) rfl (by kernel_rfl) (by kernel_rfl) (by kernel_rfl) (by decide) (fun _ _ _ h => h) (Or.inl ⟨by rfl, ?k1xhy4⟩) hSS ?_
          case k1xhy4 => (intro wz hSw; (try dsimp only at hSw); go_simp; try (with_reducible rfl))
          simp only [Act.put, List.setIfInBounds_toArray, List.set_cons_succ, List.set_cons_zero, List.getElem_toArray, List.getElem_cons_succ, List.getElem_cons_zero]
          refine wpAnyE_one (i := 3) (by kernel_rfl) rfl (fun K hK => ?_)
          go_simp
          refine (ifits_any _ _ _ gs _ _ _ ls _ _ _ ts st _ _ _ V _ _ _ U _ RA hV hU (by omega) (by omega)).mono ?_
          rintro ee w5 ⟨rfl, b8⟩
          rw [HF.out]
          replace BB := BB.trans (b8.mono BB.size)
          replace hc0 := hc0.trans (b8.mono hc0.size)
          replace RA := RA.below b8
          replace hV := hV.below b8
          replace hU := hU.below b8
          replace q3 := q3.below b8
          clear b8
          clear hSS
          have hSS : (w5.cell? ⟨X3, 0, none⟩ = some (.slice ga G gc) ∧ w5.cell? ⟨X3, 1, none⟩ = some (.slice aa A ac) ∧ w5.cell? ⟨X3, 2, none⟩ = some (.slice ta T tc) ∧ w5.cell? ⟨X3, 3, none⟩ = some (.bool st)) ∧ True := ⟨⟨q3.cell 0, q3.cell 1, q3.cell 2, q3.cell 3⟩, trivial⟩
          (try dsimp only)
          refine hK.out _ _ ⟨hSS.1, fun _ => trivial⟩ ?_
          clear hK K
          refine wpAnyE_take0 (i := 5) (v := ?k1xv5) rfl (by kernel_rfl) (by kernel_rfl) (by kernel_rfl) (by decide) (fun _ _ _ h => h) (Or.inl ⟨by rfl, ?k1xhy5⟩) hSS ?_
          case k1xhy5 => (intro wz hSw; (try dsimp only at hSw); go_simp; try (with_reducible rfl))
          refine wpAnyE_take0 (i := 6) (v := ?k1xv6) rfl (by kernel_rfl) (by kernel_rfl) (by kernel_rfl) (by decide) (fun _ _ _ h => h) (Or.inl ⟨by rfl, ?k1xhy6⟩) hSS ?_
          case k1xhy6 => (intro wz hSw; (try dsimp only at hSw); go_simp; try (with_reducible rfl))
          refine wpAnyE_take0 (i := 7) (v := ?k1xv7) rfl (by kernel_rfl) (by kernel_rfl) (by kernel_rfl) (by decide) (fun _ _ _ h => h) (Or.inl ⟨by rfl, ?k1xhy7⟩) hSS ?_
          case k1xhy7 => (intro wz hSw; (try dsimp only at hSw); go_simp; try (with_reducible rfl))
          refine wpAnyE_take0 (i := 8) (v := ?k1xv8) rfl (by kernel_rfl) (by kernel_rfl) (by kernel_rfl) (by decide) (fun _ _ _ h => h) (Or.inl ⟨by rfl, ?k1xhy8⟩) hSS ?_
          case k1xhy8 => (intro wz hSw; (try dsimp only at hSw); go_simp; try (with_reducible rfl))
          simp only [Act.put, List.setIfInBounds_toArray, List.set_cons_succ, List.set_cons_zero, List.getElem_toArray, List.getElem_cons_succ, List.getElem_cons_zero]
          refine wpAnyE_take0 (i := 9) (v := ?k1xv9) rfl (by kernel_rfl) (by kernel_rfl) (by kernel_rfl) (by decide) (fun _ _ _ h => h) (Or.inl ⟨by rfl, ?k1xhy9⟩) hSS ?_
          case k1xhy9 => (intro wz hSw; (try dsimp only at hSw); go_simp; try (with_reducible rfl))
          refine wpAnyE_take0 (i := 11) (v := ?k1xv11) rfl (by kernel_rfl) (by kernel_rfl) (by kernel_rfl) (by decide) (fun _ _ _ h => h) (Or.inl ⟨by rfl, ?k1xhy11⟩) hSS ?_
          case k1xhy11 => (intro wz hSw; (try dsimp only at hSw); go_simp; try (with_reducible rfl))
          refine wpAnyE_take0 (i := 12) (v := ?k1xv12) rfl (by kernel_rfl) (by kernel_rfl) (by kernel_rfl) (by decide) (fun _ _ _ h => h) (Or.inl ⟨by rfl, ?k1xhy12⟩) hSS ?_
          case k1xhy12 => (intro wz hSw; (try dsimp only at hSw); go_simp; try (with_reducible rfl))
          refine wpAnyE_take0 (i := 13) (v := ?k1xv13) rfl (by kernel_rfl) (by kernel_rfl) (by kernel_rfl) (by decide) (fun _ _ _ h => h) (Or.inl ⟨by rfl, ?k1xhy13⟩) hSS ?_
          case k1xhy13 => (intro wz hSw; (try dsimp only at hSw); go_simp; try (with_reducible rfl))
          simp only [Act.put, List.setIfInBounds_toArray, List.set_cons_succ, List.set_cons_zero, List.getElem_toArray, List.getElem_cons_succ, List.getElem_cons_zero]
          refine wpAnyE_one (i := 10) (by kernel_rfl) rfl (fun K hK => ?_)
          go_simp
          refine (ifits_any _ _ _ gs _ _ _ ls _ _ _ ts st _ _ _ V _ _ _ U _ RA hV hU (by omega) (by omega)).mono ?_
          rintro ee w6 ⟨rfl, b9⟩
          rw [HF.out]
          replace BB := BB.trans (b9.mono BB.size)
          replace hc0 := hc0.trans (b9.mono hc0.size)
          replace RA := RA.below b9
          replace hV := hV.below b9
          replace hU := hU.below b9
          replace q3 := q3.below b9
          clear b9
          clear hSS
          have hSS : (w6.cell? ⟨X3, 0, none⟩ = some (.slice ga G gc) ∧ w6.cell? ⟨X3, 1, none⟩ = some (.slice aa A ac) ∧ w6.cell? ⟨X3, 2, none⟩ = some (.slice ta T tc) ∧ w6.cell? ⟨X3, 3, none⟩ = some (.bool st)) ∧ True := ⟨⟨q3.cell 0, q3.cell 1, q3.cell 2, q3.cell 3⟩, trivial⟩
          (try dsimp only)
          refine hK.out _ _ ⟨hSS.1, fun _ => trivial⟩ ?_
          clear hK K
          refine wpAnyE_one (i := 14) (by kernel_rfl) rfl (fun K hK => ?_)
          go_simp
          refine (sfits_any _ _ _ gs _ _ _ ls _ _ _ ts st _ _ _ V _ _ _ U _ RA hV hU (by omega) (by omega)).mono ?_
          rintro ee w7 ⟨rfl, b10⟩
          rw [HF.out]
          replace BB := BB.trans (b10.mono BB.size)
          replace hc0 := hc0.trans (b10.mono hc0.size)
          replace RA := RA.below b10
          replace hV := hV.below b10
          replace hU := hU.below b10
          replace q3 := q3.below b10
          clear b10
          clear hSS
          have hSS : (w7.cell? ⟨X3, 0, none⟩ = some (.slice ga G gc) ∧ w7.cell? ⟨X3, 1, none⟩ = some (.slice aa A ac) ∧ w7.cell? ⟨X3, 2, none⟩ = some (.slice ta T tc) ∧ w7.cell? ⟨X3, 3, none⟩ = some (.bool st)) ∧ True := ⟨⟨q3.cell 0, q3.cell 1, q3.cell 2, q3.cell 3⟩, trivial⟩
          (try dsimp only)
          refine hK.out _ _ ⟨hSS.1, fun _ => trivial⟩ ?_
          clear hK K
          refine wpAnyE_take0 (i := 15) (v := ?k1xv15) rfl (by kernel_rfl) (by kernel_rfl) (by kernel_rfl) (by decide) (fun _ _ _ h => h) (Or.inl ⟨by rfl, ?k1xhy15⟩) hSS ?_
          case k1xhy15 => (intro wz hSw; (try dsimp only at hSw); go_simp; try (with_reducible rfl))
          refine wpAnyE_take0 (i := 16) (v := ?k1xv16) rfl (by kernel_rfl) (by kernel_rfl) (by kernel_rfl) (by decide) (fun _ _ _ h => h) (Or.inl ⟨by rfl, ?k1xhy16⟩) hSS ?_
          case k1xhy16 => (intro wz hSw; (try dsimp only at hSw); go_simp; try (with_reducible rfl))
          refine wpAnyE_take0 (i := 17) (v := ?k1xv17) rfl (by kernel_rfl) (by kernel_rfl) (by kernel_rfl) (by decide) (fun _ _ _ h => h) (Or.inl ⟨by rfl, ?k1xhy17⟩) hSS ?_
          case k1xhy17 => (intro wz hSw; (try dsimp only at hSw); go_simp; try (with_reducible rfl))
          refine wpAnyE_take0 (i := 18) (v := ?k1xv18) rfl (by kernel_rfl) (by kernel_rfl) (by kernel_rfl) (by decide) (fun _ _ _ h => h) (Or.inl ⟨by rfl, ?k1xhy18⟩) hSS ?_
          case k1xhy18 => (intro wz hSw; (try dsimp only at hSw); go_simp; try (with_reducible rfl))
          simp only [Act.put, List.setIfInBounds_toArray, List.set_cons_succ, List.set_cons_zero, List.getElem_toArray, List.getElem_cons_succ, List.getElem_cons_zero]
          refine wpAnyE_take0 (i := 20) (v := ?k1xv20) rfl (by kernel_rfl) (by kernel_rfl) (by kernel_rfl) (by decide) (fun _ _ _ h => h) (Or.inl ⟨by rfl, ?k1xhy20⟩) hSS ?_
          case k1xhy20 => (intro wz hSw; (try dsimp only at hSw); go_simp; try (with_reducible rfl))
          refine wpAnyE_one (i := 19) (by kernel_rfl) rfl (fun K hK => ?_)
          go_simp
          refine (irow_any _ _ _ gs _ _ _ ls _ _ _ ts st _ RA).mono ?_
          rintro ee w8 ⟨rfl, b11⟩
          rw [HR.out]
          replace BB := BB.trans (b11.mono BB.size)
          replace hc0 := hc0.trans (b11.mono hc0.size)
          replace RA := RA.below b11
          replace hV := hV.below b11
          replace hU := hU.below b11
          replace q3 := q3.below b11
          clear b11
          clear hSS
          have hSS : (w8.cell? ⟨X3, 0, none⟩ = some (.slice ga G gc) ∧ w8.cell? ⟨X3, 1, none⟩ = some (.slice aa A ac) ∧ w8.cell? ⟨X3, 2, none⟩ = some (.slice ta T tc) ∧ w8.cell? ⟨X3, 3, none⟩ = some (.bool st)) ∧ True := ⟨⟨q3.cell 0, q3.cell 1, q3.cell 2, q3.cell 3⟩, trivial⟩
          (try dsimp only)
          refine hK.out _ _ ⟨hSS.1, fun _ => trivial⟩ ?_
          clear hK K
          refine wpAnyE_one (i := 21) (by kernel_rfl) rfl (fun K hK => ?_)
          go_simp
          refine (srow_any _ _ _ gs _ _ _ ls _ _ _ ts st _ RA).mono ?_
          rintro ee w9 ⟨rfl, b12⟩
          rw [HR.out]
          replace BB := BB.trans (b12.mono BB.size)
          replace hc0 := hc0.trans (b12.mono hc0.size)
          replace RA := RA.below b12
          replace hV := hV.below b12
          replace hU := hU.below b12
          replace q3 := q3.below b12
          clear b12
          clear hSS
          have hSS : (w9.cell? ⟨X3, 0, none⟩ = some (.slice ga G gc) ∧ w9.cell? ⟨X3, 1, none⟩ = some (.slice aa A ac) ∧ w9.cell? ⟨X3, 2, none⟩ = some (.slice ta T tc) ∧ w9.cell? ⟨X3, 3, none⟩ = some (.bool st)) ∧ True := ⟨⟨q3.cell 0, q3.cell 1, q3.cell 2, q3.cell 3⟩, trivial⟩
          (try dsimp only)
          refine hK.out _ _ ⟨hSS.1, fun _ => trivial⟩ ?_
          clear hK K
          refine wpAnyE_take0 (i := 22) (v := ?k1xv22) rfl (by kernel_rfl) (by kernel_rfl) (by kernel_rfl) (by decide) (fun _ _ _ h => h) (Or.inl ⟨by rfl, ?k1xhy22⟩) hSS ?_
          case k1xhy22 => (intro wz hSw; (try dsimp only at hSw); go_simp; try (with_reducible rfl))
          refine wpAnyE_take0 (i := 23) (v := ?k1xv23) rfl (by kernel_rfl) (by kernel_rfl) (by kernel_rfl) (by decide) (fun _ _ _ h => h) (Or.inl ⟨by rfl, ?k1xhy23⟩) hSS ?_
          case k1xhy23 => (intro wz hSw; (try dsimp only at hSw); go_simp; try (with_reducible rfl))
          refine wpAnyE_take0 (i := 24) (v := ?k1xv24) rfl (by kernel_rfl) (by kernel_rfl) (by kernel_rfl) (by decide) (fun _ _ _ h => h) (Or.inl ⟨by rfl, ?k1xhy24⟩) hSS ?_
          case k1xhy24 => (intro wz hSw; (try dsimp only at hSw); go_simp; try (with_reducible rfl))
          refine wpAnyE_take0 (i := 25) (v := ?k1xv25) rfl (by kernel_rfl) (by kernel_rfl) (by kernel_rfl) (by decide) (fun _ _ _ h => h) (Or.inl ⟨by rfl, ?k1xhy25⟩) hSS ?_
          case k1xhy25 => (intro wz hSw; (try dsimp only at hSw); go_simp; try (with_reducible rfl))
          simp only [Act.put, List.setIfInBounds_toArray, List.set_cons_succ, List.set_cons_zero, List.getElem_toArray, List.getElem_cons_succ, List.getElem_cons_zero]
          refine wpAnyE_one (i := 26) (by kernel_rfl) rfl (fun K hK => ?_)
          go_simp
          refine (irow_any none 0 0 [] none 0 0 [] none 0 0 [] true _ (row_none _)).mono ?_
          rintro ee w10 ⟨rfl, b13⟩
          rw [show rowB [] [] [] 0 0 true = true from rfl]
          replace BB := BB.trans (b13.mono BB.size)
          replace hc0 := hc0.trans (b13.mono hc0.size)
          replace RA := RA.below b13
          replace hV := hV.below b13
          replace hU := hU.below b13
          replace q3 := q3.below b13
          clear b13
          clear hSS
          have hSS : (w10.cell? ⟨X3, 0, none⟩ = some (.slice ga G gc) ∧ w10.cell? ⟨X3, 1, none⟩ = some (.slice aa A ac) ∧ w10.cell? ⟨X3, 2, none⟩ = some (.slice ta T tc) ∧ w10.cell? ⟨X3, 3, none⟩ = some (.bool st)) ∧ True := ⟨⟨q3.cell 0, q3.cell 1, q3.cell 2, q3.cell 3⟩, trivial⟩
          (try dsimp only)
          refine hK.out _ _ ⟨hSS.1, fun _ => trivial⟩ ?_
          clear hK K
          refine wpAnyE_take0 (i := 27) (v := ?k1xv27) rfl (by kernel_rfl) (by kernel_rfl) (by kernel_rfl) (by decide) (fun _ _ _ h => h) (Or.inl ⟨by rfl, ?k1xhy27⟩) hSS ?_
          case k1xhy27 => (intro wz hSw; (try dsimp only at hSw); go_simp; try (with_reducible rfl))
          refine wpAnyE_one (i := 28) (by kernel_rfl) rfl (fun K hK => ?_)
          go_simp
          refine hK.out _ _ ⟨hSS.1, fun _ => trivial⟩ ?_
          clear hK K
          refine wpAnyE_done (by kernel_rfl) ?_ _
          clear hSS
          go_wp2
          go_ret
          exact ⟨rfl, BB⟩
        · have hkl : k < gs.length := by rw [RA.hg]; exact hlt
          obtain ⟨s1, s2⟩ := fits_step hkl HU.out
          have HS1 : Hid _ := s1
          have HS2 : Hid _ := s2
          clear s1 s2 HU
          obtain ⟨b, off, rfl, p0, p1, p2, hAt⟩ := RA.g k hkl
          clear hkl
          generalize gs[k]?.getD noFV = f at p0 p1 p2 hAt HS1 HS2
          have g3_0 := q3.cell 0
          have g3_1 := q3.cell 1
          have g3_2 := q3.cell 2
          have g3_3 := q3.cell 3
          simp only [List.getElem?_cons_zero, List.getElem?_cons_succ] at g3_0 g3_1 g3_2 g3_3
          go_wp2_with fail
          refine (ifat_any _ _ _ _ _ _ f.K f.C f.D _ _ _ _ _ _ V U _ hAt.C hAt.D hV hU hAt.hn hAt.hm (by omega) (by omega)).mono ?_
          rintro ee w4 ⟨rfl, b8⟩
          rw [atN_yes HS1.out, HS1.out]
          clear p0 p1 p2
          clear g3_0 g3_1 g3_2 g3_3
          replace BB := BB.trans (b8.mono BB.size)
          replace hc0 := hc0.trans (b8.mono hc0.size)
          replace RA := RA.below b8
          replace hV := hV.below b8
          replace hU := hU.below b8
          replace hAt := hAt.below b8
          replace q3 := q3.below b8
          clear b8
          obtain ⟨z, hz⟩ : ∃ z, atV f.C f.D f.K V U = z := ⟨_, rfl⟩
          rw [hz]
          have HZ : Hid ((B0 gs ls ts A T st p q V U && (gs.take (k + 1)).all (fitB V U)) = decide (0 ≤ z)) := by
            show _ = _
            rw [HS2.out, fitB, hz]
          clear HS1 HS2 hz hAt
          go_wp2
          go_roundw
          case rel => exact ⟨k + 1, _, by omega, by go_num, rfl, HZ, hc0⟩
          case measure => simp [intOf]; omega
      · have hk' : ¬ (k : Int) < (G : Int) := by omega
        have HF : Hid (fitsB gs ls ts A T st p q V U = u) := by
          show _ = _
          rw [fitsB_eq, ← HU.out, List.take_of_length_le (by rw [RA.hg]; omega)]
        obtain ⟨rb, hrb⟩ : ∃ x, rowB gs ls ts A T st = x := ⟨_, rfl⟩
        have HR : Hid (rowB gs ls ts A T st = rb) := hrb
        clear hrb
        have e1 : (u == u) = true := by cases u <;> rfl
        have e2 : (rb == rb) = true := by cases rb <;> rfl
        clear HU
        have g3_0 := q3.cell 0
        have g3_1 := q3.cell 1
        have g3_2 := q3.cell 2
        have g3_3 := q3.cell 3
        simp only [List.getElem?_cons_zero, List.getElem?_cons_succ] at g3_0 g3_1 g3_2 g3_3
        go_upto_region 10 with fail
        clear g3_0 g3_1 g3_2 g3_3
        refine wp_region_ends (fun X => X.cell? ⟨X3, 0, none⟩ = some (.slice ga G gc) ∧ X.cell? ⟨X3, 1, none⟩ = some (.slice aa A ac) ∧ X.cell? ⟨X3, 2, none⟩ = some (.slice ta T tc) ∧ X.cell? ⟨X3, 3, none⟩ = some (.bool st)) (fun _ => True) 28 (by kernel_rfl) ?_
        have dr : Below wr.heap.size wr wr.drew := (Below.refl _ _).drew
        replace BB := BB.trans (dr.mono BB.size)
        replace hc0 := hc0.trans (dr.mono hc0.size)
        replace RA := RA.below dr
        replace hV := hV.below dr
        replace hU := hU.below dr
        replace q3 := q3.below dr
        clear dr
        obtain ⟨V4, hV4⟩ : ∃ V, V = wr.drew := ⟨_, rfl⟩
        rw [← hV4]
        rw [← hV4] at RA hV hU q3 BB hc0
        clear hV4
        have hSS : (V4.cell? ⟨X3, 0, none⟩ = some (.slice ga G gc) ∧ V4.cell? ⟨X3, 1, none⟩ = some (.slice aa A ac) ∧ V4.cell? ⟨X3, 2, none⟩ = some (.slice ta T tc) ∧ V4.cell? ⟨X3, 3, none⟩ = some (.bool st)) ∧ True := ⟨⟨q3.cell 0, q3.cell 1, q3.cell 2, q3.cell 3⟩, trivial⟩
        refine wpAnyE_take0 (i := 0) (v := ?k2xv0) rfl (by kernel_rfl) (by kernel_rfl) (by kernel_rfl) (by decide) (fun _ _ _ h => h) (Or.inl ⟨by rfl, ?k2xhy0⟩) hSS ?_
        case k2xhy0 => (intro wz hSw; (try dsimp only at hSw); go_simp; try (with_reducible rfl))
        refine wpAnyE_take0 (i := 1) (v := ?k2xv1) rfl (by kernel_rfl) (by kernel_rfl) (by kernel_rfl) (by decide) (fun _ _ _ h => h) (Or.inl ⟨by rfl, ?k2xhy1⟩) hSS ?_
        case k2xhy1 => (intro wz hSw; (try dsimp only at hSw); go_simp; try (with_reducible rfl))
        refine wpAnyE_take0 (i := 2) (v := ?k2xv2) rfl (by kernel_rfl) (by kernel_rfl) (by kernel_rfl) (by decide) (fun _ _ _ h => h) (Or.inl ⟨by rfl, ?k2xhy2⟩) hSS ?_
        case k2xhy2 => (intro wz hSw; (try dsimp only at hSw); go_simp; try (with_reducible rfl))
        refine wpAnyE_take0 (i := 4) (v := ?k2xv4) rfl (by kernel_rfl) (by kernel_rfl) (by kernel_rfl) (by decide) (fun _ _ _ h => h) (Or.inl ⟨by rfl, ?k2xhy4⟩) hSS ?_
        case k2xhy4 => (intro wz hSw; (try dsimp only at hSw); go_simp; try (with_reducible rfl))
        simp only [Act.put, List.setIfInBounds_toArray, List.set_cons_succ, List.set_cons_zero, List.getElem_toArray, List.getElem_cons_succ, List.getElem_cons_zero]
        refine wpAnyE_one (i := 3) (by kernel_rfl) rfl (fun K hK => ?_)
        go_simp
        refine (ifits_any _ _ _ gs _ _ _ ls _ _ _ ts st _ _ _ V _ _ _ U _ RA hV hU (by omega) (by omega)).mono ?_
        rintro ee w5 ⟨rfl, b8⟩
        rw [HF.out]
        replace BB := BB.trans (b8.mono BB.size)
        replace hc0 := hc0.trans (b8.mono hc0.size)
        replace RA := RA.below b8
        replace hV := hV.below b8
        replace hU := hU.below b8
        replace q3 := q3.below b8
        clear b8
        clear hSS
        have hSS : (w5.cell? ⟨X3, 0, none⟩ = some (.slice ga G gc) ∧ w5.cell? ⟨X3, 1, none⟩ = some (.slice aa A ac) ∧ w5.cell? ⟨X3, 2, none⟩ = some (.slice ta T tc) ∧ w5.cell? ⟨X3, 3, none⟩ = some (.bool st)) ∧ True := ⟨⟨q3.cell 0, q3.cell 1, q3.cell 2, q3.cell 3⟩, trivial⟩
        (try dsimp only)
        refine hK.out _ _ ⟨hSS.1, fun _ => trivial⟩ ?_
        clear hK K
        refine wpAnyE_take0 (i := 5) (v := ?k2xv5) rfl (by kernel_rfl) (by kernel_rfl) (by kernel_rfl) (by decide) (fun _ _ _ h => h) (Or.inl ⟨by rfl, ?k2xhy5⟩) hSS ?_
        case k2xhy5 => (intro wz hSw; (try dsimp only at hSw); go_simp; try (with_reducible rfl))
        refine wpAnyE_take0 (i := 6) (v := ?k2xv6) rfl (by kernel_rfl) (by kernel_rfl) (by kernel_rfl) (by decide) (fun _ _ _ h => h) (Or.inl ⟨by rfl, ?k2xhy6⟩) hSS ?_
        case k2xhy6 => (intro wz hSw; (try dsimp only at hSw); go_simp; try (with_reducible rfl))
        refine wpAnyE_take0 (i := 7) (v := ?k2xv7) rfl (by kernel_rfl) (by kernel_rfl) (by kernel_rfl) (by decide) (fun _ _ _ h => h) (Or.inl ⟨by rfl, ?k2xhy7⟩) hSS ?_
        case k2xhy7 => (intro wz hSw; (try dsimp only at hSw); go_simp; try (with_reducible rfl))
        refine wpAnyE_take0 (i := 8) (v := ?k2xv8) rfl (by kernel_rfl) (by kernel_rfl) (by kernel_rfl) (by decide) (fun _ _ _ h => h) (Or.inl ⟨by rfl, ?k2xhy8⟩) hSS ?_
        case k2xhy8 => (intro wz hSw; (try dsimp only at hSw); go_simp; try (with_reducible rfl))
        simp only [Act.put, List.setIfInBounds_toArray, List.set_cons_succ, List.set_cons_zero, List.getElem_toArray, List.getElem_cons_succ, List.getElem_cons_zero]
        refine wpAnyE_take0 (i := 9) (v := ?k2xv9) rfl (by kernel_rfl) (by kernel_rfl) (by kernel_rfl) (by decide) (fun _ _ _ h => h) (Or.inl ⟨by rfl, ?k2xhy9⟩) hSS ?_
        case k2xhy9 => (intro wz hSw; (try dsimp only at hSw); go_simp; try (with_reducible rfl))
        refine wpAnyE_take0 (i := 11) (v := ?k2xv11) rfl (by kernel_rfl) (by kernel_rfl) (by kernel_rfl) (by decide) (fun _ _ _ h => h) (Or.inl ⟨by rfl, ?k2xhy11⟩) hSS ?_
        case k2xhy11 => (intro wz hSw; (try dsimp only at hSw); go_simp; try (with_reducible rfl))
        refine wpAnyE_take0 (i := 12) (v := ?k2xv12) rfl (by kernel_rfl) (by kernel_rfl) (by kernel_rfl) (by decide) (fun _ _ _ h => h) (Or.inl ⟨by rfl, ?k2xhy12⟩) hSS ?_
        case k2xhy12 => (intro wz hSw; (try dsimp only at hSw); go_simp; try (with_reducible rfl))
        refine wpAnyE_take0 (i := 13) (v := ?k2xv13) rfl (by kernel_rfl) (by kernel_rfl) (by kernel_rfl) (by decide) (fun _ _ _ h => h) (Or.inl ⟨by rfl, ?k2xhy13⟩) hSS ?_
        case k2xhy13 => (intro wz hSw; (try dsimp only at hSw); go_simp; try (with_reducible rfl))
        simp only [Act.put, List.setIfInBounds_toArray, List.set_cons_succ, List.set_cons_zero, List.getElem_toArray, List.getElem_cons_succ, List.getElem_cons_zero]
        refine wpAnyE_one (i := 10) (by kernel_rfl) rfl (fun K hK => ?_)
        go_simp
        refine (ifits_any _ _ _ gs _ _ _ ls _ _ _ ts st _ _ _ V _ _ _ U _ RA hV hU (by omega) (by omega)).mono ?_
        rintro ee w6 ⟨rfl, b9⟩
        rw [HF.out]
        replace BB := BB.trans (b9.mono BB.size)
        replace hc0 := hc0.trans (b9.mono hc0.size)
        replace RA := RA.below b9
        replace hV := hV.below b9
        replace hU := hU.below b9
        replace q3 := q3.below b9
        clear b9
        clear hSS
        have hSS : (w6.cell? ⟨X3, 0, none⟩ = some (.slice ga G gc) ∧ w6.cell? ⟨X3, 1, none⟩ = some (.slice aa A ac) ∧ w6.cell? ⟨X3, 2, none⟩ = some (.slice ta T tc) ∧ w6.cell? ⟨X3, 3, none⟩ = some (.bool st)) ∧ True := ⟨⟨q3.cell 0, q3.cell 1, q3.cell 2, q3.cell 3⟩, trivial⟩
        (try dsimp only)
        refine hK.out _ _ ⟨hSS.1, fun _ => trivial⟩ ?_
        clear hK K
        refine wpAnyE_one (i := 14) (by kernel_rfl) rfl (fun K hK => ?_)
        go_simp
        refine (sfits_any _ _ _ gs _ _ _ ls _ _ _ ts st _ _ _ V _ _ _ U _ RA hV hU (by omega) (by omega)).mono ?_
        rintro ee w7 ⟨rfl, b10⟩
        rw [HF.out]
        replace BB := BB.trans (b10.mono BB.size)
        replace hc0 := hc0.trans (b10.mono hc0.size)
        replace RA := RA.below b10
        replace hV := hV.below b10
        replace hU := hU.below b10
        replace q3 := q3.below b10
        clear b10
        clear hSS
        have hSS : (w7.cell? ⟨X3, 0, none⟩ = some (.slice ga G gc) ∧ w7.cell? ⟨X3, 1, none⟩ = some (.slice aa A ac) ∧ w7.cell? ⟨X3, 2, none⟩ = some (.slice ta T tc) ∧ w7.cell? ⟨X3, 3, none⟩ = some (.bool st)) ∧ True := ⟨⟨q3.cell 0, q3.cell 1, q3.cell 2, q3.cell 3⟩, trivial⟩
        (try dsimp only)
        refine hK.out _ _ ⟨hSS.1, fun _ => trivial⟩ ?_
        clear hK K
        refine wpAnyE_take0 (i := 15) (v := ?k2xv15) rfl (by kernel_rfl) (by kernel_rfl) (by kernel_rfl) (by decide) (fun _ _ _ h => h) (Or.inl ⟨by rfl, ?k2xhy15⟩) hSS ?_
        case k2xhy15 => (intro wz hSw; (try dsimp only at hSw); go_simp; try (with_reducible rfl))
        refine wpAnyE_take0 (i := 16) (v := ?k2xv16) rfl (by kernel_rfl) (by kernel_rfl) (by kernel_rfl) (by decide) (fun _ _ _ h => h) (Or.inl ⟨by rfl, ?k2xhy16⟩) hSS ?_
        case k2xhy16 => (intro wz hSw; (try dsimp only at hSw); go_simp; try (with_reducible rfl))
        refine wpAnyE_take0 (i := 17) (v := ?k2xv17) rfl (by kernel_rfl) (by kernel_rfl) (by kernel_rfl) (by decide) (fun _ _ _ h => h) (Or.inl ⟨by rfl, ?k2xhy17⟩) hSS ?_
        case k2xhy17 => (intro wz hSw; (try dsimp only at hSw); go_simp; try (with_reducible rfl))
        refine wpAnyE_take0 (i := 18) (v := ?k2xv18) rfl (by kernel_rfl) (by kernel_rfl) (by kernel_rfl) (by decide) (fun _ _ _ h => h) (Or.inl ⟨by rfl, ?k2xhy18⟩) hSS ?_
        case k2xhy18 => (intro wz hSw; (try dsimp only at hSw); go_simp; try (with_reducible rfl))
        simp only [Act.put, List.setIfInBounds_toArray, List.set_cons_succ, List.set_cons_zero, List.getElem_toArray, List.getElem_cons_succ, List.getElem_cons_zero]
        refine wpAnyE_take0 (i := 20) (v := ?k2xv20) rfl (by kernel_rfl) (by kernel_rfl) (by kernel_rfl) (by decide) (fun _ _ _ h => h) (Or.inl ⟨by rfl, ?k2xhy20⟩) hSS ?_
        case k2xhy20 => (intro wz hSw; (try dsimp only at hSw); go_simp; try (with_reducible rfl))
        refine wpAnyE_one (i := 19) (by kernel_rfl) rfl (fun K hK => ?_)
        go_simp
        refine (irow_any _ _ _ gs _ _ _ ls _ _ _ ts st _ RA).mono ?_
        rintro ee w8 ⟨rfl, b11⟩
        rw [HR.out]
        replace BB := BB.trans (b11.mono BB.size)
        replace hc0 := hc0.trans (b11.mono hc0.size)
        replace RA := RA.below b11
        replace hV := hV.below b11
        replace hU := hU.below b11
        replace q3 := q3.below b11
        clear b11
        clear hSS
        have hSS : (w8.cell? ⟨X3, 0, none⟩ = some (.slice ga G gc) ∧ w8.cell? ⟨X3, 1, none⟩ = some (.slice aa A ac) ∧ w8.cell? ⟨X3, 2, none⟩ = some (.slice ta T tc) ∧ w8.cell? ⟨X3, 3, none⟩ = some (.bool st)) ∧ True := ⟨⟨q3.cell 0, q3.cell 1, q3.cell 2, q3.cell 3⟩, trivial⟩
        (try dsimp only)
        refine hK.out _ _ ⟨hSS.1, fun _ => trivial⟩ ?_
        clear hK K
        refine wpAnyE_one (i := 21) (by kernel_rfl) rfl (fun K hK => ?_)
        go_simp
        refine (srow_any _ _ _ gs _ _ _ ls _ _ _ ts st _ RA).mono ?_
        rintro ee w9 ⟨rfl, b12⟩
        rw [HR.out]
        replace BB := BB.trans (b12.mono BB.size)
        replace hc0 := hc0.trans (b12.mono hc0.size)
        replace RA := RA.below b12
        replace hV := hV.below b12
        replace hU := hU.below b12
        replace q3 := q3.below b12
        clear b12
        clear hSS
        have hSS : (w9.cell? ⟨X3, 0, none⟩ = some (.slice ga G gc) ∧ w9.cell? ⟨X3, 1, none⟩ = some (.slice aa A ac) ∧ w9.cell? ⟨X3, 2, none⟩ = some (.slice ta T tc) ∧ w9.cell? ⟨X3, 3, none⟩ = some (.bool st)) ∧ True := ⟨⟨q3.cell 0, q3.cell 1, q3.cell 2, q3.cell 3⟩, trivial⟩
        (try dsimp only)
        refine hK.out _ _ ⟨hSS.1, fun _ => trivial⟩ ?_
        clear hK K
        refine wpAnyE_take0 (i := 22) (v := ?k2xv22) rfl (by kernel_rfl) (by kernel_rfl) (by kernel_rfl) (by decide) (fun _ _ _ h => h) (Or.inl ⟨by rfl, ?k2xhy22⟩) hSS ?_
        case k2xhy22 => (intro wz hSw; (try dsimp only at hSw); go_simp; try (with_reducible rfl))
        refine wpAnyE_take0 (i := 23) (v := ?k2xv23) rfl (by kernel_rfl) (by kernel_rfl) (by kernel_rfl) (by decide) (fun _ _ _ h => h) (Or.inl ⟨by rfl, ?k2xhy23⟩) hSS ?_
        case k2xhy23 => (intro wz hSw; (try dsimp only at hSw); go_simp; try (with_reducible rfl))
        refine wpAnyE_take0 (i := 24) (v := ?k2xv24) rfl (by kernel_rfl) (by kernel_rfl) (by kernel_rfl) (by decide) (fun _ _ _ h => h) (Or.inl ⟨by rfl, ?k2xhy24⟩) hSS ?_
        case k2xhy24 => (intro wz hSw; (try dsimp only at hSw); go_simp; try (with_reducible rfl))
        refine wpAnyE_take0 (i := 25) (v := ?k2xv25) rfl (by kernel_rfl) (by kernel_rfl) (by kernel_rfl) (by decide) (fun _ _ _ h => h) (Or.inl ⟨by rfl, ?k2xhy25⟩) hSS ?_
        case k2xhy25 => (intro wz hSw; (try dsimp only at hSw); go_simp; try (with_reducible rfl))
        simp only [Act.put, List.setIfInBounds_toArray, List.set_cons_succ, List.set_cons_zero, List.getElem_toArray, List.getElem_cons_succ, List.getElem_cons_zero]
        refine wpAnyE_one (i := 26) (by kernel_rfl) rfl (fun K hK => ?_)
        go_simp
        refine (irow_any none 0 0 [] none 0 0 [] none 0 0 [] true _ (row_none _)).mono ?_
        rintro ee w10 ⟨rfl, b13⟩
        rw [show rowB [] [] [] 0 0 true = true from rfl]
        replace BB := BB.trans (b13.mono BB.size)
        replace hc0 := hc0.trans (b13.mono hc0.size)
        replace RA := RA.below b13
        replace hV := hV.below b13
        replace hU := hU.below b13
        replace q3 := q3.below b13
        clear b13
        clear hSS
        have hSS : (w10.cell? ⟨X3, 0, none⟩ = some (.slice ga G gc) ∧ w10.cell? ⟨X3, 1, none⟩ = some (.slice aa A ac) ∧ w10.cell? ⟨X3, 2, none⟩ = some (.slice ta T tc) ∧ w10.cell? ⟨X3, 3, none⟩ = some (.bool st)) ∧ True := ⟨⟨q3.cell 0, q3.cell 1, q3.cell 2, q3.cell 3⟩, trivial⟩
        (try dsimp only)
        refine hK.out _ _ ⟨hSS.1, fun _ => trivial⟩ ?_
        clear hK K
        refine wpAnyE_take0 (i := 27) (v := ?k2xv27) rfl (by kernel_rfl) (by kernel_rfl) (by kernel_rfl) (by decide) (fun _ _ _ h => h) (Or.inl ⟨by rfl, ?k2xhy27⟩) hSS ?_
        case k2xhy27 => (intro wz hSw; (try dsimp only at hSw); go_simp; try (with_reducible rfl))
        refine wpAnyE_one (i := 28) (by kernel_rfl) rfl (fun K hK => ?_)
        go_simp
        refine hK.out _ _ ⟨hSS.1, fun _ => trivial⟩ ?_
        clear hK K
        refine wpAnyE_done (by kernel_rfl) ?_ _
        clear hSS
        go_wp2
        go_ret
        exact ⟨rfl, BB⟩
  · go_enter Try.func3, Try.ntmps3
    go_wp2
    go_ret
    exact ⟨rfl, Below.refl _ _⟩

/-! ### The row's step -/
set_option maxRecDepth 100000 in
theorem lifted (os : Os) (started : os.Started) (H : Type) (enc : TypeId × Value → H) :
    ReturnsInHanded {} Try.checked os 3 .any (Rows.fnRowFitsSpec.pre6 enc Try.prog Try.f3 Rows.fnRowFitsRow.domain false) (Rows.fnRowFitsSpec.post enc Try.prog Try.f3 false true false false) := by
  refine returnsInHanded_of_change (C := Try.checked) own started (by kernel_rfl) Try.func3
    (ChangeSpec.witness6 (enc := enc) (C := Try.checked) false ⟨#[], #[.slice none 0 0], []⟩ 8 (by kernel_rfl) (by kernel_rfl) (by kernel_rfl) (by kernel_rfl)) ?_
  intro W base args ds gs before hval0 hW hcnd _
  have hval : ∀ (j : Nat) t v, Try.f3.params[j]? = some t → args[j]? = some v → Value.okWide Try.prog W .any base t v := hval0
  have hW' := hW
  obtain ⟨p, q, hA0, hV, rfl, hfz, hnd⟩ := hW
  have hA : DataW.TrodAll enc Try.prog W 0 (fun _ => true) true Try.f3.params.toList args.toList ds p := hA0
  rw [Try.params3] at hA hval
  obtain ⟨v0, vs0, d0, ds0, p0, q0, hargs, rfl, rfl, h0, r0⟩ := trodAll_cons hA
  obtain ⟨rfl, rfl, rfl⟩ := trodAll_nil r0
  obtain rfl : args = #[v0] := by cases args; simp_all
  obtain ⟨rfl, rfl⟩ := trodVars_none hV
  have k0 := h0
  have lt0 : ∀ x ∈ p0, x.block < W.heap.size := by obtain ⟨m, hm⟩ := k0; exact DataW.trod_lt m _ _ _ hm
  obtain ⟨a0, n0, cap0, C0, rfl, hC0, hn0⟩ := open_bytesT (hval 0 22 v0 rfl rfl) h0
  clear hA0 hval0
  refine (walk W a0 n0 cap0 C0 hC0 hn0).mono fun e W' ⟨he, bel⟩ => ?_
  subst he
  exact ⟨_, rfl, _, _, _, [], _, [], hW', trodAll_mk1 (shut_bool Try.underlying4 _), (trodAll_cons_mk (Below.trod laidOut (by kernel_rfl) (of_decide_eq_true (by kernel_rfl)) k0 bel lt0) trodAll_mk0), rfl, bel.frame _, fun h => by cases h⟩

theorem over : Rows.fnRowFitsRow.holds Try.pinned (OpenSpec.ofChange Rows.fnRowFitsSpec) :=
  OpenClaim.holds_of_wide 3 Try.f3 rfl rfl rfl rfl rfl rfl rfl ⟨rfl, rfl, rfl, rfl, rfl⟩ rfl rfl rfl rfl rfl (by kernel_rfl) Try.func3 (by kernel_rfl)
    (of_decide_eq_true (by kernel_rfl)) (by unfold Func.isWrapper; first | (rw [if_pos (by decide +kernel)]; kernel_rfl) | (rw [if_neg (by decide +kernel)]; exact ⟨rfl, rfl⟩))
    (fun os started H enc _ => lifted os started H enc)

end Go.Proofs.Ytemcinobgdphnaa.fnRowFits
namespace Go.Proofs.Ytemcinobgdphnaa
/-- The statement. -/
theorem fnRowFits_holds : Rows.FnRowFitsSaid := fnRowFits.over
#print axioms fnRowFits_holds
end Go.Proofs.Ytemcinobgdphnaa
