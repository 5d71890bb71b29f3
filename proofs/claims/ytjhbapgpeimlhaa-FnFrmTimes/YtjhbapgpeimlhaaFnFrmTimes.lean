/-
  For all bytes FnFrmTimes returns true, and what came in reads behind the call as it did. No condition. (so many times a form is so many times what it is)
-/
import Derived.Test.YtjhbapgpeimlhaaDrT
import Derived.Test.YtjhbapgpeimlhaaFvL
import Derived.Test.YtjhbapgpeimlhaaOpen
namespace Go.Proofs.Ytjhbapgpeimlhaa.fnFrmTimes
open Go.ChangeShapes Go.WideShapes Go.ChangeAt Go.RowKit
set_option linter.unusedVariables false
set_option maxRecDepth 100000

theorem open_bytesT {H : Type} {enc : TypeId × Value → H} {W : World} {r : Reach} {b0 : Nat} {v : Value} {d : DataW H} {p : List MemPlace}
    (hv : Value.okWide Try.prog W r b0 22 v) (h : DataW.Trod enc Try.prog W 0 (fun _ => true) true 22 v d p) : ∃ a n cap zs, v = .slice a n cap ∧ BInts W a n zs ∧ (n ≤ cap ∧ cap ≤ maxLen) := by
  obtain ⟨a0, len0, cap0, rfl⟩ := okWide_slice Try.underlying22 hv
  obtain ⟨fuel, hf⟩ := h
  rcases open_ints Try.underlying22 Try.underlying5 (by kernel_rfl) hf with ⟨hcs, _⟩ | ⟨x, l, c, zs, hcs, _, hl, hm, hz, _, hcell, hwz⟩
  · simp [Value.cells] at hcs
    obtain ⟨rfl, rfl, rfl⟩ := hcs
    exact ⟨none, 0, 0, [], rfl, ⟨rfl, fun i hi => by omega, fun i => by simp⟩, by omega, by unfold maxLen; omega⟩
  · simp [Value.cells] at hcs
    obtain ⟨rfl, rfl, rfl⟩ := hcs
    have hz' : zs.length = cap0 := by simpa using hz
    refine ⟨some x, len0, cap0, zs.take len0, rfl, ⟨by rw [List.length_take]; omega, fun i hi => ?_, fun i => ?_⟩, hl, hm⟩
    · obtain ⟨b, off, spot⟩ := x
      have hc0 := hcell 0 (by omega)
      have hspot : spot = none := by simpa [Addr.add] using World.cell?_spot hc0
      subst hspot
      refine ⟨b, off, rfl, ?_⟩
      have hc := hcell i (by omega)
      have : W.cell? ⟨b, off + i, none⟩ = some (.int .u8 (zs.getD i 0)) := by
        by_cases h0 : i = 0
        · subst h0; simpa [Addr.add] using hc
        · simpa [Addr.add, h0] using hc
      rw [this]
      simp [hi]
    · by_cases hi : i < (zs.take len0).length
      · rw [List.getElem?_eq_getElem hi]
        have := hwz _ (List.mem_of_mem_take (List.getElem_mem hi))
        simpa [Lit.wf, IntKind.min, IntKind.max, IntKind.signed, IntKind.bits] using this
      · rw [List.getElem?_eq_none (by omega)]
        simp

set_option maxHeartbeats 6400000 in
theorem walk (w : World) (a : Option Addr) (n cap : Nat) (A0 : List Int) (hA0 : BInts w a n A0) (hn : n ≤ cap ∧ cap ≤ maxLen) (c : Option Addr) (m cap' : Nat) (B0 : List Int) (hB0 : BInts w c m B0) (hm : m ≤ cap' ∧ cap' ≤ maxLen) :
    Calls Try.prog 4 #[.slice a n cap, .slice c m cap'] w fun e w' => e = .returned (.bool true) ∧ Below w.heap.size w w' := by
  obtain ⟨hn2, hn3⟩ := hn
  obtain ⟨hm2, hm3⟩ := hm
  by_cases hn1 : n ≤ 1048576
  · by_cases hm1 : m ≤ 1048576
    · go_enter Try.func4, Try.ntmps4
      go_wp2_with fail
      refine (dTimes _ _ _ A0 _ hA0 hn2 hn1 hn3).mono ?_
      rintro ee w1 ⟨a1, n1, c1, a2, n2, c2, f, k, rfl, b1, hf⟩
      have BB := b1
      replace hB0 := hB0.below b1
      clear b1
      have al := (Below.refl (w1).heap.size (w1)).alloc (Nat.le_refl _) (.cells #[.slice a1 n1 c1, .slice a2 n2 c2, .int .i64 f.2.2] 25)
      replace BB := BB.trans (al.mono BB.size)
      replace hB0 := hB0.below al
      replace hf := hf.below al
      clear al
      have q5 := Cel.new (w1) [.slice a1 n1 c1, .slice a2 n2 c2, .int .i64 f.2.2] 25
      have g5_0 := q5.cell 0
      have g5_1 := q5.cell 1
      have g5_2 := q5.cell 2
      simp only [List.getElem?_cons_zero, List.getElem?_cons_succ] at g5_0 g5_1 g5_2
      go_wp2_with fail
      obtain ⟨W2, hW2⟩ : ∃ W, W = (w1).alloc (.cells #[.slice a1 n1 c1, .slice a2 n2 c2, .int .i64 f.2.2] 25) := ⟨_, rfl⟩
      rw [← hW2]
      rw [← hW2] at hB0 hf q5 BB g5_0 g5_1 g5_2
      clear hW2
      obtain ⟨X5, hX5⟩ : ∃ x, x = w1.heap.size := ⟨_, rfl⟩
      rw [← hX5]
      rw [← hX5] at q5 g5_0 g5_1 g5_2
      clear hX5
      refine (dAt _ _ _ B0 _ hB0 hm2 hm1 hm3).mono ?_
      rintro ee w3 ⟨a5, n5, c5, a6, n6, c6, f0, va, p, cv, V, ua, q, cu, A, rfl, b2, _, hV, hA, hp, hq⟩
      clear g5_0 g5_1 g5_2
      replace BB := BB.trans (b2.mono BB.size)
      replace hB0 := hB0.below b2
      replace hf := hf.below b2
      replace q5 := q5.below b2
      clear b2
      clear hB0
      have al := (Below.refl (w3).heap.size (w3)).alloc (Nat.le_refl _) (.cells #[.slice a5 n5 c5, .slice a6 n6 c6, .int .i64 f0.2.2] 25)
      replace BB := BB.trans (al.mono BB.size)
      replace hf := hf.below al
      replace hV := hV.below al
      replace hA := hA.below al
      replace q5 := q5.below al
      clear al
      have q7 := Cel.new (w3) [.slice a5 n5 c5, .slice a6 n6 c6, .int .i64 f0.2.2] 25
      have g5_0 := q5.cell 0
      have g5_1 := q5.cell 1
      have g5_2 := q5.cell 2
      have g7_0 := q7.cell 0
      have g7_1 := q7.cell 1
      have g7_2 := q7.cell 2
      simp only [List.getElem?_cons_zero, List.getElem?_cons_succ] at g5_0 g5_1 g5_2 g7_0 g7_1 g7_2
      go_wp2_with fail
      obtain ⟨W4, hW4⟩ : ∃ W, W = (w3).alloc (.cells #[.slice a5 n5 c5, .slice a6 n6 c6, .int .i64 f0.2.2] 25) := ⟨_, rfl⟩
      rw [← hW4]
      rw [← hW4] at hf hV hA q5 q7 BB g5_0 g5_1 g5_2 g7_0 g7_1 g7_2
      clear hW4
      obtain ⟨X7, hX7⟩ : ∃ x, x = w3.heap.size := ⟨_, rfl⟩
      rw [← hX7]
      rw [← hX7] at q7 g7_0 g7_1 g7_2
      clear hX7
      refine (pTim f k _ _ _ _ _ _ _ hf).mono ?_
      rintro ee w5 ⟨a7, n7, c7, a8, n8, c8, rfl, hx, b3⟩
      clear g5_0 g5_1 g5_2 g7_0 g7_1 g7_2
      replace BB := BB.trans (b3.mono BB.size)
      replace hf := hf.below b3
      replace hV := hV.below b3
      replace hA := hA.below b3
      replace q5 := q5.below b3
      replace q7 := q7.below b3
      clear b3
      clear q7
      have al := (Below.refl (w5).heap.size (w5)).alloc (Nat.le_refl _) (.cells #[.slice a7 n7 c7, .slice a8 n8 c8, .int .i64 (timP f k).2.2] 25)
      replace BB := BB.trans (al.mono BB.size)
      replace hf := hf.below al
      replace hV := hV.below al
      replace hA := hA.below al
      replace hx := hx.below al
      replace q5 := q5.below al
      clear al
      have q10 := Cel.new (w5) [.slice a7 n7 c7, .slice a8 n8 c8, .int .i64 (timP f k).2.2] 25
      have eo : (okP f != okP f) = false := by simp
      go_upto_region 6 with fail
      obtain ⟨W6, hW6⟩ : ∃ W, W = (w5).alloc (.cells #[.slice a7 n7 c7, .slice a8 n8 c8, .int .i64 (timP f k).2.2] 25) := ⟨_, rfl⟩
      rw [← hW6]
      rw [← hW6] at hf hV hA hx q5 q10 BB
      clear hW6
      obtain ⟨X10, hX10⟩ : ∃ x, x = w5.heap.size := ⟨_, rfl⟩
      rw [← hX10]
      rw [← hX10] at q10
      clear hX10
      refine wp_region_ends (fun X => X.cell? ⟨X5, 0, none⟩ = some (.slice a1 n1 c1) ∧ X.cell? ⟨X5, 1, none⟩ = some (.slice a2 n2 c2) ∧ X.cell? ⟨X5, 2, none⟩ = some (.int .i64 f.2.2) ∧ X.cell? ⟨X10, 0, none⟩ = some (.slice a7 n7 c7) ∧ X.cell? ⟨X10, 1, none⟩ = some (.slice a8 n8 c8) ∧ X.cell? ⟨X10, 2, none⟩ = some (.int .i64 (timP f k).2.2)) (fun _ => True) 12 (by kernel_rfl) ?_
      have dr : Below W6.heap.size W6 W6.drew := (Below.refl _ _).drew
      replace BB := BB.trans (dr.mono BB.size)
      replace hf := hf.below dr
      replace hV := hV.below dr
      replace hA := hA.below dr
      replace hx := hx.below dr
      replace q5 := q5.below dr
      replace q10 := q10.below dr
      clear dr
      obtain ⟨V7, hV7⟩ : ∃ V, V = W6.drew := ⟨_, rfl⟩
      rw [← hV7]
      rw [← hV7] at hf hV hA hx q5 q10 BB
      clear hV7
      have hSS : (V7.cell? ⟨X5, 0, none⟩ = some (.slice a1 n1 c1) ∧ V7.cell? ⟨X5, 1, none⟩ = some (.slice a2 n2 c2) ∧ V7.cell? ⟨X5, 2, none⟩ = some (.int .i64 f.2.2) ∧ V7.cell? ⟨X10, 0, none⟩ = some (.slice a7 n7 c7) ∧ V7.cell? ⟨X10, 1, none⟩ = some (.slice a8 n8 c8) ∧ V7.cell? ⟨X10, 2, none⟩ = some (.int .i64 (timP f k).2.2)) ∧ True := ⟨⟨q5.cell 0, q5.cell 1, q5.cell 2, q10.cell 0, q10.cell 1, q10.cell 2⟩, trivial⟩
      refine wpAnyE_take0 (i := 0) (v := ?k1xv0) rfl (by kernel_rfl) (by kernel_rfl) (by kernel_rfl) (by decide) (fun _ _ _ h => h) (Or.inl ⟨by rfl, ?k1xhy0⟩) hSS ?_
      case k1xhy0 => (intro wz hSw; (try dsimp only at hSw); go_simp; try (with_reducible rfl))
      refine wpAnyE_take0 (i := 1) (v := ?k1xv1) rfl (by kernel_rfl) (by kernel_rfl) (by kernel_rfl) (by decide) (fun _ _ _ h => h) (Or.inl ⟨by rfl, ?k1xhy1⟩) hSS ?_
      case k1xhy1 => (intro wz hSw; (try dsimp only at hSw); go_simp; try (with_reducible rfl))
      refine wpAnyE_take0 (i := 2) (v := ?k1xv2) rfl (by kernel_rfl) (by kernel_rfl) (by kernel_rfl) (by decide) (fun _ _ _ h => h) (Or.inl ⟨by rfl, ?k1xhy2⟩) hSS ?_
      case k1xhy2 => (intro wz hSw; (try dsimp only at hSw); go_simp; try (with_reducible rfl))
      refine wpAnyE_one (i := 3) (by kernel_rfl) rfl (fun K hK => ?_)
      go_simp
      refine (qTim f k _ _ _ _ _ _ _ hf).mono ?_
      rintro ee w8 ⟨a9, n9, c9, ax, nx, cx, rfl, hy, b4⟩
      replace BB := BB.trans (b4.mono BB.size)
      replace hf := hf.below b4
      replace hV := hV.below b4
      replace hA := hA.below b4
      replace hx := hx.below b4
      replace q5 := q5.below b4
      replace q10 := q10.below b4
      clear b4
      clear hSS
      have hSS : (w8.cell? ⟨X5, 0, none⟩ = some (.slice a1 n1 c1) ∧ w8.cell? ⟨X5, 1, none⟩ = some (.slice a2 n2 c2) ∧ w8.cell? ⟨X5, 2, none⟩ = some (.int .i64 f.2.2) ∧ w8.cell? ⟨X10, 0, none⟩ = some (.slice a7 n7 c7) ∧ w8.cell? ⟨X10, 1, none⟩ = some (.slice a8 n8 c8) ∧ w8.cell? ⟨X10, 2, none⟩ = some (.int .i64 (timP f k).2.2)) ∧ True := ⟨⟨q5.cell 0, q5.cell 1, q5.cell 2, q10.cell 0, q10.cell 1, q10.cell 2⟩, trivial⟩
      (try dsimp only)
      refine hK.out _ _ ⟨hSS.1, fun _ => trivial⟩ ?_
      clear hK K
      refine wpAnyE_one (i := 4) (by kernel_rfl) rfl (fun K hK => ?_)
      go_simp
      refine (coF_any (timP f k) (timP f k) _ _ _ _ _ _ _ _ _ _ _ _ _ hx hy).mono ?_
      rintro ee w9 ⟨rfl, b5⟩
      rw [coP_same]
      replace BB := BB.trans (b5.mono BB.size)
      replace hf := hf.below b5
      replace hV := hV.below b5
      replace hA := hA.below b5
      replace hx := hx.below b5
      replace hy := hy.below b5
      replace q5 := q5.below b5
      replace q10 := q10.below b5
      clear b5
      clear hSS
      have hSS : (w9.cell? ⟨X5, 0, none⟩ = some (.slice a1 n1 c1) ∧ w9.cell? ⟨X5, 1, none⟩ = some (.slice a2 n2 c2) ∧ w9.cell? ⟨X5, 2, none⟩ = some (.int .i64 f.2.2) ∧ w9.cell? ⟨X10, 0, none⟩ = some (.slice a7 n7 c7) ∧ w9.cell? ⟨X10, 1, none⟩ = some (.slice a8 n8 c8) ∧ w9.cell? ⟨X10, 2, none⟩ = some (.int .i64 (timP f k).2.2)) ∧ True := ⟨⟨q5.cell 0, q5.cell 1, q5.cell 2, q10.cell 0, q10.cell 1, q10.cell 2⟩, trivial⟩
      (try dsimp only)
      refine hK.out _ _ ⟨hSS.1, fun _ => trivial⟩ ?_
      clear hK K
      refine wpAnyE_take0 (i := 5) (v := ?k1xv5) rfl (by kernel_rfl) (by kernel_rfl) (by kernel_rfl) (by decide) (fun _ _ _ h => h) (Or.inl ⟨by rfl, ?k1xhy5⟩) hSS ?_
      case k1xhy5 => (intro wz hSw; (try dsimp only at hSw); go_simp; try (with_reducible rfl))
      refine wpAnyE_take0 (i := 6) (v := ?k1xv6) rfl (by kernel_rfl) (by kernel_rfl) (by kernel_rfl) (by decide) (fun _ _ _ h => h) (Or.inl ⟨by rfl, ?k1xhy6⟩) hSS ?_
      case k1xhy6 => (intro wz hSw; (try dsimp only at hSw); go_simp; try (with_reducible rfl))
      refine wpAnyE_take0 (i := 7) (v := ?k1xv7) rfl (by kernel_rfl) (by kernel_rfl) (by kernel_rfl) (by decide) (fun _ _ _ h => h) (Or.inl ⟨by rfl, ?k1xhy7⟩) hSS ?_
      case k1xhy7 => (intro wz hSw; (try dsimp only at hSw); go_simp; try (with_reducible rfl))
      refine wpAnyE_take0 (i := 9) (v := ?k1xv9) rfl (by kernel_rfl) (by kernel_rfl) (by kernel_rfl) (by decide) (fun _ _ _ h => h) (Or.inl ⟨by rfl, ?k1xhy9⟩) hSS ?_
      case k1xhy9 => (intro wz hSw; (try dsimp only at hSw); go_simp; try (with_reducible rfl))
      simp only [Act.put, List.setIfInBounds_toArray, List.set_cons_succ, List.set_cons_zero, List.getElem_toArray, List.getElem_cons_succ, List.getElem_cons_zero]
      refine wpAnyE_one (i := 8) (by kernel_rfl) rfl (fun K hK => ?_)
      go_simp
      refine (pOk f _ _ _ _ _ _ _ hf).mono ?_
      rintro ee w10 ⟨rfl, b6⟩
      replace BB := BB.trans (b6.mono BB.size)
      replace hf := hf.below b6
      replace hV := hV.below b6
      replace hA := hA.below b6
      replace hx := hx.below b6
      replace hy := hy.below b6
      replace q5 := q5.below b6
      replace q10 := q10.below b6
      clear b6
      clear hSS
      have hSS : (w10.cell? ⟨X5, 0, none⟩ = some (.slice a1 n1 c1) ∧ w10.cell? ⟨X5, 1, none⟩ = some (.slice a2 n2 c2) ∧ w10.cell? ⟨X5, 2, none⟩ = some (.int .i64 f.2.2) ∧ w10.cell? ⟨X10, 0, none⟩ = some (.slice a7 n7 c7) ∧ w10.cell? ⟨X10, 1, none⟩ = some (.slice a8 n8 c8) ∧ w10.cell? ⟨X10, 2, none⟩ = some (.int .i64 (timP f k).2.2)) ∧ True := ⟨⟨q5.cell 0, q5.cell 1, q5.cell 2, q10.cell 0, q10.cell 1, q10.cell 2⟩, trivial⟩
      (try dsimp only)
      refine hK.out _ _ ⟨hSS.1, fun _ => trivial⟩ ?_
      clear hK K
      refine wpAnyE_one (i := 10) (by kernel_rfl) rfl (fun K hK => ?_)
      go_simp
      refine (qOk f _ _ _ _ _ _ _ hf).mono ?_
      rintro ee w11 ⟨rfl, b7⟩
      replace BB := BB.trans (b7.mono BB.size)
      replace hf := hf.below b7
      replace hV := hV.below b7
      replace hA := hA.below b7
      replace hx := hx.below b7
      replace hy := hy.below b7
      replace q5 := q5.below b7
      replace q10 := q10.below b7
      clear b7
      clear hSS
      have hSS : (w11.cell? ⟨X5, 0, none⟩ = some (.slice a1 n1 c1) ∧ w11.cell? ⟨X5, 1, none⟩ = some (.slice a2 n2 c2) ∧ w11.cell? ⟨X5, 2, none⟩ = some (.int .i64 f.2.2) ∧ w11.cell? ⟨X10, 0, none⟩ = some (.slice a7 n7 c7) ∧ w11.cell? ⟨X10, 1, none⟩ = some (.slice a8 n8 c8) ∧ w11.cell? ⟨X10, 2, none⟩ = some (.int .i64 (timP f k).2.2)) ∧ True := ⟨⟨q5.cell 0, q5.cell 1, q5.cell 2, q10.cell 0, q10.cell 1, q10.cell 2⟩, trivial⟩
      (try dsimp only)
      refine hK.out _ _ ⟨hSS.1, fun _ => trivial⟩ ?_
      clear hK K
      refine wpAnyE_take0 (i := 11) (v := ?k1xv11) rfl (by kernel_rfl) (by kernel_rfl) (by kernel_rfl) (by decide) (fun _ _ _ h => h) (Or.inl ⟨by rfl, ?k1xhy11⟩) hSS ?_
      case k1xhy11 => (intro wz hSw; (try dsimp only at hSw); go_simp; try (with_reducible rfl))
      refine wpAnyE_one (i := 12) (by kernel_rfl) rfl (fun K hK => ?_)
      go_simp
      refine hK.out _ _ ⟨hSS.1, fun _ => trivial⟩ ?_
      clear hK K
      refine wpAnyE_done (by kernel_rfl) ?_ _
      clear hSS
      have g5_0 := q5.cell 0
      have g5_1 := q5.cell 1
      have g5_2 := q5.cell 2
      have g10_0 := q10.cell 0
      have g10_1 := q10.cell 1
      have g10_2 := q10.cell 2
      simp only [List.getElem?_cons_zero, List.getElem?_cons_succ] at g5_0 g5_1 g5_2 g10_0 g10_1 g10_2
      go_wp2_with fail
      refine (pOk f _ _ _ _ _ _ _ hf).mono ?_
      rintro ee w12 ⟨rfl, b8⟩
      clear g5_0 g5_1 g5_2 g10_0 g10_1 g10_2
      replace BB := BB.trans (b8.mono BB.size)
      replace hf := hf.below b8
      replace hV := hV.below b8
      replace hA := hA.below b8
      replace hx := hx.below b8
      replace hy := hy.below b8
      replace q5 := q5.below b8
      replace q10 := q10.below b8
      clear b8
      cases h0 : okP f
      · have hz : n7 = 0 := by have h := hx.C.1; rw [timP_no (timB_not h0)] at h; exact h.symm
        subst hz
        have g5_0 := q5.cell 0
        have g5_1 := q5.cell 1
        have g5_2 := q5.cell 2
        have g10_0 := q10.cell 0
        have g10_1 := q10.cell 1
        have g10_2 := q10.cell 2
        simp only [List.getElem?_cons_zero, List.getElem?_cons_succ] at g5_0 g5_1 g5_2 g10_0 g10_1 g10_2
        go_wp2_with fail
        refine (coHolds_any _).mono ?_
        rintro ee w13 ⟨rfl, bh⟩
        clear g5_0 g5_1 g5_2 g10_0 g10_1 g10_2
        replace BB := BB.trans (bh.mono BB.size)
        replace hf := hf.below bh
        replace hV := hV.below bh
        replace hA := hA.below bh
        replace hx := hx.below bh
        replace hy := hy.below bh
        replace q5 := q5.below bh
        replace q10 := q10.below bh
        clear bh
        go_wp2
        go_ret
        exact ⟨rfl, BB⟩
      · have g5_0 := q5.cell 0
        have g5_1 := q5.cell 1
        have g5_2 := q5.cell 2
        have g10_0 := q10.cell 0
        have g10_1 := q10.cell 1
        have g10_2 := q10.cell 2
        simp only [List.getElem?_cons_zero, List.getElem?_cons_succ] at g5_0 g5_1 g5_2 g10_0 g10_1 g10_2
        go_wp2_with fail
        refine (pAt (timP f k) V A _ _ _ _ _ _ _ _ _ _ _ _ _ hx hV hA (by omega) (by omega)).mono ?_
        rintro ee w13 ⟨rfl, b9⟩
        clear g5_0 g5_1 g5_2 g10_0 g10_1 g10_2
        replace BB := BB.trans (b9.mono BB.size)
        replace hf := hf.below b9
        replace hV := hV.below b9
        replace hA := hA.below b9
        replace hx := hx.below b9
        replace hy := hy.below b9
        replace q5 := q5.below b9
        replace q10 := q10.below b9
        clear b9
        have g5_0 := q5.cell 0
        have g5_1 := q5.cell 1
        have g5_2 := q5.cell 2
        have g10_0 := q10.cell 0
        have g10_1 := q10.cell 1
        have g10_2 := q10.cell 2
        simp only [List.getElem?_cons_zero, List.getElem?_cons_succ] at g5_0 g5_1 g5_2 g10_0 g10_1 g10_2
        go_wp2_with fail
        refine (pAt f V A _ _ _ _ _ _ _ _ _ _ _ _ _ hf hV hA (by omega) (by omega)).mono ?_
        rintro ee w14 ⟨rfl, b9⟩
        clear g5_0 g5_1 g5_2 g10_0 g10_1 g10_2
        replace BB := BB.trans (b9.mono BB.size)
        replace hf := hf.below b9
        replace hV := hV.below b9
        replace hA := hA.below b9
        replace hx := hx.below b9
        replace hy := hy.below b9
        replace q5 := q5.below b9
        replace q10 := q10.below b9
        clear b9
        have g5_0 := q5.cell 0
        have g5_1 := q5.cell 1
        have g5_2 := q5.cell 2
        have g10_0 := q10.cell 0
        have g10_1 := q10.cell 1
        have g10_2 := q10.cell 2
        simp only [List.getElem?_cons_zero, List.getElem?_cons_succ] at g5_0 g5_1 g5_2 g10_0 g10_1 g10_2
        go_wp2_with fail
        refine (pTim f (-1) _ _ _ _ _ _ _ hf).mono ?_
        rintro ee w15 ⟨aa, na, ca, ab, nb, cb, rfl, y1, b9⟩
        clear g5_0 g5_1 g5_2 g10_0 g10_1 g10_2
        replace BB := BB.trans (b9.mono BB.size)
        replace hf := hf.below b9
        replace hV := hV.below b9
        replace hA := hA.below b9
        replace hx := hx.below b9
        replace hy := hy.below b9
        replace q5 := q5.below b9
        replace q10 := q10.below b9
        clear b9
        have g5_0 := q5.cell 0
        have g5_1 := q5.cell 1
        have g5_2 := q5.cell 2
        have g10_0 := q10.cell 0
        have g10_1 := q10.cell 1
        have g10_2 := q10.cell 2
        simp only [List.getElem?_cons_zero, List.getElem?_cons_succ] at g5_0 g5_1 g5_2 g10_0 g10_1 g10_2
        go_wp2_with fail
        refine (pTim (timP f (-1)) (-1) _ _ _ _ _ _ _ y1).mono ?_
        rintro ee w16 ⟨ac, nc, cc, ad, nd, cd, rfl, y2, b9⟩
        clear g5_0 g5_1 g5_2 g10_0 g10_1 g10_2
        replace BB := BB.trans (b9.mono BB.size)
        replace hf := hf.below b9
        replace hV := hV.below b9
        replace hA := hA.below b9
        replace hx := hx.below b9
        replace hy := hy.below b9
        replace y1 := y1.below b9
        replace q5 := q5.below b9
        replace q10 := q10.below b9
        clear b9
        have al := (Below.refl (w16).heap.size (w16)).alloc (Nat.le_refl _) (.cells #[.slice ac nc cc, .slice ad nd cd, .int .i64 (timP (timP f (-1)) (-1)).2.2] 25)
        replace BB := BB.trans (al.mono BB.size)
        replace hf := hf.below al
        replace hV := hV.below al
        replace hA := hA.below al
        replace hx := hx.below al
        replace hy := hy.below al
        replace y1 := y1.below al
        replace y2 := y2.below al
        replace q5 := q5.below al
        replace q10 := q10.below al
        clear al
        have q15 := Cel.new (w16) [.slice ac nc cc, .slice ad nd cd, .int .i64 (timP (timP f (-1)) (-1)).2.2] 25
        go_upto_region 13 with fail
        obtain ⟨W17, hW17⟩ : ∃ W, W = (w16).alloc (.cells #[.slice ac nc cc, .slice ad nd cd, .int .i64 (timP (timP f (-1)) (-1)).2.2] 25) := ⟨_, rfl⟩
        rw [← hW17]
        rw [← hW17] at hf hV hA hx hy y1 y2 q5 q10 q15 BB
        clear hW17
        obtain ⟨X15, hX15⟩ : ∃ x, x = w16.heap.size := ⟨_, rfl⟩
        rw [← hX15]
        rw [← hX15] at q15
        clear hX15
        cases h1 : atB (timP f k) V A
        · refine wp_region_ends (fun X => X.cell? ⟨X5, 0, none⟩ = some (.slice a1 n1 c1) ∧ X.cell? ⟨X5, 1, none⟩ = some (.slice a2 n2 c2) ∧ X.cell? ⟨X5, 2, none⟩ = some (.int .i64 f.2.2) ∧ X.cell? ⟨X10, 0, none⟩ = some (.slice a7 n7 c7) ∧ X.cell? ⟨X10, 1, none⟩ = some (.slice a8 n8 c8) ∧ X.cell? ⟨X10, 2, none⟩ = some (.int .i64 (timP f k).2.2) ∧ X.cell? ⟨X15, 0, none⟩ = some (.slice ac nc cc) ∧ X.cell? ⟨X15, 1, none⟩ = some (.slice ad nd cd) ∧ X.cell? ⟨X15, 2, none⟩ = some (.int .i64 (timP (timP f (-1)) (-1)).2.2)) (fun _ => True) 37 (by kernel_rfl) ?_
          have dr : Below W17.heap.size W17 W17.drew := (Below.refl _ _).drew
          replace BB := BB.trans (dr.mono BB.size)
          replace hf := hf.below dr
          replace hV := hV.below dr
          replace hA := hA.below dr
          replace hx := hx.below dr
          replace hy := hy.below dr
          replace y1 := y1.below dr
          replace y2 := y2.below dr
          replace q5 := q5.below dr
          replace q10 := q10.below dr
          replace q15 := q15.below dr
          clear dr
          obtain ⟨V18, hV18⟩ : ∃ V, V = W17.drew := ⟨_, rfl⟩
          rw [← hV18]
          rw [← hV18] at hf hV hA hx hy y1 y2 q5 q10 q15 BB
          clear hV18
          have hSS : (V18.cell? ⟨X5, 0, none⟩ = some (.slice a1 n1 c1) ∧ V18.cell? ⟨X5, 1, none⟩ = some (.slice a2 n2 c2) ∧ V18.cell? ⟨X5, 2, none⟩ = some (.int .i64 f.2.2) ∧ V18.cell? ⟨X10, 0, none⟩ = some (.slice a7 n7 c7) ∧ V18.cell? ⟨X10, 1, none⟩ = some (.slice a8 n8 c8) ∧ V18.cell? ⟨X10, 2, none⟩ = some (.int .i64 (timP f k).2.2) ∧ V18.cell? ⟨X15, 0, none⟩ = some (.slice ac nc cc) ∧ V18.cell? ⟨X15, 1, none⟩ = some (.slice ad nd cd) ∧ V18.cell? ⟨X15, 2, none⟩ = some (.int .i64 (timP (timP f (-1)) (-1)).2.2)) ∧ True := ⟨⟨q5.cell 0, q5.cell 1, q5.cell 2, q10.cell 0, q10.cell 1, q10.cell 2, q15.cell 0, q15.cell 1, q15.cell 2⟩, trivial⟩
          refine wpAnyE_take0 (i := 0) (v := ?k2xv0) rfl (by kernel_rfl) (by kernel_rfl) (by kernel_rfl) (by decide) (fun _ _ _ h => h) (Or.inl ⟨by rfl, ?k2xhy0⟩) hSS ?_
          case k2xhy0 => (intro wz hSw; (try dsimp only at hSw); go_simp; try (with_reducible rfl))
          refine wpAnyE_take0 (i := 1) (v := ?k2xv1) rfl (by kernel_rfl) (by kernel_rfl) (by kernel_rfl) (by decide) (fun _ _ _ h => h) (Or.inl ⟨by rfl, ?k2xhy1⟩) hSS ?_
          case k2xhy1 => (intro wz hSw; (try dsimp only at hSw); go_simp; try (with_reducible rfl))
          refine wpAnyE_take0 (i := 2) (v := ?k2xv2) rfl (by kernel_rfl) (by kernel_rfl) (by kernel_rfl) (by decide) (fun _ _ _ h => h) (Or.inl ⟨by rfl, ?k2xhy2⟩) hSS ?_
          case k2xhy2 => (intro wz hSw; (try dsimp only at hSw); go_simp; try (with_reducible rfl))
          refine wpAnyE_take0 (i := 3) (v := undef) rfl (by kernel_rfl) (by kernel_rfl) (by kernel_rfl) (by decide) (fun _ _ _ h => h) (Or.inr ⟨by kernel_rfl, rfl⟩) hSS ?_
          simp only [Act.put, List.setIfInBounds_toArray, List.set_cons_succ, List.set_cons_zero, List.getElem_toArray, List.getElem_cons_succ, List.getElem_cons_zero]
          refine wpAnyE_take0 (i := 4) (v := undef) rfl (by kernel_rfl) (by kernel_rfl) (by kernel_rfl) (by decide) (fun _ _ _ h => h) (Or.inr ⟨by kernel_rfl, rfl⟩) hSS ?_
          refine wpAnyE_take0 (i := 5) (v := undef) rfl (by kernel_rfl) (by kernel_rfl) (by kernel_rfl) (by decide) (fun _ _ _ h => h) (Or.inr ⟨by kernel_rfl, rfl⟩) hSS ?_
          refine wpAnyE_take0 (i := 6) (v := undef) rfl (by kernel_rfl) (by kernel_rfl) (by kernel_rfl) (by decide) (fun _ _ _ h => h) (Or.inr ⟨by kernel_rfl, rfl⟩) hSS ?_
          refine wpAnyE_take0 (i := 7) (v := undef) rfl (by kernel_rfl) (by kernel_rfl) (by kernel_rfl) (by decide) (fun _ _ _ h => h) (Or.inr ⟨by kernel_rfl, rfl⟩) hSS ?_
          simp only [Act.put, List.setIfInBounds_toArray, List.set_cons_succ, List.set_cons_zero, List.getElem_toArray, List.getElem_cons_succ, List.getElem_cons_zero]
          refine wpAnyE_take0 (i := 8) (v := undef) rfl (by kernel_rfl) (by kernel_rfl) (by kernel_rfl) (by decide) (fun _ _ _ h => h) (Or.inr ⟨by kernel_rfl, rfl⟩) hSS ?_
          refine wpAnyE_take0 (i := 9) (v := undef) rfl (by kernel_rfl) (by kernel_rfl) (by kernel_rfl) (by decide) (fun _ _ _ h => h) (Or.inr ⟨by kernel_rfl, rfl⟩) hSS ?_
          refine wpAnyE_take0 (i := 10) (v := undef) rfl (by kernel_rfl) (by kernel_rfl) (by kernel_rfl) (by decide) (fun _ _ _ h => h) (Or.inr ⟨by kernel_rfl, rfl⟩) hSS ?_
          refine wpAnyE_take0 (i := 11) (v := ?k2xv11) rfl (by kernel_rfl) (by kernel_rfl) (by kernel_rfl) (by decide) (fun _ _ _ h => h) (Or.inl ⟨by rfl, ?k2xhy11⟩) hSS ?_
          case k2xhy11 => (intro wz hSw; (try dsimp only at hSw); go_simp; try (with_reducible rfl))
          simp only [Act.put, List.setIfInBounds_toArray, List.set_cons_succ, List.set_cons_zero, List.getElem_toArray, List.getElem_cons_succ, List.getElem_cons_zero]
          refine wpAnyE_take0 (i := 12) (v := ?k2xv12) rfl (by kernel_rfl) (by kernel_rfl) (by kernel_rfl) (by decide) (fun _ _ _ h => h) (Or.inl ⟨by rfl, ?k2xhy12⟩) hSS ?_
          case k2xhy12 => (intro wz hSw; (try dsimp only at hSw); go_simp; try (with_reducible rfl))
          refine wpAnyE_take0 (i := 13) (v := ?k2xv13) rfl (by kernel_rfl) (by kernel_rfl) (by kernel_rfl) (by decide) (fun _ _ _ h => h) (Or.inl ⟨by rfl, ?k2xhy13⟩) hSS ?_
          case k2xhy13 => (intro wz hSw; (try dsimp only at hSw); go_simp; try (with_reducible rfl))
          refine wpAnyE_take0 (i := 15) (v := ?k2xv15) rfl (by kernel_rfl) (by kernel_rfl) (by kernel_rfl) (by decide) (fun _ _ _ h => h) (Or.inl ⟨by rfl, ?k2xhy15⟩) hSS ?_
          case k2xhy15 => (intro wz hSw; (try dsimp only at hSw); go_simp; try (with_reducible rfl))
          refine wpAnyE_one (i := 14) (by kernel_rfl) rfl (fun K hK => ?_)
          go_simp
          refine (pTim f 1 _ _ _ _ _ _ _ hf).mono ?_
          rintro ee w19 ⟨ae, ne, ce, af, nf, cf, rfl, y3, b9⟩
          replace BB := BB.trans (b9.mono BB.size)
          replace hf := hf.below b9
          replace hV := hV.below b9
          replace hA := hA.below b9
          replace hx := hx.below b9
          replace hy := hy.below b9
          replace y1 := y1.below b9
          replace y2 := y2.below b9
          replace q5 := q5.below b9
          replace q10 := q10.below b9
          replace q15 := q15.below b9
          clear b9
          clear hSS
          have hSS : (w19.cell? ⟨X5, 0, none⟩ = some (.slice a1 n1 c1) ∧ w19.cell? ⟨X5, 1, none⟩ = some (.slice a2 n2 c2) ∧ w19.cell? ⟨X5, 2, none⟩ = some (.int .i64 f.2.2) ∧ w19.cell? ⟨X10, 0, none⟩ = some (.slice a7 n7 c7) ∧ w19.cell? ⟨X10, 1, none⟩ = some (.slice a8 n8 c8) ∧ w19.cell? ⟨X10, 2, none⟩ = some (.int .i64 (timP f k).2.2) ∧ w19.cell? ⟨X15, 0, none⟩ = some (.slice ac nc cc) ∧ w19.cell? ⟨X15, 1, none⟩ = some (.slice ad nd cd) ∧ w19.cell? ⟨X15, 2, none⟩ = some (.int .i64 (timP (timP f (-1)) (-1)).2.2)) ∧ True := ⟨⟨q5.cell 0, q5.cell 1, q5.cell 2, q10.cell 0, q10.cell 1, q10.cell 2, q15.cell 0, q15.cell 1, q15.cell 2⟩, trivial⟩
          (try dsimp only)
          refine hK.out _ _ ⟨hSS.1, fun _ => trivial⟩ ?_
          clear hK K
          refine wpAnyE_one (i := 16) (by kernel_rfl) rfl (fun K hK => ?_)
          go_simp
          refine (coF_any (timP f 1) f _ _ _ _ _ _ _ _ _ _ _ _ _ y3 hf).mono ?_
          rintro ee w20 ⟨rfl, b9⟩
          rw [coP_of (tim_one h0)]
          replace BB := BB.trans (b9.mono BB.size)
          replace hf := hf.below b9
          replace hV := hV.below b9
          replace hA := hA.below b9
          replace hx := hx.below b9
          replace hy := hy.below b9
          replace y1 := y1.below b9
          replace y2 := y2.below b9
          replace y3 := y3.below b9
          replace q5 := q5.below b9
          replace q10 := q10.below b9
          replace q15 := q15.below b9
          clear b9
          clear hSS
          have hSS : (w20.cell? ⟨X5, 0, none⟩ = some (.slice a1 n1 c1) ∧ w20.cell? ⟨X5, 1, none⟩ = some (.slice a2 n2 c2) ∧ w20.cell? ⟨X5, 2, none⟩ = some (.int .i64 f.2.2) ∧ w20.cell? ⟨X10, 0, none⟩ = some (.slice a7 n7 c7) ∧ w20.cell? ⟨X10, 1, none⟩ = some (.slice a8 n8 c8) ∧ w20.cell? ⟨X10, 2, none⟩ = some (.int .i64 (timP f k).2.2) ∧ w20.cell? ⟨X15, 0, none⟩ = some (.slice ac nc cc) ∧ w20.cell? ⟨X15, 1, none⟩ = some (.slice ad nd cd) ∧ w20.cell? ⟨X15, 2, none⟩ = some (.int .i64 (timP (timP f (-1)) (-1)).2.2)) ∧ True := ⟨⟨q5.cell 0, q5.cell 1, q5.cell 2, q10.cell 0, q10.cell 1, q10.cell 2, q15.cell 0, q15.cell 1, q15.cell 2⟩, trivial⟩
          (try dsimp only)
          refine hK.out _ _ ⟨hSS.1, fun _ => trivial⟩ ?_
          clear hK K
          refine wpAnyE_take0 (i := 17) (v := ?k2xv17) rfl (by kernel_rfl) (by kernel_rfl) (by kernel_rfl) (by decide) (fun _ _ _ h => h) (Or.inl ⟨by rfl, ?k2xhy17⟩) hSS ?_
          case k2xhy17 => (intro wz hSw; (try dsimp only at hSw); go_simp; try (with_reducible rfl))
          refine wpAnyE_take0 (i := 18) (v := ?k2xv18) rfl (by kernel_rfl) (by kernel_rfl) (by kernel_rfl) (by decide) (fun _ _ _ h => h) (Or.inl ⟨by rfl, ?k2xhy18⟩) hSS ?_
          case k2xhy18 => (intro wz hSw; (try dsimp only at hSw); go_simp; try (with_reducible rfl))
          refine wpAnyE_take0 (i := 19) (v := ?k2xv19) rfl (by kernel_rfl) (by kernel_rfl) (by kernel_rfl) (by decide) (fun _ _ _ h => h) (Or.inl ⟨by rfl, ?k2xhy19⟩) hSS ?_
          case k2xhy19 => (intro wz hSw; (try dsimp only at hSw); go_simp; try (with_reducible rfl))
          refine wpAnyE_one (i := 20) (by kernel_rfl) rfl (fun K hK => ?_)
          go_simp
          refine (pTim f 0 _ _ _ _ _ _ _ hf).mono ?_
          rintro ee w21 ⟨ag, ng, cg, ah, nh, ch, rfl, y4, b9⟩
          replace BB := BB.trans (b9.mono BB.size)
          replace hf := hf.below b9
          replace hV := hV.below b9
          replace hA := hA.below b9
          replace hx := hx.below b9
          replace hy := hy.below b9
          replace y1 := y1.below b9
          replace y2 := y2.below b9
          replace y3 := y3.below b9
          replace q5 := q5.below b9
          replace q10 := q10.below b9
          replace q15 := q15.below b9
          clear b9
          clear hSS
          have hSS : (w21.cell? ⟨X5, 0, none⟩ = some (.slice a1 n1 c1) ∧ w21.cell? ⟨X5, 1, none⟩ = some (.slice a2 n2 c2) ∧ w21.cell? ⟨X5, 2, none⟩ = some (.int .i64 f.2.2) ∧ w21.cell? ⟨X10, 0, none⟩ = some (.slice a7 n7 c7) ∧ w21.cell? ⟨X10, 1, none⟩ = some (.slice a8 n8 c8) ∧ w21.cell? ⟨X10, 2, none⟩ = some (.int .i64 (timP f k).2.2) ∧ w21.cell? ⟨X15, 0, none⟩ = some (.slice ac nc cc) ∧ w21.cell? ⟨X15, 1, none⟩ = some (.slice ad nd cd) ∧ w21.cell? ⟨X15, 2, none⟩ = some (.int .i64 (timP (timP f (-1)) (-1)).2.2)) ∧ True := ⟨⟨q5.cell 0, q5.cell 1, q5.cell 2, q10.cell 0, q10.cell 1, q10.cell 2, q15.cell 0, q15.cell 1, q15.cell 2⟩, trivial⟩
          (try dsimp only)
          refine hK.out _ _ ⟨hSS.1, fun _ => trivial⟩ ?_
          clear hK K
          refine wpAnyE_one (i := 21) (by kernel_rfl) rfl (fun K hK => ?_)
          go_simp
          refine (pZero _).mono ?_
          rintro ee w22 ⟨ai, ni, ci, aj, nj, cj, rfl, y5, b9⟩
          replace BB := BB.trans (b9.mono BB.size)
          replace hf := hf.below b9
          replace hV := hV.below b9
          replace hA := hA.below b9
          replace hx := hx.below b9
          replace hy := hy.below b9
          replace y1 := y1.below b9
          replace y2 := y2.below b9
          replace y3 := y3.below b9
          replace y4 := y4.below b9
          replace q5 := q5.below b9
          replace q10 := q10.below b9
          replace q15 := q15.below b9
          clear b9
          clear hSS
          have hSS : (w22.cell? ⟨X5, 0, none⟩ = some (.slice a1 n1 c1) ∧ w22.cell? ⟨X5, 1, none⟩ = some (.slice a2 n2 c2) ∧ w22.cell? ⟨X5, 2, none⟩ = some (.int .i64 f.2.2) ∧ w22.cell? ⟨X10, 0, none⟩ = some (.slice a7 n7 c7) ∧ w22.cell? ⟨X10, 1, none⟩ = some (.slice a8 n8 c8) ∧ w22.cell? ⟨X10, 2, none⟩ = some (.int .i64 (timP f k).2.2) ∧ w22.cell? ⟨X15, 0, none⟩ = some (.slice ac nc cc) ∧ w22.cell? ⟨X15, 1, none⟩ = some (.slice ad nd cd) ∧ w22.cell? ⟨X15, 2, none⟩ = some (.int .i64 (timP (timP f (-1)) (-1)).2.2)) ∧ True := ⟨⟨q5.cell 0, q5.cell 1, q5.cell 2, q10.cell 0, q10.cell 1, q10.cell 2, q15.cell 0, q15.cell 1, q15.cell 2⟩, trivial⟩
          (try dsimp only)
          refine hK.out _ _ ⟨hSS.1, fun _ => trivial⟩ ?_
          clear hK K
          refine wpAnyE_one (i := 22) (by kernel_rfl) rfl (fun K hK => ?_)
          go_simp
          refine (coF_any (timP f 0) zeroP _ _ _ _ _ _ _ _ _ _ _ _ _ y4 y5).mono ?_
          rintro ee w23 ⟨rfl, b9⟩
          rw [coP_of (tim_nil h0)]
          replace BB := BB.trans (b9.mono BB.size)
          replace hf := hf.below b9
          replace hV := hV.below b9
          replace hA := hA.below b9
          replace hx := hx.below b9
          replace hy := hy.below b9
          replace y1 := y1.below b9
          replace y2 := y2.below b9
          replace y3 := y3.below b9
          replace y4 := y4.below b9
          replace y5 := y5.below b9
          replace q5 := q5.below b9
          replace q10 := q10.below b9
          replace q15 := q15.below b9
          clear b9
          clear hSS
          have hSS : (w23.cell? ⟨X5, 0, none⟩ = some (.slice a1 n1 c1) ∧ w23.cell? ⟨X5, 1, none⟩ = some (.slice a2 n2 c2) ∧ w23.cell? ⟨X5, 2, none⟩ = some (.int .i64 f.2.2) ∧ w23.cell? ⟨X10, 0, none⟩ = some (.slice a7 n7 c7) ∧ w23.cell? ⟨X10, 1, none⟩ = some (.slice a8 n8 c8) ∧ w23.cell? ⟨X10, 2, none⟩ = some (.int .i64 (timP f k).2.2) ∧ w23.cell? ⟨X15, 0, none⟩ = some (.slice ac nc cc) ∧ w23.cell? ⟨X15, 1, none⟩ = some (.slice ad nd cd) ∧ w23.cell? ⟨X15, 2, none⟩ = some (.int .i64 (timP (timP f (-1)) (-1)).2.2)) ∧ True := ⟨⟨q5.cell 0, q5.cell 1, q5.cell 2, q10.cell 0, q10.cell 1, q10.cell 2, q15.cell 0, q15.cell 1, q15.cell 2⟩, trivial⟩
          (try dsimp only)
          refine hK.out _ _ ⟨hSS.1, fun _ => trivial⟩ ?_
          clear hK K
          refine wpAnyE_take0 (i := 23) (v := ?k2xv23) rfl (by kernel_rfl) (by kernel_rfl) (by kernel_rfl) (by decide) (fun _ _ _ h => h) (Or.inl ⟨by rfl, ?k2xhy23⟩) hSS ?_
          case k2xhy23 => (intro wz hSw; (try dsimp only at hSw); go_simp; try (with_reducible rfl))
          refine wpAnyE_take0 (i := 24) (v := ?k2xv24) rfl (by kernel_rfl) (by kernel_rfl) (by kernel_rfl) (by decide) (fun _ _ _ h => h) (Or.inl ⟨by rfl, ?k2xhy24⟩) hSS ?_
          case k2xhy24 => (intro wz hSw; (try dsimp only at hSw); go_simp; try (with_reducible rfl))
          refine wpAnyE_take0 (i := 25) (v := ?k2xv25) rfl (by kernel_rfl) (by kernel_rfl) (by kernel_rfl) (by decide) (fun _ _ _ h => h) (Or.inl ⟨by rfl, ?k2xhy25⟩) hSS ?_
          case k2xhy25 => (intro wz hSw; (try dsimp only at hSw); go_simp; try (with_reducible rfl))
          refine wpAnyE_take0 (i := 26) (v := ?k2xv26) rfl (by kernel_rfl) (by kernel_rfl) (by kernel_rfl) (by decide) (fun _ _ _ h => h) (Or.inl ⟨by rfl, ?k2xhy26⟩) hSS ?_
          case k2xhy26 => (intro wz hSw; (try dsimp only at hSw); go_simp; try (with_reducible rfl))
          simp only [Act.put, List.setIfInBounds_toArray, List.set_cons_succ, List.set_cons_zero, List.getElem_toArray, List.getElem_cons_succ, List.getElem_cons_zero]
          refine wpAnyE_one (i := 27) (by kernel_rfl) rfl (fun K hK => ?_)
          go_simp
          refine (coF_any (timP (timP f (-1)) (-1)) f _ _ _ _ _ _ _ _ _ _ _ _ _ y2 hf).mono ?_
          rintro ee w24 ⟨rfl, b9⟩
          rw [coP_of (tim_back h0)]
          replace BB := BB.trans (b9.mono BB.size)
          replace hf := hf.below b9
          replace hV := hV.below b9
          replace hA := hA.below b9
          replace hx := hx.below b9
          replace hy := hy.below b9
          replace y1 := y1.below b9
          replace y2 := y2.below b9
          replace y3 := y3.below b9
          replace y4 := y4.below b9
          replace y5 := y5.below b9
          replace q5 := q5.below b9
          replace q10 := q10.below b9
          replace q15 := q15.below b9
          clear b9
          clear hSS
          have hSS : (w24.cell? ⟨X5, 0, none⟩ = some (.slice a1 n1 c1) ∧ w24.cell? ⟨X5, 1, none⟩ = some (.slice a2 n2 c2) ∧ w24.cell? ⟨X5, 2, none⟩ = some (.int .i64 f.2.2) ∧ w24.cell? ⟨X10, 0, none⟩ = some (.slice a7 n7 c7) ∧ w24.cell? ⟨X10, 1, none⟩ = some (.slice a8 n8 c8) ∧ w24.cell? ⟨X10, 2, none⟩ = some (.int .i64 (timP f k).2.2) ∧ w24.cell? ⟨X15, 0, none⟩ = some (.slice ac nc cc) ∧ w24.cell? ⟨X15, 1, none⟩ = some (.slice ad nd cd) ∧ w24.cell? ⟨X15, 2, none⟩ = some (.int .i64 (timP (timP f (-1)) (-1)).2.2)) ∧ True := ⟨⟨q5.cell 0, q5.cell 1, q5.cell 2, q10.cell 0, q10.cell 1, q10.cell 2, q15.cell 0, q15.cell 1, q15.cell 2⟩, trivial⟩
          (try dsimp only)
          refine hK.out _ _ ⟨hSS.1, fun _ => trivial⟩ ?_
          clear hK K
          refine wpAnyE_take0 (i := 28) (v := ?k2xv28) rfl (by kernel_rfl) (by kernel_rfl) (by kernel_rfl) (by decide) (fun _ _ _ h => h) (Or.inl ⟨by rfl, ?k2xhy28⟩) hSS ?_
          case k2xhy28 => (intro wz hSw; (try dsimp only at hSw); go_simp; try (with_reducible rfl))
          refine wpAnyE_take0 (i := 29) (v := ?k2xv29) rfl (by kernel_rfl) (by kernel_rfl) (by kernel_rfl) (by decide) (fun _ _ _ h => h) (Or.inl ⟨by rfl, ?k2xhy29⟩) hSS ?_
          case k2xhy29 => (intro wz hSw; (try dsimp only at hSw); go_simp; try (with_reducible rfl))
          refine wpAnyE_take0 (i := 30) (v := ?k2xv30) rfl (by kernel_rfl) (by kernel_rfl) (by kernel_rfl) (by decide) (fun _ _ _ h => h) (Or.inl ⟨by rfl, ?k2xhy30⟩) hSS ?_
          case k2xhy30 => (intro wz hSw; (try dsimp only at hSw); go_simp; try (with_reducible rfl))
          refine wpAnyE_take0 (i := 31) (v := ?k2xv31) rfl (by kernel_rfl) (by kernel_rfl) (by kernel_rfl) (by decide) (fun _ _ _ h => h) (Or.inl ⟨by rfl, ?k2xhy31⟩) hSS ?_
          case k2xhy31 => (intro wz hSw; (try dsimp only at hSw); go_simp; try (with_reducible rfl))
          simp only [Act.put, List.setIfInBounds_toArray, List.set_cons_succ, List.set_cons_zero, List.getElem_toArray, List.getElem_cons_succ, List.getElem_cons_zero]
          refine wpAnyE_one (i := 32) (by kernel_rfl) rfl (fun K hK => ?_)
          go_simp
          refine (pTim f (-1) _ _ _ _ _ _ _ hf).mono ?_
          rintro ee w25 ⟨ak, nk, ck, al, nl, cl, rfl, y6, b9⟩
          replace BB := BB.trans (b9.mono BB.size)
          replace hf := hf.below b9
          replace hV := hV.below b9
          replace hA := hA.below b9
          replace hx := hx.below b9
          replace hy := hy.below b9
          replace y1 := y1.below b9
          replace y2 := y2.below b9
          replace y3 := y3.below b9
          replace y4 := y4.below b9
          replace y5 := y5.below b9
          replace q5 := q5.below b9
          replace q10 := q10.below b9
          replace q15 := q15.below b9
          clear b9
          clear hSS
          have hSS : (w25.cell? ⟨X5, 0, none⟩ = some (.slice a1 n1 c1) ∧ w25.cell? ⟨X5, 1, none⟩ = some (.slice a2 n2 c2) ∧ w25.cell? ⟨X5, 2, none⟩ = some (.int .i64 f.2.2) ∧ w25.cell? ⟨X10, 0, none⟩ = some (.slice a7 n7 c7) ∧ w25.cell? ⟨X10, 1, none⟩ = some (.slice a8 n8 c8) ∧ w25.cell? ⟨X10, 2, none⟩ = some (.int .i64 (timP f k).2.2) ∧ w25.cell? ⟨X15, 0, none⟩ = some (.slice ac nc cc) ∧ w25.cell? ⟨X15, 1, none⟩ = some (.slice ad nd cd) ∧ w25.cell? ⟨X15, 2, none⟩ = some (.int .i64 (timP (timP f (-1)) (-1)).2.2)) ∧ True := ⟨⟨q5.cell 0, q5.cell 1, q5.cell 2, q10.cell 0, q10.cell 1, q10.cell 2, q15.cell 0, q15.cell 1, q15.cell 2⟩, trivial⟩
          (try dsimp only)
          refine hK.out _ _ ⟨hSS.1, fun _ => trivial⟩ ?_
          clear hK K
          refine wpAnyE_one (i := 33) (by kernel_rfl) rfl (fun K hK => ?_)
          go_simp
          refine (pAdd f (timP f (-1)) _ _ _ _ _ _ _ _ _ _ _ _ _ hf y6).mono ?_
          rintro ee w26 ⟨am, nm, cm, an, nn, cn, rfl, y7, b9⟩
          replace BB := BB.trans (b9.mono BB.size)
          replace hf := hf.below b9
          replace hV := hV.below b9
          replace hA := hA.below b9
          replace hx := hx.below b9
          replace hy := hy.below b9
          replace y1 := y1.below b9
          replace y2 := y2.below b9
          replace y3 := y3.below b9
          replace y4 := y4.below b9
          replace y5 := y5.below b9
          replace y6 := y6.below b9
          replace q5 := q5.below b9
          replace q10 := q10.below b9
          replace q15 := q15.below b9
          clear b9
          clear hSS
          have hSS : (w26.cell? ⟨X5, 0, none⟩ = some (.slice a1 n1 c1) ∧ w26.cell? ⟨X5, 1, none⟩ = some (.slice a2 n2 c2) ∧ w26.cell? ⟨X5, 2, none⟩ = some (.int .i64 f.2.2) ∧ w26.cell? ⟨X10, 0, none⟩ = some (.slice a7 n7 c7) ∧ w26.cell? ⟨X10, 1, none⟩ = some (.slice a8 n8 c8) ∧ w26.cell? ⟨X10, 2, none⟩ = some (.int .i64 (timP f k).2.2) ∧ w26.cell? ⟨X15, 0, none⟩ = some (.slice ac nc cc) ∧ w26.cell? ⟨X15, 1, none⟩ = some (.slice ad nd cd) ∧ w26.cell? ⟨X15, 2, none⟩ = some (.int .i64 (timP (timP f (-1)) (-1)).2.2)) ∧ True := ⟨⟨q5.cell 0, q5.cell 1, q5.cell 2, q10.cell 0, q10.cell 1, q10.cell 2, q15.cell 0, q15.cell 1, q15.cell 2⟩, trivial⟩
          (try dsimp only)
          refine hK.out _ _ ⟨hSS.1, fun _ => trivial⟩ ?_
          clear hK K
          refine wpAnyE_one (i := 34) (by kernel_rfl) rfl (fun K hK => ?_)
          go_simp
          refine (pZero _).mono ?_
          rintro ee w27 ⟨ao, no, co, ap, np, cp, rfl, y8, b9⟩
          replace BB := BB.trans (b9.mono BB.size)
          replace hf := hf.below b9
          replace hV := hV.below b9
          replace hA := hA.below b9
          replace hx := hx.below b9
          replace hy := hy.below b9
          replace y1 := y1.below b9
          replace y2 := y2.below b9
          replace y3 := y3.below b9
          replace y4 := y4.below b9
          replace y5 := y5.below b9
          replace y6 := y6.below b9
          replace y7 := y7.below b9
          replace q5 := q5.below b9
          replace q10 := q10.below b9
          replace q15 := q15.below b9
          clear b9
          clear hSS
          have hSS : (w27.cell? ⟨X5, 0, none⟩ = some (.slice a1 n1 c1) ∧ w27.cell? ⟨X5, 1, none⟩ = some (.slice a2 n2 c2) ∧ w27.cell? ⟨X5, 2, none⟩ = some (.int .i64 f.2.2) ∧ w27.cell? ⟨X10, 0, none⟩ = some (.slice a7 n7 c7) ∧ w27.cell? ⟨X10, 1, none⟩ = some (.slice a8 n8 c8) ∧ w27.cell? ⟨X10, 2, none⟩ = some (.int .i64 (timP f k).2.2) ∧ w27.cell? ⟨X15, 0, none⟩ = some (.slice ac nc cc) ∧ w27.cell? ⟨X15, 1, none⟩ = some (.slice ad nd cd) ∧ w27.cell? ⟨X15, 2, none⟩ = some (.int .i64 (timP (timP f (-1)) (-1)).2.2)) ∧ True := ⟨⟨q5.cell 0, q5.cell 1, q5.cell 2, q10.cell 0, q10.cell 1, q10.cell 2, q15.cell 0, q15.cell 1, q15.cell 2⟩, trivial⟩
          (try dsimp only)
          refine hK.out _ _ ⟨hSS.1, fun _ => trivial⟩ ?_
          clear hK K
          refine wpAnyE_one (i := 35) (by kernel_rfl) rfl (fun K hK => ?_)
          go_simp
          refine (coF_any (addP f (timP f (-1))) zeroP _ _ _ _ _ _ _ _ _ _ _ _ _ y7 y8).mono ?_
          rintro ee w28 ⟨rfl, b9⟩
          rw [coP_of (add_neg h0)]
          replace BB := BB.trans (b9.mono BB.size)
          replace hf := hf.below b9
          replace hV := hV.below b9
          replace hA := hA.below b9
          replace hx := hx.below b9
          replace hy := hy.below b9
          replace y1 := y1.below b9
          replace y2 := y2.below b9
          replace y3 := y3.below b9
          replace y4 := y4.below b9
          replace y5 := y5.below b9
          replace y6 := y6.below b9
          replace y7 := y7.below b9
          replace y8 := y8.below b9
          replace q5 := q5.below b9
          replace q10 := q10.below b9
          replace q15 := q15.below b9
          clear b9
          clear hSS
          have hSS : (w28.cell? ⟨X5, 0, none⟩ = some (.slice a1 n1 c1) ∧ w28.cell? ⟨X5, 1, none⟩ = some (.slice a2 n2 c2) ∧ w28.cell? ⟨X5, 2, none⟩ = some (.int .i64 f.2.2) ∧ w28.cell? ⟨X10, 0, none⟩ = some (.slice a7 n7 c7) ∧ w28.cell? ⟨X10, 1, none⟩ = some (.slice a8 n8 c8) ∧ w28.cell? ⟨X10, 2, none⟩ = some (.int .i64 (timP f k).2.2) ∧ w28.cell? ⟨X15, 0, none⟩ = some (.slice ac nc cc) ∧ w28.cell? ⟨X15, 1, none⟩ = some (.slice ad nd cd) ∧ w28.cell? ⟨X15, 2, none⟩ = some (.int .i64 (timP (timP f (-1)) (-1)).2.2)) ∧ True := ⟨⟨q5.cell 0, q5.cell 1, q5.cell 2, q10.cell 0, q10.cell 1, q10.cell 2, q15.cell 0, q15.cell 1, q15.cell 2⟩, trivial⟩
          (try dsimp only)
          refine hK.out _ _ ⟨hSS.1, fun _ => trivial⟩ ?_
          clear hK K
          refine wpAnyE_take0 (i := 36) (v := ?k2xv36) rfl (by kernel_rfl) (by kernel_rfl) (by kernel_rfl) (by decide) (fun _ _ _ h => h) (Or.inl ⟨by rfl, ?k2xhy36⟩) hSS ?_
          case k2xhy36 => (intro wz hSw; (try dsimp only at hSw); go_simp; try (with_reducible rfl))
          refine wpAnyE_one (i := 37) (by kernel_rfl) rfl (fun K hK => ?_)
          go_simp
          refine hK.out _ _ ⟨hSS.1, fun _ => trivial⟩ ?_
          clear hK K
          refine wpAnyE_done (by kernel_rfl) ?_ _
          clear hSS
          go_wp2
          go_ret
          exact ⟨rfl, BB⟩
        · obtain ⟨t1, t2⟩ := tim_at h1
          rw [t1]
          have bd := at_bnd (f := timP f k) (V := V) (A := A)
          have hwr : IntKind.i64.wrap (k * atP f V A) = k * atP f V A := wrap_id (by rw [← t2]; omega) (by rw [← t2]; omega)
          have e3 : (atP (timP f k) V A == k * atP f V A) = true := by rw [t2]; simp
          clear t2 bd
          refine wp_region_ends (fun X => X.cell? ⟨X5, 0, none⟩ = some (.slice a1 n1 c1) ∧ X.cell? ⟨X5, 1, none⟩ = some (.slice a2 n2 c2) ∧ X.cell? ⟨X5, 2, none⟩ = some (.int .i64 f.2.2) ∧ X.cell? ⟨X10, 0, none⟩ = some (.slice a7 n7 c7) ∧ X.cell? ⟨X10, 1, none⟩ = some (.slice a8 n8 c8) ∧ X.cell? ⟨X10, 2, none⟩ = some (.int .i64 (timP f k).2.2) ∧ X.cell? ⟨X15, 0, none⟩ = some (.slice ac nc cc) ∧ X.cell? ⟨X15, 1, none⟩ = some (.slice ad nd cd) ∧ X.cell? ⟨X15, 2, none⟩ = some (.int .i64 (timP (timP f (-1)) (-1)).2.2)) (fun _ => True) 37 (by kernel_rfl) ?_
          have dr : Below W17.heap.size W17 W17.drew := (Below.refl _ _).drew
          replace BB := BB.trans (dr.mono BB.size)
          replace hf := hf.below dr
          replace hV := hV.below dr
          replace hA := hA.below dr
          replace hx := hx.below dr
          replace hy := hy.below dr
          replace y1 := y1.below dr
          replace y2 := y2.below dr
          replace q5 := q5.below dr
          replace q10 := q10.below dr
          replace q15 := q15.below dr
          clear dr
          obtain ⟨V18, hV18⟩ : ∃ V, V = W17.drew := ⟨_, rfl⟩
          rw [← hV18]
          rw [← hV18] at hf hV hA hx hy y1 y2 q5 q10 q15 BB
          clear hV18
          have hSS : (V18.cell? ⟨X5, 0, none⟩ = some (.slice a1 n1 c1) ∧ V18.cell? ⟨X5, 1, none⟩ = some (.slice a2 n2 c2) ∧ V18.cell? ⟨X5, 2, none⟩ = some (.int .i64 f.2.2) ∧ V18.cell? ⟨X10, 0, none⟩ = some (.slice a7 n7 c7) ∧ V18.cell? ⟨X10, 1, none⟩ = some (.slice a8 n8 c8) ∧ V18.cell? ⟨X10, 2, none⟩ = some (.int .i64 (timP f k).2.2) ∧ V18.cell? ⟨X15, 0, none⟩ = some (.slice ac nc cc) ∧ V18.cell? ⟨X15, 1, none⟩ = some (.slice ad nd cd) ∧ V18.cell? ⟨X15, 2, none⟩ = some (.int .i64 (timP (timP f (-1)) (-1)).2.2)) ∧ True := ⟨⟨q5.cell 0, q5.cell 1, q5.cell 2, q10.cell 0, q10.cell 1, q10.cell 2, q15.cell 0, q15.cell 1, q15.cell 2⟩, trivial⟩
          refine wpAnyE_take0 (i := 0) (v := ?k3xv0) rfl (by kernel_rfl) (by kernel_rfl) (by kernel_rfl) (by decide) (fun _ _ _ h => h) (Or.inl ⟨by rfl, ?k3xhy0⟩) hSS ?_
          case k3xhy0 => (intro wz hSw; (try dsimp only at hSw); go_simp; try (with_reducible rfl))
          refine wpAnyE_take0 (i := 1) (v := ?k3xv1) rfl (by kernel_rfl) (by kernel_rfl) (by kernel_rfl) (by decide) (fun _ _ _ h => h) (Or.inl ⟨by rfl, ?k3xhy1⟩) hSS ?_
          case k3xhy1 => (intro wz hSw; (try dsimp only at hSw); go_simp; try (with_reducible rfl))
          refine wpAnyE_take0 (i := 2) (v := ?k3xv2) rfl (by kernel_rfl) (by kernel_rfl) (by kernel_rfl) (by decide) (fun _ _ _ h => h) (Or.inl ⟨by rfl, ?k3xhy2⟩) hSS ?_
          case k3xhy2 => (intro wz hSw; (try dsimp only at hSw); go_simp; try (with_reducible rfl))
          refine wpAnyE_take0 (i := 3) (v := ?k3xv3) rfl (by kernel_rfl) (by kernel_rfl) (by kernel_rfl) (by decide) (fun _ _ _ h => h) (Or.inl ⟨by rfl, ?k3xhy3⟩) hSS ?_
          case k3xhy3 => (intro wz hSw; (try dsimp only at hSw); go_simp; try (with_reducible rfl))
          simp only [Act.put, List.setIfInBounds_toArray, List.set_cons_succ, List.set_cons_zero, List.getElem_toArray, List.getElem_cons_succ, List.getElem_cons_zero]
          refine wpAnyE_take0 (i := 4) (v := ?k3xv4) rfl (by kernel_rfl) (by kernel_rfl) (by kernel_rfl) (by decide) (fun _ _ _ h => h) (Or.inl ⟨by rfl, ?k3xhy4⟩) hSS ?_
          case k3xhy4 => (intro wz hSw; (try dsimp only at hSw); go_simp; try (with_reducible rfl))
          refine wpAnyE_take0 (i := 5) (v := ?k3xv5) rfl (by kernel_rfl) (by kernel_rfl) (by kernel_rfl) (by decide) (fun _ _ _ h => h) (Or.inl ⟨by rfl, ?k3xhy5⟩) hSS ?_
          case k3xhy5 => (intro wz hSw; (try dsimp only at hSw); go_simp; try (with_reducible rfl))
          refine wpAnyE_take0 (i := 6) (v := ?k3xv6) rfl (by kernel_rfl) (by kernel_rfl) (by kernel_rfl) (by decide) (fun _ _ _ h => h) (Or.inl ⟨by rfl, ?k3xhy6⟩) hSS ?_
          case k3xhy6 => (intro wz hSw; (try dsimp only at hSw); go_simp; try (with_reducible rfl))
          refine wpAnyE_take0 (i := 7) (v := ?k3xv7) rfl (by kernel_rfl) (by kernel_rfl) (by kernel_rfl) (by decide) (fun _ _ _ h => h) (Or.inl ⟨by rfl, ?k3xhy7⟩) hSS ?_
          case k3xhy7 => (intro wz hSw; (try dsimp only at hSw); go_simp; try (with_reducible rfl))
          simp only [Act.put, List.setIfInBounds_toArray, List.set_cons_succ, List.set_cons_zero, List.getElem_toArray, List.getElem_cons_succ, List.getElem_cons_zero]
          refine wpAnyE_take0 (i := 8) (v := ?k3xv8) rfl (by kernel_rfl) (by kernel_rfl) (by kernel_rfl) (by decide) (fun _ _ _ h => h) (Or.inl ⟨by rfl, ?k3xhy8⟩) hSS ?_
          case k3xhy8 => (intro wz hSw; (try dsimp only at hSw); go_simp; try (with_reducible rfl))
          refine wpAnyE_take0 (i := 9) (v := ?k3xv9) rfl (by kernel_rfl) (by kernel_rfl) (by kernel_rfl) (by decide) (fun _ _ _ h => h) (Or.inl ⟨by rfl, ?k3xhy9⟩) hSS ?_
          case k3xhy9 => (intro wz hSw; (try dsimp only at hSw); go_simp; try (with_reducible rfl))
          refine wpAnyE_take0 (i := 10) (v := ?k3xv10) rfl (by kernel_rfl) (by kernel_rfl) (by kernel_rfl) (by decide) (fun _ _ _ h => h) (Or.inl ⟨by rfl, ?k3xhy10⟩) hSS ?_
          case k3xhy10 => (intro wz hSw; (try dsimp only at hSw); go_simp; try (with_reducible rfl))
          refine wpAnyE_take0 (i := 11) (v := ?k3xv11) rfl (by kernel_rfl) (by kernel_rfl) (by kernel_rfl) (by decide) (fun _ _ _ h => h) (Or.inl ⟨by rfl, ?k3xhy11⟩) hSS ?_
          case k3xhy11 => (intro wz hSw; (try dsimp only at hSw); go_simp; try (with_reducible rfl))
          simp only [Act.put, List.setIfInBounds_toArray, List.set_cons_succ, List.set_cons_zero, List.getElem_toArray, List.getElem_cons_succ, List.getElem_cons_zero]
          refine wpAnyE_take0 (i := 12) (v := ?k3xv12) rfl (by kernel_rfl) (by kernel_rfl) (by kernel_rfl) (by decide) (fun _ _ _ h => h) (Or.inl ⟨by rfl, ?k3xhy12⟩) hSS ?_
          case k3xhy12 => (intro wz hSw; (try dsimp only at hSw); go_simp; try (with_reducible rfl))
          refine wpAnyE_take0 (i := 13) (v := ?k3xv13) rfl (by kernel_rfl) (by kernel_rfl) (by kernel_rfl) (by decide) (fun _ _ _ h => h) (Or.inl ⟨by rfl, ?k3xhy13⟩) hSS ?_
          case k3xhy13 => (intro wz hSw; (try dsimp only at hSw); go_simp; try (with_reducible rfl))
          refine wpAnyE_take0 (i := 15) (v := ?k3xv15) rfl (by kernel_rfl) (by kernel_rfl) (by kernel_rfl) (by decide) (fun _ _ _ h => h) (Or.inl ⟨by rfl, ?k3xhy15⟩) hSS ?_
          case k3xhy15 => (intro wz hSw; (try dsimp only at hSw); go_simp; try (with_reducible rfl))
          refine wpAnyE_one (i := 14) (by kernel_rfl) rfl (fun K hK => ?_)
          go_simp
          refine (pTim f 1 _ _ _ _ _ _ _ hf).mono ?_
          rintro ee w19 ⟨ae, ne, ce, af, nf, cf, rfl, y3, b9⟩
          replace BB := BB.trans (b9.mono BB.size)
          replace hf := hf.below b9
          replace hV := hV.below b9
          replace hA := hA.below b9
          replace hx := hx.below b9
          replace hy := hy.below b9
          replace y1 := y1.below b9
          replace y2 := y2.below b9
          replace q5 := q5.below b9
          replace q10 := q10.below b9
          replace q15 := q15.below b9
          clear b9
          clear hSS
          have hSS : (w19.cell? ⟨X5, 0, none⟩ = some (.slice a1 n1 c1) ∧ w19.cell? ⟨X5, 1, none⟩ = some (.slice a2 n2 c2) ∧ w19.cell? ⟨X5, 2, none⟩ = some (.int .i64 f.2.2) ∧ w19.cell? ⟨X10, 0, none⟩ = some (.slice a7 n7 c7) ∧ w19.cell? ⟨X10, 1, none⟩ = some (.slice a8 n8 c8) ∧ w19.cell? ⟨X10, 2, none⟩ = some (.int .i64 (timP f k).2.2) ∧ w19.cell? ⟨X15, 0, none⟩ = some (.slice ac nc cc) ∧ w19.cell? ⟨X15, 1, none⟩ = some (.slice ad nd cd) ∧ w19.cell? ⟨X15, 2, none⟩ = some (.int .i64 (timP (timP f (-1)) (-1)).2.2)) ∧ True := ⟨⟨q5.cell 0, q5.cell 1, q5.cell 2, q10.cell 0, q10.cell 1, q10.cell 2, q15.cell 0, q15.cell 1, q15.cell 2⟩, trivial⟩
          (try dsimp only)
          refine hK.out _ _ ⟨hSS.1, fun _ => trivial⟩ ?_
          clear hK K
          refine wpAnyE_one (i := 16) (by kernel_rfl) rfl (fun K hK => ?_)
          go_simp
          refine (coF_any (timP f 1) f _ _ _ _ _ _ _ _ _ _ _ _ _ y3 hf).mono ?_
          rintro ee w20 ⟨rfl, b9⟩
          rw [coP_of (tim_one h0)]
          replace BB := BB.trans (b9.mono BB.size)
          replace hf := hf.below b9
          replace hV := hV.below b9
          replace hA := hA.below b9
          replace hx := hx.below b9
          replace hy := hy.below b9
          replace y1 := y1.below b9
          replace y2 := y2.below b9
          replace y3 := y3.below b9
          replace q5 := q5.below b9
          replace q10 := q10.below b9
          replace q15 := q15.below b9
          clear b9
          clear hSS
          have hSS : (w20.cell? ⟨X5, 0, none⟩ = some (.slice a1 n1 c1) ∧ w20.cell? ⟨X5, 1, none⟩ = some (.slice a2 n2 c2) ∧ w20.cell? ⟨X5, 2, none⟩ = some (.int .i64 f.2.2) ∧ w20.cell? ⟨X10, 0, none⟩ = some (.slice a7 n7 c7) ∧ w20.cell? ⟨X10, 1, none⟩ = some (.slice a8 n8 c8) ∧ w20.cell? ⟨X10, 2, none⟩ = some (.int .i64 (timP f k).2.2) ∧ w20.cell? ⟨X15, 0, none⟩ = some (.slice ac nc cc) ∧ w20.cell? ⟨X15, 1, none⟩ = some (.slice ad nd cd) ∧ w20.cell? ⟨X15, 2, none⟩ = some (.int .i64 (timP (timP f (-1)) (-1)).2.2)) ∧ True := ⟨⟨q5.cell 0, q5.cell 1, q5.cell 2, q10.cell 0, q10.cell 1, q10.cell 2, q15.cell 0, q15.cell 1, q15.cell 2⟩, trivial⟩
          (try dsimp only)
          refine hK.out _ _ ⟨hSS.1, fun _ => trivial⟩ ?_
          clear hK K
          refine wpAnyE_take0 (i := 17) (v := ?k3xv17) rfl (by kernel_rfl) (by kernel_rfl) (by kernel_rfl) (by decide) (fun _ _ _ h => h) (Or.inl ⟨by rfl, ?k3xhy17⟩) hSS ?_
          case k3xhy17 => (intro wz hSw; (try dsimp only at hSw); go_simp; try (with_reducible rfl))
          refine wpAnyE_take0 (i := 18) (v := ?k3xv18) rfl (by kernel_rfl) (by kernel_rfl) (by kernel_rfl) (by decide) (fun _ _ _ h => h) (Or.inl ⟨by rfl, ?k3xhy18⟩) hSS ?_
          case k3xhy18 => (intro wz hSw; (try dsimp only at hSw); go_simp; try (with_reducible rfl))
          refine wpAnyE_take0 (i := 19) (v := ?k3xv19) rfl (by kernel_rfl) (by kernel_rfl) (by kernel_rfl) (by decide) (fun _ _ _ h => h) (Or.inl ⟨by rfl, ?k3xhy19⟩) hSS ?_
          case k3xhy19 => (intro wz hSw; (try dsimp only at hSw); go_simp; try (with_reducible rfl))
          refine wpAnyE_one (i := 20) (by kernel_rfl) rfl (fun K hK => ?_)
          go_simp
          refine (pTim f 0 _ _ _ _ _ _ _ hf).mono ?_
          rintro ee w21 ⟨ag, ng, cg, ah, nh, ch, rfl, y4, b9⟩
          replace BB := BB.trans (b9.mono BB.size)
          replace hf := hf.below b9
          replace hV := hV.below b9
          replace hA := hA.below b9
          replace hx := hx.below b9
          replace hy := hy.below b9
          replace y1 := y1.below b9
          replace y2 := y2.below b9
          replace y3 := y3.below b9
          replace q5 := q5.below b9
          replace q10 := q10.below b9
          replace q15 := q15.below b9
          clear b9
          clear hSS
          have hSS : (w21.cell? ⟨X5, 0, none⟩ = some (.slice a1 n1 c1) ∧ w21.cell? ⟨X5, 1, none⟩ = some (.slice a2 n2 c2) ∧ w21.cell? ⟨X5, 2, none⟩ = some (.int .i64 f.2.2) ∧ w21.cell? ⟨X10, 0, none⟩ = some (.slice a7 n7 c7) ∧ w21.cell? ⟨X10, 1, none⟩ = some (.slice a8 n8 c8) ∧ w21.cell? ⟨X10, 2, none⟩ = some (.int .i64 (timP f k).2.2) ∧ w21.cell? ⟨X15, 0, none⟩ = some (.slice ac nc cc) ∧ w21.cell? ⟨X15, 1, none⟩ = some (.slice ad nd cd) ∧ w21.cell? ⟨X15, 2, none⟩ = some (.int .i64 (timP (timP f (-1)) (-1)).2.2)) ∧ True := ⟨⟨q5.cell 0, q5.cell 1, q5.cell 2, q10.cell 0, q10.cell 1, q10.cell 2, q15.cell 0, q15.cell 1, q15.cell 2⟩, trivial⟩
          (try dsimp only)
          refine hK.out _ _ ⟨hSS.1, fun _ => trivial⟩ ?_
          clear hK K
          refine wpAnyE_one (i := 21) (by kernel_rfl) rfl (fun K hK => ?_)
          go_simp
          refine (pZero _).mono ?_
          rintro ee w22 ⟨ai, ni, ci, aj, nj, cj, rfl, y5, b9⟩
          replace BB := BB.trans (b9.mono BB.size)
          replace hf := hf.below b9
          replace hV := hV.below b9
          replace hA := hA.below b9
          replace hx := hx.below b9
          replace hy := hy.below b9
          replace y1 := y1.below b9
          replace y2 := y2.below b9
          replace y3 := y3.below b9
          replace y4 := y4.below b9
          replace q5 := q5.below b9
          replace q10 := q10.below b9
          replace q15 := q15.below b9
          clear b9
          clear hSS
          have hSS : (w22.cell? ⟨X5, 0, none⟩ = some (.slice a1 n1 c1) ∧ w22.cell? ⟨X5, 1, none⟩ = some (.slice a2 n2 c2) ∧ w22.cell? ⟨X5, 2, none⟩ = some (.int .i64 f.2.2) ∧ w22.cell? ⟨X10, 0, none⟩ = some (.slice a7 n7 c7) ∧ w22.cell? ⟨X10, 1, none⟩ = some (.slice a8 n8 c8) ∧ w22.cell? ⟨X10, 2, none⟩ = some (.int .i64 (timP f k).2.2) ∧ w22.cell? ⟨X15, 0, none⟩ = some (.slice ac nc cc) ∧ w22.cell? ⟨X15, 1, none⟩ = some (.slice ad nd cd) ∧ w22.cell? ⟨X15, 2, none⟩ = some (.int .i64 (timP (timP f (-1)) (-1)).2.2)) ∧ True := ⟨⟨q5.cell 0, q5.cell 1, q5.cell 2, q10.cell 0, q10.cell 1, q10.cell 2, q15.cell 0, q15.cell 1, q15.cell 2⟩, trivial⟩
          (try dsimp only)
          refine hK.out _ _ ⟨hSS.1, fun _ => trivial⟩ ?_
          clear hK K
          refine wpAnyE_one (i := 22) (by kernel_rfl) rfl (fun K hK => ?_)
          go_simp
          refine (coF_any (timP f 0) zeroP _ _ _ _ _ _ _ _ _ _ _ _ _ y4 y5).mono ?_
          rintro ee w23 ⟨rfl, b9⟩
          rw [coP_of (tim_nil h0)]
          replace BB := BB.trans (b9.mono BB.size)
          replace hf := hf.below b9
          replace hV := hV.below b9
          replace hA := hA.below b9
          replace hx := hx.below b9
          replace hy := hy.below b9
          replace y1 := y1.below b9
          replace y2 := y2.below b9
          replace y3 := y3.below b9
          replace y4 := y4.below b9
          replace y5 := y5.below b9
          replace q5 := q5.below b9
          replace q10 := q10.below b9
          replace q15 := q15.below b9
          clear b9
          clear hSS
          have hSS : (w23.cell? ⟨X5, 0, none⟩ = some (.slice a1 n1 c1) ∧ w23.cell? ⟨X5, 1, none⟩ = some (.slice a2 n2 c2) ∧ w23.cell? ⟨X5, 2, none⟩ = some (.int .i64 f.2.2) ∧ w23.cell? ⟨X10, 0, none⟩ = some (.slice a7 n7 c7) ∧ w23.cell? ⟨X10, 1, none⟩ = some (.slice a8 n8 c8) ∧ w23.cell? ⟨X10, 2, none⟩ = some (.int .i64 (timP f k).2.2) ∧ w23.cell? ⟨X15, 0, none⟩ = some (.slice ac nc cc) ∧ w23.cell? ⟨X15, 1, none⟩ = some (.slice ad nd cd) ∧ w23.cell? ⟨X15, 2, none⟩ = some (.int .i64 (timP (timP f (-1)) (-1)).2.2)) ∧ True := ⟨⟨q5.cell 0, q5.cell 1, q5.cell 2, q10.cell 0, q10.cell 1, q10.cell 2, q15.cell 0, q15.cell 1, q15.cell 2⟩, trivial⟩
          (try dsimp only)
          refine hK.out _ _ ⟨hSS.1, fun _ => trivial⟩ ?_
          clear hK K
          refine wpAnyE_take0 (i := 23) (v := ?k3xv23) rfl (by kernel_rfl) (by kernel_rfl) (by kernel_rfl) (by decide) (fun _ _ _ h => h) (Or.inl ⟨by rfl, ?k3xhy23⟩) hSS ?_
          case k3xhy23 => (intro wz hSw; (try dsimp only at hSw); go_simp; try (with_reducible rfl))
          refine wpAnyE_take0 (i := 24) (v := ?k3xv24) rfl (by kernel_rfl) (by kernel_rfl) (by kernel_rfl) (by decide) (fun _ _ _ h => h) (Or.inl ⟨by rfl, ?k3xhy24⟩) hSS ?_
          case k3xhy24 => (intro wz hSw; (try dsimp only at hSw); go_simp; try (with_reducible rfl))
          refine wpAnyE_take0 (i := 25) (v := ?k3xv25) rfl (by kernel_rfl) (by kernel_rfl) (by kernel_rfl) (by decide) (fun _ _ _ h => h) (Or.inl ⟨by rfl, ?k3xhy25⟩) hSS ?_
          case k3xhy25 => (intro wz hSw; (try dsimp only at hSw); go_simp; try (with_reducible rfl))
          refine wpAnyE_take0 (i := 26) (v := ?k3xv26) rfl (by kernel_rfl) (by kernel_rfl) (by kernel_rfl) (by decide) (fun _ _ _ h => h) (Or.inl ⟨by rfl, ?k3xhy26⟩) hSS ?_
          case k3xhy26 => (intro wz hSw; (try dsimp only at hSw); go_simp; try (with_reducible rfl))
          simp only [Act.put, List.setIfInBounds_toArray, List.set_cons_succ, List.set_cons_zero, List.getElem_toArray, List.getElem_cons_succ, List.getElem_cons_zero]
          refine wpAnyE_one (i := 27) (by kernel_rfl) rfl (fun K hK => ?_)
          go_simp
          refine (coF_any (timP (timP f (-1)) (-1)) f _ _ _ _ _ _ _ _ _ _ _ _ _ y2 hf).mono ?_
          rintro ee w24 ⟨rfl, b9⟩
          rw [coP_of (tim_back h0)]
          replace BB := BB.trans (b9.mono BB.size)
          replace hf := hf.below b9
          replace hV := hV.below b9
          replace hA := hA.below b9
          replace hx := hx.below b9
          replace hy := hy.below b9
          replace y1 := y1.below b9
          replace y2 := y2.below b9
          replace y3 := y3.below b9
          replace y4 := y4.below b9
          replace y5 := y5.below b9
          replace q5 := q5.below b9
          replace q10 := q10.below b9
          replace q15 := q15.below b9
          clear b9
          clear hSS
          have hSS : (w24.cell? ⟨X5, 0, none⟩ = some (.slice a1 n1 c1) ∧ w24.cell? ⟨X5, 1, none⟩ = some (.slice a2 n2 c2) ∧ w24.cell? ⟨X5, 2, none⟩ = some (.int .i64 f.2.2) ∧ w24.cell? ⟨X10, 0, none⟩ = some (.slice a7 n7 c7) ∧ w24.cell? ⟨X10, 1, none⟩ = some (.slice a8 n8 c8) ∧ w24.cell? ⟨X10, 2, none⟩ = some (.int .i64 (timP f k).2.2) ∧ w24.cell? ⟨X15, 0, none⟩ = some (.slice ac nc cc) ∧ w24.cell? ⟨X15, 1, none⟩ = some (.slice ad nd cd) ∧ w24.cell? ⟨X15, 2, none⟩ = some (.int .i64 (timP (timP f (-1)) (-1)).2.2)) ∧ True := ⟨⟨q5.cell 0, q5.cell 1, q5.cell 2, q10.cell 0, q10.cell 1, q10.cell 2, q15.cell 0, q15.cell 1, q15.cell 2⟩, trivial⟩
          (try dsimp only)
          refine hK.out _ _ ⟨hSS.1, fun _ => trivial⟩ ?_
          clear hK K
          refine wpAnyE_take0 (i := 28) (v := ?k3xv28) rfl (by kernel_rfl) (by kernel_rfl) (by kernel_rfl) (by decide) (fun _ _ _ h => h) (Or.inl ⟨by rfl, ?k3xhy28⟩) hSS ?_
          case k3xhy28 => (intro wz hSw; (try dsimp only at hSw); go_simp; try (with_reducible rfl))
          refine wpAnyE_take0 (i := 29) (v := ?k3xv29) rfl (by kernel_rfl) (by kernel_rfl) (by kernel_rfl) (by decide) (fun _ _ _ h => h) (Or.inl ⟨by rfl, ?k3xhy29⟩) hSS ?_
          case k3xhy29 => (intro wz hSw; (try dsimp only at hSw); go_simp; try (with_reducible rfl))
          refine wpAnyE_take0 (i := 30) (v := ?k3xv30) rfl (by kernel_rfl) (by kernel_rfl) (by kernel_rfl) (by decide) (fun _ _ _ h => h) (Or.inl ⟨by rfl, ?k3xhy30⟩) hSS ?_
          case k3xhy30 => (intro wz hSw; (try dsimp only at hSw); go_simp; try (with_reducible rfl))
          refine wpAnyE_take0 (i := 31) (v := ?k3xv31) rfl (by kernel_rfl) (by kernel_rfl) (by kernel_rfl) (by decide) (fun _ _ _ h => h) (Or.inl ⟨by rfl, ?k3xhy31⟩) hSS ?_
          case k3xhy31 => (intro wz hSw; (try dsimp only at hSw); go_simp; try (with_reducible rfl))
          simp only [Act.put, List.setIfInBounds_toArray, List.set_cons_succ, List.set_cons_zero, List.getElem_toArray, List.getElem_cons_succ, List.getElem_cons_zero]
          refine wpAnyE_one (i := 32) (by kernel_rfl) rfl (fun K hK => ?_)
          go_simp
          refine (pTim f (-1) _ _ _ _ _ _ _ hf).mono ?_
          rintro ee w25 ⟨ak, nk, ck, al, nl, cl, rfl, y6, b9⟩
          replace BB := BB.trans (b9.mono BB.size)
          replace hf := hf.below b9
          replace hV := hV.below b9
          replace hA := hA.below b9
          replace hx := hx.below b9
          replace hy := hy.below b9
          replace y1 := y1.below b9
          replace y2 := y2.below b9
          replace y3 := y3.below b9
          replace y4 := y4.below b9
          replace y5 := y5.below b9
          replace q5 := q5.below b9
          replace q10 := q10.below b9
          replace q15 := q15.below b9
          clear b9
          clear hSS
          have hSS : (w25.cell? ⟨X5, 0, none⟩ = some (.slice a1 n1 c1) ∧ w25.cell? ⟨X5, 1, none⟩ = some (.slice a2 n2 c2) ∧ w25.cell? ⟨X5, 2, none⟩ = some (.int .i64 f.2.2) ∧ w25.cell? ⟨X10, 0, none⟩ = some (.slice a7 n7 c7) ∧ w25.cell? ⟨X10, 1, none⟩ = some (.slice a8 n8 c8) ∧ w25.cell? ⟨X10, 2, none⟩ = some (.int .i64 (timP f k).2.2) ∧ w25.cell? ⟨X15, 0, none⟩ = some (.slice ac nc cc) ∧ w25.cell? ⟨X15, 1, none⟩ = some (.slice ad nd cd) ∧ w25.cell? ⟨X15, 2, none⟩ = some (.int .i64 (timP (timP f (-1)) (-1)).2.2)) ∧ True := ⟨⟨q5.cell 0, q5.cell 1, q5.cell 2, q10.cell 0, q10.cell 1, q10.cell 2, q15.cell 0, q15.cell 1, q15.cell 2⟩, trivial⟩
          (try dsimp only)
          refine hK.out _ _ ⟨hSS.1, fun _ => trivial⟩ ?_
          clear hK K
          refine wpAnyE_one (i := 33) (by kernel_rfl) rfl (fun K hK => ?_)
          go_simp
          refine (pAdd f (timP f (-1)) _ _ _ _ _ _ _ _ _ _ _ _ _ hf y6).mono ?_
          rintro ee w26 ⟨am, nm, cm, an, nn, cn, rfl, y7, b9⟩
          replace BB := BB.trans (b9.mono BB.size)
          replace hf := hf.below b9
          replace hV := hV.below b9
          replace hA := hA.below b9
          replace hx := hx.below b9
          replace hy := hy.below b9
          replace y1 := y1.below b9
          replace y2 := y2.below b9
          replace y3 := y3.below b9
          replace y4 := y4.below b9
          replace y5 := y5.below b9
          replace y6 := y6.below b9
          replace q5 := q5.below b9
          replace q10 := q10.below b9
          replace q15 := q15.below b9
          clear b9
          clear hSS
          have hSS : (w26.cell? ⟨X5, 0, none⟩ = some (.slice a1 n1 c1) ∧ w26.cell? ⟨X5, 1, none⟩ = some (.slice a2 n2 c2) ∧ w26.cell? ⟨X5, 2, none⟩ = some (.int .i64 f.2.2) ∧ w26.cell? ⟨X10, 0, none⟩ = some (.slice a7 n7 c7) ∧ w26.cell? ⟨X10, 1, none⟩ = some (.slice a8 n8 c8) ∧ w26.cell? ⟨X10, 2, none⟩ = some (.int .i64 (timP f k).2.2) ∧ w26.cell? ⟨X15, 0, none⟩ = some (.slice ac nc cc) ∧ w26.cell? ⟨X15, 1, none⟩ = some (.slice ad nd cd) ∧ w26.cell? ⟨X15, 2, none⟩ = some (.int .i64 (timP (timP f (-1)) (-1)).2.2)) ∧ True := ⟨⟨q5.cell 0, q5.cell 1, q5.cell 2, q10.cell 0, q10.cell 1, q10.cell 2, q15.cell 0, q15.cell 1, q15.cell 2⟩, trivial⟩
          (try dsimp only)
          refine hK.out _ _ ⟨hSS.1, fun _ => trivial⟩ ?_
          clear hK K
          refine wpAnyE_one (i := 34) (by kernel_rfl) rfl (fun K hK => ?_)
          go_simp
          refine (pZero _).mono ?_
          rintro ee w27 ⟨ao, no, co, ap, np, cp, rfl, y8, b9⟩
          replace BB := BB.trans (b9.mono BB.size)
          replace hf := hf.below b9
          replace hV := hV.below b9
          replace hA := hA.below b9
          replace hx := hx.below b9
          replace hy := hy.below b9
          replace y1 := y1.below b9
          replace y2 := y2.below b9
          replace y3 := y3.below b9
          replace y4 := y4.below b9
          replace y5 := y5.below b9
          replace y6 := y6.below b9
          replace y7 := y7.below b9
          replace q5 := q5.below b9
          replace q10 := q10.below b9
          replace q15 := q15.below b9
          clear b9
          clear hSS
          have hSS : (w27.cell? ⟨X5, 0, none⟩ = some (.slice a1 n1 c1) ∧ w27.cell? ⟨X5, 1, none⟩ = some (.slice a2 n2 c2) ∧ w27.cell? ⟨X5, 2, none⟩ = some (.int .i64 f.2.2) ∧ w27.cell? ⟨X10, 0, none⟩ = some (.slice a7 n7 c7) ∧ w27.cell? ⟨X10, 1, none⟩ = some (.slice a8 n8 c8) ∧ w27.cell? ⟨X10, 2, none⟩ = some (.int .i64 (timP f k).2.2) ∧ w27.cell? ⟨X15, 0, none⟩ = some (.slice ac nc cc) ∧ w27.cell? ⟨X15, 1, none⟩ = some (.slice ad nd cd) ∧ w27.cell? ⟨X15, 2, none⟩ = some (.int .i64 (timP (timP f (-1)) (-1)).2.2)) ∧ True := ⟨⟨q5.cell 0, q5.cell 1, q5.cell 2, q10.cell 0, q10.cell 1, q10.cell 2, q15.cell 0, q15.cell 1, q15.cell 2⟩, trivial⟩
          (try dsimp only)
          refine hK.out _ _ ⟨hSS.1, fun _ => trivial⟩ ?_
          clear hK K
          refine wpAnyE_one (i := 35) (by kernel_rfl) rfl (fun K hK => ?_)
          go_simp
          refine (coF_any (addP f (timP f (-1))) zeroP _ _ _ _ _ _ _ _ _ _ _ _ _ y7 y8).mono ?_
          rintro ee w28 ⟨rfl, b9⟩
          rw [coP_of (add_neg h0)]
          replace BB := BB.trans (b9.mono BB.size)
          replace hf := hf.below b9
          replace hV := hV.below b9
          replace hA := hA.below b9
          replace hx := hx.below b9
          replace hy := hy.below b9
          replace y1 := y1.below b9
          replace y2 := y2.below b9
          replace y3 := y3.below b9
          replace y4 := y4.below b9
          replace y5 := y5.below b9
          replace y6 := y6.below b9
          replace y7 := y7.below b9
          replace y8 := y8.below b9
          replace q5 := q5.below b9
          replace q10 := q10.below b9
          replace q15 := q15.below b9
          clear b9
          clear hSS
          have hSS : (w28.cell? ⟨X5, 0, none⟩ = some (.slice a1 n1 c1) ∧ w28.cell? ⟨X5, 1, none⟩ = some (.slice a2 n2 c2) ∧ w28.cell? ⟨X5, 2, none⟩ = some (.int .i64 f.2.2) ∧ w28.cell? ⟨X10, 0, none⟩ = some (.slice a7 n7 c7) ∧ w28.cell? ⟨X10, 1, none⟩ = some (.slice a8 n8 c8) ∧ w28.cell? ⟨X10, 2, none⟩ = some (.int .i64 (timP f k).2.2) ∧ w28.cell? ⟨X15, 0, none⟩ = some (.slice ac nc cc) ∧ w28.cell? ⟨X15, 1, none⟩ = some (.slice ad nd cd) ∧ w28.cell? ⟨X15, 2, none⟩ = some (.int .i64 (timP (timP f (-1)) (-1)).2.2)) ∧ True := ⟨⟨q5.cell 0, q5.cell 1, q5.cell 2, q10.cell 0, q10.cell 1, q10.cell 2, q15.cell 0, q15.cell 1, q15.cell 2⟩, trivial⟩
          (try dsimp only)
          refine hK.out _ _ ⟨hSS.1, fun _ => trivial⟩ ?_
          clear hK K
          refine wpAnyE_take0 (i := 36) (v := ?k3xv36) rfl (by kernel_rfl) (by kernel_rfl) (by kernel_rfl) (by decide) (fun _ _ _ h => h) (Or.inl ⟨by rfl, ?k3xhy36⟩) hSS ?_
          case k3xhy36 => (intro wz hSw; (try dsimp only at hSw); go_simp; try (with_reducible rfl))
          refine wpAnyE_one (i := 37) (by kernel_rfl) rfl (fun K hK => ?_)
          go_simp
          refine hK.out _ _ ⟨hSS.1, fun _ => trivial⟩ ?_
          clear hK K
          refine wpAnyE_done (by kernel_rfl) ?_ _
          clear hSS
          go_wp2
          go_ret
          exact ⟨rfl, BB⟩
    · go_enter Try.func4, Try.ntmps4
      go_wp2
      go_ret
      exact ⟨rfl, Below.refl _ _⟩
  · go_enter Try.func4, Try.ntmps4
    go_wp2
    go_ret
    exact ⟨rfl, Below.refl _ _⟩

/-! ### The row's step -/
set_option maxRecDepth 100000 in
theorem lifted (os : Os) (started : os.Started) (H : Type) (enc : TypeId × Value → H) :
    ReturnsInHanded {} Try.checked os 4 .any (Rows.fnFrmTimesSpec.pre6 enc Try.prog Try.f4 Rows.fnFrmTimesRow.domain false) (Rows.fnFrmTimesSpec.post enc Try.prog Try.f4 false true false false) := by
  refine returnsInHanded_of_change (C := Try.checked) own started (by kernel_rfl) Try.func4
    (ChangeSpec.witness6 (enc := enc) (C := Try.checked) false ⟨#[], #[.slice none 0 0, .slice none 0 0], []⟩ 8 (by kernel_rfl) (by kernel_rfl) (by kernel_rfl) (by kernel_rfl)) ?_
  intro W base args ds gs before hval0 hW hcnd _
  have hval : ∀ (j : Nat) t v, Try.f4.params[j]? = some t → args[j]? = some v → Value.okWide Try.prog W .any base t v := hval0
  have hW' := hW
  obtain ⟨p, q, hA0, hV, rfl, hfz, hnd⟩ := hW
  have hA : DataW.TrodAll enc Try.prog W 0 (fun _ => true) true Try.f4.params.toList args.toList ds p := hA0
  rw [Try.params4] at hA hval
  obtain ⟨v0, vs0, d0, ds0, p0, q0, hargs, rfl, rfl, h0, r0⟩ := trodAll_cons hA
  obtain ⟨v1, vs1, d1, ds1, p1, q1, rfl, rfl, rfl, h1, r1⟩ := trodAll_cons r0
  obtain ⟨rfl, rfl, rfl⟩ := trodAll_nil r1
  obtain rfl : args = #[v0, v1] := by cases args; simp_all
  obtain ⟨rfl, rfl⟩ := trodVars_none hV
  have k0 := h0
  have lt0 : ∀ x ∈ p0, x.block < W.heap.size := by obtain ⟨m, hm⟩ := k0; exact DataW.trod_lt m _ _ _ hm
  obtain ⟨a0, n0, cap0, C0, rfl, hC0, hn0⟩ := open_bytesT (hval 0 22 v0 rfl rfl) h0
  have k1 := h1
  have lt1 : ∀ x ∈ p1, x.block < W.heap.size := by obtain ⟨m, hm⟩ := k1; exact DataW.trod_lt m _ _ _ hm
  obtain ⟨a1, n1, cap1, C1, rfl, hC1, hn1⟩ := open_bytesT (hval 1 22 v1 rfl rfl) h1
  clear hA0 hval0
  refine (walk W a0 n0 cap0 C0 hC0 hn0 a1 n1 cap1 C1 hC1 hn1).mono fun e W' ⟨he, bel⟩ => ?_
  subst he
  exact ⟨_, rfl, _, _, _, [], _, [], hW', trodAll_mk1 (shut_bool Try.underlying4 _), (trodAll_cons_mk (Below.trod laidOut (by kernel_rfl) (of_decide_eq_true (by kernel_rfl)) k0 bel lt0) (trodAll_cons_mk (Below.trod laidOut (by kernel_rfl) (of_decide_eq_true (by kernel_rfl)) k1 bel lt1) trodAll_mk0)), rfl, bel.frame _, fun h => by cases h⟩

theorem over : Rows.fnFrmTimesRow.holds Try.pinned (OpenSpec.ofChange Rows.fnFrmTimesSpec) :=
  OpenClaim.holds_of_wide 4 Try.f4 rfl rfl rfl rfl rfl rfl rfl ⟨rfl, rfl, rfl, rfl, rfl⟩ rfl rfl rfl rfl rfl (by kernel_rfl) Try.func4 (by kernel_rfl)
    (of_decide_eq_true (by kernel_rfl)) (by unfold Func.isWrapper; first | (rw [if_pos (by decide +kernel)]; kernel_rfl) | (rw [if_neg (by decide +kernel)]; exact ⟨rfl, rfl⟩))
    (fun os started H enc _ => lifted os started H enc)

end Go.Proofs.Ytjhbapgpeimlhaa.fnFrmTimes
namespace Go.Proofs.Ytjhbapgpeimlhaa
/-- The statement. -/
theorem fnFrmTimes_holds : Rows.FnFrmTimesSaid := fnFrmTimes.over
#print axioms fnFrmTimes_holds
end Go.Proofs.Ytjhbapgpeimlhaa
