/-
  For all bytes FnFrmInto returns true, and what came in reads behind the call as it did. No condition. (what is put in for the pots is what they have)
-/
import Derived.Test.YtjhbapgpeimlhaaDrI
import Derived.Test.YtjhbapgpeimlhaaGrow
import Derived.Test.YtjhbapgpeimlhaaOpen
namespace Go.Proofs.Ytjhbapgpeimlhaa.fnFrmInto
open Go.ChangeShapes Go.WideShapes Go.ChangeAt Go.RowKit
set_option linter.unusedVariables false
set_option maxRecDepth 100000

theorem open_bytesT {H : Type} {enc : TypeId × Value → H} {W : World} {r : Reach} {b0 : Nat} {v : Value} {d : DataW H} {p : List MemPlace}
    (hv : Value.okWide Try.prog W r b0 22 v) (h : DataW.Trod enc Try.prog W 0 (fun _ => true) true 22 v d p) : ∃ a n cap zs, v = .slice a n cap ∧ BInts W a n zs ∧ (n ≤ cap ∧ cap ≤ maxLen) := by
  obtain ⟨a0, len0, cap0, rfl⟩ := okWide_slice Try.underlying22 hv
  obtain ⟨fuel, hf⟩ := h
  rcases open_ints Try.underlying22 Try.underlying5 (by kernel_rfl) hf with ⟨hcs, _⟩ | ⟨x, l, c, zs, hcs, _, hl, hm, hz, _, hcell, hwz⟩
  · simp [Value.cells] at hcs
    obtain ⟨rfl, rfl, rfl⟩ := hcs
    exact ⟨none, 0, 0, [], rfl, ⟨rfl, fun i hi => by omega, fun i => by simp⟩, by omega, by unfold maxLen; omega⟩
  · simp [Value.cells] at hcs
    obtain ⟨rfl, rfl, rfl⟩ := hcs
    have hz' : zs.length = cap0 := by simpa using hz
    refine ⟨some x, len0, cap0, zs.take len0, rfl, ⟨by rw [List.length_take]; omega, fun i hi => ?_, fun i => ?_⟩, hl, hm⟩
    · obtain ⟨b, off, spot⟩ := x
      have hc0 := hcell 0 (by omega)
      have hspot : spot = none := by simpa [Addr.add] using World.cell?_spot hc0
      subst hspot
      refine ⟨b, off, rfl, ?_⟩
      have hc := hcell i (by omega)
      have : W.cell? ⟨b, off + i, none⟩ = some (.int .u8 (zs.getD i 0)) := by
        by_cases h0 : i = 0
        · subst h0; simpa [Addr.add] using hc
        · simpa [Addr.add, h0] using hc
      rw [this]
      simp [hi]
    · by_cases hi : i < (zs.take len0).length
      · rw [List.getElem?_eq_getElem hi]
        have := hwz _ (List.mem_of_mem_take (List.getElem_mem hi))
        simpa [Lit.wf, IntKind.min, IntKind.max, IntKind.signed, IntKind.bits] using this
      · rw [List.getElem?_eq_none (by omega)]
        simp

set_option maxHeartbeats 6400000 in
theorem walk (w : World) (a : Option Addr) (n cap : Nat) (A0 : List Int) (hA0 : BInts w a n A0) (hn : n ≤ cap ∧ cap ≤ maxLen) (c : Option Addr) (m cap' : Nat) (B0 : List Int) (hB0 : BInts w c m B0) (hm : m ≤ cap' ∧ cap' ≤ maxLen) :
    Calls Try.prog 5 #[.slice a n cap, .slice c m cap'] w fun e w' => e = .returned (.bool true) ∧ Below w.heap.size w w' := by
  obtain ⟨hn2, hn3⟩ := hn
  obtain ⟨hm2, hm3⟩ := hm
  by_cases hn1 : n ≤ 1048576
  · by_cases hm1 : m ≤ 1048576
    · go_enter Try.func5, Try.ntmps5
      go_wp2_with fail
      refine (dInto _ _ _ A0 _ hA0 hn2 hn1 hn3).mono ?_
      rintro ee w1 ⟨a1, n1, c1, a2, n2, c2, f, ad, N, capN, fs, rfl, b1, hf, hF, hfN, hN3⟩
      have BB := b1
      replace hB0 := hB0.below b1
      clear b1
      have al := (Below.refl (w1).heap.size (w1)).alloc (Nat.le_refl _) (.cells #[.slice a1 n1 c1, .slice a2 n2 c2, .int .i64 f.2.2] 25)
      replace BB := BB.trans (al.mono BB.size)
      replace hB0 := hB0.below al
      replace hf := hf.below al
      replace hF := hF.below al
      clear al
      have q5 := Cel.new (w1) [.slice a1 n1 c1, .slice a2 n2 c2, .int .i64 f.2.2] 25
      have HN : Hid (fs.length = N) := hfN
      clear hfN
      have g5_0 := q5.cell 0
      have g5_1 := q5.cell 1
      have g5_2 := q5.cell 2
      simp only [List.getElem?_cons_zero, List.getElem?_cons_succ] at g5_0 g5_1 g5_2
      go_wp2_with fail
      obtain ⟨W2, hW2⟩ : ∃ W, W = (w1).alloc (.cells #[.slice a1 n1 c1, .slice a2 n2 c2, .int .i64 f.2.2] 25) := ⟨_, rfl⟩
      rw [← hW2]
      rw [← hW2] at hB0 hf hF q5 BB g5_0 g5_1 g5_2
      clear hW2
      obtain ⟨X5, hX5⟩ : ∃ x, x = w1.heap.size := ⟨_, rfl⟩
      rw [← hX5]
      rw [← hX5] at q5 g5_0 g5_1 g5_2
      clear hX5
      refine (dAt _ _ _ B0 _ hB0 hm2 hm1 hm3).mono ?_
      rintro ee w3 ⟨a5, n5, c5, a6, n6, c6, f0, va, p, cv, V, ua, q, cu, A, rfl, b2, _, hV, hA, hp, hq⟩
      clear g5_0 g5_1 g5_2
      replace BB := BB.trans (b2.mono BB.size)
      replace hB0 := hB0.below b2
      replace hf := hf.below b2
      replace hF := hF.below b2
      replace q5 := q5.below b2
      clear b2
      clear hB0
      have al := (Below.refl (w3).heap.size (w3)).alloc (Nat.le_refl _) (.cells #[.slice a5 n5 c5, .slice a6 n6 c6, .int .i64 f0.2.2] 25)
      replace BB := BB.trans (al.mono BB.size)
      replace hf := hf.below al
      replace hF := hF.below al
      replace hV := hV.below al
      replace hA := hA.below al
      replace q5 := q5.below al
      clear al
      have q7 := Cel.new (w3) [.slice a5 n5 c5, .slice a6 n6 c6, .int .i64 f0.2.2] 25
      have g5_0 := q5.cell 0
      have g5_1 := q5.cell 1
      have g5_2 := q5.cell 2
      have g7_0 := q7.cell 0
      have g7_1 := q7.cell 1
      have g7_2 := q7.cell 2
      simp only [List.getElem?_cons_zero, List.getElem?_cons_succ] at g5_0 g5_1 g5_2 g7_0 g7_1 g7_2
      go_wp2_with fail
      obtain ⟨W4, hW4⟩ : ∃ W, W = (w3).alloc (.cells #[.slice a5 n5 c5, .slice a6 n6 c6, .int .i64 f0.2.2] 25) := ⟨_, rfl⟩
      rw [← hW4]
      rw [← hW4] at hf hF hV hA q5 q7 BB g5_0 g5_1 g5_2 g7_0 g7_1 g7_2
      clear hW4
      obtain ⟨X7, hX7⟩ : ∃ x, x = w3.heap.size := ⟨_, rfl⟩
      rw [← hX7]
      rw [← hX7] at q7 g7_0 g7_1 g7_2
      clear hX7
      refine (pInto f fs _ _ _ _ _ _ _ _ _ _ hf HN.out hF (by omega)).mono ?_
      rintro ee w5 ⟨a7, n7, c7, a8, n8, c8, rfl, hx, b3⟩
      clear g5_0 g5_1 g5_2 g7_0 g7_1 g7_2
      replace BB := BB.trans (b3.mono BB.size)
      replace hf := hf.below b3
      replace hF := hF.below b3
      replace hV := hV.below b3
      replace hA := hA.below b3
      replace q5 := q5.below b3
      replace q7 := q7.below b3
      clear b3
      clear q7
      have al := (Below.refl (w5).heap.size (w5)).alloc (Nat.le_refl _) (.cells #[.slice a7 n7 c7, .slice a8 n8 c8, .int .i64 (intoP f fs).2.2] 25)
      replace BB := BB.trans (al.mono BB.size)
      replace hf := hf.below al
      replace hF := hF.below al
      replace hV := hV.below al
      replace hA := hA.below al
      replace hx := hx.below al
      replace q5 := q5.below al
      clear al
      have q10 := Cel.new (w5) [.slice a7 n7 c7, .slice a8 n8 c8, .int .i64 (intoP f fs).2.2] 25
      go_upto_region 6 with fail
      obtain ⟨W6, hW6⟩ : ∃ W, W = (w5).alloc (.cells #[.slice a7 n7 c7, .slice a8 n8 c8, .int .i64 (intoP f fs).2.2] 25) := ⟨_, rfl⟩
      rw [← hW6]
      rw [← hW6] at hf hF hV hA hx q5 q10 BB
      clear hW6
      obtain ⟨X10, hX10⟩ : ∃ x, x = w5.heap.size := ⟨_, rfl⟩
      rw [← hX10]
      rw [← hX10] at q10
      clear hX10
      refine wp_region_ends (fun X => X.cell? ⟨X5, 0, none⟩ = some (.slice a1 n1 c1) ∧ X.cell? ⟨X5, 1, none⟩ = some (.slice a2 n2 c2) ∧ X.cell? ⟨X5, 2, none⟩ = some (.int .i64 f.2.2) ∧ X.cell? ⟨X10, 0, none⟩ = some (.slice a7 n7 c7) ∧ X.cell? ⟨X10, 1, none⟩ = some (.slice a8 n8 c8) ∧ X.cell? ⟨X10, 2, none⟩ = some (.int .i64 (intoP f fs).2.2)) (fun _ => True) 5 (by kernel_rfl) ?_
      have dr : Below W6.heap.size W6 W6.drew := (Below.refl _ _).drew
      replace BB := BB.trans (dr.mono BB.size)
      replace hf := hf.below dr
      replace hF := hF.below dr
      replace hV := hV.below dr
      replace hA := hA.below dr
      replace hx := hx.below dr
      replace q5 := q5.below dr
      replace q10 := q10.below dr
      clear dr
      obtain ⟨V7, hV7⟩ : ∃ V, V = W6.drew := ⟨_, rfl⟩
      rw [← hV7]
      rw [← hV7] at hf hF hV hA hx q5 q10 BB
      clear hV7
      have hSS : (V7.cell? ⟨X5, 0, none⟩ = some (.slice a1 n1 c1) ∧ V7.cell? ⟨X5, 1, none⟩ = some (.slice a2 n2 c2) ∧ V7.cell? ⟨X5, 2, none⟩ = some (.int .i64 f.2.2) ∧ V7.cell? ⟨X10, 0, none⟩ = some (.slice a7 n7 c7) ∧ V7.cell? ⟨X10, 1, none⟩ = some (.slice a8 n8 c8) ∧ V7.cell? ⟨X10, 2, none⟩ = some (.int .i64 (intoP f fs).2.2)) ∧ True := ⟨⟨q5.cell 0, q5.cell 1, q5.cell 2, q10.cell 0, q10.cell 1, q10.cell 2⟩, trivial⟩
      refine wpAnyE_take0 (i := 0) (v := ?k1xv0) rfl (by kernel_rfl) (by kernel_rfl) (by kernel_rfl) (by decide) (fun _ _ _ h => h) (Or.inl ⟨by rfl, ?k1xhy0⟩) hSS ?_
      case k1xhy0 => (intro wz hSw; (try dsimp only at hSw); go_simp; try (with_reducible rfl))
      refine wpAnyE_take0 (i := 1) (v := ?k1xv1) rfl (by kernel_rfl) (by kernel_rfl) (by kernel_rfl) (by decide) (fun _ _ _ h => h) (Or.inl ⟨by rfl, ?k1xhy1⟩) hSS ?_
      case k1xhy1 => (intro wz hSw; (try dsimp only at hSw); go_simp; try (with_reducible rfl))
      refine wpAnyE_take0 (i := 2) (v := ?k1xv2) rfl (by kernel_rfl) (by kernel_rfl) (by kernel_rfl) (by decide) (fun _ _ _ h => h) (Or.inl ⟨by rfl, ?k1xhy2⟩) hSS ?_
      case k1xhy2 => (intro wz hSw; (try dsimp only at hSw); go_simp; try (with_reducible rfl))
      refine wpAnyE_one (i := 3) (by kernel_rfl) rfl (fun K hK => ?_)
      go_simp
      refine (qInto f fs _ _ _ _ _ _ _ _ _ _ hf HN.out hF (by omega)).mono ?_
      rintro ee w8 ⟨a9, n9, c9, ax, nx, cx, rfl, hy, b4⟩
      replace BB := BB.trans (b4.mono BB.size)
      replace hf := hf.below b4
      replace hF := hF.below b4
      replace hV := hV.below b4
      replace hA := hA.below b4
      replace hx := hx.below b4
      replace q5 := q5.below b4
      replace q10 := q10.below b4
      clear b4
      clear hSS
      have hSS : (w8.cell? ⟨X5, 0, none⟩ = some (.slice a1 n1 c1) ∧ w8.cell? ⟨X5, 1, none⟩ = some (.slice a2 n2 c2) ∧ w8.cell? ⟨X5, 2, none⟩ = some (.int .i64 f.2.2) ∧ w8.cell? ⟨X10, 0, none⟩ = some (.slice a7 n7 c7) ∧ w8.cell? ⟨X10, 1, none⟩ = some (.slice a8 n8 c8) ∧ w8.cell? ⟨X10, 2, none⟩ = some (.int .i64 (intoP f fs).2.2)) ∧ True := ⟨⟨q5.cell 0, q5.cell 1, q5.cell 2, q10.cell 0, q10.cell 1, q10.cell 2⟩, trivial⟩
      (try dsimp only)
      refine hK.out _ _ ⟨hSS.1, fun _ => trivial⟩ ?_
      clear hK K
      refine wpAnyE_one (i := 4) (by kernel_rfl) rfl (fun K hK => ?_)
      go_simp
      refine (coF_any (intoP f fs) (intoP f fs) _ _ _ _ _ _ _ _ _ _ _ _ _ hx hy).mono ?_
      rintro ee w9 ⟨rfl, b5⟩
      rw [coP_same]
      replace BB := BB.trans (b5.mono BB.size)
      replace hf := hf.below b5
      replace hF := hF.below b5
      replace hV := hV.below b5
      replace hA := hA.below b5
      replace hx := hx.below b5
      replace hy := hy.below b5
      replace q5 := q5.below b5
      replace q10 := q10.below b5
      clear b5
      clear hSS
      have hSS : (w9.cell? ⟨X5, 0, none⟩ = some (.slice a1 n1 c1) ∧ w9.cell? ⟨X5, 1, none⟩ = some (.slice a2 n2 c2) ∧ w9.cell? ⟨X5, 2, none⟩ = some (.int .i64 f.2.2) ∧ w9.cell? ⟨X10, 0, none⟩ = some (.slice a7 n7 c7) ∧ w9.cell? ⟨X10, 1, none⟩ = some (.slice a8 n8 c8) ∧ w9.cell? ⟨X10, 2, none⟩ = some (.int .i64 (intoP f fs).2.2)) ∧ True := ⟨⟨q5.cell 0, q5.cell 1, q5.cell 2, q10.cell 0, q10.cell 1, q10.cell 2⟩, trivial⟩
      (try dsimp only)
      refine hK.out _ _ ⟨hSS.1, fun _ => trivial⟩ ?_
      clear hK K
      refine wpAnyE_one (i := 5) (by kernel_rfl) rfl (fun K hK => ?_)
      go_simp
      refine hK.out _ _ ⟨hSS.1, fun _ => trivial⟩ ?_
      clear hK K
      refine wpAnyE_done (by kernel_rfl) ?_ _
      clear hSS
      have g5_0 := q5.cell 0
      have g5_1 := q5.cell 1
      have g5_2 := q5.cell 2
      have g10_0 := q10.cell 0
      have g10_1 := q10.cell 1
      have g10_2 := q10.cell 2
      simp only [List.getElem?_cons_zero, List.getElem?_cons_succ] at g5_0 g5_1 g5_2 g10_0 g10_1 g10_2
      go_wp2_with fail
      refine (pPot 0 _).mono ?_
      rintro ee w10 ⟨d1, d2, d3, e1, e2, e3, rfl, p0, b6⟩
      clear g5_0 g5_1 g5_2 g10_0 g10_1 g10_2
      replace BB := BB.trans (b6.mono BB.size)
      replace hf := hf.below b6
      replace hF := hF.below b6
      replace hV := hV.below b6
      replace hA := hA.below b6
      replace hx := hx.below b6
      replace hy := hy.below b6
      replace q5 := q5.below b6
      replace q10 := q10.below b6
      clear b6
      have g5_0 := q5.cell 0
      have g5_1 := q5.cell 1
      have g5_2 := q5.cell 2
      have g10_0 := q10.cell 0
      have g10_1 := q10.cell 1
      have g10_2 := q10.cell 2
      simp only [List.getElem?_cons_zero, List.getElem?_cons_succ] at g5_0 g5_1 g5_2 g10_0 g10_1 g10_2
      go_wp2_with fail
      refine (pPot 1 _).mono ?_
      rintro ee w11 ⟨g1, g2, g3, h1, h2, h3, rfl, p1, b6⟩
      clear g5_0 g5_1 g5_2 g10_0 g10_1 g10_2
      replace BB := BB.trans (b6.mono BB.size)
      replace hf := hf.below b6
      replace hF := hF.below b6
      replace hV := hV.below b6
      replace hA := hA.below b6
      replace hx := hx.below b6
      replace hy := hy.below b6
      replace p0 := p0.below b6
      replace q5 := q5.below b6
      replace q10 := q10.below b6
      clear b6
      have g5_0 := q5.cell 0
      have g5_1 := q5.cell 1
      have g5_2 := q5.cell 2
      have g10_0 := q10.cell 0
      have g10_1 := q10.cell 1
      have g10_2 := q10.cell 2
      simp only [List.getElem?_cons_zero, List.getElem?_cons_succ] at g5_0 g5_1 g5_2 g10_0 g10_1 g10_2
      go_wp2_with fail
      refine (pPot 2 _).mono ?_
      rintro ee w12 ⟨i1, i2, i3, j1, j2, j3, rfl, p2, b6⟩
      clear g5_0 g5_1 g5_2 g10_0 g10_1 g10_2
      replace BB := BB.trans (b6.mono BB.size)
      replace hf := hf.below b6
      replace hF := hF.below b6
      replace hV := hV.below b6
      replace hA := hA.below b6
      replace hx := hx.below b6
      replace hy := hy.below b6
      replace p0 := p0.below b6
      replace p1 := p1.below b6
      replace q5 := q5.below b6
      replace q10 := q10.below b6
      clear b6
      have al := (Below.refl w12.heap.size w12).alloc (Nat.le_refl _) (.cells #[.slice d1 d2 d3, .slice e1 e2 e3, .int .i64 (potP 0).2.2, .slice g1 g2 g3, .slice h1 h2 h3, .int .i64 (potP 1).2.2, .slice i1 i2 i3, .slice j1 j2 j3, .int .i64 (potP 2).2.2] 25)
      replace BB := BB.trans (al.mono BB.size)
      replace hf := hf.below al
      replace hF := hF.below al
      replace hV := hV.below al
      replace hA := hA.below al
      replace hx := hx.below al
      replace hy := hy.below al
      replace p0 := p0.below al
      replace p1 := p1.below al
      replace p2 := p2.below al
      replace q5 := q5.below al
      replace q10 := q10.below al
      clear al
      have hS : FormsG (w12.alloc (.cells #[.slice d1 d2 d3, .slice e1 e2 e3, .int .i64 (potP 0).2.2, .slice g1 g2 g3, .slice h1 h2 h3, .int .i64 (potP 1).2.2, .slice i1 i2 i3, .slice j1 j2 j3, .int .i64 (potP 2).2.2] 25)) (some ⟨w12.heap.size, 0, none⟩) [⟨d1, d2, d3, e1, e2, e3, (potP 0).2.2, (potP 0).1, (potP 0).2.1⟩, ⟨g1, g2, g3, h1, h2, h3, (potP 1).2.2, (potP 1).1, (potP 1).2.1⟩, ⟨i1, i2, i3, j1, j2, j3, (potP 2).2.2, (potP 2).1, (potP 2).2.1⟩] := formsG_of (nC1 := 0) (nD1 := 0) (fs := [⟨d1, d2, d3, e1, e2, e3, (potP 0).2.2, (potP 0).1, (potP 0).2.1⟩, ⟨g1, g2, g3, h1, h2, h3, (potP 1).2.2, (potP 1).1, (potP 1).2.1⟩, ⟨i1, i2, i3, j1, j2, j3, (potP 2).2.2, (potP 2).1, (potP 2).2.1⟩]) (Cel.new w12 [.slice d1 d2 d3, .slice e1 e2 e3, .int .i64 (potP 0).2.2, .slice g1 g2 g3, .slice h1 h2 h3, .int .i64 (potP 1).2.2, .slice i1 i2 i3, .slice j1 j2 j3, .int .i64 (potP 2).2.2] 25) (fun i hi => by (rcases i with _ | _ | _ | i; exact ⟨p0.C, p0.D, p0.hn, p0.hm⟩; exact ⟨p1.C, p1.D, p1.hn, p1.hm⟩; exact ⟨p2.C, p2.D, p2.hn, p2.hm⟩; simp at hi; omega))
      have HS : Hid (okP f = true → intoP f [⟨d1, d2, d3, e1, e2, e3, (potP 0).2.2, (potP 0).1, (potP 0).2.1⟩, ⟨g1, g2, g3, h1, h2, h3, (potP 1).2.2, (potP 1).1, (potP 1).2.1⟩, ⟨i1, i2, i3, j1, j2, j3, (potP 2).2.2, (potP 2).1, (potP 2).2.1⟩] = f) := fun h0 => into_same h0 (by have h1 := p0.C.1; have h2 := p0.D.1; subst h1; subst h2; show okP (potP 0) = true; decide) (by have h1 := p1.C.1; have h2 := p1.D.1; subst h1; subst h2; show okP (potP 1) = true; decide) (by have h1 := p2.C.1; have h2 := p2.D.1; subst h1; subst h2; show okP (potP 2) = true; decide) rfl rfl rfl
      clear p0 p1 p2
      go_upto_region 9 with fail
      obtain ⟨W13, hW13⟩ : ∃ W, W = w12.alloc (.cells #[.slice d1 d2 d3, .slice e1 e2 e3, .int .i64 (potP 0).2.2, .slice g1 g2 g3, .slice h1 h2 h3, .int .i64 (potP 1).2.2, .slice i1 i2 i3, .slice j1 j2 j3, .int .i64 (potP 2).2.2] 25) := ⟨_, rfl⟩
      rw [← hW13]
      rw [← hW13] at hf hF hV hA hx hy q5 q10 hS BB
      clear hW13
      obtain ⟨XS, hXS⟩ : ∃ x, x = w12.heap.size := ⟨_, rfl⟩
      rw [← hXS]
      rw [← hXS] at hS
      clear hXS
      cases h0 : okP f
      · refine wp_region_ends (fun X => X.cell? ⟨X5, 0, none⟩ = some (.slice a1 n1 c1) ∧ X.cell? ⟨X5, 1, none⟩ = some (.slice a2 n2 c2) ∧ X.cell? ⟨X5, 2, none⟩ = some (.int .i64 f.2.2) ∧ X.cell? ⟨X10, 0, none⟩ = some (.slice a7 n7 c7) ∧ X.cell? ⟨X10, 1, none⟩ = some (.slice a8 n8 c8) ∧ X.cell? ⟨X10, 2, none⟩ = some (.int .i64 (intoP f fs).2.2)) (fun _ => True) 9 (by kernel_rfl) ?_
        have dr : Below W13.heap.size W13 W13.drew := (Below.refl _ _).drew
        replace BB := BB.trans (dr.mono BB.size)
        replace hf := hf.below dr
        replace hF := hF.below dr
        replace hV := hV.below dr
        replace hA := hA.below dr
        replace hx := hx.below dr
        replace hy := hy.below dr
        replace q5 := q5.below dr
        replace q10 := q10.below dr
        replace hS := hS.below dr
        clear dr
        obtain ⟨V14, hV14⟩ : ∃ V, V = W13.drew := ⟨_, rfl⟩
        rw [← hV14]
        rw [← hV14] at hf hF hV hA hx hy q5 q10 hS BB
        clear hV14
        have hSS : (V14.cell? ⟨X5, 0, none⟩ = some (.slice a1 n1 c1) ∧ V14.cell? ⟨X5, 1, none⟩ = some (.slice a2 n2 c2) ∧ V14.cell? ⟨X5, 2, none⟩ = some (.int .i64 f.2.2) ∧ V14.cell? ⟨X10, 0, none⟩ = some (.slice a7 n7 c7) ∧ V14.cell? ⟨X10, 1, none⟩ = some (.slice a8 n8 c8) ∧ V14.cell? ⟨X10, 2, none⟩ = some (.int .i64 (intoP f fs).2.2)) ∧ True := ⟨⟨q5.cell 0, q5.cell 1, q5.cell 2, q10.cell 0, q10.cell 1, q10.cell 2⟩, trivial⟩
        refine wpAnyE_take0 (i := 0) (v := ?k2xv0) rfl (by kernel_rfl) (by kernel_rfl) (by kernel_rfl) (by decide) (fun _ _ _ h => h) (Or.inl ⟨by rfl, ?k2xhy0⟩) hSS ?_
        case k2xhy0 => (intro wz hSw; (try dsimp only at hSw); go_simp; try (with_reducible rfl))
        refine wpAnyE_one (i := 1) (by kernel_rfl) rfl (fun K hK => ?_)
        go_simp
        refine (pOk f _ _ _ _ _ _ _ hf).mono ?_
        rintro ee w15 ⟨rfl, b7⟩
        rw [h0]
        replace BB := BB.trans (b7.mono BB.size)
        replace hf := hf.below b7
        replace hF := hF.below b7
        replace hV := hV.below b7
        replace hA := hA.below b7
        replace hx := hx.below b7
        replace hy := hy.below b7
        replace q5 := q5.below b7
        replace q10 := q10.below b7
        replace hS := hS.below b7
        clear b7
        clear hSS
        have hSS : (w15.cell? ⟨X5, 0, none⟩ = some (.slice a1 n1 c1) ∧ w15.cell? ⟨X5, 1, none⟩ = some (.slice a2 n2 c2) ∧ w15.cell? ⟨X5, 2, none⟩ = some (.int .i64 f.2.2) ∧ w15.cell? ⟨X10, 0, none⟩ = some (.slice a7 n7 c7) ∧ w15.cell? ⟨X10, 1, none⟩ = some (.slice a8 n8 c8) ∧ w15.cell? ⟨X10, 2, none⟩ = some (.int .i64 (intoP f fs).2.2)) ∧ True := ⟨⟨q5.cell 0, q5.cell 1, q5.cell 2, q10.cell 0, q10.cell 1, q10.cell 2⟩, trivial⟩
        (try dsimp only)
        refine hK.out _ _ ⟨hSS.1, fun _ => trivial⟩ ?_
        clear hK K
        refine wpAnyE_take0 (i := 2) (v := ?k2xv2) rfl (by kernel_rfl) (by kernel_rfl) (by kernel_rfl) (by decide) (fun _ _ _ h => h) (Or.inl ⟨by rfl, ?k2xhy2⟩) hSS ?_
        case k2xhy2 => (intro wz hSw; (try dsimp only at hSw); go_simp; try (with_reducible rfl))
        refine wpAnyE_take0 (i := 3) (v := undef) rfl (by kernel_rfl) (by kernel_rfl) (by kernel_rfl) (by decide) (fun _ _ _ h => h) (Or.inr ⟨by kernel_rfl, rfl⟩) hSS ?_
        refine wpAnyE_take0 (i := 4) (v := undef) rfl (by kernel_rfl) (by kernel_rfl) (by kernel_rfl) (by decide) (fun _ _ _ h => h) (Or.inr ⟨by kernel_rfl, rfl⟩) hSS ?_
        refine wpAnyE_take0 (i := 6) (v := undef) rfl (by kernel_rfl) (by kernel_rfl) (by kernel_rfl) (by decide) (fun _ _ _ h => h) (Or.inr ⟨by kernel_rfl, rfl⟩) hSS ?_
        simp only [Act.put, List.setIfInBounds_toArray, List.set_cons_succ, List.set_cons_zero, List.getElem_toArray, List.getElem_cons_succ, List.getElem_cons_zero]
        refine wpAnyE_take0 (i := 5) (v := undef) rfl (by kernel_rfl) (by kernel_rfl) (by kernel_rfl) (by decide) (fun _ _ _ h => h) (Or.inr ⟨by kernel_rfl, rfl⟩) hSS ?_
        refine wpAnyE_take0 (i := 7) (v := undef) rfl (by kernel_rfl) (by kernel_rfl) (by kernel_rfl) (by decide) (fun _ _ _ h => h) (Or.inr ⟨by kernel_rfl, rfl⟩) hSS ?_
        refine wpAnyE_take0 (i := 8) (v := undef) rfl (by kernel_rfl) (by kernel_rfl) (by kernel_rfl) (by decide) (fun _ _ _ h => h) (Or.inr ⟨by kernel_rfl, rfl⟩) hSS ?_
        refine wpAnyE_one (i := 9) (by kernel_rfl) rfl (fun K hK => ?_)
        go_simp
        refine hK.out _ _ ⟨hSS.1, fun _ => trivial⟩ ?_
        clear hK K
        refine wpAnyE_done (by kernel_rfl) ?_ _
        clear hSS
        have g5_0 := q5.cell 0
        have g5_1 := q5.cell 1
        have g5_2 := q5.cell 2
        have g10_0 := q10.cell 0
        have g10_1 := q10.cell 1
        have g10_2 := q10.cell 2
        simp only [List.getElem?_cons_zero, List.getElem?_cons_succ] at g5_0 g5_1 g5_2 g10_0 g10_1 g10_2
        go_wp2_with fail
        refine (pAt (intoP f fs) V A _ _ _ _ _ _ _ _ _ _ _ _ _ hx hV hA (by omega) (by omega)).mono ?_
        rintro ee w18 ⟨rfl, b9⟩
        clear g5_0 g5_1 g5_2 g10_0 g10_1 g10_2
        replace BB := BB.trans (b9.mono BB.size)
        replace hf := hf.below b9
        replace hF := hF.below b9
        replace hV := hV.below b9
        replace hA := hA.below b9
        replace hx := hx.below b9
        replace hy := hy.below b9
        replace q5 := q5.below b9
        replace q10 := q10.below b9
        replace hS := hS.below b9
        clear b9
        cases h1 : atB (intoP f fs) V A
        · have g5_0 := q5.cell 0
          have g5_1 := q5.cell 1
          have g5_2 := q5.cell 2
          have g10_0 := q10.cell 0
          have g10_1 := q10.cell 1
          have g10_2 := q10.cell 2
          simp only [List.getElem?_cons_zero, List.getElem?_cons_succ] at g5_0 g5_1 g5_2 g10_0 g10_1 g10_2
          go_wp2_with fail
          refine (coHolds_any _).mono ?_
          rintro ee w19 ⟨rfl, bh⟩
          clear g5_0 g5_1 g5_2 g10_0 g10_1 g10_2
          replace BB := BB.trans (bh.mono BB.size)
          replace hf := hf.below bh
          replace hF := hF.below bh
          replace hV := hV.below bh
          replace hA := hA.below bh
          replace hx := hx.below bh
          replace hy := hy.below bh
          replace q5 := q5.below bh
          replace q10 := q10.below bh
          replace hS := hS.below bh
          clear bh
          go_wp2
          go_ret
          exact ⟨rfl, BB⟩
        · obtain ⟨F, G, H, rfl, hval⟩ := into_at hF.lens h1
          have hN3' : N = 3 := HN.out.symm
          subst hN3'
          have HV : Hid (atB f [atP F.frm V A, atP G.frm V A, atP H.frm V A] A = true → atP (intoP f [F, G, H]) V A = atP f [atP F.frm V A, atP G.frm V A, atP H.frm V A] A) := hval
          clear hval
          obtain ⟨ab, ao, rfl, _⟩ := hF 0 (by simp)
          obtain ⟨i0, hi, hz0, hz1, hz2⟩ := info_parts Try.infoInt
          have g5_0 := q5.cell 0
          have g5_1 := q5.cell 1
          have g5_2 := q5.cell 2
          have g10_0 := q10.cell 0
          have g10_1 := q10.cell 1
          have g10_2 := q10.cell 2
          simp only [List.getElem?_cons_zero, List.getElem?_cons_succ] at g5_0 g5_1 g5_2 g10_0 g10_1 g10_2
          go_wp2_with fail
          go_loopw [14, 15] (fun v i wr => ∃ (k : Nat) (xs : List Int), k ≤ 3 ∧ i = .int .i64 k ∧ xs = [atP F.frm V A, atP G.frm V A, atP H.frm V A].take k ∧ JA w18 v xs wr) (fun _ i _ => 3 - (intOf i).toNat)
          case atStart => exact ⟨0, [], by omega, rfl, rfl, JA.lit _⟩
          case round =>
            obtain ⟨k, xs, hk, rfl, hxs, j⟩ := hrel
            have HX : Hid (xs = [atP F.frm V A, atP G.frm V A, atP H.frm V A].take k) := hxs
            clear hxs
            have hb := j.b
            clear g5_0 g5_1 g5_2 g10_0 g10_1 g10_2
            replace BB := BB.trans (hb.mono BB.size)
            replace hf := hf.below hb
            replace hF := hF.below hb
            replace hV := hV.below hb
            replace hA := hA.below hb
            replace hx := hx.below hb
            replace hy := hy.below hb
            replace q5 := q5.below hb
            replace q10 := q10.below hb
            replace hS := hS.below hb
            clear hb
            by_cases hlt : k < 3
            · have hk' : (k : Int) < 3 := by omega
              obtain ⟨b', o', e', c0, c1, c2, hat⟩ := hF k (by simpa using hlt)
              simp only [Option.some.injEq, Addr.mk.injEq, and_true] at e'
              obtain ⟨rfl, rfl⟩ := e'
              have hXk : ([F, G, H][k]?.getD noFV).frm = ([F.frm, G.frm, H.frm][k]?.getD noFV.frm) := by (rcases k with _ | _ | _ | k; rfl; rfl; rfl; omega)
              have HXk : Hid ([atP F.frm V A, atP G.frm V A, atP H.frm V A].take (k + 1) = [atP F.frm V A, atP G.frm V A, atP H.frm V A].take k ++ [atP ([F, G, H][k]?.getD noFV).frm V A]) := by (rcases k with _ | _ | _ | k; rfl; rfl; rfl; omega)
              clear hXk
              generalize [F, G, H][k]?.getD noFV = Y at c0 c1 c2 hat HXk
              have hlen : xs.length = k := by (rw [HX.out, List.length_take]; simp; omega)
              have HLen : Hid (xs.length = k) := hlen
              clear hlen
              have hFA : FA wr Y.a Y.n Y.c Y.m Y.frm := ⟨hat.C, hat.D, hat.hn, hat.hm⟩
              clear hat
              go_wp2_with fail
              refine (pAt Y.frm V A _ _ _ _ _ _ _ _ _ _ _ _ _ hFA hV hA (by omega) (by omega)).mono ?_
              rintro ee w9 ⟨rfl, b9⟩
              have j9 := j.below b9
              obtain ⟨va', cap9, e9, hle9, _, _⟩ := j9.ints
              have hsz := j9.b.size
              rw [HLen.out] at e9
              subst e9
              have ho := (j9.alloc (.cells #[.int .i64 (atP Y.frm V A)] 3)).o
              rw [HLen.out] at ho
              clear j
              go_wp2_with (at_builtin; refine wpList_append_lies _ rfl (.tmp 87) (.tmp 89) 23 rfl w18.heap.size 3 i0 _ 1 8 Try.underlying23 hi hz0 hz1 hz2 rfl (by omega) (.slice va' k cap9) k (xs.map (Value.int .i64)) (by rfl) ho ⟨w9.heap.size, 0, none⟩ 1 1 [.int .i64 (atP Y.frm V A)] (by rfl) (by rfl) (World.news_of_block (cs := #[.int .i64 (atP Y.frm V A)]) (t := 3) (fr := (0, 0)) (heap_alloc_new w9 _)) (by simp [Value.oneCell']) (by omega) (by unfold maxLen; omega) (by omega) (by simp; omega) (w9.heap.size + 1) (by rw [World.size_alloc]) ?_)
              intro g9 cp w10 hown hgrow _ _
              have j10 := j9.app HLen.out hown hgrow
              clear hown hgrow j9
              go_wp2
              go_roundw
              case rel => exact ⟨k + 1, _, by omega, by go_num, by rw [HXk.out, HX.out], j10⟩
              case measure => simp [intOf]; omega
            · have hk' : ¬ (k : Int) < 3 := by omega
              have hxs : xs = [atP F.frm V A, atP G.frm V A, atP H.frm V A] := by (rw [HX.out, List.take_of_length_le (by simp; omega)])
              subst hxs
              obtain ⟨va', cap9, e9, hle9, hI, _⟩ := j.ints
              subst e9
              clear j HX
              have g5_0 := q5.cell 0
              have g5_1 := q5.cell 1
              have g5_2 := q5.cell 2
              have g10_0 := q10.cell 0
              have g10_1 := q10.cell 1
              have g10_2 := q10.cell 2
              simp only [List.getElem?_cons_zero, List.getElem?_cons_succ] at g5_0 g5_1 g5_2 g10_0 g10_1 g10_2
              go_wp2_with fail
              refine (pAt f [atP F.frm V A, atP G.frm V A, atP H.frm V A] A _ _ _ _ _ _ _ _ _ _ _ _ _ hf hI hA (by simp) (by omega)).mono ?_
              rintro ee w19 ⟨rfl, b9⟩
              clear g5_0 g5_1 g5_2 g10_0 g10_1 g10_2
              replace BB := BB.trans (b9.mono BB.size)
              replace hf := hf.below b9
              replace hF := hF.below b9
              replace hV := hV.below b9
              replace hA := hA.below b9
              replace hx := hx.below b9
              replace hy := hy.below b9
              replace hI := hI.below b9
              replace q5 := q5.below b9
              replace q10 := q10.below b9
              replace hS := hS.below b9
              clear b9
              cases h2 : atB f [atP F.frm V A, atP G.frm V A, atP H.frm V A] A
              · go_wp2
                go_ret
                exact ⟨rfl, BB⟩
              · have ee9 : (atP (intoP f [F, G, H]) V A == atP f [atP F.frm V A, atP G.frm V A, atP H.frm V A] A) = true := by rw [HV.out h2]; simp
                go_wp2
                go_ret
                exact ⟨rfl, BB⟩
      · refine wp_region_ends (fun X => X.cell? ⟨X5, 0, none⟩ = some (.slice a1 n1 c1) ∧ X.cell? ⟨X5, 1, none⟩ = some (.slice a2 n2 c2) ∧ X.cell? ⟨X5, 2, none⟩ = some (.int .i64 f.2.2) ∧ X.cell? ⟨X10, 0, none⟩ = some (.slice a7 n7 c7) ∧ X.cell? ⟨X10, 1, none⟩ = some (.slice a8 n8 c8) ∧ X.cell? ⟨X10, 2, none⟩ = some (.int .i64 (intoP f fs).2.2)) (fun _ => True) 9 (by kernel_rfl) ?_
        have dr : Below W13.heap.size W13 W13.drew := (Below.refl _ _).drew
        replace BB := BB.trans (dr.mono BB.size)
        replace hf := hf.below dr
        replace hF := hF.below dr
        replace hV := hV.below dr
        replace hA := hA.below dr
        replace hx := hx.below dr
        replace hy := hy.below dr
        replace q5 := q5.below dr
        replace q10 := q10.below dr
        replace hS := hS.below dr
        clear dr
        obtain ⟨V14, hV14⟩ : ∃ V, V = W13.drew := ⟨_, rfl⟩
        rw [← hV14]
        rw [← hV14] at hf hF hV hA hx hy q5 q10 hS BB
        clear hV14
        have hSS : (V14.cell? ⟨X5, 0, none⟩ = some (.slice a1 n1 c1) ∧ V14.cell? ⟨X5, 1, none⟩ = some (.slice a2 n2 c2) ∧ V14.cell? ⟨X5, 2, none⟩ = some (.int .i64 f.2.2) ∧ V14.cell? ⟨X10, 0, none⟩ = some (.slice a7 n7 c7) ∧ V14.cell? ⟨X10, 1, none⟩ = some (.slice a8 n8 c8) ∧ V14.cell? ⟨X10, 2, none⟩ = some (.int .i64 (intoP f fs).2.2)) ∧ True := ⟨⟨q5.cell 0, q5.cell 1, q5.cell 2, q10.cell 0, q10.cell 1, q10.cell 2⟩, trivial⟩
        refine wpAnyE_take0 (i := 0) (v := ?k3xv0) rfl (by kernel_rfl) (by kernel_rfl) (by kernel_rfl) (by decide) (fun _ _ _ h => h) (Or.inl ⟨by rfl, ?k3xhy0⟩) hSS ?_
        case k3xhy0 => (intro wz hSw; (try dsimp only at hSw); go_simp; try (with_reducible rfl))
        refine wpAnyE_one (i := 1) (by kernel_rfl) rfl (fun K hK => ?_)
        go_simp
        refine (pOk f _ _ _ _ _ _ _ hf).mono ?_
        rintro ee w15 ⟨rfl, b7⟩
        rw [h0]
        replace BB := BB.trans (b7.mono BB.size)
        replace hf := hf.below b7
        replace hF := hF.below b7
        replace hV := hV.below b7
        replace hA := hA.below b7
        replace hx := hx.below b7
        replace hy := hy.below b7
        replace q5 := q5.below b7
        replace q10 := q10.below b7
        replace hS := hS.below b7
        clear b7
        clear hSS
        have hSS : (w15.cell? ⟨X5, 0, none⟩ = some (.slice a1 n1 c1) ∧ w15.cell? ⟨X5, 1, none⟩ = some (.slice a2 n2 c2) ∧ w15.cell? ⟨X5, 2, none⟩ = some (.int .i64 f.2.2) ∧ w15.cell? ⟨X10, 0, none⟩ = some (.slice a7 n7 c7) ∧ w15.cell? ⟨X10, 1, none⟩ = some (.slice a8 n8 c8) ∧ w15.cell? ⟨X10, 2, none⟩ = some (.int .i64 (intoP f fs).2.2)) ∧ True := ⟨⟨q5.cell 0, q5.cell 1, q5.cell 2, q10.cell 0, q10.cell 1, q10.cell 2⟩, trivial⟩
        (try dsimp only)
        refine hK.out _ _ ⟨hSS.1, fun _ => trivial⟩ ?_
        clear hK K
        refine wpAnyE_take0 (i := 2) (v := ?k3xv2) rfl (by kernel_rfl) (by kernel_rfl) (by kernel_rfl) (by decide) (fun _ _ _ h => h) (Or.inl ⟨by rfl, ?k3xhy2⟩) hSS ?_
        case k3xhy2 => (intro wz hSw; (try dsimp only at hSw); go_simp; try (with_reducible rfl))
        refine wpAnyE_take0 (i := 3) (v := ?k3xv3) rfl (by kernel_rfl) (by kernel_rfl) (by kernel_rfl) (by decide) (fun _ _ _ h => h) (Or.inl ⟨by rfl, ?k3xhy3⟩) hSS ?_
        case k3xhy3 => (intro wz hSw; (try dsimp only at hSw); go_simp; try (with_reducible rfl))
        refine wpAnyE_take0 (i := 4) (v := ?k3xv4) rfl (by kernel_rfl) (by kernel_rfl) (by kernel_rfl) (by decide) (fun _ _ _ h => h) (Or.inl ⟨by rfl, ?k3xhy4⟩) hSS ?_
        case k3xhy4 => (intro wz hSw; (try dsimp only at hSw); go_simp; try (with_reducible rfl))
        refine wpAnyE_take0 (i := 6) (v := ?k3xv6) rfl (by kernel_rfl) (by kernel_rfl) (by kernel_rfl) (by decide) (fun _ _ _ h => h) (Or.inl ⟨by rfl, ?k3xhy6⟩) hSS ?_
        case k3xhy6 => (intro wz hSw; (try dsimp only at hSw); go_simp; try (with_reducible rfl))
        simp only [Act.put, List.setIfInBounds_toArray, List.set_cons_succ, List.set_cons_zero, List.getElem_toArray, List.getElem_cons_succ, List.getElem_cons_zero]
        refine wpAnyE_one (i := 5) (by kernel_rfl) rfl (fun K hK => ?_)
        go_simp
        refine (pInto f [⟨d1, d2, d3, e1, e2, e3, (potP 0).2.2, (potP 0).1, (potP 0).2.1⟩, ⟨g1, g2, g3, h1, h2, h3, (potP 1).2.2, (potP 1).1, (potP 1).2.1⟩, ⟨i1, i2, i3, j1, j2, j3, (potP 2).2.2, (potP 2).1, (potP 2).2.1⟩] _ _ _ _ _ _ _ _ _ _ hf (by rfl) hS (by omega)).mono ?_
        rintro ee w16 ⟨k1, k2, k3, l1, l2, l3, rfl, hz, b7⟩
        replace BB := BB.trans (b7.mono BB.size)
        replace hf := hf.below b7
        replace hF := hF.below b7
        replace hV := hV.below b7
        replace hA := hA.below b7
        replace hx := hx.below b7
        replace hy := hy.below b7
        replace q5 := q5.below b7
        replace q10 := q10.below b7
        replace hS := hS.below b7
        clear b7
        clear hSS
        have hSS : (w16.cell? ⟨X5, 0, none⟩ = some (.slice a1 n1 c1) ∧ w16.cell? ⟨X5, 1, none⟩ = some (.slice a2 n2 c2) ∧ w16.cell? ⟨X5, 2, none⟩ = some (.int .i64 f.2.2) ∧ w16.cell? ⟨X10, 0, none⟩ = some (.slice a7 n7 c7) ∧ w16.cell? ⟨X10, 1, none⟩ = some (.slice a8 n8 c8) ∧ w16.cell? ⟨X10, 2, none⟩ = some (.int .i64 (intoP f fs).2.2)) ∧ True := ⟨⟨q5.cell 0, q5.cell 1, q5.cell 2, q10.cell 0, q10.cell 1, q10.cell 2⟩, trivial⟩
        (try dsimp only)
        refine hK.out _ _ ⟨hSS.1, fun _ => trivial⟩ ?_
        clear hK K
        refine wpAnyE_one (i := 7) (by kernel_rfl) rfl (fun K hK => ?_)
        go_simp
        refine (coF_any (intoP f [⟨d1, d2, d3, e1, e2, e3, (potP 0).2.2, (potP 0).1, (potP 0).2.1⟩, ⟨g1, g2, g3, h1, h2, h3, (potP 1).2.2, (potP 1).1, (potP 1).2.1⟩, ⟨i1, i2, i3, j1, j2, j3, (potP 2).2.2, (potP 2).1, (potP 2).2.1⟩]) f _ _ _ _ _ _ _ _ _ _ _ _ _ hz hf).mono ?_
        rintro ee w17 ⟨rfl, b7⟩
        rw [coP_of (HS.out h0)]
        replace BB := BB.trans (b7.mono BB.size)
        replace hf := hf.below b7
        replace hF := hF.below b7
        replace hV := hV.below b7
        replace hA := hA.below b7
        replace hx := hx.below b7
        replace hy := hy.below b7
        replace hz := hz.below b7
        replace q5 := q5.below b7
        replace q10 := q10.below b7
        replace hS := hS.below b7
        clear b7
        clear hSS
        have hSS : (w17.cell? ⟨X5, 0, none⟩ = some (.slice a1 n1 c1) ∧ w17.cell? ⟨X5, 1, none⟩ = some (.slice a2 n2 c2) ∧ w17.cell? ⟨X5, 2, none⟩ = some (.int .i64 f.2.2) ∧ w17.cell? ⟨X10, 0, none⟩ = some (.slice a7 n7 c7) ∧ w17.cell? ⟨X10, 1, none⟩ = some (.slice a8 n8 c8) ∧ w17.cell? ⟨X10, 2, none⟩ = some (.int .i64 (intoP f fs).2.2)) ∧ True := ⟨⟨q5.cell 0, q5.cell 1, q5.cell 2, q10.cell 0, q10.cell 1, q10.cell 2⟩, trivial⟩
        (try dsimp only)
        refine hK.out _ _ ⟨hSS.1, fun _ => trivial⟩ ?_
        clear hK K
        refine wpAnyE_take0 (i := 8) (v := ?k3xv8) rfl (by kernel_rfl) (by kernel_rfl) (by kernel_rfl) (by decide) (fun _ _ _ h => h) (Or.inl ⟨by rfl, ?k3xhy8⟩) hSS ?_
        case k3xhy8 => (intro wz hSw; (try dsimp only at hSw); go_simp; try (with_reducible rfl))
        refine wpAnyE_one (i := 9) (by kernel_rfl) rfl (fun K hK => ?_)
        go_simp
        refine hK.out _ _ ⟨hSS.1, fun _ => trivial⟩ ?_
        clear hK K
        refine wpAnyE_done (by kernel_rfl) ?_ _
        clear hSS
        have g5_0 := q5.cell 0
        have g5_1 := q5.cell 1
        have g5_2 := q5.cell 2
        have g10_0 := q10.cell 0
        have g10_1 := q10.cell 1
        have g10_2 := q10.cell 2
        simp only [List.getElem?_cons_zero, List.getElem?_cons_succ] at g5_0 g5_1 g5_2 g10_0 g10_1 g10_2
        go_wp2_with fail
        refine (pAt (intoP f fs) V A _ _ _ _ _ _ _ _ _ _ _ _ _ hx hV hA (by omega) (by omega)).mono ?_
        rintro ee w18 ⟨rfl, b9⟩
        clear g5_0 g5_1 g5_2 g10_0 g10_1 g10_2
        replace BB := BB.trans (b9.mono BB.size)
        replace hf := hf.below b9
        replace hF := hF.below b9
        replace hV := hV.below b9
        replace hA := hA.below b9
        replace hx := hx.below b9
        replace hy := hy.below b9
        replace hz := hz.below b9
        replace q5 := q5.below b9
        replace q10 := q10.below b9
        replace hS := hS.below b9
        clear b9
        cases h1 : atB (intoP f fs) V A
        · have g5_0 := q5.cell 0
          have g5_1 := q5.cell 1
          have g5_2 := q5.cell 2
          have g10_0 := q10.cell 0
          have g10_1 := q10.cell 1
          have g10_2 := q10.cell 2
          simp only [List.getElem?_cons_zero, List.getElem?_cons_succ] at g5_0 g5_1 g5_2 g10_0 g10_1 g10_2
          go_wp2_with fail
          refine (coHolds_any _).mono ?_
          rintro ee w19 ⟨rfl, bh⟩
          clear g5_0 g5_1 g5_2 g10_0 g10_1 g10_2
          replace BB := BB.trans (bh.mono BB.size)
          replace hf := hf.below bh
          replace hF := hF.below bh
          replace hV := hV.below bh
          replace hA := hA.below bh
          replace hx := hx.below bh
          replace hy := hy.below bh
          replace hz := hz.below bh
          replace q5 := q5.below bh
          replace q10 := q10.below bh
          replace hS := hS.below bh
          clear bh
          go_wp2
          go_ret
          exact ⟨rfl, BB⟩
        · obtain ⟨F, G, H, rfl, hval⟩ := into_at hF.lens h1
          have hN3' : N = 3 := HN.out.symm
          subst hN3'
          have HV : Hid (atB f [atP F.frm V A, atP G.frm V A, atP H.frm V A] A = true → atP (intoP f [F, G, H]) V A = atP f [atP F.frm V A, atP G.frm V A, atP H.frm V A] A) := hval
          clear hval
          obtain ⟨ab, ao, rfl, _⟩ := hF 0 (by simp)
          obtain ⟨i0, hi, hz0, hz1, hz2⟩ := info_parts Try.infoInt
          have g5_0 := q5.cell 0
          have g5_1 := q5.cell 1
          have g5_2 := q5.cell 2
          have g10_0 := q10.cell 0
          have g10_1 := q10.cell 1
          have g10_2 := q10.cell 2
          simp only [List.getElem?_cons_zero, List.getElem?_cons_succ] at g5_0 g5_1 g5_2 g10_0 g10_1 g10_2
          go_wp2_with fail
          go_loopw [14, 15] (fun v i wr => ∃ (k : Nat) (xs : List Int), k ≤ 3 ∧ i = .int .i64 k ∧ xs = [atP F.frm V A, atP G.frm V A, atP H.frm V A].take k ∧ JA w18 v xs wr) (fun _ i _ => 3 - (intOf i).toNat)
          case atStart => exact ⟨0, [], by omega, rfl, rfl, JA.lit _⟩
          case round =>
            obtain ⟨k, xs, hk, rfl, hxs, j⟩ := hrel
            have HX : Hid (xs = [atP F.frm V A, atP G.frm V A, atP H.frm V A].take k) := hxs
            clear hxs
            have hb := j.b
            clear g5_0 g5_1 g5_2 g10_0 g10_1 g10_2
            replace BB := BB.trans (hb.mono BB.size)
            replace hf := hf.below hb
            replace hF := hF.below hb
            replace hV := hV.below hb
            replace hA := hA.below hb
            replace hx := hx.below hb
            replace hy := hy.below hb
            replace hz := hz.below hb
            replace q5 := q5.below hb
            replace q10 := q10.below hb
            replace hS := hS.below hb
            clear hb
            by_cases hlt : k < 3
            · have hk' : (k : Int) < 3 := by omega
              obtain ⟨b', o', e', c0, c1, c2, hat⟩ := hF k (by simpa using hlt)
              simp only [Option.some.injEq, Addr.mk.injEq, and_true] at e'
              obtain ⟨rfl, rfl⟩ := e'
              have hXk : ([F, G, H][k]?.getD noFV).frm = ([F.frm, G.frm, H.frm][k]?.getD noFV.frm) := by (rcases k with _ | _ | _ | k; rfl; rfl; rfl; omega)
              have HXk : Hid ([atP F.frm V A, atP G.frm V A, atP H.frm V A].take (k + 1) = [atP F.frm V A, atP G.frm V A, atP H.frm V A].take k ++ [atP ([F, G, H][k]?.getD noFV).frm V A]) := by (rcases k with _ | _ | _ | k; rfl; rfl; rfl; omega)
              clear hXk
              generalize [F, G, H][k]?.getD noFV = Y at c0 c1 c2 hat HXk
              have hlen : xs.length = k := by (rw [HX.out, List.length_take]; simp; omega)
              have HLen : Hid (xs.length = k) := hlen
              clear hlen
              have hFA : FA wr Y.a Y.n Y.c Y.m Y.frm := ⟨hat.C, hat.D, hat.hn, hat.hm⟩
              clear hat
              go_wp2_with fail
              refine (pAt Y.frm V A _ _ _ _ _ _ _ _ _ _ _ _ _ hFA hV hA (by omega) (by omega)).mono ?_
              rintro ee w9 ⟨rfl, b9⟩
              have j9 := j.below b9
              obtain ⟨va', cap9, e9, hle9, _, _⟩ := j9.ints
              have hsz := j9.b.size
              rw [HLen.out] at e9
              subst e9
              have ho := (j9.alloc (.cells #[.int .i64 (atP Y.frm V A)] 3)).o
              rw [HLen.out] at ho
              clear j
              go_wp2_with (at_builtin; refine wpList_append_lies _ rfl (.tmp 87) (.tmp 89) 23 rfl w18.heap.size 3 i0 _ 1 8 Try.underlying23 hi hz0 hz1 hz2 rfl (by omega) (.slice va' k cap9) k (xs.map (Value.int .i64)) (by rfl) ho ⟨w9.heap.size, 0, none⟩ 1 1 [.int .i64 (atP Y.frm V A)] (by rfl) (by rfl) (World.news_of_block (cs := #[.int .i64 (atP Y.frm V A)]) (t := 3) (fr := (0, 0)) (heap_alloc_new w9 _)) (by simp [Value.oneCell']) (by omega) (by unfold maxLen; omega) (by omega) (by simp; omega) (w9.heap.size + 1) (by rw [World.size_alloc]) ?_)
              intro g9 cp w10 hown hgrow _ _
              have j10 := j9.app HLen.out hown hgrow
              clear hown hgrow j9
              go_wp2
              go_roundw
              case rel => exact ⟨k + 1, _, by omega, by go_num, by rw [HXk.out, HX.out], j10⟩
              case measure => simp [intOf]; omega
            · have hk' : ¬ (k : Int) < 3 := by omega
              have hxs : xs = [atP F.frm V A, atP G.frm V A, atP H.frm V A] := by (rw [HX.out, List.take_of_length_le (by simp; omega)])
              subst hxs
              obtain ⟨va', cap9, e9, hle9, hI, _⟩ := j.ints
              subst e9
              clear j HX
              have g5_0 := q5.cell 0
              have g5_1 := q5.cell 1
              have g5_2 := q5.cell 2
              have g10_0 := q10.cell 0
              have g10_1 := q10.cell 1
              have g10_2 := q10.cell 2
              simp only [List.getElem?_cons_zero, List.getElem?_cons_succ] at g5_0 g5_1 g5_2 g10_0 g10_1 g10_2
              go_wp2_with fail
              refine (pAt f [atP F.frm V A, atP G.frm V A, atP H.frm V A] A _ _ _ _ _ _ _ _ _ _ _ _ _ hf hI hA (by simp) (by omega)).mono ?_
              rintro ee w19 ⟨rfl, b9⟩
              clear g5_0 g5_1 g5_2 g10_0 g10_1 g10_2
              replace BB := BB.trans (b9.mono BB.size)
              replace hf := hf.below b9
              replace hF := hF.below b9
              replace hV := hV.below b9
              replace hA := hA.below b9
              replace hx := hx.below b9
              replace hy := hy.below b9
              replace hz := hz.below b9
              replace hI := hI.below b9
              replace q5 := q5.below b9
              replace q10 := q10.below b9
              replace hS := hS.below b9
              clear b9
              cases h2 : atB f [atP F.frm V A, atP G.frm V A, atP H.frm V A] A
              · go_wp2
                go_ret
                exact ⟨rfl, BB⟩
              · have ee9 : (atP (intoP f [F, G, H]) V A == atP f [atP F.frm V A, atP G.frm V A, atP H.frm V A] A) = true := by rw [HV.out h2]; simp
                go_wp2
                go_ret
                exact ⟨rfl, BB⟩
    · go_enter Try.func5, Try.ntmps5
      go_wp2
      go_ret
      exact ⟨rfl, Below.refl _ _⟩
  · go_enter Try.func5, Try.ntmps5
    go_wp2
    go_ret
    exact ⟨rfl, Below.refl _ _⟩

/-! ### The row's step -/
set_option maxRecDepth 100000 in
theorem lifted (os : Os) (started : os.Started) (H : Type) (enc : TypeId × Value → H) :
    ReturnsInHanded {} Try.checked os 5 .any (Rows.fnFrmIntoSpec.pre6 enc Try.prog Try.f5 Rows.fnFrmIntoRow.domain false) (Rows.fnFrmIntoSpec.post enc Try.prog Try.f5 false true false false) := by
  refine returnsInHanded_of_change (C := Try.checked) own started (by kernel_rfl) Try.func5
    (ChangeSpec.witness6 (enc := enc) (C := Try.checked) false ⟨#[], #[.slice none 0 0, .slice none 0 0], []⟩ 8 (by kernel_rfl) (by kernel_rfl) (by kernel_rfl) (by kernel_rfl)) ?_
  intro W base args ds gs before hval0 hW hcnd _
  have hval : ∀ (j : Nat) t v, Try.f5.params[j]? = some t → args[j]? = some v → Value.okWide Try.prog W .any base t v := hval0
  have hW' := hW
  obtain ⟨p, q, hA0, hV, rfl, hfz, hnd⟩ := hW
  have hA : DataW.TrodAll enc Try.prog W 0 (fun _ => true) true Try.f5.params.toList args.toList ds p := hA0
  rw [Try.params5] at hA hval
  obtain ⟨v0, vs0, d0, ds0, p0, q0, hargs, rfl, rfl, h0, r0⟩ := trodAll_cons hA
  obtain ⟨v1, vs1, d1, ds1, p1, q1, rfl, rfl, rfl, h1, r1⟩ := trodAll_cons r0
  obtain ⟨rfl, rfl, rfl⟩ := trodAll_nil r1
  obtain rfl : args = #[v0, v1] := by cases args; simp_all
  obtain ⟨rfl, rfl⟩ := trodVars_none hV
  have k0 := h0
  have lt0 : ∀ x ∈ p0, x.block < W.heap.size := by obtain ⟨m, hm⟩ := k0; exact DataW.trod_lt m _ _ _ hm
  obtain ⟨a0, n0, cap0, C0, rfl, hC0, hn0⟩ := open_bytesT (hval 0 22 v0 rfl rfl) h0
  have k1 := h1
  have lt1 : ∀ x ∈ p1, x.block < W.heap.size := by obtain ⟨m, hm⟩ := k1; exact DataW.trod_lt m _ _ _ hm
  obtain ⟨a1, n1, cap1, C1, rfl, hC1, hn1⟩ := open_bytesT (hval 1 22 v1 rfl rfl) h1
  clear hA0 hval0
  refine (walk W a0 n0 cap0 C0 hC0 hn0 a1 n1 cap1 C1 hC1 hn1).mono fun e W' ⟨he, bel⟩ => ?_
  subst he
  exact ⟨_, rfl, _, _, _, [], _, [], hW', trodAll_mk1 (shut_bool Try.underlying4 _), (trodAll_cons_mk (Below.trod laidOut (by kernel_rfl) (of_decide_eq_true (by kernel_rfl)) k0 bel lt0) (trodAll_cons_mk (Below.trod laidOut (by kernel_rfl) (of_decide_eq_true (by kernel_rfl)) k1 bel lt1) trodAll_mk0)), rfl, bel.frame _, fun h => by cases h⟩

theorem over : Rows.fnFrmIntoRow.holds Try.pinned (OpenSpec.ofChange Rows.fnFrmIntoSpec) :=
  OpenClaim.holds_of_wide 5 Try.f5 rfl rfl rfl rfl rfl rfl rfl ⟨rfl, rfl, rfl, rfl, rfl⟩ rfl rfl rfl rfl rfl (by kernel_rfl) Try.func5 (by kernel_rfl)
    (of_decide_eq_true (by kernel_rfl)) (by unfold Func.isWrapper; first | (rw [if_pos (by decide +kernel)]; kernel_rfl) | (rw [if_neg (by decide +kernel)]; exact ⟨rfl, rfl⟩))
    (fun os started H enc _ => lifted os started H enc)

end Go.Proofs.Ytjhbapgpeimlhaa.fnFrmInto
namespace Go.Proofs.Ytjhbapgpeimlhaa
/-- The statement. -/
theorem fnFrmInto_holds : Rows.FnFrmIntoSaid := fnFrmInto.over
#print axioms fnFrmInto_holds
end Go.Proofs.Ytjhbapgpeimlhaa
