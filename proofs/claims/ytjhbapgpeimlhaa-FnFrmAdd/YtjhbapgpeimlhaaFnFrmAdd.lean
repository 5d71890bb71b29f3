/-
  For all bytes FnFrmAdd returns true, and what came in reads behind the call as it did. No condition. (what a sum is is what both are)
-/
import Derived.Test.YtjhbapgpeimlhaaDrL
import Derived.Test.YtjhbapgpeimlhaaOpen
namespace Go.Proofs.Ytjhbapgpeimlhaa.fnFrmAdd
open Go.ChangeShapes Go.WideShapes Go.ChangeAt Go.RowKit
set_option linter.unusedVariables false
set_option maxRecDepth 100000

theorem open_bytesT {H : Type} {enc : TypeId × Value → H} {W : World} {r : Reach} {b0 : Nat} {v : Value} {d : DataW H} {p : List MemPlace}
    (hv : Value.okWide Try.prog W r b0 22 v) (h : DataW.Trod enc Try.prog W 0 (fun _ => true) true 22 v d p) : ∃ a n cap zs, v = .slice a n cap ∧ BInts W a n zs ∧ (n ≤ cap ∧ cap ≤ maxLen) := by
  obtain ⟨a0, len0, cap0, rfl⟩ := okWide_slice Try.underlying22 hv
  obtain ⟨fuel, hf⟩ := h
  rcases open_ints Try.underlying22 Try.underlying5 (by kernel_rfl) hf with ⟨hcs, _⟩ | ⟨x, l, c, zs, hcs, _, hl, hm, hz, _, hcell, hwz⟩
  · simp [Value.cells] at hcs
    obtain ⟨rfl, rfl, rfl⟩ := hcs
    exact ⟨none, 0, 0, [], rfl, ⟨rfl, fun i hi => by omega, fun i => by simp⟩, by omega, by unfold maxLen; omega⟩
  · simp [Value.cells] at hcs
    obtain ⟨rfl, rfl, rfl⟩ := hcs
    have hz' : zs.length = cap0 := by simpa using hz
    refine ⟨some x, len0, cap0, zs.take len0, rfl, ⟨by rw [List.length_take]; omega, fun i hi => ?_, fun i => ?_⟩, hl, hm⟩
    · obtain ⟨b, off, spot⟩ := x
      have hc0 := hcell 0 (by omega)
      have hspot : spot = none := by simpa [Addr.add] using World.cell?_spot hc0
      subst hspot
      refine ⟨b, off, rfl, ?_⟩
      have hc := hcell i (by omega)
      have : W.cell? ⟨b, off + i, none⟩ = some (.int .u8 (zs.getD i 0)) := by
        by_cases h0 : i = 0
        · subst h0; simpa [Addr.add] using hc
        · simpa [Addr.add, h0] using hc
      rw [this]
      simp [hi]
    · by_cases hi : i < (zs.take len0).length
      · rw [List.getElem?_eq_getElem hi]
        have := hwz _ (List.mem_of_mem_take (List.getElem_mem hi))
        simpa [Lit.wf, IntKind.min, IntKind.max, IntKind.signed, IntKind.bits] using this
      · rw [List.getElem?_eq_none (by omega)]
        simp

theorem fOk_elim {f : Frm} (h : okP f = true) : f.1.length = 3 ∧ f.2.1.length = 2 := by
  have := formB_elim h
  exact ⟨this.1, this.2.1⟩
theorem add_comm' (f g : Frm) : addP f g = addP g f := by
  obtain ⟨C, D, K⟩ := f
  obtain ⟨C', D', K'⟩ := g
  have e1 : lin C C' 1 = lin C' C 1 := by
    unfold lin
    rw [List.zipWith_comm]
    congr 1
    funext x y
    omega
  have e2 : lin D D' 1 = lin D' D 1 := by
    unfold lin
    rw [List.zipWith_comm]
    congr 1
    funext x y
    omega
  have e3 : K + 1 * K' = K' + 1 * K := by omega
  have e4 : addB (C, D, K) (C', D', K') = addB (C', D', K') (C, D, K) := by
    unfold addB addOk
    dsimp only
    rw [e1, e2, e3, Bool.and_comm (formB C.length D.length C D K)]
  unfold addP
  rw [e4]
  dsimp only
  rw [e1, e2, e3]
theorem dot_lin {xs ys V : List Int} {k : Nat} (h1 : xs.length = k) (h2 : ys.length = k) : ∀ j, j ≤ k → dot (lin xs ys 1) V j = dot xs V j + dot ys V j
  | 0, _ => by simp [dot]
  | j + 1, hj => by
    have ih := dot_lin (V := V) h1 h2 j (by omega)
    have e := lin_get (n := 1) h1 h2 (show j < k by omega)
    simp only [dot, ih, e]
    rw [Int.add_mul, Int.one_mul]
    omega
theorem add_at (f g : Frm) (V A : List Int) (h : atB (addP f g) V A = true) : atB f V A = true ∧ atB g V A = true ∧ atP (addP f g) V A = atP f V A + atP g V A := by
  have hb : addB f g = true := by
    cases hb : addB f g
    · unfold atB atOk addP at h
      rw [hb] at h
      simp [keepL, keepK, formB, okN] at h
    · rfl
  have e : addP f g = (lin f.1 g.1 1, lin f.2.1 g.2.1 1, f.2.2 + 1 * g.2.2) := by unfold addP; rw [hb]; rfl
  have hb' := hb
  unfold addB addOk at hb'
  simp only [Bool.and_eq_true] at hb'
  obtain ⟨⟨h1, h2⟩, h3⟩ := hb'
  have h' := h
  unfold atB atOk at h'
  simp only [Bool.and_eq_true] at h'
  obtain ⟨⟨_, hV⟩, hA⟩ := h'
  have t1 : atB f V A = true := by unfold atB atOk; rw [h1, hV, hA]; rfl
  have t2 : atB g V A = true := by unfold atB atOk; rw [h2, hV, hA]; rfl
  refine ⟨t1, t2, ?_⟩
  have l1 := formB_elim h1
  have l2 := formB_elim h2
  unfold atP
  rw [atN_yes h, atN_yes t1, atN_yes t2, e]
  unfold atV
  rw [dot_lin l1.1 l2.1 3 (by omega), dot_lin l1.2.1 l2.2.1 2 (by omega)]
  dsimp only
  omega
theorem add_bnd {f : Frm} {V A : List Int} : -10000000000000 ≤ atP f V A ∧ atP f V A ≤ 10000000000000 := by
  unfold atP
  cases h : atOk f.1.length f.2.1.length V.length A.length f.1 f.2.1 f.2.2 V A
  · rw [atN_no h]; omega
  · rw [atN_yes h]
    unfold atOk at h
    simp only [Bool.and_eq_true] at h
    obtain ⟨⟨h1, h2⟩, h3⟩ := h
    obtain ⟨_, _, b1, b2, b3, b4⟩ := formB_elim h1
    have v1 := (okN_elim (by omega) h2).2
    have a1 := (okN_elim (by omega) h3).2
    have d1 := dot_bnd (bndP_of b1 v1 (by omega) (by omega)) 3
    have d2 := dot_bnd (bndP_of b2 a1 (by omega) (by omega)) 2
    unfold atV
    omega

set_option maxHeartbeats 6400000 in
theorem walk (w : World) (a : Option Addr) (n cap : Nat) (A0 : List Int) (hA0 : BInts w a n A0) (hn : n ≤ cap ∧ cap ≤ maxLen) (c : Option Addr) (m cap' : Nat) (B0 : List Int) (hB0 : BInts w c m B0) (hm : m ≤ cap' ∧ cap' ≤ maxLen) :
    Calls Try.prog 3 #[.slice a n cap, .slice c m cap'] w fun e w' => e = .returned (.bool true) ∧ Below w.heap.size w w' := by
  obtain ⟨hn2, hn3⟩ := hn
  obtain ⟨hm2, hm3⟩ := hm
  by_cases hn1 : n ≤ 1048576
  · by_cases hm1 : m ≤ 1048576
    · go_enter Try.func3, Try.ntmps3
      go_wp2_with fail
      refine (dAdd _ _ _ A0 _ hA0 hn2 hn1 hn3).mono ?_
      rintro ee w1 ⟨a1, n1, c1, a2, n2, c2, f, a3, n3, c3, a4, n4, c4, g, rfl, b1, hf, hg⟩
      have BB := b1
      replace hB0 := hB0.below b1
      clear b1
      have al := (Below.refl (w1).heap.size (w1)).alloc (Nat.le_refl _) (.cells #[.slice a1 n1 c1, .slice a2 n2 c2, .int .i64 f.2.2] 25)
      replace BB := BB.trans (al.mono BB.size)
      replace hB0 := hB0.below al
      replace hf := hf.below al
      replace hg := hg.below al
      clear al
      have q5 := Cel.new (w1) [.slice a1 n1 c1, .slice a2 n2 c2, .int .i64 f.2.2] 25
      have al := (Below.refl ((w1).alloc (.cells #[.slice a1 n1 c1, .slice a2 n2 c2, .int .i64 f.2.2] 25)).heap.size ((w1).alloc (.cells #[.slice a1 n1 c1, .slice a2 n2 c2, .int .i64 f.2.2] 25))).alloc (Nat.le_refl _) (.cells #[.slice a3 n3 c3, .slice a4 n4 c4, .int .i64 g.2.2] 25)
      replace BB := BB.trans (al.mono BB.size)
      replace hB0 := hB0.below al
      replace hf := hf.below al
      replace hg := hg.below al
      replace q5 := q5.below al
      clear al
      have q6 := Cel.new ((w1).alloc (.cells #[.slice a1 n1 c1, .slice a2 n2 c2, .int .i64 f.2.2] 25)) [.slice a3 n3 c3, .slice a4 n4 c4, .int .i64 g.2.2] 25
      simp only [World.size_alloc] at q6
      have g5_0 := q5.cell 0
      have g5_1 := q5.cell 1
      have g5_2 := q5.cell 2
      have g6_0 := q6.cell 0
      have g6_1 := q6.cell 1
      have g6_2 := q6.cell 2
      simp only [List.getElem?_cons_zero, List.getElem?_cons_succ] at g5_0 g5_1 g5_2 g6_0 g6_1 g6_2
      go_wp2_with fail
      obtain ⟨W2, hW2⟩ : ∃ W, W = ((w1).alloc (.cells #[.slice a1 n1 c1, .slice a2 n2 c2, .int .i64 f.2.2] 25)).alloc (.cells #[.slice a3 n3 c3, .slice a4 n4 c4, .int .i64 g.2.2] 25) := ⟨_, rfl⟩
      rw [← hW2]
      rw [← hW2] at hB0 hf hg q5 q6 BB g5_0 g5_1 g5_2 g6_0 g6_1 g6_2
      clear hW2
      obtain ⟨X6, hX6⟩ : ∃ x, x = w1.heap.size + 1 := ⟨_, rfl⟩
      rw [← hX6]
      rw [← hX6] at q6 g6_0 g6_1 g6_2
      clear hX6
      obtain ⟨X5, hX5⟩ : ∃ x, x = w1.heap.size := ⟨_, rfl⟩
      rw [← hX5]
      rw [← hX5] at q5 g5_0 g5_1 g5_2
      clear hX5
      refine (dAt _ _ _ B0 _ hB0 hm2 hm1 hm3).mono ?_
      rintro ee w3 ⟨a5, n5, c5, a6, n6, c6, f0, va, p, cv, V, ua, q, cu, A, rfl, b2, _, hV, hA, hp, hq⟩
      clear g5_0 g5_1 g5_2 g6_0 g6_1 g6_2
      replace BB := BB.trans (b2.mono BB.size)
      replace hB0 := hB0.below b2
      replace hf := hf.below b2
      replace hg := hg.below b2
      replace q5 := q5.below b2
      replace q6 := q6.below b2
      clear b2
      clear hB0
      have al := (Below.refl (w3).heap.size (w3)).alloc (Nat.le_refl _) (.cells #[.slice a5 n5 c5, .slice a6 n6 c6, .int .i64 f0.2.2] 25)
      replace BB := BB.trans (al.mono BB.size)
      replace hf := hf.below al
      replace hg := hg.below al
      replace hV := hV.below al
      replace hA := hA.below al
      replace q5 := q5.below al
      replace q6 := q6.below al
      clear al
      have q7 := Cel.new (w3) [.slice a5 n5 c5, .slice a6 n6 c6, .int .i64 f0.2.2] 25
      have g5_0 := q5.cell 0
      have g5_1 := q5.cell 1
      have g5_2 := q5.cell 2
      have g6_0 := q6.cell 0
      have g6_1 := q6.cell 1
      have g6_2 := q6.cell 2
      have g7_0 := q7.cell 0
      have g7_1 := q7.cell 1
      have g7_2 := q7.cell 2
      simp only [List.getElem?_cons_zero, List.getElem?_cons_succ] at g5_0 g5_1 g5_2 g6_0 g6_1 g6_2 g7_0 g7_1 g7_2
      go_wp2_with fail
      obtain ⟨W4, hW4⟩ : ∃ W, W = (w3).alloc (.cells #[.slice a5 n5 c5, .slice a6 n6 c6, .int .i64 f0.2.2] 25) := ⟨_, rfl⟩
      rw [← hW4]
      rw [← hW4] at hf hg hV hA q5 q6 q7 BB g5_0 g5_1 g5_2 g6_0 g6_1 g6_2 g7_0 g7_1 g7_2
      clear hW4
      obtain ⟨X7, hX7⟩ : ∃ x, x = w3.heap.size := ⟨_, rfl⟩
      rw [← hX7]
      rw [← hX7] at q7 g7_0 g7_1 g7_2
      clear hX7
      refine (pAdd f g _ _ _ _ _ _ _ _ _ _ _ _ _ hf hg).mono ?_
      rintro ee w5 ⟨a7, n7, c7, a8, n8, c8, rfl, hx, b3⟩
      clear g5_0 g5_1 g5_2 g6_0 g6_1 g6_2 g7_0 g7_1 g7_2
      replace BB := BB.trans (b3.mono BB.size)
      replace hf := hf.below b3
      replace hg := hg.below b3
      replace hV := hV.below b3
      replace hA := hA.below b3
      replace q5 := q5.below b3
      replace q6 := q6.below b3
      replace q7 := q7.below b3
      clear b3
      clear q7
      have al := (Below.refl (w5).heap.size (w5)).alloc (Nat.le_refl _) (.cells #[.slice a7 n7 c7, .slice a8 n8 c8, .int .i64 (addP f g).2.2] 25)
      replace BB := BB.trans (al.mono BB.size)
      replace hf := hf.below al
      replace hg := hg.below al
      replace hV := hV.below al
      replace hA := hA.below al
      replace hx := hx.below al
      replace q5 := q5.below al
      replace q6 := q6.below al
      clear al
      have q10 := Cel.new (w5) [.slice a7 n7 c7, .slice a8 n8 c8, .int .i64 (addP f g).2.2] 25
      go_upto_region 6 with fail
      obtain ⟨W6, hW6⟩ : ∃ W, W = (w5).alloc (.cells #[.slice a7 n7 c7, .slice a8 n8 c8, .int .i64 (addP f g).2.2] 25) := ⟨_, rfl⟩
      rw [← hW6]
      rw [← hW6] at hf hg hV hA hx q5 q6 q10 BB
      clear hW6
      obtain ⟨X10, hX10⟩ : ∃ x, x = w5.heap.size := ⟨_, rfl⟩
      rw [← hX10]
      rw [← hX10] at q10
      clear hX10
      refine wp_region_ends (fun X => X.cell? ⟨X5, 0, none⟩ = some (.slice a1 n1 c1) ∧ X.cell? ⟨X5, 1, none⟩ = some (.slice a2 n2 c2) ∧ X.cell? ⟨X5, 2, none⟩ = some (.int .i64 f.2.2) ∧ X.cell? ⟨X6, 0, none⟩ = some (.slice a3 n3 c3) ∧ X.cell? ⟨X6, 1, none⟩ = some (.slice a4 n4 c4) ∧ X.cell? ⟨X6, 2, none⟩ = some (.int .i64 g.2.2) ∧ X.cell? ⟨X10, 0, none⟩ = some (.slice a7 n7 c7) ∧ X.cell? ⟨X10, 1, none⟩ = some (.slice a8 n8 c8) ∧ X.cell? ⟨X10, 2, none⟩ = some (.int .i64 (addP f g).2.2)) (fun _ => True) 13 (by kernel_rfl) ?_
      have dr : Below W6.heap.size W6 W6.drew := (Below.refl _ _).drew
      replace BB := BB.trans (dr.mono BB.size)
      replace hf := hf.below dr
      replace hg := hg.below dr
      replace hV := hV.below dr
      replace hA := hA.below dr
      replace hx := hx.below dr
      replace q5 := q5.below dr
      replace q6 := q6.below dr
      replace q10 := q10.below dr
      clear dr
      obtain ⟨V7, hV7⟩ : ∃ V, V = W6.drew := ⟨_, rfl⟩
      rw [← hV7]
      rw [← hV7] at hf hg hV hA hx q5 q6 q10 BB
      clear hV7
      have hSS : (V7.cell? ⟨X5, 0, none⟩ = some (.slice a1 n1 c1) ∧ V7.cell? ⟨X5, 1, none⟩ = some (.slice a2 n2 c2) ∧ V7.cell? ⟨X5, 2, none⟩ = some (.int .i64 f.2.2) ∧ V7.cell? ⟨X6, 0, none⟩ = some (.slice a3 n3 c3) ∧ V7.cell? ⟨X6, 1, none⟩ = some (.slice a4 n4 c4) ∧ V7.cell? ⟨X6, 2, none⟩ = some (.int .i64 g.2.2) ∧ V7.cell? ⟨X10, 0, none⟩ = some (.slice a7 n7 c7) ∧ V7.cell? ⟨X10, 1, none⟩ = some (.slice a8 n8 c8) ∧ V7.cell? ⟨X10, 2, none⟩ = some (.int .i64 (addP f g).2.2)) ∧ True := ⟨⟨q5.cell 0, q5.cell 1, q5.cell 2, q6.cell 0, q6.cell 1, q6.cell 2, q10.cell 0, q10.cell 1, q10.cell 2⟩, trivial⟩
      refine wpAnyE_take0 (i := 0) (v := ?kv0) rfl (by kernel_rfl) (by kernel_rfl) (by kernel_rfl) (by decide) (fun _ _ _ h => h) (Or.inl ⟨by rfl, ?khy0⟩) hSS ?_
      case khy0 => (intro wz hSw; (try dsimp only at hSw); go_simp; try (with_reducible rfl))
      refine wpAnyE_take0 (i := 1) (v := ?kv1) rfl (by kernel_rfl) (by kernel_rfl) (by kernel_rfl) (by decide) (fun _ _ _ h => h) (Or.inl ⟨by rfl, ?khy1⟩) hSS ?_
      case khy1 => (intro wz hSw; (try dsimp only at hSw); go_simp; try (with_reducible rfl))
      refine wpAnyE_take0 (i := 2) (v := ?kv2) rfl (by kernel_rfl) (by kernel_rfl) (by kernel_rfl) (by decide) (fun _ _ _ h => h) (Or.inl ⟨by rfl, ?khy2⟩) hSS ?_
      case khy2 => (intro wz hSw; (try dsimp only at hSw); go_simp; try (with_reducible rfl))
      refine wpAnyE_one (i := 3) (by kernel_rfl) rfl (fun K hK => ?_)
      go_simp
      refine (qAdd f g _ _ _ _ _ _ _ _ _ _ _ _ _ hf hg).mono ?_
      rintro ee w8 ⟨a9, n9, c9, ax, nx, cx, rfl, hy, b4⟩
      replace BB := BB.trans (b4.mono BB.size)
      replace hf := hf.below b4
      replace hg := hg.below b4
      replace hV := hV.below b4
      replace hA := hA.below b4
      replace hx := hx.below b4
      replace q5 := q5.below b4
      replace q6 := q6.below b4
      replace q10 := q10.below b4
      clear b4
      clear hSS
      have hSS : (w8.cell? ⟨X5, 0, none⟩ = some (.slice a1 n1 c1) ∧ w8.cell? ⟨X5, 1, none⟩ = some (.slice a2 n2 c2) ∧ w8.cell? ⟨X5, 2, none⟩ = some (.int .i64 f.2.2) ∧ w8.cell? ⟨X6, 0, none⟩ = some (.slice a3 n3 c3) ∧ w8.cell? ⟨X6, 1, none⟩ = some (.slice a4 n4 c4) ∧ w8.cell? ⟨X6, 2, none⟩ = some (.int .i64 g.2.2) ∧ w8.cell? ⟨X10, 0, none⟩ = some (.slice a7 n7 c7) ∧ w8.cell? ⟨X10, 1, none⟩ = some (.slice a8 n8 c8) ∧ w8.cell? ⟨X10, 2, none⟩ = some (.int .i64 (addP f g).2.2)) ∧ True := ⟨⟨q5.cell 0, q5.cell 1, q5.cell 2, q6.cell 0, q6.cell 1, q6.cell 2, q10.cell 0, q10.cell 1, q10.cell 2⟩, trivial⟩
      (try dsimp only)
      refine hK.out _ _ ⟨hSS.1, fun _ => trivial⟩ ?_
      clear hK K
      refine wpAnyE_one (i := 4) (by kernel_rfl) rfl (fun K hK => ?_)
      go_simp
      refine (coF_any (addP f g) (addP f g) _ _ _ _ _ _ _ _ _ _ _ _ _ hx hy).mono ?_
      rintro ee w9 ⟨rfl, b5⟩
      rw [coP_same]
      replace BB := BB.trans (b5.mono BB.size)
      replace hf := hf.below b5
      replace hg := hg.below b5
      replace hV := hV.below b5
      replace hA := hA.below b5
      replace hx := hx.below b5
      replace hy := hy.below b5
      replace q5 := q5.below b5
      replace q6 := q6.below b5
      replace q10 := q10.below b5
      clear b5
      clear hSS
      have hSS : (w9.cell? ⟨X5, 0, none⟩ = some (.slice a1 n1 c1) ∧ w9.cell? ⟨X5, 1, none⟩ = some (.slice a2 n2 c2) ∧ w9.cell? ⟨X5, 2, none⟩ = some (.int .i64 f.2.2) ∧ w9.cell? ⟨X6, 0, none⟩ = some (.slice a3 n3 c3) ∧ w9.cell? ⟨X6, 1, none⟩ = some (.slice a4 n4 c4) ∧ w9.cell? ⟨X6, 2, none⟩ = some (.int .i64 g.2.2) ∧ w9.cell? ⟨X10, 0, none⟩ = some (.slice a7 n7 c7) ∧ w9.cell? ⟨X10, 1, none⟩ = some (.slice a8 n8 c8) ∧ w9.cell? ⟨X10, 2, none⟩ = some (.int .i64 (addP f g).2.2)) ∧ True := ⟨⟨q5.cell 0, q5.cell 1, q5.cell 2, q6.cell 0, q6.cell 1, q6.cell 2, q10.cell 0, q10.cell 1, q10.cell 2⟩, trivial⟩
      (try dsimp only)
      refine hK.out _ _ ⟨hSS.1, fun _ => trivial⟩ ?_
      clear hK K
      refine wpAnyE_take0 (i := 5) (v := ?kv5) rfl (by kernel_rfl) (by kernel_rfl) (by kernel_rfl) (by decide) (fun _ _ _ h => h) (Or.inl ⟨by rfl, ?khy5⟩) hSS ?_
      case khy5 => (intro wz hSw; (try dsimp only at hSw); go_simp; try (with_reducible rfl))
      refine wpAnyE_take0 (i := 6) (v := ?kv6) rfl (by kernel_rfl) (by kernel_rfl) (by kernel_rfl) (by decide) (fun _ _ _ h => h) (Or.inl ⟨by rfl, ?khy6⟩) hSS ?_
      case khy6 => (intro wz hSw; (try dsimp only at hSw); go_simp; try (with_reducible rfl))
      refine wpAnyE_take0 (i := 7) (v := ?kv7) rfl (by kernel_rfl) (by kernel_rfl) (by kernel_rfl) (by decide) (fun _ _ _ h => h) (Or.inl ⟨by rfl, ?khy7⟩) hSS ?_
      case khy7 => (intro wz hSw; (try dsimp only at hSw); go_simp; try (with_reducible rfl))
      refine wpAnyE_take0 (i := 8) (v := ?kv8) rfl (by kernel_rfl) (by kernel_rfl) (by kernel_rfl) (by decide) (fun _ _ _ h => h) (Or.inl ⟨by rfl, ?khy8⟩) hSS ?_
      case khy8 => (intro wz hSw; (try dsimp only at hSw); go_simp; try (with_reducible rfl))
      simp only [Act.put, List.setIfInBounds_toArray, List.set_cons_succ, List.set_cons_zero, List.getElem_toArray, List.getElem_cons_succ, List.getElem_cons_zero]
      refine wpAnyE_take0 (i := 9) (v := ?kv9) rfl (by kernel_rfl) (by kernel_rfl) (by kernel_rfl) (by decide) (fun _ _ _ h => h) (Or.inl ⟨by rfl, ?khy9⟩) hSS ?_
      case khy9 => (intro wz hSw; (try dsimp only at hSw); go_simp; try (with_reducible rfl))
      refine wpAnyE_one (i := 10) (by kernel_rfl) rfl (fun K hK => ?_)
      go_simp
      refine (pAdd g f _ _ _ _ _ _ _ _ _ _ _ _ _ hg hf).mono ?_
      rintro ee w10 ⟨ay, ny, cy, az, nz, cz, rfl, hz, b6⟩
      replace BB := BB.trans (b6.mono BB.size)
      replace hf := hf.below b6
      replace hg := hg.below b6
      replace hV := hV.below b6
      replace hA := hA.below b6
      replace hx := hx.below b6
      replace hy := hy.below b6
      replace q5 := q5.below b6
      replace q6 := q6.below b6
      replace q10 := q10.below b6
      clear b6
      clear hSS
      have hSS : (w10.cell? ⟨X5, 0, none⟩ = some (.slice a1 n1 c1) ∧ w10.cell? ⟨X5, 1, none⟩ = some (.slice a2 n2 c2) ∧ w10.cell? ⟨X5, 2, none⟩ = some (.int .i64 f.2.2) ∧ w10.cell? ⟨X6, 0, none⟩ = some (.slice a3 n3 c3) ∧ w10.cell? ⟨X6, 1, none⟩ = some (.slice a4 n4 c4) ∧ w10.cell? ⟨X6, 2, none⟩ = some (.int .i64 g.2.2) ∧ w10.cell? ⟨X10, 0, none⟩ = some (.slice a7 n7 c7) ∧ w10.cell? ⟨X10, 1, none⟩ = some (.slice a8 n8 c8) ∧ w10.cell? ⟨X10, 2, none⟩ = some (.int .i64 (addP f g).2.2)) ∧ True := ⟨⟨q5.cell 0, q5.cell 1, q5.cell 2, q6.cell 0, q6.cell 1, q6.cell 2, q10.cell 0, q10.cell 1, q10.cell 2⟩, trivial⟩
      (try dsimp only)
      refine hK.out _ _ ⟨hSS.1, fun _ => trivial⟩ ?_
      clear hK K
      refine wpAnyE_one (i := 11) (by kernel_rfl) rfl (fun K hK => ?_)
      go_simp
      refine (coF_any (addP f g) (addP g f) _ _ _ _ _ _ _ _ _ _ _ _ _ hx hz).mono ?_
      rintro ee w11 ⟨rfl, b7⟩
      rw [coP_of (add_comm' f g)]
      replace BB := BB.trans (b7.mono BB.size)
      replace hf := hf.below b7
      replace hg := hg.below b7
      replace hV := hV.below b7
      replace hA := hA.below b7
      replace hx := hx.below b7
      replace hy := hy.below b7
      replace hz := hz.below b7
      replace q5 := q5.below b7
      replace q6 := q6.below b7
      replace q10 := q10.below b7
      clear b7
      clear hSS
      have hSS : (w11.cell? ⟨X5, 0, none⟩ = some (.slice a1 n1 c1) ∧ w11.cell? ⟨X5, 1, none⟩ = some (.slice a2 n2 c2) ∧ w11.cell? ⟨X5, 2, none⟩ = some (.int .i64 f.2.2) ∧ w11.cell? ⟨X6, 0, none⟩ = some (.slice a3 n3 c3) ∧ w11.cell? ⟨X6, 1, none⟩ = some (.slice a4 n4 c4) ∧ w11.cell? ⟨X6, 2, none⟩ = some (.int .i64 g.2.2) ∧ w11.cell? ⟨X10, 0, none⟩ = some (.slice a7 n7 c7) ∧ w11.cell? ⟨X10, 1, none⟩ = some (.slice a8 n8 c8) ∧ w11.cell? ⟨X10, 2, none⟩ = some (.int .i64 (addP f g).2.2)) ∧ True := ⟨⟨q5.cell 0, q5.cell 1, q5.cell 2, q6.cell 0, q6.cell 1, q6.cell 2, q10.cell 0, q10.cell 1, q10.cell 2⟩, trivial⟩
      (try dsimp only)
      refine hK.out _ _ ⟨hSS.1, fun _ => trivial⟩ ?_
      clear hK K
      refine wpAnyE_take0 (i := 12) (v := ?kv12) rfl (by kernel_rfl) (by kernel_rfl) (by kernel_rfl) (by decide) (fun _ _ _ h => h) (Or.inl ⟨by rfl, ?khy12⟩) hSS ?_
      case khy12 => (intro wz hSw; (try dsimp only at hSw); go_simp; try (with_reducible rfl))
      refine wpAnyE_one (i := 13) (by kernel_rfl) rfl (fun K hK => ?_)
      go_simp
      refine hK.out _ _ ⟨hSS.1, fun _ => trivial⟩ ?_
      clear hK K
      refine wpAnyE_done (by kernel_rfl) ?_ _
      clear hSS
      have g5_0 := q5.cell 0
      have g5_1 := q5.cell 1
      have g5_2 := q5.cell 2
      have g6_0 := q6.cell 0
      have g6_1 := q6.cell 1
      have g6_2 := q6.cell 2
      have g10_0 := q10.cell 0
      have g10_1 := q10.cell 1
      have g10_2 := q10.cell 2
      simp only [List.getElem?_cons_zero, List.getElem?_cons_succ] at g5_0 g5_1 g5_2 g6_0 g6_1 g6_2 g10_0 g10_1 g10_2
      go_wp2_with fail
      refine (pAt (addP f g) V A _ _ _ _ _ _ _ _ _ _ _ _ _ hx hV hA (by omega) (by omega)).mono ?_
      rintro ee w12 ⟨rfl, b8⟩
      clear g5_0 g5_1 g5_2 g6_0 g6_1 g6_2 g10_0 g10_1 g10_2
      replace BB := BB.trans (b8.mono BB.size)
      replace hf := hf.below b8
      replace hg := hg.below b8
      replace hV := hV.below b8
      replace hA := hA.below b8
      replace hx := hx.below b8
      replace hy := hy.below b8
      replace hz := hz.below b8
      replace q5 := q5.below b8
      replace q6 := q6.below b8
      replace q10 := q10.below b8
      clear b8
      have g5_0 := q5.cell 0
      have g5_1 := q5.cell 1
      have g5_2 := q5.cell 2
      have g6_0 := q6.cell 0
      have g6_1 := q6.cell 1
      have g6_2 := q6.cell 2
      have g10_0 := q10.cell 0
      have g10_1 := q10.cell 1
      have g10_2 := q10.cell 2
      simp only [List.getElem?_cons_zero, List.getElem?_cons_succ] at g5_0 g5_1 g5_2 g6_0 g6_1 g6_2 g10_0 g10_1 g10_2
      go_wp2_with fail
      refine (pAt f V A _ _ _ _ _ _ _ _ _ _ _ _ _ hf hV hA (by omega) (by omega)).mono ?_
      rintro ee w13 ⟨rfl, b8⟩
      clear g5_0 g5_1 g5_2 g6_0 g6_1 g6_2 g10_0 g10_1 g10_2
      replace BB := BB.trans (b8.mono BB.size)
      replace hf := hf.below b8
      replace hg := hg.below b8
      replace hV := hV.below b8
      replace hA := hA.below b8
      replace hx := hx.below b8
      replace hy := hy.below b8
      replace hz := hz.below b8
      replace q5 := q5.below b8
      replace q6 := q6.below b8
      replace q10 := q10.below b8
      clear b8
      have g5_0 := q5.cell 0
      have g5_1 := q5.cell 1
      have g5_2 := q5.cell 2
      have g6_0 := q6.cell 0
      have g6_1 := q6.cell 1
      have g6_2 := q6.cell 2
      have g10_0 := q10.cell 0
      have g10_1 := q10.cell 1
      have g10_2 := q10.cell 2
      simp only [List.getElem?_cons_zero, List.getElem?_cons_succ] at g5_0 g5_1 g5_2 g6_0 g6_1 g6_2 g10_0 g10_1 g10_2
      go_wp2_with fail
      refine (pAt g V A _ _ _ _ _ _ _ _ _ _ _ _ _ hg hV hA (by omega) (by omega)).mono ?_
      rintro ee w14 ⟨rfl, b8⟩
      clear g5_0 g5_1 g5_2 g6_0 g6_1 g6_2 g10_0 g10_1 g10_2
      replace BB := BB.trans (b8.mono BB.size)
      replace hf := hf.below b8
      replace hg := hg.below b8
      replace hV := hV.below b8
      replace hA := hA.below b8
      replace hx := hx.below b8
      replace hy := hy.below b8
      replace hz := hz.below b8
      replace q5 := q5.below b8
      replace q6 := q6.below b8
      replace q10 := q10.below b8
      clear b8
      have g5_0 := q5.cell 0
      have g5_1 := q5.cell 1
      have g5_2 := q5.cell 2
      have g6_0 := q6.cell 0
      have g6_1 := q6.cell 1
      have g6_2 := q6.cell 2
      have g10_0 := q10.cell 0
      have g10_1 := q10.cell 1
      have g10_2 := q10.cell 2
      simp only [List.getElem?_cons_zero, List.getElem?_cons_succ] at g5_0 g5_1 g5_2 g6_0 g6_1 g6_2 g10_0 g10_1 g10_2
      go_wp2_with fail
      refine (qAt (addP f g) V A _ _ _ _ _ _ _ _ _ _ _ _ _ hx hV hA (by omega) (by omega)).mono ?_
      rintro ee w15 ⟨rfl, b8⟩
      clear g5_0 g5_1 g5_2 g6_0 g6_1 g6_2 g10_0 g10_1 g10_2
      replace BB := BB.trans (b8.mono BB.size)
      replace hf := hf.below b8
      replace hg := hg.below b8
      replace hV := hV.below b8
      replace hA := hA.below b8
      replace hx := hx.below b8
      replace hy := hy.below b8
      replace hz := hz.below b8
      replace q5 := q5.below b8
      replace q6 := q6.below b8
      replace q10 := q10.below b8
      clear b8
      have en : (atP (addP f g) V A == atP (addP f g) V A) = true := by simp
      have eb : (atB (addP f g) V A == atB (addP f g) V A) = true := by simp
      cases h1 : atB (addP f g) V A
      · rw [h1] at eb
        have g5_0 := q5.cell 0
        have g5_1 := q5.cell 1
        have g5_2 := q5.cell 2
        have g6_0 := q6.cell 0
        have g6_1 := q6.cell 1
        have g6_2 := q6.cell 2
        have g10_0 := q10.cell 0
        have g10_1 := q10.cell 1
        have g10_2 := q10.cell 2
        simp only [List.getElem?_cons_zero, List.getElem?_cons_succ] at g5_0 g5_1 g5_2 g6_0 g6_1 g6_2 g10_0 g10_1 g10_2
        go_wp2_with fail
        refine (pZero _).mono ?_
        rintro ee w16 ⟨aa, na, ca, ab, nb, cb, rfl, z1, b9⟩
        clear g5_0 g5_1 g5_2 g6_0 g6_1 g6_2 g10_0 g10_1 g10_2
        replace BB := BB.trans (b9.mono BB.size)
        replace hf := hf.below b9
        replace hg := hg.below b9
        replace hV := hV.below b9
        replace hA := hA.below b9
        replace hx := hx.below b9
        replace hy := hy.below b9
        replace hz := hz.below b9
        replace q5 := q5.below b9
        replace q6 := q6.below b9
        replace q10 := q10.below b9
        clear b9
        have g5_0 := q5.cell 0
        have g5_1 := q5.cell 1
        have g5_2 := q5.cell 2
        have g6_0 := q6.cell 0
        have g6_1 := q6.cell 1
        have g6_2 := q6.cell 2
        have g10_0 := q10.cell 0
        have g10_1 := q10.cell 1
        have g10_2 := q10.cell 2
        simp only [List.getElem?_cons_zero, List.getElem?_cons_succ] at g5_0 g5_1 g5_2 g6_0 g6_1 g6_2 g10_0 g10_1 g10_2
        go_wp2_with fail
        refine (pPot 1 _).mono ?_
        rintro ee w17 ⟨ac, nc, cc, ad, nd, cd, rfl, z2, b9⟩
        clear g5_0 g5_1 g5_2 g6_0 g6_1 g6_2 g10_0 g10_1 g10_2
        replace BB := BB.trans (b9.mono BB.size)
        replace hf := hf.below b9
        replace hg := hg.below b9
        replace hV := hV.below b9
        replace hA := hA.below b9
        replace hx := hx.below b9
        replace hy := hy.below b9
        replace hz := hz.below b9
        replace z1 := z1.below b9
        replace q5 := q5.below b9
        replace q6 := q6.below b9
        replace q10 := q10.below b9
        clear b9
        have g5_0 := q5.cell 0
        have g5_1 := q5.cell 1
        have g5_2 := q5.cell 2
        have g6_0 := q6.cell 0
        have g6_1 := q6.cell 1
        have g6_2 := q6.cell 2
        have g10_0 := q10.cell 0
        have g10_1 := q10.cell 1
        have g10_2 := q10.cell 2
        simp only [List.getElem?_cons_zero, List.getElem?_cons_succ] at g5_0 g5_1 g5_2 g6_0 g6_1 g6_2 g10_0 g10_1 g10_2
        go_wp2_with fail
        refine (pAdd zeroP (potP 1) _ _ _ _ _ _ _ _ _ _ _ _ _ z1 z2).mono ?_
        rintro ee w18 ⟨ae, ne, ce, af, nf, cf, rfl, z3, b9⟩
        clear g5_0 g5_1 g5_2 g6_0 g6_1 g6_2 g10_0 g10_1 g10_2
        replace BB := BB.trans (b9.mono BB.size)
        replace hf := hf.below b9
        replace hg := hg.below b9
        replace hV := hV.below b9
        replace hA := hA.below b9
        replace hx := hx.below b9
        replace hy := hy.below b9
        replace hz := hz.below b9
        replace z1 := z1.below b9
        replace z2 := z2.below b9
        replace q5 := q5.below b9
        replace q6 := q6.below b9
        replace q10 := q10.below b9
        clear b9
        have g5_0 := q5.cell 0
        have g5_1 := q5.cell 1
        have g5_2 := q5.cell 2
        have g6_0 := q6.cell 0
        have g6_1 := q6.cell 1
        have g6_2 := q6.cell 2
        have g10_0 := q10.cell 0
        have g10_1 := q10.cell 1
        have g10_2 := q10.cell 2
        simp only [List.getElem?_cons_zero, List.getElem?_cons_succ] at g5_0 g5_1 g5_2 g6_0 g6_1 g6_2 g10_0 g10_1 g10_2
        go_wp2_with fail
        refine (pPot 1 _).mono ?_
        rintro ee w19 ⟨ag, ng, cg, ah, nh, ch, rfl, z4, b9⟩
        clear g5_0 g5_1 g5_2 g6_0 g6_1 g6_2 g10_0 g10_1 g10_2
        replace BB := BB.trans (b9.mono BB.size)
        replace hf := hf.below b9
        replace hg := hg.below b9
        replace hV := hV.below b9
        replace hA := hA.below b9
        replace hx := hx.below b9
        replace hy := hy.below b9
        replace hz := hz.below b9
        replace z1 := z1.below b9
        replace z2 := z2.below b9
        replace z3 := z3.below b9
        replace q5 := q5.below b9
        replace q6 := q6.below b9
        replace q10 := q10.below b9
        clear b9
        have g5_0 := q5.cell 0
        have g5_1 := q5.cell 1
        have g5_2 := q5.cell 2
        have g6_0 := q6.cell 0
        have g6_1 := q6.cell 1
        have g6_2 := q6.cell 2
        have g10_0 := q10.cell 0
        have g10_1 := q10.cell 1
        have g10_2 := q10.cell 2
        simp only [List.getElem?_cons_zero, List.getElem?_cons_succ] at g5_0 g5_1 g5_2 g6_0 g6_1 g6_2 g10_0 g10_1 g10_2
        go_wp2_with fail
        refine (coF_any (addP zeroP (potP 1)) (potP 1) _ _ _ _ _ _ _ _ _ _ _ _ _ z3 z4).mono ?_
        rintro ee w20 ⟨rfl, b9⟩
        rw [coP_of (show addP zeroP (potP 1) = potP 1 from by decide)]
        clear g5_0 g5_1 g5_2 g6_0 g6_1 g6_2 g10_0 g10_1 g10_2
        replace BB := BB.trans (b9.mono BB.size)
        replace hf := hf.below b9
        replace hg := hg.below b9
        replace hV := hV.below b9
        replace hA := hA.below b9
        replace hx := hx.below b9
        replace hy := hy.below b9
        replace hz := hz.below b9
        replace z1 := z1.below b9
        replace z2 := z2.below b9
        replace z3 := z3.below b9
        replace z4 := z4.below b9
        replace q5 := q5.below b9
        replace q6 := q6.below b9
        replace q10 := q10.below b9
        clear b9
        have g5_0 := q5.cell 0
        have g5_1 := q5.cell 1
        have g5_2 := q5.cell 2
        have g6_0 := q6.cell 0
        have g6_1 := q6.cell 1
        have g6_2 := q6.cell 2
        have g10_0 := q10.cell 0
        have g10_1 := q10.cell 1
        have g10_2 := q10.cell 2
        simp only [List.getElem?_cons_zero, List.getElem?_cons_succ] at g5_0 g5_1 g5_2 g6_0 g6_1 g6_2 g10_0 g10_1 g10_2
        go_wp2_with fail
        refine (coHolds_any _).mono ?_
        rintro ee w21 ⟨rfl, bh⟩
        clear g5_0 g5_1 g5_2 g6_0 g6_1 g6_2 g10_0 g10_1 g10_2
        replace BB := BB.trans (bh.mono BB.size)
        replace hf := hf.below bh
        replace hg := hg.below bh
        replace hV := hV.below bh
        replace hA := hA.below bh
        replace hx := hx.below bh
        replace hy := hy.below bh
        replace hz := hz.below bh
        replace z1 := z1.below bh
        replace z2 := z2.below bh
        replace z3 := z3.below bh
        replace z4 := z4.below bh
        replace q5 := q5.below bh
        replace q6 := q6.below bh
        replace q10 := q10.below bh
        clear bh
        go_wp2
        go_ret
        exact ⟨rfl, BB⟩
      · obtain ⟨t1, t2, t3⟩ := add_at f g V A h1
        rw [h1] at eb
        rw [t1, t2]
        have bd1 := add_bnd (f := f) (V := V) (A := A)
        have bd2 := add_bnd (f := g) (V := V) (A := A)
        have e3 : (atP (addP f g) V A == atP f V A + atP g V A) = true := by rw [t3]; simp
        clear t3
        have g5_0 := q5.cell 0
        have g5_1 := q5.cell 1
        have g5_2 := q5.cell 2
        have g6_0 := q6.cell 0
        have g6_1 := q6.cell 1
        have g6_2 := q6.cell 2
        have g10_0 := q10.cell 0
        have g10_1 := q10.cell 1
        have g10_2 := q10.cell 2
        simp only [List.getElem?_cons_zero, List.getElem?_cons_succ] at g5_0 g5_1 g5_2 g6_0 g6_1 g6_2 g10_0 g10_1 g10_2
        go_wp2_with fail
        refine (pZero _).mono ?_
        rintro ee w16 ⟨aa, na, ca, ab, nb, cb, rfl, z1, b9⟩
        clear g5_0 g5_1 g5_2 g6_0 g6_1 g6_2 g10_0 g10_1 g10_2
        replace BB := BB.trans (b9.mono BB.size)
        replace hf := hf.below b9
        replace hg := hg.below b9
        replace hV := hV.below b9
        replace hA := hA.below b9
        replace hx := hx.below b9
        replace hy := hy.below b9
        replace hz := hz.below b9
        replace q5 := q5.below b9
        replace q6 := q6.below b9
        replace q10 := q10.below b9
        clear b9
        have g5_0 := q5.cell 0
        have g5_1 := q5.cell 1
        have g5_2 := q5.cell 2
        have g6_0 := q6.cell 0
        have g6_1 := q6.cell 1
        have g6_2 := q6.cell 2
        have g10_0 := q10.cell 0
        have g10_1 := q10.cell 1
        have g10_2 := q10.cell 2
        simp only [List.getElem?_cons_zero, List.getElem?_cons_succ] at g5_0 g5_1 g5_2 g6_0 g6_1 g6_2 g10_0 g10_1 g10_2
        go_wp2_with fail
        refine (pPot 1 _).mono ?_
        rintro ee w17 ⟨ac, nc, cc, ad, nd, cd, rfl, z2, b9⟩
        clear g5_0 g5_1 g5_2 g6_0 g6_1 g6_2 g10_0 g10_1 g10_2
        replace BB := BB.trans (b9.mono BB.size)
        replace hf := hf.below b9
        replace hg := hg.below b9
        replace hV := hV.below b9
        replace hA := hA.below b9
        replace hx := hx.below b9
        replace hy := hy.below b9
        replace hz := hz.below b9
        replace z1 := z1.below b9
        replace q5 := q5.below b9
        replace q6 := q6.below b9
        replace q10 := q10.below b9
        clear b9
        have g5_0 := q5.cell 0
        have g5_1 := q5.cell 1
        have g5_2 := q5.cell 2
        have g6_0 := q6.cell 0
        have g6_1 := q6.cell 1
        have g6_2 := q6.cell 2
        have g10_0 := q10.cell 0
        have g10_1 := q10.cell 1
        have g10_2 := q10.cell 2
        simp only [List.getElem?_cons_zero, List.getElem?_cons_succ] at g5_0 g5_1 g5_2 g6_0 g6_1 g6_2 g10_0 g10_1 g10_2
        go_wp2_with fail
        refine (pAdd zeroP (potP 1) _ _ _ _ _ _ _ _ _ _ _ _ _ z1 z2).mono ?_
        rintro ee w18 ⟨ae, ne, ce, af, nf, cf, rfl, z3, b9⟩
        clear g5_0 g5_1 g5_2 g6_0 g6_1 g6_2 g10_0 g10_1 g10_2
        replace BB := BB.trans (b9.mono BB.size)
        replace hf := hf.below b9
        replace hg := hg.below b9
        replace hV := hV.below b9
        replace hA := hA.below b9
        replace hx := hx.below b9
        replace hy := hy.below b9
        replace hz := hz.below b9
        replace z1 := z1.below b9
        replace z2 := z2.below b9
        replace q5 := q5.below b9
        replace q6 := q6.below b9
        replace q10 := q10.below b9
        clear b9
        have g5_0 := q5.cell 0
        have g5_1 := q5.cell 1
        have g5_2 := q5.cell 2
        have g6_0 := q6.cell 0
        have g6_1 := q6.cell 1
        have g6_2 := q6.cell 2
        have g10_0 := q10.cell 0
        have g10_1 := q10.cell 1
        have g10_2 := q10.cell 2
        simp only [List.getElem?_cons_zero, List.getElem?_cons_succ] at g5_0 g5_1 g5_2 g6_0 g6_1 g6_2 g10_0 g10_1 g10_2
        go_wp2_with fail
        refine (pPot 1 _).mono ?_
        rintro ee w19 ⟨ag, ng, cg, ah, nh, ch, rfl, z4, b9⟩
        clear g5_0 g5_1 g5_2 g6_0 g6_1 g6_2 g10_0 g10_1 g10_2
        replace BB := BB.trans (b9.mono BB.size)
        replace hf := hf.below b9
        replace hg := hg.below b9
        replace hV := hV.below b9
        replace hA := hA.below b9
        replace hx := hx.below b9
        replace hy := hy.below b9
        replace hz := hz.below b9
        replace z1 := z1.below b9
        replace z2 := z2.below b9
        replace z3 := z3.below b9
        replace q5 := q5.below b9
        replace q6 := q6.below b9
        replace q10 := q10.below b9
        clear b9
        have g5_0 := q5.cell 0
        have g5_1 := q5.cell 1
        have g5_2 := q5.cell 2
        have g6_0 := q6.cell 0
        have g6_1 := q6.cell 1
        have g6_2 := q6.cell 2
        have g10_0 := q10.cell 0
        have g10_1 := q10.cell 1
        have g10_2 := q10.cell 2
        simp only [List.getElem?_cons_zero, List.getElem?_cons_succ] at g5_0 g5_1 g5_2 g6_0 g6_1 g6_2 g10_0 g10_1 g10_2
        go_wp2_with fail
        refine (coF_any (addP zeroP (potP 1)) (potP 1) _ _ _ _ _ _ _ _ _ _ _ _ _ z3 z4).mono ?_
        rintro ee w20 ⟨rfl, b9⟩
        rw [coP_of (show addP zeroP (potP 1) = potP 1 from by decide)]
        clear g5_0 g5_1 g5_2 g6_0 g6_1 g6_2 g10_0 g10_1 g10_2
        replace BB := BB.trans (b9.mono BB.size)
        replace hf := hf.below b9
        replace hg := hg.below b9
        replace hV := hV.below b9
        replace hA := hA.below b9
        replace hx := hx.below b9
        replace hy := hy.below b9
        replace hz := hz.below b9
        replace z1 := z1.below b9
        replace z2 := z2.below b9
        replace z3 := z3.below b9
        replace z4 := z4.below b9
        replace q5 := q5.below b9
        replace q6 := q6.below b9
        replace q10 := q10.below b9
        clear b9
        have g5_0 := q5.cell 0
        have g5_1 := q5.cell 1
        have g5_2 := q5.cell 2
        have g6_0 := q6.cell 0
        have g6_1 := q6.cell 1
        have g6_2 := q6.cell 2
        have g10_0 := q10.cell 0
        have g10_1 := q10.cell 1
        have g10_2 := q10.cell 2
        simp only [List.getElem?_cons_zero, List.getElem?_cons_succ] at g5_0 g5_1 g5_2 g6_0 g6_1 g6_2 g10_0 g10_1 g10_2
        go_wp2_with fail
        refine (coHolds_any _).mono ?_
        rintro ee w21 ⟨rfl, bh⟩
        clear g5_0 g5_1 g5_2 g6_0 g6_1 g6_2 g10_0 g10_1 g10_2
        replace BB := BB.trans (bh.mono BB.size)
        replace hf := hf.below bh
        replace hg := hg.below bh
        replace hV := hV.below bh
        replace hA := hA.below bh
        replace hx := hx.below bh
        replace hy := hy.below bh
        replace hz := hz.below bh
        replace z1 := z1.below bh
        replace z2 := z2.below bh
        replace z3 := z3.below bh
        replace z4 := z4.below bh
        replace q5 := q5.below bh
        replace q6 := q6.below bh
        replace q10 := q10.below bh
        clear bh
        go_wp2
        go_ret
        exact ⟨rfl, BB⟩
    · go_enter Try.func3, Try.ntmps3
      go_wp2
      go_ret
      exact ⟨rfl, Below.refl _ _⟩
  · go_enter Try.func3, Try.ntmps3
    go_wp2
    go_ret
    exact ⟨rfl, Below.refl _ _⟩

/-! ### The row's step -/
set_option maxRecDepth 100000 in
theorem lifted (os : Os) (started : os.Started) (H : Type) (enc : TypeId × Value → H) :
    ReturnsInHanded {} Try.checked os 3 .any (Rows.fnFrmAddSpec.pre6 enc Try.prog Try.f3 Rows.fnFrmAddRow.domain false) (Rows.fnFrmAddSpec.post enc Try.prog Try.f3 false true false false) := by
  refine returnsInHanded_of_change (C := Try.checked) own started (by kernel_rfl) Try.func3
    (ChangeSpec.witness6 (enc := enc) (C := Try.checked) false ⟨#[], #[.slice none 0 0, .slice none 0 0], []⟩ 8 (by kernel_rfl) (by kernel_rfl) (by kernel_rfl) (by kernel_rfl)) ?_
  intro W base args ds gs before hval0 hW hcnd _
  have hval : ∀ (j : Nat) t v, Try.f3.params[j]? = some t → args[j]? = some v → Value.okWide Try.prog W .any base t v := hval0
  have hW' := hW
  obtain ⟨p, q, hA0, hV, rfl, hfz, hnd⟩ := hW
  have hA : DataW.TrodAll enc Try.prog W 0 (fun _ => true) true Try.f3.params.toList args.toList ds p := hA0
  rw [Try.params3] at hA hval
  obtain ⟨v0, vs0, d0, ds0, p0, q0, hargs, rfl, rfl, h0, r0⟩ := trodAll_cons hA
  obtain ⟨v1, vs1, d1, ds1, p1, q1, rfl, rfl, rfl, h1, r1⟩ := trodAll_cons r0
  obtain ⟨rfl, rfl, rfl⟩ := trodAll_nil r1
  obtain rfl : args = #[v0, v1] := by cases args; simp_all
  obtain ⟨rfl, rfl⟩ := trodVars_none hV
  have k0 := h0
  have lt0 : ∀ x ∈ p0, x.block < W.heap.size := by obtain ⟨m, hm⟩ := k0; exact DataW.trod_lt m _ _ _ hm
  obtain ⟨a0, n0, cap0, C0, rfl, hC0, hn0⟩ := open_bytesT (hval 0 22 v0 rfl rfl) h0
  have k1 := h1
  have lt1 : ∀ x ∈ p1, x.block < W.heap.size := by obtain ⟨m, hm⟩ := k1; exact DataW.trod_lt m _ _ _ hm
  obtain ⟨a1, n1, cap1, C1, rfl, hC1, hn1⟩ := open_bytesT (hval 1 22 v1 rfl rfl) h1
  clear hA0 hval0
  refine (walk W a0 n0 cap0 C0 hC0 hn0 a1 n1 cap1 C1 hC1 hn1).mono fun e W' ⟨he, bel⟩ => ?_
  subst he
  exact ⟨_, rfl, _, _, _, [], _, [], hW', trodAll_mk1 (shut_bool Try.underlying4 _), (trodAll_cons_mk (Below.trod laidOut (by kernel_rfl) (of_decide_eq_true (by kernel_rfl)) k0 bel lt0) (trodAll_cons_mk (Below.trod laidOut (by kernel_rfl) (of_decide_eq_true (by kernel_rfl)) k1 bel lt1) trodAll_mk0)), rfl, bel.frame _, fun h => by cases h⟩

theorem over : Rows.fnFrmAddRow.holds Try.pinned (OpenSpec.ofChange Rows.fnFrmAddSpec) :=
  OpenClaim.holds_of_wide 3 Try.f3 rfl rfl rfl rfl rfl rfl rfl ⟨rfl, rfl, rfl, rfl, rfl⟩ rfl rfl rfl rfl rfl (by kernel_rfl) Try.func3 (by kernel_rfl)
    (of_decide_eq_true (by kernel_rfl)) (by unfold Func.isWrapper; first | (rw [if_pos (by decide +kernel)]; kernel_rfl) | (rw [if_neg (by decide +kernel)]; exact ⟨rfl, rfl⟩))
    (fun os started H enc _ => lifted os started H enc)

end Go.Proofs.Ytjhbapgpeimlhaa.fnFrmAdd
namespace Go.Proofs.Ytjhbapgpeimlhaa
/-- The statement. -/
theorem fnFrmAdd_holds : Rows.FnFrmAddSaid := fnFrmAdd.over
#print axioms fnFrmAdd_holds
end Go.Proofs.Ytjhbapgpeimlhaa
