/-
  For all bytes FnActSkip returns true, and what came in reads behind the call as it did. No condition. (a test that always holds is none)
-/
import Derived.Test.YtblabbjjkgelfaaRunD
import Derived.Test.YtblabbjjkgelfaaOpen
namespace Go.Proofs.Ytblabbjjkgelfaa.fnActSkip
open Go.ChangeShapes Go.WideShapes Go.ChangeAt Go.RowKit
set_option linter.unusedVariables false
set_option maxRecDepth 100000

theorem open_bytesT {H : Type} {enc : TypeId × Value → H} {W : World} {r : Reach} {b0 : Nat} {v : Value} {d : DataW H} {p : List MemPlace}
    (hv : Value.okWide Try.prog W r b0 22 v) (h : DataW.Trod enc Try.prog W 0 (fun _ => true) true 22 v d p) : ∃ a n cap zs, v = .slice a n cap ∧ BInts W a n zs ∧ (n ≤ cap ∧ cap ≤ maxLen) := by
  obtain ⟨a0, len0, cap0, rfl⟩ := okWide_slice Try.underlying22 hv
  obtain ⟨fuel, hf⟩ := h
  rcases open_ints Try.underlying22 Try.underlying5 (by kernel_rfl) hf with ⟨hcs, _⟩ | ⟨x, l, c, zs, hcs, _, hl, hm, hz, _, hcell, hwz⟩
  · simp [Value.cells] at hcs
    obtain ⟨rfl, rfl, rfl⟩ := hcs
    exact ⟨none, 0, 0, [], rfl, ⟨rfl, fun i hi => by omega, fun i => by simp⟩, by omega, by unfold maxLen; omega⟩
  · simp [Value.cells] at hcs
    obtain ⟨rfl, rfl, rfl⟩ := hcs
    have hz' : zs.length = cap0 := by simpa using hz
    refine ⟨some x, len0, cap0, zs.take len0, rfl, ⟨by rw [List.length_take]; omega, fun i hi => ?_, fun i => ?_⟩, hl, hm⟩
    · obtain ⟨b, off, spot⟩ := x
      have hc0 := hcell 0 (by omega)
      have hspot : spot = none := by simpa [Addr.add] using World.cell?_spot hc0
      subst hspot
      refine ⟨b, off, rfl, ?_⟩
      have hc := hcell i (by omega)
      have : W.cell? ⟨b, off + i, none⟩ = some (.int .u8 (zs.getD i 0)) := by
        by_cases h0 : i = 0
        · subst h0; simpa [Addr.add] using hc
        · simpa [Addr.add, h0] using hc
      rw [this]
      simp [hi]
    · by_cases hi : i < (zs.take len0).length
      · rw [List.getElem?_eq_getElem hi]
        have := hwz _ (List.mem_of_mem_take (List.getElem_mem hi))
        simpa [Lit.wf, IntKind.min, IntKind.max, IntKind.signed, IntKind.bits] using this
      · rw [List.getElem?_eq_none (by omega)]
        simp

/-- Lines that lie in one block of their own. -/
def OwnL (base : Nat) (v : Value) (N : Nat) (ls : List LV) (W : World) : Prop := W.ownsRow base 30 6 v N (ls.flatMap LV.cs)
theorem OwnL.below {base N : Nat} {v : Value} {ls : List LV} {W W' : World} (h : OwnL base v N ls W) (b : Below W.heap.size W W') : OwnL base v N ls W' := own_belowL h b
/-- A line that tests a number. -/
def kL (a c : Option Addr) (S K : Int) : LV := ⟨1, 0, S, ⟨a, 3, 3, c, 2, 2, K, [0, 0, 0], [0, 0]⟩⟩
theorem atF_k (x U : List Int) (a c : Option Addr) (S K : Int) : atF x U (kL a c S K).f = K := by simp [kL, atF, atV, dot]
theorem kL_ok {a c : Option Addr} {S K : Int} (s1 : 1 ≤ S) (s2 : S ≤ 6) (k1 : -20 ≤ K) (k2 : K ≤ 20) : (kL a c S K).ok = true := by
  simp [LV.ok, kL, lineB, smallB, okN, allB, inB, s1, s2, k1, k2]
theorem goL_shift (U : List Int) (y : LV) (ls : List LV) : ∀ (f i : Nat) (x tl : List Int), goL U (y :: ls) f (i + 1) x tl = goL U ls f i x tl
  | 0, _, _, _ => rfl
  | f + 1, i, x, tl => by
    by_cases hi : i < ls.length
    · rw [goL_one (g := ls[i]?.getD noLV) (i := i + 1) (by rw [List.length_cons]; omega) (by omega) (by rw [List.getElem?_cons_succ]), goL_one hi (by omega) rfl]
      simp only [Nat.add_sub_cancel]
      split
      · have e : (if atF x U (ls[i]?.getD noLV).f < 0 then i + 1 + 1 + (ls[i]?.getD noLV).skip.toNat else i + 1 + 1) = (if atF x U (ls[i]?.getD noLV).f < 0 then i + 1 + (ls[i]?.getD noLV).skip.toNat else i + 1) + 1 := by split <;> omega
        rw [e]
        exact goL_shift U y ls f _ x tl
      · split
        · exact goL_shift U y ls f _ _ tl
        · split
          · exact goL_shift U y ls f _ x _
          · rfl
    · rw [goL_end (by rw [List.length_cons]; omega), goL_end (by omega)]
theorem goL_fuel (U : List Int) (ls : List LV) : ∀ (f i : Nat) (x tl : List Int), ls.length ≤ i + f → goL U ls (f + 1) i x tl = goL U ls f i x tl
  | 0, i, x, tl, h => by rw [goL_end (by omega), goL_end (by omega)]
  | f + 1, i, x, tl, h => by
    by_cases hi : i < ls.length
    · rw [goL_one hi (by omega) rfl, goL_one hi (by omega) rfl]
      simp only [Nat.add_sub_cancel]
      split
      · exact goL_fuel U ls f _ x tl (by split <;> omega)
      · split
        · exact goL_fuel U ls f _ _ tl (by omega)
        · split
          · exact goL_fuel U ls f _ x _ (by omega)
          · rfl
    · rw [goL_end (by omega), goL_end (by omega)]
theorem runL_yes {U : List Int} {ls : List LV} {V : List Int} {a c : Option Addr} {S K : Int} (hl : ls.length ≤ 6) (hK : 0 ≤ K) : runL U (kL a c S K :: ls) V = runL U ls V := by
  unfold runL
  rw [goL_one (g := kL a c S K) (by simp) (by omega) rfl, if_pos (show (kL a c S K).kind = 1 from rfl), atF_k, if_neg (by omega), goL_shift]
  exact (goL_fuel U ls 6 0 V [] (by omega)).symm
theorem runL_not {U : List Int} {y : LV} {ls : List LV} {V : List Int} {a c : Option Addr} {K : Int} (hl : ls.length ≤ 6) (hK : K < 0) : runL U (kL a c 1 K :: y :: ls) V = runL U ls V := by
  unfold runL
  rw [goL_one (g := kL a c 1 K) (by simp) (by omega) rfl, if_pos (show (kL a c 1 K).kind = 1 from rfl), atF_k, if_pos hK]
  have e : 0 + 1 + (kL a c 1 K).skip.toNat = 0 + 1 + 1 := rfl
  rw [e, goL_shift, goL_shift]
  exact (goL_fuel U ls 6 0 V [] (by omega)).symm
theorem run_like {N M : Nat} {ls ms : List LV} {p : Nat} {V : List Int} {q : Nat} {U : List Int} (h : runB N ls p V q U = true) (h' : runB M ms p V q U = true) (e : runL U ls V = runL U ms V) : runCode N ls p V q U = runCode M ms p V q U ∧ runTells N ls p V q U = runTells M ms p V q U ∧ runPots N ls p V q U = runPots M ms p V q U := by
  simp only [runCode, runTells, runPots, h, h', e, if_true]
  exact ⟨trivial, trivial, trivial⟩
theorem runB_of {N M : Nat} {ls ms : List LV} {p : Nat} {V : List Int} {q : Nat} {U : List Int} (h : runB N ls p V q U = true) (h' : actB M ms = true) : runB M ms p V q U = true := by
  unfold runB at h ⊢
  simp only [Bool.and_eq_true] at h ⊢
  exact ⟨⟨h', h.1.2⟩, h.2⟩
theorem endCode_is (x : List Int) : endCode x = 1 ∨ endCode x = 3 := by unfold endCode; split <;> simp
theorem runCode_not {N : Nat} {ls : List LV} {p : Nat} {V : List Int} {q : Nat} {U : List Int} (h : runB N ls p V q U = true) : ¬ runCode N ls p V q U = 0 := by
  unfold runCode
  rw [if_pos h]
  have := endCode_is (runL U ls V).2.1
  split <;> omega
theorem actB_other {N : Nat} {ls : List LV} {a c a' c' : Option Addr} {S K S' K' : Int} (h : actB N (kL a c S K :: ls) = true) (s1 : 1 ≤ S') (s2 : S' ≤ 6) (k1 : -20 ≤ K') (k2 : K' ≤ 20) : actB N (kL a' c' S' K' :: ls) = true := by
  unfold actB at h ⊢
  simp only [Bool.and_eq_true, List.all_cons] at h ⊢
  refine ⟨⟨h.1.1, kL_ok s1 s2 k1 k2, h.1.2.2⟩, ?_⟩
  have e : tests (kL a' c' S' K' :: ls) = tests (kL a c S K :: ls) := by unfold tests; rw [List.countP_cons, List.countP_cons]; rfl
  rw [e]; exact h.2
theorem actB_tail {N : Nat} {y : LV} {ls : List LV} (h : actB (N + 1) (y :: ls) = true) : actB N ls = true := by
  unfold actB at h ⊢
  simp only [Bool.and_eq_true, List.all_cons, decide_eq_true_eq] at h ⊢
  refine ⟨⟨by omega, h.1.2.2⟩, ?_⟩
  have e : tests ls ≤ tests (y :: ls) := by unfold tests; rw [List.countP_cons]; omega
  omega
theorem run_yes {N : Nat} {ls : List LV} {p : Nat} {V : List Int} {q : Nat} {U : List Int} {a c : Option Addr} {S K : Int} (hl : ls.length = N) (h : runB N ls p V q U = true) (hy : actB (N + 1) (kL a c S K :: ls) = true) (hK : 0 ≤ K) : runCode (N + 1) (kL a c S K :: ls) p V q U = runCode N ls p V q U ∧ runTells (N + 1) (kL a c S K :: ls) p V q U = runTells N ls p V q U ∧ runPots (N + 1) (kL a c S K :: ls) p V q U = runPots N ls p V q U :=
  run_like (runB_of h hy) h (runL_yes (by have := (actB_six hy).1; omega) hK)
theorem run_not {N M0 : Nat} {ls : List LV} {p : Nat} {V : List Int} {q : Nat} {U : List Int} {a c : Option Addr} {K : Int} (h0 : M0 = N) (hl : ls.length = N + 1) (h : runB (N + 1) ls p V q U = true) (hy : actB (N + 1 + 1) (kL a c 1 K :: ls) = true) (hK : K < 0) : runCode (N + 1 + 1) (kL a c 1 K :: ls) p V q U = runCode M0 ls.tail p V q U ∧ runTells (N + 1 + 1) (kL a c 1 K :: ls) p V q U = runTells M0 ls.tail p V q U ∧ runPots (N + 1 + 1) (kL a c 1 K :: ls) p V q U = runPots M0 ls.tail p V q U := by
  subst h0
  obtain ⟨y, ms, rfl⟩ : ∃ y ms, ls = y :: ms := by cases ls with
    | nil => simp at hl
    | cons y ms => exact ⟨y, ms, rfl⟩
  rw [List.length_cons] at hl
  exact run_like (runB_of h hy) (runB_of h (actB_tail (actB_tail hy))) (runL_not (by have := (actB_six hy).1; omega) hK)
theorem own_some {base N c : Nat} {ad : Option Addr} {ls : List LV} {W : World} (h : OwnL base (.slice ad N c) N ls W) (h0 : 0 < N) : ∃ g, ad = some ⟨g, 0, none⟩ := by
  rcases h.2 with ⟨_, h1⟩ | ⟨g, cap', cur, hv, _⟩
  · omega
  · simp only [Value.slice.injEq] at hv
    exact ⟨g, hv.1⟩
theorem three_at {W : World} {B : Nat} (h : Cel W B [.int .i64 0, .int .i64 0, .int .i64 0] 3) : Ints W (some ⟨B, 0, none⟩) 3 [0, 0, 0] := ⟨rfl, fun i hi => ⟨B, 0, rfl, by
  rw [Nat.zero_add, h.cell i]
  match i, hi with
  | 0, _ => rfl
  | 1, _ => rfl
  | 2, _ => rfl⟩⟩
theorem two_at {W : World} {B : Nat} (h : Cel W B [.int .i64 0, .int .i64 0] 3) : Ints W (some ⟨B, 0, none⟩) 2 [0, 0] := ⟨rfl, fun i hi => ⟨B, 0, rfl, by
  rw [Nat.zero_add, h.cell i]
  match i, hi with
  | 0, _ => rfl
  | 1, _ => rfl⟩⟩
theorem kL_at {W : World} {B D : Nat} {S K : Int} (h : Cel W B [.int .i64 0, .int .i64 0, .int .i64 0] 3) (h' : Cel W D [.int .i64 0, .int .i64 0] 3) : (kL (some ⟨B, 0, none⟩) (some ⟨D, 0, none⟩) S K).f.At W := ⟨three_at h, two_at h', by show 3 ≤ 1048576; omega, by show 2 ≤ 1048576; omega⟩
theorem lines_cons {W : World} {base N cap : Nat} {ad : Option Addr} {y : LV} {ls : List LV} (h : W.ownsRow base 30 6 (.slice ad N cap) N ((y :: ls).flatMap LV.cs)) (hl : (y :: ls).length = N) (hy : y.f.At W) (ha : ∀ i, i < ls.length → (ls[i]?.getD noLV).f.At W) : LinesG W ad (y :: ls) :=
  linesG_own h hl (fun i hi => by
    rcases i with _ | i
    · exact hy
    · exact ha i (by simpa using hi))
theorem G.at {W W' : World} {ad : Option Addr} {ls : List LV} (h : LinesG W ad ls) (b : Below W.heap.size W W') : ∀ i, i < ls.length → (ls[i]?.getD noLV).f.At W' := fun i hi => by
  obtain ⟨_, _, _, _, h⟩ := h i hi
  exact h.below b
theorem own_lt {W : World} {base N cap : Nat} {g : Nat} {e : TypeId} {s : Nat} {xs : List Value} (h : W.ownsRow base e s (.slice (some ⟨g, 0, none⟩) N cap) N xs) : base ≤ g ∧ g < W.heap.size := h.lt g rfl
theorem own_set {W : World} {base N cap : Nat} {g : Nat} {e : TypeId} {s : Nat} {xs : List Value} {X : Nat} (h : W.ownsRow base e s (.slice (some ⟨g, 0, none⟩) N cap) N xs) (hX : X < base) (i : Nat) (v : Value) : (W.setCell ⟨X, i, none⟩ v).ownsRow base e s (.slice (some ⟨g, 0, none⟩) N cap) N xs :=
  ownsRow_touch (S := fun x => x = X) h (Touch.setCell (S := fun x => x = X) (Touch.refl _ _) rfl _) (fun k hk => by omega)
theorem own_cap {base N c : Nat} {ad : Option Addr} {ls : List LV} {W : World} (h : OwnL base (.slice ad N c) N ls W) : N ≤ c := by
  rcases h.2 with ⟨h1, h2⟩ | ⟨g, cap', cur, hv, _, _, h3, _⟩
  · omega
  · simp only [Value.slice.injEq] at hv
    omega
theorem tail_len {ls : List LV} {N : Nat} (h : ls.length = N + 1) : ls.tail.length = N := by rw [List.length_tail, h]; rfl
theorem tail_g {W : World} {b o : Nat} {ls : List LV} (h : LinesG W (some ⟨b, o, none⟩) ls) : LinesG W (some ⟨b, o + 6, none⟩) ls.tail := by
  cases ls with
  | nil => intro i hi; simp at hi
  | cons y ls =>
    intro i hi
    obtain ⟨b', o', e, hc, hA⟩ := h (i + 1) (by simpa using hi)
    simp only [Option.some.injEq, Addr.mk.injEq, and_true] at e
    obtain ⟨rfl, rfl⟩ := e
    refine ⟨b, o + 6, rfl, fun r hr => ?_, hA⟩
    have := hc r hr
    rw [show o + 6 + i * 6 + r = o + (i + 1) * 6 + r by omega]
    exact this

set_option maxHeartbeats 6400000 in
theorem walk (w : World) (a : Option Addr) (n cap : Nat) (A0 : List Int) (hA0 : BInts w a n A0) (hn : n ≤ cap ∧ cap ≤ maxLen) :
    Calls Try.prog 6 #[.slice a n cap] w fun e w' => e = .returned (.bool true) ∧ Below w.heap.size w w' := by
  obtain ⟨hn2, hn3⟩ := hn
  by_cases hn1 : n ≤ 1048576
  · go_enter Try.func6, Try.ntmps6
    go_wp2_with fail
    refine (dRun _ _ _ A0 _ hA0 hn2 hn1 hn3).mono ?_
    rintro ee w1 ⟨ad, N, c, ls, va, p, cv, V, ua, q, cu, A, base, rfl, b1, hG, hN, hN8, o, hV, hA, hp, hq⟩
    have BB := b1
    clear b1
    have hO : OwnL base (.slice ad N c) N ls w1 := o
    clear o
    have HN : Hid (ls.length = N) := hN
    clear hN
    go_wp2_with fail
    refine (pRun _ _ _ ls _ _ _ V _ _ _ A _ HN.out hG (by omega) hV hA (by omega) (by omega)).mono ?_
    rintro ee w2 ⟨a1, n1, c1, a2, n2, c2, rfl, ht, hpt, b2⟩
    replace BB := BB.trans (b2.mono BB.size)
    replace hG := hG.below b2
    replace hV := hV.below b2
    replace hA := hA.below b2
    replace hO := hO.below b2
    clear b2
    have bn1 : n1 ≤ 7 := by rw [← ht.1]; exact runTells_le _ _ _ _ _ _
    have bn2 : n2 ≤ 4 := by rw [← hpt.1]; exact Nat.le_trans (runPots_le _ _ _ _ _ _) (by rw [hV.1]; exact hp)
    have al := (Below.refl (w2).heap.size (w2)).alloc (Nat.le_refl _) (.cells #[.int .i64 (runCode N ls p V q A), .slice a1 n1 c1] 36)
    replace BB := BB.trans (al.mono BB.size)
    replace hG := hG.below al
    replace hV := hV.below al
    replace hA := hA.below al
    replace hO := hO.below al
    replace ht := ht.below al
    replace hpt := hpt.below al
    clear al
    have q6 := Cel.new (w2) [.int .i64 (runCode N ls p V q A), .slice a1 n1 c1] 36
    have g6_0 := q6.cell 0
    have g6_1 := q6.cell 1
    simp only [List.getElem?_cons_zero, List.getElem?_cons_succ] at g6_0 g6_1
    go_wp2_with fail
    obtain ⟨W3, hW3⟩ : ∃ W, W = (w2).alloc (.cells #[.int .i64 (runCode N ls p V q A), .slice a1 n1 c1] 36) := ⟨_, rfl⟩
    rw [← hW3]
    rw [← hW3] at hG hV hA hO ht hpt q6 BB g6_0 g6_1
    clear hW3
    obtain ⟨X6, hX6⟩ : ∃ x, x = w2.heap.size := ⟨_, rfl⟩
    rw [← hX6]
    rw [← hX6] at q6 g6_0 g6_1
    clear hX6
    refine (qRun _ _ _ ls _ _ _ V _ _ _ A _ HN.out hG (by omega) hV hA (by omega) (by omega)).mono ?_
    rintro ee w4 ⟨a3, n3, c3, a4, n4, c4, rfl, ku, kpt, b3⟩
    clear g6_0 g6_1
    replace BB := BB.trans (b3.mono BB.size)
    replace hG := hG.below b3
    replace hV := hV.below b3
    replace hA := hA.below b3
    replace hO := hO.below b3
    replace ht := ht.below b3
    replace hpt := hpt.below b3
    replace q6 := q6.below b3
    clear b3
    have bn3 : n3 ≤ 7 := by rw [← ku.1]; exact runTells_le _ _ _ _ _ _
    have bn4 : n4 ≤ 4 := by rw [← kpt.1]; exact Nat.le_trans (runPots_le _ _ _ _ _ _) (by rw [hV.1]; exact hp)
    have al := (Below.refl (w4).heap.size (w4)).alloc (Nat.le_refl _) (.cells #[.int .i64 (runCode N ls p V q A), .slice a3 n3 c3] 36)
    replace BB := BB.trans (al.mono BB.size)
    replace hG := hG.below al
    replace hV := hV.below al
    replace hA := hA.below al
    replace hO := hO.below al
    replace ht := ht.below al
    replace hpt := hpt.below al
    replace ku := ku.below al
    replace kpt := kpt.below al
    replace q6 := q6.below al
    clear al
    have q8 := Cel.new (w4) [.int .i64 (runCode N ls p V q A), .slice a3 n3 c3] 36
    have g6_0 := q6.cell 0
    have g6_1 := q6.cell 1
    have g8_0 := q8.cell 0
    have g8_1 := q8.cell 1
    simp only [List.getElem?_cons_zero, List.getElem?_cons_succ] at g6_0 g6_1 g8_0 g8_1
    go_wp2_with fail
    obtain ⟨W5, hW5⟩ : ∃ W, W = (w4).alloc (.cells #[.int .i64 (runCode N ls p V q A), .slice a3 n3 c3] 36) := ⟨_, rfl⟩
    rw [← hW5]
    rw [← hW5] at hG hV hA hO ht hpt ku kpt q6 q8 BB g6_0 g6_1 g8_0 g8_1
    clear hW5
    obtain ⟨X8, hX8⟩ : ∃ x, x = w4.heap.size := ⟨_, rfl⟩
    rw [← hX8]
    rw [← hX8] at q8 g8_0 g8_1
    clear hX8
    refine (coR_any (runCode N ls p V q A) (runCode N ls p V q A) _ _ _ _ _ _ (runTells N ls p V q A) (runTells N ls p V q A) _ ht ku (by omega) (by omega)).mono ?_
    rintro ee w6 ⟨rfl, b4⟩
    rw [coRB_same]
    clear g6_0 g6_1 g8_0 g8_1
    replace BB := BB.trans (b4.mono BB.size)
    replace hG := hG.below b4
    replace hV := hV.below b4
    replace hA := hA.below b4
    replace hO := hO.below b4
    replace ht := ht.below b4
    replace hpt := hpt.below b4
    replace ku := ku.below b4
    replace kpt := kpt.below b4
    replace q6 := q6.below b4
    replace q8 := q8.below b4
    clear b4
    have g6_0 := q6.cell 0
    have g6_1 := q6.cell 1
    have g8_0 := q8.cell 0
    have g8_1 := q8.cell 1
    simp only [List.getElem?_cons_zero, List.getElem?_cons_succ] at g6_0 g6_1 g8_0 g8_1
    go_wp2_with fail
    refine (coI_any _ _ _ _ _ _ (runPots N ls p V q A) (runPots N ls p V q A) _ hpt kpt (by omega) (by omega)).mono ?_
    rintro ee w7 ⟨rfl, b5⟩
    rw [eqB_refl]
    clear g6_0 g6_1 g8_0 g8_1
    replace BB := BB.trans (b5.mono BB.size)
    replace hG := hG.below b5
    replace hV := hV.below b5
    replace hA := hA.below b5
    replace hO := hO.below b5
    replace ht := ht.below b5
    replace hpt := hpt.below b5
    replace ku := ku.below b5
    replace kpt := kpt.below b5
    replace q6 := q6.below b5
    replace q8 := q8.below b5
    clear b5
    clear ku kpt q8
    have g6_0 := q6.cell 0
    have g6_1 := q6.cell 1
    simp only [List.getElem?_cons_zero, List.getElem?_cons_succ] at g6_0 g6_1
    go_upto_region 8 with fail
    clear g6_0 g6_1
    obtain ⟨i0, hi, hz0, hz1, hz2⟩ := info_parts Try.infoLn
    go_upto_region 9 with fail
    have c3 := ((Cel.new w7 [.int .i64 0, .int .i64 0, .int .i64 0] 3).alloc (.cells #[.int .i64 0, .int .i64 0] 3)).alloc (.cells #[.slice (some ⟨w7.heap.size, 0, none⟩) 3 3, .slice (some ⟨w7.heap.size + 1, 0, none⟩) 2 2, .int .i64 ((n : Int) % 7)] 28)
    have c2 := (Cel.new (w7.alloc (.cells #[.int .i64 0, .int .i64 0, .int .i64 0] 3)) [.int .i64 0, .int .i64 0] 3).alloc (.cells #[.slice (some ⟨w7.heap.size, 0, none⟩) 3 3, .slice (some ⟨w7.heap.size + 1, 0, none⟩) 2 2, .int .i64 ((n : Int) % 7)] 28)
    have q10 := Cel.new ((w7.alloc (.cells #[.int .i64 0, .int .i64 0, .int .i64 0] 3)).alloc (.cells #[.int .i64 0, .int .i64 0] 3)) [.slice (some ⟨w7.heap.size, 0, none⟩) 3 3, .slice (some ⟨w7.heap.size + 1, 0, none⟩) 2 2, .int .i64 ((n : Int) % 7)] 28
    have al := (((Below.refl w7.heap.size w7).alloc (Nat.le_refl _) (.cells #[.int .i64 0, .int .i64 0, .int .i64 0] 3)).alloc (by rw [World.size_alloc]; omega) (.cells #[.int .i64 0, .int .i64 0] 3)).alloc (by simp only [World.size_alloc]; omega) (.cells #[.slice (some ⟨w7.heap.size, 0, none⟩) 3 3, .slice (some ⟨w7.heap.size + 1, 0, none⟩) 2 2, .int .i64 ((n : Int) % 7)] 28)
    simp only [World.size_alloc] at c2 q10
    obtain ⟨W9, hW9⟩ : ∃ W, W = ((w7.alloc (.cells #[.int .i64 0, .int .i64 0, .int .i64 0] 3)).alloc (.cells #[.int .i64 0, .int .i64 0] 3)).alloc (.cells #[.slice (some ⟨w7.heap.size, 0, none⟩) 3 3, .slice (some ⟨w7.heap.size + 1, 0, none⟩) 2 2, .int .i64 ((n : Int) % 7)] 28) := ⟨_, rfl⟩
    rw [← hW9]
    rw [← hW9] at c3 c2 q10 al
    have z9 : W9.heap.size = w7.heap.size + 1 + 1 + 1 := by rw [hW9]; simp only [World.size_alloc]
    clear hW9
    obtain ⟨X, hX⟩ : ∃ x, x = w7.heap.size + 1 + 1 := ⟨_, rfl⟩
    obtain ⟨D, hD⟩ : ∃ x, x = w7.heap.size + 1 := ⟨_, rfl⟩
    obtain ⟨B, hB0⟩ : ∃ x, x = w7.heap.size := ⟨_, rfl⟩
    rw [← hX]
    rw [← hX] at q10
    rw [← hD] at c2 q10
    rw [← hB0] at c3 q10
    have x1 : B < X := by omega
    have x2 : D < X := by omega
    have x3 : X < W9.heap.size := by omega
    have x4 : w7.heap.size ≤ X := by omega
    clear hX hD hB0 z9
    have g0 := q10.cell 0
    have g1 := q10.cell 1
    have g2 := q10.cell 2
    simp only [List.getElem?_cons_zero, List.getElem?_cons_succ] at g0 g1 g2
    have g0 := q10.cell 0
    have g1 := q10.cell 1
    have g2 := q10.cell 2
    simp only [List.getElem?_cons_zero, List.getElem?_cons_succ] at g0 g1 g2
    go_cut [11] (fun v wx => ∃ g c, v = .slice (some ⟨g, 0, none⟩) (N + 1) c ∧ wx.ownsRow W9.heap.size 30 6 v (N + 1) ((kL (some ⟨B, 0, none⟩) (some ⟨D, 0, none⟩) (1 + (n : Int) % 3) ((n : Int) % 7) :: ls).flatMap LV.cs) ∧ Below W9.heap.size W9 wx)
    case first =>
      have al2 := (Below.refl W9.heap.size W9).alloc (Nat.le_refl _) (.cells #[.int .i64 1, .int .i64 0, .int .i64 (1 + (n : Int) % 3), .slice (some ⟨B, 0, none⟩) 3 3, .slice (some ⟨D, 0, none⟩) 2 2, .int .i64 ((n : Int) % 7)] 30)
      have ol := World.ownsRow_lit (base := W9.heap.size) (e := 30) (size := 6) W9 #[.int .i64 1, .int .i64 0, .int .i64 (1 + (n : Int) % 3), .slice (some ⟨B, 0, none⟩) 3 3, .slice (some ⟨D, 0, none⟩) 2 2, .int .i64 ((n : Int) % 7)] 1 (Nat.le_refl _) (by unfold maxLen; omega) rfl
      have oa := hO.below (al.trans (al2.mono al.size))
      clear hO hG ht hpt hV hA q6 BB
      by_cases h0 : 0 < N
      · obtain ⟨g, rfl⟩ : ∃ g, ad = some ⟨g, 0, none⟩ := own_some oa h0
        go_wp2_with (at_builtin; refine wpList_append_lies _ rfl (.tmp 64) (.tmp 65) 23 rfl W9.heap.size 30 i0 _ 6 80 Try.underlying23 hi hz0 hz1 hz2 rfl (by omega) (.slice (some ⟨W9.heap.size, 0, none⟩) 1 1) 1 _ (by rfl) ol ⟨g, 0, none⟩ N c (ls.flatMap LV.cs) (by rfl) (by rw [flatL_len, HN.out]) (newsL oa) (flatL_one ls) h0 (by unfold maxLen; omega) (by omega) al2.size _ rfl ?_)
        intro g9 c9 w9 hown hgrow _ _
        have b9 := al2.trans ((Below.refl W9.heap.size _).grown hgrow al2.size (fun z hz => (ol.lt z hz).1))
        rw [Nat.add_comm 1 N] at hown
        clear hgrow ol oa al2
        go_wp2
        go_meet
        case rel => exact ⟨g9, c9, by rw [Nat.add_comm 1 N], by rw [Nat.add_comm 1 N]; exact hown, b9⟩
      · obtain rfl : N = 0 := by omega
        have hls : ls = [] := List.eq_nil_of_length_eq_zero HN.out
        subst hls
        clear oa
        cases ad
        · go_wp2
          go_meet
          case rel => exact ⟨_, _, rfl, ol, al2⟩
        · go_wp2
          go_meet
          case rel => exact ⟨_, _, rfl, ol, al2⟩
    case rest =>
      clear g0 g1 g2
      obtain ⟨g9, c9, rfl, hown, b9⟩ := hcut
      have B9 := al.trans (b9.mono al.size)
      replace c3 := c3.below b9
      replace c2 := c2.below b9
      replace q10 := q10.below b9
      clear b9 al
      have g0 := q10.cell 0
      have g1 := q10.cell 1
      have g2 := q10.cell 2
      simp only [List.getElem?_cons_zero, List.getElem?_cons_succ] at g0 g1 g2
      have f2 := q10.free 2
      go_upto_region 11 with fail
      clear g0 g1 g2 f2
      replace B9 := B9.setCell (p := ⟨X, 2, none⟩) (by simp only []; omega) (.int .i64 (-1 - (n : Int) % 7))
      replace q10 := q10.set 2 (.int .i64 (-1 - (n : Int) % 7))
      replace c3 := c3.setOther (B' := X) (by omega) 2 (.int .i64 (-1 - (n : Int) % 7))
      replace c2 := c2.setOther (B' := X) (by omega) 2 (.int .i64 (-1 - (n : Int) % 7))
      replace hown := own_set hown x3 2 (.int .i64 (-1 - (n : Int) % 7))
      simp only [List.set_cons_succ, List.set_cons_zero] at q10
      obtain ⟨W11, hW11⟩ : ∃ W, W = wc.setCell ⟨X, 2, none⟩ (.int .i64 (-1 - (n : Int) % 7)) := ⟨_, rfl⟩
      rw [← hW11]
      rw [← hW11] at B9 q10 c3 c2 hown
      clear hW11
      have g0 := q10.cell 0
      have g1 := q10.cell 1
      have g2 := q10.cell 2
      simp only [List.getElem?_cons_zero, List.getElem?_cons_succ] at g0 g1 g2
      go_cut [12] (fun v wx => ∃ g c, v = .slice (some ⟨g, 0, none⟩) (N + 1) c ∧ wx.ownsRow W11.heap.size 30 6 v (N + 1) ((kL (some ⟨B, 0, none⟩) (some ⟨D, 0, none⟩) 1 (-1 - (n : Int) % 7) :: ls).flatMap LV.cs) ∧ Below W11.heap.size W11 wx)
      case first =>
        have al2 := (Below.refl W11.heap.size W11).alloc (Nat.le_refl _) (.cells #[.int .i64 1, .int .i64 0, .int .i64 1, .slice (some ⟨B, 0, none⟩) 3 3, .slice (some ⟨D, 0, none⟩) 2 2, .int .i64 (-1 - (n : Int) % 7)] 30)
        have ol := World.ownsRow_lit (base := W11.heap.size) (e := 30) (size := 6) W11 #[.int .i64 1, .int .i64 0, .int .i64 1, .slice (some ⟨B, 0, none⟩) 3 3, .slice (some ⟨D, 0, none⟩) 2 2, .int .i64 (-1 - (n : Int) % 7)] 1 (Nat.le_refl _) (by unfold maxLen; omega) rfl
        have oa := hO.below (B9.trans (al2.mono B9.size))
        clear hO hG ht hpt hV hA q6 BB
        by_cases h0 : 0 < N
        · obtain ⟨g, rfl⟩ : ∃ g, ad = some ⟨g, 0, none⟩ := own_some oa h0
          go_wp2_with (at_builtin; refine wpList_append_lies _ rfl (.tmp 73) (.tmp 74) 23 rfl W11.heap.size 30 i0 _ 6 80 Try.underlying23 hi hz0 hz1 hz2 rfl (by omega) (.slice (some ⟨W11.heap.size, 0, none⟩) 1 1) 1 _ (by rfl) ol ⟨g, 0, none⟩ N c (ls.flatMap LV.cs) (by rfl) (by rw [flatL_len, HN.out]) (newsL oa) (flatL_one ls) h0 (by unfold maxLen; omega) (by omega) al2.size _ rfl ?_)
          intro g9 c9 w9 hown hgrow _ _
          have b9 := al2.trans ((Below.refl W11.heap.size _).grown hgrow al2.size (fun z hz => (ol.lt z hz).1))
          rw [Nat.add_comm 1 N] at hown
          clear hgrow ol oa al2
          go_wp2
          go_meet
          case rel => exact ⟨g9, c9, by rw [Nat.add_comm 1 N], by rw [Nat.add_comm 1 N]; exact hown, b9⟩
        · obtain rfl : N = 0 := by omega
          have hls : ls = [] := List.eq_nil_of_length_eq_zero HN.out
          subst hls
          clear oa
          cases ad
          · go_wp2
            go_meet
            case rel => exact ⟨_, _, rfl, ol, al2⟩
          · go_wp2
            go_meet
            case rel => exact ⟨_, _, rfl, ol, al2⟩
      case rest =>
        clear g0 g1 g2
        obtain ⟨g8, c8, rfl, hown2, b8⟩ := hcut
        replace B9 := B9.trans (b8.mono B9.size)
        replace c3 := c3.below b8
        replace c2 := c2.below b8
        replace hown := own_belowL hown b8
        have hX := lines_cons hown (by rw [List.length_cons, HN.out]) (kL_at c3 c2) (G.at hG B9)
        have hY := lines_cons hown2 (by rw [List.length_cons, HN.out]) (kL_at c3 c2) (G.at hG B9)
        clear hown hown2 c3 c2 q10 b8
        replace BB := BB.trans (B9.mono BB.size)
        replace hG := hG.below B9
        replace hV := hV.below B9
        replace hA := hA.below B9
        replace hO := hO.below B9
        replace ht := ht.below B9
        replace hpt := hpt.below B9
        replace q6 := q6.below B9
        clear B9
        obtain ⟨K, hK⟩ : ∃ K : Int, K = ((n : Int) % 7) := ⟨_, rfl⟩
        obtain ⟨K', hK'⟩ : ∃ K : Int, K = (-1 - (n : Int) % 7) := ⟨_, rfl⟩
        obtain ⟨S, hS⟩ : ∃ S : Int, S = (1 + (n : Int) % 3) := ⟨_, rfl⟩
        rw [← hK, ← hS] at hX
        rw [← hK'] at hY
        have k1 : 0 ≤ K := by omega
        have k3 : -20 ≤ K' := by omega
        have k4 : K' < 0 := by omega
        clear hK hK' hS
        cases hB : runB N ls p V q A
        · have ec : ((runCode N ls p V q A) == 0) = true := by rw [(run_no hB).1]; rfl
          clear hB
          have g6_0 := q6.cell 0
          have g6_1 := q6.cell 1
          simp only [List.getElem?_cons_zero, List.getElem?_cons_succ] at g6_0 g6_1
          go_wp2_with fail
          refine (coHolds_any _).mono ?_
          rintro ee w8 ⟨rfl, bh⟩
          clear g6_0 g6_1
          replace BB := BB.trans (bh.mono BB.size)
          replace hG := hG.below bh
          replace hV := hV.below bh
          replace hA := hA.below bh
          replace hO := hO.below bh
          replace ht := ht.below bh
          replace hpt := hpt.below bh
          replace hX := hX.below bh
          replace hY := hY.below bh
          replace q6 := q6.below bh
          clear bh
          go_wp2
          go_ret
          exact ⟨rfl, BB⟩
        · have ec : ((runCode N ls p V q A) == 0) = false := by have h := runCode_not hB; simpa using h
          have HB : Hid (runB N ls p V q A = true) := hB
          clear hB
          have g6_0 := q6.cell 0
          have g6_1 := q6.cell 1
          simp only [List.getElem?_cons_zero, List.getElem?_cons_succ] at g6_0 g6_1
          go_wp2_with fail
          refine (iact_any _ _ _ (kL (some ⟨B, 0, none⟩) (some ⟨D, 0, none⟩) S K :: ls) _ (by rw [List.length_cons, HN.out]) hX (by omega)).mono ?_
          rintro ee w8 ⟨rfl, b2⟩
          clear g6_0 g6_1
          replace BB := BB.trans (b2.mono BB.size)
          replace hG := hG.below b2
          replace hV := hV.below b2
          replace hA := hA.below b2
          replace hO := hO.below b2
          replace ht := ht.below b2
          replace hpt := hpt.below b2
          replace hX := hX.below b2
          replace hY := hY.below b2
          replace q6 := q6.below b2
          clear b2
          cases hy : actB (N + 1) (kL (some ⟨B, 0, none⟩) (some ⟨D, 0, none⟩) S K :: ls)
          · clear hy
            have g6_0 := q6.cell 0
            have g6_1 := q6.cell 1
            simp only [List.getElem?_cons_zero, List.getElem?_cons_succ] at g6_0 g6_1
            go_wp2_with fail
            refine (coHolds_any _).mono ?_
            rintro ee w9 ⟨rfl, bh⟩
            clear g6_0 g6_1
            replace BB := BB.trans (bh.mono BB.size)
            replace hG := hG.below bh
            replace hV := hV.below bh
            replace hA := hA.below bh
            replace hO := hO.below bh
            replace ht := ht.below bh
            replace hpt := hpt.below bh
            replace hX := hX.below bh
            replace hY := hY.below bh
            replace q6 := q6.below bh
            clear bh
            go_wp2
            go_ret
            exact ⟨rfl, BB⟩
          · have HY : Hid (actB (N + 1) (kL (some ⟨B, 0, none⟩) (some ⟨D, 0, none⟩) S K :: ls) = true) := hy
            clear hy
            by_cases hN0 : N = 0
            · have e0 : ((N : Int) == 0) = true := by rw [hN0]; rfl
              clear hN0
              have g6_0 := q6.cell 0
              have g6_1 := q6.cell 1
              simp only [List.getElem?_cons_zero, List.getElem?_cons_succ] at g6_0 g6_1
              go_wp2_with fail
              refine (coHolds_any _).mono ?_
              rintro ee w9 ⟨rfl, bh⟩
              clear g6_0 g6_1
              replace BB := BB.trans (bh.mono BB.size)
              replace hG := hG.below bh
              replace hV := hV.below bh
              replace hA := hA.below bh
              replace hO := hO.below bh
              replace ht := ht.below bh
              replace hpt := hpt.below bh
              replace hX := hX.below bh
              replace hY := hY.below bh
              replace q6 := q6.below bh
              clear bh
              go_wp2
              go_ret
              exact ⟨rfl, BB⟩
            · have e0 : ((N : Int) == 0) = false := by simp; omega
              obtain ⟨M, rfl⟩ : ∃ M, N = M + 1 := ⟨N - 1, by omega⟩
              obtain ⟨gb, rfl⟩ : ∃ g, ad = some ⟨g, 0, none⟩ := own_some hO (by omega)
              have HZ1 : Hid _ := run_yes HN.out HB.out HY.out k1
              have hyn := actB_other (a' := some ⟨B, 0, none⟩) (c' := some ⟨D, 0, none⟩) (S' := 1) (K' := K') HY.out (by omega) (by omega) k3 (by omega)
              have HYN : Hid _ := hyn
              clear hyn
              have hT : LinesG _ (some ⟨gb, 6, none⟩) ls.tail := tail_g hG
              have g6_0 := q6.cell 0
              have g6_1 := q6.cell 1
              simp only [List.getElem?_cons_zero, List.getElem?_cons_succ] at g6_0 g6_1
              go_wp2_with fail
              refine (pRun _ _ _ (kL (some ⟨B, 0, none⟩) (some ⟨D, 0, none⟩) S K :: ls) _ _ _ V _ _ _ A _ (by rw [List.length_cons, HN.out]) hX (by omega) hV hA (by omega) (by omega)).mono ?_
              rintro ee w9 ⟨u5, u6, u7, u8, u9, u0, rfl, t1, p1, b2⟩
              clear g6_0 g6_1
              replace BB := BB.trans (b2.mono BB.size)
              replace hG := hG.below b2
              replace hV := hV.below b2
              replace hA := hA.below b2
              replace hO := hO.below b2
              replace ht := ht.below b2
              replace hpt := hpt.below b2
              replace hX := hX.below b2
              replace hY := hY.below b2
              replace hT := hT.below b2
              replace q6 := q6.below b2
              clear b2
              have bt1 : u6 ≤ 7 := by rw [← t1.1]; exact runTells_le _ _ _ _ _ _
              have bp1 : u9 ≤ 4 := by rw [← p1.1]; exact Nat.le_trans (runPots_le _ _ _ _ _ _) (by rw [hV.1]; exact hp)
              have al := (Below.refl (w9).heap.size (w9)).alloc (Nat.le_refl _) (.cells #[.int .i64 (runCode (M + 1 + 1) (kL (some ⟨B, 0, none⟩) (some ⟨D, 0, none⟩) S K :: ls) p V q A), .slice u5 u6 u7] 36)
              replace BB := BB.trans (al.mono BB.size)
              replace hG := hG.below al
              replace hV := hV.below al
              replace hA := hA.below al
              replace hO := hO.below al
              replace ht := ht.below al
              replace hpt := hpt.below al
              replace hX := hX.below al
              replace hY := hY.below al
              replace hT := hT.below al
              replace t1 := t1.below al
              replace p1 := p1.below al
              replace q6 := q6.below al
              clear al
              have q13 := Cel.new (w9) [.int .i64 (runCode (M + 1 + 1) (kL (some ⟨B, 0, none⟩) (some ⟨D, 0, none⟩) S K :: ls) p V q A), .slice u5 u6 u7] 36
              have g6_0 := q6.cell 0
              have g6_1 := q6.cell 1
              have g13_0 := q13.cell 0
              have g13_1 := q13.cell 1
              simp only [List.getElem?_cons_zero, List.getElem?_cons_succ] at g6_0 g6_1 g13_0 g13_1
              go_wp2_with fail
              obtain ⟨W10, hW10⟩ : ∃ W, W = (w9).alloc (.cells #[.int .i64 (runCode (M + 1 + 1) (kL (some ⟨B, 0, none⟩) (some ⟨D, 0, none⟩) S K :: ls) p V q A), .slice u5 u6 u7] 36) := ⟨_, rfl⟩
              rw [← hW10]
              rw [← hW10] at hG hV hA hO ht hpt hX hY hT t1 p1 q6 q13 BB g6_0 g6_1 g13_0 g13_1
              clear hW10
              obtain ⟨X13, hX13⟩ : ∃ x, x = w9.heap.size := ⟨_, rfl⟩
              rw [← hX13]
              rw [← hX13] at q13 g13_0 g13_1
              clear hX13
              refine (pRun _ _ _ (kL (some ⟨B, 0, none⟩) (some ⟨D, 0, none⟩) 1 K' :: ls) _ _ _ V _ _ _ A _ (by rw [List.length_cons, HN.out]) hY (by omega) hV hA (by omega) (by omega)).mono ?_
              rintro ee w11 ⟨v5, v6, v7, v8, v9, v0, rfl, t2, p2, b2⟩
              clear g6_0 g6_1 g13_0 g13_1
              replace BB := BB.trans (b2.mono BB.size)
              replace hG := hG.below b2
              replace hV := hV.below b2
              replace hA := hA.below b2
              replace hO := hO.below b2
              replace ht := ht.below b2
              replace hpt := hpt.below b2
              replace hX := hX.below b2
              replace hY := hY.below b2
              replace hT := hT.below b2
              replace t1 := t1.below b2
              replace p1 := p1.below b2
              replace q6 := q6.below b2
              replace q13 := q13.below b2
              clear b2
              have bt2 : v6 ≤ 7 := by rw [← t2.1]; exact runTells_le _ _ _ _ _ _
              have bp2 : v9 ≤ 4 := by rw [← p2.1]; exact Nat.le_trans (runPots_le _ _ _ _ _ _) (by rw [hV.1]; exact hp)
              have al := (Below.refl (w11).heap.size (w11)).alloc (Nat.le_refl _) (.cells #[.int .i64 (runCode (M + 1 + 1) (kL (some ⟨B, 0, none⟩) (some ⟨D, 0, none⟩) 1 K' :: ls) p V q A), .slice v5 v6 v7] 36)
              replace BB := BB.trans (al.mono BB.size)
              replace hG := hG.below al
              replace hV := hV.below al
              replace hA := hA.below al
              replace hO := hO.below al
              replace ht := ht.below al
              replace hpt := hpt.below al
              replace hX := hX.below al
              replace hY := hY.below al
              replace hT := hT.below al
              replace t1 := t1.below al
              replace p1 := p1.below al
              replace t2 := t2.below al
              replace p2 := p2.below al
              replace q6 := q6.below al
              replace q13 := q13.below al
              clear al
              have q15 := Cel.new (w11) [.int .i64 (runCode (M + 1 + 1) (kL (some ⟨B, 0, none⟩) (some ⟨D, 0, none⟩) 1 K' :: ls) p V q A), .slice v5 v6 v7] 36
              clear hX hY
              have hcc : M + 1 ≤ c := own_cap hO
              have g6_0 := q6.cell 0
              have g6_1 := q6.cell 1
              have g13_0 := q13.cell 0
              have g13_1 := q13.cell 1
              have g15_0 := q15.cell 0
              have g15_1 := q15.cell 1
              simp only [List.getElem?_cons_zero, List.getElem?_cons_succ] at g6_0 g6_1 g13_0 g13_1 g15_0 g15_1
              go_upto_region 16 with fail
              obtain ⟨W12, hW12⟩ : ∃ W, W = (w11).alloc (.cells #[.int .i64 (runCode (M + 1 + 1) (kL (some ⟨B, 0, none⟩) (some ⟨D, 0, none⟩) 1 K' :: ls) p V q A), .slice v5 v6 v7] 36) := ⟨_, rfl⟩
              rw [← hW12]
              rw [← hW12] at hG hV hA hO ht hpt hT t1 p1 t2 p2 q6 q13 q15 BB g6_0 g6_1 g13_0 g13_1 g15_0 g15_1
              clear hW12
              obtain ⟨X15, hX15⟩ : ∃ x, x = w11.heap.size := ⟨_, rfl⟩
              rw [← hX15]
              rw [← hX15] at q15 g15_0 g15_1
              clear hX15
              by_cases hc1 : c = 1
              · have hM : M = 0 := by omega
                have HM : Hid (M = 0) := hM
                clear hM
                subst hc1
                replace hT : LinesG W12 (some ⟨gb, 0, none⟩) ls.tail := fun i hi => by rw [tail_len HN.out, HM.out] at hi; omega
                have HZ2 : Hid _ := run_not (M0 := 0) HM.out.symm HN.out HB.out HYN.out k4
                go_wp2_with fail
                refine (pRun _ _ _ ls.tail _ _ _ V _ _ _ A _ ((tail_len HN.out).trans HM.out) hT (by omega) hV hA (by omega) (by omega)).mono ?_
                rintro ee w13 ⟨x5, x6, x7, x8, x9, x0, rfl, t3, p3, b2⟩
                clear g6_0 g6_1 g13_0 g13_1 g15_0 g15_1
                replace BB := BB.trans (b2.mono BB.size)
                replace hG := hG.below b2
                replace hV := hV.below b2
                replace hA := hA.below b2
                replace hO := hO.below b2
                replace ht := ht.below b2
                replace hpt := hpt.below b2
                replace hT := hT.below b2
                replace t1 := t1.below b2
                replace p1 := p1.below b2
                replace t2 := t2.below b2
                replace p2 := p2.below b2
                replace q6 := q6.below b2
                replace q13 := q13.below b2
                replace q15 := q15.below b2
                clear b2
                have bt3 : x6 ≤ 7 := by rw [← t3.1]; exact runTells_le _ _ _ _ _ _
                have bp3 : x9 ≤ 4 := by rw [← p3.1]; exact Nat.le_trans (runPots_le _ _ _ _ _ _) (by rw [hV.1]; exact hp)
                have al := (Below.refl (w13).heap.size (w13)).alloc (Nat.le_refl _) (.cells #[.int .i64 (runCode 0 ls.tail p V q A), .slice x5 x6 x7] 36)
                replace BB := BB.trans (al.mono BB.size)
                replace hG := hG.below al
                replace hV := hV.below al
                replace hA := hA.below al
                replace hO := hO.below al
                replace ht := ht.below al
                replace hpt := hpt.below al
                replace hT := hT.below al
                replace t1 := t1.below al
                replace p1 := p1.below al
                replace t2 := t2.below al
                replace p2 := p2.below al
                replace t3 := t3.below al
                replace p3 := p3.below al
                replace q6 := q6.below al
                replace q13 := q13.below al
                replace q15 := q15.below al
                clear al
                have q17 := Cel.new (w13) [.int .i64 (runCode 0 ls.tail p V q A), .slice x5 x6 x7] 36
                have g6_0 := q6.cell 0
                have g6_1 := q6.cell 1
                have g13_0 := q13.cell 0
                have g13_1 := q13.cell 1
                have g15_0 := q15.cell 0
                have g15_1 := q15.cell 1
                have g17_0 := q17.cell 0
                have g17_1 := q17.cell 1
                simp only [List.getElem?_cons_zero, List.getElem?_cons_succ] at g6_0 g6_1 g13_0 g13_1 g15_0 g15_1 g17_0 g17_1
                go_wp2_with fail
                obtain ⟨W14, hW14⟩ : ∃ W, W = (w13).alloc (.cells #[.int .i64 (runCode 0 ls.tail p V q A), .slice x5 x6 x7] 36) := ⟨_, rfl⟩
                rw [← hW14]
                rw [← hW14] at hG hV hA hO ht hpt hT t1 p1 t2 p2 t3 p3 q6 q13 q15 q17 BB g6_0 g6_1 g13_0 g13_1 g15_0 g15_1 g17_0 g17_1
                clear hW14
                obtain ⟨X17, hX17⟩ : ∃ x, x = w13.heap.size := ⟨_, rfl⟩
                rw [← hX17]
                rw [← hX17] at q17 g17_0 g17_1
                clear hX17
                refine (coR_any (runCode (M + 1 + 1) (kL (some ⟨B, 0, none⟩) (some ⟨D, 0, none⟩) S K :: ls) p V q A) (runCode (M + 1) ls p V q A) _ _ _ _ _ _ (runTells (M + 1 + 1) (kL (some ⟨B, 0, none⟩) (some ⟨D, 0, none⟩) S K :: ls) p V q A) (runTells (M + 1) ls p V q A) _ t1 ht (by omega) (by omega)).mono ?_
                rintro ee w15 ⟨rfl, b9⟩
                rw [HZ1.out.1, HZ1.out.2.1, coRB_same]
                clear g6_0 g6_1 g13_0 g13_1 g15_0 g15_1 g17_0 g17_1
                replace BB := BB.trans (b9.mono BB.size)
                replace hG := hG.below b9
                replace hV := hV.below b9
                replace hA := hA.below b9
                replace hO := hO.below b9
                replace ht := ht.below b9
                replace hpt := hpt.below b9
                replace hT := hT.below b9
                replace t1 := t1.below b9
                replace p1 := p1.below b9
                replace t2 := t2.below b9
                replace p2 := p2.below b9
                replace t3 := t3.below b9
                replace p3 := p3.below b9
                replace q6 := q6.below b9
                replace q13 := q13.below b9
                replace q15 := q15.below b9
                replace q17 := q17.below b9
                clear b9
                have g6_0 := q6.cell 0
                have g6_1 := q6.cell 1
                have g13_0 := q13.cell 0
                have g13_1 := q13.cell 1
                have g15_0 := q15.cell 0
                have g15_1 := q15.cell 1
                have g17_0 := q17.cell 0
                have g17_1 := q17.cell 1
                simp only [List.getElem?_cons_zero, List.getElem?_cons_succ] at g6_0 g6_1 g13_0 g13_1 g15_0 g15_1 g17_0 g17_1
                go_wp2_with fail
                refine (coI_any _ _ _ _ _ _ (runPots (M + 1 + 1) (kL (some ⟨B, 0, none⟩) (some ⟨D, 0, none⟩) S K :: ls) p V q A) (runPots (M + 1) ls p V q A) _ p1 hpt (by omega) (by omega)).mono ?_
                rintro ee w16 ⟨rfl, b9⟩
                rw [HZ1.out.2.2, eqB_refl]
                clear g6_0 g6_1 g13_0 g13_1 g15_0 g15_1 g17_0 g17_1
                replace BB := BB.trans (b9.mono BB.size)
                replace hG := hG.below b9
                replace hV := hV.below b9
                replace hA := hA.below b9
                replace hO := hO.below b9
                replace ht := ht.below b9
                replace hpt := hpt.below b9
                replace hT := hT.below b9
                replace t1 := t1.below b9
                replace p1 := p1.below b9
                replace t2 := t2.below b9
                replace p2 := p2.below b9
                replace t3 := t3.below b9
                replace p3 := p3.below b9
                replace q6 := q6.below b9
                replace q13 := q13.below b9
                replace q15 := q15.below b9
                replace q17 := q17.below b9
                clear b9
                have g6_0 := q6.cell 0
                have g6_1 := q6.cell 1
                have g13_0 := q13.cell 0
                have g13_1 := q13.cell 1
                have g15_0 := q15.cell 0
                have g15_1 := q15.cell 1
                have g17_0 := q17.cell 0
                have g17_1 := q17.cell 1
                simp only [List.getElem?_cons_zero, List.getElem?_cons_succ] at g6_0 g6_1 g13_0 g13_1 g15_0 g15_1 g17_0 g17_1
                go_wp2_with fail
                refine (coR_any (runCode (M + 1 + 1) (kL (some ⟨B, 0, none⟩) (some ⟨D, 0, none⟩) 1 K' :: ls) p V q A) (runCode 0 ls.tail p V q A) _ _ _ _ _ _ (runTells (M + 1 + 1) (kL (some ⟨B, 0, none⟩) (some ⟨D, 0, none⟩) 1 K' :: ls) p V q A) (runTells 0 ls.tail p V q A) _ t2 t3 (by omega) (by omega)).mono ?_
                rintro ee w17 ⟨rfl, b9⟩
                rw [HZ2.out.1, HZ2.out.2.1, coRB_same]
                clear g6_0 g6_1 g13_0 g13_1 g15_0 g15_1 g17_0 g17_1
                replace BB := BB.trans (b9.mono BB.size)
                replace hG := hG.below b9
                replace hV := hV.below b9
                replace hA := hA.below b9
                replace hO := hO.below b9
                replace ht := ht.below b9
                replace hpt := hpt.below b9
                replace hT := hT.below b9
                replace t1 := t1.below b9
                replace p1 := p1.below b9
                replace t2 := t2.below b9
                replace p2 := p2.below b9
                replace t3 := t3.below b9
                replace p3 := p3.below b9
                replace q6 := q6.below b9
                replace q13 := q13.below b9
                replace q15 := q15.below b9
                replace q17 := q17.below b9
                clear b9
                have g6_0 := q6.cell 0
                have g6_1 := q6.cell 1
                have g13_0 := q13.cell 0
                have g13_1 := q13.cell 1
                have g15_0 := q15.cell 0
                have g15_1 := q15.cell 1
                have g17_0 := q17.cell 0
                have g17_1 := q17.cell 1
                simp only [List.getElem?_cons_zero, List.getElem?_cons_succ] at g6_0 g6_1 g13_0 g13_1 g15_0 g15_1 g17_0 g17_1
                go_wp2_with fail
                refine (coI_any _ _ _ _ _ _ (runPots (M + 1 + 1) (kL (some ⟨B, 0, none⟩) (some ⟨D, 0, none⟩) 1 K' :: ls) p V q A) (runPots 0 ls.tail p V q A) _ p2 p3 (by omega) (by omega)).mono ?_
                rintro ee w18 ⟨rfl, b9⟩
                rw [HZ2.out.2.2, eqB_refl]
                clear g6_0 g6_1 g13_0 g13_1 g15_0 g15_1 g17_0 g17_1
                replace BB := BB.trans (b9.mono BB.size)
                replace hG := hG.below b9
                replace hV := hV.below b9
                replace hA := hA.below b9
                replace hO := hO.below b9
                replace ht := ht.below b9
                replace hpt := hpt.below b9
                replace hT := hT.below b9
                replace t1 := t1.below b9
                replace p1 := p1.below b9
                replace t2 := t2.below b9
                replace p2 := p2.below b9
                replace t3 := t3.below b9
                replace p3 := p3.below b9
                replace q6 := q6.below b9
                replace q13 := q13.below b9
                replace q15 := q15.below b9
                replace q17 := q17.below b9
                clear b9
                go_wp2
                go_ret
                exact ⟨rfl, BB⟩
              · have hc2 : ¬ (c - 1 = 0) := by omega
                have HZ2 : Hid _ := run_not (M0 := M) rfl HN.out HB.out HYN.out k4
                go_wp2_with fail
                refine (pRun _ _ _ ls.tail _ _ _ V _ _ _ A _ (tail_len HN.out) hT (by omega) hV hA (by omega) (by omega)).mono ?_
                rintro ee w13 ⟨x5, x6, x7, x8, x9, x0, rfl, t3, p3, b2⟩
                clear g6_0 g6_1 g13_0 g13_1 g15_0 g15_1
                replace BB := BB.trans (b2.mono BB.size)
                replace hG := hG.below b2
                replace hV := hV.below b2
                replace hA := hA.below b2
                replace hO := hO.below b2
                replace ht := ht.below b2
                replace hpt := hpt.below b2
                replace hT := hT.below b2
                replace t1 := t1.below b2
                replace p1 := p1.below b2
                replace t2 := t2.below b2
                replace p2 := p2.below b2
                replace q6 := q6.below b2
                replace q13 := q13.below b2
                replace q15 := q15.below b2
                clear b2
                have bt3 : x6 ≤ 7 := by rw [← t3.1]; exact runTells_le _ _ _ _ _ _
                have bp3 : x9 ≤ 4 := by rw [← p3.1]; exact Nat.le_trans (runPots_le _ _ _ _ _ _) (by rw [hV.1]; exact hp)
                have al := (Below.refl (w13).heap.size (w13)).alloc (Nat.le_refl _) (.cells #[.int .i64 (runCode M ls.tail p V q A), .slice x5 x6 x7] 36)
                replace BB := BB.trans (al.mono BB.size)
                replace hG := hG.below al
                replace hV := hV.below al
                replace hA := hA.below al
                replace hO := hO.below al
                replace ht := ht.below al
                replace hpt := hpt.below al
                replace hT := hT.below al
                replace t1 := t1.below al
                replace p1 := p1.below al
                replace t2 := t2.below al
                replace p2 := p2.below al
                replace t3 := t3.below al
                replace p3 := p3.below al
                replace q6 := q6.below al
                replace q13 := q13.below al
                replace q15 := q15.below al
                clear al
                have q17 := Cel.new (w13) [.int .i64 (runCode M ls.tail p V q A), .slice x5 x6 x7] 36
                have g6_0 := q6.cell 0
                have g6_1 := q6.cell 1
                have g13_0 := q13.cell 0
                have g13_1 := q13.cell 1
                have g15_0 := q15.cell 0
                have g15_1 := q15.cell 1
                have g17_0 := q17.cell 0
                have g17_1 := q17.cell 1
                simp only [List.getElem?_cons_zero, List.getElem?_cons_succ] at g6_0 g6_1 g13_0 g13_1 g15_0 g15_1 g17_0 g17_1
                go_wp2_with fail
                obtain ⟨W14, hW14⟩ : ∃ W, W = (w13).alloc (.cells #[.int .i64 (runCode M ls.tail p V q A), .slice x5 x6 x7] 36) := ⟨_, rfl⟩
                rw [← hW14]
                rw [← hW14] at hG hV hA hO ht hpt hT t1 p1 t2 p2 t3 p3 q6 q13 q15 q17 BB g6_0 g6_1 g13_0 g13_1 g15_0 g15_1 g17_0 g17_1
                clear hW14
                obtain ⟨X17, hX17⟩ : ∃ x, x = w13.heap.size := ⟨_, rfl⟩
                rw [← hX17]
                rw [← hX17] at q17 g17_0 g17_1
                clear hX17
                refine (coR_any (runCode (M + 1 + 1) (kL (some ⟨B, 0, none⟩) (some ⟨D, 0, none⟩) S K :: ls) p V q A) (runCode (M + 1) ls p V q A) _ _ _ _ _ _ (runTells (M + 1 + 1) (kL (some ⟨B, 0, none⟩) (some ⟨D, 0, none⟩) S K :: ls) p V q A) (runTells (M + 1) ls p V q A) _ t1 ht (by omega) (by omega)).mono ?_
                rintro ee w15 ⟨rfl, b9⟩
                rw [HZ1.out.1, HZ1.out.2.1, coRB_same]
                clear g6_0 g6_1 g13_0 g13_1 g15_0 g15_1 g17_0 g17_1
                replace BB := BB.trans (b9.mono BB.size)
                replace hG := hG.below b9
                replace hV := hV.below b9
                replace hA := hA.below b9
                replace hO := hO.below b9
                replace ht := ht.below b9
                replace hpt := hpt.below b9
                replace hT := hT.below b9
                replace t1 := t1.below b9
                replace p1 := p1.below b9
                replace t2 := t2.below b9
                replace p2 := p2.below b9
                replace t3 := t3.below b9
                replace p3 := p3.below b9
                replace q6 := q6.below b9
                replace q13 := q13.below b9
                replace q15 := q15.below b9
                replace q17 := q17.below b9
                clear b9
                have g6_0 := q6.cell 0
                have g6_1 := q6.cell 1
                have g13_0 := q13.cell 0
                have g13_1 := q13.cell 1
                have g15_0 := q15.cell 0
                have g15_1 := q15.cell 1
                have g17_0 := q17.cell 0
                have g17_1 := q17.cell 1
                simp only [List.getElem?_cons_zero, List.getElem?_cons_succ] at g6_0 g6_1 g13_0 g13_1 g15_0 g15_1 g17_0 g17_1
                go_wp2_with fail
                refine (coI_any _ _ _ _ _ _ (runPots (M + 1 + 1) (kL (some ⟨B, 0, none⟩) (some ⟨D, 0, none⟩) S K :: ls) p V q A) (runPots (M + 1) ls p V q A) _ p1 hpt (by omega) (by omega)).mono ?_
                rintro ee w16 ⟨rfl, b9⟩
                rw [HZ1.out.2.2, eqB_refl]
                clear g6_0 g6_1 g13_0 g13_1 g15_0 g15_1 g17_0 g17_1
                replace BB := BB.trans (b9.mono BB.size)
                replace hG := hG.below b9
                replace hV := hV.below b9
                replace hA := hA.below b9
                replace hO := hO.below b9
                replace ht := ht.below b9
                replace hpt := hpt.below b9
                replace hT := hT.below b9
                replace t1 := t1.below b9
                replace p1 := p1.below b9
                replace t2 := t2.below b9
                replace p2 := p2.below b9
                replace t3 := t3.below b9
                replace p3 := p3.below b9
                replace q6 := q6.below b9
                replace q13 := q13.below b9
                replace q15 := q15.below b9
                replace q17 := q17.below b9
                clear b9
                have g6_0 := q6.cell 0
                have g6_1 := q6.cell 1
                have g13_0 := q13.cell 0
                have g13_1 := q13.cell 1
                have g15_0 := q15.cell 0
                have g15_1 := q15.cell 1
                have g17_0 := q17.cell 0
                have g17_1 := q17.cell 1
                simp only [List.getElem?_cons_zero, List.getElem?_cons_succ] at g6_0 g6_1 g13_0 g13_1 g15_0 g15_1 g17_0 g17_1
                go_wp2_with fail
                refine (coR_any (runCode (M + 1 + 1) (kL (some ⟨B, 0, none⟩) (some ⟨D, 0, none⟩) 1 K' :: ls) p V q A) (runCode M ls.tail p V q A) _ _ _ _ _ _ (runTells (M + 1 + 1) (kL (some ⟨B, 0, none⟩) (some ⟨D, 0, none⟩) 1 K' :: ls) p V q A) (runTells M ls.tail p V q A) _ t2 t3 (by omega) (by omega)).mono ?_
                rintro ee w17 ⟨rfl, b9⟩
                rw [HZ2.out.1, HZ2.out.2.1, coRB_same]
                clear g6_0 g6_1 g13_0 g13_1 g15_0 g15_1 g17_0 g17_1
                replace BB := BB.trans (b9.mono BB.size)
                replace hG := hG.below b9
                replace hV := hV.below b9
                replace hA := hA.below b9
                replace hO := hO.below b9
                replace ht := ht.below b9
                replace hpt := hpt.below b9
                replace hT := hT.below b9
                replace t1 := t1.below b9
                replace p1 := p1.below b9
                replace t2 := t2.below b9
                replace p2 := p2.below b9
                replace t3 := t3.below b9
                replace p3 := p3.below b9
                replace q6 := q6.below b9
                replace q13 := q13.below b9
                replace q15 := q15.below b9
                replace q17 := q17.below b9
                clear b9
                have g6_0 := q6.cell 0
                have g6_1 := q6.cell 1
                have g13_0 := q13.cell 0
                have g13_1 := q13.cell 1
                have g15_0 := q15.cell 0
                have g15_1 := q15.cell 1
                have g17_0 := q17.cell 0
                have g17_1 := q17.cell 1
                simp only [List.getElem?_cons_zero, List.getElem?_cons_succ] at g6_0 g6_1 g13_0 g13_1 g15_0 g15_1 g17_0 g17_1
                go_wp2_with fail
                refine (coI_any _ _ _ _ _ _ (runPots (M + 1 + 1) (kL (some ⟨B, 0, none⟩) (some ⟨D, 0, none⟩) 1 K' :: ls) p V q A) (runPots M ls.tail p V q A) _ p2 p3 (by omega) (by omega)).mono ?_
                rintro ee w18 ⟨rfl, b9⟩
                rw [HZ2.out.2.2, eqB_refl]
                clear g6_0 g6_1 g13_0 g13_1 g15_0 g15_1 g17_0 g17_1
                replace BB := BB.trans (b9.mono BB.size)
                replace hG := hG.below b9
                replace hV := hV.below b9
                replace hA := hA.below b9
                replace hO := hO.below b9
                replace ht := ht.below b9
                replace hpt := hpt.below b9
                replace hT := hT.below b9
                replace t1 := t1.below b9
                replace p1 := p1.below b9
                replace t2 := t2.below b9
                replace p2 := p2.below b9
                replace t3 := t3.below b9
                replace p3 := p3.below b9
                replace q6 := q6.below b9
                replace q13 := q13.below b9
                replace q15 := q15.below b9
                replace q17 := q17.below b9
                clear b9
                go_wp2
                go_ret
                exact ⟨rfl, BB⟩
  · go_enter Try.func6, Try.ntmps6
    go_wp2
    go_ret
    exact ⟨rfl, Below.refl _ _⟩

/-! ### The row's step -/
set_option maxRecDepth 100000 in
theorem lifted (os : Os) (started : os.Started) (H : Type) (enc : TypeId × Value → H) :
    ReturnsInHanded {} Try.checked os 6 .any (Rows.fnActSkipSpec.pre6 enc Try.prog Try.f6 Rows.fnActSkipRow.domain false) (Rows.fnActSkipSpec.post enc Try.prog Try.f6 false true false false) := by
  refine returnsInHanded_of_change (C := Try.checked) own started (by kernel_rfl) Try.func6
    (ChangeSpec.witness6 (enc := enc) (C := Try.checked) false ⟨#[], #[.slice none 0 0], []⟩ 8 (by kernel_rfl) (by kernel_rfl) (by kernel_rfl) (by kernel_rfl)) ?_
  intro W base args ds gs before hval0 hW hcnd _
  have hval : ∀ (j : Nat) t v, Try.f6.params[j]? = some t → args[j]? = some v → Value.okWide Try.prog W .any base t v := hval0
  have hW' := hW
  obtain ⟨p, q, hA0, hV, rfl, hfz, hnd⟩ := hW
  have hA : DataW.TrodAll enc Try.prog W 0 (fun _ => true) true Try.f6.params.toList args.toList ds p := hA0
  rw [Try.params6] at hA hval
  obtain ⟨v0, vs0, d0, ds0, p0, q0, hargs, rfl, rfl, h0, r0⟩ := trodAll_cons hA
  obtain ⟨rfl, rfl, rfl⟩ := trodAll_nil r0
  obtain rfl : args = #[v0] := by cases args; simp_all
  obtain ⟨rfl, rfl⟩ := trodVars_none hV
  have k0 := h0
  have lt0 : ∀ x ∈ p0, x.block < W.heap.size := by obtain ⟨m, hm⟩ := k0; exact DataW.trod_lt m _ _ _ hm
  obtain ⟨a0, n0, cap0, C0, rfl, hC0, hn0⟩ := open_bytesT (hval 0 22 v0 rfl rfl) h0
  clear hA0 hval0
  refine (walk W a0 n0 cap0 C0 hC0 hn0).mono fun e W' ⟨he, bel⟩ => ?_
  subst he
  exact ⟨_, rfl, _, _, _, [], _, [], hW', trodAll_mk1 (shut_bool Try.underlying4 _), (trodAll_cons_mk (Below.trod laidOut (by kernel_rfl) (of_decide_eq_true (by kernel_rfl)) k0 bel lt0) trodAll_mk0), rfl, bel.frame _, fun h => by cases h⟩

theorem over : Rows.fnActSkipRow.holds Try.pinned (OpenSpec.ofChange Rows.fnActSkipSpec) :=
  OpenClaim.holds_of_wide 6 Try.f6 rfl rfl rfl rfl rfl rfl rfl ⟨rfl, rfl, rfl, rfl, rfl⟩ rfl rfl rfl rfl rfl (by kernel_rfl) Try.func6 (by kernel_rfl)
    (of_decide_eq_true (by kernel_rfl)) (by unfold Func.isWrapper; first | (rw [if_pos (by decide +kernel)]; kernel_rfl) | (rw [if_neg (by decide +kernel)]; exact ⟨rfl, rfl⟩))
    (fun os started H enc _ => lifted os started H enc)

end Go.Proofs.Ytblabbjjkgelfaa.fnActSkip
namespace Go.Proofs.Ytblabbjjkgelfaa
/-- The statement. -/
theorem fnActSkip_holds : Rows.FnActSkipSaid := fnActSkip.over
#print axioms fnActSkip_holds
end Go.Proofs.Ytblabbjjkgelfaa
