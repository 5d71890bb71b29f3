/-
  For all bytes FnCatPart returns true, and what came in reads behind the call as it did. No condition. (a part hangs on no sign)
-/
import Derived.Test.YtjhbapgpeimlhaaDrL
import Derived.Test.YtjhbapgpeimlhaaFvL
import Derived.Test.YtjhbapgpeimlhaaPart
import Derived.Test.YtjhbapgpeimlhaaOpen
namespace Go.Proofs.Ytjhbapgpeimlhaa.fnCatPart
open Go.ChangeShapes Go.WideShapes Go.ChangeAt Go.RowKit
set_option linter.unusedVariables false
set_option maxRecDepth 100000

theorem open_bytesT {H : Type} {enc : TypeId × Value → H} {W : World} {r : Reach} {b0 : Nat} {v : Value} {d : DataW H} {p : List MemPlace}
    (hv : Value.okWide Try.prog W r b0 22 v) (h : DataW.Trod enc Try.prog W 0 (fun _ => true) true 22 v d p) : ∃ a n cap zs, v = .slice a n cap ∧ BInts W a n zs ∧ (n ≤ cap ∧ cap ≤ maxLen) := by
  obtain ⟨a0, len0, cap0, rfl⟩ := okWide_slice Try.underlying22 hv
  obtain ⟨fuel, hf⟩ := h
  rcases open_ints Try.underlying22 Try.underlying5 (by kernel_rfl) hf with ⟨hcs, _⟩ | ⟨x, l, c, zs, hcs, _, hl, hm, hz, _, hcell, hwz⟩
  · simp [Value.cells] at hcs
    obtain ⟨rfl, rfl, rfl⟩ := hcs
    exact ⟨none, 0, 0, [], rfl, ⟨rfl, fun i hi => by omega, fun i => by simp⟩, by omega, by unfold maxLen; omega⟩
  · simp [Value.cells] at hcs
    obtain ⟨rfl, rfl, rfl⟩ := hcs
    have hz' : zs.length = cap0 := by simpa using hz
    refine ⟨some x, len0, cap0, zs.take len0, rfl, ⟨by rw [List.length_take]; omega, fun i hi => ?_, fun i => ?_⟩, hl, hm⟩
    · obtain ⟨b, off, spot⟩ := x
      have hc0 := hcell 0 (by omega)
      have hspot : spot = none := by simpa [Addr.add] using World.cell?_spot hc0
      subst hspot
      refine ⟨b, off, rfl, ?_⟩
      have hc := hcell i (by omega)
      have : W.cell? ⟨b, off + i, none⟩ = some (.int .u8 (zs.getD i 0)) := by
        by_cases h0 : i = 0
        · subst h0; simpa [Addr.add] using hc
        · simpa [Addr.add, h0] using hc
      rw [this]
      simp [hi]
    · by_cases hi : i < (zs.take len0).length
      · rw [List.getElem?_eq_getElem hi]
        have := hwz _ (List.mem_of_mem_take (List.getElem_mem hi))
        simpa [Lit.wf, IntKind.min, IntKind.max, IntKind.signed, IntKind.bits] using this
      · rw [List.getElem?_eq_none (by omega)]
        simp

theorem pPart (f : Frm) (a : Option Addr) (n cap : Nat) (c : Option Addr) (m cap' : Nat) (w : World) (hf : FA w a n c m f) :
    Calls Try.prog 34 #[formV a n cap c m cap' f.2.2] w fun e w' => ∃ a' cap2, e = .returned (.slice a' n cap2) ∧ Ints w' a' n (partL f.1) ∧ Below w.heap.size w w' :=
  (ipart_any a n cap c m cap' f.2.2 f.1 w hf.C hf.hn).mono fun e w' ⟨he, hb, hk⟩ => ⟨_, _, he, hk.ints' (by rw [part_len]; exact hf.C.1), hb⟩
theorem qPart (f : Frm) (a : Option Addr) (n cap : Nat) (c : Option Addr) (m cap' : Nat) (w : World) (hf : FA w a n c m f) :
    Calls Try.prog 36 #[formV a n cap c m cap' f.2.2] w fun e w' => ∃ a' cap2, e = .returned (.slice a' n cap2) ∧ Ints w' a' n (partL f.1) ∧ Below w.heap.size w w' :=
  (spart_any a n cap c m cap' f.2.2 f.1 w hf.C hf.hn).mono fun e w' ⟨a', cap2, he, hb, hi, _⟩ => ⟨a', cap2, he, hi, hb⟩
theorem wrap64_id {x : Int} (h : inM x) : wrap64 x = x := by
  unfold inM at h
  unfold wrap64
  omega
theorem part_is {x y z : Int} (hx : inM x) (hy : inM y) (hz : inM z) : (partL [x, y, z] = [x, y, z] ∧ 0 ≤ sgn [x, y, z]) ∨ (partL [x, y, z] = [-x, -y, -z] ∧ sgn [x, y, z] < 0) := by
  unfold partL sg
  by_cases h : sgn [x, y, z] < 0
  · right
    rw [if_pos h]
    refine ⟨?_, h⟩
    simp only [mulW, List.map_cons, List.map_nil, Int.neg_one_mul]
    rw [wrap64_id (x := -x) (by unfold inM at *; omega), wrap64_id (x := -y) (by unfold inM at *; omega), wrap64_id (x := -z) (by unfold inM at *; omega)]
  · left
    rw [if_neg h]
    refine ⟨?_, by omega⟩
    simp only [mulW, List.map_cons, List.map_nil, Int.one_mul]
    rw [wrap64_id hx, wrap64_id hy, wrap64_id hz]
theorem sgn3 (x y z : Int) : (0 < sgn [x, y, z] ↔ (0 < x ∨ (x = 0 ∧ (0 < y ∨ (y = 0 ∧ 0 < z))))) ∧ (sgn [x, y, z] < 0 ↔ (x < 0 ∨ (x = 0 ∧ (y < 0 ∨ (y = 0 ∧ z < 0))))) := by
  have s1 : ∀ c : Int, (0 < sgn1 c ↔ 0 < c) ∧ (sgn1 c < 0 ↔ c < 0) ∧ (sgn1 c = 0 ↔ c = 0) := by
    intro c
    unfold sgn1
    split
    · omega
    · split <;> omega
  have a1 := s1 x
  have a2 := s1 y
  have a3 := s1 z
  simp only [sgn]
  by_cases h1 : sgn1 x = 0
  · rw [if_pos h1]
    by_cases h2 : sgn1 y = 0
    · rw [if_pos h2]
      by_cases h3 : sgn1 z = 0
      · rw [if_pos h3]; omega
      · rw [if_neg h3]; omega
    · rw [if_neg h2]; omega
  · rw [if_neg h1]; omega
theorem part_first {x y z : Int} (hx : inM x) (hy : inM y) (hz : inM z) (k : Nat) (h : ∀ j, j < k → (partL [x, y, z])[j]?.getD 0 = 0) : 0 ≤ (partL [x, y, z])[k]?.getD 0 := by
  have s := sgn3 x y z
  rcases part_is hx hy hz with ⟨e, hs⟩ | ⟨e, hs⟩
  all_goals
    rw [e] at h ⊢
    rcases k with _ | _ | _ | k
    · simp; omega
    · have h0 := h 0 (by omega)
      simp at h0 ⊢
      omega
    · have h0 := h 0 (by omega)
      have h1 := h 1 (by omega)
      simp at h0 h1 ⊢
      omega
    · simp
theorem part_other {x y z : Int} (hx : inM x) (hy : inM y) (hz : inM z) (h : eqB (partL [x, y, z]) [x, y, z] = false) : eqB (partL [x, y, z]) [-x, -y, -z] = true := by
  rcases part_is hx hy hz with ⟨e, _⟩ | ⟨e, _⟩
  · rw [e] at h
    simp [eqB] at h
  · rw [e]
    exact eqB_refl _
theorem part_neg {x y z : Int} (hx : inM x) (hy : inM y) (hz : inM z) : partL [-x, -y, -z] = partL [x, y, z] := by
  have s := sgn3 x y z
  have s' := sgn3 (-x) (-y) (-z)
  rcases part_is hx hy hz with ⟨e, hs⟩ | ⟨e, hs⟩ <;> rcases part_is (x := -x) (y := -y) (z := -z) (by unfold inM at *; omega) (by unfold inM at *; omega) (by unfold inM at *; omega) with ⟨e', hs'⟩ | ⟨e', hs'⟩ <;> rw [e, e']
  · obtain ⟨rfl, rfl, rfl⟩ : x = 0 ∧ y = 0 ∧ z = 0 := by omega
    rfl
  · simp
  · omega

set_option maxHeartbeats 6400000 in
theorem walk (w : World) (a : Option Addr) (n cap : Nat) (A0 : List Int) (hA0 : BInts w a n A0) (hn : n ≤ cap ∧ cap ≤ maxLen) :
    Calls Try.prog 7 #[.slice a n cap] w fun e w' => e = .returned (.bool true) ∧ Below w.heap.size w w' := by
  obtain ⟨hn2, hn3⟩ := hn
  by_cases hn1 : n ≤ 1048576
  · go_enter Try.func7, Try.ntmps7
    go_wp2_with fail
    refine (dPart _ _ _ A0 _ hA0 hn2 hn1 hn3).mono ?_
    rintro ee w1 ⟨B1, n1, c1, B2, n2, c2, f, rfl, b1, hf⟩
    have BB := b1
    clear b1
    have al := (Below.refl (w1).heap.size (w1)).alloc (Nat.le_refl _) (.cells #[.slice (some ⟨B1, 0, none⟩) n1 c1, .slice (some ⟨B2, 0, none⟩) n2 c2, .int .i64 f.2.2] 25)
    replace BB := BB.trans (al.mono BB.size)
    replace hf := hf.below al
    clear al
    have q3 := Cel.new (w1) [.slice (some ⟨B1, 0, none⟩) n1 c1, .slice (some ⟨B2, 0, none⟩) n2 c2, .int .i64 f.2.2] 25
    have g3_0 := q3.cell 0
    have g3_1 := q3.cell 1
    have g3_2 := q3.cell 2
    simp only [List.getElem?_cons_zero, List.getElem?_cons_succ] at g3_0 g3_1 g3_2
    go_wp2_with fail
    obtain ⟨W2, hW2⟩ : ∃ W, W = (w1).alloc (.cells #[.slice (some ⟨B1, 0, none⟩) n1 c1, .slice (some ⟨B2, 0, none⟩) n2 c2, .int .i64 f.2.2] 25) := ⟨_, rfl⟩
    rw [← hW2]
    rw [← hW2] at hf q3 BB g3_0 g3_1 g3_2
    clear hW2
    obtain ⟨X3, hX3⟩ : ∃ x, x = w1.heap.size := ⟨_, rfl⟩
    rw [← hX3]
    rw [← hX3] at q3 g3_0 g3_1 g3_2
    clear hX3
    refine (pPart f _ _ _ _ _ _ _ hf).mono ?_
    rintro ee w3 ⟨pa, pc, rfl, hp, b2⟩
    clear g3_0 g3_1 g3_2
    replace BB := BB.trans (b2.mono BB.size)
    replace hf := hf.below b2
    replace q3 := q3.below b2
    clear b2
    have g3_0 := q3.cell 0
    have g3_1 := q3.cell 1
    have g3_2 := q3.cell 2
    simp only [List.getElem?_cons_zero, List.getElem?_cons_succ] at g3_0 g3_1 g3_2
    go_wp2_with fail
    refine (qPart f _ _ _ _ _ _ _ hf).mono ?_
    rintro ee w4 ⟨ra, rc, rfl, hr, b3⟩
    clear g3_0 g3_1 g3_2
    replace BB := BB.trans (b3.mono BB.size)
    replace hf := hf.below b3
    replace hp := hp.below b3
    replace q3 := q3.below b3
    clear b3
    have g3_0 := q3.cell 0
    have g3_1 := q3.cell 1
    have g3_2 := q3.cell 2
    simp only [List.getElem?_cons_zero, List.getElem?_cons_succ] at g3_0 g3_1 g3_2
    go_wp2_with fail
    refine (coI_any _ _ _ _ _ _ (partL f.1) (partL f.1) _ hp hr hf.hn hf.hn).mono ?_
    rintro ee w5 ⟨rfl, b4⟩
    rw [eqB_refl]
    clear g3_0 g3_1 g3_2
    replace BB := BB.trans (b4.mono BB.size)
    replace hf := hf.below b4
    replace hp := hp.below b4
    replace hr := hr.below b4
    replace q3 := q3.below b4
    clear b4
    have g3_0 := q3.cell 0
    have g3_1 := q3.cell 1
    have g3_2 := q3.cell 2
    simp only [List.getElem?_cons_zero, List.getElem?_cons_succ] at g3_0 g3_1 g3_2
    go_wp2_with fail
    refine (qOk f _ _ _ _ _ _ _ hf).mono ?_
    rintro ee w6 ⟨rfl, b5⟩
    clear g3_0 g3_1 g3_2
    replace BB := BB.trans (b5.mono BB.size)
    replace hf := hf.below b5
    replace hp := hp.below b5
    replace hr := hr.below b5
    replace q3 := q3.below b5
    clear b5
    cases h0 : okP f
    · have en : ((n1 : Int) == (n1 : Int)) = true := by simp
      have g3_0 := q3.cell 0
      have g3_1 := q3.cell 1
      have g3_2 := q3.cell 2
      simp only [List.getElem?_cons_zero, List.getElem?_cons_succ] at g3_0 g3_1 g3_2
      go_wp2_with fail
      refine (coHolds_any _).mono ?_
      rintro ee w7 ⟨rfl, bh⟩
      clear g3_0 g3_1 g3_2
      replace BB := BB.trans (bh.mono BB.size)
      replace hf := hf.below bh
      replace hp := hp.below bh
      replace hr := hr.below bh
      replace q3 := q3.below bh
      clear bh
      go_wp2
      go_ret
      exact ⟨rfl, BB⟩
    · obtain ⟨x, y, z, s, t, K, rfl, mx, my, mz, _⟩ := okP_shape h0
      have hn13 : n1 = 3 := hf.C.1.symm
      subst hn13
      dsimp only at hf hp hr q3 ⊢
      have hP : Hid (∀ k : Nat, (∀ j : Nat, j < k → (partL [x, y, z])[j]?.getD 0 = 0) → 0 ≤ (partL [x, y, z])[k]?.getD 0) := part_first mx my mz
      have g3_0 := q3.cell 0
      have g3_1 := q3.cell 1
      have g3_2 := q3.cell 2
      simp only [List.getElem?_cons_zero, List.getElem?_cons_succ] at g3_0 g3_1 g3_2
      go_wp2_with fail
      go_loopw [5, 6] (fun fs i wr => ∃ (k : Nat) (u : Int), k ≤ 3 ∧ i = .int .i64 k ∧ fs = .int .i64 u ∧ 0 ≤ u ∧ (u = 0 → ∀ j, j < k → (partL [x, y, z])[j]?.getD 0 = 0) ∧ wr = w6) (fun _ i _ => 3 - (intOf i).toNat)
      case atStart => exact ⟨0, 0, by omega, rfl, rfl, by omega, fun _ j hj => by omega, rfl⟩
      case round =>
        obtain ⟨k, u, hk, rfl, rfl, hu, hz, rfl⟩ := hrel
        have HZ : Hid (u = 0 → ∀ j, j < k → (partL [x, y, z])[j]?.getD 0 = 0) := hz
        clear hz
        by_cases hlt : k < 3
        · have hk' : (k : Int) < 3 := by omega
          by_cases hu0 : u = 0
          · have hu' : (u == 0) = true := by simpa using hu0
            obtain ⟨vb, vo, rfl, hcell⟩ := hp.pos (by omega)
            have hck := hcell k hlt
            have h3 := hP.out k (HZ.out hu0)
            clear hcell
            go_wp2
            go_roundw
            case rel => exact ⟨k + 1, _, by omega, by go_num, rfl, h3, fun e j hj => if h : j < k then HZ.out hu0 j h else (show j = k from by omega) ▸ e, by first | rfl | trivial⟩
            case measure => simp [intOf]; omega
          · have hu' : (u == 0) = false := by simpa using hu0
            go_wp2
            go_roundw
            case rel => exact ⟨k + 1, u, by omega, by go_num, rfl, hu, fun e => absurd e hu0, by first | rfl | trivial⟩
            case measure => simp [intOf]; omega
        · have hk' : ¬ (k : Int) < 3 := by omega
          have hu' : u ≥ 0 := hu
          clear hP HZ
          go_wp2_with fail
          refine (pTim ([x, y, z], [s, t], K) (-1) _ _ _ _ _ _ _ hf).mono ?_
          rintro ee w7 ⟨a5, n5, c5, a6, n6, c6, rfl, hx, b6⟩
          clear g3_0 g3_1 g3_2
          replace BB := BB.trans (b6.mono BB.size)
          replace hf := hf.below b6
          replace hp := hp.below b6
          replace hr := hr.below b6
          replace q3 := q3.below b6
          clear b6
          have EN : Hid (timP ([x, y, z], [s, t], K) (-1) = ([-x, -y, -z], [-s, -t], -K)) := (tim_neg h0).1
          have hx' := hx
          rw [EN.out] at hx'
          have hn5 : n5 = 3 := hx'.C.1.symm
          clear hx'
          subst hn5
          have g3_0 := q3.cell 0
          have g3_1 := q3.cell 1
          have g3_2 := q3.cell 2
          simp only [List.getElem?_cons_zero, List.getElem?_cons_succ] at g3_0 g3_1 g3_2
          go_wp2_with fail
          refine (pPart (timP ([x, y, z], [s, t], K) (-1)) _ _ _ _ _ _ _ hx).mono ?_
          rintro ee w8 ⟨ka, kc, rfl, hb, b7⟩
          clear g3_0 g3_1 g3_2
          replace BB := BB.trans (b7.mono BB.size)
          replace hf := hf.below b7
          replace hp := hp.below b7
          replace hr := hr.below b7
          replace hx := hx.below b7
          replace q3 := q3.below b7
          clear b7
          have g3_0 := q3.cell 0
          have g3_1 := q3.cell 1
          have g3_2 := q3.cell 2
          simp only [List.getElem?_cons_zero, List.getElem?_cons_succ] at g3_0 g3_1 g3_2
          go_wp2_with fail
          refine (pTim ([x, y, z], [s, t], K) (-1) _ _ _ _ _ _ _ hf).mono ?_
          rintro ee w9 ⟨a7, n7, c7, a8, n8, c8, rfl, hy, b8⟩
          clear g3_0 g3_1 g3_2
          replace BB := BB.trans (b8.mono BB.size)
          replace hf := hf.below b8
          replace hp := hp.below b8
          replace hr := hr.below b8
          replace hx := hx.below b8
          replace hb := hb.below b8
          replace q3 := q3.below b8
          clear b8
          have hy' := hy
          rw [EN.out] at hy'
          have hn7 : n7 = 3 := hy'.C.1.symm
          clear hy'
          subst hn7
          have al := (Below.refl (w9).heap.size (w9)).alloc (Nat.le_refl _) (.cells #[.slice a7 3 c7, .slice a8 n8 c8, .int .i64 (timP ([x, y, z], [s, t], K) (-1)).2.2] 25)
          replace BB := BB.trans (al.mono BB.size)
          replace hf := hf.below al
          replace hp := hp.below al
          replace hr := hr.below al
          replace hx := hx.below al
          replace hb := hb.below al
          replace hy := hy.below al
          replace q3 := q3.below al
          clear al
          have q8 := Cel.new (w9) [.slice a7 3 c7, .slice a8 n8 c8, .int .i64 (timP ([x, y, z], [s, t], K) (-1)).2.2] 25
          have g3_0 := q3.cell 0
          have g3_1 := q3.cell 1
          have g3_2 := q3.cell 2
          have g8_0 := q8.cell 0
          have g8_1 := q8.cell 1
          have g8_2 := q8.cell 2
          simp only [List.getElem?_cons_zero, List.getElem?_cons_succ] at g3_0 g3_1 g3_2 g8_0 g8_1 g8_2
          go_wp2_with fail
          obtain ⟨W10, hW10⟩ : ∃ W, W = (w9).alloc (.cells #[.slice a7 3 c7, .slice a8 n8 c8, .int .i64 (timP ([x, y, z], [s, t], K) (-1)).2.2] 25) := ⟨_, rfl⟩
          rw [← hW10]
          rw [← hW10] at hf hp hr hx hb hy q3 q8 BB g3_0 g3_1 g3_2 g8_0 g8_1 g8_2
          clear hW10
          obtain ⟨X8, hX8⟩ : ∃ x, x = w9.heap.size := ⟨_, rfl⟩
          rw [← hX8]
          rw [← hX8] at q8 g8_0 g8_1 g8_2
          clear hX8
          refine (coI_any _ _ _ _ _ _ (partL (timP ([x, y, z], [s, t], K) (-1)).1) (partL [x, y, z]) _ hb hp (by omega) (by omega)).mono ?_
          rintro ee w11 ⟨rfl, b9⟩
          rw [EN.out]
          dsimp only
          rw [part_neg mx my mz, eqB_refl]
          clear g3_0 g3_1 g3_2 g8_0 g8_1 g8_2
          replace BB := BB.trans (b9.mono BB.size)
          replace hf := hf.below b9
          replace hp := hp.below b9
          replace hr := hr.below b9
          replace hx := hx.below b9
          replace hb := hb.below b9
          replace hy := hy.below b9
          replace q3 := q3.below b9
          replace q8 := q8.below b9
          clear b9
          have g3_0 := q3.cell 0
          have g3_1 := q3.cell 1
          have g3_2 := q3.cell 2
          have g8_0 := q8.cell 0
          have g8_1 := q8.cell 1
          have g8_2 := q8.cell 2
          simp only [List.getElem?_cons_zero, List.getElem?_cons_succ] at g3_0 g3_1 g3_2 g8_0 g8_1 g8_2
          go_wp2_with fail
          refine (coI_any _ _ _ _ _ _ (partL [x, y, z]) [x, y, z] _ hp hf.C (by omega) (by omega)).mono ?_
          rintro ee w12 ⟨rfl, b9⟩
          clear g3_0 g3_1 g3_2 g8_0 g8_1 g8_2
          replace BB := BB.trans (b9.mono BB.size)
          replace hf := hf.below b9
          replace hp := hp.below b9
          replace hr := hr.below b9
          replace hx := hx.below b9
          replace hb := hb.below b9
          replace hy := hy.below b9
          replace q3 := q3.below b9
          replace q8 := q8.below b9
          clear b9
          cases h9 : eqB (partL [x, y, z]) [x, y, z]
          · have g3_0 := q3.cell 0
            have g3_1 := q3.cell 1
            have g3_2 := q3.cell 2
            have g8_0 := q8.cell 0
            have g8_1 := q8.cell 1
            have g8_2 := q8.cell 2
            simp only [List.getElem?_cons_zero, List.getElem?_cons_succ] at g3_0 g3_1 g3_2 g8_0 g8_1 g8_2
            go_wp2_with fail
            refine (coI_any _ _ _ _ _ _ (partL [x, y, z]) (timP ([x, y, z], [s, t], K) (-1)).1 _ hp hy.C (by omega) (by omega)).mono ?_
            rintro ee w13 ⟨rfl, b9⟩
            have e7 : eqB (partL [x, y, z]) (timP ([x, y, z], [s, t], K) (-1)).1 = true := by rw [EN.out]; exact part_other mx my mz h9
            rw [e7]
            clear g3_0 g3_1 g3_2 g8_0 g8_1 g8_2
            replace BB := BB.trans (b9.mono BB.size)
            replace hf := hf.below b9
            replace hp := hp.below b9
            replace hr := hr.below b9
            replace hx := hx.below b9
            replace hb := hb.below b9
            replace hy := hy.below b9
            replace q3 := q3.below b9
            replace q8 := q8.below b9
            clear b9
            have g3_0 := q3.cell 0
            have g3_1 := q3.cell 1
            have g3_2 := q3.cell 2
            have g8_0 := q8.cell 0
            have g8_1 := q8.cell 1
            have g8_2 := q8.cell 2
            simp only [List.getElem?_cons_zero, List.getElem?_cons_succ] at g3_0 g3_1 g3_2 g8_0 g8_1 g8_2
            go_wp2_with fail
            refine (coHolds_any _).mono ?_
            rintro ee w14 ⟨rfl, bh⟩
            clear g3_0 g3_1 g3_2 g8_0 g8_1 g8_2
            replace BB := BB.trans (bh.mono BB.size)
            replace hf := hf.below bh
            replace hp := hp.below bh
            replace hr := hr.below bh
            replace hx := hx.below bh
            replace hb := hb.below bh
            replace hy := hy.below bh
            replace q3 := q3.below bh
            replace q8 := q8.below bh
            clear bh
            go_wp2
            go_ret
            exact ⟨rfl, BB⟩
          · have g3_0 := q3.cell 0
            have g3_1 := q3.cell 1
            have g3_2 := q3.cell 2
            have g8_0 := q8.cell 0
            have g8_1 := q8.cell 1
            have g8_2 := q8.cell 2
            simp only [List.getElem?_cons_zero, List.getElem?_cons_succ] at g3_0 g3_1 g3_2 g8_0 g8_1 g8_2
            go_wp2_with fail
            refine (coHolds_any _).mono ?_
            rintro ee w13 ⟨rfl, bh⟩
            clear g3_0 g3_1 g3_2 g8_0 g8_1 g8_2
            replace BB := BB.trans (bh.mono BB.size)
            replace hf := hf.below bh
            replace hp := hp.below bh
            replace hr := hr.below bh
            replace hx := hx.below bh
            replace hb := hb.below bh
            replace hy := hy.below bh
            replace q3 := q3.below bh
            replace q8 := q8.below bh
            clear bh
            go_wp2
            go_ret
            exact ⟨rfl, BB⟩
  · go_enter Try.func7, Try.ntmps7
    go_wp2
    go_ret
    exact ⟨rfl, Below.refl _ _⟩

/-! ### The row's step -/
set_option maxRecDepth 100000 in
theorem lifted (os : Os) (started : os.Started) (H : Type) (enc : TypeId × Value → H) :
    ReturnsInHanded {} Try.checked os 7 .any (Rows.fnCatPartSpec.pre6 enc Try.prog Try.f7 Rows.fnCatPartRow.domain false) (Rows.fnCatPartSpec.post enc Try.prog Try.f7 false true false false) := by
  refine returnsInHanded_of_change (C := Try.checked) own started (by kernel_rfl) Try.func7
    (ChangeSpec.witness6 (enc := enc) (C := Try.checked) false ⟨#[], #[.slice none 0 0], []⟩ 8 (by kernel_rfl) (by kernel_rfl) (by kernel_rfl) (by kernel_rfl)) ?_
  intro W base args ds gs before hval0 hW hcnd _
  have hval : ∀ (j : Nat) t v, Try.f7.params[j]? = some t → args[j]? = some v → Value.okWide Try.prog W .any base t v := hval0
  have hW' := hW
  obtain ⟨p, q, hA0, hV, rfl, hfz, hnd⟩ := hW
  have hA : DataW.TrodAll enc Try.prog W 0 (fun _ => true) true Try.f7.params.toList args.toList ds p := hA0
  rw [Try.params7] at hA hval
  obtain ⟨v0, vs0, d0, ds0, p0, q0, hargs, rfl, rfl, h0, r0⟩ := trodAll_cons hA
  obtain ⟨rfl, rfl, rfl⟩ := trodAll_nil r0
  obtain rfl : args = #[v0] := by cases args; simp_all
  obtain ⟨rfl, rfl⟩ := trodVars_none hV
  have k0 := h0
  have lt0 : ∀ x ∈ p0, x.block < W.heap.size := by obtain ⟨m, hm⟩ := k0; exact DataW.trod_lt m _ _ _ hm
  obtain ⟨a0, n0, cap0, C0, rfl, hC0, hn0⟩ := open_bytesT (hval 0 22 v0 rfl rfl) h0
  clear hA0 hval0
  refine (walk W a0 n0 cap0 C0 hC0 hn0).mono fun e W' ⟨he, bel⟩ => ?_
  subst he
  exact ⟨_, rfl, _, _, _, [], _, [], hW', trodAll_mk1 (shut_bool Try.underlying4 _), (trodAll_cons_mk (Below.trod laidOut (by kernel_rfl) (of_decide_eq_true (by kernel_rfl)) k0 bel lt0) trodAll_mk0), rfl, bel.frame _, fun h => by cases h⟩

theorem over : Rows.fnCatPartRow.holds Try.pinned (OpenSpec.ofChange Rows.fnCatPartSpec) :=
  OpenClaim.holds_of_wide 7 Try.f7 rfl rfl rfl rfl rfl rfl rfl ⟨rfl, rfl, rfl, rfl, rfl⟩ rfl rfl rfl rfl rfl (by kernel_rfl) Try.func7 (by kernel_rfl)
    (of_decide_eq_true (by kernel_rfl)) (by unfold Func.isWrapper; first | (rw [if_pos (by decide +kernel)]; kernel_rfl) | (rw [if_neg (by decide +kernel)]; exact ⟨rfl, rfl⟩))
    (fun os started H enc _ => lifted os started H enc)

end Go.Proofs.Ytjhbapgpeimlhaa.fnCatPart
namespace Go.Proofs.Ytjhbapgpeimlhaa
/-- The statement. -/
theorem fnCatPart_holds : Rows.FnCatPartSaid := fnCatPart.over
#print axioms fnCatPart_holds
end Go.Proofs.Ytjhbapgpeimlhaa
