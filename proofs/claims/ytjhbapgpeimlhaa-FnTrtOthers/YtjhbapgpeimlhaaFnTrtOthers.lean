/-
  For all bytes FnTrtOthers returns true, and what came in reads behind the call as it did. No condition. (what others may adds up)
-/
import Derived.Test.YtjhbapgpeimlhaaDrTr
import Derived.Test.YtjhbapgpeimlhaaTrtW
import Derived.Test.YtjhbapgpeimlhaaFvL
import Derived.Test.YtjhbapgpeimlhaaOpen
namespace Go.Proofs.Ytjhbapgpeimlhaa.fnTrtOthers
open Go.ChangeShapes Go.WideShapes Go.ChangeAt Go.RowKit
set_option linter.unusedVariables false
set_option maxRecDepth 100000

theorem open_bytesT {H : Type} {enc : TypeId × Value → H} {W : World} {r : Reach} {b0 : Nat} {v : Value} {d : DataW H} {p : List MemPlace}
    (hv : Value.okWide Try.prog W r b0 22 v) (h : DataW.Trod enc Try.prog W 0 (fun _ => true) true 22 v d p) : ∃ a n cap zs, v = .slice a n cap ∧ BInts W a n zs ∧ (n ≤ cap ∧ cap ≤ maxLen) := by
  obtain ⟨a0, len0, cap0, rfl⟩ := okWide_slice Try.underlying22 hv
  obtain ⟨fuel, hf⟩ := h
  rcases open_ints Try.underlying22 Try.underlying5 (by kernel_rfl) hf with ⟨hcs, _⟩ | ⟨x, l, c, zs, hcs, _, hl, hm, hz, _, hcell, hwz⟩
  · simp [Value.cells] at hcs
    obtain ⟨rfl, rfl, rfl⟩ := hcs
    exact ⟨none, 0, 0, [], rfl, ⟨rfl, fun i hi => by omega, fun i => by simp⟩, by omega, by unfold maxLen; omega⟩
  · simp [Value.cells] at hcs
    obtain ⟨rfl, rfl, rfl⟩ := hcs
    have hz' : zs.length = cap0 := by simpa using hz
    refine ⟨some x, len0, cap0, zs.take len0, rfl, ⟨by rw [List.length_take]; omega, fun i hi => ?_, fun i => ?_⟩, hl, hm⟩
    · obtain ⟨b, off, spot⟩ := x
      have hc0 := hcell 0 (by omega)
      have hspot : spot = none := by simpa [Addr.add] using World.cell?_spot hc0
      subst hspot
      refine ⟨b, off, rfl, ?_⟩
      have hc := hcell i (by omega)
      have : W.cell? ⟨b, off + i, none⟩ = some (.int .u8 (zs.getD i 0)) := by
        by_cases h0 : i = 0
        · subst h0; simpa [Addr.add] using hc
        · simpa [Addr.add, h0] using hc
      rw [this]
      simp [hi]
    · by_cases hi : i < (zs.take len0).length
      · rw [List.getElem?_eq_getElem hi]
        have := hwz _ (List.mem_of_mem_take (List.getElem_mem hi))
        simpa [Lit.wf, IntKind.min, IntKind.max, IntKind.signed, IntKind.bits] using this
      · rw [List.getElem?_eq_none (by omega)]
        simp

theorem oth_all {D : List Int} {m : Nat} (h : bnd 51 D) (hl : D.length = m) (hm : m ≤ 3) (s : Int) : -200 ≤ others D s m ∧ others D s m ≤ 200 ∧ (¬ (0 ≤ s ∧ s < m) → others D s m = others D (-1) m) ∧ (∀ i : Nat, s = i → i < m → others D s m + D[i]?.getD 0 = others D (-1) m) := by
  subst hl
  have h0 := h 0
  have h1 := h 1
  have h2 := h 2
  match D, hm with
  | [], _ => simp [others]
  | [x], _ =>
    simp only [List.getElem?_cons_zero, List.getElem?_cons_succ, Option.getD_some, List.length_cons, List.length_nil, others, wrap64] at *
    refine ⟨by split <;> omega, by split <;> omega, fun hn => ?_, fun i hi hlt => ?_⟩
    · rw [if_neg (by omega)]; simp
    · obtain rfl : i = 0 := by omega
      subst hi
      simp
      omega
  | [x, y], _ =>
    simp only [List.getElem?_cons_zero, List.getElem?_cons_succ, Option.getD_some, List.length_cons, List.length_nil, others, wrap64] at *
    refine ⟨by split <;> split <;> omega, by split <;> split <;> omega, fun hn => ?_, fun i hi hlt => ?_⟩
    · rw [if_neg (by omega), if_neg (by omega), if_neg (by omega), if_neg (by omega)]
    · subst hi
      rcases i with _ | _ | i
      · simp; omega
      · simp; omega
      · omega
  | [x, y, z], _ =>
    simp only [List.getElem?_cons_zero, List.getElem?_cons_succ, Option.getD_some, List.length_cons, List.length_nil, others, wrap64] at *
    refine ⟨by split <;> split <;> split <;> omega, by split <;> split <;> split <;> omega, fun hn => ?_, fun i hi hlt => ?_⟩
    · rw [if_neg (by omega), if_neg (by omega), if_neg (by omega), if_neg (by omega), if_neg (by omega), if_neg (by omega)]
    · subst hi
      rcases i with _ | _ | _ | i
      · simp; omega
      · simp; omega
      · simp; omega
      · omega
theorem oth_lit : others [2, 3] 0 2 = 3 := by simp [others, wrap64]

set_option maxHeartbeats 6400000 in
theorem walk (w : World) (a : Option Addr) (n cap : Nat) (A0 : List Int) (hA0 : BInts w a n A0) (hn : n ≤ cap ∧ cap ≤ maxLen) :
    Calls Try.prog 8 #[.slice a n cap] w fun e w' => e = .returned (.bool true) ∧ Below w.heap.size w w' := by
  obtain ⟨hn2, hn3⟩ := hn
  by_cases hn1 : n ≤ 1048576
  · go_enter Try.func8, Try.ntmps8
    go_wp2_with fail
    refine (dOthers _ _ _ A0 _ hA0 hn2 hn1 hn3).mono ?_
    rintro ee w1 ⟨ba, bn, bc, ga, gn, gc, B, G, st, rfl, b1, hB, hG, x1, x2, x3, x4, x5⟩
    have BB := b1
    clear b1
    have al := (Below.refl (w1).heap.size (w1)).alloc (Nat.le_refl _) (.cells #[.slice ba bn bc, .slice ga gn gc] 53)
    replace BB := BB.trans (al.mono BB.size)
    replace hB := hB.below al
    replace hG := hG.below al
    clear al
    have q3 := Cel.new (w1) [.slice ba bn bc, .slice ga gn gc] 53
    have g3_0 := q3.cell 0
    have g3_1 := q3.cell 1
    simp only [List.getElem?_cons_zero, List.getElem?_cons_succ] at g3_0 g3_1
    go_wp2_with fail
    obtain ⟨W2, hW2⟩ : ∃ W, W = (w1).alloc (.cells #[.slice ba bn bc, .slice ga gn gc] 53) := ⟨_, rfl⟩
    rw [← hW2]
    rw [← hW2] at hB hG q3 BB g3_0 g3_1
    clear hW2
    obtain ⟨X3, hX3⟩ : ∃ x, x = w1.heap.size := ⟨_, rfl⟩
    rw [← hX3]
    rw [← hX3] at q3 g3_0 g3_1
    clear hX3
    refine (iothers_any _ _ _ _ _ _ G st _ hG (by omega)).mono ?_
    rintro ee w3 ⟨rfl, b2⟩
    clear g3_0 g3_1
    replace BB := BB.trans (b2.mono BB.size)
    replace hB := hB.below b2
    replace hG := hG.below b2
    replace q3 := q3.below b2
    clear b2
    have g3_0 := q3.cell 0
    have g3_1 := q3.cell 1
    simp only [List.getElem?_cons_zero, List.getElem?_cons_succ] at g3_0 g3_1
    go_wp2_with fail
    refine (sothers_any _ _ _ _ _ _ G st _ hG (by omega)).mono ?_
    rintro ee w4 ⟨rfl, b3⟩
    clear g3_0 g3_1
    replace BB := BB.trans (b3.mono BB.size)
    replace hB := hB.below b3
    replace hG := hG.below b3
    replace q3 := q3.below b3
    clear b3
    have e0 : (others G st gn != others G st gn) = false := by simp
    have g3_0 := q3.cell 0
    have g3_1 := q3.cell 1
    simp only [List.getElem?_cons_zero, List.getElem?_cons_succ] at g3_0 g3_1
    go_wp2_with fail
    refine (iothers_any _ _ _ _ _ _ G (-1) _ hG (by omega)).mono ?_
    rintro ee w5 ⟨rfl, b4⟩
    clear g3_0 g3_1
    replace BB := BB.trans (b4.mono BB.size)
    replace hB := hB.below b4
    replace hG := hG.below b4
    replace q3 := q3.below b4
    clear b4
    have HO : Hid (∀ s : Int, -200 ≤ others G s gn ∧ others G s gn ≤ 200 ∧ (¬ (0 ≤ s ∧ s < gn) → others G s gn = others G (-1) gn) ∧ (∀ i : Nat, s = i → i < gn → others G s gn + G[i]?.getD 0 = others G (-1) gn)) := fun s => oth_all x3 hG.1 x2 s
    have g3_0 := q3.cell 0
    have g3_1 := q3.cell 1
    simp only [List.getElem?_cons_zero, List.getElem?_cons_succ] at g3_0 g3_1
    go_wp2_with fail
    go_loopw [7] (fun i wr => ∃ k : Nat, k ≤ gn ∧ i = .int .i64 k ∧ Below w5.heap.size w5 wr) (fun i _ => gn - (intOf i).toNat)
    case atStart => exact ⟨0, Nat.zero_le _, rfl, Below.refl _ _⟩
    case round =>
      obtain ⟨k, hk, rfl, hb⟩ := hrel
      have HL := hb
      clear g3_0 g3_1
      replace BB := BB.trans (hb.mono BB.size)
      replace hB := hB.below hb
      replace hG := hG.below hb
      replace q3 := q3.below hb
      clear hb
      by_cases hlt : k < gn
      · have hk' : (k : Int) < (gn : Int) := by omega
        obtain ⟨o1, o2, _, o3⟩ := HO.out (k : Int)
        have o4 := o3 k rfl hlt
        clear o3
        have hbG := x3 k
        obtain ⟨gb, go, rfl, hcell⟩ := hG.pos (by omega)
        clear hcell
        have g3_0 := q3.cell 0
        have g3_1 := q3.cell 1
        simp only [List.getElem?_cons_zero, List.getElem?_cons_succ] at g3_0 g3_1
        go_upto_region 11 with fail
        clear g3_0 g3_1
        refine wp_region_ends (fun X => X.cell? ⟨X3, 0, none⟩ = some (.slice ba bn bc) ∧ X.cell? ⟨X3, 1, none⟩ = some (.slice (some ⟨gb, go, none⟩) gn gc) ∧ X.cell? ⟨gb, go + k, none⟩ = some (.int .i64 (G[k]?.getD 0))) (fun _ => True) 10 (by kernel_rfl) ?_
        have dr : Below wr.heap.size wr wr.drew := (Below.refl _ _).drew
        replace BB := BB.trans (dr.mono BB.size)
        replace HL := HL.trans (dr.mono HL.size)
        replace hB := hB.below dr
        replace hG := hG.below dr
        replace q3 := q3.below dr
        clear dr
        obtain ⟨V9, hV9⟩ : ∃ V, V = wr.drew := ⟨_, rfl⟩
        rw [← hV9]
        rw [← hV9] at hB hG q3 BB HL
        clear hV9
        have hSS : (V9.cell? ⟨X3, 0, none⟩ = some (.slice ba bn bc) ∧ V9.cell? ⟨X3, 1, none⟩ = some (.slice (some ⟨gb, go, none⟩) gn gc) ∧ V9.cell? ⟨gb, go + k, none⟩ = some (.int .i64 (G[k]?.getD 0))) ∧ True := ⟨⟨q3.cell 0, q3.cell 1, by obtain ⟨b', o', e1, hh⟩ := hG.2 k hlt; simp only [Option.some.injEq, Addr.mk.injEq, and_true] at e1; obtain ⟨rfl, rfl⟩ := e1; simpa using hh⟩, trivial⟩
        have ew : IntKind.i64.wrap (others G (k : Int) gn + G[k]?.getD 0) = others G (-1) gn := by rw [o4]; exact wrap_id (by have := HO.out (-1); omega) (by have := HO.out (-1); omega)
        have ew2 : IntKind.i64.wrap (others G (-1) gn) = others G (-1) gn := wrap_id (by have := HO.out (-1); omega) (by have := HO.out (-1); omega)
        have en : (others G (-1) gn != others G (-1) gn) = false := by simp
        refine wpAnyE_take0 (i := 0) (v := ?k1xv0) rfl (by kernel_rfl) (by kernel_rfl) (by kernel_rfl) (by decide) (fun _ _ _ h => h) (Or.inl ⟨by rfl, ?k1xhy0⟩) hSS ?_
        case k1xhy0 => (intro wz hSw; (try dsimp only at hSw); go_simp; try (with_reducible rfl))
        refine wpAnyE_take0 (i := 1) (v := ?k1xv1) rfl (by kernel_rfl) (by kernel_rfl) (by kernel_rfl) (by decide) (fun _ _ _ h => h) (Or.inl ⟨by rfl, ?k1xhy1⟩) hSS ?_
        case k1xhy1 => (intro wz hSw; (try dsimp only at hSw); go_simp; try (with_reducible rfl))
        refine wpAnyE_take0 (i := 3) (v := ?k1xv3) rfl (by kernel_rfl) (by kernel_rfl) (by kernel_rfl) (by decide) (fun _ _ _ h => h) (Or.inl ⟨by rfl, ?k1xhy3⟩) hSS ?_
        case k1xhy3 => (intro wz hSw; (try dsimp only at hSw); go_simp; try (with_reducible rfl))
        refine wpAnyE_take0 (i := 4) (v := ?k1xv4) rfl (by kernel_rfl) (by kernel_rfl) (by kernel_rfl) (by decide) (fun _ _ _ h => h) (Or.inl ⟨by rfl, ?k1xhy4⟩) hSS ?_
        case k1xhy4 => (intro wz hSw; (try dsimp only at hSw); go_simp; try (with_reducible rfl))
        simp only [Act.put, List.setIfInBounds_toArray, List.set_cons_succ, List.set_cons_zero, List.getElem_toArray, List.getElem_cons_succ, List.getElem_cons_zero]
        refine wpAnyE_take0 (i := 5) (v := ?k1xv5) rfl (by kernel_rfl) (by kernel_rfl) (by kernel_rfl) (by decide) (fun _ _ _ h => h) (Or.inl ⟨by rfl, ?k1xhy5⟩) hSS ?_
        case k1xhy5 => (intro wz hSw; (try dsimp only at hSw); go_simp; try (with_reducible rfl))
        refine wpAnyE_take0 (i := 6) (v := ?k1xv6) rfl (by kernel_rfl) (by kernel_rfl) (by kernel_rfl) (by decide) (fun _ _ _ h => h) (Or.inl ⟨by rfl, ?k1xhy6⟩) hSS ?_
        case k1xhy6 => (intro wz hSw; (try dsimp only at hSw); go_simp; try (with_reducible rfl))
        refine wpAnyE_take0 (i := 7) (v := ?k1xv7) rfl (by kernel_rfl) (by kernel_rfl) (by kernel_rfl) (by decide) (fun _ _ _ h => h) (Or.inl ⟨by rfl, ?k1xhy7⟩) hSS ?_
        case k1xhy7 => (intro wz hSw; (try dsimp only at hSw); go_simp; try (with_reducible rfl))
        refine wpAnyE_take0 (i := 9) (v := ?k1xv9) rfl (by kernel_rfl) (by kernel_rfl) (by kernel_rfl) (by decide) (fun _ _ _ h => h) (Or.inl ⟨by rfl, ?k1xhy9⟩) hSS ?_
        case k1xhy9 => (intro wz hSw; (try dsimp only at hSw); go_simp; try (with_reducible rfl))
        simp only [Act.put, List.setIfInBounds_toArray, List.set_cons_succ, List.set_cons_zero, List.getElem_toArray, List.getElem_cons_succ, List.getElem_cons_zero]
        refine wpAnyE_one (i := 2) (by kernel_rfl) rfl (fun K hK => ?_)
        go_simp
        refine (iothers_any _ _ _ _ _ _ G (k : Int) _ hG (by omega)).mono ?_
        rintro ee w9 ⟨rfl, b9⟩
        replace BB := BB.trans (b9.mono BB.size)
        replace HL := HL.trans (b9.mono HL.size)
        replace hB := hB.below b9
        replace hG := hG.below b9
        replace q3 := q3.below b9
        clear b9
        clear hSS
        have hSS : (w9.cell? ⟨X3, 0, none⟩ = some (.slice ba bn bc) ∧ w9.cell? ⟨X3, 1, none⟩ = some (.slice (some ⟨gb, go, none⟩) gn gc) ∧ w9.cell? ⟨gb, go + k, none⟩ = some (.int .i64 (G[k]?.getD 0))) ∧ True := ⟨⟨q3.cell 0, q3.cell 1, by obtain ⟨b', o', e1, hh⟩ := hG.2 k hlt; simp only [Option.some.injEq, Addr.mk.injEq, and_true] at e1; obtain ⟨rfl, rfl⟩ := e1; simpa using hh⟩, trivial⟩
        (try dsimp only)
        refine hK.out _ _ ⟨hSS.1, fun _ => trivial⟩ ?_
        clear hK K
        refine wpAnyE_take0 (i := 8) (v := ?k1xv8) rfl (by kernel_rfl) (by kernel_rfl) (by kernel_rfl) (by decide) (fun _ _ _ h => h) (Or.inl ⟨by rfl, ?k1xhy8⟩) hSS ?_
        case k1xhy8 => (intro wz hSw; (try dsimp only at hSw); go_simp; try (with_reducible rfl))
        refine wpAnyE_one (i := 10) (by kernel_rfl) rfl (fun K hK => ?_)
        go_simp
        refine hK.out _ _ ⟨hSS.1, fun _ => trivial⟩ ?_
        clear hK K
        refine wpAnyE_done (by kernel_rfl) ?_ _
        clear hSS
        go_wp2
        go_roundw
        case rel => exact ⟨k + 1, by omega, by go_num, HL⟩
        case measure => simp [intOf]; omega
      · have hk' : ¬ (k : Int) < (gn : Int) := by omega
        obtain ⟨_, _, o3, _⟩ := HO.out st
        clear HO HL
        by_cases hin : 0 ≤ st ∧ st < (gn : Int)
        · have hs0 : st ≥ 0 := hin.1
          have hs1 : st < (gn : Int) := hin.2
          have g3_0 := q3.cell 0
          have g3_1 := q3.cell 1
          simp only [List.getElem?_cons_zero, List.getElem?_cons_succ] at g3_0 g3_1
          go_wp2_with fail
          have al := (Below.refl wr.heap.size wr).alloc (Nat.le_refl _) (.cells #[.int .i64 2, .int .i64 3] 3)
          have hl : Ints (wr.alloc (.cells #[.int .i64 2, .int .i64 3] 3)) (some ⟨wr.heap.size, 0, none⟩) 2 [2, 3] := Blk.ints' (zs := [2, 3]) (heap_alloc_new wr _) rfl
          clear g3_0 g3_1
          replace BB := BB.trans (al.mono BB.size)
          replace hB := hB.below al
          replace hG := hG.below al
          replace q3 := q3.below al
          clear al
          refine (iothers_any none 0 0 _ _ _ [2, 3] 0 _ hl (by omega)).mono ?_
          rintro ee w6 ⟨rfl, b9⟩
          rw [oth_lit]
          replace BB := BB.trans (b9.mono BB.size)
          replace hB := hB.below b9
          replace hG := hG.below b9
          replace q3 := q3.below b9
          clear b9
          go_wp2
          go_ret
          exact ⟨rfl, BB⟩
        · have e9 : (others G st gn == others G (-1) gn) = true := by rw [o3 hin]; simp
          clear o3
          by_cases hs0 : st < 0
          · have hs0' : ¬ st ≥ 0 := by omega
            have g3_0 := q3.cell 0
            have g3_1 := q3.cell 1
            simp only [List.getElem?_cons_zero, List.getElem?_cons_succ] at g3_0 g3_1
            go_wp2_with fail
            have al := (Below.refl wr.heap.size wr).alloc (Nat.le_refl _) (.cells #[.int .i64 2, .int .i64 3] 3)
            have hl : Ints (wr.alloc (.cells #[.int .i64 2, .int .i64 3] 3)) (some ⟨wr.heap.size, 0, none⟩) 2 [2, 3] := Blk.ints' (zs := [2, 3]) (heap_alloc_new wr _) rfl
            clear g3_0 g3_1
            replace BB := BB.trans (al.mono BB.size)
            replace hB := hB.below al
            replace hG := hG.below al
            replace q3 := q3.below al
            clear al
            refine (iothers_any none 0 0 _ _ _ [2, 3] 0 _ hl (by omega)).mono ?_
            rintro ee w6 ⟨rfl, b9⟩
            rw [oth_lit]
            replace BB := BB.trans (b9.mono BB.size)
            replace hB := hB.below b9
            replace hG := hG.below b9
            replace q3 := q3.below b9
            clear b9
            go_wp2
            go_ret
            exact ⟨rfl, BB⟩
          · have hs1 : ¬ st < (gn : Int) := by omega
            have g3_0 := q3.cell 0
            have g3_1 := q3.cell 1
            simp only [List.getElem?_cons_zero, List.getElem?_cons_succ] at g3_0 g3_1
            go_wp2_with fail
            have al := (Below.refl wr.heap.size wr).alloc (Nat.le_refl _) (.cells #[.int .i64 2, .int .i64 3] 3)
            have hl : Ints (wr.alloc (.cells #[.int .i64 2, .int .i64 3] 3)) (some ⟨wr.heap.size, 0, none⟩) 2 [2, 3] := Blk.ints' (zs := [2, 3]) (heap_alloc_new wr _) rfl
            clear g3_0 g3_1
            replace BB := BB.trans (al.mono BB.size)
            replace hB := hB.below al
            replace hG := hG.below al
            replace q3 := q3.below al
            clear al
            refine (iothers_any none 0 0 _ _ _ [2, 3] 0 _ hl (by omega)).mono ?_
            rintro ee w6 ⟨rfl, b9⟩
            rw [oth_lit]
            replace BB := BB.trans (b9.mono BB.size)
            replace hB := hB.below b9
            replace hG := hG.below b9
            replace q3 := q3.below b9
            clear b9
            go_wp2
            go_ret
            exact ⟨rfl, BB⟩
  · go_enter Try.func8, Try.ntmps8
    go_wp2
    go_ret
    exact ⟨rfl, Below.refl _ _⟩

/-! ### The row's step -/
set_option maxRecDepth 100000 in
theorem lifted (os : Os) (started : os.Started) (H : Type) (enc : TypeId × Value → H) :
    ReturnsInHanded {} Try.checked os 8 .any (Rows.fnTrtOthersSpec.pre6 enc Try.prog Try.f8 Rows.fnTrtOthersRow.domain false) (Rows.fnTrtOthersSpec.post enc Try.prog Try.f8 false true false false) := by
  refine returnsInHanded_of_change (C := Try.checked) own started (by kernel_rfl) Try.func8
    (ChangeSpec.witness6 (enc := enc) (C := Try.checked) false ⟨#[], #[.slice none 0 0], []⟩ 8 (by kernel_rfl) (by kernel_rfl) (by kernel_rfl) (by kernel_rfl)) ?_
  intro W base args ds gs before hval0 hW hcnd _
  have hval : ∀ (j : Nat) t v, Try.f8.params[j]? = some t → args[j]? = some v → Value.okWide Try.prog W .any base t v := hval0
  have hW' := hW
  obtain ⟨p, q, hA0, hV, rfl, hfz, hnd⟩ := hW
  have hA : DataW.TrodAll enc Try.prog W 0 (fun _ => true) true Try.f8.params.toList args.toList ds p := hA0
  rw [Try.params8] at hA hval
  obtain ⟨v0, vs0, d0, ds0, p0, q0, hargs, rfl, rfl, h0, r0⟩ := trodAll_cons hA
  obtain ⟨rfl, rfl, rfl⟩ := trodAll_nil r0
  obtain rfl : args = #[v0] := by cases args; simp_all
  obtain ⟨rfl, rfl⟩ := trodVars_none hV
  have k0 := h0
  have lt0 : ∀ x ∈ p0, x.block < W.heap.size := by obtain ⟨m, hm⟩ := k0; exact DataW.trod_lt m _ _ _ hm
  obtain ⟨a0, n0, cap0, C0, rfl, hC0, hn0⟩ := open_bytesT (hval 0 22 v0 rfl rfl) h0
  clear hA0 hval0
  refine (walk W a0 n0 cap0 C0 hC0 hn0).mono fun e W' ⟨he, bel⟩ => ?_
  subst he
  exact ⟨_, rfl, _, _, _, [], _, [], hW', trodAll_mk1 (shut_bool Try.underlying4 _), (trodAll_cons_mk (Below.trod laidOut (by kernel_rfl) (of_decide_eq_true (by kernel_rfl)) k0 bel lt0) trodAll_mk0), rfl, bel.frame _, fun h => by cases h⟩

theorem over : Rows.fnTrtOthersRow.holds Try.pinned (OpenSpec.ofChange Rows.fnTrtOthersSpec) :=
  OpenClaim.holds_of_wide 8 Try.f8 rfl rfl rfl rfl rfl rfl rfl ⟨rfl, rfl, rfl, rfl, rfl⟩ rfl rfl rfl rfl rfl (by kernel_rfl) Try.func8 (by kernel_rfl)
    (of_decide_eq_true (by kernel_rfl)) (by unfold Func.isWrapper; first | (rw [if_pos (by decide +kernel)]; kernel_rfl) | (rw [if_neg (by decide +kernel)]; exact ⟨rfl, rfl⟩))
    (fun os started H enc _ => lifted os started H enc)

end Go.Proofs.Ytjhbapgpeimlhaa.fnTrtOthers
namespace Go.Proofs.Ytjhbapgpeimlhaa
/-- The statement. -/
theorem fnTrtOthers_holds : Rows.FnTrtOthersSaid := fnTrtOthers.over
#print axioms fnTrtOthers_holds
end Go.Proofs.Ytjhbapgpeimlhaa
