/-
  A line, as the program takes it from its text. The library's functions are taken by what they answer.
-/
import Derived.Test.YtkmacleakfbobabGreatDoorAcP
import Derived.Test.YtkmacleakfbobabGreatDoorRfU
import Derived.Test.YtkmacleakfbobabGreatDoorKeyed
import Derived.Deep.DeepCutAuto
import Derived.Test.YtkmacleakfbobabGreatDoorLine
namespace Go.Proofs.YtkmacleakfbobabGreatDoor
open Go.RowKit
set_option linter.unusedVariables false
set_option maxRecDepth 100000

theorem Splits.belowA {w w' : World} (h : Splits w) (b : Below w.heap.size w w') : Splits w' := fun W hW => h W (b.trans (hW.mono b.size))

set_option maxHeartbeats 6400000 in
theorem inumform_any (s : List UInt8) (w : World) (hs : s.length ≤ 120) (hA : ReadsN w) (hSp : Splits w) (hCu : Cuts w) (hT : Lib.TabBelow Tryz.prog w.heap.size w "internal/strconv.uint64pow10" .u64 Lib.pow10Tab) :
    Calls Tryz.prog 35 #[.string ⟨s.toArray⟩] w fun e w' =>
      (∃ z C D K B1 B2, numForm s = some (z, (C, D, K)) ∧ e = .returned (.tuple #[.int .i64 z, formV (some ⟨B1, 0, none⟩) 3 3 (some ⟨B2, 0, none⟩) 2 2 K, .bool true]) ∧ C.length = 3 ∧ D.length = 2 ∧ Below w.heap.size w w' ∧ w.heap.size ≤ B1 ∧ B1 ≠ B2 ∧ w.heap.size ≤ B2 ∧ Blk w' B1 C ∧ Blk w' B2 D) ∨
      (numForm s = none ∧ ∃ z a n cap c m cap' K, e = .returned (.tuple #[.int .i64 z, formV a n cap c m cap' K, .bool false]) ∧ Below w.heap.size w w') := by
  have HA : Hid _ := hA
  have HS : Hid _ := hSp
  have HC : Hid _ := hCu
  have HTB : Hid _ := hT
  clear hA hSp hCu hT
  have bx := Cel.new w [.slice none 0 0, .slice none 0 0, .int .i64 0] 24
  have B0 := (Below.refl w.heap.size w).alloc (Nat.le_refl _) (.cells #[.slice none 0 0, .slice none 0 0, .int .i64 0] 24)
  obtain ⟨⟨mm, q, f⟩, hc⟩ : ∃ r, Lib.cut s [32] = r := ⟨_, rfl⟩
  obtain ⟨lm, lq⟩ := cut_len hc
  have hm120 : mm.length ≤ 120 := by omega
  have hq120 : q.length ≤ 120 := by omega
  have HCU : Hid _ := hc
  go_enter Tryz.func35, Tryz.ntmps35
  go_wp2_with fail
  refine (HC.out _ B0 s 32 hs).mono ?_
  rintro e w1 ⟨rfl, b1⟩
  rw [hc]
  have BW1 := B0.trans (b1.mono B0.size)
  go_wp2_with fail
  refine (HA.out w1 BW1 mm hm120).mono ?_
  rintro e w2 ⟨b2, hcase⟩
  have BW2 := BW1.trans (b2.mono BW1.size)
  have bw2 := b1.trans (b2.mono b1.size)
  clear b1 b2 BW1 lm lq
  rcases hcase with ⟨v, hv, rfl⟩ | ⟨hv, z, t, bb, rfl⟩
  · go_wp2_with fail
    refine (ifread_any q _ (by omega) (ReadsN.below HA.out BW2) (Splits.belowA HS.out BW2) (Cuts.below HC.out BW2) (fun w' h' => HTB.out w' (BW2.trans (h'.mono BW2.size)))).mono ?_
    rintro e w3 (⟨C, D, K, B1, B2, hF, rfl, l1, l2, b3, o1, o12, o2, k1, k2⟩ | ⟨hF, rfl, b3⟩)
    · have bx3 := bx.below (bw2.trans (b3.mono bw2.size))
      have BB := B0.trans ((bw2.trans (b3.mono bw2.size)).mono B0.size)
      have bx4 := bx3.alloc (.cells #[.slice (some ⟨B1, 0, none⟩) 3 3, .slice (some ⟨B2, 0, none⟩) 2 2, .int .i64 K] 24)
      have cb4 := Cel.new w3 [.slice (some ⟨B1, 0, none⟩) 3 3, .slice (some ⟨B2, 0, none⟩) 2 2, .int .i64 K] 24
      have BB4 := BB.alloc BB.size (.cells #[.slice (some ⟨B1, 0, none⟩) 3 3, .slice (some ⟨B2, 0, none⟩) 2 2, .int .i64 K] 24)
      have k1' := k1.alloc (.cells #[.slice (some ⟨B1, 0, none⟩) 3 3, .slice (some ⟨B2, 0, none⟩) 2 2, .int .i64 K] 24)
      have k2' := k2.alloc (.cells #[.slice (some ⟨B1, 0, none⟩) 3 3, .slice (some ⟨B2, 0, none⟩) 2 2, .int .i64 K] 24)
      have zB1 : w.heap.size < B1 := by have := bw2.size; rw [World.size_alloc] at this; omega
      have zB2 : w.heap.size < B2 := by have := bw2.size; rw [World.size_alloc] at this; omega
      obtain ⟨W4, hW4⟩ : ∃ W, W = w3.alloc (.cells #[.slice (some ⟨B1, 0, none⟩) 3 3, .slice (some ⟨B2, 0, none⟩) 2 2, .int .i64 K] 24) := ⟨_, rfl⟩
      have r0 := bx4.cell 0
      have r1 := bx4.cell 1
      have r2 := bx4.cell 2
      have f0 := bx4.free 0
      have f1 := bx4.free 1
      have f2 := bx4.free 2
      have d0 := cb4.cell 0
      have d1 := cb4.cell 1
      have d2 := cb4.cell 2
      simp only [List.getElem?_cons_zero, List.getElem?_cons_succ] at r0 r1 r2 d0 d1 d2
      have lt4 := bx4.lt
      have lt5 := cb4.lt
      have HR : Hid (numForm s = some (v, (C, D, K))) := by show _ = _; rw [numForm, hc]; show (match Lib.atoiAll mm, rfF q with | .ok z, (f, true) => some (z, f) | _, _ => none) = _; rw [hv, hF]
      have ltx := bx3.lt
      have cbx : Cel W4 w3.heap.size [.slice (some ⟨B1, 0, none⟩) 3 3, .slice (some ⟨B2, 0, none⟩) 2 2, .int .i64 K] 24 := by rw [hW4]; exact cb4
      clear hF b3 bx3 BB cb4
      go_upto_region 4 with fail
      rw [← hW4] at r0 r1 r2 f0 f1 f2 d0 d1 d2 lt4 lt5 BB4 bx4 k1' k2' ⊢
      clear hW4
      have hS0 : (W4.drew.cell? ⟨w3.heap.size, 0, none⟩ = some (.slice (some ⟨B1, 0, none⟩) 3 3) ∧ W4.drew.cell? ⟨w3.heap.size, 1, none⟩ = some (.slice (some ⟨B2, 0, none⟩) 2 2) ∧ W4.drew.cell? ⟨w3.heap.size, 2, none⟩ = some (.int .i64 K)) ∧ True := ⟨⟨d0, d1, d2⟩, trivial⟩
      refine wp_region_ends (fun X => X.cell? ⟨w3.heap.size, 0, none⟩ = some (.slice (some ⟨B1, 0, none⟩) 3 3) ∧ X.cell? ⟨w3.heap.size, 1, none⟩ = some (.slice (some ⟨B2, 0, none⟩) 2 2) ∧ X.cell? ⟨w3.heap.size, 2, none⟩ = some (.int .i64 K)) (fun _ => True) 9 (by kernel_rfl) ?_
      refine wpAnyE_take0 (i := 0) (v := ?gfv0) rfl (by kernel_rfl) (by kernel_rfl) (by kernel_rfl) (by decide) (fun _ _ _ h => h) (Or.inl ⟨by rfl, ?gfhy0⟩) hS0 ?_
      case gfhy0 => (intro wz hSw; (try dsimp only at hSw); go_simp; try (with_reducible rfl))
      refine wpAnyE_take0 (i := 1) (v := ?gfv1) rfl (by kernel_rfl) (by kernel_rfl) (by kernel_rfl) (by decide) (fun _ _ _ h => h) (Or.inl ⟨by rfl, ?gfhy1⟩) hS0 ?_
      case gfhy1 => (intro wz hSw; (try dsimp only at hSw); go_simp; try (with_reducible rfl))
      refine wpAnyE_take0 (i := 2) (v := ?gfv2) rfl (by kernel_rfl) (by kernel_rfl) (by kernel_rfl) (by decide) (fun _ _ _ h => h) (Or.inl ⟨by rfl, ?gfhy2⟩) hS0 ?_
      case gfhy2 => (intro wz hSw; (try dsimp only at hSw); go_simp; try (with_reducible rfl))
      refine wpAnyE_take0 (i := 3) (v := ?gfv3) rfl (by kernel_rfl) (by kernel_rfl) (by kernel_rfl) (by decide) (fun _ _ _ h => h) (Or.inl ⟨by rfl, ?gfhy3⟩) hS0 ?_
      case gfhy3 => (intro wz hSw; (try dsimp only at hSw); go_simp; try (with_reducible rfl))
      refine wpAnyE_take0 (i := 4) (v := ?gfv4) rfl (by kernel_rfl) (by kernel_rfl) (by kernel_rfl) (by decide) (fun _ _ _ h => h) (Or.inl ⟨by rfl, ?gfhy4⟩) hS0 ?_
      case gfhy4 => (intro wz hSw; (try dsimp only at hSw); go_simp; try (with_reducible rfl))
      refine wpAnyE_take0 (i := 5) (v := ?gfv5) rfl (by kernel_rfl) (by kernel_rfl) (by kernel_rfl) (by decide) (fun _ _ _ h => h) (Or.inl ⟨by rfl, ?gfhy5⟩) hS0 ?_
      case gfhy5 => (intro wz hSw; (try dsimp only at hSw); go_simp; try (with_reducible rfl))
      refine wpAnyE_take0 (i := 6) (v := ?gfv6) rfl (by kernel_rfl) (by kernel_rfl) (by kernel_rfl) (by decide) (fun _ _ _ h => h) (Or.inl ⟨by rfl, ?gfhy6⟩) hS0 ?_
      case gfhy6 => (intro wz hSw; (try dsimp only at hSw); go_simp; try (with_reducible rfl))
      refine wpAnyE_take0 (i := 7) (v := ?gfv7) rfl (by kernel_rfl) (by kernel_rfl) (by kernel_rfl) (by decide) (fun _ _ _ h => h) (Or.inl ⟨by rfl, ?gfhy7⟩) hS0 ?_
      case gfhy7 => (intro wz hSw; (try dsimp only at hSw); go_simp; try (with_reducible rfl))
      have lt6 : w.heap.size < w3.heap.size := ltx
      have e8 := ((cbx.setOther (show w3.heap.size ≠ w.heap.size by omega) 0 (.slice (some ⟨B1, 0, none⟩) 3 3)).setOther (show w3.heap.size ≠ w.heap.size by omega) 1 (.slice (some ⟨B2, 0, none⟩) 2 2)).setOther (show w3.heap.size ≠ w.heap.size by omega) 2 (.int .i64 K)
      refine wpAnyE_one (i := 8) (by kernel_rfl) rfl (fun Kn hK => ?_)
      go_simp
      refine hK.out _ _ ⟨⟨e8.cell 0, e8.cell 1, e8.cell 2⟩, fun _ => trivial⟩ ?_
      clear hK
      refine wpAnyE_one (i := 9) (by kernel_rfl) rfl (fun Kn hK => ?_)
      go_simp
      refine hK.out _ _ ⟨⟨e8.cell 0, e8.cell 1, e8.cell 2⟩, fun _ => trivial⟩ ?_
      clear hK
      refine wpAnyE_done (by kernel_rfl) ?_ _
      clear hS0 e8
      go_wp2
      refine bodyPost_ret (v := .tuple #[.int .i64 v, formV (some ⟨B1, 0, none⟩) 3 3 (some ⟨B2, 0, none⟩) 2 2 K, .bool true]) (by simp [results, Tryz.results35, go_sem, r0, r1, r2]) rfl (Or.inl ⟨v, C, D, K, B1, B2, HR.out, rfl, l1, l2, ?_, by omega, o12, by omega, ?_, ?_⟩)
      · exact (((BB4.setCell (Nat.le_refl _) _).setCell (Nat.le_refl _) _).setCell (Nat.le_refl _) _).drew
      · exact ((k1'.setOther (by omega) _ _).setOther (by omega) _ _).setOther (by omega) _ _
      · exact ((k2'.setOther (by omega) _ _).setOther (by omega) _ _).setOther (by omega) _ _
    · have bx3 := bx.below (bw2.trans (b3.mono bw2.size))
      have BB := B0.trans ((bw2.trans (b3.mono bw2.size)).mono B0.size)
      have bx4 := bx3.alloc (.cells #[.slice none 0 0, .slice none 0 0, .int .i64 0] 24)
      have cb4 := Cel.new w3 [.slice none 0 0, .slice none 0 0, .int .i64 0] 24
      have BB4 := BB.alloc BB.size (.cells #[.slice none 0 0, .slice none 0 0, .int .i64 0] 24)
      obtain ⟨W4, hW4⟩ : ∃ W, W = w3.alloc (.cells #[.slice none 0 0, .slice none 0 0, .int .i64 0] 24) := ⟨_, rfl⟩
      have r0 := bx4.cell 0
      have r1 := bx4.cell 1
      have r2 := bx4.cell 2
      have f0 := bx4.free 0
      have f1 := bx4.free 1
      have f2 := bx4.free 2
      have d0 := cb4.cell 0
      have d1 := cb4.cell 1
      have d2 := cb4.cell 2
      simp only [List.getElem?_cons_zero, List.getElem?_cons_succ] at r0 r1 r2 d0 d1 d2
      have lt4 := bx4.lt
      have lt5 := cb4.lt
      have HR : Hid (numForm s = none) := by show _ = _; rw [numForm, hc]; show (match Lib.atoiAll mm, rfF q with | .ok z, (f, true) => some (z, f) | _, _ => none) = _; rw [hv, hF]; rfl
      have ltx := bx3.lt
      have cbx : Cel W4 w3.heap.size [.slice none 0 0, .slice none 0 0, .int .i64 0] 24 := by rw [hW4]; exact cb4
      clear hF b3 bx3 BB cb4
      go_upto_region 4 with fail
      rw [← hW4] at r0 r1 r2 f0 f1 f2 d0 d1 d2 lt4 lt5 BB4 bx4 ⊢
      clear hW4
      have hS0 : (W4.drew.cell? ⟨w3.heap.size, 0, none⟩ = some (.slice none 0 0) ∧ W4.drew.cell? ⟨w3.heap.size, 1, none⟩ = some (.slice none 0 0) ∧ W4.drew.cell? ⟨w3.heap.size, 2, none⟩ = some (.int .i64 0)) ∧ True := ⟨⟨d0, d1, d2⟩, trivial⟩
      refine wp_region_ends (fun X => X.cell? ⟨w3.heap.size, 0, none⟩ = some (.slice none 0 0) ∧ X.cell? ⟨w3.heap.size, 1, none⟩ = some (.slice none 0 0) ∧ X.cell? ⟨w3.heap.size, 2, none⟩ = some (.int .i64 0)) (fun _ => True) 9 (by kernel_rfl) ?_
      refine wpAnyE_take0 (i := 0) (v := ?gnv0) rfl (by kernel_rfl) (by kernel_rfl) (by kernel_rfl) (by decide) (fun _ _ _ h => h) (Or.inl ⟨by rfl, ?gnhy0⟩) hS0 ?_
      case gnhy0 => (intro wz hSw; (try dsimp only at hSw); go_simp; try (with_reducible rfl))
      refine wpAnyE_take0 (i := 1) (v := ?gnv1) rfl (by kernel_rfl) (by kernel_rfl) (by kernel_rfl) (by decide) (fun _ _ _ h => h) (Or.inl ⟨by rfl, ?gnhy1⟩) hS0 ?_
      case gnhy1 => (intro wz hSw; (try dsimp only at hSw); go_simp; try (with_reducible rfl))
      refine wpAnyE_take0 (i := 2) (v := ?gnv2) rfl (by kernel_rfl) (by kernel_rfl) (by kernel_rfl) (by decide) (fun _ _ _ h => h) (Or.inl ⟨by rfl, ?gnhy2⟩) hS0 ?_
      case gnhy2 => (intro wz hSw; (try dsimp only at hSw); go_simp; try (with_reducible rfl))
      refine wpAnyE_take0 (i := 3) (v := ?gnv3) rfl (by kernel_rfl) (by kernel_rfl) (by kernel_rfl) (by decide) (fun _ _ _ h => h) (Or.inl ⟨by rfl, ?gnhy3⟩) hS0 ?_
      case gnhy3 => (intro wz hSw; (try dsimp only at hSw); go_simp; try (with_reducible rfl))
      refine wpAnyE_take0 (i := 4) (v := undef) rfl (by kernel_rfl) (by kernel_rfl) (by kernel_rfl) (by decide) (fun _ _ _ h => h) (Or.inr ⟨by rfl, rfl⟩) hS0 ?_
      refine wpAnyE_take0 (i := 5) (v := undef) rfl (by kernel_rfl) (by kernel_rfl) (by kernel_rfl) (by decide) (fun _ _ _ h => h) (Or.inr ⟨by rfl, rfl⟩) hS0 ?_
      refine wpAnyE_take0 (i := 6) (v := ?gnv6) rfl (by kernel_rfl) (by kernel_rfl) (by kernel_rfl) (by decide) (fun _ _ _ h => h) (Or.inl ⟨by rfl, ?gnhy6⟩) hS0 ?_
      case gnhy6 => (intro wz hSw; (try dsimp only at hSw); go_simp; try (with_reducible rfl))
      refine wpAnyE_take0 (i := 7) (v := ?gnv7) rfl (by kernel_rfl) (by kernel_rfl) (by kernel_rfl) (by decide) (fun _ _ _ h => h) (Or.inl ⟨by rfl, ?gnhy7⟩) hS0 ?_
      case gnhy7 => (intro wz hSw; (try dsimp only at hSw); go_simp; try (with_reducible rfl))
      have lt6 : w.heap.size < w3.heap.size := ltx
      have e8 := ((cbx.setOther (show w3.heap.size ≠ w.heap.size by omega) 0 (.slice none 0 0)).setOther (show w3.heap.size ≠ w.heap.size by omega) 1 (.slice none 0 0)).setOther (show w3.heap.size ≠ w.heap.size by omega) 2 (.int .i64 0)
      refine wpAnyE_one (i := 8) (by kernel_rfl) rfl (fun Kn hK => ?_)
      go_simp
      refine hK.out _ _ ⟨⟨e8.cell 0, e8.cell 1, e8.cell 2⟩, fun _ => trivial⟩ ?_
      clear hK
      refine wpAnyE_one (i := 9) (by kernel_rfl) rfl (fun Kn hK => ?_)
      go_simp
      refine hK.out _ _ ⟨⟨e8.cell 0, e8.cell 1, e8.cell 2⟩, fun _ => trivial⟩ ?_
      clear hK
      refine wpAnyE_done (by kernel_rfl) ?_ _
      clear hS0 e8
      go_wp2
      refine bodyPost_ret (v := .tuple #[.int .i64 v, formV none 0 0 none 0 0 0, .bool false]) (by simp [results, Tryz.results35, go_sem, r0, r1, r2]) rfl (Or.inr ⟨HR.out, _, _, _, _, _, _, _, _, rfl, ?_⟩)
      exact (((BB4.setCell (Nat.le_refl _) _).setCell (Nat.le_refl _) _).setCell (Nat.le_refl _) _).drew

  · go_wp2_with fail
    refine (ifread_any q _ (by omega) (ReadsN.below HA.out BW2) (Splits.belowA HS.out BW2) (Cuts.below HC.out BW2) (fun w' h' => HTB.out w' (BW2.trans (h'.mono BW2.size)))).mono ?_
    rintro e w3 (⟨C, D, K, B1, B2, hF, rfl, l1, l2, b3, o1, o12, o2, k1, k2⟩ | ⟨hF, rfl, b3⟩)
    · have bx3 := bx.below (bw2.trans (b3.mono bw2.size))
      have BB := B0.trans ((bw2.trans (b3.mono bw2.size)).mono B0.size)
      have bx4 := bx3.alloc (.cells #[.slice (some ⟨B1, 0, none⟩) 3 3, .slice (some ⟨B2, 0, none⟩) 2 2, .int .i64 K] 24)
      have cb4 := Cel.new w3 [.slice (some ⟨B1, 0, none⟩) 3 3, .slice (some ⟨B2, 0, none⟩) 2 2, .int .i64 K] 24
      have BB4 := BB.alloc BB.size (.cells #[.slice (some ⟨B1, 0, none⟩) 3 3, .slice (some ⟨B2, 0, none⟩) 2 2, .int .i64 K] 24)
      have k1' := k1.alloc (.cells #[.slice (some ⟨B1, 0, none⟩) 3 3, .slice (some ⟨B2, 0, none⟩) 2 2, .int .i64 K] 24)
      have k2' := k2.alloc (.cells #[.slice (some ⟨B1, 0, none⟩) 3 3, .slice (some ⟨B2, 0, none⟩) 2 2, .int .i64 K] 24)
      have zB1 : w.heap.size < B1 := by have := bw2.size; rw [World.size_alloc] at this; omega
      have zB2 : w.heap.size < B2 := by have := bw2.size; rw [World.size_alloc] at this; omega
      obtain ⟨W4, hW4⟩ : ∃ W, W = w3.alloc (.cells #[.slice (some ⟨B1, 0, none⟩) 3 3, .slice (some ⟨B2, 0, none⟩) 2 2, .int .i64 K] 24) := ⟨_, rfl⟩
      have r0 := bx4.cell 0
      have r1 := bx4.cell 1
      have r2 := bx4.cell 2
      have f0 := bx4.free 0
      have f1 := bx4.free 1
      have f2 := bx4.free 2
      have d0 := cb4.cell 0
      have d1 := cb4.cell 1
      have d2 := cb4.cell 2
      simp only [List.getElem?_cons_zero, List.getElem?_cons_succ] at r0 r1 r2 d0 d1 d2
      have lt4 := bx4.lt
      have lt5 := cb4.lt
      have HR : Hid (numForm s = none) := by show _ = _; rw [numForm, hc]; show (match Lib.atoiAll mm, rfF q with | .ok z, (f, true) => some (z, f) | _, _ => none) = _; cases hh : Lib.atoiAll mm with | ok v => exact absurd hh (hv v) | «syntax» => rfl | range => rfl
      have ltx := bx3.lt
      have cbx : Cel W4 w3.heap.size [.slice (some ⟨B1, 0, none⟩) 3 3, .slice (some ⟨B2, 0, none⟩) 2 2, .int .i64 K] 24 := by rw [hW4]; exact cb4
      clear hF b3 bx3 BB cb4
      go_upto_region 4 with fail
      rw [← hW4] at r0 r1 r2 f0 f1 f2 d0 d1 d2 lt4 lt5 BB4 bx4 k1' k2' ⊢
      clear hW4
      have hS0 : (W4.drew.cell? ⟨w3.heap.size, 0, none⟩ = some (.slice (some ⟨B1, 0, none⟩) 3 3) ∧ W4.drew.cell? ⟨w3.heap.size, 1, none⟩ = some (.slice (some ⟨B2, 0, none⟩) 2 2) ∧ W4.drew.cell? ⟨w3.heap.size, 2, none⟩ = some (.int .i64 K)) ∧ True := ⟨⟨d0, d1, d2⟩, trivial⟩
      refine wp_region_ends (fun X => X.cell? ⟨w3.heap.size, 0, none⟩ = some (.slice (some ⟨B1, 0, none⟩) 3 3) ∧ X.cell? ⟨w3.heap.size, 1, none⟩ = some (.slice (some ⟨B2, 0, none⟩) 2 2) ∧ X.cell? ⟨w3.heap.size, 2, none⟩ = some (.int .i64 K)) (fun _ => True) 9 (by kernel_rfl) ?_
      refine wpAnyE_take0 (i := 0) (v := ?bfv0) rfl (by kernel_rfl) (by kernel_rfl) (by kernel_rfl) (by decide) (fun _ _ _ h => h) (Or.inl ⟨by rfl, ?bfhy0⟩) hS0 ?_
      case bfhy0 => (intro wz hSw; (try dsimp only at hSw); go_simp; try (with_reducible rfl))
      refine wpAnyE_take0 (i := 1) (v := ?bfv1) rfl (by kernel_rfl) (by kernel_rfl) (by kernel_rfl) (by decide) (fun _ _ _ h => h) (Or.inl ⟨by rfl, ?bfhy1⟩) hS0 ?_
      case bfhy1 => (intro wz hSw; (try dsimp only at hSw); go_simp; try (with_reducible rfl))
      refine wpAnyE_take0 (i := 2) (v := ?bfv2) rfl (by kernel_rfl) (by kernel_rfl) (by kernel_rfl) (by decide) (fun _ _ _ h => h) (Or.inl ⟨by rfl, ?bfhy2⟩) hS0 ?_
      case bfhy2 => (intro wz hSw; (try dsimp only at hSw); go_simp; try (with_reducible rfl))
      refine wpAnyE_take0 (i := 3) (v := ?bfv3) rfl (by kernel_rfl) (by kernel_rfl) (by kernel_rfl) (by decide) (fun _ _ _ h => h) (Or.inl ⟨by rfl, ?bfhy3⟩) hS0 ?_
      case bfhy3 => (intro wz hSw; (try dsimp only at hSw); go_simp; try (with_reducible rfl))
      refine wpAnyE_take0 (i := 4) (v := ?bfv4) rfl (by kernel_rfl) (by kernel_rfl) (by kernel_rfl) (by decide) (fun _ _ _ h => h) (Or.inl ⟨by rfl, ?bfhy4⟩) hS0 ?_
      case bfhy4 => (intro wz hSw; (try dsimp only at hSw); go_simp; try (with_reducible rfl))
      refine wpAnyE_take0 (i := 5) (v := ?bfv5) rfl (by kernel_rfl) (by kernel_rfl) (by kernel_rfl) (by decide) (fun _ _ _ h => h) (Or.inl ⟨by rfl, ?bfhy5⟩) hS0 ?_
      case bfhy5 => (intro wz hSw; (try dsimp only at hSw); go_simp; try (with_reducible rfl))
      refine wpAnyE_take0 (i := 6) (v := ?bfv6) rfl (by kernel_rfl) (by kernel_rfl) (by kernel_rfl) (by decide) (fun _ _ _ h => h) (Or.inl ⟨by rfl, ?bfhy6⟩) hS0 ?_
      case bfhy6 => (intro wz hSw; (try dsimp only at hSw); go_simp; try (with_reducible rfl))
      refine wpAnyE_take0 (i := 7) (v := ?bfv7) rfl (by kernel_rfl) (by kernel_rfl) (by kernel_rfl) (by decide) (fun _ _ _ h => h) (Or.inl ⟨by rfl, ?bfhy7⟩) hS0 ?_
      case bfhy7 => (intro wz hSw; (try dsimp only at hSw); go_simp; try (with_reducible rfl))
      have lt6 : w.heap.size < w3.heap.size := ltx
      have e8 := ((cbx.setOther (show w3.heap.size ≠ w.heap.size by omega) 0 (.slice (some ⟨B1, 0, none⟩) 3 3)).setOther (show w3.heap.size ≠ w.heap.size by omega) 1 (.slice (some ⟨B2, 0, none⟩) 2 2)).setOther (show w3.heap.size ≠ w.heap.size by omega) 2 (.int .i64 K)
      refine wpAnyE_one (i := 8) (by kernel_rfl) rfl (fun Kn hK => ?_)
      go_simp
      refine hK.out _ _ ⟨⟨e8.cell 0, e8.cell 1, e8.cell 2⟩, fun _ => trivial⟩ ?_
      clear hK
      refine wpAnyE_one (i := 9) (by kernel_rfl) rfl (fun Kn hK => ?_)
      go_simp
      refine hK.out _ _ ⟨⟨e8.cell 0, e8.cell 1, e8.cell 2⟩, fun _ => trivial⟩ ?_
      clear hK
      refine wpAnyE_done (by kernel_rfl) ?_ _
      clear hS0 e8
      go_wp2
      refine bodyPost_ret (v := .tuple #[.int .i64 z, formV (some ⟨B1, 0, none⟩) 3 3 (some ⟨B2, 0, none⟩) 2 2 K, .bool false]) (by simp [results, Tryz.results35, go_sem, r0, r1, r2]) rfl (Or.inr ⟨HR.out, _, _, _, _, _, _, _, _, rfl, ?_⟩)
      exact (((BB4.setCell (Nat.le_refl _) _).setCell (Nat.le_refl _) _).setCell (Nat.le_refl _) _).drew
    · have bx3 := bx.below (bw2.trans (b3.mono bw2.size))
      have BB := B0.trans ((bw2.trans (b3.mono bw2.size)).mono B0.size)
      have bx4 := bx3.alloc (.cells #[.slice none 0 0, .slice none 0 0, .int .i64 0] 24)
      have cb4 := Cel.new w3 [.slice none 0 0, .slice none 0 0, .int .i64 0] 24
      have BB4 := BB.alloc BB.size (.cells #[.slice none 0 0, .slice none 0 0, .int .i64 0] 24)
      obtain ⟨W4, hW4⟩ : ∃ W, W = w3.alloc (.cells #[.slice none 0 0, .slice none 0 0, .int .i64 0] 24) := ⟨_, rfl⟩
      have r0 := bx4.cell 0
      have r1 := bx4.cell 1
      have r2 := bx4.cell 2
      have f0 := bx4.free 0
      have f1 := bx4.free 1
      have f2 := bx4.free 2
      have d0 := cb4.cell 0
      have d1 := cb4.cell 1
      have d2 := cb4.cell 2
      simp only [List.getElem?_cons_zero, List.getElem?_cons_succ] at r0 r1 r2 d0 d1 d2
      have lt4 := bx4.lt
      have lt5 := cb4.lt
      have HR : Hid (numForm s = none) := by show _ = _; rw [numForm, hc]; show (match Lib.atoiAll mm, rfF q with | .ok z, (f, true) => some (z, f) | _, _ => none) = _; cases hh : Lib.atoiAll mm with | ok v => exact absurd hh (hv v) | «syntax» => rfl | range => rfl
      have ltx := bx3.lt
      have cbx : Cel W4 w3.heap.size [.slice none 0 0, .slice none 0 0, .int .i64 0] 24 := by rw [hW4]; exact cb4
      clear hF b3 bx3 BB cb4
      go_upto_region 4 with fail
      rw [← hW4] at r0 r1 r2 f0 f1 f2 d0 d1 d2 lt4 lt5 BB4 bx4 ⊢
      clear hW4
      have hS0 : (W4.drew.cell? ⟨w3.heap.size, 0, none⟩ = some (.slice none 0 0) ∧ W4.drew.cell? ⟨w3.heap.size, 1, none⟩ = some (.slice none 0 0) ∧ W4.drew.cell? ⟨w3.heap.size, 2, none⟩ = some (.int .i64 0)) ∧ True := ⟨⟨d0, d1, d2⟩, trivial⟩
      refine wp_region_ends (fun X => X.cell? ⟨w3.heap.size, 0, none⟩ = some (.slice none 0 0) ∧ X.cell? ⟨w3.heap.size, 1, none⟩ = some (.slice none 0 0) ∧ X.cell? ⟨w3.heap.size, 2, none⟩ = some (.int .i64 0)) (fun _ => True) 9 (by kernel_rfl) ?_
      refine wpAnyE_take0 (i := 0) (v := ?bnv0) rfl (by kernel_rfl) (by kernel_rfl) (by kernel_rfl) (by decide) (fun _ _ _ h => h) (Or.inl ⟨by rfl, ?bnhy0⟩) hS0 ?_
      case bnhy0 => (intro wz hSw; (try dsimp only at hSw); go_simp; try (with_reducible rfl))
      refine wpAnyE_take0 (i := 1) (v := ?bnv1) rfl (by kernel_rfl) (by kernel_rfl) (by kernel_rfl) (by decide) (fun _ _ _ h => h) (Or.inl ⟨by rfl, ?bnhy1⟩) hS0 ?_
      case bnhy1 => (intro wz hSw; (try dsimp only at hSw); go_simp; try (with_reducible rfl))
      refine wpAnyE_take0 (i := 2) (v := ?bnv2) rfl (by kernel_rfl) (by kernel_rfl) (by kernel_rfl) (by decide) (fun _ _ _ h => h) (Or.inl ⟨by rfl, ?bnhy2⟩) hS0 ?_
      case bnhy2 => (intro wz hSw; (try dsimp only at hSw); go_simp; try (with_reducible rfl))
      refine wpAnyE_take0 (i := 3) (v := ?bnv3) rfl (by kernel_rfl) (by kernel_rfl) (by kernel_rfl) (by decide) (fun _ _ _ h => h) (Or.inl ⟨by rfl, ?bnhy3⟩) hS0 ?_
      case bnhy3 => (intro wz hSw; (try dsimp only at hSw); go_simp; try (with_reducible rfl))
      refine wpAnyE_take0 (i := 4) (v := undef) rfl (by kernel_rfl) (by kernel_rfl) (by kernel_rfl) (by decide) (fun _ _ _ h => h) (Or.inr ⟨by rfl, rfl⟩) hS0 ?_
      refine wpAnyE_take0 (i := 5) (v := undef) rfl (by kernel_rfl) (by kernel_rfl) (by kernel_rfl) (by decide) (fun _ _ _ h => h) (Or.inr ⟨by rfl, rfl⟩) hS0 ?_
      refine wpAnyE_take0 (i := 6) (v := ?bnv6) rfl (by kernel_rfl) (by kernel_rfl) (by kernel_rfl) (by decide) (fun _ _ _ h => h) (Or.inl ⟨by rfl, ?bnhy6⟩) hS0 ?_
      case bnhy6 => (intro wz hSw; (try dsimp only at hSw); go_simp; try (with_reducible rfl))
      refine wpAnyE_take0 (i := 7) (v := ?bnv7) rfl (by kernel_rfl) (by kernel_rfl) (by kernel_rfl) (by decide) (fun _ _ _ h => h) (Or.inl ⟨by rfl, ?bnhy7⟩) hS0 ?_
      case bnhy7 => (intro wz hSw; (try dsimp only at hSw); go_simp; try (with_reducible rfl))
      have lt6 : w.heap.size < w3.heap.size := ltx
      have e8 := ((cbx.setOther (show w3.heap.size ≠ w.heap.size by omega) 0 (.slice none 0 0)).setOther (show w3.heap.size ≠ w.heap.size by omega) 1 (.slice none 0 0)).setOther (show w3.heap.size ≠ w.heap.size by omega) 2 (.int .i64 0)
      refine wpAnyE_one (i := 8) (by kernel_rfl) rfl (fun Kn hK => ?_)
      go_simp
      refine hK.out _ _ ⟨⟨e8.cell 0, e8.cell 1, e8.cell 2⟩, fun _ => trivial⟩ ?_
      clear hK
      refine wpAnyE_one (i := 9) (by kernel_rfl) rfl (fun Kn hK => ?_)
      go_simp
      refine hK.out _ _ ⟨⟨e8.cell 0, e8.cell 1, e8.cell 2⟩, fun _ => trivial⟩ ?_
      clear hK
      refine wpAnyE_done (by kernel_rfl) ?_ _
      clear hS0 e8
      go_wp2
      refine bodyPost_ret (v := .tuple #[.int .i64 z, formV none 0 0 none 0 0 0, .bool false]) (by simp [results, Tryz.results35, go_sem, r0, r1, r2]) rfl (Or.inr ⟨HR.out, _, _, _, _, _, _, _, _, rfl, ?_⟩)
      exact (((BB4.setCell (Nat.le_refl _) _).setCell (Nat.le_refl _) _).setCell (Nat.le_refl _) _).drew


end Go.Proofs.YtkmacleakfbobabGreatDoor

namespace Go.Proofs.YtkmacleakfbobabGreatDoor
open Go.RowKit
set_option linter.unusedVariables false
set_option maxRecDepth 100000

theorem li_test {l wd rest : List UInt8} {f : Bool} {r : Option (Int × FR)} (hc : Lib.cut l [32] = (wd, rest, f)) (h : wd = testW) (hr : numForm rest = r) : lineI l = r.map fun r => (1, 0, r.1, r.2) := by
  rw [lineI, hc]; show (if wd = testW then _ else _) = _; rw [if_pos h, hr]
theorem li_add {l wd rest : List UInt8} {f : Bool} {r : Option (Int × FR)} (hc : Lib.cut l [32] = (wd, rest, f)) (h0 : ¬ wd = testW) (h : wd = addW) (hr : numForm rest = r) : lineI l = r.map fun r => (2, r.1, 0, r.2) := by
  rw [lineI, hc]; show (if wd = testW then _ else if wd = addW then _ else _) = _; rw [if_neg h0, if_pos h, hr]
theorem li_print {l wd rest : List UInt8} {f : Bool} {r : FR × Bool} (hc : Lib.cut l [32] = (wd, rest, f)) (h0 : ¬ wd = testW) (h1 : ¬ wd = addW) (h : wd = printW) (hr : rfF rest = r) : lineI l = if r.2 = true then some (3, 0, 0, r.1) else none := by
  rw [lineI, hc]; show (if wd = testW then _ else if wd = addW then _ else if wd = printW then _ else _) = _; rw [if_neg h0, if_neg h1, if_pos h]; show (if (rfF rest).2 = true then some (3, 0, 0, (rfF rest).1) else none) = _; rw [hr]
theorem li_stop {l wd rest : List UInt8} {f : Bool} (hc : Lib.cut l [32] = (wd, rest, f)) (h0 : ¬ wd = testW) (h1 : ¬ wd = addW) (h2 : ¬ wd = printW) (h : wd = stopT) : lineI l = some stopR := by
  rw [lineI, hc]; show (if wd = testW then _ else if wd = addW then _ else if wd = printW then _ else if wd = stopT then _ else _) = _; rw [if_neg h0, if_neg h1, if_neg h2, if_pos h]
theorem li_none {l wd rest : List UInt8} {f : Bool} (hc : Lib.cut l [32] = (wd, rest, f)) (h0 : ¬ wd = testW) (h1 : ¬ wd = addW) (h2 : ¬ wd = printW) (h : ¬ wd = stopT) : lineI l = none := by
  rw [lineI, hc]; show (if wd = testW then _ else if wd = addW then _ else if wd = printW then _ else if wd = stopT then _ else _) = _; rw [if_neg h0, if_neg h1, if_neg h2, if_neg h]

set_option maxHeartbeats 12800000 in
theorem iline_any (l : List UInt8) (w : World) (hl : l.length ≤ 120) (hA : ReadsN w) (hSp : Splits w) (hCu : Cuts w) (hT : Lib.TabBelow Tryz.prog w.heap.size w "internal/strconv.uint64pow10" .u64 Lib.pow10Tab) :
    Calls Tryz.prog 19 #[.string ⟨l.toArray⟩] w fun e w' =>
      (∃ (k p z : Int) (C D : List Int) (K : Int) (a : Option Addr) (n cap : Nat) (c : Option Addr) (m cap' : Nat) (B1 B2 : Nat), lineI l = some (k, p, z, C, D, K) ∧ e = .returned (.tuple #[lineV k p z a n cap c m cap' K, .bool true]) ∧ C.length = n ∧ D.length = m ∧ (n ≤ 3 ∧ m ≤ 2) ∧ Below w.heap.size w w' ∧ OwnAt w' a B1 C ∧ OwnAt w' c B2 D ∧ (0 < n → w.heap.size ≤ B1) ∧ (0 < m → w.heap.size ≤ B2) ∧ (0 < n → 0 < m → B1 ≠ B2)) ∨
      (lineI l = none ∧ ∃ (k p z : Int) (a : Option Addr) (n cap : Nat) (c : Option Addr) (m cap' : Nat) (K : Int), e = .returned (.tuple #[lineV k p z a n cap c m cap' K, .bool false]) ∧ Below w.heap.size w w') := by
  have HA : Hid _ := hA
  have HS : Hid _ := hSp
  have HC : Hid _ := hCu
  have HTB : Hid _ := hT
  clear hA hSp hCu hT
  have bx := Cel.new w [.int .i64 0, .int .i64 0, .int .i64 0, .slice none 0 0, .slice none 0 0, .int .i64 0] 26
  have B0 := (Below.refl w.heap.size w).alloc (Nat.le_refl _) (.cells #[.int .i64 0, .int .i64 0, .int .i64 0, .slice none 0 0, .slice none 0 0, .int .i64 0] 26)
  obtain ⟨⟨wd, rest, f⟩, hc⟩ : ∃ r, Lib.cut l [32] = r := ⟨_, rfl⟩
  obtain ⟨lm, lq⟩ := cut_len hc
  have hq120 : rest.length ≤ 120 := by omega
  have HCU : Hid _ := hc
  go_enter Tryz.func19, Tryz.ntmps19
  go_wp2_with fail
  refine (HC.out _ B0 l 32 hl).mono ?_
  rintro e w1 ⟨rfl, b1⟩
  rw [hc]
  have BW1 := B0.trans (b1.mono B0.size)
  have bx1 := bx.below b1
  have zw1 : w.heap.size < w1.heap.size := bx1.lt
  clear b1 B0 bx hc lm lq
  by_cases h_testW : wd = testW
  · have HE : Hid _ := h_testW
    have hp_testW : wd = [116, 101, 115, 116] := h_testW
    have hq_testW : (wd == [116, 101, 115, 116]) = true := by rw [hp_testW]; rfl
    clear h_testW
    go_wp2_with fail
    refine (inumform_any rest _ hq120 (ReadsN.below HA.out BW1) (Splits.belowA HS.out BW1) (Cuts.below HC.out BW1) (fun w' h' => HTB.out w' (BW1.trans (h'.mono BW1.size)))).mono ?_
    rintro e w3 (⟨z, C, D, K, B1, B2, hF, rfl, l1, l2, b3, o1, o12, o2, k1, k2⟩ | ⟨hF, z, a, n, cap, c, m, cap', K, rfl, b3⟩)
    · clear hp_testW hq_testW
      have bx3 := (bx1.below b3).alloc (.cells #[.slice (some ⟨B1, 0, none⟩) 3 3, .slice (some ⟨B2, 0, none⟩) 2 2, .int .i64 K] 24)
      have BB := BW1.trans (b3.mono BW1.size)
      have BB4 := BB.alloc BB.size (.cells #[.slice (some ⟨B1, 0, none⟩) 3 3, .slice (some ⟨B2, 0, none⟩) 2 2, .int .i64 K] 24)
      have cb := Cel.new w3 [.slice (some ⟨B1, 0, none⟩) 3 3, .slice (some ⟨B2, 0, none⟩) 2 2, .int .i64 K] 24
      have k1' := k1.alloc (.cells #[.slice (some ⟨B1, 0, none⟩) 3 3, .slice (some ⟨B2, 0, none⟩) 2 2, .int .i64 K] 24)
      have k2' := k2.alloc (.cells #[.slice (some ⟨B1, 0, none⟩) 3 3, .slice (some ⟨B2, 0, none⟩) 2 2, .int .i64 K] 24)
      have zB1 : w.heap.size < B1 := by omega
      have zB2 : w.heap.size < B2 := by omega
      obtain ⟨r0, r1, r2, r3, r4, r5⟩ := bx3.six
      obtain ⟨f0, f1, f2, f3, f4, f5⟩ := bx3.frees
      have lt3 := bx3.lt
      have d0 := cb.cell 0
      have d1 := cb.cell 1
      have d2 := cb.cell 2
      simp only [List.getElem?_cons_zero, List.getElem?_cons_succ] at d0 d1 d2
      have lt4 := cb.lt
      have HR : Hid _ := (li_test HCU.out HE.out hF)
      clear bx1 bx3 cb BB b3
      go_wp2
      refine bodyPost_ret (v := .tuple #[lineV 1 0 z (some ⟨B1, 0, none⟩) 3 3 (some ⟨B2, 0, none⟩) 2 2 K, .bool true]) (by simp [results, Tryz.results19, go_sem, r0, r1, r2, r3, r4, r5]) rfl (Or.inl ⟨1, 0, z, C, D, K, _, _, _, _, _, _, B1, B2, HR.out, rfl, l1, l2, ⟨by omega, by omega⟩, ?_, .inr ⟨rfl, ?_⟩, .inr ⟨rfl, ?_⟩, (fun _ => by omega), (fun _ => by omega), fun _ _ => o12⟩)
      · exact (((((BB4.setCell (Nat.le_refl _) _).setCell (Nat.le_refl _) _).setCell (Nat.le_refl _) _).setCell (Nat.le_refl _) _).setCell (Nat.le_refl _) _).setCell (Nat.le_refl _) _
      · exact (((((k1'.setOther (by omega) _ _).setOther (by omega) _ _).setOther (by omega) _ _).setOther (by omega) _ _).setOther (by omega) _ _).setOther (by omega) _ _
      · exact (((((k2'.setOther (by omega) _ _).setOther (by omega) _ _).setOther (by omega) _ _).setOther (by omega) _ _).setOther (by omega) _ _).setOther (by omega) _ _
    · clear hp_testW hq_testW
      have bx3 := (bx1.below b3).alloc (.cells #[.slice a n cap, .slice c m cap', .int .i64 K] 24)
      have BB := BW1.trans (b3.mono BW1.size)
      have BB4 := BB.alloc BB.size (.cells #[.slice a n cap, .slice c m cap', .int .i64 K] 24)
      have cb := Cel.new w3 [.slice a n cap, .slice c m cap', .int .i64 K] 24
      obtain ⟨r0, r1, r2, r3, r4, r5⟩ := bx3.six
      obtain ⟨f0, f1, f2, f3, f4, f5⟩ := bx3.frees
      have lt3 := bx3.lt
      have d0 := cb.cell 0
      have d1 := cb.cell 1
      have d2 := cb.cell 2
      simp only [List.getElem?_cons_zero, List.getElem?_cons_succ] at d0 d1 d2
      have lt4 := cb.lt
      have HR : Hid _ := (li_test HCU.out HE.out hF)
      clear bx1 bx3 cb BB b3
      go_wp2
      refine bodyPost_ret (v := .tuple #[lineV 1 0 z a n cap c m cap' K, .bool false]) (by simp [results, Tryz.results19, go_sem, r0, r1, r2, r3, r4, r5]) rfl (Or.inr ⟨HR.out, _, _, _, _, _, _, _, _, _, _, rfl, ?_⟩)
      exact (((((BB4.setCell (Nat.le_refl _) _).setCell (Nat.le_refl _) _).setCell (Nat.le_refl _) _).setCell (Nat.le_refl _) _).setCell (Nat.le_refl _) _).setCell (Nat.le_refl _) _
  have N1 : Hid _ := h_testW
  have hp_testW : ¬ wd = [116, 101, 115, 116] := h_testW
  have hq_testW : (wd == [116, 101, 115, 116]) = false := by simpa using hp_testW
  clear h_testW
  by_cases h_addW : wd = addW
  · have HE : Hid _ := h_addW
    have hp_addW : wd = [97, 100, 100] := h_addW
    have hq_addW : (wd == [97, 100, 100]) = true := by rw [hp_addW]; rfl
    clear h_addW
    go_wp2_with fail
    refine (inumform_any rest _ hq120 (ReadsN.below HA.out BW1) (Splits.belowA HS.out BW1) (Cuts.below HC.out BW1) (fun w' h' => HTB.out w' (BW1.trans (h'.mono BW1.size)))).mono ?_
    rintro e w3 (⟨z, C, D, K, B1, B2, hF, rfl, l1, l2, b3, o1, o12, o2, k1, k2⟩ | ⟨hF, z, a, n, cap, c, m, cap', K, rfl, b3⟩)
    · clear hp_testW hq_testW hp_addW hq_addW
      have bx3 := (bx1.below b3).alloc (.cells #[.slice (some ⟨B1, 0, none⟩) 3 3, .slice (some ⟨B2, 0, none⟩) 2 2, .int .i64 K] 24)
      have BB := BW1.trans (b3.mono BW1.size)
      have BB4 := BB.alloc BB.size (.cells #[.slice (some ⟨B1, 0, none⟩) 3 3, .slice (some ⟨B2, 0, none⟩) 2 2, .int .i64 K] 24)
      have cb := Cel.new w3 [.slice (some ⟨B1, 0, none⟩) 3 3, .slice (some ⟨B2, 0, none⟩) 2 2, .int .i64 K] 24
      have k1' := k1.alloc (.cells #[.slice (some ⟨B1, 0, none⟩) 3 3, .slice (some ⟨B2, 0, none⟩) 2 2, .int .i64 K] 24)
      have k2' := k2.alloc (.cells #[.slice (some ⟨B1, 0, none⟩) 3 3, .slice (some ⟨B2, 0, none⟩) 2 2, .int .i64 K] 24)
      have zB1 : w.heap.size < B1 := by omega
      have zB2 : w.heap.size < B2 := by omega
      obtain ⟨r0, r1, r2, r3, r4, r5⟩ := bx3.six
      obtain ⟨f0, f1, f2, f3, f4, f5⟩ := bx3.frees
      have lt3 := bx3.lt
      have d0 := cb.cell 0
      have d1 := cb.cell 1
      have d2 := cb.cell 2
      simp only [List.getElem?_cons_zero, List.getElem?_cons_succ] at d0 d1 d2
      have lt4 := cb.lt
      have HR : Hid _ := (li_add HCU.out N1.out HE.out hF)
      clear bx1 bx3 cb BB b3
      go_wp2
      refine bodyPost_ret (v := .tuple #[lineV 2 z 0 (some ⟨B1, 0, none⟩) 3 3 (some ⟨B2, 0, none⟩) 2 2 K, .bool true]) (by simp [results, Tryz.results19, go_sem, r0, r1, r2, r3, r4, r5]) rfl (Or.inl ⟨2, z, 0, C, D, K, _, _, _, _, _, _, B1, B2, HR.out, rfl, l1, l2, ⟨by omega, by omega⟩, ?_, .inr ⟨rfl, ?_⟩, .inr ⟨rfl, ?_⟩, (fun _ => by omega), (fun _ => by omega), fun _ _ => o12⟩)
      · exact (((((BB4.setCell (Nat.le_refl _) _).setCell (Nat.le_refl _) _).setCell (Nat.le_refl _) _).setCell (Nat.le_refl _) _).setCell (Nat.le_refl _) _).setCell (Nat.le_refl _) _
      · exact (((((k1'.setOther (by omega) _ _).setOther (by omega) _ _).setOther (by omega) _ _).setOther (by omega) _ _).setOther (by omega) _ _).setOther (by omega) _ _
      · exact (((((k2'.setOther (by omega) _ _).setOther (by omega) _ _).setOther (by omega) _ _).setOther (by omega) _ _).setOther (by omega) _ _).setOther (by omega) _ _
    · clear hp_testW hq_testW hp_addW hq_addW
      have bx3 := (bx1.below b3).alloc (.cells #[.slice a n cap, .slice c m cap', .int .i64 K] 24)
      have BB := BW1.trans (b3.mono BW1.size)
      have BB4 := BB.alloc BB.size (.cells #[.slice a n cap, .slice c m cap', .int .i64 K] 24)
      have cb := Cel.new w3 [.slice a n cap, .slice c m cap', .int .i64 K] 24
      obtain ⟨r0, r1, r2, r3, r4, r5⟩ := bx3.six
      obtain ⟨f0, f1, f2, f3, f4, f5⟩ := bx3.frees
      have lt3 := bx3.lt
      have d0 := cb.cell 0
      have d1 := cb.cell 1
      have d2 := cb.cell 2
      simp only [List.getElem?_cons_zero, List.getElem?_cons_succ] at d0 d1 d2
      have lt4 := cb.lt
      have HR : Hid _ := (li_add HCU.out N1.out HE.out hF)
      clear bx1 bx3 cb BB b3
      go_wp2
      refine bodyPost_ret (v := .tuple #[lineV 2 z 0 a n cap c m cap' K, .bool false]) (by simp [results, Tryz.results19, go_sem, r0, r1, r2, r3, r4, r5]) rfl (Or.inr ⟨HR.out, _, _, _, _, _, _, _, _, _, _, rfl, ?_⟩)
      exact (((((BB4.setCell (Nat.le_refl _) _).setCell (Nat.le_refl _) _).setCell (Nat.le_refl _) _).setCell (Nat.le_refl _) _).setCell (Nat.le_refl _) _).setCell (Nat.le_refl _) _
  have N2 : Hid _ := h_addW
  have hp_addW : ¬ wd = [97, 100, 100] := h_addW
  have hq_addW : (wd == [97, 100, 100]) = false := by simpa using hp_addW
  clear h_addW
  by_cases h_printW : wd = printW
  · have HE : Hid _ := h_printW
    have hp_printW : wd = [112, 114, 105, 110, 116] := h_printW
    have hq_printW : (wd == [112, 114, 105, 110, 116]) = true := by rw [hp_printW]; rfl
    clear h_printW
    go_wp2_with fail
    refine (ifread_any rest _ (by omega) (ReadsN.below HA.out BW1) (Splits.belowA HS.out BW1) (Cuts.below HC.out BW1) (fun w' h' => HTB.out w' (BW1.trans (h'.mono BW1.size)))).mono ?_
    rintro e w3 (⟨C, D, K, B1, B2, hF, rfl, l1, l2, b3, o1, o12, o2, k1, k2⟩ | ⟨hF, rfl, b3⟩)
    · clear hp_testW hq_testW hp_addW hq_addW hp_printW hq_printW
      have bx3 := (bx1.below b3).alloc (.cells #[.slice (some ⟨B1, 0, none⟩) 3 3, .slice (some ⟨B2, 0, none⟩) 2 2, .int .i64 K] 24)
      have BB := BW1.trans (b3.mono BW1.size)
      have BB4 := BB.alloc BB.size (.cells #[.slice (some ⟨B1, 0, none⟩) 3 3, .slice (some ⟨B2, 0, none⟩) 2 2, .int .i64 K] 24)
      have cb := Cel.new w3 [.slice (some ⟨B1, 0, none⟩) 3 3, .slice (some ⟨B2, 0, none⟩) 2 2, .int .i64 K] 24
      have k1' := k1.alloc (.cells #[.slice (some ⟨B1, 0, none⟩) 3 3, .slice (some ⟨B2, 0, none⟩) 2 2, .int .i64 K] 24)
      have k2' := k2.alloc (.cells #[.slice (some ⟨B1, 0, none⟩) 3 3, .slice (some ⟨B2, 0, none⟩) 2 2, .int .i64 K] 24)
      have zB1 : w.heap.size < B1 := by omega
      have zB2 : w.heap.size < B2 := by omega
      obtain ⟨r0, r1, r2, r3, r4, r5⟩ := bx3.six
      obtain ⟨f0, f1, f2, f3, f4, f5⟩ := bx3.frees
      have lt3 := bx3.lt
      have d0 := cb.cell 0
      have d1 := cb.cell 1
      have d2 := cb.cell 2
      simp only [List.getElem?_cons_zero, List.getElem?_cons_succ] at d0 d1 d2
      have lt4 := cb.lt
      have HR : Hid _ := (li_print HCU.out N1.out N2.out HE.out hF)
      clear bx1 bx3 cb BB b3
      go_wp2
      refine bodyPost_ret (v := .tuple #[lineV 3 0 0 (some ⟨B1, 0, none⟩) 3 3 (some ⟨B2, 0, none⟩) 2 2 K, .bool true]) (by simp [results, Tryz.results19, go_sem, r0, r1, r2, r3, r4, r5]) rfl (Or.inl ⟨3, 0, 0, C, D, K, _, _, _, _, _, _, B1, B2, HR.out, rfl, l1, l2, ⟨by omega, by omega⟩, ?_, .inr ⟨rfl, ?_⟩, .inr ⟨rfl, ?_⟩, (fun _ => by omega), (fun _ => by omega), fun _ _ => o12⟩)
      · exact (((((BB4.setCell (Nat.le_refl _) _).setCell (Nat.le_refl _) _).setCell (Nat.le_refl _) _).setCell (Nat.le_refl _) _).setCell (Nat.le_refl _) _).setCell (Nat.le_refl _) _
      · exact (((((k1'.setOther (by omega) _ _).setOther (by omega) _ _).setOther (by omega) _ _).setOther (by omega) _ _).setOther (by omega) _ _).setOther (by omega) _ _
      · exact (((((k2'.setOther (by omega) _ _).setOther (by omega) _ _).setOther (by omega) _ _).setOther (by omega) _ _).setOther (by omega) _ _).setOther (by omega) _ _
    · clear hp_testW hq_testW hp_addW hq_addW hp_printW hq_printW
      have bx3 := (bx1.below b3).alloc (.cells #[.slice none 0 0, .slice none 0 0, .int .i64 0] 24)
      have BB := BW1.trans (b3.mono BW1.size)
      have BB4 := BB.alloc BB.size (.cells #[.slice none 0 0, .slice none 0 0, .int .i64 0] 24)
      have cb := Cel.new w3 [.slice none 0 0, .slice none 0 0, .int .i64 0] 24
      obtain ⟨r0, r1, r2, r3, r4, r5⟩ := bx3.six
      obtain ⟨f0, f1, f2, f3, f4, f5⟩ := bx3.frees
      have lt3 := bx3.lt
      have d0 := cb.cell 0
      have d1 := cb.cell 1
      have d2 := cb.cell 2
      simp only [List.getElem?_cons_zero, List.getElem?_cons_succ] at d0 d1 d2
      have lt4 := cb.lt
      have HR : Hid _ := (li_print HCU.out N1.out N2.out HE.out hF)
      clear bx1 bx3 cb BB b3
      go_wp2
      refine bodyPost_ret (v := .tuple #[lineV 3 0 0 none 0 0 none 0 0 0, .bool false]) (by simp [results, Tryz.results19, go_sem, r0, r1, r2, r3, r4, r5]) rfl (Or.inr ⟨HR.out, _, _, _, _, _, _, _, _, _, _, rfl, ?_⟩)
      exact (((((BB4.setCell (Nat.le_refl _) _).setCell (Nat.le_refl _) _).setCell (Nat.le_refl _) _).setCell (Nat.le_refl _) _).setCell (Nat.le_refl _) _).setCell (Nat.le_refl _) _
  have N3 : Hid _ := h_printW
  have hp_printW : ¬ wd = [112, 114, 105, 110, 116] := h_printW
  have hq_printW : (wd == [112, 114, 105, 110, 116]) = false := by simpa using hp_printW
  clear h_printW
  have bx3 := bx1
  obtain ⟨r0, r1, r2, r3, r4, r5⟩ := bx3.six
  obtain ⟨f0, f1, f2, f3, f4, f5⟩ := bx3.frees
  have lt3 := bx3.lt
  by_cases h_stopT : wd = stopT
  · have HR : Hid _ := li_stop HCU.out N1.out N2.out N3.out h_stopT
    have hp_stopT : wd = [115, 116, 111, 112] := h_stopT
    have hq_stopT : (wd == [115, 116, 111, 112]) = true := by rw [hp_stopT]; rfl
    go_wp2
    refine bodyPost_ret (v := .tuple #[lineV 4 0 0 none 0 0 none 0 0 0, .bool true]) (by simp [results, Tryz.results19, go_sem, r0, r1, r2, r3, r4, r5]) rfl (Or.inl ⟨4, 0, 0, [], [], 0, none, 0, 0, none, 0, 0, 0, 0, HR.out, rfl, rfl, rfl, ⟨by omega, by omega⟩, ?_, .inl rfl, .inl rfl, (fun h => by omega), (fun h => by omega), fun h => by omega⟩)
    exact (((((BW1.setCell (Nat.le_refl _) _).setCell (Nat.le_refl _) _).setCell (Nat.le_refl _) _).setCell (Nat.le_refl _) _).setCell (Nat.le_refl _) _).setCell (Nat.le_refl _) _
  · have HR : Hid _ := li_none HCU.out N1.out N2.out N3.out h_stopT
    have hp_stopT : ¬ wd = [115, 116, 111, 112] := h_stopT
    have hq_stopT : (wd == [115, 116, 111, 112]) = false := by simpa using hp_stopT
    go_wp2
    refine bodyPost_ret (v := .tuple #[lineV 0 0 0 none 0 0 none 0 0 0, .bool false]) (by simp [results, Tryz.results19, go_sem, r0, r1, r2, r3, r4, r5]) rfl (Or.inr ⟨HR.out, _, _, _, _, _, _, _, _, _, _, rfl, ?_⟩)
    exact (((((BW1.setCell (Nat.le_refl _) _).setCell (Nat.le_refl _) _).setCell (Nat.le_refl _) _).setCell (Nat.le_refl _) _).setCell (Nat.le_refl _) _).setCell (Nat.le_refl _) _

end Go.Proofs.YtkmacleakfbobabGreatDoor
