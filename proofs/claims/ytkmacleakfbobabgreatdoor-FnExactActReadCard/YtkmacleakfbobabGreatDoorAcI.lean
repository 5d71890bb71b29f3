/-
  A line, as the program reads it. The library's functions are taken by what they answer.
-/
import Derived.Test.YtkmacleakfbobabGreatDoorAcT
import Derived.Test.YtkmacleakfbobabGreatDoorShelf
import Derived.Test.YtkmacleakfbobabGreatDoorAcL
namespace Go.Proofs.YtkmacleakfbobabGreatDoor
open Go.RowKit
set_option linter.unusedVariables false
set_option maxRecDepth 100000

theorem Tryz.textTest (v : Value) (w : World) : (Go.method 274 75 v "loop.example/concord/impl.text").run Tryz.prog w = .ok (136, v) w := by kernel_rfl
theorem Tryz.textAdd (v : Value) (w : World) : (Go.method 274 78 v "loop.example/concord/impl.text").run Tryz.prog w = .ok (137, v) w := by kernel_rfl
theorem Tryz.textPrint (v : Value) (w : World) : (Go.method 274 80 v "loop.example/concord/impl.text").run Tryz.prog w = .ok (138, v) w := by kernel_rfl
theorem Tryz.textStop (v : Value) (w : World) : (Go.method 274 82 v "loop.example/concord/impl.text").run Tryz.prog w = .ok (139, v) w := by kernel_rfl

set_option maxHeartbeats 6400000 in
theorem itest_text (skip : Int) (a : Option Addr) (cap : Nat) (c : Option Addr) (cap' : Nat) (K : Int) (C D : List Int) (w : World) (hC : Ints w a 3 C) (hD : Ints w c 2 D) (hs : smallB 3 2 C D K = true) (y1 : -10 ≤ skip) (y2 : skip ≤ 10) (hT : Lib.TabBelow Tryz.prog w.heap.size w "internal/strconv.uint64pow10" .u64 Lib.pow10Tab) :
    Calls Tryz.prog 136 #[.agg #[.int .i64 skip, .slice a 3 cap, .slice c 2 cap', .int .i64 K]] w fun e w' => e = .returned (.string ⟨(testW ++ 32 :: (Lib.itoa skip ++ 32 :: formText 3 2 C D K)).toArray⟩) ∧ Below w.heap.size w w' := by
  have HTB : Hid _ := hT
  clear hT
  obtain ⟨-, -, bC, bD, bK1, bK2⟩ := small_bnd hs
  have BC : Hid _ := bC
  have BD : Hid _ := bD
  obtain ⟨F, hF⟩ : ∃ F, F = formText 3 2 C D K := ⟨_, rfl⟩
  have hFl : F.length ≤ 400 := by rw [hF]; exact form_len hs
  have HF : Hid (spaced (timesL 120 C 3 ++ timesL 97 D 2) ++ Lib.itoa K = F) := by show _ = _; rw [hF, formText_yes (small_ok hs)]
  have HAT : Hid (testW ++ 32 :: (Lib.itoa skip ++ 32 :: formText 3 2 C D K) = testW ++ 32 :: (Lib.itoa skip ++ 32 :: F)) := by show _ = _; rw [hF]
  clear hF hs bC bD
  have l1 := Lib.itoa_length_le skip (by omega) (by omega)
  obtain ⟨T1, e1⟩ : ∃ T : ByteArray, T = ⟨(Lib.itoa skip).toArray⟩ := ⟨_, rfl⟩
  have s1 : T1.size ≤ 21 := by rw [e1]; simpa [ByteArray.size] using l1
  have E1 : Hid _ := e1
  clear l1 e1
  obtain ⟨T2, e2⟩ : ∃ T : ByteArray, T = ⟨F.toArray⟩ := ⟨_, rfl⟩
  have s2 : T2.size ≤ 400 := by rw [e2]; simpa [ByteArray.size] using hFl
  have E2 : Hid _ := e2
  clear e2
  obtain ⟨R1, hR1⟩ : ∃ R : ByteArray, R = (⟨#[116, 101, 115, 116, 32]⟩ : ByteArray) ++ (T1 : ByteArray) := ⟨_, rfl⟩
  have z1 : R1.size ≤ 50 := by rw [hR1, ByteArray.size_append]; first | omega | (have := (show (⟨#[116, 101, 115, 116, 32]⟩ : ByteArray).size ≤ 5 by decide); omega)
  have A1 : ∀ X : World, (Op.stringOp .add (⟨#[116, 101, 115, 116, 32]⟩ : ByteArray) (T1 : ByteArray)).run Tryz.prog X = .ok (.string R1) X := fun X => by rw [hR1]; exact run_string_add_sum X _ _ (by rw [← ByteArray.size_append, ← hR1]; omega)
  have HR1 : Hid _ := hR1
  clear hR1
  obtain ⟨R2, hR2⟩ : ∃ R : ByteArray, R = (R1 : ByteArray) ++ (⟨#[32]⟩ : ByteArray) := ⟨_, rfl⟩
  have z2 : R2.size ≤ 60 := by rw [hR2, ByteArray.size_append]; first | omega | (have := (show (⟨#[32]⟩ : ByteArray).size ≤ 5 by decide); omega)
  have A2 : ∀ X : World, (Op.stringOp .add (R1 : ByteArray) (⟨#[32]⟩ : ByteArray)).run Tryz.prog X = .ok (.string R2) X := fun X => by rw [hR2]; exact run_string_add_sum X _ _ (by rw [← ByteArray.size_append, ← hR2]; omega)
  have HR2 : Hid _ := hR2
  clear hR2
  obtain ⟨R3, hR3⟩ : ∃ R : ByteArray, R = (R2 : ByteArray) ++ (T2 : ByteArray) := ⟨_, rfl⟩
  have z3 : R3.size ≤ 470 := by rw [hR3, ByteArray.size_append]; first | omega | (have := (show (T2 : ByteArray).size ≤ 5 by decide); omega)
  have A3 : ∀ X : World, (Op.stringOp .add (R2 : ByteArray) (T2 : ByteArray)).run Tryz.prog X = .ok (.string R3) X := fun X => by rw [hR3]; exact run_string_add_sum X _ _ (by rw [← ByteArray.size_append, ← hR3]; omega)
  have HR3 : Hid _ := hR3
  clear hR3
  go_enter Tryz.func136, Tryz.ntmps136
  go_upto_region 1 with fail
  obtain ⟨W, hW⟩ : ∃ W, W = w.alloc (.cells #[.int .i64 skip, .slice a 3 cap, .slice c 2 cap', .int .i64 K] 75) := ⟨_, rfl⟩
  have q_1 := Cel.new w [.int .i64 skip, .slice a 3 cap, .slice c 2 cap', .int .i64 K] 75
  have B_1 := (Below.refl w.heap.size w).alloc (Nat.le_refl _) (.cells #[.int .i64 skip, .slice a 3 cap, .slice c 2 cap', .int .i64 K] 75)
  rw [← hW] at q_1 B_1 ⊢
  clear hW
  have CC : Hid (∀ X : World, Cel X w.heap.size [.int .i64 skip, .slice a 3 cap, .slice c 2 cap', .int .i64 K] 75 → X.cell? ⟨w.heap.size, 0, none⟩ = some (.int .i64 skip) ∧ X.cell? ⟨w.heap.size, 1, none⟩ = some (.slice a 3 cap) ∧ X.cell? ⟨w.heap.size, 2, none⟩ = some (.slice c 2 cap') ∧ X.cell? ⟨w.heap.size, 3, none⟩ = some (.int .i64 K)) := fun X h => ⟨h.cell 0, h.cell 1, h.cell 2, h.cell 3⟩
  have hS0 : (W.drew.cell? ⟨w.heap.size, 0, none⟩ = some (.int .i64 skip) ∧ W.drew.cell? ⟨w.heap.size, 1, none⟩ = some (.slice a 3 cap) ∧ W.drew.cell? ⟨w.heap.size, 2, none⟩ = some (.slice c 2 cap') ∧ W.drew.cell? ⟨w.heap.size, 3, none⟩ = some (.int .i64 K)) ∧ True := ⟨CC.out _ q_1, trivial⟩
  refine wp_region_ends (fun X => X.cell? ⟨w.heap.size, 0, none⟩ = some (.int .i64 skip) ∧ X.cell? ⟨w.heap.size, 1, none⟩ = some (.slice a 3 cap) ∧ X.cell? ⟨w.heap.size, 2, none⟩ = some (.slice c 2 cap') ∧ X.cell? ⟨w.heap.size, 3, none⟩ = some (.int .i64 K)) (fun _ => True) 9 (by kernel_rfl) ?_
  refine wpAnyE_take0 (i := 0) (v := ?t0v0) rfl (by kernel_rfl) (by kernel_rfl) (by kernel_rfl) (by decide) (fun _ _ _ h => h) (Or.inl ⟨by rfl, ?t0hy0⟩) hS0 ?_
  case t0hy0 => (intro wz hSw; (try dsimp only at hSw); go_simp; try (with_reducible rfl))
  refine wpAnyE_take0 (i := 1) (v := ?t0v1) rfl (by kernel_rfl) (by kernel_rfl) (by kernel_rfl) (by decide) (fun _ _ _ h => h) (Or.inl ⟨by rfl, ?t0hy1⟩) hS0 ?_
  case t0hy1 => (intro wz hSw; (try dsimp only at hSw); go_simp; try (with_reducible rfl))
  refine wpAnyE_take0 (i := 5) (v := ?t0v5) rfl (by kernel_rfl) (by kernel_rfl) (by kernel_rfl) (by decide) (fun _ _ _ h => h) (Or.inl ⟨by rfl, ?t0hy5⟩) hS0 ?_
  case t0hy5 => (intro wz hSw; (try dsimp only at hSw); go_simp; try (with_reducible rfl))
  refine wpAnyE_take0 (i := 6) (v := ?t0v6) rfl (by kernel_rfl) (by kernel_rfl) (by kernel_rfl) (by decide) (fun _ _ _ h => h) (Or.inl ⟨by rfl, ?t0hy6⟩) hS0 ?_
  case t0hy6 => (intro wz hSw; (try dsimp only at hSw); go_simp; try (with_reducible rfl))
  refine wpAnyE_one (i := 2) (by kernel_rfl) rfl (fun Kn hK => ?_)
  go_simp
  refine (Tryz.strconv_Itoa skip (by omega) (by omega) _ (HTB.out _ (by exact Below.drew B_1))).mono ?_
  rintro ee w2 ⟨rfl, qq, os, hw2⟩
  rw [← E1.out]
  have bd_2 : Below W.drew.heap.size W.drew w2 := by rw [hw2]; exact Lib.below_grow _ _ (Nat.le_refl _) _ _
  clear hw2
  have b_2 := below_of_drew bd_2
  have B_2 := B_1.trans (b_2.mono B_1.size)
  have q_2 := q_1.below b_2
  have hS2 : (w2.cell? ⟨w.heap.size, 0, none⟩ = some (.int .i64 skip) ∧ w2.cell? ⟨w.heap.size, 1, none⟩ = some (.slice a 3 cap) ∧ w2.cell? ⟨w.heap.size, 2, none⟩ = some (.slice c 2 cap') ∧ w2.cell? ⟨w.heap.size, 3, none⟩ = some (.int .i64 K)) ∧ True := ⟨CC.out _ q_2, trivial⟩
  dsimp only
  refine hK.out _ _ ⟨hS2.1, fun _ => trivial⟩ ?_
  clear hK hS0
  refine wpAnyE_take0 (i := 3) (v := .string R1) rfl (by kernel_rfl) (by kernel_rfl) (by kernel_rfl) (by decide) (fun _ _ _ h => h) (Or.inl ⟨by rfl, ?t0hy3⟩) hS2 ?_
  case t0hy3 => (intro wz hSw; (try dsimp only at hSw); first | (go_simp; try (with_reducible rfl); done) | (simp only [go_sem, A1]; done) | (go_simp; exact A1 _) | (simp [go_sem, A1]; done) | skip)
  refine wpAnyE_take0 (i := 4) (v := .string R2) rfl (by kernel_rfl) (by kernel_rfl) (by kernel_rfl) (by decide) (fun _ _ _ h => h) (Or.inl ⟨by rfl, ?t0hy4⟩) hS2 ?_
  case t0hy4 => (intro wz hSw; (try dsimp only at hSw); first | (go_simp; try (with_reducible rfl); done) | (simp only [go_sem, A2]; done) | (go_simp; exact A2 _) | (simp [go_sem, A2]; done) | skip)
  refine wpAnyE_one (i := 7) (by kernel_rfl) rfl (fun Kn hK => ?_)
  go_simp
  refine (text_any _ _ _ _ _ C D _ (hC.below B_2) (hD.below B_2) BC.out BD.out (by omega) (by omega) (fun w' h' => HTB.out w' (B_2.trans (h'.mono B_2.size)))).mono ?_
  rintro ee w3 ⟨rfl, b_3⟩
  rw [HF.out, ← E2.out]
  have B_3 := B_2.trans (b_3.mono B_2.size)
  have q_3 := q_2.below b_3
  have hS3 : (w3.cell? ⟨w.heap.size, 0, none⟩ = some (.int .i64 skip) ∧ w3.cell? ⟨w.heap.size, 1, none⟩ = some (.slice a 3 cap) ∧ w3.cell? ⟨w.heap.size, 2, none⟩ = some (.slice c 2 cap') ∧ w3.cell? ⟨w.heap.size, 3, none⟩ = some (.int .i64 K)) ∧ True := ⟨CC.out _ q_3, trivial⟩
  dsimp only
  refine hK.out _ _ ⟨hS3.1, fun _ => trivial⟩ ?_
  clear hK hS2
  refine wpAnyE_take0 (i := 8) (v := .string R3) rfl (by kernel_rfl) (by kernel_rfl) (by kernel_rfl) (by decide) (fun _ _ _ h => h) (Or.inl ⟨by rfl, ?t0hy8⟩) hS3 ?_
  case t0hy8 => (intro wz hSw; (try dsimp only at hSw); first | (go_simp; try (with_reducible rfl); done) | (simp only [go_sem, A3]; done) | (go_simp; exact A3 _) | (simp [go_sem, A3]; done) | skip)
  refine wpAnyE_one (i := 9) (by kernel_rfl) rfl (fun Kn hK => ?_)
  go_simp
  refine hK.out _ _ ⟨hS3.1, fun _ => trivial⟩ ?_
  clear hK
  refine wpAnyE_done (by kernel_rfl) ?_ _
  clear hS3
  go_wp2
  go_ret
  refine ⟨?_, B_3⟩
  rw [HAT.out]
  have : R3 = ⟨(testW ++ 32 :: (Lib.itoa skip ++ 32 :: F)).toArray⟩ := by
    rw [HR3.out, HR2.out, HR1.out, E1.out, E2.out, show (⟨#[116, 101, 115, 116, 32]⟩ : ByteArray) = ⟨(testW ++ [32]).toArray⟩ from rfl, show (⟨#[32]⟩ : ByteArray) = ⟨[32].toArray⟩ from rfl]
    simp [cat_str, List.append_assoc]
  rw [← this]
  rfl

set_option maxHeartbeats 6400000 in
theorem iadd_text (pot : Int) (a : Option Addr) (cap : Nat) (c : Option Addr) (cap' : Nat) (K : Int) (C D : List Int) (w : World) (hC : Ints w a 3 C) (hD : Ints w c 2 D) (hs : smallB 3 2 C D K = true) (y1 : -10 ≤ pot) (y2 : pot ≤ 10) (hT : Lib.TabBelow Tryz.prog w.heap.size w "internal/strconv.uint64pow10" .u64 Lib.pow10Tab) :
    Calls Tryz.prog 137 #[.agg #[.int .i64 pot, .slice a 3 cap, .slice c 2 cap', .int .i64 K]] w fun e w' => e = .returned (.string ⟨(addW ++ 32 :: (Lib.itoa pot ++ 32 :: formText 3 2 C D K)).toArray⟩) ∧ Below w.heap.size w w' := by
  have HTB : Hid _ := hT
  clear hT
  obtain ⟨-, -, bC, bD, bK1, bK2⟩ := small_bnd hs
  have BC : Hid _ := bC
  have BD : Hid _ := bD
  obtain ⟨F, hF⟩ : ∃ F, F = formText 3 2 C D K := ⟨_, rfl⟩
  have hFl : F.length ≤ 400 := by rw [hF]; exact form_len hs
  have HF : Hid (spaced (timesL 120 C 3 ++ timesL 97 D 2) ++ Lib.itoa K = F) := by show _ = _; rw [hF, formText_yes (small_ok hs)]
  have HAT : Hid (addW ++ 32 :: (Lib.itoa pot ++ 32 :: formText 3 2 C D K) = addW ++ 32 :: (Lib.itoa pot ++ 32 :: F)) := by show _ = _; rw [hF]
  clear hF hs bC bD
  have l1 := Lib.itoa_length_le pot (by omega) (by omega)
  obtain ⟨T1, e1⟩ : ∃ T : ByteArray, T = ⟨(Lib.itoa pot).toArray⟩ := ⟨_, rfl⟩
  have s1 : T1.size ≤ 21 := by rw [e1]; simpa [ByteArray.size] using l1
  have E1 : Hid _ := e1
  clear l1 e1
  obtain ⟨T2, e2⟩ : ∃ T : ByteArray, T = ⟨F.toArray⟩ := ⟨_, rfl⟩
  have s2 : T2.size ≤ 400 := by rw [e2]; simpa [ByteArray.size] using hFl
  have E2 : Hid _ := e2
  clear e2
  obtain ⟨R1, hR1⟩ : ∃ R : ByteArray, R = (⟨#[97, 100, 100, 32]⟩ : ByteArray) ++ (T1 : ByteArray) := ⟨_, rfl⟩
  have z1 : R1.size ≤ 50 := by rw [hR1, ByteArray.size_append]; first | omega | (have := (show (⟨#[97, 100, 100, 32]⟩ : ByteArray).size ≤ 5 by decide); omega)
  have A1 : ∀ X : World, (Op.stringOp .add (⟨#[97, 100, 100, 32]⟩ : ByteArray) (T1 : ByteArray)).run Tryz.prog X = .ok (.string R1) X := fun X => by rw [hR1]; exact run_string_add_sum X _ _ (by rw [← ByteArray.size_append, ← hR1]; omega)
  have HR1 : Hid _ := hR1
  clear hR1
  obtain ⟨R2, hR2⟩ : ∃ R : ByteArray, R = (R1 : ByteArray) ++ (⟨#[32]⟩ : ByteArray) := ⟨_, rfl⟩
  have z2 : R2.size ≤ 60 := by rw [hR2, ByteArray.size_append]; first | omega | (have := (show (⟨#[32]⟩ : ByteArray).size ≤ 5 by decide); omega)
  have A2 : ∀ X : World, (Op.stringOp .add (R1 : ByteArray) (⟨#[32]⟩ : ByteArray)).run Tryz.prog X = .ok (.string R2) X := fun X => by rw [hR2]; exact run_string_add_sum X _ _ (by rw [← ByteArray.size_append, ← hR2]; omega)
  have HR2 : Hid _ := hR2
  clear hR2
  obtain ⟨R3, hR3⟩ : ∃ R : ByteArray, R = (R2 : ByteArray) ++ (T2 : ByteArray) := ⟨_, rfl⟩
  have z3 : R3.size ≤ 470 := by rw [hR3, ByteArray.size_append]; first | omega | (have := (show (T2 : ByteArray).size ≤ 5 by decide); omega)
  have A3 : ∀ X : World, (Op.stringOp .add (R2 : ByteArray) (T2 : ByteArray)).run Tryz.prog X = .ok (.string R3) X := fun X => by rw [hR3]; exact run_string_add_sum X _ _ (by rw [← ByteArray.size_append, ← hR3]; omega)
  have HR3 : Hid _ := hR3
  clear hR3
  go_enter Tryz.func137, Tryz.ntmps137
  go_upto_region 1 with fail
  obtain ⟨W, hW⟩ : ∃ W, W = w.alloc (.cells #[.int .i64 pot, .slice a 3 cap, .slice c 2 cap', .int .i64 K] 78) := ⟨_, rfl⟩
  have q_1 := Cel.new w [.int .i64 pot, .slice a 3 cap, .slice c 2 cap', .int .i64 K] 78
  have B_1 := (Below.refl w.heap.size w).alloc (Nat.le_refl _) (.cells #[.int .i64 pot, .slice a 3 cap, .slice c 2 cap', .int .i64 K] 78)
  rw [← hW] at q_1 B_1 ⊢
  clear hW
  have CC : Hid (∀ X : World, Cel X w.heap.size [.int .i64 pot, .slice a 3 cap, .slice c 2 cap', .int .i64 K] 78 → X.cell? ⟨w.heap.size, 0, none⟩ = some (.int .i64 pot) ∧ X.cell? ⟨w.heap.size, 1, none⟩ = some (.slice a 3 cap) ∧ X.cell? ⟨w.heap.size, 2, none⟩ = some (.slice c 2 cap') ∧ X.cell? ⟨w.heap.size, 3, none⟩ = some (.int .i64 K)) := fun X h => ⟨h.cell 0, h.cell 1, h.cell 2, h.cell 3⟩
  have hS0 : (W.drew.cell? ⟨w.heap.size, 0, none⟩ = some (.int .i64 pot) ∧ W.drew.cell? ⟨w.heap.size, 1, none⟩ = some (.slice a 3 cap) ∧ W.drew.cell? ⟨w.heap.size, 2, none⟩ = some (.slice c 2 cap') ∧ W.drew.cell? ⟨w.heap.size, 3, none⟩ = some (.int .i64 K)) ∧ True := ⟨CC.out _ q_1, trivial⟩
  refine wp_region_ends (fun X => X.cell? ⟨w.heap.size, 0, none⟩ = some (.int .i64 pot) ∧ X.cell? ⟨w.heap.size, 1, none⟩ = some (.slice a 3 cap) ∧ X.cell? ⟨w.heap.size, 2, none⟩ = some (.slice c 2 cap') ∧ X.cell? ⟨w.heap.size, 3, none⟩ = some (.int .i64 K)) (fun _ => True) 9 (by kernel_rfl) ?_
  refine wpAnyE_take0 (i := 0) (v := ?t1v0) rfl (by kernel_rfl) (by kernel_rfl) (by kernel_rfl) (by decide) (fun _ _ _ h => h) (Or.inl ⟨by rfl, ?t1hy0⟩) hS0 ?_
  case t1hy0 => (intro wz hSw; (try dsimp only at hSw); go_simp; try (with_reducible rfl))
  refine wpAnyE_take0 (i := 1) (v := ?t1v1) rfl (by kernel_rfl) (by kernel_rfl) (by kernel_rfl) (by decide) (fun _ _ _ h => h) (Or.inl ⟨by rfl, ?t1hy1⟩) hS0 ?_
  case t1hy1 => (intro wz hSw; (try dsimp only at hSw); go_simp; try (with_reducible rfl))
  refine wpAnyE_take0 (i := 5) (v := ?t1v5) rfl (by kernel_rfl) (by kernel_rfl) (by kernel_rfl) (by decide) (fun _ _ _ h => h) (Or.inl ⟨by rfl, ?t1hy5⟩) hS0 ?_
  case t1hy5 => (intro wz hSw; (try dsimp only at hSw); go_simp; try (with_reducible rfl))
  refine wpAnyE_take0 (i := 6) (v := ?t1v6) rfl (by kernel_rfl) (by kernel_rfl) (by kernel_rfl) (by decide) (fun _ _ _ h => h) (Or.inl ⟨by rfl, ?t1hy6⟩) hS0 ?_
  case t1hy6 => (intro wz hSw; (try dsimp only at hSw); go_simp; try (with_reducible rfl))
  refine wpAnyE_one (i := 2) (by kernel_rfl) rfl (fun Kn hK => ?_)
  go_simp
  refine (Tryz.strconv_Itoa pot (by omega) (by omega) _ (HTB.out _ (by exact Below.drew B_1))).mono ?_
  rintro ee w2 ⟨rfl, qq, os, hw2⟩
  rw [← E1.out]
  have bd_2 : Below W.drew.heap.size W.drew w2 := by rw [hw2]; exact Lib.below_grow _ _ (Nat.le_refl _) _ _
  clear hw2
  have b_2 := below_of_drew bd_2
  have B_2 := B_1.trans (b_2.mono B_1.size)
  have q_2 := q_1.below b_2
  have hS2 : (w2.cell? ⟨w.heap.size, 0, none⟩ = some (.int .i64 pot) ∧ w2.cell? ⟨w.heap.size, 1, none⟩ = some (.slice a 3 cap) ∧ w2.cell? ⟨w.heap.size, 2, none⟩ = some (.slice c 2 cap') ∧ w2.cell? ⟨w.heap.size, 3, none⟩ = some (.int .i64 K)) ∧ True := ⟨CC.out _ q_2, trivial⟩
  dsimp only
  refine hK.out _ _ ⟨hS2.1, fun _ => trivial⟩ ?_
  clear hK hS0
  refine wpAnyE_take0 (i := 3) (v := .string R1) rfl (by kernel_rfl) (by kernel_rfl) (by kernel_rfl) (by decide) (fun _ _ _ h => h) (Or.inl ⟨by rfl, ?t1hy3⟩) hS2 ?_
  case t1hy3 => (intro wz hSw; (try dsimp only at hSw); first | (go_simp; try (with_reducible rfl); done) | (simp only [go_sem, A1]; done) | (go_simp; exact A1 _) | (simp [go_sem, A1]; done) | skip)
  refine wpAnyE_take0 (i := 4) (v := .string R2) rfl (by kernel_rfl) (by kernel_rfl) (by kernel_rfl) (by decide) (fun _ _ _ h => h) (Or.inl ⟨by rfl, ?t1hy4⟩) hS2 ?_
  case t1hy4 => (intro wz hSw; (try dsimp only at hSw); first | (go_simp; try (with_reducible rfl); done) | (simp only [go_sem, A2]; done) | (go_simp; exact A2 _) | (simp [go_sem, A2]; done) | skip)
  refine wpAnyE_one (i := 7) (by kernel_rfl) rfl (fun Kn hK => ?_)
  go_simp
  refine (text_any _ _ _ _ _ C D _ (hC.below B_2) (hD.below B_2) BC.out BD.out (by omega) (by omega) (fun w' h' => HTB.out w' (B_2.trans (h'.mono B_2.size)))).mono ?_
  rintro ee w3 ⟨rfl, b_3⟩
  rw [HF.out, ← E2.out]
  have B_3 := B_2.trans (b_3.mono B_2.size)
  have q_3 := q_2.below b_3
  have hS3 : (w3.cell? ⟨w.heap.size, 0, none⟩ = some (.int .i64 pot) ∧ w3.cell? ⟨w.heap.size, 1, none⟩ = some (.slice a 3 cap) ∧ w3.cell? ⟨w.heap.size, 2, none⟩ = some (.slice c 2 cap') ∧ w3.cell? ⟨w.heap.size, 3, none⟩ = some (.int .i64 K)) ∧ True := ⟨CC.out _ q_3, trivial⟩
  dsimp only
  refine hK.out _ _ ⟨hS3.1, fun _ => trivial⟩ ?_
  clear hK hS2
  refine wpAnyE_take0 (i := 8) (v := .string R3) rfl (by kernel_rfl) (by kernel_rfl) (by kernel_rfl) (by decide) (fun _ _ _ h => h) (Or.inl ⟨by rfl, ?t1hy8⟩) hS3 ?_
  case t1hy8 => (intro wz hSw; (try dsimp only at hSw); first | (go_simp; try (with_reducible rfl); done) | (simp only [go_sem, A3]; done) | (go_simp; exact A3 _) | (simp [go_sem, A3]; done) | skip)
  refine wpAnyE_one (i := 9) (by kernel_rfl) rfl (fun Kn hK => ?_)
  go_simp
  refine hK.out _ _ ⟨hS3.1, fun _ => trivial⟩ ?_
  clear hK
  refine wpAnyE_done (by kernel_rfl) ?_ _
  clear hS3
  go_wp2
  go_ret
  refine ⟨?_, B_3⟩
  rw [HAT.out]
  have : R3 = ⟨(addW ++ 32 :: (Lib.itoa pot ++ 32 :: F)).toArray⟩ := by
    rw [HR3.out, HR2.out, HR1.out, E1.out, E2.out, show (⟨#[97, 100, 100, 32]⟩ : ByteArray) = ⟨(addW ++ [32]).toArray⟩ from rfl, show (⟨#[32]⟩ : ByteArray) = ⟨[32].toArray⟩ from rfl]
    simp [cat_str, List.append_assoc]
  rw [← this]
  rfl

set_option maxHeartbeats 1600000 in
theorem iprint_text (a : Option Addr) (cap : Nat) (c : Option Addr) (cap' : Nat) (K : Int) (C D : List Int) (w : World) (hC : Ints w a 3 C) (hD : Ints w c 2 D) (hs : smallB 3 2 C D K = true) (hT : Lib.TabBelow Tryz.prog w.heap.size w "internal/strconv.uint64pow10" .u64 Lib.pow10Tab) :
    Calls Tryz.prog 138 #[.agg #[.slice a 3 cap, .slice c 2 cap', .int .i64 K]] w fun e w' => e = .returned (.string ⟨(printW ++ 32 :: formText 3 2 C D K).toArray⟩) ∧ Below w.heap.size w w' := by
  have HTB : Hid _ := hT
  clear hT
  obtain ⟨-, -, bC, bD, bK1, bK2⟩ := small_bnd hs
  have BC : Hid _ := bC
  have BD : Hid _ := bD
  obtain ⟨F, hF⟩ : ∃ F, formText 3 2 C D K = F := ⟨_, rfl⟩
  have hFl : F.length ≤ 400 := by rw [← hF]; exact form_len hs
  have HF : Hid (spaced (timesL 120 C 3 ++ timesL 97 D 2) ++ Lib.itoa K = F) := by show _ = _; rw [← hF, formText_yes (small_ok hs)]
  rw [hF]
  clear hF hs bC bD
  have B_1 := (Below.refl w.heap.size w).alloc (Nat.le_refl _) (.cells #[.slice a 3 cap, .slice c 2 cap', .int .i64 K] 80)
  go_enter Tryz.func138, Tryz.ntmps138
  go_wp2_with fail
  refine (text_any _ _ _ _ _ C D _ (hC.below B_1) (hD.below B_1) BC.out BD.out (by omega) (by omega) (fun w' h' => HTB.out w' (B_1.trans (h'.mono B_1.size)))).mono ?_
  rintro e w3 ⟨rfl, b_3⟩
  rw [HF.out]
  have B_3 := B_1.trans (b_3.mono B_1.size)
  go_wp2
  go_ret
  refine ⟨?_, B_3⟩
  rw [show printW ++ 32 :: F = (printW ++ [32]) ++ F by simp, ← cat_str]
  rfl

theorem istop_text (v : Value) (w : World) (hv : v = .agg #[]) :
    Calls Tryz.prog 139 #[v] w fun e w' => e = .returned (.string ⟨stopT.toArray⟩) ∧ Below w.heap.size w w' := by
  subst hv
  have B_1 := (Below.refl w.heap.size w).alloc (Nat.le_refl _) (.cells #[] 82)
  go_enter Tryz.func139, Tryz.ntmps139
  go_wp2
  go_ret
  exact ⟨rfl, B_1⟩

set_option maxHeartbeats 6400000 in
theorem iatext_any (kind pot skip : Int) (a : Option Addr) (n cap : Nat) (c : Option Addr) (m cap' : Nat) (K : Int) (C D : List Int) (w : World) (hC : Ints w a n C) (hD : Ints w c m D) (hn : n ≤ 1048576) (hm : m ≤ 1048576) (hT : Lib.TabBelow Tryz.prog w.heap.size w "internal/strconv.uint64pow10" .u64 Lib.pow10Tab) :
    Calls Tryz.prog 11 #[lineV kind pot skip a n cap c m cap' K] w fun e w' => e = .returned (.string ⟨(actText (kind, pot, skip, C, D, K)).toArray⟩) ∧ Below w.heap.size w w' := by
  have HTB : Hid _ := hT
  clear hT
  have B_0 := (Below.refl w.heap.size w).alloc (Nat.le_refl _) (.cells #[.int .i64 kind, .int .i64 pot, .int .i64 skip, .slice a n cap, .slice c m cap', .int .i64 K] 26)
  have HC1 : Hid (C.length = n) := hC.1
  have HD1 : Hid (D.length = m) := hD.1
  cases hb : lineB kind pot skip n m C D K
  · have HT : Hid (actText (kind, pot, skip, C, D, K) = []) := actText_no (by rw [HC1.out, HD1.out]; exact hb)
    go_enter Tryz.func11, Tryz.ntmps11
    go_wp2_with fail
    refine (istep_any _ _ _ _ _ _ _ _ _ _ C D _ (hC.alloc _) (hD.alloc _) hn hm).mono ?_
    rintro e w1 ⟨rfl, b1⟩
    rw [hb]
    generalize stepV ⟨kind, pot, skip, ⟨a, n, cap, c, m, cap', K, C, D⟩⟩ = sv
    go_wp2
    go_ret
    exact ⟨by rw [HT.out]; rfl, B_0.trans (b1.mono B_0.size)⟩
  have HB : Hid _ := hb
  have HAY : Hid _ := actText_yes (k := kind) (p := pot) (z := skip) (C := C) (D := D) (K := K) (by rw [HC1.out, HD1.out]; exact hb)
  have hcs := line_cases (k := kind) (p := pot) (z := skip) (C := C) (D := D) (K := K) (by rw [HC1.out, HD1.out]; exact hb)
  clear hb
  have m1 := Tryz.textTest
  have m2 := Tryz.textAdd
  have m3 := Tryz.textPrint
  have m4 := Tryz.textStop
  rcases hcs with ⟨rfl, rfl, ⟨y1, y2⟩, hs⟩ | ⟨rfl, ⟨y1, y2⟩, rfl, hs⟩ | ⟨rfl, rfl, rfl, hs⟩ | ⟨rfl, rfl, rfl, rfl, rfl, rfl⟩
  · rw [HC1.out, HD1.out] at hs
    obtain ⟨e3, e2, -⟩ := small_bnd hs
    subst e3 e2
    have HAT : Hid (actText (1, 0, skip, C, D, K) = testW ++ 32 :: (Lib.itoa skip ++ 32 :: formText 3 2 C D K)) := by show _ = _; rw [HAY.out, if_pos rfl, textF, HC1.out, HD1.out]
    have hsv : stepV ⟨1, 0, skip, ⟨a, 3, cap, c, 2, cap', K, C, D⟩⟩ = .iface 75 (.agg #[.int .i64 skip, .slice a 3 cap, .slice c 2 cap', .int .i64 K]) := rfl
    have HSV : Hid _ := hsv
    clear hsv
    go_enter Tryz.func11, Tryz.ntmps11
    go_wp2_with fail
    refine (istep_any _ _ _ _ _ _ _ _ _ _ C D _ (hC.alloc _) (hD.alloc _) hn hm).mono ?_
    rintro e w1 ⟨rfl, b1⟩
    rw [HB.out, HSV.out]
    have B_1 := B_0.trans (b1.mono B_0.size)
    clear B_0 b1
    go_wp2_with fail
    refine (itest_text _ _ _ _ _ _ C D _ (hC.below B_1) (hD.below B_1) hs (by omega) (by omega) (fun w' h' => HTB.out w' (B_1.trans (h'.mono B_1.size)))).mono ?_
    rintro e w2 ⟨rfl, b2⟩
    have B_2 := B_1.trans (b2.mono B_1.size)
    rw [← HAT.out]
    go_wp2
    go_ret
    exact ⟨rfl, B_2⟩
  · rw [HC1.out, HD1.out] at hs
    obtain ⟨e3, e2, -⟩ := small_bnd hs
    subst e3 e2
    have HAT : Hid (actText (2, pot, 0, C, D, K) = addW ++ 32 :: (Lib.itoa pot ++ 32 :: formText 3 2 C D K)) := by show _ = _; rw [HAY.out, if_neg (by decide), if_pos rfl, textF, HC1.out, HD1.out]
    have hsv : stepV ⟨2, pot, 0, ⟨a, 3, cap, c, 2, cap', K, C, D⟩⟩ = .iface 78 (.agg #[.int .i64 pot, .slice a 3 cap, .slice c 2 cap', .int .i64 K]) := rfl
    have HSV : Hid _ := hsv
    clear hsv
    go_enter Tryz.func11, Tryz.ntmps11
    go_wp2_with fail
    refine (istep_any _ _ _ _ _ _ _ _ _ _ C D _ (hC.alloc _) (hD.alloc _) hn hm).mono ?_
    rintro e w1 ⟨rfl, b1⟩
    rw [HB.out, HSV.out]
    have B_1 := B_0.trans (b1.mono B_0.size)
    clear B_0 b1
    go_wp2_with fail
    refine (iadd_text _ _ _ _ _ _ C D _ (hC.below B_1) (hD.below B_1) hs (by omega) (by omega) (fun w' h' => HTB.out w' (B_1.trans (h'.mono B_1.size)))).mono ?_
    rintro e w2 ⟨rfl, b2⟩
    have B_2 := B_1.trans (b2.mono B_1.size)
    rw [← HAT.out]
    go_wp2
    go_ret
    exact ⟨rfl, B_2⟩
  · rw [HC1.out, HD1.out] at hs
    obtain ⟨e3, e2, -⟩ := small_bnd hs
    subst e3 e2
    have HAT : Hid (actText (3, 0, 0, C, D, K) = printW ++ 32 :: formText 3 2 C D K) := by show _ = _; rw [HAY.out, if_neg (by decide), if_neg (by decide), if_pos rfl, textF, HC1.out, HD1.out]
    have hsv : stepV ⟨3, 0, 0, ⟨a, 3, cap, c, 2, cap', K, C, D⟩⟩ = .iface 80 (.agg #[.slice a 3 cap, .slice c 2 cap', .int .i64 K]) := rfl
    have HSV : Hid _ := hsv
    clear hsv
    go_enter Tryz.func11, Tryz.ntmps11
    go_wp2_with fail
    refine (istep_any _ _ _ _ _ _ _ _ _ _ C D _ (hC.alloc _) (hD.alloc _) hn hm).mono ?_
    rintro e w1 ⟨rfl, b1⟩
    rw [HB.out, HSV.out]
    have B_1 := B_0.trans (b1.mono B_0.size)
    clear B_0 b1
    go_wp2_with fail
    refine (iprint_text _ _ _ _ _ C D _ (hC.below B_1) (hD.below B_1) hs (fun w' h' => HTB.out w' (B_1.trans (h'.mono B_1.size)))).mono ?_
    rintro e w2 ⟨rfl, b2⟩
    have B_2 := B_1.trans (b2.mono B_1.size)
    rw [← HAT.out]
    go_wp2
    go_ret
    exact ⟨rfl, B_2⟩
  · have HAT : Hid (actText (4, 0, 0, [], [], 0) = stopT) := by show _ = _; rw [HAY.out]; rfl
    have hsv : stepV ⟨4, 0, 0, ⟨a, n, cap, c, m, cap', 0, [], []⟩⟩ = .iface 82 (.agg #[]) := rfl
    have HSV : Hid _ := hsv
    clear hsv
    go_enter Tryz.func11, Tryz.ntmps11
    go_wp2_with fail
    refine (istep_any _ _ _ _ _ _ _ _ _ _ [] [] _ (hC.alloc _) (hD.alloc _) hn hm).mono ?_
    rintro e w1 ⟨rfl, b1⟩
    rw [HB.out, HSV.out]
    have B_1 := B_0.trans (b1.mono B_0.size)
    clear B_0 b1
    go_wp2_with fail
    refine (istop_text _ _ rfl).mono ?_
    rintro e w2 ⟨rfl, b2⟩
    have B_2 := B_1.trans (b2.mono B_1.size)
    rw [← HAT.out]
    go_wp2
    go_ret
    exact ⟨rfl, B_2⟩

end Go.Proofs.YtkmacleakfbobabGreatDoor

namespace Go.Proofs.YtkmacleakfbobabGreatDoor
open Go.RowKit
set_option linter.unusedVariables false
set_option maxRecDepth 100000

theorem ownAt_sets {W : World} {a : Option Addr} {B X : Nat} {zs : List Int} (h : OwnAt W a B zs) (hX : 0 < zs.length → X ≠ B) (v0 v1 v2 v3 v4 v5 : Value) :
    OwnAt ((((((W.setCell ⟨X, 0, none⟩ v0).setCell ⟨X, 1, none⟩ v1).setCell ⟨X, 2, none⟩ v2).setCell ⟨X, 3, none⟩ v3).setCell ⟨X, 4, none⟩ v4).setCell ⟨X, 5, none⟩ v5) a B zs := by
  rcases h with h | ⟨h1, h2⟩
  · exact .inl h
  · by_cases hz : zs = []
    · exact .inl hz
    · have hne : B ≠ X := fun e => hX (List.length_pos_iff.2 hz) e.symm
      exact .inr ⟨h1, (((((h2.setOther hne _ _).setOther hne _ _).setOther hne _ _).setOther hne _ _).setOther hne _ _).setOther hne _ _⟩

set_option maxHeartbeats 2000000 in
theorem iaread_any (l : List UInt8) (w : World) (hl : l.length ≤ 1048576) (hA : ReadsN w) (hSp : Splits w) (hCu : Cuts w) (hT : Lib.TabBelow Tryz.prog w.heap.size w "internal/strconv.uint64pow10" .u64 Lib.pow10Tab) :
    Calls Tryz.prog 6 #[.string ⟨l.toArray⟩] w fun e w' =>
      ∃ (k p z : Int) (C D : List Int) (K : Int) (a : Option Addr) (n cap : Nat) (c : Option Addr) (m cap' : Nat) (B1 B2 : Nat) (ok : Bool), e = .returned (.tuple #[lineV k p z a n cap c m cap' K, .bool ok]) ∧ C.length = n ∧ D.length = m ∧ (n ≤ 3 ∧ m ≤ 2) ∧ Below w.heap.size w w' ∧ OwnAt w' a B1 C ∧ OwnAt w' c B2 D ∧ (0 < n → w.heap.size ≤ B1) ∧ (0 < m → w.heap.size ≤ B2) ∧ (0 < n → 0 < m → B1 ≠ B2) ∧ raI l = ((k, p, z, C, D, K), ok) := by
  have HA : Hid _ := hA
  have HS : Hid _ := hSp
  have HC : Hid _ := hCu
  have HTB : Hid _ := hT
  clear hA hSp hCu hT
  have bx := Cel.new w [.int .i64 0, .int .i64 0, .int .i64 0, .slice none 0 0, .slice none 0 0, .int .i64 0] 26
  have B0 := (Below.refl w.heap.size w).alloc (Nat.le_refl _) (.cells #[.int .i64 0, .int .i64 0, .int .i64 0, .slice none 0 0, .slice none 0 0, .int .i64 0] 26)
  by_cases h120 : l.length ≤ 120
  case neg =>
    have hi : (120 : Int) < (l.length : Int) := by omega
    have HR : Hid (raI l = noA) := by show _ = _; rw [raI, if_neg h120]
    obtain ⟨r0, r1, r2, r3, r4, r5⟩ := bx.six
    obtain ⟨f0, f1, f2, f3, f4, f5⟩ := bx.frees
    have lt_bx := bx.lt
    go_enter Tryz.func6, Tryz.ntmps6
    go_wp2
    refine bodyPost_ret (v := .tuple #[lineV 0 0 0 none 0 0 none 0 0 0, .bool false]) (by simp [results, Tryz.results6, go_sem, r0, r1, r2, r3, r4, r5]) rfl ⟨0, 0, 0, [], [], 0, none, 0, 0, none, 0, 0, 0, 0, false, rfl, rfl, rfl, ⟨by omega, by omega⟩, ?_, .inl rfl, .inl rfl, (fun h => by omega), (fun h => by omega), (fun h => by omega), HR.out⟩
    exact B0
  have hi : ¬ (120 : Int) < (l.length : Int) := by omega
  go_enter Tryz.func6, Tryz.ntmps6
  go_wp2_with fail
  refine (iline_any l _ h120 (ReadsN.below HA.out B0) (Splits.belowA HS.out B0) (Cuts.below HC.out B0) (fun w' h' => HTB.out w' (B0.trans (h'.mono B0.size)))).mono ?_
  rintro e w1 (⟨k, p, z, C, D, K, a, n, cap, c, m, cap', B1, B2, hI, rfl, l1, l2, ⟨u1, u2⟩, b1, o1, o2, g1, g2, g12⟩ | ⟨hI, k, p, z, a, n, cap, c, m, cap', K, rfl, b1⟩)
  case inr =>
    have HR : Hid (raI l = noA) := by show _ = _; rw [raI, if_pos h120, hI]
    have A1 := b1.alloc b1.size (.cells #[.int .i64 k, .int .i64 p, .int .i64 z, .slice a n cap, .slice c m cap', .int .i64 K] 26)
    have bx1 := bx.below A1
    have BW := B0.trans (A1.mono B0.size)
    obtain ⟨r0, r1, r2, r3, r4, r5⟩ := bx1.six
    obtain ⟨f0, f1, f2, f3, f4, f5⟩ := bx1.frees
    have lt_bx1 := bx1.lt
    clear bx B0 b1 A1
    go_wp2
    refine bodyPost_ret (v := .tuple #[lineV 0 0 0 none 0 0 none 0 0 0, .bool false]) (by simp [results, Tryz.results6, go_sem, r0, r1, r2, r3, r4, r5]) rfl ⟨0, 0, 0, [], [], 0, none, 0, 0, none, 0, 0, 0, 0, false, rfl, rfl, rfl, ⟨by omega, by omega⟩, ?_, .inl rfl, .inl rfl, (fun h => by omega), (fun h => by omega), (fun h => by omega), HR.out⟩
    exact (((((BW.setCell (Nat.le_refl _) _).setCell (Nat.le_refl _) _).setCell (Nat.le_refl _) _).setCell (Nat.le_refl _) _).setCell (Nat.le_refl _) _).setCell (Nat.le_refl _) _
  have HI : Hid _ := hI
  have HL1 : Hid _ := l1
  have HL2 : Hid _ := l2
  have z1 : 0 < n → w.heap.size < B1 := fun h => by have := g1 h; rw [World.size_alloc] at this; omega
  have z2 : 0 < m → w.heap.size < B2 := fun h => by have := g2 h; rw [World.size_alloc] at this; omega
  have A1 := b1.alloc b1.size (.cells #[.int .i64 k, .int .i64 p, .int .i64 z, .slice a n cap, .slice c m cap', .int .i64 K] 26)
  have al : Below w1.heap.size w1 (w1.alloc (.cells #[.int .i64 k, .int .i64 p, .int .i64 z, .slice a n cap, .slice c m cap', .int .i64 K] 26)) := (Below.refl _ _).alloc (Nat.le_refl _) _
  have bx1 := bx.below A1
  have BW := B0.trans (A1.mono B0.size)
  have cb1 := Cel.new w1 [.int .i64 k, .int .i64 p, .int .i64 z, .slice a n cap, .slice c m cap', .int .i64 K] 26
  have o1' := o1.below al
  have o2' := o2.below al
  obtain ⟨W1, hW1⟩ : ∃ W, W = w1.alloc (.cells #[.int .i64 k, .int .i64 p, .int .i64 z, .slice a n cap, .slice c m cap', .int .i64 K] 26) := ⟨_, rfl⟩
  obtain ⟨T, hT⟩ : ∃ T, actText (k, p, z, C, D, K) = T := ⟨_, rfl⟩
  have HT : Hid _ := hT
  have hn1 : n ≤ 1048576 := by omega
  have hm1 : m ≤ 1048576 := by omega
  clear hI l1 l2 g1 g2 b1 A1 al bx B0 o1 o2 hT
  go_wp2_with fail
  rw [← hW1]
  rw [← hW1] at bx1 BW cb1 o1' o2'
  clear hW1
  refine (iatext_any _ _ _ _ _ _ _ _ _ _ C D _ (o1'.ints' HL1.out) (o2'.ints' HL2.out) hn1 hm1 (fun w' h' => HTB.out w' (BW.trans (h'.mono BW.size)))).mono ?_
  rintro e w2 ⟨rfl, b2⟩
  rw [HT.out]
  have bx2 := bx1.below b2
  have BW2 := BW.trans (b2.mono BW.size)
  have cb2 := cb1.below b2
  have o3 := o1'.below b2
  have o4 := o2'.below b2
  clear bx1 BW cb1 o1' o2' b2
  obtain ⟨r0, r1, r2, r3, r4, r5⟩ := bx2.six
  obtain ⟨f0, f1, f2, f3, f4, f5⟩ := bx2.frees
  have lt_bx2 := bx2.lt
  obtain ⟨d0, d1, d2, d3, d4, d5⟩ := cb2.six
  have lt_cb2 := cb2.lt
  by_cases he : T = l
  · have hE : (T == l) = true := by rw [he]; simp
    have hE2 : (T != l) = false := by rw [he]; simp
    have HR : Hid (raI l = ((k, p, z, C, D, K), true)) := by
      show raI l = _
      rw [raI, if_pos h120, HI.out]
      show (if actText (k, p, z, C, D, K) = l then _ else _) = _
      rw [if_pos (by rw [HT.out]; exact he)]
    clear he
    go_wp2
    refine bodyPost_ret (v := .tuple #[lineV k p z a n cap c m cap' K, .bool true]) (by simp [results, Tryz.results6, go_sem, r0, r1, r2, r3, r4, r5]) rfl ⟨k, p, z, C, D, K, a, n, cap, c, m, cap', B1, B2, true, rfl, HL1.out, HL2.out, ⟨u1, u2⟩, ?_, ownAt_sets o3 (fun h => by have := z1 (by rw [← HL1.out]; exact h); omega) _ _ _ _ _ _, ownAt_sets o4 (fun h => by have := z2 (by rw [← HL2.out]; exact h); omega) _ _ _ _ _ _, (fun h => Nat.le_of_lt (z1 h)), (fun h => Nat.le_of_lt (z2 h)), g12, HR.out⟩
    exact (((((BW2.setCell (Nat.le_refl _) _).setCell (Nat.le_refl _) _).setCell (Nat.le_refl _) _).setCell (Nat.le_refl _) _).setCell (Nat.le_refl _) _).setCell (Nat.le_refl _) _
  · have hE : (T == l) = false := by simpa using he
    have hE2 : (T != l) = true := by simpa using he
    have HR : Hid (raI l = noA) := by
      show raI l = _
      rw [raI, if_pos h120, HI.out]
      show (if actText (k, p, z, C, D, K) = l then _ else _) = _
      rw [if_neg (by rw [HT.out]; exact he)]
    clear he
    go_wp2
    refine bodyPost_ret (v := .tuple #[lineV 0 0 0 none 0 0 none 0 0 0, .bool false]) (by simp [results, Tryz.results6, go_sem, r0, r1, r2, r3, r4, r5]) rfl ⟨0, 0, 0, [], [], 0, none, 0, 0, none, 0, 0, 0, 0, false, rfl, rfl, rfl, ⟨by omega, by omega⟩, ?_, .inl rfl, .inl rfl, (fun h => by omega), (fun h => by omega), (fun h => by omega), HR.out⟩
    exact (((((BW2.setCell (Nat.le_refl _) _).setCell (Nat.le_refl _) _).setCell (Nat.le_refl _) _).setCell (Nat.le_refl _) _).setCell (Nat.le_refl _) _).setCell (Nat.le_refl _) _

end Go.Proofs.YtkmacleakfbobabGreatDoor
