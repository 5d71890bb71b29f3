/-
  What the text of a line is, and that the specification writes it. Lengths at most 1048576.
-/
import Derived.Test.YtkmacleakfbobabGreatDoorAcP
import Derived.Test.YtkmacleakfbobabGreatDoorLine
import Derived.Test.YtkmacleakfbobabGreatDoorFTxtI
import Derived.Test.YtkmacleakfbobabGreatDoorKeyed
import Derived.Deep.DeepCutAuto
namespace Go.Proofs.YtkmacleakfbobabGreatDoor
open Go.RowKit
set_option linter.unusedVariables false
set_option maxRecDepth 100000

theorem small_bnd {n m : Nat} {C D : List Int} {K : Int} (h : smallB n m C D K = true) : n = 3 ∧ m = 2 ∧ (∀ i : Nat, -10000000 ≤ C[i]?.getD 0 ∧ C[i]?.getD 0 ≤ 10000000) ∧ (∀ i : Nat, -10000000 ≤ D[i]?.getD 0 ∧ D[i]?.getD 0 ≤ 10000000) ∧ (-20 ≤ K ∧ K ≤ 20) := by
  unfold smallB okN at h
  simp only [Bool.and_eq_true, decide_eq_true_eq, inB_iff] at h
  obtain ⟨⟨⟨h1, h2⟩, h3, h4⟩, h5⟩ := h
  exact ⟨by omega, by omega, fun i => by have := allB_bnd' (by omega) h2 i; omega, fun i => by have := allB_bnd' (by omega) h4 i; omega, h5⟩
theorem form_len {n m : Nat} {C D : List Int} {K : Int} (h : smallB n m C D K = true) : (formText n m C D K).length ≤ 400 := by
  obtain ⟨h1, h2, h3, h4, h5⟩ := small_bnd h
  rw [formText_yes (small_ok h)]
  have a1 := times_bytes (x := 120) h3 3 (by omega)
  have a2 := times_bytes (x := 97) h4 2 (by omega)
  have a3 := Lib.itoa_length_le K (by omega) (by omega)
  have e : spaced (timesL 120 C 3 ++ timesL 97 D 2) = spaced (timesL 120 C 3) ++ spaced (timesL 97 D 2) := by
    unfold spaced
    rw [List.map_append, List.flatten_append]
  rw [e, List.length_append, List.length_append]
  omega
theorem actText_no {k p z : Int} {C D : List Int} {K : Int} (h : lineB k p z C.length D.length C D K = false) : actText (k, p, z, C, D, K) = [] := by
  rw [actText]
  simp only [h]
  rfl
theorem actText_yes {k p z : Int} {C D : List Int} {K : Int} (h : lineB k p z C.length D.length C D K = true) : actText (k, p, z, C, D, K) = if k = 1 then testW ++ 32 :: (Lib.itoa z ++ 32 :: textF (C, D, K)) else if k = 2 then addW ++ 32 :: (Lib.itoa p ++ 32 :: textF (C, D, K)) else if k = 3 then printW ++ 32 :: textF (C, D, K) else stopT := by
  rw [actText]
  simp only [h, if_true]
/-- Where a form's cells lie in a line. -/
theorem Cel.tri {w : World} {B : Nat} {x0 x1 x2 x3 x4 x5 : Value} {t : TypeId} (h : Cel w B [x0, x1, x2, x3, x4, x5] t) : w.cell? ⟨B, 3, none⟩ = some x3 ∧ w.cell? ⟨B, 4, none⟩ = some x4 ∧ w.cell? ⟨B, 5, none⟩ = some x5 := ⟨h.cell 3, h.cell 4, h.cell 5⟩

set_option maxHeartbeats 6400000 in
theorem satext_any (kind pot skip : Int) (a : Option Addr) (n cap : Nat) (c : Option Addr) (m cap' : Nat) (K : Int) (C D : List Int) (w : World) (hC : Ints w a n C) (hD : Ints w c m D) (hn : n ≤ 1048576) (hm : m ≤ 1048576) :
    Calls Tryz.prog 13 #[lineV kind pot skip a n cap c m cap' K] w fun e w' => e = .returned (.string ⟨(actText (kind, pot, skip, C, D, K)).toArray⟩) ∧ Below w.heap.size w w' := by
  have q_0 := Cel.new w [.int .i64 kind, .int .i64 pot, .int .i64 skip, .slice a n cap, .slice c m cap', .int .i64 K] 26
  have B_0 := (Below.refl w.heap.size w).alloc (Nat.le_refl _) (.cells #[.int .i64 kind, .int .i64 pot, .int .i64 skip, .slice a n cap, .slice c m cap', .int .i64 K] 26)
  have HC1 : Hid (C.length = n) := hC.1
  have HD1 : Hid (D.length = m) := hD.1
  cases hb : lineB kind pot skip n m C D K
  · have HT : Hid (actText (kind, pot, skip, C, D, K) = []) := actText_no (by rw [HC1.out, HD1.out]; exact hb)
    go_enter Tryz.func13, Tryz.ntmps13
    go_wp2_with fail
    refine (sline_any _ _ _ _ _ _ _ _ _ _ C D _ (hC.alloc _) (hD.alloc _) hn hm).mono ?_
    rintro e w1 ⟨rfl, b1⟩
    rw [hb]
    go_wp2
    go_ret
    exact ⟨by rw [HT.out]; rfl, B_0.trans (b1.mono B_0.size)⟩
  have HB : Hid _ := hb
  have HAY : Hid _ := actText_yes (k := kind) (p := pot) (z := skip) (C := C) (D := D) (K := K) (by rw [HC1.out, HD1.out]; exact hb)
  have hcs := line_cases (k := kind) (p := pot) (z := skip) (C := C) (D := D) (K := K) (by rw [HC1.out, HD1.out]; exact hb)
  clear hb
  rcases hcs with ⟨rfl, rfl, ⟨y1, y2⟩, hs⟩ | ⟨rfl, ⟨y1, y2⟩, rfl, hs⟩ | ⟨rfl, rfl, rfl, hs⟩ | ⟨rfl, rfl, rfl, rfl, rfl, rfl⟩
  · rw [HC1.out, HD1.out] at hs
    obtain ⟨F, hF⟩ : ∃ F, F = formText n m C D K := ⟨_, rfl⟩
    have hFl : F.length ≤ 400 := by rw [hF]; exact form_len hs
    have HAT : Hid (actText (1, 0, skip, C, D, K) = testW ++ 32 :: (Lib.itoa skip ++ 32 :: F)) := by show _ = _; rw [HAY.out, if_pos rfl, textF, HC1.out, HD1.out, hF]
    have HF : Hid _ := hF
    clear hF hs HAY
    have l1 := Lib.itoa_length_le skip (by omega) (by omega)
    obtain ⟨T1, e1⟩ : ∃ T : ByteArray, T = ⟨(Lib.itoa skip).toArray⟩ := ⟨_, rfl⟩
    have s1 : T1.size ≤ 21 := by rw [e1]; simpa [ByteArray.size] using l1
    have E1 : Hid _ := e1
    clear l1 e1
    obtain ⟨T2, e2⟩ : ∃ T : ByteArray, T = ⟨F.toArray⟩ := ⟨_, rfl⟩
    have s2 : T2.size ≤ 400 := by rw [e2]; simpa [ByteArray.size] using hFl
    have E2 : Hid _ := e2
    clear e2
    obtain ⟨R1, hR1⟩ : ∃ R : ByteArray, R = (⟨#[116, 101, 115, 116, 32]⟩ : ByteArray) ++ (T1 : ByteArray) := ⟨_, rfl⟩
    have z1 : R1.size ≤ 50 := by rw [hR1, ByteArray.size_append]; first | omega | (have := (show (⟨#[116, 101, 115, 116, 32]⟩ : ByteArray).size ≤ 5 by decide); omega)
    have A1 : ∀ X : World, (Op.stringOp .add (⟨#[116, 101, 115, 116, 32]⟩ : ByteArray) (T1 : ByteArray)).run Tryz.prog X = .ok (.string R1) X := fun X => by rw [hR1]; exact run_string_add_sum X _ _ (by rw [← ByteArray.size_append, ← hR1]; omega)
    have HR1 : Hid _ := hR1
    clear hR1
    obtain ⟨R2, hR2⟩ : ∃ R : ByteArray, R = (R1 : ByteArray) ++ (⟨#[32]⟩ : ByteArray) := ⟨_, rfl⟩
    have z2 : R2.size ≤ 60 := by rw [hR2, ByteArray.size_append]; first | omega | (have := (show (⟨#[32]⟩ : ByteArray).size ≤ 5 by decide); omega)
    have A2 : ∀ X : World, (Op.stringOp .add (R1 : ByteArray) (⟨#[32]⟩ : ByteArray)).run Tryz.prog X = .ok (.string R2) X := fun X => by rw [hR2]; exact run_string_add_sum X _ _ (by rw [← ByteArray.size_append, ← hR2]; omega)
    have HR2 : Hid _ := hR2
    clear hR2
    obtain ⟨R3, hR3⟩ : ∃ R : ByteArray, R = (R2 : ByteArray) ++ (T2 : ByteArray) := ⟨_, rfl⟩
    have z3 : R3.size ≤ 470 := by rw [hR3, ByteArray.size_append]; first | omega | (have := (show (T2 : ByteArray).size ≤ 5 by decide); omega)
    have A3 : ∀ X : World, (Op.stringOp .add (R2 : ByteArray) (T2 : ByteArray)).run Tryz.prog X = .ok (.string R3) X := fun X => by rw [hR3]; exact run_string_add_sum X _ _ (by rw [← ByteArray.size_append, ← hR3]; omega)
    have HR3 : Hid _ := hR3
    clear hR3
    go_enter Tryz.func13, Tryz.ntmps13
    go_wp2_with fail
    refine (sline_any _ _ _ _ _ _ _ _ _ _ C D _ (hC.alloc _) (hD.alloc _) hn hm).mono ?_
    rintro e W ⟨rfl, b1⟩
    rw [HB.out]
    have B_1 := B_0.trans (b1.mono B_0.size)
    have q_1 := q_0.below b1
    have CC : Hid (∀ X : World, Cel X w.heap.size [.int .i64 1, .int .i64 0, .int .i64 skip, .slice a n cap, .slice c m cap', .int .i64 K] 26 → X.cell? ⟨w.heap.size, 2, none⟩ = some (.int .i64 skip) ∧ X.cell? ⟨w.heap.size, 3, none⟩ = some (.slice a n cap) ∧ X.cell? ⟨w.heap.size, 4, none⟩ = some (.slice c m cap') ∧ X.cell? ⟨w.heap.size, 5, none⟩ = some (.int .i64 K)) := fun X h => ⟨h.cell 2, h.cell 3, h.cell 4, h.cell 5⟩
    obtain ⟨k0, k1, k2, k3, k4, k5⟩ := q_1.six
    clear q_0 B_0 b1
    go_upto_region 5 with fail
    clear k0 k1 k2 k3 k4 k5
    have hS0 : (W.drew.cell? ⟨w.heap.size, 2, none⟩ = some (.int .i64 skip) ∧ W.drew.cell? ⟨w.heap.size, 3, none⟩ = some (.slice a n cap) ∧ W.drew.cell? ⟨w.heap.size, 4, none⟩ = some (.slice c m cap') ∧ W.drew.cell? ⟨w.heap.size, 5, none⟩ = some (.int .i64 K)) ∧ True := ⟨CC.out _ q_1, trivial⟩
    refine wp_region_ends (fun X => X.cell? ⟨w.heap.size, 2, none⟩ = some (.int .i64 skip) ∧ X.cell? ⟨w.heap.size, 3, none⟩ = some (.slice a n cap) ∧ X.cell? ⟨w.heap.size, 4, none⟩ = some (.slice c m cap') ∧ X.cell? ⟨w.heap.size, 5, none⟩ = some (.int .i64 K)) (fun _ => True) 9 (by kernel_rfl) ?_
    refine wpAnyE_take0 (i := 0) (v := ?u0v0) rfl (by kernel_rfl) (by kernel_rfl) (by kernel_rfl) (by decide) (fun _ _ _ h => h) (Or.inl ⟨by rfl, ?u0hy0⟩) hS0 ?_
    case u0hy0 => (intro wz hSw; (try dsimp only at hSw); go_simp; try (with_reducible rfl))
    refine wpAnyE_take0 (i := 1) (v := ?u0v1) rfl (by kernel_rfl) (by kernel_rfl) (by kernel_rfl) (by decide) (fun _ _ _ h => h) (Or.inl ⟨by rfl, ?u0hy1⟩) hS0 ?_
    case u0hy1 => (intro wz hSw; (try dsimp only at hSw); go_simp; try (with_reducible rfl))
    refine wpAnyE_take0 (i := 5) (v := ?u0v5) rfl (by kernel_rfl) (by kernel_rfl) (by kernel_rfl) (by decide) (fun _ _ _ h => h) (Or.inl ⟨by rfl, ?u0hy5⟩) hS0 ?_
    case u0hy5 => (intro wz hSw; (try dsimp only at hSw); go_simp; try (with_reducible rfl))
    refine wpAnyE_take0 (i := 6) (v := ?u0v6) rfl (by kernel_rfl) (by kernel_rfl) (by kernel_rfl) (by decide) (fun _ _ _ h => h) (Or.inl ⟨by rfl, ?u0hy6⟩) hS0 ?_
    case u0hy6 => (intro wz hSw; (try dsimp only at hSw); go_simp; try (with_reducible rfl))
    refine wpAnyE_one (i := 2) (by kernel_rfl) rfl (fun Kn hK => ?_)
    go_simp
    refine (digits_any skip _ (by omega) (by omega)).mono ?_
    rintro ee w2 ⟨rfl, bd_2⟩
    rw [← E1.out]
    have b_2 := below_of_drew bd_2
    have B_2 := B_1.trans (b_2.mono B_1.size)
    have q_2 := q_1.below b_2
    have hS2 : (w2.cell? ⟨w.heap.size, 2, none⟩ = some (.int .i64 skip) ∧ w2.cell? ⟨w.heap.size, 3, none⟩ = some (.slice a n cap) ∧ w2.cell? ⟨w.heap.size, 4, none⟩ = some (.slice c m cap') ∧ w2.cell? ⟨w.heap.size, 5, none⟩ = some (.int .i64 K)) ∧ True := ⟨CC.out _ q_2, trivial⟩
    dsimp only
    refine hK.out _ _ ⟨hS2.1, fun _ => trivial⟩ ?_
    clear hK hS0
    refine wpAnyE_take0 (i := 3) (v := .string R1) rfl (by kernel_rfl) (by kernel_rfl) (by kernel_rfl) (by decide) (fun _ _ _ h => h) (Or.inl ⟨by rfl, ?u0hy3⟩) hS2 ?_
    case u0hy3 => (intro wz hSw; (try dsimp only at hSw); first | (go_simp; try (with_reducible rfl); done) | (simp only [go_sem, A1]; done) | (go_simp; exact A1 _) | (simp [go_sem, A1]; done) | skip)
    refine wpAnyE_take0 (i := 4) (v := .string R2) rfl (by kernel_rfl) (by kernel_rfl) (by kernel_rfl) (by decide) (fun _ _ _ h => h) (Or.inl ⟨by rfl, ?u0hy4⟩) hS2 ?_
    case u0hy4 => (intro wz hSw; (try dsimp only at hSw); first | (go_simp; try (with_reducible rfl); done) | (simp only [go_sem, A2]; done) | (go_simp; exact A2 _) | (simp [go_sem, A2]; done) | skip)
    refine wpAnyE_one (i := 7) (by kernel_rfl) rfl (fun Kn hK => ?_)
    go_simp
    refine (sftext_any _ _ _ _ _ _ _ C D _ (hC.below B_2) (hD.below B_2) hn hm).mono ?_
    rintro ee w3 ⟨rfl, b_3⟩
    rw [← HF.out, ← E2.out]
    have B_3 := B_2.trans (b_3.mono B_2.size)
    have q_3 := q_2.below b_3
    have hS3 : (w3.cell? ⟨w.heap.size, 2, none⟩ = some (.int .i64 skip) ∧ w3.cell? ⟨w.heap.size, 3, none⟩ = some (.slice a n cap) ∧ w3.cell? ⟨w.heap.size, 4, none⟩ = some (.slice c m cap') ∧ w3.cell? ⟨w.heap.size, 5, none⟩ = some (.int .i64 K)) ∧ True := ⟨CC.out _ q_3, trivial⟩
    dsimp only
    refine hK.out _ _ ⟨hS3.1, fun _ => trivial⟩ ?_
    clear hK hS2
    refine wpAnyE_take0 (i := 8) (v := .string R3) rfl (by kernel_rfl) (by kernel_rfl) (by kernel_rfl) (by decide) (fun _ _ _ h => h) (Or.inl ⟨by rfl, ?u0hy8⟩) hS3 ?_
    case u0hy8 => (intro wz hSw; (try dsimp only at hSw); first | (go_simp; try (with_reducible rfl); done) | (simp only [go_sem, A3]; done) | (go_simp; exact A3 _) | (simp [go_sem, A3]; done) | skip)
    refine wpAnyE_one (i := 9) (by kernel_rfl) rfl (fun Kn hK => ?_)
    go_simp
    refine hK.out _ _ ⟨hS3.1, fun _ => trivial⟩ ?_
    clear hK
    refine wpAnyE_done (by kernel_rfl) ?_ _
    clear hS3
    go_wp2
    go_ret
    refine ⟨?_, B_3⟩
    rw [HAT.out]
    have : R3 = ⟨(testW ++ 32 :: (Lib.itoa skip ++ 32 :: F)).toArray⟩ := by
      rw [HR3.out, HR2.out, HR1.out, E1.out, E2.out, show (⟨#[116, 101, 115, 116, 32]⟩ : ByteArray) = ⟨(testW ++ [32]).toArray⟩ from rfl, show (⟨#[32]⟩ : ByteArray) = ⟨[32].toArray⟩ from rfl]
      simp [cat_str, List.append_assoc]
    rw [← this]
    rfl
  · rw [HC1.out, HD1.out] at hs
    obtain ⟨F, hF⟩ : ∃ F, F = formText n m C D K := ⟨_, rfl⟩
    have hFl : F.length ≤ 400 := by rw [hF]; exact form_len hs
    have HAT : Hid (actText (2, pot, 0, C, D, K) = addW ++ 32 :: (Lib.itoa pot ++ 32 :: F)) := by show _ = _; rw [HAY.out, if_neg (by decide), if_pos rfl, textF, HC1.out, HD1.out, hF]
    have HF : Hid _ := hF
    clear hF hs HAY
    have l1 := Lib.itoa_length_le pot (by omega) (by omega)
    obtain ⟨T1, e1⟩ : ∃ T : ByteArray, T = ⟨(Lib.itoa pot).toArray⟩ := ⟨_, rfl⟩
    have s1 : T1.size ≤ 21 := by rw [e1]; simpa [ByteArray.size] using l1
    have E1 : Hid _ := e1
    clear l1 e1
    obtain ⟨T2, e2⟩ : ∃ T : ByteArray, T = ⟨F.toArray⟩ := ⟨_, rfl⟩
    have s2 : T2.size ≤ 400 := by rw [e2]; simpa [ByteArray.size] using hFl
    have E2 : Hid _ := e2
    clear e2
    obtain ⟨R1, hR1⟩ : ∃ R : ByteArray, R = (⟨#[97, 100, 100, 32]⟩ : ByteArray) ++ (T1 : ByteArray) := ⟨_, rfl⟩
    have z1 : R1.size ≤ 50 := by rw [hR1, ByteArray.size_append]; first | omega | (have := (show (⟨#[97, 100, 100, 32]⟩ : ByteArray).size ≤ 5 by decide); omega)
    have A1 : ∀ X : World, (Op.stringOp .add (⟨#[97, 100, 100, 32]⟩ : ByteArray) (T1 : ByteArray)).run Tryz.prog X = .ok (.string R1) X := fun X => by rw [hR1]; exact run_string_add_sum X _ _ (by rw [← ByteArray.size_append, ← hR1]; omega)
    have HR1 : Hid _ := hR1
    clear hR1
    obtain ⟨R2, hR2⟩ : ∃ R : ByteArray, R = (R1 : ByteArray) ++ (⟨#[32]⟩ : ByteArray) := ⟨_, rfl⟩
    have z2 : R2.size ≤ 60 := by rw [hR2, ByteArray.size_append]; first | omega | (have := (show (⟨#[32]⟩ : ByteArray).size ≤ 5 by decide); omega)
    have A2 : ∀ X : World, (Op.stringOp .add (R1 : ByteArray) (⟨#[32]⟩ : ByteArray)).run Tryz.prog X = .ok (.string R2) X := fun X => by rw [hR2]; exact run_string_add_sum X _ _ (by rw [← ByteArray.size_append, ← hR2]; omega)
    have HR2 : Hid _ := hR2
    clear hR2
    obtain ⟨R3, hR3⟩ : ∃ R : ByteArray, R = (R2 : ByteArray) ++ (T2 : ByteArray) := ⟨_, rfl⟩
    have z3 : R3.size ≤ 470 := by rw [hR3, ByteArray.size_append]; first | omega | (have := (show (T2 : ByteArray).size ≤ 5 by decide); omega)
    have A3 : ∀ X : World, (Op.stringOp .add (R2 : ByteArray) (T2 : ByteArray)).run Tryz.prog X = .ok (.string R3) X := fun X => by rw [hR3]; exact run_string_add_sum X _ _ (by rw [← ByteArray.size_append, ← hR3]; omega)
    have HR3 : Hid _ := hR3
    clear hR3
    go_enter Tryz.func13, Tryz.ntmps13
    go_wp2_with fail
    refine (sline_any _ _ _ _ _ _ _ _ _ _ C D _ (hC.alloc _) (hD.alloc _) hn hm).mono ?_
    rintro e W ⟨rfl, b1⟩
    rw [HB.out]
    have B_1 := B_0.trans (b1.mono B_0.size)
    have q_1 := q_0.below b1
    have CC : Hid (∀ X : World, Cel X w.heap.size [.int .i64 2, .int .i64 pot, .int .i64 0, .slice a n cap, .slice c m cap', .int .i64 K] 26 → X.cell? ⟨w.heap.size, 1, none⟩ = some (.int .i64 pot) ∧ X.cell? ⟨w.heap.size, 3, none⟩ = some (.slice a n cap) ∧ X.cell? ⟨w.heap.size, 4, none⟩ = some (.slice c m cap') ∧ X.cell? ⟨w.heap.size, 5, none⟩ = some (.int .i64 K)) := fun X h => ⟨h.cell 1, h.cell 3, h.cell 4, h.cell 5⟩
    obtain ⟨k0, k1, k2, k3, k4, k5⟩ := q_1.six
    clear q_0 B_0 b1
    go_upto_region 7 with fail
    clear k0 k1 k2 k3 k4 k5
    have hS0 : (W.drew.cell? ⟨w.heap.size, 1, none⟩ = some (.int .i64 pot) ∧ W.drew.cell? ⟨w.heap.size, 3, none⟩ = some (.slice a n cap) ∧ W.drew.cell? ⟨w.heap.size, 4, none⟩ = some (.slice c m cap') ∧ W.drew.cell? ⟨w.heap.size, 5, none⟩ = some (.int .i64 K)) ∧ True := ⟨CC.out _ q_1, trivial⟩
    refine wp_region_ends (fun X => X.cell? ⟨w.heap.size, 1, none⟩ = some (.int .i64 pot) ∧ X.cell? ⟨w.heap.size, 3, none⟩ = some (.slice a n cap) ∧ X.cell? ⟨w.heap.size, 4, none⟩ = some (.slice c m cap') ∧ X.cell? ⟨w.heap.size, 5, none⟩ = some (.int .i64 K)) (fun _ => True) 9 (by kernel_rfl) ?_
    refine wpAnyE_take0 (i := 0) (v := ?u1v0) rfl (by kernel_rfl) (by kernel_rfl) (by kernel_rfl) (by decide) (fun _ _ _ h => h) (Or.inl ⟨by rfl, ?u1hy0⟩) hS0 ?_
    case u1hy0 => (intro wz hSw; (try dsimp only at hSw); go_simp; try (with_reducible rfl))
    refine wpAnyE_take0 (i := 1) (v := ?u1v1) rfl (by kernel_rfl) (by kernel_rfl) (by kernel_rfl) (by decide) (fun _ _ _ h => h) (Or.inl ⟨by rfl, ?u1hy1⟩) hS0 ?_
    case u1hy1 => (intro wz hSw; (try dsimp only at hSw); go_simp; try (with_reducible rfl))
    refine wpAnyE_take0 (i := 5) (v := ?u1v5) rfl (by kernel_rfl) (by kernel_rfl) (by kernel_rfl) (by decide) (fun _ _ _ h => h) (Or.inl ⟨by rfl, ?u1hy5⟩) hS0 ?_
    case u1hy5 => (intro wz hSw; (try dsimp only at hSw); go_simp; try (with_reducible rfl))
    refine wpAnyE_take0 (i := 6) (v := ?u1v6) rfl (by kernel_rfl) (by kernel_rfl) (by kernel_rfl) (by decide) (fun _ _ _ h => h) (Or.inl ⟨by rfl, ?u1hy6⟩) hS0 ?_
    case u1hy6 => (intro wz hSw; (try dsimp only at hSw); go_simp; try (with_reducible rfl))
    refine wpAnyE_one (i := 2) (by kernel_rfl) rfl (fun Kn hK => ?_)
    go_simp
    refine (digits_any pot _ (by omega) (by omega)).mono ?_
    rintro ee w2 ⟨rfl, bd_2⟩
    rw [← E1.out]
    have b_2 := below_of_drew bd_2
    have B_2 := B_1.trans (b_2.mono B_1.size)
    have q_2 := q_1.below b_2
    have hS2 : (w2.cell? ⟨w.heap.size, 1, none⟩ = some (.int .i64 pot) ∧ w2.cell? ⟨w.heap.size, 3, none⟩ = some (.slice a n cap) ∧ w2.cell? ⟨w.heap.size, 4, none⟩ = some (.slice c m cap') ∧ w2.cell? ⟨w.heap.size, 5, none⟩ = some (.int .i64 K)) ∧ True := ⟨CC.out _ q_2, trivial⟩
    dsimp only
    refine hK.out _ _ ⟨hS2.1, fun _ => trivial⟩ ?_
    clear hK hS0
    refine wpAnyE_take0 (i := 3) (v := .string R1) rfl (by kernel_rfl) (by kernel_rfl) (by kernel_rfl) (by decide) (fun _ _ _ h => h) (Or.inl ⟨by rfl, ?u1hy3⟩) hS2 ?_
    case u1hy3 => (intro wz hSw; (try dsimp only at hSw); first | (go_simp; try (with_reducible rfl); done) | (simp only [go_sem, A1]; done) | (go_simp; exact A1 _) | (simp [go_sem, A1]; done) | skip)
    refine wpAnyE_take0 (i := 4) (v := .string R2) rfl (by kernel_rfl) (by kernel_rfl) (by kernel_rfl) (by decide) (fun _ _ _ h => h) (Or.inl ⟨by rfl, ?u1hy4⟩) hS2 ?_
    case u1hy4 => (intro wz hSw; (try dsimp only at hSw); first | (go_simp; try (with_reducible rfl); done) | (simp only [go_sem, A2]; done) | (go_simp; exact A2 _) | (simp [go_sem, A2]; done) | skip)
    refine wpAnyE_one (i := 7) (by kernel_rfl) rfl (fun Kn hK => ?_)
    go_simp
    refine (sftext_any _ _ _ _ _ _ _ C D _ (hC.below B_2) (hD.below B_2) hn hm).mono ?_
    rintro ee w3 ⟨rfl, b_3⟩
    rw [← HF.out, ← E2.out]
    have B_3 := B_2.trans (b_3.mono B_2.size)
    have q_3 := q_2.below b_3
    have hS3 : (w3.cell? ⟨w.heap.size, 1, none⟩ = some (.int .i64 pot) ∧ w3.cell? ⟨w.heap.size, 3, none⟩ = some (.slice a n cap) ∧ w3.cell? ⟨w.heap.size, 4, none⟩ = some (.slice c m cap') ∧ w3.cell? ⟨w.heap.size, 5, none⟩ = some (.int .i64 K)) ∧ True := ⟨CC.out _ q_3, trivial⟩
    dsimp only
    refine hK.out _ _ ⟨hS3.1, fun _ => trivial⟩ ?_
    clear hK hS2
    refine wpAnyE_take0 (i := 8) (v := .string R3) rfl (by kernel_rfl) (by kernel_rfl) (by kernel_rfl) (by decide) (fun _ _ _ h => h) (Or.inl ⟨by rfl, ?u1hy8⟩) hS3 ?_
    case u1hy8 => (intro wz hSw; (try dsimp only at hSw); first | (go_simp; try (with_reducible rfl); done) | (simp only [go_sem, A3]; done) | (go_simp; exact A3 _) | (simp [go_sem, A3]; done) | skip)
    refine wpAnyE_one (i := 9) (by kernel_rfl) rfl (fun Kn hK => ?_)
    go_simp
    refine hK.out _ _ ⟨hS3.1, fun _ => trivial⟩ ?_
    clear hK
    refine wpAnyE_done (by kernel_rfl) ?_ _
    clear hS3
    go_wp2
    go_ret
    refine ⟨?_, B_3⟩
    rw [HAT.out]
    have : R3 = ⟨(addW ++ 32 :: (Lib.itoa pot ++ 32 :: F)).toArray⟩ := by
      rw [HR3.out, HR2.out, HR1.out, E1.out, E2.out, show (⟨#[97, 100, 100, 32]⟩ : ByteArray) = ⟨(addW ++ [32]).toArray⟩ from rfl, show (⟨#[32]⟩ : ByteArray) = ⟨[32].toArray⟩ from rfl]
      simp [cat_str, List.append_assoc]
    rw [← this]
    rfl
  · rw [HC1.out, HD1.out] at hs
    obtain ⟨F, hF⟩ : ∃ F, formText n m C D K = F := ⟨_, rfl⟩
    have hFl : F.length ≤ 400 := by rw [← hF]; exact form_len hs
    have HAT : Hid (actText (3, 0, 0, C, D, K) = printW ++ 32 :: F) := by show _ = _; rw [HAY.out, if_neg (by decide), if_neg (by decide), if_pos rfl, textF, HC1.out, HD1.out, hF]
    have HF : Hid _ := hF
    clear hF hs HAY
    go_enter Tryz.func13, Tryz.ntmps13
    go_wp2_with fail
    refine (sline_any _ _ _ _ _ _ _ _ _ _ C D _ (hC.alloc _) (hD.alloc _) hn hm).mono ?_
    rintro e W ⟨rfl, b1⟩
    rw [HB.out]
    have B_1 := B_0.trans (b1.mono B_0.size)
    have q_1 := q_0.below b1
    obtain ⟨k0, k1, k2, k3, k4, k5⟩ := q_1.six
    clear q_0 B_0 b1
    go_wp2_with fail
    refine (sftext_any _ _ _ _ _ _ _ C D _ (hC.below B_1) (hD.below B_1) hn hm).mono ?_
    rintro e w3 ⟨rfl, b_3⟩
    rw [HF.out]
    have B_3 := B_1.trans (b_3.mono B_1.size)
    clear k0 k1 k2 k3 k4 k5 q_1 B_1 b_3
    go_wp2
    go_ret
    refine ⟨?_, B_3⟩
    rw [HAT.out, show printW ++ 32 :: F = (printW ++ [32]) ++ F by simp, ← cat_str]
    rfl
  · have HAT : Hid (actText (4, 0, 0, [], [], 0) = stopT) := by show _ = _; rw [HAY.out]; rfl
    go_enter Tryz.func13, Tryz.ntmps13
    go_wp2_with fail
    refine (sline_any _ _ _ _ _ _ _ _ _ _ [] [] _ (hC.alloc _) (hD.alloc _) hn hm).mono ?_
    rintro e W ⟨rfl, b1⟩
    rw [HB.out]
    have B_1 := B_0.trans (b1.mono B_0.size)
    have q_1 := q_0.below b1
    obtain ⟨k0, k1, k2, k3, k4, k5⟩ := q_1.six
    go_wp2
    go_ret
    exact ⟨by rw [HAT.out]; rfl, B_1⟩

end Go.Proofs.YtkmacleakfbobabGreatDoor
