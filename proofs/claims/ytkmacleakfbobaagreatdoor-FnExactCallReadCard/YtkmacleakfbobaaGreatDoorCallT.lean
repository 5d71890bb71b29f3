/-
  What the text of a call is, and that the specification writes it. Lengths at most 1048576.
-/
import Derived.Test.YtkmacleakfbobaaGreatDoorCallP
import Derived.Test.YtkmacleakfbobaaGreatDoorTxt
import Derived.Test.YtkmacleakfbobaaGreatDoorKeyed
import Derived.Deep.DeepCutAuto
namespace Go.Proofs.YtkmacleakfbobaaGreatDoor
open Go.RowKit Go.Deep
set_option linter.unusedVariables false
set_option maxRecDepth 100000

def callOkB (cl sq ac : Int) (n : Nat) (zs : List Int) : Bool := inB cl 0 3 && (inB sq 1 300 && (inB ac 0 3 && okN 2 9 n zs))
def wClient : List UInt8 := [99, 108, 105, 101, 110, 116]
def wCall : List UInt8 := [99, 97, 108, 108]
def wAct : List UInt8 := [97, 99, 116]
def wWith : List UInt8 := [119, 105, 116, 104]
def callL (cl sq ac : Int) (zs : List Int) : List UInt8 := wClient ++ ([32] ++ (Lib.itoa cl ++ ([32] ++ (wCall ++ ([32] ++ (Lib.itoa sq ++ ([32] ++ (wAct ++ ([32] ++ (Lib.itoa ac ++ ([32] ++ (wWith ++ tailL zs))))))))))))
def callText (cl sq ac : Int) (n : Nat) (zs : List Int) : List UInt8 := if callOkB cl sq ac n zs = true then callL cl sq ac zs else []
theorem callText_no {cl sq ac : Int} {n : Nat} {zs : List Int} (h : callOkB cl sq ac n zs = false) : callText cl sq ac n zs = [] := by rw [callText, h]; rfl
theorem callText_yes {cl sq ac : Int} {n : Nat} {zs : List Int} (h : callOkB cl sq ac n zs = true) : callText cl sq ac n zs = callL cl sq ac zs := by rw [callText, if_pos h]
theorem two_of {zs : List Int} (h : zs.length = 2) : zs = [zs[0]?.getD 0, zs[1]?.getD 0] := by
  match zs, h with
  | [x, y], _ => rfl
theorem tail_two (x y : Int) : tailL [x, y] = [32] ++ (Lib.itoa x ++ ([32] ++ Lib.itoa y)) := by
  simp [tailL, Lib.joinTail]

set_option maxHeartbeats 3200000 in
theorem sctext_any (cl sq ac : Int) (a : Option Addr) (n cap : Nat) (zs : List Int) (w : World) (hC : Ints w a n zs) (hn : n ≤ 1048576) :
    Calls Tryz.prog 12 #[clV cl sq ac a n cap] w fun e w' => e = .returned (.string ⟨(callText cl sq ac n zs).toArray⟩) ∧ Below w.heap.size w w' := by
  have q_0 := Cel.new w [.int .i64 cl, .int .i64 sq, .int .i64 ac, .slice a n cap] 24
  have B_0 := (Below.refl w.heap.size w).alloc (Nat.le_refl _) (.cells #[.int .i64 cl, .int .i64 sq, .int .i64 ac, .slice a n cap] 24)
  obtain ⟨x1, hx1⟩ : ∃ x, x = inB cl 0 3 := ⟨_, rfl⟩
  obtain ⟨x2, hx2⟩ : ∃ x, x = inB sq 1 300 := ⟨_, rfl⟩
  obtain ⟨x3, hx3⟩ : ∃ x, x = inB ac 0 3 := ⟨_, rfl⟩
  obtain ⟨x4, hx4⟩ : ∃ x, x = okN 2 9 n zs := ⟨_, rfl⟩
  have HB : Hid (callOkB cl sq ac n zs = (x1 && (x2 && (x3 && x4)))) := by show _ = _; rw [callOkB, hx1, hx2, hx3, hx4]
  have H1 : Hid _ := hx1
  have H2 : Hid _ := hx2
  have H3 : Hid _ := hx3
  have H4 : Hid _ := hx4
  clear hx1 hx2 hx3 hx4
  go_enter Tryz.func12, Tryz.ntmps12
  go_wp2_with fail
  refine (in_any _ _ _ _).mono ?_
  rintro e w1 ⟨rfl, rfl⟩
  rw [← H1.out]
  cases x1
  · go_wp2
    go_ret
    exact ⟨ret_str (callText_no (by rw [HB.out]; rfl)).symm, B_0⟩
  go_wp2_with fail
  refine (in_any _ _ _ _).mono ?_
  rintro e w1 ⟨rfl, rfl⟩
  rw [← H2.out]
  cases x2
  · go_wp2
    go_ret
    exact ⟨ret_str (callText_no (by rw [HB.out]; rfl)).symm, B_0⟩
  go_wp2_with fail
  refine (in_any _ _ _ _).mono ?_
  rintro e w1 ⟨rfl, rfl⟩
  rw [← H3.out]
  cases x3
  · go_wp2
    go_ret
    exact ⟨ret_str (callText_no (by rw [HB.out]; rfl)).symm, B_0⟩
  go_wp2_with fail
  refine (sarg_any _ _ _ zs _ (hC.alloc _) hn).mono ?_
  rintro e w1 ⟨rfl, rfl⟩
  rw [← H4.out]
  cases x4
  · go_wp2
    go_ret
    exact ⟨ret_str (callText_no (by rw [HB.out]; rfl)).symm, B_0⟩
  have b1 := inB_iff.1 H1.out.symm
  have b2 := inB_iff.1 H2.out.symm
  have b3 := inB_iff.1 H3.out.symm
  have hn2 : (n : Int) = 2 := by
    by_cases h : (n : Int) = 2
    · exact h
    · have := H4.out; rw [okN_not h] at this; cases this
  have hal : allB 9 zs = true := by have := H4.out; rw [okN_is hn2] at this; exact this.symm
  obtain rfl : n = 2 := by omega
  have bz := allB_bnd' (by omega) hal
  have bz0 := bz 0
  have bz1 := bz 1
  have HT : Hid (callText cl sq ac 2 zs = callL cl sq ac [zs[0]?.getD 0, zs[1]?.getD 0]) := by show _ = _; rw [callText_yes (by rw [HB.out]; rfl), ← two_of hC.1]
  clear hal hn2 bz HB H1 H2 H3 H4
  obtain ⟨b, off, rfl, hcell⟩ := hC.pos (by omega)
  have h0 := hcell 0 (by omega)
  have h1 := hcell 1 (by omega)
  simp only [List.getD_eq_getElem?_getD, Nat.add_zero] at h0 h1
  have hbw := block_lt h0
  generalize zs[0]?.getD 0 = y0 at *
  generalize zs[1]?.getD 0 = y1 at *
  clear hcell hC
  have l1 := Lib.itoa_length_le cl (by omega) (by omega)
  obtain ⟨T1, e1⟩ : ∃ T : ByteArray, T = ⟨(Lib.itoa cl).toArray⟩ := ⟨_, rfl⟩
  have s1 : T1.size ≤ 21 := by rw [e1]; simpa [ByteArray.size] using l1
  have E1 : Hid _ := e1
  clear l1 e1
  have l2 := Lib.itoa_length_le sq (by omega) (by omega)
  obtain ⟨T2, e2⟩ : ∃ T : ByteArray, T = ⟨(Lib.itoa sq).toArray⟩ := ⟨_, rfl⟩
  have s2 : T2.size ≤ 21 := by rw [e2]; simpa [ByteArray.size] using l2
  have E2 : Hid _ := e2
  clear l2 e2
  have l3 := Lib.itoa_length_le ac (by omega) (by omega)
  obtain ⟨T3, e3⟩ : ∃ T : ByteArray, T = ⟨(Lib.itoa ac).toArray⟩ := ⟨_, rfl⟩
  have s3 : T3.size ≤ 21 := by rw [e3]; simpa [ByteArray.size] using l3
  have E3 : Hid _ := e3
  clear l3 e3
  have l4 := Lib.itoa_length_le y0 (by omega) (by omega)
  obtain ⟨T4, e4⟩ : ∃ T : ByteArray, T = ⟨(Lib.itoa y0).toArray⟩ := ⟨_, rfl⟩
  have s4 : T4.size ≤ 21 := by rw [e4]; simpa [ByteArray.size] using l4
  have E4 : Hid _ := e4
  clear l4 e4
  have l5 := Lib.itoa_length_le y1 (by omega) (by omega)
  obtain ⟨T5, e5⟩ : ∃ T : ByteArray, T = ⟨(Lib.itoa y1).toArray⟩ := ⟨_, rfl⟩
  have s5 : T5.size ≤ 21 := by rw [e5]; simpa [ByteArray.size] using l5
  have E5 : Hid _ := e5
  clear l5 e5
  obtain ⟨R1, hR1⟩ : ∃ R : ByteArray, R = (⟨#[99, 108, 105, 101, 110, 116, 32]⟩ : ByteArray) ++ (T1 : ByteArray) := ⟨_, rfl⟩
  have z1 : R1.size ≤ 28 := by rw [hR1, ByteArray.size_append]; first | omega | (simp only [ByteArray.size]; simp; omega) | (have := (show (⟨#[99, 108, 105, 101, 110, 116, 32]⟩ : ByteArray).size ≤ 7 by decide); omega)
  have A1 : ∀ X : World, (Op.stringOp .add (⟨#[99, 108, 105, 101, 110, 116, 32]⟩ : ByteArray) (T1 : ByteArray)).run Tryz.prog X = .ok (.string R1) X := fun X => by rw [hR1]; exact run_string_add_sum X _ _ (by rw [← ByteArray.size_append, ← hR1]; omega)
  have HR1 : Hid _ := hR1
  clear hR1
  obtain ⟨R2, hR2⟩ : ∃ R : ByteArray, R = (R1 : ByteArray) ++ (⟨#[32, 99, 97, 108, 108, 32]⟩ : ByteArray) := ⟨_, rfl⟩
  have z2 : R2.size ≤ 34 := by rw [hR2, ByteArray.size_append]; first | omega | (simp only [ByteArray.size]; simp; omega) | (have := (show (⟨#[32, 99, 97, 108, 108, 32]⟩ : ByteArray).size ≤ 7 by decide); omega)
  have A2 : ∀ X : World, (Op.stringOp .add (R1 : ByteArray) (⟨#[32, 99, 97, 108, 108, 32]⟩ : ByteArray)).run Tryz.prog X = .ok (.string R2) X := fun X => by rw [hR2]; exact run_string_add_sum X _ _ (by rw [← ByteArray.size_append, ← hR2]; omega)
  have HR2 : Hid _ := hR2
  clear hR2
  obtain ⟨R3, hR3⟩ : ∃ R : ByteArray, R = (R2 : ByteArray) ++ (T2 : ByteArray) := ⟨_, rfl⟩
  have z3 : R3.size ≤ 55 := by rw [hR3, ByteArray.size_append]; first | omega | (simp only [ByteArray.size]; simp; omega) | (have := (show (T2 : ByteArray).size ≤ 7 by decide); omega)
  have A3 : ∀ X : World, (Op.stringOp .add (R2 : ByteArray) (T2 : ByteArray)).run Tryz.prog X = .ok (.string R3) X := fun X => by rw [hR3]; exact run_string_add_sum X _ _ (by rw [← ByteArray.size_append, ← hR3]; omega)
  have HR3 : Hid _ := hR3
  clear hR3
  obtain ⟨R4, hR4⟩ : ∃ R : ByteArray, R = (R3 : ByteArray) ++ (⟨#[32, 97, 99, 116, 32]⟩ : ByteArray) := ⟨_, rfl⟩
  have z4 : R4.size ≤ 60 := by rw [hR4, ByteArray.size_append]; first | omega | (simp only [ByteArray.size]; simp; omega) | (have := (show (⟨#[32, 97, 99, 116, 32]⟩ : ByteArray).size ≤ 7 by decide); omega)
  have A4 : ∀ X : World, (Op.stringOp .add (R3 : ByteArray) (⟨#[32, 97, 99, 116, 32]⟩ : ByteArray)).run Tryz.prog X = .ok (.string R4) X := fun X => by rw [hR4]; exact run_string_add_sum X _ _ (by rw [← ByteArray.size_append, ← hR4]; omega)
  have HR4 : Hid _ := hR4
  clear hR4
  obtain ⟨R5, hR5⟩ : ∃ R : ByteArray, R = (R4 : ByteArray) ++ (T3 : ByteArray) := ⟨_, rfl⟩
  have z5 : R5.size ≤ 81 := by rw [hR5, ByteArray.size_append]; first | omega | (simp only [ByteArray.size]; simp; omega) | (have := (show (T3 : ByteArray).size ≤ 7 by decide); omega)
  have A5 : ∀ X : World, (Op.stringOp .add (R4 : ByteArray) (T3 : ByteArray)).run Tryz.prog X = .ok (.string R5) X := fun X => by rw [hR5]; exact run_string_add_sum X _ _ (by rw [← ByteArray.size_append, ← hR5]; omega)
  have HR5 : Hid _ := hR5
  clear hR5
  obtain ⟨R6, hR6⟩ : ∃ R : ByteArray, R = (R5 : ByteArray) ++ (⟨#[32, 119, 105, 116, 104, 32]⟩ : ByteArray) := ⟨_, rfl⟩
  have z6 : R6.size ≤ 87 := by rw [hR6, ByteArray.size_append]; first | omega | (simp only [ByteArray.size]; simp; omega) | (have := (show (⟨#[32, 119, 105, 116, 104, 32]⟩ : ByteArray).size ≤ 7 by decide); omega)
  have A6 : ∀ X : World, (Op.stringOp .add (R5 : ByteArray) (⟨#[32, 119, 105, 116, 104, 32]⟩ : ByteArray)).run Tryz.prog X = .ok (.string R6) X := fun X => by rw [hR6]; exact run_string_add_sum X _ _ (by rw [← ByteArray.size_append, ← hR6]; omega)
  have HR6 : Hid _ := hR6
  clear hR6
  obtain ⟨R7, hR7⟩ : ∃ R : ByteArray, R = (R6 : ByteArray) ++ (T4 : ByteArray) := ⟨_, rfl⟩
  have z7 : R7.size ≤ 108 := by rw [hR7, ByteArray.size_append]; first | omega | (simp only [ByteArray.size]; simp; omega) | (have := (show (T4 : ByteArray).size ≤ 7 by decide); omega)
  have A7 : ∀ X : World, (Op.stringOp .add (R6 : ByteArray) (T4 : ByteArray)).run Tryz.prog X = .ok (.string R7) X := fun X => by rw [hR7]; exact run_string_add_sum X _ _ (by rw [← ByteArray.size_append, ← hR7]; omega)
  have HR7 : Hid _ := hR7
  clear hR7
  obtain ⟨R8, hR8⟩ : ∃ R : ByteArray, R = (R7 : ByteArray) ++ (⟨#[32]⟩ : ByteArray) := ⟨_, rfl⟩
  have z8 : R8.size ≤ 109 := by rw [hR8, ByteArray.size_append]; first | omega | (simp only [ByteArray.size]; simp; omega) | (have := (show (⟨#[32]⟩ : ByteArray).size ≤ 7 by decide); omega)
  have A8 : ∀ X : World, (Op.stringOp .add (R7 : ByteArray) (⟨#[32]⟩ : ByteArray)).run Tryz.prog X = .ok (.string R8) X := fun X => by rw [hR8]; exact run_string_add_sum X _ _ (by rw [← ByteArray.size_append, ← hR8]; omega)
  have HR8 : Hid _ := hR8
  clear hR8
  obtain ⟨R9, hR9⟩ : ∃ R : ByteArray, R = (R8 : ByteArray) ++ (T5 : ByteArray) := ⟨_, rfl⟩
  have z9 : R9.size ≤ 130 := by rw [hR9, ByteArray.size_append]; first | omega | (simp only [ByteArray.size]; simp; omega) | (have := (show (T5 : ByteArray).size ≤ 7 by decide); omega)
  have A9 : ∀ X : World, (Op.stringOp .add (R8 : ByteArray) (T5 : ByteArray)).run Tryz.prog X = .ok (.string R9) X := fun X => by rw [hR9]; exact run_string_add_sum X _ _ (by rw [← ByteArray.size_append, ← hR9]; omega)
  have HR9 : Hid _ := hR9
  clear hR9
  obtain ⟨W, hW⟩ : ∃ W, W = w.alloc (.cells #[.int .i64 cl, .int .i64 sq, .int .i64 ac, .slice (some ⟨b, off, none⟩) 2 cap] 24) := ⟨_, rfl⟩
  have CC : Hid (∀ X : World, Below w.heap.size w X → Cel X w.heap.size [.int .i64 cl, .int .i64 sq, .int .i64 ac, .slice (some ⟨b, off, none⟩) 2 cap] 24 → X.cell? ⟨w.heap.size, 0, none⟩ = some (.int .i64 cl) ∧ X.cell? ⟨w.heap.size, 1, none⟩ = some (.int .i64 sq) ∧ X.cell? ⟨w.heap.size, 2, none⟩ = some (.int .i64 ac) ∧ X.cell? ⟨w.heap.size, 3, none⟩ = some (.slice (some ⟨b, off, none⟩) 2 cap) ∧ X.cell? ⟨b, off, none⟩ = some (.int .i64 y0) ∧ X.cell? ⟨b, off + 1, none⟩ = some (.int .i64 y1)) := fun X hB hq => ⟨hq.cell 0, hq.cell 1, hq.cell 2, hq.cell 3, by rw [hB.cell (p := ⟨b, off, none⟩) hbw]; exact h0, by rw [hB.cell (p := ⟨b, off + 1, none⟩) hbw]; exact h1⟩
  rw [← hW] at q_0 B_0 ⊢
  clear hW h0 h1
  go_upto_region 3 with fail
  have hS0 : (W.drew.cell? ⟨w.heap.size, 0, none⟩ = some (.int .i64 cl) ∧ W.drew.cell? ⟨w.heap.size, 1, none⟩ = some (.int .i64 sq) ∧ W.drew.cell? ⟨w.heap.size, 2, none⟩ = some (.int .i64 ac) ∧ W.drew.cell? ⟨w.heap.size, 3, none⟩ = some (.slice (some ⟨b, off, none⟩) 2 cap) ∧ W.drew.cell? ⟨b, off, none⟩ = some (.int .i64 y0) ∧ W.drew.cell? ⟨b, off + 1, none⟩ = some (.int .i64 y1)) ∧ True := ⟨CC.out W B_0 q_0, trivial⟩
  refine wp_region_ends (fun X => X.cell? ⟨w.heap.size, 0, none⟩ = some (.int .i64 cl) ∧ X.cell? ⟨w.heap.size, 1, none⟩ = some (.int .i64 sq) ∧ X.cell? ⟨w.heap.size, 2, none⟩ = some (.int .i64 ac) ∧ X.cell? ⟨w.heap.size, 3, none⟩ = some (.slice (some ⟨b, off, none⟩) 2 cap) ∧ X.cell? ⟨b, off, none⟩ = some (.int .i64 y0) ∧ X.cell? ⟨b, off + 1, none⟩ = some (.int .i64 y1)) (fun _ => True) 28 (by kernel_rfl) ?_
  refine wpAnyE_take0 (i := 0) (v := ?v0) rfl (by kernel_rfl) (by kernel_rfl) (by kernel_rfl) (by decide) (fun _ _ _ h => h) (Or.inl ⟨by rfl, ?hy0⟩) hS0 ?_
  case hy0 => (intro wz hSw; (try dsimp only at hSw); go_simp; try (with_reducible rfl))
  refine wpAnyE_take0 (i := 1) (v := ?v1) rfl (by kernel_rfl) (by kernel_rfl) (by kernel_rfl) (by decide) (fun _ _ _ h => h) (Or.inl ⟨by rfl, ?hy1⟩) hS0 ?_
  case hy1 => (intro wz hSw; (try dsimp only at hSw); go_simp; try (with_reducible rfl))
  refine wpAnyE_take0 (i := 5) (v := ?v5) rfl (by kernel_rfl) (by kernel_rfl) (by kernel_rfl) (by decide) (fun _ _ _ h => h) (Or.inl ⟨by rfl, ?hy5⟩) hS0 ?_
  case hy5 => (intro wz hSw; (try dsimp only at hSw); go_simp; try (with_reducible rfl))
  refine wpAnyE_take0 (i := 6) (v := ?v6) rfl (by kernel_rfl) (by kernel_rfl) (by kernel_rfl) (by decide) (fun _ _ _ h => h) (Or.inl ⟨by rfl, ?hy6⟩) hS0 ?_
  case hy6 => (intro wz hSw; (try dsimp only at hSw); go_simp; try (with_reducible rfl))
  refine wpAnyE_take0 (i := 10) (v := ?v10) rfl (by kernel_rfl) (by kernel_rfl) (by kernel_rfl) (by decide) (fun _ _ _ h => h) (Or.inl ⟨by rfl, ?hy10⟩) hS0 ?_
  case hy10 => (intro wz hSw; (try dsimp only at hSw); go_simp; try (with_reducible rfl))
  refine wpAnyE_take0 (i := 11) (v := ?v11) rfl (by kernel_rfl) (by kernel_rfl) (by kernel_rfl) (by decide) (fun _ _ _ h => h) (Or.inl ⟨by rfl, ?hy11⟩) hS0 ?_
  case hy11 => (intro wz hSw; (try dsimp only at hSw); go_simp; try (with_reducible rfl))
  refine wpAnyE_take0 (i := 15) (v := ?v15) rfl (by kernel_rfl) (by kernel_rfl) (by kernel_rfl) (by decide) (fun _ _ _ h => h) (Or.inl ⟨by rfl, ?hy15⟩) hS0 ?_
  case hy15 => (intro wz hSw; (try dsimp only at hSw); go_simp; try (with_reducible rfl))
  refine wpAnyE_take0 (i := 16) (v := ?v16) rfl (by kernel_rfl) (by kernel_rfl) (by kernel_rfl) (by decide) (fun _ _ _ h => h) (Or.inl ⟨by rfl, ?hy16⟩) hS0 ?_
  case hy16 => (intro wz hSw; (try dsimp only at hSw); go_simp; try (with_reducible rfl))
  refine wpAnyE_take0 (i := 17) (v := ?v17) rfl (by kernel_rfl) (by kernel_rfl) (by kernel_rfl) (by decide) (fun _ _ _ h => h) (Or.inl ⟨by rfl, ?hy17⟩) hS0 ?_
  case hy17 => (intro wz hSw; (try dsimp only at hSw); go_simp; try (with_reducible rfl))
  refine wpAnyE_take0 (i := 18) (v := ?v18) rfl (by kernel_rfl) (by kernel_rfl) (by kernel_rfl) (by decide) (fun _ _ _ h => h) (Or.inl ⟨by rfl, ?hy18⟩) hS0 ?_
  case hy18 => (intro wz hSw; (try dsimp only at hSw); go_simp; try (with_reducible rfl))
  refine wpAnyE_take0 (i := 22) (v := ?v22) rfl (by kernel_rfl) (by kernel_rfl) (by kernel_rfl) (by decide) (fun _ _ _ h => h) (Or.inl ⟨by rfl, ?hy22⟩) hS0 ?_
  case hy22 => (intro wz hSw; (try dsimp only at hSw); go_simp; try (with_reducible rfl))
  refine wpAnyE_take0 (i := 23) (v := ?v23) rfl (by kernel_rfl) (by kernel_rfl) (by kernel_rfl) (by decide) (fun _ _ _ h => h) (Or.inl ⟨by rfl, ?hy23⟩) hS0 ?_
  case hy23 => (intro wz hSw; (try dsimp only at hSw); go_simp; try (with_reducible rfl))
  refine wpAnyE_take0 (i := 24) (v := ?v24) rfl (by kernel_rfl) (by kernel_rfl) (by kernel_rfl) (by decide) (fun _ _ _ h => h) (Or.inl ⟨by rfl, ?hy24⟩) hS0 ?_
  case hy24 => (intro wz hSw; (try dsimp only at hSw); go_simp; try (with_reducible rfl))
  refine wpAnyE_take0 (i := 25) (v := ?v25) rfl (by kernel_rfl) (by kernel_rfl) (by kernel_rfl) (by decide) (fun _ _ _ h => h) (Or.inl ⟨by rfl, ?hy25⟩) hS0 ?_
  case hy25 => (intro wz hSw; (try dsimp only at hSw); go_simp; try (with_reducible rfl))
  refine wpAnyE_one (i := 2) (by kernel_rfl) rfl (fun Kn hK => ?_)
  go_simp
  refine (digits_any cl _ (by omega) (by omega)).mono ?_
  rintro ee w1 ⟨rfl, bd_1⟩
  rw [← E1.out]
  have b_1 := below_of_drew bd_1
  have B_1 := B_0.trans (b_1.mono B_0.size)
  have q_1 := q_0.below b_1
  have hS1 : (w1.cell? ⟨w.heap.size, 0, none⟩ = some (.int .i64 cl) ∧ w1.cell? ⟨w.heap.size, 1, none⟩ = some (.int .i64 sq) ∧ w1.cell? ⟨w.heap.size, 2, none⟩ = some (.int .i64 ac) ∧ w1.cell? ⟨w.heap.size, 3, none⟩ = some (.slice (some ⟨b, off, none⟩) 2 cap) ∧ w1.cell? ⟨b, off, none⟩ = some (.int .i64 y0) ∧ w1.cell? ⟨b, off + 1, none⟩ = some (.int .i64 y1)) ∧ True := ⟨CC.out w1 B_1 q_1, trivial⟩
  dsimp only
  refine hK.out _ _ ⟨hS1.1, fun _ => trivial⟩ ?_
  clear hK hS0 B_0 q_0 b_1 bd_1
  refine wpAnyE_take0 (i := 3) (v := .string R1) rfl (by kernel_rfl) (by kernel_rfl) (by kernel_rfl) (by decide) (fun _ _ _ h => h) (Or.inl ⟨by rfl, ?hy3⟩) hS1 ?_
  case hy3 => (intro wz hSw; (try dsimp only at hSw); first | (go_simp; try (with_reducible rfl); done) | (simp only [go_sem, A1]; done) | (go_simp; exact A1 _) | (simp [go_sem, A1]; done) | skip)
  refine wpAnyE_take0 (i := 4) (v := .string R2) rfl (by kernel_rfl) (by kernel_rfl) (by kernel_rfl) (by decide) (fun _ _ _ h => h) (Or.inl ⟨by rfl, ?hy4⟩) hS1 ?_
  case hy4 => (intro wz hSw; (try dsimp only at hSw); first | (go_simp; try (with_reducible rfl); done) | (simp only [go_sem, A2]; done) | (go_simp; exact A2 _) | (simp [go_sem, A2]; done) | skip)
  refine wpAnyE_one (i := 7) (by kernel_rfl) rfl (fun Kn hK => ?_)
  go_simp
  refine (digits_any sq _ (by omega) (by omega)).mono ?_
  rintro ee w2 ⟨rfl, bd_2⟩
  rw [← E2.out]
  have b_2 := bd_2
  have B_2 := B_1.trans (b_2.mono B_1.size)
  have q_2 := q_1.below b_2
  have hS2 : (w2.cell? ⟨w.heap.size, 0, none⟩ = some (.int .i64 cl) ∧ w2.cell? ⟨w.heap.size, 1, none⟩ = some (.int .i64 sq) ∧ w2.cell? ⟨w.heap.size, 2, none⟩ = some (.int .i64 ac) ∧ w2.cell? ⟨w.heap.size, 3, none⟩ = some (.slice (some ⟨b, off, none⟩) 2 cap) ∧ w2.cell? ⟨b, off, none⟩ = some (.int .i64 y0) ∧ w2.cell? ⟨b, off + 1, none⟩ = some (.int .i64 y1)) ∧ True := ⟨CC.out w2 B_2 q_2, trivial⟩
  dsimp only
  refine hK.out _ _ ⟨hS2.1, fun _ => trivial⟩ ?_
  clear hK hS1 B_1 q_1 b_2 bd_2
  refine wpAnyE_take0 (i := 8) (v := .string R3) rfl (by kernel_rfl) (by kernel_rfl) (by kernel_rfl) (by decide) (fun _ _ _ h => h) (Or.inl ⟨by rfl, ?hy8⟩) hS2 ?_
  case hy8 => (intro wz hSw; (try dsimp only at hSw); first | (go_simp; try (with_reducible rfl); done) | (simp only [go_sem, A3]; done) | (go_simp; exact A3 _) | (simp [go_sem, A3]; done) | skip)
  refine wpAnyE_take0 (i := 9) (v := .string R4) rfl (by kernel_rfl) (by kernel_rfl) (by kernel_rfl) (by decide) (fun _ _ _ h => h) (Or.inl ⟨by rfl, ?hy9⟩) hS2 ?_
  case hy9 => (intro wz hSw; (try dsimp only at hSw); first | (go_simp; try (with_reducible rfl); done) | (simp only [go_sem, A4]; done) | (go_simp; exact A4 _) | (simp [go_sem, A4]; done) | skip)
  refine wpAnyE_one (i := 12) (by kernel_rfl) rfl (fun Kn hK => ?_)
  go_simp
  refine (digits_any ac _ (by omega) (by omega)).mono ?_
  rintro ee w3 ⟨rfl, bd_3⟩
  rw [← E3.out]
  have b_3 := bd_3
  have B_3 := B_2.trans (b_3.mono B_2.size)
  have q_3 := q_2.below b_3
  have hS3 : (w3.cell? ⟨w.heap.size, 0, none⟩ = some (.int .i64 cl) ∧ w3.cell? ⟨w.heap.size, 1, none⟩ = some (.int .i64 sq) ∧ w3.cell? ⟨w.heap.size, 2, none⟩ = some (.int .i64 ac) ∧ w3.cell? ⟨w.heap.size, 3, none⟩ = some (.slice (some ⟨b, off, none⟩) 2 cap) ∧ w3.cell? ⟨b, off, none⟩ = some (.int .i64 y0) ∧ w3.cell? ⟨b, off + 1, none⟩ = some (.int .i64 y1)) ∧ True := ⟨CC.out w3 B_3 q_3, trivial⟩
  dsimp only
  refine hK.out _ _ ⟨hS3.1, fun _ => trivial⟩ ?_
  clear hK hS2 B_2 q_2 b_3 bd_3
  refine wpAnyE_take0 (i := 13) (v := .string R5) rfl (by kernel_rfl) (by kernel_rfl) (by kernel_rfl) (by decide) (fun _ _ _ h => h) (Or.inl ⟨by rfl, ?hy13⟩) hS3 ?_
  case hy13 => (intro wz hSw; (try dsimp only at hSw); first | (go_simp; try (with_reducible rfl); done) | (simp only [go_sem, A5]; done) | (go_simp; exact A5 _) | (simp [go_sem, A5]; done) | skip)
  refine wpAnyE_take0 (i := 14) (v := .string R6) rfl (by kernel_rfl) (by kernel_rfl) (by kernel_rfl) (by decide) (fun _ _ _ h => h) (Or.inl ⟨by rfl, ?hy14⟩) hS3 ?_
  case hy14 => (intro wz hSw; (try dsimp only at hSw); first | (go_simp; try (with_reducible rfl); done) | (simp only [go_sem, A6]; done) | (go_simp; exact A6 _) | (simp [go_sem, A6]; done) | skip)
  refine wpAnyE_one (i := 19) (by kernel_rfl) rfl (fun Kn hK => ?_)
  go_simp
  refine (digits_any y0 _ (by omega) (by omega)).mono ?_
  rintro ee w4 ⟨rfl, bd_4⟩
  rw [← E4.out]
  have b_4 := bd_4
  have B_4 := B_3.trans (b_4.mono B_3.size)
  have q_4 := q_3.below b_4
  have hS4 : (w4.cell? ⟨w.heap.size, 0, none⟩ = some (.int .i64 cl) ∧ w4.cell? ⟨w.heap.size, 1, none⟩ = some (.int .i64 sq) ∧ w4.cell? ⟨w.heap.size, 2, none⟩ = some (.int .i64 ac) ∧ w4.cell? ⟨w.heap.size, 3, none⟩ = some (.slice (some ⟨b, off, none⟩) 2 cap) ∧ w4.cell? ⟨b, off, none⟩ = some (.int .i64 y0) ∧ w4.cell? ⟨b, off + 1, none⟩ = some (.int .i64 y1)) ∧ True := ⟨CC.out w4 B_4 q_4, trivial⟩
  dsimp only
  refine hK.out _ _ ⟨hS4.1, fun _ => trivial⟩ ?_
  clear hK hS3 B_3 q_3 b_4 bd_4
  refine wpAnyE_take0 (i := 20) (v := .string R7) rfl (by kernel_rfl) (by kernel_rfl) (by kernel_rfl) (by decide) (fun _ _ _ h => h) (Or.inl ⟨by rfl, ?hy20⟩) hS4 ?_
  case hy20 => (intro wz hSw; (try dsimp only at hSw); first | (go_simp; try (with_reducible rfl); done) | (simp only [go_sem, A7]; done) | (go_simp; exact A7 _) | (simp [go_sem, A7]; done) | skip)
  refine wpAnyE_take0 (i := 21) (v := .string R8) rfl (by kernel_rfl) (by kernel_rfl) (by kernel_rfl) (by decide) (fun _ _ _ h => h) (Or.inl ⟨by rfl, ?hy21⟩) hS4 ?_
  case hy21 => (intro wz hSw; (try dsimp only at hSw); first | (go_simp; try (with_reducible rfl); done) | (simp only [go_sem, A8]; done) | (go_simp; exact A8 _) | (simp [go_sem, A8]; done) | skip)
  refine wpAnyE_one (i := 26) (by kernel_rfl) rfl (fun Kn hK => ?_)
  go_simp
  refine (digits_any y1 _ (by omega) (by omega)).mono ?_
  rintro ee w5 ⟨rfl, bd_5⟩
  rw [← E5.out]
  have b_5 := bd_5
  have B_5 := B_4.trans (b_5.mono B_4.size)
  have q_5 := q_4.below b_5
  have hS5 : (w5.cell? ⟨w.heap.size, 0, none⟩ = some (.int .i64 cl) ∧ w5.cell? ⟨w.heap.size, 1, none⟩ = some (.int .i64 sq) ∧ w5.cell? ⟨w.heap.size, 2, none⟩ = some (.int .i64 ac) ∧ w5.cell? ⟨w.heap.size, 3, none⟩ = some (.slice (some ⟨b, off, none⟩) 2 cap) ∧ w5.cell? ⟨b, off, none⟩ = some (.int .i64 y0) ∧ w5.cell? ⟨b, off + 1, none⟩ = some (.int .i64 y1)) ∧ True := ⟨CC.out w5 B_5 q_5, trivial⟩
  dsimp only
  refine hK.out _ _ ⟨hS5.1, fun _ => trivial⟩ ?_
  clear hK hS4 B_4 q_4 b_5 bd_5
  refine wpAnyE_take0 (i := 27) (v := .string R9) rfl (by kernel_rfl) (by kernel_rfl) (by kernel_rfl) (by decide) (fun _ _ _ h => h) (Or.inl ⟨by rfl, ?hy27⟩) hS5 ?_
  case hy27 => (intro wz hSw; (try dsimp only at hSw); first | (go_simp; try (with_reducible rfl); done) | (simp only [go_sem, A9]; done) | (go_simp; exact A9 _) | (simp [go_sem, A9]; done) | skip)
  refine wpAnyE_one (i := 28) (by kernel_rfl) rfl (fun Kn hK => ?_)
  go_simp
  refine hK.out _ _ ⟨hS5.1, fun _ => trivial⟩ ?_
  clear hK
  refine wpAnyE_done (by kernel_rfl) ?_ _
  clear hS5
  go_wp2
  go_ret
  refine ⟨?_, B_5⟩
  rw [HT.out, callL, tail_two]
  have : R9 = ⟨(wClient ++ ([32] ++ (Lib.itoa cl ++ ([32] ++ (wCall ++ ([32] ++ (Lib.itoa sq ++ ([32] ++ (wAct ++ ([32] ++ (Lib.itoa ac ++ ([32] ++ (wWith ++ ([32] ++ (Lib.itoa y0 ++ ([32] ++ Lib.itoa y1)))))))))))))))).toArray⟩ := by
    rw [HR9.out, HR8.out, HR7.out, HR6.out, HR5.out, HR4.out, HR3.out, HR2.out, HR1.out, E1.out, E2.out, E3.out, E4.out, E5.out]
    rw [show (⟨#[99, 108, 105, 101, 110, 116, 32]⟩ : ByteArray) = ⟨(wClient ++ [32]).toArray⟩ from rfl, show (⟨#[32, 99, 97, 108, 108, 32]⟩ : ByteArray) = ⟨([32] ++ (wCall ++ [32])).toArray⟩ from rfl, show (⟨#[32, 97, 99, 116, 32]⟩ : ByteArray) = ⟨([32] ++ (wAct ++ [32])).toArray⟩ from rfl, show (⟨#[32, 119, 105, 116, 104, 32]⟩ : ByteArray) = ⟨([32] ++ (wWith ++ [32])).toArray⟩ from rfl, show (⟨#[32]⟩ : ByteArray) = ⟨[32].toArray⟩ from rfl]
    simp only [cat_str, List.append_assoc]
  rw [← this]
  rfl

end Go.Proofs.YtkmacleakfbobaaGreatDoor
