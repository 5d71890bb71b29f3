/-
  A word of a form, as the specification reads it. At most 120 bytes.
-/
import Derived.Test.YtkmacleakfbobabGreatDoorRfU
namespace Go.Proofs.YtkmacleakfbobabGreatDoor
open Go.RowKit
set_option linter.unusedVariables false
set_option maxRecDepth 100000

theorem Touch.setNew {S : Nat → Prop} {w w' : World} (h : Touch S w w') {B i : Nat} (hB : w.heap.size ≤ B) (v : Value) : Touch S w (w'.setCell ⟨B, i, none⟩ v) :=
  ⟨h.os, h.tape, h.output, by rw [size_setCell]; exact h.size, fun k hk hn => by rw [Below.heap_setCell _ _ _ _ (show k ≠ B by omega)]; exact h.block k hk hn⟩
theorem part_form {l : List UInt8} {j : Nat} {x y : UInt8} (f : FR) (hl : l.length = j + 2) (hj : 0 < j) (hx : l[j]?.getD 0 = x) (hy : l[j + 1]?.getD 0 = y) : partL f l = if x = 120 ∨ x = 97 then (if x = 120 then (if inB (y.toNat - 48) 0 2 = true then (f.1.set (y.toNat - 48) (numL (l.take j)).1, f.2.1, f.2.2) else f) else (if inB (y.toNat - 48) 0 1 = true then (f.1, f.2.1.set (y.toNat - 48) (numL (l.take j)).1, f.2.2) else f)) else (f.1, f.2.1, (numL l).1) := by
  have h1 : byteAt l (l.length - 2) = x := by rw [hl, byteAt]; exact hx
  have h2 : byteAt l (l.length - 1) = y := by rw [hl, byteAt]; exact hy
  rw [partL, h1, h2, hl, show j + 2 - 2 = j by omega]
  by_cases h : x = 120 ∨ x = 97
  · rw [if_pos ⟨by omega, h⟩, if_pos h]
  · rw [if_neg (fun g => h g.2), if_neg h]
theorem part_short {l : List UInt8} (f : FR) (hl : l.length ≤ 2) : partL f l = (f.1, f.2.1, (numL l).1) := by
  rw [partL, if_neg (fun g => by have := g.1; omega)]

set_option maxHeartbeats 3200000 in
theorem spart_x (l : List UInt8) (j : Nat) (x y : UInt8) (hl : l.length = j + 2) (hj : 0 < j) (hX : l[j]?.getD 0 = x) (hY : l[j + 1]?.getD 0 = y) (hx : x = 120) (B1 B2 : Nat) (C D : List Int) (K : Int) (w : World) (hs : l.length ≤ 120) (k1 : Blk w B1 C) (k2 : Blk w B2 D) (l1 : C.length = 3) (l2 : D.length = 2) (n12 : B1 ≠ B2) :
    Calls Tryz.prog 32 #[formV (some ⟨B1, 0, none⟩) 3 3 (some ⟨B2, 0, none⟩) 2 2 K, .string ⟨l.toArray⟩] w fun e w' => ∃ C' D' K', partL (C, D, K) l = (C', D', K') ∧ e = .returned (formV (some ⟨B1, 0, none⟩) 3 3 (some ⟨B2, 0, none⟩) 2 2 K') ∧ C'.length = 3 ∧ D'.length = 2 ∧ Touch (fun x => x = B1 ∨ x = B2) w w' ∧ Blk w' B1 C' ∧ Blk w' B2 D' := by
  have HL : Hid (C.length = 3 ∧ D.length = 2) := ⟨l1, l2⟩
  have zz1 := k1.lt
  have zz2 := k2.lt
  have HLN : Hid _ := hl
  have HX : Hid _ := hX
  have HY : Hid _ := hY
  have hlt2 : j < l.length := by omega
  have hlt1 : j + 1 < l.length := by omega
  have hB2' := str_at (l := l) (k := j) hlt2
  have hB1' := str_at (l := l) (k := j + 1) hlt1
  rw [hX] at hB2'
  rw [hY] at hB1'
  clear hX hY
  have hex : (⟨l.toArray⟩ : ByteArray).extract 0 j = ⟨(l.take j).toArray⟩ := by
    apply ByteArray.ext
    rw [← Array.toList_inj]
    rw [Lib.extract_data]
    simp
  have h2 : (2 : Int) < (l.length : Int) := by omega
  subst hx
  have hx' : ((⟨l.toArray⟩ : ByteArray)[j]'(str_lt hlt2)).toNat = 120 := by rw [hB2']; rfl
  clear hB2'
  by_cases hk : 48 ≤ y.toNat ∧ y.toNat ≤ 50
  · obtain ⟨kk, hkk⟩ : ∃ kk, y.toNat = kk + 48 := ⟨y.toNat - 48, by omega⟩
    have hkx : kk ≤ 2 := by omega
    have hy' : ((⟨l.toArray⟩ : ByteArray)[j + 1]'(str_lt hlt1)).toNat = kk + 48 := by rw [hB1']; exact hkk
    have hin : inB (kk : Int) 0 2 = true := inB_iff.2 ⟨by omega, by omega⟩
    have PART : Hid (partL (C, D, K) l = (C.set kk (numL (l.take j)).1, D, K)) := by
      show _ = _
      rw [part_form (C, D, K) HLN.out hj HX.out HY.out, if_pos (Or.inl rfl), if_pos rfl, hkk, if_pos (by rw [inB_iff]; omega), Nat.add_sub_cancel]
    clear hkk hB1' hk
    go_enter Tryz.func32, Tryz.ntmps32
    go_upto_region 1 with fail
    obtain ⟨W0, hW0⟩ : ∃ W0, W0 = (w.alloc (.cells #[.slice (some ⟨B1, 0, none⟩) 3 3, .slice (some ⟨B2, 0, none⟩) 2 2, .int .i64 K] 24)).alloc (.cells #[.slice none 0 0, .slice none 0 0, .int .i64 0] 24) := ⟨_, rfl⟩
    have A1 : Below w.heap.size w (w.alloc (.cells #[.slice (some ⟨B1, 0, none⟩) 3 3, .slice (some ⟨B2, 0, none⟩) 2 2, .int .i64 K] 24)) := (Below.refl _ _).alloc (Nat.le_refl _) _
    have A2 : Below (w.alloc (.cells #[.slice (some ⟨B1, 0, none⟩) 3 3, .slice (some ⟨B2, 0, none⟩) 2 2, .int .i64 K] 24)).heap.size (w.alloc (.cells #[.slice (some ⟨B1, 0, none⟩) 3 3, .slice (some ⟨B2, 0, none⟩) 2 2, .int .i64 K] 24)) ((w.alloc (.cells #[.slice (some ⟨B1, 0, none⟩) 3 3, .slice (some ⟨B2, 0, none⟩) 2 2, .int .i64 K] 24)).alloc (.cells #[.slice none 0 0, .slice none 0 0, .int .i64 0] 24)) := (Below.refl _ _).alloc (Nat.le_refl _) _
    have xb : Cel W0 w.heap.size [.slice (some ⟨B1, 0, none⟩) 3 3, .slice (some ⟨B2, 0, none⟩) 2 2, .int .i64 K] 24 := by rw [hW0]; exact (Cel.new w _ _).below A2
    have xr : Cel W0 (w.heap.size + 1) [.slice none 0 0, .slice none 0 0, .int .i64 0] 24 := by
      have := Cel.new (w.alloc (.cells #[.slice (some ⟨B1, 0, none⟩) 3 3, .slice (some ⟨B2, 0, none⟩) 2 2, .int .i64 K] 24)) [.slice none 0 0, .slice none 0 0, .int .i64 0] 24
      rw [World.size_alloc] at this
      rw [hW0]; exact this
    have BW : Below w.heap.size w W0 := by rw [hW0]; exact A1.trans (A2.mono A1.size)
    have K1 := k1.below BW
    have K2 := k2.below BW
    have T0 : Touch (fun x => x = B1 ∨ x = B2) w W0 := Touch.of BW
    rw [← hW0]
    clear hW0 A1 A2 BW k1 k2 l1 l2
    have zb := xb.lt
    have zr := xr.lt
    go_wp2_with fail
    refine (num_any _ _ (by rw [List.length_take]; omega)).mono ?_
    rintro e w4 ⟨rfl, hw4⟩
    rw [hw4]
    clear hw4
    generalize (numL (l.take j)).1 = z at *
    generalize (numL (l.take j)).2 = z2 at *
    go_wp2_with fail
    refine (in_any _ _ _ _).mono ?_
    rintro e w5 ⟨rfl, hw5⟩
    rw [hw5, hin]
    clear hw5
    have hc := K1.cell kk (by rw [HL.out.1]; omega)
    have hf := K1.free kk
    have KS := K1.set kk z
    have KO := K2.setOther (show B2 ≠ B1 from n12.symm) kk (.int .i64 z)
    have xb1 := xb.setOther (show w.heap.size ≠ B1 by omega) kk (.int .i64 z)
    have xr1 := xr.setOther (show w.heap.size + 1 ≠ B1 by omega) kk (.int .i64 z)
    have T1 : Touch (fun x => x = B1 ∨ x = B2) w (W0.setCell ⟨B1, kk, none⟩ (.int .i64 z)) := Touch.setCell (S := fun x => x = B1 ∨ x = B2) T0 (Or.inl rfl) _
    have b0 := xb.cell 0
    simp only [List.getElem?_cons_zero] at b0
    have g0 := xb1.cell 0
    have g1 := xb1.cell 1
    have g2 := xb1.cell 2
    have d0 := xr1.cell 0
    have d1 := xr1.cell 1
    have d2 := xr1.cell 2
    have q0 := xr1.free 0
    have q1 := xr1.free 1
    have q2 := xr1.free 2
    simp only [List.getElem?_cons_zero, List.getElem?_cons_succ] at g0 g1 g2 d0 d1 d2
    clear K1 K2 xb xr xb1 xr1 T0
    go_wp2
    exact bodyPost_ret (v := formV (some ⟨B1, 0, none⟩) 3 3 (some ⟨B2, 0, none⟩) 2 2 K) (by simp [results, Tryz.results32, go_sem, d0, d1, d2]) rfl ⟨_, _, K, PART.out, rfl, by rw [List.length_set]; exact HL.out.1, HL.out.2, ((Touch.setNew (Touch.setNew (Touch.setNew T1 (B := w.heap.size + 1) (by omega) _) (B := w.heap.size + 1) (by omega) _) (B := w.heap.size + 1) (by omega) _)), ((KS.setOther (by omega) _ _).setOther (by omega) _ _).setOther (by omega) _ _, ((KO.setOther (by omega) _ _).setOther (by omega) _ _).setOther (by omega) _ _⟩
  · have hin : inB ((y.toNat : Int) - 48) 0 2 = false := inB_not.2 (by omega)
    have PART : Hid (partL (C, D, K) l = (C, D, K)) := by
      show _ = _
      rw [part_form (C, D, K) HLN.out hj HX.out HY.out, if_pos (Or.inl rfl), if_pos rfl, hin, if_neg (by decide)]
    have hyb : y.toNat ≤ 255 := by have := y.toNat_lt; omega
    clear hk
    go_enter Tryz.func32, Tryz.ntmps32
    go_upto_region 1 with fail
    obtain ⟨W0, hW0⟩ : ∃ W0, W0 = (w.alloc (.cells #[.slice (some ⟨B1, 0, none⟩) 3 3, .slice (some ⟨B2, 0, none⟩) 2 2, .int .i64 K] 24)).alloc (.cells #[.slice none 0 0, .slice none 0 0, .int .i64 0] 24) := ⟨_, rfl⟩
    have A1 : Below w.heap.size w (w.alloc (.cells #[.slice (some ⟨B1, 0, none⟩) 3 3, .slice (some ⟨B2, 0, none⟩) 2 2, .int .i64 K] 24)) := (Below.refl _ _).alloc (Nat.le_refl _) _
    have A2 : Below (w.alloc (.cells #[.slice (some ⟨B1, 0, none⟩) 3 3, .slice (some ⟨B2, 0, none⟩) 2 2, .int .i64 K] 24)).heap.size (w.alloc (.cells #[.slice (some ⟨B1, 0, none⟩) 3 3, .slice (some ⟨B2, 0, none⟩) 2 2, .int .i64 K] 24)) ((w.alloc (.cells #[.slice (some ⟨B1, 0, none⟩) 3 3, .slice (some ⟨B2, 0, none⟩) 2 2, .int .i64 K] 24)).alloc (.cells #[.slice none 0 0, .slice none 0 0, .int .i64 0] 24)) := (Below.refl _ _).alloc (Nat.le_refl _) _
    have xb : Cel W0 w.heap.size [.slice (some ⟨B1, 0, none⟩) 3 3, .slice (some ⟨B2, 0, none⟩) 2 2, .int .i64 K] 24 := by rw [hW0]; exact (Cel.new w _ _).below A2
    have xr : Cel W0 (w.heap.size + 1) [.slice none 0 0, .slice none 0 0, .int .i64 0] 24 := by
      have := Cel.new (w.alloc (.cells #[.slice (some ⟨B1, 0, none⟩) 3 3, .slice (some ⟨B2, 0, none⟩) 2 2, .int .i64 K] 24)) [.slice none 0 0, .slice none 0 0, .int .i64 0] 24
      rw [World.size_alloc] at this
      rw [hW0]; exact this
    have BW : Below w.heap.size w W0 := by rw [hW0]; exact A1.trans (A2.mono A1.size)
    have K1 := k1.below BW
    have K2 := k2.below BW
    have T0 : Touch (fun x => x = B1 ∨ x = B2) w W0 := Touch.of BW
    rw [← hW0]
    clear hW0 A1 A2 BW k1 k2 l1 l2
    have zb := xb.lt
    have zr := xr.lt
    go_wp2_with fail
    refine (num_any _ _ (by rw [List.length_take]; omega)).mono ?_
    rintro e w4 ⟨rfl, hw4⟩
    rw [hw4]
    clear hw4
    generalize (numL (l.take j)).1 = z at *
    generalize (numL (l.take j)).2 = z2 at *
    go_wp2_with fail
    refine (in_any _ _ _ _).mono ?_
    rintro e w5 ⟨rfl, hw5⟩
    rw [hw5, hin]
    clear hw5
    have g0 := xb.cell 0
    have g1 := xb.cell 1
    have g2 := xb.cell 2
    have d0 := xr.cell 0
    have d1 := xr.cell 1
    have d2 := xr.cell 2
    have q0 := xr.free 0
    have q1 := xr.free 1
    have q2 := xr.free 2
    simp only [List.getElem?_cons_zero, List.getElem?_cons_succ] at g0 g1 g2 d0 d1 d2
    clear xb xr
    go_wp2
    exact bodyPost_ret (v := formV (some ⟨B1, 0, none⟩) 3 3 (some ⟨B2, 0, none⟩) 2 2 K) (by simp [results, Tryz.results32, go_sem, d0, d1, d2]) rfl ⟨C, D, K, PART.out, rfl, HL.out.1, HL.out.2, ((Touch.setNew (Touch.setNew (Touch.setNew T0 (B := w.heap.size + 1) (by omega) _) (B := w.heap.size + 1) (by omega) _) (B := w.heap.size + 1) (by omega) _)), ((K1.setOther (by omega) _ _).setOther (by omega) _ _).setOther (by omega) _ _, ((K2.setOther (by omega) _ _).setOther (by omega) _ _).setOther (by omega) _ _⟩

set_option maxHeartbeats 3200000 in
theorem spart_a (l : List UInt8) (j : Nat) (x y : UInt8) (hl : l.length = j + 2) (hj : 0 < j) (hX : l[j]?.getD 0 = x) (hY : l[j + 1]?.getD 0 = y) (hx : x = 97) (B1 B2 : Nat) (C D : List Int) (K : Int) (w : World) (hs : l.length ≤ 120) (k1 : Blk w B1 C) (k2 : Blk w B2 D) (l1 : C.length = 3) (l2 : D.length = 2) (n12 : B1 ≠ B2) :
    Calls Tryz.prog 32 #[formV (some ⟨B1, 0, none⟩) 3 3 (some ⟨B2, 0, none⟩) 2 2 K, .string ⟨l.toArray⟩] w fun e w' => ∃ C' D' K', partL (C, D, K) l = (C', D', K') ∧ e = .returned (formV (some ⟨B1, 0, none⟩) 3 3 (some ⟨B2, 0, none⟩) 2 2 K') ∧ C'.length = 3 ∧ D'.length = 2 ∧ Touch (fun x => x = B1 ∨ x = B2) w w' ∧ Blk w' B1 C' ∧ Blk w' B2 D' := by
  have HL : Hid (C.length = 3 ∧ D.length = 2) := ⟨l1, l2⟩
  have zz1 := k1.lt
  have zz2 := k2.lt
  have HLN : Hid _ := hl
  have HX : Hid _ := hX
  have HY : Hid _ := hY
  have hlt2 : j < l.length := by omega
  have hlt1 : j + 1 < l.length := by omega
  have hB2' := str_at (l := l) (k := j) hlt2
  have hB1' := str_at (l := l) (k := j + 1) hlt1
  rw [hX] at hB2'
  rw [hY] at hB1'
  clear hX hY
  have hex : (⟨l.toArray⟩ : ByteArray).extract 0 j = ⟨(l.take j).toArray⟩ := by
    apply ByteArray.ext
    rw [← Array.toList_inj]
    rw [Lib.extract_data]
    simp
  have h2 : (2 : Int) < (l.length : Int) := by omega
  subst hx
  have hx' : ((⟨l.toArray⟩ : ByteArray)[j]'(str_lt hlt2)).toNat = 97 := by rw [hB2']; rfl
  clear hB2'
  by_cases hk : 48 ≤ y.toNat ∧ y.toNat ≤ 49
  · obtain ⟨kk, hkk⟩ : ∃ kk, y.toNat = kk + 48 := ⟨y.toNat - 48, by omega⟩
    have hkx : kk ≤ 1 := by omega
    have hy' : ((⟨l.toArray⟩ : ByteArray)[j + 1]'(str_lt hlt1)).toNat = kk + 48 := by rw [hB1']; exact hkk
    have hin : inB (kk : Int) 0 1 = true := inB_iff.2 ⟨by omega, by omega⟩
    have PART : Hid (partL (C, D, K) l = (C, D.set kk (numL (l.take j)).1, K)) := by
      show _ = _
      rw [part_form (C, D, K) HLN.out hj HX.out HY.out, if_pos (Or.inr rfl), if_neg (by decide), hkk, if_pos (by rw [inB_iff]; omega), Nat.add_sub_cancel]
    clear hkk hB1' hk
    go_enter Tryz.func32, Tryz.ntmps32
    go_upto_region 1 with fail
    obtain ⟨W0, hW0⟩ : ∃ W0, W0 = (w.alloc (.cells #[.slice (some ⟨B1, 0, none⟩) 3 3, .slice (some ⟨B2, 0, none⟩) 2 2, .int .i64 K] 24)).alloc (.cells #[.slice none 0 0, .slice none 0 0, .int .i64 0] 24) := ⟨_, rfl⟩
    have A1 : Below w.heap.size w (w.alloc (.cells #[.slice (some ⟨B1, 0, none⟩) 3 3, .slice (some ⟨B2, 0, none⟩) 2 2, .int .i64 K] 24)) := (Below.refl _ _).alloc (Nat.le_refl _) _
    have A2 : Below (w.alloc (.cells #[.slice (some ⟨B1, 0, none⟩) 3 3, .slice (some ⟨B2, 0, none⟩) 2 2, .int .i64 K] 24)).heap.size (w.alloc (.cells #[.slice (some ⟨B1, 0, none⟩) 3 3, .slice (some ⟨B2, 0, none⟩) 2 2, .int .i64 K] 24)) ((w.alloc (.cells #[.slice (some ⟨B1, 0, none⟩) 3 3, .slice (some ⟨B2, 0, none⟩) 2 2, .int .i64 K] 24)).alloc (.cells #[.slice none 0 0, .slice none 0 0, .int .i64 0] 24)) := (Below.refl _ _).alloc (Nat.le_refl _) _
    have xb : Cel W0 w.heap.size [.slice (some ⟨B1, 0, none⟩) 3 3, .slice (some ⟨B2, 0, none⟩) 2 2, .int .i64 K] 24 := by rw [hW0]; exact (Cel.new w _ _).below A2
    have xr : Cel W0 (w.heap.size + 1) [.slice none 0 0, .slice none 0 0, .int .i64 0] 24 := by
      have := Cel.new (w.alloc (.cells #[.slice (some ⟨B1, 0, none⟩) 3 3, .slice (some ⟨B2, 0, none⟩) 2 2, .int .i64 K] 24)) [.slice none 0 0, .slice none 0 0, .int .i64 0] 24
      rw [World.size_alloc] at this
      rw [hW0]; exact this
    have BW : Below w.heap.size w W0 := by rw [hW0]; exact A1.trans (A2.mono A1.size)
    have K1 := k1.below BW
    have K2 := k2.below BW
    have T0 : Touch (fun x => x = B1 ∨ x = B2) w W0 := Touch.of BW
    rw [← hW0]
    clear hW0 A1 A2 BW k1 k2 l1 l2
    have zb := xb.lt
    have zr := xr.lt
    go_wp2_with fail
    refine (num_any _ _ (by rw [List.length_take]; omega)).mono ?_
    rintro e w4 ⟨rfl, hw4⟩
    rw [hw4]
    clear hw4
    generalize (numL (l.take j)).1 = z at *
    generalize (numL (l.take j)).2 = z2 at *
    go_wp2_with fail
    refine (in_any _ _ _ _).mono ?_
    rintro e w5 ⟨rfl, hw5⟩
    rw [hw5, hin]
    clear hw5
    have hc := K2.cell kk (by rw [HL.out.2]; omega)
    have hf := K2.free kk
    have KS := K2.set kk z
    have KO := K1.setOther (show B1 ≠ B2 from n12) kk (.int .i64 z)
    have xb1 := xb.setOther (show w.heap.size ≠ B2 by omega) kk (.int .i64 z)
    have xr1 := xr.setOther (show w.heap.size + 1 ≠ B2 by omega) kk (.int .i64 z)
    have T1 : Touch (fun x => x = B1 ∨ x = B2) w (W0.setCell ⟨B2, kk, none⟩ (.int .i64 z)) := Touch.setCell (S := fun x => x = B1 ∨ x = B2) T0 (Or.inr rfl) _
    have b0 := xb.cell 1
    simp only [List.getElem?_cons_zero, List.getElem?_cons_succ] at b0
    have g0 := xb1.cell 0
    have g1 := xb1.cell 1
    have g2 := xb1.cell 2
    have d0 := xr1.cell 0
    have d1 := xr1.cell 1
    have d2 := xr1.cell 2
    have q0 := xr1.free 0
    have q1 := xr1.free 1
    have q2 := xr1.free 2
    simp only [List.getElem?_cons_zero, List.getElem?_cons_succ] at g0 g1 g2 d0 d1 d2
    clear K1 K2 xb xr xb1 xr1 T0
    go_wp2
    exact bodyPost_ret (v := formV (some ⟨B1, 0, none⟩) 3 3 (some ⟨B2, 0, none⟩) 2 2 K) (by simp [results, Tryz.results32, go_sem, d0, d1, d2]) rfl ⟨_, _, K, PART.out, rfl, HL.out.1, by rw [List.length_set]; exact HL.out.2, ((Touch.setNew (Touch.setNew (Touch.setNew T1 (B := w.heap.size + 1) (by omega) _) (B := w.heap.size + 1) (by omega) _) (B := w.heap.size + 1) (by omega) _)), ((KO.setOther (by omega) _ _).setOther (by omega) _ _).setOther (by omega) _ _, ((KS.setOther (by omega) _ _).setOther (by omega) _ _).setOther (by omega) _ _⟩
  · have hin : inB ((y.toNat : Int) - 48) 0 1 = false := inB_not.2 (by omega)
    have PART : Hid (partL (C, D, K) l = (C, D, K)) := by
      show _ = _
      rw [part_form (C, D, K) HLN.out hj HX.out HY.out, if_pos (Or.inr rfl), if_neg (by decide), hin, if_neg (by decide)]
    have hyb : y.toNat ≤ 255 := by have := y.toNat_lt; omega
    clear hk
    go_enter Tryz.func32, Tryz.ntmps32
    go_upto_region 1 with fail
    obtain ⟨W0, hW0⟩ : ∃ W0, W0 = (w.alloc (.cells #[.slice (some ⟨B1, 0, none⟩) 3 3, .slice (some ⟨B2, 0, none⟩) 2 2, .int .i64 K] 24)).alloc (.cells #[.slice none 0 0, .slice none 0 0, .int .i64 0] 24) := ⟨_, rfl⟩
    have A1 : Below w.heap.size w (w.alloc (.cells #[.slice (some ⟨B1, 0, none⟩) 3 3, .slice (some ⟨B2, 0, none⟩) 2 2, .int .i64 K] 24)) := (Below.refl _ _).alloc (Nat.le_refl _) _
    have A2 : Below (w.alloc (.cells #[.slice (some ⟨B1, 0, none⟩) 3 3, .slice (some ⟨B2, 0, none⟩) 2 2, .int .i64 K] 24)).heap.size (w.alloc (.cells #[.slice (some ⟨B1, 0, none⟩) 3 3, .slice (some ⟨B2, 0, none⟩) 2 2, .int .i64 K] 24)) ((w.alloc (.cells #[.slice (some ⟨B1, 0, none⟩) 3 3, .slice (some ⟨B2, 0, none⟩) 2 2, .int .i64 K] 24)).alloc (.cells #[.slice none 0 0, .slice none 0 0, .int .i64 0] 24)) := (Below.refl _ _).alloc (Nat.le_refl _) _
    have xb : Cel W0 w.heap.size [.slice (some ⟨B1, 0, none⟩) 3 3, .slice (some ⟨B2, 0, none⟩) 2 2, .int .i64 K] 24 := by rw [hW0]; exact (Cel.new w _ _).below A2
    have xr : Cel W0 (w.heap.size + 1) [.slice none 0 0, .slice none 0 0, .int .i64 0] 24 := by
      have := Cel.new (w.alloc (.cells #[.slice (some ⟨B1, 0, none⟩) 3 3, .slice (some ⟨B2, 0, none⟩) 2 2, .int .i64 K] 24)) [.slice none 0 0, .slice none 0 0, .int .i64 0] 24
      rw [World.size_alloc] at this
      rw [hW0]; exact this
    have BW : Below w.heap.size w W0 := by rw [hW0]; exact A1.trans (A2.mono A1.size)
    have K1 := k1.below BW
    have K2 := k2.below BW
    have T0 : Touch (fun x => x = B1 ∨ x = B2) w W0 := Touch.of BW
    rw [← hW0]
    clear hW0 A1 A2 BW k1 k2 l1 l2
    have zb := xb.lt
    have zr := xr.lt
    go_wp2_with fail
    refine (num_any _ _ (by rw [List.length_take]; omega)).mono ?_
    rintro e w4 ⟨rfl, hw4⟩
    rw [hw4]
    clear hw4
    generalize (numL (l.take j)).1 = z at *
    generalize (numL (l.take j)).2 = z2 at *
    go_wp2_with fail
    refine (in_any _ _ _ _).mono ?_
    rintro e w5 ⟨rfl, hw5⟩
    rw [hw5, hin]
    clear hw5
    have g0 := xb.cell 0
    have g1 := xb.cell 1
    have g2 := xb.cell 2
    have d0 := xr.cell 0
    have d1 := xr.cell 1
    have d2 := xr.cell 2
    have q0 := xr.free 0
    have q1 := xr.free 1
    have q2 := xr.free 2
    simp only [List.getElem?_cons_zero, List.getElem?_cons_succ] at g0 g1 g2 d0 d1 d2
    clear xb xr
    go_wp2
    exact bodyPost_ret (v := formV (some ⟨B1, 0, none⟩) 3 3 (some ⟨B2, 0, none⟩) 2 2 K) (by simp [results, Tryz.results32, go_sem, d0, d1, d2]) rfl ⟨C, D, K, PART.out, rfl, HL.out.1, HL.out.2, ((Touch.setNew (Touch.setNew (Touch.setNew T0 (B := w.heap.size + 1) (by omega) _) (B := w.heap.size + 1) (by omega) _) (B := w.heap.size + 1) (by omega) _)), ((K1.setOther (by omega) _ _).setOther (by omega) _ _).setOther (by omega) _ _, ((K2.setOther (by omega) _ _).setOther (by omega) _ _).setOther (by omega) _ _⟩

set_option maxHeartbeats 3200000 in
theorem spart_k (l : List UInt8) (j : Nat) (x y : UInt8) (hl : l.length = j + 2) (hj : 0 < j) (hX : l[j]?.getD 0 = x) (hY : l[j + 1]?.getD 0 = y) (hx : ¬ x = 120) (hx2 : ¬ x = 97) (B1 B2 : Nat) (C D : List Int) (K : Int) (w : World) (hs : l.length ≤ 120) (k1 : Blk w B1 C) (k2 : Blk w B2 D) (l1 : C.length = 3) (l2 : D.length = 2) (n12 : B1 ≠ B2) :
    Calls Tryz.prog 32 #[formV (some ⟨B1, 0, none⟩) 3 3 (some ⟨B2, 0, none⟩) 2 2 K, .string ⟨l.toArray⟩] w fun e w' => ∃ C' D' K', partL (C, D, K) l = (C', D', K') ∧ e = .returned (formV (some ⟨B1, 0, none⟩) 3 3 (some ⟨B2, 0, none⟩) 2 2 K') ∧ C'.length = 3 ∧ D'.length = 2 ∧ Touch (fun x => x = B1 ∨ x = B2) w w' ∧ Blk w' B1 C' ∧ Blk w' B2 D' := by
  have HL : Hid (C.length = 3 ∧ D.length = 2) := ⟨l1, l2⟩
  have zz1 := k1.lt
  have zz2 := k2.lt
  have HLN : Hid _ := hl
  have HX : Hid _ := hX
  have HY : Hid _ := hY
  have hlt2 : j < l.length := by omega
  have hlt1 : j + 1 < l.length := by omega
  have hB2' := str_at (l := l) (k := j) hlt2
  have hB1' := str_at (l := l) (k := j + 1) hlt1
  rw [hX] at hB2'
  rw [hY] at hB1'
  clear hX hY
  have hex : (⟨l.toArray⟩ : ByteArray).extract 0 j = ⟨(l.take j).toArray⟩ := by
    apply ByteArray.ext
    rw [← Array.toList_inj]
    rw [Lib.extract_data]
    simp
  have h2 : (2 : Int) < (l.length : Int) := by omega
  have hu : ((((⟨l.toArray⟩ : ByteArray)[j]'(str_lt hlt2)).toNat : Int) == 120) = false := by
    rw [hB2']
    have : ¬ x.toNat = 120 := fun e => hx (UInt8.toNat_inj.1 (by rw [e]; rfl))
    simp; omega
  have hv : ((((⟨l.toArray⟩ : ByteArray)[j]'(str_lt hlt2)).toNat : Int) == 97) = false := by
    rw [hB2']
    have : ¬ x.toNat = 97 := fun e => hx2 (UInt8.toNat_inj.1 (by rw [e]; rfl))
    simp; omega
  have PART : Hid (partL (C, D, K) l = (C, D, (numL l).1)) := by
    show _ = _
    rw [part_form (C, D, K) HLN.out hj HX.out HY.out, if_neg (by rintro (h | h); exact hx h; exact hx2 h)]
  clear hB2' hB1' hex hx hx2
  go_enter Tryz.func32, Tryz.ntmps32
  go_upto_region 1 with fail
  obtain ⟨W0, hW0⟩ : ∃ W0, W0 = (w.alloc (.cells #[.slice (some ⟨B1, 0, none⟩) 3 3, .slice (some ⟨B2, 0, none⟩) 2 2, .int .i64 K] 24)).alloc (.cells #[.slice none 0 0, .slice none 0 0, .int .i64 0] 24) := ⟨_, rfl⟩
  have A1 : Below w.heap.size w (w.alloc (.cells #[.slice (some ⟨B1, 0, none⟩) 3 3, .slice (some ⟨B2, 0, none⟩) 2 2, .int .i64 K] 24)) := (Below.refl _ _).alloc (Nat.le_refl _) _
  have A2 : Below (w.alloc (.cells #[.slice (some ⟨B1, 0, none⟩) 3 3, .slice (some ⟨B2, 0, none⟩) 2 2, .int .i64 K] 24)).heap.size (w.alloc (.cells #[.slice (some ⟨B1, 0, none⟩) 3 3, .slice (some ⟨B2, 0, none⟩) 2 2, .int .i64 K] 24)) ((w.alloc (.cells #[.slice (some ⟨B1, 0, none⟩) 3 3, .slice (some ⟨B2, 0, none⟩) 2 2, .int .i64 K] 24)).alloc (.cells #[.slice none 0 0, .slice none 0 0, .int .i64 0] 24)) := (Below.refl _ _).alloc (Nat.le_refl _) _
  have xb : Cel W0 w.heap.size [.slice (some ⟨B1, 0, none⟩) 3 3, .slice (some ⟨B2, 0, none⟩) 2 2, .int .i64 K] 24 := by rw [hW0]; exact (Cel.new w _ _).below A2
  have xr : Cel W0 (w.heap.size + 1) [.slice none 0 0, .slice none 0 0, .int .i64 0] 24 := by
    have := Cel.new (w.alloc (.cells #[.slice (some ⟨B1, 0, none⟩) 3 3, .slice (some ⟨B2, 0, none⟩) 2 2, .int .i64 K] 24)) [.slice none 0 0, .slice none 0 0, .int .i64 0] 24
    rw [World.size_alloc] at this
    rw [hW0]; exact this
  have BW : Below w.heap.size w W0 := by rw [hW0]; exact A1.trans (A2.mono A1.size)
  have K1 := k1.below BW
  have K2 := k2.below BW
  have T0 : Touch (fun x => x = B1 ∨ x = B2) w W0 := Touch.of BW
  rw [← hW0]
  clear hW0 A1 A2 BW k1 k2 l1 l2
  have zb := xb.lt
  have zr := xr.lt
  go_wp2_with fail
  refine (num_any _ _ hs).mono ?_
  rintro e w4 ⟨rfl, hw4⟩
  rw [hw4]
  clear hw4
  generalize (numL l).1 = z at *
  generalize (numL l).2 = z2 at *
  have xb1 := xb.set 2 (.int .i64 z)
  have xr1 := xr.setOther (show w.heap.size + 1 ≠ w.heap.size by omega) 2 (.int .i64 z)
  have KA := K1.setOther (show B1 ≠ w.heap.size by omega) 2 (.int .i64 z)
  have KB := K2.setOther (show B2 ≠ w.heap.size by omega) 2 (.int .i64 z)
  have T1 : Touch (fun x => x = B1 ∨ x = B2) w (W0.setCell ⟨w.heap.size, 2, none⟩ (.int .i64 z)) := Touch.setNew T0 (Nat.le_refl _) _
  have b2 := xb.cell 2
  have p2 := xb.free 2
  simp only [List.getElem?_cons_zero, List.getElem?_cons_succ] at b2
  have g0 := xb1.cell 0
  have g1 := xb1.cell 1
  have g2 := xb1.cell 2
  have d0 := xr1.cell 0
  have d1 := xr1.cell 1
  have d2 := xr1.cell 2
  have q0 := xr1.free 0
  have q1 := xr1.free 1
  have q2 := xr1.free 2
  simp only [List.set_cons_zero, List.set_cons_succ, List.getElem?_cons_zero, List.getElem?_cons_succ] at g0 g1 g2 d0 d1 d2
  clear K1 K2 xb xr xb1 xr1 T0
  go_wp2
  exact bodyPost_ret (v := formV (some ⟨B1, 0, none⟩) 3 3 (some ⟨B2, 0, none⟩) 2 2 z) (by simp [results, Tryz.results32, go_sem, d0, d1, d2]) rfl ⟨C, D, z, PART.out, rfl, HL.out.1, HL.out.2, ((Touch.setNew (Touch.setNew (Touch.setNew T1 (B := w.heap.size + 1) (by omega) _) (B := w.heap.size + 1) (by omega) _) (B := w.heap.size + 1) (by omega) _)), ((KA.setOther (by omega) _ _).setOther (by omega) _ _).setOther (by omega) _ _, ((KB.setOther (by omega) _ _).setOther (by omega) _ _).setOther (by omega) _ _⟩

set_option maxHeartbeats 3200000 in
theorem spart_s (l : List UInt8) (h2 : l.length ≤ 2) (B1 B2 : Nat) (C D : List Int) (K : Int) (w : World) (hs : l.length ≤ 120) (k1 : Blk w B1 C) (k2 : Blk w B2 D) (l1 : C.length = 3) (l2 : D.length = 2) (n12 : B1 ≠ B2) :
    Calls Tryz.prog 32 #[formV (some ⟨B1, 0, none⟩) 3 3 (some ⟨B2, 0, none⟩) 2 2 K, .string ⟨l.toArray⟩] w fun e w' => ∃ C' D' K', partL (C, D, K) l = (C', D', K') ∧ e = .returned (formV (some ⟨B1, 0, none⟩) 3 3 (some ⟨B2, 0, none⟩) 2 2 K') ∧ C'.length = 3 ∧ D'.length = 2 ∧ Touch (fun x => x = B1 ∨ x = B2) w w' ∧ Blk w' B1 C' ∧ Blk w' B2 D' := by
  have HL : Hid (C.length = 3 ∧ D.length = 2) := ⟨l1, l2⟩
  have zz1 := k1.lt
  have zz2 := k2.lt
  have h2' : ¬ (2 : Int) < (l.length : Int) := by omega
  have PART : Hid (partL (C, D, K) l = (C, D, (numL l).1)) := part_short (C, D, K) h2
  go_enter Tryz.func32, Tryz.ntmps32
  go_upto_region 1 with fail
  obtain ⟨W0, hW0⟩ : ∃ W0, W0 = (w.alloc (.cells #[.slice (some ⟨B1, 0, none⟩) 3 3, .slice (some ⟨B2, 0, none⟩) 2 2, .int .i64 K] 24)).alloc (.cells #[.slice none 0 0, .slice none 0 0, .int .i64 0] 24) := ⟨_, rfl⟩
  have A1 : Below w.heap.size w (w.alloc (.cells #[.slice (some ⟨B1, 0, none⟩) 3 3, .slice (some ⟨B2, 0, none⟩) 2 2, .int .i64 K] 24)) := (Below.refl _ _).alloc (Nat.le_refl _) _
  have A2 : Below (w.alloc (.cells #[.slice (some ⟨B1, 0, none⟩) 3 3, .slice (some ⟨B2, 0, none⟩) 2 2, .int .i64 K] 24)).heap.size (w.alloc (.cells #[.slice (some ⟨B1, 0, none⟩) 3 3, .slice (some ⟨B2, 0, none⟩) 2 2, .int .i64 K] 24)) ((w.alloc (.cells #[.slice (some ⟨B1, 0, none⟩) 3 3, .slice (some ⟨B2, 0, none⟩) 2 2, .int .i64 K] 24)).alloc (.cells #[.slice none 0 0, .slice none 0 0, .int .i64 0] 24)) := (Below.refl _ _).alloc (Nat.le_refl _) _
  have xb : Cel W0 w.heap.size [.slice (some ⟨B1, 0, none⟩) 3 3, .slice (some ⟨B2, 0, none⟩) 2 2, .int .i64 K] 24 := by rw [hW0]; exact (Cel.new w _ _).below A2
  have xr : Cel W0 (w.heap.size + 1) [.slice none 0 0, .slice none 0 0, .int .i64 0] 24 := by
    have := Cel.new (w.alloc (.cells #[.slice (some ⟨B1, 0, none⟩) 3 3, .slice (some ⟨B2, 0, none⟩) 2 2, .int .i64 K] 24)) [.slice none 0 0, .slice none 0 0, .int .i64 0] 24
    rw [World.size_alloc] at this
    rw [hW0]; exact this
  have BW : Below w.heap.size w W0 := by rw [hW0]; exact A1.trans (A2.mono A1.size)
  have K1 := k1.below BW
  have K2 := k2.below BW
  have T0 : Touch (fun x => x = B1 ∨ x = B2) w W0 := Touch.of BW
  rw [← hW0]
  clear hW0 A1 A2 BW k1 k2 l1 l2
  have zb := xb.lt
  have zr := xr.lt
  go_wp2_with fail
  refine (num_any _ _ hs).mono ?_
  rintro e w4 ⟨rfl, hw4⟩
  rw [hw4]
  clear hw4
  generalize (numL l).1 = z at *
  generalize (numL l).2 = z2 at *
  have xb1 := xb.set 2 (.int .i64 z)
  have xr1 := xr.setOther (show w.heap.size + 1 ≠ w.heap.size by omega) 2 (.int .i64 z)
  have KA := K1.setOther (show B1 ≠ w.heap.size by omega) 2 (.int .i64 z)
  have KB := K2.setOther (show B2 ≠ w.heap.size by omega) 2 (.int .i64 z)
  have T1 : Touch (fun x => x = B1 ∨ x = B2) w (W0.setCell ⟨w.heap.size, 2, none⟩ (.int .i64 z)) := Touch.setNew T0 (Nat.le_refl _) _
  have b2 := xb.cell 2
  have p2 := xb.free 2
  simp only [List.getElem?_cons_zero, List.getElem?_cons_succ] at b2
  have g0 := xb1.cell 0
  have g1 := xb1.cell 1
  have g2 := xb1.cell 2
  have d0 := xr1.cell 0
  have d1 := xr1.cell 1
  have d2 := xr1.cell 2
  have q0 := xr1.free 0
  have q1 := xr1.free 1
  have q2 := xr1.free 2
  simp only [List.set_cons_zero, List.set_cons_succ, List.getElem?_cons_zero, List.getElem?_cons_succ] at g0 g1 g2 d0 d1 d2
  clear K1 K2 xb xr xb1 xr1 T0
  go_wp2
  exact bodyPost_ret (v := formV (some ⟨B1, 0, none⟩) 3 3 (some ⟨B2, 0, none⟩) 2 2 z) (by simp [results, Tryz.results32, go_sem, d0, d1, d2]) rfl ⟨C, D, z, PART.out, rfl, HL.out.1, HL.out.2, ((Touch.setNew (Touch.setNew (Touch.setNew T1 (B := w.heap.size + 1) (by omega) _) (B := w.heap.size + 1) (by omega) _) (B := w.heap.size + 1) (by omega) _)), ((KA.setOther (by omega) _ _).setOther (by omega) _ _).setOther (by omega) _ _, ((KB.setOther (by omega) _ _).setOther (by omega) _ _).setOther (by omega) _ _⟩

theorem spart_any (l : List UInt8) (B1 B2 : Nat) (C D : List Int) (K : Int) (w : World) (hs : l.length ≤ 120) (k1 : Blk w B1 C) (k2 : Blk w B2 D) (l1 : C.length = 3) (l2 : D.length = 2) (n12 : B1 ≠ B2) :
    Calls Tryz.prog 32 #[formV (some ⟨B1, 0, none⟩) 3 3 (some ⟨B2, 0, none⟩) 2 2 K, .string ⟨l.toArray⟩] w fun e w' => ∃ C' D' K', partL (C, D, K) l = (C', D', K') ∧ e = .returned (formV (some ⟨B1, 0, none⟩) 3 3 (some ⟨B2, 0, none⟩) 2 2 K') ∧ C'.length = 3 ∧ D'.length = 2 ∧ Touch (fun x => x = B1 ∨ x = B2) w w' ∧ Blk w' B1 C' ∧ Blk w' B2 D' := by
  by_cases h2 : l.length ≤ 2
  · exact spart_s l h2 B1 B2 C D K w hs k1 k2 l1 l2 n12
  obtain ⟨j, hj⟩ : ∃ j, l.length = j + 2 := ⟨l.length - 2, by omega⟩
  by_cases hx : l[j]?.getD 0 = 120
  · exact spart_x l j _ _ hj (by omega) rfl rfl hx B1 B2 C D K w hs k1 k2 l1 l2 n12
  by_cases hx2 : l[j]?.getD 0 = 97
  · exact spart_a l j _ _ hj (by omega) rfl rfl hx2 B1 B2 C D K w hs k1 k2 l1 l2 n12
  exact spart_k l j _ _ hj (by omega) rfl rfl hx hx2 B1 B2 C D K w hs k1 k2 l1 l2 n12

end Go.Proofs.YtkmacleakfbobabGreatDoor
