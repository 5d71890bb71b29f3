/-
  Lemmas that the claim's last text rests on: RfV, RdJ, RdK, Shelf2, RdL, RfW, Shelf3, RfX.
-/
import Derived.Test.YtfkcfjkojfnfnaaDoorRfU
import Derived.Test.YtfkcfjkojfnfnaaDoorRdI
import Derived.Deep.RegionHeld3
import Derived.Deep.DeepCutAuto
import Derived.Shelf.LaysM
import Derived.Shelf.LaysC
import Derived.Shelf.Strings.SplitShaped
import Derived.Shelf.Strconv.ErrVarAll
import Derived.Test.YtfkcfjkojfnfnaaDoorProg
import Derived.Lib.SmallJoins
import Derived.Lib.AtoiErrMem
import Derived.Shelf.Strings.Cut
namespace Go.Proofs.YtfkcfjkojfnfnaaDoor
open Go.RowKit
set_option linter.unusedVariables false
set_option maxRecDepth 100000

theorem Touch.setNew {S : Nat → Prop} {w w' : World} (h : Touch S w w') {B i : Nat} (hB : w.heap.size ≤ B) (v : Value) : Touch S w (w'.setCell ⟨B, i, none⟩ v) :=
  ⟨h.os, h.tape, h.output, by rw [size_setCell]; exact h.size, fun k hk hn => by rw [Below.heap_setCell _ _ _ _ (show k ≠ B by omega)]; exact h.block k hk hn⟩
theorem part_form {l : List UInt8} {j : Nat} {x y : UInt8} (f : FR) (hl : l.length = j + 2) (hj : 0 < j) (hx : l[j]?.getD 0 = x) (hy : l[j + 1]?.getD 0 = y) : partL f l = if x = 120 ∨ x = 97 then (if x = 120 then (if inB (y.toNat - 48) 0 2 = true then (f.1.set (y.toNat - 48) (numL (l.take j)).1, f.2.1, f.2.2) else f) else (if inB (y.toNat - 48) 0 1 = true then (f.1, f.2.1.set (y.toNat - 48) (numL (l.take j)).1, f.2.2) else f)) else (f.1, f.2.1, (numL l).1) := by
  have h1 : byteAt l (l.length - 2) = x := by rw [hl, byteAt]; exact hx
  have h2 : byteAt l (l.length - 1) = y := by rw [hl, byteAt]; exact hy
  rw [partL, h1, h2, hl, show j + 2 - 2 = j by omega]
  by_cases h : x = 120 ∨ x = 97
  · rw [if_pos ⟨by omega, h⟩, if_pos h]
  · rw [if_neg (fun g => h g.2), if_neg h]
theorem part_short {l : List UInt8} (f : FR) (hl : l.length ≤ 2) : partL f l = (f.1, f.2.1, (numL l).1) := by
  rw [partL, if_neg (fun g => by have := g.1; omega)]

set_option maxHeartbeats 3200000 in
theorem spart_x (l : List UInt8) (j : Nat) (x y : UInt8) (hl : l.length = j + 2) (hj : 0 < j) (hX : l[j]?.getD 0 = x) (hY : l[j + 1]?.getD 0 = y) (hx : x = 120) (B1 B2 : Nat) (C D : List Int) (K : Int) (w : World) (hs : l.length ≤ 120) (k1 : Blk w B1 C) (k2 : Blk w B2 D) (l1 : C.length = 3) (l2 : D.length = 2) (n12 : B1 ≠ B2) :
    Calls Tryd.prog 47 #[formV (some ⟨B1, 0, none⟩) 3 3 (some ⟨B2, 0, none⟩) 2 2 K, .string ⟨l.toArray⟩] w fun e w' => ∃ C' D' K', partL (C, D, K) l = (C', D', K') ∧ e = .returned (formV (some ⟨B1, 0, none⟩) 3 3 (some ⟨B2, 0, none⟩) 2 2 K') ∧ C'.length = 3 ∧ D'.length = 2 ∧ Touch (fun x => x = B1 ∨ x = B2) w w' ∧ Blk w' B1 C' ∧ Blk w' B2 D' := by
  have HL : Hid (C.length = 3 ∧ D.length = 2) := ⟨l1, l2⟩
  have zz1 := k1.lt
  have zz2 := k2.lt
  have HLN : Hid _ := hl
  have HX : Hid _ := hX
  have HY : Hid _ := hY
  have hlt2 : j < l.length := by omega
  have hlt1 : j + 1 < l.length := by omega
  have hB2' := str_at (l := l) (k := j) hlt2
  have hB1' := str_at (l := l) (k := j + 1) hlt1
  rw [hX] at hB2'
  rw [hY] at hB1'
  clear hX hY
  have hex : (⟨l.toArray⟩ : ByteArray).extract 0 j = ⟨(l.take j).toArray⟩ := by
    apply ByteArray.ext
    rw [← Array.toList_inj]
    rw [Lib.extract_data]
    simp
  have h2 : (2 : Int) < (l.length : Int) := by omega
  subst hx
  have hx' : ((⟨l.toArray⟩ : ByteArray)[j]'(str_lt hlt2)).toNat = 120 := by rw [hB2']; rfl
  clear hB2'
  by_cases hk : 48 ≤ y.toNat ∧ y.toNat ≤ 50
  · obtain ⟨kk, hkk⟩ : ∃ kk, y.toNat = kk + 48 := ⟨y.toNat - 48, by omega⟩
    have hkx : kk ≤ 2 := by omega
    have hy' : ((⟨l.toArray⟩ : ByteArray)[j + 1]'(str_lt hlt1)).toNat = kk + 48 := by rw [hB1']; exact hkk
    have hin : inB (kk : Int) 0 2 = true := inB_iff.2 ⟨by omega, by omega⟩
    have PART : Hid (partL (C, D, K) l = (C.set kk (numL (l.take j)).1, D, K)) := by
      show _ = _
      rw [part_form (C, D, K) HLN.out hj HX.out HY.out, if_pos (Or.inl rfl), if_pos rfl, hkk, if_pos (by rw [inB_iff]; omega), Nat.add_sub_cancel]
    clear hkk hB1' hk
    go_enter Tryd.func47, Tryd.ntmps47
    go_upto_region 1 with fail
    obtain ⟨W0, hW0⟩ : ∃ W0, W0 = (w.alloc (.cells #[.slice (some ⟨B1, 0, none⟩) 3 3, .slice (some ⟨B2, 0, none⟩) 2 2, .int .i64 K] 25)).alloc (.cells #[.slice none 0 0, .slice none 0 0, .int .i64 0] 25) := ⟨_, rfl⟩
    have A1 : Below w.heap.size w (w.alloc (.cells #[.slice (some ⟨B1, 0, none⟩) 3 3, .slice (some ⟨B2, 0, none⟩) 2 2, .int .i64 K] 25)) := (Below.refl _ _).alloc (Nat.le_refl _) _
    have A2 : Below (w.alloc (.cells #[.slice (some ⟨B1, 0, none⟩) 3 3, .slice (some ⟨B2, 0, none⟩) 2 2, .int .i64 K] 25)).heap.size (w.alloc (.cells #[.slice (some ⟨B1, 0, none⟩) 3 3, .slice (some ⟨B2, 0, none⟩) 2 2, .int .i64 K] 25)) ((w.alloc (.cells #[.slice (some ⟨B1, 0, none⟩) 3 3, .slice (some ⟨B2, 0, none⟩) 2 2, .int .i64 K] 25)).alloc (.cells #[.slice none 0 0, .slice none 0 0, .int .i64 0] 25)) := (Below.refl _ _).alloc (Nat.le_refl _) _
    have xb : Cel W0 w.heap.size [.slice (some ⟨B1, 0, none⟩) 3 3, .slice (some ⟨B2, 0, none⟩) 2 2, .int .i64 K] 25 := by rw [hW0]; exact (Cel.new w _ _).below A2
    have xr : Cel W0 (w.heap.size + 1) [.slice none 0 0, .slice none 0 0, .int .i64 0] 25 := by
      have := Cel.new (w.alloc (.cells #[.slice (some ⟨B1, 0, none⟩) 3 3, .slice (some ⟨B2, 0, none⟩) 2 2, .int .i64 K] 25)) [.slice none 0 0, .slice none 0 0, .int .i64 0] 25
      rw [World.size_alloc] at this
      rw [hW0]; exact this
    have BW : Below w.heap.size w W0 := by rw [hW0]; exact A1.trans (A2.mono A1.size)
    have K1 := k1.below BW
    have K2 := k2.below BW
    have T0 : Touch (fun x => x = B1 ∨ x = B2) w W0 := Touch.of BW
    rw [← hW0]
    clear hW0 A1 A2 BW k1 k2 l1 l2
    have zb := xb.lt
    have zr := xr.lt
    go_wp2_with fail
    refine (num_any _ _ (by rw [List.length_take]; omega)).mono ?_
    rintro e w4 ⟨rfl, hw4⟩
    rw [hw4]
    clear hw4
    generalize (numL (l.take j)).1 = z at *
    generalize (numL (l.take j)).2 = z2 at *
    go_wp2_with fail
    refine (in_any _ _ _ _).mono ?_
    rintro e w5 ⟨rfl, hw5⟩
    rw [hw5, hin]
    clear hw5
    have hc := K1.cell kk (by rw [HL.out.1]; omega)
    have hf := K1.free kk
    have KS := K1.set kk z
    have KO := K2.setOther (show B2 ≠ B1 from n12.symm) kk (.int .i64 z)
    have xb1 := xb.setOther (show w.heap.size ≠ B1 by omega) kk (.int .i64 z)
    have xr1 := xr.setOther (show w.heap.size + 1 ≠ B1 by omega) kk (.int .i64 z)
    have T1 : Touch (fun x => x = B1 ∨ x = B2) w (W0.setCell ⟨B1, kk, none⟩ (.int .i64 z)) := Touch.setCell (S := fun x => x = B1 ∨ x = B2) T0 (Or.inl rfl) _
    have b0 := xb.cell 0
    simp only [List.getElem?_cons_zero] at b0
    have g0 := xb1.cell 0
    have g1 := xb1.cell 1
    have g2 := xb1.cell 2
    have d0 := xr1.cell 0
    have d1 := xr1.cell 1
    have d2 := xr1.cell 2
    have q0 := xr1.free 0
    have q1 := xr1.free 1
    have q2 := xr1.free 2
    simp only [List.getElem?_cons_zero, List.getElem?_cons_succ] at g0 g1 g2 d0 d1 d2
    clear K1 K2 xb xr xb1 xr1 T0
    go_wp2
    exact bodyPost_ret (v := formV (some ⟨B1, 0, none⟩) 3 3 (some ⟨B2, 0, none⟩) 2 2 K) (by simp [results, Tryd.results47, go_sem, d0, d1, d2]) rfl ⟨_, _, K, PART.out, rfl, by rw [List.length_set]; exact HL.out.1, HL.out.2, ((Touch.setNew (Touch.setNew (Touch.setNew T1 (B := w.heap.size + 1) (by omega) _) (B := w.heap.size + 1) (by omega) _) (B := w.heap.size + 1) (by omega) _)), ((KS.setOther (by omega) _ _).setOther (by omega) _ _).setOther (by omega) _ _, ((KO.setOther (by omega) _ _).setOther (by omega) _ _).setOther (by omega) _ _⟩
  · have hin : inB ((y.toNat : Int) - 48) 0 2 = false := inB_not.2 (by omega)
    have PART : Hid (partL (C, D, K) l = (C, D, K)) := by
      show _ = _
      rw [part_form (C, D, K) HLN.out hj HX.out HY.out, if_pos (Or.inl rfl), if_pos rfl, hin, if_neg (by decide)]
    have hyb : y.toNat ≤ 255 := by have := y.toNat_lt; omega
    clear hk
    go_enter Tryd.func47, Tryd.ntmps47
    go_upto_region 1 with fail
    obtain ⟨W0, hW0⟩ : ∃ W0, W0 = (w.alloc (.cells #[.slice (some ⟨B1, 0, none⟩) 3 3, .slice (some ⟨B2, 0, none⟩) 2 2, .int .i64 K] 25)).alloc (.cells #[.slice none 0 0, .slice none 0 0, .int .i64 0] 25) := ⟨_, rfl⟩
    have A1 : Below w.heap.size w (w.alloc (.cells #[.slice (some ⟨B1, 0, none⟩) 3 3, .slice (some ⟨B2, 0, none⟩) 2 2, .int .i64 K] 25)) := (Below.refl _ _).alloc (Nat.le_refl _) _
    have A2 : Below (w.alloc (.cells #[.slice (some ⟨B1, 0, none⟩) 3 3, .slice (some ⟨B2, 0, none⟩) 2 2, .int .i64 K] 25)).heap.size (w.alloc (.cells #[.slice (some ⟨B1, 0, none⟩) 3 3, .slice (some ⟨B2, 0, none⟩) 2 2, .int .i64 K] 25)) ((w.alloc (.cells #[.slice (some ⟨B1, 0, none⟩) 3 3, .slice (some ⟨B2, 0, none⟩) 2 2, .int .i64 K] 25)).alloc (.cells #[.slice none 0 0, .slice none 0 0, .int .i64 0] 25)) := (Below.refl _ _).alloc (Nat.le_refl _) _
    have xb : Cel W0 w.heap.size [.slice (some ⟨B1, 0, none⟩) 3 3, .slice (some ⟨B2, 0, none⟩) 2 2, .int .i64 K] 25 := by rw [hW0]; exact (Cel.new w _ _).below A2
    have xr : Cel W0 (w.heap.size + 1) [.slice none 0 0, .slice none 0 0, .int .i64 0] 25 := by
      have := Cel.new (w.alloc (.cells #[.slice (some ⟨B1, 0, none⟩) 3 3, .slice (some ⟨B2, 0, none⟩) 2 2, .int .i64 K] 25)) [.slice none 0 0, .slice none 0 0, .int .i64 0] 25
      rw [World.size_alloc] at this
      rw [hW0]; exact this
    have BW : Below w.heap.size w W0 := by rw [hW0]; exact A1.trans (A2.mono A1.size)
    have K1 := k1.below BW
    have K2 := k2.below BW
    have T0 : Touch (fun x => x = B1 ∨ x = B2) w W0 := Touch.of BW
    rw [← hW0]
    clear hW0 A1 A2 BW k1 k2 l1 l2
    have zb := xb.lt
    have zr := xr.lt
    go_wp2_with fail
    refine (num_any _ _ (by rw [List.length_take]; omega)).mono ?_
    rintro e w4 ⟨rfl, hw4⟩
    rw [hw4]
    clear hw4
    generalize (numL (l.take j)).1 = z at *
    generalize (numL (l.take j)).2 = z2 at *
    go_wp2_with fail
    refine (in_any _ _ _ _).mono ?_
    rintro e w5 ⟨rfl, hw5⟩
    rw [hw5, hin]
    clear hw5
    have g0 := xb.cell 0
    have g1 := xb.cell 1
    have g2 := xb.cell 2
    have d0 := xr.cell 0
    have d1 := xr.cell 1
    have d2 := xr.cell 2
    have q0 := xr.free 0
    have q1 := xr.free 1
    have q2 := xr.free 2
    simp only [List.getElem?_cons_zero, List.getElem?_cons_succ] at g0 g1 g2 d0 d1 d2
    clear xb xr
    go_wp2
    exact bodyPost_ret (v := formV (some ⟨B1, 0, none⟩) 3 3 (some ⟨B2, 0, none⟩) 2 2 K) (by simp [results, Tryd.results47, go_sem, d0, d1, d2]) rfl ⟨C, D, K, PART.out, rfl, HL.out.1, HL.out.2, ((Touch.setNew (Touch.setNew (Touch.setNew T0 (B := w.heap.size + 1) (by omega) _) (B := w.heap.size + 1) (by omega) _) (B := w.heap.size + 1) (by omega) _)), ((K1.setOther (by omega) _ _).setOther (by omega) _ _).setOther (by omega) _ _, ((K2.setOther (by omega) _ _).setOther (by omega) _ _).setOther (by omega) _ _⟩

set_option maxHeartbeats 3200000 in
theorem spart_a (l : List UInt8) (j : Nat) (x y : UInt8) (hl : l.length = j + 2) (hj : 0 < j) (hX : l[j]?.getD 0 = x) (hY : l[j + 1]?.getD 0 = y) (hx : x = 97) (B1 B2 : Nat) (C D : List Int) (K : Int) (w : World) (hs : l.length ≤ 120) (k1 : Blk w B1 C) (k2 : Blk w B2 D) (l1 : C.length = 3) (l2 : D.length = 2) (n12 : B1 ≠ B2) :
    Calls Tryd.prog 47 #[formV (some ⟨B1, 0, none⟩) 3 3 (some ⟨B2, 0, none⟩) 2 2 K, .string ⟨l.toArray⟩] w fun e w' => ∃ C' D' K', partL (C, D, K) l = (C', D', K') ∧ e = .returned (formV (some ⟨B1, 0, none⟩) 3 3 (some ⟨B2, 0, none⟩) 2 2 K') ∧ C'.length = 3 ∧ D'.length = 2 ∧ Touch (fun x => x = B1 ∨ x = B2) w w' ∧ Blk w' B1 C' ∧ Blk w' B2 D' := by
  have HL : Hid (C.length = 3 ∧ D.length = 2) := ⟨l1, l2⟩
  have zz1 := k1.lt
  have zz2 := k2.lt
  have HLN : Hid _ := hl
  have HX : Hid _ := hX
  have HY : Hid _ := hY
  have hlt2 : j < l.length := by omega
  have hlt1 : j + 1 < l.length := by omega
  have hB2' := str_at (l := l) (k := j) hlt2
  have hB1' := str_at (l := l) (k := j + 1) hlt1
  rw [hX] at hB2'
  rw [hY] at hB1'
  clear hX hY
  have hex : (⟨l.toArray⟩ : ByteArray).extract 0 j = ⟨(l.take j).toArray⟩ := by
    apply ByteArray.ext
    rw [← Array.toList_inj]
    rw [Lib.extract_data]
    simp
  have h2 : (2 : Int) < (l.length : Int) := by omega
  subst hx
  have hx' : ((⟨l.toArray⟩ : ByteArray)[j]'(str_lt hlt2)).toNat = 97 := by rw [hB2']; rfl
  clear hB2'
  by_cases hk : 48 ≤ y.toNat ∧ y.toNat ≤ 49
  · obtain ⟨kk, hkk⟩ : ∃ kk, y.toNat = kk + 48 := ⟨y.toNat - 48, by omega⟩
    have hkx : kk ≤ 1 := by omega
    have hy' : ((⟨l.toArray⟩ : ByteArray)[j + 1]'(str_lt hlt1)).toNat = kk + 48 := by rw [hB1']; exact hkk
    have hin : inB (kk : Int) 0 1 = true := inB_iff.2 ⟨by omega, by omega⟩
    have PART : Hid (partL (C, D, K) l = (C, D.set kk (numL (l.take j)).1, K)) := by
      show _ = _
      rw [part_form (C, D, K) HLN.out hj HX.out HY.out, if_pos (Or.inr rfl), if_neg (by decide), hkk, if_pos (by rw [inB_iff]; omega), Nat.add_sub_cancel]
    clear hkk hB1' hk
    go_enter Tryd.func47, Tryd.ntmps47
    go_upto_region 1 with fail
    obtain ⟨W0, hW0⟩ : ∃ W0, W0 = (w.alloc (.cells #[.slice (some ⟨B1, 0, none⟩) 3 3, .slice (some ⟨B2, 0, none⟩) 2 2, .int .i64 K] 25)).alloc (.cells #[.slice none 0 0, .slice none 0 0, .int .i64 0] 25) := ⟨_, rfl⟩
    have A1 : Below w.heap.size w (w.alloc (.cells #[.slice (some ⟨B1, 0, none⟩) 3 3, .slice (some ⟨B2, 0, none⟩) 2 2, .int .i64 K] 25)) := (Below.refl _ _).alloc (Nat.le_refl _) _
    have A2 : Below (w.alloc (.cells #[.slice (some ⟨B1, 0, none⟩) 3 3, .slice (some ⟨B2, 0, none⟩) 2 2, .int .i64 K] 25)).heap.size (w.alloc (.cells #[.slice (some ⟨B1, 0, none⟩) 3 3, .slice (some ⟨B2, 0, none⟩) 2 2, .int .i64 K] 25)) ((w.alloc (.cells #[.slice (some ⟨B1, 0, none⟩) 3 3, .slice (some ⟨B2, 0, none⟩) 2 2, .int .i64 K] 25)).alloc (.cells #[.slice none 0 0, .slice none 0 0, .int .i64 0] 25)) := (Below.refl _ _).alloc (Nat.le_refl _) _
    have xb : Cel W0 w.heap.size [.slice (some ⟨B1, 0, none⟩) 3 3, .slice (some ⟨B2, 0, none⟩) 2 2, .int .i64 K] 25 := by rw [hW0]; exact (Cel.new w _ _).below A2
    have xr : Cel W0 (w.heap.size + 1) [.slice none 0 0, .slice none 0 0, .int .i64 0] 25 := by
      have := Cel.new (w.alloc (.cells #[.slice (some ⟨B1, 0, none⟩) 3 3, .slice (some ⟨B2, 0, none⟩) 2 2, .int .i64 K] 25)) [.slice none 0 0, .slice none 0 0, .int .i64 0] 25
      rw [World.size_alloc] at this
      rw [hW0]; exact this
    have BW : Below w.heap.size w W0 := by rw [hW0]; exact A1.trans (A2.mono A1.size)
    have K1 := k1.below BW
    have K2 := k2.below BW
    have T0 : Touch (fun x => x = B1 ∨ x = B2) w W0 := Touch.of BW
    rw [← hW0]
    clear hW0 A1 A2 BW k1 k2 l1 l2
    have zb := xb.lt
    have zr := xr.lt
    go_wp2_with fail
    refine (num_any _ _ (by rw [List.length_take]; omega)).mono ?_
    rintro e w4 ⟨rfl, hw4⟩
    rw [hw4]
    clear hw4
    generalize (numL (l.take j)).1 = z at *
    generalize (numL (l.take j)).2 = z2 at *
    go_wp2_with fail
    refine (in_any _ _ _ _).mono ?_
    rintro e w5 ⟨rfl, hw5⟩
    rw [hw5, hin]
    clear hw5
    have hc := K2.cell kk (by rw [HL.out.2]; omega)
    have hf := K2.free kk
    have KS := K2.set kk z
    have KO := K1.setOther (show B1 ≠ B2 from n12) kk (.int .i64 z)
    have xb1 := xb.setOther (show w.heap.size ≠ B2 by omega) kk (.int .i64 z)
    have xr1 := xr.setOther (show w.heap.size + 1 ≠ B2 by omega) kk (.int .i64 z)
    have T1 : Touch (fun x => x = B1 ∨ x = B2) w (W0.setCell ⟨B2, kk, none⟩ (.int .i64 z)) := Touch.setCell (S := fun x => x = B1 ∨ x = B2) T0 (Or.inr rfl) _
    have b0 := xb.cell 1
    simp only [List.getElem?_cons_zero, List.getElem?_cons_succ] at b0
    have g0 := xb1.cell 0
    have g1 := xb1.cell 1
    have g2 := xb1.cell 2
    have d0 := xr1.cell 0
    have d1 := xr1.cell 1
    have d2 := xr1.cell 2
    have q0 := xr1.free 0
    have q1 := xr1.free 1
    have q2 := xr1.free 2
    simp only [List.getElem?_cons_zero, List.getElem?_cons_succ] at g0 g1 g2 d0 d1 d2
    clear K1 K2 xb xr xb1 xr1 T0
    go_wp2
    exact bodyPost_ret (v := formV (some ⟨B1, 0, none⟩) 3 3 (some ⟨B2, 0, none⟩) 2 2 K) (by simp [results, Tryd.results47, go_sem, d0, d1, d2]) rfl ⟨_, _, K, PART.out, rfl, HL.out.1, by rw [List.length_set]; exact HL.out.2, ((Touch.setNew (Touch.setNew (Touch.setNew T1 (B := w.heap.size + 1) (by omega) _) (B := w.heap.size + 1) (by omega) _) (B := w.heap.size + 1) (by omega) _)), ((KO.setOther (by omega) _ _).setOther (by omega) _ _).setOther (by omega) _ _, ((KS.setOther (by omega) _ _).setOther (by omega) _ _).setOther (by omega) _ _⟩
  · have hin : inB ((y.toNat : Int) - 48) 0 1 = false := inB_not.2 (by omega)
    have PART : Hid (partL (C, D, K) l = (C, D, K)) := by
      show _ = _
      rw [part_form (C, D, K) HLN.out hj HX.out HY.out, if_pos (Or.inr rfl), if_neg (by decide), hin, if_neg (by decide)]
    have hyb : y.toNat ≤ 255 := by have := y.toNat_lt; omega
    clear hk
    go_enter Tryd.func47, Tryd.ntmps47
    go_upto_region 1 with fail
    obtain ⟨W0, hW0⟩ : ∃ W0, W0 = (w.alloc (.cells #[.slice (some ⟨B1, 0, none⟩) 3 3, .slice (some ⟨B2, 0, none⟩) 2 2, .int .i64 K] 25)).alloc (.cells #[.slice none 0 0, .slice none 0 0, .int .i64 0] 25) := ⟨_, rfl⟩
    have A1 : Below w.heap.size w (w.alloc (.cells #[.slice (some ⟨B1, 0, none⟩) 3 3, .slice (some ⟨B2, 0, none⟩) 2 2, .int .i64 K] 25)) := (Below.refl _ _).alloc (Nat.le_refl _) _
    have A2 : Below (w.alloc (.cells #[.slice (some ⟨B1, 0, none⟩) 3 3, .slice (some ⟨B2, 0, none⟩) 2 2, .int .i64 K] 25)).heap.size (w.alloc (.cells #[.slice (some ⟨B1, 0, none⟩) 3 3, .slice (some ⟨B2, 0, none⟩) 2 2, .int .i64 K] 25)) ((w.alloc (.cells #[.slice (some ⟨B1, 0, none⟩) 3 3, .slice (some ⟨B2, 0, none⟩) 2 2, .int .i64 K] 25)).alloc (.cells #[.slice none 0 0, .slice none 0 0, .int .i64 0] 25)) := (Below.refl _ _).alloc (Nat.le_refl _) _
    have xb : Cel W0 w.heap.size [.slice (some ⟨B1, 0, none⟩) 3 3, .slice (some ⟨B2, 0, none⟩) 2 2, .int .i64 K] 25 := by rw [hW0]; exact (Cel.new w _ _).below A2
    have xr : Cel W0 (w.heap.size + 1) [.slice none 0 0, .slice none 0 0, .int .i64 0] 25 := by
      have := Cel.new (w.alloc (.cells #[.slice (some ⟨B1, 0, none⟩) 3 3, .slice (some ⟨B2, 0, none⟩) 2 2, .int .i64 K] 25)) [.slice none 0 0, .slice none 0 0, .int .i64 0] 25
      rw [World.size_alloc] at this
      rw [hW0]; exact this
    have BW : Below w.heap.size w W0 := by rw [hW0]; exact A1.trans (A2.mono A1.size)
    have K1 := k1.below BW
    have K2 := k2.below BW
    have T0 : Touch (fun x => x = B1 ∨ x = B2) w W0 := Touch.of BW
    rw [← hW0]
    clear hW0 A1 A2 BW k1 k2 l1 l2
    have zb := xb.lt
    have zr := xr.lt
    go_wp2_with fail
    refine (num_any _ _ (by rw [List.length_take]; omega)).mono ?_
    rintro e w4 ⟨rfl, hw4⟩
    rw [hw4]
    clear hw4
    generalize (numL (l.take j)).1 = z at *
    generalize (numL (l.take j)).2 = z2 at *
    go_wp2_with fail
    refine (in_any _ _ _ _).mono ?_
    rintro e w5 ⟨rfl, hw5⟩
    rw [hw5, hin]
    clear hw5
    have g0 := xb.cell 0
    have g1 := xb.cell 1
    have g2 := xb.cell 2
    have d0 := xr.cell 0
    have d1 := xr.cell 1
    have d2 := xr.cell 2
    have q0 := xr.free 0
    have q1 := xr.free 1
    have q2 := xr.free 2
    simp only [List.getElem?_cons_zero, List.getElem?_cons_succ] at g0 g1 g2 d0 d1 d2
    clear xb xr
    go_wp2
    exact bodyPost_ret (v := formV (some ⟨B1, 0, none⟩) 3 3 (some ⟨B2, 0, none⟩) 2 2 K) (by simp [results, Tryd.results47, go_sem, d0, d1, d2]) rfl ⟨C, D, K, PART.out, rfl, HL.out.1, HL.out.2, ((Touch.setNew (Touch.setNew (Touch.setNew T0 (B := w.heap.size + 1) (by omega) _) (B := w.heap.size + 1) (by omega) _) (B := w.heap.size + 1) (by omega) _)), ((K1.setOther (by omega) _ _).setOther (by omega) _ _).setOther (by omega) _ _, ((K2.setOther (by omega) _ _).setOther (by omega) _ _).setOther (by omega) _ _⟩

set_option maxHeartbeats 3200000 in
theorem spart_k (l : List UInt8) (j : Nat) (x y : UInt8) (hl : l.length = j + 2) (hj : 0 < j) (hX : l[j]?.getD 0 = x) (hY : l[j + 1]?.getD 0 = y) (hx : ¬ x = 120) (hx2 : ¬ x = 97) (B1 B2 : Nat) (C D : List Int) (K : Int) (w : World) (hs : l.length ≤ 120) (k1 : Blk w B1 C) (k2 : Blk w B2 D) (l1 : C.length = 3) (l2 : D.length = 2) (n12 : B1 ≠ B2) :
    Calls Tryd.prog 47 #[formV (some ⟨B1, 0, none⟩) 3 3 (some ⟨B2, 0, none⟩) 2 2 K, .string ⟨l.toArray⟩] w fun e w' => ∃ C' D' K', partL (C, D, K) l = (C', D', K') ∧ e = .returned (formV (some ⟨B1, 0, none⟩) 3 3 (some ⟨B2, 0, none⟩) 2 2 K') ∧ C'.length = 3 ∧ D'.length = 2 ∧ Touch (fun x => x = B1 ∨ x = B2) w w' ∧ Blk w' B1 C' ∧ Blk w' B2 D' := by
  have HL : Hid (C.length = 3 ∧ D.length = 2) := ⟨l1, l2⟩
  have zz1 := k1.lt
  have zz2 := k2.lt
  have HLN : Hid _ := hl
  have HX : Hid _ := hX
  have HY : Hid _ := hY
  have hlt2 : j < l.length := by omega
  have hlt1 : j + 1 < l.length := by omega
  have hB2' := str_at (l := l) (k := j) hlt2
  have hB1' := str_at (l := l) (k := j + 1) hlt1
  rw [hX] at hB2'
  rw [hY] at hB1'
  clear hX hY
  have hex : (⟨l.toArray⟩ : ByteArray).extract 0 j = ⟨(l.take j).toArray⟩ := by
    apply ByteArray.ext
    rw [← Array.toList_inj]
    rw [Lib.extract_data]
    simp
  have h2 : (2 : Int) < (l.length : Int) := by omega
  have hu : ((((⟨l.toArray⟩ : ByteArray)[j]'(str_lt hlt2)).toNat : Int) == 120) = false := by
    rw [hB2']
    have : ¬ x.toNat = 120 := fun e => hx (UInt8.toNat_inj.1 (by rw [e]; rfl))
    simp; omega
  have hv : ((((⟨l.toArray⟩ : ByteArray)[j]'(str_lt hlt2)).toNat : Int) == 97) = false := by
    rw [hB2']
    have : ¬ x.toNat = 97 := fun e => hx2 (UInt8.toNat_inj.1 (by rw [e]; rfl))
    simp; omega
  have PART : Hid (partL (C, D, K) l = (C, D, (numL l).1)) := by
    show _ = _
    rw [part_form (C, D, K) HLN.out hj HX.out HY.out, if_neg (by rintro (h | h); exact hx h; exact hx2 h)]
  clear hB2' hB1' hex hx hx2
  go_enter Tryd.func47, Tryd.ntmps47
  go_upto_region 1 with fail
  obtain ⟨W0, hW0⟩ : ∃ W0, W0 = (w.alloc (.cells #[.slice (some ⟨B1, 0, none⟩) 3 3, .slice (some ⟨B2, 0, none⟩) 2 2, .int .i64 K] 25)).alloc (.cells #[.slice none 0 0, .slice none 0 0, .int .i64 0] 25) := ⟨_, rfl⟩
  have A1 : Below w.heap.size w (w.alloc (.cells #[.slice (some ⟨B1, 0, none⟩) 3 3, .slice (some ⟨B2, 0, none⟩) 2 2, .int .i64 K] 25)) := (Below.refl _ _).alloc (Nat.le_refl _) _
  have A2 : Below (w.alloc (.cells #[.slice (some ⟨B1, 0, none⟩) 3 3, .slice (some ⟨B2, 0, none⟩) 2 2, .int .i64 K] 25)).heap.size (w.alloc (.cells #[.slice (some ⟨B1, 0, none⟩) 3 3, .slice (some ⟨B2, 0, none⟩) 2 2, .int .i64 K] 25)) ((w.alloc (.cells #[.slice (some ⟨B1, 0, none⟩) 3 3, .slice (some ⟨B2, 0, none⟩) 2 2, .int .i64 K] 25)).alloc (.cells #[.slice none 0 0, .slice none 0 0, .int .i64 0] 25)) := (Below.refl _ _).alloc (Nat.le_refl _) _
  have xb : Cel W0 w.heap.size [.slice (some ⟨B1, 0, none⟩) 3 3, .slice (some ⟨B2, 0, none⟩) 2 2, .int .i64 K] 25 := by rw [hW0]; exact (Cel.new w _ _).below A2
  have xr : Cel W0 (w.heap.size + 1) [.slice none 0 0, .slice none 0 0, .int .i64 0] 25 := by
    have := Cel.new (w.alloc (.cells #[.slice (some ⟨B1, 0, none⟩) 3 3, .slice (some ⟨B2, 0, none⟩) 2 2, .int .i64 K] 25)) [.slice none 0 0, .slice none 0 0, .int .i64 0] 25
    rw [World.size_alloc] at this
    rw [hW0]; exact this
  have BW : Below w.heap.size w W0 := by rw [hW0]; exact A1.trans (A2.mono A1.size)
  have K1 := k1.below BW
  have K2 := k2.below BW
  have T0 : Touch (fun x => x = B1 ∨ x = B2) w W0 := Touch.of BW
  rw [← hW0]
  clear hW0 A1 A2 BW k1 k2 l1 l2
  have zb := xb.lt
  have zr := xr.lt
  go_wp2_with fail
  refine (num_any _ _ hs).mono ?_
  rintro e w4 ⟨rfl, hw4⟩
  rw [hw4]
  clear hw4
  generalize (numL l).1 = z at *
  generalize (numL l).2 = z2 at *
  have xb1 := xb.set 2 (.int .i64 z)
  have xr1 := xr.setOther (show w.heap.size + 1 ≠ w.heap.size by omega) 2 (.int .i64 z)
  have KA := K1.setOther (show B1 ≠ w.heap.size by omega) 2 (.int .i64 z)
  have KB := K2.setOther (show B2 ≠ w.heap.size by omega) 2 (.int .i64 z)
  have T1 : Touch (fun x => x = B1 ∨ x = B2) w (W0.setCell ⟨w.heap.size, 2, none⟩ (.int .i64 z)) := Touch.setNew T0 (Nat.le_refl _) _
  have b2 := xb.cell 2
  have p2 := xb.free 2
  simp only [List.getElem?_cons_zero, List.getElem?_cons_succ] at b2
  have g0 := xb1.cell 0
  have g1 := xb1.cell 1
  have g2 := xb1.cell 2
  have d0 := xr1.cell 0
  have d1 := xr1.cell 1
  have d2 := xr1.cell 2
  have q0 := xr1.free 0
  have q1 := xr1.free 1
  have q2 := xr1.free 2
  simp only [List.set_cons_zero, List.set_cons_succ, List.getElem?_cons_zero, List.getElem?_cons_succ] at g0 g1 g2 d0 d1 d2
  clear K1 K2 xb xr xb1 xr1 T0
  go_wp2
  exact bodyPost_ret (v := formV (some ⟨B1, 0, none⟩) 3 3 (some ⟨B2, 0, none⟩) 2 2 z) (by simp [results, Tryd.results47, go_sem, d0, d1, d2]) rfl ⟨C, D, z, PART.out, rfl, HL.out.1, HL.out.2, ((Touch.setNew (Touch.setNew (Touch.setNew T1 (B := w.heap.size + 1) (by omega) _) (B := w.heap.size + 1) (by omega) _) (B := w.heap.size + 1) (by omega) _)), ((KA.setOther (by omega) _ _).setOther (by omega) _ _).setOther (by omega) _ _, ((KB.setOther (by omega) _ _).setOther (by omega) _ _).setOther (by omega) _ _⟩

set_option maxHeartbeats 3200000 in
theorem spart_s (l : List UInt8) (h2 : l.length ≤ 2) (B1 B2 : Nat) (C D : List Int) (K : Int) (w : World) (hs : l.length ≤ 120) (k1 : Blk w B1 C) (k2 : Blk w B2 D) (l1 : C.length = 3) (l2 : D.length = 2) (n12 : B1 ≠ B2) :
    Calls Tryd.prog 47 #[formV (some ⟨B1, 0, none⟩) 3 3 (some ⟨B2, 0, none⟩) 2 2 K, .string ⟨l.toArray⟩] w fun e w' => ∃ C' D' K', partL (C, D, K) l = (C', D', K') ∧ e = .returned (formV (some ⟨B1, 0, none⟩) 3 3 (some ⟨B2, 0, none⟩) 2 2 K') ∧ C'.length = 3 ∧ D'.length = 2 ∧ Touch (fun x => x = B1 ∨ x = B2) w w' ∧ Blk w' B1 C' ∧ Blk w' B2 D' := by
  have HL : Hid (C.length = 3 ∧ D.length = 2) := ⟨l1, l2⟩
  have zz1 := k1.lt
  have zz2 := k2.lt
  have h2' : ¬ (2 : Int) < (l.length : Int) := by omega
  have PART : Hid (partL (C, D, K) l = (C, D, (numL l).1)) := part_short (C, D, K) h2
  go_enter Tryd.func47, Tryd.ntmps47
  go_upto_region 1 with fail
  obtain ⟨W0, hW0⟩ : ∃ W0, W0 = (w.alloc (.cells #[.slice (some ⟨B1, 0, none⟩) 3 3, .slice (some ⟨B2, 0, none⟩) 2 2, .int .i64 K] 25)).alloc (.cells #[.slice none 0 0, .slice none 0 0, .int .i64 0] 25) := ⟨_, rfl⟩
  have A1 : Below w.heap.size w (w.alloc (.cells #[.slice (some ⟨B1, 0, none⟩) 3 3, .slice (some ⟨B2, 0, none⟩) 2 2, .int .i64 K] 25)) := (Below.refl _ _).alloc (Nat.le_refl _) _
  have A2 : Below (w.alloc (.cells #[.slice (some ⟨B1, 0, none⟩) 3 3, .slice (some ⟨B2, 0, none⟩) 2 2, .int .i64 K] 25)).heap.size (w.alloc (.cells #[.slice (some ⟨B1, 0, none⟩) 3 3, .slice (some ⟨B2, 0, none⟩) 2 2, .int .i64 K] 25)) ((w.alloc (.cells #[.slice (some ⟨B1, 0, none⟩) 3 3, .slice (some ⟨B2, 0, none⟩) 2 2, .int .i64 K] 25)).alloc (.cells #[.slice none 0 0, .slice none 0 0, .int .i64 0] 25)) := (Below.refl _ _).alloc (Nat.le_refl _) _
  have xb : Cel W0 w.heap.size [.slice (some ⟨B1, 0, none⟩) 3 3, .slice (some ⟨B2, 0, none⟩) 2 2, .int .i64 K] 25 := by rw [hW0]; exact (Cel.new w _ _).below A2
  have xr : Cel W0 (w.heap.size + 1) [.slice none 0 0, .slice none 0 0, .int .i64 0] 25 := by
    have := Cel.new (w.alloc (.cells #[.slice (some ⟨B1, 0, none⟩) 3 3, .slice (some ⟨B2, 0, none⟩) 2 2, .int .i64 K] 25)) [.slice none 0 0, .slice none 0 0, .int .i64 0] 25
    rw [World.size_alloc] at this
    rw [hW0]; exact this
  have BW : Below w.heap.size w W0 := by rw [hW0]; exact A1.trans (A2.mono A1.size)
  have K1 := k1.below BW
  have K2 := k2.below BW
  have T0 : Touch (fun x => x = B1 ∨ x = B2) w W0 := Touch.of BW
  rw [← hW0]
  clear hW0 A1 A2 BW k1 k2 l1 l2
  have zb := xb.lt
  have zr := xr.lt
  go_wp2_with fail
  refine (num_any _ _ hs).mono ?_
  rintro e w4 ⟨rfl, hw4⟩
  rw [hw4]
  clear hw4
  generalize (numL l).1 = z at *
  generalize (numL l).2 = z2 at *
  have xb1 := xb.set 2 (.int .i64 z)
  have xr1 := xr.setOther (show w.heap.size + 1 ≠ w.heap.size by omega) 2 (.int .i64 z)
  have KA := K1.setOther (show B1 ≠ w.heap.size by omega) 2 (.int .i64 z)
  have KB := K2.setOther (show B2 ≠ w.heap.size by omega) 2 (.int .i64 z)
  have T1 : Touch (fun x => x = B1 ∨ x = B2) w (W0.setCell ⟨w.heap.size, 2, none⟩ (.int .i64 z)) := Touch.setNew T0 (Nat.le_refl _) _
  have b2 := xb.cell 2
  have p2 := xb.free 2
  simp only [List.getElem?_cons_zero, List.getElem?_cons_succ] at b2
  have g0 := xb1.cell 0
  have g1 := xb1.cell 1
  have g2 := xb1.cell 2
  have d0 := xr1.cell 0
  have d1 := xr1.cell 1
  have d2 := xr1.cell 2
  have q0 := xr1.free 0
  have q1 := xr1.free 1
  have q2 := xr1.free 2
  simp only [List.set_cons_zero, List.set_cons_succ, List.getElem?_cons_zero, List.getElem?_cons_succ] at g0 g1 g2 d0 d1 d2
  clear K1 K2 xb xr xb1 xr1 T0
  go_wp2
  exact bodyPost_ret (v := formV (some ⟨B1, 0, none⟩) 3 3 (some ⟨B2, 0, none⟩) 2 2 z) (by simp [results, Tryd.results47, go_sem, d0, d1, d2]) rfl ⟨C, D, z, PART.out, rfl, HL.out.1, HL.out.2, ((Touch.setNew (Touch.setNew (Touch.setNew T1 (B := w.heap.size + 1) (by omega) _) (B := w.heap.size + 1) (by omega) _) (B := w.heap.size + 1) (by omega) _)), ((KA.setOther (by omega) _ _).setOther (by omega) _ _).setOther (by omega) _ _, ((KB.setOther (by omega) _ _).setOther (by omega) _ _).setOther (by omega) _ _⟩

theorem spart_any (l : List UInt8) (B1 B2 : Nat) (C D : List Int) (K : Int) (w : World) (hs : l.length ≤ 120) (k1 : Blk w B1 C) (k2 : Blk w B2 D) (l1 : C.length = 3) (l2 : D.length = 2) (n12 : B1 ≠ B2) :
    Calls Tryd.prog 47 #[formV (some ⟨B1, 0, none⟩) 3 3 (some ⟨B2, 0, none⟩) 2 2 K, .string ⟨l.toArray⟩] w fun e w' => ∃ C' D' K', partL (C, D, K) l = (C', D', K') ∧ e = .returned (formV (some ⟨B1, 0, none⟩) 3 3 (some ⟨B2, 0, none⟩) 2 2 K') ∧ C'.length = 3 ∧ D'.length = 2 ∧ Touch (fun x => x = B1 ∨ x = B2) w w' ∧ Blk w' B1 C' ∧ Blk w' B2 D' := by
  by_cases h2 : l.length ≤ 2
  · exact spart_s l h2 B1 B2 C D K w hs k1 k2 l1 l2 n12
  obtain ⟨j, hj⟩ : ∃ j, l.length = j + 2 := ⟨l.length - 2, by omega⟩
  by_cases hx : l[j]?.getD 0 = 120
  · exact spart_x l j _ _ hj (by omega) rfl rfl hx B1 B2 C D K w hs k1 k2 l1 l2 n12
  by_cases hx2 : l[j]?.getD 0 = 97
  · exact spart_a l j _ _ hj (by omega) rfl rfl hx2 B1 B2 C D K w hs k1 k2 l1 l2 n12
  exact spart_k l j _ _ hj (by omega) rfl rfl hx hx2 B1 B2 C D K w hs k1 k2 l1 l2 n12

end Go.Proofs.YtfkcfjkojfnfnaaDoor
namespace Go.Proofs.YtfkcfjkojfnfnaaDoor
open Go.RowKit Go.Deep
set_option linter.unusedVariables false
set_option maxRecDepth 100000

theorem code_at {x : List UInt8} {k : Nat} (h1 : 1 ≤ k) (h3 : k ≤ 3) (h : wordL k = x) : codeTo x 4 = k := by
  subst h
  have : k = 1 ∨ k = 2 ∨ k = 3 := by omega
  rcases this with rfl | rfl | rfl <;> decide
theorem code_none {x : List UInt8} (h : ∀ k : Nat, 1 ≤ k → k < 4 → wordL k ≠ x) : codeTo x 4 = 0 := by
  rw [codeTo, if_neg (h 3 (by omega) (by omega)), codeTo, if_neg (h 2 (by omega) (by omega)), codeTo, if_neg (h 1 (by omega) (by omega)), codeTo]

theorem JA.box {w w3 w4 : World} {v : Value} {xs : List Int} {r : Nat} (B3 : Below w.heap.size w w3) (j : JA w3 v xs w4) (hB : w.heap.size ≤ r) (hr : r < w3.heap.size) (i l : Nat) (x y : Value) : JA w v xs ((w4.setCell ⟨r, i, none⟩ x).setCell ⟨r, l, none⟩ y) := by
  refine ⟨((B3.trans (j.b.mono B3.size)).setCell hB _).setCell hB _, j.o.1, ?_⟩
  rcases j.o.2 with h2 | ⟨g, cap, cur, hv, hg, hh, q⟩
  · exact Or.inl h2
  · have := B3.size
    refine Or.inr ⟨g, cap, cur, hv, by omega, ?_, q⟩
    rw [Below.heap_setCell _ _ _ _ (show g ≠ r by omega), Below.heap_setCell _ _ _ _ (show g ≠ r by omega)]; exact hh
theorem wordB_any (c : Int) (w : World) : Calls Tryd.prog 52 #[.int .i64 c] w fun e w' => e = .returned (.string ⟨(wordL c).toArray⟩) ∧ Below w.heap.size w w' := by
  refine (word_any c w).mono ?_
  rintro e w' ⟨h, rfl⟩
  exact ⟨h, Below.refl _ _⟩

set_option maxHeartbeats 3200000 in
theorem iwords_any (x0 : List UInt8) (ws : List (List UInt8)) (b n cap : Nat) (w : World) (hn : ws.length = n) (hn1 : n ≤ 121) (hcap : n + 1 ≤ cap) (hb : b < w.heap.size) (hW : ∀ (i : Nat) (x : List UInt8), (x0 :: ws)[i]? = some x → w.cell? ⟨b, i, none⟩ = some (.string ⟨x.toArray⟩)) (hws : ∀ x ∈ ws, x.length ≤ 120) (hA : ReadsN w) :
    Calls Tryd.prog 55 #[.slice (some ⟨b, 0, none⟩) (n + 1) cap] w fun e w' => ∃ c a q qc xs ok, e = .returned (.tuple #[resP c a q qc, .bool ok]) ∧ xs.length = q ∧ JA w (.slice a q qc) xs w' ∧ (ok = true → c ≠ 0 ∧ c = codeTo x0 4 ∧ atoiS ws = some xs) ∧ (ok = false → codeTo x0 4 = 0 ∨ atoiS ws = none) := by
  have HN : Hid _ := hn
  have HW : Hid _ := hW
  have HS : Hid _ := hws
  have HA : Hid _ := hA
  clear hn hW hws hA
  have bx0 := Cel.new w [.int .i64 0, .slice none 0 0] 36
  have B0 := (Below.refl w.heap.size w).alloc (Nat.le_refl _) (.cells #[.int .i64 0, .slice none 0 0] 36)
  go_enter Tryd.func55, Tryd.ntmps55
  go_wp2_with fail
  go_loopw [4] (fun i wr => ∃ k : Nat, 1 ≤ k ∧ k ≤ 4 ∧ i = .int .i64 k ∧ Below w.heap.size w wr ∧ Cel wr w.heap.size [.int .i64 0, .slice none 0 0] 36 ∧ ∀ q : Nat, 1 ≤ q → q < k → wordL q ≠ x0) (fun i _ => 4 - (intOf i).toNat)
  case atStart => exact ⟨1, by omega, by omega, rfl, B0, bx0, fun q h1 h2 => by omega⟩
  case round =>
    clear B0 bx0
    obtain ⟨k, hk1, hk4, rfl, B, bx, hno⟩ := hrel
    have HNO : Hid _ := hno
    clear hno
    by_cases hk : k ≤ 3
    · have hk3 : (k : Int) ≤ 3 := by omega
      have h0 : wr.cell? ⟨b, 0, none⟩ = some (.string ⟨x0.toArray⟩) := by
        rw [B.cell (p := ⟨b, 0, none⟩) hb]; exact HW.out 0 x0 rfl
      have hn0 : (0 : Int) < (n : Int) + 1 := by omega
      have hbr : b < wr.heap.size := Nat.lt_of_lt_of_le hb B.size
      obtain ⟨wk, hwk⟩ : ∃ wk, wordL k = wk := ⟨_, rfl⟩
      have HWK : Hid _ := hwk
      clear hwk
      by_cases he : x0 = wk
      · have hE1 : (x0 == wk) = true := by rw [he]; simp
        have hE2 : (wk == x0) = true := by rw [he]; simp
        have HC : Hid (codeTo x0 4 = k) := code_at hk1 hk (by rw [HWK.out, he])
        clear he
        go_upto_region 4 with fail
        go_region_held3 (fun w' => w'.cell? ⟨b, 0, none⟩ = some (.string ⟨x0.toArray⟩)) (first | with_reducible assumption | exact h0)
          (first
            | (go_at_call 52
               refine (wordB_any _ _).mono ?_
               rintro ee w3 ⟨rfl, bd⟩
               rw [HWK.out]
               have b3 := below_of_drew bd
               have h3 : w3.cell? ⟨b, 0, none⟩ = some (.string ⟨x0.toArray⟩) := by rw [b3.cell (p := ⟨b, 0, none⟩) hbr]; exact h0))
        have B3 := B.trans (b3.mono B.size)
        have bx3 := bx.below b3
        have lt3 := bx3.lt
        have hb3 : b < w3.heap.size := Nat.lt_of_lt_of_le hb B3.size
        have HW3 : Hid (∀ (i : Nat) (x : List UInt8), ws[i]? = some x → w3.cell? ⟨b, 1 + i, none⟩ = some (.string ⟨x.toArray⟩)) := fun i x hx => by
          rw [B3.cell (p := ⟨b, 1 + i, none⟩) hb, Nat.add_comm 1 i]; exact HW.out (i + 1) x (by rw [List.getElem?_cons_succ]; exact hx)
        have HA3 : Hid (ReadsN w3) := ReadsN.below HA.out B3
        clear bx b3 bd h0 h3 hn0 HW HA HNO HWK
        go_wp2_with fail
        · refine (inums_any ws b 0 n _ _ HN.out hn1 hb3 (fun i x hx => by exfalso; have := (List.getElem?_eq_some_iff.1 hx).1; have := HN.out; omega) HS.out HA3.out).mono ?_
          rintro e w4 ⟨v, xs, ok, rfl, jj, hok, hnok⟩
          obtain ⟨a, qc, rfl, -, -, -⟩ := jj.ints
          have HOK : Hid _ := hok
          have HNOK : Hid _ := hnok
          have jx := JA.box B3 jj (Nat.le_refl _) lt3
          have bx4 := bx3.below jj.b
          clear hok hnok jj bx3
          obtain ⟨q, hq⟩ : ∃ q, xs.length = q := ⟨_, rfl⟩
          rw [hq] at jx ⊢
          have HQ : Hid _ := hq
          clear hq
          have r0 := bx4.cell 0
          have r1 := bx4.cell 1
          have f0 := bx4.free 0
          have f1 := bx4.free 1
          simp only [List.getElem?_cons_zero, List.getElem?_cons_succ] at r0 r1
          go_wp2
          refine bodyPost_ret (v := .tuple #[resP k a q qc, .bool ok]) (by simp [results, Tryd.results55, go_sem, r0, r1]) rfl ⟨k, a, q, qc, xs, ok, rfl, HQ.out, jx _ _ _ _, (fun h => ⟨by omega, HC.out.symm, HOK.out h⟩), (fun h => Or.inr (HNOK.out h))⟩
        · refine (inums_any ws b 1 n _ _ HN.out hn1 hb3 HW3.out HS.out HA3.out).mono ?_
          rintro e w4 ⟨v, xs, ok, rfl, jj, hok, hnok⟩
          obtain ⟨a, qc, rfl, -, -, -⟩ := jj.ints
          have HOK : Hid _ := hok
          have HNOK : Hid _ := hnok
          have jx := JA.box B3 jj (Nat.le_refl _) lt3
          have bx4 := bx3.below jj.b
          clear hok hnok jj bx3
          obtain ⟨q, hq⟩ : ∃ q, xs.length = q := ⟨_, rfl⟩
          rw [hq] at jx ⊢
          have HQ : Hid _ := hq
          clear hq
          have r0 := bx4.cell 0
          have r1 := bx4.cell 1
          have f0 := bx4.free 0
          have f1 := bx4.free 1
          simp only [List.getElem?_cons_zero, List.getElem?_cons_succ] at r0 r1
          go_wp2
          refine bodyPost_ret (v := .tuple #[resP k a q qc, .bool ok]) (by simp [results, Tryd.results55, go_sem, r0, r1]) rfl ⟨k, a, q, qc, xs, ok, rfl, HQ.out, jx _ _ _ _, (fun h => ⟨by omega, HC.out.symm, HOK.out h⟩), (fun h => Or.inr (HNOK.out h))⟩
      · have hE1 : (x0 == wk) = false := by simpa using he
        have hE2 : (wk == x0) = false := by simpa using fun e => he e.symm
        have HNO2 : Hid (∀ q : Nat, 1 ≤ q → q < k + 1 → wordL q ≠ x0) := fun q h1 h2 => by
          by_cases e : q = k
          · subst e; rw [HWK.out]; exact fun e => he e.symm
          · exact HNO.out q h1 (by omega)
        clear he
        go_upto_region 4 with fail
        go_region_held3 (fun w' => w'.cell? ⟨b, 0, none⟩ = some (.string ⟨x0.toArray⟩)) (first | with_reducible assumption | exact h0)
          (first
            | (go_at_call 52
               refine (wordB_any _ _).mono ?_
               rintro ee w3 ⟨rfl, bd⟩
               rw [HWK.out]
               have b3 := below_of_drew bd
               have h3 : w3.cell? ⟨b, 0, none⟩ = some (.string ⟨x0.toArray⟩) := by rw [b3.cell (p := ⟨b, 0, none⟩) hbr]; exact h0))
        have B3 := B.trans (b3.mono B.size)
        have bx3 := bx.below b3
        clear bx b3 bd h0 h3 hn0
        go_wp2
        go_roundw
        case rel => exact ⟨k + 1, by omega, by omega, by go_num, B3, bx3, HNO2.out⟩
        case measure => simp [intOf]; omega
    · obtain rfl : k = 4 := by omega
      have HC : Hid (codeTo x0 4 = 0) := code_none HNO.out
      have r0 := bx.cell 0
      have r1 := bx.cell 1
      have f0 := bx.free 0
      have f1 := bx.free 1
      have lt3 := bx.lt
      simp only [List.getElem?_cons_zero, List.getElem?_cons_succ] at r0 r1
      go_wp2
      refine bodyPost_ret (v := .tuple #[resP 0 none 0 0, .bool false]) (by simp [results, Tryd.results55, go_sem, r0, r1]) rfl ⟨0, none, 0, 0, [], false, rfl, rfl, ⟨?_, World.ownsRow_nil _ _ _ _⟩, (fun h => by cases h), (fun _ => Or.inl HC.out)⟩
      exact (B.setCell (Nat.le_refl _) _).setCell (Nat.le_refl _) _

end Go.Proofs.YtfkcfjkojfnfnaaDoor
namespace Go.Proofs.YtfkcfjkojfnfnaaDoor
open Go.RowKit
set_option linter.unusedVariables false
set_option maxRecDepth 100000

/-- What a text is read as, of whatever length. -/
def rdF (l : List UInt8) : Int × List Int × Bool := if l.length ≤ 120 then rdI l else (0, [], false)
theorem rdF_no {l x0 : List UInt8} {ws : List (List UInt8)} (hw : wordsOf l = x0 :: ws) (h : codeTo x0 4 = 0 ∨ atoiS ws = none) : rdF l = (0, [], false) := by
  rw [rdF]
  split
  · rw [rdI, hw]
    show (match atoiS ws with | none => _ | some xs => _) = _
    rcases h with h | h
    · cases atoiS ws with
      | none => rfl
      | some xs =>
        show (if _ then _ else _) = _
        rw [if_neg]
        rintro ⟨h1, -⟩
        exact h1 h
    · rw [h]
  · rfl
theorem rdF_yes {l x0 : List UInt8} {ws : List (List UInt8)} {c : Int} {xs : List Int} {q : Nat} (hl : l.length ≤ 120) (hw : wordsOf l = x0 :: ws) (h0 : c ≠ 0) (hc : c = codeTo x0 4) (h : atoiS ws = some xs) (hq : xs.length = q) : rdF l = if resText c q xs = l then (c, xs, true) else (0, [], false) := by
  subst hq
  rw [rdF, if_pos hl, rdI, hw]
  show (match atoiS ws with | none => _ | some xs => _) = _
  rw [h]
  show (if codeTo x0 4 ≠ 0 ∧ resText (codeTo x0 4) xs.length xs = l then (codeTo x0 4, xs, true) else _) = _
  rw [← hc]
  by_cases e : resText c xs.length xs = l
  · rw [if_pos ⟨h0, e⟩, if_pos e]
  · rw [if_neg (fun h => e h.2), if_neg e]

theorem atoiS_len : ∀ {ws : List (List UInt8)} {xs : List Int}, atoiS ws = some xs → xs.length = ws.length
  | [], xs, h => by
    have : [] = xs := by simpa [atoiS] using h
    rw [← this]; rfl
  | x :: t, xs, h => by
    rw [atoiS] at h
    cases hx : Lib.atoiAll x with
    | ok z =>
      rw [hx] at h
      cases ht : atoiS t with
      | none => rw [ht] at h; cases h
      | some ys =>
        rw [ht] at h
        have : z :: ys = xs := by simpa using h
        rw [← this, List.length_cons, List.length_cons, atoiS_len ht]
    | «syntax» => rw [hx] at h; cases h
    | range => rw [hx] at h; cases h
theorem JA.ints' {w W : World} {a : Option Addr} {q qc : Nat} {xs : List Int} (j : JA w (.slice a q qc) xs W) (hq : xs.length = q) : Ints W a q xs := by
  subst hq
  obtain ⟨a', c', e, -, h, -⟩ := j.ints
  cases e
  exact h

set_option maxHeartbeats 6400000 in
theorem iread_any (l : List UInt8) (w : World) (hl : l.length ≤ 1048576) (hA : ReadsN w) (hSp : Splits w) (hT : Lib.TabBelow Tryd.prog w.heap.size w "internal/strconv.uint64pow10" .u64 Lib.pow10Tab) :
    Calls Tryd.prog 19 #[.string ⟨l.toArray⟩] w fun e w' => ∃ c a n cap xs ok, e = .returned (.tuple #[resP c a n cap, .bool ok]) ∧ xs.length = n ∧ JA w (.slice a n cap) xs w' ∧ rdF l = (c, xs, ok) := by
  have HA : Hid _ := hA
  have HP : Hid _ := hSp
  have HT : Hid _ := hT
  clear hA hSp hT
  have bx := Cel.new w [.int .i64 0, .slice none 0 0] 36
  have B0 := (Below.refl w.heap.size w).alloc (Nat.le_refl _) (.cells #[.int .i64 0, .slice none 0 0] 36)
  by_cases h120 : l.length ≤ 120
  · have hi : ¬ (120 : Int) < (l.length : Int) := by omega
    obtain ⟨x0, ws, hws⟩ : ∃ x0 ws, wordsOf l = x0 :: ws := by
      cases h : wordsOf l with
      | nil => exact absurd h (words_ne l)
      | cons a b => exact ⟨a, b, rfl⟩
    have HWS : Hid _ := hws
    obtain ⟨n, hn⟩ : ∃ n, ws.length = n := ⟨_, rfl⟩
    have HN : Hid _ := hn
    have hn121 : n ≤ 121 := by rw [← hn]; exact words_few h120 hws
    have HS : Hid _ := fun x hx => Nat.le_trans (words_short hws x hx) h120
    have hlen : (wordsOf l).length = n + 1 := by rw [hws, List.length_cons, hn]
    have HLEN : Hid _ := hlen
    clear hws hn hlen
    go_enter Tryd.func19, Tryd.ntmps19
    go_wp2_with fail
    refine (HP.out _ B0 l h120).mono ?_
    rintro e w1 ⟨rfl, hg, hcs, b1⟩
    rw [HLEN.out]
    have bx1 := bx.below b1
    have B1 := B0.trans (b1.mono B0.size)
    rw [World.size_alloc] at hg hcs ⊢
    have lt1 := bx1.lt
    have HCS : Hid (∀ (i : Nat) (x : List UInt8), (x0 :: ws)[i]? = some x → w1.cell? ⟨w.heap.size + 1, i, none⟩ = some (.string ⟨x.toArray⟩)) := fun i x hx => hcs i x (by rw [HWS.out]; exact hx)
    clear hcs bx b1
    go_wp2_with fail
    refine (iwords_any x0 ws _ n _ _ HN.out hn121 (Nat.le_refl _) hg HCS.out HS.out (ReadsN.below HA.out B1)).mono ?_
    rintro e w2 ⟨c, a, q, qc, xs, ok, rfl, hq, jj, hok, hnok⟩
    have HQ : Hid _ := hq
    clear hq
    have B2 := B1.trans (jj.b.mono B1.size)
    have bx2 := bx1.below jj.b
    have r0 := bx2.cell 0
    have r1 := bx2.cell 1
    have f0 := bx2.free 0
    have f1 := bx2.free 1
    have lt2 := bx2.lt
    simp only [List.getElem?_cons_zero, List.getElem?_cons_succ] at r0 r1
    cases ok with
    | false =>
      have HR : Hid _ := rdF_no HWS.out (hnok rfl)
      have d := ((bx2.set 0 (.int .i64 0)).set 1 (.slice none 0 0)).below ((Below.refl _ _).alloc (Nat.le_refl _) (.cells #[.int .i64 c, .slice a q qc] 36))
      have d0 : (((w2.setCell ⟨w.heap.size, 0, none⟩ (.int .i64 0)).setCell ⟨w.heap.size, 1, none⟩ (.slice none 0 0)).alloc (.cells #[.int .i64 c, .slice a q qc] 36)).cell? ⟨w.heap.size, 0, none⟩ = some (.int .i64 0) := d.cell 0
      have d1 : (((w2.setCell ⟨w.heap.size, 0, none⟩ (.int .i64 0)).setCell ⟨w.heap.size, 1, none⟩ (.slice none 0 0)).alloc (.cells #[.int .i64 c, .slice a q qc] 36)).cell? ⟨w.heap.size, 1, none⟩ = some (.slice none 0 0) := d.cell 1
      have BE := ((B2.setCell (p := ⟨w.heap.size, 0, none⟩) (Nat.le_refl _) (.int .i64 0)).setCell (p := ⟨w.heap.size, 1, none⟩) (Nat.le_refl _) (.slice none 0 0))
      have BF := BE.alloc BE.size (.cells #[.int .i64 c, .slice a q qc] 36)
      clear hok hnok jj bx1 bx2 d BE
      go_wp2
      exact bodyPost_ret (v := .tuple #[resP 0 none 0 0, .bool false]) (by simp [results, Tryd.results19, go_sem, d0, d1]) rfl ⟨0, none, 0, 0, [], false, rfl, rfl, ⟨BF, World.ownsRow_nil _ _ _ _⟩, HR.out⟩
    | true =>
      obtain ⟨h0, hc, hx⟩ := hok rfl
      have HR : Hid _ := rdF_yes h120 HWS.out h0 hc hx HQ.out
      have HQ2 : Hid (q ≤ 1048576) := by show _ ≤ _; rw [← HQ.out, atoiS_len hx, HN.out]; omega
      clear hok hnok h0 hc hx
      go_wp2_with fail
      obtain ⟨W3, hW3⟩ : ∃ W3, W3 = w2.alloc (.cells #[.int .i64 c, .slice a q qc] 36) := ⟨_, rfl⟩
      have j3 : JA w1 (.slice a q qc) xs W3 := by rw [hW3]; exact jj.alloc _
      have bn : Cel W3 w2.heap.size [.int .i64 c, .slice a q qc] 36 := by rw [hW3]; exact Cel.new w2 _ _
      have bx3 : Cel W3 w.heap.size [.int .i64 0, .slice none 0 0] 36 := by rw [hW3]; exact bx2.below ((Below.refl _ _).alloc (Nat.le_refl _) _)
      have B3 : Below w.heap.size w W3 := by rw [hW3]; exact B2.alloc B2.size _
      rw [← hW3]
      clear hW3 jj bx1 bx2 r0 r1 f0 f1 B2
      refine (itext_any c a q qc xs W3 (j3.ints' HQ.out) HQ2.out (fun w' h' => HT.out w' (B3.trans (h'.mono B3.size)))).mono ?_
      rintro e w4 ⟨rfl, b4⟩
      obtain ⟨T, hTx⟩ : ∃ T, resText c q xs = T := ⟨_, rfl⟩
      rw [hTx]
      have HTX : Hid _ := hTx
      clear hTx
      have j4 := j3.below b4
      have B4 := B3.trans (b4.mono B3.size)
      have bx4 := bx3.below b4
      have bn4 := bn.below b4
      have r0 := bx4.cell 0
      have r1 := bx4.cell 1
      have f0 := bx4.free 0
      have f1 := bx4.free 1
      have n0 := bn4.cell 0
      have n1 := bn4.cell 1
      have lt4 := bx4.lt
      have lt5 := bn4.lt
      simp only [List.getElem?_cons_zero, List.getElem?_cons_succ] at r0 r1 n0 n1
      clear j3 bn bx3 B3 bx4 bn4 b4
      by_cases he : T = l
      · have hE : (T == l) = true := by rw [he]; simp
        have hE2 : (T != l) = false := by rw [he]; simp
        have HR2 : Hid (rdF l = (c, xs, true)) := by show _ = _; rw [HR.out, if_pos (by rw [HTX.out]; exact he)]
        clear he HR
        go_wp2
        exact bodyPost_ret (v := .tuple #[resP c a q qc, .bool true]) (by simp [results, Tryd.results19, go_sem, r0, r1]) rfl ⟨c, a, q, qc, xs, true, rfl, HQ.out, JA.box B1 j4 (Nat.le_refl _) lt1 _ _ _ _, HR2.out⟩
      · have hE : (T == l) = false := by simpa using he
        have hE2 : (T != l) = true := by simpa using he
        have HR2 : Hid (rdF l = (0, [], false)) := by show _ = _; rw [HR.out, if_neg (by rw [HTX.out]; exact he)]
        clear he HR
        go_wp2
        exact bodyPost_ret (v := .tuple #[resP 0 none 0 0, .bool false]) (by simp [results, Tryd.results19, go_sem, r0, r1]) rfl ⟨0, none, 0, 0, [], false, rfl, rfl, ⟨(B4.setCell (Nat.le_refl _) _).setCell (Nat.le_refl _) _, World.ownsRow_nil _ _ _ _⟩, HR2.out⟩
  · have hi : (120 : Int) < (l.length : Int) := by omega
    have r0 := bx.cell 0
    have r1 := bx.cell 1
    have f0 := bx.free 0
    have f1 := bx.free 1
    simp only [List.getElem?_cons_zero, List.getElem?_cons_succ] at r0 r1
    have HR : Hid (rdF l = (0, [], false)) := by show _ = _; rw [rdF, if_neg h120]
    go_enter Tryd.func19, Tryd.ntmps19
    go_wp2
    refine bodyPost_ret (v := .tuple #[resP 0 none 0 0, .bool false]) (by simp [results, Tryd.results19, go_sem]) rfl ⟨0, none, 0, 0, [], false, rfl, rfl, ⟨?_, World.ownsRow_nil _ _ _ _⟩, HR.out⟩
    exact B0

end Go.Proofs.YtfkcfjkojfnfnaaDoor
namespace Go.Proofs
open Go.Shelf
def Tryd.laysM146_ren : Go.Shelf.Ren := ⟨fun | 146 => 44 | 221 => 87 | 268 => 107 | 138 => 108 | 143 => 109 | 195 => 126 | 197 => 127 | 218 => 128 | 219 => 129 | 260 => 140 | 217 => 141 | 225 => 142 | 224 => 143 | 267 => 144 | 266 => 152 | 314 => 153 | n => n, fun | 9 => 9 | 31 => 69 | 3 => 3 | 4 => 4 | 0 => 0 | 105 => 164 | 21 => 21 | 5 => 5 | 46 => 178 | 119 => 194 | 139 => 197 | 138 => 196 | 146 => 198 | 51 => 185 | n => n, fun | 1 => 2 | 3 => 4 | 4 => 5 | n => n⟩
theorem Tryd.laysM146 : Go.Proofs.LaysM.n146 Tryd.prog Tryd.laysM146_ren := {
  mixed := by kernel_rfl
  f138 := Tryd.func108.trans (congrArg some (by kernel_rfl))
  f143 := Tryd.func109.trans (congrArg some (by kernel_rfl))
  f146 := Tryd.func44.trans (congrArg some (by kernel_rfl))
  f195 := Tryd.func126.trans (congrArg some (by kernel_rfl))
  f197 := Tryd.func127.trans (congrArg some (by kernel_rfl))
  f217 := Tryd.func141.trans (congrArg some (by kernel_rfl))
  f218 := Tryd.func128.trans (congrArg some (by kernel_rfl))
  f219 := Tryd.func129.trans (congrArg some (by kernel_rfl))
  f221 := Tryd.func87.trans (congrArg some (by kernel_rfl))
  f224 := Tryd.func143.trans (congrArg some (by kernel_rfl))
  f225 := Tryd.func142.trans (congrArg some (by kernel_rfl))
  f260 := Tryd.func140.trans (congrArg some (by kernel_rfl))
  f266 := Tryd.func152.trans (congrArg some (by kernel_rfl))
  f267 := Tryd.func144.trans (congrArg some (by kernel_rfl))
  f268 := Tryd.func107.trans (congrArg some (by kernel_rfl))
  f314 := Tryd.func153.trans (congrArg some (by kernel_rfl))
  t0 := Tryd.underlying0
  a0 := Tryd.isAgg0
  z0 := Tryd.sizeOf0
  v0 := Tryd.zeroValue0
  t3 := Tryd.underlying3
  a3 := Tryd.isAgg3
  z3 := Tryd.sizeOf3
  v3 := Tryd.zeroValue3
  t4 := Tryd.underlying4
  a4 := Tryd.isAgg4
  z4 := Tryd.sizeOf4
  v4 := Tryd.zeroValue4
  t5 := Tryd.underlying5
  a5 := Tryd.isAgg5
  z5 := Tryd.sizeOf5
  v5 := Tryd.zeroValue5
  t9 := Tryd.underlying9
  a9 := Tryd.isAgg9
  z9 := Tryd.sizeOf9
  v9 := Tryd.zeroValue9
  t21 := Tryd.underlying21
  a21 := Tryd.isAgg21
  z21 := Tryd.sizeOf21
  v21 := Tryd.zeroValue21
  t31 := Tryd.underlying69
  a31 := Tryd.isAgg69
  z31 := Tryd.sizeOf69
  v31 := Tryd.zeroValue69
  t46 := Tryd.underlying178
  a46 := Tryd.isAgg178
  z46 := Tryd.sizeOf178
  v46 := Tryd.zeroValue178
  t51 := Tryd.underlying185
  a51 := Tryd.isAgg185
  z51 := Tryd.sizeOf185
  v51 := Tryd.zeroValue185
  t105 := Tryd.underlying164
  a105 := Tryd.isAgg164
  z105 := Tryd.sizeOf164
  v105 := Tryd.zeroValue164
  t119 := Tryd.underlying194
  a119 := Tryd.isAgg194
  z119 := Tryd.sizeOf194
  t138 := Tryd.underlying196
  a138 := Tryd.isAgg196
  z138 := Tryd.sizeOf196
  v138 := Tryd.zeroValue196
  t139 := Tryd.underlying197
  a139 := Tryd.isAgg197
  z139 := Tryd.sizeOf197
  v139 := Tryd.zeroValue197
  t146 := Tryd.underlying198
  a146 := Tryd.isAgg198
  z146 := Tryd.sizeOf198
  v146 := Tryd.zeroValue198
  g1 := by kernel_rfl
  g3 := by kernel_rfl
  g4 := by kernel_rfl
  i0 := by kernel_rfl
  i3 := by kernel_rfl
  i4 := by kernel_rfl
  i5 := by kernel_rfl
  i9 := by kernel_rfl
  i21 := by kernel_rfl
  i31 := by kernel_rfl
  i46 := by kernel_rfl
  i51 := by kernel_rfl
  i105 := by kernel_rfl
  i138 := by kernel_rfl
  i139 := by kernel_rfl
  i146 := by kernel_rfl
  m1 := by kernel_rfl
  s1_3 := fun w h => Go.Proofs.cell_of_shapedOpen_int (zero := #[.int .i64 0]) (t := 3) h (of_decide_eq_true (by kernel_rfl)) (by kernel_rfl) rfl (by kernel_rfl) (by kernel_rfl) Tryd.underlying3
  m3 := by kernel_rfl
  m4 := by kernel_rfl }
def Tryd.laysC172_ren : Go.Shelf.Ren := ⟨fun | 172 => 86 | 244 => 105 | 245 => 106 | 247 => 121 | 279 => 122 | 280 => 123 | 281 => 124 | 282 => 125 | 287 => 137 | 316 => 138 | 171 => 83 | 205 => 139 | 321 => 150 | 322 => 151 | 243 => 103 | 246 => 119 | 283 => 133 | 284 => 134 | 285 => 135 | 286 => 136 | 129 => 146 | 317 => 145 | 318 => 147 | 319 => 148 | 320 => 149 | 337 => 154 | 338 => 155 | n => n, fun | 9 => 9 | 3 => 3 | 75 => 113 | 76 => 114 | 4 => 4 | 5 => 5 | 167 => 157 | 37 => 22 | 0 => 0 | 85 => 158 | 2 => 2 | 168 => 160 | 53 => 171 | 175 => 176 | 46 => 178 | 210 => 181 | 127 => 155 | 145 => 193 | 143 => 191 | 21 => 21 | 171 => 170 | 173 => 174 | 212 => 184 | 51 => 185 | 20 => 20 | 213 => 186 | 232 => 201 | 233 => 202 | 80 => 66 | n => n, fun | 15 => 0 | 16 => 1 | 17 => 3 | 18 => 6 | 19 => 7 | n => n⟩
theorem Tryd.laysC172 : Go.Proofs.LaysC.n172 Tryd.prog Tryd.laysC172_ren := {
  mixed := by kernel_rfl
  f129 := Tryd.func146.trans (congrArg some (by kernel_rfl))
  f171 := Tryd.func83.trans (congrArg some (by kernel_rfl))
  f172 := Tryd.func86.trans (congrArg some (by kernel_rfl))
  f205 := Tryd.func139.trans (congrArg some (by kernel_rfl))
  f243 := Tryd.func103.trans (congrArg some (by kernel_rfl))
  f244 := Tryd.func105.trans (congrArg some (by kernel_rfl))
  f245 := Tryd.func106.trans (congrArg some (by kernel_rfl))
  f246 := Tryd.func119.trans (congrArg some (by kernel_rfl))
  f247 := Tryd.func121.trans (congrArg some (by kernel_rfl))
  f279 := Tryd.func122.trans (congrArg some (by kernel_rfl))
  f280 := Tryd.func123.trans (congrArg some (by kernel_rfl))
  f281 := Tryd.func124.trans (congrArg some (by kernel_rfl))
  f282 := Tryd.func125.trans (congrArg some (by kernel_rfl))
  f283 := Tryd.func133.trans (congrArg some (by kernel_rfl))
  f284 := Tryd.func134.trans (congrArg some (by kernel_rfl))
  f285 := Tryd.func135.trans (congrArg some (by kernel_rfl))
  f286 := Tryd.func136.trans (congrArg some (by kernel_rfl))
  f287 := Tryd.func137.trans (congrArg some (by kernel_rfl))
  f316 := Tryd.func138.trans (congrArg some (by kernel_rfl))
  f317 := Tryd.func145.trans (congrArg some (by kernel_rfl))
  f318 := Tryd.func147.trans (congrArg some (by kernel_rfl))
  f319 := Tryd.func148.trans (congrArg some (by kernel_rfl))
  f320 := Tryd.func149.trans (congrArg some (by kernel_rfl))
  f321 := Tryd.func150.trans (congrArg some (by kernel_rfl))
  f322 := Tryd.func151.trans (congrArg some (by kernel_rfl))
  f337 := Tryd.func154.trans (congrArg some (by kernel_rfl))
  f338 := Tryd.func155.trans (congrArg some (by kernel_rfl))
  t0 := Tryd.underlying0
  a0 := Tryd.isAgg0
  z0 := Tryd.sizeOf0
  v0 := Tryd.zeroValue0
  t2 := Tryd.underlying2
  a2 := Tryd.isAgg2
  z2 := Tryd.sizeOf2
  v2 := Tryd.zeroValue2
  t3 := Tryd.underlying3
  a3 := Tryd.isAgg3
  z3 := Tryd.sizeOf3
  v3 := Tryd.zeroValue3
  t4 := Tryd.underlying4
  a4 := Tryd.isAgg4
  z4 := Tryd.sizeOf4
  v4 := Tryd.zeroValue4
  t5 := Tryd.underlying5
  a5 := Tryd.isAgg5
  z5 := Tryd.sizeOf5
  v5 := Tryd.zeroValue5
  t9 := Tryd.underlying9
  a9 := Tryd.isAgg9
  z9 := Tryd.sizeOf9
  v9 := Tryd.zeroValue9
  t20 := Tryd.underlying20
  a20 := Tryd.isAgg20
  z20 := Tryd.sizeOf20
  v20 := Tryd.zeroValue20
  t21 := Tryd.underlying21
  a21 := Tryd.isAgg21
  z21 := Tryd.sizeOf21
  v21 := Tryd.zeroValue21
  t37 := Tryd.underlying22
  a37 := Tryd.isAgg22
  z37 := Tryd.sizeOf22
  v37 := Tryd.zeroValue22
  t46 := Tryd.underlying178
  a46 := Tryd.isAgg178
  z46 := Tryd.sizeOf178
  v46 := Tryd.zeroValue178
  t51 := Tryd.underlying185
  a51 := Tryd.isAgg185
  z51 := Tryd.sizeOf185
  v51 := Tryd.zeroValue185
  t53 := Tryd.underlying171
  a53 := Tryd.isAgg171
  z53 := Tryd.sizeOf171
  v53 := Tryd.zeroValue171
  t75 := Tryd.underlying113
  a75 := Tryd.isAgg113
  z75 := Tryd.sizeOf113
  v75 := Tryd.zeroValue113
  t76 := Tryd.underlying114
  a76 := Tryd.isAgg114
  z76 := Tryd.sizeOf114
  v76 := Tryd.zeroValue114
  t85 := Tryd.underlying158
  a85 := Tryd.isAgg158
  z85 := Tryd.sizeOf158
  v85 := Tryd.zeroValue158
  t127 := Tryd.underlying155
  a127 := Tryd.isAgg155
  z127 := Tryd.sizeOf155
  v127 := Tryd.zeroValue155
  t143 := Tryd.underlying191
  a143 := Tryd.isAgg191
  z143 := Tryd.sizeOf191
  v143 := Tryd.zeroValue191
  t145 := Tryd.underlying193
  a145 := Tryd.isAgg193
  z145 := Tryd.sizeOf193
  v145 := Tryd.zeroValue193
  t167 := Tryd.underlying157
  a167 := Tryd.isAgg157
  z167 := Tryd.sizeOf157
  v167 := Tryd.zeroValue157
  t168 := Tryd.underlying160
  a168 := Tryd.isAgg160
  z168 := Tryd.sizeOf160
  v168 := Tryd.zeroValue160
  t171 := Tryd.underlying170
  a171 := Tryd.isAgg170
  z171 := Tryd.sizeOf170
  v171 := Tryd.zeroValue170
  t173 := Tryd.underlying174
  a173 := Tryd.isAgg174
  z173 := Tryd.sizeOf174
  v173 := Tryd.zeroValue174
  t175 := Tryd.underlying176
  a175 := Tryd.isAgg176
  z175 := Tryd.sizeOf176
  v175 := Tryd.zeroValue176
  t210 := Tryd.underlying181
  a210 := Tryd.isAgg181
  z210 := Tryd.sizeOf181
  v210 := Tryd.zeroValue181
  t212 := Tryd.underlying184
  a212 := Tryd.isAgg184
  z212 := Tryd.sizeOf184
  v212 := Tryd.zeroValue184
  t213 := Tryd.underlying186
  a213 := Tryd.isAgg186
  z213 := Tryd.sizeOf186
  t232 := Tryd.underlying201
  a232 := Tryd.isAgg201
  z232 := Tryd.sizeOf201
  v232 := Tryd.zeroValue201
  t233 := Tryd.underlying202
  a233 := Tryd.isAgg202
  z233 := Tryd.sizeOf202
  v233 := Tryd.zeroValue202
  g15 := by kernel_rfl
  g16 := by kernel_rfl
  g17 := by kernel_rfl
  g18 := by kernel_rfl
  g19 := by kernel_rfl
  t80 := Tryd.underlying66
  a80 := Tryd.isAgg66
  z80 := Tryd.sizeOf66
  v80 := Tryd.zeroValue66
  i0 := by kernel_rfl
  i2 := by kernel_rfl
  i3 := by kernel_rfl
  i4 := by kernel_rfl
  i5 := by kernel_rfl
  i9 := by kernel_rfl
  i20 := by kernel_rfl
  i21 := by kernel_rfl
  i37 := by kernel_rfl
  i46 := by kernel_rfl
  i51 := by kernel_rfl
  i53 := by kernel_rfl
  i75 := by kernel_rfl
  i76 := by kernel_rfl
  i80 := by kernel_rfl
  i85 := by kernel_rfl
  i127 := by kernel_rfl
  i143 := by kernel_rfl
  i145 := by kernel_rfl
  i167 := by kernel_rfl
  i168 := by kernel_rfl
  i171 := by kernel_rfl
  i173 := by kernel_rfl
  i175 := by kernel_rfl
  i210 := by kernel_rfl
  i212 := by kernel_rfl
  i232 := by kernel_rfl
  i233 := by kernel_rfl
  m15 := by kernel_rfl
  m16 := by kernel_rfl
  m17 := by kernel_rfl
  m18 := by kernel_rfl
  m19 := by kernel_rfl
  c0 := by kernel_rfl
  c2 := by kernel_rfl
  c3 := by kernel_rfl
  c4 := by kernel_rfl
  c5 := by kernel_rfl
  c9 := by kernel_rfl
  c20 := by kernel_rfl
  c21 := by kernel_rfl
  c37 := by kernel_rfl
  c46 := by kernel_rfl
  c51 := by kernel_rfl
  c53 := by kernel_rfl
  c75 := by kernel_rfl
  c76 := by kernel_rfl
  c80 := by kernel_rfl
  c85 := by kernel_rfl
  c127 := by kernel_rfl
  c143 := by kernel_rfl
  c145 := by kernel_rfl
  c167 := by kernel_rfl
  c168 := by kernel_rfl
  c171 := by kernel_rfl
  c173 := by kernel_rfl
  c175 := by kernel_rfl
  c210 := by kernel_rfl
  c212 := by kernel_rfl
  c213 := by kernel_rfl
  c232 := by kernel_rfl
  c233 := by kernel_rfl }
end Go.Proofs
namespace Go.Proofs.YtfkcfjkojfnfnaaDoor
open Go.RowKit Go.Shelf
set_option linter.unusedVariables false
set_option maxRecDepth 100000

theorem splits_of (w : World) (m : Int) (hm : w.cell? ⟨Tryd.laysM146_ren.g 1, 0, none⟩ = some (.int .i64 m)) : Splits w := fun W b l hl => by
  have h1 : (1 : Nat) ≤ (⟨#[32]⟩ : ByteArray).size := by decide
  have hmW : W.cell? ⟨Tryd.laysM146_ren.g 1, 0, none⟩ = some (.int .i64 m) := by rw [b.cell (p := ⟨_, 0, none⟩) (block_lt hm)]; exact hm
  have hs : (⟨l.toArray⟩ : ByteArray).size < 4294967281 := by show l.toArray.size < _; rw [List.size_toArray]; omega
  refine (Any.strings_Split { Tryd.laysM146 with } Tryd.laysM146.i9 ⟨l.toArray⟩ ⟨#[32]⟩ m W hs hmW h1).mono ?_
  rintro e w' ⟨rfl, rfl⟩
  have hd := Lib.splitB_data ⟨#[32]⟩ 0 (Lib.countB ⟨l.toArray⟩ ⟨#[32]⟩) ⟨l.toArray⟩
  have hw : Lib.splitK [32] 0 (Lib.countB ⟨l.toArray⟩ ⟨#[32]⟩) l = wordsOf l := split_words _ _ (by
    have : Lib.countB ⟨l.toArray⟩ ⟨#[32]⟩ = l.count 32 := Lib.count_one 32 l
    rw [this]; exact Nat.le_refl _)
  have hd2 : (Lib.splitB ⟨#[32]⟩ 0 (Lib.countB ⟨l.toArray⟩ ⟨#[32]⟩) ⟨l.toArray⟩).map (·.data.toList) = wordsOf l := hd.trans hw
  have hlen : (wordsOf l).length = Lib.countB ⟨l.toArray⟩ ⟨#[32]⟩ + 1 := by rw [← hd2, List.length_map, Lib.splitB_all _ h1 0 _ _ rfl]
  refine ⟨by rw [hlen], by rw [World.size_alloc]; omega, fun i x hx => ?_, (Below.refl _ _).alloc (Nat.le_refl _) _⟩
  rw [← hd2, List.getElem?_map] at hx
  obtain ⟨y, hy, rfl⟩ := Option.map_eq_some_iff.1 hx
  have hc := (Cel.new W ((Lib.splitB ⟨#[32]⟩ 0 (Lib.countB ⟨l.toArray⟩ ⟨#[32]⟩) ⟨l.toArray⟩).map Value.string) (Tryd.laysM146_ren.t 9)).cell i
  rw [List.getElem?_map, hy] at hc
  exact hc
theorem reads_of (w : World) (tp tq : TypeId) (p q : Value) (hS : w.var? Tryd.prog "strconv.ErrSyntax" = some #[.iface tp p]) (hR : w.var? Tryd.prog "strconv.ErrRange" = some #[.iface tq q]) : ReadsN w := fun W b x hx => by
  have hS' := Joins.var_stays Tryd.laysC172.m15 hS b (Nat.le_refl _)
  have hR' := Joins.var_stays Tryd.laysC172.m16 hR b (Nat.le_refl _)
  have hs : (⟨x.toArray⟩ : ByteArray).size = x.length := by show x.toArray.size = _; rw [List.size_toArray]
  have hd : (⟨x.toArray⟩ : ByteArray).data.toList = x := by simp
  cases h : Lib.atoiAll x with
  | ok v =>
    refine (Any.strconv_Atoi_ok Tryd.laysC172 ⟨x.toArray⟩ (by omega) v (by rw [hd]; exact h) W).mono ?_
    rintro e w' ⟨rfl, hw⟩
    refine ⟨?_, Or.inl ⟨v, h, rfl⟩⟩
    rcases hw with rfl | ⟨t, rfl⟩
    · exact Below.refl _ _
    · exact Lib.bytesWorld_below _ _ _
  | «syntax» =>
    refine (Any.strconv_Atoi_syntax_var Tryd.laysC172 ⟨x.toArray⟩ (by omega) (by rw [hd]; exact h) tp p W hS').mono ?_
    rintro e w' ⟨N, rfl, -, -, hb⟩
    exact ⟨hb, Or.inr ⟨(fun v e => by rw [h] at e; cases e), 0, _, N, rfl⟩⟩
  | range =>
    refine (Any.strconv_Atoi_range_var Tryd.laysC172 ⟨x.toArray⟩ (by omega) (by rw [hd]; exact h) tq q W hR').mono ?_
    rintro e w' ⟨N, rfl, -, -, hb⟩
    exact ⟨hb, Or.inr ⟨(fun v e => by rw [h] at e; cases e), _, _, N, rfl⟩⟩

theorem swords_long (l : List UInt8) (w : World) (hl : 120 < l.length) :
    Calls Tryd.prog 45 #[.string ⟨l.toArray⟩] w fun e w' => e = .returned (.slice (some ⟨w.heap.size, 0, none⟩) 0 0) ∧ Below w.heap.size w w' := by
  have hi : (120 : Int) < (l.length : Int) := by omega
  have B0 := (Below.refl w.heap.size w).alloc (Nat.le_refl _) (.cells #[] 9)
  go_enter Tryd.func45, Tryd.ntmps45
  go_wp2
  go_ret
  exact ⟨rfl, B0⟩

set_option maxHeartbeats 3200000 in
theorem sread_long (l : List UInt8) (w : World) (hl : 120 < l.length) :
    Calls Tryd.prog 20 #[.string ⟨l.toArray⟩] w fun e w' => e = .returned (.tuple #[resP 0 none 0 0, .bool false]) ∧ Below w.heap.size w w' := by
  have B0 := (Below.refl w.heap.size w).alloc (Nat.le_refl _) (.cells #[.int .i64 0, .slice none 0 0] 36)
  have rc := Cel.new w [.int .i64 0, .slice none 0 0] 36
  go_enter Tryd.func20, Tryd.ntmps20
  go_wp2_with fail
  refine (swords_long l _ hl).mono ?_
  rintro e w1 ⟨rfl, b1⟩
  have B1 := B0.trans (b1.mono B0.size)
  have rc1 := rc.below b1
  clear rc b1
  go_wp2_with fail
  obtain ⟨W2, hW2⟩ : ∃ W2, W2 = w1.alloc (.cells #[.int .i64 0, .slice none 0 0] 36) := ⟨_, rfl⟩
  have rb : Cel W2 w1.heap.size [.int .i64 0, .slice none 0 0] 36 := by rw [hW2]; exact Cel.new w1 _ _
  have rc2 : Cel W2 w.heap.size [.int .i64 0, .slice none 0 0] 36 := by rw [hW2]; exact rc1.below ((Below.refl _ _).alloc (Nat.le_refl _) _)
  have B2 : Below w.heap.size w W2 := by rw [hW2]; exact B1.alloc B1.size _
  rw [← hW2]
  clear hW2 rc1 B1 B0
  go_loopw [8, 9, 10] (fun i _ _ wx => i = .int .i64 1 ∧ wx = W2) (fun _ _ _ _ => 0)
  case atStart => exact ⟨rfl, rfl⟩
  case round =>
    obtain ⟨rfl, rfl⟩ := hrel
    have r0 := rb.cell 0
    have r1 := rb.cell 1
    simp only [List.getElem?_cons_zero, List.getElem?_cons_succ] at r0 r1
    go_wp2_with fail
    refine (stext_any 0 none 0 0 [] _ ⟨rfl, fun i hi => by omega⟩ (by omega)).mono ?_
    rintro e w6 ⟨rfl, b6⟩
    rw [show (⟨(resText 0 0 []).toArray⟩ : ByteArray) = ⟨#[]⟩ from rfl]
    have rc6 := rc2.below b6
    have B6 := B2.trans (b6.mono B2.size)
    have d0 := rc6.cell 0
    have d1 := rc6.cell 1
    have g0 := rc6.free 0
    have g1 := rc6.free 1
    have lt6 := rc6.lt
    simp only [List.getElem?_cons_zero, List.getElem?_cons_succ] at d0 d1
    clear rb rc2 rc6 r0 r1 b6 B2
    go_wp2
    exact bodyPost_ret (v := .tuple #[resP 0 none 0 0, .bool false]) (by simp [results, Tryd.results20, go_sem, d0, d1]) rfl ⟨rfl, (B6.setCell (Nat.le_refl _) _).setCell (Nat.le_refl _) _⟩

theorem sread_all (l : List UInt8) (w : World) :
    Calls Tryd.prog 20 #[.string ⟨l.toArray⟩] w fun e w' => ∃ c a n cap xs ok, e = .returned (.tuple #[resP c a n cap, .bool ok]) ∧ Below w.heap.size w w' ∧ Ints w' a n xs ∧ rdF l = (c, xs, ok) := by
  by_cases hl : l.length ≤ 120
  · refine (sread_any l w hl).mono ?_
    rintro e w' ⟨c, a, n, cap, xs, ok, h1, h2, h3, h4⟩
    exact ⟨c, a, n, cap, xs, ok, h1, h2, h3, by rw [rdF, if_pos hl, rd_same]; exact h4⟩
  · refine (sread_long l w (by omega)).mono ?_
    rintro e w' ⟨h1, h2⟩
    exact ⟨0, none, 0, 0, [], false, h1, h2, ⟨rfl, fun i hi => by omega⟩, by rw [rdF, if_neg hl]⟩

end Go.Proofs.YtfkcfjkojfnfnaaDoor
namespace Go.Proofs.YtfkcfjkojfnfnaaDoor
open Go.RowKit
set_option linter.unusedVariables false
set_option maxRecDepth 100000

/-- The words that are read: none of a text that is too long. -/
def wsF (l : List UInt8) : List (List UInt8) := if l.length ≤ 120 then wordsOf l else []
def preW (l : List UInt8) : FR := (wsF l).foldl partL zeroR
theorem rfF_spec (l : List UInt8) : rfF l = if textF (preW l) ≠ [] ∧ textF (preW l) = l then (preW l, true) else noF := by
  by_cases h : l.length ≤ 120
  · rw [rfF, if_pos h, rf_same, rfS, show preF l = preW l by rw [preW, wsF, if_pos h]; rfl]
  · rw [rfF, if_neg h, if_neg]
    rintro ⟨-, h2⟩
    have e : textF (preW l) = [48] := by
      rw [preW, wsF, if_neg h]
      show formText 3 2 [0, 0, 0] [0, 0] 0 = _
      rw [formText_yes (by rfl), times3, times2, show Lib.itoa 0 = [48] from itoa_small (k := 0) (by omega)]
      rfl
    rw [e] at h2
    rw [← h2] at h
    exact h (by decide)
theorem wsF_len (l : List UInt8) : (wsF l).length ≤ 121 := by
  rw [wsF]
  split
  · have := wordsF_len l []
    rw [show wordsF [] l = wordsOf l from rfl] at this
    omega
  · simp
theorem wsF_short (l : List UInt8) : ∀ x ∈ wsF l, x.length ≤ 120 := by
  intro x hx
  rw [wsF] at hx
  split at hx
  · have := wordsF_short l [] x hx
    simp at this
    omega
  · cases hx
theorem swords_all (l : List UInt8) (w : World) :
    Calls Tryd.prog 45 #[.string ⟨l.toArray⟩] w fun e w' => ∃ g cw, e = .returned (.slice (some ⟨g, 0, none⟩) (wsF l).length cw) ∧ Below w.heap.size w w' ∧ ∀ (i : Nat) (x : List UInt8), (wsF l)[i]? = some x → g < w'.heap.size ∧ w'.cell? ⟨g, i, none⟩ = some (.string ⟨x.toArray⟩) := by
  by_cases h : l.length ≤ 120
  · refine (words_any l w h).mono ?_
    rintro e w' ⟨v, rfl, j⟩
    have hp : 0 < (wordsOf l).length := List.length_pos_iff.2 (words_ne l)
    have hw : wsF l = wordsOf l := by rw [wsF, if_pos h]
    obtain ⟨g, cw, rfl, -, hg, hcs⟩ := j.cells (k := (wordsOf l).length) (by rw [List.length_map]) hp
    refine ⟨g, cw, by rw [hw], j.b, fun i x hx => ⟨hg, ?_⟩⟩
    rw [hw] at hx
    have := hcs i ⟨x.toArray⟩ (by rw [List.getElem?_map, hx]; rfl)
    rwa [Nat.zero_add] at this
  · refine (swords_long l w (by omega)).mono ?_
    rintro e w' ⟨rfl, b⟩
    have hw : wsF l = [] := by rw [wsF, if_neg h]
    exact ⟨_, _, by rw [hw]; rfl, b, fun i x hx => by rw [hw] at hx; cases hx⟩

/-- What the reader holds. -/
structure GB (w : World) (R F B1 B2 : Nat) (p : FR) (W : World) : Prop where
  b : Below w.heap.size w W
  r : Cel W R [.slice none 0 0, .slice none 0 0, .int .i64 0] 25
  f : Cel W F [.slice (some ⟨B1, 0, none⟩) 3 3, .slice (some ⟨B2, 0, none⟩) 2 2, .int .i64 p.2.2] 25
  k1 : Blk W B1 p.1
  k2 : Blk W B2 p.2.1
  l1 : p.1.length = 3
  l2 : p.2.1.length = 2
  h1 : w.heap.size ≤ B1
  h2 : w.heap.size ≤ B2
  h3 : w.heap.size ≤ F
  n12 : B1 ≠ B2
  n1 : R ≠ B1 ∧ R ≠ B2
  n2 : F ≠ B1 ∧ F ≠ B2
  n3 : R ≠ F
theorem GB.below {w W W' : World} {R F B1 B2 : Nat} {f : FR} (s : GB w R F B1 B2 f W) (h : Below W.heap.size W W') : GB w R F B1 B2 f W' :=
  ⟨s.b.trans (h.mono s.b.size), s.r.below h, s.f.below h, s.k1.below h, s.k2.below h, s.l1, s.l2, s.h1, s.h2, s.h3, s.n12, s.n1, s.n2, s.n3⟩
theorem GB.part {w W W' : World} {R F B1 B2 : Nat} {f : FR} {C' D' : List Int} (K' : Int) (s : GB w R F B1 B2 f W) (t : Touch (fun x => x = B1 ∨ x = B2) W W') (k1 : Blk W' B1 C') (k2 : Blk W' B2 D') (l1 : C'.length = 3) (l2 : D'.length = 2) :
    GB w R F B1 B2 (C', D', K') (((W'.setCell ⟨F, 0, none⟩ (.slice (some ⟨B1, 0, none⟩) 3 3)).setCell ⟨F, 1, none⟩ (.slice (some ⟨B2, 0, none⟩) 2 2)).setCell ⟨F, 2, none⟩ (.int .i64 K')) := by
  have b' := s.b.trans (t.below s.b.size (fun k hk => by rcases hk with rfl | rfl; exact s.h1; exact s.h2))
  have r' := s.r.touch t (fun hk => by rcases hk with h | h; exact s.n1.1 h; exact s.n1.2 h)
  have f' := s.f.touch t (fun hk => by rcases hk with h | h; exact s.n2.1 h; exact s.n2.2 h)
  exact ⟨((b'.setCell s.h3 _).setCell s.h3 _).setCell s.h3 _, ((r'.setOther s.n3 _ _).setOther s.n3 _ _).setOther s.n3 _ _, ((f'.set 0 _).set 1 _).set 2 _, ((k1.setOther s.n2.1.symm _ _).setOther s.n2.1.symm _ _).setOther s.n2.1.symm _ _, ((k2.setOther s.n2.2.symm _ _).setOther s.n2.2.symm _ _).setOther s.n2.2.symm _ _, l1, l2, s.h1, s.h2, s.h3, s.n12, s.n1, s.n2, s.n3⟩
theorem touch_drew {S : Nat → Prop} {w w' : World} (h : Touch S w.drew w') : Touch S w w' := ⟨h.os, h.tape, h.output, h.size, h.block⟩

set_option maxHeartbeats 6400000 in
theorem sfread_any (l : List UInt8) (w : World) :
    Calls Tryd.prog 11 #[.string ⟨l.toArray⟩] w fun e w' =>
      (∃ C D K B1 B2, rfF l = ((C, D, K), true) ∧ e = .returned (.tuple #[formV (some ⟨B1, 0, none⟩) 3 3 (some ⟨B2, 0, none⟩) 2 2 K, .bool true]) ∧ C.length = 3 ∧ D.length = 2 ∧ Below w.heap.size w w' ∧ Blk w' B1 C ∧ Blk w' B2 D) ∨
      (rfF l = noF ∧ e = .returned (.tuple #[formV none 0 0 none 0 0 0, .bool false]) ∧ Below w.heap.size w w') := by
  have HF : Hid _ := rfF_spec l
  obtain ⟨ws, hws⟩ : ∃ ws, wsF l = ws := ⟨_, rfl⟩
  have HWS : Hid _ := hws
  obtain ⟨n, hn⟩ : ∃ n, ws.length = n := ⟨_, rfl⟩
  have HN : Hid _ := hn
  have hn121 : n ≤ 121 := by rw [← hn, ← hws]; exact wsF_len l
  have HS : Hid (∀ x ∈ ws, x.length ≤ 120) := by rw [← hws]; exact wsF_short l
  clear hws hn
  have bx := Cel.new w [.slice none 0 0, .slice none 0 0, .int .i64 0] 25
  have B0 := (Below.refl w.heap.size w).alloc (Nat.le_refl _) (.cells #[.slice none 0 0, .slice none 0 0, .int .i64 0] 25)
  go_enter Tryd.func11, Tryd.ntmps11
  go_wp2_with fail
  refine (swords_all l _).mono ?_
  rintro e w1 ⟨g, cw, rfl, b1, hcs⟩
  rw [HWS.out] at hcs ⊢
  rw [HN.out]
  have bx1 := bx.below b1
  have B1 := B0.trans (b1.mono B0.size)
  have lt1 := bx1.lt
  have HCS : Hid _ := hcs
  clear hcs bx b1 B0
  go_wp2_with fail
  refine (szero_any _).mono ?_
  rintro e w2 ⟨A1, A2, rfl, b2, h1, h12, h2, k1, k2⟩
  have bx2 := bx1.below b2
  have s0 : GB w1 w.heap.size w2.heap.size A1 A2 zeroR (w2.alloc (.cells #[.slice (some ⟨A1, 0, none⟩) 3 3, .slice (some ⟨A2, 0, none⟩) 2 2, .int .i64 0] 25)) := by
    have z1 := k1.lt
    have z2 := k2.lt
    have z4 := b2.size
    exact ⟨b2.alloc b2.size _, bx2.below ((Below.refl _ _).alloc (Nat.le_refl _) _), Cel.new w2 _ _, k1.below ((Below.refl _ _).alloc (Nat.le_refl _) _), k2.below ((Below.refl _ _).alloc (Nat.le_refl _) _), rfl, rfl, h1, h2, z4, h12, ⟨by omega, by omega⟩, ⟨by omega, by omega⟩, by omega⟩
  have HC2 : Hid (∀ W, Below w1.heap.size w1 W → ∀ (i : Nat) (x : List UInt8), ws[i]? = some x → W.cell? ⟨g, i, none⟩ = some (.string ⟨x.toArray⟩)) := fun W hW i x hx => by
    obtain ⟨q1, q2⟩ := HCS.out i x hx
    rw [hW.cell (p := ⟨g, i, none⟩) q1]; exact q2
  clear bx1 bx2 b2 h1 h2 h12 k1 k2 HCS
  go_wp2_with fail
  go_loopw [6] (fun i wr => ∃ (k : Nat) (f : FR), k ≤ n ∧ i = .int .i64 k ∧ f = (ws.take k).foldl partL zeroR ∧ GB w1 w.heap.size w2.heap.size A1 A2 f wr) (fun i _ => n - (intOf i).toNat)
  case atStart => exact ⟨0, _, Nat.zero_le _, rfl, rfl, s0⟩
  case round =>
    clear s0
    obtain ⟨k, ⟨C, D, K⟩, hk, rfl, hf, sb⟩ := hrel
    have HFD : Hid _ := hf
    clear hf
    have hsz := sb.b.size
    have f0 := sb.f.cell 0
    have f1 := sb.f.cell 1
    have f2 := sb.f.cell 2
    simp only [List.getElem?_cons_zero, List.getElem?_cons_succ] at f0 f1 f2
    by_cases hlt : k < n
    · obtain ⟨x, hx⟩ : ∃ x, ws[k]? = some x := ⟨_, List.getElem?_eq_getElem (by rw [HN.out]; exact hlt)⟩
      have hck := HC2.out wr sb.b k x hx
      have hxl : x.length ≤ 120 := HS.out x (List.mem_of_getElem? hx)
      have HST : Hid ((ws.take (k + 1)).foldl partL zeroR = partL (C, D, K) x) := by
        show _ = _
        have hl' := (List.getElem?_eq_some_iff.1 hx).1
        have e : ws.take (k + 1) = ws.take k ++ [x] := by
          rw [List.take_succ_eq_append_getElem hl', (List.getElem?_eq_some_iff.1 hx).2]
        rw [e, List.foldl_append, ← HFD.out]
        rfl
      clear hx
      go_wp2_with fail
      go_region_with (first | (go_at_call 47; refine (spart_any x A1 A2 C D K _ hxl (by exact sb.k1.below (Below.refl _ _).drew) (by exact sb.k2.below (Below.refl _ _).drew) sb.l1 sb.l2 sb.n12).mono ?_; rintro ee w3 ⟨C', D', K', hp, rfl, l1', l2', t3, k13, k23⟩; have t3' := touch_drew t3; have s3 := sb.part K' t3' k13 k23 l1' l2'; have fx := sb.f.touch t3' (fun hk => by rcases hk with h | h; exact sb.n2.1 h; exact sb.n2.2 h); have y0 := fx.cell 0; have y1 := fx.cell 1; have y2 := fx.cell 2; have u0 := fx.free 0; have u1 := fx.free 1; have u2 := fx.free 2; simp only [List.getElem?_cons_zero, List.getElem?_cons_succ] at y0 y1 y2; have HPP : Hid _ := hp; clear hp t3 t3' k13 k23 fx))
      all_goals
        go_wp2
        go_roundw
        case rel => exact ⟨k + 1, (C', D', K'), by omega, by go_num, by rw [HST.out, HPP.out], s3⟩
        case measure => simp [intOf]; omega
    · obtain rfl : k = n := by omega
      have HPW : Hid (preW l = (C, D, K)) := by
        show _ = _
        rw [HFD.out, List.take_of_length_le (by rw [HN.out]; exact Nat.le_refl _), preW, HWS.out]
      have HTF : Hid (textF (C, D, K) = formText 3 2 C D K) := by
        show formText C.length D.length C D K = _
        rw [sb.l1, sb.l2]
      obtain ⟨T, hT⟩ : ∃ T, formText 3 2 C D K = T := ⟨_, rfl⟩
      have HT : Hid _ := hT
      have HR : Hid (rfF l = if T ≠ [] ∧ T = l then ((C, D, K), true) else noF) := by
        show _ = _
        rw [HF.out, HPW.out, HTF.out, hT]
      have HL : Hid (C.length = 3 ∧ D.length = 2) := ⟨sb.l1, sb.l2⟩
      clear hT HF HPW HTF HFD
      have i1 : Ints wr (some ⟨A1, 0, none⟩) 3 C := sb.k1.ints' HL.out.1
      have i2 : Ints wr (some ⟨A2, 0, none⟩) 2 D := sb.k2.ints' HL.out.2
      go_wp2_with fail
      refine (sftext_any _ _ _ _ _ _ K C D _ i1 i2 (by omega) (by omega)).mono ?_
      rintro e w6 ⟨rfl, b6⟩
      rw [HT.out]
      have s6 := sb.below b6
      clear sb b6 i1 i2 f0 f1 f2
      cases T with
      | nil =>
        have HR2 : Hid (rfF l = noF) := by show _ = _; rw [HR.out, if_neg (fun h => h.1 rfl)]
        have r0 := s6.r.cell 0
        have r1 := s6.r.cell 1
        have r2 := s6.r.cell 2
        have q0 := s6.r.free 0
        have q1 := s6.r.free 1
        have q2 := s6.r.free 2
        have ltR := s6.r.lt
        simp only [List.getElem?_cons_zero, List.getElem?_cons_succ] at r0 r1 r2
        have BE := B1.trans (s6.b.mono B1.size)
        clear s6 HR
        go_wp2
        exact bodyPost_ret (v := .tuple #[formV none 0 0 none 0 0 0, .bool false]) (by simp [results, Tryd.results11, go_sem, r0, r1, r2]) rfl (Or.inr ⟨HR2.out, rfl, ((BE.setCell (Nat.le_refl _) _).setCell (Nat.le_refl _) _).setCell (Nat.le_refl _) _⟩)
      | cons tb tt =>
        have i1 : Ints w6 (some ⟨A1, 0, none⟩) 3 C := s6.k1.ints' HL.out.1
        have i2 : Ints w6 (some ⟨A2, 0, none⟩) 2 D := s6.k2.ints' HL.out.2
        have f0 := s6.f.cell 0
        have f1 := s6.f.cell 1
        have f2 := s6.f.cell 2
        simp only [List.getElem?_cons_zero, List.getElem?_cons_succ] at f0 f1 f2
        go_wp2_with fail
        refine (sftext_any _ _ _ _ _ _ K C D _ i1 i2 (by omega) (by omega)).mono ?_
        rintro e w7 ⟨rfl, b7⟩
        rw [HT.out]
        have s7 := s6.below b7
        clear s6 b7 i1 i2 f0 f1 f2
        obtain ⟨TT, hTT⟩ : ∃ TT, TT = tb :: tt := ⟨_, rfl⟩
        rw [← hTT]
        have HTT : Hid _ := hTT
        clear hTT
        have f0 := s7.f.cell 0
        have f1 := s7.f.cell 1
        have f2 := s7.f.cell 2
        have r0 := s7.r.cell 0
        have r1 := s7.r.cell 1
        have r2 := s7.r.cell 2
        have q0 := s7.r.free 0
        have q1 := s7.r.free 1
        have q2 := s7.r.free 2
        have ltR := s7.r.lt
        have ltF := s7.f.lt
        have nRF := s7.n3
        simp only [List.getElem?_cons_zero, List.getElem?_cons_succ] at r0 r1 r2 f0 f1 f2
        have BE := B1.trans (s7.b.mono B1.size)
        have K1 := s7.k1
        have K2 := s7.k2
        have m1 := s7.n1.1
        have m2 := s7.n1.2
        clear s7
        by_cases he : TT = l
        · have hE : (TT == l) = true := by rw [he]; simp
          have hE2 : (TT != l) = false := by rw [he]; simp
          have HR2 : Hid (rfF l = ((C, D, K), true)) := by show _ = _; rw [HR.out, if_pos ⟨by simp, by rw [← HTT.out]; exact he⟩]
          clear he HR
          go_wp2
          exact bodyPost_ret (v := .tuple #[formV (some ⟨A1, 0, none⟩) 3 3 (some ⟨A2, 0, none⟩) 2 2 K, .bool true]) (by simp [results, Tryd.results11, go_sem, r0, r1, r2]) rfl (Or.inl ⟨C, D, K, A1, A2, HR2.out, rfl, HL.out.1, HL.out.2, ((BE.setCell (Nat.le_refl _) _).setCell (Nat.le_refl _) _).setCell (Nat.le_refl _) _, ((K1.setOther m1.symm _ _).setOther m1.symm _ _).setOther m1.symm _ _, ((K2.setOther m2.symm _ _).setOther m2.symm _ _).setOther m2.symm _ _⟩)
        · have hE : (TT == l) = false := by simpa using he
          have hE2 : (TT != l) = true := by simpa using he
          have HR2 : Hid (rfF l = noF) := by show _ = _; rw [HR.out, if_neg (fun h => he (HTT.out.trans h.2))]
          clear he HR
          go_wp2
          exact bodyPost_ret (v := .tuple #[formV none 0 0 none 0 0 0, .bool false]) (by simp [results, Tryd.results11, go_sem, r0, r1, r2]) rfl (Or.inr ⟨HR2.out, rfl, ((BE.setCell (Nat.le_refl _) _).setCell (Nat.le_refl _) _).setCell (Nat.le_refl _) _⟩)

end Go.Proofs.YtfkcfjkojfnfnaaDoor
namespace Go.Proofs
open Go.Shelf
def Tryd.lays145_ren : Go.Shelf.Ren := ⟨fun | 145 => 104 | 220 => 120 | 219 => 129 | 217 => 141 | 225 => 142 | 224 => 143 | 267 => 144 | 266 => 152 | 314 => 153 | n => n, fun | 9 => 9 | 4 => 4 | 59 => 138 | 3 => 3 | 5 => 5 | 46 => 178 | 146 => 198 | 51 => 185 | n => n, fun | 1 => 2 | n => n⟩
theorem Tryd.lays145 : Go.Proofs.Lays.n145 Tryd.prog Tryd.lays145_ren := {
  mixed := by kernel_rfl
  f145 := Tryd.func104.trans (congrArg some (by kernel_rfl))
  f217 := Tryd.func141.trans (congrArg some (by kernel_rfl))
  f219 := Tryd.func129.trans (congrArg some (by kernel_rfl))
  f220 := Tryd.func120.trans (congrArg some (by kernel_rfl))
  f224 := Tryd.func143.trans (congrArg some (by kernel_rfl))
  f225 := Tryd.func142.trans (congrArg some (by kernel_rfl))
  f266 := Tryd.func152.trans (congrArg some (by kernel_rfl))
  f267 := Tryd.func144.trans (congrArg some (by kernel_rfl))
  f314 := Tryd.func153.trans (congrArg some (by kernel_rfl))
  t3 := Tryd.underlying3
  a3 := Tryd.isAgg3
  z3 := Tryd.sizeOf3
  v3 := Tryd.zeroValue3
  t4 := Tryd.underlying4
  a4 := Tryd.isAgg4
  z4 := Tryd.sizeOf4
  v4 := Tryd.zeroValue4
  t5 := Tryd.underlying5
  a5 := Tryd.isAgg5
  z5 := Tryd.sizeOf5
  v5 := Tryd.zeroValue5
  t9 := Tryd.underlying9
  a9 := Tryd.isAgg9
  z9 := Tryd.sizeOf9
  v9 := Tryd.zeroValue9
  t46 := Tryd.underlying178
  a46 := Tryd.isAgg178
  z46 := Tryd.sizeOf178
  v46 := Tryd.zeroValue178
  t51 := Tryd.underlying185
  a51 := Tryd.isAgg185
  z51 := Tryd.sizeOf185
  v51 := Tryd.zeroValue185
  t59 := Tryd.underlying138
  a59 := Tryd.isAgg138
  z59 := Tryd.sizeOf138
  v59 := Tryd.zeroValue138
  t146 := Tryd.underlying198
  a146 := Tryd.isAgg198
  z146 := Tryd.sizeOf198
  v146 := Tryd.zeroValue198
  g1 := by kernel_rfl }
end Go.Proofs
namespace Go.Proofs.YtfkcfjkojfnfnaaDoor
open Go.RowKit Go.Shelf
set_option linter.unusedVariables false
set_option maxRecDepth 100000

theorem cuts_of (w : World) (m : Int) (hm : w.cell? ⟨Tryd.lays145_ren.g 1, 0, none⟩ = some (.int .i64 m)) : Cuts w := fun W b s x hs => by
  have hmW : W.cell? ⟨Tryd.lays145_ren.g 1, 0, none⟩ = some (.int .i64 m) := by rw [b.cell (p := ⟨_, 0, none⟩) (block_lt hm)]; exact hm
  have hss : (⟨s.toArray⟩ : ByteArray).size < 4294967281 := by show s.toArray.size < _; rw [List.size_toArray]; omega
  refine (Any.strings_Cut Tryd.lays145 ⟨s.toArray⟩ ⟨#[x]⟩ m W hss hmW).mono ?_
  rintro e w' ⟨rfl, n, rfl⟩
  exact ⟨rfl, below_drewN (Below.refl _ _) n⟩
theorem rfF_small {l : List UInt8} {C D : List Int} {K : Int} {ok : Bool} (h : rfF l = ((C, D, K), ok)) : C.length ≤ 3 ∧ D.length ≤ 2 := by
  rw [rfF_spec] at h
  split at h
  · rename_i hb
    have e : preW l = (C, D, K) := congrArg Prod.fst h
    rw [e] at hb
    have hok : formB C.length D.length C D K = true := by
      cases e2 : formB C.length D.length C D K with
      | true => rfl
      | false => exact absurd (formText_no e2) hb.1
    obtain ⟨h3, h2, -⟩ := formB_elim hok
    omega
  · have e : (([], [], 0) : FR) = (C, D, K) := congrArg Prod.fst h
    cases e
    exact ⟨by simp, by simp⟩

theorem sfread_at {l : List UInt8} {C D : List Int} {K : Int} {ok : Bool} {n m : Nat} (hF : rfF l = ((C, D, K), ok)) (hn : C.length = n) (hm : D.length = m) (w : World) :
    Calls Tryd.prog 11 #[.string ⟨l.toArray⟩] w fun e w' => ∃ a cap c cap', e = .returned (.tuple #[formV a n cap c m cap' K, .bool ok]) ∧ Below w.heap.size w w' ∧ Ints w' a n C ∧ Ints w' c m D := by
  refine (sfread_any l w).mono ?_
  rintro e w' (⟨C', D', K', B1, B2, h1, rfl, h3, h4, h5, k1, k2⟩ | ⟨h1, rfl, h5⟩)
  · rw [hF] at h1
    cases h1
    obtain rfl : n = 3 := hn.symm.trans h3
    obtain rfl : m = 2 := hm.symm.trans h4
    exact ⟨_, _, _, _, rfl, h5, k1.ints' h3, k2.ints' h4⟩
  · rw [hF, noF] at h1
    cases h1
    obtain rfl : n = 0 := hn.symm
    obtain rfl : m = 0 := hm.symm
    exact ⟨_, _, _, _, rfl, h5, ⟨rfl, fun i hi => by omega⟩, ⟨rfl, fun i hi => by omega⟩⟩

theorem ifread_at {l : List UInt8} {C D : List Int} {K : Int} {ok : Bool} {n m : Nat} (hF : rfF l = ((C, D, K), ok)) (hn : C.length = n) (hm : D.length = m) (w : World) (hl : l.length ≤ 1048576) (hA : ReadsN w) (hSp : Splits w) (hC : Cuts w) (hT : Lib.TabBelow Tryd.prog w.heap.size w "internal/strconv.uint64pow10" .u64 Lib.pow10Tab) :
    Calls Tryd.prog 10 #[.string ⟨l.toArray⟩] w fun e w' => ∃ a cap c cap' B1 B2, e = .returned (.tuple #[formV a n cap c m cap' K, .bool ok]) ∧ Below w.heap.size w w' ∧ OwnAt w' a B1 C ∧ OwnAt w' c B2 D ∧ (0 < n → w.heap.size ≤ B1 ∧ B1 < w'.heap.size) ∧ (0 < m → w.heap.size ≤ B2 ∧ B2 < w'.heap.size) ∧ (0 < n → 0 < m → B1 ≠ B2) := by
  refine (ifread_any l w hl hA hSp hC hT).mono ?_
  rintro e w' (⟨C', D', K', B1, B2, h1, rfl, h3, h4, h5, o1, o12, o2, k1, k2⟩ | ⟨h1, rfl, h5⟩)
  · rw [hF] at h1
    cases h1
    obtain rfl : n = 3 := hn.symm.trans h3
    obtain rfl : m = 2 := hm.symm.trans h4
    exact ⟨_, _, _, _, B1, B2, rfl, h5, .inr ⟨rfl, k1⟩, .inr ⟨rfl, k2⟩, fun _ => ⟨o1, k1.lt⟩, fun _ => ⟨o2, k2.lt⟩, fun _ _ => o12⟩
  · rw [hF, noF] at h1
    cases h1
    obtain rfl : n = 0 := hn.symm
    obtain rfl : m = 0 := hm.symm
    exact ⟨_, _, _, _, 0, 0, rfl, h5, .inl rfl, .inl rfl, fun h => by omega, fun h => by omega, fun h => by omega⟩

end Go.Proofs.YtfkcfjkojfnfnaaDoor
