/-
  All ways through an act (spec.RowsOf), in new memory. Length at most 1048576.
-/
import Derived.Test.YtdigmokjedckeaaGreatDoorWalk
namespace Go.Proofs.YtdigmokjedckeaaGreatDoor
open Go.RowKit Go.Deep
set_option linter.unusedVariables false
set_option maxRecDepth 100000

/-- All ways through an act; none, if it is not ok. -/
def rowsB (N : Nat) (ls : List LV) : List RowM := if actB N ls then rowsL ls else []
theorem JR.noRows (w : World) : JR w w.heap.size 0 [] [] (w.alloc (.cells #[] 106)) :=
  ⟨(Below.refl _ _).alloc (Nat.le_refl _) _, World.ownsRow_lit w #[] 0 (Nat.le_refl _) (by unfold maxLen; omega) rfl, fun j hj => by simp at hj, fun j hj => by simp at hj⟩
theorem actB_parts {N : Nat} {ls : List LV} (h : actB N ls = true) : N ≤ 6 ∧ ls.all LV.ok = true := by
  simp only [actB, Bool.and_eq_true, decide_eq_true_eq] at h
  exact ⟨by omega, h.1.2⟩
/-- The three pots of the beginning, laid in a row. -/
theorem way0_at {W : World} {B : Nat} {a0 a1 a2 c0 c1 c2 : Option Addr} {x0 x1 x2 y0 y1 y2 : Nat} (h : Cel W B [.slice a0 3 x0, .slice c0 2 y0, .int .i64 0, .slice a1 3 x1, .slice c1 2 y1, .int .i64 0, .slice a2 3 x2, .slice c2 2 y2, .int .i64 0] 98)
    (i0 : Ints W a0 3 ([0, 0, 0].set 0 1)) (j0 : Ints W c0 2 [0, 0]) (i1 : Ints W a1 3 ([0, 0, 0].set 1 1)) (j1 : Ints W c1 2 [0, 0]) (i2 : Ints W a2 3 ([0, 0, 0].set 2 1)) (j2 : Ints W c2 2 [0, 0]) : FormsAt W (some ⟨B, 0, none⟩) way0.pots := fun i hi => by
  have hi' : i < 3 := hi
  match i, hi' with
  | 0, _ => exact ⟨B, 0, rfl, a0, c0, x0, y0, h.cell 0, h.cell 1, h.cell 2, i0, j0⟩
  | 1, _ => exact ⟨B, 0, rfl, a1, c1, x1, y1, h.cell 3, h.cell 4, h.cell 5, i1, j1⟩
  | 2, _ => exact ⟨B, 0, rfl, a2, c2, x2, y2, h.cell 6, h.cell 7, h.cell 8, i2, j2⟩
theorem FormsAt.noForms {W : World} {a : Option Addr} : FormsAt W a [] := fun i hi => by simp at hi

set_option maxHeartbeats 3200000 in
theorem srows_any (ad : Option Addr) (N cap : Nat) (ls : List LV) (w : World) (hN : ls.length = N) (hF : LinesG w ad ls) (hN1 : N ≤ 1048576) :
    Calls Tryz.prog 57 #[.slice ad N cap] w fun e w' => ∃ G cp xs, e = .returned (.slice (some ⟨G, 0, none⟩) (rowsB N ls).length cp) ∧ JR w G cp xs (rowsB N ls) w' := by
  have HN : Hid (ls.length = N) := hN
  clear hN
  obtain ⟨u, hu⟩ : ∃ u, actB N ls = u := ⟨_, rfl⟩
  have HU : Hid (actB N ls = u) := hu
  go_enter Tryz.func57, Tryz.ntmps57
  go_wp2_with fail
  refine (sact_any _ _ _ ls _ HN.out hF hN1).mono ?_
  rintro e w1 ⟨rfl, b1⟩
  rw [hu]
  clear hu
  cases u with
  | false =>
    have J := (JR.noRows w1).mono b1
    go_wp2
    go_ret
    rw [rowsB, HU.out]
    exact ⟨_, _, _, rfl, J⟩
  | true =>
    obtain ⟨h6, hall⟩ := actB_parts HU.out
    have HA : Hid (ls.all LV.ok = true) := hall
    clear hall
    go_wp2_with fail
    refine (spot_any _ _).mono ?_
    rintro ee w2 ⟨a0, n0, x0, c0, m0, y0, Z1, Z2, rfl, L1, L2, b2, o1, o2, -, -, -⟩
    rw [potC_in (0 : Int) 0 rfl (by omega)] at L1 o1
    rw [potD_in (0 : Int) (by omega) (by omega)] at L2 o2
    obtain rfl : n0 = 3 := by rw [← L1]; simp
    obtain rfl : m0 = 2 := by rw [← L2]; simp
    have i0 := o1.ints
    have j0 := o2.ints
    rw [L1] at i0
    rw [L2] at j0
    clear o1 o2 L1 L2 Z1 Z2
    go_wp2_with fail
    refine (spot_any _ _).mono ?_
    rintro ee w3 ⟨a1, n1, x1, c1, m1, y1, Z1, Z2, rfl, L1, L2, b3, o1, o2, -, -, -⟩
    rw [potC_in (1 : Int) 1 rfl (by omega)] at L1 o1
    rw [potD_in (1 : Int) (by omega) (by omega)] at L2 o2
    obtain rfl : n1 = 3 := by rw [← L1]; simp
    obtain rfl : m1 = 2 := by rw [← L2]; simp
    have i1 := o1.ints
    have j1 := o2.ints
    rw [L1] at i1
    rw [L2] at j1
    clear o1 o2 L1 L2 Z1 Z2
    go_wp2_with fail
    refine (spot_any _ _).mono ?_
    rintro ee w4 ⟨a2, n2, x2, c2, m2, y2, Z1, Z2, rfl, L1, L2, b4, o1, o2, -, -, -⟩
    rw [potC_in (2 : Int) 2 rfl (by omega)] at L1 o1
    rw [potD_in (2 : Int) (by omega) (by omega)] at L2 o2
    obtain rfl : n2 = 3 := by rw [← L1]; simp
    obtain rfl : m2 = 2 := by rw [← L2]; simp
    have i2 := o1.ints
    have j2 := o2.ints
    rw [L1] at i2
    rw [L2] at j2
    clear o1 o2 L1 L2 Z1 Z2
    have B2 := b1.trans (b2.mono b1.size)
    have B3 := B2.trans (b3.mono B2.size)
    have B4 := B3.trans (b4.mono B3.size)
    have A1 : Below w4.heap.size w4 (w4.alloc (.cells #[.slice a0 3 x0, .slice c0 2 y0, .int .i64 0, .slice a1 3 x1, .slice c1 2 y1, .int .i64 0, .slice a2 3 x2, .slice c2 2 y2, .int .i64 0] 98)) := (Below.refl _ _).alloc (Nat.le_refl _) _
    have A2 := (A1.alloc A1.size (.cells #[] 98))
    have A3 := (A2.alloc A2.size (.cells #[] 98))
    have i0' := ((i0.below b3).below b4).below A3
    have j0' := ((j0.below b3).below b4).below A3
    have i1' := (i1.below b4).below A3
    have j1' := (j1.below b4).below A3
    have i2' := i2.below A3
    have j2' := j2.below A3
    have nb := ((Cel.new w4 [.slice a0 3 x0, .slice c0 2 y0, .int .i64 0, .slice a1 3 x1, .slice c1 2 y1, .int .i64 0, .slice a2 3 x2, .slice c2 2 y2, .int .i64 0] 98).alloc (.cells #[] 98)).alloc (.cells #[] 98)
    have FP := way0_at nb i0' j0' i1' j1' i2' j2'
    have BA := B4.trans (A3.mono B4.size)
    clear i0 j0 i1 j1 i2 j2 i0' j0' i1' j1' i2' j2' nb B2 B3 b2 b3 b4
    go_wp2_with fail
    refine (swalk_any ad N cap ls HN.out h6 HA.out 7 0 way0 _ _ _ _ _ _ _ _ _ (by omega) (by omega) (by omega) WayOk.start rfl rfl (hF.below BA) FP FormsAt.noForms FormsAt.noForms).mono ?_
    rintro ee w5 ⟨G, cp, xs, rfl, J⟩
    have J' := J.mono BA
    clear J FP
    go_wp2
    go_ret
    rw [rowsB, HU.out]
    exact ⟨G, cp, xs, rfl, J'⟩

end Go.Proofs.YtdigmokjedckeaaGreatDoor
