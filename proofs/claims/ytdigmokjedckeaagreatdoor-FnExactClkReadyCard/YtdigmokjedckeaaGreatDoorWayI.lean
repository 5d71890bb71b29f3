/-
  The program's ways, piece by piece: the pots of the beginning, the form that is 0 or more just where another one is below 0, a copy of a form. No condition but that no number is too great.
-/
import Derived.Test.YtdigmokjedckeaaGreatDoorIntoW
import Derived.Test.YtdigmokjedckeaaGreatDoorOwn
namespace Go.Proofs.YtdigmokjedckeaaGreatDoor
open Go.RowKit Go.Deep
set_option linter.unusedVariables false
set_option maxRecDepth 100000

set_option maxHeartbeats 1600000 in
theorem ilack_any (a : Option Addr) (cap : Nat) (c : Option Addr) (cap' : Nat) (K : Int) (C D : List Int) (w : World) (hC : Ints w a 3 C) (hD : Ints w c 2 D) (bC : bnd 10000000 C) (bD : bnd 10000000 D) (bK1 : -10000000 ≤ K) (bK2 : K ≤ 10000000) (hfit : fitX 10000000 (minusX (C, D, K))) :
    Calls Tryz.prog 165 #[formV a 3 cap c 2 cap' K] w fun e w' => ∃ B1 B2, e = .returned (formV (some ⟨B1, 0, none⟩) 3 3 (some ⟨B2, 0, none⟩) 2 2 (-K - 1)) ∧ Below w.heap.size w w' ∧ w.heap.size ≤ B1 ∧ B1 ≠ B2 ∧ w.heap.size ≤ B2 ∧ Blk w' B1 (mulL (-1) C) ∧ Blk w' B2 (mulL (-1) D) := by
  have hok : formB 3 2 (mulL (-1) C) (mulL (-1) D) (-K - 1) = true := by
    have := fit_ok hfit
    simp only [minusX] at this
    rw [show -1 * K - 1 = -K - 1 by omega] at this
    exact this
  have HOK : Hid _ := hok
  have lC : (mulL (-1) C).length = 3 := by rw [mulL_len]; exact hC.1
  have lD : (mulL (-1) D).length = 2 := by rw [mulL_len]; exact hD.1
  clear hok hfit
  have A2 : Below w.heap.size w ((w.alloc (.cells #[.slice a 3 cap, .slice c 2 cap', .int .i64 K] 98)).alloc (.cells #[.slice none 0 0, .slice none 0 0, .int .i64 0] 98)) := ((Below.refl _ _).alloc (Nat.le_refl _) _).alloc (by simp) _
  have rr := Cel.new (w.alloc (.cells #[.slice a 3 cap, .slice c 2 cap', .int .i64 K] 98)) [.slice none 0 0, .slice none 0 0, .int .i64 0] 98
  rw [World.size_alloc] at rr
  go_enter Tryz.func165, Tryz.ntmps165
  go_wp2_with fail
  refine (times_any _ _ _ _ _ C D _ _ (hC.below A2) (hD.below A2) (tim_bnd bC (by omega) (by omega)) (tim_bnd bD (by omega) (by omega)) (tim_num bK1 bK2 (by omega) (by omega))).mono ?_
  rintro e w3 ⟨B1, B2, rfl, b3, y1, y2, y3, k1, k2⟩
  rw [show (-1 : Int) * K = -K by omega]
  rw [World.size_alloc, World.size_alloc] at y1 y3
  have B3 := A2.trans (b3.mono A2.size)
  have r3 := rr.below b3
  have l1 := k1.lt
  have l2 := k2.lt
  have lr := r3.lt
  clear A2 b3 rr
  have hw : IntKind.i64.wrap (-K - 1) = -K - 1 := wrap_id (by omega) (by omega)
  have A4 : Below w3.heap.size w3 (w3.alloc (.cells #[.slice (some ⟨B1, 0, none⟩) 3 3, .slice (some ⟨B2, 0, none⟩) 2 2, .int .i64 (-K - 1)] 98)) := (Below.refl _ _).alloc (Nat.le_refl _) _
  have m1 := k1.below A4
  have m2 := k2.below A4
  have r4 := r3.below A4
  have B4 := B3.trans (A4.mono B3.size)
  clear k1 k2 r3 A4 B3
  go_wp2_with fail
  refine (orN_yes _ _ _ _ _ _ _ (mulL (-1) C) (mulL (-1) D) _ (m1.ints' lC) (m2.ints' lD) (by omega) (by omega) HOK.out).mono ?_
  rintro e w5 ⟨rfl, b5⟩
  have n1 := m1.below b5
  have n2 := m2.below b5
  have r5 := r4.below b5
  have B5 := B4.trans (b5.mono B4.size)
  obtain ⟨e0, e1, e2, e3, e4, e5⟩ := r5.trio
  have r6 := ((r5.set 0 (.slice (some ⟨B1, 0, none⟩) 3 3)).set 1 (.slice (some ⟨B2, 0, none⟩) 2 2)).set 2 (.int .i64 (-K - 1))
  simp only [List.set_cons_zero, List.set_cons_succ] at r6
  obtain ⟨h0, h1, h2, h3, h4, h5⟩ := r6.trio
  clear m1 m2 r4 B4 b5
  go_wp2
  refine bodyPost_ret (v := formV (some ⟨B1, 0, none⟩) 3 3 (some ⟨B2, 0, none⟩) 2 2 (-K - 1)) (by simp [results, Tryz.results165, go_sem, h0, h1, h2]) rfl ?_
  refine ⟨B1, B2, rfl, ?_, by omega, y2, by omega, ?_, ?_⟩
  · exact ((B5.setCell (by simp only []; omega) _).setCell (by simp only []; omega) _).setCell (by simp only []; omega) _
  · exact ((n1.setOther (by omega) _ _).setOther (by omega) _ _).setOther (by omega) _ _
  · exact ((n2.setOther (by omega) _ _).setOther (by omega) _ _).setOther (by omega) _ _

theorem way0_get {k : Nat} (hk : k < 3) : way0.pots[k]?.getD ([], [], 0) = (([0, 0, 0] : List Int).set k 1, [0, 0], 0) := by
  match k, hk with
  | 0, _ => rfl
  | 1, _ => rfl
  | 2, _ => rfl

set_option maxHeartbeats 1600000 in
theorem ipots_any (w : World) : Calls Tryz.prog 107 #[] w fun e w' => ∃ v xs, e = .returned v ∧ JV w v 3 xs way0.pots w' := by
  obtain ⟨zi, hi, hz0, hz1, hz2⟩ := info_parts Tryz.infoForm
  go_enter Tryz.func107, Tryz.ntmps107
  go_wp2_with fail
  go_loopw [1, 2, 3] (fun r _ i wr => ∃ (k : Nat) (xs : List Value), k ≤ 3 ∧ i = .int .i64 k ∧ JV w r k xs way0.pots wr) (fun _ _ i _ => 3 - (intOf i).toNat)
  case atStart => exact ⟨0, [], by omega, rfl, JV.nil w _⟩
  case round =>
    obtain ⟨k, xs, hk, rfl, j⟩ := hrel
    by_cases hlt : k < 3
    · obtain ⟨va, vc, rfl⟩ := j.isSlice
      have hlt' : (k : Int) < 3 := by omega
      have HT : Hid _ := way0_get hlt
      go_wp2_with fail
      refine (ipot_any _ _).mono ?_
      rintro ee w3 ⟨a0, n0, x0, c0, m0, y0, Z1, Z2, rfl, L1, L2, b3, o1, o2, g1, g2, g3⟩
      rw [potC_in (k : Int) k rfl (by omega)] at L1 o1
      rw [potD_in (k : Int) (by omega) (by omega)] at L2 o2
      obtain rfl : n0 = 3 := by rw [← L1]; simp
      obtain rfl : m0 = 2 := by rw [← L2]; simp
      rcases o1 with h | ⟨rfl, k1⟩
      · rw [h] at L1; cases L1
      rcases o2 with h | ⟨rfl, k2⟩
      · cases h
      have z1 := g1 (by omega)
      have z2 := g2 (by omega)
      clear g1 g2 g3
      have j3 := j.below b3
      have sz := j.b.size
      have sz3 := b3.size
      have A : Below w3.heap.size w3 (w3.alloc (.cells #[.slice (some ⟨Z1, 0, none⟩) 3 x0, .slice (some ⟨Z2, 0, none⟩) 2 y0, .int .i64 0] 98)) := (Below.refl _ _).alloc (Nat.le_refl _) _
      have j4 := j3.below A
      have k1' := k1.below A
      have k2' := k2.below A
      have n1 : (Value.slice va k vc).ownBlock ≠ some Z1 := fun e => by have := (j.own e).2; omega
      have n2 : (Value.slice va k vc).ownBlock ≠ some Z2 := fun e => by have := (j.own e).2; omega
      have l3 : (([0, 0, 0] : List Int).set k 1).length = 3 := by simp
      clear j j3
      go_wp2_with (at_builtin; go_must (refine wpList_append_lies _ rfl (.tmp 6) (.tmp 9) 104 rfl w.heap.size 98 zi _ 3 56 Tryz.underlying104 hi hz0 hz1 hz2 rfl (by decide) (.slice va k vc) k xs rfl j4.o ⟨w3.heap.size, 0, none⟩ 1 1 [.slice (some ⟨Z1, 0, none⟩) 3 x0, .slice (some ⟨Z2, 0, none⟩) 2 y0, .int .i64 0] rfl rfl (World.news_of_block (cs := #[.slice (some ⟨Z1, 0, none⟩) 3 x0, .slice (some ⟨Z2, 0, none⟩) 2 y0, .int .i64 0]) (t := 98) (fr := (0, 0)) (heap_alloc_new w3 _)) (by simp [Value.oneCell']) (by omega) (by unfold maxLen; omega) (by omega) (by rw [World.size_alloc]; omega) _ rfl ?_); intro g cp w4 hown hgrow hat hlt1)
      have j5 := j4.app hown hgrow hat rfl (k1'.ints' l3) (k2'.ints' rfl) n1 n2 (by omega) (by omega) HT.out
      clear hown hgrow hat j4 k1 k2 k1' k2'
      go_wp2
      go_roundw
      case rel => exact ⟨k + 1, _, by omega, by go_num, j5⟩
      case measure => simp [intOf]; omega
    · obtain rfl : k = 3 := by omega
      go_wp2
      go_ret
      exact ⟨_, xs, rfl, j⟩

end Go.Proofs.YtdigmokjedckeaaGreatDoor
