/-
  The form that is 0 or more just where another one is below 0 (spec.l3Minus).
-/
import Derived.Test.YtdigmokjedckeaaGreatDoorCopy
namespace Go.Proofs.YtdigmokjedckeaaGreatDoor
open Go.RowKit
set_option linter.unusedVariables false
set_option maxRecDepth 100000

set_option maxHeartbeats 6400000 in
theorem sminus_any (a : Option Addr) (cap : Nat) (c : Option Addr) (cap' : Nat) (K : Int) (C D : List Int) (w : World) (hC : Ints w a 3 C) (hD : Ints w c 2 D) (bC : bnd 10000000 C) (bD : bnd 10000000 D) (bK1 : -10000000 ≤ K) (bK2 : K ≤ 10000000) :
    Calls Tryz.prog 125 #[formV a 3 cap c 2 cap' K] w fun e w' => ∃ B1 B2, e = .returned (formV (some ⟨B1, 0, none⟩) 3 3 (some ⟨B2, 0, none⟩) 2 2 (-K - 1)) ∧ Below w.heap.size w w' ∧ w.heap.size ≤ B1 ∧ B1 ≠ B2 ∧ w.heap.size ≤ B2 ∧ Blk w' B1 (mulL (-1) C) ∧ Blk w' B2 (mulL (-1) D) := by
  obtain ⟨k, hk⟩ : ∃ k : Int, k = -1 := ⟨_, rfl⟩
  have tC : bndT 1000000000000000000 k C := by rw [hk]; exact fun i => by have := bC i; omega
  have tD : bndT 1000000000000000000 k D := by rw [hk]; exact fun i => by have := bD i; omega
  have tK : -1000000000000000000 ≤ k * K ∧ k * K ≤ 1000000000000000000 := by rw [hk]; omega
  have Z3 := lin_zero3 (k := k) hC.1
  have Z2 := lin_zero2 (k := k) hD.1
  have H1 : TimesH w a cap c cap' K ((w.alloc (Obj.cells #[Value.slice a 3 cap, Value.slice c 2 cap', Value.int IntKind.i64 K] 98)).alloc (Obj.cells #[Value.slice none 0 0, Value.slice none 0 0, Value.int IntKind.i64 0] 98)) :=
    ⟨(Cel.new w _ _).alloc _, by have := Cel.new (w.alloc (Obj.cells #[Value.slice a 3 cap, Value.slice c 2 cap', Value.int IntKind.i64 K] 98)) [.slice none 0 0, .slice none 0 0, .int .i64 0] 98; rw [World.size_alloc] at this; exact this, ((Below.refl _ _).alloc (Nat.le_refl _) _).alloc (by simp) _⟩
  have HK : Hid (k = -1) := hk
  subst hk
  go_enter Tryz.func125, Tryz.ntmps125
  go_upto_region 1 with fail
  obtain ⟨w2, hw2⟩ : ∃ w2, w2 = (w.alloc (Obj.cells #[Value.slice a 3 cap, Value.slice c 2 cap', Value.int IntKind.i64 K] 98)).alloc (Obj.cells #[Value.slice none 0 0, Value.slice none 0 0, Value.int IntKind.i64 0] 98) := ⟨_, rfl⟩
  rw [← hw2] at H1 ⊢
  clear hw2
  go_cut [3] (fun s wx => ∃ X B1 B2, s = .pointer (some ⟨X, 0, none⟩) ∧ TimesH w a cap c cap' K wx ∧ Cel wx X [.slice (some ⟨B1, 0, none⟩) 3 3, .slice (some ⟨B2, 0, none⟩) 2 2, .int .i64 (-K)] 98 ∧ Blk wx B1 (mulL (-1) C) ∧ Blk wx B2 (mulL (-1) D) ∧ w.heap.size + 1 < X ∧ w.heap.size + 1 < B1 ∧ w.heap.size + 1 < B2 ∧ B1 ≠ B2 ∧ B1 ≠ X ∧ B2 ≠ X)
  case first =>
    have l1 := H1.r.lt
    have G1 := H1.cells
    have N0 := World.new_ne w2 ⟨w.heap.size, 0, none⟩ G1.1
    have N1 := World.new_ne w2 ⟨w.heap.size, 1, none⟩ G1.2.1
    have N2 := World.new_ne w2 ⟨w.heap.size, 2, none⟩ G1.2.2
    have A1 := H1.b.size
    go_region_held3 (fun w' => w'.cell? ⟨w.heap.size, 0, none⟩ = some (.slice a 3 cap) ∧ w'.cell? ⟨w.heap.size, 1, none⟩ = some (.slice c 2 cap') ∧ w'.cell? ⟨w.heap.size, 2, none⟩ = some (.int .i64 K)) (first | assumption | go_keep)
      (first
        | (go_at_call 62; refine (szero_any _).mono ?_; rintro e w3 ⟨Z1, Z2', rfl, b3, y1, y2, y3, k1, k2⟩; have H3 := TimesH.below (w := w) (a := a) (c := c) (cap := cap) (cap' := cap') (K := K) (by first | exact H1.drew | exact (H1.alloc _).drew) b3; have G3 := H3.cells; have l3 := H3.r.lt; have A3 : w2.heap.size ≤ w3.heap.size := Nat.le_trans (by simp) b3.size; have N3 := World.new_ne w3 ⟨w.heap.size, 0, none⟩ G3.1; have N4 := World.new_ne w3 ⟨w.heap.size, 1, none⟩ G3.2.1; have N5 := World.new_ne w3 ⟨w.heap.size, 2, none⟩ G3.2.2; first | (have X3 := Cel.below (w := (w2.alloc (Obj.cells #[Value.slice none 0 0, Value.slice none 0 0, Value.int IntKind.i64 0] 98)).drew) (Cel.new w2 [Value.slice none 0 0, Value.slice none 0 0, Value.int IntKind.i64 0] 98) b3) | skip)
        | (go_at_call 126; refine (l1sum_any _ _ _ _ _ [0, 0, 0] [0, 0] _ _ _ _ _ C D _ _ (by first | exact k1.ints' rfl | exact (k1.alloc _).ints' rfl) (by first | exact k2.ints' rfl | exact (k2.alloc _).ints' rfl) (hC.below (TimesH.b (a := a) (c := c) (cap := cap) (cap' := cap') (K := K) (by first | exact H3 | exact H3.alloc _))) (hD.below (TimesH.b (a := a) (c := c) (cap := cap) (cap' := cap') (K := K) (by first | exact H3 | exact H3.alloc _))) bnd_lit3 bnd_lit2 (by omega) tC tD tK).mono ?_; rintro e w4 ⟨B1, B2, rfl, b4, g1, g2, g3, k3, k4⟩; have H4 := TimesH.below (w := w) (a := a) (c := c) (cap := cap) (cap' := cap') (K := K) (by first | exact H3 | exact H3.alloc _) b4; have G4 := H4.cells; have l4 := H4.r.lt; first | (have X4 := Cel.below (Cel.new w3 [Value.slice none 0 0, Value.slice none 0 0, Value.int IntKind.i64 0] 98) b4; have X5 := X4.trio; obtain ⟨u0, u1, u2, u3, u4, u5⟩ := X5) | (have X4 := X3.below b4; have X5 := X4.trio; obtain ⟨u0, u1, u2, u3, u4, u5⟩ := X5) | skip))
    all_goals
      rw [Z3] at k3
      rw [Z2] at k4
      try rw [World.size_alloc] at g1 g3
      have l13 := k3.lt
      have l14 := k4.lt
    · go_wp2_with fail
      go_meet
      case rel => exact ⟨_, B1, B2, rfl, H4.alloc _, Cel.new w4 _ _, k3.alloc _, k4.alloc _, by omega, by omega, by omega, g2, by omega, by omega⟩
    · go_wp2_with fail
      go_meet
      case rel => exact ⟨_, B1, B2, rfl, ((H4.set (by omega) _ _).set (by omega) _ _).set (by omega) _ _, ((X4.set 0 _).set 1 _).set 2 _, ((k3.setOther (by omega) _ _).setOther (by omega) _ _).setOther (by omega) _ _, ((k4.setOther (by omega) _ _).setOther (by omega) _ _).setOther (by omega) _ _, by omega, by omega, by omega, g2, by omega, by omega⟩
    · have x3 := X3.lt
      go_wp2_with fail
      go_meet
      case rel => exact ⟨_, B1, B2, rfl, ((H4.set (by omega) _ _).set (by omega) _ _).set (by omega) _ _, ((X4.set 0 _).set 1 _).set 2 _, ((k3.setOther (by omega) _ _).setOther (by omega) _ _).setOther (by omega) _ _, ((k4.setOther (by omega) _ _).setOther (by omega) _ _).setOther (by omega) _ _, by omega, by omega, by omega, g2, by omega, by omega⟩
  case rest =>
    obtain ⟨X, B1, B2, rfl, HX, hX, k1, k2, lX, lB1, lB2, hne, x1, x2⟩ := hcut
    clear H1 Z3 Z2 tC tD tK bC bD
    obtain ⟨c0, c1, c2, c3, c4, c5⟩ := hX.trio
    have hw : IntKind.i64.wrap (-K - 1) = -K - 1 := wrap_id (by omega) (by omega)
    have HY := HX.set (X := X) (by omega) 2 (.int .i64 (-K - 1))
    have hY := hX.set 2 (.int .i64 (-K - 1))
    obtain ⟨d0, d1, d2, d3, d4, d5⟩ := hY.trio
    obtain ⟨r0, r1, r2, r3, r4, r5⟩ := HY.room
    have k1' := k1.setOther x1 2 (.int .i64 (-K - 1))
    have k2' := k2.setOther x2 2 (.int .i64 (-K - 1))
    clear HX hX hY k1 k2
    go_wp2
    refine bodyPost_ret (v := formV (some ⟨B1, 0, none⟩) 3 3 (some ⟨B2, 0, none⟩) 2 2 (-K - 1)) (by simp [results, Tryz.results125, go_sem, r0, r1, r2]) rfl ?_
    refine ⟨B1, B2, rfl, ?_, by omega, hne, by omega, ?_, ?_⟩
    · exact ((HY.b.setCell (by simp only []; omega) _).setCell (by simp only []; omega) _).setCell (by simp only []; omega) _
    · exact ((k1'.setOther (by omega) _ _).setOther (by omega) _ _).setOther (by omega) _ _
    · exact ((k2'.setOther (by omega) _ _).setOther (by omega) _ _).setOther (by omega) _ _

end Go.Proofs.YtdigmokjedckeaaGreatDoor
