/-
  What the functions over forms answer: whether one is ok, a copy of one, one held against another, its size. Lengths at most 1048576 where one is copied.
-/
import Derived.Test.YtemcinobgdphnaaWalks
namespace Go.Proofs.Ytemcinobgdphnaa
open Go.RowKit
set_option linter.unusedVariables false

theorem sok_any (a : Option Addr) (n cap : Nat) (c : Option Addr) (m cap' : Nat) (K : Int) (C D : List Int) (w : World) (hC : Ints w a n C) (hD : Ints w c m D) (hn : n ≤ 1048576) (hm : m ≤ 1048576) :
    Calls Try.prog 64 #[formV a n cap c m cap' K] w fun e w' => e = .returned (.bool (formB n m C D K)) ∧ Below w.heap.size w w' := by
  cases h1 : okN 3 10000000 n C
  · go_enter Try.func64, Try.ntmps64
    go_wp2_with fail
    refine (all_any _ _ _ C _ _ _ (hC.alloc _) hn (by omega) (by omega)).mono ?_
    rintro e w1 ⟨rfl, rfl⟩
    go_wp2
    go_ret
    exact ⟨ret_bool (by simp [formB, h1]), (Below.refl _ _).alloc (Nat.le_refl _) _⟩
  · cases h2 : okN 2 10000000 m D
    · go_enter Try.func64, Try.ntmps64
      go_wp2_with fail
      refine (all_any _ _ _ C _ _ _ (hC.alloc _) hn (by omega) (by omega)).mono ?_
      rintro e w1 ⟨rfl, rfl⟩
      go_wp2_with fail
      refine (all_any _ _ _ D _ _ _ (hD.alloc _) hm (by omega) (by omega)).mono ?_
      rintro e w1 ⟨rfl, rfl⟩
      go_wp2
      go_ret
      exact ⟨ret_bool (by simp [formB, h1, h2]), (Below.refl _ _).alloc (Nat.le_refl _) _⟩
    · go_enter Try.func64, Try.ntmps64
      go_wp2_with fail
      refine (all_any _ _ _ C _ _ _ (hC.alloc _) hn (by omega) (by omega)).mono ?_
      rintro e w1 ⟨rfl, rfl⟩
      go_wp2_with fail
      refine (all_any _ _ _ D _ _ _ (hD.alloc _) hm (by omega) (by omega)).mono ?_
      rintro e w1 ⟨rfl, rfl⟩
      go_wp2_with fail
      refine (in_any _ _ _ _).mono ?_
      rintro e w1 ⟨rfl, rfl⟩
      go_wp2
      go_ret
      exact ⟨ret_bool (by simp [formB, h1, h2]), (Below.refl _ _).alloc (Nat.le_refl _) _⟩

set_option maxHeartbeats 800000 in
theorem iok_any (a : Option Addr) (n cap : Nat) (c : Option Addr) (m cap' : Nat) (K : Int) (C D : List Int) (w : World) (hC : Ints w a n C) (hD : Ints w c m D) (hn : n ≤ 1048576) (hm : m ≤ 1048576) :
    Calls Try.prog 34 #[formV a n cap c m cap' K] w fun e w' => e = .returned (.bool (formB n m C D K)) ∧ Below w.heap.size w w' := by
  by_cases h1 : (n : Int) = 3
  · have h1' : ((n : Int) == 3) = true := by simp [h1]
    have H1 : Hid ((n : Int) = 3) := h1
    clear h1
    by_cases h2 : (m : Int) = 2
    · have h2' : ((m : Int) == 2) = true := by simp [h2]
      have H2 : Hid ((m : Int) = 2) := h2
      clear h2
      cases h3 : allB 10000000 C
      · go_enter Try.func34, Try.ntmps34
        go_wp2_with fail
        refine (within_any _ _ _ C _ _ (hC.alloc _) hn (by omega) (by omega)).mono ?_
        rintro e w1 ⟨rfl, rfl⟩
        go_wp2
        go_ret
        exact ⟨ret_bool (by simp [formB, okN_is H1.out, h3]), (Below.refl _ _).alloc (Nat.le_refl _) _⟩
      · cases h4 : allB 10000000 D
        · go_enter Try.func34, Try.ntmps34
          go_wp2_with fail
          refine (within_any _ _ _ C _ _ (hC.alloc _) hn (by omega) (by omega)).mono ?_
          rintro e w1 ⟨rfl, rfl⟩
          go_wp2_with fail
          refine (within_any _ _ _ D _ _ (hD.alloc _) hm (by omega) (by omega)).mono ?_
          rintro e w1 ⟨rfl, rfl⟩
          go_wp2
          go_ret
          exact ⟨ret_bool (by simp [formB, okN_is H1.out, okN_is H2.out, h3, h4]), (Below.refl _ _).alloc (Nat.le_refl _) _⟩
        · go_enter Try.func34, Try.ntmps34
          go_wp2_with fail
          refine (within_any _ _ _ C _ _ (hC.alloc _) hn (by omega) (by omega)).mono ?_
          rintro e w1 ⟨rfl, rfl⟩
          go_wp2_with fail
          refine (within_any _ _ _ D _ _ (hD.alloc _) hm (by omega) (by omega)).mono ?_
          rintro e w1 ⟨rfl, rfl⟩
          go_wp2_with fail
          refine (within_any (some ⟨w.heap.size + 1, 0, none⟩) 1 1 [K] _ _ ?_ (by omega) (by omega) (by omega)).mono ?_
          · refine ⟨rfl, fun i hi => ⟨w.heap.size + 1, 0, rfl, ?_⟩⟩
            obtain rfl : i = 0 := by omega
            simp [go_sem]
          rintro e w1 ⟨rfl, rfl⟩
          go_wp2
          go_ret
          exact ⟨ret_bool (by rw [allB_one]; simp [formB, okN_is H1.out, okN_is H2.out, h3, h4]), ((Below.refl _ _).alloc (Nat.le_refl _) _).alloc (by simp) _⟩
    · have h2' : ((m : Int) == 2) = false := by simpa using h2
      go_enter Try.func34, Try.ntmps34
      go_wp2
      go_ret
      exact ⟨ret_bool (by simp [formB, okN_not h2]), (Below.refl _ _).alloc (Nat.le_refl _) _⟩
  · have h1' : ((n : Int) == 3) = false := by simpa using h1
    go_enter Try.func34, Try.ntmps34
    go_wp2
    go_ret
    exact ⟨ret_bool (by simp [formB, okN_not h1]), (Below.refl _ _).alloc (Nat.le_refl _) _⟩

end Go.Proofs.Ytemcinobgdphnaa
