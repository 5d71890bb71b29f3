/-
  What the functions over forms answer: whether one is ok, a copy of one, one held against another, its size. Lengths at most 1048576 where one is copied.
-/
import Derived.Test.YtmhhphpihnkfpaaDoorWalks
namespace Go.Proofs.YtmhhphpihnkfpaaDoor
open Go.RowKit
set_option linter.unusedVariables false

theorem sz_any (a : Option Addr) (n cap : Nat) (l : Int) (w : World) (hn : n ≤ maxLen) (h0 : 0 ≤ l) (hl : l ≤ 1048576) :
    Calls Tryd.prog 14 #[.slice a n cap, .int .i64 l] w fun e w' => e = .returned (.int .i64 (leftOf l n)) ∧ w' = w := by
  unfold maxLen at hn
  by_cases h : l < n
  · go_enter Tryd.func14, Tryd.ntmps14
    go_wp2
    go_ret
    exact ⟨ret_int (by rw [leftOf_neg h]), rfl⟩
  · go_enter Tryd.func14, Tryd.ntmps14
    go_wp2
    go_ret
    exact ⟨ret_int (by rw [leftOf_pos (by omega)]), rfl⟩

theorem szF_any (a : Option Addr) (n cap : Nat) (c : Option Addr) (m cap' : Nat) (K l : Int) (w : World) (hn : n ≤ maxLen) (hm : m ≤ maxLen) (h0 : 0 ≤ l) (hl : l ≤ 1048576) :
    Calls Tryd.prog 62 #[formV a n cap c m cap' K, .int .i64 l] w fun e w' => e = .returned (.int .i64 (leftOf (leftOf l n) m)) ∧ Below w.heap.size w w' := by
  have g1 := leftOf_ge l n
  by_cases h : leftOf l n < 0
  · go_enter Tryd.func62, Tryd.ntmps62
    go_wp2_with fail
    refine (sz_any _ _ _ _ _ hn h0 hl).mono ?_
    rintro e w1 ⟨rfl, rfl⟩
    go_wp2
    go_ret
    exact ⟨ret_int (by rw [leftOf_below h]), (Below.refl _ _).alloc (Nat.le_refl _) _⟩
  · have h1 : 0 ≤ leftOf l n := by omega
    have h2 := (leftOf_le h1).2
    have g2 := leftOf_ge (leftOf l n) m
    clear h
    by_cases h' : leftOf (leftOf l n) m < 0
    · go_enter Tryd.func62, Tryd.ntmps62
      go_wp2_with fail
      refine (sz_any _ _ _ _ _ hn h0 hl).mono ?_
      rintro e w1 ⟨rfl, rfl⟩
      go_wp2_with fail
      refine (sz_any _ _ _ _ _ hm h1 (by omega)).mono ?_
      rintro e w1 ⟨rfl, rfl⟩
      go_wp2
      go_ret
      exact ⟨ret_int (by omega), (Below.refl _ _).alloc (Nat.le_refl _) _⟩
    · go_enter Tryd.func62, Tryd.ntmps62
      go_wp2_with fail
      refine (sz_any _ _ _ _ _ hn h0 hl).mono ?_
      rintro e w1 ⟨rfl, rfl⟩
      go_wp2_with fail
      refine (sz_any _ _ _ _ _ hm h1 (by omega)).mono ?_
      rintro e w1 ⟨rfl, rfl⟩
      go_wp2
      go_ret
      exact ⟨ret_int rfl, (Below.refl _ _).alloc (Nat.le_refl _) _⟩

set_option maxHeartbeats 800000 in
theorem toF_any (a : Option Addr) (n cap : Nat) (c : Option Addr) (m cap' : Nat) (K : Int) (C D : List Int) (w : World) (hC : Ints w a n C) (hD : Ints w c m D) (hn : n ≤ 1048576) (hm : m ≤ 1048576) :
    Calls Tryd.prog 63 #[formV a n cap c m cap' K] w fun e w' => ∃ B1 B2, e = .returned (formV (some ⟨B1, 0, none⟩) n n (some ⟨B2, 0, none⟩) m m K) ∧ Below w.heap.size w w' ∧ w.heap.size ≤ B1 ∧ B1 < B2 ∧ Blk w' B1 C ∧ Blk w' B2 D := by
  go_enter Tryd.func63, Tryd.ntmps63
  go_wp2_with fail
  refine (to_any _ _ _ _ _ (((hC.alloc _).alloc _).alloc _) hn).mono ?_
  rintro e w1 ⟨rfl, b1, k1⟩
  have p0 := (((Cel.new w _ _).alloc _).alloc _).below b1
  have p1 := ((Cel.new (w.alloc _) _ _).alloc _).below b1
  have p2 := (Cel.new ((w.alloc _).alloc _) _ _).below b1
  rw [World.size_alloc] at p1
  rw [World.size_alloc, World.size_alloc] at p2
  rw [World.size_alloc, World.size_alloc, World.size_alloc] at k1
  have s1 := k1.lt
  have B1 : Below w.heap.size w w1 := ((((Below.refl _ _).alloc (Nat.le_refl _) _).alloc (by simp) _).alloc (by simp; omega) _).trans (b1.mono (by simp; omega))
  clear b1
  have g0 := p2.cell 0
  have g1 := p2.free 0
  have g2 := p0.cell 1
  simp only [List.getElem?_cons_zero, List.getElem?_cons_succ] at g0 g2
  go_wp2_with fail
  have B2 := B1.setCell (p := ⟨w.heap.size + 1 + 1, 0, none⟩) (by show w.heap.size ≤ w.heap.size + 1 + 1; omega) (Value.slice (some { block := w.heap.size + 1 + 1 + 1, off := 0 }) n n)
  refine (to_any _ _ _ _ _ (hD.below B2) hm).mono ?_
  rintro e w2 ⟨rfl, b2, k2⟩
  have q0 := (p0.setOther (by omega) _ _).below b2
  have q1 := (p1.setOther (by omega) _ _).below b2
  have q2 := (p2.set _ _).below b2
  have k1' := (k1.setOther (by omega) _ _).below b2
  have B3 := B2.trans (b2.mono B2.size)
  have s2 := k2.lt
  rw [size_setCell] at k2 s2
  clear g0 g1 g2 p0 p1 p2 k1 b2 B1 B2
  have g0 := q2.cell 0
  have g1 := q2.cell 1
  have g2 := q2.cell 2
  have g3 := q2.free 1
  have g4 := q2.free 2
  have g5 := q0.cell 2
  have g6 := q1.cell 0
  have g7 := q1.cell 1
  have g8 := q1.cell 2
  have g9 := q1.free 0
  have g10 := q1.free 1
  have g11 := q1.free 2
  simp only [List.getElem?_cons_zero, List.getElem?_cons_succ, List.set_cons_zero] at g0 g1 g2 g5 g6 g7 g8
  have hlt1 : w.heap.size + 1 < w2.heap.size := by omega
  have hlt2 : w.heap.size + 1 + 1 < w2.heap.size := by omega
  go_wp2
  refine bodyPost_ret (v := formV (some ⟨w.heap.size + 1 + 1 + 1, 0, none⟩) n n (some ⟨w1.heap.size, 0, none⟩) m m K) (by simp [results, Tryd.results63, go_sem, g6, g7, g8]) rfl ⟨_, _, rfl, ?_, by omega, s1, ?_, ?_⟩
  · exact (((((B3.setCell (by simp only []; omega) _).setCell (by simp only []; omega) _).setCell (by simp only []; omega) _).setCell (by simp only []; omega) _).setCell (by simp only []; omega) _)
  · exact (((((k1'.setOther (by omega) _ _).setOther (by omega) _ _).setOther (by omega) _ _).setOther (by omega) _ _).setOther (by omega) _ _)
  · exact (((((k2.setOther (by omega) _ _).setOther (by omega) _ _).setOther (by omega) _ _).setOther (by omega) _ _).setOther (by omega) _ _)

theorem sok_any (a : Option Addr) (n cap : Nat) (c : Option Addr) (m cap' : Nat) (K : Int) (C D : List Int) (w : World) (hC : Ints w a n C) (hD : Ints w c m D) (hn : n ≤ 1048576) (hm : m ≤ 1048576) :
    Calls Tryd.prog 50 #[formV a n cap c m cap' K] w fun e w' => e = .returned (.bool (formB n m C D K)) ∧ Below w.heap.size w w' := by
  cases h1 : okN 3 10000000 n C
  · go_enter Tryd.func50, Tryd.ntmps50
    go_wp2_with fail
    refine (all_any _ _ _ C _ _ _ (hC.alloc _) hn (by omega) (by omega)).mono ?_
    rintro e w1 ⟨rfl, rfl⟩
    go_wp2
    go_ret
    exact ⟨ret_bool (by simp [formB, h1]), (Below.refl _ _).alloc (Nat.le_refl _) _⟩
  · cases h2 : okN 2 10000000 m D
    · go_enter Tryd.func50, Tryd.ntmps50
      go_wp2_with fail
      refine (all_any _ _ _ C _ _ _ (hC.alloc _) hn (by omega) (by omega)).mono ?_
      rintro e w1 ⟨rfl, rfl⟩
      go_wp2_with fail
      refine (all_any _ _ _ D _ _ _ (hD.alloc _) hm (by omega) (by omega)).mono ?_
      rintro e w1 ⟨rfl, rfl⟩
      go_wp2
      go_ret
      exact ⟨ret_bool (by simp [formB, h1, h2]), (Below.refl _ _).alloc (Nat.le_refl _) _⟩
    · go_enter Tryd.func50, Tryd.ntmps50
      go_wp2_with fail
      refine (all_any _ _ _ C _ _ _ (hC.alloc _) hn (by omega) (by omega)).mono ?_
      rintro e w1 ⟨rfl, rfl⟩
      go_wp2_with fail
      refine (all_any _ _ _ D _ _ _ (hD.alloc _) hm (by omega) (by omega)).mono ?_
      rintro e w1 ⟨rfl, rfl⟩
      go_wp2_with fail
      refine (in_any _ _ _ _).mono ?_
      rintro e w1 ⟨rfl, rfl⟩
      go_wp2
      go_ret
      exact ⟨ret_bool (by simp [formB, h1, h2]), (Below.refl _ _).alloc (Nat.le_refl _) _⟩

set_option maxHeartbeats 800000 in
theorem iok_any (a : Option Addr) (n cap : Nat) (c : Option Addr) (m cap' : Nat) (K : Int) (C D : List Int) (w : World) (hC : Ints w a n C) (hD : Ints w c m D) (hn : n ≤ 1048576) (hm : m ≤ 1048576) :
    Calls Tryd.prog 68 #[formV a n cap c m cap' K] w fun e w' => e = .returned (.bool (formB n m C D K)) ∧ Below w.heap.size w w' := by
  by_cases h1 : (n : Int) = 3
  · have h1' : ((n : Int) == 3) = true := by simp [h1]
    have H1 : Hid ((n : Int) = 3) := h1
    clear h1
    by_cases h2 : (m : Int) = 2
    · have h2' : ((m : Int) == 2) = true := by simp [h2]
      have H2 : Hid ((m : Int) = 2) := h2
      clear h2
      cases h3 : allB 10000000 C
      · go_enter Tryd.func68, Tryd.ntmps68
        go_wp2_with fail
        refine (within_any _ _ _ C _ _ (hC.alloc _) hn (by omega) (by omega)).mono ?_
        rintro e w1 ⟨rfl, rfl⟩
        go_wp2
        go_ret
        exact ⟨ret_bool (by simp [formB, okN_is H1.out, h3]), (Below.refl _ _).alloc (Nat.le_refl _) _⟩
      · cases h4 : allB 10000000 D
        · go_enter Tryd.func68, Tryd.ntmps68
          go_wp2_with fail
          refine (within_any _ _ _ C _ _ (hC.alloc _) hn (by omega) (by omega)).mono ?_
          rintro e w1 ⟨rfl, rfl⟩
          go_wp2_with fail
          refine (within_any _ _ _ D _ _ (hD.alloc _) hm (by omega) (by omega)).mono ?_
          rintro e w1 ⟨rfl, rfl⟩
          go_wp2
          go_ret
          exact ⟨ret_bool (by simp [formB, okN_is H1.out, okN_is H2.out, h3, h4]), (Below.refl _ _).alloc (Nat.le_refl _) _⟩
        · go_enter Tryd.func68, Tryd.ntmps68
          go_wp2_with fail
          refine (within_any _ _ _ C _ _ (hC.alloc _) hn (by omega) (by omega)).mono ?_
          rintro e w1 ⟨rfl, rfl⟩
          go_wp2_with fail
          refine (within_any _ _ _ D _ _ (hD.alloc _) hm (by omega) (by omega)).mono ?_
          rintro e w1 ⟨rfl, rfl⟩
          go_wp2_with fail
          refine (within_any (some ⟨w.heap.size + 1, 0, none⟩) 1 1 [K] _ _ ?_ (by omega) (by omega) (by omega)).mono ?_
          · refine ⟨rfl, fun i hi => ⟨w.heap.size + 1, 0, rfl, ?_⟩⟩
            obtain rfl : i = 0 := by omega
            simp [go_sem]
          rintro e w1 ⟨rfl, rfl⟩
          go_wp2
          go_ret
          exact ⟨ret_bool (by rw [allB_one]; simp [formB, okN_is H1.out, okN_is H2.out, h3, h4]), ((Below.refl _ _).alloc (Nat.le_refl _) _).alloc (by simp) _⟩
    · have h2' : ((m : Int) == 2) = false := by simpa using h2
      go_enter Tryd.func68, Tryd.ntmps68
      go_wp2
      go_ret
      exact ⟨ret_bool (by simp [formB, okN_not h2]), (Below.refl _ _).alloc (Nat.le_refl _) _⟩
  · have h1' : ((n : Int) == 3) = false := by simpa using h1
    go_enter Tryd.func68, Tryd.ntmps68
    go_wp2
    go_ret
    exact ⟨ret_bool (by simp [formB, okN_not h1]), (Below.refl _ _).alloc (Nat.le_refl _) _⟩

set_option maxHeartbeats 800000 in
theorem eqF_any (a : Option Addr) (n cap : Nat) (c : Option Addr) (m cap' : Nat) (K : Int) (C D : List Int) (a' : Option Addr) (n' cap2 : Nat) (c' : Option Addr) (m' cap3 : Nat) (K' : Int) (C' D' : List Int) (w : World)
    (hC : Ints w a n C) (hD : Ints w c m D) (hC' : Ints w a' n' C') (hD' : Ints w c' m' D') (hn : n ≤ 1048576) (hm : m ≤ 1048576) (hn' : n' ≤ 1048576) (hm' : m' ≤ 1048576) :
    Calls Tryd.prog 69 #[formV a n cap c m cap' K, formV a' n' cap2 c' m' cap3 K'] w fun e w' => e = .returned (.bool (eqF C D K C' D' K')) ∧ Below w.heap.size w w' := by
  cases h1 : eqB C C'
  · go_enter Tryd.func69, Tryd.ntmps69
    go_wp2_with fail
    refine (eq_any _ _ _ _ _ _ C C' _ ((hC.alloc _).alloc _) ((hC'.alloc _).alloc _) hn hn').mono ?_
    rintro e w1 ⟨rfl, b1⟩
    go_wp2
    go_ret
    exact ⟨ret_bool (by simp [eqF, h1]), (((Below.refl _ _).alloc (Nat.le_refl _) _).alloc (by simp) _).trans (b1.mono (by simp; omega))⟩
  · cases h2 : eqB D D'
    · go_enter Tryd.func69, Tryd.ntmps69
      go_wp2_with fail
      refine (eq_any _ _ _ _ _ _ C C' _ ((hC.alloc _).alloc _) ((hC'.alloc _).alloc _) hn hn').mono ?_
      rintro e w1 ⟨rfl, b1⟩
      have q0 := ((Cel.new w _ _).alloc _).below b1
      have q1 := (Cel.new (w.alloc _) _ _).below b1
      rw [World.size_alloc] at q1
      have g0 := q0.cell 1
      have g1 := q1.cell 1
      simp only [List.getElem?_cons_zero, List.getElem?_cons_succ] at g0 g1
      go_wp2_with fail
      refine (eq_any _ _ _ _ _ _ D D' _ (((hD.alloc _).alloc _).below b1) (((hD'.alloc _).alloc _).below b1) hm hm').mono ?_
      rintro e w2 ⟨rfl, b2⟩
      go_wp2
      go_ret
      have B1 := (((Below.refl _ _).alloc (Nat.le_refl _) _).alloc (by simp) _).trans (b1.mono (by simp; omega))
      exact ⟨ret_bool (by simp [eqF, h2]), B1.trans (b2.mono B1.size)⟩
    · cases h3 : (K != K')
      all_goals
        go_enter Tryd.func69, Tryd.ntmps69
        go_wp2_with fail
        refine (eq_any _ _ _ _ _ _ C C' _ ((hC.alloc _).alloc _) ((hC'.alloc _).alloc _) hn hn').mono ?_
        rintro e w1 ⟨rfl, b1⟩
        have q0 := ((Cel.new w _ _).alloc _).below b1
        have q1 := (Cel.new (w.alloc _) _ _).below b1
        rw [World.size_alloc] at q1
        have g0 := q0.cell 1
        have g1 := q1.cell 1
        simp only [List.getElem?_cons_zero, List.getElem?_cons_succ] at g0 g1
        go_wp2_with fail
        refine (eq_any _ _ _ _ _ _ D D' _ (((hD.alloc _).alloc _).below b1) (((hD'.alloc _).alloc _).below b1) hm hm').mono ?_
        rintro e w2 ⟨rfl, b2⟩
        have g2 := (q0.below b2).cell 2
        have g3 := (q1.below b2).cell 2
        simp only [List.getElem?_cons_zero, List.getElem?_cons_succ] at g2 g3
        go_wp2
        go_ret
        have B1 := (((Below.refl _ _).alloc (Nat.le_refl _) _).alloc (by simp) _).trans (b1.mono (by simp; omega))
        have h4 := h3
        simp at h4
        exact ⟨ret_bool (by simp [eqF, h1, h2, h4]), B1.trans (b2.mono B1.size)⟩

end Go.Proofs.YtmhhphpihnkfpaaDoor
