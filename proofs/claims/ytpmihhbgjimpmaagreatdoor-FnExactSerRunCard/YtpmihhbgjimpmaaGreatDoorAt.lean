/-
  What a form is, by what the pots have, and arguments: as both texts reckon it.
-/
import Derived.Test.YtpmihhbgjimpmaaGreatDoorSums
namespace Go.Proofs.YtpmihhbgjimpmaaGreatDoor
open Go.RowKit
set_option linter.unusedVariables false

/-- The sum of products, of the first k. -/
def dot (xs ys : List Int) : Nat → Int
  | 0 => 0
  | k + 1 => dot xs ys k + xs[k]?.getD 0 * ys[k]?.getD 0

/-- Each product lies within a bound. -/
def bndP (P : Int) (xs ys : List Int) : Prop := ∀ i : Nat, -P ≤ xs[i]?.getD 0 * ys[i]?.getD 0 ∧ xs[i]?.getD 0 * ys[i]?.getD 0 ≤ P

theorem dot_bnd {P : Int} {xs ys : List Int} (h : bndP P xs ys) : ∀ k : Nat, -(k * P) ≤ dot xs ys k ∧ dot xs ys k ≤ k * P
  | 0 => by simp [dot]
  | k + 1 => by
    have ih := dot_bnd h k
    have hk := h k
    have e : ((k + 1 : Nat) : Int) * P = k * P + P := by rw [Int.natCast_add, Int.add_mul]; simp
    rw [e]
    simp only [dot]
    omega

theorem bndP_of {M M' : Int} {xs ys : List Int} (hx : bnd M xs) (hy : bnd M' ys) (h0 : 0 ≤ M) (h1 : 0 ≤ M') : bndP (M * M') xs ys := by
  intro i
  obtain ⟨a1, a2⟩ := hx i
  obtain ⟨b1, b2⟩ := hy i
  generalize xs[i]?.getD 0 = x at *
  generalize ys[i]?.getD 0 = y at *
  have hx' : x.natAbs ≤ M.toNat := by omega
  have hy' : y.natAbs ≤ M'.toNat := by omega
  have hm : (x * y).natAbs ≤ M.toNat * M'.toNat := by rw [Int.natAbs_mul]; exact Nat.mul_le_mul hx' hy'
  have e : ((M.toNat * M'.toNat : Nat) : Int) = M * M' := by rw [Int.natCast_mul, Int.toNat_of_nonneg h0, Int.toNat_of_nonneg h1]
  omega

theorem allB_bnd {m : Int} {zs : List Int} (hm : 0 ≤ m) (h : allB m zs = true) : bnd m zs := by
  intro i
  by_cases hi : i < zs.length
  · unfold allB at h
    rw [List.all_eq_true] at h
    have := inB_iff.1 (h zs[i] (List.getElem_mem hi))
    rw [List.getElem?_eq_getElem hi]
    simpa using this
  · rw [List.getElem?_eq_none (by omega)]
    simp; omega

theorem okN_elim {c m : Int} {n : Nat} {zs : List Int} (hm : 0 ≤ m) (h : okN c m n zs = true) : (n : Int) = c ∧ bnd m zs := by
  simp only [okN, Bool.and_eq_true, decide_eq_true_eq] at h
  exact ⟨h.1, allB_bnd hm h.2⟩

theorem formB_elim {n m : Nat} {C D : List Int} {K : Int} (h : formB n m C D K = true) : n = 3 ∧ m = 2 ∧ bnd 10000000 C ∧ bnd 10000000 D ∧ -10000000 ≤ K ∧ K ≤ 10000000 := by
  simp only [formB, Bool.and_eq_true] at h
  obtain ⟨⟨h1, h2⟩, h3⟩ := h
  have a := okN_elim (by omega) h1
  have b := okN_elim (by omega) h2
  have c := inB_iff.1 h3
  exact ⟨by omega, by omega, a.2, b.2, c.1, c.2⟩

set_option maxHeartbeats 400000 in
theorem psum_any (a c : Option Addr) (n cap cap' : Nat) (xs ys : List Int) (P : Int) (w : World) (h : Ints w a n xs) (h' : Ints w c n ys) (hn : n ≤ 1000) (hP : bndP P xs ys) (h0 : 0 ≤ P) (hb : P ≤ 1000000000000) :
    Calls Tryz.prog 155 #[.slice a n cap, .slice c n cap'] w fun e w' => e = .returned (.int .i64 (dot xs ys n)) ∧ w' = w := by
  go_enter Tryz.func155, Tryz.ntmps155
  go_wp2_with fail
  go_loop [5, 6, 7, 10] (fun s _ _ i => ∃ k : Nat, k ≤ n ∧ i = .int .i64 k ∧ s = .int .i64 (dot xs ys k)) (fun _ _ _ i => n - (intOf i).toNat)
  case atStart => exact ⟨0, Nat.zero_le _, rfl, rfl⟩
  case round =>
    obtain ⟨k, hk, rfl, rfl⟩ := hrel
    by_cases hlt : k < n
    · obtain ⟨b, off, rfl, hcell⟩ := h.pos (by omega)
      obtain ⟨b', off', rfl, hcell'⟩ := h'.pos (by omega)
      have hck := hcell k hlt
      have hck' := hcell' k hlt
      have hlt' : (k : Int) < (n : Int) := by omega
      obtain ⟨p1, p2⟩ := hP k
      have d := dot_bnd hP k
      have kP : (k : Int) * P ≤ 1000 * P := Int.mul_le_mul_of_nonneg_right (by omega) h0
      have d1 : -1000000000000000 ≤ dot xs ys k := by omega
      have d2 : dot xs ys k ≤ 1000000000000000 := by omega
      have d3 : -1000000000000 ≤ xs[k]?.getD 0 * ys[k]?.getD 0 := by omega
      have d4 : xs[k]?.getD 0 * ys[k]?.getD 0 ≤ 1000000000000 := by omega
      clear hcell hcell' h h' d kP p1 p2 hP hb h0
      go_wp2
      go_round
      case rel => exact ⟨k + 1, by omega, by go_num, by simp only [dot]⟩
      case measure => simp [intOf]; omega
    · go_wp2
      go_ret
      obtain rfl : k = n := by omega
      exact ⟨rfl, rfl⟩

/-- What a form is. -/
def atV (C D : List Int) (K : Int) (V A : List Int) : Int := dot C V 3 + dot D A 2 + K

set_option maxHeartbeats 800000 in
theorem iat30_any (a : Option Addr) (cap : Nat) (c : Option Addr) (cap' : Nat) (K : Int) (C D : List Int) (v : Option Addr) (cv : Nat) (u : Option Addr) (cu : Nat) (V A : List Int) (w : World)
    (hC : Ints w a 3 C) (hD : Ints w c 2 D) (hV : Ints w v 3 V) (hA : Ints w u 2 A) (bC : bnd 10000000 C) (bD : bnd 10000000 D) (bK : -10000000 ≤ K ∧ K ≤ 10000000) (bV : bnd 30000 V) (bA : bnd 9 A) :
    Calls Tryz.prog 145 #[formV a 3 cap c 2 cap' K, .slice v 3 cv, .slice u 2 cu] w fun e w' => e = .returned (.int .i64 (atV C D K V A)) ∧ Below w.heap.size w w' := by
  have p1 := bndP_of bC bV (by omega) (by omega)
  have p2 := bndP_of bD bA (by omega) (by omega)
  have d1 := dot_bnd p1 3
  have d2 := dot_bnd p2 2
  obtain ⟨K1, K2⟩ := bK
  have q1 : ∀ w' : World, Below w.heap.size w w' → Calls Tryz.prog 155 #[.slice a 3 cap, .slice v 3 cv] w' fun e w'' => e = .returned (.int .i64 (dot C V 3)) ∧ w'' = w' := fun w' hb => psum_any _ _ _ _ _ C V _ _ (hC.below hb) (hV.below hb) (by omega) p1 (by omega) (by omega)
  have q2 : ∀ w' : World, Below w.heap.size w w' → Calls Tryz.prog 155 #[.slice c 2 cap', .slice u 2 cu] w' fun e w'' => e = .returned (.int .i64 (dot D A 2)) ∧ w'' = w' := fun w' hb => psum_any _ _ _ _ _ D A _ _ (hD.below hb) (hA.below hb) (by omega) p2 (by omega) (by omega)
  have Q1 : Hid _ := q1
  have Q2 : Hid _ := q2
  obtain ⟨X, hX⟩ : ∃ X, X = dot C V 3 := ⟨_, rfl⟩
  obtain ⟨Y, hY⟩ : ∃ Y, Y = dot D A 2 := ⟨_, rfl⟩
  have e1 : -1000000000000 ≤ dot C V 3 := by omega
  have e2 : dot C V 3 ≤ 1000000000000 := by omega
  have e3 : -1000000000000 ≤ dot D A 2 := by omega
  have e4 : dot D A 2 ≤ 1000000000000 := by omega
  clear d1 d2 p1 p2 q1 q2 hX hY X Y hC hD hV hA bC bD bV bA
  go_enter Tryz.func145, Tryz.ntmps145
  go_wp2_with fail
  go_quiet (first | (go_at_call_of 155 (Value.slice a 3 cap); exact Calls.quiet_of_same (Q1.out _ (by repeat (first | exact (Below.refl _ _).alloc (Nat.le_refl _) _ | refine below_drewN ?_ _ | refine Below.drew ?_)))) | (go_at_call_of 155 (Value.slice c 2 cap'); exact Calls.quiet_of_same (Q2.out _ (by repeat (first | exact (Below.refl _ _).alloc (Nat.le_refl _) _ | refine below_drewN ?_ _ | refine Below.drew ?_)))))
  go_wp2
  go_ret
  exact ⟨rfl, below_drewN ((Below.refl _ _).alloc (Nat.le_refl _) _) _⟩

theorem iat_any (a : Option Addr) (cap : Nat) (c : Option Addr) (cap' : Nat) (K : Int) (C D : List Int) (v : Option Addr) (cv : Nat) (u : Option Addr) (cu : Nat) (V A : List Int) (w : World)
    (hC : Ints w a 3 C) (hD : Ints w c 2 D) (hV : Ints w v 3 V) (hA : Ints w u 2 A) (bC : bnd 10000000 C) (bD : bnd 10000000 D) (bK : -10000000 ≤ K ∧ K ≤ 10000000) (bV : bnd 10000 V) (bA : bnd 9 A) :
    Calls Tryz.prog 145 #[formV a 3 cap c 2 cap' K, .slice v 3 cv, .slice u 2 cu] w fun e w' => e = .returned (.int .i64 (atV C D K V A)) ∧ Below w.heap.size w w' :=
  iat30_any a cap c cap' K C D v cv u cu V A w hC hD hV hA bC bD bK (fun i => by have := bV i; omega) bA

set_option maxHeartbeats 1600000 in
theorem sat30_any (a : Option Addr) (cap : Nat) (c : Option Addr) (cap' : Nat) (K : Int) (C D : List Int) (v : Option Addr) (cv : Nat) (u : Option Addr) (cu : Nat) (V A : List Int) (w : World)
    (hC : Ints w a 3 C) (hD : Ints w c 2 D) (hV : Ints w v 3 V) (hA : Ints w u 2 A) (bC : bnd 10000000 C) (bD : bnd 10000000 D) (bK : -10000000 ≤ K ∧ K ≤ 10000000) (bV : bnd 30000 V) (bA : bnd 9 A) :
    Calls Tryz.prog 111 #[formV a 3 cap c 2 cap' K, .slice v 3 cv, .slice u 2 cu] w fun e w' => e = .returned (.int .i64 (atV C D K V A)) ∧ Below w.heap.size w w' := by
  have p1 := bndP_of bC bV (by omega) (by omega)
  have p2 := bndP_of bD bA (by omega) (by omega)
  obtain ⟨K1, K2⟩ := bK
  have P1 : Hid (bndP (10000000 * 30000) C V) := p1
  have P2 : Hid (bndP (10000000 * 9) D A) := p2
  clear p1 p2 bC bD bV bA
  go_enter Tryz.func111, Tryz.ntmps111
  go_wp2_with fail
  go_loopw [7, 8] (fun s i wr => ∃ k : Nat, k ≤ 3 ∧ i = .int .i64 k ∧ s = .int .i64 (K + dot C V k) ∧ Below w.heap.size w wr ∧ Cel wr w.heap.size [.slice a 3 cap, .slice c 2 cap', .int .i64 K] 95) (fun _ i _ => 3 - (intOf i).toNat)
  case atStart => exact ⟨0, by omega, rfl, by simp [dot], (Below.refl _ _).alloc (Nat.le_refl _) _, Cel.new w _ _⟩
  case round =>
    obtain ⟨k, hk, rfl, rfl, hb, hS⟩ := hrel
    by_cases hlt : k < 3
    · obtain ⟨b, off, rfl, hcell⟩ := (hC.below hb).pos (by omega)
      obtain ⟨b', off', rfl, hcell'⟩ := (hV.below hb).pos (by omega)
      have hck := hcell k hlt
      have hck' := hcell' k hlt
      have hlt' : (k : Int) < 3 := by omega
      have s0 := hS.cell 0
      simp only [List.getElem?_cons_zero] at s0
      obtain ⟨d3, d4⟩ := P1.out k
      have d := dot_bnd P1.out k
      have kP : (k : Int) * (10000000 * 30000) ≤ 3 * (10000000 * 30000) := Int.mul_le_mul_of_nonneg_right (by omega) (by omega)
      have d1 : -1000000000000000 ≤ dot C V k := by omega
      have d2 : dot C V k ≤ 1000000000000000 := by omega
      clear hcell hcell' hC hD hV hA d kP
      go_wp2_with fail
      go_quiet (fail)
      go_wp2
      go_roundw
      case rel => exact ⟨k + 1, by omega, by go_num, congrArg (Value.int IntKind.i64) (by simp only [dot]; omega), below_drewN hb _, hS⟩
      case measure => simp [intOf]; omega
    · obtain rfl : k = 3 := by omega
      have d := dot_bnd P1.out 3
      have d1 : -1000000000000000 ≤ dot C V 3 := by omega
      have d2 : dot C V 3 ≤ 1000000000000000 := by omega
      clear d hC hV
      go_wp2_with fail
      go_loopw [7, 9] (fun s i wx => ∃ k : Nat, k ≤ 2 ∧ i = .int .i64 k ∧ s = .int .i64 (K + dot C V 3 + dot D A k) ∧ Below w.heap.size w wx ∧ Cel wx w.heap.size [.slice a 3 cap, .slice c 2 cap', .int .i64 K] 95) (fun _ i _ => 2 - (intOf i).toNat)
      case atStart => exact ⟨0, by omega, rfl, by simp [dot], hb, hS⟩
      case round =>
        clear hb hS
        obtain ⟨j, hj, rfl, rfl, hb, hS⟩ := hrel
        by_cases hlt : j < 2
        · obtain ⟨b, off, rfl, hcell⟩ := (hD.below hb).pos (by omega)
          obtain ⟨b', off', rfl, hcell'⟩ := (hA.below hb).pos (by omega)
          have hck := hcell j hlt
          have hck' := hcell' j hlt
          have hlt' : (j : Int) < 2 := by omega
          have s0 := hS.cell 1
          simp only [List.getElem?_cons_zero, List.getElem?_cons_succ] at s0
          obtain ⟨d5, d6⟩ := P2.out j
          have d := dot_bnd P2.out j
          have kP : (j : Int) * (10000000 * 9) ≤ 2 * (10000000 * 9) := Int.mul_le_mul_of_nonneg_right (by omega) (by omega)
          have d3 : -1000000000000000 ≤ dot D A j := by omega
          have d4 : dot D A j ≤ 1000000000000000 := by omega
          clear hcell hcell' hD hA d kP
          go_wp2_with fail
          go_quiet (fail)
          go_wp2
          go_roundw
          case rel => exact ⟨j + 1, by omega, by go_num, congrArg (Value.int IntKind.i64) (by simp only [dot]; omega), below_drewN hb _, hS⟩
          case measure => simp [intOf]; omega
        · obtain rfl : j = 2 := by omega
          go_wp2
          go_ret
          exact ⟨ret_int (by unfold atV; omega), hb⟩

theorem sat_any (a : Option Addr) (cap : Nat) (c : Option Addr) (cap' : Nat) (K : Int) (C D : List Int) (v : Option Addr) (cv : Nat) (u : Option Addr) (cu : Nat) (V A : List Int) (w : World)
    (hC : Ints w a 3 C) (hD : Ints w c 2 D) (hV : Ints w v 3 V) (hA : Ints w u 2 A) (bC : bnd 10000000 C) (bD : bnd 10000000 D) (bK : -10000000 ≤ K ∧ K ≤ 10000000) (bV : bnd 10000 V) (bA : bnd 9 A) :
    Calls Tryz.prog 111 #[formV a 3 cap c 2 cap' K, .slice v 3 cv, .slice u 2 cu] w fun e w' => e = .returned (.int .i64 (atV C D K V A)) ∧ Below w.heap.size w w' :=
  sat30_any a cap c cap' K C D v cv u cu V A w hC hD hV hA bC bD bK (fun i => by have := bV i; omega) bA

/-- Whether a form can be taken there, and what it is: 0, if not. -/
def atOk (n m p q : Nat) (C D : List Int) (K : Int) (V A : List Int) : Bool := formB n m C D K && okN 3 10000 p V && okN 2 9 q A
def atN (n m p q : Nat) (C D : List Int) (K : Int) (V A : List Int) : Int := if atOk n m p q C D K V A then atV C D K V A else 0
theorem atN_yes {n m p q : Nat} {C D : List Int} {K : Int} {V A : List Int} (h : atOk n m p q C D K V A = true) : atN n m p q C D K V A = atV C D K V A := by simp [atN, h]
theorem atN_no {n m p q : Nat} {C D : List Int} {K : Int} {V A : List Int} (h : atOk n m p q C D K V A = false) : atN n m p q C D K V A = 0 := by simp [atN, h]

end Go.Proofs.YtpmihhbgjimpmaaGreatDoor
