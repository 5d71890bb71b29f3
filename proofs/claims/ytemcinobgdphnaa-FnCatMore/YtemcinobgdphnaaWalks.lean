/-
  What the small functions over slices of ints answer: within bounds, copied, held against one another. Lengths at most 1048576 where one is copied.
-/
import Derived.Test.YtemcinobgdphnaaBase
namespace Go.Proofs.Ytemcinobgdphnaa
open Go.RowKit

theorem in_any (n lo hi : Int) (w : World) :
    Calls Try.prog 53 #[.int .i64 n, .int .i64 lo, .int .i64 hi] w fun e w' => e = .returned (.bool (inB n lo hi)) ∧ w' = w := by
  by_cases h1 : lo ≤ n
  · by_cases h2 : n ≤ hi
    · go_enter Try.func53, Try.ntmps53
      go_wp2
      go_ret
      exact ⟨ret_bool (by rw [inB_iff.2 ⟨h1, h2⟩]), rfl⟩
    · have h2' : hi < n := by omega
      go_enter Try.func53, Try.ntmps53
      go_wp2
      go_ret
      exact ⟨ret_bool (by rw [inB_not.2 (by omega)]), rfl⟩
  · have h1' : n < lo := by omega
    go_enter Try.func53, Try.ntmps53
    go_wp2
    go_ret
    exact ⟨ret_bool (by rw [inB_not.2 (by omega)]), rfl⟩

set_option maxHeartbeats 400000 in
theorem all_any (a : Option Addr) (n cap : Nat) (zs : List Int) (c m : Int) (w : World) (h : Ints w a n zs) (hn : n ≤ 1048576) (hm0 : 0 ≤ m) (hm : m ≤ 1000000000000000) :
    Calls Try.prog 63 #[.slice a n cap, .int .i64 c, .int .i64 m] w fun e w' => e = .returned (.bool (okN c m n zs)) ∧ w' = w := by
  have hz := h.1
  have HZ : Hid (zs.length = n) := hz
  clear hz
  by_cases hc : (n : Int) = c
  · subst hc
    go_enter Try.func63, Try.ntmps63
    go_wp2_with fail
    go_loop [7] (fun i => ∃ k : Nat, k ≤ n ∧ i = .int .i64 k ∧ allB m (zs.take k) = true) (fun i => n - (intOf i).toNat)
    case atStart => exact ⟨0, Nat.zero_le _, rfl, rfl⟩
    case round =>
      obtain ⟨k, hk, rfl, hall⟩ := hrel
      have HA : Hid (allB m (zs.take k) = true) := hall
      clear hall
      by_cases hlt : k < n
      · obtain ⟨b, off, rfl, hcell⟩ := h.pos (by omega)
        have hck := hcell k hlt
        clear hcell
        cases hin : inB (zs[k]?.getD 0) (-m) m
        · go_wp2_with (go_at_call 53; refine (in_any _ _ _ _).mono ?_; rintro e w' ⟨rfl, rfl⟩)
          go_ret
          exact ⟨ret_bool (by rw [okN_is rfl, allB_false (by rw [HZ.out]; exact hlt) hin]), rfl⟩
        · go_wp2_with (go_at_call 53; refine (in_any _ _ _ _).mono ?_; rintro e w' ⟨rfl, rfl⟩)
          go_round
          case rel => exact ⟨k + 1, by omega, by go_num, allB_step (by rw [HZ.out]; exact hlt) HA.out hin⟩
          case measure => simp [intOf]; omega
      · go_wp2
        go_ret
        exact ⟨ret_bool (by rw [okN_is rfl, allB_end (by rw [HZ.out]; omega) HA.out]), rfl⟩
  · have hne : ((n : Int) != c) = true := by simp [hc]
    go_enter Try.func63, Try.ntmps63
    go_wp2
    go_ret
    exact ⟨ret_bool (by rw [okN_not hc]), rfl⟩

/-- All within two bounds. -/
def betB (lo hi : Int) (zs : List Int) : Bool := zs.all fun n => inB n lo hi

theorem betB_step {lo hi : Int} {zs : List Int} {k : Nat} (h : k < zs.length) (h1 : betB lo hi (zs.take k) = true) (h2 : inB (zs[k]?.getD 0) lo hi = true) : betB lo hi (zs.take (k + 1)) = true := by
  unfold betB at *
  rw [List.take_succ_eq_append_getElem h, List.all_append, h1]
  rw [List.getElem?_eq_getElem h] at h2
  simpa using h2

theorem betB_end {lo hi : Int} {zs : List Int} {k : Nat} (h : zs.length ≤ k) (h1 : betB lo hi (zs.take k) = true) : betB lo hi zs = true := by
  rwa [List.take_of_length_le h] at h1

theorem betB_false {lo hi : Int} {zs : List Int} {k : Nat} (h : k < zs.length) (hn : inB (zs[k]?.getD 0) lo hi = false) : betB lo hi zs = false := by
  unfold betB
  rw [List.all_eq_false]
  refine ⟨zs[k], List.getElem_mem h, ?_⟩
  rw [List.getElem?_eq_getElem h] at hn
  simpa using hn

set_option maxHeartbeats 400000 in
theorem between_any (a : Option Addr) (n cap : Nat) (zs : List Int) (lo hi : Int) (w : World) (h : Ints w a n zs) (hn : n ≤ 1048576) :
    Calls Try.prog 61 #[.int .i64 lo, .int .i64 hi, .slice a n cap] w fun e w' => e = .returned (.bool (betB lo hi zs)) ∧ w' = w := by
  have hz := h.1
  have HZ : Hid (zs.length = n) := hz
  clear hz
  go_enter Try.func61, Try.ntmps61
  go_wp2_with fail
  go_loop [8, 11] (fun _ i => ∃ k : Nat, k ≤ n ∧ i = .int .i64 k ∧ betB lo hi (zs.take k) = true) (fun _ i => n - (intOf i).toNat)
  case atStart => exact ⟨0, Nat.zero_le _, rfl, rfl⟩
  case round =>
    obtain ⟨k, hk, rfl, hall⟩ := hrel
    have HA : Hid (betB lo hi (zs.take k) = true) := hall
    clear hall
    by_cases hlt : k < n
    · obtain ⟨b, off, rfl, hcell⟩ := h.pos (by omega)
      have hck := hcell k hlt
      clear hcell
      by_cases h1 : lo ≤ zs[k]?.getD 0
      · by_cases h2 : zs[k]?.getD 0 ≤ hi
        · go_wp2
          go_round
          case rel => exact ⟨k + 1, by omega, by go_num, betB_step (by rw [HZ.out]; exact hlt) HA.out (inB_iff.2 ⟨h1, h2⟩)⟩
          case measure => simp [intOf]; omega
        · go_wp2
          go_ret
          exact ⟨ret_bool (by rw [betB_false (by rw [HZ.out]; exact hlt) (inB_not.2 (by omega))]), rfl⟩
      · go_wp2
        go_ret
        exact ⟨ret_bool (by rw [betB_false (by rw [HZ.out]; exact hlt) (inB_not.2 (by omega))]), rfl⟩
    · go_wp2
      go_ret
      exact ⟨ret_bool (by rw [betB_end (by rw [HZ.out]; omega) HA.out]), rfl⟩

theorem within_any (a : Option Addr) (n cap : Nat) (zs : List Int) (m : Int) (w : World) (h : Ints w a n zs) (hn : n ≤ 1048576) (hm0 : 0 ≤ m) (hm : m ≤ 1000000000000000) :
    Calls Try.prog 33 #[.int .i64 m, .slice a n cap] w fun e w' => e = .returned (.bool (allB m zs)) ∧ w' = w := by
  go_enter Try.func33, Try.ntmps33
  go_wp2_with fail
  refine (between_any _ _ _ zs (-m) m _ h hn).mono ?_
  rintro e w' ⟨rfl, rfl⟩
  go_wp2
  go_ret
  exact ⟨rfl, rfl⟩

theorem place_any (k n : Int) (w : World) :
    Calls Try.prog 88 #[.int .i64 k, .int .i64 n] w fun e w' => e = .returned (.bool (decide (0 ≤ k ∧ k < n))) ∧ w' = w := by
  by_cases h1 : 0 ≤ k
  · by_cases h2 : k < n
    all_goals
      go_enter Try.func88, Try.ntmps88
      go_wp2
      go_ret
      exact ⟨ret_bool (by simp; try omega), rfl⟩
  · go_enter Try.func88, Try.ntmps88
    go_wp2
    go_ret
    exact ⟨ret_bool (by simp; try omega), rfl⟩

theorem Try.infoInt : (Try.prog.info? 3).map (fun i => (i.zero, i.size, i.bytes)) = some (some (.int .i64 0), 1, 8) := by kernel_rfl

theorem sval_any (a : Option Addr) (n cap : Nat) (zs : List Int) (w : World) (h : Ints w a n zs) (hn : n ≤ 1048576) :
    Calls Try.prog 36 #[.slice a n cap] w fun e w' => e = .returned (.bool (okN 3 10000 n zs)) ∧ w' = w := by
  go_enter Try.func36, Try.ntmps36
  go_wp2_with fail
  refine (all_any _ _ _ zs _ _ _ h hn (by omega) (by omega)).mono ?_
  rintro e w' ⟨rfl, rfl⟩
  go_wp2
  go_ret
  exact ⟨rfl, rfl⟩

theorem sarg_any (a : Option Addr) (n cap : Nat) (zs : List Int) (w : World) (h : Ints w a n zs) (hn : n ≤ 1048576) :
    Calls Try.prog 37 #[.slice a n cap] w fun e w' => e = .returned (.bool (okN 2 9 n zs)) ∧ w' = w := by
  go_enter Try.func37, Try.ntmps37
  go_wp2_with fail
  refine (all_any _ _ _ zs _ _ _ h hn (by omega) (by omega)).mono ?_
  rintro e w' ⟨rfl, rfl⟩
  go_wp2
  go_ret
  exact ⟨rfl, rfl⟩

theorem ival_any (a : Option Addr) (n cap : Nat) (zs : List Int) (w : World) (h : Ints w a n zs) (hn : n ≤ 1048576) :
    Calls Try.prog 8 #[.slice a n cap] w fun e w' => e = .returned (.bool (okN 3 10000 n zs)) ∧ w' = w := by
  by_cases hc : (n : Int) = 3
  · have hc' : ((n : Int) == 3) = true := by simp [hc]
    have HC : Hid ((n : Int) = 3) := hc
    clear hc
    go_enter Try.func8, Try.ntmps8
    go_wp2_with fail
    refine (within_any _ _ _ zs _ _ h hn (by omega) (by omega)).mono ?_
    rintro e w' ⟨rfl, rfl⟩
    go_wp2
    go_ret
    exact ⟨ret_bool (by rw [okN_is HC.out]), rfl⟩
  · have hc' : ((n : Int) == 3) = false := by simpa using hc
    go_enter Try.func8, Try.ntmps8
    go_wp2
    go_ret
    exact ⟨ret_bool (by rw [okN_not hc]), rfl⟩

theorem iarg_any (a : Option Addr) (n cap : Nat) (zs : List Int) (w : World) (h : Ints w a n zs) (hn : n ≤ 1048576) :
    Calls Try.prog 9 #[.slice a n cap] w fun e w' => e = .returned (.bool (okN 2 9 n zs)) ∧ w' = w := by
  by_cases hc : (n : Int) = 2
  · have hc' : ((n : Int) == 2) = true := by simp [hc]
    have HC : Hid ((n : Int) = 2) := hc
    clear hc
    go_enter Try.func9, Try.ntmps9
    go_wp2_with fail
    refine (within_any _ _ _ zs _ _ h hn (by omega) (by omega)).mono ?_
    rintro e w' ⟨rfl, rfl⟩
    go_wp2
    go_ret
    exact ⟨ret_bool (by rw [okN_is HC.out]), rfl⟩
  · have hc' : ((n : Int) == 2) = false := by simpa using hc
    go_enter Try.func9, Try.ntmps9
    go_wp2
    go_ret
    exact ⟨ret_bool (by rw [okN_not hc]), rfl⟩

end Go.Proofs.Ytemcinobgdphnaa
