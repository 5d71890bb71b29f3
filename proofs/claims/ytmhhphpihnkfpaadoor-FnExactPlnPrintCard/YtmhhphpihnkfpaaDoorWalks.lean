/-
  What the small functions over slices of ints answer: within bounds, copied, held against one another. Lengths at most 1048576 where one is copied.
-/
import Derived.Test.YtmhhphpihnkfpaaDoorBase
namespace Go.Proofs.YtmhhphpihnkfpaaDoor
open Go.RowKit

theorem in_any (n lo hi : Int) (w : World) :
    Calls Tryd.prog 30 #[.int .i64 n, .int .i64 lo, .int .i64 hi] w fun e w' => e = .returned (.bool (inB n lo hi)) ∧ w' = w := by
  by_cases h1 : lo ≤ n
  · by_cases h2 : n ≤ hi
    · go_enter Tryd.func30, Tryd.ntmps30
      go_wp2
      go_ret
      exact ⟨ret_bool (by rw [inB_iff.2 ⟨h1, h2⟩]), rfl⟩
    · have h2' : hi < n := by omega
      go_enter Tryd.func30, Tryd.ntmps30
      go_wp2
      go_ret
      exact ⟨ret_bool (by rw [inB_not.2 (by omega)]), rfl⟩
  · have h1' : n < lo := by omega
    go_enter Tryd.func30, Tryd.ntmps30
    go_wp2
    go_ret
    exact ⟨ret_bool (by rw [inB_not.2 (by omega)]), rfl⟩

set_option maxHeartbeats 400000 in
theorem all_any (a : Option Addr) (n cap : Nat) (zs : List Int) (c m : Int) (w : World) (h : Ints w a n zs) (hn : n ≤ 1048576) (hm0 : 0 ≤ m) (hm : m ≤ 1000000000000000) :
    Calls Tryd.prog 32 #[.slice a n cap, .int .i64 c, .int .i64 m] w fun e w' => e = .returned (.bool (okN c m n zs)) ∧ w' = w := by
  have hz := h.1
  have HZ : Hid (zs.length = n) := hz
  clear hz
  by_cases hc : (n : Int) = c
  · subst hc
    go_enter Tryd.func32, Tryd.ntmps32
    go_wp2_with fail
    go_loop [7] (fun i => ∃ k : Nat, k ≤ n ∧ i = .int .i64 k ∧ allB m (zs.take k) = true) (fun i => n - (intOf i).toNat)
    case atStart => exact ⟨0, Nat.zero_le _, rfl, rfl⟩
    case round =>
      obtain ⟨k, hk, rfl, hall⟩ := hrel
      have HA : Hid (allB m (zs.take k) = true) := hall
      clear hall
      by_cases hlt : k < n
      · obtain ⟨b, off, rfl, hcell⟩ := h.pos (by omega)
        have hck := hcell k hlt
        clear hcell
        cases hin : inB (zs[k]?.getD 0) (-m) m
        · go_wp2_with (go_at_call 30; refine (in_any _ _ _ _).mono ?_; rintro e w' ⟨rfl, rfl⟩)
          go_ret
          exact ⟨ret_bool (by rw [okN_is rfl, allB_false (by rw [HZ.out]; exact hlt) hin]), rfl⟩
        · go_wp2_with (go_at_call 30; refine (in_any _ _ _ _).mono ?_; rintro e w' ⟨rfl, rfl⟩)
          go_round
          case rel => exact ⟨k + 1, by omega, by go_num, allB_step (by rw [HZ.out]; exact hlt) HA.out hin⟩
          case measure => simp [intOf]; omega
      · go_wp2
        go_ret
        exact ⟨ret_bool (by rw [okN_is rfl, allB_end (by rw [HZ.out]; omega) HA.out]), rfl⟩
  · have hne : ((n : Int) != c) = true := by simp [hc]
    go_enter Tryd.func32, Tryd.ntmps32
    go_wp2
    go_ret
    exact ⟨ret_bool (by rw [okN_not hc]), rfl⟩

/-- All within two bounds. -/
def betB (lo hi : Int) (zs : List Int) : Bool := zs.all fun n => inB n lo hi

theorem betB_step {lo hi : Int} {zs : List Int} {k : Nat} (h : k < zs.length) (h1 : betB lo hi (zs.take k) = true) (h2 : inB (zs[k]?.getD 0) lo hi = true) : betB lo hi (zs.take (k + 1)) = true := by
  unfold betB at *
  rw [List.take_succ_eq_append_getElem h, List.all_append, h1]
  rw [List.getElem?_eq_getElem h] at h2
  simpa using h2

theorem betB_end {lo hi : Int} {zs : List Int} {k : Nat} (h : zs.length ≤ k) (h1 : betB lo hi (zs.take k) = true) : betB lo hi zs = true := by
  rwa [List.take_of_length_le h] at h1

theorem betB_false {lo hi : Int} {zs : List Int} {k : Nat} (h : k < zs.length) (hn : inB (zs[k]?.getD 0) lo hi = false) : betB lo hi zs = false := by
  unfold betB
  rw [List.all_eq_false]
  refine ⟨zs[k], List.getElem_mem h, ?_⟩
  rw [List.getElem?_eq_getElem h] at hn
  simpa using hn

set_option maxHeartbeats 400000 in
theorem between_any (a : Option Addr) (n cap : Nat) (zs : List Int) (lo hi : Int) (w : World) (h : Ints w a n zs) (hn : n ≤ 1048576) :
    Calls Tryd.prog 37 #[.int .i64 lo, .int .i64 hi, .slice a n cap] w fun e w' => e = .returned (.bool (betB lo hi zs)) ∧ w' = w := by
  have hz := h.1
  have HZ : Hid (zs.length = n) := hz
  clear hz
  go_enter Tryd.func37, Tryd.ntmps37
  go_wp2_with fail
  go_loop [8, 11] (fun _ i => ∃ k : Nat, k ≤ n ∧ i = .int .i64 k ∧ betB lo hi (zs.take k) = true) (fun _ i => n - (intOf i).toNat)
  case atStart => exact ⟨0, Nat.zero_le _, rfl, rfl⟩
  case round =>
    obtain ⟨k, hk, rfl, hall⟩ := hrel
    have HA : Hid (betB lo hi (zs.take k) = true) := hall
    clear hall
    by_cases hlt : k < n
    · obtain ⟨b, off, rfl, hcell⟩ := h.pos (by omega)
      have hck := hcell k hlt
      clear hcell
      by_cases h1 : lo ≤ zs[k]?.getD 0
      · by_cases h2 : zs[k]?.getD 0 ≤ hi
        · go_wp2
          go_round
          case rel => exact ⟨k + 1, by omega, by go_num, betB_step (by rw [HZ.out]; exact hlt) HA.out (inB_iff.2 ⟨h1, h2⟩)⟩
          case measure => simp [intOf]; omega
        · go_wp2
          go_ret
          exact ⟨ret_bool (by rw [betB_false (by rw [HZ.out]; exact hlt) (inB_not.2 (by omega))]), rfl⟩
      · go_wp2
        go_ret
        exact ⟨ret_bool (by rw [betB_false (by rw [HZ.out]; exact hlt) (inB_not.2 (by omega))]), rfl⟩
    · go_wp2
      go_ret
      exact ⟨ret_bool (by rw [betB_end (by rw [HZ.out]; omega) HA.out]), rfl⟩

theorem within_any (a : Option Addr) (n cap : Nat) (zs : List Int) (m : Int) (w : World) (h : Ints w a n zs) (hn : n ≤ 1048576) (hm0 : 0 ≤ m) (hm : m ≤ 1000000000000000) :
    Calls Tryd.prog 39 #[.int .i64 m, .slice a n cap] w fun e w' => e = .returned (.bool (allB m zs)) ∧ w' = w := by
  go_enter Tryd.func39, Tryd.ntmps39
  go_wp2_with fail
  refine (between_any _ _ _ zs (-m) m _ h hn).mono ?_
  rintro e w' ⟨rfl, rfl⟩
  go_wp2
  go_ret
  exact ⟨rfl, rfl⟩

theorem place_any (k n : Int) (w : World) :
    Calls Tryd.prog 59 #[.int .i64 k, .int .i64 n] w fun e w' => e = .returned (.bool (decide (0 ≤ k ∧ k < n))) ∧ w' = w := by
  by_cases h1 : 0 ≤ k
  · by_cases h2 : k < n
    all_goals
      go_enter Tryd.func59, Tryd.ntmps59
      go_wp2
      go_ret
      exact ⟨ret_bool (by simp; try omega), rfl⟩
  · go_enter Tryd.func59, Tryd.ntmps59
    go_wp2
    go_ret
    exact ⟨ret_bool (by simp; try omega), rfl⟩

theorem Tryd.infoInt : (Tryd.prog.info? 3).map (fun i => (i.zero, i.size, i.bytes)) = some (some (.int .i64 0), 1, 8) := by kernel_rfl

set_option maxHeartbeats 400000 in
theorem to_any (a : Option Addr) (n cap : Nat) (zs : List Int) (w : World) (h : Ints w a n zs) (hn : n ≤ 1048576) :
    Calls Tryd.prog 20 #[.slice a n cap] w fun e w' => e = .returned (.slice (some ⟨w.heap.size, 0, none⟩) n n) ∧ Below w.heap.size w w' ∧ Blk w' w.heap.size zs := by
  have hz := h.1
  have HZ : Hid (zs.length = n) := hz
  clear hz
  obtain ⟨i0, hi, hz0, hz1, hz2⟩ := info_parts Tryd.infoInt
  go_enter Tryd.func20, Tryd.ntmps20
  go_wp2_with (at_make; refine wpList_make_full _ rfl (.tmp 6) (.tmp 6) 23 rfl w.heap.size 3 i0 (.int .i64 0) 1 Tryd.underlying23 hi hz0 hz1 .i64 .i64 _ _ n rfl rfl rfl rfl (by rw [hz2]; omega) (by unfold maxLen; omega) (Nat.le_refl _) ?_; intro w1 hown hgrow)
  have hb1 := Blk.made w n w1 hown
  have HB : Below w.heap.size w w1 := (Below.refl _ _).grown hgrow (Nat.le_refl _) (by simp)
  clear hown hgrow hi hz0 hz1 hz2
  go_loopw [4] (fun i wr => ∃ k : Nat, k ≤ n ∧ i = .int .i64 k ∧ Below w.heap.size w wr ∧ Blk wr w.heap.size (upTo zs n k)) (fun i _ => n - (intOf i).toNat)
  case atStart => exact ⟨0, Nat.zero_le _, rfl, HB, by rw [upTo_zero]; exact hb1⟩
  case round =>
    obtain ⟨k, hk, rfl, hnx, hblk⟩ := hrel
    by_cases hlt : k < n
    · obtain ⟨b, off, rfl, hcell⟩ := h.pos (by omega)
      have hck : wr.cell? ⟨b, off + k, none⟩ = some (.int .i64 (zs[k]?.getD 0)) := by
        have h0 := hcell k hlt
        rw [hnx.cell (p := ⟨b, off + k, none⟩) (block_lt h0), h0]; simp
      have hco : wr.cell? ⟨w.heap.size, k, none⟩ = some (.int .i64 ((upTo zs n k)[k]?.getD 0)) := by
        have := hblk.cell k (by rw [upTo_len HZ.out hk]; exact hlt)
        simpa using this
      have hfo := hblk.free k
      have R : Blk (wr.setCell ⟨w.heap.size, k, none⟩ (.int .i64 (zs[k]?.getD 0))) w.heap.size (upTo zs n (k + 1)) := by
        have := hblk.set k (zs[k]?.getD 0)
        rwa [upTo_succ HZ.out hlt] at this
      have R2 : Below w.heap.size w (wr.setCell ⟨w.heap.size, k, none⟩ (.int .i64 (zs[k]?.getD 0))) := hnx.setCell (Nat.le_refl _) _
      clear hcell hb1 HB
      go_wp2
      go_roundw
      case rel => exact ⟨k + 1, by omega, by go_num, R2, R⟩
      case measure => simp [intOf]; omega
    · go_wp2
      go_ret
      exact ⟨rfl, hnx, by rw [upTo_end HZ.out (by omega)] at hblk; exact hblk⟩

set_option maxHeartbeats 400000 in
theorem eq_any (a c : Option Addr) (n m cap cap' : Nat) (xs ys : List Int) (w : World) (h : Ints w a n xs) (h' : Ints w c m ys) (hn : n ≤ 1048576) (hm : m ≤ 1048576) :
    Calls Tryd.prog 25 #[.slice a n cap, .slice c m cap'] w fun e w' => e = .returned (.bool (eqB xs ys)) ∧ Below w.heap.size w w' := by
  have hx := h.1
  have HX : Hid (xs.length = n) := hx
  have hy := h'.1
  have HY : Hid (ys.length = m) := hy
  clear hx hy
  by_cases hc : n = m
  · subst hc
    go_enter Tryd.func25, Tryd.ntmps25
    go_wp2_with fail
    go_loopw [5] (fun i wr => ∃ k : Nat, k ≤ n ∧ i = .int .i64 k ∧ Below w.heap.size w wr ∧ xs.take k = ys.take k) (fun i _ => n - (intOf i).toNat)
    case atStart => exact ⟨0, Nat.zero_le _, rfl, Below.refl _ _, rfl⟩
    case round =>
      obtain ⟨k, hk, rfl, hnx, hall⟩ := hrel
      have HA : Hid (xs.take k = ys.take k) := hall
      clear hall
      by_cases hlt : k < n
      · obtain ⟨b, off, rfl, hcell⟩ := (h.below hnx).pos (by omega)
        obtain ⟨b', off', rfl, hcell'⟩ := (h'.below hnx).pos (by omega)
        have hck := hcell k hlt
        have hck' := hcell' k hlt
        have hlt' : (k : Int) < (n : Int) := by omega
        clear hcell hcell' h h'
        go_wp2_with fail
        go_quiet (fail)
        cases he : (xs[k]?.getD 0 != ys[k]?.getD 0)
        · go_wp2
          go_roundw
          case rel => exact ⟨k + 1, by omega, by go_num, below_drewN hnx _, take_same_succ (by rw [HX.out]; exact hlt) (by rw [HY.out]; exact hlt) HA.out (by simpa using he)⟩
          case measure => simp [intOf]; omega
        · go_wp2
          go_ret
          exact ⟨ret_bool (by rw [eqB_false (k := k) (by simpa using he)]), below_drewN hnx _⟩
      · go_wp2
        go_ret
        exact ⟨ret_bool (by rw [eqB_true HX.out HY.out (by omega) HA.out]), hnx⟩
  · have hne : ((n : Int) != (m : Int)) = true := by simp; omega
    go_enter Tryd.func25, Tryd.ntmps25
    go_wp2
    go_ret
    exact ⟨ret_bool (by rw [eqB_len (by rw [HX.out, HY.out]; exact hc)]), Below.refl _ _⟩

theorem sval_any (a : Option Addr) (n cap : Nat) (zs : List Int) (w : World) (h : Ints w a n zs) (hn : n ≤ 1048576) :
    Calls Tryd.prog 48 #[.slice a n cap] w fun e w' => e = .returned (.bool (okN 3 10000 n zs)) ∧ w' = w := by
  go_enter Tryd.func48, Tryd.ntmps48
  go_wp2_with fail
  refine (all_any _ _ _ zs _ _ _ h hn (by omega) (by omega)).mono ?_
  rintro e w' ⟨rfl, rfl⟩
  go_wp2
  go_ret
  exact ⟨rfl, rfl⟩

theorem ival_any (a : Option Addr) (n cap : Nat) (zs : List Int) (w : World) (h : Ints w a n zs) (hn : n ≤ 1048576) :
    Calls Tryd.prog 53 #[.slice a n cap] w fun e w' => e = .returned (.bool (okN 3 10000 n zs)) ∧ w' = w := by
  by_cases hc : (n : Int) = 3
  · have hc' : ((n : Int) == 3) = true := by simp [hc]
    have HC : Hid ((n : Int) = 3) := hc
    clear hc
    go_enter Tryd.func53, Tryd.ntmps53
    go_wp2_with fail
    refine (within_any _ _ _ zs _ _ h hn (by omega) (by omega)).mono ?_
    rintro e w' ⟨rfl, rfl⟩
    go_wp2
    go_ret
    exact ⟨ret_bool (by rw [okN_is HC.out]), rfl⟩
  · have hc' : ((n : Int) == 3) = false := by simpa using hc
    go_enter Tryd.func53, Tryd.ntmps53
    go_wp2
    go_ret
    exact ⟨ret_bool (by rw [okN_not hc]), rfl⟩

end Go.Proofs.YtmhhphpihnkfpaaDoor
