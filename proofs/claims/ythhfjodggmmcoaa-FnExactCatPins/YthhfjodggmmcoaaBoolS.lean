/-
  Slices of bools, held against each other, marked and found again (laws.eqBoolS, markBoolS, heldBoolS): none or three.
-/
import Derived.Test.YthhfjodggmmcoaaIReads
namespace Go.Proofs.Ythhfjodggmmcoaa
open Go.RowKit Go.Deep
set_option linter.unusedVariables false
set_option maxRecDepth 100000

/-- Bools that can be read. -/
def BA (W : World) (a : Option Addr) (n : Nat) (f : Nat → Bool) : Prop := ∀ j, j < n → ∃ b off, a = some ⟨b, off, none⟩ ∧ W.cell? ⟨b, off + j, none⟩ = some (.bool (f j))
theorem BA.none {W : World} {a : Option Addr} {f : Nat → Bool} : BA W a 0 f := fun j hj => by omega
theorem Bools.ba {W : World} {a : Option Addr} {f : Nat → Bool} (h : Bools W a f) : BA W a 3 f := fun j hj => by
  obtain ⟨b, off, e, hc⟩ := h
  exact ⟨b, off, e, hc j hj⟩
theorem OwnBB.ba {W : World} {G : Nat} {f : Nat → Bool} (h : OwnBB W G f) : BA W (some ⟨G, 0, Option.none⟩) 3 f := fun j hj => ⟨G, 0, rfl, by rw [Nat.zero_add]; exact (h.at hj).1⟩
theorem BA.below {W W' : World} {a : Option Addr} {n : Nat} {f : Nat → Bool} (h : BA W a n f) (b : Below W.heap.size W W') : BA W' a n f := fun j hj => by
  obtain ⟨b0, off, e, hc⟩ := h j hj
  exact ⟨b0, off, e, (b.cell (p := ⟨b0, off + j, Option.none⟩) (block_lt hc)).trans hc⟩
def rampB (j : Nat) : Bool := (1 + j) % 3 == 0

set_option maxHeartbeats 800000 in
theorem eqBS_same (a c : Option Addr) (n cap cap' : Nat) (f : Nat → Bool) (w : World) (h : BA w a n f) (h' : BA w c n f) (hn : n ≤ 1048576) :
    Calls Try.prog 29 #[.slice a n cap, .slice c n cap'] w fun e w' => e = .returned (.bool true) ∧ Below w.heap.size w w' := by
  go_enter Try.func29, Try.ntmps29
  go_wp2_with fail
  go_loopw [5] (fun i wr => ∃ k : Nat, k ≤ n ∧ i = .int .i64 k ∧ Below w.heap.size w wr) (fun i _ => n - (intOf i).toNat)
  case atStart => exact ⟨0, Nat.zero_le _, rfl, Below.refl _ _⟩
  case round =>
    obtain ⟨k, hk, rfl, hnx⟩ := hrel
    by_cases hlt : k < n
    · obtain ⟨b, off, rfl, hck⟩ := (h.below hnx) k hlt
      obtain ⟨b', off', rfl, hck'⟩ := (h'.below hnx) k hlt
      have hlt' : (k : Int) < (n : Int) := by omega
      clear h h'
      go_wp2_with fail
      go_quiet (fail)
      go_wp2
      go_roundw
      case rel => exact ⟨k + 1, by omega, by go_num, below_drewN hnx _⟩
      case measure => simp [intOf]; omega
    · have hge : ¬ (k : Int) < (n : Int) := by omega
      go_wp2
      go_ret
      exact ⟨rfl, hnx⟩

set_option maxHeartbeats 800000 in
theorem heldBS_any (a : Option Addr) (n cap : Nat) (w : World) (h : BA w a n rampB) (hn : n ≤ 3) :
    Calls Try.prog 31 #[.slice a n cap, .int .i64 1] w fun e w' => e = .returned (.int .i64 (1 + n)) ∧ w' = w := by
  go_enter Try.func31, Try.ntmps31
  go_wp2_with fail
  go_loop [1, 5] (fun kk i => ∃ j : Nat, j ≤ n ∧ i = .int .i64 j ∧ kk = .int .i64 (1 + j)) (fun _ i => n - (intOf i).toNat)
  case atStart => exact ⟨0, Nat.zero_le _, rfl, by simp⟩
  case round =>
    obtain ⟨j, hj, rfl, rfl⟩ := hrel
    by_cases hlt : j < n
    · obtain ⟨b, off, rfl, hck⟩ := h j hlt
      have hlt' : (j : Int) < (n : Int) := by omega
      have hr : (((1 : Int) + j) % 3 == 0) = rampB j := by
        match j, (show j < 3 by omega) with
        | 0, _ => rfl
        | 1, _ => rfl
        | 2, _ => rfl
      clear h
      go_wp2
      go_round
      case rel => exact ⟨j + 1, by omega, by go_num, by go_num⟩
      case measure => simp [intOf]; omega
    · have hge : ¬ (j : Int) < (n : Int) := by omega
      go_wp2
      go_ret
      obtain rfl : j = n := by omega
      exact ⟨rfl, rfl⟩

set_option maxHeartbeats 800000 in
theorem markBS_three (G cap : Nat) (f : Nat → Bool) (w : World) (h : OwnBB w G f) :
    Calls Try.prog 30 #[.slice (some ⟨G, 0, Option.none⟩) 3 cap, .int .i64 1] w fun e w' => e = .returned (.int .i64 4) ∧ Touch (fun x => x = G) w w' ∧ OwnBB w' G rampB := by
  go_enter Try.func30, Try.ntmps30
  go_wp2_with fail
  go_loopw [1, 5] (fun kk i wr => ∃ j : Nat, j ≤ 3 ∧ i = .int .i64 j ∧ kk = .int .i64 (1 + j) ∧ Touch (fun x => x = G) w wr ∧ OwnBB wr G (fun v => if v < j then rampB v else f v)) (fun _ i _ => 3 - (intOf i).toNat)
  case atStart => exact ⟨0, Nat.zero_le _, rfl, by simp, Touch.refl _ _, h.ext (fun v hv => by simp)⟩
  case round =>
    obtain ⟨j, hj, rfl, rfl, ht, ho⟩ := hrel
    by_cases hlt : j < 3
    · obtain ⟨hc, hf⟩ := ho.at hlt
      have hlt' : (j : Int) < 3 := by omega
      have hr : (((1 : Int) + j) % 3 == 0) = rampB j := by
        match j, hlt with
        | 0, _ => rfl
        | 1, _ => rfl
        | 2, _ => rfl
      have R : Hid (OwnBB (wr.setCell ⟨G, j, Option.none⟩ (.bool (rampB j))) G (fun v => if v < j + 1 then rampB v else f v)) := (ho.set hlt (rampB j)).ext (fun v hv => by
        by_cases e : v = j
        · subst e; simp
        · have : (v < j + 1) = (v < j) := by apply propext; omega
          simp only [e, if_false, this])
      have R2 : Touch (fun x => x = G) w (wr.setCell ⟨G, j, Option.none⟩ (.bool (rampB j))) := ht.setCell rfl _
      clear h ho
      go_wp2
      go_roundw
      case rel => exact ⟨j + 1, by omega, by go_num, by go_num, R2, R.out⟩
      case measure => simp [intOf]; omega
    · obtain rfl : j = 3 := by omega
      have O3 : OwnBB wr G rampB := ho.ext (fun v hv => by simp [hv])
      go_wp2
      go_ret
      exact ⟨rfl, ht, O3⟩
set_option maxHeartbeats 800000 in
theorem markBS_none (a : Option Addr) (cap : Nat) (w : World) :
    Calls Try.prog 30 #[.slice a 0 cap, .int .i64 1] w fun e w' => e = .returned (.int .i64 1) ∧ w' = w := by
  go_enter Try.func30, Try.ntmps30
  go_wp2_with fail
  go_loop [1, 5] (fun kk i => i = .int .i64 0 ∧ kk = .int .i64 1) (fun _ i => 0)
  case atStart => exact ⟨rfl, rfl⟩
  case round =>
    obtain ⟨rfl, rfl⟩ := hrel
    go_wp2
    go_ret
    exact ⟨rfl, rfl⟩

end Go.Proofs.Ythhfjodggmmcoaa
