/-
  A result that is marked and looked at; both readers at one text. Lengths at most 1048576.
-/
import Derived.Test.YtejeffnonddfhaaDoorRdL
import Derived.Test.YtejeffnonddfhaaDoorOwn0
namespace Go.Proofs.YtejeffnonddfhaaDoor
open Go.RowKit
set_option linter.unusedVariables false
set_option maxRecDepth 100000

theorem markR_any (code : Int) (a : Option Addr) (n cap B : Nat) (tl : List Int) (k : Int) (w : World) (h : OwnX w a B n tl) (hn : n ≤ 1048576) (hk0 : 0 ≤ k) (hk : k ≤ 1000000000000000) :
    Calls Tryd.prog 27 #[resP code a n cap, .int .i64 k] w fun e w' => e = .returned (.int .i64 (k + n)) ∧ Touch (fun x => x = B ∧ 0 < n) w w' ∧ OwnX w' a B n (ramp k n) := by
  go_enter Tryd.func27, Tryd.ntmps27
  go_wp2_with fail
  refine (markX_any _ _ _ B tl _ _ (h.alloc _) hn hk0 hk).mono ?_
  rintro e w1 ⟨rfl, t1, o1⟩
  go_wp2
  go_ret
  exact ⟨rfl, (Touch.of ((Below.refl _ _).alloc (Nat.le_refl _) _)).trans t1, o1⟩

theorem heldR_any (code : Int) (a : Option Addr) (n cap : Nat) (k : Int) (w : World) (h : Ints w a n (ramp k n)) (hn : n ≤ 1048576) (hk0 : 0 ≤ k) (hk : k ≤ 1000000000000000) :
    Calls Tryd.prog 28 #[resP code a n cap, .int .i64 k] w fun e w' => e = .returned (.int .i64 (k + n)) ∧ Below w.heap.size w w' := by
  have h0 : 0 ≤ k + (n : Int) := by omega
  go_enter Tryd.func28, Tryd.ntmps28
  go_wp2_with fail
  refine (held_any _ _ _ _ _ (h.alloc _) hn hk0 (by omega)).mono ?_
  rintro e w1 ⟨rfl, hw⟩
  rw [hw]
  go_wp2
  go_ret
  exact ⟨rfl, (Below.refl _ _).alloc (Nat.le_refl _) _⟩

theorem rdF_small {l : List UInt8} {c : Int} {xs : List Int} {ok : Bool} (h : rdF l = (c, xs, ok)) : xs.length ≤ 6 := by
  rw [rdF] at h
  split at h
  · rw [rd_same, rdS] at h
    split at h
    · rename_i hb
      rw [rdB, decide_eq_true_eq] at hb
      have ho := text_ok hb.1
      have e : (preS l).2 = xs := congrArg (fun r => r.2.1) h
      rw [← e]
      unfold resOkB at ho
      simp only [Bool.and_eq_true, decide_eq_true_eq] at ho
      exact ho.2.2.1
    · have e : [] = xs := congrArg (fun r => r.2.1) h
      rw [← e]; simp
  · have e : [] = xs := congrArg (fun r => r.2.1) h
    rw [← e]; simp

theorem sread_at {l : List UInt8} {c : Int} {xs : List Int} {ok : Bool} {n : Nat} (hF : rdF l = (c, xs, ok)) (hn : xs.length = n) (w : World) :
    Calls Tryd.prog 25 #[.string ⟨l.toArray⟩] w fun e w' => ∃ a cap, e = .returned (.tuple #[resP c a n cap, .bool ok]) ∧ Below w.heap.size w w' ∧ Ints w' a n xs := by
  refine (sread_all l w).mono ?_
  rintro e w' ⟨c', a, n', cap, xs', ok', h1, h2, h3, h4⟩
  rw [hF] at h4
  cases h4
  obtain rfl : n' = n := h3.1.symm.trans hn
  exact ⟨a, cap, h1, h2, h3⟩

theorem iread_at {l : List UInt8} {c : Int} {xs : List Int} {ok : Bool} {n : Nat} (hF : rdF l = (c, xs, ok)) (hn : xs.length = n) (w : World) (hl : l.length ≤ 1048576) (hA : ReadsN w) (hSp : Splits w) (hT : Lib.TabBelow Tryd.prog w.heap.size w "internal/strconv.uint64pow10" .u64 Lib.pow10Tab) :
    Calls Tryd.prog 26 #[.string ⟨l.toArray⟩] w fun e w' => ∃ a cap B, e = .returned (.tuple #[resP c a n cap, .bool ok]) ∧ Below w.heap.size w w' ∧ OwnX w' a B n xs ∧ (0 < n → w.heap.size ≤ B) := by
  refine (iread_any l w hl hA hSp hT).mono ?_
  rintro e w' ⟨c', a, n', cap, xs', ok', h1, h2, h3, h4⟩
  rw [hF] at h4
  cases h4
  obtain rfl : n' = n := h2.symm.trans hn
  obtain ⟨a2, cap2, B, e2, ho, hB⟩ := h3.ownx h2
  cases e2
  exact ⟨a, cap, B, h1, h3.b, ho, hB⟩

theorem Splits.below {w w' : World} (h : Splits w) (b : Below w.heap.size w w') : Splits w' := fun W hW => h W (b.trans (hW.mono b.size))

end Go.Proofs.YtejeffnonddfhaaDoor
