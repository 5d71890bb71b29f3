/-
  What happens by a line: compared, marked and looked at; both readers at one text. Lengths at most 1048576.
-/
import Derived.Test.YtmdjcfplhmkocaaDoorDeT
import Derived.Test.YtmdjcfplhmkocaaDoorDeU
import Derived.Test.YtmdjcfplhmkocaaDoorRdM
namespace Go.Proofs.YtmdjcfplhmkocaaDoor
open Go.RowKit
set_option linter.unusedVariables false
set_option maxRecDepth 100000

theorem eqEv_same (k t c : Int) (a : Option Addr) (n cap : Nat) (a' : Option Addr) (cap' : Nat) (tl : List Int) (w : World) (h : Ints w a n tl) (h' : Ints w a' n tl) (hn : n ≤ 1048576) :
    Calls Tryd.prog 9 #[evV k t c a n cap, evV k t c a' n cap'] w fun e w' => e = .returned (.bool true) ∧ Below w.heap.size w w' := by
  have h1 : (k != k) = false := by simp
  have h2 : (t != t) = false := by simp
  have h3 : (c != c) = false := by simp
  have HE := eqB_refl tl
  go_enter Tryd.func9, Tryd.ntmps9
  go_wp2_with fail
  refine (eq_any _ _ _ _ _ _ tl tl _ ((h.alloc _).alloc _) ((h'.alloc _).alloc _) hn hn).mono ?_
  rintro e w1 ⟨rfl, b1⟩
  rw [HE]
  go_wp2
  go_ret
  exact ⟨rfl, (((Below.refl _ _).alloc (Nat.le_refl _) _).alloc (by simp) _).trans (b1.mono (by simp; omega))⟩

theorem markEv_any (c0 c1 c2 : Int) (a : Option Addr) (n cap B : Nat) (tl : List Int) (k : Int) (w : World) (h : OwnX w a B n tl) (hn : n ≤ 1048576) (hk0 : 0 ≤ k) (hk : k ≤ 1000000000000000) :
    Calls Tryd.prog 10 #[evV c0 c1 c2 a n cap, .int .i64 k] w fun e w' => e = .returned (.int .i64 (k + n)) ∧ Touch (fun x => x = B ∧ 0 < n) w w' ∧ OwnX w' a B n (ramp k n) := by
  go_enter Tryd.func10, Tryd.ntmps10
  go_wp2_with fail
  refine (markX_any _ _ _ B tl _ _ (h.alloc _) hn hk0 hk).mono ?_
  rintro e w1 ⟨rfl, t1, o1⟩
  go_wp2
  go_ret
  exact ⟨rfl, (Touch.of ((Below.refl _ _).alloc (Nat.le_refl _) _)).trans t1, o1⟩

theorem heldEv_any (c0 c1 c2 : Int) (a : Option Addr) (n cap : Nat) (k : Int) (w : World) (h : Ints w a n (ramp k n)) (hn : n ≤ 1048576) (hk0 : 0 ≤ k) (hk : k ≤ 1000000000000000) :
    Calls Tryd.prog 11 #[evV c0 c1 c2 a n cap, .int .i64 k] w fun e w' => e = .returned (.int .i64 (k + n)) ∧ Below w.heap.size w w' := by
  have h0 : 0 ≤ k + (n : Int) := by omega
  go_enter Tryd.func11, Tryd.ntmps11
  go_wp2_with fail
  refine (held_any _ _ _ _ _ (h.alloc _) hn hk0 (by omega)).mono ?_
  rintro e w1 ⟨rfl, hw⟩
  rw [hw]
  go_wp2
  go_ret
  exact ⟨rfl, (Below.refl _ _).alloc (Nat.le_refl _) _⟩

theorem bareL_small (k t : Int) (zs : List Int) : (bareL k t zs).2.2.2.1.length ≤ 2 := by
  rw [bareL]; split <;> simp [noE]
theorem oneL_small (k : Int) (zs : List Int) : (oneL k zs).2.2.2.1.length ≤ 2 := by
  rw [oneL]; split <;> simp [noE]
theorem callL_small (zs : List Int) : (callL zs).2.2.2.1.length ≤ 2 := by
  rw [callL]
  split
  · rename_i h
    show (zs.drop 2).length ≤ 2
    rw [List.length_drop]; omega
  · simp [noE]
theorem evL_small {l : List UInt8} {k t c : Int} {xs : List Int} {ok : Bool} (h : evL l = (k, t, c, xs, ok)) : xs.length ≤ 2 := by
  have e : xs = (evL l).2.2.2.1 := by rw [h]
  rw [e, evL]
  split
  · simp [noE]
  · rw [evX]
    repeat' split
    all_goals first | exact callL_small _ | exact bareL_small _ _ _ | exact oneL_small _ _ | simp [noE]
theorem sdsk_at {l : List UInt8} {k t c : Int} {xs : List Int} {ok : Bool} {n : Nat} (hF : evL l = (k, t, c, xs, ok)) (hn : xs.length = n) (w : World) :
    Calls Tryd.prog 7 #[.string ⟨l.toArray⟩] w fun e w' => ∃ a cap, e = .returned (.tuple #[evV k t c a n cap, .bool ok]) ∧ Below w.heap.size w w' ∧ Ints w' a n xs := by
  refine (sdsk_any l w).mono ?_
  rintro e w' ⟨a, n', cap, h1, h2, h3⟩
  rw [hF] at h1 h3
  obtain rfl : n' = n := h3.1.symm.trans hn
  exact ⟨a, cap, h1, h2, h3⟩
theorem idsk_at {l : List UInt8} {k t c : Int} {xs : List Int} {ok : Bool} {n : Nat} (hF : evL l = (k, t, c, xs, ok)) (hn : xs.length = n) (w : World) (hl : l.length ≤ 1048576) (hA : ReadsN w) (hSp : Splits w) (hC : CutsB w) (hT : Lib.TabBelow Tryd.prog w.heap.size w "internal/strconv.uint64pow10" .u64 Lib.pow10Tab) :
    Calls Tryd.prog 6 #[.string ⟨l.toArray⟩] w fun e w' => ∃ a cap B, e = .returned (.tuple #[evV k t c a n cap, .bool ok]) ∧ Below w.heap.size w w' ∧ OwnX w' a B n xs ∧ (0 < n → w.heap.size ≤ B) := by
  refine (idsk_any l w hl hC hA hSp hT).mono ?_
  rintro e w' ⟨a, n', cap, h1, h2, h3⟩
  rw [hF] at h1 h2 h3
  obtain rfl : n' = n := h2.symm.trans hn
  obtain ⟨a2, cap2, B, e2, ho, hB⟩ := h3.ownx h2
  cases e2
  exact ⟨a, cap, B, h1, h3.b, ho, hB⟩

end Go.Proofs.YtmdjcfplhmkocaaDoor
