/-
  Lists that a call has made itself: they are marked with numbers, and looked at again. Lengths at most 1048576, numbers at most 1000000000000.
-/
import Derived.Test.YtmhhphpihnkfpaaDoorForms
namespace Go.Proofs.YtmhhphpihnkfpaaDoor
open Go.RowKit
set_option linter.unusedVariables false

/-- Old memory is as it was, but for the blocks in S. -/
structure Touch (S : Nat → Prop) (w w' : World) : Prop where
  os : w'.os = w.os
  tape : w'.tape = w.tape
  output : w'.output = w.output
  size : w.heap.size ≤ w'.heap.size
  block : ∀ k, k < w.heap.size → ¬ S k → w'.heap[k]? = w.heap[k]?

theorem Touch.refl (S : Nat → Prop) (w : World) : Touch S w w := ⟨rfl, rfl, rfl, Nat.le_refl _, fun _ _ _ => rfl⟩
theorem Touch.of {S : Nat → Prop} {w w' : World} (h : Below w.heap.size w w') : Touch S w w' := ⟨h.os, h.tape, h.output, h.size, fun k hk _ => h.block k hk⟩
theorem Touch.trans {S : Nat → Prop} {a b c : World} (h : Touch S a b) (k : Touch S b c) : Touch S a c :=
  ⟨k.os.trans h.os, k.tape.trans h.tape, k.output.trans h.output, Nat.le_trans h.size k.size, fun i hi hn => (k.block i (Nat.lt_of_lt_of_le hi h.size) hn).trans (h.block i hi hn)⟩
theorem Touch.mono {S T : Nat → Prop} {a b : World} (h : Touch S a b) (hs : ∀ k, S k → T k) : Touch T a b := ⟨h.os, h.tape, h.output, h.size, fun i hi hn => h.block i hi (fun hh => hn (hs i hh))⟩
theorem Touch.below {S : Nat → Prop} {w w' : World} {B : Nat} (h : Touch S w w') (hB : B ≤ w.heap.size) (hS : ∀ k, S k → B ≤ k) : Below B w w' :=
  ⟨h.os, h.tape, h.output, h.size, fun k hk => h.block k (by omega) (fun hh => by have := hS k hh; omega)⟩
theorem Touch.setCell {S : Nat → Prop} {w w' : World} (h : Touch S w w') {B i : Nat} (hB : S B) (v : Value) : Touch S w (w'.setCell ⟨B, i, none⟩ v) :=
  ⟨h.os, h.tape, h.output, by rw [size_setCell]; exact h.size, fun k hk hn => by rw [Below.heap_setCell _ _ _ _ (fun e => hn (by subst e; exact hB))]; exact h.block k hk hn⟩

/-- A list that may be written: empty, or just a block. -/
def OwnAt (w : World) (a : Option Addr) (B : Nat) (zs : List Int) : Prop := zs = [] ∨ (a = some ⟨B, 0, none⟩ ∧ Blk w B zs)

theorem OwnAt.ints {w : World} {a : Option Addr} {B : Nat} {zs : List Int} (h : OwnAt w a B zs) : Ints w a zs.length zs := by
  rcases h with rfl | ⟨rfl, h⟩
  · exact ⟨rfl, fun i hi => by simp at hi⟩
  · exact h.ints
theorem OwnAt.ints' {w : World} {a : Option Addr} {B n : Nat} {zs : List Int} (h : OwnAt w a B zs) (hn : zs.length = n) : Ints w a n zs := hn ▸ h.ints
theorem OwnAt.lt {w : World} {a : Option Addr} {B : Nat} {zs : List Int} (h : OwnAt w a B zs) (hn : 0 < zs.length) : B < w.heap.size := by
  rcases h with rfl | ⟨rfl, h⟩
  · simp at hn
  · exact h.lt
theorem OwnAt.below {w w' : World} {a : Option Addr} {B : Nat} {zs : List Int} (h : OwnAt w a B zs) (hb : Below w.heap.size w w') : OwnAt w' a B zs := by
  rcases h with rfl | ⟨rfl, h⟩
  · exact .inl rfl
  · exact .inr ⟨rfl, h.below hb⟩
theorem OwnAt.touch {S : Nat → Prop} {w w' : World} {a : Option Addr} {B : Nat} {zs : List Int} (h : OwnAt w a B zs) (hb : Touch S w w') (hn : ¬ S B) : OwnAt w' a B zs := by
  rcases h with rfl | ⟨rfl, h⟩
  · exact .inl rfl
  · exact .inr ⟨rfl, by unfold Blk at *; rw [hb.block B (lt_of_block h) hn]; exact h⟩
theorem Cel.touch {S : Nat → Prop} {w w' : World} {B : Nat} {vs : List Value} {t : TypeId} (h : Cel w B vs t) (hb : Touch S w w') (hn : ¬ S B) : Cel w' B vs t := by
  unfold Cel at *; rw [hb.block B (lt_of_block h) hn]; exact h
theorem Ints.touch {S : Nat → Prop} {w w' : World} {a : Option Addr} {n B : Nat} {zs : List Int} (h : Ints w a n zs) (hb : Touch S w w') (hB : B ≤ w.heap.size) (hS : ∀ k, S k → B ≤ k) (hl : ∀ b o, a = some ⟨b, o, none⟩ → b < B) : Ints w' a n zs := by
  refine ⟨h.1, fun i hi => ?_⟩
  obtain ⟨b, off, hab, hc⟩ := h.2 i hi
  exact ⟨b, off, hab, by rw [(hb.below hB hS).cell (p := ⟨b, off + i, none⟩) (hl _ _ hab)]; exact hc⟩

/-- k, k + 1, and so on: n numbers. -/
def ramp (k : Int) : Nat → List Int
  | 0 => []
  | n + 1 => ramp k n ++ [k + n]
theorem ramp_len (k : Int) (n : Nat) : (ramp k n).length = n := by
  induction n with
  | zero => rfl
  | succ n ih => simp [ramp, ih]
theorem ramp_get (k : Int) (n i : Nat) (h : i < n) : (ramp k n)[i]?.getD 0 = k + i := by
  induction n with
  | zero => omega
  | succ n ih =>
    by_cases hi : i < n
    · simp only [ramp]
      rw [List.getElem?_append_left (by rw [ramp_len]; exact hi)]
      exact ih hi
    · obtain rfl : i = n := by omega
      simp only [ramp]
      rw [List.getElem?_append_right (by rw [ramp_len]; exact Nat.le_refl _), ramp_len]
      simp

/-- Marked as far as i. -/
def marked (k : Int) (zs : List Int) (i : Nat) : List Int := ramp k i ++ zs.drop i
theorem marked_zero (k : Int) (zs : List Int) : marked k zs 0 = zs := by simp [marked, ramp]
theorem marked_end (k : Int) (zs : List Int) (i : Nat) (h : zs.length ≤ i) : marked k zs i = ramp k i := by simp [marked, h]
theorem marked_len (k : Int) (zs : List Int) (i : Nat) (h : i ≤ zs.length) : (marked k zs i).length = zs.length := by simp [marked, ramp_len]; omega
theorem marked_succ (k : Int) (zs : List Int) (i : Nat) (h : i < zs.length) : (marked k zs i).set i (k + i) = marked k zs (i + 1) := by
  unfold marked
  rw [List.set_append_right _ _ (by rw [ramp_len]; exact Nat.le_refl _), ramp_len, Nat.sub_self]
  rw [List.drop_eq_getElem_cons h, List.set_cons_zero]
  simp only [ramp, List.append_assoc, List.cons_append, List.nil_append]

set_option maxHeartbeats 400000 in
theorem mark_any (a : Option Addr) (n cap B : Nat) (zs : List Int) (k : Int) (w : World) (h : OwnAt w a B zs) (hz : zs.length = n) (hn : n ≤ 1048576) (hk0 : 0 ≤ k) (hk : k ≤ 4000000000000000000) :
    Calls Tryd.prog 27 #[.slice a n cap, .int .i64 k] w fun e w' => e = .returned (.int .i64 (k + n)) ∧ Touch (fun x => x = B ∧ 0 < n) w w' ∧ OwnAt w' a B (ramp k n) := by
  have HZ : Hid (zs.length = n) := hz
  clear hz
  go_enter Tryd.func27, Tryd.ntmps27
  go_wp2_with fail
  go_loopw [1, 5] (fun kk i wr => ∃ j : Nat, j ≤ n ∧ i = .int .i64 j ∧ kk = .int .i64 (k + j) ∧ Touch (fun x => x = B ∧ 0 < n) w wr ∧ OwnAt wr a B (marked k zs j)) (fun _ i _ => n - (intOf i).toNat)
  case atStart => exact ⟨0, Nat.zero_le _, rfl, by simp, Touch.refl _ _, by rw [marked_zero]; exact h⟩
  case round =>
    obtain ⟨j, hj, rfl, rfl, ht, ho⟩ := hrel
    by_cases hlt : j < n
    · rcases ho with ho | ⟨rfl, hb⟩
      · have := marked_len k zs j (by rw [HZ.out]; exact hj)
        rw [ho, HZ.out] at this
        simp at this
        omega
      · have hc := hb.cell j (by rw [marked_len k zs j (by rw [HZ.out]; exact hj), HZ.out]; exact hlt)
        have hf := hb.free j
        have R : Blk (wr.setCell ⟨B, j, none⟩ (.int .i64 (k + j))) B (marked k zs (j + 1)) := by
          have := hb.set j (k + j)
          rwa [marked_succ k zs j (by rw [HZ.out]; exact hlt)] at this
        have R2 : Touch (fun x => x = B ∧ 0 < n) w (wr.setCell ⟨B, j, none⟩ (.int .i64 (k + j))) := ht.setCell ⟨rfl, by omega⟩ _
        clear h hb
        go_wp2
        go_roundw
        case rel => exact ⟨j + 1, by omega, by go_num, by go_num, R2, .inr ⟨rfl, R⟩⟩
        case measure => simp [intOf]; omega
    · go_wp2
      go_ret
      obtain rfl : j = n := by omega
      exact ⟨rfl, ht, by rw [marked_end k zs j (by rw [HZ.out]; exact Nat.le_refl _)] at ho; exact ho⟩

/-- A call has made a form of its own: its lists are new, and apart from each other; old memory is as it was. -/
def Res (w w' : World) (e : Ending) (C D : List Int) (K : Int) : Prop :=
  ∃ a n cap c m cap' B1 B2, e = .returned (formV a n cap c m cap' K) ∧ C.length = n ∧ D.length = m ∧ Below w.heap.size w w' ∧ OwnAt w' a B1 C ∧ OwnAt w' c B2 D ∧ (0 < n → w.heap.size ≤ B1) ∧ (0 < m → w.heap.size ≤ B2) ∧ (0 < n → 0 < m → B1 ≠ B2)

theorem Res.of {w w' : World} {e : Ending} {C D : List Int} {K : Int} {n m B1 B2 : Nat} (he : e = .returned (formV (some ⟨B1, 0, none⟩) n n (some ⟨B2, 0, none⟩) m m K)) (hn : C.length = n) (hm : D.length = m)
    (hb : Below w.heap.size w w') (h1 : w.heap.size ≤ B1) (h2 : B1 ≠ B2) (h3 : w.heap.size ≤ B2) (k1 : Blk w' B1 C) (k2 : Blk w' B2 D) : Res w w' e C D K :=
  ⟨_, _, _, _, _, _, B1, B2, he, hn, hm, hb, .inr ⟨rfl, k1⟩, .inr ⟨rfl, k2⟩, fun _ => h1, fun _ => h3, fun _ _ => h2⟩

theorem Res.none {w w' : World} {e : Ending} (he : e = .returned (formV none 0 0 none 0 0 0)) (hb : Below w.heap.size w w') : Res w w' e [] [] 0 :=
  ⟨_, _, _, _, _, _, 0, 0, he, rfl, rfl, hb, .inl rfl, .inl rfl, fun h => by omega, fun h => by omega, fun h => by omega⟩

end Go.Proofs.YtmhhphpihnkfpaaDoor
