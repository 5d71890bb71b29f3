/-
  Lists that a call has made itself: they are marked with numbers, and looked at again. Lengths at most 1048576, numbers at most 1000000000000.
-/
import Derived.Test.YtkmacleakfbobabGreatDoorForms
namespace Go.Proofs.YtkmacleakfbobabGreatDoor
open Go.RowKit
set_option linter.unusedVariables false

/-- Old memory is as it was, but for the blocks in S. -/
structure Touch (S : Nat → Prop) (w w' : World) : Prop where
  os : w'.os = w.os
  tape : w'.tape = w.tape
  output : w'.output = w.output
  size : w.heap.size ≤ w'.heap.size
  block : ∀ k, k < w.heap.size → ¬ S k → w'.heap[k]? = w.heap[k]?

theorem Touch.refl (S : Nat → Prop) (w : World) : Touch S w w := ⟨rfl, rfl, rfl, Nat.le_refl _, fun _ _ _ => rfl⟩
theorem Touch.of {S : Nat → Prop} {w w' : World} (h : Below w.heap.size w w') : Touch S w w' := ⟨h.os, h.tape, h.output, h.size, fun k hk _ => h.block k hk⟩
theorem Touch.trans {S : Nat → Prop} {a b c : World} (h : Touch S a b) (k : Touch S b c) : Touch S a c :=
  ⟨k.os.trans h.os, k.tape.trans h.tape, k.output.trans h.output, Nat.le_trans h.size k.size, fun i hi hn => (k.block i (Nat.lt_of_lt_of_le hi h.size) hn).trans (h.block i hi hn)⟩
theorem Touch.mono {S T : Nat → Prop} {a b : World} (h : Touch S a b) (hs : ∀ k, S k → T k) : Touch T a b := ⟨h.os, h.tape, h.output, h.size, fun i hi hn => h.block i hi (fun hh => hn (hs i hh))⟩
theorem Touch.below {S : Nat → Prop} {w w' : World} {B : Nat} (h : Touch S w w') (hB : B ≤ w.heap.size) (hS : ∀ k, S k → B ≤ k) : Below B w w' :=
  ⟨h.os, h.tape, h.output, h.size, fun k hk => h.block k (by omega) (fun hh => by have := hS k hh; omega)⟩
theorem Touch.setCell {S : Nat → Prop} {w w' : World} (h : Touch S w w') {B i : Nat} (hB : S B) (v : Value) : Touch S w (w'.setCell ⟨B, i, none⟩ v) :=
  ⟨h.os, h.tape, h.output, by rw [size_setCell]; exact h.size, fun k hk hn => by rw [Below.heap_setCell _ _ _ _ (fun e => hn (by subst e; exact hB))]; exact h.block k hk hn⟩

/-- A list that may be written: empty, or just a block. -/
def OwnAt (w : World) (a : Option Addr) (B : Nat) (zs : List Int) : Prop := zs = [] ∨ (a = some ⟨B, 0, none⟩ ∧ Blk w B zs)

theorem OwnAt.ints {w : World} {a : Option Addr} {B : Nat} {zs : List Int} (h : OwnAt w a B zs) : Ints w a zs.length zs := by
  rcases h with rfl | ⟨rfl, h⟩
  · exact ⟨rfl, fun i hi => by simp at hi⟩
  · exact h.ints
theorem OwnAt.ints' {w : World} {a : Option Addr} {B n : Nat} {zs : List Int} (h : OwnAt w a B zs) (hn : zs.length = n) : Ints w a n zs := hn ▸ h.ints
theorem OwnAt.lt {w : World} {a : Option Addr} {B : Nat} {zs : List Int} (h : OwnAt w a B zs) (hn : 0 < zs.length) : B < w.heap.size := by
  rcases h with rfl | ⟨rfl, h⟩
  · simp at hn
  · exact h.lt
theorem OwnAt.below {w w' : World} {a : Option Addr} {B : Nat} {zs : List Int} (h : OwnAt w a B zs) (hb : Below w.heap.size w w') : OwnAt w' a B zs := by
  rcases h with rfl | ⟨rfl, h⟩
  · exact .inl rfl
  · exact .inr ⟨rfl, h.below hb⟩
theorem OwnAt.touch {S : Nat → Prop} {w w' : World} {a : Option Addr} {B : Nat} {zs : List Int} (h : OwnAt w a B zs) (hb : Touch S w w') (hn : ¬ S B) : OwnAt w' a B zs := by
  rcases h with rfl | ⟨rfl, h⟩
  · exact .inl rfl
  · exact .inr ⟨rfl, by unfold Blk at *; rw [hb.block B (lt_of_block h) hn]; exact h⟩
theorem Cel.touch {S : Nat → Prop} {w w' : World} {B : Nat} {vs : List Value} {t : TypeId} (h : Cel w B vs t) (hb : Touch S w w') (hn : ¬ S B) : Cel w' B vs t := by
  unfold Cel at *; rw [hb.block B (lt_of_block h) hn]; exact h
theorem Ints.touch {S : Nat → Prop} {w w' : World} {a : Option Addr} {n B : Nat} {zs : List Int} (h : Ints w a n zs) (hb : Touch S w w') (hB : B ≤ w.heap.size) (hS : ∀ k, S k → B ≤ k) (hl : ∀ b o, a = some ⟨b, o, none⟩ → b < B) : Ints w' a n zs := by
  refine ⟨h.1, fun i hi => ?_⟩
  obtain ⟨b, off, hab, hc⟩ := h.2 i hi
  exact ⟨b, off, hab, by rw [(hb.below hB hS).cell (p := ⟨b, off + i, none⟩) (hl _ _ hab)]; exact hc⟩

/-- k, k + 1, and so on: n numbers. -/
def ramp (k : Int) : Nat → List Int
  | 0 => []
  | n + 1 => ramp k n ++ [k + n]
theorem ramp_len (k : Int) (n : Nat) : (ramp k n).length = n := by
  induction n with
  | zero => rfl
  | succ n ih => simp [ramp, ih]
theorem ramp_get (k : Int) (n i : Nat) (h : i < n) : (ramp k n)[i]?.getD 0 = k + i := by
  induction n with
  | zero => omega
  | succ n ih =>
    by_cases hi : i < n
    · simp only [ramp]
      rw [List.getElem?_append_left (by rw [ramp_len]; exact hi)]
      exact ih hi
    · obtain rfl : i = n := by omega
      simp only [ramp]
      rw [List.getElem?_append_right (by rw [ramp_len]; exact Nat.le_refl _), ramp_len]
      simp

/-- Marked as far as i. -/
def marked (k : Int) (zs : List Int) (i : Nat) : List Int := ramp k i ++ zs.drop i
theorem marked_zero (k : Int) (zs : List Int) : marked k zs 0 = zs := by simp [marked, ramp]
theorem marked_end (k : Int) (zs : List Int) (i : Nat) (h : zs.length ≤ i) : marked k zs i = ramp k i := by simp [marked, h]
theorem marked_len (k : Int) (zs : List Int) (i : Nat) (h : i ≤ zs.length) : (marked k zs i).length = zs.length := by simp [marked, ramp_len]; omega
theorem marked_succ (k : Int) (zs : List Int) (i : Nat) (h : i < zs.length) : (marked k zs i).set i (k + i) = marked k zs (i + 1) := by
  unfold marked
  rw [List.set_append_right _ _ (by rw [ramp_len]; exact Nat.le_refl _), ramp_len, Nat.sub_self]
  rw [List.drop_eq_getElem_cons h, List.set_cons_zero]
  simp only [ramp, List.append_assoc, List.cons_append, List.nil_append]

set_option maxHeartbeats 400000 in
theorem mark_any (a : Option Addr) (n cap B : Nat) (zs : List Int) (k : Int) (w : World) (h : OwnAt w a B zs) (hz : zs.length = n) (hn : n ≤ 1048576) (hk0 : 0 ≤ k) (hk : k ≤ 1000000000000000) :
    Calls Tryz.prog 38 #[.slice a n cap, .int .i64 k] w fun e w' => e = .returned (.int .i64 (k + n)) ∧ Touch (fun x => x = B ∧ 0 < n) w w' ∧ OwnAt w' a B (ramp k n) := by
  have HZ : Hid (zs.length = n) := hz
  clear hz
  go_enter Tryz.func38, Tryz.ntmps38
  go_wp2_with fail
  go_loopw [1, 5] (fun kk i wr => ∃ j : Nat, j ≤ n ∧ i = .int .i64 j ∧ kk = .int .i64 (k + j) ∧ Touch (fun x => x = B ∧ 0 < n) w wr ∧ OwnAt wr a B (marked k zs j)) (fun _ i _ => n - (intOf i).toNat)
  case atStart => exact ⟨0, Nat.zero_le _, rfl, by simp, Touch.refl _ _, by rw [marked_zero]; exact h⟩
  case round =>
    obtain ⟨j, hj, rfl, rfl, ht, ho⟩ := hrel
    by_cases hlt : j < n
    · rcases ho with ho | ⟨rfl, hb⟩
      · have := marked_len k zs j (by rw [HZ.out]; exact hj)
        rw [ho, HZ.out] at this
        simp at this
        omega
      · have hc := hb.cell j (by rw [marked_len k zs j (by rw [HZ.out]; exact hj), HZ.out]; exact hlt)
        have hf := hb.free j
        have R : Blk (wr.setCell ⟨B, j, none⟩ (.int .i64 (k + j))) B (marked k zs (j + 1)) := by
          have := hb.set j (k + j)
          rwa [marked_succ k zs j (by rw [HZ.out]; exact hlt)] at this
        have R2 : Touch (fun x => x = B ∧ 0 < n) w (wr.setCell ⟨B, j, none⟩ (.int .i64 (k + j))) := ht.setCell ⟨rfl, by omega⟩ _
        clear h hb
        go_wp2
        go_roundw
        case rel => exact ⟨j + 1, by omega, by go_num, by go_num, R2, .inr ⟨rfl, R⟩⟩
        case measure => simp [intOf]; omega
    · go_wp2
      go_ret
      obtain rfl : j = n := by omega
      exact ⟨rfl, ht, by rw [marked_end k zs j (by rw [HZ.out]; exact Nat.le_refl _)] at ho; exact ho⟩

set_option maxHeartbeats 400000 in
theorem held_any (a : Option Addr) (n cap : Nat) (k : Int) (w : World) (h : Ints w a n (ramp k n)) (hn : n ≤ 1048576) (hk0 : 0 ≤ k) (hk : k ≤ 1000000000000000) :
    Calls Tryz.prog 39 #[.slice a n cap, .int .i64 k] w fun e w' => e = .returned (.int .i64 (k + n)) ∧ w' = w := by
  go_enter Tryz.func39, Tryz.ntmps39
  go_wp2_with fail
  go_loop [1, 5] (fun kk i => ∃ j : Nat, j ≤ n ∧ i = .int .i64 j ∧ kk = .int .i64 (k + j)) (fun _ i => n - (intOf i).toNat)
  case atStart => exact ⟨0, Nat.zero_le _, rfl, by simp⟩
  case round =>
    obtain ⟨j, hj, rfl, rfl⟩ := hrel
    by_cases hlt : j < n
    · obtain ⟨b, off, rfl, hcell⟩ := h.pos (by omega)
      have hck : w.cell? ⟨b, off + j, none⟩ = some (.int .i64 (k + j)) := by
        rw [hcell j hlt]
        have := ramp_get k n j hlt
        simp [this]
      clear hcell h
      go_wp2
      go_round
      case rel => exact ⟨j + 1, by omega, by go_num, by go_num⟩
      case measure => simp [intOf]; omega
    · go_wp2
      go_ret
      obtain rfl : j = n := by omega
      exact ⟨rfl, rfl⟩

set_option maxHeartbeats 400000 in
theorem markF_any (a : Option Addr) (n cap : Nat) (c : Option Addr) (m cap' : Nat) (K : Int) (B1 B2 : Nat) (C D : List Int) (k : Int) (w : World) (hC : OwnAt w a B1 C) (hD : OwnAt w c B2 D) (hne : 0 < n → 0 < m → B1 ≠ B2)
    (hzC : C.length = n) (hzD : D.length = m) (hn : n ≤ 1048576) (hm : m ≤ 1048576) (hk0 : 0 ≤ k) (hk : k ≤ 10000000000) :
    Calls Tryz.prog 21 #[formV a n cap c m cap' K, .int .i64 k] w fun e w' => e = .returned (.int .i64 (k + n + m)) ∧ Touch (fun x => (x = B1 ∧ 0 < n) ∨ (x = B2 ∧ 0 < m)) w w' ∧ OwnAt w' a B1 (ramp k n) ∧ OwnAt w' c B2 (ramp (k + n) m) := by
  have l1 : 0 < n → B1 < w.heap.size := fun h => hC.lt (by omega)
  have l2 : 0 < m → B2 < w.heap.size := fun h => hD.lt (by omega)
  have HC : Hid (C.length = n) := hzC
  have HD : Hid (D.length = m) := hzD
  clear hzC hzD
  go_enter Tryz.func21, Tryz.ntmps21
  go_wp2_with fail
  refine (mark_any _ _ _ B1 C _ _ (hC.below ((Below.refl _ _).alloc (Nat.le_refl _) _)) HC.out hn hk0 (by omega)).mono ?_
  rintro e w1 ⟨rfl, t1, o1⟩
  have q0 := (Cel.new w _ _).touch t1 (fun h => by have := l1 h.2; omega)
  have c1 := q0.cell 1
  simp only [List.getElem?_cons_zero, List.getElem?_cons_succ] at c1
  have hD1 := (hD.below ((Below.refl _ _).alloc (Nat.le_refl _) _)).touch t1
  have T1 : Touch (fun x => (x = B1 ∧ 0 < n) ∨ (x = B2 ∧ 0 < m)) w w1 := (Touch.of ((Below.refl _ _).alloc (Nat.le_refl _) _)).trans (t1.mono fun k h => .inl h)
  have hD2 : OwnAt w1 c B2 D := by
    by_cases h0 : 0 < n
    · by_cases h1 : 0 < m
      · exact hD1 (fun h => hne h0 h1 h.1.symm)
      · exact .inl (List.eq_nil_of_length_eq_zero (by rw [HD.out]; omega))
    · exact hD1 (fun h => h0 h.2)
  clear hD1
  go_wp2_with fail
  refine (mark_any _ _ _ B2 D _ _ hD2 HD.out hm (by omega) (by omega)).mono ?_
  rintro e w2 ⟨rfl, t2, o2⟩
  have T2 := T1.trans (t2.mono fun k h => .inr h)
  have o1' : OwnAt w2 a B1 (ramp k n) := by
    by_cases h0 : 0 < n
    · by_cases h1 : 0 < m
      · exact o1.touch t2 (fun h => hne h0 h1 h.1)
      · exact o1.touch t2 (fun h => h1 h.2)
    · exact .inl (List.eq_nil_of_length_eq_zero (by rw [ramp_len]; omega))
  clear t1 t2 T1 l1 l2 hne hD2 o1 q0
  go_wp2
  go_ret
  exact ⟨rfl, T2, o1', o2⟩

set_option maxHeartbeats 400000 in
theorem heldF_any (a : Option Addr) (n cap : Nat) (c : Option Addr) (m cap' : Nat) (K : Int) (k : Int) (w : World) (hC : Ints w a n (ramp k n)) (hD : Ints w c m (ramp (k + n) m))
    (hn : n ≤ 1048576) (hm : m ≤ 1048576) (hk0 : 0 ≤ k) (hk : k ≤ 10000000000) :
    Calls Tryz.prog 22 #[formV a n cap c m cap' K, .int .i64 k] w fun e w' => e = .returned (.int .i64 (k + n + m)) ∧ Below w.heap.size w w' := by
  go_enter Tryz.func22, Tryz.ntmps22
  go_wp2_with fail
  refine (held_any _ _ _ _ _ (hC.alloc _) hn hk0 (by omega)).mono ?_
  rintro e w1 ⟨rfl, rfl⟩
  have h1 : 0 ≤ k + n := by omega
  have h2 : 0 ≤ k + n + m := by omega
  go_wp2_with fail
  refine (held_any _ _ _ _ _ (hD.alloc _) hm h1 (by omega)).mono ?_
  rintro e w1 ⟨rfl, rfl⟩
  go_wp2
  go_ret
  exact ⟨rfl, (Below.refl _ _).alloc (Nat.le_refl _) _⟩

/-- A call has made a form of its own: its lists are new, and apart from each other; old memory is as it was. -/
def Res (w w' : World) (e : Ending) (C D : List Int) (K : Int) : Prop :=
  ∃ a n cap c m cap' B1 B2, e = .returned (formV a n cap c m cap' K) ∧ C.length = n ∧ D.length = m ∧ Below w.heap.size w w' ∧ OwnAt w' a B1 C ∧ OwnAt w' c B2 D ∧ (0 < n → w.heap.size ≤ B1) ∧ (0 < m → w.heap.size ≤ B2) ∧ (0 < n → 0 < m → B1 ≠ B2)

theorem Res.of {w w' : World} {e : Ending} {C D : List Int} {K : Int} {n m B1 B2 : Nat} (he : e = .returned (formV (some ⟨B1, 0, none⟩) n n (some ⟨B2, 0, none⟩) m m K)) (hn : C.length = n) (hm : D.length = m)
    (hb : Below w.heap.size w w') (h1 : w.heap.size ≤ B1) (h2 : B1 ≠ B2) (h3 : w.heap.size ≤ B2) (k1 : Blk w' B1 C) (k2 : Blk w' B2 D) : Res w w' e C D K :=
  ⟨_, _, _, _, _, _, B1, B2, he, hn, hm, hb, .inr ⟨rfl, k1⟩, .inr ⟨rfl, k2⟩, fun _ => h1, fun _ => h3, fun _ _ => h2⟩

theorem Res.none {w w' : World} {e : Ending} (he : e = .returned (formV none 0 0 none 0 0 0)) (hb : Below w.heap.size w w') : Res w w' e [] [] 0 :=
  ⟨_, _, _, _, _, _, 0, 0, he, rfl, rfl, hb, .inl rfl, .inl rfl, fun h => by omega, fun h => by omega, fun h => by omega⟩

end Go.Proofs.YtkmacleakfbobabGreatDoor
