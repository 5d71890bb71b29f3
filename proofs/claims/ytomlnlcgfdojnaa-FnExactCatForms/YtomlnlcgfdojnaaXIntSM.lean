/-
  Slices of parts, each in a block of its own: marked and found again (laws.markIntSS, heldIntSS). At most 600000 of them.
-/
import Derived.Test.YtomlnlcgfdojnaaXCatFI
namespace Go.Proofs.Ytomlnlcgfdojnaa
open Go.RowKit
set_option linter.unusedVariables false
set_option maxRecDepth 100000

/-- Parts in blocks of their own. -/
structure SL (W : World) (a : Option Addr) (G n : Nat) (ts : List IV) (bs : Nat → Nat) (f : Nat → List Int) : Prop where
  c : ∀ j, j < n → a = some ⟨G, 0, none⟩ ∧ W.cell? ⟨G, j, none⟩ = some (.slice (ts[j]?.getD noI).a 3 (ts[j]?.getD noI).cap) ∧ OwnX W (ts[j]?.getD noI).a (bs j) 3 (f j) ∧ bs j ≠ G
  d : ∀ i j, i < j → j < n → bs i < bs j
theorem SL.touch {S : Nat → Prop} {W W' : World} {a : Option Addr} {G n : Nat} {ts : List IV} {bs : Nat → Nat} {f : Nat → List Int} (h : SL W a G n ts bs f) (t : Touch S W W') (hG : 0 < n → ¬ S G) (hb : ∀ j, j < n → ¬ S (bs j)) : SL W' a G n ts bs f :=
  ⟨fun j hj => by
    obtain ⟨h1, h2, h3, h4⟩ := h.c j hj
    refine ⟨h1, ?_, h3.touch t (fun _ => hb j hj), h4⟩
    rw [World.cell?_of_block (t.block G (block_lt h2) (hG (by omega)))]; exact h2, h.d⟩
theorem SL.below {W W' : World} {a : Option Addr} {G n : Nat} {ts : List IV} {bs : Nat → Nat} {f : Nat → List Int} (h : SL W a G n ts bs f) (b : Below W.heap.size W W') : SL W' a G n ts bs f := h.touch (S := fun _ => False) (Touch.of b) (fun _ h => h) (fun _ _ h => h)
theorem SL.ext {W : World} {a : Option Addr} {G n : Nat} {ts : List IV} {bs : Nat → Nat} {f g : Nat → List Int} (h : SL W a G n ts bs f) (e : ∀ j, j < n → f j = g j) : SL W a G n ts bs g := ⟨fun j hj => by rw [← e j hj]; exact h.c j hj, h.d⟩
theorem SL.none (W : World) (a : Option Addr) (G : Nat) (ts : List IV) (bs : Nat → Nat) (f : Nat → List Int) : SL W a G 0 ts bs f := ⟨fun j hj => by omega, fun i j _ hj => by omega⟩
theorem JO.sl {w W : World} {G n cG : Nat} {ts : List IV} {bs : Nat → Nat} (j : JO w (.slice (some ⟨G, 0, Option.none⟩) n cG) ts bs W) (hn : ts.length = n) : SL W (some ⟨G, 0, Option.none⟩) G n ts bs (fun i => (ts[i]?.getD noI).x) := by
  subst hn
  refine ⟨fun i hi => ?_, j.d⟩
  obtain ⟨a, b, c, d⟩ := j.k i hi
  refine ⟨rfl, ?_, b, fun e => d (by rw [e]; rfl)⟩
  rw [own_cell j.o i (by omega), List.getElem?_map, List.getElem?_eq_getElem hi]
  rw [List.getElem?_eq_getElem hi] at a
  simp only [Option.getD_some] at a
  simp [IV.v, a]
theorem SL.isg {W : World} {a : Option Addr} {G n : Nat} {ts : List IV} {bs : Nat → Nat} (h : SL W a G n ts bs (fun i => (ts[i]?.getD noI).x)) (hn : ts.length = n) (h3 : ∀ i, i < n → (ts[i]?.getD noI).n = 3) : ISG W a ts := fun i hi => by
  obtain ⟨h1, h2, hx, _⟩ := h.c i (by omega)
  refine ⟨G, 0, h1, ?_, ?_, by rw [h3 i (by omega)]; omega⟩
  · rw [Nat.zero_add, h2, IV.v, h3 i (by omega)]
  · rw [h3 i (by omega)]; exact hx.ints

set_option maxHeartbeats 1600000 in
theorem markSL_any (a : Option Addr) (G n cap : Nat) (ts : List IV) (bs : Nat → Nat) (f : Nat → List Int) (w : World) (h : SL w a G n ts bs f) (hn : n ≤ 600000) :
    Calls Try.prog 33 #[.slice a n cap, .int .i64 1] w fun e w' => e = .returned (.int .i64 (1 + 3 * n)) ∧ Touch (fun x => ∃ j, j < n ∧ x = bs j) w w' ∧ SL w' a G n ts bs (fun i => ramp (1 + 3 * i) 3) := by
  have H : Hid (SL w a G n ts bs f) := h
  clear h
  go_enter Try.func33, Try.ntmps33
  go_wp2_with fail
  go_loopw [1, 5] (fun kv i wr => ∃ j : Nat, j ≤ n ∧ i = .int .i64 j ∧ kv = .int .i64 (1 + 3 * j) ∧ Touch (fun x => ∃ j, j < n ∧ x = bs j) w wr ∧ SL wr a G n ts bs (fun i => if i < j then ramp (1 + 3 * i) 3 else f i)) (fun _ i _ => n - (intOf i).toNat)
  case atStart => exact ⟨0, Nat.zero_le _, rfl, by simp, Touch.refl _ _, H.out.ext (fun j hj => by simp)⟩
  case round =>
    obtain ⟨j, hj, rfl, rfl, t, s⟩ := hrel
    by_cases hlt : j < n
    · obtain ⟨rfl, hc, ho, hne⟩ := s.c j hlt
      have hlt' : (j : Int) < (n : Int) := by omega
      generalize hgf : (if j < j then ramp (1 + 3 * (j : Int)) 3 else f j) = fj at ho
      clear hgf
      go_wp2_with fail
      refine (markX_any _ 3 _ (bs j) fj _ _ ho (by omega) (by omega) (by omega)).mono ?_
      rintro e w2 ⟨rfl, t2, o2⟩
      have T2 := t.trans (t2.mono (T := fun x => ∃ j, j < n ∧ x = bs j) (fun x hx => ⟨j, hlt, hx.1⟩))
      have S2 : SL w2 (some ⟨G, 0, Option.none⟩) G n ts bs (fun i => if i < j + 1 then ramp (1 + 3 * i) 3 else f i) := by
        refine ⟨fun i hi => ?_, s.d⟩
        obtain ⟨h1, h2, h3, h4⟩ := s.c i hi
        have h2' : w2.cell? ⟨G, i, Option.none⟩ = some (.slice (ts[i]?.getD noI).a 3 (ts[i]?.getD noI).cap) := by
          rw [World.cell?_of_block (t2.block G (block_lt h2) (fun hh => hne hh.1.symm))]; exact h2
        by_cases e : i = j
        · subst e
          exact ⟨h1, h2', by simpa using o2, h4⟩
        · refine ⟨h1, h2', ?_, h4⟩
          have h5 := h3.touch t2 (fun _ hh => by
            have he : bs i = bs j := hh.1
            rcases Nat.lt_or_gt_of_ne e with h | h
            · have := s.d i j h hlt; omega
            · have := s.d j i h hi; omega)
          have e2 : (if i < j then ramp (1 + 3 * (i : Int)) 3 else f i) = (if i < j + 1 then ramp (1 + 3 * (i : Int)) 3 else f i) := by
            by_cases h : i < j
            · rw [if_pos h, if_pos (by omega)]
            · rw [if_neg h, if_neg (by omega)]
          rw [← e2]; exact h5
      clear s t t2 o2 hc ho
      go_wp2
      go_roundw
      case rel => exact ⟨j + 1, by omega, by go_num, by go_num, T2, S2⟩
      case measure => simp [intOf]; omega
    · obtain rfl : j = n := by omega
      go_wp2
      go_ret
      exact ⟨rfl, t, s.ext (fun i hi => by rw [if_pos hi])⟩

set_option maxHeartbeats 1600000 in
theorem heldSL_any (a : Option Addr) (G n cap : Nat) (ts : List IV) (bs : Nat → Nat) (w : World) (h : SL w a G n ts bs (fun i => ramp (1 + 3 * i) 3)) (hn : n ≤ 600000) :
    Calls Try.prog 34 #[.slice a n cap, .int .i64 1] w fun e w' => e = .returned (.int .i64 (1 + 3 * n)) ∧ w' = w := by
  have H : Hid (SL w a G n ts bs (fun i => ramp (1 + 3 * i) 3)) := h
  clear h
  go_enter Try.func34, Try.ntmps34
  go_wp2_with fail
  go_loopw [1, 5] (fun kv i wr => ∃ j : Nat, j ≤ n ∧ i = .int .i64 j ∧ kv = .int .i64 (1 + 3 * j) ∧ wr = w) (fun _ i _ => n - (intOf i).toNat)
  case atStart => exact ⟨0, Nat.zero_le _, rfl, by simp, rfl⟩
  case round =>
    obtain ⟨j, hj, rfl, rfl, rfl⟩ := hrel
    by_cases hlt : j < n
    · obtain ⟨rfl, hc, ho, hne⟩ := H.out.c j hlt
      have hlt' : (j : Int) < (n : Int) := by omega
      have hi3 := ho.ints
      go_wp2_with fail
      refine (held_any _ 3 _ _ _ hi3 (by omega) (by omega) (by omega)).mono ?_
      rintro e w2 ⟨rfl, rfl⟩
      have hp : 0 ≤ 1 + 3 * (j : Int) + 3 := by omega
      go_wp2
      go_roundw
      case rel => exact ⟨j + 1, by omega, by go_num, by go_num, trivial⟩
      case measure => simp [intOf]; omega
    · obtain rfl : j = n := by omega
      go_wp2
      go_ret
      exact ⟨rfl, rfl⟩

end Go.Proofs.Ytomlnlcgfdojnaa
