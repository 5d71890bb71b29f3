/-
  Slices of forms that a call has made are marked, form by form.
-/
import Derived.Test.YthhfjodggmmcoaaMade
namespace Go.Proofs.Ythhfjodggmmcoaa
open Go.RowKit
set_option linter.unusedVariables false

/-- While they are marked: the block's slices stand; the lists from k on are as they were made. -/
structure MK (W : World) (B N s k : Nat) (gs : List FV) (p q : Nat → Nat) (wr : World) : Prop where
  c : ∃ cur : Array Value, wr.heap[B]? = some (.cells cur 86 (0, 0)) ∧ cur.size = N * 3 ∧ ∀ i, i < N → cur[i * 3]? = some (.slice (gs[i]?.getD noFV).a (gs[i]?.getD noFV).n (gs[i]?.getD noFV).cap) ∧ cur[i * 3 + 1]? = some (.slice (gs[i]?.getD noFV).c (gs[i]?.getD noFV).m (gs[i]?.getD noFV).cap')
  o : ∀ i, k ≤ i → i < N → Blk wr (p i) (gs[i]?.getD noFV).C ∧ Blk wr (q i) (gs[i]?.getD noFV).D
  t : Touch (fun x => B ≤ x ∧ x < s) W wr

set_option maxHeartbeats 1600000 in
theorem markFS_any (B lo N cap s : Nat) (cs : List (List Value)) (gs : List FV) (p q : Nat → Nat) (k0 : Int) (W : World) (h : MF W B lo cs gs p q) (hN : gs.length = N) (hcs : cs.length = N) (hN1 : N ≤ 1048576) (hk0 : 0 ≤ k0) (hk1 : k0 ≤ 10000000) (hBs : B < s) (hqs : ∀ i, i < N → q i < s) :
    Calls Try.prog 73 #[.slice (some ⟨B, 0, none⟩) N cap, .int .i64 k0] W fun e w' => ∃ r, e = .returned (.int .i64 r) ∧ 0 ≤ r ∧ Touch (fun x => B ≤ x ∧ x < s) W w' := by
  have HQ : Hid _ := hqs
  clear hqs
  have HN : Hid (gs.length = N) := hN
  have hl := h.l
  rw [hN] at hl
  have HL : Hid _ := hl
  have hB := h.b
  have m0 : MK W B N s 0 gs p q W := by
    refine ⟨⟨cs.flatten.toArray, h.c, by rw [List.size_toArray, flat_len cs h.t, hcs], fun i hi => ?_⟩, fun i _ hi => ?_, Touch.refl _ _⟩
    · have a1 := (hl i hi).1
      have c0 := flat_get cs i 0 h.t (by omega)
      have c1 := flat_get cs i 1 h.t (by omega)
      rw [a1] at c0 c1
      rw [Nat.add_zero] at c0
      exact ⟨by rw [List.getElem?_toArray]; exact c0, by rw [List.getElem?_toArray]; exact c1⟩
    · obtain ⟨_, _, _, a4, a5, _⟩ := hl i hi
      exact ⟨a4, a5⟩
  clear hl h hN hcs
  go_enter Try.func73, Try.ntmps73
  go_wp2_with fail
  go_loopw [1, 5] (fun kv i wr => ∃ k : Nat, k ≤ N ∧ i = .int .i64 k ∧ ∃ x : Int, kv = .int .i64 x ∧ 0 ≤ x ∧ x ≤ k0 + k * 2097153 ∧ MK W B N s k gs p q wr) (fun _ i _ => N - (intOf i).toNat)
  case atStart => exact ⟨0, Nat.zero_le _, rfl, k0, rfl, hk0, by omega, m0⟩
  case round =>
    clear m0
    obtain ⟨k, hk, rfl, x, rfl, hx0, hx1, mk⟩ := hrel
    by_cases hlt : k < N
    · obtain ⟨-, ea, ec, -, -, lC, lD, n1, m1, hp, hpq, hq, hj⟩ := HL.out k hlt
      have hqk := HQ.out k hlt
      obtain ⟨bC, bD⟩ := mk.o k (Nat.le_refl _) hlt
      obtain ⟨cur, hcur, hsz, hcells⟩ := mk.c
      have hc := hcells k hlt
      have HJ : Hid (∀ i, k + 1 ≤ i → i < N → q k < p i ∧ p i < q i) := fun i hi hiN => by
        obtain ⟨_, _, _, _, _, _, _, _, _, _, h11, _, h13⟩ := HL.out i hiN
        exact ⟨h13 k (by omega), h11⟩
      generalize HG : gs[k]?.getD noFV = g at *
      clear HG
      obtain ⟨ga, gn, gcap, gc, gm, gcap', gK, gC, gD⟩ := g
      simp only at ea ec lC lD n1 m1 bC bD hc
      subst ea ec
      have c0 : wr.cell? ⟨B, k * 3, none⟩ = some (.slice (some ⟨p k, 0, none⟩) gn gcap) := by
        simp only [World.cell?, hcur]; simpa using hc.1
      have s1 := mk.t.size
      have hlt3 : (k : Int) < (N : Int) := by omega
      go_wp2_with fail
      refine (mark_any _ _ _ (p k) gC _ _ (.inr ⟨rfl, bC⟩) lC n1 hx0 (by omega)).mono ?_
      rintro ee w1 ⟨rfl, t1, -⟩
      have hcur1 : w1.heap[B]? = some (.cells cur 86 (0, 0)) := by rw [t1.block B (lt_of_block hcur) (by omega)]; exact hcur
      have c1 : w1.cell? ⟨B, k * 3 + 1, none⟩ = some (.slice (some ⟨q k, 0, none⟩) gm gcap') := by
        simp only [World.cell?, hcur1]; simpa using hc.2
      have bD1 : OwnAt w1 (some ⟨q k, 0, none⟩) (q k) gD := OwnAt.touch (.inr ⟨rfl, bD⟩) t1 (by omega)
      clear c0
      go_wp2_with fail
      refine (mark_any _ _ _ (q k) gD _ _ bD1 lD m1 (by omega) (by omega)).mono ?_
      rintro ee w2 ⟨rfl, t2, -⟩
      have hcur2 : w2.heap[B]? = some (.cells cur 86 (0, 0)) := by rw [t2.block B (lt_of_block hcur1) (by omega)]; exact hcur1
      obtain ⟨v2, hv2⟩ : ∃ v, cur[k * 3 + 2]? = some v := ⟨cur[k * 3 + 2]'(by omega), by simp⟩
      have c2 : w2.cell? ⟨B, k * 3 + 2, none⟩ = some v2 := by
        simp only [World.cell?, hcur2]; simpa using hv2
      have f2 : w2.frozen? ⟨B, k * 3 + 2, none⟩ = false := by simp [World.frozen?, hcur2]
      have M2 : MK W B N s (k + 1) gs p q (w2.setCell ⟨B, k * 3 + 2, none⟩ (.int .i64 (x + gn + gm))) := by
        have T12 : Touch (fun y => B ≤ y ∧ y < s) W w2 := (mk.t.trans (t1.mono fun y hy => by omega)).trans (t2.mono fun y hy => by omega)
        refine ⟨⟨cur.setIfInBounds (k * 3 + 2) (.int .i64 (x + gn + gm)), heap_setCell_same w2 B (k * 3 + 2) cur _ _ hcur2, by simp [hsz], fun i hi => ?_⟩, fun i hi hiN => ?_, T12.setCell (B := B) ⟨Nat.le_refl _, by omega⟩ _⟩
        · rw [Array.getElem?_setIfInBounds_ne (by omega), Array.getElem?_setIfInBounds_ne (by omega)]
          exact hcells i hi
        · obtain ⟨o1, o2⟩ := mk.o i (by omega) hiN
          obtain ⟨j1, j2⟩ := HJ.out i hi hiN
          have e1 : Blk w2 (p i) (gs[i]?.getD noFV).C := by
            unfold Blk at *; rw [t2.block _ (Nat.lt_of_lt_of_le (lt_of_block o1) t1.size) (by omega), t1.block _ (lt_of_block o1) (by omega)]; exact o1
          have e2 : Blk w2 (q i) (gs[i]?.getD noFV).D := by
            unfold Blk at *; rw [t2.block _ (Nat.lt_of_lt_of_le (lt_of_block o2) t1.size) (by omega), t1.block _ (lt_of_block o2) (by omega)]; exact o2
          exact ⟨e1.setOther (by omega) _ _, e2.setOther (by omega) _ _⟩
      clear mk bC bD bD1 hcur hcur1 hcur2 hcells hc c1 t1 t2 hv2
      go_wp2
      go_roundw
      case rel => exact ⟨k + 1, by omega, by go_num, _, rfl, by omega, by omega, M2⟩
      case measure => simp [intOf]; omega
    · go_wp2
      go_ret
      exact ⟨x, rfl, hx0, mk.t⟩

end Go.Proofs.Ythhfjodggmmcoaa
