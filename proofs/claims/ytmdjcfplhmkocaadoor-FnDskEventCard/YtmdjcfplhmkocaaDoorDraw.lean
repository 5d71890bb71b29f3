/-
  What is drawn from bytes: numbers from 0 on, below a bound. Bytes at most 2000, at most 10000000 numbers drawn.
-/
import Derived.Test.YtmdjcfplhmkocaaDoorMarks
import Derived.Laws.BitsAllLaws
namespace Go.Proofs.YtmdjcfplhmkocaaDoor
open Go.RowKit
set_option linter.unusedVariables false

theorem i64_xor_nat (a b : Nat) (ha : a < 4294967296) (hb : b < 4294967296) : bits .xor .i64 (a : Int) (b : Int) = ((a ^^^ b : Nat) : Int) := by
  have hx : a ^^^ b < 2 ^ 32 := Nat.xor_lt_two_pow (by omega) (by omega)
  show IntKind.i64.wrap ((BitVec.ofInt 64 (a : Int) ^^^ BitVec.ofInt 64 (b : Int)).toNat : Int) = _
  rw [BitVec.toNat_xor, ofInt_u64 a (by omega), ofInt_u64 b (by omega), IntKind.wrap_i64]
  omega
theorem i64_xor_bnd (x y : Int) (h1 : 0 ≤ x) (h2 : x < 4294967296) (h3 : 0 ≤ y) (h4 : y < 4294967296) : 0 ≤ bits .xor .i64 x y ∧ bits .xor .i64 x y < 4294967296 := by
  obtain ⟨A, rfl⟩ := Int.eq_ofNat_of_zero_le h1
  obtain ⟨B, rfl⟩ := Int.eq_ofNat_of_zero_le h3
  have hx : A ^^^ B < 2 ^ 32 := Nat.xor_lt_two_pow (by omega) (by omega)
  rw [i64_xor_nat A B (by omega) (by omega)]
  omega

/-- A slice's first n cells hold these bytes. -/
def BInts (w : World) (a : Option Addr) (n : Nat) (bs : List Int) : Prop :=
  bs.length = n ∧ (∀ i, i < n → ∃ b off, a = some ⟨b, off, none⟩ ∧ w.cell? ⟨b, off + i, none⟩ = some (.int .u8 (bs.getD i 0))) ∧ ∀ i : Nat, 0 ≤ bs[i]?.getD 0 ∧ bs[i]?.getD 0 ≤ 255
theorem BInts.pos {w : World} {a : Option Addr} {n : Nat} {zs : List Int} (h : BInts w a n zs) (hn : 0 < n) :
    ∃ b off, a = some ⟨b, off, none⟩ ∧ ∀ i, i < n → w.cell? ⟨b, off + i, none⟩ = some (.int .u8 (zs.getD i 0)) := by
  obtain ⟨b, off, hab, _⟩ := h.2.1 0 hn
  refine ⟨b, off, hab, fun i hi => ?_⟩
  obtain ⟨b', off', hab', hc⟩ := h.2.1 i hi
  rw [hab] at hab'
  simp only [Option.some.injEq, Addr.mk.injEq, and_true] at hab'
  obtain ⟨rfl, rfl⟩ := hab'
  exact hc
theorem BInts.below {w w' : World} {a : Option Addr} {n : Nat} {zs : List Int} (h : BInts w a n zs) (hb : Below w.heap.size w w') : BInts w' a n zs := by
  refine ⟨h.1, fun i hi => ?_, h.2.2⟩
  obtain ⟨b, off, hab, hc⟩ := h.2.1 i hi
  exact ⟨b, off, hab, by rw [hb.cell (p := ⟨b, off + i, none⟩) (block_lt hc)]; exact hc⟩
theorem BInts.take {w : World} {a : Option Addr} {n : Nat} {zs : List Int} (h : BInts w a n zs) (k : Nat) (hk : k ≤ n) : BInts w a k (zs.take k) := by
  refine ⟨by rw [List.length_take, h.1]; omega, fun i hi => ?_, fun i => ?_⟩
  · obtain ⟨b, off, hab, hc⟩ := h.2.1 i (by omega)
    exact ⟨b, off, hab, by rw [hc]; simp [hi]⟩
  · have := h.2.2 i
    by_cases hi : i < k
    · rw [List.getElem?_take_of_lt hi]; exact this
    · rw [List.getElem?_eq_none (by rw [List.length_take]; omega)]; simp

/-- The reader in its block, beside the bytes. -/
structure Rd (w : World) (R : Nat) (a : Option Addr) (n cap : Nat) (bs : List Int) (p : Int) : Prop where
  c : Cel w R [.slice a n cap, .int .i64 p] 55
  b : BInts w a n bs
  hn : n ≤ 2000
  ne : 0 < n → ∀ b o, a = some ⟨b, o, none⟩ → b ≠ R

theorem Rd.below {w w' : World} {R : Nat} {a : Option Addr} {n cap : Nat} {bs : List Int} {p : Int} (h : Rd w R a n cap bs p) (b : Below w.heap.size w w') : Rd w' R a n cap bs p := ⟨h.c.below b, h.b.below b, h.hn, h.ne⟩

set_option maxHeartbeats 1600000 in
theorem pick_any (R : Nat) (a : Option Addr) (n cap : Nat) (bs : List Int) (p k : Int) (w : World) (hR : Rd w R a n cap bs p) (hp : 0 ≤ p) (hp1 : p ≤ 10000000) (hk : 1 ≤ k) (hk1 : k ≤ 1000) :
    Calls Tryd.prog 25 #[.pointer (some ⟨R, 0, none⟩), .int .i64 k] w fun e w' => ∃ r, 0 ≤ r ∧ r < k ∧ e = .returned (.int .i64 r) ∧ Touch (fun x => x = R) w w' ∧ Rd w' R a n cap bs (p + 1) := by
  obtain ⟨hc, hB, hn, hne⟩ := hR
  have c0 := hc.cell 0
  have c1 := hc.cell 1
  have c2 := hc.free 1
  simp only [List.getElem?_cons_zero, List.getElem?_cons_succ] at c0 c1
  have T1 : Touch (fun x => x = R) w (w.setCell ⟨R, 1, none⟩ (.int .i64 (p + 1))) := Touch.setCell (S := fun x => x = R) (Touch.refl _ w) (B := R) rfl _
  have R1 : Rd (w.setCell ⟨R, 1, none⟩ (.int .i64 (p + 1))) R a n cap bs (p + 1) := by
    refine ⟨hc.set 1 _, ⟨hB.1, fun i hi => ?_, hB.2.2⟩, hn, hne⟩
    obtain ⟨b, off, hab, hcc⟩ := hB.2.1 i hi
    exact ⟨b, off, hab, (World.cell?_of_block (Below.heap_setCell w ⟨R, 1, none⟩ _ b (hne (by omega) b off hab))).trans hcc⟩
  clear hc
  by_cases h0 : n = 0
  · subst h0
    go_enter Tryd.func25, Tryd.ntmps25
    go_wp2
    go_ret
    exact ⟨0, by omega, by omega, rfl, T1, R1⟩
  · obtain ⟨b, off, rfl, hcell⟩ := hB.pos (by omega)
    have hbR : ¬ b = R := hne (by omega) b off rfl
    have hbR' : ¬ R = b := fun h => hbR h.symm
    obtain ⟨q, rfl⟩ := Int.eq_ofNat_of_zero_le hp
    have hn0 : ((n : Int) == 0) = false := by simp; omega
    by_cases hq : q < n
    · have hq' : (q : Int) < (n : Int) := by omega
      have hx := hcell q hq
      obtain ⟨x1, x2⟩ := hB.2.2 q
      clear hcell hB
      go_enter Tryd.func25, Tryd.ntmps25
      go_wp2
      go_ret
      exact ⟨_, Int.emod_nonneg _ (by omega), Int.emod_lt_of_pos _ (by omega), rfl, T1, R1⟩
    · have hq' : ¬ (q : Int) < (n : Int) := by omega
      have hnz : ¬ (n : Int) = 0 := by omega
      have hkz : ¬ k = 0 := by omega
      obtain ⟨i, hi⟩ : ∃ i : Nat, (q : Int) % (n : Int) = i := ⟨((q : Int) % (n : Int)).toNat, by have := Int.emod_nonneg (q : Int) hnz; omega⟩
      obtain ⟨j, hj⟩ : ∃ j : Nat, ((q : Int) * 7 + 3) % (n : Int) = j := ⟨(((q : Int) * 7 + 3) % (n : Int)).toNat, by have := Int.emod_nonneg ((q : Int) * 7 + 3) hnz; omega⟩
      have hi1 : (i : Int) < n := by rw [← hi]; exact Int.emod_lt_of_pos _ (by omega)
      have hj1 : (j : Int) < n := by rw [← hj]; exact Int.emod_lt_of_pos _ (by omega)
      have hx := hcell i (by omega)
      have hy := hcell j (by omega)
      obtain ⟨x1, x2⟩ := hB.2.2 i
      obtain ⟨x3, x4⟩ := hB.2.2 j
      have d1 : 0 ≤ (q : Int) / (n : Int) := Int.ediv_nonneg (by omega) (by omega)
      have d2 : (q : Int) / (n : Int) ≤ q := Int.ediv_le_self _ (by omega)
      clear hcell hB
      go_enter Tryd.func25, Tryd.ntmps25
      go_wp2_with fail
      go_quiet (fail)
      go_wp2
      go_ret
      have X1 : 0 ≤ bs[i]?.getD 0 * 131 + bs[j]?.getD 0 * 1117 + (q : Int) * 29 + (q : Int) / (n : Int) * 53 := by omega
      have X2 : bs[i]?.getD 0 * 131 + bs[j]?.getD 0 * 1117 + (q : Int) * 29 + (q : Int) / (n : Int) * 53 < 4294967296 := by omega
      have X3 := i64_xor_bnd _ ((bs[i]?.getD 0 * 131 + bs[j]?.getD 0 * 1117 + (q : Int) * 29 + (q : Int) / (n : Int) * 53) / 64) X1 (by omega) (by omega) (by omega)
      have bd := below_drewN (Below.refl (w.setCell ⟨R, 1, none⟩ (.int .i64 ((q : Int) + 1))).heap.size (w.setCell ⟨R, 1, none⟩ (.int .i64 ((q : Int) + 1))))
      exact ⟨_, Int.tmod_nonneg _ X3.1, Int.tmod_lt_of_pos _ (by omega), rfl, T1.trans (Touch.of (bd _)), R1.below (bd _)⟩

theorem Rd.touch {S : Nat → Prop} {w w' : World} {R : Nat} {a : Option Addr} {n cap : Nat} {bs : List Int} {p : Int} (h : Rd w R a n cap bs p) (t : Touch S w w') (hR : ¬ S R) (hS : 0 < n → ∀ b o, a = some ⟨b, o, none⟩ → ¬ S b) : Rd w' R a n cap bs p := by
  refine ⟨h.c.touch t hR, ⟨h.b.1, fun i hi => ?_, h.b.2.2⟩, h.hn, h.ne⟩
  obtain ⟨b, off, hab, hcc⟩ := h.b.2.1 i hi
  exact ⟨b, off, hab, (World.cell?_of_block (t.block b (block_lt hcc) (hS (by omega) b off hab))).trans hcc⟩

set_option maxHeartbeats 400000 in
theorem open_any (a : Option Addr) (n cap : Nat) (bs : List Int) (w : World) (h : BInts w a n bs) (hn : n ≤ cap) (hn1 : n ≤ 1048576) (hc : cap ≤ maxLen) :
    Calls Tryd.prog 13 #[.slice a n cap] w fun e w' => ∃ R n' cap2 bs', e = .returned (.pointer (some ⟨R, 0, none⟩)) ∧ Below w.heap.size w w' ∧ w.heap.size ≤ R ∧ Rd w' R a n' cap2 bs' 0 := by
  have key : ∀ k, k ≤ n → k ≤ 2000 → ∀ cap2 : Nat, Rd (w.alloc (.cells #[.slice a k cap2, .int .i64 0] 55)) w.heap.size a k cap2 (bs.take k) 0 := by
    intro k hk hk2 cap2
    refine ⟨Cel.new w _ _, (h.take k hk).below ((Below.refl _ _).alloc (Nat.le_refl _) _), hk2, fun h0 b o hab => ?_⟩
    obtain ⟨b', o', hab', hcc⟩ := h.2.1 0 (by omega)
    rw [hab] at hab'
    simp only [Option.some.injEq, Addr.mk.injEq, and_true] at hab'
    have := block_lt hcc
    omega
  unfold maxLen at hc
  by_cases h2 : n ≤ 2000
  · go_enter Tryd.func13, Tryd.ntmps13
    go_wp2
    go_ret
    exact ⟨_, n, cap, _, rfl, (Below.refl _ _).alloc (Nat.le_refl _) _, Nat.le_refl _, key n (Nat.le_refl _) h2 cap⟩
  · obtain ⟨b, off, rfl, hcell⟩ := h.pos (by omega)
    go_enter Tryd.func13, Tryd.ntmps13
    go_wp2
    go_ret
    exact ⟨_, 2000, cap, _, rfl, (Below.refl _ _).alloc (Nat.le_refl _) _, Nat.le_refl _, key 2000 (by omega) (by omega) cap⟩

end Go.Proofs.YtmdjcfplhmkocaaDoor
