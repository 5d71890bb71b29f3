/-
  Forms that are drawn: what the drawing functions make, block by block.
-/
import Derived.Test.YtemcinobgdphnaaDraw
import Derived.Test.YtemcinobgdphnaaPots
import Derived.Test.YtemcinobgdphnaaKeyed
import Derived.Deep.DeepCutAuto
namespace Go.Proofs.Ytemcinobgdphnaa
open Go.RowKit
set_option linter.unusedVariables false
set_option maxRecDepth 100000

/-- A form of the common lengths, in two blocks of its own. -/
structure F32 (w : World) (lo B1 B2 : Nat) (C D : List Int) : Prop where
  k1 : Blk w B1 C
  k2 : Blk w B2 D
  l1 : C.length = 3
  l2 : D.length = 2
  b1 : lo ≤ B1
  b2 : lo ≤ B2
  ne : B1 ≠ B2
theorem F32.below {w w' : World} {lo B1 B2 : Nat} {C D : List Int} (h : F32 w lo B1 B2 C D) (b : Below w.heap.size w w') : F32 w' lo B1 B2 C D := ⟨h.k1.below b, h.k2.below b, h.l1, h.l2, h.b1, h.b2, h.ne⟩
theorem F32.setOther {w : World} {lo B1 B2 X : Nat} {C D : List Int} (h : F32 w lo B1 B2 C D) (h1 : B1 ≠ X) (h2 : B2 ≠ X) (i : Nat) (v : Value) : F32 (w.setCell ⟨X, i, none⟩ v) lo B1 B2 C D := ⟨h.k1.setOther h1 _ _, h.k2.setOther h2 _ _, h.l1, h.l2, h.b1, h.b2, h.ne⟩
theorem F32.setD {w : World} {lo B1 B2 : Nat} {C D : List Int} (h : F32 w lo B1 B2 C D) (i : Nat) (x : Int) : F32 (w.setCell ⟨B2, i, none⟩ (.int .i64 x)) lo B1 B2 C (D.set i x) := ⟨h.k1.setOther h.ne _ _, h.k2.set i x, h.l1, by rw [List.length_set]; exact h.l2, h.b1, h.b2, h.ne⟩
theorem F32.setC {w : World} {lo B1 B2 : Nat} {C D : List Int} (h : F32 w lo B1 B2 C D) (i : Nat) (x : Int) : F32 (w.setCell ⟨B1, i, none⟩ (.int .i64 x)) lo B1 B2 (C.set i x) D := ⟨h.k1.set i x, h.k2.setOther (fun e => h.ne e.symm) _ _, by rw [List.length_set]; exact h.l1, h.l2, h.b1, h.b2, h.ne⟩
theorem F32.mono {w : World} {lo lo' B1 B2 : Nat} {C D : List Int} (h : F32 w lo B1 B2 C D) (hl : lo' ≤ lo) : F32 w lo' B1 B2 C D := ⟨h.k1, h.k2, h.l1, h.l2, Nat.le_trans hl h.b1, Nat.le_trans hl h.b2, h.ne⟩
theorem szero_f (w : World) : Calls Try.prog 79 #[] w fun e w' => ∃ B1 B2, e = .returned (formV (some ⟨B1, 0, none⟩) 3 3 (some ⟨B2, 0, none⟩) 2 2 0) ∧ Below w.heap.size w w' ∧ F32 w' w.heap.size B1 B2 [0, 0, 0] [0, 0] :=
  (szero_any w).mono fun e w' ⟨B1, B2, he, hb, h1, h2, h3, k1, k2⟩ => ⟨B1, B2, he, hb, k1, k2, rfl, rfl, h1, h3, h2⟩

set_option maxHeartbeats 1600000 in
theorem num_f (a b k : Int) (w : World) : Calls Try.prog 84 #[.int .i64 a, .int .i64 b, .int .i64 k] w fun e w' => ∃ B1 B2, e = .returned (formV (some ⟨B1, 0, none⟩) 3 3 (some ⟨B2, 0, none⟩) 2 2 k) ∧ Below w.heap.size w w' ∧ F32 w' w.heap.size B1 B2 [0, 0, 0] [a, b] := by
  have bx := Cel.new w [.slice none 0 0, .slice none 0 0, .int .i64 0] 34
  have B0 := (Below.refl w.heap.size w).alloc (Nat.le_refl _) (.cells #[.slice none 0 0, .slice none 0 0, .int .i64 0] 34)
  go_enter Try.func84, Try.ntmps84
  go_wp2_with fail
  refine (szero_f _).mono ?_
  rintro e w1 ⟨B1, B2, rfl, b1, f1⟩
  have al := (Below.refl w1.heap.size w1).alloc (Nat.le_refl _) (.cells #[.slice (some ⟨B1, 0, none⟩) 3 3, .slice (some ⟨B2, 0, none⟩) 2 2, .int .i64 0] 34)
  have b2 := b1.trans (al.mono b1.size)
  have bx2 := bx.below b2
  have BW := B0.trans (b2.mono B0.size)
  have f2 := f1.below al
  have cb := Cel.new w1 [.slice (some ⟨B1, 0, none⟩) 3 3, .slice (some ⟨B2, 0, none⟩) 2 2, .int .i64 0] 34
  have z1 := f1.b1
  have z2 := f1.b2
  rw [World.size_alloc] at z1 z2
  have lt1 := f1.k1.lt
  have lt2 := f1.k2.lt
  obtain ⟨W1, hW1⟩ : ∃ W, W = w1.alloc (.cells #[.slice (some ⟨B1, 0, none⟩) 3 3, .slice (some ⟨B2, 0, none⟩) 2 2, .int .i64 0] 34) := ⟨_, rfl⟩
  have hbw := bx.lt
  have hlw : w.heap.size < w1.heap.size := (bx.below b1).lt
  go_upto_region 2 with fail
  rw [← hW1] at bx2 BW f2 cb ⊢
  clear hW1 bx B0 b1 al b2 f1
  have c0 := cb.cell 0
  have c1 := cb.cell 1
  have c2 := cb.cell 2
  simp only [List.getElem?_cons_zero, List.getElem?_cons_succ] at c0 c1 c2
  have d0 := f2.k2.cell 0 (by decide)
  have d1 := f2.k2.cell 1 (by decide)
  have e0 := f2.k2.free 0
  have e1 := f2.k2.free 1
  have q2 := cb.free 2
  have r0 := bx2.cell 0
  have r1 := bx2.cell 1
  have r2 := bx2.cell 2
  have g0 := bx2.free 0
  have g1 := bx2.free 1
  have g2 := bx2.free 2
  simp only [List.getElem?_cons_zero, List.getElem?_cons_succ] at r0 r1 r2
  have lt3 := bx2.lt
  have lt4 := cb.lt
  have lt5 := f2.k2.lt
  have n1 : ¬ B2 = w1.heap.size := by omega
  have n2 : ¬ B2 = w.heap.size := by omega
  have n3 : ¬ w1.heap.size = w.heap.size := by omega
  have n4 : ¬ w1.heap.size = B2 := by omega
  have n5 : ¬ w.heap.size = B2 := by omega
  have n6 : ¬ w.heap.size = w1.heap.size := by omega
  go_wp2
  refine bodyPost_ret (v := formV (some ⟨B1, 0, none⟩) 3 3 (some ⟨B2, 0, none⟩) 2 2 k) (by simp [results, Try.results84, go_sem, r0, r1, r2]) rfl ⟨B1, B2, rfl, ?_, ?_⟩
  · exact (((((BW.setCell (p := ⟨B2, 0, none⟩) (by show w.heap.size ≤ B2; omega) _).setCell (p := ⟨B2, 1, none⟩) (by show w.heap.size ≤ B2; omega) _).setCell (p := ⟨w1.heap.size, 2, none⟩) (by show w.heap.size ≤ w1.heap.size; omega) _).setCell (Nat.le_refl _) _).setCell (Nat.le_refl _) _).setCell (Nat.le_refl _) _
  · have m1 : B1 ≠ w1.heap.size := by omega
    have m2 : B1 ≠ w.heap.size := by omega
    exact ((((((f2.setD 0 a).setD 1 b).setOther m1 n1 2 _).setOther m2 n2 0 _).setOther m2 n2 1 _).setOther m2 n2 2 _).mono (by rw [World.size_alloc]; omega)

theorem Touch.setNewF {S : Nat → Prop} {w W : World} (h : Touch S w W) {B : Nat} (hB : w.heap.size ≤ B) (i : Nat) (v : Value) : Touch S w (W.setCell ⟨B, i, none⟩ v) :=
  ⟨h.os, h.tape, h.output, by rw [size_setCell]; exact h.size, fun k hk hs => by rw [Below.heap_setCell _ _ _ _ (by simp only []; omega)]; exact h.block k hk hs⟩

set_option maxHeartbeats 1600000 in
theorem with_f (B1 B2 v : Nat) (x K : Int) (lo : Nat) (C D : List Int) (w : World) (hf : F32 w lo B1 B2 C D) (hv : v < 3) :
    Calls Try.prog 83 #[formV (some ⟨B1, 0, none⟩) 3 3 (some ⟨B2, 0, none⟩) 2 2 K, .int .i64 v, .int .i64 x] w fun e w' => e = .returned (formV (some ⟨B1, 0, none⟩) 3 3 (some ⟨B2, 0, none⟩) 2 2 K) ∧ Touch (fun z => z = B1) w w' ∧ F32 w' lo B1 B2 (C.set v x) D := by
  have lt1 := hf.k1.lt
  have lt2 := hf.k2.lt
  have al := ((Below.refl w.heap.size w).alloc (Nat.le_refl _) (.cells #[.slice (some ⟨B1, 0, none⟩) 3 3, .slice (some ⟨B2, 0, none⟩) 2 2, .int .i64 K] 34)).alloc (by simp) (.cells #[.slice none 0 0, .slice none 0 0, .int .i64 0] 34)
  have pb := (Cel.new w [.slice (some ⟨B1, 0, none⟩) 3 3, .slice (some ⟨B2, 0, none⟩) 2 2, .int .i64 K] 34).alloc (.cells #[.slice none 0 0, .slice none 0 0, .int .i64 0] 34)
  have rb := Cel.new (w.alloc (.cells #[.slice (some ⟨B1, 0, none⟩) 3 3, .slice (some ⟨B2, 0, none⟩) 2 2, .int .i64 K] 34)) [.slice none 0 0, .slice none 0 0, .int .i64 0] 34
  rw [World.size_alloc] at rb
  have f2 := hf.below al
  obtain ⟨W1, hW1⟩ : ∃ W, W = (w.alloc (.cells #[.slice (some ⟨B1, 0, none⟩) 3 3, .slice (some ⟨B2, 0, none⟩) 2 2, .int .i64 K] 34)).alloc (.cells #[.slice none 0 0, .slice none 0 0, .int .i64 0] 34) := ⟨_, rfl⟩
  have hv3 : (v : Int) < 3 := by omega
  go_enter Try.func83, Try.ntmps83
  go_upto_region 1 with fail
  rw [← hW1] at al pb rb f2 ⊢
  clear hW1 hf
  have c0 := pb.cell 0
  have c1 := pb.cell 1
  have c2 := pb.cell 2
  have r0 := rb.cell 0
  have r1 := rb.cell 1
  have r2 := rb.cell 2
  have g0 := rb.free 0
  have g1 := rb.free 1
  have g2 := rb.free 2
  simp only [List.getElem?_cons_zero, List.getElem?_cons_succ] at c0 c1 c2 r0 r1 r2
  have d0 := f2.k1.cell v (by rw [f2.l1]; exact hv)
  have e0 := f2.k1.free v
  have lt3 := pb.lt
  have lt4 := rb.lt
  have lt5 := f2.k1.lt
  have n1 : ¬ B1 = w.heap.size := by omega
  have n2 : ¬ B1 = w.heap.size + 1 := by omega
  have n3 : ¬ w.heap.size = B1 := by omega
  have n4 : ¬ w.heap.size + 1 = B1 := by omega
  go_wp2
  refine bodyPost_ret (v := formV (some ⟨B1, 0, none⟩) 3 3 (some ⟨B2, 0, none⟩) 2 2 K) (by simp [results, Try.results83, go_sem, r0, r1, r2]) rfl ⟨rfl, ?_, ?_⟩
  · have t1 : Touch (fun z => z = B1) w (W1.setCell ⟨B1, v, none⟩ (.int .i64 x)) := Touch.setCell (S := fun z => z = B1) (Touch.of al) rfl _
    exact ((t1.setNewF (B := w.heap.size + 1) (by omega) 0 _).setNewF (B := w.heap.size + 1) (by omega) 1 _).setNewF (B := w.heap.size + 1) (by omega) 2 _
  · have m1 : B1 ≠ w.heap.size + 1 := n2
    have m2 : B2 ≠ w.heap.size + 1 := by omega
    exact (((f2.setC v x).setOther m1 m2 0 _).setOther m1 m2 1 _).setOther m1 m2 2 _

end Go.Proofs.Ytemcinobgdphnaa
