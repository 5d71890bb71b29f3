/-
  Forms that are drawn: what the drawing functions make, block by block.
-/
import Derived.Test.YtmdjcfplhmkocaaDoorDraw
import Derived.Test.YtmdjcfplhmkocaaDoorPots
import Derived.Test.YtmdjcfplhmkocaaDoorKeyed
import Derived.Deep.DeepCutAuto
namespace Go.Proofs.YtmdjcfplhmkocaaDoor
open Go.RowKit
set_option linter.unusedVariables false
set_option maxRecDepth 100000

/-- A form of the common lengths, in two blocks of its own. -/
structure F32 (w : World) (lo B1 B2 : Nat) (C D : List Int) : Prop where
  k1 : Blk w B1 C
  k2 : Blk w B2 D
  l1 : C.length = 3
  l2 : D.length = 2
  b1 : lo ≤ B1
  b2 : lo ≤ B2
  ne : B1 ≠ B2
theorem F32.below {w w' : World} {lo B1 B2 : Nat} {C D : List Int} (h : F32 w lo B1 B2 C D) (b : Below w.heap.size w w') : F32 w' lo B1 B2 C D := ⟨h.k1.below b, h.k2.below b, h.l1, h.l2, h.b1, h.b2, h.ne⟩
theorem F32.setOther {w : World} {lo B1 B2 X : Nat} {C D : List Int} (h : F32 w lo B1 B2 C D) (h1 : B1 ≠ X) (h2 : B2 ≠ X) (i : Nat) (v : Value) : F32 (w.setCell ⟨X, i, none⟩ v) lo B1 B2 C D := ⟨h.k1.setOther h1 _ _, h.k2.setOther h2 _ _, h.l1, h.l2, h.b1, h.b2, h.ne⟩
theorem F32.setD {w : World} {lo B1 B2 : Nat} {C D : List Int} (h : F32 w lo B1 B2 C D) (i : Nat) (x : Int) : F32 (w.setCell ⟨B2, i, none⟩ (.int .i64 x)) lo B1 B2 C (D.set i x) := ⟨h.k1.setOther h.ne _ _, h.k2.set i x, h.l1, by rw [List.length_set]; exact h.l2, h.b1, h.b2, h.ne⟩
theorem F32.setC {w : World} {lo B1 B2 : Nat} {C D : List Int} (h : F32 w lo B1 B2 C D) (i : Nat) (x : Int) : F32 (w.setCell ⟨B1, i, none⟩ (.int .i64 x)) lo B1 B2 (C.set i x) D := ⟨h.k1.set i x, h.k2.setOther (fun e => h.ne e.symm) _ _, by rw [List.length_set]; exact h.l1, h.l2, h.b1, h.b2, h.ne⟩
theorem F32.mono {w : World} {lo lo' B1 B2 : Nat} {C D : List Int} (h : F32 w lo B1 B2 C D) (hl : lo' ≤ lo) : F32 w lo' B1 B2 C D := ⟨h.k1, h.k2, h.l1, h.l2, Nat.le_trans hl h.b1, Nat.le_trans hl h.b2, h.ne⟩

theorem Touch.setNewF {S : Nat → Prop} {w W : World} (h : Touch S w W) {B : Nat} (hB : w.heap.size ≤ B) (i : Nat) (v : Value) : Touch S w (W.setCell ⟨B, i, none⟩ v) :=
  ⟨h.os, h.tape, h.output, by rw [size_setCell]; exact h.size, fun k hk hs => by rw [Below.heap_setCell _ _ _ _ (by simp only []; omega)]; exact h.block k hk hs⟩

end Go.Proofs.YtmdjcfplhmkocaaDoor
