/-
  What a round of a loop over rows may touch, and what it leaves. No condition.
-/
import Derived.Test.YthhfjodggmmcoaaMarkP2
import Derived.Test.YthhfjodggmmcoaaRowsY
namespace Go.Proofs.Ythhfjodggmmcoaa
open Go.RowKit Go.Deep
set_option linter.unusedVariables false
set_option maxRecDepth 100000

/-- A block that a round may touch: no cells, or bools or rows, and no numbers. -/
def Loose (o : Option Obj) : Prop := ∀ cs t fr, o = some (.cells cs t fr) → (t = 4 ∨ t = 94) ∧ ∀ (i : Nat) q, cs[i]? ≠ some (.int .i64 q)
/-- What a round leaves. -/
def KpR (X Y : World) : Prop := Touch (fun k => Loose X.heap[k]?) X Y
theorem KpR.refl (X : World) : KpR X X := Touch.refl _ _
theorem KpR.of {X Y : World} (h : Below X.heap.size X Y) : KpR X Y := Touch.of h
theorem KpR.trans {X Y Z : World} (h : KpR X Y) (k : KpR Y Z) : KpR X Z :=
  ⟨k.os.trans h.os, k.tape.trans h.tape, k.output.trans h.output, Nat.le_trans h.size k.size, fun i hi hn => by
    have e := h.block i hi hn
    rw [k.block i (Nat.lt_of_lt_of_le hi h.size) (fun hl => hn (by rw [e] at hl; exact hl))]
    exact e⟩
theorem KpR.loop (X : World) (l : Nat) (r r' : Loop) (h : X.heap[l]? = some (.loop r)) : KpR X (X.putObj l (.loop r')) := by
  refine ⟨rfl, rfl, rfl, by simp [World.putObj], fun k hk hn => ?_⟩
  by_cases e : k = l
  · subst e
    exact absurd (fun cs t fr hh => by rw [h] at hh; cases hh) hn
  · exact World.putObj_heap_other e
theorem not_loose {X : World} {b o : Nat} {q : Int} (h : X.cell? ⟨b, o, none⟩ = some (.int .i64 q)) : ¬ Loose X.heap[b]? := fun hl => by
  simp only [World.cell?] at h
  split at h
  · rename_i c t fr hh
    have := (hl _ _ _ hh).2 o q
    simp at h
    exact this (by simpa using h)
  · cases h
theorem Ints.keepR {X Y : World} {a : Option Addr} {n : Nat} {zs : List Int} (h : Ints X a n zs) (k : KpR X Y) : Ints Y a n zs := by
  refine ⟨h.1, fun i hi => ?_⟩
  obtain ⟨b, off, e, hc⟩ := h.2 i hi
  refine ⟨b, off, e, ?_⟩
  rw [World.cell?_of_block (k.block b (block_lt hc) (not_loose hc))]; exact hc
theorem FormsAt.keepR {X Y : World} {a : Option Addr} {fs : List Frm} (h : FormsAt X a fs) (k : KpR X Y) : FormsAt Y a fs := fun i hi => by
  obtain ⟨b, off, e, a', c', ca, cc, c0, c1, c2, iC, iD⟩ := h i hi
  have hb := k.block b (block_lt c0) (not_loose c2)
  exact ⟨b, off, e, a', c', ca, cc, by rw [World.cell?_of_block hb]; exact c0, by rw [World.cell?_of_block hb]; exact c1, by rw [World.cell?_of_block hb]; exact c2, iC.keepR k, iD.keepR k⟩
theorem Cel.keepR {X Y : World} {B : Nat} {vs : List Value} {t : TypeId} (h : Cel X B vs t) (k : KpR X Y) (h1 : t ≠ 4) (h2 : t ≠ 94) : Cel Y B vs t := by
  have hl := h.lt
  unfold Cel at *
  rw [k.block B hl (fun hl => by rcases (hl _ _ _ h).1 with e | e <;> contradiction)]; exact h

end Go.Proofs.Ythhfjodggmmcoaa
