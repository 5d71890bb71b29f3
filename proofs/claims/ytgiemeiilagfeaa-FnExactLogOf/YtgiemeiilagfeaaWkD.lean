/-
  Slices of what was done, as the laws' own copies lie: marked; every list stays a list as long as it was, whatever it holds. At most 1048576 of them.
-/
import Derived.Test.YtgiemeiilagfeaaDonS
import Derived.Test.YtgiemeiilagfeaaMarks
namespace Go.Proofs.Ytgiemeiilagfeaa
open Go.RowKit Go.Deep
set_option linter.unusedVariables false
set_option maxRecDepth 100000

/-- A list of n numbers in block b. -/
def WkI (W : World) (b n : Nat) : Prop := ∃ x : List Int, x.length = n ∧ Blk W b x
/-- Behind marks: lists stay lists, other cells stay, but for the blocks of Bs; nothing below lo is touched. -/
structure Mkd (Bs : Nat → Prop) (lo : Nat) (w w' : World) : Prop where
  i : ∀ b n, WkI w b n → WkI w' b n
  c : ∀ b cs ty, w.heap[b]? = some (.cells cs ty (0, 0)) → ty ≠ 3 → ¬ Bs b → w'.heap[b]? = w.heap[b]?
  t : Touch (fun x => lo ≤ x) w w'
theorem Mkd.refl (Bs : Nat → Prop) (lo : Nat) (w : World) : Mkd Bs lo w w := ⟨fun _ _ h => h, fun _ _ _ _ _ _ => rfl, Touch.refl _ _⟩
theorem Mkd.trans {Bs : Nat → Prop} {lo : Nat} {w w1 w2 : World} (h : Mkd Bs lo w w1) (h' : Mkd Bs lo w1 w2) : Mkd Bs lo w w2 :=
  ⟨fun b n x => h'.i b n (h.i b n x), fun b cs ty e n1 n2 => (h'.c b cs ty ((h.c b cs ty e n1 n2).trans e) n1 n2).trans (h.c b cs ty e n1 n2), h.t.trans h'.t⟩
theorem Mkd.mono {Bs Bs' : Nat → Prop} {lo lo' : Nat} {w w' : World} (h : Mkd Bs lo w w') (hB : ∀ b, Bs b → Bs' b) (hl : lo' ≤ lo) : Mkd Bs' lo' w w' :=
  ⟨h.i, fun b cs ty e n1 n2 => h.c b cs ty e n1 (fun x => n2 (hB b x)), h.t.mono fun y hy => by have hy : lo ≤ y := hy; omega⟩
theorem Mkd.cel {Bs : Nat → Prop} {lo : Nat} {w w' : World} (h : Mkd Bs lo w w') {b : Nat} {vs : List Value} {ty : TypeId} (hc : Cel w b vs ty) (h1 : ty ≠ 3) (h2 : ¬ Bs b) : Cel w' b vs ty := (h.c b _ ty hc h1 h2).trans hc
theorem Mkd.below {Bs : Nat → Prop} {lo : Nat} {w w' : World} (b : Below w.heap.size w w') : Mkd Bs lo w w' :=
  ⟨fun x n ⟨y, h1, h2⟩ => ⟨y, h1, h2.below b⟩, fun x cs ty e _ _ => by rw [b.block x (lt_of_block e)], Touch.of b⟩
/-- A list is marked. -/
theorem Mkd.list {Bs : Nat → Prop} {lo : Nat} {w w' : World} {B n : Nat} (hlo : lo ≤ B) (h : WkI w B n) (t : Touch (fun x => x = B ∧ 0 < n) w w') (h' : WkI w' B n) : Mkd Bs lo w w' := by
  obtain ⟨y, ly, hy⟩ := h
  refine ⟨fun b m ⟨x, lx, hx⟩ => ?_, fun b cs ty e n1 _ => ?_, t.mono fun z hz => by have := hz.1; omega⟩
  · by_cases e : b = B
    · subst e
      have : m = n := by
        unfold Blk at hx hy
        rw [hx] at hy
        simp only [Option.some.injEq, Obj.cells.injEq, and_true] at hy
        have h1 := congrArg Array.size hy
        simp only [List.size_toArray, List.length_map] at h1
        omega
      rw [this]
      exact h'
    · exact ⟨x, lx, by unfold Blk at hx ⊢; rw [t.block b (lt_of_block hx) (fun s => e s.1)]; exact hx⟩
  · by_cases e2 : b = B
    · subst e2
      unfold Blk at hy
      rw [hy] at e
      simp only [Option.some.injEq, Obj.cells.injEq] at e
      exact absurd e.2.1.symm n1
    · rw [t.block b (lt_of_block e) (fun s => e2 s.1)]
/-- A struct's cell is marked. -/
theorem Mkd.cell {Bs : Nat → Prop} {lo : Nat} {w : World} {B : Nat} {vs : List Value} {ty : TypeId} (hlo : lo ≤ B) (hB : Bs B) (hc : Cel w B vs ty) (hty : ty ≠ 3) (i : Nat) (v : Value) : Mkd Bs lo w (w.setCell ⟨B, i, none⟩ v) := by
  have t : Touch (fun x => x = B) w (w.setCell ⟨B, i, none⟩ v) := (Touch.refl (fun x => x = B) w).setCell rfl _
  refine ⟨fun b m ⟨x, lx, hx⟩ => ?_, fun b cs ty' e n1 n2 => ?_, t.mono fun z hz => by have hz : z = B := hz; omega⟩
  · have e : b ≠ B := fun e => by
      subst e
      unfold Blk at hx
      unfold Cel at hc
      rw [hx] at hc
      simp only [Option.some.injEq, Obj.cells.injEq] at hc
      exact hty hc.2.1.symm
    exact ⟨x, lx, by unfold Blk at hx ⊢; rw [t.block b (lt_of_block hx) e]; exact hx⟩
  · rw [t.block b (lt_of_block e) (fun s => n2 (by have s : b = B := s; rw [s]; exact hB))]

end Go.Proofs.Ytgiemeiilagfeaa
