/-
  Slices of forms: their size, copies, one held against another.
-/
import Derived.Test.YtmhhphpihnkfpaaDoorAdd
namespace Go.Proofs.YtmhhphpihnkfpaaDoor
open Go.RowKit
set_option linter.unusedVariables false

/-- A slice of forms that came in, of any lengths. -/
def FormsM (w : World) (ad : Option Addr) (fs : List FV) : Prop :=
  ∀ i, i < fs.length → ∃ b off, ad = some ⟨b, off, none⟩ ∧ w.cell? ⟨b, off + i * 3, none⟩ = some (.slice (fs[i]?.getD noFV).a (fs[i]?.getD noFV).n (fs[i]?.getD noFV).cap) ∧ w.cell? ⟨b, off + i * 3 + 1, none⟩ = some (.slice (fs[i]?.getD noFV).c (fs[i]?.getD noFV).m (fs[i]?.getD noFV).cap') ∧ w.cell? ⟨b, off + i * 3 + 2, none⟩ = some (.int .i64 (fs[i]?.getD noFV).K) ∧
    Ints w (fs[i]?.getD noFV).a (fs[i]?.getD noFV).n (fs[i]?.getD noFV).C ∧ Ints w (fs[i]?.getD noFV).c (fs[i]?.getD noFV).m (fs[i]?.getD noFV).D ∧ (fs[i]?.getD noFV).n ≤ maxLen ∧ (fs[i]?.getD noFV).m ≤ maxLen
theorem FormsM.below {w w' : World} {ad : Option Addr} {fs : List FV} (h : FormsM w ad fs) (hb : Below w.heap.size w w') : FormsM w' ad fs := by
  intro i hi
  obtain ⟨b, off, e, e0, e1, e2, e3, e4, e5⟩ := h i hi
  exact ⟨b, off, e, (hb.cell (p := ⟨b, off + i * 3, none⟩) (block_lt e0)).trans e0, (hb.cell (p := ⟨b, off + i * 3 + 1, none⟩) (block_lt e0)).trans e1, (hb.cell (p := ⟨b, off + i * 3 + 2, none⟩) (block_lt e0)).trans e2, e3.below hb, e4.below hb, e5⟩
theorem FormsM.g {w : World} {ad : Option Addr} {fs : List FV} (h : FormsM w ad fs) (hs : ∀ i, i < fs.length → (fs[i]?.getD noFV).n ≤ 1048576 ∧ (fs[i]?.getD noFV).m ≤ 1048576) : FormsG w ad fs := by
  intro i hi
  obtain ⟨b, off, e, e0, e1, e2, e3, e4, e5⟩ := h i hi
  exact ⟨b, off, e, e0, e1, e2, ⟨e3, e4, (hs i hi).1, (hs i hi).2⟩⟩

end Go.Proofs.YtmhhphpihnkfpaaDoor
