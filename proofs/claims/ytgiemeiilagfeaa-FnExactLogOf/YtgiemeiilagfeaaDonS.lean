/-
  Slices of what was done for clients: the size, a copy, one held against another, an argument that is one. Lengths at most 1048576 where one is copied.
-/
import Derived.Test.YtgiemeiilagfeaaDonE
namespace Go.Proofs.Ytgiemeiilagfeaa
open Go.ChangeShapes Go.WideShapes Go.ChangeAt Go.RowKit Go.Joins Go.Deep
set_option linter.unusedVariables false
set_option maxRecDepth 100000

/-- A slice of them that came in. -/
def DSM (w : World) (ad : Option Addr) (fs : List DV) : Prop :=
  ∀ i, i < fs.length → ∃ b off, ad = some ⟨b, off, none⟩ ∧ (∀ r, r < 3 → w.cell? ⟨b, off + i * 3 + r, none⟩ = (fs[i]?.getD noD).cs[r]?) ∧ DM w (fs[i]?.getD noD)
theorem DSM.below {w w' : World} {ad : Option Addr} {fs : List DV} (h : DSM w ad fs) (hb : Below w.heap.size w w') : DSM w' ad fs := fun i hi => by
  obtain ⟨b, off, e, hc, hr⟩ := h i hi
  have hl : b < w.heap.size := block_lt (v := ((fs[i]?.getD noD).cs[0]?).getD (.bool false)) ((hc 0 (by omega)).trans rfl)
  exact ⟨b, off, e, fun r hr => by rw [hb.cell (p := ⟨b, off + i * 3 + r, none⟩) hl]; exact hc r hr, hr.below hb⟩
/-- One that may be copied. -/
def DSG (w : World) (ad : Option Addr) (fs : List DV) : Prop :=
  ∀ i, i < fs.length → ∃ b off, ad = some ⟨b, off, none⟩ ∧ (∀ r, r < 3 → w.cell? ⟨b, off + i * 3 + r, none⟩ = (fs[i]?.getD noD).cs[r]?) ∧ DG w (fs[i]?.getD noD)
theorem DSG.below {w w' : World} {ad : Option Addr} {fs : List DV} (h : DSG w ad fs) (hb : Below w.heap.size w w') : DSG w' ad fs := fun i hi => by
  obtain ⟨b, off, e, hc, hr⟩ := h i hi
  have hl : b < w.heap.size := block_lt (v := ((fs[i]?.getD noD).cs[0]?).getD (.bool false)) ((hc 0 (by omega)).trans rfl)
  exact ⟨b, off, e, fun r hr => by rw [hb.cell (p := ⟨b, off + i * 3 + r, none⟩) hl]; exact hc r hr, hr.below hb⟩
theorem DSM.g {w : World} {ad : Option Addr} {fs : List DV} (h : DSM w ad fs) (hs : ∀ i, i < fs.length → DZ (fs[i]?.getD noD)) : DSG w ad fs := fun i hi => by
  obtain ⟨b, off, e, hc, hr⟩ := h i hi
  exact ⟨b, off, e, hc, hr.g (hs i hi)⟩
theorem cellsD {w : World} {b o : Nat} {f : DV} (h : ∀ r, r < 3 → w.cell? ⟨b, o + r, none⟩ = f.cs[r]?) : w.cell? ⟨b, o, none⟩ = some (.int .i64 f.q) ∧ w.cell? ⟨b, o + 1, none⟩ = some (.int .i64 f.c) ∧ w.cell? ⟨b, o + 2, none⟩ = some (f.t.v) := ⟨h 0 (by omega), h 1 (by omega), h 2 (by omega)⟩

/-- So many cells set in a row. -/
def putD (vs : List Value) (o : Nat) (x0 x1 x2 : Value) : List Value := (((vs.set o x0).set (o + 1) x1).set (o + 2) x2)
theorem putD_len (vs : List Value) (o : Nat) (x0 x1 x2 : Value) : (putD vs o x0 x1 x2).length = vs.length := by simp [putD]
theorem putD_ne (vs : List Value) (o : Nat) (x0 x1 x2 : Value) (j : Nat) (h : j < o ∨ o + 3 ≤ j) : (putD vs o x0 x1 x2)[j]? = vs[j]? := by
  unfold putD
  rw [List.getElem?_set_ne (by omega), List.getElem?_set_ne (by omega), List.getElem?_set_ne (by omega)]
theorem putD_at (vs : List Value) (o : Nat) (x0 x1 x2 : Value) (h : o + 3 ≤ vs.length) (r : Nat) (hr : r < 3) : (putD vs o x0 x1 x2)[o + r]? = [x0, x1, x2][r]? := by
  have hcase : r = 0 ∨ r = 1 ∨ r = 2 := by omega
  unfold putD
  rcases hcase with rfl | rfl | rfl
  · simp only [Nat.add_zero]
    rw [List.getElem?_set_ne (by omega), List.getElem?_set_ne (by omega), List.getElem?_set_self (by omega)]; rfl
  · rw [List.getElem?_set_ne (by omega), List.getElem?_set_self (by simp; omega)]; rfl
  · rw [List.getElem?_set_self (by simp; omega)]; rfl

/-- Each holds what the other does. -/
def copiesDS (fs gs : List DV) : Prop := ∀ i, i < gs.length → copiesD (fs[i]?.getD noD) (gs[i]?.getD noD)

end Go.Proofs.Ytgiemeiilagfeaa
