/-
  Which pots an act reads: both texts at copies of one act.
-/
import Derived.Test.YthhfjodggmmcoaaBoolS
namespace Go.Proofs.Ythhfjodggmmcoaa
open Go.RowKit
set_option linter.unusedVariables false

theorem goW_copies {ls gs : List LV} (hl : gs.length = ls.length) (h : copiesL ls gs) (f : Nat) : ∀ (i : Nat) (y : Way), goW gs f i y = goW ls f i y := by
  induction f with
  | zero => intro i y; rfl
  | succ f ih =>
    intro i y
    rw [goW, goW, hl]
    by_cases hi : i < ls.length
    · obtain ⟨a1, a2, a3, a4, a5, a6, _⟩ := h i (by omega)
      have e : intoX (gs[i]?.getD noLV).f y.pots = intoX (ls[i]?.getD noLV).f y.pots := by rw [intoX, intoX, a4, a5, a6]
      rw [if_pos hi, if_pos hi, a1, a2, a3, e, ih, ih, ih, ih]
    · rw [if_neg hi, if_neg hi]
theorem rowsL_copies {ls gs : List LV} (hl : gs.length = ls.length) (h : copiesL ls gs) : rowsL gs = rowsL ls := goW_copies hl h 7 0 way0

/-- How many bools are answered. -/
def lenB (v : Bool) : Nat := if v then 3 else 0
theorem lenB_le (v : Bool) : lenB v ≤ 3 := by cases v <;> simp [lenB]

theorem scatreads_at (v : Bool) (R : Nat → Bool) (ad : Option Addr) (N cap : Nat) (gs : List LV) (w : World) (hN : gs.length = N) (hF : LinesG w ad gs) (hN1 : N ≤ 1048576) (hv : actB N gs = v) (hR : readsR (rowsL gs) = R) :
    Calls Try.prog 27 #[.slice ad N cap] w fun e w' => ∃ G cp, e = .returned (.slice (some ⟨G, 0, none⟩) (lenB v) cp) ∧ Below w.heap.size w w' ∧ BA w' (some ⟨G, 0, none⟩) (lenB v) R := by
  refine (scatreads_any ad N cap gs w hN hF hN1).mono ?_
  rintro e w' ⟨b, ⟨h, G, rfl⟩ | ⟨h, G, cG, rfl, hG, o⟩⟩
  · rw [hv] at h; subst h
    exact ⟨G, 0, rfl, b, BA.none⟩
  · rw [hv] at h; subst h; subst hR
    exact ⟨G, cG, rfl, b, o.bools.ba⟩
theorem icatreads_at (v : Bool) (R : Nat → Bool) (ad : Option Addr) (N cap : Nat) (gs : List LV) (w : World) (hN : gs.length = N) (hF : LinesG w ad gs) (hN1 : N ≤ 1048576) (hv : actB N gs = v) (hR : readsR (rowsL gs) = R) :
    Calls Try.prog 28 #[.slice ad N cap] w fun e w' => ∃ a cp, e = .returned (.slice a (lenB v) cp) ∧ Below w.heap.size w w' ∧ (v = false ∨ (v = true ∧ ∃ G, a = some ⟨G, 0, none⟩ ∧ w.heap.size ≤ G ∧ OwnBB w' G R)) := by
  refine (icatreads_any ad N cap gs w hN hF hN1).mono ?_
  rintro e w' ⟨b, ⟨h, rfl⟩ | ⟨h, G, cG, rfl, hG, o⟩⟩
  · rw [hv] at h; subst h
    exact ⟨_, 0, rfl, b, Or.inl rfl⟩
  · rw [hv] at h; subst h; subst hR
    exact ⟨_, cG, rfl, b, Or.inr ⟨rfl, G, rfl, hG, o⟩⟩

end Go.Proofs.Ythhfjodggmmcoaa
