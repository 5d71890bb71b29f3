/-
  Which pots an act's ways may turn: both texts at copies of one act.
-/
import Derived.Test.YtomlnlcgfdojnaaXCatWI
import Derived.Test.YtomlnlcgfdojnaaPackI
namespace Go.Proofs.Ytomlnlcgfdojnaa
open Go.RowKit
set_option linter.unusedVariables false

theorem scatwrites_at (v : Bool) (R : Nat → Bool) (ad : Option Addr) (N cap : Nat) (gs : List LV) (w : World) (hN : gs.length = N) (hF : LinesG w ad gs) (hN1 : N ≤ 1048576) (hv : actB N gs = v) (hR : writesR (rowsL gs) = R) :
    Calls Try.prog 22 #[.slice ad N cap] w fun e w' => ∃ G cp, e = .returned (.slice (some ⟨G, 0, none⟩) (lenB v) cp) ∧ Below w.heap.size w w' ∧ BA w' (some ⟨G, 0, none⟩) (lenB v) R := by
  refine (scatwrites_any ad N cap gs w hN hF hN1).mono ?_
  rintro e w' ⟨b, ⟨h, G, rfl⟩ | ⟨h, G, cG, rfl, hG, o⟩⟩
  · rw [hv] at h; subst h
    exact ⟨G, 0, rfl, b, BA.none⟩
  · rw [hv] at h; subst h; subst hR
    exact ⟨G, cG, rfl, b, o.ba⟩
theorem icatwrites_at (v : Bool) (R : Nat → Bool) (ad : Option Addr) (N cap : Nat) (gs : List LV) (w : World) (hN : gs.length = N) (hF : LinesG w ad gs) (hN1 : N ≤ 1048576) (hv : actB N gs = v) (hR : writesR (rowsL gs) = R) :
    Calls Try.prog 23 #[.slice ad N cap] w fun e w' => ∃ a cp, e = .returned (.slice a (lenB v) cp) ∧ Below w.heap.size w w' ∧ (v = false ∨ (v = true ∧ ∃ G, a = some ⟨G, 0, none⟩ ∧ w.heap.size ≤ G ∧ OwnBB w' G R)) := by
  refine (icatwrites_any ad N cap gs w hN hF hN1).mono ?_
  rintro e w' ⟨b, ⟨h, rfl⟩ | ⟨h, G, cG, rfl, hG, o⟩⟩
  · rw [hv] at h; subst h
    exact ⟨_, 0, rfl, b, Or.inl rfl⟩
  · rw [hv] at h; subst h; subst hR
    exact ⟨_, cG, rfl, b, Or.inr ⟨rfl, G, rfl, hG, o⟩⟩

end Go.Proofs.Ytomlnlcgfdojnaa
