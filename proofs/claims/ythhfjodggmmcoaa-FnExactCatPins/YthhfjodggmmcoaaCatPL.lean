/-
  Which pots are pinned by acts: both texts at copies of the acts.
-/
import Derived.Test.YthhfjodggmmcoaaCatPW
import Derived.Test.YthhfjodggmmcoaaCatL
import Derived.Test.YthhfjodggmmcoaaPlan
namespace Go.Proofs.Ythhfjodggmmcoaa
open Go.RowKit
set_option linter.unusedVariables false

theorem rows_map {ss ts : List L2V} (hl : ts.length = ss.length) (h : copiesL2S ss ts) : ts.map (fun s => rowsL s.x) = ss.map (fun s => rowsL s.x) := by
  apply List.ext_getElem?
  intro i
  by_cases hi : i < ts.length
  · obtain ⟨e1, e2, e3⟩ := h i hi
    have := rowsL_copies e2 e3
    rw [List.getElem?_eq_getElem hi, List.getElem?_eq_getElem (by omega)] at this
    simp only [Option.getD_some] at this
    rw [List.getElem?_map, List.getElem?_map, List.getElem?_eq_getElem hi, List.getElem?_eq_getElem (by omega)]
    simp [this]
  · rw [List.getElem?_eq_none (by simp; omega), List.getElem?_eq_none (by simp; omega)]
theorem pins_copies {ss ts : List L2V} (hl : ts.length = ss.length) (h : copiesL2S ss ts) : pinsA ts = pinsA ss := by
  funext v
  have e : ∀ xs : List L2V, pinsA xs v = (xs.map (fun s => rowsL s.x)).any (fun r => readsR r v) := fun xs => by simp [pinsA, List.any_map, Function.comp_def]
  rw [e, e, rows_map hl h]
theorem catP_copies {ss ts : List L2V} (hl : ts.length = ss.length) (h : copiesL2S ss ts) : catP ts = catP ss := by
  have e : ∀ xs : List L2V, catP xs = (xs.map (fun s => rowsL s.x)).foldl rowsP pots3 := fun xs => by rw [catP, actsP, List.foldl_map]
  rw [e, e, rows_map hl h]

theorem scatpins_at (v : Bool) (R : Nat → Bool) (ad : Option Addr) (N cap : Nat) (gs : List L2V) (w : World) (hN : gs.length = N) (hF : LSG w ad gs) (hN1 : N ≤ 1048576) (hv : catB N gs = v) (hR : pinsA gs = R) :
    Calls Try.prog 35 #[.slice ad N cap] w fun e w' => ∃ G cp, e = .returned (.slice (some ⟨G, 0, none⟩) (lenB v) cp) ∧ Below w.heap.size w w' ∧ BA w' (some ⟨G, 0, none⟩) (lenB v) R := by
  refine (scatpins_any ad N cap gs w hN hF hN1).mono ?_
  rintro e w' ⟨b, ⟨h, G, rfl⟩ | ⟨h, G, cG, rfl, hG, o⟩⟩
  · rw [hv] at h; subst h
    exact ⟨G, 0, rfl, b, BA.none⟩
  · rw [hv] at h; subst h; subst hR
    exact ⟨G, cG, rfl, b, o.bools.ba⟩
theorem icatpins_at (v : Bool) (R : Nat → Bool) (ad : Option Addr) (N cap : Nat) (gs : List L2V) (w : World) (hN : gs.length = N) (hF : LSG w ad gs) (hN1 : N ≤ 1048576) (hv : catB N gs = v) (hR : pinsA gs = R) :
    Calls Try.prog 37 #[.slice ad N cap] w fun e w' => ∃ a cp, e = .returned (.slice a (lenB v) cp) ∧ Below w.heap.size w w' ∧ (v = false ∨ (v = true ∧ ∃ G, a = some ⟨G, 0, none⟩ ∧ w.heap.size ≤ G ∧ OwnBB w' G R)) := by
  refine (icatpins_any ad N cap gs w hN hF hN1).mono ?_
  rintro e w' ⟨b, ⟨h, rfl⟩ | ⟨h, G, cG, rfl, hG, o⟩⟩
  · rw [hv] at h; subst h
    exact ⟨_, 0, rfl, b, Or.inl rfl⟩
  · rw [hv] at h; subst h; subst hR
    exact ⟨_, cG, rfl, b, Or.inr ⟨rfl, G, rfl, hG, o⟩⟩

end Go.Proofs.Ythhfjodggmmcoaa
