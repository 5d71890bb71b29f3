/-
  A slice of anything, as the walks are told of it: its cells, row by row, and what is told of each element. No condition.
-/
import Derived.Test.YtmhhphpihnkfpaaDoorOpenF
namespace Go.Proofs.YtmhhphpihnkfpaaDoor
open Go.ChangeShapes Go.WideShapes Go.ChangeAt Go.RowKit Go.Joins Go.Deep
set_option linter.unusedVariables false
set_option maxRecDepth 100000

theorem open_sliceC {α : Type} (d0 : α) (cf : α → List Value) {H : Type} {enc : TypeId × Value → H} {W : World} (R : α → Prop) {S E : TypeId} {c : Nat} (hc : 0 < c) (hS : Tryd.prog.underlying S = some (.slice E)) (hE : Tryd.prog.cellsOf E = c) (hlen : ∀ a, (cf a).length = c)
    (hel : ∀ (fuel : Nat) (cs : List Value) (x : DataW H × List MemPlace), DataW.trod enc Tryd.prog W 0 (fun _ => true) true fuel E cs = some x → ∃ a, cs = cf a ∧ R a) {fuel : Nat} {v : Value} {y : DataW H × List MemPlace}
    (hf : DataW.trod enc Tryd.prog W 0 (fun _ => true) true fuel S [v] = some y) :
    ∃ (ad : Option Addr) (N cap : Nat) (xs : List α), v = .slice ad N cap ∧ xs.length = N ∧ N ≤ maxLen ∧ ∀ i, i < xs.length → ∃ b off, ad = some ⟨b, off, none⟩ ∧ (∀ r, r < c → W.cell? ⟨b, off + i * c + r, none⟩ = (cf (xs[i]?.getD d0))[r]?) ∧ R (xs[i]?.getD d0) := by
  rcases open_slice hS hf with ⟨hcs, _⟩ | ⟨a, len, cap, m, n, D, Pl, hcs, _, hl, hm, hmm, _, hall⟩
  · simp at hcs
    exact ⟨none, 0, 0, [], hcs, rfl, by unfold maxLen; omega, fun i hi => by simp at hi⟩
  · simp at hcs
    obtain rfl : m = cap := by simpa using hmm
    rw [hE] at hall
    have hex : ∀ i, i < len → ∃ f : α, W.cells? 0 (a.add (i * c)) c = some (cf f) ∧ R f := fun i hi => by
      obtain ⟨cs', h1, h2⟩ := hall i (by omega)
      obtain ⟨f, rfl, h3⟩ := hel _ _ _ h2
      exact ⟨f, h1, h3⟩
    have : ∃ F : Nat → α, ∀ i, i < len → W.cells? 0 (a.add (i * c)) c = some (cf (F i)) ∧ R (F i) := by
      classical
      refine ⟨fun i => if hi : i < len then Classical.choose (hex i hi) else d0, fun i hi => ?_⟩
      simp only [dif_pos hi]
      exact Classical.choose_spec (hex i hi)
    obtain ⟨F, hF⟩ := this
    refine ⟨some a, len, m, (List.range len).map F, hcs, by simp, by omega, fun i hi => ?_⟩
    have hi' : i < len := by simpa using hi
    have hg : ((List.range len).map F)[i]?.getD d0 = F i := by simp [hi']
    rw [hg]
    obtain ⟨h1, h2⟩ := hF i hi'
    obtain ⟨b, off, spot⟩ := a
    have hspot : spot = none := by
      have h0 := (World.cells?_some (hF 0 (by omega)).1).2.2 0 hc
      have h3 : ∃ x, (cf (F 0))[0]? = some x := ⟨_, List.getElem?_eq_getElem (by rw [hlen]; exact hc)⟩
      obtain ⟨x, h3⟩ := h3
      rw [h3] at h0
      simpa [Addr.add] using World.cell?_spot h0
    subst hspot
    have hadd : (⟨b, off, none⟩ : Addr).add (i * c) = ⟨b, off + i * c, none⟩ := by
      by_cases h0 : i * c = 0
      · rw [h0]; simp [Addr.add]
      · simp [Addr.add, h0]
    rw [hadd] at h1
    exact ⟨b, off, rfl, fun r hr => cells_at h1 r hr, h2⟩

/-- A slice that came in xs an argument. -/
theorem open_sliceT {α : Type} (d0 : α) (cf : α → List Value) {H : Type} {enc : TypeId × Value → H} {W : World} (R : α → Prop) {S E : TypeId} {c : Nat} (hc : 0 < c) (hS : Tryd.prog.underlying S = some (.slice E)) (hE : Tryd.prog.cellsOf E = c) (hlen : ∀ a, (cf a).length = c)
    (hel : ∀ (fuel : Nat) (cs : List Value) (x : DataW H × List MemPlace), DataW.trod enc Tryd.prog W 0 (fun _ => true) true fuel E cs = some x → ∃ a, cs = cf a ∧ R a) {r : Reach} {b0 : Nat} {v : Value} {d : DataW H} {p : List MemPlace}
    (hv : Value.okWide Tryd.prog W r b0 S v) (h : DataW.Trod enc Tryd.prog W 0 (fun _ => true) true S v d p) :
    ∃ (ad : Option Addr) (N cap : Nat) (xs : List α), v = .slice ad N cap ∧ xs.length = N ∧ N ≤ maxLen ∧ ∀ i, i < xs.length → ∃ b off, ad = some ⟨b, off, none⟩ ∧ (∀ r, r < c → W.cell? ⟨b, off + i * c + r, none⟩ = (cf (xs[i]?.getD d0))[r]?) ∧ R (xs[i]?.getD d0) := by
  obtain ⟨a0, len0, cap0, rfl⟩ := okWide_slice hS hv
  obtain ⟨fuel, hf⟩ := h
  exact open_sliceC d0 cf R hc hS hE hlen hel (by simpa [Value.cells] using hf)

end Go.Proofs.YtmhhphpihnkfpaaDoor
