/-
  An argument that is a slice of ints, or a form, as the walks are told of it. No condition.
-/
import Derived.Test.YtmhhphpihnkfpaaDoorBase
import Derived.Lib.SmallJoins
namespace Go.Proofs.YtmhhphpihnkfpaaDoor
open Go.ChangeShapes Go.WideShapes Go.ChangeAt Go.RowKit Go.Joins
set_option linter.unusedVariables false
set_option maxRecDepth 100000

theorem open_row {H : Type} {enc : TypeId × Value → H} {W : World} {fuel : Nat} {v : Value} {y : DataW H × List MemPlace}
    (hf : DataW.trod enc Tryd.prog W 0 (fun _ => true) true fuel 23 [v] = some y) : ∃ a n cap zs, v = .slice a n cap ∧ Ints W a n zs ∧ n ≤ maxLen := by
  rcases open_ints Tryd.underlying23 Tryd.underlying3 (by kernel_rfl) hf with ⟨hcs, _⟩ | ⟨x, l, c, zs, hcs, _, hl, hm, hz, _, hcell, hwz⟩
  · simp at hcs
    exact ⟨none, 0, 0, [], hcs, ⟨rfl, fun i hi => by omega⟩, by unfold maxLen; omega⟩
  · simp at hcs
    have hr : IsRow .i64 W (some x) l c zs := .inr ⟨x, rfl, hl, hm, by simpa using hz, hcell, hwz⟩
    exact ⟨some x, l, c, zs.take l, hcs, hr.ints, by omega⟩

theorem open_num {H : Type} {enc : TypeId × Value → H} {W : World} {fuel : Nat} {v : Value} {y : DataW H × List MemPlace}
    (hf : DataW.trod enc Tryd.prog W 0 (fun _ => true) true fuel 3 [v] = some y) : ∃ K : Int, v = .int .i64 K ∧ (Lit.int .i64 K).wf = true := by
  obtain ⟨K, e0, _, wK⟩ := DataW.trod_int Tryd.underlying3 hf
  simp at e0
  exact ⟨K, e0, wK⟩

theorem open_rowT {H : Type} {enc : TypeId × Value → H} {W : World} {r : Reach} {b0 : Nat} {v : Value} {d : DataW H} {p : List MemPlace}
    (hv : Value.okWide Tryd.prog W r b0 23 v) (h : DataW.Trod enc Tryd.prog W 0 (fun _ => true) true 23 v d p) : ∃ a n cap zs, v = .slice a n cap ∧ Ints W a n zs ∧ n ≤ maxLen := by
  obtain ⟨a0, len0, cap0, rfl⟩ := okWide_slice Tryd.underlying23 hv
  obtain ⟨fuel, hf⟩ := h
  exact open_row (by simpa [Value.cells] using hf)

theorem open_numT {H : Type} {enc : TypeId × Value → H} {W : World} {r : Reach} {b0 : Nat} {v : Value} {d : DataW H} {p : List MemPlace}
    (h : DataW.Trod enc Tryd.prog W 0 (fun _ => true) true 3 v d p) (hv : Value.okWide Tryd.prog W r b0 3 v) : ∃ K : Int, v = .int .i64 K ∧ (Lit.int .i64 K).wf = true := by
  obtain ⟨K, rfl, rfl, rfl, wK⟩ := open_int Tryd.underlying3 hv h
  exact ⟨K, rfl, wK⟩

theorem open_form {H : Type} {enc : TypeId × Value → H} {W : World} {r : Reach} {b0 : Nat} {v : Value} {d : DataW H} {p : List MemPlace}
    (hv : Value.okWide Tryd.prog W r b0 78 v) (h : DataW.Trod enc Tryd.prog W 0 (fun _ => true) true 78 v d p) :
    ∃ a n cap c m cap' K C D, v = formV a n cap c m cap' K ∧ Ints W a n C ∧ Ints W c m D ∧ n ≤ maxLen ∧ m ≤ maxLen ∧ (Lit.int .i64 K).wf = true := by
  obtain ⟨v0, v1, v2, y0, y1, y2, k, rfl, -, -, h0, h1, h2⟩ := open_agg3 Tryd.underlying78 (by kernel_rfl) (by kernel_rfl) hv h
  obtain ⟨a, n, cap, C, rfl, hC, hn⟩ := open_row h0
  obtain ⟨c, m, cap', D, rfl, hD, hm⟩ := open_row h1
  obtain ⟨K, rfl, wK⟩ := open_num h2
  exact ⟨a, n, cap, c, m, cap', K, C, D, rfl, hC, hD, hn, hm, wK⟩

end Go.Proofs.YtmhhphpihnkfpaaDoor
