/-
  Treaties: the size, a copy, one held against another, an argument that is one. Lengths at most 1048576 where one is copied.
-/
import Derived.Test.YtmhhphpihnkfpaaDoorForms
import Derived.Test.YtmhhphpihnkfpaaDoorOpen
namespace Go.Proofs.YtmhhphpihnkfpaaDoor
open Go.ChangeShapes Go.WideShapes Go.ChangeAt Go.RowKit Go.Joins
set_option linter.unusedVariables false
set_option maxRecDepth 100000

/-- A treaty as a value. -/
abbrev treV (a : Option Addr) (n cap : Nat) (c : Option Addr) (m cap' : Nat) : Value := .agg #[.slice a n cap, .slice c m cap']

theorem open_treaty {H : Type} {enc : TypeId × Value → H} {W : World} {r : Reach} {b0 : Nat} {v : Value} {d : DataW H} {p : List MemPlace}
    (hv : Value.okWide Tryd.prog W r b0 62 v) (h : DataW.Trod enc Tryd.prog W 0 (fun _ => true) true 62 v d p) :
    ∃ a n cap c m cap' C D, v = treV a n cap c m cap' ∧ Ints W a n C ∧ Ints W c m D ∧ n ≤ maxLen ∧ m ≤ maxLen := by
  obtain ⟨v0, v1, y0, y1, k, rfl, -, -, h0, h1⟩ := open_agg2 Tryd.underlying62 (by kernel_rfl) (by kernel_rfl) hv h
  obtain ⟨a, n, cap, C, rfl, hC, hn⟩ := open_row h0
  obtain ⟨c, m, cap', D, rfl, hD, hm⟩ := open_row h1
  exact ⟨a, n, cap, c, m, cap', C, D, rfl, hC, hD, hn, hm⟩

end Go.Proofs.YtmhhphpihnkfpaaDoor
