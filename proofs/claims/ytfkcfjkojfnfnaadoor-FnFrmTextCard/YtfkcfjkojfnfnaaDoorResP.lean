/-
  Results as arguments: the size, a copy, one held against another. Lengths at most 1048576 where one is copied.
-/
import Derived.Test.YtfkcfjkojfnfnaaDoorForms
import Derived.Test.YtfkcfjkojfnfnaaDoorOpen
namespace Go.Proofs.YtfkcfjkojfnfnaaDoor
open Go.ChangeShapes Go.WideShapes Go.ChangeAt Go.RowKit Go.Joins
set_option linter.unusedVariables false
set_option maxRecDepth 100000

/-- A result as a value. -/
abbrev resP (code : Int) (a : Option Addr) (n cap : Nat) : Value := .agg #[.int .i64 code, .slice a n cap]

theorem open_res {H : Type} {enc : TypeId × Value → H} {W : World} {r : Reach} {b0 : Nat} {v : Value} {d : DataW H} {p : List MemPlace}
    (hv : Value.okWide Tryd.prog W r b0 36 v) (h : DataW.Trod enc Tryd.prog W 0 (fun _ => true) true 36 v d p) :
    ∃ code a n cap C, v = resP code a n cap ∧ (Lit.int .i64 code).wf = true ∧ Ints W a n C ∧ n ≤ maxLen := by
  obtain ⟨v0, v1, y0, y1, k, rfl, -, -, h0, h1⟩ := open_agg2 Tryd.underlying36 (by kernel_rfl) (by kernel_rfl) hv h
  obtain ⟨code, rfl, wc⟩ := open_num h0
  obtain ⟨a, n, cap, C, rfl, hC, hn⟩ := open_row h1
  exact ⟨code, a, n, cap, C, rfl, wc, hC, hn⟩

end Go.Proofs.YtfkcfjkojfnfnaaDoor
