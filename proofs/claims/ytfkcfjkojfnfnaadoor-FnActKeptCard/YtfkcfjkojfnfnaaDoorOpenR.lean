/-
  A row (guards, adds, tells, stop) that came in as an argument, as the walks are told of it. No condition.
-/
import Derived.Test.YtfkcfjkojfnfnaaDoorOpenS
namespace Go.Proofs.YtfkcfjkojfnfnaaDoor
open Go.ChangeShapes Go.WideShapes Go.ChangeAt Go.RowKit Go.Joins Go.Deep
set_option linter.unusedVariables false
set_option maxRecDepth 100000

theorem open_formsC {H : Type} {enc : TypeId × Value → H} {W : World} {fuel : Nat} {v : Value} {y : DataW H × List MemPlace}
    (hf : DataW.trod enc Tryd.prog W 0 (fun _ => true) true fuel 117 [v] = some y) :
    ∃ ad N cap fs, v = .slice ad N cap ∧ fs.length = N ∧ FormsM W ad fs ∧ N ≤ maxLen := by
  obtain ⟨ad, N, cap, fs, hv, hl, hN, hall⟩ := open_sliceC noFV FV.cs (fun f => Ints W f.a f.n f.C ∧ Ints W f.c f.m f.D ∧ f.n ≤ maxLen ∧ f.m ≤ maxLen) (c := 3) (by omega) Tryd.underlying117 (by kernel_rfl) (fun _ => rfl) (fun fuel cs x hx => open_formC hx) hf
  refine ⟨ad, N, cap, fs, hv, hl, fun i hi => ?_, hN⟩
  obtain ⟨b, off, e, hc, hr⟩ := hall i hi
  exact ⟨b, off, e, hc 0 (by omega), hc 1 (by omega), hc 2 (by omega), hr⟩

/-- A row as a value. -/
abbrev rowV (g : Option Addr) (G cg : Nat) (a : Option Addr) (A ca : Nat) (t : Option Addr) (T ct : Nat) (st : Bool) : Value := .agg #[.slice g G cg, .slice a A ca, .slice t T ct, .bool st]

end Go.Proofs.YtfkcfjkojfnfnaaDoor
