/-
  A row (guards, adds, tells, stop) that came in as an argument, as the walks are told of it. No condition.
-/
import Derived.Test.YtemcinobgdphnaaOpenS
namespace Go.Proofs.Ytemcinobgdphnaa
open Go.ChangeShapes Go.WideShapes Go.ChangeAt Go.RowKit Go.Joins Go.Deep
set_option linter.unusedVariables false
set_option maxRecDepth 100000

theorem open_formsC {H : Type} {enc : TypeId × Value → H} {W : World} {fuel : Nat} {v : Value} {y : DataW H × List MemPlace}
    (hf : DataW.trod enc Try.prog W 0 (fun _ => true) true fuel 23 [v] = some y) :
    ∃ ad N cap fs, v = .slice ad N cap ∧ fs.length = N ∧ FormsM W ad fs ∧ N ≤ maxLen := by
  obtain ⟨ad, N, cap, fs, hv, hl, hN, hall⟩ := open_sliceC noFV FV.cs (fun f => Ints W f.a f.n f.C ∧ Ints W f.c f.m f.D ∧ f.n ≤ maxLen ∧ f.m ≤ maxLen) (c := 3) (by omega) Try.underlying23 (by kernel_rfl) (fun _ => rfl) (fun fuel cs x hx => open_formC hx) hf
  refine ⟨ad, N, cap, fs, hv, hl, fun i hi => ?_, hN⟩
  obtain ⟨b, off, e, hc, hr⟩ := hall i hi
  exact ⟨b, off, e, hc 0 (by omega), hc 1 (by omega), hc 2 (by omega), hr⟩

/-- A row as a value. -/
abbrev rowV (g : Option Addr) (G cg : Nat) (a : Option Addr) (A ca : Nat) (t : Option Addr) (T ct : Nat) (st : Bool) : Value := .agg #[.slice g G cg, .slice a A ca, .slice t T ct, .bool st]

theorem open_rowR {H : Type} {enc : TypeId × Value → H} {W : World} {r : Reach} {b0 : Nat} {v : Value} {d : DataW H} {p : List MemPlace}
    (hv : Value.okWide Try.prog W r b0 25 v) (h : DataW.Trod enc Try.prog W 0 (fun _ => true) true 25 v d p) :
    ∃ g G cg gs a A ca ls t T ct ts st, v = rowV g G cg a A ca t T ct st ∧ gs.length = G ∧ FormsM W g gs ∧ G ≤ maxLen ∧ ls.length = A ∧ FormsM W a ls ∧ A ≤ maxLen ∧ ts.length = T ∧ FormsM W t ts ∧ T ≤ maxLen := by
  obtain ⟨v0, v1, v2, v3, y0, y1, y2, y3, k, rfl, -, -, h0, h1, h2, h3⟩ := open_agg4 Try.underlying25 (by kernel_rfl) (by kernel_rfl) hv h
  obtain ⟨g, G, cg, gs, rfl, hg1, hg2, hg3⟩ := open_formsC h0
  obtain ⟨a, A, ca, ls, rfl, ha1, ha2, ha3⟩ := open_formsC h1
  obtain ⟨t, T, ct, ts, rfl, ht1, ht2, ht3⟩ := open_formsC h2
  obtain ⟨st, e3, _⟩ := DataW.trod_bool Try.underlying4 h3
  simp at e3
  subst e3
  exact ⟨g, G, cg, gs, a, A, ca, ls, t, T, ct, ts, st, rfl, hg1, hg2, hg3, ha1, ha2, ha3, ht1, ht2, ht3⟩

end Go.Proofs.Ytemcinobgdphnaa
