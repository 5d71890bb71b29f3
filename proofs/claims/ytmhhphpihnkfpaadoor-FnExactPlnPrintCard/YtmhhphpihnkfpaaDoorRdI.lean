/-
  A result, as the program reads it: its numbers, its word. The library's strconv.Atoi and strings.Split are taken by what they answer (ReadsN, Splits).
-/
import Derived.Test.YtmhhphpihnkfpaaDoorRdP
import Derived.Test.YtmhhphpihnkfpaaDoorTxtJ
namespace Go.Proofs.YtmhhphpihnkfpaaDoor
open Go.RowKit
set_option linter.unusedVariables false
set_option maxRecDepth 100000

def AtoiPost (x : List UInt8) (W : World) (e : Ending) (w' : World) : Prop :=
  Below W.heap.size W w' ∧ ((∃ v, Lib.atoiAll x = .ok v ∧ e = .returned (.tuple #[.int .i64 v, .nilIface])) ∨ ((∀ v, Lib.atoiAll x ≠ .ok v) ∧ ∃ z t b, e = .returned (.tuple #[.int .i64 z, .iface t (.pointer (some ⟨b, 0, none⟩))])))
def SplitPost (l : List UInt8) (W : World) (e : Ending) (w' : World) : Prop :=
  e = .returned (.slice (some ⟨W.heap.size, 0, none⟩) (wordsOf l).length (wordsOf l).length) ∧ W.heap.size < w'.heap.size ∧ (∀ (i : Nat) (x : List UInt8), (wordsOf l)[i]? = some x → w'.cell? ⟨W.heap.size, i, none⟩ = some (.string ⟨x.toArray⟩)) ∧ Below W.heap.size W w'
theorem atoiS_drop {ws : List (List UInt8)} {k : Nat} {x : List UInt8} {v : Int} {xs : List Int} (hk : ws[k]? = some x) (hx : Lib.atoiAll x = .ok v) (h : atoiS ws = (atoiS (ws.drop k)).map (xs ++ ·)) : atoiS ws = (atoiS (ws.drop (k + 1))).map ((xs ++ [v]) ++ ·) := by
  have hl := (List.getElem?_eq_some_iff.1 hk).1
  have e : ws.drop k = x :: ws.drop (k + 1) := by
    rw [List.drop_eq_getElem_cons hl, (List.getElem?_eq_some_iff.1 hk).2]
  rw [h, e, atoiS, hx]
  simp only [Option.map_map]
  congr 1
  funext y
  simp
theorem atoiS_bad {ws : List (List UInt8)} {k : Nat} {x : List UInt8} {xs : List Int} (hk : ws[k]? = some x) (hx : ∀ v, Lib.atoiAll x ≠ .ok v) (h : atoiS ws = (atoiS (ws.drop k)).map (xs ++ ·)) : atoiS ws = none := by
  have hl := (List.getElem?_eq_some_iff.1 hk).1
  have e : ws.drop k = x :: ws.drop (k + 1) := by
    rw [List.drop_eq_getElem_cons hl, (List.getElem?_eq_some_iff.1 hk).2]
  rw [h, e, atoiS]
  cases hh : Lib.atoiAll x with
  | ok v => exact absurd hh (hx v)
  | «syntax» => rfl
  | range => rfl

end Go.Proofs.YtmhhphpihnkfpaaDoor
