/-
  A result, as the program reads it. The library's strconv.Atoi and strings.Split are taken by what they answer (ReadsN, Splits); its table of powers of ten is as its text lays it.
-/
import Derived.Test.YtmdjcfplhmkocaaDoorRdJ
namespace Go.Proofs.YtmdjcfplhmkocaaDoor
open Go.RowKit
set_option linter.unusedVariables false
set_option maxRecDepth 100000

/-- What a text is read as, of whatever length. -/
def rdF (l : List UInt8) : Int × List Int × Bool := if l.length ≤ 120 then rdI l else (0, [], false)
theorem rdF_no {l x0 : List UInt8} {ws : List (List UInt8)} (hw : wordsOf l = x0 :: ws) (h : codeTo x0 4 = 0 ∨ atoiS ws = none) : rdF l = (0, [], false) := by
  rw [rdF]
  split
  · rw [rdI, hw]
    show (match atoiS ws with | none => _ | some xs => _) = _
    rcases h with h | h
    · cases atoiS ws with
      | none => rfl
      | some xs =>
        show (if _ then _ else _) = _
        rw [if_neg]
        rintro ⟨h1, -⟩
        exact h1 h
    · rw [h]
  · rfl
theorem rdF_yes {l x0 : List UInt8} {ws : List (List UInt8)} {c : Int} {xs : List Int} {q : Nat} (hl : l.length ≤ 120) (hw : wordsOf l = x0 :: ws) (h0 : c ≠ 0) (hc : c = codeTo x0 4) (h : atoiS ws = some xs) (hq : xs.length = q) : rdF l = if resText c q xs = l then (c, xs, true) else (0, [], false) := by
  subst hq
  rw [rdF, if_pos hl, rdI, hw]
  show (match atoiS ws with | none => _ | some xs => _) = _
  rw [h]
  show (if codeTo x0 4 ≠ 0 ∧ resText (codeTo x0 4) xs.length xs = l then (codeTo x0 4, xs, true) else _) = _
  rw [← hc]
  by_cases e : resText c xs.length xs = l
  · rw [if_pos ⟨h0, e⟩, if_pos e]
  · rw [if_neg (fun h => e h.2), if_neg e]

theorem atoiS_len : ∀ {ws : List (List UInt8)} {xs : List Int}, atoiS ws = some xs → xs.length = ws.length
  | [], xs, h => by
    have : [] = xs := by simpa [atoiS] using h
    rw [← this]; rfl
  | x :: t, xs, h => by
    rw [atoiS] at h
    cases hx : Lib.atoiAll x with
    | ok z =>
      rw [hx] at h
      cases ht : atoiS t with
      | none => rw [ht] at h; cases h
      | some ys =>
        rw [ht] at h
        have : z :: ys = xs := by simpa using h
        rw [← this, List.length_cons, List.length_cons, atoiS_len ht]
    | «syntax» => rw [hx] at h; cases h
    | range => rw [hx] at h; cases h
theorem JA.ints' {w W : World} {a : Option Addr} {q qc : Nat} {xs : List Int} (j : JA w (.slice a q qc) xs W) (hq : xs.length = q) : Ints W a q xs := by
  subst hq
  obtain ⟨a', c', e, -, h, -⟩ := j.ints
  cases e
  exact h

end Go.Proofs.YtmdjcfplhmkocaaDoor
