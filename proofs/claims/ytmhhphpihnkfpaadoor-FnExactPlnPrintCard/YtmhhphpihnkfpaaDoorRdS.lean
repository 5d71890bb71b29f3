/-
  A result, as the specification reads it. At most 1048576 bytes.
-/
import Derived.Test.YtmhhphpihnkfpaaDoorRdN
import Derived.Test.YtmhhphpihnkfpaaDoorGrow
import Derived.Lib.Hide
namespace Go.Proofs.YtmhhphpihnkfpaaDoor
open Go.RowKit
set_option linter.unusedVariables false
set_option maxRecDepth 100000

/-- The code that a word is, of those below k. -/
def codeTo (x : List UInt8) : Nat → Int
  | 0 => 0
  | 1 => 0
  | k + 2 => if wordL ((k + 1 : Nat) : Int) = x then ((k + 1 : Nat) : Int) else codeTo x (k + 1)
def numsL (ws : List (List UInt8)) : List Int := ws.map fun x => (numL x).1
/-- What a text is read as: code and numbers. -/
def preS (l : List UInt8) : Int × List Int := (codeTo ((wordsOf l).headD []) 4, numsL (wordsOf l).tail)
theorem words_ne (l : List UInt8) : wordsOf l ≠ [] := by
  have : ∀ (t acc : List UInt8), wordsF acc t ≠ [] := by
    intro t
    induction t with
    | nil => intro acc; simp [wordsF]
    | cons b t ih =>
      intro acc
      rw [wordsF]
      split
      · simp
      · exact ih _
  exact this l []

theorem wordsF_len : ∀ (t acc : List UInt8), (wordsF acc t).length ≤ t.length + 1
  | [], acc => by simp [wordsF]
  | b :: t, acc => by
    rw [wordsF]
    split
    · rw [List.length_cons, List.length_cons]; have := wordsF_len t []; omega
    · have := wordsF_len t (acc ++ [b]); rw [List.length_cons]; omega
theorem words_few {l x0 : List UInt8} {ws : List (List UInt8)} (hl : l.length ≤ 120) (h : wordsOf l = x0 :: ws) : ws.length ≤ 121 := by
  have := wordsF_len l []
  rw [show wordsF [] l = x0 :: ws from h, List.length_cons] at this
  omega
theorem wordsF_short : ∀ (t acc : List UInt8), ∀ x ∈ wordsF acc t, x.length ≤ acc.length + t.length
  | [], acc, x, hx => by
    have : x = acc := by simpa [wordsF] using hx
    rw [this]; omega
  | b :: t, acc, x, hx => by
    rw [wordsF] at hx
    split at hx
    · rcases List.mem_cons.1 hx with rfl | hx
      · omega
      · have := wordsF_short t [] x hx
        rw [List.length_cons]
        simp at this
        omega
    · have := wordsF_short t _ x hx
      rw [List.length_append] at this
      rw [List.length_cons]
      simp at this
      omega
theorem words_short {l x0 : List UInt8} {ws : List (List UInt8)} (h : wordsOf l = x0 :: ws) : ∀ x ∈ ws, x.length ≤ l.length := fun x hx => by
  have := wordsF_short l [] x (by rw [show wordsF [] l = x0 :: ws from h]; exact List.mem_cons_of_mem _ hx)
  simpa using this

def textP (p : Int × List Int) : List UInt8 := resText p.1 p.2.length p.2
def rdB (l : List UInt8) : Bool := decide (textP (preS l) ≠ [] ∧ textP (preS l) = l)
def rdS (l : List UInt8) : Int × List Int × Bool := if rdB l = true then ((preS l).1, (preS l).2, true) else (0, [], false)

end Go.Proofs.YtmhhphpihnkfpaaDoor
