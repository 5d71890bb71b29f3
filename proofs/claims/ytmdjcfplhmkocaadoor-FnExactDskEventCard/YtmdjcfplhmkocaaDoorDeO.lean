/-
  The event 'clerkrises', as the program reads it; the first word is what strings.Cut answers.
-/
import Derived.Test.YtmdjcfplhmkocaaDoorDeN
namespace Go.Proofs.YtmdjcfplhmkocaaDoor
open Go.RowKit Go.MapKept
set_option linter.unusedVariables false
set_option maxRecDepth 100000

theorem cut_first (l : List UInt8) : (Lib.cut l [32]).1 = (wordsOf l).headD [] := by
  have hi : ∀ z, Lib.indexByte l 32 = z → Lib.index l [32] = z := fun z h => by rw [Lib.index_one]; exact h
  by_cases h : Lib.indexByte l 32 = -1
  · rw [Lib.cut, hi _ h, if_neg (by omega), words_plain (indexByte_none h)]
    rfl
  · obtain ⟨i, h1, h2, h3⟩ := indexByte_some h
    rw [Lib.cut, hi _ h1, if_pos (by omega)]
    have e : wordsOf l = l.take i :: wordsOf (l.drop (i + 1)) := by
      have := words_cut (w := l.take i) (r := l.drop (i + 1)) h2
      rw [← h3] at this
      exact this
    rw [e]
    simp

end Go.Proofs.YtmdjcfplhmkocaaDoor
