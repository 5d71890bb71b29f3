/-
  A result that is marked and looked at; both readers at one text. Lengths at most 1048576.
-/
import Derived.Test.YtmdjcfplhmkocaaDoorRdL
import Derived.Test.YtmdjcfplhmkocaaDoorOwn0
namespace Go.Proofs.YtmdjcfplhmkocaaDoor
open Go.RowKit
set_option linter.unusedVariables false
set_option maxRecDepth 100000

theorem rdF_small {l : List UInt8} {c : Int} {xs : List Int} {ok : Bool} (h : rdF l = (c, xs, ok)) : xs.length ≤ 6 := by
  rw [rdF] at h
  split at h
  · rw [rd_same, rdS] at h
    split at h
    · rename_i hb
      rw [rdB, decide_eq_true_eq] at hb
      have ho := text_ok hb.1
      have e : (preS l).2 = xs := congrArg (fun r => r.2.1) h
      rw [← e]
      unfold resOkB at ho
      simp only [Bool.and_eq_true, decide_eq_true_eq] at ho
      exact ho.2.2.1
    · have e : [] = xs := congrArg (fun r => r.2.1) h
      rw [← e]; simp
  · have e : [] = xs := congrArg (fun r => r.2.1) h
    rw [← e]; simp

theorem Splits.below {w w' : World} (h : Splits w) (b : Below w.heap.size w w') : Splits w' := fun W hW => h W (b.trans (hW.mono b.size))

end Go.Proofs.YtmdjcfplhmkocaaDoor
