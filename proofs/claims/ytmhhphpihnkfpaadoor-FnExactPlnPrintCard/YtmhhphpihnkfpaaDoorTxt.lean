/-
  What the text of a result is, and that the specification writes it. Lengths at most 1048576.
-/
import Derived.Test.YtmhhphpihnkfpaaDoorDig
import Derived.Test.YtmhhphpihnkfpaaDoorResP
import Derived.Lib.Join
namespace Go.Proofs.YtmhhphpihnkfpaaDoor
open Go.RowKit
set_option linter.unusedVariables false
set_option maxRecDepth 100000

def wordL (c : Int) : List UInt8 := if c = 1 then [100, 111, 110, 101] else if c = 2 then [115, 116, 111, 112, 112, 101, 100] else if c = 3 then [111, 118, 101, 114] else []
def tailL (zs : List Int) : List UInt8 := Lib.joinTail [32] (zs.map Lib.itoa)
def resOkB (c : Int) (n : Nat) (zs : List Int) : Bool := inB c 1 3 && (decide (c = 1 ∨ n = 0) && (decide (n ≤ 6) && allB 999999999999 zs))
def resText (c : Int) (n : Nat) (zs : List Int) : List UInt8 := if resOkB c n zs = true then wordL c ++ tailL zs else []
theorem tail_step {zs : List Int} {k : Nat} (h : k < zs.length) : tailL (zs.take (k + 1)) = tailL (zs.take k) ++ ([32] ++ Lib.itoa (zs[k]?.getD 0)) := by
  unfold tailL Lib.joinTail
  rw [List.take_succ_eq_append_getElem h, List.getElem?_eq_getElem h, List.map_append, List.map_append, List.flatten_append]
  simp only [List.map_cons, List.map_nil, List.flatten_cons, List.flatten_nil, List.append_nil, Option.getD_some]
theorem tail_nil : tailL [] = [] := rfl
theorem tail_end {zs : List Int} {k : Nat} (h : zs.length ≤ k) : tailL (zs.take k) = tailL zs := by rw [List.take_of_length_le h]
theorem resText_no {c : Int} {n : Nat} {zs : List Int} (h : resOkB c n zs = false) : resText c n zs = [] := by rw [resText, h]; rfl
theorem resText_yes {c : Int} {n : Nat} {zs : List Int} (h : resOkB c n zs = true) : resText c n zs = wordL c ++ tailL zs := by rw [resText, if_pos h]
theorem word_len (c : Int) : (wordL c).length ≤ 7 := by
  unfold wordL
  split
  · decide
  · split
    · decide
    · split <;> decide

theorem allB_bnd' {m : Int} {zs : List Int} (hm : 0 ≤ m) (h : allB m zs = true) : ∀ i : Nat, -m ≤ zs[i]?.getD 0 ∧ zs[i]?.getD 0 ≤ m := by
  intro i
  by_cases hi : i < zs.length
  · unfold allB at h
    rw [List.all_eq_true] at h
    have := inB_iff.1 (h zs[i] (List.getElem_mem hi))
    rw [List.getElem?_eq_getElem hi]
    simpa using this
  · rw [List.getElem?_eq_none (by omega)]
    simp; omega

theorem ret_str {a b : List UInt8} (h : a = b) : Ending.returned (.string ⟨a.toArray⟩) = .returned (.string ⟨b.toArray⟩) := by rw [h]

end Go.Proofs.YtmhhphpihnkfpaaDoor
