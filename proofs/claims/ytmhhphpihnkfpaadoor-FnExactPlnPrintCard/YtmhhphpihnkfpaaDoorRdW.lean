/-
  The words of a text, as the specification cuts them. At most 1048576 bytes.
-/
import Derived.Test.YtmhhphpihnkfpaaDoorRd
import Derived.Test.YtmhhphpihnkfpaaDoorTxtI
namespace Go.Proofs.YtmhhphpihnkfpaaDoor
open Go.RowKit
set_option linter.unusedVariables false
set_option maxRecDepth 100000

abbrev bytesW (ws : List (List UInt8)) : List ByteArray := ws.map fun l => ⟨l.toArray⟩
theorem JT.lit (w : World) : JT w (.slice (some ⟨w.heap.size, 0, none⟩) 0 0) [] (w.alloc (.cells #[] 9)) :=
  ⟨(Below.refl _ _).alloc (Nat.le_refl _) _, World.ownsRow_lit w #[] 0 (Nat.le_refl _) (by unfold maxLen; omega) rfl⟩
theorem wordsF_blank {acc l : List UInt8} {k : Nat} (h : k < l.length) (hb : l[k]?.getD 0 = 32) : wordsF acc (l.drop k) = acc :: wordsF [] (l.drop (k + 1)) := by
  rw [List.drop_eq_getElem_cons h, wordsF]
  rw [List.getElem?_eq_getElem h] at hb
  rw [if_pos (by simpa using hb)]
theorem wordsF_more {acc l : List UInt8} {k : Nat} (h : k < l.length) (hb : ¬ l[k]?.getD 0 = 32) : wordsF acc (l.drop k) = wordsF (acc ++ [l[k]?.getD 0]) (l.drop (k + 1)) := by
  rw [List.drop_eq_getElem_cons h, wordsF]
  rw [List.getElem?_eq_getElem h] at hb ⊢
  rw [if_neg (by simpa using hb)]
  simp
theorem wordsF_end {acc l : List UInt8} {k : Nat} (h : l.length ≤ k) : wordsF acc (l.drop k) = [acc] := by
  rw [List.drop_eq_nil_of_le h]; rfl

theorem str_lt {l : List UInt8} {k : Nat} (h : k < l.length) : k < (⟨l.toArray⟩ : ByteArray).size := by simpa [ByteArray.size] using h
theorem str_at {l : List UInt8} {k : Nat} (h : k < l.length) : ((⟨l.toArray⟩ : ByteArray)[k]'(str_lt h)) = l[k]?.getD 0 := by
  rw [List.getElem?_eq_getElem h]
  rfl

end Go.Proofs.YtmhhphpihnkfpaaDoor
