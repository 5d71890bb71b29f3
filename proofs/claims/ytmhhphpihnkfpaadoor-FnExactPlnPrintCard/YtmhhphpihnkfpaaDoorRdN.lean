/-
  Numbers, as the specification reads them. At most 120 bytes.
-/
import Derived.Test.YtmhhphpihnkfpaaDoorRdW
namespace Go.Proofs.YtmhhphpihnkfpaaDoor
open Go.RowKit
set_option linter.unusedVariables false
set_option maxRecDepth 100000

theorem digit_no {b : UInt8} (h : ¬ (48 ≤ b.toNat ∧ b.toNat ≤ 57)) : Lib.digitVal b = none := by rw [Lib.digitVal, if_neg h]
theorem digit_yes {b : UInt8} (h : 48 ≤ b.toNat ∧ b.toNat ≤ 57) : Lib.digitVal b = some (b.toNat - 48) := by rw [Lib.digitVal, if_pos h]
theorem dec_none {r : List UInt8} {k n : Nat} (hk : k < r.length) (h : Lib.decFrom 0 (r.take k) = some n) (hb : ¬ (48 ≤ (r[k]?.getD 0).toNat ∧ (r[k]?.getD 0).toNat ≤ 57)) : Lib.decFrom 0 r = none := by
  have e : r = r.take k ++ r.drop k := (List.take_append_drop k r).symm
  rw [e, decFrom_append, h, List.drop_eq_getElem_cons hk]
  rw [List.getElem?_eq_getElem hk] at hb
  simp only [Option.bind_some, Lib.decFrom]
  rw [digit_no (by simpa using hb)]
theorem dec_more {r : List UInt8} {k n : Nat} (hk : k < r.length) (h : Lib.decFrom 0 (r.take k) = some n) (hb : 48 ≤ (r[k]?.getD 0).toNat ∧ (r[k]?.getD 0).toNat ≤ 57) : Lib.decFrom 0 (r.take (k + 1)) = some (n * 10 + ((r[k]?.getD 0).toNat - 48)) :=
  Lib.decFrom_take r k 0 n (r[k]?.getD 0) _ h (by rw [List.getElem?_eq_getElem hk]; rfl) (digit_yes hb)
theorem mag_no {neg : Bool} {r : List UInt8} (h : ¬ ((1 ≤ r.length ∧ r.length ≤ 12) ∧ ¬ (1 < r.length ∧ r.head? = some 48) ∧ ¬ (neg = true ∧ r = [48]))) : magL neg r = (0, false) := by rw [magL, if_neg h]
theorem mag_bad {neg : Bool} {r : List UInt8} (h : Lib.decFrom 0 r = none) : magL neg r = (0, false) := by rw [magL, h]; split <;> rfl
theorem mag_good {neg : Bool} {r : List UInt8} {n : Nat} (h : (1 ≤ r.length ∧ r.length ≤ 12) ∧ ¬ (1 < r.length ∧ r.head? = some 48) ∧ ¬ (neg = true ∧ r = [48])) (h2 : Lib.decFrom 0 r = some n) : magL neg r = (if neg then -(n : Int) else n, true) := by rw [magL, if_pos h, h2]
theorem ret_num {x y : Int × Bool} (h : x = y) : Ending.returned (.tuple #[.int .i64 x.1, .bool x.2]) = .returned (.tuple #[.int .i64 y.1, .bool y.2]) := by rw [h]

end Go.Proofs.YtmhhphpihnkfpaaDoor
