/-
  Two lists of ints, one by one together: both texts make it. Three numbers each, within bounds.
-/
import Derived.Test.YtpmihhbgjimpmaaGreatDoorOwn
import Derived.Test.YtpmihhbgjimpmaaGreatDoorKeyed
import Derived.Deep.AppendLies
namespace Go.Proofs.YtpmihhbgjimpmaaGreatDoor
open Go.RowKit
set_option linter.unusedVariables false

theorem zip_take {xs ys : List Int} {k : Nat} (hx : k < xs.length) (hy : k < ys.length) : (List.zipWith (· + ·) xs ys).take (k + 1) = (List.zipWith (· + ·) xs ys).take k ++ [xs[k]?.getD 0 + ys[k]?.getD 0] := by
  have hl : k < (List.zipWith (· + ·) xs ys).length := by rw [List.length_zipWith]; omega
  rw [List.take_succ_eq_append_getElem hl, List.getElem_zipWith, List.getElem?_eq_getElem hx, List.getElem?_eq_getElem hy]
  rfl

end Go.Proofs.YtpmihhbgjimpmaaGreatDoor
