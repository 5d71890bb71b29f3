/-
  One form and so many times another one; so many times a form; nothing, if what comes is not ok.
-/
import Derived.Test.YtmhhphpihnkfpaaDoorAt
import Derived.BigRegion
import Derived.Deep.RegionHeld3
namespace Go.Proofs.YtmhhphpihnkfpaaDoor
open Go.RowKit
set_option linter.unusedVariables false

/-- Each of one list, and so many times the other's. -/
def lin (xs ys : List Int) (n : Int) : List Int := List.zipWith (fun x y => x + n * y) xs ys
theorem lin_len {xs ys : List Int} {n : Int} {k : Nat} (hx : xs.length = k) (hy : ys.length = k) : (lin xs ys n).length = k := by simp [lin, hx, hy]
theorem lin_get {xs ys : List Int} {n : Int} {k i : Nat} (hx : xs.length = k) (hy : ys.length = k) (hi : i < k) : (lin xs ys n)[i]?.getD 0 = xs[i]?.getD 0 + n * ys[i]?.getD 0 := by
  have h1 : i < xs.length := by omega
  have h2 : i < ys.length := by omega
  have h3 : i < (lin xs ys n).length := by rw [lin_len hx hy]; exact hi
  rw [List.getElem?_eq_getElem h1, List.getElem?_eq_getElem h2, List.getElem?_eq_getElem h3]
  simp [lin]

/-- So many times each lies within a bound. -/
def bndT (P n : Int) (ys : List Int) : Prop := ∀ i : Nat, -P ≤ n * ys[i]?.getD 0 ∧ n * ys[i]?.getD 0 ≤ P
theorem bndT_of {M N n : Int} {ys : List Int} (hy : bnd M ys) (h1 : -N ≤ n) (h2 : n ≤ N) (h0 : 0 ≤ M) (h3 : 0 ≤ N) : bndT (N * M) n ys := by
  intro i
  obtain ⟨b1, b2⟩ := hy i
  generalize ys[i]?.getD 0 = y at *
  have hx' : n.natAbs ≤ N.toNat := by omega
  have hy' : y.natAbs ≤ M.toNat := by omega
  have hm : (n * y).natAbs ≤ N.toNat * M.toNat := by rw [Int.natAbs_mul]; exact Nat.mul_le_mul hx' hy'
  have e : ((N.toNat * M.toNat : Nat) : Int) = N * M := by rw [Int.natCast_mul, Int.toNat_of_nonneg h3, Int.toNat_of_nonneg h0]
  omega

/-- So many times each of a list. -/
def mulL (n : Int) (zs : List Int) : List Int := zs.map fun z => n * z
theorem mulL_get {n : Int} {zs : List Int} {i : Nat} (h : i < zs.length) : (mulL n zs)[i]?.getD 0 = n * zs[i]?.getD 0 := by
  simp [mulL, h]

end Go.Proofs.YtmhhphpihnkfpaaDoor
