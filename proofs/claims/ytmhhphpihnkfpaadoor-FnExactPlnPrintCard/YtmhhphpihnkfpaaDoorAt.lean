/-
  What a form is, by what the pots have, and arguments: as both texts reckon it.
-/
import Derived.Test.YtmhhphpihnkfpaaDoorSums
namespace Go.Proofs.YtmhhphpihnkfpaaDoor
open Go.RowKit
set_option linter.unusedVariables false

/-- The sum of products, of the first k. -/
def dot (xs ys : List Int) : Nat → Int
  | 0 => 0
  | k + 1 => dot xs ys k + xs[k]?.getD 0 * ys[k]?.getD 0

/-- Each product lies within a bound. -/
def bndP (P : Int) (xs ys : List Int) : Prop := ∀ i : Nat, -P ≤ xs[i]?.getD 0 * ys[i]?.getD 0 ∧ xs[i]?.getD 0 * ys[i]?.getD 0 ≤ P

theorem dot_bnd {P : Int} {xs ys : List Int} (h : bndP P xs ys) : ∀ k : Nat, -(k * P) ≤ dot xs ys k ∧ dot xs ys k ≤ k * P
  | 0 => by simp [dot]
  | k + 1 => by
    have ih := dot_bnd h k
    have hk := h k
    have e : ((k + 1 : Nat) : Int) * P = k * P + P := by rw [Int.natCast_add, Int.add_mul]; simp
    rw [e]
    simp only [dot]
    omega

theorem bndP_of {M M' : Int} {xs ys : List Int} (hx : bnd M xs) (hy : bnd M' ys) (h0 : 0 ≤ M) (h1 : 0 ≤ M') : bndP (M * M') xs ys := by
  intro i
  obtain ⟨a1, a2⟩ := hx i
  obtain ⟨b1, b2⟩ := hy i
  generalize xs[i]?.getD 0 = x at *
  generalize ys[i]?.getD 0 = y at *
  have hx' : x.natAbs ≤ M.toNat := by omega
  have hy' : y.natAbs ≤ M'.toNat := by omega
  have hm : (x * y).natAbs ≤ M.toNat * M'.toNat := by rw [Int.natAbs_mul]; exact Nat.mul_le_mul hx' hy'
  have e : ((M.toNat * M'.toNat : Nat) : Int) = M * M' := by rw [Int.natCast_mul, Int.toNat_of_nonneg h0, Int.toNat_of_nonneg h1]
  omega

theorem allB_bnd {m : Int} {zs : List Int} (hm : 0 ≤ m) (h : allB m zs = true) : bnd m zs := by
  intro i
  by_cases hi : i < zs.length
  · unfold allB at h
    rw [List.all_eq_true] at h
    have := inB_iff.1 (h zs[i] (List.getElem_mem hi))
    rw [List.getElem?_eq_getElem hi]
    simpa using this
  · rw [List.getElem?_eq_none (by omega)]
    simp; omega

theorem okN_elim {c m : Int} {n : Nat} {zs : List Int} (hm : 0 ≤ m) (h : okN c m n zs = true) : (n : Int) = c ∧ bnd m zs := by
  simp only [okN, Bool.and_eq_true, decide_eq_true_eq] at h
  exact ⟨h.1, allB_bnd hm h.2⟩

theorem formB_elim {n m : Nat} {C D : List Int} {K : Int} (h : formB n m C D K = true) : n = 3 ∧ m = 2 ∧ bnd 10000000 C ∧ bnd 10000000 D ∧ -10000000 ≤ K ∧ K ≤ 10000000 := by
  simp only [formB, Bool.and_eq_true] at h
  obtain ⟨⟨h1, h2⟩, h3⟩ := h
  have a := okN_elim (by omega) h1
  have b := okN_elim (by omega) h2
  have c := inB_iff.1 h3
  exact ⟨by omega, by omega, a.2, b.2, c.1, c.2⟩

/-- What a form is. -/
def atV (C D : List Int) (K : Int) (V A : List Int) : Int := dot C V 3 + dot D A 2 + K

/-- Whether a form can be taken there, and what it is: 0, if not. -/
def atOk (n m p q : Nat) (C D : List Int) (K : Int) (V A : List Int) : Bool := formB n m C D K && okN 3 10000 p V && okN 2 9 q A
def atN (n m p q : Nat) (C D : List Int) (K : Int) (V A : List Int) : Int := if atOk n m p q C D K V A then atV C D K V A else 0
theorem atN_yes {n m p q : Nat} {C D : List Int} {K : Int} {V A : List Int} (h : atOk n m p q C D K V A = true) : atN n m p q C D K V A = atV C D K V A := by simp [atN, h]
theorem atN_no {n m p q : Nat} {C D : List Int} {K : Int} {V A : List Int} (h : atOk n m p q C D K V A = false) : atN n m p q C D K V A = 0 := by simp [atN, h]

end Go.Proofs.YtmhhphpihnkfpaaDoor
