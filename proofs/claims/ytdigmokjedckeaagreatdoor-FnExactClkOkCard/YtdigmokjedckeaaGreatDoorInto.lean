/-
  A form in which each pot is a form itself: what both texts come to. (Under way.)
-/
import Derived.Test.YtdigmokjedckeaaGreatDoorMarkS
namespace Go.Proofs.YtdigmokjedckeaaGreatDoor
open Go.RowKit
set_option linter.unusedVariables false

/-- Pot by pot: the form without its pots, and so many times each pot's form. -/
def intoC (C : List Int) (fs : List FV) : Nat → List Int
  | 0 => [0, 0, 0]
  | k + 1 => lin (intoC C fs k) (fs[k]?.getD noFV).C (C[k]?.getD 0)
def intoD (C D : List Int) (fs : List FV) : Nat → List Int
  | 0 => D
  | k + 1 => lin (intoD C D fs k) (fs[k]?.getD noFV).D (C[k]?.getD 0)
def intoK (C : List Int) (K : Int) (fs : List FV) : Nat → Int
  | 0 => K
  | k + 1 => intoK C K fs k + C[k]?.getD 0 * (fs[k]?.getD noFV).K

theorem lin_mul (xs ys : List Int) (n : Int) : List.zipWith (· + ·) xs (mulL n ys) = lin xs ys n := by
  simp [lin, mulL, List.zipWith_map_right]

/-- The same by one sum of four: the form without its pots first. -/
def terms (C D : List Int) (K : Int) (fs : List FV) : List Frm := ([0, 0, 0], D, K) :: (List.range 3).map fun i => (mulL (C[i]?.getD 0) (fs[i]?.getD noFV).C, mulL (C[i]?.getD 0) (fs[i]?.getD noFV).D, C[i]?.getD 0 * (fs[i]?.getD noFV).K)

theorem zip0 {xs : List Int} (h : xs.length = 3) : List.zipWith (· + ·) [0, 0, 0] xs = xs := by
  match xs, h with
  | [x, y, z], _ => simp
theorem zip02 {xs : List Int} (h : xs.length = 2) : List.zipWith (· + ·) [0, 0] xs = xs := by
  match xs, h with
  | [x, y], _ => simp

theorem terms_sum {C D : List Int} {K : Int} {fs : List FV} (hD : D.length = 2) :
    sumC (terms C D K fs) 4 = intoC C fs 3 ∧ sumD (terms C D K fs) 4 = intoD C D fs 3 ∧ sumK (terms C D K fs) 4 = intoK C K fs 3 := by
  have t0 : (terms C D K fs)[0]? = some ([0, 0, 0], D, K) := rfl
  have t1 : (terms C D K fs)[1]? = some (mulL (C[0]?.getD 0) (fs[0]?.getD noFV).C, mulL (C[0]?.getD 0) (fs[0]?.getD noFV).D, C[0]?.getD 0 * (fs[0]?.getD noFV).K) := rfl
  have t2 : (terms C D K fs)[2]? = some (mulL (C[1]?.getD 0) (fs[1]?.getD noFV).C, mulL (C[1]?.getD 0) (fs[1]?.getD noFV).D, C[1]?.getD 0 * (fs[1]?.getD noFV).K) := rfl
  have t3 : (terms C D K fs)[3]? = some (mulL (C[2]?.getD 0) (fs[2]?.getD noFV).C, mulL (C[2]?.getD 0) (fs[2]?.getD noFV).D, C[2]?.getD 0 * (fs[2]?.getD noFV).K) := rfl
  refine ⟨?_, ?_, ?_⟩
  · simp only [sumC, t0, t1, t2, t3, Option.getD_some, intoC]
    rw [zip0 (xs := [0, 0, 0]) rfl, lin_mul, lin_mul, lin_mul]
  · simp only [sumD, t0, t1, t2, t3, Option.getD_some, intoD]
    rw [zip02 hD, lin_mul, lin_mul, lin_mul]
  · simp only [sumK, t0, t1, t2, t3, Option.getD_some, intoK]
    omega

set_option maxHeartbeats 800000 in
theorem without_any (a : Option Addr) (n cap : Nat) (c : Option Addr) (m cap' : Nat) (K : Int) (w : World) :
    Calls Tryz.prog 177 #[formV a n cap c m cap' K] w fun e w' => ∃ P, e = .returned (formV (some ⟨P, 0, none⟩) 3 3 c m cap' K) ∧ Below w.heap.size w w' ∧ w.heap.size ≤ P ∧ Blk w' P [0, 0, 0] := by
  have hm3 := make3
  go_enter Tryz.func177, Tryz.ntmps177
  go_wp2_with fail
  go_region
  go_wp2
  exact bodyPost_ret (v := formV (some ⟨w.heap.size + 1 + 1, 0, none⟩) 3 3 c m cap' K) (by simp [results, Tryz.results177, go_sem]) rfl ⟨_, rfl, ((((Below.refl _ _).alloc (Nat.le_refl _) _).alloc (by simp) _).alloc (by simp; omega) _).drew, by omega, three2 w _ _ _⟩

end Go.Proofs.YtdigmokjedckeaaGreatDoor
