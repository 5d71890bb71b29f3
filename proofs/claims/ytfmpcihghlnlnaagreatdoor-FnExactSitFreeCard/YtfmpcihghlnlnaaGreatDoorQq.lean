/-
  Of four acts there are not so many parts.
-/
import Derived.Test.YtfmpcihghlnlnaaGreatDoorQn
namespace Go.Proofs.YtfmpcihghlnlnaaGreatDoor
open Go.RowKit Go.Deep
open List renaming length_cons → qA
set_option linter.unusedVariables false
set_option maxRecDepth 100000
set_option maxHeartbeats 25600000
theorem goW_guards {ls : List LV} (f : Nat) : ∀ (i : Nat) (y : Way) (r : RowM), r ∈ goW ls f i y -> r.guards.length <= y.guards.length + f := by
 induction f with
 | zero =>
  intro i y r h;simp only [goW, List.mem_singleton] at h;subst h;simp [endW]
 | succ f ih =>
  intro i y r h;rw [goW] at h
  by_cases hi : i < ls.length
  ·rw [if_pos hi] at h
   by_cases h1 : (ls[i]?.getD noLV).kind = 1
   ·rw [if_pos h1, List.mem_append] at h
    rcases h with h | h
    iterate 2
     ·have := ih _ _ _ h;simp only [Way.guard, List.length_append, qA, List.length_nil] at this
      omega
   rw [if_neg h1] at h
   by_cases h2 : (ls[i]?.getD noLV).kind = 2
   ·rw [if_pos h2] at h;have := ih _ _ _ h;simp only [Way.add] at this
    omega
   rw [if_neg h2] at h
   by_cases h3 : (ls[i]?.getD noLV).kind = 3
   ·rw [if_pos h3] at h;have := ih _ _ _ h;simp only [Way.tell] at this
    omega
   rw [if_neg h3, List.mem_singleton] at h;subst h;simp only [stopW]
   omega
  rw [if_neg hi, List.mem_singleton] at h;subst h;simp only [endW]
  omega
theorem addP_most (ps : List (List Int)) (p : List Int) : (addPb ps p).length <= ps.length + 1 := by
 unfold addPb
 split
 ·omega
 simp
theorem guardsP_most (fs : List Frm) : ∀ ps : List (List Int), (guardsP ps fs).length <= ps.length + fs.length := by
 induction fs with
 | nil => intro ps; simp [guardsP]
 | cons f fs ih =>
  intro ps;have h1 := ih (addPb ps (partL f.1));have h2 := addP_most ps (partL f.1);have e : guardsP ps (f :: fs) = guardsP (addPb ps (partL f.1)) fs := rfl;rw [e, qA]
  omega
theorem rowsP_most (rs : List RowM) (M : Nat) : ∀ ps : List (List Int), (∀ r ∈ rs, r.guards.length <= M) -> (rowsP ps rs).length <= ps.length + rs.length * M := by
 induction rs with
 | nil => intro ps _; simp [rowsP]
 | cons r rs ih =>
  intro ps h;have h1 := ih (guardsP ps r.guards) (fun x hx => h x (List.mem_cons_of_mem _ hx));have h2 := guardsP_most r.guards ps;have h3 := h r List.mem_cons_self;have e : rowsP ps (r :: rs) = rowsP (guardsP ps r.guards) rs := rfl;rw [e, qA, Nat.succ_mul]
  omega
theorem actsP_most (ss : List L2V) : ∀ ps : List (List Int), (actsP ps ss).length <= ps.length + ss.length * 896 := by
 induction ss with
 | nil => intro ps; simp [actsP]
 | cons s ss ih =>
  intro ps;have h1 := ih (rowsP ps (rowsL s.x));have h2 := rowsP_most (rowsL s.x) 7 ps (fun r hr => by have := goW_guards 7 0 way0 r hr; simpa [way0] using this);have h3 : (rowsL s.x).length <= 128 := goW_128 (by omega);have h4 : (rowsL s.x).length * 7 <= 128 * 7 := Nat.mul_le_mul_right _ h3;have e : actsP ps (s :: ss) = actsP (rowsP ps (rowsL s.x)) ss := rfl;rw [e, qA]
  omega
theorem catP_le {ss : List L2V} (h : ss.length <= 4) : (catP ss).length <= 600000 := by
 have h1 := actsP_most ss pots3;have h2 : pots3.length = 3 := rfl
 show (actsP pots3 ss).length <= 600000
 omega
end Go.Proofs.YtfmpcihghlnlnaaGreatDoor
