/-
  The form that is 0, and the form that is one pot, as both texts make them.
-/
import Derived.Test.YtfkcfjkojfnfnaaGreatDoorSums
namespace Go.Proofs.YtfkcfjkojfnfnaaGreatDoor
open Go.RowKit
set_option linter.unusedVariables false

theorem izero_any (w : World) :
    Calls Tryz.prog 99 #[] w fun e w' => ∃ B1 B2, e = .returned (formV (some ⟨B1, 0, none⟩) 3 3 (some ⟨B2, 0, none⟩) 2 2 0) ∧ Below w.heap.size w w' ∧ w.heap.size ≤ B1 ∧ B1 ≠ B2 ∧ w.heap.size ≤ B2 ∧ Blk w' B1 [0, 0, 0] ∧ Blk w' B2 [0, 0] := by
  go_enter Tryz.func99, Tryz.ntmps99
  go_wp2_with fail
  refine (sum_any none 0 0 [] 0 _ rfl (fun i hi => by simp at hi) (fun i hi => by simp at hi) (by omega) (by omega) (by omega)).mono ?_
  rintro e w1 ⟨B1, B2, rfl, b1, h1, h2, h3, k1, k2⟩
  have r := (Cel.new w _ _).below b1
  have r0 := r.cell 0
  have r1 := r.cell 1
  have r2 := r.cell 2
  have r3 := r.free 0
  have r4 := r.free 1
  have r5 := r.free 2
  simp only [List.getElem?_cons_zero, List.getElem?_cons_succ] at r0 r1 r2
  rw [World.size_alloc] at h1 h3
  have hb : Below w.heap.size w w1 := ((Below.refl _ _).alloc (Nat.le_refl _) _).trans (b1.mono (by simp))
  go_wp2
  refine bodyPost_ret (v := formV (some ⟨B1, 0, none⟩) 3 3 (some ⟨B2, 0, none⟩) 2 2 0) (by simp [results, Tryz.results99, go_sem, r0, r1, r2, sumK]) rfl ⟨B1, B2, rfl, ?_, by omega, h2, by omega, ?_, ?_⟩
  · exact ((hb.setCell (Nat.le_refl _) _).setCell (Nat.le_refl _) _).setCell (Nat.le_refl _) _
  · exact ((k1.setOther (by omega) _ _).setOther (by omega) _ _).setOther (by omega) _ _
  · exact ((k2.setOther (by omega) _ _).setOther (by omega) _ _).setOther (by omega) _ _

theorem szero_res (w : World) : Calls Tryz.prog 64 #[] w fun e w' => Res w w' e [0, 0, 0] [0, 0] 0 :=
  (szero_any w).mono fun e w' ⟨B1, B2, he, hb, h1, h2, h3, k1, k2⟩ => Res.of he rfl rfl hb h1 h2 h3 k1 k2
theorem izero_res (w : World) : Calls Tryz.prog 99 #[] w fun e w' => Res w w' e [0, 0, 0] [0, 0] 0 :=
  (izero_any w).mono fun e w' ⟨B1, B2, he, hb, h1, h2, h3, k1, k2⟩ => Res.of he rfl rfl hb h1 h2 h3 k1 k2

/-- The form that is pot v: nothing, if there is no such pot. -/
def potC (v : Int) : List Int := if 0 ≤ v ∧ v ≤ 2 then [0, 0, 0].set v.toNat 1 else []
def potD (v : Int) : List Int := if 0 ≤ v ∧ v ≤ 2 then [0, 0] else []
theorem potC_in (v : Int) (k : Nat) (hv : v = k) (hk : k ≤ 2) : potC v = [0, 0, 0].set k 1 := by subst hv; unfold potC; rw [if_pos (by omega)]; rfl
theorem potD_in (v : Int) (h0 : 0 ≤ v) (h2 : v ≤ 2) : potD v = [0, 0] := by unfold potD; rw [if_pos ⟨h0, h2⟩]
theorem potC_out (v : Int) (h : ¬ (0 ≤ v ∧ v ≤ 2)) : potC v = [] := by unfold potC; rw [if_neg h]
theorem potD_out (v : Int) (h : ¬ (0 ≤ v ∧ v ≤ 2)) : potD v = [] := by unfold potD; rw [if_neg h]
theorem potC_len (v : Int) : (potC v).length ≤ 1048576 := by unfold potC; split <;> simp
theorem potD_len (v : Int) : (potD v).length ≤ 1048576 := by unfold potD; split <;> simp

end Go.Proofs.YtfkcfjkojfnfnaaGreatDoor
