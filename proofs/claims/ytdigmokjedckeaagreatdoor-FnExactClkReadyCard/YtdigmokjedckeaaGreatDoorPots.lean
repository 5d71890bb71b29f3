/-
  The form that is 0, and the form that is one pot, as both texts make them.
-/
import Derived.Test.YtdigmokjedckeaaGreatDoorSums
namespace Go.Proofs.YtdigmokjedckeaaGreatDoor
open Go.RowKit
set_option linter.unusedVariables false

theorem izero_any (w : World) :
    Calls Tryz.prog 150 #[] w fun e w' => ∃ B1 B2, e = .returned (formV (some ⟨B1, 0, none⟩) 3 3 (some ⟨B2, 0, none⟩) 2 2 0) ∧ Below w.heap.size w w' ∧ w.heap.size ≤ B1 ∧ B1 ≠ B2 ∧ w.heap.size ≤ B2 ∧ Blk w' B1 [0, 0, 0] ∧ Blk w' B2 [0, 0] := by
  go_enter Tryz.func150, Tryz.ntmps150
  go_wp2_with fail
  refine (sum_any none 0 0 [] 0 _ rfl (fun i hi => by simp at hi) (fun i hi => by simp at hi) (by omega) (by omega) (by omega)).mono ?_
  rintro e w1 ⟨B1, B2, rfl, b1, h1, h2, h3, k1, k2⟩
  have r := (Cel.new w _ _).below b1
  have r0 := r.cell 0
  have r1 := r.cell 1
  have r2 := r.cell 2
  have r3 := r.free 0
  have r4 := r.free 1
  have r5 := r.free 2
  simp only [List.getElem?_cons_zero, List.getElem?_cons_succ] at r0 r1 r2
  rw [World.size_alloc] at h1 h3
  have hb : Below w.heap.size w w1 := ((Below.refl _ _).alloc (Nat.le_refl _) _).trans (b1.mono (by simp))
  go_wp2
  refine bodyPost_ret (v := formV (some ⟨B1, 0, none⟩) 3 3 (some ⟨B2, 0, none⟩) 2 2 0) (by simp [results, Tryz.results150, go_sem, r0, r1, r2, sumK]) rfl ⟨B1, B2, rfl, ?_, by omega, h2, by omega, ?_, ?_⟩
  · exact ((hb.setCell (Nat.le_refl _) _).setCell (Nat.le_refl _) _).setCell (Nat.le_refl _) _
  · exact ((k1.setOther (by omega) _ _).setOther (by omega) _ _).setOther (by omega) _ _
  · exact ((k2.setOther (by omega) _ _).setOther (by omega) _ _).setOther (by omega) _ _

theorem szero_res (w : World) : Calls Tryz.prog 62 #[] w fun e w' => Res w w' e [0, 0, 0] [0, 0] 0 :=
  (szero_any w).mono fun e w' ⟨B1, B2, he, hb, h1, h2, h3, k1, k2⟩ => Res.of he rfl rfl hb h1 h2 h3 k1 k2
theorem izero_res (w : World) : Calls Tryz.prog 150 #[] w fun e w' => Res w w' e [0, 0, 0] [0, 0] 0 :=
  (izero_any w).mono fun e w' ⟨B1, B2, he, hb, h1, h2, h3, k1, k2⟩ => Res.of he rfl rfl hb h1 h2 h3 k1 k2

/-- The form that is pot v: nothing, if there is no such pot. -/
def potC (v : Int) : List Int := if 0 ≤ v ∧ v ≤ 2 then [0, 0, 0].set v.toNat 1 else []
def potD (v : Int) : List Int := if 0 ≤ v ∧ v ≤ 2 then [0, 0] else []
theorem potC_in (v : Int) (k : Nat) (hv : v = k) (hk : k ≤ 2) : potC v = [0, 0, 0].set k 1 := by subst hv; unfold potC; rw [if_pos (by omega)]; rfl
theorem potD_in (v : Int) (h0 : 0 ≤ v) (h2 : v ≤ 2) : potD v = [0, 0] := by unfold potD; rw [if_pos ⟨h0, h2⟩]
theorem potC_out (v : Int) (h : ¬ (0 ≤ v ∧ v ≤ 2)) : potC v = [] := by unfold potC; rw [if_neg h]
theorem potD_out (v : Int) (h : ¬ (0 ≤ v ∧ v ≤ 2)) : potD v = [] := by unfold potD; rw [if_neg h]
theorem potC_len (v : Int) : (potC v).length ≤ 1048576 := by unfold potC; split <;> simp
theorem potD_len (v : Int) : (potD v).length ≤ 1048576 := by unfold potD; split <;> simp

set_option maxHeartbeats 800000 in
theorem spot_any (v : Int) (w : World) :
    Calls Tryz.prog 56 #[.int .i64 v] w fun e w' => Res w w' e (potC v) (potD v) 0 := by
  by_cases h : 0 ≤ v ∧ v ≤ 2
  · obtain ⟨h0, h2⟩ := h
    have hi : inB v 0 2 = true := inB_iff.2 ⟨h0, h2⟩
    obtain ⟨k, rfl⟩ := Int.eq_ofNat_of_zero_le h0
    have hk : k < 3 := by omega
    have hk' : (k : Int) < 3 := by omega
    rw [potC_in (k : Int) k rfl (by omega), potD_in (k : Int) (by omega) (by omega)]
    go_enter Tryz.func56, Tryz.ntmps56
    go_wp2_with fail
    refine (in_any _ _ _ _).mono ?_
    rintro e w0 ⟨rfl, rfl⟩
    go_wp2_with fail
    refine (szero_any _).mono ?_
    rintro e w1 ⟨B1, B2, rfl, b1, g1, g2, g3, k1, k2⟩
    rw [World.size_alloc] at g1 g3
    have r := (Cel.new w _ _).below b1
    have hb : Below w.heap.size w w1 := ((Below.refl _ _).alloc (Nat.le_refl _) _).trans (b1.mono (by simp))
    have hrl := r.lt
    have c0 : w1.cell? ⟨B1, k, none⟩ = some (.int .i64 0) := by
      have := k1.cell k (by simpa using hk)
      rw [this]
      match k, hk with
      | 0, _ => rfl
      | 1, _ => rfl
      | 2, _ => rfl
    have c1 := k1.free k
    have hB1 := k1.lt
    have hB2 := k2.lt
    have k3 := k1.set k 1
    have k4 := k2.setOther (B' := B1) (by omega) k (.int .i64 1)
    have r' := r.setOther (B' := B1) (by omega) k (.int .i64 1)
    have hb' := hb.setCell (p := ⟨B1, k, none⟩) (by show w.heap.size ≤ B1; omega) (.int .i64 1)
    have r0 := r'.cell 0
    have r1 := r'.cell 1
    have r2 := r'.cell 2
    have r3 := r'.free 0
    have r4 := r'.free 1
    have r5 := r'.free 2
    simp only [List.getElem?_cons_zero, List.getElem?_cons_succ] at r0 r1 r2
    clear hi
    go_wp2
    refine bodyPost_ret (v := formV (some ⟨B1, 0, none⟩) 3 3 (some ⟨B2, 0, none⟩) 2 2 0) (by simp [results, Tryz.results56, go_sem, r0, r1, r2, hrl]) rfl (Res.of (B1 := B1) (B2 := B2) rfl (by simp) rfl ?_ (by omega) g2 (by omega) ?_ ?_)
    · exact (((hb'.setCell (Nat.le_refl _) _).setCell (Nat.le_refl _) _).setCell (Nat.le_refl _) _).alloc (by rw [size_setCell, size_setCell, size_setCell, size_setCell]; omega) _
    · exact (((k3.setOther (by omega) _ _).setOther (by omega) _ _).setOther (by omega) _ _).alloc _
    · exact (((k4.setOther (by omega) _ _).setOther (by omega) _ _).setOther (by omega) _ _).alloc _
  · have hi : inB v 0 2 = false := inB_not.2 h
    rw [potC_out v h, potD_out v h]
    go_enter Tryz.func56, Tryz.ntmps56
    go_wp2_with fail
    refine (in_any _ _ _ _).mono ?_
    rintro e w0 ⟨rfl, rfl⟩
    go_wp2
    exact bodyPost_ret (v := formV none 0 0 none 0 0 0) (by simp [results, Tryz.results56, go_sem]) rfl (Res.none rfl ((Below.refl _ _).alloc (Nat.le_refl _) _))

set_option maxHeartbeats 800000 in
theorem ipot_any (v : Int) (w : World) :
    Calls Tryz.prog 135 #[.int .i64 v] w fun e w' => Res w w' e (potC v) (potD v) 0 := by
  by_cases h : 0 ≤ v ∧ v ≤ 2
  · obtain ⟨h0, h2⟩ := h
    have hi : inB v 0 2 = true := inB_iff.2 ⟨h0, h2⟩
    obtain ⟨k, rfl⟩ := Int.eq_ofNat_of_zero_le h0
    have hk : k < 3 := by omega
    have hk' : (k : Int) < 3 := by omega
    rw [potC_in (k : Int) k rfl (by omega), potD_in (k : Int) (by omega) (by omega)]
    go_enter Tryz.func135, Tryz.ntmps135
    go_wp2_with fail
    refine (place_any _ _ _).mono ?_
    rintro e w0 ⟨rfl, rfl⟩
    rw [decide_eq_true (show 0 ≤ (k : Int) ∧ (k : Int) < 3 from ⟨h0, hk'⟩)]
    go_wp2_with fail
    refine (izero_any _).mono ?_
    rintro e w1 ⟨B1, B2, rfl, b1, g1, g2, g3, k1, k2⟩
    rw [World.size_alloc] at g1 g3
    have r := (Cel.new w _ _).below b1
    have hb : Below w.heap.size w w1 := ((Below.refl _ _).alloc (Nat.le_refl _) _).trans (b1.mono (by simp))
    have hrl := r.lt
    have c0 : w1.cell? ⟨B1, k, none⟩ = some (.int .i64 0) := by
      have := k1.cell k (by simpa using hk)
      rw [this]
      match k, hk with
      | 0, _ => rfl
      | 1, _ => rfl
      | 2, _ => rfl
    have c1 := k1.free k
    have hB1 := k1.lt
    have hB2 := k2.lt
    have k3 := k1.set k 1
    have k4 := k2.setOther (B' := B1) (by omega) k (.int .i64 1)
    have r' := r.setOther (B' := B1) (by omega) k (.int .i64 1)
    have hb' := hb.setCell (p := ⟨B1, k, none⟩) (by show w.heap.size ≤ B1; omega) (.int .i64 1)
    have r0 := r'.cell 0
    have r1 := r'.cell 1
    have r2 := r'.cell 2
    have r3 := r'.free 0
    have r4 := r'.free 1
    have r5 := r'.free 2
    simp only [List.getElem?_cons_zero, List.getElem?_cons_succ] at r0 r1 r2
    clear hi
    go_wp2
    refine bodyPost_ret (v := formV (some ⟨B1, 0, none⟩) 3 3 (some ⟨B2, 0, none⟩) 2 2 0) (by simp [results, Tryz.results135, go_sem, r0, r1, r2, hrl]) rfl (Res.of (B1 := B1) (B2 := B2) rfl (by simp) rfl ?_ (by omega) g2 (by omega) ?_ ?_)
    · exact (((hb'.setCell (Nat.le_refl _) _).setCell (Nat.le_refl _) _).setCell (Nat.le_refl _) _).alloc (by rw [size_setCell, size_setCell, size_setCell, size_setCell]; omega) _
    · exact (((k3.setOther (by omega) _ _).setOther (by omega) _ _).setOther (by omega) _ _).alloc _
    · exact (((k4.setOther (by omega) _ _).setOther (by omega) _ _).setOther (by omega) _ _).alloc _
  · rw [potC_out v h, potD_out v h]
    go_enter Tryz.func135, Tryz.ntmps135
    go_wp2_with fail
    refine (place_any _ _ _).mono ?_
    rintro e w0 ⟨rfl, rfl⟩
    rw [decide_eq_false (show ¬ (0 ≤ v ∧ v < 3) by omega)]
    go_wp2
    exact bodyPost_ret (v := formV none 0 0 none 0 0 0) (by simp [results, Tryz.results135, go_sem]) rfl (Res.none rfl ((Below.refl _ _).alloc (Nat.le_refl _) _))

end Go.Proofs.YtdigmokjedckeaaGreatDoor
