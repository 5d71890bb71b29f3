/-
  Whether nothing was added to pots that are turned in rounds alone, and whether what was added keeps to the treaty of a plan: over plain lists. Lengths at most 1048576.
-/
import Derived.Test.YtacjjhfbnbmnlaaGreatDoorYKeepsS
import Derived.Test.YtacjjhfbnbmnlaaGreatDoorYCatFL
namespace Go.Proofs.YtacjjhfbnbmnlaaGreatDoor
open Go.RowKit Go.Deep
set_option linter.unusedVariables false
set_option maxRecDepth 100000

/-- Nothing was added to a pinned pot, as far as k. -/
def stillTo (R : Nat → Bool) (E : List Int) (k : Nat) : Bool := (List.range k).all fun v => !(R v && decide (E[v]?.getD 0 ≠ 0))
def stillB (R : Nat → Bool) (E : List Int) : Bool := stillTo R E 3
theorem still_succ (R : Nat → Bool) (E : List Int) (k : Nat) : stillTo R E (k + 1) = (stillTo R E k && !(R k && decide (E[k]?.getD 0 ≠ 0))) := by
  rw [stillTo, List.range_succ, List.all_append]; simp [stillTo]
theorem still_no {R : Nat → Bool} {E : List Int} {k : Nat} (h : k < 3) (h1 : R k = true) (h2 : E[k]?.getD 0 ≠ 0) : stillB R E = false := by
  rw [stillB, stillTo, List.all_eq_false]
  exact ⟨k, by simpa using h, by simp [h1, h2]⟩
theorem still_go {R : Nat → Bool} {E : List Int} {k : Nat} (h : stillTo R E k = true) (h1 : R k = false ∨ E[k]?.getD 0 = 0) : stillTo R E (k + 1) = true := by
  rw [still_succ, h]
  rcases h1 with h1 | h1 <;> simp [h1]

set_option maxHeartbeats 800000 in
theorem sstill_any (a : Option Addr) (cap : Nat) (c : Option Addr) (cap' : Nat) (R : Nat → Bool) (E : List Int) (w : World) (hR : BA w a 3 R) (hE : Ints w c 3 E) :
    Calls Tryz.prog 101 #[.slice a 3 cap, .slice c 3 cap'] w fun e w' => e = .returned (.bool (stillB R E)) ∧ w' = w := by
  go_enter Tryz.func101, Tryz.ntmps101
  go_wp2_with fail
  go_loop [5] (fun i => ∃ k : Nat, k ≤ 3 ∧ i = .int .i64 k ∧ stillTo R E k = true) (fun i => 3 - (intOf i).toNat)
  case atStart => exact ⟨0, Nat.zero_le _, rfl, rfl⟩
  case round =>
    obtain ⟨k, hk, rfl, hall⟩ := hrel
    have HA : Hid _ := hall
    clear hall
    by_cases hlt : k < 3
    · obtain ⟨b, off, rfl, hc⟩ := hR k hlt
      obtain ⟨b', off', rfl, hcell'⟩ := hE.pos (by omega)
      have hd := hcell' k hlt
      clear hcell'
      have hlt' : (k : Int) < 3 := by omega
      cases h1 : R k
      · rw [h1] at hc
        go_wp2
        go_round
        case rel => exact ⟨k + 1, by omega, by go_num, still_go HA.out (Or.inl h1)⟩
        case measure => simp [intOf]; omega
      · rw [h1] at hc
        cases h2 : (E[k]?.getD 0 != 0)
        · have h2' : E[k]?.getD 0 = 0 := by simpa using h2
          have H2 : Hid _ := h2'
          clear h2'
          go_wp2
          go_round
          case rel => exact ⟨k + 1, by omega, by go_num, still_go HA.out (Or.inr H2.out)⟩
          case measure => simp [intOf]; omega
        · have H2 : Hid (E[k]?.getD 0 ≠ 0) := by show _ ≠ _; simpa using h2
          go_wp2
          go_ret
          exact ⟨ret_bool (by rw [still_no hlt h1 H2.out]), rfl⟩
    · obtain rfl : k = 3 := by omega
      go_wp2
      go_ret
      exact ⟨ret_bool (by rw [stillB, HA.out]), rfl⟩

set_option maxHeartbeats 800000 in
theorem ipinned_any (a : Option Addr) (cap : Nat) (c : Option Addr) (cap' : Nat) (R : Nat → Bool) (E : List Int) (w : World) (hR : BA w a 3 R) (hE : Ints w c 3 E) :
    Calls Tryz.prog 111 #[.slice a 3 cap, .slice c 3 cap'] w fun e w' => e = .returned (.bool (!stillB R E)) ∧ w' = w := by
  go_enter Tryz.func111, Tryz.ntmps111
  go_wp2_with fail
  go_loop [5, 6, 9] (fun _ _ i => ∃ k : Nat, k ≤ 3 ∧ i = .int .i64 k ∧ stillTo R E k = true) (fun _ _ i => 3 - (intOf i).toNat)
  case atStart => exact ⟨0, Nat.zero_le _, rfl, rfl⟩
  case round =>
    obtain ⟨k, hk, rfl, hall⟩ := hrel
    have HA : Hid _ := hall
    clear hall
    by_cases hlt : k < 3
    · obtain ⟨b, off, rfl, hc⟩ := hR k hlt
      obtain ⟨b', off', rfl, hcell'⟩ := hE.pos (by omega)
      have hd := hcell' k hlt
      clear hcell'
      have hlt' : (k : Int) < 3 := by omega
      cases h1 : R k
      · rw [h1] at hc
        go_wp2
        go_round
        case rel => exact ⟨k + 1, by omega, by go_num, still_go HA.out (Or.inl h1)⟩
        case measure => simp [intOf]; omega
      · rw [h1] at hc
        cases h2 : (E[k]?.getD 0 != 0)
        · have h2' : E[k]?.getD 0 = 0 := by simpa using h2
          have H2 : Hid _ := h2'
          clear h2'
          go_wp2
          go_round
          case rel => exact ⟨k + 1, by omega, by go_num, still_go HA.out (Or.inr H2.out)⟩
          case measure => simp [intOf]; omega
        · have H2 : Hid (E[k]?.getD 0 ≠ 0) := by show _ ≠ _; simpa using h2
          go_wp2
          go_ret
          exact ⟨ret_bool (by rw [still_no hlt h1 H2.out]; rfl), rfl⟩
    · obtain rfl : k = 3 := by omega
      go_wp2
      go_ret
      exact ⟨ret_bool (by rw [stillB, HA.out]; rfl), rfl⟩

/-- What a site has added keeps within a treaty, with these parts. -/
def keepT (n m : Nat) (C D : List Int) (T : List (List Int)) (s : Int) (k : Nat) (E : List Int) : Bool := keepB n m C D (T.map fun x => ⟨none, x.length, 0, x⟩) s k E
theorem keep_of {w : World} {a : Option Addr} {ts : List IV} {T : List (List Int)} (h : ISG w a ts) (hT : ts.map IV.x = T) {n m : Nat} {C D : List Int} {s : Int} {k : Nat} {E : List Int} : keepB n m C D ts s k E = keepT n m C D T s k E := by
  have hl := map_len hT
  refine keepB_copy (by simp [hl]) (fun i hi => ?_)
  obtain ⟨b, off, -, -, hI, -⟩ := h i hi
  have e := map_at hT (i := i) (by omega)
  have e2 : ((T.map fun x => (⟨none, x.length, 0, x⟩ : IV))[i]?.getD noI) = ⟨none, (tF T i).length, 0, tF T i⟩ := by
    rw [List.getElem?_map, tF, List.getElem?_eq_getElem (by omega)]; rfl
  rw [e2]
  exact ⟨by show _ = _; rw [← hI.1, e], e⟩
/-- What follows from it. -/
theorem keepT_elim {n m : Nat} {C D : List Int} {T : List (List Int)} {s : Int} {k : Nat} {E : List Int} (h : keepT n m C D T s k E = true) : okN 3 10000 n C = true ∧ inB s 0 ((m : Int) - 1) = true ∧ k = 3 := by
  have hv : viewB n m C D (T.map fun x => ⟨none, x.length, 0, x⟩) s k E = true := by
    simp only [keepT, keepB, Bool.and_eq_true] at h
    exact h.1
  have e := viewB_elim hv
  simp only [viewB, trtB, Bool.and_eq_true] at hv
  exact ⟨hv.1.1, hv.2.2.1, e.2.2.2.2.2.2.2.1⟩

theorem goW_guards {ls : List LV} (f : Nat) : ∀ (i : Nat) (y : Way) (r : RowM), r ∈ goW ls f i y → r.guards.length ≤ y.guards.length + f := by
  induction f with
  | zero =>
    intro i y r h
    simp only [goW, List.mem_singleton] at h
    subst h
    simp [endW]
  | succ f ih =>
    intro i y r h
    rw [goW] at h
    by_cases hi : i < ls.length
    · rw [if_pos hi] at h
      by_cases h1 : (ls[i]?.getD noLV).kind = 1
      · rw [if_pos h1, List.mem_append] at h
        rcases h with h | h
        · have := ih _ _ _ h
          simp only [Way.guard, List.length_append, List.length_cons, List.length_nil] at this
          omega
        · have := ih _ _ _ h
          simp only [Way.guard, List.length_append, List.length_cons, List.length_nil] at this
          omega
      · rw [if_neg h1] at h
        by_cases h2 : (ls[i]?.getD noLV).kind = 2
        · rw [if_pos h2] at h
          have := ih _ _ _ h
          simp only [Way.add] at this
          omega
        · rw [if_neg h2] at h
          by_cases h3 : (ls[i]?.getD noLV).kind = 3
          · rw [if_pos h3] at h
            have := ih _ _ _ h
            simp only [Way.tell] at this
            omega
          · rw [if_neg h3, List.mem_singleton] at h
            subst h
            simp only [stopW]
            omega
    · rw [if_neg hi, List.mem_singleton] at h
      subst h
      simp only [endW]
      omega
theorem addP_most (ps : List (List Int)) (p : List Int) : (addP ps p).length ≤ ps.length + 1 := by
  unfold addP
  split
  · omega
  · simp
theorem guardsP_most (fs : List Frm) : ∀ ps : List (List Int), (guardsP ps fs).length ≤ ps.length + fs.length := by
  induction fs with
  | nil => intro ps; simp [guardsP]
  | cons f fs ih =>
    intro ps
    have h1 := ih (addP ps (partL f.1))
    have h2 := addP_most ps (partL f.1)
    have e : guardsP ps (f :: fs) = guardsP (addP ps (partL f.1)) fs := rfl
    rw [e, List.length_cons]
    omega
theorem rowsP_most (rs : List RowM) (M : Nat) : ∀ ps : List (List Int), (∀ r ∈ rs, r.guards.length ≤ M) → (rowsP ps rs).length ≤ ps.length + rs.length * M := by
  induction rs with
  | nil => intro ps _; simp [rowsP]
  | cons r rs ih =>
    intro ps h
    have h1 := ih (guardsP ps r.guards) (fun x hx => h x (List.mem_cons_of_mem _ hx))
    have h2 := guardsP_most r.guards ps
    have h3 := h r List.mem_cons_self
    have e : rowsP ps (r :: rs) = rowsP (guardsP ps r.guards) rs := rfl
    rw [e, List.length_cons, Nat.succ_mul]
    omega
theorem actsP_most (ss : List L2V) : ∀ ps : List (List Int), (actsP ps ss).length ≤ ps.length + ss.length * 896 := by
  induction ss with
  | nil => intro ps; simp [actsP]
  | cons s ss ih =>
    intro ps
    have h1 := ih (rowsP ps (rowsL s.x))
    have h2 := rowsP_most (rowsL s.x) 7 ps (fun r hr => by have := goW_guards 7 0 way0 r hr; simpa [way0] using this)
    have h3 : (rowsL s.x).length ≤ 128 := goW_128 (by omega)
    have h4 : (rowsL s.x).length * 7 ≤ 128 * 7 := Nat.mul_le_mul_right _ h3
    have e : actsP ps (s :: ss) = actsP (rowsP ps (rowsL s.x)) ss := rfl
    rw [e, List.length_cons]
    omega
/-- Of four acts there are not so many parts. -/
theorem catP_len {ss : List L2V} (h : ss.length ≤ 4) : (catP ss).length ≤ 600000 := by
  have h1 := actsP_most ss pots3
  have h2 : pots3.length = 3 := rfl
  show (actsP pots3 ss).length ≤ 600000
  omega

end Go.Proofs.YtacjjhfbnbmnlaaGreatDoor
