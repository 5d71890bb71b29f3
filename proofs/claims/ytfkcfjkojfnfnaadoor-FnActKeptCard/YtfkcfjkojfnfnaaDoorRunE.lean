/-
  What an act leaves, and tells, over plain lists: pots that are ok, at most six numbers, none too great; where it is not done, what was.
-/
import Derived.Test.YtfkcfjkojfnfnaaDoorRunC
namespace Go.Proofs.YtfkcfjkojfnfnaaDoor
open Go.RowKit
set_option linter.unusedVariables false
set_option maxRecDepth 100000

theorem bnd.snoc {M y : Int} {zs : List Int} (h : bnd M zs) (h0 : 0 ≤ M) (h1 : -M ≤ y) (h2 : y ≤ M) : bnd M (zs ++ [y]) := by
  intro i
  by_cases hi : i < zs.length
  · rw [List.getElem?_append_left hi]; exact h i
  · by_cases he : i = zs.length
    · subst he; simp; omega
    · rw [List.getElem?_eq_none (by rw [List.length_append]; simp; omega)]; simp; omega
theorem small_atF {g : LV} {x U : List Int} {M : Int} (hs : smallB g.f.n g.f.m g.f.C g.f.D g.f.K = true) (bV : bnd M x) (bU : bnd 9 U) (hM : 0 ≤ M) : -(6 * M + 56) ≤ atF x U g.f ∧ atF x U g.f ≤ 6 * M + 56 := by
  obtain ⟨_, _, bC, bD, k1, k2⟩ := small_elim hs
  exact (small_at bC bD k1 k2 bV bU hM).2.2
theorem goL_tells (U : List Int) (ls : List LV) (h6 : ls.length ≤ 6) (hall : ls.all LV.ok = true) (bU : bnd 9 U) : ∀ (f i : Nat) (x tl : List Int), (i ≤ 6 → bnd (bd i) x) → tl.length ≤ i → tl.length ≤ 6 → bnd 13000000000 tl → (goL U ls f i x tl).2.2.length ≤ 6 ∧ bnd 13000000000 (goL U ls f i x tl).2.2
  | 0, i, x, tl, hx, hi, h, hb => ⟨h, hb⟩
  | f + 1, i, x, tl, hx, hi, h, hb => by
    unfold goL
    split
    · rename_i hl
      have hok := allL_at hall hl
      have hbx := hx (by omega)
      have hp := bd_pos i
      have h2 := bd_six (n := i) (by omega)
      split
      · rename_i hk
        refine goL_tells U ls h6 hall bU f _ x tl (fun hj => bnd_mono hbx (bd_mono ?_)) ?_ h hb
        · split <;> omega
        · split <;> omega
      · split
        · rename_i hk
          have hs : smallB (ls[i]?.getD noLV).f.n (ls[i]?.getD noLV).f.m (ls[i]?.getD noLV).f.C (ls[i]?.getD noLV).f.D (ls[i]?.getD noLV).f.K = true := by
            have h := hok
            simp only [LV.ok, hk] at h
            exact (line_two h).2.2
          have ha := small_atF hs hbx bU (by omega)
          refine goL_tells U ls h6 hall bU f (i + 1) _ tl (fun _ => ?_) (by omega) h hb
          have := hbx (ls[i]?.getD noLV).pot.toNat
          exact bnd_set (bnd_mono hbx (bd_succ i)) (by simp only [bd]; omega) (by simp only [bd]; omega)
        · split
          · rename_i hk
            have hs : smallB (ls[i]?.getD noLV).f.n (ls[i]?.getD noLV).f.m (ls[i]?.getD noLV).f.C (ls[i]?.getD noLV).f.D (ls[i]?.getD noLV).f.K = true := by
              have h := hok
              simp only [LV.ok, hk] at h
              exact line_three h
            have ha := small_atF hs hbx bU (by omega)
            exact goL_tells U ls h6 hall bU f (i + 1) x _ (fun _ => bnd_mono hbx (bd_succ i)) (by rw [List.length_append]; simp; omega) (by rw [List.length_append]; simp; omega) (hb.snoc (by omega) (by omega) (by omega))
          · exact ⟨h, hb⟩
    · exact ⟨h, hb⟩
/-- What an act that is run leaves and tells. -/
structure RunLeft (c : Int) (tl pl V : List Int) : Prop where
  hc : 1 ≤ c ∧ c ≤ 3
  hp : okN 3 10000 3 pl = true
  hv : c ≠ 1 → pl = V ∧ tl = []
  hn : tl.length ≤ 6
  ht : allB 999999999999 tl = true
theorem bnd_allE {m : Int} {zs : List Int} (h : bnd m zs) : allB m zs = true := by
  unfold allB
  rw [List.all_eq_true]
  intro z hz
  obtain ⟨i, hi, rfl⟩ := List.mem_iff_getElem.1 hz
  have := h i
  rw [List.getElem?_eq_getElem hi] at this
  exact inB_iff.2 this
theorem run_left {N : Nat} {ls : List LV} {V : List Int} {q : Nat} {U : List Int} (hN : ls.length = N) (h : runB N ls 3 V q U = true) (hV : V.length = 3) (hU : U.length = q) : RunLeft (runCode N ls 3 V q U) (runTells N ls 3 V q U) (runPots N ls 3 V q U) V := by
  have h' := h
  simp only [runB, Bool.and_eq_true] at h'
  have h6 := actB_six h'.1.1
  have bV := okN_elim (by omega) h'.1.2
  have bU := okN_elim (by omega) h'.2
  have gt := goL_tells U ls (by omega) h6.2 bU.2 7 0 V [] (fun _ => bV.2) (by simp) (by simp) (fun i => by simp)
  have gl := (goL_len U ls 7 0 V []).1
  cases hs : (runL U ls V).1
  · obtain ⟨x, tl, e⟩ : ∃ x tl, runL U ls V = (false, x, tl) := ⟨(runL U ls V).2.1, (runL U ls V).2.2, by rw [← hs]⟩
    obtain ⟨e1, e2, e3⟩ := run_go h e
    have e' : goL U ls 7 0 V [] = (false, x, tl) := e
    rw [e'] at gt gl
    rw [e1, e2, e3]
    cases hk : okN 3 10000 3 x
    · have c1 : endCode x = 3 := by rw [endCode, hk]; rfl
      have c2 : endTells x tl = [] := by rw [endTells, hk]; rfl
      have c3 : endPots V x = V := by rw [endPots, hk]; rfl
      rw [c1, c2, c3]
      exact ⟨by omega, h'.1.2, fun _ => ⟨rfl, rfl⟩, by simp, rfl⟩
    · have c1 : endCode x = 1 := by rw [endCode, hk]; rfl
      have c2 : endTells x tl = tl := by rw [endTells, hk]; rfl
      have c3 : endPots V x = x := by rw [endPots, hk]; rfl
      rw [c1, c2, c3]
      exact ⟨by omega, hk, fun h => absurd rfl h, gt.1, bnd_allE (bnd_mono gt.2 (by omega))⟩
  · obtain ⟨e1, e2, e3⟩ := run_stop h hs
    rw [e1, e2, e3]
    exact ⟨by omega, h'.1.2, fun _ => ⟨rfl, rfl⟩, by simp, rfl⟩

theorem runB_threeE {N : Nat} {ls : List LV} {p : Nat} {V : List Int} {q : Nat} {U : List Int} (h : runB N ls p V q U = true) : p = 3 ∧ q = 2 ∧ ls.all LV.ok = true ∧ actB N ls = true := by
  unfold runB at h
  simp only [Bool.and_eq_true] at h
  have h1 := (okN_elim (by omega) h.1.2).1
  have h2 := (okN_elim (by omega) h.2).1
  exact ⟨by omega, by omega, (actB_six h.1.1).2, h.1.1⟩
theorem pots_threeE {N : Nat} {ls : List LV} {p : Nat} {V : List Int} {q : Nat} {U : List Int} (h : runB N ls p V q U = true) (hV : V.length = p) : (runPots N ls p V q U).length = 3 := by
  have h3 := (runB_threeE h).1
  have hg := (goL_len U ls 7 0 V []).1
  unfold runPots
  rw [if_pos h]
  split
  · omega
  · unfold endPots
    split
    · unfold runL; omega
    · omega

end Go.Proofs.YtfkcfjkojfnfnaaDoor
