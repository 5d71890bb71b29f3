/-
  How many ways there are through an act, and how many guards and tells each has, over plain lists; forms that lie in memory, as values.
-/
import Derived.Test.YtemcinobgdphnaaCatRS
import Derived.Test.YtemcinobgdphnaaRow
import Derived.Test.YtemcinobgdphnaaRowsS
namespace Go.Proofs.Ytemcinobgdphnaa
open Go.RowKit
set_option linter.unusedVariables false
set_option maxRecDepth 100000

theorem tests_drop_le {ls : List LV} {i j : Nat} (h : i ≤ j) : tests (ls.drop j) ≤ tests (ls.drop i) := by
  have e : ls.drop j = (ls.drop i).drop (j - i) := by rw [List.drop_drop]; congr 1; omega
  rw [e]
  unfold tests
  exact (List.drop_sublist _ _).countP_le
theorem tests_drop_at {ls : List LV} {i : Nat} (h : i < ls.length) : tests (ls.drop i) = (if (ls[i]?.getD noLV).kind = 1 then 1 else 0) + tests (ls.drop (i + 1)) := by
  rw [List.drop_eq_getElem_cons h, List.getElem?_eq_getElem h, Option.getD_some]
  unfold tests
  rw [List.countP_cons]
  by_cases hk : ls[i].kind = 1
  · simp [LV.tst, hk]; omega
  · simp [LV.tst, hk]
/-- From a line on. -/
structure Few (ls : List LV) (i : Nat) (y : Way) (rs : List RowM) : Prop where
  ne : 1 ≤ rs.length
  n : rs.length ≤ 2 ^ tests (ls.drop i)
  g : ∀ r ∈ rs, r.guards.length ≤ y.guards.length + tests (ls.drop i)
  t : ∀ r ∈ rs, r.tells.length ≤ y.tells.length + (ls.length - i)
theorem few_one {ls : List LV} {i : Nat} {y : Way} {r : RowM} (h1 : r.guards.length = y.guards.length) (h2 : r.tells.length ≤ y.tells.length) : Few ls i y [r] :=
  ⟨Nat.le_refl _, Nat.one_le_two_pow, fun x hx => by simp at hx; subst hx; omega, fun x hx => by simp at hx; subst hx; omega⟩
theorem goW_few (ls : List LV) : ∀ (f i : Nat) (y : Way), Few ls i y (goW ls f i y)
  | 0, i, y => few_one rfl (Nat.le_refl _)
  | f + 1, i, y => by
    by_cases hi : i < ls.length
    · have ht := tests_drop_at hi
      rw [goW, if_pos hi]
      generalize ls[i]?.getD noLV = l at *
      by_cases k1 : l.kind = 1
      · rw [if_pos k1]
        rw [if_pos k1] at ht
        have A := goW_few ls f (i + 1) (y.guard (intoX l.f y.pots))
        have B := goW_few ls f (i + 1 + l.skip.toNat) (y.guard (minusX (intoX l.f y.pots)))
        have hm : tests (ls.drop (i + 1 + l.skip.toNat)) ≤ tests (ls.drop (i + 1)) := tests_drop_le (by omega)
        have hg : ∀ f, (y.guard f).guards.length = y.guards.length + 1 := fun f => by simp [Way.guard]
        have ht' : ∀ f, (y.guard f).tells.length = y.tells.length := fun f => rfl
        have hp : 2 ^ tests (ls.drop (i + 1 + l.skip.toNat)) ≤ 2 ^ tests (ls.drop (i + 1)) := Nat.pow_le_pow_right (by omega) hm
        have hq : 2 ^ tests (ls.drop i) = 2 * 2 ^ tests (ls.drop (i + 1)) := by rw [ht, Nat.pow_add]
        have An := A.n
        have Bn := B.n
        have A1 := A.ne
        refine ⟨by rw [List.length_append]; omega, by rw [List.length_append, hq]; omega, fun r hr => ?_, fun r hr => ?_⟩
        · rcases List.mem_append.1 hr with hr | hr
          · have := A.g r hr; rw [hg] at this; omega
          · have := B.g r hr; rw [hg] at this; omega
        · rcases List.mem_append.1 hr with hr | hr
          · have := A.t r hr; rw [ht'] at this; omega
          · have := B.t r hr; rw [ht'] at this; omega
      · rw [if_neg k1]
        rw [if_neg k1, Nat.zero_add] at ht
        by_cases k2 : l.kind = 2
        · rw [if_pos k2]
          have A := goW_few ls f (i + 1) (y.add l.pot.toNat (intoX l.f y.pots))
          exact ⟨A.ne, by rw [ht]; exact A.n, fun r hr => by rw [ht]; exact A.g r hr, fun r hr => by have := A.t r hr; simp only [Way.add] at this; omega⟩
        · rw [if_neg k2]
          by_cases k3 : l.kind = 3
          · rw [if_pos k3]
            have A := goW_few ls f (i + 1) (y.tell (intoX l.f y.pots))
            exact ⟨A.ne, by rw [ht]; exact A.n, fun r hr => by rw [ht]; exact A.g r hr, fun r hr => by have := A.t r hr; simp only [Way.tell, List.length_append, List.length_cons, List.length_nil] at this; omega⟩
          · rw [if_neg k3]
            exact few_one rfl (by simp [stopW])
    · rw [goW_end (by omega)]
      exact few_one rfl (Nat.le_refl _)
theorem rowsL_few {N : Nat} {ls : List LV} (hN : ls.length = N) (h : actB N ls = true) : 1 ≤ (rowsL ls).length ∧ (rowsL ls).length ≤ 2 ^ tests ls ∧ tests ls ≤ 3 ∧ (∀ r ∈ rowsL ls, r.guards.length ≤ 3 ∧ r.tells.length ≤ 6) := by
  have hA := h
  simp only [actB, Bool.and_eq_true, decide_eq_true_eq] at hA
  have F := goW_few ls 7 0 way0
  have h3 : tests ls ≤ 3 := by omega
  refine ⟨F.ne, F.n, h3, fun r hr => ⟨?_, ?_⟩⟩
  · have := F.g r hr
    rw [List.drop_zero] at this
    simp only [way0, List.length_nil] at this
    omega
  · have := F.t r hr
    simp only [way0, List.length_nil] at this
    omega
/-- A row that stops has neither adds nor tells; another has three adds. -/
theorem goW_sh (ls : List LV) : ∀ (f i : Nat) (y : Way), ∀ r ∈ goW ls f i y, (r.stop = true → r.adds.length = 0 ∧ r.tells.length = 0) ∧ (r.stop = false → r.adds.length = 3)
  | 0, i, y, r, hr => by simp only [goW, List.mem_singleton] at hr; subst hr; exact ⟨fun h => absurd h (by simp [endW]), fun _ => by simp [endW]⟩
  | f + 1, i, y, r, hr => by
    rw [goW] at hr
    split at hr
    · split at hr
      · rcases List.mem_append.1 hr with hr | hr
        · exact goW_sh ls f _ _ r hr
        · exact goW_sh ls f _ _ r hr
      · split at hr
        · exact goW_sh ls f _ _ r hr
        · split at hr
          · exact goW_sh ls f _ _ r hr
          · simp only [List.mem_singleton] at hr; subst hr; exact ⟨fun _ => ⟨rfl, rfl⟩, fun h => by cases h⟩
    · simp only [List.mem_singleton] at hr; subst hr; exact ⟨fun h => absurd h (by simp [endW]), fun _ => by simp [endW]⟩

theorem bnd_allB {m : Int} {zs : List Int} (h : bnd m zs) : allB m zs = true := by
  simp only [allB, List.all_eq_true]
  intro x hx
  obtain ⟨i, hi, rfl⟩ := List.getElem_of_mem hx
  have := h i
  rw [List.getElem?_eq_getElem hi] at this
  exact inB_iff.2 ⟨by simpa using this.1, by simpa using this.2⟩
theorem fitX_formB {f : Frm} (h : fitX 10000000 f) : formB 3 2 f.1 f.2.1 f.2.2 = true := by
  obtain ⟨_, _, h3, h4, h5, h6⟩ := h
  simp only [formB, okN, Bool.and_eq_true, bnd_allB h3, bnd_allB h4, and_true, decide_eq_true_eq]
  exact ⟨⟨rfl, rfl⟩, inB_iff.2 ⟨h5, h6⟩⟩
/-- Forms that lie in memory, as values. -/
theorem FormsAt.toG {w : World} {a : Option Addr} {fs : List Frm} (h : FormsAt w a fs) (hfit : ∀ k, k < fs.length → fitX 10000000 (fs[k]?.getD ([], [], 0))) : ∃ gs : List FV, gs.map FV.frm = fs ∧ gs.length = fs.length ∧ FormsG w a gs ∧ gs.all FV.ok = true := by
  have H : ∀ n, n ≤ fs.length → ∃ gs : List FV, gs.map FV.frm = fs.take n ∧ FormsG w a gs ∧ gs.all FV.ok = true := by
    intro n
    induction n with
    | zero => exact fun _ => ⟨[], by simp, fun i hi => by simp at hi, rfl⟩
    | succ n ih =>
      intro hn
      obtain ⟨gs, e, hG, hk⟩ := ih (by omega)
      have hl : gs.length = n := by have := congrArg List.length e; simpa [List.length_take, Nat.min_eq_left (by omega : n ≤ fs.length)] using this
      obtain ⟨b, off, rfl, a1, c1, x1, y1, p0, p1, p2, i1, j1⟩ := h n (by omega)
      have hf := hfit n (by omega)
      have en : fs.take (n + 1) = fs.take n ++ [fs[n]?.getD ([], [], 0)] := by
        rw [List.take_succ_eq_append_getElem (by omega), List.getElem?_eq_getElem (by omega)]; rfl
      generalize fs[n]?.getD ([], [], 0) = f at *
      refine ⟨gs ++ [⟨a1, 3, x1, c1, 2, y1, f.2.2, f.1, f.2.1⟩], ?_, ?_, ?_⟩
      · rw [en, List.map_append, e]; rfl
      · intro i hi
        rw [List.length_append] at hi
        by_cases hin : i < gs.length
        · have := hG i hin
          rw [List.getElem?_append_left hin]
          exact this
        · obtain rfl : i = gs.length := by simp at hi; omega
          rw [List.getElem?_append_right (by omega), Nat.sub_self, hl]
          exact ⟨b, off, rfl, p0, p1, p2, i1, j1, by show 3 ≤ 1048576; omega, by show 2 ≤ 1048576; omega⟩
      · rw [List.all_append, hk, Bool.true_and]
        show (formB 3 2 f.1 f.2.1 f.2.2 && true) = true
        rw [Bool.and_true]
        exact fitX_formB hf
  obtain ⟨gs, e, hG, hk⟩ := H fs.length (Nat.le_refl _)
  rw [List.take_length] at e
  exact ⟨gs, e, by rw [← e, List.length_map], hG, hk⟩

/-- A row that lies in memory, as values; it is ok. -/
theorem row_rowAt {w : World} {ga aa ta : Option Addr} {r : RowM} (hf : RowFit r) (hs : (r.stop = true → r.adds.length = 0 ∧ r.tells.length = 0) ∧ (r.stop = false → r.adds.length = 3)) (f0 : FormsAt w ga r.guards) (f1 : FormsAt w aa r.adds) (f2 : FormsAt w ta r.tells) :
    ∃ gs ls ts, RowAt w ga r.guards.length gs aa r.adds.length ls ta r.tells.length ts ∧ rowB gs ls ts r.adds.length r.tells.length r.stop = true ∧ gs.map FV.frm = r.guards ∧ ls.map FV.frm = r.adds ∧ ts.map FV.frm = r.tells := by
  obtain ⟨gs, e0, l0, G0, k0⟩ := f0.toG hf.g
  obtain ⟨ls, e1, l1, G1, k1⟩ := f1.toG hf.a
  obtain ⟨ts, e2, l2, G2, k2⟩ := f2.toG hf.t
  have z0 := hf.lg
  have z1 := hf.la
  have z2 := hf.lt
  refine ⟨gs, ls, ts, ⟨G0, G1, G2, l0, l1, l2, by omega, by omega, by omega⟩, ?_, e0, e1, e2⟩
  simp only [rowB, k0, k1, k2, Bool.true_and]
  cases h : r.stop
  · rw [hs.2 h]; rfl
  · rw [(hs.1 h).1, (hs.1 h).2]; rfl

end Go.Proofs.Ytemcinobgdphnaa
