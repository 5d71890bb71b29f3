/-
  When acts are ok: both functions answer the same. Lengths at most 1048576.
-/
import Derived.Test.YtmhhphpihnkfpaaDoorLineSS
namespace Go.Proofs.YtmhhphpihnkfpaaDoor
open Go.RowKit
set_option linter.unusedVariables false
set_option maxRecDepth 100000

theorem copiesL_same {fs gs hs : List LV} {N : Nat} (hg : gs.length = N) (hh : hs.length = N) (h1 : copiesL fs gs) (h2 : copiesL fs hs) : ∀ i, i < N → sameL (gs[i]?.getD noLV) (hs[i]?.getD noLV) := fun i hi => by
  obtain ⟨a1, a2, a3, a4, a5, a6, _⟩ := h1 i (by omega)
  obtain ⟨b1, b2, b3, b4, b5, b6, _⟩ := h2 i (by omega)
  refine ⟨by rw [a1, b1], by rw [a2, b2], by rw [a3, b3], ?_⟩
  rw [a4, a5, a6, b4, b5, b6]
  exact eqF_refl _ _ _
theorem copiesL_map {α : Type} (P : LV → α) (hP : ∀ f g : LV, f.kind = g.kind → f.pot = g.pot → f.skip = g.skip → f.f.C = g.f.C → f.f.D = g.f.D → f.f.K = g.f.K → f.f.n = g.f.n → f.f.m = g.f.m → P f = P g) {fs gs : List LV} (hl : gs.length = fs.length) (h : copiesL fs gs) : gs.map P = fs.map P := by
  apply List.ext_getElem?
  intro i
  by_cases hi : i < gs.length
  · obtain ⟨a1, a2, a3, a4, a5, a6, a7, a8⟩ := h i hi
    have := hP _ _ a1 a2 a3 a4 a5 a6 a7 a8
    rw [List.getElem?_eq_getElem hi, List.getElem?_eq_getElem (by omega)] at this
    simp only [Option.getD_some] at this
    rw [List.getElem?_map, List.getElem?_map, List.getElem?_eq_getElem hi, List.getElem?_eq_getElem (by omega)]
    simp [this]
  · rw [List.getElem?_eq_none (by simp; omega), List.getElem?_eq_none (by simp; omega)]
theorem copiesL_act {fs gs : List LV} {N : Nat} (hl : gs.length = fs.length) (h : copiesL fs gs) : actB N gs = actB N fs := by
  have h1 := copiesL_map LV.ok (fun f g a1 a2 a3 a4 a5 a6 a7 a8 => by simp only [LV.ok, a1, a2, a3, a4, a5, a6, a7, a8]) hl h
  have h2 := copiesL_map LV.tst (fun f g a1 a2 a3 a4 a5 a6 a7 a8 => by simp only [LV.tst, a1]) hl h
  have e1 : ∀ xs : List LV, xs.all LV.ok = (xs.map LV.ok).all id := fun xs => by simp [List.all_map]
  have e2 : ∀ xs : List LV, tests xs = (xs.map LV.tst).countP id := fun xs => by simp [tests, List.countP_map]
  rw [actB, actB, e1, e1, e2, e2, h1, h2]

def L2V.ok (s : L2V) : Bool := actB s.n s.x
/-- Whether acts are ok. -/
def catB (N : Nat) (ss : List L2V) : Bool := inB N 1 4 && ss.all L2V.ok
theorem allC_take_succ {ls : List L2V} {k : Nat} (h : k < ls.length) (h1 : (ls.take k).all L2V.ok = true) (h2 : (ls[k]?.getD noL).ok = true) : (ls.take (k + 1)).all L2V.ok = true := by
  rw [List.take_succ_eq_append_getElem h, List.all_append, h1]
  rw [List.getElem?_eq_getElem h] at h2
  simpa using h2
theorem allC_no {ls : List L2V} {k : Nat} (h : k < ls.length) (h2 : (ls[k]?.getD noL).ok = false) : ls.all L2V.ok = false := by
  rw [List.all_eq_false]
  rw [List.getElem?_eq_getElem h] at h2
  exact ⟨ls[k], List.getElem_mem h, by simpa using h2⟩

set_option maxHeartbeats 1600000 in
theorem scat_any (ad : Option Addr) (N cap : Nat) (ss : List L2V) (w : World) (hN : ss.length = N) (hF : LSG w ad ss) (hN1 : N ≤ 1048576) :
    Calls Tryd.prog 31 #[.slice ad N cap] w fun e w' => e = .returned (.bool (catB N ss)) ∧ Below w.heap.size w w' := by
  have HN : Hid (ss.length = N) := hN
  clear hN
  cases hib : inB N 1 4
  · go_enter Tryd.func31, Tryd.ntmps31
    go_wp2_with fail
    refine (in_any _ _ _ _).mono ?_
    rintro e w1 ⟨rfl, rfl⟩
    rw [hib]
    go_wp2
    go_ret
    exact ⟨ret_bool (by rw [catB, hib]; rfl), Below.refl _ _⟩
  go_enter Tryd.func31, Tryd.ntmps31
  go_wp2_with fail
  refine (in_any _ _ _ _).mono ?_
  rintro e w1 ⟨rfl, hw1⟩
  rw [hib, hw1]
  clear hw1
  go_wp2_with fail
  have HCB : Hid (catB N ss = ss.all L2V.ok) := by show catB N ss = _; rw [catB, hib]; rfl
  go_loopw [3] (fun  i wr => ∃ k : Nat, k ≤ N ∧ i = .int .i64 k ∧ Below w.heap.size w wr ∧ (ss.take k).all L2V.ok = true) (fun i _ => N - (intOf i).toNat)
  case atStart => exact ⟨0, Nat.zero_le _, rfl, Below.refl _ _, by simp⟩
  case round =>
    obtain ⟨k, hk, rfl, hb, hall⟩ := hrel
    have HA : Hid ((ss.take k).all L2V.ok = true) := hall
    clear hall
    by_cases hlt : k < N
    · obtain ⟨b, off, rfl, hc, hr⟩ := (hF.below hb) k (by rw [HN.out]; exact hlt)
      generalize HG : ss[k]?.getD noL = g at *
      have HG' : Hid (ss[k]?.getD noL = g) := HG
      clear HG hF
      obtain ⟨ga, gn, gcap, gx⟩ := g
      have hc' : wr.cell? ⟨b, off + k, none⟩ = some (.slice ga gn gcap) := hc
      clear hc
      cases hf : actB gn gx
      · go_wp2_with fail
        refine (sact_any _ _ _ gx _ hr.1 hr.2.1 hr.2.2).mono ?_
        rintro e w1 ⟨rfl, b1⟩
        rw [hf]
        go_wp2
        go_ret
        exact ⟨ret_bool (by rw [HCB.out, allC_no (k := k) (by rw [HN.out]; exact hlt) (by rw [HG'.out]; exact hf)]), hb.trans (b1.mono hb.size)⟩
      · go_wp2_with fail
        refine (sact_any _ _ _ gx _ hr.1 hr.2.1 hr.2.2).mono ?_
        rintro e w1 ⟨rfl, b1⟩
        rw [hf]
        go_wp2
        go_roundw
        case rel => exact ⟨k + 1, by omega, by go_num, hb.trans (b1.mono hb.size), allC_take_succ (by rw [HN.out]; exact hlt) HA.out (by rw [HG'.out]; exact hf)⟩
        case measure => simp [intOf]; omega
    · go_wp2
      go_ret
      exact ⟨ret_bool (by rw [HCB.out]; have := HA.out; rw [List.take_of_length_le (by rw [HN.out]; omega)] at this; exact this.symm), hb⟩

set_option maxHeartbeats 1600000 in
theorem icat_any (ad : Option Addr) (N cap : Nat) (ss : List L2V) (w : World) (hN : ss.length = N) (hF : LSG w ad ss) (hN1 : N ≤ 1048576) :
    Calls Tryd.prog 38 #[.slice ad N cap] w fun e w' => e = .returned (.bool (catB N ss)) ∧ Below w.heap.size w w' := by
  have HN : Hid (ss.length = N) := hN
  clear hN
  by_cases h1 : N < 1
  · have hib : inB N 1 4 = false := inB_not.2 (by omega)
    go_enter Tryd.func38, Tryd.ntmps38
    go_wp2
    go_ret
    exact ⟨ret_bool (by rw [catB, hib]; rfl), Below.refl _ _⟩
  by_cases h4 : 4 < N
  · have hib : inB N 1 4 = false := inB_not.2 (by omega)
    go_enter Tryd.func38, Tryd.ntmps38
    go_wp2
    go_ret
    exact ⟨ret_bool (by rw [catB, hib]; rfl), Below.refl _ _⟩
  have hib : inB N 1 4 = true := inB_iff.2 (by omega)
  go_enter Tryd.func38, Tryd.ntmps38
  go_wp2_with fail
  have HCB : Hid (catB N ss = ss.all L2V.ok) := by show catB N ss = _; rw [catB, hib]; rfl
  go_loopw [4, 15] (fun _ i wr => ∃ k : Nat, k ≤ N ∧ i = .int .i64 k ∧ Below w.heap.size w wr ∧ (ss.take k).all L2V.ok = true) (fun _ i _ => N - (intOf i).toNat)
  case atStart => exact ⟨0, Nat.zero_le _, rfl, Below.refl _ _, by simp⟩
  case round =>
    obtain ⟨k, hk, rfl, hb, hall⟩ := hrel
    have HA : Hid ((ss.take k).all L2V.ok = true) := hall
    clear hall
    by_cases hlt : k < N
    · obtain ⟨b, off, rfl, hc, hr⟩ := (hF.below hb) k (by rw [HN.out]; exact hlt)
      generalize HG : ss[k]?.getD noL = g at *
      have HG' : Hid (ss[k]?.getD noL = g) := HG
      clear HG hF
      obtain ⟨ga, gn, gcap, gx⟩ := g
      have hc' : wr.cell? ⟨b, off + k, none⟩ = some (.slice ga gn gcap) := hc
      clear hc
      cases hf : actB gn gx
      · go_wp2_with fail
        refine (iact_any _ _ _ gx _ hr.1 hr.2.1 hr.2.2).mono ?_
        rintro e w1 ⟨rfl, b1⟩
        rw [hf]
        go_wp2
        go_ret
        exact ⟨ret_bool (by rw [HCB.out, allC_no (k := k) (by rw [HN.out]; exact hlt) (by rw [HG'.out]; exact hf)]), hb.trans (b1.mono hb.size)⟩
      · go_wp2_with fail
        refine (iact_any _ _ _ gx _ hr.1 hr.2.1 hr.2.2).mono ?_
        rintro e w1 ⟨rfl, b1⟩
        rw [hf]
        go_wp2
        go_roundw
        case rel => exact ⟨k + 1, by omega, by go_num, hb.trans (b1.mono hb.size), allC_take_succ (by rw [HN.out]; exact hlt) HA.out (by rw [HG'.out]; exact hf)⟩
        case measure => simp [intOf]; omega
    · go_wp2
      go_ret
      exact ⟨ret_bool (by rw [HCB.out]; have := HA.out; rw [List.take_of_length_le (by rw [HN.out]; omega)] at this; exact this.symm), hb⟩

end Go.Proofs.YtmhhphpihnkfpaaDoor
