/-
  When an act is ok: both functions answer the same; the steps that the program makes of an act that is ok. Lengths at most 1048576.
-/
import Derived.Test.YtpnldfembbfgdaaLineS
namespace Go.Proofs.Ytpnldfembbfgdaa
open Go.ChangeShapes Go.WideShapes Go.ChangeAt Go.RowKit Go.Joins Go.Deep
set_option linter.unusedVariables false
set_option maxRecDepth 100000

def LV.ok (l : LV) : Bool := lineB l.kind l.pot l.skip l.f.n l.f.m l.f.C l.f.D l.f.K
def LV.tst (l : LV) : Bool := l.kind == 1
/-- How many tests there are. -/
def tests (ls : List LV) : Nat := ls.countP LV.tst
/-- Whether an act is ok. -/
def actB (N : Nat) (ls : List LV) : Bool := decide ((N : Int) ≤ 6) && ls.all LV.ok && decide ((tests ls : Int) ≤ 3)

theorem allL_take_succ {ls : List LV} {k : Nat} (h : k < ls.length) (h1 : (ls.take k).all LV.ok = true) (h2 : (ls[k]?.getD noLV).ok = true) : (ls.take (k + 1)).all LV.ok = true := by
  rw [List.take_succ_eq_append_getElem h, List.all_append, h1]
  rw [List.getElem?_eq_getElem h] at h2
  simpa using h2
theorem allL_no {ls : List LV} {k : Nat} (h : k < ls.length) (h2 : (ls[k]?.getD noLV).ok = false) : ls.all LV.ok = false := by
  rw [List.all_eq_false]
  rw [List.getElem?_eq_getElem h] at h2
  exact ⟨ls[k], List.getElem_mem h, by simpa using h2⟩
theorem tests_succ {ls : List LV} {k : Nat} (h : k < ls.length) : tests (ls.take (k + 1)) = tests (ls.take k) + (if (ls[k]?.getD noLV).tst then 1 else 0) := by
  unfold tests
  rw [List.take_succ_eq_append_getElem h, List.countP_append, List.getElem?_eq_getElem h]
  simp [List.countP_cons]
theorem tests_le (ls : List LV) (k : Nat) : tests (ls.take k) ≤ k := by
  unfold tests
  exact Nat.le_trans List.countP_le_length (by simp; omega)
theorem tests_yes {ls : List LV} {k : Nat} (h : k < ls.length) {g : LV} (hg : ls[k]?.getD noLV = g) (hk : g.kind = 1) : tests (ls.take (k + 1)) = tests (ls.take k) + 1 := by
  rw [tests_succ h, hg, LV.tst, hk]; rfl
theorem tests_no {ls : List LV} {k : Nat} (h : k < ls.length) {g : LV} (hg : ls[k]?.getD noLV = g) (hk : (g.kind == 1) = false) : tests (ls.take (k + 1)) = tests (ls.take k) := by
  rw [tests_succ h, hg, LV.tst, hk]; rfl

set_option maxHeartbeats 1600000 in
theorem sact_any (ad : Option Addr) (N cap : Nat) (ls : List LV) (w : World) (hN : ls.length = N) (hF : LinesG w ad ls) (hN1 : N ≤ 1048576) :
    Calls Try.prog 86 #[.slice ad N cap] w fun e w' => e = .returned (.bool (actB N ls)) ∧ Below w.heap.size w w' := by
  have HN : Hid (ls.length = N) := hN
  clear hN
  go_enter Try.func86, Try.ntmps86
  go_wp2_with fail
  go_loopw [3, 4] (fun t i wr => ∃ k : Nat, k ≤ N ∧ i = .int .i64 k ∧ (∃ j : Nat, j ≤ k ∧ t = .int .i64 j ∧ j = tests (ls.take k)) ∧ Below w.heap.size w wr ∧ (ls.take k).all LV.ok = true) (fun _ i _ => N - (intOf i).toNat)
  case atStart => exact ⟨0, Nat.zero_le _, rfl, ⟨0, Nat.le_refl _, rfl, rfl⟩, Below.refl _ _, by simp⟩
  case round =>
    obtain ⟨k, hk, rfl, ⟨j, hj, rfl, hjt⟩, hb, hall⟩ := hrel
    have HA : Hid ((ls.take k).all LV.ok = true) := hall
    have HJ : Hid (j = tests (ls.take k)) := hjt
    clear hall hjt
    by_cases hlt : k < N
    · obtain ⟨b, off, rfl, hc, hAt⟩ := (hF.below hb) k (by rw [HN.out]; exact hlt)
      generalize HG : ls[k]?.getD noLV = g at *
      have HG' : Hid (ls[k]?.getD noLV = g) := HG
      clear HG hF
      obtain ⟨e0, e1, e2, e3, e4, e5⟩ := six_of hc
      have HC : Hid _ := hc
      clear hc
      obtain ⟨gk, gp, gz, ⟨ga, gn, gcap, gc, gm, gcap', gK, gC, gD⟩⟩ := g
      obtain ⟨iC, iD, hn, hm⟩ := hAt
      simp only at e0 e1 e2 e3 e4 e5 iC iD hn hm
      cases hf : lineB gk gp gz gn gm gC gD gK
      · go_wp2_with fail
        refine (sline_any _ _ _ _ _ _ _ _ _ _ gC gD _ iC iD hn hm).mono ?_
        rintro e w1 ⟨rfl, b1⟩
        have B1 := hb.trans (b1.mono hb.size)
        rw [hf]
        go_wp2
        go_ret
        exact ⟨ret_bool (by rw [actB, allL_no (k := k) (by rw [HN.out]; exact hlt) (by rw [HG'.out]; exact hf)]; simp), B1⟩
      · by_cases h1 : gk = 1
        · subst h1
          have HT : Hid (j + 1 = tests (ls.take (k + 1))) := by show j + 1 = _; rw [tests_yes (by rw [HN.out]; exact hlt) HG'.out rfl, ← HJ.out]
          go_wp2_with fail
          refine (sline_any _ _ _ _ _ _ _ _ _ _ gC gD _ iC iD hn hm).mono ?_
          rintro e w1 ⟨rfl, b1⟩
          have B1 := hb.trans (b1.mono hb.size)
          obtain ⟨f0, f1, f2, f3, f4, f5⟩ := six_of (cells_below HC.out b1)
          simp only at f0
          clear b1 hb iC iD e0 e1 e2 e3 e4 e5 f1 f2 f3 f4 f5
          rw [hf]
          go_wp2
          go_roundw
          case rel => exact ⟨k + 1, by omega, by go_num, ⟨j + 1, by omega, by go_num, HT.out⟩, B1, allL_take_succ (by rw [HN.out]; exact hlt) HA.out (by rw [HG'.out]; exact hf)⟩
          case measure => simp [intOf]; omega
        · have h1' : (gk == 1) = false := by simp [h1]
          have HT : Hid (j = tests (ls.take (k + 1))) := by show j = _; rw [tests_no (by rw [HN.out]; exact hlt) HG'.out h1', ← HJ.out]
          go_wp2_with fail
          refine (sline_any _ _ _ _ _ _ _ _ _ _ gC gD _ iC iD hn hm).mono ?_
          rintro e w1 ⟨rfl, b1⟩
          have B1 := hb.trans (b1.mono hb.size)
          obtain ⟨f0, f1, f2, f3, f4, f5⟩ := six_of (cells_below HC.out b1)
          simp only at f0
          clear b1 hb iC iD e0 e1 e2 e3 e4 e5 f1 f2 f3 f4 f5
          rw [hf]
          go_wp2
          go_roundw
          case rel => exact ⟨k + 1, by omega, by go_num, ⟨j, by omega, rfl, HT.out⟩, B1, allL_take_succ (by rw [HN.out]; exact hlt) HA.out (by rw [HG'.out]; exact hf)⟩
          case measure => simp [intOf]; omega
    · obtain rfl : k = N := by omega
      have HT : Hid (ls.take k = ls) := List.take_of_length_le (by rw [HN.out]; omega)
      have HAB : Hid (actB k ls = (decide ((k : Int) ≤ 6) && decide ((j : Int) ≤ 3))) := by
        show actB k ls = _
        have h1 := HA.out
        have h2 := HJ.out
        rw [HT.out] at h1 h2
        rw [actB, h1, ← h2, Bool.and_true]
      by_cases h6 : (k : Int) ≤ 6
      · go_wp2
        go_ret
        exact ⟨ret_bool (by rw [HAB.out]; simp; omega), hb⟩
      · go_wp2
        go_ret
        exact ⟨ret_bool (by rw [HAB.out]; simp; omega), hb⟩

end Go.Proofs.Ytpnldfembbfgdaa
