/-
  Texts that the claim's last one rests on, behind one another: Act, Ways, Keyed, Copy, Minus, Pots, RowEnd, WalkL.
-/
import Derived.Test.YtacjjhfbnbmnlaaGreatDoorPackC
import Derived.Test.YtacjjhfbnbmnlaaGreatDoorPackA
import Derived.Deep.RegionHeld3
import Derived.RegionTactic
import Derived.Deep.DeepCutAuto
namespace Go.Proofs.YtacjjhfbnbmnlaaGreatDoor
open Go.ChangeShapes Go.WideShapes Go.ChangeAt Go.RowKit Go.Joins Go.Deep
set_option linter.unusedVariables false
set_option maxRecDepth 100000

def LV.ok (l : LV) : Bool := lineB l.kind l.pot l.skip l.f.n l.f.m l.f.C l.f.D l.f.K
def LV.tst (l : LV) : Bool := l.kind == 1
/-- How many tests there are. -/
def tests (ls : List LV) : Nat := ls.countP LV.tst
/-- Whether an act is ok. -/
def actB (N : Nat) (ls : List LV) : Bool := decide ((N : Int) ≤ 6) && ls.all LV.ok && decide ((tests ls : Int) ≤ 3)

theorem allL_take_succ {ls : List LV} {k : Nat} (h : k < ls.length) (h1 : (ls.take k).all LV.ok = true) (h2 : (ls[k]?.getD noLV).ok = true) : (ls.take (k + 1)).all LV.ok = true := by
  rw [List.take_succ_eq_append_getElem h, List.all_append, h1]
  rw [List.getElem?_eq_getElem h] at h2
  simpa using h2
theorem allL_no {ls : List LV} {k : Nat} (h : k < ls.length) (h2 : (ls[k]?.getD noLV).ok = false) : ls.all LV.ok = false := by
  rw [List.all_eq_false]
  rw [List.getElem?_eq_getElem h] at h2
  exact ⟨ls[k], List.getElem_mem h, by simpa using h2⟩
theorem tests_succ {ls : List LV} {k : Nat} (h : k < ls.length) : tests (ls.take (k + 1)) = tests (ls.take k) + (if (ls[k]?.getD noLV).tst then 1 else 0) := by
  unfold tests
  rw [List.take_succ_eq_append_getElem h, List.countP_append, List.getElem?_eq_getElem h]
  simp [List.countP_cons]
theorem tests_le (ls : List LV) (k : Nat) : tests (ls.take k) ≤ k := by
  unfold tests
  exact Nat.le_trans List.countP_le_length (by simp; omega)
theorem tests_yes {ls : List LV} {k : Nat} (h : k < ls.length) {g : LV} (hg : ls[k]?.getD noLV = g) (hk : g.kind = 1) : tests (ls.take (k + 1)) = tests (ls.take k) + 1 := by
  rw [tests_succ h, hg, LV.tst, hk]; rfl
theorem tests_no {ls : List LV} {k : Nat} (h : k < ls.length) {g : LV} (hg : ls[k]?.getD noLV = g) (hk : (g.kind == 1) = false) : tests (ls.take (k + 1)) = tests (ls.take k) := by
  rw [tests_succ h, hg, LV.tst, hk]; rfl

set_option maxHeartbeats 1600000 in
theorem sact_any (ad : Option Addr) (N cap : Nat) (ls : List LV) (w : World) (hN : ls.length = N) (hF : LinesG w ad ls) (hN1 : N ≤ 1048576) :
    Calls Tryz.prog 142 #[.slice ad N cap] w fun e w' => e = .returned (.bool (actB N ls)) ∧ Below w.heap.size w w' := by
  have HN : Hid (ls.length = N) := hN
  clear hN
  go_enter Tryz.func142, Tryz.ntmps142
  go_wp2_with fail
  go_loopw [3, 4] (fun t i wr => ∃ k : Nat, k ≤ N ∧ i = .int .i64 k ∧ (∃ j : Nat, j ≤ k ∧ t = .int .i64 j ∧ j = tests (ls.take k)) ∧ Below w.heap.size w wr ∧ (ls.take k).all LV.ok = true) (fun _ i _ => N - (intOf i).toNat)
  case atStart => exact ⟨0, Nat.zero_le _, rfl, ⟨0, Nat.le_refl _, rfl, rfl⟩, Below.refl _ _, by simp⟩
  case round =>
    obtain ⟨k, hk, rfl, ⟨j, hj, rfl, hjt⟩, hb, hall⟩ := hrel
    have HA : Hid ((ls.take k).all LV.ok = true) := hall
    have HJ : Hid (j = tests (ls.take k)) := hjt
    clear hall hjt
    by_cases hlt : k < N
    · obtain ⟨b, off, rfl, hc, hAt⟩ := (hF.below hb) k (by rw [HN.out]; exact hlt)
      generalize HG : ls[k]?.getD noLV = g at *
      have HG' : Hid (ls[k]?.getD noLV = g) := HG
      clear HG hF
      obtain ⟨e0, e1, e2, e3, e4, e5⟩ := six_of hc
      have HC : Hid _ := hc
      clear hc
      obtain ⟨gk, gp, gz, ⟨ga, gn, gcap, gc, gm, gcap', gK, gC, gD⟩⟩ := g
      obtain ⟨iC, iD, hn, hm⟩ := hAt
      simp only at e0 e1 e2 e3 e4 e5 iC iD hn hm
      cases hf : lineB gk gp gz gn gm gC gD gK
      · go_wp2_with fail
        refine (sline_any _ _ _ _ _ _ _ _ _ _ gC gD _ iC iD hn hm).mono ?_
        rintro e w1 ⟨rfl, b1⟩
        have B1 := hb.trans (b1.mono hb.size)
        rw [hf]
        go_wp2
        go_ret
        exact ⟨ret_bool (by rw [actB, allL_no (k := k) (by rw [HN.out]; exact hlt) (by rw [HG'.out]; exact hf)]; simp), B1⟩
      · by_cases h1 : gk = 1
        · subst h1
          have HT : Hid (j + 1 = tests (ls.take (k + 1))) := by show j + 1 = _; rw [tests_yes (by rw [HN.out]; exact hlt) HG'.out rfl, ← HJ.out]
          go_wp2_with fail
          refine (sline_any _ _ _ _ _ _ _ _ _ _ gC gD _ iC iD hn hm).mono ?_
          rintro e w1 ⟨rfl, b1⟩
          have B1 := hb.trans (b1.mono hb.size)
          obtain ⟨f0, f1, f2, f3, f4, f5⟩ := six_of (cells_below HC.out b1)
          simp only at f0
          clear b1 hb iC iD e0 e1 e2 e3 e4 e5 f1 f2 f3 f4 f5
          rw [hf]
          go_wp2
          go_roundw
          case rel => exact ⟨k + 1, by omega, by go_num, ⟨j + 1, by omega, by go_num, HT.out⟩, B1, allL_take_succ (by rw [HN.out]; exact hlt) HA.out (by rw [HG'.out]; exact hf)⟩
          case measure => simp [intOf]; omega
        · have h1' : (gk == 1) = false := by simp [h1]
          have HT : Hid (j = tests (ls.take (k + 1))) := by show j = _; rw [tests_no (by rw [HN.out]; exact hlt) HG'.out h1', ← HJ.out]
          go_wp2_with fail
          refine (sline_any _ _ _ _ _ _ _ _ _ _ gC gD _ iC iD hn hm).mono ?_
          rintro e w1 ⟨rfl, b1⟩
          have B1 := hb.trans (b1.mono hb.size)
          obtain ⟨f0, f1, f2, f3, f4, f5⟩ := six_of (cells_below HC.out b1)
          simp only at f0
          clear b1 hb iC iD e0 e1 e2 e3 e4 e5 f1 f2 f3 f4 f5
          rw [hf]
          go_wp2
          go_roundw
          case rel => exact ⟨k + 1, by omega, by go_num, ⟨j, by omega, rfl, HT.out⟩, B1, allL_take_succ (by rw [HN.out]; exact hlt) HA.out (by rw [HG'.out]; exact hf)⟩
          case measure => simp [intOf]; omega
    · obtain rfl : k = N := by omega
      have HT : Hid (ls.take k = ls) := List.take_of_length_le (by rw [HN.out]; omega)
      have HAB : Hid (actB k ls = (decide ((k : Int) ≤ 6) && decide ((j : Int) ≤ 3))) := by
        show actB k ls = _
        have h1 := HA.out
        have h2 := HJ.out
        rw [HT.out] at h1 h2
        rw [actB, h1, ← h2, Bool.and_true]
      by_cases h6 : (k : Int) ≤ 6
      · go_wp2
        go_ret
        exact ⟨ret_bool (by rw [HAB.out]; simp; omega), hb⟩
      · go_wp2
        go_ret
        exact ⟨ret_bool (by rw [HAB.out]; simp; omega), hb⟩

/-- Steps that have been made since w. -/
structure JS (w : World) (v : Value) (xs : List Value) (W : World) : Prop where
  b : Below w.heap.size w W
  o : W.ownsRow w.heap.size 254 1 v xs.length xs
theorem JS.nil (w : World) : JS w (.slice none 0 0) [] w := ⟨Below.refl _ _, World.ownsRow_nil w _ _ _⟩
theorem JS.below {w W W' : World} {v : Value} {xs : List Value} (j : JS w v xs W) (h : Below W.heap.size W W') : JS w v xs W' := by
  refine ⟨j.b.trans (h.mono j.b.size), j.o.1, ?_⟩
  rcases j.o.2 with h2 | ⟨g, cap, cur, hv, hg, hh, r⟩
  · exact Or.inl h2
  · exact Or.inr ⟨g, cap, cur, hv, hg, by rw [h.block g (lt_of_block hh)]; exact hh, r⟩
theorem JS.alloc {w W : World} {v : Value} {xs : List Value} (j : JS w v xs W) (o : Obj) : JS w v xs (W.alloc o) := j.below ((Below.refl _ _).alloc (Nat.le_refl _) _)
theorem JS.app {w W W' : World} {v : Value} {xs : List Value} {y : Value} {g cap k : Nat} {o : Obj} (j : JS w v xs W) (hk : xs.length = k) (hown : W'.ownsRow w.heap.size 254 1 (.slice (some ⟨g, 0, none⟩) (k + 1) cap) (k + 1) (xs ++ [y])) (hg : (W.alloc o).grownBy W' v.ownBlock) :
    JS w (.slice (some ⟨g, 0, none⟩) (k + 1) cap) (xs ++ [y]) W' := by
  have j' := j.alloc o
  refine ⟨j'.b.grown hg j'.b.size (fun k hk => (j'.o.lt k hk).1), ?_⟩
  rw [List.length_append, hk]
  exact hown
theorem stepV_one (l : LV) : (stepV l).oneCell' = true := by
  unfold stepV
  split
  · rfl
  · split
    · rfl
    · split
      · rfl
      · split <;> rfl
theorem stepV_iface {l : LV} (h : l.ok = true) : ∃ ty v, stepV l = .iface ty v := by
  unfold stepV
  by_cases h1 : l.kind = 1
  · rw [if_pos h1]; exact ⟨_, _, rfl⟩
  by_cases h2 : l.kind = 2
  · rw [if_neg h1, if_pos h2]; exact ⟨_, _, rfl⟩
  by_cases h3 : l.kind = 3
  · rw [if_neg h1, if_neg h2, if_pos h3]; exact ⟨_, _, rfl⟩
  by_cases h4 : l.kind = 4
  · rw [if_neg h1, if_neg h2, if_neg h3, if_pos h4]; exact ⟨_, _, rfl⟩
  simp [LV.ok, lineB, h1, h2, h3, h4] at h
theorem news_one (w : World) (x : Value) (t : TypeId) : ∀ j u, [x][j]? = some u → (w.alloc (.cells #[x] t)).cell? ((⟨w.heap.size, 0, none⟩ : Addr).add j) = some u := fun j u hu => by
  match j, hu with
  | 0, hu =>
    simp only [List.getElem?_cons_zero, Option.some.injEq] at hu
    subst hu
    simp [Addr.add]
theorem Tryz.infoStep : (Tryz.prog.info? 254).map (fun i => (i.zero, i.size, i.bytes)) = some (some .nilIface, 1, 16) := by kernel_rfl

set_option maxHeartbeats 3200000 in
theorem isteps_any (ad : Option Addr) (N cap : Nat) (ls : List LV) (w : World) (hN : ls.length = N) (hF : LinesG w ad ls) (hN1 : N ≤ 1048576) :
    Calls Tryz.prog 182 #[.slice ad N cap] w fun e w' => ∃ sv, e = .returned (.tuple #[sv, .bool (actB N ls)]) ∧ Below w.heap.size w w' ∧ (actB N ls = true → JS w sv (ls.map stepV) w') := by
  have HN : Hid (ls.length = N) := hN
  clear hN
  obtain ⟨i0, hi, hz0, hz1, hz2⟩ := info_parts Tryz.infoStep
  by_cases h6 : 6 < N
  · have HB : Hid (actB N ls = false) := by show actB N ls = false; rw [actB, decide_eq_false (by omega)]; rfl
    go_enter Tryz.func182, Tryz.ntmps182
    go_wp2
    go_ret2
    exact ⟨_, ret_step rfl HB.out.symm, Below.refl _ _, fun h => by rw [HB.out] at h; cases h⟩
  have h6' : N ≤ 6 := by omega
  clear h6
  go_enter Tryz.func182, Tryz.ntmps182
  go_wp2_with fail
  go_loopw [4, 5, 7, 8, 9, 15] (fun v t _ _ _ i wr => ∃ k : Nat, k ≤ N ∧ i = .int .i64 k ∧ (∃ j : Nat, j ≤ k ∧ t = .int .i64 j ∧ j = tests (ls.take k)) ∧ (∃ xs : List Value, xs.length = k ∧ xs = (ls.take k).map stepV ∧ JS w v xs wr) ∧ (ls.take k).all LV.ok = true) (fun _ _ _ _ _ i _ => N - (intOf i).toNat)
  case atStart => exact ⟨0, Nat.zero_le _, rfl, ⟨0, Nat.le_refl _, rfl, rfl⟩, ⟨[], rfl, rfl, JS.nil w⟩, by simp⟩
  case round =>
    obtain ⟨k, hk, rfl, ⟨j, hj, rfl, hjt⟩, ⟨xs, hxl, hxs, jj⟩, hall⟩ := hrel
    have HA : Hid ((ls.take k).all LV.ok = true) := hall
    have HJ : Hid (j = tests (ls.take k)) := hjt
    have HXL : Hid (xs.length = k) := hxl
    have HXS : Hid (xs = (ls.take k).map stepV) := hxs
    clear hall hjt hxl hxs
    by_cases hlt : k < N
    · obtain ⟨b, off, rfl, hc, hAt⟩ := (hF.below jj.b) k (by rw [HN.out]; exact hlt)
      have HXX0 : Hid ((ls.take (k + 1)).map stepV = (ls.take k).map stepV ++ [stepV (ls[k]?.getD noLV)]) := by
        have hl : k < ls.length := by rw [HN.out]; exact hlt
        show _ = _
        rw [List.take_succ_eq_append_getElem hl, List.map_append, List.getElem?_eq_getElem hl]; rfl
      generalize HG : ls[k]?.getD noLV = g at *
      have HG' : Hid (ls[k]?.getD noLV = g) := HG
      clear HG hF
      obtain ⟨e0, e1, e2, e3, e4, e5⟩ := six_of hc
      clear hc
      obtain ⟨gk, gp, gz, ⟨ga, gn, gcap, gc, gm, gcap', gK, gC, gD⟩⟩ := g
      obtain ⟨iC, iD, hn, hm⟩ := hAt
      simp only at e0 e1 e2 e3 e4 e5 iC iD hn hm
      cases hf : lineB gk gp gz gn gm gC gD gK
      · have HB : Hid (actB N ls = false) := by show actB N ls = false; rw [actB, allL_no (k := k) (by rw [HN.out]; exact hlt) (by rw [HG'.out]; exact hf)]; simp
        go_wp2_with fail
        refine (istep_any _ _ _ _ _ _ _ _ _ _ gC gD _ (iC.alloc _) (iD.alloc _) hn hm).mono ?_
        rintro e w1 ⟨rfl, b1⟩
        have j1 := (jj.alloc _).below b1
        rw [hf]
        obtain ⟨sv, hsv⟩ : ∃ sv, sv = stepV ⟨gk, gp, gz, ⟨ga, gn, gcap, gc, gm, gcap', gK, gC, gD⟩⟩ := ⟨_, rfl⟩
        rw [← hsv]
        go_wp2
        go_ret2
        exact ⟨_, ret_step rfl HB.out.symm, j1.b, fun h => by rw [HB.out] at h; cases h⟩
      · obtain ⟨ty, vv, hsv⟩ := stepV_iface (l := ⟨gk, gp, gz, ⟨ga, gn, gcap, gc, gm, gcap', gK, gC, gD⟩⟩) hf
        have HSV : Hid (stepV ⟨gk, gp, gz, ⟨ga, gn, gcap, gc, gm, gcap', gK, gC, gD⟩⟩ = .iface ty vv) := hsv
        have HS1 : Hid (∀ u ∈ [Value.iface ty vv], u.oneCell' = true) := fun u hu => by simp at hu; subst hu; rfl
        have HXX : Hid (xs ++ [.iface ty vv] = (ls.take (k + 1)).map stepV) := by show _ = _; rw [HXX0.out, HXS.out, hsv]
        clear hsv
        by_cases h1 : gk = 1
        · subst h1
          have HT : Hid (j + 1 = tests (ls.take (k + 1))) := by show j + 1 = _; rw [tests_yes (by rw [HN.out]; exact hlt) HG'.out rfl, ← HJ.out]
          go_wp2_with fail
          refine (istep_any _ _ _ _ _ _ _ _ _ _ gC gD _ (iC.alloc _) (iD.alloc _) hn hm).mono ?_
          rintro e w1 ⟨rfl, b1⟩
          have j1 := (jj.alloc _).below b1
          have bx := (Cel.new wr _ _).below b1
          obtain ⟨f0, f1, f2, f3, f4, f5⟩ := bx.six
          have jo := j1.o
          rw [HXL.out] at jo
          have hjb := j1.b.size
          rw [hf, HSV.out]
          clear jj b1 iC iD e0 e1 e2 e3 e4 e5 f1 f2 f3 f4 f5 bx
          go_wp2_with (at_builtin; go_must (refine wpList_append_lies _ rfl (.tmp 31) (.tmp 33) 237 rfl w.heap.size 254 i0 .nilIface 1 16 Tryz.underlying237 hi hz0 hz1 hz2 rfl (by decide) _ _ _ rfl (jo.alloc _) ⟨w1.heap.size, 0, none⟩ 1 1 [.iface ty vv] rfl rfl (news_one _ _ _) HS1.out (by omega) (by unfold maxLen; omega) (by omega) (by rw [World.size_alloc]; omega) _ rfl ?_); intro g cp w2 hown hgrow hat hlt1)
          have j2 := j1.app HXL.out hown hgrow
          clear hown hgrow jo j1 hat
          go_wp2
          go_roundw
          case rel => exact ⟨k + 1, by omega, by go_num, ⟨j + 1, by omega, by go_num, HT.out⟩, ⟨_, by rw [List.length_append, HXL.out]; rfl, HXX.out, j2⟩, allL_take_succ (by rw [HN.out]; exact hlt) HA.out (by rw [HG'.out]; exact hf)⟩
          case measure => simp [intOf]; omega
        · have h1' : (gk == 1) = false := by simp [h1]
          have HT : Hid (j = tests (ls.take (k + 1))) := by show j = _; rw [tests_no (by rw [HN.out]; exact hlt) HG'.out h1', ← HJ.out]
          go_wp2_with fail
          refine (istep_any _ _ _ _ _ _ _ _ _ _ gC gD _ (iC.alloc _) (iD.alloc _) hn hm).mono ?_
          rintro e w1 ⟨rfl, b1⟩
          have j1 := (jj.alloc _).below b1
          have bx := (Cel.new wr _ _).below b1
          obtain ⟨f0, f1, f2, f3, f4, f5⟩ := bx.six
          have jo := j1.o
          rw [HXL.out] at jo
          have hjb := j1.b.size
          rw [hf, HSV.out]
          clear jj b1 iC iD e0 e1 e2 e3 e4 e5 f1 f2 f3 f4 f5 bx
          go_wp2_with (at_builtin; go_must (refine wpList_append_lies _ rfl (.tmp 31) (.tmp 33) 237 rfl w.heap.size 254 i0 .nilIface 1 16 Tryz.underlying237 hi hz0 hz1 hz2 rfl (by decide) _ _ _ rfl (jo.alloc _) ⟨w1.heap.size, 0, none⟩ 1 1 [.iface ty vv] rfl rfl (news_one _ _ _) HS1.out (by omega) (by unfold maxLen; omega) (by omega) (by rw [World.size_alloc]; omega) _ rfl ?_); intro g cp w2 hown hgrow hat hlt1)
          have j2 := j1.app HXL.out hown hgrow
          clear hown hgrow jo j1 hat
          go_wp2
          go_roundw
          case rel => exact ⟨k + 1, by omega, by go_num, ⟨j, by omega, rfl, HT.out⟩, ⟨_, by rw [List.length_append, HXL.out]; rfl, HXX.out, j2⟩, allL_take_succ (by rw [HN.out]; exact hlt) HA.out (by rw [HG'.out]; exact hf)⟩
          case measure => simp [intOf]; omega
    · obtain rfl : k = N := by omega
      have HT : Hid (ls.take k = ls) := List.take_of_length_le (by rw [HN.out]; omega)
      have HAB : Hid (actB k ls = decide ((j : Int) ≤ 3)) := by
        show actB k ls = _
        have h1 := HA.out
        have h2 := HJ.out
        rw [HT.out] at h1 h2
        rw [actB, h1, ← h2, Bool.and_true, decide_eq_true (by omega), Bool.true_and]
      have HX2 : Hid (xs = ls.map stepV) := by show _ = _; rw [HXS.out, HT.out]
      go_wp2
      go_ret2
      exact ⟨_, ret_step rfl HAB.out.symm, jj.b, fun _ => by rw [← HX2.out]; exact jj⟩

theorem iact_any (ad : Option Addr) (N cap : Nat) (ls : List LV) (w : World) (hN : ls.length = N) (hF : LinesG w ad ls) (hN1 : N ≤ 1048576) :
    Calls Tryz.prog 149 #[.slice ad N cap] w fun e w' => e = .returned (.bool (actB N ls)) ∧ Below w.heap.size w w' := by
  go_enter Tryz.func149, Tryz.ntmps149
  go_wp2_with fail
  refine (isteps_any _ _ _ ls _ hN hF hN1).mono ?_
  rintro e w1 ⟨sv, rfl, b1, -⟩
  go_wp2
  go_ret
  exact ⟨rfl, b1⟩

end Go.Proofs.YtacjjhfbnbmnlaaGreatDoor

namespace Go.Proofs.YtacjjhfbnbmnlaaGreatDoor
open Go.RowKit
set_option linter.unusedVariables false

/-- A form alone, without its memory. -/
def noX : Frm := ([], [], 0)
def toFV (f : Frm) : FV := ⟨none, f.1.length, 0, none, f.2.1.length, 0, f.2.2, f.1, f.2.1⟩
def intoX (f : FV) (P : List Frm) : Frm := (intoC f.C (P.map toFV) 3, intoD f.C f.D (P.map toFV) 3, intoK f.C f.K (P.map toFV) 3)
/-- Zero or more just where f is below zero. -/
def minusX (f : Frm) : Frm := (mulL (-1) f.1, mulL (-1) f.2.1, -1 * f.2.2 - 1)
def plusX (f g : Frm) : Frm := (lin f.1 g.1 1, lin f.2.1 g.2.1 1, f.2.2 + 1 * g.2.2)
def potX (v : Nat) : Frm := ([0, 0, 0].set v 1, [0, 0], 0)
def lessX (f : Frm) (v : Nat) : Frm := (lin f.1 ([0, 0, 0].set v 1) (-1), lin f.2.1 [0, 0] (-1), f.2.2 + -1 * 0)

/-- A way as far as it is gone; a way at its end. -/
structure Way where
  pots : List Frm
  guards : List Frm
  tells : List Frm
structure RowM where
  guards : List Frm
  adds : List Frm
  tells : List Frm
  stop : Bool
def endW (y : Way) : RowM := ⟨y.guards, (List.range 3).map fun v => lessX (y.pots[v]?.getD noX) v, y.tells, false⟩
def stopW (y : Way) : RowM := ⟨y.guards, [], [], true⟩
def Way.guard (y : Way) (f : Frm) : Way := { y with guards := y.guards ++ [f] }
def Way.tell (y : Way) (f : Frm) : Way := { y with tells := y.tells ++ [f] }
def Way.add (y : Way) (p : Nat) (f : Frm) : Way := { y with pots := y.pots.set p (plusX (y.pots[p]?.getD noX) f) }
def way0 : Way := ⟨[potX 0, potX 1, potX 2], [], []⟩

/-- All ways from a line on. -/
def goW (ls : List LV) : Nat → Nat → Way → List RowM
  | 0, _, y => [endW y]
  | f + 1, i, y =>
    if i < ls.length then
      if (ls[i]?.getD noLV).kind = 1 then goW ls f (i + 1) (y.guard (intoX (ls[i]?.getD noLV).f y.pots)) ++ goW ls f (i + 1 + (ls[i]?.getD noLV).skip.toNat) (y.guard (minusX (intoX (ls[i]?.getD noLV).f y.pots)))
      else if (ls[i]?.getD noLV).kind = 2 then goW ls f (i + 1) (y.add (ls[i]?.getD noLV).pot.toNat (intoX (ls[i]?.getD noLV).f y.pots))
      else if (ls[i]?.getD noLV).kind = 3 then goW ls f (i + 1) (y.tell (intoX (ls[i]?.getD noLV).f y.pots))
      else [stopW y]
    else [endW y]
def rowsL (ls : List LV) : List RowM := goW ls 7 0 way0
theorem goW_end {ls : List LV} {f i : Nat} {y : Way} (h : ls.length ≤ i) : goW ls f i y = [endW y] := by
  cases f with
  | zero => rfl
  | succ f => rw [goW, if_neg (by omega)]
/-- Fuel that suffices is as good as more. -/
theorem goW_fuel {ls : List LV} (f : Nat) : ∀ (g i : Nat) (y : Way), ls.length ≤ i + f → ls.length ≤ i + g → goW ls f i y = goW ls g i y := by
  induction f with
  | zero => intro g i y h1 h2; rw [goW_end (by omega), goW_end (by omega)]
  | succ f ih =>
    intro g i y h1 h2
    by_cases hi : i < ls.length
    · obtain ⟨g, rfl⟩ : ∃ g', g = g' + 1 := ⟨g - 1, by omega⟩
      rw [goW, goW, if_pos hi, if_pos hi, ih g (i + 1) _ (by omega) (by omega), ih g (i + 1 + (ls[i]?.getD noLV).skip.toNat) _ (by omega) (by omega), ih g (i + 1) _ (by omega) (by omega), ih g (i + 1) _ (by omega) (by omega)]
    · rw [goW_end (by omega), goW_end (by omega)]

/-- How great a pot's numbers may be behind so many lines. -/
def wb : Nat → Int
  | 0 => 1
  | n + 1 => 7 * wb n + 20
theorem wb_pos : ∀ n, 1 ≤ wb n
  | 0 => by simp [wb]
  | n + 1 => by have := wb_pos n; simp only [wb]; omega
theorem wb_mono {n m : Nat} (h : n ≤ m) : wb n ≤ wb m := by
  induction h with
  | refl => exact Int.le_refl _
  | step _ ih => rename_i m _; have := wb_pos m; exact Int.le_trans ih (by simp only [wb]; omega)
theorem wb_six {n : Nat} (h : n ≤ 6) : wb n ≤ 509809 := Int.le_trans (wb_mono h) (by simp [wb])

/-- Three and two numbers, and one more, none past M. -/
structure fitX (M : Int) (f : Frm) : Prop where
  c : f.1.length = 3
  d : f.2.1.length = 2
  bc : bnd M f.1
  bd : bnd M f.2.1
  k1 : -M ≤ f.2.2
  k2 : f.2.2 ≤ M
theorem fitX.mono {M M' : Int} {f : Frm} (h : fitX M f) (hM : M ≤ M') : fitX M' f :=
  ⟨h.c, h.d, fun i => by have := h.bc i; omega, fun i => by have := h.bd i; omega, by have := h.k1; omega, by have := h.k2; omega⟩
theorem two_mul {c y M : Int} (h1 : -2 ≤ c) (h2 : c ≤ 2) (h3 : -M ≤ y) (h4 : y ≤ M) : -(2 * M) ≤ c * y ∧ c * y ≤ 2 * M := by
  obtain h | h | h | h | h : c = -2 ∨ c = -1 ∨ c = 0 ∨ c = 1 ∨ c = 2 := by omega
  all_goals subst h; constructor <;> omega
theorem toFV_at {P : List Frm} {k : Nat} (h : k < P.length) : (P.map toFV)[k]?.getD noFV = toFV (P[k]?.getD noX) := by
  rw [List.getElem?_map, List.getElem?_eq_getElem h]; rfl

/-- A small form into pots. -/
theorem intoX_fit {f : FV} {P : List Frm} {M : Int} (bC : bnd 2 f.C) (bD : bnd 2 f.D) (lD : f.D.length = 2) (k1 : -20 ≤ f.K) (k2 : f.K ≤ 20) (hP : P.length = 3) (hM : 0 ≤ M) (h : ∀ k, k < 3 → fitX M (P[k]?.getD noX)) : fitX (6 * M + 20) (intoX f P) := by
  have bt : ∀ k, k < 3 → bndT (2 * M) (f.C[k]?.getD 0) ((P.map toFV)[k]?.getD noFV).C ∧ bndT (2 * M) (f.C[k]?.getD 0) ((P.map toFV)[k]?.getD noFV).D ∧ -(2 * M) ≤ f.C[k]?.getD 0 * ((P.map toFV)[k]?.getD noFV).K ∧ f.C[k]?.getD 0 * ((P.map toFV)[k]?.getD noFV).K ≤ 2 * M ∧ ((P.map toFV)[k]?.getD noFV).C.length = 3 ∧ ((P.map toFV)[k]?.getD noFV).D.length = 2 := fun k hk => by
    rw [toFV_at (by omega)]
    have hf := h k hk
    have hc := bC k
    refine ⟨fun i => ?_, fun i => ?_, ?_, ?_, hf.c, hf.d⟩
    · have := hf.bc i; exact two_mul hc.1 hc.2 this.1 this.2
    · have := hf.bd i; exact two_mul hc.1 hc.2 this.1 this.2
    · exact (two_mul hc.1 hc.2 hf.k1 hf.k2).1
    · exact (two_mul hc.1 hc.2 hf.k1 hf.k2).2
  obtain ⟨a0, b0, x0, y0, l0, m0⟩ := bt 0 (by omega)
  obtain ⟨a1, b1, x1, y1, l1, m1⟩ := bt 1 (by omega)
  obtain ⟨a2, b2, x2, y2, l2, m2⟩ := bt 2 (by omega)
  have z3 : bnd 0 ([0, 0, 0] : List Int) := fun i => by
    match i with
    | 0 => simp
    | 1 => simp
    | 2 => simp
    | i + 3 => simp
  refine ⟨?_, ?_, ?_, ?_, ?_, ?_⟩
  · exact lin_len (lin_len (lin_len rfl l0) l1) l2
  · exact lin_len (lin_len (lin_len lD m0) m1) m2
  · have := lin_bnd (lin_len (lin_len rfl l0) l1) l2 (lin_bnd (lin_len rfl l0) l1 (lin_bnd (k := 3) rfl l0 z3 a0 (by omega)) a1 (by omega)) a2 (by omega)
    exact fun i => by have := this i; simp only [intoX, intoC] at *; omega
  · have := lin_bnd (lin_len (lin_len lD m0) m1) m2 (lin_bnd (lin_len lD m0) m1 (lin_bnd lD m0 bD b0 (by omega)) b1 (by omega)) b2 (by omega)
    exact fun i => by have := this i; simp only [intoX, intoD] at *; omega
  · simp only [intoX, intoK]; omega
  · simp only [intoX, intoK]; omega
theorem bndT_one {M : Int} {xs : List Int} (h : bnd M xs) : bndT M 1 xs := fun i => by have := h i; omega
theorem plusX_fit {M M' : Int} {f g : Frm} (hf : fitX M f) (hg : fitX M' g) (h0 : 0 ≤ M + M') : fitX (M + M') (plusX f g) := by
  have a := hf.k1
  have b := hf.k2
  have c := hg.k1
  have d := hg.k2
  exact ⟨lin_len hf.c hg.c, lin_len hf.d hg.d, lin_bnd hf.c hg.c hf.bc (bndT_one hg.bc) h0, lin_bnd hf.d hg.d hf.bd (bndT_one hg.bd) h0, by simp only [plusX]; omega, by simp only [plusX]; omega⟩
theorem minusX_fit {M : Int} {f : Frm} (hf : fitX M f) : fitX (M + 1) (minusX f) := by
  have key : ∀ (xs : List Int), bnd M xs → bnd (M + 1) (mulL (-1) xs) := fun xs hx i => by
    have hi := hx i
    have : (mulL (-1) xs)[i]?.getD 0 = -1 * xs[i]?.getD 0 := by
      simp only [mulL, List.getElem?_map]
      cases xs[i]? <;> simp
    rw [this]; omega
  have a := hf.k1
  have b := hf.k2
  exact ⟨by simp [minusX, mulL, hf.c], by simp [minusX, mulL, hf.d], key _ hf.bc, key _ hf.bd, by simp only [minusX]; omega, by simp only [minusX]; omega⟩

/-- A way behind so many lines. -/
structure WayOk (i : Nat) (y : Way) : Prop where
  pl : y.pots.length = 3
  pf : ∀ k, k < 3 → fitX (wb (min i 6)) (y.pots[k]?.getD noX)
  gf : ∀ k, k < y.guards.length → fitX 10000000 (y.guards[k]?.getD noX)
  tf : ∀ k, k < y.tells.length → fitX 10000000 (y.tells[k]?.getD noX)
  gl : y.guards.length ≤ i
  tl : y.tells.length ≤ i
theorem WayOk.start : WayOk 0 way0 := by
  refine ⟨rfl, fun k hk => ?_, fun k hk => by simp [way0] at hk, fun k hk => by simp [way0] at hk, Nat.le_refl _, Nat.le_refl _⟩
  have b3 : ∀ v, v < 3 → bnd 1 (([0, 0, 0] : List Int).set v 1) := fun v hv i => by
    match v, hv, i with
    | 0, _, 0 => simp
    | 0, _, 1 => simp
    | 0, _, 2 => simp
    | 0, _, i + 3 => simp
    | 1, _, 0 => simp
    | 1, _, 1 => simp
    | 1, _, 2 => simp
    | 1, _, i + 3 => simp
    | 2, _, 0 => simp
    | 2, _, 1 => simp
    | 2, _, 2 => simp
    | 2, _, i + 3 => simp
  have b2 : bnd 1 ([0, 0] : List Int) := fun i => by
    match i with
    | 0 => simp
    | 1 => simp
    | i + 2 => simp
  match k, hk with
  | 0, _ => exact ⟨rfl, rfl, b3 0 (by omega), b2, by decide, by decide⟩
  | 1, _ => exact ⟨rfl, rfl, b3 1 (by omega), b2, by decide, by decide⟩
  | 2, _ => exact ⟨rfl, rfl, b3 2 (by omega), b2, by decide, by decide⟩
/-- A way that has gone on a line, or over more. -/
theorem WayOk.more {i j : Nat} {y : Way} (h : WayOk i y) (hij : i ≤ j) : WayOk j y :=
  ⟨h.pl, fun k hk => (h.pf k hk).mono (wb_mono (by omega)), h.gf, h.tf, by have := h.gl; omega, by have := h.tl; omega⟩
theorem snoc_fit {L : List Frm} {f : Frm} {M : Int} (h : ∀ k, k < L.length → fitX M (L[k]?.getD noX)) (hf : fitX M f) : ∀ k, k < (L ++ [f]).length → fitX M ((L ++ [f])[k]?.getD noX) := fun k hk => by
  rw [List.length_append] at hk
  simp only [List.length_cons, List.length_nil] at hk
  by_cases e : k < L.length
  · rw [List.getElem?_append_left e]; exact h k e
  · obtain rfl : k = L.length := by omega
    rw [List.getElem?_append_right (Nat.le_refl _), Nat.sub_self]
    exact hf
theorem WayOk.guard {i j : Nat} {y : Way} {f : Frm} (h : WayOk i y) (hij : i < j) (hf : fitX 10000000 f) : WayOk j (y.guard f) := by
  have h' := h.more (j := j) (by omega)
  refine ⟨h'.pl, h'.pf, snoc_fit h.gf hf, h'.tf, ?_, h'.tl⟩
  have := h.gl
  simp only [Way.guard, List.length_append, List.length_cons, List.length_nil]; omega
theorem WayOk.tell {i j : Nat} {y : Way} {f : Frm} (h : WayOk i y) (hij : i < j) (hf : fitX 10000000 f) : WayOk j (y.tell f) := by
  have h' := h.more (j := j) (by omega)
  refine ⟨h'.pl, h'.pf, h'.gf, snoc_fit h.tf hf, h'.gl, ?_⟩
  have := h.tl
  simp only [Way.tell, List.length_append, List.length_cons, List.length_nil]; omega
theorem WayOk.add {i p : Nat} {y : Way} {f : Frm} (h : WayOk i y) (h6 : i < 6) (hp : p < 3) (hf : fitX (6 * wb i + 20) f) : WayOk (i + 1) (y.add p f) := by
  have h' := h.more (j := i + 1) (by omega)
  refine ⟨by simp only [Way.add, List.length_set]; exact h.pl, fun k hk => ?_, h'.gf, h'.tf, h'.gl, h'.tl⟩
  have hw := wb_pos i
  have e6 : min i 6 = i := by omega
  have e7 : min (i + 1) 6 = i + 1 := by omega
  have hpf := h.pf p hp
  rw [e6] at hpf
  by_cases e : p = k
  · subst e
    have : (y.add p f).pots[p]?.getD noX = plusX (y.pots[p]?.getD noX) f := by
      simp only [Way.add]
      rw [List.getElem?_set_self (by rw [h.pl]; exact hp)]; rfl
    rw [this]
    have := plusX_fit hpf hf (by omega)
    rw [e7]
    exact this.mono (by simp only [wb]; omega)
  · have : (y.add p f).pots[k]?.getD noX = y.pots[k]?.getD noX := by
      simp only [Way.add]
      rw [List.getElem?_set_ne e]
    rw [this]
    exact h'.pf k hk
/-- What a small form into the pots of such a way is. -/
theorem WayOk.into {i : Nat} {y : Way} (h : WayOk i y) (h6 : i ≤ 6) {f : FV} (hf : smallB f.n f.m f.C f.D f.K = true) (lD : f.D.length = f.m) : fitX (6 * wb i + 20) (intoX f y.pots) ∧ fitX 10000000 (intoX f y.pots) ∧ fitX 10000000 (minusX (intoX f y.pots)) := by
  simp only [smallB, Bool.and_eq_true] at hf
  obtain ⟨⟨h1, h2⟩, h3⟩ := hf
  obtain ⟨e1, b1⟩ := okN_elim (by omega) h1
  obtain ⟨e2, b2⟩ := okN_elim (by omega) h2
  have h4 := inB_iff.1 h3
  have hw := wb_pos i
  have hw6 := wb_six h6
  have := intoX_fit (f := f) (M := wb i) b1 b2 (by omega) h4.1 h4.2 h.pl (by omega) (fun k hk => by have := h.pf k hk; rwa [show min i 6 = i by omega] at this)
  exact ⟨this, this.mono (by omega), (minusX_fit this).mono (by omega)⟩

end Go.Proofs.YtacjjhfbnbmnlaaGreatDoor

namespace Go.Proofs.YtacjjhfbnbmnlaaGreatDoor
open Go.RowKit
set_option linter.unusedVariables false

section
variable {P : Program} {ops : Array Oper} {Q : Exit → Act → World → Prop} {md : Region.Mode} {S0 S : World → Prop} {s : Nat}

/-- Whatever order is picked from here on; S0 holds behind every operation, S behind every one ahead of operation s. -/
def wpAnyE (P : Program) (md : Region.Mode) (ops : Array Oper) (Q : Exit → Act → World → Prop) (S0 S : World → Prop) (s : Nat) : Nat → Array Bool → Act → World → Prop
  | 0, listed, a, w => Region.ready md ops listed = [] ∧ Q .normal a w
  | fuel + 1, listed, a, w =>
    (Region.ready md ops listed = [] → Q .normal a w) ∧
    ∀ i ∈ Region.ready md ops listed, wpOp P ops Q i (fun a' w' => (S0 w' ∧ ((listed.setIfInBounds i true).getD s true = false → S w')) ∧ wpAnyE P md ops Q S0 S s fuel (listed.setIfInBounds i true) a' w') a w

theorem wpAny_of_ends : ∀ (fuel : Nat) (listed : Array Bool) (a : Act) (w : World), wpAnyE P md ops Q S0 S s fuel listed a w → wpAny P md ops Q fuel listed a w
  | 0, _, _, _, h => h
  | fuel + 1, _, _, _, h => ⟨h.1, fun i hi => wpOp_mono (fun a' w' h' => wpAny_of_ends fuel _ a' w' h'.2) (h.2 i hi)⟩

theorem not_waits {i j : Nat} {listed : Array Bool} {oj : Oper} (hr : i ∈ Region.ready md ops listed) (hall : ∀ e ∈ oj.after, Region.binds md e = true → listed.getD e.on false = true) : ∀ e ∈ oj.after, Region.binds md e = true → e.on ≠ i := fun e he hb heq => by
  have h1 := hall e he hb
  have h0 := (mem_ready.1 hr).1
  rw [heq] at h1
  rcases Nat.lt_or_ge i listed.size with h' | h'
  · simp [h'] at h0 h1; rw [h0] at h1; cases h1
  · simp [Array.getElem?_eq_none h'] at h1

/-- An operation that yields in every world that meets S0 may be taken first. -/
theorem wpAnyE_first0 {i : Nat} {oi : Oper} {v : Value} (hi : ops[i]? = some oi) (hsel : ∀ (j : Nat) (o : Oper) cs b, ops[j]? = some o → o.op ≠ .select cs b)
    (hQ : ∀ c a w, Q (.panic c) (a.put oi.dst v) w → Q (.panic c) a w) (his : i ≠ s) :
    ∀ (fuel : Nat) (listed : Array Bool) (a : Act) (w : World),
      (∀ j oj, ops[j]? = some oj → j ≠ i → listed.getD j true = false → (∀ e ∈ oj.after, Region.binds md e = true → e.on ≠ i) → oi.apart ops oj = true) →
      i ∈ Region.ready md ops listed → YieldsIf P ops S0 oi v a → (S0 w ∧ (listed.getD s true = false → S w)) →
      wpAnyE P md ops Q S0 S s fuel (listed.setIfInBounds i true) (a.put oi.dst v) w → wpAnyE P md ops Q S0 S s (fuel + 1) listed a w := by
  intro fuel
  induction fuel with
  | zero =>
    intro listed a w _ hr hy hS H
    refine ⟨fun h => (by rw [h] at hr; cases hr), fun j hj => ?_⟩
    by_cases hji : j = i
    · subst hji; exact hy.wpOp hi hS.1 ⟨⟨hS.1, fun h => hS.2 (by rw [getD_set_ne true his] at h; exact h)⟩, H⟩
    · have := ready_mono hj hji
      rw [H.1] at this
      cases this
  | succ fuel ih =>
    intro listed a w hfree hr hy hS H
    refine ⟨fun h => (by rw [h] at hr; cases hr), fun j hj => ?_⟩
    by_cases hji : j = i
    · subst hji; exact hy.wpOp hi hS.1 ⟨⟨hS.1, fun h => hS.2 (by rw [getD_set_ne true his] at h; exact h)⟩, H⟩
    · have h1 := H.2 j (ready_mono hj hji)
      obtain ⟨hjun, oj, hoj, hall⟩ := mem_ready.1 hj
      have h2 := wpOp_putIf hoj (hfree j oj hoj hji hjun (not_waits (i := i) (j := j) hr hall)) (fun cs b => hsel i oi cs b hi) (fun cs b => hsel j oj cs b hoj) hQ hy h1
      have hfree' : ∀ k ok, ops[k]? = some ok → k ≠ i → (listed.setIfInBounds j true).getD k true = false →
          (∀ e ∈ ok.after, Region.binds md e = true → e.on ≠ i) → oi.apart ops ok = true := fun k ok hk hki hun hno => by
        refine hfree k ok hk hki ?_ hno
        by_cases hjk : j = k
        · subst hjk; exact hjun
        · rw [getD_set_ne true hjk] at hun; exact hun
      refine wpOp_mono (fun a' w' h3 => ?_) h2
      have hS' : S0 w' ∧ ((listed.setIfInBounds j true).getD s true = false → S w') := ⟨h3.2.1.1, fun h => h3.2.1.2 (by rw [Array.setIfInBounds_comm _ _ (Ne.symm hji), getD_set_ne true his]; exact h)⟩
      refine ⟨hS', ih (listed.setIfInBounds j true) a' w' hfree' (ready_mono hr (Ne.symm hji)) h3.1 hS' ?_⟩
      rw [Array.setIfInBounds_comm _ _ hji]
      exact h3.2.2

/-- An operation for which operation s waits may be taken first where it yields in every world that meets S. -/
theorem wpAnyE_first1 {i : Nat} {oi os : Oper} {v : Value} (hi : ops[i]? = some oi) (hsel : ∀ (j : Nat) (o : Oper) cs b, ops[j]? = some o → o.op ≠ .select cs b)
    (hQ : ∀ c a w, Q (.panic c) (a.put oi.dst v) w → Q (.panic c) a w) (his : i ≠ s) (hos : ops[s]? = some os) (hw : ∃ e ∈ os.after, Region.binds md e = true ∧ e.on = i) :
    ∀ (fuel : Nat) (listed : Array Bool) (a : Act) (w : World),
      (∀ j oj, ops[j]? = some oj → j ≠ i → listed.getD j true = false → (∀ e ∈ oj.after, Region.binds md e = true → e.on ≠ i) → oi.apart ops oj = true) →
      i ∈ Region.ready md ops listed → listed.getD s true = false → YieldsIf P ops S oi v a → (S0 w ∧ (listed.getD s true = false → S w)) →
      wpAnyE P md ops Q S0 S s fuel (listed.setIfInBounds i true) (a.put oi.dst v) w → wpAnyE P md ops Q S0 S s (fuel + 1) listed a w := by
  intro fuel
  induction fuel with
  | zero =>
    intro listed a w _ hr hls hy hS H
    refine ⟨fun h => (by rw [h] at hr; cases hr), fun j hj => ?_⟩
    by_cases hji : j = i
    · subst hji; exact hy.wpOp hi (hS.2 hls) ⟨⟨hS.1, fun h => hS.2 (by rw [getD_set_ne true his] at h; exact h)⟩, H⟩
    · have := ready_mono hj hji
      rw [H.1] at this
      cases this
  | succ fuel ih =>
    intro listed a w hfree hr hls hy hS H
    refine ⟨fun h => (by rw [h] at hr; cases hr), fun j hj => ?_⟩
    by_cases hji : j = i
    · subst hji; exact hy.wpOp hi (hS.2 hls) ⟨⟨hS.1, fun h => hS.2 (by rw [getD_set_ne true his] at h; exact h)⟩, H⟩
    · have h1 := H.2 j (ready_mono hj hji)
      obtain ⟨hjun, oj, hoj, hall⟩ := mem_ready.1 hj
      have hnot := not_waits (i := i) (j := j) hr hall
      have hjs : j ≠ s := fun e => by
        subst e
        rw [hos] at hoj
        obtain ⟨x, hx, hb, ho⟩ := hw
        rw [Option.some.injEq] at hoj
        subst hoj
        exact hnot x hx hb ho
      have h2 := wpOp_putIf hoj (hfree j oj hoj hji hjun hnot) (fun cs b => hsel i oi cs b hi) (fun cs b => hsel j oj cs b hoj) hQ hy h1
      have hfree' : ∀ k ok, ops[k]? = some ok → k ≠ i → (listed.setIfInBounds j true).getD k true = false →
          (∀ e ∈ ok.after, Region.binds md e = true → e.on ≠ i) → oi.apart ops ok = true := fun k ok hk hki hun hno => by
        refine hfree k ok hk hki ?_ hno
        by_cases hjk : j = k
        · subst hjk; exact hjun
        · rw [getD_set_ne true hjk] at hun; exact hun
      have hls' : (listed.setIfInBounds j true).getD s true = false := by rw [getD_set_ne true hjs]; exact hls
      refine wpOp_mono (fun a' w' h3 => ?_) h2
      have hS' : S0 w' ∧ ((listed.setIfInBounds j true).getD s true = false → S w') := ⟨h3.2.1.1, fun h => h3.2.1.2 (by rw [Array.setIfInBounds_comm _ _ (Ne.symm hji), getD_set_ne true his]; exact h)⟩
      refine ⟨hS', ih (listed.setIfInBounds j true) a' w' hfree' (ready_mono hr (Ne.symm hji)) hls' h3.1 hS' ?_⟩
      rw [Array.setIfInBounds_comm _ _ hji]
      exact h3.2.2

theorem wpAnyE_take0 {i : Nat} {oi : Oper} {v : Value} {fuel : Nat} {listed : Array Bool} {a : Act} {w : World} (hi : ops[i]? = some oi)
    (hs : Region.noSelect ops = true) (hf : Region.free md ops listed i = true) (hr : (Region.ready md ops listed).contains i = true) (his : i ≠ s)
    (hQ : ∀ c a w, Q (.panic c) (a.put oi.dst v) w → Q (.panic c) a w) (hy : YieldsIf P ops S0 oi v a) (hS : S0 w ∧ S w)
    (h : wpAnyE P md ops Q S0 S s fuel (listed.setIfInBounds i true) (a.put oi.dst v) w) : wpAnyE P md ops Q S0 S s (fuel + 1) listed a w :=
  wpAnyE_first0 hi (Region.noSelect_spec hs) hQ his fuel listed a w (Region.free_spec hi hf) (by simpa using hr) hy ⟨hS.1, fun _ => hS.2⟩ h
theorem wpAnyE_take1 {i : Nat} {oi os : Oper} {v : Value} {fuel : Nat} {listed : Array Bool} {a : Act} {w : World} (hi : ops[i]? = some oi) (hos : ops[s]? = some os)
    (hs : Region.noSelect ops = true) (hf : Region.free md ops listed i = true) (hr : (Region.ready md ops listed).contains i = true) (his : i ≠ s) (hls : listed.getD s true = false)
    (hw : ∃ e ∈ os.after, Region.binds md e = true ∧ e.on = i)
    (hQ : ∀ c a w, Q (.panic c) (a.put oi.dst v) w → Q (.panic c) a w) (hy : YieldsIf P ops S oi v a) (hS : S0 w ∧ S w)
    (h : wpAnyE P md ops Q S0 S s fuel (listed.setIfInBounds i true) (a.put oi.dst v) w) : wpAnyE P md ops Q S0 S s (fuel + 1) listed a w :=
  wpAnyE_first1 hi (Region.noSelect_spec hs) hQ his hos hw fuel listed a w (Region.free_spec hi hf) (by simpa using hr) hls hy ⟨hS.1, fun _ => hS.2⟩ h
/-- One operation alone may come up. -/
theorem wpAnyE_one {i : Nat} {o : Oper} {fuel : Nat} {listed : Array Bool} {a : Act} {w : World} (hr : Region.ready md ops listed = [i]) (ho : ops[i]? = some o)
    (h : ∀ K' : Act → World → Prop, Shut (∀ a w, (S0 w ∧ ((listed.setIfInBounds i true).getD s true = false → S w)) → wpAnyE P md ops Q S0 S s fuel (listed.setIfInBounds i true) a w → K' a w) → if Region.wanted o (yielded ops a.tmps) = true then Oper.wp P o a w K' Q else K' (a.put o.dst undef) w) : wpAnyE P md ops Q S0 S s (fuel + 1) listed a w := by
  refine ⟨fun h0 => (by rw [hr] at h0; cases h0), fun j hj => ?_⟩
  rw [hr] at hj
  rcases List.mem_cons.1 hj with rfl | hj
  · exact wpOp_step ho (fun K' hK => h K' (fun a w hS hW => hK a w ⟨hS, hW⟩))
  · cases hj
/-- Two operations may come up: both orders are to be walked. -/
theorem wpAnyE_two {i j : Nat} {oi oj : Oper} {fuel : Nat} {listed : Array Bool} {a : Act} {w : World} (hr : Region.ready md ops listed = [i, j]) (hi : ops[i]? = some oi) (hj : ops[j]? = some oj)
    (h1 : ∀ K' : Act → World → Prop, Shut (∀ a w, (S0 w ∧ ((listed.setIfInBounds i true).getD s true = false → S w)) → wpAnyE P md ops Q S0 S s fuel (listed.setIfInBounds i true) a w → K' a w) → if Region.wanted oi (yielded ops a.tmps) = true then Oper.wp P oi a w K' Q else K' (a.put oi.dst undef) w)
    (h2 : ∀ K' : Act → World → Prop, Shut (∀ a w, (S0 w ∧ ((listed.setIfInBounds j true).getD s true = false → S w)) → wpAnyE P md ops Q S0 S s fuel (listed.setIfInBounds j true) a w → K' a w) → if Region.wanted oj (yielded ops a.tmps) = true then Oper.wp P oj a w K' Q else K' (a.put oj.dst undef) w) : wpAnyE P md ops Q S0 S s (fuel + 1) listed a w := by
  refine ⟨fun h0 => (by rw [hr] at h0; cases h0), fun z hz => ?_⟩
  rw [hr] at hz
  rcases List.mem_cons.1 hz with rfl | hz
  · exact wpOp_step hi (fun K' hK => h1 K' (fun a w hS hW => hK a w ⟨hS, hW⟩))
  · rcases List.mem_cons.1 hz with rfl | hz
    · exact wpOp_step hj (fun K' hK => h2 K' (fun a w hS hW => hK a w ⟨hS, hW⟩))
    · cases hz
theorem wpAnyE_done {listed : Array Bool} {a : Act} {w : World} (hr : Region.ready md ops listed = []) (h : Q .normal a w) : ∀ fuel, wpAnyE P md ops Q S0 S s fuel listed a w
  | 0 => ⟨hr, h⟩
  | _ + 1 => ⟨fun _ => h, by rw [hr]; simp⟩
theorem wp_region_ends {id : Nat} {a : Act} {w : World} (S0 S : World → Prop) (s : Nat) (hm : P.follows .mixedOrders = true)
    (h : wpAnyE P .any ops Q S0 S s ops.size (Array.replicate ops.size false) a w.drew) : (Code.region id ops true).wp P Q a w :=
  wp_region_any hm (wpAny_of_ends _ _ _ _ h)
end

end Go.Proofs.YtacjjhfbnbmnlaaGreatDoor

namespace Go.Proofs.YtacjjhfbnbmnlaaGreatDoor
open Go.RowKit Go.Deep
set_option linter.unusedVariables false
set_option maxRecDepth 100000

/-- No slice among these lies below B. -/
def Lo (B : Nat) (xs : List Value) : Prop := ∀ (i b o : Nat) (m c : Nat), xs[i]? = some (Value.slice (some ⟨b, o, none⟩) m c) → B ≤ b
theorem Lo.nil (B : Nat) : Lo B [] := fun i b o m c h => by simp at h
theorem Lo.app {B : Nat} {xs : List Value} (h : Lo B xs) {B1 B2 n1 n2 c1 c2 : Nat} {K : Int} (h1 : B ≤ B1) (h2 : B ≤ B2) : Lo B (xs ++ [.slice (some ⟨B1, 0, none⟩) n1 c1, .slice (some ⟨B2, 0, none⟩) n2 c2, .int .i64 K]) := fun i b o m c e => by
  by_cases hi : i < xs.length
  · rw [List.getElem?_append_left hi] at e; exact h i b o m c e
  · rw [List.getElem?_append_right (by omega)] at e
    generalize i - xs.length = j at e
    match j with
    | 0 => simp at e; omega
    | 1 => simp at e; omega
    | 2 => simp at e
    | j + 3 => simp at e
theorem Ints.off {S : Nat → Prop} {W W' : World} {a : Option Addr} {n : Nat} {zs : List Int} (h : Ints W a n zs) (hb : ∀ b o, a = some ⟨b, o, none⟩ → ¬ S b) (t : Touch S W W') : Ints W' a n zs := by
  refine ⟨h.1, fun i hi => ?_⟩
  obtain ⟨b, off, e, hc⟩ := h.2 i hi
  refine ⟨b, off, e, ?_⟩
  have hl := block_lt hc
  simp only [World.cell?] at hc ⊢
  rw [t.block b hl (hb b off e)]; exact hc
theorem own_off {S : Nat → Prop} {W W' : World} {base : Nat} {e : TypeId} {s : Nat} {v : Value} {n : Nat} {xs : List Value} (h : W.ownsRow base e s v n xs) (hn : ∀ g, v.ownBlock = some g → ¬ S g) (t : Touch S W W') : W'.ownsRow base e s v n xs := by
  refine ⟨h.1, ?_⟩
  rcases h.2 with h2 | ⟨g, cap, cur, hv, hg, hh, r⟩
  · exact Or.inl h2
  · refine Or.inr ⟨g, cap, cur, hv, hg, ?_, r⟩
    rw [t.block g (lt_of_block hh) (hn g (by rw [hv]; rfl))]; exact hh
theorem TermsOk.off {S : Nat → Prop} {W W' : World} {G : Nat} {xs : List Value} {fs : List Frm} {n : Nat} (h : TermsOk W G xs fs n) {B : Nat} (hl : Lo B xs) (hS : ∀ k, S k → k < B) (t : Touch S W W') : TermsOk W' G xs fs n := fun i hi => by
  obtain ⟨a', c', ca, cc, e0, e1, e2, i1, i2, n1, n2⟩ := h i hi
  refine ⟨a', c', ca, cc, e0, e1, e2, i1.off (fun b o e hs => ?_) t, i2.off (fun b o e hs => ?_) t, n1, n2⟩
  · rw [e] at e0
    have := hl _ _ _ _ _ e0
    have := hS _ hs
    omega
  · rw [e] at e1
    have := hl _ _ _ _ _ e1
    have := hS _ hs
    omega

/-- A slice of the first n forms, in memory made since w. -/
structure JF (w : World) (G cap n : Nat) (xs : List Value) (fs : List Frm) (W : World) : Prop where
  b : Below w.heap.size w W
  o : W.ownsRow w.heap.size 127 3 (.slice (some ⟨G, 0, none⟩) n cap) n xs
  t : TermsOk W G xs fs n
  l : Lo w.heap.size xs
theorem JF.below {w W W' : World} {G cap n : Nat} {xs : List Value} {fs : List Frm} (j : JF w G cap n xs fs W) (h : Below W.heap.size W W') : JF w G cap n xs fs W' := ⟨j.b.trans (h.mono j.b.size), own_below j.o h, j.t.below h, j.l⟩
theorem JF.at {w W : World} {G cap n : Nat} {xs : List Value} {fs : List Frm} (j : JF w G cap n xs fs W) (hn : fs.length = n) : FormsAt W (some ⟨G, 0, none⟩) fs := j.t.forms hn j.o
theorem JF.lt {w W : World} {G cap n : Nat} {xs : List Value} {fs : List Frm} (j : JF w G cap n xs fs W) : w.heap.size ≤ G ∧ G < W.heap.size := by
  rcases j.o.2 with ⟨h, _⟩ | ⟨g, cap', cur, h, hg, hh, _⟩
  · cases h
  · simp only [Value.slice.injEq, Option.some.injEq, Addr.mk.injEq, and_true, true_and] at h
    obtain ⟨rfl, _⟩ := h
    exact ⟨hg, lt_of_block hh⟩
/-- Whatever becomes of elder memory, the forms read as they did. -/
theorem JF.off {w W W' : World} {G cap n : Nat} {xs : List Value} {fs : List Frm} (j : JF w G cap n xs fs W) (hn : fs.length = n) {S : Nat → Prop} (hS : ∀ k, S k → k < w.heap.size) (t : Touch S W W') : FormsAt W' (some ⟨G, 0, none⟩) fs := by
  have hG := j.lt
  have o' := own_off j.o (fun g hg hs => by
    have : some G = some g := hg
    simp only [Option.some.injEq] at this
    have := hS _ hs
    omega) t
  exact (j.t.off j.l hS t).forms hn o'
theorem lin3_one {xs : List Int} (h : xs.length = 3) : lin [0, 0, 0] xs 1 = xs := by
  match xs, h with
  | [x, y, z], _ => simp [lin]
theorem lin2_one {xs : List Int} (h : xs.length = 2) : lin [0, 0] xs 1 = xs := by
  match xs, h with
  | [x, y], _ => simp [lin]

set_option maxHeartbeats 6400000 in
theorem scopy_any (ad : Option Addr) (N cap : Nat) (fs : List Frm) (w : World) (hN : fs.length = N) (hF : FormsAt w ad fs) (hfit : ∀ k, k < N → fitX 10000000 (fs[k]?.getD ([], [], 0))) (hN1 : N ≤ 1048576) :
    Calls Tryz.prog 175 #[.slice ad N cap] w fun e w' => ∃ G cp xs, e = .returned (.slice (some ⟨G, 0, none⟩) N cp) ∧ JF w G cp N xs fs w' := by
  have HN : Hid (fs.length = N) := hN
  have HFT : Hid _ := hfit
  have HF : Hid (FormsAt w ad fs) := hF
  clear hN hfit hF
  obtain ⟨i0, hi, hz0, hz1, hz2⟩ := info_parts Tryz.infoForm
  have j0 : JF w w.heap.size 0 0 [] fs (w.alloc (.cells #[] 127)) :=
    ⟨(Below.refl _ _).alloc (Nat.le_refl _) _, World.ownsRow_lit w #[] 0 (Nat.le_refl _) (by unfold maxLen; omega) rfl, fun j hj => by omega, Lo.nil _⟩
  go_enter Tryz.func175, Tryz.ntmps175
  go_wp2_with fail
  go_loopw [3, 4] (fun r i wr => ∃ (k G cp : Nat) (xs : List Value), k ≤ N ∧ i = .int .i64 k ∧ r = .slice (some ⟨G, 0, none⟩) k cp ∧ JF w G cp k xs fs wr) (fun _ i _ => N - (intOf i).toNat)
  case atStart => exact ⟨0, _, _, _, Nat.zero_le _, rfl, rfl, j0⟩
  case round =>
    clear j0
    obtain ⟨k, G, cp, xs, hk, rfl, rfl, j⟩ := hrel
    by_cases hlt : k < N
    · obtain ⟨b, off, rfl, a', c', ca, cc, c0, c1, c2, iC, iD⟩ := HF.out k (by rw [HN.out]; exact hlt)
      have hfit := HFT.out k hlt
      have HK : Hid (fs[k]?.getD ([], [], 0) = fs[k]?.getD ([], [], 0)) := rfl
      generalize HG : fs[k]?.getD ([], [], 0) = f at *
      have HT : Hid (fs[k]?.getD ([], [], 0) = f) := HG
      clear HG HK
      obtain ⟨fC, fD, fK⟩ := f
      obtain ⟨lC, lD, bC, bD, k1, k2⟩ := hfit
      simp only at c2 iC iD lC lD bC bD k1 k2
      have keep : ∀ W : World, Below w.heap.size w W → (W.cell? ⟨b, off + k * 3, none⟩ = some (.slice a' 3 ca) ∧ W.cell? ⟨b, off + k * 3 + 1, none⟩ = some (.slice c' 2 cc) ∧ W.cell? ⟨b, off + k * 3 + 2, none⟩ = some (.int .i64 fK)) := fun W hW =>
        ⟨by rw [hW.cell (p := ⟨b, off + k * 3, none⟩) (block_lt c0)]; exact c0, by rw [hW.cell (p := ⟨b, off + k * 3 + 1, none⟩) (block_lt c1)]; exact c1, by rw [hW.cell (p := ⟨b, off + k * 3 + 2, none⟩) (block_lt c2)]; exact c2⟩
      have KP : Hid _ := keep
      clear keep
      have hSS := And.intro (KP.out _ j.b.drew) (True.intro)
      clear c0 c1 c2
      have hlt' : (k : Int) < N := by omega
      go_upto_region 5 with fail
      refine wp_region_ends (fun w' => w'.cell? ⟨b, off + k * 3, none⟩ = some (.slice a' 3 ca) ∧ w'.cell? ⟨b, off + k * 3 + 1, none⟩ = some (.slice c' 2 cc) ∧ w'.cell? ⟨b, off + k * 3 + 2, none⟩ = some (.int .i64 fK)) (fun _ => True) 9 (by kernel_rfl) ?_
      refine wpAnyE_take0 (i := 0) (v := ?v0) rfl (by kernel_rfl) (by kernel_rfl) (by kernel_rfl) (by decide) (fun _ _ _ h => h) (Or.inl ⟨by rfl, ?hy0⟩) hSS ?_
      case hy0 => (intro wz hSw; (try dsimp only at hSw); go_simp; try (with_reducible rfl))
      refine wpAnyE_take0 (i := 2) (v := ?v2) rfl (by kernel_rfl) (by kernel_rfl) (by kernel_rfl) (by decide) (fun _ _ _ h => h) (Or.inl ⟨by rfl, ?hy2⟩) hSS ?_
      case hy2 => (intro wz hSw; (try dsimp only at hSw); go_simp; try (with_reducible rfl))
      refine wpAnyE_take0 (i := 3) (v := ?v3) rfl (by kernel_rfl) (by kernel_rfl) (by kernel_rfl) (by decide) (fun _ _ _ h => h) (Or.inl ⟨by rfl, ?hy3⟩) hSS ?_
      case hy3 => (intro wz hSw; (try dsimp only at hSw); go_simp; try (with_reducible rfl))
      refine wpAnyE_take0 (i := 4) (v := ?v4) rfl (by kernel_rfl) (by kernel_rfl) (by kernel_rfl) (by decide) (fun _ _ _ h => h) (Or.inl ⟨by rfl, ?hy4⟩) hSS ?_
      case hy4 => (intro wz hSw; (try dsimp only at hSw); go_simp; try (with_reducible rfl))
      refine wpAnyE_take0 (i := 5) (v := ?v5) rfl (by kernel_rfl) (by kernel_rfl) (by kernel_rfl) (by decide) (fun _ _ _ h => h) (Or.inl ⟨by rfl, ?hy5⟩) hSS ?_
      case hy5 => (intro wz hSw; (try dsimp only at hSw); go_simp; try (with_reducible rfl))
      refine wpAnyE_one (i := 1) (by kernel_rfl) rfl (fun K hK => ?_)
      go_simp
      refine (szero_any _).mono ?_
      rintro ee w3 ⟨Z1, Z2, rfl, b3, y1, y2, y3, z1, z2⟩
      have j3 := j.below (below_of_drew b3)
      dsimp only
      refine hK.out _ _ ⟨KP.out _ j3.b, fun _ => trivial⟩ ?_
      clear hK K hSS j
      refine wpAnyE_one (i := 6) (by kernel_rfl) rfl (fun K hK => ?_)
      go_simp
      refine (l1sum_any _ _ _ _ _ [0, 0, 0] [0, 0] _ _ _ _ _ fC fD _ _ (z1.ints' rfl) (z2.ints' rfl) (iC.below j3.b) (iD.below j3.b) bnd_lit3 bnd_lit2 (by omega) (fun i => by have := bC i; omega) (fun i => by have := bD i; omega) (by omega)).mono ?_
      rintro ee w4 ⟨B1, B2, rfl, b4, g1, g2, g3, u1, u2⟩
      rw [lin3_one lC] at u1
      rw [lin2_one lD] at u2
      have e0 : (0 : Int) + 1 * fK = fK := by omega
      rw [e0]
      have j4 := j3.below b4
      have lG := j3.lt
      have hs3 := j3.b.size
      have l1 := u1.lt
      have l2 := u2.lt
      dsimp only
      refine hK.out _ _ ⟨KP.out _ j4.b, fun _ => trivial⟩ ?_
      clear hK K z1 z2 b3 b4 y1 y2 y3
      refine wpAnyE_one (i := 7) (by kernel_rfl) rfl (fun K hK => ?_)
      go_simp
      have A5 : Below w4.heap.size w4 (w4.alloc (.cells #[.slice (some ⟨B1, 0, none⟩) 3 3, .slice (some ⟨B2, 0, none⟩) 2 2, .int .i64 fK] 127)) := (Below.refl _ _).alloc (Nat.le_refl _) _
      have j5 := j4.below A5
      have hs5 := j5.b.size
      have v1 := u1.below A5
      have v2 := u2.below A5
      have s43 := A5.size
      have lG4 := j4.lt
      refine hK.out _ _ ⟨KP.out _ j5.b, fun _ => trivial⟩ ?_
      clear hK K A5 j3 j4
      refine wpAnyE_one (i := 8) (by kernel_rfl) rfl (fun K hK => ?_)
      rw [if_pos (by rfl)]
      refine wp_append_lies _ (.tmp 12) (.tmp 19) 133 rfl w.heap.size 127 i0 _ 3 56 Tryz.underlying133 hi hz0 hz1 hz2 rfl (by omega) (.slice (some ⟨G, 0, none⟩) k cp) k xs (by rfl) j5.o ⟨w4.heap.size, 0, none⟩ 1 1 [Value.slice (some ⟨B1, 0, none⟩) 3 3, Value.slice (some ⟨B2, 0, none⟩) 2 2, Value.int .i64 fK] (by rfl) (by rfl) (World.news_of_block (cs := #[Value.slice (some ⟨B1, 0, none⟩) 3 3, Value.slice (some ⟨B2, 0, none⟩) 2 2, Value.int .i64 fK]) (t := 127) (fr := (0, 0)) (heap_alloc_new w4 _)) (by simp [Value.oneCell']) (by omega) (by unfold maxLen; omega) (by omega) hs5 (w4.heap.size + 1) (by rw [World.size_alloc]) ?_
      intro g cp2 w6 hown hgrow hat hlt6
      have j6 : JF w g cp2 (k + 1) (xs ++ [Value.slice (some ⟨B1, 0, none⟩) 3 3, Value.slice (some ⟨B2, 0, none⟩) 2 2, Value.int .i64 fK]) fs w6 := by
        refine ⟨j5.b.grown hgrow hs5 (fun z hz => ?_), hown, j5.t.step j5.o.1 hgrow ?_ (v1.ints' lC) (v2.ints' lD) (by omega) (by omega) HT.out, j5.l.app (by omega) (by omega)⟩
        · have : some G = some z := hz
          simp only [Option.some.injEq] at this
          omega
        · rcases hat with h | h
          · have : some G = some g := h
            simp only [Option.some.injEq] at this
            exact Or.inl this.symm
          · exact Or.inr (by rw [World.size_alloc]; omega)
      refine hK.out _ _ ⟨KP.out _ j6.b, fun _ => trivial⟩ ?_
      clear hK K hown hgrow hat j5 v1 v2 u1 u2
      refine wpAnyE_one (i := 9) (by kernel_rfl) rfl (fun K hK => ?_)
      go_simp
      refine hK.out _ _ ⟨KP.out _ j6.b, fun _ => trivial⟩ ?_
      clear hK K
      refine wpAnyE_done (by kernel_rfl) ?_ _
      go_wp2
      go_roundw
      case rel => exact ⟨k + 1, g, cp2, _, by omega, by go_num, rfl, j6⟩
      case measure => simp [intOf]; omega
    · obtain rfl : k = N := by omega
      go_wp2
      go_ret
      exact ⟨G, cp, xs, rfl, j⟩

end Go.Proofs.YtacjjhfbnbmnlaaGreatDoor

namespace Go.Proofs.YtacjjhfbnbmnlaaGreatDoor
open Go.RowKit
set_option linter.unusedVariables false
set_option maxRecDepth 100000

set_option maxHeartbeats 6400000 in
theorem sminus_any (a : Option Addr) (cap : Nat) (c : Option Addr) (cap' : Nat) (K : Int) (C D : List Int) (w : World) (hC : Ints w a 3 C) (hD : Ints w c 2 D) (bC : bnd 10000000 C) (bD : bnd 10000000 D) (bK1 : -10000000 ≤ K) (bK2 : K ≤ 10000000) :
    Calls Tryz.prog 177 #[formV a 3 cap c 2 cap' K] w fun e w' => ∃ B1 B2, e = .returned (formV (some ⟨B1, 0, none⟩) 3 3 (some ⟨B2, 0, none⟩) 2 2 (-K - 1)) ∧ Below w.heap.size w w' ∧ w.heap.size ≤ B1 ∧ B1 ≠ B2 ∧ w.heap.size ≤ B2 ∧ Blk w' B1 (mulL (-1) C) ∧ Blk w' B2 (mulL (-1) D) := by
  obtain ⟨k, hk⟩ : ∃ k : Int, k = -1 := ⟨_, rfl⟩
  have tC : bndT 1000000000000000000 k C := by rw [hk]; exact fun i => by have := bC i; omega
  have tD : bndT 1000000000000000000 k D := by rw [hk]; exact fun i => by have := bD i; omega
  have tK : -1000000000000000000 ≤ k * K ∧ k * K ≤ 1000000000000000000 := by rw [hk]; omega
  have Z3 := lin_zero3 (k := k) hC.1
  have Z2 := lin_zero2 (k := k) hD.1
  have H1 : TimesH w a cap c cap' K ((w.alloc (Obj.cells #[Value.slice a 3 cap, Value.slice c 2 cap', Value.int IntKind.i64 K] 127)).alloc (Obj.cells #[Value.slice none 0 0, Value.slice none 0 0, Value.int IntKind.i64 0] 127)) :=
    ⟨(Cel.new w _ _).alloc _, by have := Cel.new (w.alloc (Obj.cells #[Value.slice a 3 cap, Value.slice c 2 cap', Value.int IntKind.i64 K] 127)) [.slice none 0 0, .slice none 0 0, .int .i64 0] 127; rw [World.size_alloc] at this; exact this, ((Below.refl _ _).alloc (Nat.le_refl _) _).alloc (by simp) _⟩
  have HK : Hid (k = -1) := hk
  subst hk
  go_enter Tryz.func177, Tryz.ntmps177
  go_upto_region 1 with fail
  obtain ⟨w2, hw2⟩ : ∃ w2, w2 = (w.alloc (Obj.cells #[Value.slice a 3 cap, Value.slice c 2 cap', Value.int IntKind.i64 K] 127)).alloc (Obj.cells #[Value.slice none 0 0, Value.slice none 0 0, Value.int IntKind.i64 0] 127) := ⟨_, rfl⟩
  rw [← hw2] at H1 ⊢
  clear hw2
  go_cut [3] (fun s wx => ∃ X B1 B2, s = .pointer (some ⟨X, 0, none⟩) ∧ TimesH w a cap c cap' K wx ∧ Cel wx X [.slice (some ⟨B1, 0, none⟩) 3 3, .slice (some ⟨B2, 0, none⟩) 2 2, .int .i64 (-K)] 127 ∧ Blk wx B1 (mulL (-1) C) ∧ Blk wx B2 (mulL (-1) D) ∧ w.heap.size + 1 < X ∧ w.heap.size + 1 < B1 ∧ w.heap.size + 1 < B2 ∧ B1 ≠ B2 ∧ B1 ≠ X ∧ B2 ≠ X)
  case first =>
    have l1 := H1.r.lt
    have G1 := H1.cells
    have N0 := World.new_ne w2 ⟨w.heap.size, 0, none⟩ G1.1
    have N1 := World.new_ne w2 ⟨w.heap.size, 1, none⟩ G1.2.1
    have N2 := World.new_ne w2 ⟨w.heap.size, 2, none⟩ G1.2.2
    have A1 := H1.b.size
    go_region_held3 (fun w' => w'.cell? ⟨w.heap.size, 0, none⟩ = some (.slice a 3 cap) ∧ w'.cell? ⟨w.heap.size, 1, none⟩ = some (.slice c 2 cap') ∧ w'.cell? ⟨w.heap.size, 2, none⟩ = some (.int .i64 K)) (first | assumption | go_keep)
      (first
        | (go_at_call 97; refine (szero_any _).mono ?_; rintro e w3 ⟨Z1, Z2', rfl, b3, y1, y2, y3, k1, k2⟩; have H3 := TimesH.below (w := w) (a := a) (c := c) (cap := cap) (cap' := cap') (K := K) (by first | exact H1.drew | exact (H1.alloc _).drew) b3; have G3 := H3.cells; have l3 := H3.r.lt; have A3 : w2.heap.size ≤ w3.heap.size := Nat.le_trans (by simp) b3.size; have N3 := World.new_ne w3 ⟨w.heap.size, 0, none⟩ G3.1; have N4 := World.new_ne w3 ⟨w.heap.size, 1, none⟩ G3.2.1; have N5 := World.new_ne w3 ⟨w.heap.size, 2, none⟩ G3.2.2; first | (have X3 := Cel.below (w := (w2.alloc (Obj.cells #[Value.slice none 0 0, Value.slice none 0 0, Value.int IntKind.i64 0] 127)).drew) (Cel.new w2 [Value.slice none 0 0, Value.slice none 0 0, Value.int IntKind.i64 0] 127) b3) | skip)
        | (go_at_call 178; refine (l1sum_any _ _ _ _ _ [0, 0, 0] [0, 0] _ _ _ _ _ C D _ _ (by first | exact k1.ints' rfl | exact (k1.alloc _).ints' rfl) (by first | exact k2.ints' rfl | exact (k2.alloc _).ints' rfl) (hC.below (TimesH.b (a := a) (c := c) (cap := cap) (cap' := cap') (K := K) (by first | exact H3 | exact H3.alloc _))) (hD.below (TimesH.b (a := a) (c := c) (cap := cap) (cap' := cap') (K := K) (by first | exact H3 | exact H3.alloc _))) bnd_lit3 bnd_lit2 (by omega) tC tD tK).mono ?_; rintro e w4 ⟨B1, B2, rfl, b4, g1, g2, g3, k3, k4⟩; have H4 := TimesH.below (w := w) (a := a) (c := c) (cap := cap) (cap' := cap') (K := K) (by first | exact H3 | exact H3.alloc _) b4; have G4 := H4.cells; have l4 := H4.r.lt; first | (have X4 := Cel.below (Cel.new w3 [Value.slice none 0 0, Value.slice none 0 0, Value.int IntKind.i64 0] 127) b4; have X5 := X4.trio; obtain ⟨u0, u1, u2, u3, u4, u5⟩ := X5) | (have X4 := X3.below b4; have X5 := X4.trio; obtain ⟨u0, u1, u2, u3, u4, u5⟩ := X5) | skip))
    all_goals
      rw [Z3] at k3
      rw [Z2] at k4
      try rw [World.size_alloc] at g1 g3
      have l13 := k3.lt
      have l14 := k4.lt
    · go_wp2_with fail
      go_meet
      case rel => exact ⟨_, B1, B2, rfl, H4.alloc _, Cel.new w4 _ _, k3.alloc _, k4.alloc _, by omega, by omega, by omega, g2, by omega, by omega⟩
    · go_wp2_with fail
      go_meet
      case rel => exact ⟨_, B1, B2, rfl, ((H4.set (by omega) _ _).set (by omega) _ _).set (by omega) _ _, ((X4.set 0 _).set 1 _).set 2 _, ((k3.setOther (by omega) _ _).setOther (by omega) _ _).setOther (by omega) _ _, ((k4.setOther (by omega) _ _).setOther (by omega) _ _).setOther (by omega) _ _, by omega, by omega, by omega, g2, by omega, by omega⟩
    · have x3 := X3.lt
      go_wp2_with fail
      go_meet
      case rel => exact ⟨_, B1, B2, rfl, ((H4.set (by omega) _ _).set (by omega) _ _).set (by omega) _ _, ((X4.set 0 _).set 1 _).set 2 _, ((k3.setOther (by omega) _ _).setOther (by omega) _ _).setOther (by omega) _ _, ((k4.setOther (by omega) _ _).setOther (by omega) _ _).setOther (by omega) _ _, by omega, by omega, by omega, g2, by omega, by omega⟩
  case rest =>
    obtain ⟨X, B1, B2, rfl, HX, hX, k1, k2, lX, lB1, lB2, hne, x1, x2⟩ := hcut
    clear H1 Z3 Z2 tC tD tK bC bD
    obtain ⟨c0, c1, c2, c3, c4, c5⟩ := hX.trio
    have hw : IntKind.i64.wrap (-K - 1) = -K - 1 := wrap_id (by omega) (by omega)
    have HY := HX.set (X := X) (by omega) 2 (.int .i64 (-K - 1))
    have hY := hX.set 2 (.int .i64 (-K - 1))
    obtain ⟨d0, d1, d2, d3, d4, d5⟩ := hY.trio
    obtain ⟨r0, r1, r2, r3, r4, r5⟩ := HY.room
    have k1' := k1.setOther x1 2 (.int .i64 (-K - 1))
    have k2' := k2.setOther x2 2 (.int .i64 (-K - 1))
    clear HX hX hY k1 k2
    go_wp2
    refine bodyPost_ret (v := formV (some ⟨B1, 0, none⟩) 3 3 (some ⟨B2, 0, none⟩) 2 2 (-K - 1)) (by simp [results, Tryz.results177, go_sem, r0, r1, r2]) rfl ?_
    refine ⟨B1, B2, rfl, ?_, by omega, hne, by omega, ?_, ?_⟩
    · exact ((HY.b.setCell (by simp only []; omega) _).setCell (by simp only []; omega) _).setCell (by simp only []; omega) _
    · exact ((k1'.setOther (by omega) _ _).setOther (by omega) _ _).setOther (by omega) _ _
    · exact ((k2'.setOther (by omega) _ _).setOther (by omega) _ _).setOther (by omega) _ _

end Go.Proofs.YtacjjhfbnbmnlaaGreatDoor

namespace Go.Proofs.YtacjjhfbnbmnlaaGreatDoor
open Go.RowKit
set_option linter.unusedVariables false

theorem izero_any (w : World) :
    Calls Tryz.prog 201 #[] w fun e w' => ∃ B1 B2, e = .returned (formV (some ⟨B1, 0, none⟩) 3 3 (some ⟨B2, 0, none⟩) 2 2 0) ∧ Below w.heap.size w w' ∧ w.heap.size ≤ B1 ∧ B1 ≠ B2 ∧ w.heap.size ≤ B2 ∧ Blk w' B1 [0, 0, 0] ∧ Blk w' B2 [0, 0] := by
  go_enter Tryz.func201, Tryz.ntmps201
  go_wp2_with fail
  refine (sum_any none 0 0 [] 0 _ rfl (fun i hi => by simp at hi) (fun i hi => by simp at hi) (by omega) (by omega) (by omega)).mono ?_
  rintro e w1 ⟨B1, B2, rfl, b1, h1, h2, h3, k1, k2⟩
  have r := (Cel.new w _ _).below b1
  have r0 := r.cell 0
  have r1 := r.cell 1
  have r2 := r.cell 2
  have r3 := r.free 0
  have r4 := r.free 1
  have r5 := r.free 2
  simp only [List.getElem?_cons_zero, List.getElem?_cons_succ] at r0 r1 r2
  rw [World.size_alloc] at h1 h3
  have hb : Below w.heap.size w w1 := ((Below.refl _ _).alloc (Nat.le_refl _) _).trans (b1.mono (by simp))
  go_wp2
  refine bodyPost_ret (v := formV (some ⟨B1, 0, none⟩) 3 3 (some ⟨B2, 0, none⟩) 2 2 0) (by simp [results, Tryz.results201, go_sem, r0, r1, r2, sumK]) rfl ⟨B1, B2, rfl, ?_, by omega, h2, by omega, ?_, ?_⟩
  · exact ((hb.setCell (Nat.le_refl _) _).setCell (Nat.le_refl _) _).setCell (Nat.le_refl _) _
  · exact ((k1.setOther (by omega) _ _).setOther (by omega) _ _).setOther (by omega) _ _
  · exact ((k2.setOther (by omega) _ _).setOther (by omega) _ _).setOther (by omega) _ _

theorem szero_res (w : World) : Calls Tryz.prog 97 #[] w fun e w' => Res w w' e [0, 0, 0] [0, 0] 0 :=
  (szero_any w).mono fun e w' ⟨B1, B2, he, hb, h1, h2, h3, k1, k2⟩ => Res.of he rfl rfl hb h1 h2 h3 k1 k2
theorem izero_res (w : World) : Calls Tryz.prog 201 #[] w fun e w' => Res w w' e [0, 0, 0] [0, 0] 0 :=
  (izero_any w).mono fun e w' ⟨B1, B2, he, hb, h1, h2, h3, k1, k2⟩ => Res.of he rfl rfl hb h1 h2 h3 k1 k2

/-- The form that is pot v: nothing, if there is no such pot. -/
def potC (v : Int) : List Int := if 0 ≤ v ∧ v ≤ 2 then [0, 0, 0].set v.toNat 1 else []
def potD (v : Int) : List Int := if 0 ≤ v ∧ v ≤ 2 then [0, 0] else []
theorem potC_in (v : Int) (k : Nat) (hv : v = k) (hk : k ≤ 2) : potC v = [0, 0, 0].set k 1 := by subst hv; unfold potC; rw [if_pos (by omega)]; rfl
theorem potD_in (v : Int) (h0 : 0 ≤ v) (h2 : v ≤ 2) : potD v = [0, 0] := by unfold potD; rw [if_pos ⟨h0, h2⟩]
theorem potC_out (v : Int) (h : ¬ (0 ≤ v ∧ v ≤ 2)) : potC v = [] := by unfold potC; rw [if_neg h]
theorem potD_out (v : Int) (h : ¬ (0 ≤ v ∧ v ≤ 2)) : potD v = [] := by unfold potD; rw [if_neg h]
theorem potC_len (v : Int) : (potC v).length ≤ 1048576 := by unfold potC; split <;> simp
theorem potD_len (v : Int) : (potD v).length ≤ 1048576 := by unfold potD; split <;> simp

set_option maxHeartbeats 800000 in
theorem spot_any (v : Int) (w : World) :
    Calls Tryz.prog 91 #[.int .i64 v] w fun e w' => Res w w' e (potC v) (potD v) 0 := by
  by_cases h : 0 ≤ v ∧ v ≤ 2
  · obtain ⟨h0, h2⟩ := h
    have hi : inB v 0 2 = true := inB_iff.2 ⟨h0, h2⟩
    obtain ⟨k, rfl⟩ := Int.eq_ofNat_of_zero_le h0
    have hk : k < 3 := by omega
    have hk' : (k : Int) < 3 := by omega
    rw [potC_in (k : Int) k rfl (by omega), potD_in (k : Int) (by omega) (by omega)]
    go_enter Tryz.func91, Tryz.ntmps91
    go_wp2_with fail
    refine (in_any _ _ _ _).mono ?_
    rintro e w0 ⟨rfl, rfl⟩
    go_wp2_with fail
    refine (szero_any _).mono ?_
    rintro e w1 ⟨B1, B2, rfl, b1, g1, g2, g3, k1, k2⟩
    rw [World.size_alloc] at g1 g3
    have r := (Cel.new w _ _).below b1
    have hb : Below w.heap.size w w1 := ((Below.refl _ _).alloc (Nat.le_refl _) _).trans (b1.mono (by simp))
    have hrl := r.lt
    have c0 : w1.cell? ⟨B1, k, none⟩ = some (.int .i64 0) := by
      have := k1.cell k (by simpa using hk)
      rw [this]
      match k, hk with
      | 0, _ => rfl
      | 1, _ => rfl
      | 2, _ => rfl
    have c1 := k1.free k
    have hB1 := k1.lt
    have hB2 := k2.lt
    have k3 := k1.set k 1
    have k4 := k2.setOther (B' := B1) (by omega) k (.int .i64 1)
    have r' := r.setOther (B' := B1) (by omega) k (.int .i64 1)
    have hb' := hb.setCell (p := ⟨B1, k, none⟩) (by show w.heap.size ≤ B1; omega) (.int .i64 1)
    have r0 := r'.cell 0
    have r1 := r'.cell 1
    have r2 := r'.cell 2
    have r3 := r'.free 0
    have r4 := r'.free 1
    have r5 := r'.free 2
    simp only [List.getElem?_cons_zero, List.getElem?_cons_succ] at r0 r1 r2
    clear hi
    go_wp2
    refine bodyPost_ret (v := formV (some ⟨B1, 0, none⟩) 3 3 (some ⟨B2, 0, none⟩) 2 2 0) (by simp [results, Tryz.results91, go_sem, r0, r1, r2, hrl]) rfl (Res.of (B1 := B1) (B2 := B2) rfl (by simp) rfl ?_ (by omega) g2 (by omega) ?_ ?_)
    · exact (((hb'.setCell (Nat.le_refl _) _).setCell (Nat.le_refl _) _).setCell (Nat.le_refl _) _).alloc (by rw [size_setCell, size_setCell, size_setCell, size_setCell]; omega) _
    · exact (((k3.setOther (by omega) _ _).setOther (by omega) _ _).setOther (by omega) _ _).alloc _
    · exact (((k4.setOther (by omega) _ _).setOther (by omega) _ _).setOther (by omega) _ _).alloc _
  · have hi : inB v 0 2 = false := inB_not.2 h
    rw [potC_out v h, potD_out v h]
    go_enter Tryz.func91, Tryz.ntmps91
    go_wp2_with fail
    refine (in_any _ _ _ _).mono ?_
    rintro e w0 ⟨rfl, rfl⟩
    go_wp2
    exact bodyPost_ret (v := formV none 0 0 none 0 0 0) (by simp [results, Tryz.results91, go_sem]) rfl (Res.none rfl ((Below.refl _ _).alloc (Nat.le_refl _) _))

set_option maxHeartbeats 800000 in
theorem ipot_any (v : Int) (w : World) :
    Calls Tryz.prog 187 #[.int .i64 v] w fun e w' => Res w w' e (potC v) (potD v) 0 := by
  by_cases h : 0 ≤ v ∧ v ≤ 2
  · obtain ⟨h0, h2⟩ := h
    have hi : inB v 0 2 = true := inB_iff.2 ⟨h0, h2⟩
    obtain ⟨k, rfl⟩ := Int.eq_ofNat_of_zero_le h0
    have hk : k < 3 := by omega
    have hk' : (k : Int) < 3 := by omega
    rw [potC_in (k : Int) k rfl (by omega), potD_in (k : Int) (by omega) (by omega)]
    go_enter Tryz.func187, Tryz.ntmps187
    go_wp2_with fail
    refine (place_any _ _ _).mono ?_
    rintro e w0 ⟨rfl, rfl⟩
    rw [decide_eq_true (show 0 ≤ (k : Int) ∧ (k : Int) < 3 from ⟨h0, hk'⟩)]
    go_wp2_with fail
    refine (izero_any _).mono ?_
    rintro e w1 ⟨B1, B2, rfl, b1, g1, g2, g3, k1, k2⟩
    rw [World.size_alloc] at g1 g3
    have r := (Cel.new w _ _).below b1
    have hb : Below w.heap.size w w1 := ((Below.refl _ _).alloc (Nat.le_refl _) _).trans (b1.mono (by simp))
    have hrl := r.lt
    have c0 : w1.cell? ⟨B1, k, none⟩ = some (.int .i64 0) := by
      have := k1.cell k (by simpa using hk)
      rw [this]
      match k, hk with
      | 0, _ => rfl
      | 1, _ => rfl
      | 2, _ => rfl
    have c1 := k1.free k
    have hB1 := k1.lt
    have hB2 := k2.lt
    have k3 := k1.set k 1
    have k4 := k2.setOther (B' := B1) (by omega) k (.int .i64 1)
    have r' := r.setOther (B' := B1) (by omega) k (.int .i64 1)
    have hb' := hb.setCell (p := ⟨B1, k, none⟩) (by show w.heap.size ≤ B1; omega) (.int .i64 1)
    have r0 := r'.cell 0
    have r1 := r'.cell 1
    have r2 := r'.cell 2
    have r3 := r'.free 0
    have r4 := r'.free 1
    have r5 := r'.free 2
    simp only [List.getElem?_cons_zero, List.getElem?_cons_succ] at r0 r1 r2
    clear hi
    go_wp2
    refine bodyPost_ret (v := formV (some ⟨B1, 0, none⟩) 3 3 (some ⟨B2, 0, none⟩) 2 2 0) (by simp [results, Tryz.results187, go_sem, r0, r1, r2, hrl]) rfl (Res.of (B1 := B1) (B2 := B2) rfl (by simp) rfl ?_ (by omega) g2 (by omega) ?_ ?_)
    · exact (((hb'.setCell (Nat.le_refl _) _).setCell (Nat.le_refl _) _).setCell (Nat.le_refl _) _).alloc (by rw [size_setCell, size_setCell, size_setCell, size_setCell]; omega) _
    · exact (((k3.setOther (by omega) _ _).setOther (by omega) _ _).setOther (by omega) _ _).alloc _
    · exact (((k4.setOther (by omega) _ _).setOther (by omega) _ _).setOther (by omega) _ _).alloc _
  · rw [potC_out v h, potD_out v h]
    go_enter Tryz.func187, Tryz.ntmps187
    go_wp2_with fail
    refine (place_any _ _ _).mono ?_
    rintro e w0 ⟨rfl, rfl⟩
    rw [decide_eq_false (show ¬ (0 ≤ v ∧ v < 3) by omega)]
    go_wp2
    exact bodyPost_ret (v := formV none 0 0 none 0 0 0) (by simp [results, Tryz.results187, go_sem]) rfl (Res.none rfl ((Below.refl _ _).alloc (Nat.le_refl _) _))

end Go.Proofs.YtacjjhfbnbmnlaaGreatDoor

namespace Go.Proofs.YtacjjhfbnbmnlaaGreatDoor
open Go.RowKit Go.Deep
set_option linter.unusedVariables false
set_option maxRecDepth 100000

theorem grown_none {W W' : World} (h : W.grownBy W' none) (G : Nat) : W.grownBy W' (some G) :=
  ⟨h.os, h.tape, h.output, h.size, fun k hk _ => h.block k hk (by simp)⟩
theorem Cel.grew {W W' : World} {B : Nat} {vs : List Value} {t : TypeId} {row : Option Nat} (h : Cel W B vs t) (hg : W.grownBy W' row) (hne : row ≠ some B) : Cel W' B vs t := by
  have hl := h.lt
  unfold Cel at *
  rw [hg.block B hl (fun e => hne e.symm)]; exact h

/-- A slice of the first n forms, in memory made since w; it may be nil as yet. -/
structure JV (w : World) (v : Value) (n : Nat) (xs : List Value) (fs : List Frm) (W : World) : Prop where
  b : Below w.heap.size w W
  o : W.ownsRow w.heap.size 127 3 v n xs
  t : ∃ G, (v.ownBlock = some G ∨ (v.ownBlock = none ∧ n = 0)) ∧ TermsOk W G xs fs n
  l : Lo w.heap.size xs
theorem JV.nil (w : World) (fs : List Frm) : JV w (.slice none 0 0) 0 [] fs w := ⟨Below.refl _ _, World.ownsRow_nil w _ _ _, ⟨0, Or.inr ⟨rfl, rfl⟩, fun j hj => by omega⟩, Lo.nil _⟩
theorem JV.below {w W W' : World} {v : Value} {n : Nat} {xs : List Value} {fs : List Frm} (j : JV w v n xs fs W) (h : Below W.heap.size W W') : JV w v n xs fs W' := by
  obtain ⟨G, hG, ht⟩ := j.t
  exact ⟨j.b.trans (h.mono j.b.size), own_below j.o h, ⟨G, hG, ht.below h⟩, j.l⟩
theorem JV.own {w W : World} {v : Value} {n : Nat} {xs : List Value} {fs : List Frm} (j : JV w v n xs fs W) {G : Nat} (h : v.ownBlock = some G) : w.heap.size ≤ G ∧ G < W.heap.size := by
  rcases j.o.2 with ⟨e, _⟩ | ⟨g, cap', cur, e, hg, hh, _⟩
  · rw [e] at h; cases h
  · rw [e] at h
    have : some g = some G := h
    simp only [Option.some.injEq] at this
    subst this
    exact ⟨hg, lt_of_block hh⟩
theorem JV.isSlice {w W : World} {v : Value} {n : Nat} {xs : List Value} {fs : List Frm} (j : JV w v n xs fs W) : ∃ a c, v = .slice a n c := by
  rcases j.o.2 with ⟨e, h0⟩ | ⟨g, cap', cur, e, _⟩
  · subst h0; exact ⟨_, _, e⟩
  · exact ⟨_, _, e⟩
theorem JV.slice {w W : World} {v : Value} {n : Nat} {xs : List Value} {fs : List Frm} (j : JV w v n xs fs W) (hn : fs.length = n) : ∃ a cap, v = .slice a n cap ∧ FormsAt W a fs := by
  obtain ⟨G, hG, ht⟩ := j.t
  rcases j.o.2 with ⟨e, h0⟩ | ⟨g, cap', cur, e, hg, hh, _⟩
  · subst h0
    exact ⟨none, 0, e, fun i hi => by omega⟩
  · have o := j.o
    rw [e] at o
    rcases hG with hG | ⟨_, h0⟩
    · rw [e] at hG
      have : some g = some G := hG
      simp only [Option.some.injEq] at this
      subst this
      exact ⟨_, cap', e, ht.forms hn o⟩
    · subst h0
      exact ⟨_, cap', e, fun i hi => by omega⟩
theorem JV.app {w W W' : World} {v : Value} {n : Nat} {xs : List Value} {fs : List Frm} {g cap B1 B2 ca cc : Nat} {C D : List Int} {K : Int} (j : JV w v n xs fs W) (hown : W'.ownsRow w.heap.size 127 3 (.slice (some ⟨g, 0, none⟩) (n + 1) cap) (n + 1) (xs ++ [.slice (some ⟨B1, 0, none⟩) 3 ca, .slice (some ⟨B2, 0, none⟩) 2 cc, .int .i64 K])) (hgrow : W.grownBy W' v.ownBlock) {H : Nat} (hat : v.ownBlock = some g ∨ g = H) (hH : W.heap.size = H)
    (k1 : Ints W (some ⟨B1, 0, none⟩) 3 C) (k2 : Ints W (some ⟨B2, 0, none⟩) 2 D) (n1 : v.ownBlock ≠ some B1) (n2 : v.ownBlock ≠ some B2) (p1 : w.heap.size ≤ B1) (p2 : w.heap.size ≤ B2) (hT : fs[n]?.getD ([], [], 0) = (C, D, K)) :
    JV w (.slice (some ⟨g, 0, none⟩) (n + 1) cap) (n + 1) (xs ++ [.slice (some ⟨B1, 0, none⟩) 3 ca, .slice (some ⟨B2, 0, none⟩) 2 cc, .int .i64 K]) fs W' := by
  have hb : Below w.heap.size w W' := j.b.grown hgrow j.b.size (fun z hz => (j.own hz).1)
  have l1 := k1.blt (by omega) B1 0 rfl
  have l2 := k2.blt (by omega) B2 0 rfl
  obtain ⟨G, hG, ht⟩ := j.t
  refine ⟨hb, hown, ⟨g, Or.inl rfl, ?_⟩, j.l.app p1 p2⟩
  rcases hG with hG | ⟨hG, h0⟩
  · rw [hG] at hgrow hat n1 n2
    refine ht.step j.o.1 hgrow ?_ k1 k2 (fun e => n1 (by rw [e])) (fun e => n2 (by rw [e])) hT
    rcases hat with h | h
    · simp only [Option.some.injEq] at h; exact Or.inl h.symm
    · exact Or.inr (by omega)
  · rw [hG] at hgrow hat
    have ht' : TermsOk W (W.heap.size + 1) xs fs n := fun j hj => by omega
    refine ht'.step j.o.1 (grown_none hgrow _) ?_ k1 k2 (by omega) (by omega) hT
    rcases hat with h | h
    · cases h
    · exact Or.inr (by omega)

/-- Forms that read as they do, whatever becomes of the blocks of S. -/
def FOff (W : World) (S : Nat → Prop) (a : Option Addr) (fs : List Frm) : Prop := ∀ W', Touch S W W' → FormsAt W' a fs
theorem FOff.at {W : World} {S : Nat → Prop} {a : Option Addr} {fs : List Frm} (h : FOff W S a fs) : FormsAt W a fs := h W (Touch.refl _ _)
theorem FOff.touch {W W' : World} {S : Nat → Prop} {a : Option Addr} {fs : List Frm} (h : FOff W S a fs) (t : Touch S W W') : FOff W' S a fs := fun W'' t' => h W'' (t.trans t')
theorem FOff.below {W W' : World} {S : Nat → Prop} {a : Option Addr} {fs : List Frm} (h : FOff W S a fs) (b : Below W.heap.size W W') : FOff W' S a fs := h.touch (Touch.of b)
theorem FOff.mono {W : World} {S S' : Nat → Prop} {a : Option Addr} {fs : List Frm} (h : FOff W S a fs) (hs : ∀ k, S' k → S k) : FOff W S' a fs := fun W' t => h W' (t.mono hs)
/-- A block that is new. -/
theorem FOff.fresh {W : World} {S : Nat → Prop} {a : Option Addr} {fs : List Frm} (h : FOff W S a fs) (o : Obj) : FOff (W.alloc o) (fun k => S k ∨ k = W.heap.size) a fs := fun W' t => by
  have b : Below W.heap.size W (W.alloc o) := (Below.refl _ _).alloc (Nat.le_refl _) _
  refine h W' ⟨t.os.trans b.os, t.tape.trans b.tape, t.output.trans b.output, Nat.le_trans b.size t.size, fun k hk hn => ?_⟩
  rw [t.block k (Nat.lt_of_lt_of_le hk b.size) (fun e => by
    rcases e with e | e
    · exact hn e
    · omega)]
  exact b.block k hk
theorem JF.foff {w W : World} {G cap n : Nat} {xs : List Value} {fs : List Frm} (j : JF w G cap n xs fs W) (hn : fs.length = n) : FOff W (fun k => k < w.heap.size) (some ⟨G, 0, none⟩) fs := fun W' t => j.off hn (fun k h => h) t
theorem JV.foff {w W : World} {v : Value} {n : Nat} {xs : List Value} {fs : List Frm} (j : JV w v n xs fs W) (hn : fs.length = n) : ∃ a cap, v = .slice a n cap ∧ FOff W (fun k => k < w.heap.size) a fs := by
  obtain ⟨a, cap, hv⟩ := j.isSlice
  refine ⟨a, cap, hv, fun W' t => ?_⟩
  obtain ⟨G, hG, ht⟩ := j.t
  have o' := own_off j.o (fun g hg hs => by have := (j.own hg).1; omega) t
  have b' : Below w.heap.size W W' → True := fun _ => trivial
  have t' := ht.off j.l (fun k h => h) t
  rcases o'.2 with ⟨e, h0⟩ | ⟨g, cap', cur, e, _⟩
  · subst h0
    intro i hi
    omega
  · have o := o'
    rw [e] at o hv
    simp only [Value.slice.injEq, true_and] at hv
    obtain ⟨rfl, rfl⟩ := hv
    rcases hG with hG | ⟨hG, _⟩
    · rw [e] at hG
      have : some g = some G := hG
      simp only [Option.some.injEq] at this
      subst this
      exact t'.forms hn o
    · rw [e] at hG; cases hG

/-- A row that can be read, whatever becomes of memory below B. -/
def RowX (W : World) (B : Nat) (v : Value) (r : RowM) : Prop :=
  ∃ ga gc aa ac ta tc, v = .agg #[.slice ga r.guards.length gc, .slice aa r.adds.length ac, .slice ta r.tells.length tc, .bool r.stop] ∧ FOff W (fun k => k < B) ga r.guards ∧ FOff W (fun k => k < B) aa r.adds ∧ FOff W (fun k => k < B) ta r.tells
theorem FormsAt.keep {W W' : World} {a : Option Addr} {fs : List Frm} (h : FormsAt W a fs) (hb : Below W.heap.size W W') : FormsAt W' a fs := fun i hi => by
  obtain ⟨b, off, e, a', c', ca, cc, c0, c1, c2, iC, iD⟩ := h i hi
  refine ⟨b, off, e, a', c', ca, cc, ?_, ?_, ?_, iC.below hb, iD.below hb⟩
  · rw [hb.cell (p := ⟨b, off + i * 3, none⟩) (block_lt c0)]; exact c0
  · rw [hb.cell (p := ⟨b, off + i * 3 + 1, none⟩) (block_lt c1)]; exact c1
  · rw [hb.cell (p := ⟨b, off + i * 3 + 2, none⟩) (block_lt c2)]; exact c2

/-- Blocks that hold no number, and no slice of two or three, hold no part of a form. -/
theorem Ints.past {W W' : World} {X : Nat} {a : Option Addr} {n : Nat} {zs : List Int} (h : Ints W a n zs) (hx : ∀ o q, W.cell? ⟨X, o, none⟩ ≠ some (.int .i64 q)) (t : Touch (fun z => z = X) W W') : Ints W' a n zs := by
  refine ⟨h.1, fun i hi => ?_⟩
  obtain ⟨b, off, e, hc⟩ := h.2 i hi
  refine ⟨b, off, e, ?_⟩
  have hb := block_lt hc
  have hne : b ≠ X := fun e2 => by subst e2; exact hx _ _ hc
  simp only [World.cell?] at hc ⊢
  rw [t.block b hb hne]; exact hc
theorem FormsAt.past {W W' : World} {X : Nat} {a : Option Addr} {fs : List Frm} (h : FormsAt W a fs) (hx : ∀ o v, W.cell? ⟨X, o, none⟩ = some v → v = .slice none 0 0 ∨ v = .bool false) (t : Touch (fun z => z = X) W W') : FormsAt W' a fs := fun i hi => by
  obtain ⟨b, off, e, a', c', ca, cc, c0, c1, c2, iC, iD⟩ := h i hi
  have hi' : ∀ o q, W.cell? ⟨X, o, none⟩ ≠ some (.int .i64 q) := fun o q hq => by rcases hx o _ hq with h | h <;> cases h
  have hne : b ≠ X := fun e2 => by subst e2; rcases hx _ _ c0 with h | h <;> cases h
  have hb := block_lt c0
  refine ⟨b, off, e, a', c', ca, cc, ?_, ?_, ?_, iC.past hi' t, iD.past hi' t⟩
  · simp only [World.cell?] at c0 ⊢; rw [t.block b hb hne]; exact c0
  · simp only [World.cell?] at c1 ⊢; rw [t.block b hb hne]; exact c1
  · simp only [World.cell?] at c2 ⊢; rw [t.block b hb hne]; exact c2
theorem JV.past {w W W' : World} {X : Nat} {v : Value} {n : Nat} {xs : List Value} {fs : List Frm} (j : JV w v n xs fs W) (hX : w.heap.size ≤ X) (hx : ∀ o q, W.cell? ⟨X, o, none⟩ ≠ some (.int .i64 q)) (ne : v.ownBlock ≠ some X) (t : Touch (fun z => z = X) W W') : JV w v n xs fs W' := by
  obtain ⟨G, hG, ht⟩ := j.t
  refine ⟨j.b.trans (t.below j.b.size (fun k hk => by omega)), ⟨j.o.1, ?_⟩, ⟨G, hG, fun i hi => ?_⟩, j.l⟩
  · rcases j.o.2 with h2 | ⟨g, cap, cur, hv, hg, hh, r⟩
    · exact Or.inl h2
    · refine Or.inr ⟨g, cap, cur, hv, hg, ?_, r⟩
      have hne : g ≠ X := fun e => ne (by rw [hv, e]; rfl)
      rw [t.block g (lt_of_block hh) hne]; exact hh
  · obtain ⟨a', c', ca, cc, e0, e1, e2, i1, i2, n1, n2⟩ := ht i hi
    exact ⟨a', c', ca, cc, e0, e1, e2, i1.past hx t, i2.past hx t, n1, n2⟩

theorem Cel.four {w : World} {B : Nat} {x y z u : Value} {t : TypeId} (h : Cel w B [x, y, z, u] t) : w.cell? ⟨B, 0, none⟩ = some x ∧ w.cell? ⟨B, 1, none⟩ = some y ∧ w.cell? ⟨B, 2, none⟩ = some z ∧ w.cell? ⟨B, 3, none⟩ = some u := ⟨h.cell 0, h.cell 1, h.cell 2, h.cell 3⟩
theorem boxNo {W : World} {X : Nat} {a a' a'' : Option Addr} {n n' n'' c c' c'' : Nat} {bb : Bool} {t : TypeId} (h : Cel W X [.slice a n c, .slice a' n' c', .slice a'' n'' c'', .bool bb] t) : ∀ o q, W.cell? ⟨X, o, none⟩ ≠ some (.int .i64 q) := fun o q e => by
  have := h.cell o
  rw [e] at this
  match o with
  | 0 => simp at this
  | 1 => simp at this
  | 2 => simp at this
  | 3 => simp at this
  | o + 4 => simp at this
theorem boxNil {W : World} {X : Nat} {t : TypeId} (h : Cel W X [.slice none 0 0, .slice none 0 0, .slice none 0 0, .bool false] t) : ∀ o v, W.cell? ⟨X, o, none⟩ = some v → v = .slice none 0 0 ∨ v = .bool false := fun o v e => by
  have := h.cell o
  rw [e] at this
  match o with
  | 0 => simp at this; exact Or.inl this
  | 1 => simp at this; exact Or.inl this
  | 2 => simp at this; exact Or.inl this
  | 3 => simp at this; exact Or.inr this
  | o + 4 => simp at this
theorem pot_bnd {k : Nat} (hk : k < 3) : bndT 1000000000000000000 (-1) (([0, 0, 0] : List Int).set k 1) := fun i => by
  match k, hk, i with
  | 0, _, 0 => simp
  | 0, _, 1 => simp
  | 0, _, 2 => simp
  | 0, _, i + 3 => simp
  | 1, _, 0 => simp
  | 1, _, 1 => simp
  | 1, _, 2 => simp
  | 1, _, i + 3 => simp
  | 2, _, 0 => simp
  | 2, _, 1 => simp
  | 2, _, 2 => simp
  | 2, _, i + 3 => simp
theorem pot_bnd2 : bndT 1000000000000000000 (-1) ([0, 0] : List Int) := fun i => by
  match i with
  | 0 => simp
  | 1 => simp
  | i + 2 => simp

set_option maxHeartbeats 6400000 in
theorem srowend_any (y : Way) (pa : Option Addr) (cp : Nat) (ga : Option Addr) (ng gc : Nat) (ta : Option Addr) (nt tc : Nat) (w : World) (hp : y.pots.length = 3) (hg : y.guards.length = ng) (ht : y.tells.length = nt)
    (hP : FormsAt w pa y.pots) (hG : FormsAt w ga y.guards) (hT : FormsAt w ta y.tells) (fp : ∀ k, k < 3 → fitX 10000000 (y.pots[k]?.getD noX)) (fg : ∀ k, k < ng → fitX 10000000 (y.guards[k]?.getD ([], [], 0))) (ft : ∀ k, k < nt → fitX 10000000 (y.tells[k]?.getD ([], [], 0))) (hg1 : ng ≤ 1048576) (ht1 : nt ≤ 1048576) :
    Calls Tryz.prog 179 #[.slice pa 3 cp, .slice ga ng gc, .slice ta nt tc] w fun e w' => ∃ v, e = .returned v ∧ Below w.heap.size w w' ∧ RowX w' w.heap.size v (endW y) := by
  have HPL : Hid (y.pots.length = 3) := hp
  have HGL : Hid (y.guards.length = ng) := hg
  have HTL : Hid (y.tells.length = nt) := ht
  have HP : Hid (FormsAt w pa y.pots) := hP
  have HFP : Hid _ := fp
  have HFG : Hid _ := fg
  have HFT : Hid _ := ft
  clear hp hg ht fp fg ft hP
  obtain ⟨i0, hi, hz0, hz1, hz2⟩ := info_parts Tryz.infoForm
  have B0 : Below w.heap.size w (w.alloc (.cells #[.slice none 0 0, .slice none 0 0, .slice none 0 0, .bool false] 135)) := (Below.refl _ _).alloc (Nat.le_refl _) _
  have r0 := Cel.new w [.slice none 0 0, .slice none 0 0, .slice none 0 0, .bool false] 135
  go_enter Tryz.func179, Tryz.ntmps179
  go_wp2_with fail
  refine (scopy_any _ _ _ y.guards _ HGL.out (hG.keep B0) HFG.out hg1).mono ?_
  rintro e w1 ⟨G1, cp1, xs1, rfl, j1⟩
  have B1 := B0.trans (j1.b.mono B0.size)
  have r1 := r0.below j1.b
  have g1 := j1.foff HGL.out
  rw [World.size_alloc] at g1
  clear r0 B0 j1
  go_wp2_with fail
  refine (scopy_any _ _ _ y.tells _ HTL.out (hT.keep B1) HFT.out ht1).mono ?_
  rintro e w2 ⟨G2, cp2, xs2, rfl, j2⟩
  have B2 := B1.trans (j2.b.mono B1.size)
  have r2 := r1.below j2.b
  have g2 := g1.below j2.b
  have t2 := j2.foff HTL.out
  have z12 := r1.lt
  clear r1 B1 j2 g1
  go_wp2_with fail
  have lX := r2.lt
  have x0 := Cel.new w2 [.slice (some ⟨G1, 0, none⟩) ng cp1, .slice none 0 0, .slice (some ⟨G2, 0, none⟩) nt cp2, .bool false] 135
  have j0 : JV w2 (.slice none 0 0) 0 [] (endW y).adds (w2.alloc (.cells #[.slice (some ⟨G1, 0, none⟩) ng cp1, .slice none 0 0, .slice (some ⟨G2, 0, none⟩) nt cp2, .bool false] 135)) := (JV.nil w2 _).below ((Below.refl _ _).alloc (Nat.le_refl _) _)
  go_loopw [8] (fun i wr => ∃ (k : Nat) (v : Value) (xs : List Value), k ≤ 3 ∧ i = .int .i64 k ∧ Cel wr w2.heap.size [.slice (some ⟨G1, 0, none⟩) ng cp1, v, .slice (some ⟨G2, 0, none⟩) nt cp2, .bool false] 135 ∧ JV w2 v k xs (endW y).adds wr ∧ v.ownBlock ≠ some w2.heap.size) (fun i _ => 3 - (intOf i).toNat)
  case atStart => exact ⟨0, _, [], by omega, rfl, x0, j0, by intro h; cases h⟩
  case round =>
    clear x0 j0
    obtain ⟨k, v, xs, hk, rfl, xr, j, hne⟩ := hrel
    by_cases hlt : k < 3
    · obtain ⟨b, off, rfl, a', c', ca, cc, c0, c1, c2, iC, iD⟩ := HP.out k (by rw [HPL.out]; exact hlt)
      have hfit : fitX 10000000 (y.pots[k]?.getD ([], [], 0)) := HFP.out k hlt
      generalize HG : y.pots[k]?.getD ([], [], 0) = f at *
      have HT : Hid ((endW y).adds[k]?.getD ([], [], 0) = lessX f k) := by
        show _ = _
        rw [show (endW y).adds = (List.range 3).map (fun v => lessX (y.pots[v]?.getD noX) v) from rfl, List.getElem?_map, List.getElem?_range hlt]
        show lessX (y.pots[k]?.getD noX) k = _
        rw [show y.pots[k]?.getD noX = f from HG]
      clear HG
      obtain ⟨fC, fD, fK⟩ := f
      obtain ⟨lC, lD, bC, bD, q1, q2⟩ := hfit
      simp only at c2 iC iD lC lD bC bD q1 q2
      obtain ⟨va, vc, rfl⟩ := j.isSlice
      have keep : ∀ W : World, Below w.heap.size w W → (W.cell? ⟨b, off + k * 3, none⟩ = some (.slice a' 3 ca) ∧ W.cell? ⟨b, off + k * 3 + 1, none⟩ = some (.slice c' 2 cc) ∧ W.cell? ⟨b, off + k * 3 + 2, none⟩ = some (.int .i64 fK)) := fun W hW =>
        ⟨by rw [hW.cell (p := ⟨b, off + k * 3, none⟩) (block_lt c0)]; exact c0, by rw [hW.cell (p := ⟨b, off + k * 3 + 1, none⟩) (block_lt c1)]; exact c1, by rw [hW.cell (p := ⟨b, off + k * 3 + 2, none⟩) (block_lt c2)]; exact c2⟩
      have KP : Hid (∀ W : World, Below w2.heap.size w2 W → _) := fun W hW => keep W (B2.trans (hW.mono B2.size))
      clear keep c0 c1 c2
      have xd : Cel wr.drew w2.heap.size [.slice (some ⟨G1, 0, none⟩) ng cp1, .slice va k vc, .slice (some ⟨G2, 0, none⟩) nt cp2, .bool false] 135 := xr
      have hSS := And.intro (KP.out _ j.b.drew) (xd.cell 1)
      simp only [List.getElem?_cons_zero, List.getElem?_cons_succ] at hSS
      have bw : ∀ W, Below wr.heap.size wr W → Below w.heap.size w W := fun W hW => B2.trans ((j.b.trans (hW.mono j.b.size)).mono B2.size)
      have lx := xr.lt
      have hlt' : (k : Int) < 3 := by omega
      go_upto_region 5 with fail
      refine wp_region_ends (fun w' => w'.cell? ⟨b, off + k * 3, none⟩ = some (.slice a' 3 ca) ∧ w'.cell? ⟨b, off + k * 3 + 1, none⟩ = some (.slice c' 2 cc) ∧ w'.cell? ⟨b, off + k * 3 + 2, none⟩ = some (.int .i64 fK)) (fun w' => w'.cell? ⟨w2.heap.size, 1, none⟩ = some (.slice va k vc)) 11 (by kernel_rfl) ?_
      refine wpAnyE_take0 (i := 0) (v := ?v0) rfl (by kernel_rfl) (by kernel_rfl) (by kernel_rfl) (by decide) (fun _ _ _ h => h) (Or.inl ⟨by rfl, ?hy0⟩) hSS ?_
      case hy0 => (intro wz hSw; (try dsimp only at hSw); go_simp; try (with_reducible rfl))
      refine wpAnyE_take1 (i := 1) (v := ?v1) rfl rfl (by kernel_rfl) (by kernel_rfl) (by kernel_rfl) (by decide) (by rfl) (by simp [Region.binds]) (fun _ _ _ h => h) (Or.inl ⟨by rfl, ?hy1⟩) hSS ?_
      case hy1 => (intro wz hSw; (try dsimp only at hSw); go_simp; try (with_reducible rfl))
      refine wpAnyE_take0 (i := 2) (v := ?v2) rfl (by kernel_rfl) (by kernel_rfl) (by kernel_rfl) (by decide) (fun _ _ _ h => h) (Or.inl ⟨by rfl, ?hy2⟩) hSS ?_
      case hy2 => (intro wz hSw; (try dsimp only at hSw); go_simp; try (with_reducible rfl))
      refine wpAnyE_take0 (i := 3) (v := ?v3) rfl (by kernel_rfl) (by kernel_rfl) (by kernel_rfl) (by decide) (fun _ _ _ h => h) (Or.inl ⟨by rfl, ?hy3⟩) hSS ?_
      case hy3 => (intro wz hSw; (try dsimp only at hSw); go_simp; try (with_reducible rfl))
      refine wpAnyE_take0 (i := 4) (v := ?v4) rfl (by kernel_rfl) (by kernel_rfl) (by kernel_rfl) (by decide) (fun _ _ _ h => h) (Or.inl ⟨by rfl, ?hy4⟩) hSS ?_
      case hy4 => (intro wz hSw; (try dsimp only at hSw); go_simp; try (with_reducible rfl))
      refine wpAnyE_take0 (i := 5) (v := ?v5) rfl (by kernel_rfl) (by kernel_rfl) (by kernel_rfl) (by decide) (fun _ _ _ h => h) (Or.inl ⟨by rfl, ?hy5⟩) hSS ?_
      case hy5 => (intro wz hSw; (try dsimp only at hSw); go_simp; try (with_reducible rfl))
      refine wpAnyE_take0 (i := 6) (v := ?v6) rfl (by kernel_rfl) (by kernel_rfl) (by kernel_rfl) (by decide) (fun _ _ _ h => h) (Or.inl ⟨by rfl, ?hy6⟩) hSS ?_
      case hy6 => (intro wz hSw; (try dsimp only at hSw); go_simp; try (with_reducible rfl))
      refine wpAnyE_one (i := 7) (by kernel_rfl) rfl (fun K hK => ?_)
      go_simp
      refine (spot_any _ _).mono ?_
      rintro ee w3 ⟨za, zn, zcap, zc, zm, zcap', Z1, Z2, rfl, L1, L2, b3, o1, o2, -, -, -⟩
      rw [potC_in (k : Int) k rfl (by omega)] at L1 o1
      rw [potD_in (k : Int) (by omega) (by omega)] at L2 o2
      obtain rfl : zn = 3 := by rw [← L1]; simp
      obtain rfl : zm = 2 := by rw [← L2]; simp
      have z1 := o1.ints
      have z2 := o2.ints
      rw [L1] at z1
      rw [L2] at z2
      have b3' := below_of_drew b3
      have j3 := j.below b3'
      have x3 := xr.below b3'
      have i1 := iC.below (bw _ b3')
      have i2 := iD.below (bw _ b3')
      have hS3 := And.intro (KP.out _ j3.b) (x3.cell 1)
      simp only [List.getElem?_cons_zero, List.getElem?_cons_succ] at hS3
      dsimp only
      refine hK.out _ _ ⟨hS3.1, fun _ => hS3.2⟩ ?_
      have s3 := b3'.size
      clear hK K hSS hS3 j o1 o2 b3 b3' L1 L2 iC iD bw xd xr
      refine wpAnyE_one (i := 8) (by kernel_rfl) rfl (fun K hK => ?_)
      go_simp
      refine (l1sum_any _ _ _ _ _ fC fD _ _ _ _ _ _ _ _ _ i1 i2 z1 z2 (fun i => by have := bC i; omega) (fun i => by have := bD i; omega) (by omega) (pot_bnd hlt) pot_bnd2 (by omega)).mono ?_
      rintro ee w4 ⟨D1, D2, rfl, b4, g1, g3, g4, u1, u2⟩
      have e0 : fK + -1 * (0 : Int) = fK := by omega
      rw [e0]
      have hs3 := j3.b.size
      have j4 := j3.below b4
      have x4 := x3.below b4
      have hS4 := And.intro (KP.out _ j4.b) (x4.cell 1)
      simp only [List.getElem?_cons_zero, List.getElem?_cons_succ] at hS4
      have m1 : (Value.slice va k vc).ownBlock ≠ some D1 := fun e => by have := (j3.own e).2; omega
      have m2 : (Value.slice va k vc).ownBlock ≠ some D2 := fun e => by have := (j3.own e).2; omega
      have s4 := b4.size
      dsimp only
      refine hK.out _ _ ⟨hS4.1, fun _ => hS4.2⟩ ?_
      clear hK K hS4 b4 z1 z2 i1 i2 j3 x3
      refine wpAnyE_one (i := 9) (by kernel_rfl) rfl (fun K hK => ?_)
      go_simp
      have A5 : Below w4.heap.size w4 (w4.alloc (.cells #[.slice (some ⟨D1, 0, none⟩) 3 3, .slice (some ⟨D2, 0, none⟩) 2 2, .int .i64 fK] 127)) := (Below.refl _ _).alloc (Nat.le_refl _) _
      have j5 := j4.below A5
      have x5 := x4.below A5
      have hs5 := j5.b.size
      have v1 := u1.below A5
      have v2 := u2.below A5
      have hS5 := And.intro (KP.out _ j5.b) (x5.cell 1)
      simp only [List.getElem?_cons_zero, List.getElem?_cons_succ] at hS5
      refine hK.out _ _ ⟨hS5.1, fun _ => hS5.2⟩ ?_
      clear hK K hS5 A5 j4 x4 u1 u2
      refine wpAnyE_one (i := 10) (by kernel_rfl) rfl (fun K hK => ?_)
      rw [if_pos (by rfl)]
      refine wp_append_lies _ (.tmp 19) (.tmp 27) 133 rfl w2.heap.size 127 i0 _ 3 56 Tryz.underlying133 hi hz0 hz1 hz2 rfl (by omega) (.slice va k vc) k xs (by rfl) j5.o ⟨w4.heap.size, 0, none⟩ 1 1 [Value.slice (some ⟨D1, 0, none⟩) 3 3, Value.slice (some ⟨D2, 0, none⟩) 2 2, Value.int .i64 fK] (by rfl) (by rfl) (World.news_of_block (cs := #[Value.slice (some ⟨D1, 0, none⟩) 3 3, Value.slice (some ⟨D2, 0, none⟩) 2 2, Value.int .i64 fK]) (t := 127) (fr := (0, 0)) (heap_alloc_new w4 _)) (by simp [Value.oneCell']) (by omega) (by unfold maxLen; omega) (by omega) hs5 (w4.heap.size + 1) (by rw [World.size_alloc]) ?_
      intro g cp6 w6 hown hgrow hat hlt6
      have j6 := j5.app hown hgrow hat (by rw [World.size_alloc]) (v1.ints' (lin_len lC (by simp))) (v2.ints' (lin_len lD rfl)) m1 m2 (by omega) (by omega) (by rw [HT.out]; show (lin fC _ (-1), lin fD _ (-1), fK + -1 * 0) = _; rw [e0])
      have x6 := x5.grew hgrow hne
      have ne6 : some g ≠ some w2.heap.size := fun e => by
        rcases hat with h | h
        · exact hne (h.trans e)
        · simp only [Option.some.injEq] at e; omega
      have hS6 := And.intro (KP.out _ j6.b) (x6.cell 1)
      simp only [List.getElem?_cons_zero, List.getElem?_cons_succ] at hS6
      refine hK.out _ _ ⟨hS6.1, fun _ => hS6.2⟩ ?_
      have f6 := x6.free 1
      clear hK K hown hgrow hat j5 x5 v1 v2 m1 m2
      refine wpAnyE_one (i := 11) (by kernel_rfl) rfl (fun K hK => ?_)
      go_simp
      refine hK.out _ _ ⟨hS6.1, fun h => absurd (show true = false from h) (by decide)⟩ ?_
      clear hK K
      have T7 : Touch (fun z => z = w2.heap.size) w6 (w6.setCell ⟨w2.heap.size, 1, none⟩ (.slice (some ⟨g, 0, none⟩) (k + 1) cp6)) := Touch.setCell (S := fun z => z = w2.heap.size) (Touch.refl _ _) rfl _
      have j7 := j6.past (Nat.le_refl _) (boxNo x6) ne6 T7
      have x7 := x6.set 1 (.slice (some ⟨g, 0, none⟩) (k + 1) cp6)
      have c61 := hS6.2
      refine wpAnyE_one (i := 12) (by kernel_rfl) rfl (fun K hK => ?_)
      go_simp
      refine hK.out _ _ ⟨KP.out _ j7.b, fun h => absurd (show true = false from h) (by decide)⟩ ?_
      clear hK K
      refine wpAnyE_done (by kernel_rfl) ?_ _
      clear j6 x6 T7 hS6 f6 c61
      go_wp2
      go_roundw
      case rel => exact ⟨k + 1, _, _, by omega, by go_num, x7, j7, ne6⟩
      case measure => simp [intOf]; omega
    · obtain rfl : k = 3 := by omega
      obtain ⟨aa, ac, rfl, hA⟩ := j.foff rfl
      obtain ⟨d0, d1, d2, d3⟩ := xr.four
      have r6 := r2.below j.b
      obtain ⟨e0, e1, e2, e3⟩ := r6.four
      have f0 := r6.free 0
      have f1 := r6.free 1
      have f2 := r6.free 2
      have f3 := r6.free 3
      have bb := B2.trans (j.b.mono B2.size)
      have gA := g2.below j.b
      have tA := t2.below j.b
      go_wp2
      have T6 : Touch (fun z => z = w.heap.size) wr ((((wr.setCell ⟨w.heap.size, 0, none⟩ (.slice (some ⟨G1, 0, none⟩) ng cp1)).setCell ⟨w.heap.size, 1, none⟩ (.slice aa 3 ac)).setCell ⟨w.heap.size, 2, none⟩ (.slice (some ⟨G2, 0, none⟩) nt cp2)).setCell ⟨w.heap.size, 3, none⟩ (.bool false)) :=
        Touch.setCell (Touch.setCell (Touch.setCell (Touch.setCell (S := fun z => z = w.heap.size) (Touch.refl _ _) rfl _) rfl _) rfl _) rfl _
      refine bodyPost_ret (v := .agg #[.slice (some ⟨G1, 0, none⟩) ng cp1, .slice aa 3 ac, .slice (some ⟨G2, 0, none⟩) nt cp2, .bool false]) (by simp [results, Tryz.results179, go_sem, e0, e1, e2, e3]) rfl ?_
      refine ⟨_, rfl, ?_, some ⟨G1, 0, none⟩, cp1, aa, ac, some ⟨G2, 0, none⟩, cp2, ?_, (gA.touch (T6.mono (fun k hk => by omega))).mono (fun k hk => by omega), (hA.touch (T6.mono (fun k hk => by omega))).mono (fun k hk => by omega), (tA.touch (T6.mono (fun k hk => by omega))).mono (fun k hk => by omega)⟩
      · exact bb.trans (T6.below bb.size (fun k hk => by omega))
      · show _ = Value.agg #[.slice _ y.guards.length _, .slice _ 3 _, .slice _ y.tells.length _, .bool false]
        rw [HGL.out, HTL.out]

end Go.Proofs.YtacjjhfbnbmnlaaGreatDoor

namespace Go.Proofs.YtacjjhfbnbmnlaaGreatDoor
open Go.RowKit Go.Deep
set_option linter.unusedVariables false
set_option maxRecDepth 100000

theorem goW_ne {ls : List LV} (f : Nat) : ∀ (i : Nat) (y : Way), 0 < (goW ls f i y).length := by
  induction f with
  | zero => intro i y; simp [goW]
  | succ f ih =>
    intro i y
    rw [goW]
    split
    · split
      · rw [List.length_append]; have := ih (i + 1) (y.guard (intoX (ls[i]?.getD noLV).f y.pots)); omega
      · split
        · exact ih _ _
        · split
          · exact ih _ _
          · simp
    · simp
theorem goW_len {ls : List LV} (f : Nat) : ∀ (i : Nat) (y : Way), (goW ls f i y).length ≤ 2 ^ f := by
  induction f with
  | zero => intro i y; simp [goW]
  | succ f ih =>
    intro i y
    have hp : 1 ≤ 2 ^ f := Nat.one_le_two_pow
    have h2 : 2 ^ (f + 1) = 2 ^ f + 2 ^ f := by rw [Nat.pow_succ]; omega
    rw [goW]
    split
    · split
      · rw [List.length_append]
        have h3 := ih (i + 1) (y.guard (intoX (ls[i]?.getD noLV).f y.pots))
        have h4 := ih (i + 1 + (ls[i]?.getD noLV).skip.toNat) (y.guard (minusX (intoX (ls[i]?.getD noLV).f y.pots)))
        omega
      · split
        · have := ih (i + 1) (y.add (ls[i]?.getD noLV).pot.toNat (intoX (ls[i]?.getD noLV).f y.pots)); omega
        · split
          · have := ih (i + 1) (y.tell (intoX (ls[i]?.getD noLV).f y.pots)); omega
          · simp; omega
    · simp; omega
theorem goW_128 {ls : List LV} {f i : Nat} {y : Way} (hf : f ≤ 7) : (goW ls f i y).length ≤ 128 :=
  Nat.le_trans (goW_len f i y) (Nat.le_trans (Nat.pow_le_pow_right (by omega) hf) (by decide))

theorem FOff.grown {W W' : World} {B G g : Nat} {a : Option Addr} {fs : List Frm} (h : FOff W (fun k => k < B ∨ k = G) a fs) (hg : W.grownBy W' (some G)) (hat : g = G ∨ W.heap.size ≤ g) : FOff W' (fun k => k < B ∨ k = g) a fs := fun W'' t => by
  refine h W'' ⟨t.os.trans hg.os, t.tape.trans hg.tape, t.output.trans hg.output, Nat.le_trans hg.size t.size, fun k hk hn => ?_⟩
  have hk1 : ¬ k < B := fun e => hn (Or.inl e)
  have hk2 : k ≠ G := fun e => hn (Or.inr e)
  rw [t.block k (Nat.lt_of_lt_of_le hk hg.size) (fun e => by omega)]
  exact hg.block k hk (fun e => by simp only [Option.some.injEq] at e; omega)

def noR : RowM := ⟨[], [], [], false⟩
/-- Rows in cells; they read on whatever becomes of the blocks of S. -/
def RowsOk (W : World) (S : Nat → Prop) (xs : List Value) (rs : List RowM) : Prop :=
  ∀ j, j < rs.length → ∃ ga gc aa ac ta tc, xs[j * 4]? = some (.slice ga (rs[j]?.getD noR).guards.length gc) ∧ xs[j * 4 + 1]? = some (.slice aa (rs[j]?.getD noR).adds.length ac) ∧ xs[j * 4 + 2]? = some (.slice ta (rs[j]?.getD noR).tells.length tc) ∧ xs[j * 4 + 3]? = some (.bool (rs[j]?.getD noR).stop) ∧
    FOff W S ga (rs[j]?.getD noR).guards ∧ FOff W S aa (rs[j]?.getD noR).adds ∧ FOff W S ta (rs[j]?.getD noR).tells
theorem RowsOk.map {W W' : World} {S S' : Nat → Prop} {xs : List Value} {rs : List RowM} (h : RowsOk W S xs rs) (hf : ∀ a fs, FOff W S a fs → FOff W' S' a fs) : RowsOk W' S' xs rs := fun j hj => by
  obtain ⟨ga, gc, aa, ac, ta, tc, e0, e1, e2, e3, f0, f1, f2⟩ := h j hj
  exact ⟨ga, gc, aa, ac, ta, tc, e0, e1, e2, e3, hf _ _ f0, hf _ _ f1, hf _ _ f2⟩
theorem RowsOk.join {W : World} {S : Nat → Prop} {xs ys : List Value} {rs ss : List RowM} (h1 : RowsOk W S xs rs) (h2 : RowsOk W S ys ss) (hl : xs.length = rs.length * 4) : RowsOk W S (xs ++ ys) (rs ++ ss) := fun j hj => by
  rw [List.length_append] at hj
  by_cases hjr : j < rs.length
  · rw [List.getElem?_append_left (l₁ := rs) hjr, List.getElem?_append_left (by omega), List.getElem?_append_left (by omega), List.getElem?_append_left (by omega), List.getElem?_append_left (by omega)]
    exact h1 j hjr
  · rw [List.getElem?_append_right (l₁ := rs) (by omega), List.getElem?_append_right (by omega), List.getElem?_append_right (by omega), List.getElem?_append_right (by omega), List.getElem?_append_right (by omega), hl]
    have := h2 (j - rs.length) (by omega)
    rw [show j * 4 - rs.length * 4 = (j - rs.length) * 4 by omega, show j * 4 + 1 - rs.length * 4 = (j - rs.length) * 4 + 1 by omega, show j * 4 + 2 - rs.length * 4 = (j - rs.length) * 4 + 2 by omega, show j * 4 + 3 - rs.length * 4 = (j - rs.length) * 4 + 3 by omega]
    exact this

/-- A slice of rows, in memory made since w. -/
structure JR (w : World) (G cap : Nat) (xs : List Value) (rs : List RowM) (W : World) : Prop where
  b : Below w.heap.size w W
  o : W.ownsRow w.heap.size 135 4 (.slice (some ⟨G, 0, none⟩) rs.length cap) rs.length xs
  r : RowsOk W (fun k => k < w.heap.size ∨ k = G) xs rs
theorem JR.below {w W W' : World} {G cap : Nat} {xs : List Value} {rs : List RowM} (j : JR w G cap xs rs W) (h : Below W.heap.size W W') : JR w G cap xs rs W' := ⟨j.b.trans (h.mono j.b.size), own_below j.o h, j.r.map (fun _ _ f => f.below h)⟩
theorem JR.lt {w W : World} {G cap : Nat} {xs : List Value} {rs : List RowM} (j : JR w G cap xs rs W) : w.heap.size ≤ G ∧ G < W.heap.size := by
  rcases j.o.2 with ⟨h, _⟩ | ⟨g, cap', cur, h, hg, hh, _⟩
  · cases h
  · simp only [Value.slice.injEq, Option.some.injEq, Addr.mk.injEq, and_true, true_and] at h
    obtain ⟨rfl, _⟩ := h
    exact ⟨hg, lt_of_block hh⟩
/-- Two slices joined: the second was made behind the first. -/
theorem JR.join {w w1 W W' : World} {G cap G2 cap2 g cp n1 n2 : Nat} {xs ys : List Value} {rs ss : List RowM} (j : JR w G cap xs rs W) (j2 : JR w1 G2 cap2 ys ss W) (hb : w.heap.size ≤ w1.heap.size) (hG : G < w1.heap.size) (hn1 : rs.length = n1) (hn2 : ss.length = n2)
    (hown : W'.ownsRow w.heap.size 135 4 (.slice (some ⟨g, 0, none⟩) (n1 + n2) cp) (n1 + n2) (xs ++ ys)) (hg : W.grownBy W' (some G)) {H : Nat} (hat : some G = some g ∨ g = H) (hH : W.heap.size = H) : JR w g cp (xs ++ ys) (rs ++ ss) W' := by
  subst hn1 hn2
  have hat' : g = G ∨ W.heap.size ≤ g := by
    rcases hat with h | h
    · simp only [Option.some.injEq] at h; exact Or.inl h.symm
    · exact Or.inr (by omega)
  have r2 : RowsOk W (fun k => k < w.heap.size ∨ k = G) ys ss := j2.r.map (fun _ _ f => f.mono (fun k hk => by omega))
  refine ⟨j.b.grown hg j.b.size (fun z hz => by simp only [Option.some.injEq] at hz; have := j.lt; omega), by rw [List.length_append]; exact hown, ?_⟩
  exact (j.r.join r2 j.o.1).map (fun _ _ f => f.grown hg hat')

end Go.Proofs.YtacjjhfbnbmnlaaGreatDoor

