/-
  When an act is ok: both functions answer the same; the steps that the program makes of an act that is ok. Lengths at most 1048576.
-/
import Derived.Test.YtmhhphpihnkfpaaDoorLineS
namespace Go.Proofs.YtmhhphpihnkfpaaDoor
open Go.ChangeShapes Go.WideShapes Go.ChangeAt Go.RowKit Go.Joins Go.Deep
set_option linter.unusedVariables false
set_option maxRecDepth 100000

def LV.ok (l : LV) : Bool := lineB l.kind l.pot l.skip l.f.n l.f.m l.f.C l.f.D l.f.K
def LV.tst (l : LV) : Bool := l.kind == 1
/-- How many tests there are. -/
def tests (ls : List LV) : Nat := ls.countP LV.tst
/-- Whether an act is ok. -/
def actB (N : Nat) (ls : List LV) : Bool := decide ((N : Int) ≤ 6) && ls.all LV.ok && decide ((tests ls : Int) ≤ 3)

theorem allL_take_succ {ls : List LV} {k : Nat} (h : k < ls.length) (h1 : (ls.take k).all LV.ok = true) (h2 : (ls[k]?.getD noLV).ok = true) : (ls.take (k + 1)).all LV.ok = true := by
  rw [List.take_succ_eq_append_getElem h, List.all_append, h1]
  rw [List.getElem?_eq_getElem h] at h2
  simpa using h2
theorem allL_no {ls : List LV} {k : Nat} (h : k < ls.length) (h2 : (ls[k]?.getD noLV).ok = false) : ls.all LV.ok = false := by
  rw [List.all_eq_false]
  rw [List.getElem?_eq_getElem h] at h2
  exact ⟨ls[k], List.getElem_mem h, by simpa using h2⟩
theorem tests_succ {ls : List LV} {k : Nat} (h : k < ls.length) : tests (ls.take (k + 1)) = tests (ls.take k) + (if (ls[k]?.getD noLV).tst then 1 else 0) := by
  unfold tests
  rw [List.take_succ_eq_append_getElem h, List.countP_append, List.getElem?_eq_getElem h]
  simp [List.countP_cons]
theorem tests_le (ls : List LV) (k : Nat) : tests (ls.take k) ≤ k := by
  unfold tests
  exact Nat.le_trans List.countP_le_length (by simp; omega)
theorem tests_yes {ls : List LV} {k : Nat} (h : k < ls.length) {g : LV} (hg : ls[k]?.getD noLV = g) (hk : g.kind = 1) : tests (ls.take (k + 1)) = tests (ls.take k) + 1 := by
  rw [tests_succ h, hg, LV.tst, hk]; rfl
theorem tests_no {ls : List LV} {k : Nat} (h : k < ls.length) {g : LV} (hg : ls[k]?.getD noLV = g) (hk : (g.kind == 1) = false) : tests (ls.take (k + 1)) = tests (ls.take k) := by
  rw [tests_succ h, hg, LV.tst, hk]; rfl

set_option maxHeartbeats 1600000 in
theorem sact_any (ad : Option Addr) (N cap : Nat) (ls : List LV) (w : World) (hN : ls.length = N) (hF : LinesG w ad ls) (hN1 : N ≤ 1048576) :
    Calls Tryd.prog 47 #[.slice ad N cap] w fun e w' => e = .returned (.bool (actB N ls)) ∧ Below w.heap.size w w' := by
  have HN : Hid (ls.length = N) := hN
  clear hN
  go_enter Tryd.func47, Tryd.ntmps47
  go_wp2_with fail
  go_loopw [3, 4] (fun t i wr => ∃ k : Nat, k ≤ N ∧ i = .int .i64 k ∧ (∃ j : Nat, j ≤ k ∧ t = .int .i64 j ∧ j = tests (ls.take k)) ∧ Below w.heap.size w wr ∧ (ls.take k).all LV.ok = true) (fun _ i _ => N - (intOf i).toNat)
  case atStart => exact ⟨0, Nat.zero_le _, rfl, ⟨0, Nat.le_refl _, rfl, rfl⟩, Below.refl _ _, by simp⟩
  case round =>
    obtain ⟨k, hk, rfl, ⟨j, hj, rfl, hjt⟩, hb, hall⟩ := hrel
    have HA : Hid ((ls.take k).all LV.ok = true) := hall
    have HJ : Hid (j = tests (ls.take k)) := hjt
    clear hall hjt
    by_cases hlt : k < N
    · obtain ⟨b, off, rfl, hc, hAt⟩ := (hF.below hb) k (by rw [HN.out]; exact hlt)
      generalize HG : ls[k]?.getD noLV = g at *
      have HG' : Hid (ls[k]?.getD noLV = g) := HG
      clear HG hF
      obtain ⟨e0, e1, e2, e3, e4, e5⟩ := six_of hc
      have HC : Hid _ := hc
      clear hc
      obtain ⟨gk, gp, gz, ⟨ga, gn, gcap, gc, gm, gcap', gK, gC, gD⟩⟩ := g
      obtain ⟨iC, iD, hn, hm⟩ := hAt
      simp only at e0 e1 e2 e3 e4 e5 iC iD hn hm
      cases hf : lineB gk gp gz gn gm gC gD gK
      · go_wp2_with fail
        refine (sline_any _ _ _ _ _ _ _ _ _ _ gC gD _ iC iD hn hm).mono ?_
        rintro e w1 ⟨rfl, b1⟩
        have B1 := hb.trans (b1.mono hb.size)
        rw [hf]
        go_wp2
        go_ret
        exact ⟨ret_bool (by rw [actB, allL_no (k := k) (by rw [HN.out]; exact hlt) (by rw [HG'.out]; exact hf)]; simp), B1⟩
      · by_cases h1 : gk = 1
        · subst h1
          have HT : Hid (j + 1 = tests (ls.take (k + 1))) := by show j + 1 = _; rw [tests_yes (by rw [HN.out]; exact hlt) HG'.out rfl, ← HJ.out]
          go_wp2_with fail
          refine (sline_any _ _ _ _ _ _ _ _ _ _ gC gD _ iC iD hn hm).mono ?_
          rintro e w1 ⟨rfl, b1⟩
          have B1 := hb.trans (b1.mono hb.size)
          obtain ⟨f0, f1, f2, f3, f4, f5⟩ := six_of (cells_below HC.out b1)
          simp only at f0
          clear b1 hb iC iD e0 e1 e2 e3 e4 e5 f1 f2 f3 f4 f5
          rw [hf]
          go_wp2
          go_roundw
          case rel => exact ⟨k + 1, by omega, by go_num, ⟨j + 1, by omega, by go_num, HT.out⟩, B1, allL_take_succ (by rw [HN.out]; exact hlt) HA.out (by rw [HG'.out]; exact hf)⟩
          case measure => simp [intOf]; omega
        · have h1' : (gk == 1) = false := by simp [h1]
          have HT : Hid (j = tests (ls.take (k + 1))) := by show j = _; rw [tests_no (by rw [HN.out]; exact hlt) HG'.out h1', ← HJ.out]
          go_wp2_with fail
          refine (sline_any _ _ _ _ _ _ _ _ _ _ gC gD _ iC iD hn hm).mono ?_
          rintro e w1 ⟨rfl, b1⟩
          have B1 := hb.trans (b1.mono hb.size)
          obtain ⟨f0, f1, f2, f3, f4, f5⟩ := six_of (cells_below HC.out b1)
          simp only at f0
          clear b1 hb iC iD e0 e1 e2 e3 e4 e5 f1 f2 f3 f4 f5
          rw [hf]
          go_wp2
          go_roundw
          case rel => exact ⟨k + 1, by omega, by go_num, ⟨j, by omega, rfl, HT.out⟩, B1, allL_take_succ (by rw [HN.out]; exact hlt) HA.out (by rw [HG'.out]; exact hf)⟩
          case measure => simp [intOf]; omega
    · obtain rfl : k = N := by omega
      have HT : Hid (ls.take k = ls) := List.take_of_length_le (by rw [HN.out]; omega)
      have HAB : Hid (actB k ls = (decide ((k : Int) ≤ 6) && decide ((j : Int) ≤ 3))) := by
        show actB k ls = _
        have h1 := HA.out
        have h2 := HJ.out
        rw [HT.out] at h1 h2
        rw [actB, h1, ← h2, Bool.and_true]
      by_cases h6 : (k : Int) ≤ 6
      · go_wp2
        go_ret
        exact ⟨ret_bool (by rw [HAB.out]; simp; omega), hb⟩
      · go_wp2
        go_ret
        exact ⟨ret_bool (by rw [HAB.out]; simp; omega), hb⟩

/-- Steps that have been made since w. -/
structure JS (w : World) (v : Value) (xs : List Value) (W : World) : Prop where
  b : Below w.heap.size w W
  o : W.ownsRow w.heap.size 71 1 v xs.length xs
theorem JS.nil (w : World) : JS w (.slice none 0 0) [] w := ⟨Below.refl _ _, World.ownsRow_nil w _ _ _⟩
theorem JS.below {w W W' : World} {v : Value} {xs : List Value} (j : JS w v xs W) (h : Below W.heap.size W W') : JS w v xs W' := by
  refine ⟨j.b.trans (h.mono j.b.size), j.o.1, ?_⟩
  rcases j.o.2 with h2 | ⟨g, cap, cur, hv, hg, hh, r⟩
  · exact Or.inl h2
  · exact Or.inr ⟨g, cap, cur, hv, hg, by rw [h.block g (lt_of_block hh)]; exact hh, r⟩
theorem JS.alloc {w W : World} {v : Value} {xs : List Value} (j : JS w v xs W) (o : Obj) : JS w v xs (W.alloc o) := j.below ((Below.refl _ _).alloc (Nat.le_refl _) _)
theorem JS.app {w W W' : World} {v : Value} {xs : List Value} {y : Value} {g cap k : Nat} {o : Obj} (j : JS w v xs W) (hk : xs.length = k) (hown : W'.ownsRow w.heap.size 71 1 (.slice (some ⟨g, 0, none⟩) (k + 1) cap) (k + 1) (xs ++ [y])) (hg : (W.alloc o).grownBy W' v.ownBlock) :
    JS w (.slice (some ⟨g, 0, none⟩) (k + 1) cap) (xs ++ [y]) W' := by
  have j' := j.alloc o
  refine ⟨j'.b.grown hg j'.b.size (fun k hk => (j'.o.lt k hk).1), ?_⟩
  rw [List.length_append, hk]
  exact hown
theorem stepV_one (l : LV) : (stepV l).oneCell' = true := by
  unfold stepV
  split
  · rfl
  · split
    · rfl
    · split
      · rfl
      · split <;> rfl
theorem stepV_iface {l : LV} (h : l.ok = true) : ∃ ty v, stepV l = .iface ty v := by
  unfold stepV
  by_cases h1 : l.kind = 1
  · rw [if_pos h1]; exact ⟨_, _, rfl⟩
  by_cases h2 : l.kind = 2
  · rw [if_neg h1, if_pos h2]; exact ⟨_, _, rfl⟩
  by_cases h3 : l.kind = 3
  · rw [if_neg h1, if_neg h2, if_pos h3]; exact ⟨_, _, rfl⟩
  by_cases h4 : l.kind = 4
  · rw [if_neg h1, if_neg h2, if_neg h3, if_pos h4]; exact ⟨_, _, rfl⟩
  simp [LV.ok, lineB, h1, h2, h3, h4] at h
theorem news_one (w : World) (x : Value) (t : TypeId) : ∀ j u, [x][j]? = some u → (w.alloc (.cells #[x] t)).cell? ((⟨w.heap.size, 0, none⟩ : Addr).add j) = some u := fun j u hu => by
  match j, hu with
  | 0, hu =>
    simp only [List.getElem?_cons_zero, Option.some.injEq] at hu
    subst hu
    simp [Addr.add]
theorem Tryd.infoStep : (Tryd.prog.info? 71).map (fun i => (i.zero, i.size, i.bytes)) = some (some .nilIface, 1, 16) := by kernel_rfl

set_option maxHeartbeats 3200000 in
theorem isteps_any (ad : Option Addr) (N cap : Nat) (ls : List LV) (w : World) (hN : ls.length = N) (hF : LinesG w ad ls) (hN1 : N ≤ 1048576) :
    Calls Tryd.prog 64 #[.slice ad N cap] w fun e w' => ∃ sv, e = .returned (.tuple #[sv, .bool (actB N ls)]) ∧ Below w.heap.size w w' ∧ (actB N ls = true → JS w sv (ls.map stepV) w') := by
  have HN : Hid (ls.length = N) := hN
  clear hN
  obtain ⟨i0, hi, hz0, hz1, hz2⟩ := info_parts Tryd.infoStep
  by_cases h6 : 6 < N
  · have HB : Hid (actB N ls = false) := by show actB N ls = false; rw [actB, decide_eq_false (by omega)]; rfl
    go_enter Tryd.func64, Tryd.ntmps64
    go_wp2
    go_ret2
    exact ⟨_, ret_step rfl HB.out.symm, Below.refl _ _, fun h => by rw [HB.out] at h; cases h⟩
  have h6' : N ≤ 6 := by omega
  clear h6
  go_enter Tryd.func64, Tryd.ntmps64
  go_wp2_with fail
  go_loopw [4, 5, 7, 8, 9, 15] (fun v t _ _ _ i wr => ∃ k : Nat, k ≤ N ∧ i = .int .i64 k ∧ (∃ j : Nat, j ≤ k ∧ t = .int .i64 j ∧ j = tests (ls.take k)) ∧ (∃ xs : List Value, xs.length = k ∧ xs = (ls.take k).map stepV ∧ JS w v xs wr) ∧ (ls.take k).all LV.ok = true) (fun _ _ _ _ _ i _ => N - (intOf i).toNat)
  case atStart => exact ⟨0, Nat.zero_le _, rfl, ⟨0, Nat.le_refl _, rfl, rfl⟩, ⟨[], rfl, rfl, JS.nil w⟩, by simp⟩
  case round =>
    obtain ⟨k, hk, rfl, ⟨j, hj, rfl, hjt⟩, ⟨xs, hxl, hxs, jj⟩, hall⟩ := hrel
    have HA : Hid ((ls.take k).all LV.ok = true) := hall
    have HJ : Hid (j = tests (ls.take k)) := hjt
    have HXL : Hid (xs.length = k) := hxl
    have HXS : Hid (xs = (ls.take k).map stepV) := hxs
    clear hall hjt hxl hxs
    by_cases hlt : k < N
    · obtain ⟨b, off, rfl, hc, hAt⟩ := (hF.below jj.b) k (by rw [HN.out]; exact hlt)
      have HXX0 : Hid ((ls.take (k + 1)).map stepV = (ls.take k).map stepV ++ [stepV (ls[k]?.getD noLV)]) := by
        have hl : k < ls.length := by rw [HN.out]; exact hlt
        show _ = _
        rw [List.take_succ_eq_append_getElem hl, List.map_append, List.getElem?_eq_getElem hl]; rfl
      generalize HG : ls[k]?.getD noLV = g at *
      have HG' : Hid (ls[k]?.getD noLV = g) := HG
      clear HG hF
      obtain ⟨e0, e1, e2, e3, e4, e5⟩ := six_of hc
      clear hc
      obtain ⟨gk, gp, gz, ⟨ga, gn, gcap, gc, gm, gcap', gK, gC, gD⟩⟩ := g
      obtain ⟨iC, iD, hn, hm⟩ := hAt
      simp only at e0 e1 e2 e3 e4 e5 iC iD hn hm
      cases hf : lineB gk gp gz gn gm gC gD gK
      · have HB : Hid (actB N ls = false) := by show actB N ls = false; rw [actB, allL_no (k := k) (by rw [HN.out]; exact hlt) (by rw [HG'.out]; exact hf)]; simp
        go_wp2_with fail
        refine (istep_any _ _ _ _ _ _ _ _ _ _ gC gD _ (iC.alloc _) (iD.alloc _) hn hm).mono ?_
        rintro e w1 ⟨rfl, b1⟩
        have j1 := (jj.alloc _).below b1
        rw [hf]
        obtain ⟨sv, hsv⟩ : ∃ sv, sv = stepV ⟨gk, gp, gz, ⟨ga, gn, gcap, gc, gm, gcap', gK, gC, gD⟩⟩ := ⟨_, rfl⟩
        rw [← hsv]
        go_wp2
        go_ret2
        exact ⟨_, ret_step rfl HB.out.symm, j1.b, fun h => by rw [HB.out] at h; cases h⟩
      · obtain ⟨ty, vv, hsv⟩ := stepV_iface (l := ⟨gk, gp, gz, ⟨ga, gn, gcap, gc, gm, gcap', gK, gC, gD⟩⟩) hf
        have HSV : Hid (stepV ⟨gk, gp, gz, ⟨ga, gn, gcap, gc, gm, gcap', gK, gC, gD⟩⟩ = .iface ty vv) := hsv
        have HS1 : Hid (∀ u ∈ [Value.iface ty vv], u.oneCell' = true) := fun u hu => by simp at hu; subst hu; rfl
        have HXX : Hid (xs ++ [.iface ty vv] = (ls.take (k + 1)).map stepV) := by show _ = _; rw [HXX0.out, HXS.out, hsv]
        clear hsv
        by_cases h1 : gk = 1
        · subst h1
          have HT : Hid (j + 1 = tests (ls.take (k + 1))) := by show j + 1 = _; rw [tests_yes (by rw [HN.out]; exact hlt) HG'.out rfl, ← HJ.out]
          go_wp2_with fail
          refine (istep_any _ _ _ _ _ _ _ _ _ _ gC gD _ (iC.alloc _) (iD.alloc _) hn hm).mono ?_
          rintro e w1 ⟨rfl, b1⟩
          have j1 := (jj.alloc _).below b1
          have bx := (Cel.new wr _ _).below b1
          obtain ⟨f0, f1, f2, f3, f4, f5⟩ := bx.six
          have jo := j1.o
          rw [HXL.out] at jo
          have hjb := j1.b.size
          rw [hf, HSV.out]
          clear jj b1 iC iD e0 e1 e2 e3 e4 e5 f1 f2 f3 f4 f5 bx
          go_wp2_with (at_builtin; go_must (refine wpList_append_lies _ rfl (.tmp 31) (.tmp 33) 106 rfl w.heap.size 71 i0 .nilIface 1 16 Tryd.underlying106 hi hz0 hz1 hz2 rfl (by decide) _ _ _ rfl (jo.alloc _) ⟨w1.heap.size, 0, none⟩ 1 1 [.iface ty vv] rfl rfl (news_one _ _ _) HS1.out (by omega) (by unfold maxLen; omega) (by omega) (by rw [World.size_alloc]; omega) _ rfl ?_); intro g cp w2 hown hgrow hat hlt1)
          have j2 := j1.app HXL.out hown hgrow
          clear hown hgrow jo j1 hat
          go_wp2
          go_roundw
          case rel => exact ⟨k + 1, by omega, by go_num, ⟨j + 1, by omega, by go_num, HT.out⟩, ⟨_, by rw [List.length_append, HXL.out]; rfl, HXX.out, j2⟩, allL_take_succ (by rw [HN.out]; exact hlt) HA.out (by rw [HG'.out]; exact hf)⟩
          case measure => simp [intOf]; omega
        · have h1' : (gk == 1) = false := by simp [h1]
          have HT : Hid (j = tests (ls.take (k + 1))) := by show j = _; rw [tests_no (by rw [HN.out]; exact hlt) HG'.out h1', ← HJ.out]
          go_wp2_with fail
          refine (istep_any _ _ _ _ _ _ _ _ _ _ gC gD _ (iC.alloc _) (iD.alloc _) hn hm).mono ?_
          rintro e w1 ⟨rfl, b1⟩
          have j1 := (jj.alloc _).below b1
          have bx := (Cel.new wr _ _).below b1
          obtain ⟨f0, f1, f2, f3, f4, f5⟩ := bx.six
          have jo := j1.o
          rw [HXL.out] at jo
          have hjb := j1.b.size
          rw [hf, HSV.out]
          clear jj b1 iC iD e0 e1 e2 e3 e4 e5 f1 f2 f3 f4 f5 bx
          go_wp2_with (at_builtin; go_must (refine wpList_append_lies _ rfl (.tmp 31) (.tmp 33) 106 rfl w.heap.size 71 i0 .nilIface 1 16 Tryd.underlying106 hi hz0 hz1 hz2 rfl (by decide) _ _ _ rfl (jo.alloc _) ⟨w1.heap.size, 0, none⟩ 1 1 [.iface ty vv] rfl rfl (news_one _ _ _) HS1.out (by omega) (by unfold maxLen; omega) (by omega) (by rw [World.size_alloc]; omega) _ rfl ?_); intro g cp w2 hown hgrow hat hlt1)
          have j2 := j1.app HXL.out hown hgrow
          clear hown hgrow jo j1 hat
          go_wp2
          go_roundw
          case rel => exact ⟨k + 1, by omega, by go_num, ⟨j, by omega, rfl, HT.out⟩, ⟨_, by rw [List.length_append, HXL.out]; rfl, HXX.out, j2⟩, allL_take_succ (by rw [HN.out]; exact hlt) HA.out (by rw [HG'.out]; exact hf)⟩
          case measure => simp [intOf]; omega
    · obtain rfl : k = N := by omega
      have HT : Hid (ls.take k = ls) := List.take_of_length_le (by rw [HN.out]; omega)
      have HAB : Hid (actB k ls = decide ((j : Int) ≤ 3)) := by
        show actB k ls = _
        have h1 := HA.out
        have h2 := HJ.out
        rw [HT.out] at h1 h2
        rw [actB, h1, ← h2, Bool.and_true, decide_eq_true (by omega), Bool.true_and]
      have HX2 : Hid (xs = ls.map stepV) := by show _ = _; rw [HXS.out, HT.out]
      go_wp2
      go_ret2
      exact ⟨_, ret_step rfl HAB.out.symm, jj.b, fun _ => by rw [← HX2.out]; exact jj⟩

theorem iact_any (ad : Option Addr) (N cap : Nat) (ls : List LV) (w : World) (hN : ls.length = N) (hF : LinesG w ad ls) (hN1 : N ≤ 1048576) :
    Calls Tryd.prog 52 #[.slice ad N cap] w fun e w' => e = .returned (.bool (actB N ls)) ∧ Below w.heap.size w w' := by
  go_enter Tryd.func52, Tryd.ntmps52
  go_wp2_with fail
  refine (isteps_any _ _ _ ls _ hN hF hN1).mono ?_
  rintro e w1 ⟨sv, rfl, b1, -⟩
  go_wp2
  go_ret
  exact ⟨rfl, b1⟩

end Go.Proofs.YtmhhphpihnkfpaaDoor
