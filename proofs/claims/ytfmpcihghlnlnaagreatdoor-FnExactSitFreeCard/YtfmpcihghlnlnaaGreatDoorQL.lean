/-
  Lemmas that the claim's last text rests on.
-/
import Derived.Test.YtfmpcihghlnlnaaGreatDoorQK
namespace Go.Proofs.YtfmpcihghlnlnaaGreatDoor
open Go.ChangeShapes Go.WideShapes Go.ChangeAt Go.RowKit Go.Joins Go.Deep
open List renaming getElem?_eq_getElem → qA, length_append → qB, take_succ_eq_append_getElem → qC, length_cons → qD, length_nil → qE
open Nat renaming le_refl → qF
set_option linter.unusedVariables false
set_option maxRecDepth 100000
set_option maxHeartbeats 25600000
variable {M : Int} {W w : World} {i j k : Nat} {ls : List LV} {v : Value} {xs : List Value}
def LV.ok (l : LV) : Bool := lineB l.kind l.pot l.skip l.f.n l.f.m l.f.C l.f.D l.f.K
def LV.tst (l : LV) : Bool := l.kind == 1
def tests (ls : List LV) : Nat := ls.countP LV.tst
def actB (N : Nat) (ls : List LV) : Bool := decide ((N : Int) <= 6) && ls.all LV.ok && decide ((tests ls : Int) <= 3)
theorem allL_take_succ (h : k < ls.length) (h1 : (ls.take k).all LV.ok = true) (h2 : (ls[k]?.getD noLV).ok = true) : (ls.take (k + 1)).all LV.ok = true := by
 rw [qC h, List.all_append, h1];rw [qA h] at h2;simpa using h2
theorem allL_no (h : k < ls.length) (h2 : (ls[k]?.getD noLV).ok = false) : ls.all LV.ok = false := by
 rw [List.all_eq_false];rw [qA h] at h2
 exact ⟨ls[k], List.getElem_mem h, by simpa using h2⟩
theorem tests_succ (h : k < ls.length) : tests (ls.take (k + 1)) = tests (ls.take k) + (if (ls[k]?.getD noLV).tst then 1 else 0) := by
 unfold tests;rw [qC h, List.countP_append, qA h];simp [List.countP_cons]
theorem tests_yes (h : k < ls.length) {g : LV} (hg : ls[k]?.getD noLV = g) (hk : g.kind = 1) : tests (ls.take (k + 1)) = tests (ls.take k) + 1 := by
 rw [tests_succ h, hg, LV.tst, hk]; rfl
theorem tests_no (h : k < ls.length) {g : LV} (hg : ls[k]?.getD noLV = g) (hk : (g.kind == 1) = false) : tests (ls.take (k + 1)) = tests (ls.take k) := by
 rw [tests_succ h, hg, LV.tst, hk]; rfl
theorem sact_any {ad : Option Addr} {N cap : Nat} (ls : List LV) {w : World} (hN : ls.length = N) (hF : LinesG w ad ls) (hN1 : N <= 1048576) :
  Calls Tryz.prog 67 #[.slice ad N cap] w fun e w' => e = .returned (.bool (actB N ls)) /\ Below w.heap.size w w' := by
 have HN : Hid (ls.length = N) := hN;clear hN
 go_enter Tryz.func67, Tryz.ntmps67
 go_wp2_with fail
 go_loopw [3, 4] (fun t i wr => ∃ k : Nat, k <= N /\ i = .int .i64 k /\ (∃ j : Nat, j <= k /\ t = .int .i64 j /\ j = tests (ls.take k)) /\ Below w.heap.size w wr /\ (ls.take k).all LV.ok = true) (fun _ i _ => N - (intOf i).toNat)
 case atStart => exact ⟨0, Nat.zero_le _, rfl, ⟨0, qF _, rfl, rfl⟩, Below.refl _ _, by simp⟩
 case round =>
  obtain ⟨k, hk, rfl, ⟨j, hj, rfl, hjt⟩, hb, hall⟩ := hrel;have HA : Hid ((ls.take k).all LV.ok = true) := hall;have HJ : Hid (j = tests (ls.take k)) := hjt;clear hall hjt
  by_cases hlt : k < N
  ·obtain ⟨b, off, rfl, hc, hAt⟩ := (hF.below hb) k (by rw [HN.out]; exact hlt);generalize HG : ls[k]?.getD noLV = g at *;have HG' : Hid (ls[k]?.getD noLV = g) := HG;clear HG hF;obtain ⟨e0, e1, e2, e3, e4, e5⟩ := six_of hc;have HC : Hid _ := hc;clear hc;obtain ⟨gk, gp, gz, ⟨ga, gn, gcap, gc, gm, gcap', gK, gC, gD⟩⟩ := g;obtain ⟨iC, iD, hn, hm⟩ := hAt;simp only at e0 e1 e2 e3 e4 e5 iC iD hn hm
   cases hf : lineB gk gp gz gn gm gC gD gK
   ·go_wp2_with fail
    refine (sline_any gC gD iC iD hn hm).mono ?_;rintro e w1 ⟨rfl, b1⟩;have B1 := btr hb b1;rw [hf]
    go_wp2
    go_ret
    exact ⟨ret_bool (by rw [actB, allL_no (k := k) (by rw [HN.out]; exact hlt) (by rw [HG'.out]; exact hf)]; simp), B1⟩
   by_cases h1 : gk = 1
   ·subst h1;have HT : Hid (j + 1 = tests (ls.take (k + 1))) := by show j + 1 = _; rw [tests_yes (by rw [HN.out]; exact hlt) HG'.out rfl, <- HJ.out]
    go_wp2_with fail
    refine (sline_any gC gD iC iD hn hm).mono ?_;rintro e w1 ⟨rfl, b1⟩;have B1 := btr hb b1;obtain ⟨f0, f1, f2, f3, f4, f5⟩ := six_of (cells_below HC.out b1);simp only at f0;clear b1 hb iC iD e0 e1 e2 e3 e4 e5 f1 f2 f3 f4 f5;rw [hf]
    go_wp2
    go_roundw
    case rel => exact ⟨k + 1, by omega, by go_num, ⟨j + 1, by omega, by go_num, HT.out⟩, B1, allL_take_succ (by rw [HN.out]; exact hlt) HA.out (by rw [HG'.out]; exact hf)⟩
    case measure => simp [intOf]; omega
   have h1' : (gk == 1) = false := by simp [h1]
   have HT : Hid (j = tests (ls.take (k + 1))) := by show j = _; rw [tests_no (by rw [HN.out]; exact hlt) HG'.out h1', <- HJ.out]
   go_wp2_with fail
   refine (sline_any gC gD iC iD hn hm).mono ?_;rintro e w1 ⟨rfl, b1⟩;have B1 := btr hb b1;obtain ⟨f0, f1, f2, f3, f4, f5⟩ := six_of (cells_below HC.out b1);simp only at f0;clear b1 hb iC iD e0 e1 e2 e3 e4 e5 f1 f2 f3 f4 f5;rw [hf]
   go_wp2
   go_roundw
   case rel => exact ⟨k + 1, by omega, by go_num, ⟨j, by omega, rfl, HT.out⟩, B1, allL_take_succ (by rw [HN.out]; exact hlt) HA.out (by rw [HG'.out]; exact hf)⟩
   case measure => simp [intOf]; omega
  obtain rfl : k = N := by omega
  have HT : Hid (ls.take k = ls) := List.take_of_length_le (by rw [HN.out]; omega)
  have HAB : Hid (actB k ls = (decide ((k : Int) <= 6) && decide ((j : Int) <= 3))) := by
   show actB k ls = _
   have h1 := HA.out;have h2 := HJ.out;rw [HT.out] at h1 h2;rw [actB, h1, <- h2, Bool.and_true]
  by_cases h6 : (k : Int) <= 6
  ·go_wp2
   go_ret
   exact ⟨ret_bool (by rw [HAB.out]; simp; omega), hb⟩
  go_wp2
  go_ret
  exact ⟨ret_bool (by rw [HAB.out]; simp; omega), hb⟩
structure JS (w : World) (v : Value) (xs : List Value) (W : World) : Prop where
 b : Below w.heap.size w W
 o : W.ownsRow w.heap.size 205 1 v xs.length xs
theorem JS.nil (w : World) : JS w (.slice none 0 0) [] w := ⟨Below.refl _ _, World.ownsRow_nil w _ _ _⟩
theorem JS.below {W' : World} (j : JS w v xs W) (h : Below W.heap.size W W') : JS w v xs W' := by
 refine ⟨j.b.trans (h.mono j.b.size), j.o.1, ?_⟩
 rcases j.o.2 with h2 | ⟨g, cap, cur, hv, hg, hh, r⟩
 ·exact Or.inl h2
 exact Or.inr ⟨g, cap, cur, hv, hg, by rw [h.block g (lt_of_block hh)]; exact hh, r⟩
theorem JS.alloc (j : JS w v xs W) (o : Obj) : JS w v xs (W.alloc o) := j.below (bal)
theorem JS.app {W' : World} {y : Value} {g cap : Nat} {o : Obj} (j : JS w v xs W) (hk : xs.length = k) (hown : W'.ownsRow w.heap.size 205 1 (.slice (some ⟨g, 0, none⟩) (k + 1) cap) (k + 1) (xs ++ [y])) (hg : (W.alloc o).grownBy W' v.ownBlock) :
  JS w (.slice (some ⟨g, 0, none⟩) (k + 1) cap) (xs ++ [y]) W' := by
 have j' := j.alloc o;refine ⟨j'.b.grown hg j'.b.size (fun k hk => (j'.o.lt k hk).1), ?_⟩;rw [qB, hk]
 exact hown
theorem stepV_iface {l : LV} (h : l.ok = true) : ∃ ty v, stepV l = .iface ty v := by
 unfold stepV
 by_cases h1 : l.kind = 1
 ·rw [if_pos h1]; exact ⟨_, _, rfl⟩
 by_cases h2 : l.kind = 2
 ·rw [if_neg h1, if_pos h2]; exact ⟨_, _, rfl⟩
 by_cases h3 : l.kind = 3
 ·rw [if_neg h1, if_neg h2, if_pos h3]; exact ⟨_, _, rfl⟩
 by_cases h4 : l.kind = 4
 ·rw [if_neg h1, if_neg h2, if_neg h3, if_pos h4]; exact ⟨_, _, rfl⟩
 simp [LV.ok, lineB, h1, h2, h3, h4] at h
theorem news_one {x : Value} {t : TypeId} : ∀ j u, [x][j]? = some u -> (w.alloc (.cells #[x] t)).cell? ((⟨w.heap.size, 0, none⟩ : Addr).add j) = some u := fun j u hu => by
 match j, hu with
 | 0, hu =>
  simp only [List.getElem?_cons_zero, Option.some.injEq] at hu;subst hu;simp [Addr.add]
theorem Tryz.infoStep : (Tryz.prog.info? 205).map (fun i => (i.zero, i.size, i.bytes)) = some (some .nilIface, 1, 16) := by kernel_rfl
theorem isteps_any (ad : Option Addr) (N cap : Nat) (ls : List LV) {w : World} (hN : ls.length = N) (hF : LinesG w ad ls) (hN1 : N <= 1048576) :
  Calls Tryz.prog 138 #[.slice ad N cap] w fun e w' => ∃ sv, e = .returned (.tuple #[sv, .bool (actB N ls)]) /\ Below w.heap.size w w' /\ (actB N ls = true -> JS w sv (ls.map stepV) w') := by
 have HN : Hid (ls.length = N) := hN;clear hN;obtain ⟨i0, hi, hz0, hz1, hz2⟩ := info_parts Tryz.infoStep
 by_cases h6 : 6 < N
 ·have HB : Hid (actB N ls = false) := by show actB N ls = false; rw [actB, decide_eq_false (by omega)]; rfl
  go_enter Tryz.func138, Tryz.ntmps138
  go_wp2
  go_ret2
  exact ⟨_, ret_step rfl HB.out.symm, Below.refl _ _, fun h => by rw [HB.out] at h; cases h⟩
 have h6' : N <= 6 := by omega
 clear h6
 go_enter Tryz.func138, Tryz.ntmps138
 go_wp2_with fail
 go_loopw [4, 5, 7, 8, 9, 15] (fun v t _ _ _ i wr => ∃ k : Nat, k <= N /\ i = .int .i64 k /\ (∃ j : Nat, j <= k /\ t = .int .i64 j /\ j = tests (ls.take k)) /\ (∃ xs : List Value, xs.length = k /\ xs = (ls.take k).map stepV /\ JS w v xs wr) /\ (ls.take k).all LV.ok = true) (fun _ _ _ _ _ i _ => N - (intOf i).toNat)
 case atStart => exact ⟨0, Nat.zero_le _, rfl, ⟨0, qF _, rfl, rfl⟩, ⟨[], rfl, rfl, JS.nil w⟩, by simp⟩
 case round =>
  obtain ⟨k, hk, rfl, ⟨j, hj, rfl, hjt⟩, ⟨xs, hxl, hxs, jj⟩, hall⟩ := hrel;have HA : Hid ((ls.take k).all LV.ok = true) := hall;have HJ : Hid (j = tests (ls.take k)) := hjt;have HXL : Hid (xs.length = k) := hxl;have HXS : Hid (xs = (ls.take k).map stepV) := hxs;clear hall hjt hxl hxs
  by_cases hlt : k < N
  ·obtain ⟨b, off, rfl, hc, hAt⟩ := (hF.below jj.b) k (by rw [HN.out]; exact hlt)
   have HXX0 : Hid ((ls.take (k + 1)).map stepV = (ls.take k).map stepV ++ [stepV (ls[k]?.getD noLV)]) := by
    have hl : k < ls.length := by rw [HN.out]; exact hlt
    show _ = _
    rw [qC hl, List.map_append, qA hl]; rfl
   generalize HG : ls[k]?.getD noLV = g at *;have HG' : Hid (ls[k]?.getD noLV = g) := HG;clear HG hF;obtain ⟨e0, e1, e2, e3, e4, e5⟩ := six_of hc;clear hc;obtain ⟨gk, gp, gz, ⟨ga, gn, gcap, gc, gm, gcap', gK, gC, gD⟩⟩ := g;obtain ⟨iC, iD, hn, hm⟩ := hAt;simp only at e0 e1 e2 e3 e4 e5 iC iD hn hm
   cases hf : lineB gk gp gz gn gm gC gD gK
   ·have HB : Hid (actB N ls = false) := by show actB N ls = false; rw [actB, allL_no (k := k) (by rw [HN.out]; exact hlt) (by rw [HG'.out]; exact hf)]; simp
    go_wp2_with fail
    refine (istep_any gC gD (iC.alloc _) (iD.alloc _) hn hm).mono ?_;rintro e w1 ⟨rfl, b1⟩;have j1 := (jj.alloc _).below b1;rw [hf];obtain ⟨sv, hsv⟩ : ∃ sv, sv = stepV ⟨gk, gp, gz, ⟨ga, gn, gcap, gc, gm, gcap', gK, gC, gD⟩⟩ := ⟨_, rfl⟩
    rw [<- hsv]
    go_wp2
    go_ret2
    exact ⟨_, ret_step rfl HB.out.symm, j1.b, fun h => by rw [HB.out] at h; cases h⟩
   obtain ⟨ty, vv, hsv⟩ := stepV_iface (l := ⟨gk, gp, gz, ⟨ga, gn, gcap, gc, gm, gcap', gK, gC, gD⟩⟩) hf;have HSV : Hid (stepV ⟨gk, gp, gz, ⟨ga, gn, gcap, gc, gm, gcap', gK, gC, gD⟩⟩ = .iface ty vv) := hsv;have HS1 : Hid (∀ u ∈ [Value.iface ty vv], u.oneCell' = true) := fun u hu => by simp at hu; subst hu; rfl
   have HXX : Hid (xs ++ [.iface ty vv] = (ls.take (k + 1)).map stepV) := by show _ = _; rw [HXX0.out, HXS.out, hsv]
   clear hsv
   by_cases h1 : gk = 1
   ·subst h1;have HT : Hid (j + 1 = tests (ls.take (k + 1))) := by show j + 1 = _; rw [tests_yes (by rw [HN.out]; exact hlt) HG'.out rfl, <- HJ.out]
    go_wp2_with fail
    refine (istep_any gC gD (iC.alloc _) (iD.alloc _) hn hm).mono ?_;rintro e w1 ⟨rfl, b1⟩;have j1 := (jj.alloc _).below b1;have bx := (Cel.new wr _ _).below b1;obtain ⟨f0, f1, f2, f3, f4, f5⟩ := bx.six;have jo := j1.o;rw [HXL.out] at jo;have hjb := j1.b.size;rw [hf, HSV.out];clear jj b1 iC iD e0 e1 e2 e3 e4 e5 f1 f2 f3 f4 f5 bx
    go_wp2_with (at_builtin; go_must (refine wpList_append_lies _ rfl (.tmp 31) (.tmp 33) 191 rfl w.heap.size 205 i0 .nilIface 1 16 Tryz.underlying191 hi hz0 hz1 hz2 rfl (by decide) _ _ _ rfl (jo.alloc _) ⟨w1.heap.size, 0, none⟩ 1 1 [.iface ty vv] rfl rfl (news_one) HS1.out (by omega) (by unfold maxLen; omega) (by omega) (by rw [World.size_alloc]; omega) _ rfl ?_); intro g cp w2 hown hgrow hat hlt1)
    have j2 := j1.app HXL.out hown hgrow;clear hown hgrow jo j1 hat
    go_wp2
    go_roundw
    case rel => exact ⟨k + 1, by omega, by go_num, ⟨j + 1, by omega, by go_num, HT.out⟩, ⟨_, by rw [qB, HXL.out]; rfl, HXX.out, j2⟩, allL_take_succ (by rw [HN.out]; exact hlt) HA.out (by rw [HG'.out]; exact hf)⟩
    case measure => simp [intOf]; omega
   have h1' : (gk == 1) = false := by simp [h1]
   have HT : Hid (j = tests (ls.take (k + 1))) := by show j = _; rw [tests_no (by rw [HN.out]; exact hlt) HG'.out h1', <- HJ.out]
   go_wp2_with fail
   refine (istep_any gC gD (iC.alloc _) (iD.alloc _) hn hm).mono ?_;rintro e w1 ⟨rfl, b1⟩;have j1 := (jj.alloc _).below b1;have bx := (Cel.new wr _ _).below b1;obtain ⟨f0, f1, f2, f3, f4, f5⟩ := bx.six;have jo := j1.o;rw [HXL.out] at jo;have hjb := j1.b.size;rw [hf, HSV.out];clear jj b1 iC iD e0 e1 e2 e3 e4 e5 f1 f2 f3 f4 f5 bx
   go_wp2_with (at_builtin; go_must (refine wpList_append_lies _ rfl (.tmp 31) (.tmp 33) 191 rfl w.heap.size 205 i0 .nilIface 1 16 Tryz.underlying191 hi hz0 hz1 hz2 rfl (by decide) _ _ _ rfl (jo.alloc _) ⟨w1.heap.size, 0, none⟩ 1 1 [.iface ty vv] rfl rfl (news_one) HS1.out (by omega) (by unfold maxLen; omega) (by omega) (by rw [World.size_alloc]; omega) _ rfl ?_); intro g cp w2 hown hgrow hat hlt1)
   have j2 := j1.app HXL.out hown hgrow;clear hown hgrow jo j1 hat
   go_wp2
   go_roundw
   case rel => exact ⟨k + 1, by omega, by go_num, ⟨j, by omega, rfl, HT.out⟩, ⟨_, by rw [qB, HXL.out]; rfl, HXX.out, j2⟩, allL_take_succ (by rw [HN.out]; exact hlt) HA.out (by rw [HG'.out]; exact hf)⟩
   case measure => simp [intOf]; omega
  obtain rfl : k = N := by omega
  have HT : Hid (ls.take k = ls) := List.take_of_length_le (by rw [HN.out]; omega)
  have HAB : Hid (actB k ls = decide ((j : Int) <= 3)) := by
   show actB k ls = _
   have h1 := HA.out;have h2 := HJ.out;rw [HT.out] at h1 h2;rw [actB, h1, <- h2, Bool.and_true, decide_eq_true (by omega), Bool.true_and]
  have HX2 : Hid (xs = ls.map stepV) := by show _ = _; rw [HXS.out, HT.out]
  go_wp2
  go_ret2
  exact ⟨_, ret_step rfl HAB.out.symm, jj.b, fun _ => by rw [<- HX2.out]; exact jj⟩
theorem iact_any (ad : Option Addr) (N cap : Nat) (ls : List LV) {w : World} (hN : ls.length = N) (hF : LinesG w ad ls) (hN1 : N <= 1048576) :
  Calls Tryz.prog 104 #[.slice ad N cap] w fun e w' => e = .returned (.bool (actB N ls)) /\ Below w.heap.size w w' := by
 go_enter Tryz.func104, Tryz.ntmps104
 go_wp2_with fail
 refine (isteps_any _ _ _ ls hN hF hN1).mono ?_;rintro e w1 ⟨sv, rfl, b1, -⟩
 go_wp2
 go_ret
 exact ⟨rfl, b1⟩
def noX : Frm := ([], [], 0)
def toFV (f : Frm) : FV := ⟨none, f.1.length, 0, none, f.2.1.length, 0, f.2.2, f.1, f.2.1⟩
def intoX (f : FV) (P : List Frm) : Frm := (intoC f.C (P.map toFV) 3, intoD f.C f.D (P.map toFV) 3, intoK f.C f.K (P.map toFV) 3)
def minusX (f : Frm) : Frm := (mulL (-1) f.1, mulL (-1) f.2.1, -1 * f.2.2 - 1)
def plusX (f g : Frm) : Frm := (lin f.1 g.1 1, lin f.2.1 g.2.1 1, f.2.2 + 1 * g.2.2)
def potX (v : Nat) : Frm := ([0, 0, 0].set v 1, [0, 0], 0)
def lessX (f : Frm) (v : Nat) : Frm := (lin f.1 ([0, 0, 0].set v 1) (-1), lin f.2.1 [0, 0] (-1), f.2.2 + -1 * 0)
structure Way where
 pots : List Frm
 guards : List Frm
 tells : List Frm
structure RowM where
 guards : List Frm
 adds : List Frm
 tells : List Frm
 stop : Bool
def endW (y : Way) : RowM := ⟨y.guards, (List.range 3).map fun v => lessX (y.pots[v]?.getD noX) v, y.tells, false⟩
def stopW (y : Way) : RowM := ⟨y.guards, [], [], true⟩
def Way.guard (y : Way) (f : Frm) : Way := { y with guards := y.guards ++ [f] }
def Way.tell (y : Way) (f : Frm) : Way := { y with tells := y.tells ++ [f] }
def Way.add (y : Way) (p : Nat) (f : Frm) : Way := { y with pots := y.pots.set p (plusX (y.pots[p]?.getD noX) f) }
def way0 : Way := ⟨[potX 0, potX 1, potX 2], [], []⟩
def goW (ls : List LV) : Nat -> Nat -> Way -> List RowM
 | 0, _, y => [endW y]
 | f + 1, i, y =>
  if i < ls.length then
   if (ls[i]?.getD noLV).kind = 1 then goW ls f (i + 1) (y.guard (intoX (ls[i]?.getD noLV).f y.pots)) ++ goW ls f (i + 1 + (ls[i]?.getD noLV).skip.toNat) (y.guard (minusX (intoX (ls[i]?.getD noLV).f y.pots)))
   else if (ls[i]?.getD noLV).kind = 2 then goW ls f (i + 1) (y.add (ls[i]?.getD noLV).pot.toNat (intoX (ls[i]?.getD noLV).f y.pots))
   else if (ls[i]?.getD noLV).kind = 3 then goW ls f (i + 1) (y.tell (intoX (ls[i]?.getD noLV).f y.pots))
   else [stopW y]
  else [endW y]
def rowsL (ls : List LV) : List RowM := goW ls 7 0 way0
theorem goW_end {f : Nat} {y : Way} (h : ls.length <= i) : goW ls f i y = [endW y] := by
 cases f with
 | zero => rfl
 | succ f => rw [goW, if_neg (by omega)]
def wb : Nat -> Int
 | 0 => 1
 | n + 1 => 7 * wb n + 20
theorem wb_pos : ∀ n, 1 <= wb n
 | 0 => by simp [wb]
 | n + 1 => by have := wb_pos n; simp only [wb]; omega
theorem wb_mono {n m : Nat} (h : n <= m) : wb n <= wb m := by
 induction h with
 | refl => exact Int.le_refl _
 | step _ ih => rename_i m _; have := wb_pos m; exact Int.le_trans ih (by simp only [wb]; omega)
theorem wb_six {n : Nat} (h : n <= 6) : wb n <= 509809 := Int.le_trans (wb_mono h) (by simp [wb])
structure fitX (M : Int) (f : Frm) : Prop where
 c : f.1.length = 3
 d : f.2.1.length = 2
 bc : bnd M f.1
 bd : bnd M f.2.1
 k1 : -M <= f.2.2
 k2 : f.2.2 <= M
theorem fitX.mono {M' : Int} {f : Frm} (h : fitX M f) (hM : M <= M') : fitX M' f :=
 ⟨h.c, h.d, fun i => by have := h.bc i; omega, fun i => by have := h.bd i; omega, by have := h.k1; omega, by have := h.k2; omega⟩
theorem two_mul {c y : Int} (h1 : -2 <= c) (h2 : c <= 2) (h3 : -M <= y) (h4 : y <= M) : -(2 * M) <= c * y /\ c * y <= 2 * M := by
 obtain h | h | h | h | h : c = -2 \/ c = -1 \/ c = 0 \/ c = 1 \/ c = 2 := by omega
 all_goals subst h; constructor <;> omega
theorem toFV_at {P : List Frm} (h : k < P.length) : (P.map toFV)[k]?.getD noFV = toFV (P[k]?.getD noX) := by
 rw [List.getElem?_map, qA h]; rfl
theorem intoX_fit {f : FV} {P : List Frm} (bC : bnd 2 f.C) (bD : bnd 2 f.D) (lD : f.D.length = 2) (k1 : -20 <= f.K) (k2 : f.K <= 20) (hP : P.length = 3) (hM : 0 <= M) (h : ∀ k, k < 3 -> fitX M (P[k]?.getD noX)) : fitX (6 * M + 20) (intoX f P) := by
 have bt : ∀ k, k < 3 -> bndT (2 * M) (f.C[k]?.getD 0) ((P.map toFV)[k]?.getD noFV).C /\ bndT (2 * M) (f.C[k]?.getD 0) ((P.map toFV)[k]?.getD noFV).D /\ -(2 * M) <= f.C[k]?.getD 0 * ((P.map toFV)[k]?.getD noFV).K /\ f.C[k]?.getD 0 * ((P.map toFV)[k]?.getD noFV).K <= 2 * M /\ ((P.map toFV)[k]?.getD noFV).C.length = 3 /\ ((P.map toFV)[k]?.getD noFV).D.length = 2 := fun k hk => by
  rw [toFV_at (by omega)];have hf := h k hk;have hc := bC k;refine ⟨fun i => ?_, fun i => ?_, ?_, ?_, hf.c, hf.d⟩
  ·have := hf.bc i; exact two_mul hc.1 hc.2 this.1 this.2
  ·have := hf.bd i; exact two_mul hc.1 hc.2 this.1 this.2
  ·exact (two_mul hc.1 hc.2 hf.k1 hf.k2).1
  exact (two_mul hc.1 hc.2 hf.k1 hf.k2).2
 obtain ⟨a0, b0, x0, y0, l0, m0⟩ := bt 0 (by omega);obtain ⟨a1, b1, x1, y1, l1, m1⟩ := bt 1 (by omega);obtain ⟨a2, b2, x2, y2, l2, m2⟩ := bt 2 (by omega)
 have z3 : bnd 0 ([0, 0, 0] : List Int) := fun i => by
  match i with
  | 0 => simp
  | 1 => simp
  | 2 => simp
  | i + 3 => simp
 refine ⟨?_, ?_, ?_, ?_, ?_, ?_⟩
 ·exact lin_len (lin_len (lin_len rfl l0) l1) l2
 ·exact lin_len (lin_len (lin_len lD m0) m1) m2
 ·have := lin_bnd (lin_len (lin_len rfl l0) l1) l2 (lin_bnd (lin_len rfl l0) l1 (lin_bnd (k := 3) rfl l0 z3 a0 (by omega)) a1 (by omega)) a2 (by omega)
  exact fun i => by have := this i; simp only [intoX, intoC] at *; omega
 ·have := lin_bnd (lin_len (lin_len lD m0) m1) m2 (lin_bnd (lin_len lD m0) m1 (lin_bnd lD m0 bD b0 (by omega)) b1 (by omega)) b2 (by omega)
  exact fun i => by have := this i; simp only [intoX, intoD] at *; omega
 ·simp only [intoX, intoK]; omega
 simp only [intoX, intoK]; omega
theorem bndT_one {xs : List Int} (h : bnd M xs) : bndT M 1 xs := fun i => by have := h i; omega
theorem plusX_fit {M' : Int} {f g : Frm} (hf : fitX M f) (hg : fitX M' g) (h0 : 0 <= M + M' := by omega) : fitX (M + M') (plusX f g) := by
 have a := hf.k1;have b := hf.k2;have c := hg.k1;have d := hg.k2
 exact ⟨lin_len hf.c hg.c, lin_len hf.d hg.d, lin_bnd hf.c hg.c hf.bc (bndT_one hg.bc) h0, lin_bnd hf.d hg.d hf.bd (bndT_one hg.bd) h0, by simp only [plusX]; omega, by simp only [plusX]; omega⟩
theorem minusX_fit {f : Frm} (hf : fitX M f) : fitX (M + 1) (minusX f) := by
 have key : ∀ (xs : List Int), bnd M xs -> bnd (M + 1) (mulL (-1) xs) := fun xs hx i => by
  have hi := hx i
  have : (mulL (-1) xs)[i]?.getD 0 = -1 * xs[i]?.getD 0 := by
   simp only [mulL, List.getElem?_map]
   cases xs[i]? <;> simp
  rw [this]; omega
 have a := hf.k1;have b := hf.k2
 exact ⟨by simp [minusX, mulL, hf.c], by simp [minusX, mulL, hf.d], key _ hf.bc, key _ hf.bd, by simp only [minusX]; omega, by simp only [minusX]; omega⟩
structure WayOk (i : Nat) (y : Way) : Prop where
 pl : y.pots.length = 3
 pf : ∀ k, k < 3 -> fitX (wb (min i 6)) (y.pots[k]?.getD noX)
 gf : ∀ k, k < y.guards.length -> fitX 10000000 (y.guards[k]?.getD noX)
 tf : ∀ k, k < y.tells.length -> fitX 10000000 (y.tells[k]?.getD noX)
 gl : y.guards.length <= i
 tl : y.tells.length <= i
theorem WayOk.start : WayOk 0 way0 := by
 refine ⟨rfl, fun k hk => ?_, fun k hk => by simp [way0] at hk, fun k hk => by simp [way0] at hk, qF _, qF _⟩
 have b3 : ∀ v, v < 3 -> bnd 1 (([0, 0, 0] : List Int).set v 1) := fun v hv i => by
  match v, hv, i with
  | 0, _, 0 => simp
  | 0, _, 1 => simp
  | 0, _, 2 => simp
  | 0, _, i + 3 => simp
  | 1, _, 0 => simp
  | 1, _, 1 => simp
  | 1, _, 2 => simp
  | 1, _, i + 3 => simp
  | 2, _, 0 => simp
  | 2, _, 1 => simp
  | 2, _, 2 => simp
  | 2, _, i + 3 => simp
 have b2 : bnd 1 ([0, 0] : List Int) := fun i => by
  match i with
  | 0 => simp
  | 1 => simp
  | i + 2 => simp
 match k, hk with
 | 0, _ => exact ⟨rfl, rfl, b3 0 (by omega), b2, by decide, by decide⟩
 | 1, _ => exact ⟨rfl, rfl, b3 1 (by omega), b2, by decide, by decide⟩
 | 2, _ => exact ⟨rfl, rfl, b3 2 (by omega), b2, by decide, by decide⟩
theorem WayOk.more {y : Way} (h : WayOk i y) (hij : i <= j) : WayOk j y :=
 ⟨h.pl, fun k hk => (h.pf k hk).mono (wb_mono (by omega)), h.gf, h.tf, by have := h.gl; omega, by have := h.tl; omega⟩
theorem snoc_fit {L : List Frm} {f : Frm} (h : ∀ k, k < L.length -> fitX M (L[k]?.getD noX)) (hf : fitX M f) : ∀ k, k < (L ++ [f]).length -> fitX M ((L ++ [f])[k]?.getD noX) := fun k hk => by
 rw [qB] at hk;simp only [qD, qE] at hk
 by_cases e : k < L.length
 ·rw [List.getElem?_append_left e]; exact h k e
 obtain rfl : k = L.length := by omega
 rw [List.getElem?_append_right (qF _), Nat.sub_self]
 exact hf
theorem WayOk.guard {y : Way} {f : Frm} (h : WayOk i y) (hij : i < j) (hf : fitX 10000000 f) : WayOk j (y.guard f) := by
 have h' := h.more (j := j) (by omega);refine ⟨h'.pl, h'.pf, snoc_fit h.gf hf, h'.tf, ?_, h'.tl⟩;have := h.gl;simp only [Way.guard, qB, qD, qE]; omega
theorem WayOk.tell {y : Way} {f : Frm} (h : WayOk i y) (hij : i < j) (hf : fitX 10000000 f) : WayOk j (y.tell f) := by
 have h' := h.more (j := j) (by omega);refine ⟨h'.pl, h'.pf, h'.gf, snoc_fit h.tf hf, h'.gl, ?_⟩;have := h.tl;simp only [Way.tell, qB, qD, qE]; omega
theorem WayOk.add {p : Nat} {y : Way} {f : Frm} (h : WayOk i y) (h6 : i < 6) (hp : p < 3) (hf : fitX (6 * wb i + 20) f) : WayOk (i + 1) (y.add p f) := by
 have h' := h.more (j := i + 1) (by omega);refine ⟨by simp only [Way.add, List.length_set]; exact h.pl, fun k hk => ?_, h'.gf, h'.tf, h'.gl, h'.tl⟩;have hw := wb_pos i;have e6 : min i 6 = i := by omega
 have e7 : min (i + 1) 6 = i + 1 := by omega
 have hpf := h.pf p hp;rw [e6] at hpf
 by_cases e : p = k
 ·subst e
  have : (y.add p f).pots[p]?.getD noX = plusX (y.pots[p]?.getD noX) f := by
   simp only [Way.add];rw [List.getElem?_set_self (by rw [h.pl]; exact hp)]; rfl
  rw [this];have := plusX_fit hpf hf;rw [e7]
  exact this.mono (by simp only [wb]; omega)
 have : (y.add p f).pots[k]?.getD noX = y.pots[k]?.getD noX := by
  simp only [Way.add];rw [List.getElem?_set_ne e]
 rw [this]
 exact h'.pf k hk
theorem WayOk.into {y : Way} (h : WayOk i y) (h6 : i <= 6) {f : FV} (hf : smallB f.n f.m f.C f.D f.K = true) (lD : f.D.length = f.m) : fitX (6 * wb i + 20) (intoX f y.pots) /\ fitX 10000000 (intoX f y.pots) /\ fitX 10000000 (minusX (intoX f y.pots)) := by
 simp only [smallB, Bool.and_eq_true] at hf;obtain ⟨⟨h1, h2⟩, h3⟩ := hf;obtain ⟨e1, b1⟩ := okN_elim (by omega) h1;obtain ⟨e2, b2⟩ := okN_elim (by omega) h2;have h4 := inB_iff.1 h3;have hw := wb_pos i;have hw6 := wb_six h6;have := intoX_fit (f := f) (M := wb i) b1 b2 (by omega) h4.1 h4.2 h.pl (by omega) (fun k hk => by have := h.pf k hk; rwa [show min i 6 = i by omega] at this)
 exact ⟨this, this.mono (by omega), (minusX_fit this).mono (by omega)⟩
end Go.Proofs.YtfmpcihghlnlnaaGreatDoor
