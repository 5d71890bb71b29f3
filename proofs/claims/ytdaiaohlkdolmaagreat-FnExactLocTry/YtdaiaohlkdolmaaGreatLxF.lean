/-
  Lemmas that the claim's last text rests on.
-/
import Derived.Test.YtdaiaohlkdolmaaGreatLxE
namespace Go.Proofs.YtdaiaohlkdolmaaGreat
open Go.ChangeShapes Go.WideShapes Go.ChangeAt Go.RowKit Go.Joins Go.Deep
open Option.some renaming injEq → qA
open World renaming size_alloc → qB
open List renaming getElem?_eq_getElem → qC, getElem?_cons_zero → qD, getElem?_cons_succ → qE, length_append → qF, take_succ_eq_append_getElem → qG, length_cons → qH, length_nil → qI
open Nat renaming le_refl → qJ, zero_le → qK
set_option linter.unusedVariables false
set_option maxRecDepth 100000
set_option maxHeartbeats 25600000
variable {G cap i j k n : Nat} {M : Int} {S : Nat -> Prop} {W W' w : World} {fs : List Frm} {ls : List LV} {v : Value} {xs : List Value}
def LV.ok (l : LV) : Bool := lineB l.kind l.pot l.skip l.f.n l.f.m l.f.C l.f.D l.f.K
def LV.tst (l : LV) : Bool := l.kind == 1
def tests (ls : List LV) : Nat := ls.countP LV.tst
def actB (N : Nat) (ls : List LV) : Bool := decide ((N : Int) <= 6) && ls.all LV.ok && decide ((tests ls : Int) <= 3)
theorem allL_take_succ (h : k < ls.length) (h1 : (ls.take k).all LV.ok = true) (h2 : (ls[k]?.getD noLV).ok = true) : (ls.take (k + 1)).all LV.ok = true := by
 rw [qG h, List.all_append, h1];rw [qC h] at h2;simpa using h2
theorem allL_no (h : k < ls.length) (h2 : (ls[k]?.getD noLV).ok = false) : ls.all LV.ok = false := by
 rw [List.all_eq_false];rw [qC h] at h2
 exact ⟨ls[k], List.getElem_mem h, by simpa using h2⟩
theorem tests_succ (h : k < ls.length) : tests (ls.take (k + 1)) = tests (ls.take k) + (if (ls[k]?.getD noLV).tst then 1 else 0) := by
 unfold tests;rw [qG h, List.countP_append, qC h];simp [List.countP_cons]
theorem tests_yes (h : k < ls.length) {g : LV} (hg : ls[k]?.getD noLV = g) (hk : g.kind = 1) : tests (ls.take (k + 1)) = tests (ls.take k) + 1 := by
 rw [tests_succ h, hg, LV.tst, hk]; rfl
theorem tests_no (h : k < ls.length) {g : LV} (hg : ls[k]?.getD noLV = g) (hk : (g.kind == 1) = false) : tests (ls.take (k + 1)) = tests (ls.take k) := by
 rw [tests_succ h, hg, LV.tst, hk]; rfl
theorem sact_any {ad : Option Addr} {N : Nat} (ls : List LV) {w : World} (hN : ls.length = N) (hF : LinesG w ad ls) (hN1 : N <= 1048576) :
  Calls Tryz.prog 45 #[.slice ad N cap] w fun e w' => e = .returned (.bool (actB N ls)) /\ Below w.heap.size w w' := by
 have HN : Hid (ls.length = N) := hN;clear hN
 go_enter Tryz.func45, Tryz.ntmps45
 go_wp2_with fail
 go_loopw [3, 4] (fun t i wr => ∃ k : Nat, k <= N /\ i = .int .i64 k /\ (∃ j : Nat, j <= k /\ t = .int .i64 j /\ j = tests (ls.take k)) /\ Below w.heap.size w wr /\ (ls.take k).all LV.ok = true) (fun _ i _ => N - (intOf i).toNat)
 case atStart => exact ⟨0, qK _, rfl, ⟨0, qJ _, rfl, rfl⟩, Below.refl _ _, by simp⟩
 case round =>
  obtain ⟨k, hk, rfl, ⟨j, hj, rfl, hjt⟩, hb, hall⟩ := hrel;have HA : Hid ((ls.take k).all LV.ok = true) := hall;have HJ : Hid (j = tests (ls.take k)) := hjt;clear hall hjt
  by_cases hlt : k < N
  ·obtain ⟨b, off, rfl, hc, hAt⟩ := (hF.below hb) k (by rw [HN.out]; exact hlt);generalize HG : ls[k]?.getD noLV = g at *;have HG' : Hid (ls[k]?.getD noLV = g) := HG;clear HG hF;obtain ⟨e0, e1, e2, e3, e4, e5⟩ := six_of hc;have HC : Hid _ := hc;clear hc;obtain ⟨gk, gp, gz, ⟨ga, gn, gcap, gc, gm, gcap', gK, gC, gD⟩⟩ := g;obtain ⟨iC, iD, hn, hm⟩ := hAt;simp only at e0 e1 e2 e3 e4 e5 iC iD hn hm
   cases hf : lineB gk gp gz gn gm gC gD gK
   ·go_wp2_with fail
    refine (sline_any gC gD iC iD hn hm).mono ?_;rintro e w1 ⟨rfl, b1⟩;have B1 := btr hb b1;rw [hf]
    go_wp2
    go_ret
    exact ⟨ret_bool (by rw [actB, allL_no (k := k) (by rw [HN.out]; exact hlt) (by rw [HG'.out]; exact hf)]; simp), B1⟩
   by_cases h1 : gk = 1
   ·subst h1;have HT : Hid (j + 1 = tests (ls.take (k + 1))) := by show j + 1 = _; rw [tests_yes (by rw [HN.out]; exact hlt) HG'.out rfl, <- HJ.out]
    go_wp2_with fail
    refine (sline_any gC gD iC iD hn hm).mono ?_;rintro e w1 ⟨rfl, b1⟩;have B1 := btr hb b1;obtain ⟨f0, f1, f2, f3, f4, f5⟩ := six_of (cells_below HC.out b1);simp only at f0;clear b1 hb iC iD e0 e1 e2 e3 e4 e5 f1 f2 f3 f4 f5;rw [hf]
    go_wp2
    go_roundw
    case rel => exact ⟨k + 1, by omega, by go_num, ⟨j + 1, by omega, by go_num, HT.out⟩, B1, allL_take_succ (by rw [HN.out]; exact hlt) HA.out (by rw [HG'.out]; exact hf)⟩
    case measure => simp [intOf]; omega
   have h1' : (gk == 1) = false := by simp [h1]
   have HT : Hid (j = tests (ls.take (k + 1))) := by show j = _; rw [tests_no (by rw [HN.out]; exact hlt) HG'.out h1', <- HJ.out]
   go_wp2_with fail
   refine (sline_any gC gD iC iD hn hm).mono ?_;rintro e w1 ⟨rfl, b1⟩;have B1 := btr hb b1;obtain ⟨f0, f1, f2, f3, f4, f5⟩ := six_of (cells_below HC.out b1);simp only at f0;clear b1 hb iC iD e0 e1 e2 e3 e4 e5 f1 f2 f3 f4 f5;rw [hf]
   go_wp2
   go_roundw
   case rel => exact ⟨k + 1, by omega, by go_num, ⟨j, by omega, rfl, HT.out⟩, B1, allL_take_succ (by rw [HN.out]; exact hlt) HA.out (by rw [HG'.out]; exact hf)⟩
   case measure => simp [intOf]; omega
  obtain rfl : k = N := by omega
  have HT : Hid (ls.take k = ls) := List.take_of_length_le (by rw [HN.out]; omega)
  have HAB : Hid (actB k ls = (decide ((k : Int) <= 6) && decide ((j : Int) <= 3))) := by
   show actB k ls = _
   have h1 := HA.out;have h2 := HJ.out;rw [HT.out] at h1 h2;rw [actB, h1, <- h2, Bool.and_true]
  by_cases h6 : (k : Int) <= 6
  ·go_wp2
   go_ret
   exact ⟨ret_bool (by rw [HAB.out]; simp; omega), hb⟩
  go_wp2
  go_ret
  exact ⟨ret_bool (by rw [HAB.out]; simp; omega), hb⟩
structure JS (w : World) (v : Value) (xs : List Value) (W : World) : Prop where
 b : Below w.heap.size w W
 o : W.ownsRow w.heap.size 149 1 v xs.length xs
theorem JS.nil (w : World) : JS w (.slice none 0 0) [] w := ⟨Below.refl _ _, World.ownsRow_nil w _ _ _⟩
theorem JS.below (j : JS w v xs W) (h : Below W.heap.size W W') : JS w v xs W' := by
 refine ⟨j.b.trans (h.mono j.b.size), j.o.1, ?_⟩
 rcases j.o.2 with h2 | ⟨g, cap, cur, hv, hg, hh, r⟩
 ·exact Or.inl h2
 exact Or.inr ⟨g, cap, cur, hv, hg, by rw [h.block g (lt_of_block hh)]; exact hh, r⟩
theorem JS.alloc (j : JS w v xs W) (o : Obj) : JS w v xs (W.alloc o) := j.below (bal)
theorem JS.app {y : Value} {g : Nat} {o : Obj} (j : JS w v xs W) (hk : xs.length = k) (hown : W'.ownsRow w.heap.size 149 1 (.slice (some ⟨g, 0, none⟩) (k + 1) cap) (k + 1) (xs ++ [y])) (hg : (W.alloc o).grownBy W' v.ownBlock) :
  JS w (.slice (some ⟨g, 0, none⟩) (k + 1) cap) (xs ++ [y]) W' := by
 have j' := j.alloc o;refine ⟨j'.b.grown hg j'.b.size (fun k hk => (j'.o.lt k hk).1), ?_⟩;rw [qF, hk]
 exact hown
theorem stepV_iface {l : LV} (h : l.ok = true) : ∃ ty v, stepV l = .iface ty v := by
 unfold stepV
 by_cases h1 : l.kind = 1
 ·rw [if_pos h1]; exact ⟨_, _, rfl⟩
 by_cases h2 : l.kind = 2
 ·rw [if_neg h1, if_pos h2]; exact ⟨_, _, rfl⟩
 by_cases h3 : l.kind = 3
 ·rw [if_neg h1, if_neg h2, if_pos h3]; exact ⟨_, _, rfl⟩
 by_cases h4 : l.kind = 4
 ·rw [if_neg h1, if_neg h2, if_neg h3, if_pos h4]; exact ⟨_, _, rfl⟩
 simp [LV.ok, lineB, h1, h2, h3, h4] at h
theorem news_one {x : Value} {t : TypeId} : ∀ j u, [x][j]? = some u -> (w.alloc (.cells #[x] t)).cell? ((⟨w.heap.size, 0, none⟩ : Addr).add j) = some u := fun j u hu => by
 match j, hu with
 | 0, hu =>
  simp only [qD, qA] at hu;subst hu;simp [Addr.add]
theorem Tryz.infoStep : (Tryz.prog.info? 149).map (fun i => (i.zero, i.size, i.bytes)) = some (some .nilIface, 1, 16) := by kernel_rfl
theorem isteps_any (ad : Option Addr) (N cap : Nat) (ls : List LV) {w : World} (hN : ls.length = N) (hF : LinesG w ad ls) (hN1 : N <= 1048576) :
  Calls Tryz.prog 90 #[.slice ad N cap] w fun e w' => ∃ sv, e = .returned (.tuple #[sv, .bool (actB N ls)]) /\ Below w.heap.size w w' /\ (actB N ls = true -> JS w sv (ls.map stepV) w') := by
 have HN : Hid (ls.length = N) := hN;clear hN;obtain ⟨i0, hi, hz0, hz1, hz2⟩ := info_parts Tryz.infoStep
 by_cases h6 : 6 < N
 ·have HB : Hid (actB N ls = false) := by show actB N ls = false; rw [actB, decide_eq_false (by omega)]; rfl
  go_enter Tryz.func90, Tryz.ntmps90
  go_wp2
  go_ret2
  exact ⟨_, ret_step rfl HB.out.symm, Below.refl _ _, fun h => by rw [HB.out] at h; cases h⟩
 have h6' : N <= 6 := by omega
 clear h6
 go_enter Tryz.func90, Tryz.ntmps90
 go_wp2_with fail
 go_loopw [4, 5, 7, 8, 9, 15] (fun v t _ _ _ i wr => ∃ k : Nat, k <= N /\ i = .int .i64 k /\ (∃ j : Nat, j <= k /\ t = .int .i64 j /\ j = tests (ls.take k)) /\ (∃ xs : List Value, xs.length = k /\ xs = (ls.take k).map stepV /\ JS w v xs wr) /\ (ls.take k).all LV.ok = true) (fun _ _ _ _ _ i _ => N - (intOf i).toNat)
 case atStart => exact ⟨0, qK _, rfl, ⟨0, qJ _, rfl, rfl⟩, ⟨[], rfl, rfl, JS.nil w⟩, by simp⟩
 case round =>
  obtain ⟨k, hk, rfl, ⟨j, hj, rfl, hjt⟩, ⟨xs, hxl, hxs, jj⟩, hall⟩ := hrel;have HA : Hid ((ls.take k).all LV.ok = true) := hall;have HJ : Hid (j = tests (ls.take k)) := hjt;have HXL : Hid (xs.length = k) := hxl;have HXS : Hid (xs = (ls.take k).map stepV) := hxs;clear hall hjt hxl hxs
  by_cases hlt : k < N
  ·obtain ⟨b, off, rfl, hc, hAt⟩ := (hF.below jj.b) k (by rw [HN.out]; exact hlt)
   have HXX0 : Hid ((ls.take (k + 1)).map stepV = (ls.take k).map stepV ++ [stepV (ls[k]?.getD noLV)]) := by
    have hl : k < ls.length := by rw [HN.out]; exact hlt
    show _ = _
    rw [qG hl, List.map_append, qC hl]; rfl
   generalize HG : ls[k]?.getD noLV = g at *;have HG' : Hid (ls[k]?.getD noLV = g) := HG;clear HG hF;obtain ⟨e0, e1, e2, e3, e4, e5⟩ := six_of hc;clear hc;obtain ⟨gk, gp, gz, ⟨ga, gn, gcap, gc, gm, gcap', gK, gC, gD⟩⟩ := g;obtain ⟨iC, iD, hn, hm⟩ := hAt;simp only at e0 e1 e2 e3 e4 e5 iC iD hn hm
   cases hf : lineB gk gp gz gn gm gC gD gK
   ·have HB : Hid (actB N ls = false) := by show actB N ls = false; rw [actB, allL_no (k := k) (by rw [HN.out]; exact hlt) (by rw [HG'.out]; exact hf)]; simp
    go_wp2_with fail
    refine (istep_any gC gD (iC.alloc _) (iD.alloc _) hn hm).mono ?_;rintro e w1 ⟨rfl, b1⟩;have j1 := (jj.alloc _).below b1;rw [hf];obtain ⟨sv, hsv⟩ : ∃ sv, sv = stepV ⟨gk, gp, gz, ⟨ga, gn, gcap, gc, gm, gcap', gK, gC, gD⟩⟩ := ⟨_, rfl⟩
    rw [<- hsv]
    go_wp2
    go_ret2
    exact ⟨_, ret_step rfl HB.out.symm, j1.b, fun h => by rw [HB.out] at h; cases h⟩
   obtain ⟨ty, vv, hsv⟩ := stepV_iface (l := ⟨gk, gp, gz, ⟨ga, gn, gcap, gc, gm, gcap', gK, gC, gD⟩⟩) hf;have HSV : Hid (stepV ⟨gk, gp, gz, ⟨ga, gn, gcap, gc, gm, gcap', gK, gC, gD⟩⟩ = .iface ty vv) := hsv;have HS1 : Hid (∀ u ∈ [Value.iface ty vv], u.oneCell' = true) := fun u hu => by simp at hu; subst hu; rfl
   have HXX : Hid (xs ++ [.iface ty vv] = (ls.take (k + 1)).map stepV) := by show _ = _; rw [HXX0.out, HXS.out, hsv]
   clear hsv
   by_cases h1 : gk = 1
   ·subst h1;have HT : Hid (j + 1 = tests (ls.take (k + 1))) := by show j + 1 = _; rw [tests_yes (by rw [HN.out]; exact hlt) HG'.out rfl, <- HJ.out]
    go_wp2_with fail
    refine (istep_any gC gD (iC.alloc _) (iD.alloc _) hn hm).mono ?_;rintro e w1 ⟨rfl, b1⟩;have j1 := (jj.alloc _).below b1;have bx := (Cel.new wr _ _).below b1;obtain ⟨f0, f1, f2, f3, f4, f5⟩ := bx.six;have jo := j1.o;rw [HXL.out] at jo;have hjb := j1.b.size;rw [hf, HSV.out];clear jj b1 iC iD e0 e1 e2 e3 e4 e5 f1 f2 f3 f4 f5 bx
    go_wp2_with (at_builtin; go_must (refine wpList_append_lies _ rfl (.tmp 31) (.tmp 33) 128 rfl w.heap.size 149 i0 .nilIface 1 16 Tryz.underlying128 hi hz0 hz1 hz2 rfl (by decide) _ _ _ rfl (jo.alloc _) ⟨w1.heap.size, 0, none⟩ 1 1 [.iface ty vv] rfl rfl (news_one) HS1.out (by omega) (by unfold maxLen; omega) (by omega) (by rw [qB]; omega) _ rfl ?_); intro g cp w2 hown hgrow hat hlt1)
    have j2 := j1.app HXL.out hown hgrow;clear hown hgrow jo j1 hat
    go_wp2
    go_roundw
    case rel => exact ⟨k + 1, by omega, by go_num, ⟨j + 1, by omega, by go_num, HT.out⟩, ⟨_, by rw [qF, HXL.out]; rfl, HXX.out, j2⟩, allL_take_succ (by rw [HN.out]; exact hlt) HA.out (by rw [HG'.out]; exact hf)⟩
    case measure => simp [intOf]; omega
   have h1' : (gk == 1) = false := by simp [h1]
   have HT : Hid (j = tests (ls.take (k + 1))) := by show j = _; rw [tests_no (by rw [HN.out]; exact hlt) HG'.out h1', <- HJ.out]
   go_wp2_with fail
   refine (istep_any gC gD (iC.alloc _) (iD.alloc _) hn hm).mono ?_;rintro e w1 ⟨rfl, b1⟩;have j1 := (jj.alloc _).below b1;have bx := (Cel.new wr _ _).below b1;obtain ⟨f0, f1, f2, f3, f4, f5⟩ := bx.six;have jo := j1.o;rw [HXL.out] at jo;have hjb := j1.b.size;rw [hf, HSV.out];clear jj b1 iC iD e0 e1 e2 e3 e4 e5 f1 f2 f3 f4 f5 bx
   go_wp2_with (at_builtin; go_must (refine wpList_append_lies _ rfl (.tmp 31) (.tmp 33) 128 rfl w.heap.size 149 i0 .nilIface 1 16 Tryz.underlying128 hi hz0 hz1 hz2 rfl (by decide) _ _ _ rfl (jo.alloc _) ⟨w1.heap.size, 0, none⟩ 1 1 [.iface ty vv] rfl rfl (news_one) HS1.out (by omega) (by unfold maxLen; omega) (by omega) (by rw [qB]; omega) _ rfl ?_); intro g cp w2 hown hgrow hat hlt1)
   have j2 := j1.app HXL.out hown hgrow;clear hown hgrow jo j1 hat
   go_wp2
   go_roundw
   case rel => exact ⟨k + 1, by omega, by go_num, ⟨j, by omega, rfl, HT.out⟩, ⟨_, by rw [qF, HXL.out]; rfl, HXX.out, j2⟩, allL_take_succ (by rw [HN.out]; exact hlt) HA.out (by rw [HG'.out]; exact hf)⟩
   case measure => simp [intOf]; omega
  obtain rfl : k = N := by omega
  have HT : Hid (ls.take k = ls) := List.take_of_length_le (by rw [HN.out]; omega)
  have HAB : Hid (actB k ls = decide ((j : Int) <= 3)) := by
   show actB k ls = _
   have h1 := HA.out;have h2 := HJ.out;rw [HT.out] at h1 h2;rw [actB, h1, <- h2, Bool.and_true, decide_eq_true (by omega), Bool.true_and]
  have HX2 : Hid (xs = ls.map stepV) := by show _ = _; rw [HXS.out, HT.out]
  go_wp2
  go_ret2
  exact ⟨_, ret_step rfl HAB.out.symm, jj.b, fun _ => by rw [<- HX2.out]; exact jj⟩
theorem iact_any (ad : Option Addr) (N cap : Nat) (ls : List LV) {w : World} (hN : ls.length = N) (hF : LinesG w ad ls) (hN1 : N <= 1048576) :
  Calls Tryz.prog 60 #[.slice ad N cap] w fun e w' => e = .returned (.bool (actB N ls)) /\ Below w.heap.size w w' := by
 go_enter Tryz.func60, Tryz.ntmps60
 go_wp2_with fail
 refine (isteps_any _ _ _ ls hN hF hN1).mono ?_;rintro e w1 ⟨sv, rfl, b1, -⟩
 go_wp2
 go_ret
 exact ⟨rfl, b1⟩
def noX : Frm := ([], [], 0)
def toFV (f : Frm) : FV := ⟨none, f.1.length, 0, none, f.2.1.length, 0, f.2.2, f.1, f.2.1⟩
def intoX (f : FV) (P : List Frm) : Frm := (intoC f.C (P.map toFV) 3, intoD f.C f.D (P.map toFV) 3, intoK f.C f.K (P.map toFV) 3)
def minusX (f : Frm) : Frm := (mulL (-1) f.1, mulL (-1) f.2.1, -1 * f.2.2 - 1)
def plusX (f g : Frm) : Frm := (lin f.1 g.1 1, lin f.2.1 g.2.1 1, f.2.2 + 1 * g.2.2)
def potX (v : Nat) : Frm := ([0, 0, 0].set v 1, [0, 0], 0)
def lessX (f : Frm) (v : Nat) : Frm := (lin f.1 ([0, 0, 0].set v 1) (-1), lin f.2.1 [0, 0] (-1), f.2.2 + -1 * 0)
structure Way where
 pots : List Frm
 guards : List Frm
 tells : List Frm
structure RowM where
 guards : List Frm
 adds : List Frm
 tells : List Frm
 stop : Bool
def endW (y : Way) : RowM := ⟨y.guards, (List.range 3).map fun v => lessX (y.pots[v]?.getD noX) v, y.tells, false⟩
def stopW (y : Way) : RowM := ⟨y.guards, [], [], true⟩
def Way.guard (y : Way) (f : Frm) : Way := { y with guards := y.guards ++ [f] }
def Way.tell (y : Way) (f : Frm) : Way := { y with tells := y.tells ++ [f] }
def Way.add (y : Way) (p : Nat) (f : Frm) : Way := { y with pots := y.pots.set p (plusX (y.pots[p]?.getD noX) f) }
def way0 : Way := ⟨[potX 0, potX 1, potX 2], [], []⟩
def goW (ls : List LV) : Nat -> Nat -> Way -> List RowM
 | 0, _, y => [endW y]
 | f + 1, i, y =>
  if i < ls.length then
   if (ls[i]?.getD noLV).kind = 1 then goW ls f (i + 1) (y.guard (intoX (ls[i]?.getD noLV).f y.pots)) ++ goW ls f (i + 1 + (ls[i]?.getD noLV).skip.toNat) (y.guard (minusX (intoX (ls[i]?.getD noLV).f y.pots)))
   else if (ls[i]?.getD noLV).kind = 2 then goW ls f (i + 1) (y.add (ls[i]?.getD noLV).pot.toNat (intoX (ls[i]?.getD noLV).f y.pots))
   else if (ls[i]?.getD noLV).kind = 3 then goW ls f (i + 1) (y.tell (intoX (ls[i]?.getD noLV).f y.pots))
   else [stopW y]
  else [endW y]
def rowsL (ls : List LV) : List RowM := goW ls 7 0 way0
theorem goW_end {f : Nat} {y : Way} (h : ls.length <= i) : goW ls f i y = [endW y] := by
 cases f with
 | zero => rfl
 | succ f => rw [goW, if_neg (by omega)]
def wb : Nat -> Int
 | 0 => 1
 | n + 1 => 7 * wb n + 20
theorem wb_pos : ∀ n, 1 <= wb n
 | 0 => by simp [wb]
 | n + 1 => by have := wb_pos n; simp only [wb]; omega
theorem wb_mono {m : Nat} (h : n <= m) : wb n <= wb m := by
 induction h with
 | refl => exact Int.le_refl _
 | step _ ih => rename_i m _; have := wb_pos m; exact Int.le_trans ih (by simp only [wb]; omega)
theorem wb_six (h : n <= 6) : wb n <= 509809 := Int.le_trans (wb_mono h) (by simp [wb])
structure fitX (M : Int) (f : Frm) : Prop where
 c : f.1.length = 3
 d : f.2.1.length = 2
 bc : bnd M f.1
 bd : bnd M f.2.1
 k1 : -M <= f.2.2
 k2 : f.2.2 <= M
theorem fitX.mono {M' : Int} {f : Frm} (h : fitX M f) (hM : M <= M') : fitX M' f :=
 ⟨h.c, h.d, fun i => by have := h.bc i; omega, fun i => by have := h.bd i; omega, by have := h.k1; omega, by have := h.k2; omega⟩
theorem two_mul {c y : Int} (h1 : -2 <= c) (h2 : c <= 2) (h3 : -M <= y) (h4 : y <= M) : -(2 * M) <= c * y /\ c * y <= 2 * M := by
 obtain h | h | h | h | h : c = -2 \/ c = -1 \/ c = 0 \/ c = 1 \/ c = 2 := by omega
 all_goals subst h; constructor <;> omega
theorem toFV_at {P : List Frm} (h : k < P.length) : (P.map toFV)[k]?.getD noFV = toFV (P[k]?.getD noX) := by
 rw [List.getElem?_map, qC h]; rfl
theorem intoX_fit {f : FV} {P : List Frm} (bC : bnd 2 f.C) (bD : bnd 2 f.D) (lD : f.D.length = 2) (k1 : -20 <= f.K) (k2 : f.K <= 20) (hP : P.length = 3) (hM : 0 <= M) (h : ∀ k, k < 3 -> fitX M (P[k]?.getD noX)) : fitX (6 * M + 20) (intoX f P) := by
 have bt : ∀ k, k < 3 -> bndT (2 * M) (f.C[k]?.getD 0) ((P.map toFV)[k]?.getD noFV).C /\ bndT (2 * M) (f.C[k]?.getD 0) ((P.map toFV)[k]?.getD noFV).D /\ -(2 * M) <= f.C[k]?.getD 0 * ((P.map toFV)[k]?.getD noFV).K /\ f.C[k]?.getD 0 * ((P.map toFV)[k]?.getD noFV).K <= 2 * M /\ ((P.map toFV)[k]?.getD noFV).C.length = 3 /\ ((P.map toFV)[k]?.getD noFV).D.length = 2 := fun k hk => by
  rw [toFV_at (by omega)];have hf := h k hk;have hc := bC k;refine ⟨fun i => ?_, fun i => ?_, ?_, ?_, hf.c, hf.d⟩
  ·have := hf.bc i; exact two_mul hc.1 hc.2 this.1 this.2
  ·have := hf.bd i; exact two_mul hc.1 hc.2 this.1 this.2
  ·exact (two_mul hc.1 hc.2 hf.k1 hf.k2).1
  exact (two_mul hc.1 hc.2 hf.k1 hf.k2).2
 obtain ⟨a0, b0, x0, y0, l0, m0⟩ := bt 0 (by omega);obtain ⟨a1, b1, x1, y1, l1, m1⟩ := bt 1 (by omega);obtain ⟨a2, b2, x2, y2, l2, m2⟩ := bt 2 (by omega)
 have z3 : bnd 0 ([0, 0, 0] : List Int) := fun i => by
  match i with
  | 0 => simp
  | 1 => simp
  | 2 => simp
  | i + 3 => simp
 refine ⟨?_, ?_, ?_, ?_, ?_, ?_⟩
 ·exact lin_len (lin_len (lin_len rfl l0) l1) l2
 ·exact lin_len (lin_len (lin_len lD m0) m1) m2
 ·have := lin_bnd (lin_len (lin_len rfl l0) l1) l2 (lin_bnd (lin_len rfl l0) l1 (lin_bnd (k := 3) rfl l0 z3 a0 (by omega)) a1 (by omega)) a2 (by omega)
  exact fun i => by have := this i; simp only [intoX, intoC] at *; omega
 ·have := lin_bnd (lin_len (lin_len lD m0) m1) m2 (lin_bnd (lin_len lD m0) m1 (lin_bnd lD m0 bD b0 (by omega)) b1 (by omega)) b2 (by omega)
  exact fun i => by have := this i; simp only [intoX, intoD] at *; omega
 ·simp only [intoX, intoK]; omega
 simp only [intoX, intoK]; omega
theorem bndT_one {xs : List Int} (h : bnd M xs) : bndT M 1 xs := fun i => by have := h i; omega
theorem plusX_fit {M' : Int} {f g : Frm} (hf : fitX M f) (hg : fitX M' g) (h0 : 0 <= M + M' := by omega) : fitX (M + M') (plusX f g) := by
 have a := hf.k1;have b := hf.k2;have c := hg.k1;have d := hg.k2
 exact ⟨lin_len hf.c hg.c, lin_len hf.d hg.d, lin_bnd hf.c hg.c hf.bc (bndT_one hg.bc) h0, lin_bnd hf.d hg.d hf.bd (bndT_one hg.bd) h0, by simp only [plusX]; omega, by simp only [plusX]; omega⟩
theorem minusX_fit {f : Frm} (hf : fitX M f) : fitX (M + 1) (minusX f) := by
 have key : ∀ (xs : List Int), bnd M xs -> bnd (M + 1) (mulL (-1) xs) := fun xs hx i => by
  have hi := hx i
  have : (mulL (-1) xs)[i]?.getD 0 = -1 * xs[i]?.getD 0 := by
   simp only [mulL, List.getElem?_map]
   cases xs[i]? <;> simp
  rw [this]; omega
 have a := hf.k1;have b := hf.k2
 exact ⟨by simp [minusX, mulL, hf.c], by simp [minusX, mulL, hf.d], key _ hf.bc, key _ hf.bd, by simp only [minusX]; omega, by simp only [minusX]; omega⟩
structure WayOk (i : Nat) (y : Way) : Prop where
 pl : y.pots.length = 3
 pf : ∀ k, k < 3 -> fitX (wb (min i 6)) (y.pots[k]?.getD noX)
 gf : ∀ k, k < y.guards.length -> fitX 10000000 (y.guards[k]?.getD noX)
 tf : ∀ k, k < y.tells.length -> fitX 10000000 (y.tells[k]?.getD noX)
 gl : y.guards.length <= i
 tl : y.tells.length <= i
theorem WayOk.start : WayOk 0 way0 := by
 refine ⟨rfl, fun k hk => ?_, fun k hk => by simp [way0] at hk, fun k hk => by simp [way0] at hk, qJ _, qJ _⟩
 have b3 : ∀ v, v < 3 -> bnd 1 (([0, 0, 0] : List Int).set v 1) := fun v hv i => by
  match v, hv, i with
  | 0, _, 0 => simp
  | 0, _, 1 => simp
  | 0, _, 2 => simp
  | 0, _, i + 3 => simp
  | 1, _, 0 => simp
  | 1, _, 1 => simp
  | 1, _, 2 => simp
  | 1, _, i + 3 => simp
  | 2, _, 0 => simp
  | 2, _, 1 => simp
  | 2, _, 2 => simp
  | 2, _, i + 3 => simp
 have b2 : bnd 1 ([0, 0] : List Int) := fun i => by
  match i with
  | 0 => simp
  | 1 => simp
  | i + 2 => simp
 match k, hk with
 | 0, _ => exact ⟨rfl, rfl, b3 0 (by omega), b2, by decide, by decide⟩
 | 1, _ => exact ⟨rfl, rfl, b3 1 (by omega), b2, by decide, by decide⟩
 | 2, _ => exact ⟨rfl, rfl, b3 2 (by omega), b2, by decide, by decide⟩
theorem WayOk.more {y : Way} (h : WayOk i y) (hij : i <= j) : WayOk j y :=
 ⟨h.pl, fun k hk => (h.pf k hk).mono (wb_mono (by omega)), h.gf, h.tf, by have := h.gl; omega, by have := h.tl; omega⟩
theorem snoc_fit {L : List Frm} {f : Frm} (h : ∀ k, k < L.length -> fitX M (L[k]?.getD noX)) (hf : fitX M f) : ∀ k, k < (L ++ [f]).length -> fitX M ((L ++ [f])[k]?.getD noX) := fun k hk => by
 rw [qF] at hk;simp only [qH, qI] at hk
 by_cases e : k < L.length
 ·rw [List.getElem?_append_left e]; exact h k e
 obtain rfl : k = L.length := by omega
 rw [List.getElem?_append_right (qJ _), Nat.sub_self]
 exact hf
theorem WayOk.guard {y : Way} {f : Frm} (h : WayOk i y) (hij : i < j) (hf : fitX 10000000 f) : WayOk j (y.guard f) := by
 have h' := h.more (j := j) (by omega);refine ⟨h'.pl, h'.pf, snoc_fit h.gf hf, h'.tf, ?_, h'.tl⟩;have := h.gl;simp only [Way.guard, qF, qH, qI]; omega
theorem WayOk.tell {y : Way} {f : Frm} (h : WayOk i y) (hij : i < j) (hf : fitX 10000000 f) : WayOk j (y.tell f) := by
 have h' := h.more (j := j) (by omega);refine ⟨h'.pl, h'.pf, h'.gf, snoc_fit h.tf hf, h'.gl, ?_⟩;have := h.tl;simp only [Way.tell, qF, qH, qI]; omega
theorem WayOk.add {p : Nat} {y : Way} {f : Frm} (h : WayOk i y) (h6 : i < 6) (hp : p < 3) (hf : fitX (6 * wb i + 20) f) : WayOk (i + 1) (y.add p f) := by
 have h' := h.more (j := i + 1) (by omega);refine ⟨by simp only [Way.add, List.length_set]; exact h.pl, fun k hk => ?_, h'.gf, h'.tf, h'.gl, h'.tl⟩;have hw := wb_pos i;have e6 : min i 6 = i := by omega
 have e7 : min (i + 1) 6 = i + 1 := by omega
 have hpf := h.pf p hp;rw [e6] at hpf
 by_cases e : p = k
 ·subst e
  have : (y.add p f).pots[p]?.getD noX = plusX (y.pots[p]?.getD noX) f := by
   simp only [Way.add];rw [List.getElem?_set_self (by rw [h.pl]; exact hp)]; rfl
  rw [this];have := plusX_fit hpf hf;rw [e7]
  exact this.mono (by simp only [wb]; omega)
 have : (y.add p f).pots[k]?.getD noX = y.pots[k]?.getD noX := by
  simp only [Way.add];rw [List.getElem?_set_ne e]
 rw [this]
 exact h'.pf k hk
theorem WayOk.into {y : Way} (h : WayOk i y) (h6 : i <= 6) {f : FV} (hf : smallB f.n f.m f.C f.D f.K = true) (lD : f.D.length = f.m) : fitX (6 * wb i + 20) (intoX f y.pots) /\ fitX 10000000 (intoX f y.pots) /\ fitX 10000000 (minusX (intoX f y.pots)) := by
 simp only [smallB, Bool.and_eq_true] at hf;obtain ⟨⟨h1, h2⟩, h3⟩ := hf;obtain ⟨e1, b1⟩ := okN_elim (by omega) h1;obtain ⟨e2, b2⟩ := okN_elim (by omega) h2;have h4 := inB_iff.1 h3;have hw := wb_pos i;have hw6 := wb_six h6;have := intoX_fit (f := f) (M := wb i) b1 b2 (by omega) h4.1 h4.2 h.pl (by omega) (fun k hk => by have := h.pf k hk; rwa [show min i 6 = i by omega] at this)
 exact ⟨this, this.mono (by omega), (minusX_fit this).mono (by omega)⟩
def Lo (B : Nat) (xs : List Value) : Prop := ∀ (i b o : Nat) (m c : Nat), xs[i]? = some (Value.slice (some ⟨b, o, none⟩) m c) -> B <= b
theorem Lo.nil (B : Nat) : Lo B [] := fun i b o m c h => by simp at h
theorem Lo.app {B : Nat} (h : Lo B xs) {B1 B2 n1 n2 c1 c2 : Nat} {K : Int} (h1 : B <= B1) (h2 : B <= B2) : Lo B (xs ++ [.slice (some ⟨B1, 0, none⟩) n1 c1, .slice (some ⟨B2, 0, none⟩) n2 c2, .int .i64 K]) := fun i b o m c e => by
 by_cases hi : i < xs.length
 ·rw [List.getElem?_append_left hi] at e; exact h i b o m c e
 rw [List.getElem?_append_right (by omega)] at e;generalize i - xs.length = j at e
 match j with
 | 0 => simp at e; omega
 | 1 => simp at e; omega
 | 2 => simp at e
 | j + 3 => simp at e
theorem Ints.offC {a : Option Addr} {zs : List Int} (h : Ints W a n zs) (hb : ∀ b o, a = some ⟨b, o, none⟩ -> ¬ S b) (t : Touch S W W') : Ints W' a n zs := by
 refine ⟨h.1, fun i hi => ?_⟩;obtain ⟨b, off, e, hc⟩ := h.2 i hi;refine ⟨b, off, e, ?_⟩;have hl := block_lt hc;simp only [World.cell?] at hc ⊢;rw [t.block b hl (hb b off e)]; exact hc
theorem own_off {base : Nat} {e : TypeId} {s : Nat} (h : W.ownsRow base e s v n xs) (hn : ∀ g, v.ownBlock = some g -> ¬ S g) (t : Touch S W W') : W'.ownsRow base e s v n xs := by
 refine ⟨h.1, ?_⟩
 rcases h.2 with h2 | ⟨g, cap, cur, hv, hg, hh, r⟩
 ·exact Or.inl h2
 refine Or.inr ⟨g, cap, cur, hv, hg, ?_, r⟩;rw [t.block g (lt_of_block hh) (hn g (by rw [hv]; rfl))]; exact hh
theorem TermsOk.off (h : TermsOk W G xs fs n) {B : Nat} (hl : Lo B xs) (hS : ∀ k, S k -> k < B) (t : Touch S W W') : TermsOk W' G xs fs n := fun i hi => by
 obtain ⟨a', c', ca, cc, e0, e1, e2, i1, i2, n1, n2⟩ := h i hi;refine ⟨a', c', ca, cc, e0, e1, e2, i1.offC (fun b o e hs => ?_) t, i2.offC (fun b o e hs => ?_) t, n1, n2⟩
 ·rw [e] at e0;have := hl _ _ _ _ _ e0;have := hS _ hs
  omega
 rw [e] at e1;have := hl _ _ _ _ _ e1;have := hS _ hs
 omega
structure JF (w : World) (G cap n : Nat) (xs : List Value) (fs : List Frm) (W : World) : Prop where
 b : Below w.heap.size w W
 o : W.ownsRow w.heap.size 81 3 (.slice (some ⟨G, 0, none⟩) n cap) n xs
 t : TermsOk W G xs fs n
 l : Lo w.heap.size xs
theorem JF.below (j : JF w G cap n xs fs W) (h : Below W.heap.size W W') : JF w G cap n xs fs W' := ⟨j.b.trans (h.mono j.b.size), own_below j.o h, j.t.below h, j.l⟩
theorem JF.at (j : JF w G cap n xs fs W) (hn : fs.length = n) : FormsAt W (some ⟨G, 0, none⟩) fs := j.t.forms hn j.o
theorem JF.lt (j : JF w G cap n xs fs W) : w.heap.size <= G /\ G < W.heap.size := by
 rcases j.o.2 with ⟨h, _⟩ | ⟨g, cap', cur, h, hg, hh, _⟩
 ·cases h
 simp only [Value.slice.injEq, qA, Addr.mk.injEq, and_true, true_and] at h;obtain ⟨rfl, _⟩ := h
 exact ⟨hg, lt_of_block hh⟩
theorem JF.off (j : JF w G cap n xs fs W) (hn : fs.length = n) {S : Nat -> Prop} (hS : ∀ k, S k -> k < w.heap.size) (t : Touch S W W') : FormsAt W' (some ⟨G, 0, none⟩) fs := by
 have hG := j.lt
 have o' := own_off j.o (fun g hg hs => by
  have : some G = some g := hg;simp only [qA] at this;have := hS _ hs
  omega) t
 exact (j.t.off j.l hS t).forms hn o'
theorem lin3_one {xs : List Int} (h : xs.length = 3) : lin [0, 0, 0] xs 1 = xs := by
 match xs, h with
 | [x, y, z], _ => simp [lin]
theorem lin2_one {xs : List Int} (h : xs.length = 2) : lin [0, 0] xs 1 = xs := by
 match xs, h with
 | [x, y], _ => simp [lin]
theorem scopy_any {ad : Option Addr} {N : Nat} (fs : List Frm) {w : World} (hN : fs.length = N) (hF : FormsAt w ad fs) (hfit : ∀ k, k < N -> fitX 10000000 (fs[k]?.getD ([], [], 0))) (hN1 : N <= 1048576) :
  Calls Tryz.prog 104 #[.slice ad N cap] w fun e w' => ∃ G cp xs, e = .returned (.slice (some ⟨G, 0, none⟩) N cp) /\ JF w G cp N xs fs w' := by
 have HN : Hid (fs.length = N) := hN;have HFT : Hid _ := hfit;have HF : Hid (FormsAt w ad fs) := hF;clear hN hfit hF;obtain ⟨i0, hi, hz0, hz1, hz2⟩ := info_parts Tryz.infoForm
 have j0 : JF w w.heap.size 0 0 [] fs (w.alloc (.cells #[] 81)) :=
  ⟨bal, World.ownsRow_lit w #[] 0 (qJ _) (by unfold maxLen; omega) rfl, fun j hj => by omega, Lo.nil _⟩
 go_enter Tryz.func104, Tryz.ntmps104
 go_wp2_with fail
 go_loopw [3, 4] (fun r i wr => ∃ (k G cp : Nat) (xs : List Value), k <= N /\ i = .int .i64 k /\ r = .slice (some ⟨G, 0, none⟩) k cp /\ JF w G cp k xs fs wr) (fun _ i _ => N - (intOf i).toNat)
 case atStart => exact ⟨0, _, _, _, qK _, rfl, rfl, j0⟩
 case round =>
  clear j0;obtain ⟨k, G, cp, xs, hk, rfl, rfl, j⟩ := hrel
  by_cases hlt : k < N
  ·obtain ⟨b, off, rfl, a', c', ca, cc, c0, c1, c2, iC, iD⟩ := HF.out k (by rw [HN.out]; exact hlt);have hfit := HFT.out k hlt;have HK : Hid (fs[k]?.getD ([], [], 0) = fs[k]?.getD ([], [], 0)) := rfl;generalize HG : fs[k]?.getD ([], [], 0) = f at *;have HT : Hid (fs[k]?.getD ([], [], 0) = f) := HG;clear HG HK;obtain ⟨fC, fD, fK⟩ := f;obtain ⟨lC, lD, bC, bD, k1, k2⟩ := hfit;simp only at c2 iC iD lC lD bC bD k1 k2
   have keep : ∀ W : World, Below w.heap.size w W -> (W.cell? ⟨b, off + k * 3, none⟩ = some (.slice a' 3 ca) /\ W.cell? ⟨b, off + k * 3 + 1, none⟩ = some (.slice c' 2 cc) /\ W.cell? ⟨b, off + k * 3 + 2, none⟩ = some (.int .i64 fK)) := fun W hW =>
    ⟨by rw [hW.cell (p := ⟨b, off + k * 3, none⟩) (block_lt c0)]; exact c0, by rw [hW.cell (p := ⟨b, off + k * 3 + 1, none⟩) (block_lt c1)]; exact c1, by rw [hW.cell (p := ⟨b, off + k * 3 + 2, none⟩) (block_lt c2)]; exact c2⟩
   have KP : Hid _ := keep;clear keep;have hSS := And.intro (KP.out _ j.b.drew) (True.intro);clear c0 c1 c2;have hlt' : (k : Int) < N := by omega
   go_upto_region 5 with fail
   refine wp_region_ends (fun w' => w'.cell? ⟨b, off + k * 3, none⟩ = some (.slice a' 3 ca) /\ w'.cell? ⟨b, off + k * 3 + 1, none⟩ = some (.slice c' 2 cc) /\ w'.cell? ⟨b, off + k * 3 + 2, none⟩ = some (.int .i64 fK)) (fun _ => True) 9 (by kernel_rfl) ?_;refine tkl 0 rfl hSS ?_;refine tkl 2 rfl hSS ?_;refine tkl 3 rfl hSS ?_;refine tkl 4 rfl hSS ?_;refine tkl 5 rfl hSS ?_;refine wo1 1 rfl fun K hK => ?_;go_simp;refine (szero_any).mono ?_;rintro ee w3 ⟨Z1, Z2, rfl, b3, y1, y2, y3, z1, z2⟩;have j3 := j.below (below_of_drew b3);dsimp only;refine kk0 hK (KP.out _ j3.b) ?_;clear hK K hSS j;refine wo1 6 rfl fun K hK => ?_;go_simp;refine (l1sum_any [0, 0, 0] [0, 0] fC fD (z1.ints' rfl) (z2.ints' rfl) (iC.below j3.b) (iD.below j3.b) bnd_lit3 bnd_lit2 (by omega) (fun i => by have := bC i; omega) (fun i => by have := bD i; omega) (by omega)).mono ?_;rintro ee w4 ⟨B1, B2, rfl, b4, g1, g2, g3, u1, u2⟩;rw [lin3_one lC] at u1;rw [lin2_one lD] at u2;have e0 : (0 : Int) + 1 * fK = fK := by omega
   rw [e0];have j4 := j3.below b4;have lG := j3.lt;have hs3 := j3.b.size;have l1 := u1.lt;have l2 := u2.lt;dsimp only;refine kk0 hK (KP.out _ j4.b) ?_;clear hK K z1 z2 b3 b4 y1 y2 y3;refine wo1 7 rfl fun K hK => ?_;go_simp;have A5 : Below w4.heap.size w4 (w4.alloc (.cells #[.slice (some ⟨B1, 0, none⟩) 3 3, .slice (some ⟨B2, 0, none⟩) 2 2, .int .i64 fK] 81)) := bal;have j5 := j4.below A5;have hs5 := j5.b.size;have v1 := u1.below A5;have v2 := u2.below A5;have s43 := A5.size;have lG4 := j4.lt;refine kk0 hK (KP.out _ j5.b) ?_;clear hK K A5 j3 j4;refine wo1 8 rfl fun K hK => ?_;rw [if_pos (by rfl)];refine wp_append_lies _ (.tmp 12) (.tmp 19) 66 rfl w.heap.size 81 i0 _ 3 56 Tryz.underlying66 hi hz0 hz1 hz2 rfl (by omega) (.slice (some ⟨G, 0, none⟩) k cp) k xs (by rfl) j5.o ⟨w4.heap.size, 0, none⟩ 1 1 [Value.slice (some ⟨B1, 0, none⟩) 3 3, Value.slice (some ⟨B2, 0, none⟩) 2 2, Value.int .i64 fK] (by rfl) (by rfl) (World.news_of_block (cs := #[Value.slice (some ⟨B1, 0, none⟩) 3 3, Value.slice (some ⟨B2, 0, none⟩) 2 2, Value.int .i64 fK]) (t := 81) (fr := (0, 0)) (heap_alloc_new w4 _)) (by simp [Value.oneCell']) (by omega) (by unfold maxLen; omega) (by omega) hs5 (w4.heap.size + 1) (by rw [qB]) ?_;intro g cp2 w6 hown hgrow hat hlt6
   have j6 : JF w g cp2 (k + 1) (xs ++ [Value.slice (some ⟨B1, 0, none⟩) 3 3, Value.slice (some ⟨B2, 0, none⟩) 2 2, Value.int .i64 fK]) fs w6 := by
    refine ⟨j5.b.grown hgrow hs5 (fun z hz => ?_), hown, j5.t.step j5.o.1 hgrow ?_ (v1.ints' lC) (v2.ints' lD) (by omega) (by omega) HT.out, j5.l.app (by omega) (by omega)⟩
    ·have : some G = some z := hz;simp only [qA] at this
     omega
    rcases hat with h | h
    ·have : some G = some g := h;simp only [qA] at this
     exact Or.inl this.symm
    exact Or.inr (by rw [qB]; omega)
   refine kk0 hK (KP.out _ j6.b) ?_;clear hK K hown hgrow hat j5 v1 v2 u1 u2;refine wo1 9 rfl fun K hK => ?_;go_simp;refine kk0 hK (KP.out _ j6.b) ?_;refine wod ?_ _
   go_wp2
   go_roundw
   case rel => exact ⟨k + 1, g, cp2, _, by omega, by go_num, rfl, j6⟩
   case measure => simp [intOf]; omega
  obtain rfl : k = N := by omega
  go_wp2
  go_ret
  exact ⟨G, cp, xs, rfl, j⟩
theorem sminus_any {a : Option Addr} {c : Option Addr} {cap' : Nat} {K : Int} (C D : List Int) {w : World} (hC : Ints w a 3 C) (hD : Ints w c 2 D) (bC : bnd 10000000 C) (bD : bnd 10000000 D) (bK1 : -10000000 <= K) (bK2 : K <= 10000000) :
  Calls Tryz.prog 106 #[formV a 3 cap c 2 cap' K] w fun e w' => ∃ B1 B2, e = .returned (formV (some ⟨B1, 0, none⟩) 3 3 (some ⟨B2, 0, none⟩) 2 2 (-K - 1)) /\ Below w.heap.size w w' /\ w.heap.size <= B1 /\ B1 ≠ B2 /\ w.heap.size <= B2 /\ Blk w' B1 (mulL (-1) C) /\ Blk w' B2 (mulL (-1) D) := by
 obtain ⟨k, hk⟩ : ∃ k : Int, k = -1 := ⟨_, rfl⟩
 have tC : bndT 1000000000000000000 k C := by rw [hk]; exact fun i => by have := bC i; omega
 have tD : bndT 1000000000000000000 k D := by rw [hk]; exact fun i => by have := bD i; omega
 have tK : -1000000000000000000 <= k * K /\ k * K <= 1000000000000000000 := by rw [hk]; omega
 have Z3 := lin_zero3 (k := k) hC.1;have Z2 := lin_zero2 (k := k) hD.1
 have H1 : TimesH w a cap c cap' K ((w.alloc (Obj.cells #[Value.slice a 3 cap, Value.slice c 2 cap', Value.int IntKind.i64 K] 81)).alloc (Obj.cells #[Value.slice none 0 0, Value.slice none 0 0, Value.int IntKind.i64 0] 81)) :=
  ⟨(Cel.new w _ _).alloc _, by have := Cel.new (w.alloc (Obj.cells #[Value.slice a 3 cap, Value.slice c 2 cap', Value.int IntKind.i64 K] 81)) [.slice none 0 0, .slice none 0 0, .int .i64 0] 81; rw [qB] at this; exact this, (bal).alloc (by simp) _⟩
 have HK : Hid (k = -1) := hk;subst hk
 go_enter Tryz.func106, Tryz.ntmps106
 go_upto_region 1 with fail
 obtain ⟨w2, hw2⟩ : ∃ w2, w2 = (w.alloc (Obj.cells #[Value.slice a 3 cap, Value.slice c 2 cap', Value.int IntKind.i64 K] 81)).alloc (Obj.cells #[Value.slice none 0 0, Value.slice none 0 0, Value.int IntKind.i64 0] 81) := ⟨_, rfl⟩
 rw [<- hw2] at H1 ⊢;clear hw2
 go_cut [3] (fun s wx => ∃ X B1 B2, s = .pointer (some ⟨X, 0, none⟩) /\ TimesH w a cap c cap' K wx /\ Cel wx X [.slice (some ⟨B1, 0, none⟩) 3 3, .slice (some ⟨B2, 0, none⟩) 2 2, .int .i64 (-K)] 81 /\ Blk wx B1 (mulL (-1) C) /\ Blk wx B2 (mulL (-1) D) /\ w.heap.size + 1 < X /\ w.heap.size + 1 < B1 /\ w.heap.size + 1 < B2 /\ B1 ≠ B2 /\ B1 ≠ X /\ B2 ≠ X)
 case first =>
  have l1 := H1.r.lt;have G1 := H1.cells;have N0 := World.new_ne w2 ⟨w.heap.size, 0, none⟩ G1.1;have N1 := World.new_ne w2 ⟨w.heap.size, 1, none⟩ G1.2.1;have N2 := World.new_ne w2 ⟨w.heap.size, 2, none⟩ G1.2.2;have A1 := H1.b.size
  go_region_held3 (fun w' => w'.cell? ⟨w.heap.size, 0, none⟩ = some (.slice a 3 cap) /\ w'.cell? ⟨w.heap.size, 1, none⟩ = some (.slice c 2 cap') /\ w'.cell? ⟨w.heap.size, 2, none⟩ = some (.int .i64 K)) (first | assumption | go_keep)
   (first
    | (go_at_call 53; refine (szero_any).mono ?_; rintro e w3 ⟨Z1, Z2', rfl, b3, y1, y2, y3, k1, k2⟩; have H3 := TimesH.below (w := w) (a := a) (c := c) (cap := cap) (cap' := cap') (K := K) (by first | exact H1.drew | exact (H1.alloc _).drew) b3; have G3 := H3.cells; have l3 := H3.r.lt; have A3 : w2.heap.size <= w3.heap.size := Nat.le_trans (by simp) b3.size; have N3 := World.new_ne w3 ⟨w.heap.size, 0, none⟩ G3.1; have N4 := World.new_ne w3 ⟨w.heap.size, 1, none⟩ G3.2.1; have N5 := World.new_ne w3 ⟨w.heap.size, 2, none⟩ G3.2.2; first | (have X3 := Cel.below (w := (w2.alloc (Obj.cells #[Value.slice none 0 0, Value.slice none 0 0, Value.int IntKind.i64 0] 81)).drew) (Cel.new w2 [Value.slice none 0 0, Value.slice none 0 0, Value.int IntKind.i64 0] 81) b3) | skip)
    | (go_at_call 107; refine (l1sum_any [0, 0, 0] [0, 0] C D (by first | exact k1.ints' rfl | exact (k1.alloc _).ints' rfl) (by first | exact k2.ints' rfl | exact (k2.alloc _).ints' rfl) (hC.below (TimesH.b (a := a) (c := c) (cap := cap) (cap' := cap') (K := K) (by first | exact H3 | exact H3.alloc _))) (hD.below (TimesH.b (a := a) (c := c) (cap := cap) (cap' := cap') (K := K) (by first | exact H3 | exact H3.alloc _))) bnd_lit3 bnd_lit2 (by omega) tC tD tK).mono ?_; rintro e w4 ⟨B1, B2, rfl, b4, g1, g2, g3, k3, k4⟩; have H4 := TimesH.below (w := w) (a := a) (c := c) (cap := cap) (cap' := cap') (K := K) (by first | exact H3 | exact H3.alloc _) b4; have G4 := H4.cells; have l4 := H4.r.lt; first | (have X4 := Cel.below (Cel.new w3 [Value.slice none 0 0, Value.slice none 0 0, Value.int IntKind.i64 0] 81) b4; have X5 := X4.trio; obtain ⟨u0, u1, u2, u3, u4, u5⟩ := X5) | (have X4 := X3.below b4; have X5 := X4.trio; obtain ⟨u0, u1, u2, u3, u4, u5⟩ := X5) | skip))
  all_goals
   rw [Z3] at k3;rw [Z2] at k4
   try rw [qB] at g1 g3
   have l13 := k3.lt;have l14 := k4.lt
  ·go_wp2_with fail
   go_meet
   case rel => exact ⟨_, B1, B2, rfl, H4.alloc _, Cel.new w4 _ _, k3.alloc _, k4.alloc _, by omega, by omega, by omega, g2, by omega, by omega⟩
  ·go_wp2_with fail
   go_meet
   case rel => exact ⟨_, B1, B2, rfl, ((H4.set (by omega) _ _).set (by omega) _ _).set (by omega) _ _, ((X4.set 0 _).set 1 _).set 2 _, ((k3.so).so).so, ((k4.so).so).so, by omega, by omega, by omega, g2, by omega, by omega⟩
  have x3 := X3.lt
  go_wp2_with fail
  go_meet
  case rel => exact ⟨_, B1, B2, rfl, ((H4.set (by omega) _ _).set (by omega) _ _).set (by omega) _ _, ((X4.set 0 _).set 1 _).set 2 _, ((k3.so).so).so, ((k4.so).so).so, by omega, by omega, by omega, g2, by omega, by omega⟩
 case rest =>
  obtain ⟨X, B1, B2, rfl, HX, hX, k1, k2, lX, lB1, lB2, hne, x1, x2⟩ := hcut;clear H1 Z3 Z2 tC tD tK bC bD;obtain ⟨c0, c1, c2, c3, c4, c5⟩ := hX.trio;have hw : IntKind.i64.wrap (-K - 1) = -K - 1 := wrap_id (by omega) (by omega);have HY := HX.set (X := X) (by omega) 2 (.int .i64 (-K - 1));have hY := hX.set 2 (.int .i64 (-K - 1));obtain ⟨d0, d1, d2, d3, d4, d5⟩ := hY.trio;obtain ⟨r0, r1, r2, r3, r4, r5⟩ := HY.room;have k1' := k1.setOther x1 2 (.int .i64 (-K - 1));have k2' := k2.setOther x2 2 (.int .i64 (-K - 1));clear HX hX hY k1 k2
  go_wp2
  refine bodyPost_ret (v := formV (some ⟨B1, 0, none⟩) 3 3 (some ⟨B2, 0, none⟩) 2 2 (-K - 1)) (by simp [results, Tryz.results106, go_sem, r0, r1, r2]) rfl ?_;refine ⟨B1, B2, rfl, ?_, by omega, hne, by omega, ?_, ?_⟩
  ·exact ((HY.b.setCell (by simp only []; omega) _).setCell (by simp only []; omega) _).setCell (by simp only []; omega) _
  ·exact ((k1'.so).so).so
  exact ((k2'.so).so).so
theorem izero_any :
  Calls Tryz.prog 113 #[] w fun e w' => ∃ B1 B2, e = .returned (formV (some ⟨B1, 0, none⟩) 3 3 (some ⟨B2, 0, none⟩) 2 2 0) /\ Below w.heap.size w w' /\ w.heap.size <= B1 /\ B1 ≠ B2 /\ w.heap.size <= B2 /\ Blk w' B1 [0, 0, 0] /\ Blk w' B2 [0, 0] := by
 go_enter Tryz.func113, Tryz.ntmps113
 go_wp2_with fail
 refine (sum_any none 0 0 [] 0 rfl (fun i hi => by simp at hi) (fun i hi => by simp at hi)).mono ?_;rintro e w1 ⟨B1, B2, rfl, b1, h1, h2, h3, k1, k2⟩;have r := (Cel.new w _ _).below b1;have r0 := r.cell 0;have r1 := r.cell 1;have r2 := r.cell 2;have r3 := r.free 0;have r4 := r.free 1;have r5 := r.free 2;simp only [qD, qE] at r0 r1 r2;rw [qB] at h1 h3;have hb : Below w.heap.size w w1 := (bal).trans (b1.mono (by simp))
 go_wp2
 refine bodyPost_ret (v := formV (some ⟨B1, 0, none⟩) 3 3 (some ⟨B2, 0, none⟩) 2 2 0) (by simp [results, Tryz.results113, go_sem, r0, r1, r2, sumK]) rfl ⟨B1, B2, rfl, ?_, by omega, h2, by omega, ?_, ?_⟩
 ·exact ((hb.setCell (qJ _) _).setCell (qJ _) _).setCell (qJ _) _
 ·exact ((k1.so).so).so
 exact ((k2.so).so).so
def potC (v : Int) : List Int := if 0 <= v /\ v <= 2 then [0, 0, 0].set v.toNat 1 else []
def potD (v : Int) : List Int := if 0 <= v /\ v <= 2 then [0, 0] else []
theorem potC_in (v : Int) (k : Nat) (hv : v = k) (hk : k <= 2 := by omega) : potC v = [0, 0, 0].set k 1 := by subst hv; unfold potC; rw [if_pos (by omega)]; rfl
theorem potD_in (v : Int) (h0 : 0 <= v := by omega) (h2 : v <= 2 := by omega) : potD v = [0, 0] := by unfold potD; rw [if_pos ⟨h0, h2⟩]
theorem potC_out (v : Int) (h : ¬ (0 <= v /\ v <= 2)) : potC v = [] := by unfold potC; rw [if_neg h]
theorem potD_out (v : Int) (h : ¬ (0 <= v /\ v <= 2)) : potD v = [] := by unfold potD; rw [if_neg h]
theorem spot_any (v : Int) (w : World) :
  Calls Tryz.prog 47 #[.int .i64 v] w fun e w' => Res w w' e (potC v) (potD v) 0 := by
 by_cases h : 0 <= v /\ v <= 2
 ·obtain ⟨h0, h2⟩ := h;have hi : inB v 0 2 = true := inB_iff.2 ⟨h0, h2⟩;obtain ⟨k, rfl⟩ := Int.eq_ofNat_of_zero_le h0;have hk : k < 3 := by omega
  have hk' : (k : Int) < 3 := by omega
  rw [potC_in (k : Int) k rfl, potD_in (k : Int)]
  go_enter Tryz.func47, Tryz.ntmps47
  go_wp2_with fail
  refine (in_any).mono ?_;rintro e w0 ⟨rfl, rfl⟩
  go_wp2_with fail
  refine (szero_any).mono ?_;rintro e w1 ⟨B1, B2, rfl, b1, g1, g2, g3, k1, k2⟩;rw [qB] at g1 g3;have r := (Cel.new w _ _).below b1;have hb : Below w.heap.size w w1 := (bal).trans (b1.mono (by simp));have hrl := r.lt
  have c0 : w1.cell? ⟨B1, k, none⟩ = some (.int .i64 0) := by
   have := k1.cell k (by simpa using hk);rw [this]
   match k, hk with
   | 0, _ => rfl
   | 1, _ => rfl
   | 2, _ => rfl
  have c1 := k1.free k;have hB1 := k1.lt;have hB2 := k2.lt;have k3 := k1.set k 1;have k4 := k2.setOther (B' := B1) (by omega) k (.int .i64 1);have r' := r.setOther (B' := B1) (by omega) k (.int .i64 1);have hb' := hb.setCell (p := ⟨B1, k, none⟩) (by show w.heap.size <= B1; omega) (.int .i64 1);have r0 := r'.cell 0;have r1 := r'.cell 1;have r2 := r'.cell 2;have r3 := r'.free 0;have r4 := r'.free 1;have r5 := r'.free 2;simp only [qD, qE] at r0 r1 r2;clear hi
  go_wp2
  refine bodyPost_ret (v := formV (some ⟨B1, 0, none⟩) 3 3 (some ⟨B2, 0, none⟩) 2 2 0) (by simp [results, Tryz.results47, go_sem, r0, r1, r2, hrl]) rfl (Res.of (B1 := B1) (B2 := B2) rfl (by simp) rfl ?_ (by omega) g2 (by omega) ?_ ?_)
  ·exact (((hb'.setCell (qJ _) _).setCell (qJ _) _).setCell (qJ _) _).alloc (by rw [size_setCell, size_setCell, size_setCell, size_setCell]; omega) _
  ·exact (((k3.so).so).so).alloc _
  exact (((k4.so).so).so).alloc _
 have hi : inB v 0 2 = false := inB_not.2 h;rw [potC_out v h, potD_out v h]
 go_enter Tryz.func47, Tryz.ntmps47
 go_wp2_with fail
 refine (in_any).mono ?_;rintro e w0 ⟨rfl, rfl⟩
 go_wp2
 exact bodyPost_ret (v := formV none 0 0 none 0 0 0) (by simp [results, Tryz.results47, go_sem]) rfl (Res.none rfl (bal))
theorem ipot_any {v : Int} :
  Calls Tryz.prog 93 #[.int .i64 v] w fun e w' => Res w w' e (potC v) (potD v) 0 := by
 by_cases h : 0 <= v /\ v <= 2
 ·obtain ⟨h0, h2⟩ := h;have hi : inB v 0 2 = true := inB_iff.2 ⟨h0, h2⟩;obtain ⟨k, rfl⟩ := Int.eq_ofNat_of_zero_le h0;have hk : k < 3 := by omega
  have hk' : (k : Int) < 3 := by omega
  rw [potC_in (k : Int) k rfl, potD_in (k : Int)]
  go_enter Tryz.func93, Tryz.ntmps93
  go_wp2_with fail
  refine (place_any).mono ?_;rintro e w0 ⟨rfl, rfl⟩;rw [decide_eq_true (show 0 <= (k : Int) /\ (k : Int) < 3 from ⟨h0, hk'⟩)]
  go_wp2_with fail
  refine (izero_any).mono ?_;rintro e w1 ⟨B1, B2, rfl, b1, g1, g2, g3, k1, k2⟩;rw [qB] at g1 g3;have r := (Cel.new w _ _).below b1;have hb : Below w.heap.size w w1 := (bal).trans (b1.mono (by simp));have hrl := r.lt
  have c0 : w1.cell? ⟨B1, k, none⟩ = some (.int .i64 0) := by
   have := k1.cell k (by simpa using hk);rw [this]
   match k, hk with
   | 0, _ => rfl
   | 1, _ => rfl
   | 2, _ => rfl
  have c1 := k1.free k;have hB1 := k1.lt;have hB2 := k2.lt;have k3 := k1.set k 1;have k4 := k2.setOther (B' := B1) (by omega) k (.int .i64 1);have r' := r.setOther (B' := B1) (by omega) k (.int .i64 1);have hb' := hb.setCell (p := ⟨B1, k, none⟩) (by show w.heap.size <= B1; omega) (.int .i64 1);have r0 := r'.cell 0;have r1 := r'.cell 1;have r2 := r'.cell 2;have r3 := r'.free 0;have r4 := r'.free 1;have r5 := r'.free 2;simp only [qD, qE] at r0 r1 r2;clear hi
  go_wp2
  refine bodyPost_ret (v := formV (some ⟨B1, 0, none⟩) 3 3 (some ⟨B2, 0, none⟩) 2 2 0) (by simp [results, Tryz.results93, go_sem, r0, r1, r2, hrl]) rfl (Res.of (B1 := B1) (B2 := B2) rfl (by simp) rfl ?_ (by omega) g2 (by omega) ?_ ?_)
  ·exact (((hb'.setCell (qJ _) _).setCell (qJ _) _).setCell (qJ _) _).alloc (by rw [size_setCell, size_setCell, size_setCell, size_setCell]; omega) _
  ·exact (((k3.so).so).so).alloc _
  exact (((k4.so).so).so).alloc _
 rw [potC_out v h, potD_out v h]
 go_enter Tryz.func93, Tryz.ntmps93
 go_wp2_with fail
 refine (place_any).mono ?_;rintro e w0 ⟨rfl, rfl⟩;rw [decide_eq_false (show ¬ (0 <= v /\ v < 3) by omega)]
 go_wp2
 exact bodyPost_ret (v := formV none 0 0 none 0 0 0) (by simp [results, Tryz.results93, go_sem]) rfl (Res.none rfl (bal))
end Go.Proofs.YtdaiaohlkdolmaaGreat
