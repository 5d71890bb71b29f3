/-
  Lemmas that the claim's last text rests on.
-/
import Derived.Deep.RegionLawGrows
import Derived.Laws.Pointers
import Derived.Test.YtpmihhbgjimpmaaGreatDoorSxL
namespace Go.Proofs.YtpmihhbgjimpmaaGreatDoor
open Go.RowKit Go.ChangeShapes Go.WideShapes Go.ChangeAt Go.Joins Go.Deep
open Option.some renaming injEq → qA
open Addr.mk renaming injEq → qB
open World renaming size_alloc → qC
open List renaming length_append → qD, length_map → qF
open Nat renaming le_refl → qE
set_option linter.unusedVariables false
set_option maxRecDepth 100000
set_option maxHeartbeats 25600000
variable {B N k m n p q : Nat} {C D U V tl x : List Int} {K pot skip : Int} {W W' w w1 : World} {bs : Nat -> Nat} {ls : List LV} {v : Value}
def runB (N : Nat) (ls : List LV) (p : Nat) (V : List Int) (q : Nat) (U : List Int) : Bool := actB N ls && okN 3 10000 p V && okN 2 9 q U
def runCode (N : Nat) (ls : List LV) (p : Nat) (V : List Int) (q : Nat) (U : List Int) : Int := if runB N ls p V q U then (if (runL U ls V).1 then 2 else endCode (runL U ls V).2.1) else 0
def runTells (N : Nat) (ls : List LV) (p : Nat) (V : List Int) (q : Nat) (U : List Int) : List Int := if runB N ls p V q U then (if (runL U ls V).1 then [] else endTells (runL U ls V).2.1 (runL U ls V).2.2) else []
def runPots (N : Nat) (ls : List LV) (p : Nat) (V : List Int) (q : Nat) (U : List Int) : List Int := if runB N ls p V q U then (if (runL U ls V).1 then V else endPots V (runL U ls V).2.1) else []
theorem run_no (h : runB N ls p V q U = false) : runCode N ls p V q U = 0 /\ runTells N ls p V q U = [] /\ runPots N ls p V q U = [] := by
 simp [runCode, runTells, runPots, h]
theorem run_stop (h : runB N ls p V q U = true) (hs : (runL U ls V).1 = true) : runCode N ls p V q U = 2 /\ runTells N ls p V q U = [] /\ runPots N ls p V q U = V := by
 simp [runCode, runTells, runPots, h, hs]
theorem run_go (h : runB N ls p V q U = true) (hs : runL U ls V = (false, x, tl)) : runCode N ls p V q U = endCode x /\ runTells N ls p V q U = endTells x tl /\ runPots N ls p V q U = endPots V x := by
 simp [runCode, runTells, runPots, h, hs]
theorem actB_six (h : actB N ls = true) : N <= 6 /\ ls.all LV.ok = true := by
 simp only [actB, Bool.and_eq_true, decide_eq_true_eq] at h
 exact ⟨by omega, h.1.2⟩
theorem allL_at (h : ls.all LV.ok = true) (hk : k < ls.length) : (ls[k]?.getD noLV).ok = true := by
 rw [List.getElem?_eq_getElem hk]
 exact List.all_eq_true.1 h _ (List.getElem_mem hk)
theorem line_one (h : lineB 1 pot skip n m C D K = true) : 1 <= skip /\ skip <= 6 /\ smallB n m C D K = true := by
 simp [lineB] at h;have := inB_iff.1 h.1.2
 exact ⟨this.1, this.2, h.2⟩
theorem line_two (h : lineB 2 pot skip n m C D K = true) : 0 <= pot /\ pot < 3 /\ smallB n m C D K = true := by
 simp [lineB] at h;have := inB_iff.1 h.1.1
 exact ⟨this.1, by omega, h.2⟩
theorem line_three (h : lineB 3 pot skip n m C D K = true) : smallB n m C D K = true := by
 simp [lineB] at h
 exact h.2
theorem JA.rebase {xs : List Int} (j : JA w1 v xs W) (b : Below w.heap.size w w1) : JA w v xs W := by
 refine ⟨btr b j.b, j.o.1, ?_⟩;have := b.size
 rcases j.o.2 with h2 | ⟨g, cap, cur, hv, hg, r⟩
 ·exact Or.inl h2
 exact Or.inr ⟨g, cap, cur, hv, by omega, r⟩
theorem JA.set {xs : List Int} (j : JA w v xs W) {B : Nat} (hB : w.heap.size <= B) (ne : v.ownBlock ≠ some B) (i : Nat) (y : Value) : JA w v xs (W.setCell ⟨B, i, none⟩ y) := by
 refine ⟨j.b.setCell hB _, j.o.1, ?_⟩
 rcases j.o.2 with h2 | ⟨g, cap, cur, hv, hg, hh, r⟩
 ·exact Or.inl h2
 refine Or.inr ⟨g, cap, cur, hv, hg, ?_, r⟩;have hne : g ≠ B := fun e => ne (by rw [hv, e]; rfl);rw [Below.heap_setCell _ _ _ _ hne]; exact hh
theorem OwnX.grown {a : Option Addr} {zs : List Int} {row : Option Nat} {o : Obj} (h : OwnX W a B n zs) (hg : (W.alloc o).grownBy W' row) (hne : row ≠ some B) : OwnX W' a B n zs := by
 refine ⟨h.1, ?_⟩
 rcases h.2 with h0 | ⟨e, cur, hc, hv⟩
 ·exact .inl h0
 refine .inr ⟨e, cur, ?_, hv⟩;have hl := hc.lt;have h1 : Cel (W.alloc o) B cur 3 := hc.alloc o;unfold Cel at *;rw [hg.block B (by rw [qC]; omega) (fun e => hne e.symm)]; exact h1
theorem Cel.grown {vs : List Value} {t : TypeId} {row : Option Nat} {o : Obj} (h : Cel W B vs t) (hg : (W.alloc o).grownBy W' row) (hne : row ≠ some B) : Cel W' B vs t := by
 have hl := h.lt;have h1 : Cel (W.alloc o) B vs t := h.alloc o;unfold Cel at *;rw [hg.block B (by rw [qC]; omega) (fun e => hne e.symm)]; exact h1
structure SR (w w1 : World) (B : Nat) (v : Value) (x tl : List Int) (W : World) : Prop where
 rc : Cel W w.heap.size [.int .i64 0, .slice none 0 0] 54
 b : Below w.heap.size w W
 ox : OwnX W (some ⟨B, 0, none⟩) B 3 x
 j : JA w1 v tl W
 ne : v.ownBlock ≠ some B
theorem SR.below (s : SR w w1 B v x tl W) (h : Below W.heap.size W W') : SR w w1 B v x tl W' := ⟨s.rc.below h, s.b.trans (h.mono s.b.size), s.ox.below h, s.j.below h, s.ne⟩
theorem SR.alloc (s : SR w w1 B v x tl W) (o : Obj) : SR w w1 B v x tl (W.alloc o) := s.below (bal)
theorem SR.set (s : SR w w1 B v x tl W) (hw : w.heap.size < w1.heap.size) (hB : w1.heap.size <= B) {i : Nat} (hi : i < 3) (y : Int) : SR w w1 B v (x.set i y) tl (W.setCell ⟨B, i, none⟩ (.int .i64 y)) :=
 ⟨s.rc.so, s.b.setCell (by show w.heap.size <= B; omega) _, s.ox.set hi y, s.j.set hB s.ne _ _, s.ne⟩
theorem SR.app {y : Int} {g cap H : Nat} {o : Obj} (s : SR w w1 B v x tl W) (hw : w.heap.size < w1.heap.size) (hk : tl.length = k) (hown : W'.ownsRow w1.heap.size 3 1 (.slice (some ⟨g, 0, none⟩) (k + 1) cap) (k + 1) (tl.map (Value.int .i64) ++ [.int .i64 y])) (hg : (W.alloc o).grownBy W' v.ownBlock) (hat : v.ownBlock = some g \/ g = H) (hH : B < H) :
  SR w w1 B (.slice (some ⟨g, 0, none⟩) (k + 1) cap) x (tl ++ [y]) W' := by
 have hv : ∀ z, v.ownBlock = some z -> w1.heap.size <= z := fun z hz => (s.j.o.lt z hz).1;refine ⟨s.rc.grown hg (fun e => by have := hv _ e; omega), (s.b.alloc s.b.size _).grown hg (by rw [qC]; have := s.b.size; omega) (fun z hz => by have := hv z hz; omega), s.ox.grown hg s.ne, s.j.app hk hown hg, ?_⟩
 show some g ≠ some B
 intro e;simp only [qA] at e
 rcases hat with h | h
 ·exact s.ne (by rw [h, e])
 omega
theorem srun_any {ad : Option Addr} (N : Nat) {cap : Nat} (ls : List LV) {v : Option Addr} (p : Nat) {cv : Nat} (V : List Int) {u : Option Addr} (q : Nat) {cu : Nat} (U : List Int) {w : World} (hN : ls.length = N) (hF : LinesG w ad ls) (hN1 : N <= 1048576) (hV : Ints w v p V) (hU : Ints w u q U) (hp : p <= 1048576) (hq : q <= 1048576) :
  Calls Tryz.prog 67 #[.slice ad N cap, .slice v p cv, .slice u q cu] w fun e w' => ResD w w' e (runCode N ls p V q U) (runTells N ls p V q U) (runPots N ls p V q U) := by
 have rc0 := Cel.new w [.int .i64 0, .slice none 0 0] 54;have B0 : Below w.heap.size w (w.alloc (.cells #[.int .i64 0, .slice none 0 0] 54)) := bal;have HN : Hid (ls.length = N) := hN;clear hN;obtain ⟨i0, hi, hz0, hz1, hz2⟩ := info_parts Tryz.infoInt;obtain ⟨rb, hrb⟩ : ∃ rb, rb = actB N ls := ⟨_, rfl⟩
 obtain ⟨vb, hvb⟩ : ∃ vb, vb = okN 3 10000 p V := ⟨_, rfl⟩
 obtain ⟨ub, hub⟩ : ∃ ub, ub = okN 2 9 q U := ⟨_, rfl⟩
 have HR : Hid (rb = actB N ls) := hrb;have HV : Hid (vb = okN 3 10000 p V) := hvb;have HU : Hid (ub = okN 2 9 q U) := hub;clear hrb hvb hub
 go_enter Tryz.func67, Tryz.ntmps67
 go_wp2_with fail
 refine (sact_any _ _ ls HN.out (hF.below B0) hN1).mono ?_;rintro e w1 ⟨rfl, b1⟩;have rc1 := rc0.below b1;have B1 := btr B0 b1;have hlt1 := rc1.lt;rw [<- HR.out];clear b1 rc0 B0;obtain ⟨d0, d1, f0, f1⟩ := rc1.pair
 cases rb
 ·have E : Hid _ := run_no (p := p) (q := q) (V := V) (U := U) (show runB N ls p V q U = false by rw [runB, <- HR.out]; rfl)
  go_wp2
  refine bodyPost_ret (v := .tuple #[resV 0 none 0 0, .slice (some ⟨w1.heap.size, 0, none⟩) 0 0]) (by simp [results, Tryz.results67, go_sem, d0, d1, hlt1]) rfl ?_;obtain ⟨e1, e2, e3⟩ := E.out;rw [e1, e2, e3]
  exact ⟨none, 0, 0, 0, _, 0, 0, 0, rfl, rfl, rfl, (((B1.setCell (by simp only []; omega) _).setCell (by simp only []; omega) _).alloc (by rw [size_setCell, size_setCell]; exact B1.size) _), OwnX.nil _ _ _, OwnX.nil _ _ _, fun h => by omega, fun h => by omega, fun h => by omega⟩
 go_wp2_with fail
 refine (sval_any V (hV.below B1) hp).mono ?_;rintro e w2 ⟨rfl, hw2⟩;rw [<- HV.out, hw2];clear hw2
 cases vb
 ·have E : Hid _ := run_no (p := p) (q := q) (V := V) (U := U) (show runB N ls p V q U = false by rw [runB, <- HR.out, <- HV.out]; rfl)
  go_wp2
  refine bodyPost_ret (v := .tuple #[resV 0 none 0 0, .slice (some ⟨w1.heap.size, 0, none⟩) 0 0]) (by simp [results, Tryz.results67, go_sem, d0, d1, hlt1]) rfl ?_;obtain ⟨e1, e2, e3⟩ := E.out;rw [e1, e2, e3]
  exact ⟨none, 0, 0, 0, _, 0, 0, 0, rfl, rfl, rfl, (((B1.setCell (by simp only []; omega) _).setCell (by simp only []; omega) _).alloc (by rw [size_setCell, size_setCell]; exact B1.size) _), OwnX.nil _ _ _, OwnX.nil _ _ _, fun h => by omega, fun h => by omega, fun h => by omega⟩
 go_wp2_with fail
 refine (sarg_any U (hU.below B1) hq).mono ?_;rintro e w2 ⟨rfl, hw2⟩;rw [<- HU.out, hw2];clear hw2
 cases ub
 ·have E : Hid _ := run_no (p := p) (q := q) (V := V) (U := U) (show runB N ls p V q U = false by rw [runB, <- HR.out, <- HV.out, <- HU.out]; rfl)
  go_wp2
  refine bodyPost_ret (v := .tuple #[resV 0 none 0 0, .slice (some ⟨w1.heap.size, 0, none⟩) 0 0]) (by simp [results, Tryz.results67, go_sem, d0, d1, hlt1]) rfl ?_;obtain ⟨e1, e2, e3⟩ := E.out;rw [e1, e2, e3]
  exact ⟨none, 0, 0, 0, _, 0, 0, 0, rfl, rfl, rfl, (((B1.setCell (by simp only []; omega) _).setCell (by simp only []; omega) _).alloc (by rw [size_setCell, size_setCell]; exact B1.size) _), OwnX.nil _ _ _, OwnX.nil _ _ _, fun h => by omega, fun h => by omega, fun h => by omega⟩
 have HB : Hid (runB N ls p V q U = true) := by show _ = _; rw [runB, <- HR.out, <- HV.out, <- HU.out]; rfl
 obtain ⟨h6, hall⟩ := actB_six HR.out.symm;have HO : Hid (ls.all LV.ok = true) := hall;obtain ⟨rfl, bV⟩ := okN_nat (c := 3) (by omega) HV.out.symm;obtain ⟨rfl, bU⟩ := okN_nat (c := 2) (by omega) HU.out.symm;have HVL : Hid (V.length = 3) := hV.1;have hV1 := hV.below B1;obtain ⟨vb, vo, rfl, hcell⟩ := hV1.pos (by omega);have HL : Hid ((V.map (Value.int .i64)).length = 3 * 1) := by show _ = _; rw [qF, hV.1]
 have news : ∀ W : World, Below w.heap.size w W -> ∀ j u, (V.map (Value.int .i64))[j]? = some u -> (W.alloc (.cells #[] 3)).cell? ((⟨vb, vo, none⟩ : Addr).add j) = some u := fun W hW => by
  obtain ⟨b', o', e', hc'⟩ := (hV.below (hW.alloc hW.size (.cells #[] 3))).pos (by omega);simp only [qA, qB, and_true] at e';obtain ⟨rfl, rfl⟩ := e'
  exact newsI hc' hV.1
 have HNW : Hid _ := news;have HC : Hid _ := news w1 B1;have HJ : Hid _ := (JA.lit w1).o;have hAt0 : At U ls V 0 V [] := At.start bV HVL.out;have HAT : Hid (At U ls V 0 V []) := hAt0;clear hcell hall news hV1 hAt0
 go_wp2_with (at_builtin; go_must (refine wpList_append_lies _ rfl (.tmp 27) (.tmp 28) 24 rfl w1.heap.size 3 i0 (.int .i64 0) 1 8 Tryz.underlying24 hi hz0 hz1 hz2 rfl (by decide) _ 0 [] rfl HJ.out ⟨vb, vo, none⟩ 3 cv (V.map (Value.int .i64)) rfl HL.out HC.out (oneI) (by omega) (by unfold maxLen; omega) (by omega) (by rw [qC]; omega) _ rfl ?_); intro g2 cp2 w2 hown hgrow hat hlt2)
 have j := JA.copied HVL.out hown hgrow;obtain ⟨x0, cx, B, hv2, hX, hB⟩ := j.ownx HVL.out;simp only [Value.slice.injEq, true_and] at hv2;obtain ⟨rfl, rfl⟩ := hv2;obtain ⟨eB, _, _⟩ := hX.pos (by omega);simp only [qA, qB, and_true] at eB;subst eB;have hB' := hB (by omega)
 have s2 : SR w w1 g2 (.slice (some ⟨w2.heap.size, 0, none⟩) 0 0) V [] (w2.alloc (.cells #[] 3)) := by
  refine ⟨(rc1.below j.b).alloc _, (btr B1 j.b).alloc (by have := B1.size; have := j.b.size; omega) _, hX.alloc _, (JA.lit w2).rebase j.b, ?_⟩
  show some w2.heap.size ≠ some g2
  intro e;simp only [qA] at e;have := hX.lt (by omega)
  omega
 clear j hX hB hown hgrow hat HC HL HJ d0 d1 f0 f1 rc1
 go_wp2_with fail
 go_loopw [9, 10, 11] (fun r i _ wr => ∃ (k : Nat) (x tl : List Int), k <= 12 /\ i = .int .i64 k /\ At U ls V k x tl /\ SR w w1 g2 r x tl wr) (fun _ i _ _ => N - (intOf i).toNat)
 case atStart => exact ⟨0, V, [], by omega, rfl, HAT.out, s2⟩
 case round =>
  clear s2 HAT;obtain ⟨k, x, tl, hk12, rfl, hAt, s⟩ := hrel;have HAT : Hid (At U ls V k x tl) := hAt;clear hAt;have hVr := hV.below s.b;have hUr := hU.below s.b;have lB := s.ox.lt (by omega)
  by_cases hlt : k < N
  ·obtain ⟨b, off, rfl, hc, hAtL⟩ := (hF.below s.b) k (by rw [HN.out]; exact hlt);have hok := allL_at (k := k) HO.out (by rw [HN.out]; exact hlt);have hkl : Hid (k < ls.length) := by show k < ls.length; rw [HN.out]; exact hlt
   have h6l : Hid (ls.length <= 6) := by show ls.length <= 6; rw [HN.out]; exact h6
   have bX := HAT.out.b (by omega);have bd6 := bd_six (n := k) (by omega);have bdp := bd_pos k;generalize HG : ls[k]?.getD noLV = g at *;have HG' : Hid (ls[k]?.getD noLV = g) := HG;clear HG;obtain ⟨e0, e1, e2, e3, e4, e5⟩ := six_of hc;clear hc;obtain ⟨gk, gp, gz, ⟨ga, gn, gcap, gc, gm, gcap', gK, gC, gD⟩⟩ := g;obtain ⟨iC, iD, hn, hm⟩ := hAtL;simp only at e0 e1 e2 e3 e4 e5 iC iD hn hm;have hok' : lineB gk gp gz gn gm gC gD gK = true := hok;clear hok
   by_cases hk1 : gk = 1
   ·subst hk1;obtain ⟨z1, z2, hsm⟩ := line_one hok';obtain ⟨rfl, rfl, bC, bD, bK1, bK2⟩ := small_elim hsm;obtain ⟨q1, q2, q3, q4⟩ := small_at bC bD bK1 bK2 bX bU (by omega);obtain ⟨y, hy⟩ : ∃ y, atV gC gD gK x U = y := ⟨_, rfl⟩
    have HY : Hid (atV gC gD gK x U = y) := hy;have HS : Hid (∀ j, (j = if y < 0 then k + 1 + gz.toNat else k + 1) -> At U ls V j x tl) := fun j hj => HAT.out.skip hkl.out h6l.out HG'.out rfl (by rw [hj, <- hy]; rfl);clear hy hok' hsm bX q3 q4
    by_cases hneg : y < 0
    ·go_wp2_with fail
     refine (satG_any gC gD x U (iC.alloc _) (iD.alloc _) (s.ox.alloc _).ints (hUr.alloc _) q1 q2 (by omega) (by omega) (by omega) (by omega) ⟨by omega, by omega⟩).mono ?_;rintro e w3 ⟨rfl, b3⟩;rw [HY.out];obtain ⟨m0, m1, m2, m3, m4, m5⟩ := ((Cel.new wr _ _).below b3).six;have s3 := (s.alloc _).below b3;clear b3 s iC iD e0 e1 e2 e3 e4 e5 q1 q2 hVr hUr
     go_wp2
     go_roundw
     case rel => exact ⟨k + 1 + gz.toNat, x, tl, by omega, by go_num, HS.out _ (by rw [if_pos hneg]), s3⟩
     case measure => simp [intOf]; omega
    go_wp2_with fail
    refine (satG_any gC gD x U (iC.alloc _) (iD.alloc _) (s.ox.alloc _).ints (hUr.alloc _) q1 q2 (by omega) (by omega) (by omega) (by omega) ⟨by omega, by omega⟩).mono ?_;rintro e w3 ⟨rfl, b3⟩;rw [HY.out];have s3 := (s.alloc _).below b3;clear b3 s iC iD e0 e1 e2 e3 e4 e5 q1 q2 hVr hUr
    go_wp2
    go_roundw
    case rel => exact ⟨k + 1, x, tl, by omega, by go_num, HS.out _ (by rw [if_neg (by omega)]), s3⟩
    case measure => simp [intOf]; omega
   have hk1' : (gk == 1) = false := by simp [hk1]
   by_cases hk2 : gk = 2
   ·subst hk2;obtain ⟨z1, z2, hsm⟩ := line_two hok';obtain ⟨rfl, rfl, bC, bD, bK1, bK2⟩ := small_elim hsm;obtain ⟨q1, q2, q3, q4⟩ := small_at bC bD bK1 bK2 bX bU (by omega);obtain ⟨pn, rfl⟩ := Int.eq_ofNat_of_zero_le z1;have hpn : pn < 3 := by omega
    obtain ⟨xp, hxp⟩ : ∃ xp, x[pn]?.getD 0 = xp := ⟨_, rfl⟩
    have HXP : Hid (x[pn]?.getD 0 = xp) := hxp;obtain ⟨r1, r2⟩ := bX pn;rw [hxp] at r1 r2;obtain ⟨y, hy⟩ : ∃ y, atV gC gD gK x U = y := ⟨_, rfl⟩
    have HY : Hid (atV gC gD gK x U = y) := hy;rw [hy] at q3 q4
    have HS : Hid (At U ls V (k + 1) (x.set pn (xp + y)) tl) := by
     have := HAT.out.add hkl.out h6l.out HG'.out rfl (by show _ <= atV gC gD gK x U; rw [hy]; omega) (by show atV gC gD gK x U <= _; rw [hy]; omega);simp only [Int.toNat_natCast, hxp] at this;rw [show atF x U ⟨ga, 3, gcap, gc, 2, gcap', gK, gC, gD⟩ = y from hy] at this
     exact this
    clear hy hxp hok' hsm bX
    have cellp : ∀ W, OwnX W (some ⟨g2, 0, none⟩) g2 3 x -> W.cell? ⟨g2, pn, none⟩ = some (.int .i64 xp) /\ W.frozen? ⟨g2, pn, none⟩ = false := fun W hW => by
     obtain ⟨_, h1, h2⟩ := hW.pos (by omega)
     exact ⟨by rw [h1 pn hpn, HXP.out], h2 pn⟩
    have CP : Hid _ := cellp;clear cellp;have sa := s.alloc (.cells #[.int .i64 2, .int .i64 (pn : Int), .int .i64 gz, .slice ga 3 gcap, .slice gc 2 gcap', .int .i64 gK] 153);have bxa := Cel.new wr [.int .i64 2, .int .i64 (pn : Int), .int .i64 gz, .slice ga 3 gcap, .slice gc 2 gcap', .int .i64 gK] 153;have ia := iC.alloc (.cells #[.int .i64 2, .int .i64 (pn : Int), .int .i64 gz, .slice ga 3 gcap, .slice gc 2 gcap', .int .i64 gK] 153);have ib := iD.alloc (.cells #[.int .i64 2, .int .i64 (pn : Int), .int .i64 gz, .slice ga 3 gcap, .slice gc 2 gcap', .int .i64 gK] 153);have ua := hUr.alloc (.cells #[.int .i64 2, .int .i64 (pn : Int), .int .i64 gz, .slice ga 3 gcap, .slice gc 2 gcap', .int .i64 gK] 153);have hpn' : (pn : Int) < 3 := by omega
    go_upto_region 15 with fail
    obtain ⟨Wa, hWa⟩ : ∃ Wa, Wa = wr.alloc (.cells #[.int .i64 2, .int .i64 (pn : Int), .int .i64 gz, .slice ga 3 gcap, .slice gc 2 gcap', .int .i64 gK] 153) := ⟨_, rfl⟩
    rw [<- hWa] at sa bxa ia ib ua ⊢;clear hWa s iC iD e0 e1 e2 e3 e4 e5 hVr hUr;obtain ⟨ck, fk⟩ := CP.out Wa sa.ox;obtain ⟨m0, m1, m2, m3, m4, m5⟩ := bxa.six;have hSS : (Wa.drew.cell? ⟨wr.heap.size, 1, none⟩ = some (.int .i64 (pn : Int)) /\ Wa.drew.cell? ⟨wr.heap.size, 3, none⟩ = some (.slice ga 3 gcap) /\ Wa.drew.cell? ⟨wr.heap.size, 4, none⟩ = some (.slice gc 2 gcap') /\ Wa.drew.cell? ⟨wr.heap.size, 5, none⟩ = some (.int .i64 gK)) /\ Wa.drew.cell? ⟨g2, pn, none⟩ = some (.int .i64 xp) := ⟨⟨m1, m3, m4, m5⟩, ck⟩
    refine wp_region_ends (fun w' => w'.cell? ⟨wr.heap.size, 1, none⟩ = some (.int .i64 (pn : Int)) /\ w'.cell? ⟨wr.heap.size, 3, none⟩ = some (.slice ga 3 gcap) /\ w'.cell? ⟨wr.heap.size, 4, none⟩ = some (.slice gc 2 gcap') /\ w'.cell? ⟨wr.heap.size, 5, none⟩ = some (.int .i64 gK)) (fun w' => w'.cell? ⟨g2, pn, none⟩ = some (.int .i64 xp)) 14 (by kernel_rfl) ?_;refine tkl 0 rfl hSS ?_;refine tkl 1 rfl hSS ?_;refine tkl 2 rfl hSS ?_;refine tkl 3 rfl hSS ?_;refine tkl 4 rfl hSS ?_;refine tkl 5 rfl hSS ?_;refine tkl 6 rfl hSS ?_;refine wpAnyE_take1 (i := 7) (v := ?v7) rfl rfl (by kernel_rfl) (by kernel_rfl) (by kernel_rfl) (by decide) (by rfl) (by simp [Region.binds]) (fun _ _ _ h => h) (Or.inl ⟨by rfl, ?hy7⟩) hSS ?_
    case hy7 => (intro wz hSw; (try dsimp only at hSw); go_simp; try (with_reducible rfl))
    refine tkl 8 rfl hSS ?_;refine tkl 9 rfl hSS ?_;refine tkl 10 rfl hSS ?_;refine tkl 11 rfl hSS ?_;refine wo1 12 rfl fun K hK => ?_;go_simp;refine (satG_any gC gD x U (ia.below (Below.refl _ _).drew) (ib.below (Below.refl _ _).drew) (sa.ox.ints.below (Below.refl _ _).drew) (ua.below (Below.refl _ _).drew) q1 q2 (by omega) (by omega) (by omega) (by omega) ⟨by omega, by omega⟩).mono ?_;rintro ee w3 ⟨rfl, b3⟩;rw [HY.out];have b3' := below_of_drew b3;obtain ⟨ck3, fk3⟩ := CP.out w3 (sa.ox.below b3');have bx3 := bxa.below b3';obtain ⟨n0, n1, n2, n3, n4, n5⟩ := bx3.six;have hSS3 := And.intro (And.intro n1 (And.intro n3 (And.intro n4 n5))) ck3;obtain ⟨o0, o1, o2, o3, o4, o5⟩ := (bx3.setOther (show wr.heap.size ≠ g2 by omega) pn (.int .i64 (xp + y))).six;have hSS4 := And.intro o1 (And.intro o3 (And.intro o4 o5));have s3 := (sa.below b3').set (i := pn) hlt1 hB' hpn (xp + y);have hwr : IntKind.i64.wrap (xp + y) = xp + y := wrap_id;dsimp only;refine hK.out _ _ ⟨hSS3.1, fun _ => hSS3.2⟩ ?_;clear hK K hSS;refine tkl 13 rfl hSS3 ?_;refine wo1 14 rfl fun K hK => ?_;go_simp;refine hK.out _ _ ⟨hSS3.1, fun _ => hSS3.2⟩ ?_;refine wo1 15 rfl fun K hK => ?_;go_simp;refine hK.out _ _ ⟨hSS4, fun h => absurd (show true = false from h) (by decide)⟩ ?_;refine wod ?_ _;clear b3 b3' sa bxa ia ib ua bx3 hSS3 hSS4 ck fk ck3 fk3 m0 m1 m2 m3 m4 m5 n0 n1 n2 n3 n4 n5 o0 o1 o2 o3 o4 o5
    go_wp2
    go_roundw
    case rel => exact ⟨k + 1, _, tl, by omega, by go_num, HS.out, s3⟩
    case measure => simp [intOf]; omega
   have hk2' : (gk == 2) = false := by simp [hk2]
   by_cases hk3 : gk = 3
   ·subst hk3;have hsm := line_three hok';obtain ⟨rfl, rfl, bC, bD, bK1, bK2⟩ := small_elim hsm;obtain ⟨q1, q2, q3, q4⟩ := small_at bC bD bK1 bK2 bX bU (by omega);obtain ⟨y, hy⟩ : ∃ y, atV gC gD gK x U = y := ⟨_, rfl⟩
    have HY : Hid (atV gC gD gK x U = y) := hy
    have HS : Hid (At U ls V (k + 1) x (tl ++ [y])) := by
     have := HAT.out.tell hkl.out h6l.out HG'.out rfl;rw [show atF x U ⟨ga, 3, gcap, gc, 2, gcap', gK, gC, gD⟩ = y from hy] at this
     exact this
    have ht := HAT.out.t;obtain ⟨tn, htn⟩ : ∃ tn, tl.length = tn := ⟨_, rfl⟩
    have HTN : Hid (tl.length = tn) := htn;rw [htn] at ht;clear hy hok' hsm bX q3 q4 htn
    go_wp2_with fail
    refine (satG_any gC gD x U (iC.alloc _) (iD.alloc _) (s.ox.alloc _).ints (hUr.alloc _) q1 q2 (by omega) (by omega) (by omega) (by omega) ⟨by omega, by omega⟩).mono ?_;rintro e w3 ⟨rfl, b3⟩;rw [HY.out];have s3 := (s.alloc _).below b3;have jo := s3.j.o;rw [HTN.out] at jo;have hjb := s3.j.b.size;have lB3 := s3.ox.lt (by omega);clear b3 s iC iD e0 e1 e2 e3 e4 e5 q1 q2 hVr hUr
    go_wp2_with (at_builtin; go_must (refine wpList_append_lies _ rfl (.tmp 78) (.tmp 84) 24 rfl w1.heap.size 3 i0 (.int .i64 0) 1 8 Tryz.underlying24 hi hz0 hz1 hz2 rfl (by decide) _ _ _ rfl (jo.alloc _) ⟨w3.heap.size, 0, none⟩ 1 1 [.int .i64 y] rfl rfl (news1) (one1) (by omega) (by unfold maxLen; omega) (by omega) (by rw [qC]; omega) _ rfl ?_); intro g4 cp4 w4 hown hgrow hat hlt4)
    have s4 := s3.app hlt1 HTN.out hown hgrow hat (by rw [qC]; omega);clear hown hgrow jo s3 hat
    go_wp2
    go_roundw
    case rel => exact ⟨k + 1, x, tl ++ [y], by omega, by go_num, HS.out, s4⟩
    case measure => simp [intOf]; omega
   have hk3' : (gk == 3) = false := by simp [hk3]
   have E : Hid _ := run_stop HB.out (HAT.out.stop hkl.out h6l.out HG'.out hk1 hk2 hk3);clear bX hok';have sa := s.alloc (.cells #[.int .i64 gk, .int .i64 gp, .int .i64 gz, .slice ga gn gcap, .slice gc gm gcap', .int .i64 gK] 153)
   go_upto_region 10 with fail
   obtain ⟨Wa, hWa⟩ : ∃ Wa, Wa = wr.alloc (.cells #[.int .i64 gk, .int .i64 gp, .int .i64 gz, .slice ga gn gcap, .slice gc gm gcap', .int .i64 gK] 153) := ⟨_, rfl⟩
   rw [<- hWa] at sa ⊢;clear hWa s iC iD e0 e1 e2 e3 e4 e5 hVr hUr;have HL : Hid ((V.map (Value.int .i64)).length = 3 * 1) := by show _ = _; rw [qF, HVL.out]
   have HC : Hid _ := HNW.out Wa sa.b;have HJ : Hid _ := (JA.lit Wa).o;have hwa := sa.rc.lt
   go_wp2_with (at_builtin; go_must (refine wpList_append_lies _ rfl (.tmp 44) (.tmp 45) 24 rfl Wa.heap.size 3 i0 (.int .i64 0) 1 8 Tryz.underlying24 hi hz0 hz1 hz2 rfl (by decide) _ 0 [] rfl HJ.out ⟨vb, vo, none⟩ 3 cv (V.map (Value.int .i64)) rfl HL.out HC.out (oneI) (by omega) (by unfold maxLen; omega) (by omega) (by rw [qC]; omega) _ rfl ?_); intro g5 cp5 w5 hown hgrow hat hlt5; have j := JA.copied HVL.out hown hgrow; have rc5 := sa.rc.below j.b; obtain ⟨d0, d1, f0, f1⟩ := rc5.pair; have hlt6 := rc5.lt; clear hown hgrow hat)
   obtain ⟨x5, cx5, B5, hv5, hX5, hB5⟩ := j.ownx HVL.out;simp only [Value.slice.injEq, true_and] at hv5;obtain ⟨rfl, rfl⟩ := hv5;have bb := sa.b.trans (j.b.mono sa.b.size);refine bodyPost_ret (v := .tuple #[resV 2 none 0 0, .slice (some ⟨g5, 0, none⟩) 3 cp5]) (by simp [results, Tryz.results67, go_sem, d0, d1]) rfl ?_;obtain ⟨e1, e2, e3⟩ := E.out;rw [e1, e2, e3];refine ⟨none, 0, 0, 0, some ⟨g5, 0, none⟩, 3, cp5, B5, rfl, rfl, HVL.out, ?_, OwnX.nil _ _ _, ?_, fun h => by omega, fun h => by have := hB5 h; have := sa.b.size; omega, fun h => by omega⟩
   ·exact (bb.setCell (qE _) _).setCell (qE _) _
   exact (hX5.setOther (fun h => by have := hB5 h; omega) _ _).setOther (fun h => by have := hB5 h; omega) _ _
  have E : Hid _ := run_go HB.out (HAT.out.done (by rw [HN.out]; omega));obtain ⟨tn, htn⟩ : ∃ tn, tl.length = tn := ⟨_, rfl⟩
  have HTN : Hid (tl.length = tn) := htn;obtain ⟨ta, ctt, BT, hv, hT, hBT⟩ := s.j.ownx HTN.out
  have hne : 0 < tn -> BT ≠ g2 := fun h0 e => by
   obtain ⟨e1, _, _⟩ := hT.pos h0
   exact s.ne (by rw [hv, e1, e]; rfl)
  have ox := s.ox;have sb := s.b;have rc := s.rc;clear htn;subst hv;clear s
  go_wp2_with fail
  refine (end_any g2 BT V x tl hVr ox hT hne (w.heap.size + 1) (fun h => by have := hBT h; omega) (by omega) (by have := rc.lt; omega)).mono ?_;rintro e w6 ⟨ra, rn, rcap, RB1, pb, pm, pcap, RB2, rfl, L1, L2, b6, O1, O2, y1, y2, y3⟩;have rc6 := rc.below b6;have b66 := btr sb b6;have hlt6 := rc6.lt;obtain ⟨d0, d1, f0, f1⟩ := rc6.pair;clear rc6 rc sb ox hT hVr hUr
  go_wp2
  refine bodyPost_ret (v := .tuple #[resV (endCode x) ra rn rcap, .slice pb pm pcap]) (by simp [results, Tryz.results67, go_sem, d0, d1]) rfl ?_;obtain ⟨e1, e2, e3⟩ := E.out;rw [e1, e2, e3];refine ⟨ra, rn, rcap, RB1, pb, pm, pcap, RB2, rfl, L1, L2, ?_, ?_, ?_, fun h => by have := y1 h; omega, fun h => by have := y2 h; omega, y3⟩
  ·exact (b66.setCell (qE _) _).setCell (qE _) _
  ·exact (O1.setOther (fun h => by have := y1 h; omega) _ _).setOther (fun h => by have := y1 h; omega) _ _
  exact (O2.setOther (fun h => by have := y2 h; omega) _ _).setOther (fun h => by have := y2 h; omega) _ _
def serStep (ss : List L2V) (st : List (Int × List Int) × List Int) (f : LgV) : List (Int × List Int) × List Int :=
 (st.1 ++ [(runCode (ss[f.c.toNat]?.getD noL).n (ss[f.c.toNat]?.getD noL).x st.2.length st.2 f.t.n f.t.x, runTells (ss[f.c.toNat]?.getD noL).n (ss[f.c.toNat]?.getD noL).x st.2.length st.2 f.t.n f.t.x)], runPots (ss[f.c.toNat]?.getD noL).n (ss[f.c.toNat]?.getD noL).x st.2.length st.2 f.t.n f.t.x)
def serL (ss : List L2V) (V : List Int) (fs : List LgV) : List (Int × List Int) × List Int := fs.foldl (serStep ss) ([], V)
theorem serL_zero (ss : List L2V) (V : List Int) (fs : List LgV) : serL ss V (fs.take 0) = ([], V) := by simp [serL]
theorem serL_step {ss : List L2V} {fs : List LgV} (hk : k < fs.length) : serL ss V (fs.take (k + 1)) = serStep ss (serL ss V (fs.take k)) (fs[k]?.getD noLg) := by
 unfold serL;rw [List.take_add_one, List.foldl_append, List.getElem?_eq_getElem hk]
 rfl
theorem serL_len (ss : List L2V) (V : List Int) (fs : List LgV) : (serL ss V fs).1.length = fs.length := by
 have h : ∀ (fs : List LgV) (st : List (Int × List Int) × List Int), (fs.foldl (serStep ss) st).1.length = st.1.length + fs.length := by
  intro fs
  induction fs with
  | nil => intro st; simp
  | cons f fs ih => intro st; rw [List.foldl_cons, ih, serStep]; simp; omega
 simpa [serL] using h fs ([], V)
structure RsV where
 c : Int
 t : IV
def noRs : RsV := ⟨0, noI⟩
def RsV.cs (f : RsV) : List Value := [.int .i64 f.c, IV.v f.t]
def RsG (w : World) (f : RsV) : Prop := IG w f.t /\ True
def sameRs (f g : RsV) : Prop := f.c = g.c /\ sameI f.t g.t /\ True
theorem RsG.below {w' : World} {f : RsV} (h : RsG w f) (hb : Below w.heap.size w w') : RsG w' f := ⟨h.1.below hb, trivial⟩
def RsSG (w : World) (ad : Option Addr) (fs : List RsV) : Prop :=
 ∀ i, i < fs.length -> ∃ b off, ad = some ⟨b, off, none⟩ /\ (∀ r, r < 2 -> w.cell? ⟨b, off + i * 2 + r, none⟩ = (fs[i]?.getD noRs).cs[r]?) /\ RsG w (fs[i]?.getD noRs)
theorem RsSG.below {w' : World} {ad : Option Addr} {fs : List RsV} (h : RsSG w ad fs) (hb : Below w.heap.size w w') : RsSG w' ad fs := fun i hi => by
 obtain ⟨b, off, e, hc, hr⟩ := h i hi;have hl : b < w.heap.size := block_lt (v := ((fs[i]?.getD noRs).cs[0]?).getD (.bool false)) ((hc 0 (by omega)).trans rfl)
 exact ⟨b, off, e, fun r hr => by rw [hb.cell (p := ⟨b, off + i * 2 + r, none⟩) hl]; exact hc r hr, hr.below hb⟩
theorem cellsRs {b o : Nat} {f : RsV} (h : ∀ r, r < 2 -> w.cell? ⟨b, o + r, none⟩ = f.cs[r]?) : w.cell? ⟨b, o, none⟩ = some (.int .i64 f.c) /\ w.cell? ⟨b, o + 1, none⟩ = some (f.t.v) := ⟨h 0 (by omega), h 1 (by omega)⟩
theorem Tryz.infoResResult : (Tryz.prog.info? 54).map (fun i => (i.zero, i.size, i.bytes)) = some (some (.agg #[.int .i64 0, .slice none 0 0]), 2, 32) := by kernel_rfl
structure RsL (W : World) (a : Option Addr) (G n : Nat) (f : Nat -> RsV) (bs : Nat -> Nat) : Prop where
 g : 0 < n -> a = some ⟨G, 0, none⟩ /\ ∃ cur : List Value, Cel W G cur 54 /\ ∀ j, j < n -> ∀ r, r < 2 -> cur[j * 2 + r]? = (f j).cs[r]?
 l : ∀ j, j < n -> OwnX W (f j).t.a (bs j) (f j).t.n (f j).t.x /\ (0 < (f j).t.n -> bs j ≠ G) /\ (f j).t.n <= 1048576
 d : ∀ i j, i < n -> j < n -> i ≠ j -> 0 < (f i).t.n -> 0 < (f j).t.n -> bs i ≠ bs j
theorem RsL.zero (W : World) (a : Option Addr) (G : Nat) (f : Nat -> RsV) (bs : Nat -> Nat) : RsL W a G 0 f bs := ⟨fun h => by omega, fun j hj => by omega, fun i j hi => by omega⟩
theorem RsL.sg {a : Option Addr} {G : Nat} {fs : List RsV} (h : RsL W a G n (fun i => fs[i]?.getD noRs) bs) (hn : fs.length = n) : RsSG W a fs := fun i hi => by
 obtain ⟨e1, cur, hc, hv⟩ := h.g (by omega);obtain ⟨o, _, z⟩ := h.l i (by omega)
 exact ⟨G, 0, e1, fun r hr => by rw [Nat.zero_add, hc.cell]; exact hv i (by omega) r hr, ⟨o.ints, z⟩, trivial⟩
section
variable {w W w3 : World} {a c : Option Addr} {n cap m cap' : Nat} {K : Int}
end
theorem sz1 (w : World) (o0 : Obj) : (w.alloc o0).drew.heap.size = w.heap.size + 1 := by show (w.heap.push o0).size = _; simp only [Array.size_push]
theorem sz2 (w : World) (o0 o1 : Obj) : ((w.alloc o0).alloc o1).drew.heap.size = w.heap.size + 1 + 1 := by show ((w.heap.push o0).push o1).size = _; simp only [Array.size_push]
theorem own_below {base : Nat} {e : TypeId} {s : Nat} {xs : List Value} (h : W.ownsRow base e s v n xs) (b : Below W.heap.size W W') : W'.ownsRow base e s v n xs := by
  refine ⟨h.1, ?_⟩
  rcases h.2 with h0 | ⟨g, cap, cur, hv, hb, hg, hr⟩
  · exact .inl h0
  · exact .inr ⟨g, cap, cur, hv, hb, by rw [b.block g (lt_of_block hg)]; exact hg, hr⟩
def wb : Nat -> Int
 | 0 => 1
 | n + 1 => 7 * wb n + 20
theorem Cel.grew {vs : List Value} {t : TypeId} {row : Option Nat} (h : Cel W B vs t) (hg : W.grownBy W' row) (hne : row ≠ some B) : Cel W' B vs t := by
 have hl := h.lt;unfold Cel at *;rw [hg.block B hl (fun e => hne e.symm)]; exact h
structure JRs (w : World) (v : Value) (ts : List RsV) (bs : Nat -> Nat) (W : World) : Prop where
 b : Below w.heap.size w W
 o : W.ownsRow w.heap.size 54 2 v ts.length (ts.flatMap RsV.cs)
 k : ∀ j, j < ts.length -> OwnX W (ts[j]?.getD noRs).t.a (bs j) (ts[j]?.getD noRs).t.n (ts[j]?.getD noRs).t.x /\ (ts[j]?.getD noRs).t.n <= 1048576 /\ (0 < (ts[j]?.getD noRs).t.n -> w.heap.size <= bs j /\ some (bs j) ≠ v.ownBlock)
 d : ∀ i j, i < ts.length -> j < ts.length -> i ≠ j -> 0 < (ts[i]?.getD noRs).t.n -> 0 < (ts[j]?.getD noRs).t.n -> bs i ≠ bs j
theorem JRs.nil (w W : World) (hb : Below w.heap.size w W) (bs : Nat -> Nat) : JRs w (.slice none 0 0) [] bs W := ⟨hb, World.ownsRow_nil W _ _ _, fun j hj => by simp at hj, fun i j hi => by simp at hi⟩
theorem JRs.below {ts : List RsV} (j : JRs w v ts bs W) (h : Below W.heap.size W W') : JRs w v ts bs W' :=
 ⟨j.b.trans (h.mono j.b.size), own_below j.o h, fun i hi => by obtain ⟨a, b⟩ := j.k i hi; exact ⟨a.below h, b⟩, j.d⟩
theorem JRs.own {ts : List RsV} (j : JRs w v ts bs W) {g : Nat} (h : v.ownBlock = some g) : w.heap.size <= g /\ g < W.heap.size := by
 rcases j.o.2 with ⟨h', _⟩ | ⟨g', cap, cur, hv, hg, hh, r⟩
 ·rw [h'] at h; simp [Value.ownBlock] at h
 rw [hv] at h;simp only [Value.ownBlock, qA] at h;subst h
 exact ⟨hg, lt_of_block hh⟩
theorem JRs.isSlice {ts : List RsV} (j : JRs w v ts bs W) (hk : ts.length = k) : ∃ a c, v = .slice a k c := by
 subst hk
 rcases j.o.2 with ⟨h', h0⟩ | ⟨g', cap, cur, hv, hg, hh, r⟩
 ·exact ⟨none, 0, by rw [h', h0]⟩
 exact ⟨_, _, hv⟩
theorem JRs.app {v' : Value} {ts : List RsV} {s : RsV} {A : Nat} {o : Obj} (j : JRs w v ts bs W) (hk : ts.length = k) (hA : OwnX W s.t.a A s.t.n s.t.x) (hz : s.t.n <= 1048576) (hlo : 0 < s.t.n -> w.heap.size <= A /\ some A ≠ v.ownBlock) (hnew : 0 < s.t.n -> ∀ i, i < k -> 0 < (ts[i]?.getD noRs).t.n -> bs i ≠ A)
  (hown : W'.ownsRow w.heap.size 54 2 v' (k + 1) (ts.flatMap RsV.cs ++ s.cs)) (hg : (W.alloc o).grownBy W' v.ownBlock) (hat : v'.ownBlock = v.ownBlock \/ v'.ownBlock = some (W.alloc o).heap.size) : JRs w v' (ts ++ [s]) (fun i => if i < k then bs i else A) W' := by
 subst hk;have B1 : Below W.heap.size W (W.alloc o) := bal;have ja := j.below B1
 have key : ∀ (a : Option Addr) (Y n : Nat) (x : List Int), OwnX W a Y n x -> (0 < n -> w.heap.size <= Y /\ some Y ≠ v.ownBlock) -> OwnX W' a Y n x /\ (0 < n -> w.heap.size <= Y /\ some Y ≠ v'.ownBlock) := fun a Y n x h1 h2 => by
  refine ⟨?_, fun hn => ⟨(h2 hn).1, fun e => ?_⟩⟩
  ·have h3 := h1.below B1
   rcases h3.2 with h0 | ⟨e1, cur, hc, hv⟩
   ·exact ⟨h3.1, .inl h0⟩
   by_cases hn : 0 < n
   ·exact ⟨h3.1, .inr ⟨e1, cur, hc.grew hg (fun e => (h2 hn).2 e.symm), hv⟩⟩
   exact ⟨h3.1, .inl (by omega)⟩
  have hl := h1.lt hn
  rcases hat with h | h
  ·exact (h2 hn).2 (e.trans h)
  rw [h, qC] at e;simp only [qA] at e
  omega
 have hold : ∀ i, i < ts.length -> (ts ++ [s])[i]?.getD noRs = (ts[i]?.getD noRs) := fun i h => by rw [List.getElem?_append_left h]
 have hlast : (ts ++ [s])[ts.length]?.getD noRs = s := by rw [List.getElem?_append_right (qE _), Nat.sub_self]; rfl
 refine ⟨ja.b.grown hg ja.b.size (fun z hz => (j.own hz).1), ?_, fun i hi => ?_, fun i i' hi hi' hne h1 h2 => ?_⟩
 ·rw [qD, List.flatMap_append];have : [s].flatMap RsV.cs = s.cs := by simp
  rw [this]
  exact hown
 ·by_cases h : i < ts.length
  ·rw [hold i h];obtain ⟨a, b, d⟩ := j.k i h;simp only [h, if_true];obtain ⟨q1, q2⟩ := key _ _ _ _ a d
   exact ⟨q1, b, q2⟩
  rw [qD, List.length_singleton] at hi;obtain rfl : i = ts.length := by omega
  rw [hlast];simp only [Nat.lt_irrefl, if_false];obtain ⟨q1, q2⟩ := key _ _ _ _ hA hlo
  exact ⟨q1, hz, q2⟩
 rw [qD, List.length_singleton] at hi hi'
 by_cases h : i < ts.length
 ·by_cases h' : i' < ts.length
  ·rw [hold i h] at h1;rw [hold i' h'] at h2;simp only [h, h', if_true]
   exact j.d i i' h h' hne h1 h2
  obtain rfl : i' = ts.length := by omega
  rw [hold i h] at h1;rw [hlast] at h2;simp only [h, if_true, Nat.lt_irrefl, if_false]
  exact hnew h2 i h h1
 obtain rfl : i = ts.length := by omega
 have h' : i' < ts.length := by omega
 rw [hlast] at h1;rw [hold i' h'] at h2;simp only [h', if_true, Nat.lt_irrefl, if_false]
 exact fun e => hnew h1 i' h' h2 e.symm
theorem atRsc (ts : List RsV) : ∀ i, i < ts.length -> ∀ r, r < 2 -> (ts.flatMap RsV.cs)[i * 2 + r]? = (ts[i]?.getD noRs).cs[r]? := by
 induction ts with
 | nil => intro i hi; simp at hi
 | cons t ts ih =>
  intro i hi r hr;rw [List.flatMap_cons];have hl : t.cs.length = 2 := rfl
  cases i with
  | zero => rw [List.getElem?_append_left (by omega)]; simp
  | succ i =>
   rw [List.getElem?_append_right (by omega), hl, show (i + 1) * 2 + r - 2 = i * 2 + r by omega, ih i (by simpa using hi) r hr];simp
theorem JRs.lies {ts : List RsV} (j : JRs w v ts bs W) (hn : ts.length = n) : ∃ a G cap, v = .slice a n cap /\ RsL W a G n (fun i => ts[i]?.getD noRs) bs /\ (0 < n -> w.heap.size <= G) /\ ∀ i, i < n -> 0 < (ts[i]?.getD noRs).t.n -> w.heap.size <= bs i := by
 subst hn
 rcases j.o.2 with ⟨h', h0⟩ | ⟨g, cap, cur, hv, hg, hh, _, _, hcs, htake⟩
 ·refine ⟨none, 0, 0, by rw [h', h0], ?_, fun h => by omega, fun i hi => by omega⟩;rw [h0]
  exact RsL.zero _ _ _ _ _
 refine ⟨_, g, cap, hv, ⟨fun h => ⟨rfl, cur.toList, by unfold Cel; simpa using hh, fun i hi r hr => ?_⟩, fun i hi => ?_, fun i i' hi hi' hne h1 h2 => j.d i i' hi hi' hne h1 h2⟩, fun _ => hg, fun i hi h => ((j.k i hi).2.2 h).1⟩
 ·rw [<- atRsc ts i hi r hr, <- htake, List.getElem?_take, if_pos (by omega)]
 obtain ⟨a, b, d⟩ := j.k i hi;refine ⟨a, fun h e => (d h).2 ?_, b⟩;rw [hv, e]
 rfl
theorem JRs.lit (w : World) (bs : Nat -> Nat) : JRs w (.slice (some ⟨w.heap.size, 0, none⟩) 0 0) [] bs (w.alloc (.cells #[] 54)) := ⟨bal, World.ownsRow_lit w #[] 0 (qE _) (by unfold maxLen; omega) rfl, fun j hj => by simp at hj, fun i j hi => by simp at hi⟩
theorem wp_copyN {o : Oper} {a : Act} {K : Act -> World -> Prop} {Q : Exit -> Act -> World -> Prop} (s x : Operand) (ho : o.op = .call { callee := .builtin .append, args := #[s, x], argTypes := #[24, 24] }) (base L : Nat) (ad : Option Addr) (n cap : Nat) (zs : List Int)
  (hs : a.eval s = .slice (some ⟨L, 0, none⟩) 0 0) (hown : W.ownsRow base 3 1 (.slice (some ⟨L, 0, none⟩) 0 0) 0 []) (hx : a.eval x = .slice ad n cap) (hb : Ints W ad n zs) (h0 : 0 < n) (hn : n <= 1048576) (hbase : base <= W.heap.size) (hL : base <= L)
  (h : ∀ cap' B' W1, Below base W W1 -> Touch (fun z => z = L) W W1 -> OwnX W1 (some ⟨B', 0, none⟩) B' n zs -> base <= B' -> (B' = L \/ W.heap.size <= B') -> K (a.put o.dst (.slice (some ⟨B', 0, none⟩) n cap')) W1) : o.wp Tryz.prog a W K Q := by
 obtain ⟨i0, hi, hz0, hz1, hz2⟩ := info_parts Tryz.infoInt;obtain ⟨B, off, rfl, hcell⟩ := hb.pos h0;have hl := hb.1;have hcl : ∀ i, i < n -> W.cell? ⟨B, off + i, none⟩ = some (.int .i64 (zs.getD i 0)) := fun i hi => by rw [hcell i hi]
 refine wp_append_lies _ s x 24 ho base 3 i0 (.int .i64 0) 1 8 Tryz.underlying24 hi hz0 hz1 hz2 rfl (by omega) _ 0 [] hs hown ⟨B, off, none⟩ n cap (zs.map (Value.int .i64)) hx (by rw [qF, hl, Nat.mul_one]) (newsI hcl hl) (oneI) h0 (by unfold maxLen; omega) (by omega) hbase _ rfl ?_;intro g cp W1 ho1 hg hat hlt;have hB : Below base W W1 := (Below.refl base W).grown hg hbase (fun z hz => by simp only [Value.ownBlock, qA] at hz; omega);simp only [Nat.zero_add]
 have hgb : base <= g /\ (g = L \/ W.heap.size <= g) := by
  rcases hat with e | e
  ·simp only [Value.ownBlock, qA] at e; omega
  omega
 refine h _ g W1 hB ⟨hB.os, hB.tape, hB.output, hB.size, fun C hC hne => ?_⟩ ?_ hgb.1 hgb.2
 ·rw [hg.block C hC (by simp only [Value.ownBlock]; intro e; simp only [qA] at e; exact hne e)]
 rcases ho1.2 with ⟨hv, _⟩ | ⟨g', cap', cur, hv, hg', hh, hl', _, hs', ht⟩
 ·simp at hv
 simp only [Value.slice.injEq, qA, qB, and_true, true_and] at hv;obtain ⟨rfl, rfl⟩ := hv;refine ⟨hl, .inr ⟨rfl, cur.toList, by unfold Cel; simpa using hh, fun i hi => ?_⟩⟩;have h1 : (cur.toList.take ((0 + n) * 1))[i]? = (zs.map (Value.int .i64))[i]? := by rw [ht]; rfl
 rw [List.getElem?_take, if_pos (by omega)] at h1;rw [h1];have hi2 : i < zs.length := by omega
 simp [hi2]
theorem as_testStep_testStep (v : Value) (w : World) : (Instr.typeAssert (.iface 198 v) 156 198 true).run Tryz.prog w = .ok (.tuple #[v, .bool true]) w := by kernel_rfl
theorem as_addStep_testStep (v : Value) (w : World) : (Instr.typeAssert (.iface 200 v) 156 198 true).run Tryz.prog w = .ok (.tuple #[.agg #[.int .i64 0, .slice none 0 0, .slice none 0 0, .int .i64 0], .bool false]) w := by kernel_rfl
theorem as_addStep_addStep (v : Value) (w : World) : (Instr.typeAssert (.iface 200 v) 156 200 true).run Tryz.prog w = .ok (.tuple #[v, .bool true]) w := by kernel_rfl
theorem as_printStep_testStep (v : Value) (w : World) : (Instr.typeAssert (.iface 202 v) 156 198 true).run Tryz.prog w = .ok (.tuple #[.agg #[.int .i64 0, .slice none 0 0, .slice none 0 0, .int .i64 0], .bool false]) w := by kernel_rfl
theorem as_printStep_addStep (v : Value) (w : World) : (Instr.typeAssert (.iface 202 v) 156 200 true).run Tryz.prog w = .ok (.tuple #[.agg #[.int .i64 0, .slice none 0 0, .slice none 0 0, .int .i64 0], .bool false]) w := by kernel_rfl
theorem as_printStep_printStep (v : Value) (w : World) : (Instr.typeAssert (.iface 202 v) 156 202 true).run Tryz.prog w = .ok (.tuple #[v, .bool true]) w := by kernel_rfl
theorem as_stopStep_testStep (v : Value) (w : World) : (Instr.typeAssert (.iface 203 v) 156 198 true).run Tryz.prog w = .ok (.tuple #[.agg #[.int .i64 0, .slice none 0 0, .slice none 0 0, .int .i64 0], .bool false]) w := by kernel_rfl
theorem as_stopStep_addStep (v : Value) (w : World) : (Instr.typeAssert (.iface 203 v) 156 200 true).run Tryz.prog w = .ok (.tuple #[.agg #[.int .i64 0, .slice none 0 0, .slice none 0 0, .int .i64 0], .bool false]) w := by kernel_rfl
theorem as_stopStep_printStep (v : Value) (w : World) : (Instr.typeAssert (.iface 203 v) 156 202 true).run Tryz.prog w = .ok (.tuple #[.agg #[.slice none 0 0, .slice none 0 0, .int .i64 0], .bool false]) w := by kernel_rfl
theorem as_stopStep_stopStep (v : Value) (w : World) : (Instr.typeAssert (.iface 203 v) 156 203 true).run Tryz.prog w = .ok (.tuple #[v, .bool true]) w := by kernel_rfl
theorem leave_stop {Dd : Nat} :
  Calls Tryz.prog 115 #[.pointer (some ⟨Dd, 0, none⟩), .iface 203 (.agg #[])] w fun e w' => e = .panicked [{ v := .iface 161 (.agg #[]), recovered := false }] /\ Below w.heap.size w w' := by
 have h1 := as_stopStep_testStep;have h2 := as_stopStep_addStep;have h3 := as_stopStep_printStep;have h4 := as_stopStep_stopStep
 go_enter Tryz.func115, Tryz.ntmps115
 go_wp2
 exact ⟨rfl, rfl, bal⟩
structure DR (w1 : World) (Dd B cp : Nat) (ua : Option Addr) (cu : Nat) (v : Value) (x tl : List Int) (W : World) : Prop where
 b : Below w1.heap.size w1 W
 d : Cel W Dd [.slice (some ⟨B, 0, none⟩) 3 cp, .slice ua 2 cu, v] 114
 ox : OwnX W (some ⟨B, 0, none⟩) B 3 x
 j : JA w1 v tl W
 ne : v.ownBlock ≠ some B
 nd : v.ownBlock ≠ some Dd
section
variable {w1 W W' : World} {Dd B cp : Nat} {ua : Option Addr} {cu : Nat} {v : Value} {x tl : List Int}
theorem DR.below (s : DR w1 Dd B cp ua cu v x tl W) (h : Below W.heap.size W W') : DR w1 Dd B cp ua cu v x tl W' := ⟨s.b.trans (h.mono s.b.size), s.d.below h, s.ox.below h, s.j.below h, s.ne, s.nd⟩
theorem DR.alloc (s : DR w1 Dd B cp ua cu v x tl W) (o : Obj) : DR w1 Dd B cp ua cu v x tl (W.alloc o) := s.below (bal)
theorem DR.set (s : DR w1 Dd B cp ua cu v x tl W) (hB : w1.heap.size <= B) (hDB : Dd ≠ B) {i : Nat} (hi : i < 3) (y : Int) : DR w1 Dd B cp ua cu v (x.set i y) tl (W.setCell ⟨B, i, none⟩ (.int .i64 y)) :=
 ⟨s.b.setCell hB _, s.d.setOther hDB _ _, s.ox.set hi y, s.j.set hB s.ne _ _, s.ne, s.nd⟩
theorem DR.app {y : Int} {g cap H : Nat} {o : Obj} (s : DR w1 Dd B cp ua cu v x tl W) (hD : w1.heap.size <= Dd) (hDB : Dd ≠ B) (hk : tl.length = k) (hown : W'.ownsRow w1.heap.size 3 1 (.slice (some ⟨g, 0, none⟩) (k + 1) cap) (k + 1) (tl.map (Value.int .i64) ++ [.int .i64 y])) (hg : (W.alloc o).grownBy W' v.ownBlock) (hat : v.ownBlock = some g \/ g = H) (hH : B < H) (hH2 : Dd < H) :
  DR w1 Dd B cp ua cu (.slice (some ⟨g, 0, none⟩) (k + 1) cap) x (tl ++ [y]) (W'.setCell ⟨Dd, 2, none⟩ (.slice (some ⟨g, 0, none⟩) (k + 1) cap)) := by
 have j' := s.j.app hk hown hg
 have nb : g ≠ B := fun e => by
  rcases hat with h | h
  ·exact s.ne (by rw [h, e])
  omega
 have nd : g ≠ Dd := fun e => by
  rcases hat with h | h
  ·exact s.nd (by rw [h, e])
  omega
 have nb' : Value.ownBlock (.slice (some ⟨g, 0, none⟩) (k + 1) cap) ≠ some B := by show some g ≠ some B; intro e; simp only [qA] at e; exact nb e
 have nd' : Value.ownBlock (.slice (some ⟨g, 0, none⟩) (k + 1) cap) ≠ some Dd := by show some g ≠ some Dd; intro e; simp only [qA] at e; exact nd e
 exact ⟨j'.b.setCell hD _, (s.d.grown hg s.nd).set 2 _, (s.ox.grown hg s.ne).setOther (fun _ => hDB) _ _, j'.set hD nd' _ _, nb', nd'⟩
end
theorem leave_test (w1 : World) (Dd B cp : Nat) (ua : Option Addr) (cu : Nat) (v : Value) (x tl : List Int) {skip : Int} {ga : Option Addr} {gcap : Nat} {gc : Option Addr} {gcap' : Nat} {K : Int} (C D U : List Int) (y : Int) {P R : Int} {W : World} (s : DR w1 Dd B cp ua cu v x tl W) (iC : Ints W ga 3 C) (iD : Ints W gc 2 D) (iU : Ints W ua 2 U) (hy : atV C D K x U = y)
  (p1 : bndP P C x) (p2 : bndP R D U) (zP : 0 <= P) (zQ : 0 <= R) (tP : P <= 100000000000) (tQ : R <= 100000000000) (bK : -10000000 <= K /\ K <= 10000000) :
  Calls Tryz.prog 115 #[.pointer (some ⟨Dd, 0, none⟩), .iface 198 (.agg #[.int .i64 skip, .slice ga 3 gcap, .slice gc 2 gcap', .int .i64 K])] W fun e w' => e = .returned (.int .i64 (if y < 0 then skip else 0)) /\ Below W.heap.size W w' := by
 have h1 := as_testStep_testStep;have HY : Hid (atV C D K x U = y) := hy;clear hy;have al : Below W.heap.size W (W.alloc (.cells #[.int .i64 skip, .slice ga 3 gcap, .slice gc 2 gcap', .int .i64 K] 198)) := bal;have bxa := Cel.new W [.int .i64 skip, .slice ga 3 gcap, .slice gc 2 gcap', .int .i64 K] 198;have sa := s.below al;have ia := iC.below al;have ib := iD.below al;have iu := iU.below al
 go_enter Tryz.func115, Tryz.ntmps115
 go_upto_region 4 with fail
 obtain ⟨Wa, hWa⟩ : ∃ Wa, Wa = W.alloc (.cells #[.int .i64 skip, .slice ga 3 gcap, .slice gc 2 gcap', .int .i64 K] 198) := ⟨_, rfl⟩
 rw [<- hWa] at sa bxa ia ib iu al ⊢;clear hWa s iC iD iU;have hn : Wa.cell? ⟨Dd, 0, none⟩ = some (.slice (some ⟨B, 0, none⟩) 3 cp) /\ Wa.cell? ⟨Dd, 1, none⟩ = some (.slice ua 2 cu) /\ Wa.cell? ⟨W.heap.size, 1, none⟩ = some (.slice ga 3 gcap) /\ Wa.cell? ⟨W.heap.size, 2, none⟩ = some (.slice gc 2 gcap') /\ Wa.cell? ⟨W.heap.size, 3, none⟩ = some (.int .i64 K) := ⟨sa.d.cell 0, sa.d.cell 1, bxa.cell 1, bxa.cell 2, bxa.cell 3⟩
 go_region_held3 (fun w' => w'.cell? ⟨Dd, 0, none⟩ = some (.slice (some ⟨B, 0, none⟩) 3 cp) /\ w'.cell? ⟨Dd, 1, none⟩ = some (.slice ua 2 cu) /\ w'.cell? ⟨W.heap.size, 1, none⟩ = some (.slice ga 3 gcap) /\ w'.cell? ⟨W.heap.size, 2, none⟩ = some (.slice gc 2 gcap') /\ w'.cell? ⟨W.heap.size, 3, none⟩ = some (.int .i64 K)) (first | with_reducible assumption | exact hn)
  (first
   | (go_at_call 145
      refine (iatG_any C D x U (by exact ia.below (Below.refl _ _).drew) (by exact ib.below (Below.refl _ _).drew) (by exact sa.ox.ints.below (Below.refl _ _).drew) (by exact iu.below (Below.refl _ _).drew) P R p1 p2 zP zQ tP tQ bK).mono ?_;rintro ee w3 ⟨rfl, b3⟩;rw [HY.out];have b3' := below_of_drew b3;have sd3 := sa.d.below b3';have bx3 := bxa.below b3'
      have hn3 : w3.cell? ⟨Dd, 0, none⟩ = some (.slice (some ⟨B, 0, none⟩) 3 cp) /\ w3.cell? ⟨Dd, 1, none⟩ = some (.slice ua 2 cu) /\ w3.cell? ⟨W.heap.size, 1, none⟩ = some (.slice ga 3 gcap) /\ w3.cell? ⟨W.heap.size, 2, none⟩ = some (.slice gc 2 gcap') /\ w3.cell? ⟨W.heap.size, 3, none⟩ = some (.int .i64 K) := ⟨sd3.cell 0, sd3.cell 1, bx3.cell 1, bx3.cell 2, bx3.cell 3⟩))
 have bb := btr al b3';have k0 := bx3.cell 0;simp only [List.getElem?_cons_zero] at k0
 by_cases hneg : y < 0
 ·go_wp2
  go_ret
  exact ⟨rfl, bb⟩
 go_wp2
 go_ret
 exact ⟨rfl, bb⟩
end Go.Proofs.YtpmihhbgjimpmaaGreatDoor
