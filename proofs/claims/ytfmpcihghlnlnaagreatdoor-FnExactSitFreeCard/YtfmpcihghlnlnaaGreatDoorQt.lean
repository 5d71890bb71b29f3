/-
  Lemmas that the claim's last text rests on.
-/
import Derived.Test.YtfmpcihghlnlnaaGreatDoorQs
import Derived.Test.YtfmpcihghlnlnaaGreatDoorQo
namespace Go.Proofs.YtfmpcihghlnlnaaGreatDoor
open Go.RowKit Go.Deep
open World renaming size_alloc → qA
open List renaming setIfInBounds_toArray → qB, set_cons_zero → qC, set_cons_succ → qD, getElem_cons_zero → qE, getElem_cons_succ → qF, getElem_toArray → qG
open Nat renaming le_refl → qH
set_option linter.unusedVariables false
set_option linter.unusedSimpArgs false
set_option maxRecDepth 100000
set_option maxHeartbeats 25600000
theorem sstill_any {G cg : Nat} (f : Nat -> Bool) {x : Option Addr} {cx : Nat} (X : List Int) {w : World} (hf : OwnB w G f) (hX : Ints w x 3 X) :
  Calls Tryz.prog 41 #[.slice (some ⟨G, 0, none⟩) 3 cg, .slice x 3 cx] w fun e w' => e = .returned (.bool (!pinned f X)) /\ w' = w := by
 obtain ⟨xb, xo, rfl, hc⟩ := hX.pos (by omega);have HC : Hid (∀ i, i < 3 -> w.cell? ⟨xb, xo + i, none⟩ = some (.int .i64 (X.getD i 0))) := hc;have HF : Hid (OwnB w G f) := hf;clear hc hf
 go_enter Tryz.func41, Tryz.ntmps41
 go_wp2_with fail
 go_loopw [5] (fun i wr => ∃ k : Nat, k <= 3 /\ i = .int .i64 k /\ (∀ j, j < k -> (f j && (X[j]?.getD 0 != 0)) = false) /\ wr = w) (fun i _ => 3 - (intOf i).toNat)
 case atStart => exact ⟨0, by omega, rfl, fun j hj => by omega, rfl⟩
 case round =>
  obtain ⟨k, hk, rfl, hz, rfl⟩ := hrel;have HZ : Hid _ := hz;clear hz
  by_cases hlt : k < 3
  ·have hk' : (k : Int) < 3 := by omega
   have hx := HC.out k hlt;rw [List.getD_eq_getElem?_getD] at hx
   have hp : wr.cell? ⟨G, k, none⟩ = some (.bool (f k)) := by
    obtain ⟨cur, hc, hv⟩ := HF.out
    exact (hc.cell k).trans (hv k hlt)
   obtain ⟨b, hb⟩ : ∃ b, f k = b := ⟨_, rfl⟩
   obtain ⟨y, hy⟩ : ∃ y, X[k]?.getD 0 = y := ⟨_, rfl⟩
   have HB : Hid (f k = b) := hb;have HY : Hid (X[k]?.getD 0 = y) := hy;rw [hb] at hp;rw [hy] at hx;clear hb hy
   cases b
   ·go_wp2
    go_roundw
    case rel => exact ⟨k + 1, by omega, by go_num, fun j hj => if h : j < k then HZ.out j h else by (obtain rfl : j = k := by omega); rw [HB.out]; rfl, by first | rfl | trivial⟩
    case measure => simp [intOf]; omega
   by_cases hy0 : y = 0
   ·have hy1 : (y != 0) = false := by simp [hy0]
    go_wp2
    go_roundw
    case rel => exact ⟨k + 1, by omega, by go_num, fun j hj => if h : j < k then HZ.out j h else by (obtain rfl : j = k := by omega); rw [HB.out, HY.out]; simp [hy0], by first | rfl | trivial⟩
    case measure => simp [intOf]; omega
   have hy1 : (y != 0) = true := by simp [hy0]
   go_wp2
   go_ret
   exact ⟨by (show Ending.returned (.bool false) = _); rw [show pinned f X = true from any_take hlt HZ.out (by rw [HB.out, HY.out]; simp [hy0])]; rfl, rfl⟩
  have hk' : ¬ (k : Int) < 3 := by omega
  go_wp2
  go_ret
  exact ⟨by (show Ending.returned (.bool true) = _); rw [show pinned f X = false from any_none (fun j hj => HZ.out j (by omega))]; rfl, rfl⟩
theorem bans_yes {m : Nat} {C D : List Int} {ss : List IV} {s : Int} {E FC FD : List Int} {FK : Int} {U : List Int} (hv : viewB 3 m C D ss s 3 E = true) (hf : formB 3 2 FC FD FK = true) (hU : okN 2 9 2 U = true) : bansB 3 m C D ss s 3 E 3 2 FC FD FK 2 U = bnds m C D ss s E FC FD FK U := by
 rw [bansB, if_pos (by rw [bokB, hv, hf, hU]; rfl)]
theorem lit00 (V : World) : Ints (V.alloc (.cells #[.int .i64 0, .int .i64 0] 3)) (some ⟨V.heap.size, 0, none⟩) 2 [0, 0] := by
 have q := Cel.new V [.int .i64 0, .int .i64 0] 3;refine ⟨rfl, fun i hi => ⟨_, 0, rfl, ?_⟩⟩;rw [Nat.zero_add, q.cell i]
 rcases i with _ | _ | i
 ·rfl
 ·rfl
 omega
theorem spotk_any (k : Nat) (hk : k < 3) {w : World} : Calls Tryz.prog 58 #[.int .i64 k] w fun e w' => ∃ a cap c cap', e = .returned (formV a 3 cap c 2 cap' 0) /\ Ints w' a 3 (potX k).1 /\ Ints w' c 2 [0, 0] /\ Below w.heap.size w w' := by
 refine (spot_any k w).mono ?_;rintro e w' ⟨a, n, cap, c, m, cap', B1, B2, he, hn, hm, hb, o1, o2, _⟩;rw [potC_in (k : Int) k rfl] at hn o1;rw [potD_in (k : Int)] at hm o2;have e1 : n = 3 := by rw [<- hn]; simp
 have e2 : m = 2 := by rw [<- hm]; rfl
 subst e1 e2;refine ⟨a, cap, c, cap', he, ?_, ?_, hb⟩
 ·have h := o1.ints;simp only [List.length_set, List.length_cons, List.length_nil] at h
  exact h
 exact o2.ints
def ovR (b : Int × Int × Bool) : Bool := b.2.2 && over1 b
def myR (b : Int × Int × Bool) : Bool := !b.2.2 || may1 b
def rangeL (f : Nat -> Int × Int × Bool) : Int := if (List.range 3).any (fun v => ovR (f v)) then 2 else if (List.range 3).any (fun v => myR (f v)) then 0 else 1
theorem any_succ (p : Nat -> Bool) (k : Nat) : (List.range (k + 1)).any p = ((List.range k).any p || p k) := by
 rw [List.range_succ, List.any_append]; simp
theorem potX_ok : ∀ k, k < 3 -> formB 3 2 (potX k).1 [0, 0] 0 = true := fun k hk => by
 rcases k with _ | _ | _ | k
 ·decide
 ·decide
 ·decide
 omega
theorem ssure_any (a : Option Addr) (cap : Nat) (c : Option Addr) (m cap' : Nat) (ad : Option Addr) (N pc : Nat) (s : Int) (e : Option Addr) (ec : Nat) (ga : Option Addr) (G gc : Nat) (gs : List FV) (aa : Option Addr) (A ac : Nat) (us : List FV) (ta : Option Addr) (T tc : Nat) (ts : List FV) (st : Bool) (u : Option Addr) (uc : Nat) (C D E U : List Int) (ss : List IV) (w : World)
  (hC : Ints w a 3 C) (hD : Ints w c m D) (hE : Ints w e 3 E) (hU : Ints w u 2 U) (hN : ss.length = N) (hF : ISG w ad ss) (hN1 : N <= 1048576) (hv : viewB 3 m C D ss s 3 E = true) (bU : okN 2 9 2 U = true) (RA : RowAt w ga G gs aa A us ta T ts) (hB : gs.all FV.ok = true) :
  Calls Tryz.prog 70 #[treV a 3 cap c m cap', .slice ad N pc, .int .i64 s, .slice e 3 ec, rowV ga G gc aa A ac ta T tc st, .slice u 2 uc] w fun r w' => r = .returned (.bool (gs.all fun g => sureG m C D ss s E U g.frm)) /\ Below w.heap.size w w' := by
 have HN : Hid (ss.length = N) := hN;have HVW : Hid (viewB 3 m C D ss s 3 E = true) := hv;have HUU : Hid (okN 2 9 2 U = true) := bU;have HO : Hid (gs.all FV.ok = true) := hB;have hm3 : m <= 3 := (viewB_elim hv).2.2.2.1;have HGL : Hid (gs.length = G) := RA.hg;have hG1 := RA.zg;clear hN hv bU hB;obtain ⟨SU, hSU⟩ : ∃ f : FV -> Bool, f = fun g => sureG m C D ss s E U g.frm := ⟨_, rfl⟩
 have HSU : Hid (∀ g, SU g = sureG m C D ss s E U g.frm) := fun g => by rw [hSU]
 rw [<- hSU];clear hSU
 go_enter Tryz.func70, Tryz.ntmps70
 have al := (Below.refl (w).heap.size (w)).alloc (qH _) (.cells #[.slice a 3 cap, .slice c m cap'] 59);have BB := al;replace hC := hC.below al;replace hD := hD.below al;replace hE := hE.below al;replace hU := hU.below al;replace hF := hF.below al;replace RA := RA.below al;clear al;have q6 := Cel.new (w) [.slice a 3 cap, .slice c m cap'] 59;have al := (Below.refl ((w).alloc (.cells #[.slice a 3 cap, .slice c m cap'] 59)).heap.size ((w).alloc (.cells #[.slice a 3 cap, .slice c m cap'] 59))).alloc (qH _) (.cells #[.slice ga G gc, .slice aa A ac, .slice ta T tc, .bool st] 113);replace BB := btr BB al;replace hC := hC.below al;replace hD := hD.below al;replace hE := hE.below al;replace hU := hU.below al;replace hF := hF.below al;replace RA := RA.below al;replace q6 := q6.below al;clear al;have q10 := Cel.new ((w).alloc (.cells #[.slice a 3 cap, .slice c m cap'] 59)) [.slice ga G gc, .slice aa A ac, .slice ta T tc, .bool st] 113;simp only [qA] at q10;obtain ⟨g6_0, g6_1⟩ := q6.c2;obtain ⟨g10_0, g10_1, g10_2, g10_3⟩ := q10.c4
 go_wp2_with fail
 generalize ((w).alloc (.cells #[.slice a 3 cap, .slice c m cap'] 59)).alloc (.cells #[.slice ga G gc, .slice aa A ac, .slice ta T tc, .bool st] 113) = W1 at hC hD hE hU hF RA q6 q10 BB g6_0 g6_1 g10_0 g10_1 g10_2 g10_3 ⊢;obtain ⟨X10, hX10⟩ : ∃ x, x = w.heap.size + 1 := ⟨_, rfl⟩
 rw [<- hX10];rw [<- hX10] at q10 g10_0 g10_1 g10_2 g10_3;have loX10 : w.heap.size + 1 <= X10 := by omega
 have upX10 : X10 <= w.heap.size + 1 := by omega
 clear hX10;obtain ⟨X6, hX6⟩ : ∃ x, x = w.heap.size := ⟨_, rfl⟩
 rw [<- hX6];rw [<- hX6] at q6 g6_0 g6_1;have loX6 : w.heap.size <= X6 := by omega
 have upX6 : X6 <= w.heap.size := by omega
 clear hX6;clear g6_0 g6_1 g10_0 g10_1 g10_2 g10_3
 go_loopw [13, 14, 15, 16] (fun i _ _ _ wr => ∃ k : Nat, k <= G /\ i = .int .i64 k /\ Below W1.heap.size W1 wr /\ (gs.take k).all SU = true) (fun i _ _ _ _ => G - (intOf i).toNat)
 case atStart => exact ⟨0, Nat.zero_le _, rfl, Below.refl _ _, by simp⟩
 case round =>
  obtain ⟨k, hk, rfl, hb, hall⟩ := hrel;have HA : Hid ((gs.take k).all SU = true) := hall;clear hall;have BR := hb;replace BB := btr BB hb;replace hC := hC.below hb;replace hD := hD.below hb;replace hE := hE.below hb;replace hU := hU.below hb;replace hF := hF.below hb;replace RA := RA.below hb;replace q6 := q6.below hb;replace q10 := q10.below hb;clear hb
  by_cases hlt : k < G
  ·have hlt' : (k : Int) < (G : Int) := by omega
   obtain ⟨fb, fo, rfl, e0, e1, e2, e3⟩ := RA.g k (by rw [HGL.out]; exact hlt);have hok := all_at (k := k) HO.out (by rw [HGL.out]; exact hlt);generalize HGk : gs[k]?.getD noFV = f at *;have HG' : Hid (gs[k]?.getD noFV = f) := HGk;clear HGk;obtain ⟨fa, fn, fcap, fc, fm, fcap', fK, fC, fD⟩ := f;obtain ⟨iC, iD, _, _⟩ := e3;simp only at e0 e1 e2 iC iD;obtain ⟨rfl, rfl, bC, bD, bK⟩ := formB_elim (show formB fn fm fC fD fK = true from hok);have HFB : Hid (formB 3 2 fC fD fK = true) := hok;clear hok bC bD bK;have HX : Hid (SU (gs[k]?.getD noFV) = ((bnds m C D ss s E fC fD fK U).2.2 && decide (0 <= (bnds m C D ss s E fC fD fK U).1))) := by (show _ = _); rw [HG'.out, HSU.out]; rfl
   clear HG';obtain ⟨g6_0, g6_1⟩ := q6.c2;obtain ⟨g10_0, g10_1, g10_2, g10_3⟩ := q10.c4
   go_upto_region 4 with fail
   clear g6_0 g6_1 g10_0 g10_1 g10_2 g10_3;have KP : Hid (∀ W : World, Below wr.heap.size wr W -> (W.cell? ⟨X6, 0, none⟩ = some (.slice a 3 cap) /\ W.cell? ⟨X6, 1, none⟩ = some (.slice c m cap') /\ W.cell? ⟨X10, 0, none⟩ = some (.slice (some ⟨fb, fo, none⟩) G gc) /\ W.cell? ⟨X10, 1, none⟩ = some (.slice aa A ac) /\ W.cell? ⟨X10, 2, none⟩ = some (.slice ta T tc) /\ W.cell? ⟨X10, 3, none⟩ = some (.bool st) /\ W.cell? ⟨fb, fo + k * 3, none⟩ = some (.slice fa 3 fcap) /\ W.cell? ⟨fb, fo + k * 3 + 1, none⟩ = some (.slice fc 2 fcap') /\ W.cell? ⟨fb, fo + k * 3 + 2, none⟩ = some (.int .i64 fK))) := fun W hW => ⟨(q6.below hW).cell 0, (q6.below hW).cell 1, (q10.below hW).cell 0, (q10.below hW).cell 1, (q10.below hW).cell 2, (q10.below hW).cell 3, (hW.cell (p := ⟨fb, fo + k * 3, none⟩) (block_lt e0)).trans e0, (hW.cell (p := ⟨fb, fo + k * 3 + 1, none⟩) (block_lt e0)).trans e1, (hW.cell (p := ⟨fb, fo + k * 3 + 2, none⟩) (block_lt e0)).trans e2⟩
   clear e0 e1 e2;have d0 : Below wr.heap.size wr wr.drew := (Below.refl _ _).drew;refine wp_region_ends (fun X => X.cell? ⟨X6, 0, none⟩ = some (.slice a 3 cap) /\ X.cell? ⟨X6, 1, none⟩ = some (.slice c m cap') /\ X.cell? ⟨X10, 0, none⟩ = some (.slice (some ⟨fb, fo, none⟩) G gc) /\ X.cell? ⟨X10, 1, none⟩ = some (.slice aa A ac) /\ X.cell? ⟨X10, 2, none⟩ = some (.slice ta T tc) /\ X.cell? ⟨X10, 3, none⟩ = some (.bool st) /\ X.cell? ⟨fb, fo + k * 3, none⟩ = some (.slice fa 3 fcap) /\ X.cell? ⟨fb, fo + k * 3 + 1, none⟩ = some (.slice fc 2 fcap') /\ X.cell? ⟨fb, fo + k * 3 + 2, none⟩ = some (.int .i64 fK)) (fun _ => True) 17 (by kernel_rfl) ?_;have hSS := And.intro (KP.out _ d0) True.intro;obtain ⟨V0, hV0⟩ : ∃ V, V = wr.drew := ⟨_, rfl⟩
   rw [<- hV0] at hSS d0 ⊢;clear hV0;refine tkl 0 rfl hSS ?_;refine tkl 1 rfl hSS ?_;refine tkl 2 rfl hSS ?_;refine tkl 3 rfl hSS ?_;simp only [Act.put, qB, qD, qC, qG, qF, qE];refine tkl 4 rfl hSS ?_;refine tkl 5 rfl hSS ?_;refine tkl 6 rfl hSS ?_;refine tkl 7 rfl hSS ?_;simp only [Act.put, qB, qD, qC, qG, qF, qE];refine tkl 8 rfl hSS ?_;refine tkl 9 rfl hSS ?_;refine wo1 10 rfl fun K hK => ?_;go_simp;refine (sbounds_any a 3 cap c m cap' ad N pc s e 3 ec fa 3 fcap fc 2 fcap' fK u 2 uc C D E fC fD U ss V0 (hC.below d0) (hD.below d0) (hE.below d0) (iC.below d0) (iD.below d0) (hU.below d0) HN.out (hF.below d0) (by omega) (by omega) (by omega) (by omega) (by omega) (by omega) hN1).mono ?_;rintro ee V1 ⟨rfl, b1⟩;rw [bans_yes HVW.out HFB.out HUU.out];obtain ⟨x, hx⟩ : ∃ x, bnds m C D ss s E fC fD fK U = x := ⟨_, rfl⟩
   have HX2 : Hid (SU (gs[k]?.getD noFV) = (x.2.2 && decide (0 <= x.1))) := by (show _ = _); rw [HX.out, hx]
   rw [hx];clear hx HX;obtain ⟨lo, hi, kn⟩ := x;simp only [ansV];have d1 := btr d0 b1;clear hSS;have hSS := And.intro (KP.out _ d1) True.intro;(try dsimp only);refine kk0 hK (hSS.1) ?_;refine tkl 11 rfl hSS ?_;refine tkl 12 rfl hSS ?_;refine tkl 13 rfl hSS ?_;refine tkl 14 rfl hSS ?_;simp only [Act.put, qB, qD, qC, qG, qF, qE];refine wo1 15 rfl fun K hK => ?_;go_simp;refine kk0 hK (hSS.1) ?_;refine wo1 16 rfl fun K hK => ?_;go_simp;refine kk0 hK (hSS.1) ?_;refine wo1 17 rfl fun K hK => ?_;go_simp;refine kk0 hK (hSS.1) ?_;refine wod ?_ _;have BF := btr BB d1;have BT := btr BR d1;clear KP hSS d1 d0 b1 iC iD BB BR hC hD hE hU hF RA q6 q10
   cases kn
   ·go_wp2
    go_ret
    exact ⟨ret_bool (by rw [allP_no (k := k) (by rw [HGL.out]; exact hlt) (by rw [HX2.out]; simp <;> omega)]), BF⟩
   by_cases hlo : lo < 0
   ·go_wp2
    go_ret
    exact ⟨ret_bool (by rw [allP_no (k := k) (by rw [HGL.out]; exact hlt) (by rw [HX2.out]; simp <;> omega)]), BF⟩
   have hlo' : 0 <= lo := by omega
   go_wp2
   go_roundw
   case rel => exact ⟨k + 1, by omega, by go_num, BT, allP_take_succ (by rw [HGL.out]; exact hlt) HA.out (by rw [HX2.out]; simp; omega)⟩
   case measure => simp [intOf]; omega
  have hlt' : ¬ (k : Int) < (G : Int) := by omega
  obtain ⟨g10_0, g10_1, g10_2, g10_3⟩ := q10.c4
  go_wp2
  go_ret
  exact ⟨ret_bool (by have := HA.out; rw [List.take_of_length_le (by rw [HGL.out]; omega)] at this; exact this.symm), BB⟩
theorem srange_any (a : Option Addr) (cap : Nat) (c : Option Addr) (m cap' : Nat) (ad : Option Addr) (N pc : Nat) (s : Int) (e : Option Addr) (ec : Nat) (C D E : List Int) (ss : List IV) {w : World}
  (hC : Ints w a 3 C) (hD : Ints w c m D) (hE : Ints w e 3 E) (hN : ss.length = N) (hF : ISG w ad ss) (hN1 : N <= 1048576) (hv : viewB 3 m C D ss s 3 E = true) :
  Calls Tryz.prog 101 #[treV a 3 cap c m cap', .slice ad N pc, .int .i64 s, .slice e 3 ec] w fun r w' => r = .returned (.int .i64 (rangeL (potB m C D ss s E [0, 0]))) /\ Below w.heap.size w w' := by
 have HN : Hid (ss.length = N) := hN;have HVW : Hid (viewB 3 m C D ss s 3 E = true) := hv;have hm3 : m <= 3 := (viewB_elim hv).2.2.2.1;clear hN hv;obtain ⟨F, hF0⟩ : ∃ f, potB m C D ss s E [0, 0] = f := ⟨_, rfl⟩
 have HF : Hid (∀ k, bnds m C D ss s E (potX k).1 [0, 0] 0 [0, 0] = F k) := fun k => by rw [<- hF0]; rfl
 rw [hF0];clear hF0
 go_enter Tryz.func101, Tryz.ntmps101
 have al := (Below.refl (w).heap.size (w)).alloc (qH _) (.cells #[.slice a 3 cap, .slice c m cap'] 59);have BB := al;replace hC := hC.below al;replace hD := hD.below al;replace hE := hE.below al;replace hF := hF.below al;clear al;have q4 := Cel.new (w) [.slice a 3 cap, .slice c m cap'] 59;obtain ⟨g4_0, g4_1⟩ := q4.c2
 go_wp2_with fail
 generalize (w).alloc (.cells #[.slice a 3 cap, .slice c m cap'] 59) = W1 at hC hD hE hF q4 BB g4_0 g4_1 ⊢;obtain ⟨X4, hX4⟩ : ∃ x, x = w.heap.size := ⟨_, rfl⟩
 rw [<- hX4];rw [<- hX4] at q4 g4_0 g4_1;have loX4 : w.heap.size <= X4 := by omega
 have upX4 : X4 <= w.heap.size := by omega
 clear hX4;clear g4_0 g4_1
 go_loopw [9, 10, 11, 12, 13] (fun o i _ _ _ wr => ∃ (k : Nat) (y : Int), k <= 3 /\ i = .int .i64 k /\ o = .int .i64 y /\ Below W1.heap.size W1 wr /\ (∀ j, j < k -> ovR (F j) = false) /\ y = (if (List.range k).any (fun v => myR (F v)) then 0 else 1)) (fun _ i _ _ _ _ => 3 - (intOf i).toNat)
 case atStart => exact ⟨0, 1, by omega, rfl, rfl, Below.refl _ _, fun j hj => by omega, rfl⟩
 case round =>
  obtain ⟨k, y, hk, rfl, rfl, hb, hz, hy⟩ := hrel;have HZ : Hid (∀ j, j < k -> ovR (F j) = false) := hz;have HY : Hid (y = (if (List.range k).any (fun v => myR (F v)) then 0 else 1)) := hy;clear hz hy;have BR := hb;replace BB := btr BB hb;replace hC := hC.below hb;replace hD := hD.below hb;replace hE := hE.below hb;replace hF := hF.below hb;replace q4 := q4.below hb;clear hb
  by_cases hlt : k < 3
  ·have hlt' : (k : Int) < 3 := by omega
   go_upto_region 5 with fail
   go_cut [11, 12, 13] from 14 to 48 (fun v1 v2 v3 wx => ∃ x : Int × Int × Bool, v1 = .int .i64 x.1 /\ v2 = .int .i64 x.2.1 /\ v3 = .bool x.2.2 /\ Hid (F k = x) /\ Below wr.heap.size wr wx)
   case first =>
    have KP : Hid (∀ W : World, Below wr.heap.size wr W -> (W.cell? ⟨X4, 0, none⟩ = some (.slice a 3 cap) /\ W.cell? ⟨X4, 1, none⟩ = some (.slice c m cap'))) := fun W hW => ⟨(q4.below hW).cell 0, (q4.below hW).cell 1⟩
    have d0 : Below wr.heap.size wr wr.drew := (Below.refl _ _).drew;refine wp_region_ends (fun X => X.cell? ⟨X4, 0, none⟩ = some (.slice a 3 cap) /\ X.cell? ⟨X4, 1, none⟩ = some (.slice c m cap')) (fun _ => True) 14 (by kernel_rfl) ?_;have hSS := And.intro (KP.out _ d0) True.intro;obtain ⟨V0, hV0⟩ : ∃ V, V = wr.drew := ⟨_, rfl⟩
    rw [<- hV0] at hSS d0 ⊢;clear hV0;refine tkl 0 rfl hSS ?_;refine tkl 1 rfl hSS ?_;refine tkl 2 rfl hSS ?_;refine tkl 3 rfl hSS ?_;refine tkl 4 rfl hSS ?_;simp only [Act.put, qB, qD, qC, qG, qF, qE];refine wo2 5 6 rfl rfl (fun K hK => ?_) fun K hK => ?_
    ·skip
     go_simp;refine (spotk_any k hlt).mono ?_;rintro ee V1 ⟨pa, pcap, pd, pcap', rfl, i1, i2, b1⟩;have d1 := btr d0 b1;clear hSS;have hSS := And.intro (KP.out _ d1) True.intro;(try dsimp only);refine kk0 hK (hSS.1) ?_;refine wo1 6 rfl fun K hK => ?_;go_simp;obtain ⟨V2, hV2⟩ : ∃ W, W = V1.alloc (.cells #[.int .i64 0, .int .i64 0] 3) := ⟨_, rfl⟩
     have AL : Below V1.heap.size V1 V2 := by rw [hV2]; exact bal
     have lz := lit00 V1;rw [<- hV2] at lz;have d2 := btr d1 AL;rw [<- hV2];clear hSS;have hSS := And.intro (KP.out _ d2) True.intro;(try dsimp only);refine kk0 hK (hSS.1) ?_;replace i1 := i1.below AL;replace i2 := i2.below AL;clear hV2;refine wo1 7 rfl fun K hK => ?_;go_simp;refine (sbounds_any a 3 cap c m cap' ad N pc s e 3 ec pa 3 pcap pd 2 pcap' 0 (some ⟨V1.heap.size, 0, none⟩) 2 2 C D E (potX k).1 [0, 0] [0, 0] ss V2 (hC.below d2) (hD.below d2) (hE.below d2) i1 i2 lz HN.out (hF.below d2) (by omega) (by omega) (by omega) (by omega) (by omega) (by omega) hN1).mono ?_;rintro ee V3 ⟨rfl, b3⟩;rw [bans_yes HVW.out (potX_ok k hlt) (by decide), HF.out];obtain ⟨x, hx⟩ : ∃ x, F k = x := ⟨_, rfl⟩
     have HX : Hid (F k = x) := hx;rw [hx];clear hx;simp only [ansV];have d3 := btr d2 b3;clear hSS;have hSS := And.intro (KP.out _ d3) True.intro;(try dsimp only);refine kk0 hK (hSS.1) ?_;refine tkl 8 rfl hSS ?_;refine tkl 9 rfl hSS ?_;refine tkl 10 rfl hSS ?_;refine tkl 11 rfl hSS ?_;simp only [Act.put, qB, qD, qC, qG, qF, qE];refine wo1 12 rfl fun K hK => ?_;go_simp;refine kk0 hK (hSS.1) ?_;refine wo1 13 rfl fun K hK => ?_;go_simp;refine kk0 hK (hSS.1) ?_;refine wo1 14 rfl fun K hK => ?_;go_simp;refine kk0 hK (hSS.1) ?_;refine wod ?_ _;clear KP hSS i1 i2 lz
     go_wp2_with fail
     go_meet
     case rel => exact ⟨x, rfl, rfl, rfl, HX, d3⟩
    skip
    go_simp;obtain ⟨V1, hV1⟩ : ∃ W, W = V0.alloc (.cells #[.int .i64 0, .int .i64 0] 3) := ⟨_, rfl⟩
    have AL : Below V0.heap.size V0 V1 := by rw [hV1]; exact bal
    have lz := lit00 V0;rw [<- hV1] at lz;have d1 := btr d0 AL;rw [<- hV1];clear hSS;have hSS := And.intro (KP.out _ d1) True.intro;(try dsimp only);refine kk0 hK (hSS.1) ?_;clear hV1;refine wo1 5 rfl fun K hK => ?_;go_simp;refine (spotk_any k hlt).mono ?_;rintro ee V2 ⟨pa, pcap, pd, pcap', rfl, i1, i2, b1⟩;have d2 := btr d1 b1;clear hSS;have hSS := And.intro (KP.out _ d2) True.intro;(try dsimp only);refine kk0 hK (hSS.1) ?_;replace lz := lz.below b1;refine wo1 7 rfl fun K hK => ?_;go_simp;refine (sbounds_any a 3 cap c m cap' ad N pc s e 3 ec pa 3 pcap pd 2 pcap' 0 (some ⟨V0.heap.size, 0, none⟩) 2 2 C D E (potX k).1 [0, 0] [0, 0] ss V2 (hC.below d2) (hD.below d2) (hE.below d2) i1 i2 lz HN.out (hF.below d2) (by omega) (by omega) (by omega) (by omega) (by omega) (by omega) hN1).mono ?_;rintro ee V3 ⟨rfl, b3⟩;rw [bans_yes HVW.out (potX_ok k hlt) (by decide), HF.out];obtain ⟨x, hx⟩ : ∃ x, F k = x := ⟨_, rfl⟩
    have HX : Hid (F k = x) := hx;rw [hx];clear hx;simp only [ansV];have d3 := btr d2 b3;clear hSS;have hSS := And.intro (KP.out _ d3) True.intro;(try dsimp only);refine kk0 hK (hSS.1) ?_;refine tkl 8 rfl hSS ?_;refine tkl 9 rfl hSS ?_;refine tkl 10 rfl hSS ?_;refine tkl 11 rfl hSS ?_;simp only [Act.put, qB, qD, qC, qG, qF, qE];refine wo1 12 rfl fun K hK => ?_;go_simp;refine kk0 hK (hSS.1) ?_;refine wo1 13 rfl fun K hK => ?_;go_simp;refine kk0 hK (hSS.1) ?_;refine wo1 14 rfl fun K hK => ?_;go_simp;refine kk0 hK (hSS.1) ?_;refine wod ?_ _;clear KP hSS i1 i2 lz
    go_wp2_with fail
    go_meet
    case rel => exact ⟨x, rfl, rfl, rfl, HX, d3⟩
   case rest =>
    obtain ⟨x, rfl, rfl, rfl, HX, b4⟩ := hcut;have BF := btr BB b4;have BT := btr BR b4;clear b4 BB BR hC hD hE hF q4;obtain ⟨lo, hi, kn⟩ := x;dsimp only
    cases kn
    ·go_wp2
     go_roundw
     case rel => exact ⟨k + 1, _, by omega, by go_num, rfl, BT, fun j hj => if h : j < k then HZ.out j h else by (obtain rfl : j = k := by omega); rw [HX.out]; simp [ovR, over1] <;> omega, by rw [any_succ, HX.out]; simp [myR]⟩
     case measure => simp [intOf]; omega
    skip
    by_cases c1 : lo > 10000
    ·go_wp2
     go_ret
     exact ⟨by rw [rangeL, if_pos (any_take (k := k) hlt HZ.out (by rw [HX.out]; simp [ovR, over1] <;> omega))]; rfl, BF⟩
    by_cases c2 : hi < -10000
    ·go_wp2
     go_ret
     exact ⟨by rw [rangeL, if_pos (any_take (k := k) hlt HZ.out (by rw [HX.out]; simp [ovR, over1] <;> omega))]; rfl, BF⟩
    by_cases c3 : lo < -10000
    ·go_wp2
     go_roundw
     case rel => exact ⟨k + 1, _, by omega, by go_num, rfl, BT, fun j hj => if h : j < k then HZ.out j h else by (obtain rfl : j = k := by omega); rw [HX.out]; simp [ovR, over1] <;> omega, by rw [any_succ, HX.out]; simp [myR, may1, c3]⟩
     case measure => simp [intOf]; omega
    by_cases c4 : hi > 10000
    ·go_wp2
     go_roundw
     case rel => exact ⟨k + 1, _, by omega, by go_num, rfl, BT, fun j hj => if h : j < k then HZ.out j h else by (obtain rfl : j = k := by omega); rw [HX.out]; simp [ovR, over1] <;> omega, by rw [any_succ, HX.out]; simp [myR, may1, c3]; omega⟩
     case measure => simp [intOf]; omega
    go_wp2
    go_roundw
    case rel => exact ⟨k + 1, _, by omega, by go_num, rfl, BT, fun j hj => if h : j < k then HZ.out j h else by (obtain rfl : j = k := by omega); rw [HX.out]; simp [ovR, over1] <;> omega, by rw [any_succ, HX.out]; (rw [show myR (lo, hi, true) = false from by simp [myR, may1] <;> omega, Bool.or_false]; exact HY.out)⟩
    case measure => simp [intOf]; omega
  have hlt' : ¬ (k : Int) < 3 := by omega
  obtain rfl : k = 3 := by omega
  go_wp2
  go_ret
  exact ⟨by rw [rangeL, if_neg (by rw [any_none (fun j hj => HZ.out j hj)]; decide), HY.out]; rfl, BB⟩
def addsL (f : Nat -> Bool) (AD : List Int) : List Int := if pinned f AD then [0, 0, 0] else AD
theorem addsL_yes {f : Nat -> Bool} {AD : List Int} (h : pinned f AD = true) : addsL f AD = [0, 0, 0] := by rw [addsL, if_pos h]
theorem addsL_no {f : Nat -> Bool} {AD : List Int} (h : pinned f AD = false) : addsL f AD = AD := by rw [addsL, if_neg (by rw [h]; decide)]
theorem sadds_any (a : Option Addr) (cap : Nat) (c : Option Addr) (m cap' : Nat) (G cg : Nat) (f : Nat -> Bool) (ga : Option Addr) (G0 gc : Nat) (gs : List FV) (aa : Option Addr) (ac : Nat) (us : List FV) (ta : Option Addr) (T tc : Nat) (ts : List FV) (st : Bool) (u : Option Addr) (uc : Nat) (C U : List Int) {w : World}
  (hC : Ints w a 3 C) (hU : Ints w u 2 U) (hf : OwnB w G f) (RA : RowAt w ga G0 gs aa 3 us ta T ts) (hB : us.all FV.ok = true) (bV : bnd 10000 C) (bU : bnd 9 U) :
  Calls Tryz.prog 99 #[treV a 3 cap c m cap', .slice (some ⟨G, 0, none⟩) 3 cg, rowV ga G0 gc aa 3 ac ta T tc st, .slice u 2 uc] w fun r w' => ∃ v, r = .returned (.tuple #[v, .bool (!pinned f (us.map (atF C U)))]) /\ JA w v (addsL f (us.map (atF C U))) w' := by
 have HO : Hid (us.all FV.ok = true) := hB;have HUL : Hid (us.length = 3) := RA.ha;clear hB;obtain ⟨i0, hi, hz0, hz1, hz2⟩ := info_parts Tryz.infoInt;obtain ⟨AD, hAD⟩ : ∃ x, us.map (atF C U) = x := ⟨_, rfl⟩
 have HAD : Hid (us.map (atF C U) = AD) := hAD;have HAL : Hid (AD.length = 3) := by (show _ = _; rw [<- hAD, List.length_map]; exact RA.ha)
 rw [hAD];clear hAD
 go_enter Tryz.func99, Tryz.ntmps99
 have al := (Below.refl (w).heap.size (w)).alloc (qH _) (.cells #[.slice a 3 cap, .slice c m cap'] 59);have BB := al;replace hC := hC.below al;replace hU := hU.below al;replace hf := hf.below al;replace RA := RA.below al;clear al;have q4 := Cel.new (w) [.slice a 3 cap, .slice c m cap'] 59;have al := (Below.refl ((w).alloc (.cells #[.slice a 3 cap, .slice c m cap'] 59)).heap.size ((w).alloc (.cells #[.slice a 3 cap, .slice c m cap'] 59))).alloc (qH _) (.cells #[.slice ga G0 gc, .slice aa 3 ac, .slice ta T tc, .bool st] 113);replace BB := btr BB al;replace hC := hC.below al;replace hU := hU.below al;replace hf := hf.below al;replace RA := RA.below al;replace q4 := q4.below al;clear al;have q6 := Cel.new ((w).alloc (.cells #[.slice a 3 cap, .slice c m cap'] 59)) [.slice ga G0 gc, .slice aa 3 ac, .slice ta T tc, .bool st] 113;simp only [qA] at q6;obtain ⟨g4_0, g4_1⟩ := q4.c2;obtain ⟨g6_0, g6_1, g6_2, g6_3⟩ := q6.c4
 go_upto_region 1 with fail
 generalize ((w).alloc (.cells #[.slice a 3 cap, .slice c m cap'] 59)).alloc (.cells #[.slice ga G0 gc, .slice aa 3 ac, .slice ta T tc, .bool st] 113) = W1 at hC hU hf RA q4 q6 BB g4_0 g4_1 g6_0 g6_1 g6_2 g6_3 ⊢;obtain ⟨X6, hX6⟩ : ∃ x, x = w.heap.size + 1 := ⟨_, rfl⟩
 rw [<- hX6];rw [<- hX6] at q6 g6_0 g6_1 g6_2 g6_3;have loX6 : w.heap.size + 1 <= X6 := by omega
 have upX6 : X6 <= w.heap.size + 1 := by omega
 clear hX6;obtain ⟨X4, hX4⟩ : ∃ x, x = w.heap.size := ⟨_, rfl⟩
 rw [<- hX4];rw [<- hX4] at q4 g4_0 g4_1;have loX4 : w.heap.size <= X4 := by omega
 have upX4 : X4 <= w.heap.size := by omega
 clear hX4;clear g4_0 g4_1 g6_0 g6_1 g6_2 g6_3
 go_wp2_with fail
 go_loopw [10, 11, 12] (fun o i _ wr => ∃ k : Nat, k <= 3 /\ i = .int .i64 k /\ (∃ xs : List Int, xs.length = k /\ xs = AD.take k /\ JA W1 o xs wr) /\ ∀ j, j < k -> (f j && (AD[j]?.getD 0 != 0)) = false) (fun _ i _ _ => 3 - (intOf i).toNat)
 case atStart => exact ⟨0, by omega, rfl, ⟨[], rfl, rfl, JA.lit W1⟩, fun j hj => by omega⟩
 case round =>
  obtain ⟨k, hk, rfl, ⟨xs, hxl, hxs, j⟩, hz⟩ := hrel;have HL : Hid (xs.length = k) := hxl;have HXS : Hid (xs = AD.take k) := hxs;have HZ : Hid (∀ j, j < k -> (f j && (AD[j]?.getD 0 != 0)) = false) := hz;clear hxl hxs hz;have hb := j.b;have B0 := BB;replace BB := btr BB hb;replace hC := hC.below hb;replace hU := hU.below hb;replace hf := hf.below hb;replace RA := RA.below hb;replace q4 := q4.below hb;replace q6 := q6.below hb;clear hb
  by_cases hlt : k < 3
  ·have hlt' : (k : Int) < 3 := by omega
   obtain ⟨fb, fo, rfl, e0, e1, e2, e3⟩ := RA.a k (by rw [HUL.out]; exact hlt);have hok := all_at (k := k) HO.out (by rw [HUL.out]; exact hlt)
   have HYK : Hid (AD[k]?.getD 0 = atF C U (us[k]?.getD noFV)) := by
    have hl : k < us.length := by rw [HUL.out]; exact hlt
    show _ = _
    rw [<- HAD.out, List.getElem?_map, List.getElem?_eq_getElem hl]; rfl
   have HTK : Hid (AD.take (k + 1) = AD.take k ++ [AD[k]?.getD 0]) := by
    have hl : k < AD.length := by rw [HAL.out]; exact hlt
    show _ = _
    rw [List.take_succ_eq_append_getElem hl, List.getElem?_eq_getElem hl]; rfl
   generalize us[k]?.getD noFV = g at *;obtain ⟨fa, fn, fcap, fc, fm, fcap', fK, fC, fD⟩ := g;obtain ⟨iC, iD, _, _⟩ := e3;simp only at e0 e1 e2 iC iD;obtain ⟨rfl, rfl, bC, bD, bK⟩ := formB_elim (show formB fn fm fC fD fK = true from hok);clear hok
   have hp : ∀ W : World, Below wr.heap.size wr W -> W.cell? ⟨G, k, none⟩ = some (.bool (f k)) := fun W hW => by
    obtain ⟨cur, hc, hv⟩ := hf.below hW
    exact (hc.cell k).trans (hv k hlt)
   have HPC : Hid (∀ W : World, Below wr.heap.size wr W -> W.cell? ⟨G, k, none⟩ = some (.bool (f k))) := hp;clear hp
   go_upto_region 5 with fail
   have KP : Hid (∀ W : World, Below wr.heap.size wr W -> (W.cell? ⟨X4, 0, none⟩ = some (.slice a 3 cap) /\ W.cell? ⟨X4, 1, none⟩ = some (.slice c m cap') /\ W.cell? ⟨X6, 0, none⟩ = some (.slice ga G0 gc) /\ W.cell? ⟨X6, 1, none⟩ = some (.slice (some ⟨fb, fo, none⟩) 3 ac) /\ W.cell? ⟨X6, 2, none⟩ = some (.slice ta T tc) /\ W.cell? ⟨X6, 3, none⟩ = some (.bool st) /\ W.cell? ⟨fb, fo + k * 3, none⟩ = some (.slice fa 3 fcap) /\ W.cell? ⟨fb, fo + k * 3 + 1, none⟩ = some (.slice fc 2 fcap') /\ W.cell? ⟨fb, fo + k * 3 + 2, none⟩ = some (.int .i64 fK))) := fun W hW => ⟨(q4.below hW).cell 0, (q4.below hW).cell 1, (q6.below hW).cell 0, (q6.below hW).cell 1, (q6.below hW).cell 2, (q6.below hW).cell 3, (hW.cell (p := ⟨fb, fo + k * 3, none⟩) (block_lt e0)).trans e0, (hW.cell (p := ⟨fb, fo + k * 3 + 1, none⟩) (block_lt e0)).trans e1, (hW.cell (p := ⟨fb, fo + k * 3 + 2, none⟩) (block_lt e0)).trans e2⟩
   clear e0 e1 e2;have d0 : Below wr.heap.size wr wr.drew := (Below.refl _ _).drew;refine wp_region_ends (fun X => X.cell? ⟨X4, 0, none⟩ = some (.slice a 3 cap) /\ X.cell? ⟨X4, 1, none⟩ = some (.slice c m cap') /\ X.cell? ⟨X6, 0, none⟩ = some (.slice ga G0 gc) /\ X.cell? ⟨X6, 1, none⟩ = some (.slice (some ⟨fb, fo, none⟩) 3 ac) /\ X.cell? ⟨X6, 2, none⟩ = some (.slice ta T tc) /\ X.cell? ⟨X6, 3, none⟩ = some (.bool st) /\ X.cell? ⟨fb, fo + k * 3, none⟩ = some (.slice fa 3 fcap) /\ X.cell? ⟨fb, fo + k * 3 + 1, none⟩ = some (.slice fc 2 fcap') /\ X.cell? ⟨fb, fo + k * 3 + 2, none⟩ = some (.int .i64 fK)) (fun _ => True) 9 (by kernel_rfl) ?_;have hSS := And.intro (KP.out _ d0) True.intro;obtain ⟨V0, hV0⟩ : ∃ V, V = wr.drew := ⟨_, rfl⟩
   rw [<- hV0] at hSS d0 ⊢;clear hV0;refine tkl 0 rfl hSS ?_;refine tkl 1 rfl hSS ?_;refine tkl 2 rfl hSS ?_;refine tkl 3 rfl hSS ?_;simp only [Act.put, qB, qD, qC, qG, qF, qE];refine tkl 4 rfl hSS ?_;refine tkl 5 rfl hSS ?_;refine tkl 6 rfl hSS ?_;refine tkl 7 rfl hSS ?_;simp only [Act.put, qB, qD, qC, qG, qF, qE];refine wo1 8 rfl fun K hK => ?_;go_simp;refine (sat_any fC fD C U (iC.below d0) (iD.below d0) (hC.below d0) (hU.below d0) bC bD bK bV bU).mono ?_;rintro ee V1 ⟨rfl, b1⟩;obtain ⟨x, hx⟩ : ∃ x, atV fC fD fK C U = x := ⟨_, rfl⟩
   have HX : Hid (AD[k]?.getD 0 = x) := by (show _ = _; rw [HYK.out, <- hx]; rfl)
   rw [hx];clear hx HYK;have d1 := btr d0 b1;clear hSS;have hSS := And.intro (KP.out _ d1) True.intro;(try dsimp only);refine kk0 hK (hSS.1) ?_;refine wo1 9 rfl fun K hK => ?_;go_simp;refine kk0 hK (hSS.1) ?_;refine wod ?_ _;have j1 := j.below d1;have hp := HPC.out _ d1;have HB0 : Hid _ := B0;clear KP hSS d1 d0 b1 iC iD BB B0 hC hU hf RA HPC q4 q6 j bC bD bK;obtain ⟨b, hb⟩ : ∃ b, f k = b := ⟨_, rfl⟩
   have HFB : Hid (f k = b) := hb;rw [hb] at hp;clear hb
   cases b
   ·have jo := j1.o;rw [HL.out] at jo;have lV := j1.b.size
    go_wp2_with (at_builtin; go_must (refine wpList_append_lies _ rfl (.tmp 36) (.tmp 38) 23 rfl W1.heap.size 3 i0 (.int .i64 0) 1 8 Tryz.underlying23 hi hz0 hz1 hz2 rfl (by decide) _ _ _ rfl (jo.alloc _) ⟨V1.heap.size, 0, none⟩ 1 1 [.int .i64 x] rfl rfl (news1 _) (one1) (by omega) (by unfold maxLen; omega) (by omega) (by rw [qA]; omega) _ rfl ?_); intro g4 cp4 w4 hown hgrow hat hlt4)
    have j4 := j1.app HL.out hown hgrow;clear hown hgrow hat jo j1 hp
    go_wp2
    go_roundw
    case rel => exact ⟨k + 1, by omega, by go_num, ⟨_, by rw [List.length_append, HL.out]; rfl, by rw [HTK.out, HX.out, HXS.out], j4⟩, fun j hj => if h : j < k then HZ.out j h else by (obtain rfl : j = k := by omega); rw [HFB.out, HX.out]; rfl⟩
    case measure => simp [intOf]; omega
   by_cases hy0 : x = 0
   ·subst hy0;have hy1 : ((0 : Int) != 0) = false := rfl;have jo := j1.o;rw [HL.out] at jo;have lV := j1.b.size
    go_wp2_with (at_builtin; go_must (refine wpList_append_lies _ rfl (.tmp 36) (.tmp 38) 23 rfl W1.heap.size 3 i0 (.int .i64 0) 1 8 Tryz.underlying23 hi hz0 hz1 hz2 rfl (by decide) _ _ _ rfl (jo.alloc _) ⟨V1.heap.size, 0, none⟩ 1 1 [.int .i64 0] rfl rfl (news1 _) (one1) (by omega) (by unfold maxLen; omega) (by omega) (by rw [qA]; omega) _ rfl ?_); intro g4 cp4 w4 hown hgrow hat hlt4)
    have j4 := j1.app HL.out hown hgrow;clear hown hgrow hat jo j1 hp
    go_wp2
    go_roundw
    case rel => exact ⟨k + 1, by omega, by go_num, ⟨_, by rw [List.length_append, HL.out]; rfl, by rw [HTK.out, HX.out, HXS.out], j4⟩, fun j hj => if h : j < k then HZ.out j h else by (obtain rfl : j = k := by omega); rw [HFB.out, HX.out]; simp⟩
    case measure => simp [intOf]; omega
   have hy1 : (x != 0) = true := by simp [hy0]
   have lV := j1.b.size
   go_wp2
   exact bodyPost_ret (v := .tuple #[.slice (some ⟨V1.heap.size, 0, none⟩) 3 3, .bool false]) (by simp [results, Tryz.results99, go_sem]) rfl (by have hpin : pinned f AD = true := any_take hlt HZ.out (by rw [HFB.out, HX.out]; simp [hy0]); rw [addsL_yes hpin, hpin]; exact ⟨_, rfl, JA.rebase ⟨j1.b.alloc j1.b.size _, World.ownsRow_lit (base := W1.heap.size) (e := 3) (size := 1) V1 #[.int .i64 0, .int .i64 0, .int .i64 0] 3 lV (by unfold maxLen; omega) rfl⟩ HB0.out⟩)
  have hlt' : ¬ (k : Int) < 3 := by omega
  obtain rfl : k = 3 := by omega
  have e : xs = AD := by rw [HXS.out, List.take_of_length_le (by rw [HAL.out]; exact qH _)]
  subst e;have HB0 : Hid _ := B0;clear B0
  go_wp2
  exact bodyPost_ret (by simp [results, Tryz.results99, go_sem]; exact rfl) rfl (by rw [addsL_no (any_none (fun j hj => HZ.out j hj)), show pinned f xs = false from any_none (fun j hj => HZ.out j hj)]; exact ⟨_, rfl, j.rebase HB0.out⟩)
end Go.Proofs.YtfmpcihghlnlnaaGreatDoor
