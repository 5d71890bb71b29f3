/-
  A row is gone at one site, in the specification (l5Row). Of a view and a row that are ok, where all pots are known.
-/
import Derived.Test.YtfmpcihghlnlnaaGreatDoorQp
import Derived.Test.YtfmpcihghlnlnaaGreatDoorQt
namespace Go.Proofs.YtfmpcihghlnlnaaGreatDoor
open Go.RowKit Go.Deep
open World renaming size_alloc → qA
open List renaming set_cons_zero → qB, set_cons_succ → qC, length_map → qE
open Nat renaming le_refl → qD
set_option linter.unusedVariables false
set_option linter.unusedSimpArgs false
set_option maxRecDepth 100000
set_option maxHeartbeats 25600000
theorem addsL_len {f : Nat -> Bool} {AD : List Int} (h : AD.length = 3) : (addsL f AD).length = 3 := by unfold addsL; split <;> simp [h]
theorem addsL_bnd {f : Nat -> Bool} {AD : List Int} (h : bnd 1000000000000 AD) : bnd 1000000000000 (addsL f AD) := by
 unfold addsL
 split
 ·intro i
  rcases i with _ | _ | _ | i <;> simp
 exact h
theorem potB_args (m : Nat) (C D : List Int) (ss : List IV) (s : Int) (x U : List Int) (v : Nat) : potB m C D ss s x [0, 0] v = potB m C D ss s x U v := by
 have e : ∀ U : List Int, dot (potX v).2.1 U 2 = 0 := fun U => by simp [potX, dot]
 simp only [potB, bnds, atV, e]
theorem rangeL_is {m : Nat} {C D : List Int} {ss : List IV} {s : Int} {x U : List Int} (hK : ∀ v, v < 3 -> (potB m C D ss s x U v).2.2 = true) : rangeL (potB m C D ss s x [0, 0]) = if (List.range 3).any (fun v => over1 (potB m C D ss s x U v)) then 2 else if (List.range 3).any (fun v => may1 (potB m C D ss s x U v)) then 0 else 1 := by
 have e : potB m C D ss s x [0, 0] = potB m C D ss s x U := funext fun v => potB_args m C D ss s x U v;have h0 := hK 0 (by omega);have h1 := hK 1 (by omega);have h2 := hK 2 (by omega);have a : (List.range 3).any (fun v => ovR (potB m C D ss s x U v)) = (List.range 3).any (fun v => over1 (potB m C D ss s x U v)) := by simp only [any3, ovR, h0, h1, h2, Bool.true_and]
 have b : (List.range 3).any (fun v => myR (potB m C D ss s x U v)) = (List.range 3).any (fun v => may1 (potB m C D ss s x U v)) := by simp only [any3, myR, h0, h1, h2, Bool.not_true, Bool.false_or]
 rw [e, rangeL, a, b]
theorem lit_cells {W : World} {b o n : Nat} {E : List Int} (h : Ints W (some ⟨b, o, none⟩) n E) : ∀ i, i < n -> (W.alloc (.cells #[] 3)).cell? ⟨b, o + i, none⟩ = some (.int .i64 (E.getD i 0)) := fun i hi => by
 have h2 := h.below ((Below.refl W.heap.size W).alloc (qD _) (.cells #[] 3));obtain ⟨b', o', e, hc⟩ := h2.2 i hi;simp only [Option.some.injEq, Addr.mk.injEq, and_true] at e;obtain ⟨rfl, rfl⟩ := e
 exact hc
theorem view_added {n m : Nat} {C D : List Int} {ss : List IV} {s : Int} {k k' : Nat} {E X : List Int} (h : viewB n m C D ss s k E = true) (h2 : okN 3 20000 k' X = true) : viewB n m C D ss s k' X = true := by
 unfold viewB at *;simp only [Bool.and_eq_true] at *
 exact ⟨h.1, h.2.1, h.2.2.1, h2⟩
theorem sum5w_any {a c : Option Addr} {cap cap' : Nat} (xs ys : List Int) {w : World} (h : Ints w a 3 xs) (h' : Ints w c 3 ys) (hM : bnd 1000000000000 xs) (hM' : bnd 1000000000000 ys) :
  Calls Tryz.prog 100 #[.slice a 3 cap, .slice c 3 cap'] w fun e w' => ∃ v, e = .returned v /\ JA w v (List.zipWith (· + ·) xs ys) w' := by
 have HX : Hid (xs.length = 3) := h.1;have HY : Hid (ys.length = 3) := h'.1;obtain ⟨i0, hi, hz0, hz1, hz2⟩ := info_parts Tryz.infoInt
 go_enter Tryz.func100, Tryz.ntmps100
 go_wp2_with fail
 go_loopw [5, 6] (fun v i wr => ∃ k : Nat, k <= 3 /\ i = .int .i64 k /\ ∃ zs : List Int, zs.length = k /\ zs = (List.zipWith (· + ·) xs ys).take k /\ JA w v zs wr) (fun _ i _ => 3 - (intOf i).toNat)
 case atStart => exact ⟨0, by omega, rfl, [], rfl, rfl, JA.lit w⟩
 case round =>
  obtain ⟨k, hk, rfl, zs, hzl, hzs, j⟩ := hrel;have HL : Hid (zs.length = k) := hzl;have HZS : Hid (zs = (List.zipWith (· + ·) xs ys).take k) := hzs;clear hzl hzs
  by_cases hlt : k < 3
  ·obtain ⟨b, off, rfl, hcell⟩ := h.pos (by omega);obtain ⟨b', off', rfl, hcell'⟩ := h'.pos (by omega);have c0 : w.cell? ⟨b, off + k, none⟩ = some (.int .i64 (xs[k]?.getD 0)) := by rw [hcell k hlt]; simp
   have c1 : w.cell? ⟨b', off' + k, none⟩ = some (.int .i64 (ys[k]?.getD 0)) := by rw [hcell' k hlt]; simp
   have HP : Hid _ := zip_take (xs := xs) (ys := ys) (k := k) (by rw [HX.out]; exact hlt) (by rw [HY.out]; exact hlt);obtain ⟨m1, m2⟩ := hM k;obtain ⟨m3, m4⟩ := hM' k;generalize HG : xs[k]?.getD 0 = x at *;generalize HG' : ys[k]?.getD 0 = y at *;clear HG HG' hcell hcell' hM hM' h h'
   have KP : Hid (∀ W : World, Below w.heap.size w W -> W.cell? ⟨b, off + k, none⟩ = some (.int .i64 x) /\ W.cell? ⟨b', off' + k, none⟩ = some (.int .i64 y)) := fun W hW =>
    ⟨by rw [hW.cell (p := ⟨b, off + k, none⟩) (block_lt c0)]; exact c0, by rw [hW.cell (p := ⟨b', off' + k, none⟩) (block_lt c1)]; exact c1⟩
   have hSS := And.intro (KP.out _ j.b.drew) (True.intro);clear c0 c1;have hlt' : (k : Int) < 3 := by omega
   have hwr : IntKind.i64.wrap (x + y) = x + y := wrap_id (by omega) (by omega)
   go_upto_region 5 with fail
   refine wp_region_ends (fun w' => w'.cell? ⟨b, off + k, none⟩ = some (.int .i64 x) /\ w'.cell? ⟨b', off' + k, none⟩ = some (.int .i64 y)) (fun _ => True) 12 (by kernel_rfl) ?_;refine tkl 0 rfl hSS ?_;refine tkl 1 rfl hSS ?_;refine tkl 2 rfl hSS ?_;refine tkl 3 rfl hSS ?_;refine tkl 4 rfl hSS ?_;refine tkl 5 rfl hSS ?_;refine tkl 6 rfl hSS ?_;refine tkl 7 rfl hSS ?_;refine tkl 8 rfl hSS ?_;refine tkl 9 rfl hSS ?_;refine wo1 10 rfl fun K hK => ?_;go_simp;have j1 := j.below (W' := wr.drew) ((Below.refl _ _).drew);have jo := j1.o;rw [HL.out] at jo;have j2 := j1.alloc (.cells #[.int .i64 (x + y)] 3);have hjb := j1.b.size;refine kk0 hK (KP.out _ j2.b) ?_;clear hK K hSS;refine wo1 11 rfl fun K hK => ?_;rw [if_pos (by rfl)];refine wp_append_lies _ (.tmp 12) (.tmp 22) 23 rfl w.heap.size 3 i0 (.int .i64 0) 1 8 Tryz.underlying23 hi hz0 hz1 hz2 rfl (by decide) _ k _ (by rfl) (jo.alloc _) ⟨wr.heap.size, 0, none⟩ 1 1 [.int .i64 (x + y)] (by rfl) (by rfl) (news1 wr.drew) (one1) (by omega) (by unfold maxLen; omega) (by omega) j2.b.size _ rfl ?_;intro g cp2 w6 hown hgrow hat hlt6;have j6 := j1.app HL.out hown hgrow;refine kk0 hK (KP.out _ j6.b) ?_;clear hK K hown hgrow hat j1 j2 jo j;refine wo1 12 rfl fun K hK => ?_;go_simp;refine kk0 hK (KP.out _ j6.b) ?_;refine wod ?_ _
   go_wp2
   go_roundw
   case rel => exact ⟨k + 1, by omega, by go_num, _, by rw [List.length_append, HL.out]; rfl, by rw [HP.out, HZS.out], j6⟩
   case measure => simp [intOf]; omega
  obtain rfl : k = 3 := by omega
  have e : zs = List.zipWith (· + ·) xs ys := by rw [HZS.out, List.take_of_length_le (by rw [List.length_zipWith, HX.out, HY.out]; omega)]
  subst e
  go_wp2
  go_ret
  exact ⟨_, rfl, j⟩
theorem srow5_any (a : Option Addr) (cap : Nat) (c : Option Addr) (m cap' : Nat) (ad : Option Addr) (N pc : Nat) (G cg : Nat) (f : Nat -> Bool) (s : Int) (e : Option Addr) (ec : Nat) (ga : Option Addr) (G0 gc : Nat) (gs : List FV) (aa : Option Addr) (A ac : Nat) (us : List FV) (ta : Option Addr) (T tc : Nat) (ts : List FV) (st : Bool) (u : Option Addr) (uc : Nat) (C D E U : List Int) (ss : List IV) (w : World)
  (hC : Ints w a 3 C) (hD : Ints w c m D) (hE : Ints w e 3 E) (hU : Ints w u 2 U) (hN : ss.length = N) (hF : ISG w ad ss) (hN1 : N <= 1048576) (hv : viewB 3 m C D ss s 3 E = true) (bU : okN 2 9 2 U = true) (hf : OwnB w G f) (RA : RowAt w ga G0 gs aa A us ta T ts) (hB : rowB gs us ts A T st = true) (hK : ∀ x v, v < 3 -> (potB m C D ss s x U v).2.2 = true) :
  Calls Tryz.prog 71 #[treV a 3 cap c m cap', .slice ad N pc, .slice (some ⟨G, 0, none⟩) 3 cg, .int .i64 s, .slice e 3 ec, rowV ga G0 gc aa A ac ta T tc st, .slice u 2 uc] w fun r w' => LocD w w' r (tryL m C D ss s E U f st (us.map (atF C U)) (ts.map (atF C U))) := by
 have HN : Hid (ss.length = N) := hN;have HVW : Hid (viewB 3 m C D ss s 3 E = true) := hv;obtain ⟨_, bC, hm1, hm3, hps, hs0, hs1, _, bE, bD⟩ := viewB_elim hv;have HKP : Hid (∀ x v, v < 3 -> (potB m C D ss s x U v).2.2 = true) := hK;have bU9 := (okN_nat (by omega) bU).2;have HEL : Hid (E.length = 3) := hE.1;obtain ⟨og, ou, ot⟩ := rowB_g hB;obtain ⟨i0, hi, hz0, hz1, hz2⟩ := info_parts Tryz.infoInt;have hA3 : st = false -> A = 3 := fun h => by subst h; exact rowB_three hB
 have hHB : Hid (rowB gs us ts A T st = true) := hB;have bAD : bnd 1000000000000 (us.map (atF C U)) := ats_bnd ou bC bU9;have hUA : us.length = A := RA.ha;have HTA : Hid (ts.length = T) := RA.ht;obtain ⟨eb, eo, rfl, _⟩ := hE.pos (by omega);obtain ⟨AD, hAD⟩ : ∃ x, us.map (atF C U) = x := ⟨_, rfl⟩
 obtain ⟨TL, hTL⟩ : ∃ x, ts.map (atF C U) = x := ⟨_, rfl⟩
 have HAD : Hid (us.map (atF C U) = AD) := hAD;have HTL : Hid (ts.map (atF C U) = TL) := hTL;have hADl : AD.length = A := by rw [<- hAD, qE]; exact hUA
 rw [hAD] at bAD;rw [hAD, hTL];clear hAD hTL hN hv hK hB hUA hps bD;have HOT : Hid (ts.all FV.ok = true) := ot;have HOU : Hid (us.all FV.ok = true) := ou;clear og ot ou
 cases st
 ·obtain rfl : A = 3 := hA3 rfl
  go_enter Tryz.func71, Tryz.ntmps71
  have al := (Below.refl (w).heap.size (w)).alloc (qD _) (.cells #[.slice a 3 cap, .slice c m cap'] 59);have BB := al;replace hC := hC.below al;replace hD := hD.below al;replace hE := hE.below al;replace hU := hU.below al;replace hF := hF.below al;replace hf := hf.below al;replace RA := RA.below al;clear al;have q7 := Cel.new (w) [.slice a 3 cap, .slice c m cap'] 59;have al := (Below.refl ((w).alloc (.cells #[.slice a 3 cap, .slice c m cap'] 59)).heap.size ((w).alloc (.cells #[.slice a 3 cap, .slice c m cap'] 59))).alloc (qD _) (.cells #[.slice ga G0 gc, .slice aa 3 ac, .slice ta T tc, .bool false] 113);replace BB := btr BB al;replace hC := hC.below al;replace hD := hD.below al;replace hE := hE.below al;replace hU := hU.below al;replace hF := hF.below al;replace hf := hf.below al;replace RA := RA.below al;replace q7 := q7.below al;clear al;have q12 := Cel.new ((w).alloc (.cells #[.slice a 3 cap, .slice c m cap'] 59)) [.slice ga G0 gc, .slice aa 3 ac, .slice ta T tc, .bool false] 113;simp only [qA] at q12;have al := (Below.refl (((w).alloc (.cells #[.slice a 3 cap, .slice c m cap'] 59)).alloc (.cells #[.slice ga G0 gc, .slice aa 3 ac, .slice ta T tc, .bool false] 113)).heap.size (((w).alloc (.cells #[.slice a 3 cap, .slice c m cap'] 59)).alloc (.cells #[.slice ga G0 gc, .slice aa 3 ac, .slice ta T tc, .bool false] 113))).alloc (qD _) (.cells #[.int .i64 0, .slice none 0 0] 55);replace BB := btr BB al;replace hC := hC.below al
  replace hD := hD.below al;replace hE := hE.below al;replace hU := hU.below al;replace hF := hF.below al;replace hf := hf.below al;replace RA := RA.below al;replace q7 := q7.below al;replace q12 := q12.below al;clear al;have q14 := Cel.new (((w).alloc (.cells #[.slice a 3 cap, .slice c m cap'] 59)).alloc (.cells #[.slice ga G0 gc, .slice aa 3 ac, .slice ta T tc, .bool false] 113)) [.int .i64 0, .slice none 0 0] 55;simp only [qA] at q14;obtain ⟨g7_0, g7_1⟩ := q7.c2;obtain ⟨g12_0, g12_1, g12_2, g12_3⟩ := q12.c4;obtain ⟨g14_0, g14_1⟩ := q14.c2
  go_wp2_with fail
  generalize (((w).alloc (.cells #[.slice a 3 cap, .slice c m cap'] 59)).alloc (.cells #[.slice ga G0 gc, .slice aa 3 ac, .slice ta T tc, .bool false] 113)).alloc (.cells #[.int .i64 0, .slice none 0 0] 55) = W1 at hC hD hE hU hF hf RA q7 q12 q14 BB g7_0 g7_1 g12_0 g12_1 g12_2 g12_3 g14_0 g14_1 ⊢;obtain ⟨X14, hX14⟩ : ∃ x, x = w.heap.size + 1 + 1 := ⟨_, rfl⟩
  rw [<- hX14];rw [<- hX14] at q14 g14_0 g14_1;have loX14 : w.heap.size + 1 + 1 <= X14 := by omega
  have upX14 : X14 <= w.heap.size + 1 + 1 := by omega
  clear hX14;obtain ⟨X12, hX12⟩ : ∃ x, x = w.heap.size + 1 := ⟨_, rfl⟩
  rw [<- hX12];rw [<- hX12] at q12 g12_0 g12_1 g12_2 g12_3;have loX12 : w.heap.size + 1 <= X12 := by omega
  have upX12 : X12 <= w.heap.size + 1 := by omega
  clear hX12;obtain ⟨X7, hX7⟩ : ∃ x, x = w.heap.size := ⟨_, rfl⟩
  rw [<- hX7];rw [<- hX7] at q7 g7_0 g7_1;have loX7 : w.heap.size <= X7 := by omega
  have upX7 : X7 <= w.heap.size := by omega
  clear hX7;refine (sadds_any a cap c m cap' G cg f ga G0 gc gs aa ac us ta T tc ts false u uc C U hC hU hf RA HOU.out bC bU9).mono ?_;rintro ee w2 ⟨v, rfl, jA⟩;rw [HAD.out] at jA;rw [HAD.out];obtain ⟨xa, xcap, XB, rfl, oA, loA⟩ := jA.ownx (addsL_len hADl);have bA := jA.b;clear jA loA;clear g7_0 g7_1 g12_0 g12_1 g12_2 g12_3 g14_0 g14_1;replace BB := btr BB bA;replace hC := hC.below bA;replace hD := hD.below bA;replace hE := hE.below bA;replace hU := hU.below bA;replace hF := hF.below bA;replace hf := hf.below bA;replace RA := RA.below bA;replace q7 := q7.below bA;replace q12 := q12.below bA;replace q14 := q14.below bA;clear bA;obtain ⟨g7_0, g7_1⟩ := q7.c2;obtain ⟨g12_0, g12_1, g12_2, g12_3⟩ := q12.c4;obtain ⟨g14_0, g14_1⟩ := q14.c2
  go_wp2_with fail
  have lQ5 := q14.lt;have zB5 := BB.size;refine (sum5w_any E (addsL f AD) hE oA.ints (fun i => by have := bE i; omega) (addsL_bnd bAD)).mono ?_;rintro ee w3 ⟨v, rfl, jX⟩;obtain ⟨X, hX⟩ : ∃ x, List.zipWith (· + ·) E (addsL f AD) = x := ⟨_, rfl⟩
  have HX : Hid (List.zipWith (· + ·) E (addsL f AD) = X) := hX;have HXL : Hid (X.length = 3) := by (show _ = _; rw [<- hX, List.length_zipWith, HEL.out, addsL_len hADl]; rfl)
  rw [hX] at jX;clear hX;obtain ⟨ya, ycap, YB, rfl, oX, loX⟩ := jX.ownx HXL.out;have loX2 := loX (by omega);have ltX := oX.lt (by omega);have bX := jX.b;clear jX loX;clear g7_0 g7_1 g12_0 g12_1 g12_2 g12_3 g14_0 g14_1;replace BB := btr BB bX;replace hC := hC.below bX;replace hD := hD.below bX;replace hE := hE.below bX;replace hU := hU.below bX;replace hF := hF.below bX;replace hf := hf.below bX;replace RA := RA.below bX;replace oA := oA.below bX;replace q7 := q7.below bX;replace q12 := q12.below bX;replace q14 := q14.below bX;clear bX
  cases h1 : pinned f AD
  ·have HZ : Hid (List.zipWith (· + ·) E AD = X) := by (show _ = _; rw [<- HX.out, addsL_no h1])
   obtain ⟨g7_0, g7_1⟩ := q7.c2;obtain ⟨g12_0, g12_1, g12_2, g12_3⟩ := q12.c4;obtain ⟨g14_0, g14_1⟩ := q14.c2
   go_wp2_with fail
   refine (all_any X 3 20000 oX.ints (by omega)).mono ?_;rintro ee v4 ⟨rfl, rfl⟩
   cases h2 : okN 3 20000 3 X
   ·go_upto_region 6 with fail
    clear g7_0 g7_1 g12_0 g12_1 g12_2 g12_3 g14_0 g14_1;have HC0 : Hid _ := newsI (lit_cells hE) hE.1;have HL0 : Hid ((E.map (Value.int .i64)).length = 3 * 1) := by (show _ = _; rw [qE, hE.1])
    have HJ0 : Hid _ := (JA.lit v4).o;have lX := q14.lt;have zB := BB.size
    go_wp2_with (at_builtin; go_must (refine wpList_append_lies _ rfl (.tmp 47) (.tmp 48) 23 rfl v4.heap.size 3 i0 (.int .i64 0) 1 8 Tryz.underlying23 hi hz0 hz1 hz2 rfl (by decide) _ 0 [] rfl HJ0.out ⟨eb, eo, none⟩ 3 ec (E.map (Value.int .i64)) rfl HL0.out HC0.out (oneI) (by omega) (by unfold maxLen; omega) (by omega) (by rw [qA]; omega) _ rfl ?_); intro g2 cp2 w2 hown hgrow hat hlt2; have j := JA.copied HEL.out hown hgrow; have q2 := q14.below j.b; obtain ⟨d0, d1, f0, f1⟩ := q2.pair; have hlt2 := q2.lt; clear hown hgrow hat)
    obtain ⟨x, cx, B, hv2, hX, hB⟩ := j.ownx HEL.out;simp only [Value.slice.injEq, true_and] at hv2;obtain ⟨rfl, rfl⟩ := hv2;have bb := btr BB j.b;have HR : Hid (tryL m C D ss s E U f false AD TL = (0, [], E, false)) := by (show _ = _; simp [tryL, h1, HZ.out, h2])
    exact bodyPost_ret (v := .tuple #[resV 0 none 0 0, .slice (some ⟨g2, 0, none⟩) 3 cp2, .bool false]) (by simp [results, Tryz.results71, go_sem, d0, d1]) rfl (by rw [HR.out]; unfold LocD; exact ⟨none, 0, 0, 0, some ⟨g2, 0, none⟩, 3, cp2, B, rfl, rfl, HEL.out, (bb.setCell (by simp only []; omega) _).setCell (by simp only []; omega) _, OwnX.nil _ _ _, (hX.setOther (fun h => by have := hB h; omega) _ _).setOther (fun h => by have := hB h; omega) _ _, fun h => by omega, fun h => by have := hB h; omega, fun h => by omega⟩)
   have hvx : viewB 3 m C D ss s 3 X = true := view_added HVW.out h2
   go_wp2_with fail
   refine (srange_any a cap c m cap' ad N pc s ya ycap C D X ss hC hD oX.ints HN.out hF hN1 hvx).mono ?_;rintro ee w5 ⟨rfl, b7⟩;rw [rangeL_is (U := U) (fun v hv => HKP.out X v hv)];clear g7_0 g7_1 g12_0 g12_1 g12_2 g12_3 g14_0 g14_1;replace BB := btr BB b7;replace hC := hC.below b7;replace hD := hD.below b7;replace hE := hE.below b7;replace hU := hU.below b7;replace hF := hF.below b7;replace hf := hf.below b7;replace RA := RA.below b7;replace oA := oA.below b7;replace oX := oX.below b7;replace q7 := q7.below b7;replace q12 := q12.below b7;replace q14 := q14.below b7;clear b7
   cases h3 : (List.range 3).any (fun v => over1 (potB m C D ss s X U v))
   ·rw [if_neg (by decide)]
    cases h4 : (List.range 3).any (fun v => may1 (potB m C D ss s X U v))
    ·rw [if_neg (by decide)];obtain ⟨g7_0, g7_1⟩ := q7.c2;obtain ⟨g12_0, g12_1, g12_2, g12_3⟩ := q12.c4;obtain ⟨g14_0, g14_1⟩ := q14.c2
     go_wp2_with fail
     refine (skeep_any a 3 cap c m cap' ad N pc s ya 3 ycap C D X ss hC hD oX.ints HN.out hF (by omega) (by omega) (by omega) hN1).mono ?_;rintro ee w6 ⟨rfl, b9⟩;rw [show keepB 3 m C D ss s 3 X = keepsB (D[s.toNat]?.getD 0) X ss from by rw [keepB, hvx]; rfl];clear g7_0 g7_1 g12_0 g12_1 g12_2 g12_3 g14_0 g14_1;replace BB := btr BB b9;replace hC := hC.below b9;replace hD := hD.below b9;replace hE := hE.below b9;replace hU := hU.below b9;replace hF := hF.below b9;replace hf := hf.below b9;replace RA := RA.below b9;replace oA := oA.below b9;replace oX := oX.below b9;replace q7 := q7.below b9;replace q12 := q12.below b9;replace q14 := q14.below b9;clear b9
     cases h5 : keepsB (D[s.toNat]?.getD 0) X ss
     ·obtain ⟨g7_0, g7_1⟩ := q7.c2;obtain ⟨g12_0, g12_1, g12_2, g12_3⟩ := q12.c4;obtain ⟨g14_0, g14_1⟩ := q14.c2
      go_upto_region 13 with fail
      clear g7_0 g7_1 g12_0 g12_1 g12_2 g12_3 g14_0 g14_1;have HC0 : Hid _ := newsI (lit_cells hE) hE.1;have HL0 : Hid ((E.map (Value.int .i64)).length = 3 * 1) := by (show _ = _; rw [qE, hE.1])
      have HJ0 : Hid _ := (JA.lit w6).o;have lX := q14.lt;have zB := BB.size
      go_wp2_with (at_builtin; go_must (refine wpList_append_lies _ rfl (.tmp 74) (.tmp 75) 23 rfl w6.heap.size 3 i0 (.int .i64 0) 1 8 Tryz.underlying23 hi hz0 hz1 hz2 rfl (by decide) _ 0 [] rfl HJ0.out ⟨eb, eo, none⟩ 3 ec (E.map (Value.int .i64)) rfl HL0.out HC0.out (oneI) (by omega) (by unfold maxLen; omega) (by omega) (by rw [qA]; omega) _ rfl ?_); intro g2 cp2 w2 hown hgrow hat hlt2; have j := JA.copied HEL.out hown hgrow; have q2 := q14.below j.b; obtain ⟨d0, d1, f0, f1⟩ := q2.pair; have hlt2 := q2.lt; clear hown hgrow hat)
      obtain ⟨x, cx, B, hv2, hX, hB⟩ := j.ownx HEL.out;simp only [Value.slice.injEq, true_and] at hv2;obtain ⟨rfl, rfl⟩ := hv2;have bb := btr BB j.b;have HR : Hid (tryL m C D ss s E U f false AD TL = (0, [], E, false)) := by (show _ = _; simp [tryL, h1, HZ.out, h2, h3, h4, h5])
      exact bodyPost_ret (v := .tuple #[resV 0 none 0 0, .slice (some ⟨g2, 0, none⟩) 3 cp2, .bool false]) (by simp [results, Tryz.results71, go_sem, d0, d1]) rfl (by rw [HR.out]; unfold LocD; exact ⟨none, 0, 0, 0, some ⟨g2, 0, none⟩, 3, cp2, B, rfl, rfl, HEL.out, (bb.setCell (by simp only []; omega) _).setCell (by simp only []; omega) _, OwnX.nil _ _ _, (hX.setOther (fun h => by have := hB h; omega) _ _).setOther (fun h => by have := hB h; omega) _ _, fun h => by omega, fun h => by have := hB h; omega, fun h => by omega⟩)
     have HQ : Hid (tryL m C D ss s E U f false AD TL = (1, TL, X, true)) := by (show _ = _; simp [tryL, h1, HZ.out, h2, h3, h4, h5])
     clear h1 h2 h3 h4 h5
     go_upto_region 14 with fail
     have ltX2 := oX.lt (by omega);have ltQ := q14.lt;have zT := RA.zt
     go_wp2_with fail
     go_loopw [20, 21] (fun o i wr => ∃ k : Nat, k <= T /\ i = .int .i64 k /\ ∃ xs : List Int, xs.length = k /\ xs = TL.take k /\ JA w6 o xs wr) (fun _ i _ => T - (intOf i).toNat)
     case atStart => exact ⟨0, Nat.zero_le _, rfl, [], rfl, rfl, JA.lit w6⟩
     case round =>
      obtain ⟨k, hk, rfl, xs, hxl, hxs, j⟩ := hrel;have HL : Hid (xs.length = k) := hxl;have HXS : Hid (xs = TL.take k) := hxs;clear hxl hxs;have hb := j.b;have B0 := BB;have HTLL : Hid (TL.length = T) := by (show _ = _; rw [<- HTL.out, qE, HTA.out])
      by_cases hlt : k < T
      ·have hlt' : (k : Int) < (T : Int) := by omega
       obtain ⟨fb, fo, rfl, e0, e1, e2, e3⟩ := RA.t k (by rw [HTA.out]; exact hlt);have hok := all_at (k := k) HOT.out (by rw [HTA.out]; exact hlt)
       have HYK : Hid (TL[k]?.getD 0 = atF C U (ts[k]?.getD noFV)) := by
        have hl : k < ts.length := by rw [HTA.out]; exact hlt
        show _ = _
        rw [<- HTL.out, List.getElem?_map, List.getElem?_eq_getElem hl]; rfl
       have HTK : Hid (TL.take (k + 1) = TL.take k ++ [TL[k]?.getD 0]) := by
        have hl : k < TL.length := by rw [HTLL.out]; exact hlt
        show _ = _
        rw [List.take_succ_eq_append_getElem hl, List.getElem?_eq_getElem hl]; rfl
       generalize ts[k]?.getD noFV = g at *;obtain ⟨fa, fn, fcap, fc, fm, fcap', fK, fC, fD⟩ := g;obtain ⟨iC, iD, _, _⟩ := e3;simp only at e0 e1 e2 iC iD;obtain ⟨rfl, rfl, bFC, bFD, bFK⟩ := formB_elim (show formB fn fm fC fD fK = true from hok);clear hok;have KP : Hid (∀ W : World, Below w6.heap.size w6 W -> (W.cell? ⟨X7, 0, none⟩ = some (.slice a 3 cap) /\ W.cell? ⟨X7, 1, none⟩ = some (.slice c m cap') /\ W.cell? ⟨X12, 0, none⟩ = some (.slice ga G0 gc) /\ W.cell? ⟨X12, 1, none⟩ = some (.slice aa 3 ac) /\ W.cell? ⟨X12, 2, none⟩ = some (.slice (some ⟨fb, fo, none⟩) T tc) /\ W.cell? ⟨X12, 3, none⟩ = some (.bool false) /\ W.cell? ⟨fb, fo + k * 3, none⟩ = some (.slice fa 3 fcap) /\ W.cell? ⟨fb, fo + k * 3 + 1, none⟩ = some (.slice fc 2 fcap') /\ W.cell? ⟨fb, fo + k * 3 + 2, none⟩ = some (.int .i64 fK))) := fun W hW => ⟨(q7.below hW).cell 0, (q7.below hW).cell 1, (q12.below hW).cell 0, (q12.below hW).cell 1, (q12.below hW).cell 2, (q12.below hW).cell 3, (hW.cell (p := ⟨fb, fo + k * 3, none⟩) (block_lt e0)).trans e0, (hW.cell (p := ⟨fb, fo + k * 3 + 1, none⟩) (block_lt e0)).trans e1, (hW.cell (p := ⟨fb, fo + k * 3 + 2, none⟩) (block_lt e0)).trans e2⟩
       clear e0 e1 e2;have q12r := q12.below j.b;have g12 := q12r.cell 2;simp only [List.getElem?_cons_zero, List.getElem?_cons_succ] at g12
       go_upto_region 18 with fail
       clear g12 q12r;have d0 : Below w6.heap.size w6 wr.drew := j.b.drew;have j0 : JA w6 _ xs wr.drew := j.below (Below.refl _ _).drew;refine wp_region_ends (fun X => X.cell? ⟨X7, 0, none⟩ = some (.slice a 3 cap) /\ X.cell? ⟨X7, 1, none⟩ = some (.slice c m cap') /\ X.cell? ⟨X12, 0, none⟩ = some (.slice ga G0 gc) /\ X.cell? ⟨X12, 1, none⟩ = some (.slice aa 3 ac) /\ X.cell? ⟨X12, 2, none⟩ = some (.slice (some ⟨fb, fo, none⟩) T tc) /\ X.cell? ⟨X12, 3, none⟩ = some (.bool false) /\ X.cell? ⟨fb, fo + k * 3, none⟩ = some (.slice fa 3 fcap) /\ X.cell? ⟨fb, fo + k * 3 + 1, none⟩ = some (.slice fc 2 fcap') /\ X.cell? ⟨fb, fo + k * 3 + 2, none⟩ = some (.int .i64 fK)) (fun _ => True) 12 (by kernel_rfl) ?_;have hSS := And.intro (KP.out _ d0) True.intro;obtain ⟨V0, hV0⟩ : ∃ V, V = wr.drew := ⟨_, rfl⟩
       rw [<- hV0] at hSS d0 j0 ⊢;clear hV0 j hb;refine tkl 0 rfl hSS ?_;refine tkl 1 rfl hSS ?_;refine tkl 2 rfl hSS ?_;refine tkl 3 rfl hSS ?_;simp only [Act.put, List.setIfInBounds_toArray, qC, qB, List.getElem_toArray, List.getElem_cons_succ, List.getElem_cons_zero];refine tkl 4 rfl hSS ?_;refine tkl 5 rfl hSS ?_;refine tkl 6 rfl hSS ?_;refine tkl 7 rfl hSS ?_;simp only [Act.put, List.setIfInBounds_toArray, qC, qB, List.getElem_toArray, List.getElem_cons_succ, List.getElem_cons_zero];refine tkl 8 rfl hSS ?_;refine wo1 9 rfl fun K hK => ?_;go_simp;refine (sat_any fC fD C U (iC.below d0) (iD.below d0) (hC.below d0) (hU.below d0) bFC bFD bFK bC bU9).mono ?_;rintro ee V1 ⟨rfl, b1⟩;obtain ⟨x, hx⟩ : ∃ x, atV fC fD fK C U = x := ⟨_, rfl⟩
       have HXK : Hid (TL[k]?.getD 0 = x) := by (show _ = _; rw [HYK.out, <- hx]; rfl)
       rw [hx];clear hx HYK;have d1 := btr d0 b1;clear hSS;have hSS := And.intro (KP.out _ d1) True.intro;(try dsimp only);refine kk0 hK (hSS.1) ?_;refine wo1 10 rfl fun K hK => ?_;go_simp;have j1 := j0.below b1;have jo := j1.o;rw [HL.out] at jo;have j2 := j1.alloc (.cells #[.int .i64 x] 3);have lV := j1.b.size;clear hSS;have hSS := And.intro (KP.out _ j2.b) True.intro;(try dsimp only);refine kk0 hK (hSS.1) ?_;refine wo1 11 rfl fun K hK => ?_;rw [if_pos (by rfl)];refine wp_append_lies _ (.tmp 85) (.tmp 95) 23 rfl w6.heap.size 3 i0 (.int .i64 0) 1 8 Tryz.underlying23 hi hz0 hz1 hz2 rfl (by decide) _ k _ (by rfl) (jo.alloc _) ⟨V1.heap.size, 0, none⟩ 1 1 [.int .i64 x] (by rfl) (by rfl) (news1 V1) (one1) (by omega) (by unfold maxLen; omega) (by omega) j2.b.size _ rfl ?_;intro g6 cp6 w6 hown hgrow hat hlt6;have j6 := j1.app HL.out hown hgrow;clear hSS;have hSS := And.intro (KP.out _ j6.b) True.intro;(try dsimp only);refine kk0 hK (hSS.1) ?_;clear hown hgrow hat jo j1 j2 j0 b1 d0 d1 iC iD;refine wo1 12 rfl fun K hK => ?_;go_simp;clear hSS;have hSS := And.intro (KP.out _ j6.b) True.intro;(try dsimp only);refine kk0 hK (hSS.1) ?_;refine wod ?_ _;clear hSS KP
       go_wp2
       go_roundw
       case rel => exact ⟨k + 1, by omega, by go_num, _, by rw [List.length_append, HL.out]; rfl, by rw [HTK.out, HXK.out, HXS.out], j6⟩
       case measure => simp [intOf]; omega
      have hlt' : ¬ (k : Int) < (T : Int) := by omega
      obtain rfl : k = T := by omega
      have e : xs = TL := by rw [HXS.out, List.take_of_length_le (by rw [HTLL.out]; exact qD _)]
      subst e;obtain ⟨xt, xtc, TB, rfl, oT, loT⟩ := j.ownx HL.out;clear j B0;have hb2 := hb;replace BB := btr BB hb;replace hC := hC.below hb;replace hD := hD.below hb;replace hE := hE.below hb;replace hU := hU.below hb;replace hF := hF.below hb;replace hf := hf.below hb;replace RA := RA.below hb;replace oA := oA.below hb;replace oX := oX.below hb;replace q7 := q7.below hb;replace q12 := q12.below hb;replace q14 := q14.below hb;clear hb;obtain ⟨g7_0, g7_1⟩ := q7.c2;obtain ⟨g12_0, g12_1, g12_2, g12_3⟩ := q12.c4;obtain ⟨g14_0, g14_1⟩ := q14.c2;have f14_0 := q14.free 0;have f14_1 := q14.free 1;have lX := q14.lt;have z14 := (q14.set 0 (.int .i64 1)).set 1 (.slice xt k xtc);have z140 := z14.cell 0;have z141 := z14.cell 1;simp only [List.getElem?_cons_zero, List.getElem?_cons_succ, qB, qC] at z140 z141;clear z14;have hBB := (BB.setCell (p := ⟨X14, 0, none⟩) (by simp only []; omega) (.int .i64 1)).setCell (p := ⟨X14, 1, none⟩) (by simp only []; omega) (.slice xt k xtc);have o_T := (oT.setOther (X := X14) (fun h => by have := loT h; omega) 0 (.int .i64 1)).setOther (X := X14) (fun h => by have := loT h; omega) 1 (.slice xt k xtc);have o_X := (oX.setOther (X := X14) (fun _ => by omega) 0 (.int .i64 1)).setOther (X := X14) (fun _ => by omega) 1 (.slice xt k xtc)
      go_wp2
      exact bodyPost_ret (v := .tuple #[resV 1 xt k xtc, .slice ya 3 ycap, .bool true]) (by simp [results, Tryz.results71, go_sem, z140, z141]) rfl (by rw [HQ.out]; unfold LocD; exact ⟨xt, k, xtc, TB, ya, 3, ycap, YB, rfl, HL.out, HXL.out, hBB, o_T, o_X, fun h => by have := loT h; omega, fun _ => by omega, fun h _ => by have := loT h; omega⟩)
    rw [if_pos rfl];obtain ⟨g7_0, g7_1⟩ := q7.c2;obtain ⟨g12_0, g12_1, g12_2, g12_3⟩ := q12.c4;obtain ⟨g14_0, g14_1⟩ := q14.c2
    go_upto_region 11 with fail
    clear g7_0 g7_1 g12_0 g12_1 g12_2 g12_3 g14_0 g14_1;have HC0 : Hid _ := newsI (lit_cells hE) hE.1;have HL0 : Hid ((E.map (Value.int .i64)).length = 3 * 1) := by (show _ = _; rw [qE, hE.1])
    have HJ0 : Hid _ := (JA.lit w5).o;have lX := q14.lt;have zB := BB.size
    go_wp2_with (at_builtin; go_must (refine wpList_append_lies _ rfl (.tmp 64) (.tmp 65) 23 rfl w5.heap.size 3 i0 (.int .i64 0) 1 8 Tryz.underlying23 hi hz0 hz1 hz2 rfl (by decide) _ 0 [] rfl HJ0.out ⟨eb, eo, none⟩ 3 ec (E.map (Value.int .i64)) rfl HL0.out HC0.out (oneI) (by omega) (by unfold maxLen; omega) (by omega) (by rw [qA]; omega) _ rfl ?_); intro g2 cp2 w2 hown hgrow hat hlt2; have j := JA.copied HEL.out hown hgrow; have q2 := q14.below j.b; obtain ⟨d0, d1, f0, f1⟩ := q2.pair; have hlt2 := q2.lt; clear hown hgrow hat)
    obtain ⟨x, cx, B, hv2, hX, hB⟩ := j.ownx HEL.out;simp only [Value.slice.injEq, true_and] at hv2;obtain ⟨rfl, rfl⟩ := hv2;have bb := btr BB j.b;have HR : Hid (tryL m C D ss s E U f false AD TL = (0, [], E, false)) := by (show _ = _; simp [tryL, h1, HZ.out, h2, h3, h4])
    exact bodyPost_ret (v := .tuple #[resV 0 none 0 0, .slice (some ⟨g2, 0, none⟩) 3 cp2, .bool false]) (by simp [results, Tryz.results71, go_sem, d0, d1]) rfl (by rw [HR.out]; unfold LocD; exact ⟨none, 0, 0, 0, some ⟨g2, 0, none⟩, 3, cp2, B, rfl, rfl, HEL.out, (bb.setCell (by simp only []; omega) _).setCell (by simp only []; omega) _, OwnX.nil _ _ _, (hX.setOther (fun h => by have := hB h; omega) _ _).setOther (fun h => by have := hB h; omega) _ _, fun h => by omega, fun h => by have := hB h; omega, fun h => by omega⟩)
   rw [if_pos rfl];obtain ⟨g7_0, g7_1⟩ := q7.c2;obtain ⟨g12_0, g12_1, g12_2, g12_3⟩ := q12.c4;obtain ⟨g14_0, g14_1⟩ := q14.c2
   go_upto_region 9 with fail
   clear g7_0 g7_1 g12_0 g12_1 g12_2 g12_3 g14_0 g14_1;have HC0 : Hid _ := newsI (lit_cells hE) hE.1;have HL0 : Hid ((E.map (Value.int .i64)).length = 3 * 1) := by (show _ = _; rw [qE, hE.1])
   have HJ0 : Hid _ := (JA.lit w5).o;have lX := q14.lt;have zB := BB.size
   go_wp2_with (at_builtin; go_must (refine wpList_append_lies _ rfl (.tmp 58) (.tmp 59) 23 rfl w5.heap.size 3 i0 (.int .i64 0) 1 8 Tryz.underlying23 hi hz0 hz1 hz2 rfl (by decide) _ 0 [] rfl HJ0.out ⟨eb, eo, none⟩ 3 ec (E.map (Value.int .i64)) rfl HL0.out HC0.out (oneI) (by omega) (by unfold maxLen; omega) (by omega) (by rw [qA]; omega) _ rfl ?_); intro g2 cp2 w2 hown hgrow hat hlt2; have j := JA.copied HEL.out hown hgrow; have q2 := q14.below j.b; obtain ⟨d0, d1, f0, f1⟩ := q2.pair; have hlt2 := q2.lt; clear hown hgrow hat)
   obtain ⟨x, cx, B, hv2, hX, hB⟩ := j.ownx HEL.out;simp only [Value.slice.injEq, true_and] at hv2;obtain ⟨rfl, rfl⟩ := hv2;have bb := btr BB j.b;have HR : Hid (tryL m C D ss s E U f false AD TL = (3, [], E, true)) := by (show _ = _; simp [tryL, h1, HZ.out, h2, h3])
   exact bodyPost_ret (v := .tuple #[resV 3 none 0 0, .slice (some ⟨g2, 0, none⟩) 3 cp2, .bool true]) (by simp [results, Tryz.results71, go_sem, d0, d1]) rfl (by rw [HR.out]; unfold LocD; exact ⟨none, 0, 0, 0, some ⟨g2, 0, none⟩, 3, cp2, B, rfl, rfl, HEL.out, (bb.setCell (by simp only []; omega) _).setCell (by simp only []; omega) _, OwnX.nil _ _ _, (hX.setOther (fun h => by have := hB h; omega) _ _).setOther (fun h => by have := hB h; omega) _ _, fun h => by omega, fun h => by have := hB h; omega, fun h => by omega⟩)
  obtain ⟨g7_0, g7_1⟩ := q7.c2;obtain ⟨g12_0, g12_1, g12_2, g12_3⟩ := q12.c4;obtain ⟨g14_0, g14_1⟩ := q14.c2
  go_upto_region 6 with fail
  clear g7_0 g7_1 g12_0 g12_1 g12_2 g12_3 g14_0 g14_1;have HC0 : Hid _ := newsI (lit_cells hE) hE.1;have HL0 : Hid ((E.map (Value.int .i64)).length = 3 * 1) := by (show _ = _; rw [qE, hE.1])
  have HJ0 : Hid _ := (JA.lit w3).o;have lX := q14.lt;have zB := BB.size
  go_wp2_with (at_builtin; go_must (refine wpList_append_lies _ rfl (.tmp 47) (.tmp 48) 23 rfl w3.heap.size 3 i0 (.int .i64 0) 1 8 Tryz.underlying23 hi hz0 hz1 hz2 rfl (by decide) _ 0 [] rfl HJ0.out ⟨eb, eo, none⟩ 3 ec (E.map (Value.int .i64)) rfl HL0.out HC0.out (oneI) (by omega) (by unfold maxLen; omega) (by omega) (by rw [qA]; omega) _ rfl ?_); intro g2 cp2 w2 hown hgrow hat hlt2; have j := JA.copied HEL.out hown hgrow; have q2 := q14.below j.b; obtain ⟨d0, d1, f0, f1⟩ := q2.pair; have hlt2 := q2.lt; clear hown hgrow hat)
  obtain ⟨x, cx, B, hv2, hX, hB⟩ := j.ownx HEL.out;simp only [Value.slice.injEq, true_and] at hv2;obtain ⟨rfl, rfl⟩ := hv2;have bb := btr BB j.b;have HR : Hid (tryL m C D ss s E U f false AD TL = (0, [], E, false)) := by (show _ = _; simp [tryL, h1])
  exact bodyPost_ret (v := .tuple #[resV 0 none 0 0, .slice (some ⟨g2, 0, none⟩) 3 cp2, .bool false]) (by simp [results, Tryz.results71, go_sem, d0, d1]) rfl (by rw [HR.out]; unfold LocD; exact ⟨none, 0, 0, 0, some ⟨g2, 0, none⟩, 3, cp2, B, rfl, rfl, HEL.out, (bb.setCell (by simp only []; omega) _).setCell (by simp only []; omega) _, OwnX.nil _ _ _, (hX.setOther (fun h => by have := hB h; omega) _ _).setOther (fun h => by have := hB h; omega) _ _, fun h => by omega, fun h => by have := hB h; omega, fun h => by omega⟩)
 go_enter Tryz.func71, Tryz.ntmps71
 have al := (Below.refl (w).heap.size (w)).alloc (qD _) (.cells #[.slice a 3 cap, .slice c m cap'] 59);have BB := al;replace hC := hC.below al;replace hD := hD.below al;replace hE := hE.below al;replace hU := hU.below al;replace hF := hF.below al;replace hf := hf.below al;replace RA := RA.below al;clear al;have q7 := Cel.new (w) [.slice a 3 cap, .slice c m cap'] 59;have al := (Below.refl ((w).alloc (.cells #[.slice a 3 cap, .slice c m cap'] 59)).heap.size ((w).alloc (.cells #[.slice a 3 cap, .slice c m cap'] 59))).alloc (qD _) (.cells #[.slice ga G0 gc, .slice aa A ac, .slice ta T tc, .bool true] 113);replace BB := btr BB al;replace hC := hC.below al;replace hD := hD.below al;replace hE := hE.below al;replace hU := hU.below al;replace hF := hF.below al;replace hf := hf.below al;replace RA := RA.below al;replace q7 := q7.below al;clear al;have q12 := Cel.new ((w).alloc (.cells #[.slice a 3 cap, .slice c m cap'] 59)) [.slice ga G0 gc, .slice aa A ac, .slice ta T tc, .bool true] 113;simp only [qA] at q12;have al := (Below.refl (((w).alloc (.cells #[.slice a 3 cap, .slice c m cap'] 59)).alloc (.cells #[.slice ga G0 gc, .slice aa A ac, .slice ta T tc, .bool true] 113)).heap.size (((w).alloc (.cells #[.slice a 3 cap, .slice c m cap'] 59)).alloc (.cells #[.slice ga G0 gc, .slice aa A ac, .slice ta T tc, .bool true] 113))).alloc (qD _) (.cells #[.int .i64 0, .slice none 0 0] 55);replace BB := btr BB al;replace hC := hC.below al
 replace hD := hD.below al;replace hE := hE.below al;replace hU := hU.below al;replace hF := hF.below al;replace hf := hf.below al;replace RA := RA.below al;replace q7 := q7.below al;replace q12 := q12.below al;clear al;have q14 := Cel.new (((w).alloc (.cells #[.slice a 3 cap, .slice c m cap'] 59)).alloc (.cells #[.slice ga G0 gc, .slice aa A ac, .slice ta T tc, .bool true] 113)) [.int .i64 0, .slice none 0 0] 55;simp only [qA] at q14;obtain ⟨g7_0, g7_1⟩ := q7.c2;obtain ⟨g12_0, g12_1, g12_2, g12_3⟩ := q12.c4;obtain ⟨g14_0, g14_1⟩ := q14.c2
 go_upto_region 2 with fail
 generalize (((w).alloc (.cells #[.slice a 3 cap, .slice c m cap'] 59)).alloc (.cells #[.slice ga G0 gc, .slice aa A ac, .slice ta T tc, .bool true] 113)).alloc (.cells #[.int .i64 0, .slice none 0 0] 55) = W1 at hC hD hE hU hF hf RA q7 q12 q14 BB g7_0 g7_1 g12_0 g12_1 g12_2 g12_3 g14_0 g14_1 ⊢;obtain ⟨X14, hX14⟩ : ∃ x, x = w.heap.size + 1 + 1 := ⟨_, rfl⟩
 rw [<- hX14];rw [<- hX14] at q14 g14_0 g14_1;have loX14 : w.heap.size + 1 + 1 <= X14 := by omega
 have upX14 : X14 <= w.heap.size + 1 + 1 := by omega
 clear hX14;obtain ⟨X12, hX12⟩ : ∃ x, x = w.heap.size + 1 := ⟨_, rfl⟩
 rw [<- hX12];rw [<- hX12] at q12 g12_0 g12_1 g12_2 g12_3;have loX12 : w.heap.size + 1 <= X12 := by omega
 have upX12 : X12 <= w.heap.size + 1 := by omega
 clear hX12;obtain ⟨X7, hX7⟩ : ∃ x, x = w.heap.size := ⟨_, rfl⟩
 rw [<- hX7];rw [<- hX7] at q7 g7_0 g7_1;have loX7 : w.heap.size <= X7 := by omega
 have upX7 : X7 <= w.heap.size := by omega
 clear hX7;clear g7_0 g7_1 g12_0 g12_1 g12_2 g12_3 g14_0 g14_1;have HC0 : Hid _ := newsI (lit_cells hE) hE.1;have HL0 : Hid ((E.map (Value.int .i64)).length = 3 * 1) := by (show _ = _; rw [qE, hE.1])
 have HJ0 : Hid _ := (JA.lit W1).o;have lX := q14.lt;have zB := BB.size
 go_wp2_with (at_builtin; go_must (refine wpList_append_lies _ rfl (.tmp 25) (.tmp 26) 23 rfl W1.heap.size 3 i0 (.int .i64 0) 1 8 Tryz.underlying23 hi hz0 hz1 hz2 rfl (by decide) _ 0 [] rfl HJ0.out ⟨eb, eo, none⟩ 3 ec (E.map (Value.int .i64)) rfl HL0.out HC0.out (oneI) (by omega) (by unfold maxLen; omega) (by omega) (by rw [qA]; omega) _ rfl ?_); intro g2 cp2 w2 hown hgrow hat hlt2; have j := JA.copied HEL.out hown hgrow; have q2 := q14.below j.b; obtain ⟨d0, d1, f0, f1⟩ := q2.pair; have hlt2 := q2.lt; clear hown hgrow hat)
 obtain ⟨x, cx, B, hv2, hX, hB⟩ := j.ownx HEL.out;simp only [Value.slice.injEq, true_and] at hv2;obtain ⟨rfl, rfl⟩ := hv2;have bb := btr BB j.b;have HR : Hid (tryL m C D ss s E U f true AD TL = (2, [], E, true)) := by (show _ = _; rfl)
 exact bodyPost_ret (v := .tuple #[resV 2 none 0 0, .slice (some ⟨g2, 0, none⟩) 3 cp2, .bool true]) (by simp [results, Tryz.results71, go_sem, d0, d1]) rfl (by rw [HR.out]; unfold LocD; exact ⟨none, 0, 0, 0, some ⟨g2, 0, none⟩, 3, cp2, B, rfl, rfl, HEL.out, (bb.setCell (by simp only []; omega) _).setCell (by simp only []; omega) _, OwnX.nil _ _ _, (hX.setOther (fun h => by have := hB h; omega) _ _).setOther (fun h => by have := hB h; omega) _ _, fun h => by omega, fun h => by have := hB h; omega, fun h => by omega⟩)
end Go.Proofs.YtfmpcihghlnlnaaGreatDoor
