/-
  Lemmas that the claim's last text rests on.
-/
import Derived.Maps.OwnSet
import Derived.Maps.RangeWalk
import Derived.WideKeyArr2
import Derived.Lib.SlBuf
import Derived.Laws.IdiomCopy
import Derived.Test.YtemcinobgdphnaaGreatQLV
namespace Go.Proofs.YtemcinobgdphnaaGreat
open Go.RowKit Go.Deep
open Go.WideMaps (ArrKey)
open Option.some renaming injEq → qA
open World renaming size_alloc → qB
open List renaming setIfInBounds_toArray → qC, set_cons_zero → qD, set_cons_succ → qE, getElem_cons_zero → qF, getElem_cons_succ → qG, getElem?_cons_zero → qH, getElem?_cons_succ → qI, getElem_toArray → qJ
open Nat renaming le_refl → qK
set_option linter.unusedVariables false
set_option linter.unusedSimpArgs false
set_option maxRecDepth 100000
set_option maxHeartbeats 25600000
variable {B n : Nat} {W W' : World} {p : List Int}
theorem itry_any (a : Option Addr) (cap : Nat) (c : Option Addr) (m cap' : Nat) (G N pc : Nat) (s : Int) (e : Option Addr) (ec : Nat) (u : Option Addr) (uc : Nat) (C D E U : List Int) (ss : List IV) (ga : Option Addr) (G0 gc : Nat) (gs : List FV) (aa : Option Addr) (A ac : Nat) (us : List FV) (ta : Option Addr) (T tc : Nat) (ts : List FV) (st : Bool) (P cg : Nat) (f : Nat -> Bool) {w : World}
  (hv : Vw w a c m G e u C D E U ss) (hb : Vb m N C D E U ss) (hps : partsB ss = true) (hs0 : 0 <= s) (hs1 : s < m) (RA : RowAt w ga G0 gs aa A us ta T ts) (hB : rowB gs us ts A T st = true) (hp : OwnBB w P f) :
  Calls Tryz.prog 54 #[viewV a 3 cap c m cap' (some ⟨G, 0, none⟩) N pc s e 3 ec u 2 uc, rowV ga G0 gc aa A ac ta T tc st, .slice (some ⟨P, 0, none⟩) 3 cg] w fun r w' => LocD w w' r (tryL m C D ss s E U f st (us.map (atF C U)) (ts.map (atF C U))) := by
 have hq3 := hb.hN;have l3E : E.length = 3 := hv.hE.1;have HE3 : Hid (E.length = 3) := l3E;clear l3E hq3;obtain ⟨AD, hAD⟩ : ∃ x, us.map (atF C U) = x := ⟨_, rfl⟩
 have HAD : Hid (us.map (atF C U) = AD) := hAD;obtain ⟨TL, hTL⟩ : ∃ x, ts.map (atF C U) = x := ⟨_, rfl⟩
 have HTL : Hid (ts.map (atF C U) = TL) := hTL;rw [hAD, hTL];have bAD : bnd 1000000000000 AD := by rw [<- hAD]; exact ats_bnd (rowB_g hB).2.1 hb.bC hb.bU
 have HOU : Hid (us.all FV.ok = true /\ ts.all FV.ok = true) := ⟨(rowB_g hB).2.1, (rowB_g hB).2.2⟩
 have hA3 : st = false -> A = 3 := fun h => by subst h; exact rowB_three hB
 have lAD : AD.length = A := by rw [<- hAD, List.length_map]; exact RA.ha
 have lTL : TL.length = T := by rw [<- hTL, List.length_map]; exact RA.ht
 have HLA : Hid (AD.length = A) := lAD;have HLT : Hid (TL.length = T) := lTL;clear hAD hTL lAD lTL hB
 cases st
 ·obtain rfl : A = 3 := hA3 rfl
  go_enter Tryz.func54, Tryz.ntmps54
  have al := (Below.refl (w).heap.size (w)).alloc (qK _) (.cells #[.slice a 3 cap, .slice c m cap', .slice (some ⟨G, 0, none⟩) N pc, .int .i64 s, .slice e 3 ec, .slice u 2 uc] 72);have BB := al;replace hv := hv.below al;replace hp := hp.below al;replace RA := RA.below al;clear al;have q3 := Cel.new (w) [.slice a 3 cap, .slice c m cap', .slice (some ⟨G, 0, none⟩) N pc, .int .i64 s, .slice e 3 ec, .slice u 2 uc] 72;have al := (Below.refl ((w).alloc (.cells #[.slice a 3 cap, .slice c m cap', .slice (some ⟨G, 0, none⟩) N pc, .int .i64 s, .slice e 3 ec, .slice u 2 uc] 72)).heap.size ((w).alloc (.cells #[.slice a 3 cap, .slice c m cap', .slice (some ⟨G, 0, none⟩) N pc, .int .i64 s, .slice e 3 ec, .slice u 2 uc] 72))).alloc (qK _) (.cells #[.slice ga G0 gc, .slice aa 3 ac, .slice ta T tc, .bool false] 76);replace BB := btr BB al;replace hv := hv.below al;replace hp := hp.below al;replace RA := RA.below al;replace q3 := q3.below al;clear al;have q4 := Cel.new ((w).alloc (.cells #[.slice a 3 cap, .slice c m cap', .slice (some ⟨G, 0, none⟩) N pc, .int .i64 s, .slice e 3 ec, .slice u 2 uc] 72)) [.slice ga G0 gc, .slice aa 3 ac, .slice ta T tc, .bool false] 76;simp only [qB] at q4
  have al := (Below.refl (((w).alloc (.cells #[.slice a 3 cap, .slice c m cap', .slice (some ⟨G, 0, none⟩) N pc, .int .i64 s, .slice e 3 ec, .slice u 2 uc] 72)).alloc (.cells #[.slice ga G0 gc, .slice aa 3 ac, .slice ta T tc, .bool false] 76)).heap.size (((w).alloc (.cells #[.slice a 3 cap, .slice c m cap', .slice (some ⟨G, 0, none⟩) N pc, .int .i64 s, .slice e 3 ec, .slice u 2 uc] 72)).alloc (.cells #[.slice ga G0 gc, .slice aa 3 ac, .slice ta T tc, .bool false] 76))).alloc (qK _) (.cells #[.int .i64 0, .slice none 0 0] 30);replace BB := btr BB al;replace hv := hv.below al;replace hp := hp.below al;replace RA := RA.below al;replace q3 := q3.below al;replace q4 := q4.below al;clear al;have q6 := Cel.new (((w).alloc (.cells #[.slice a 3 cap, .slice c m cap', .slice (some ⟨G, 0, none⟩) N pc, .int .i64 s, .slice e 3 ec, .slice u 2 uc] 72)).alloc (.cells #[.slice ga G0 gc, .slice aa 3 ac, .slice ta T tc, .bool false] 76)) [.int .i64 0, .slice none 0 0] 30;simp only [qB] at q6;obtain ⟨g3_0, g3_1, g3_2, g3_3, g3_4, g3_5⟩ := q3.c6;obtain ⟨g4_0, g4_1, g4_2, g4_3⟩ := q4.c4;obtain ⟨g6_0, g6_1⟩ := q6.c2
  go_wp2_with fail
  generalize (((w).alloc (.cells #[.slice a 3 cap, .slice c m cap', .slice (some ⟨G, 0, none⟩) N pc, .int .i64 s, .slice e 3 ec, .slice u 2 uc] 72)).alloc (.cells #[.slice ga G0 gc, .slice aa 3 ac, .slice ta T tc, .bool false] 76)).alloc (.cells #[.int .i64 0, .slice none 0 0] 30) = W1 at hv hp RA q3 q4 q6 BB g3_0 g3_1 g3_2 g3_3 g3_4 g3_5 g4_0 g4_1 g4_2 g4_3 g6_0 g6_1 ⊢;obtain ⟨X6, hX6⟩ : ∃ x, x = w.heap.size + 1 + 1 := ⟨_, rfl⟩
  rw [<- hX6];rw [<- hX6] at q6 g6_0 g6_1;have loX6 : w.heap.size + 1 + 1 <= X6 := by omega
  have upX6 : X6 <= w.heap.size + 1 + 1 := by omega
  clear hX6;obtain ⟨X4, hX4⟩ : ∃ x, x = w.heap.size + 1 := ⟨_, rfl⟩
  rw [<- hX4];rw [<- hX4] at q4 g4_0 g4_1 g4_2 g4_3;have loX4 : w.heap.size + 1 <= X4 := by omega
  have upX4 : X4 <= w.heap.size + 1 := by omega
  clear hX4;obtain ⟨X3, hX3⟩ : ∃ x, x = w.heap.size := ⟨_, rfl⟩
  rw [<- hX3];rw [<- hX3] at q3 g3_0 g3_1 g3_2 g3_3 g3_4 g3_5;have loX3 : w.heap.size <= X3 := by omega
  have upX3 : X3 <= w.heap.size := by omega
  clear hX3;refine (formsAt_any us C U RA.ha RA.a (by omega) HOU.out.1 hv.hC hv.hU hb.bC hb.bU).mono ?_;rintro ee w2 ⟨vA, rfl, jA⟩;rw [HAD.out] at jA;obtain ⟨xa, xcap, XB, rfl, oA, loA⟩ := jA.ownx HLA.out;have bA := jA.b;have loA2 := loA (by omega);clear jA loA;clear g3_0 g3_1 g3_2 g3_3 g3_4 g3_5 g4_0 g4_1 g4_2 g4_3 g6_0 g6_1;replace BB := btr BB bA;replace hv := hv.below bA;replace hp := hp.below bA;replace RA := RA.below bA;replace q3 := q3.below bA;replace q4 := q4.below bA;replace q6 := q6.below bA;clear bA;have hc0 : Below w2.heap.size w2 w2 := Below.refl _ _;have hv0 := hv;have hp0 := hp;have RA0 := RA;have oA0 := oA;have q30 := q3;have q40 := q4;have q60 := q6;have zB := BB.size;obtain ⟨g3_0, g3_1, g3_2, g3_3, g3_4, g3_5⟩ := q3.c6
  go_upto_region 5 with fail
  clear g3_0 g3_1 g3_2 g3_3 g3_4 g3_5;have lt6w := q6.lt;have al := (Below.refl (w2).heap.size (w2)).alloc (qK _) (.cells #[.slice a 3 cap, .slice c m cap', .slice (some ⟨G, 0, none⟩) N pc, .int .i64 s, .slice e 3 ec, .slice u 2 uc] 72);replace BB := btr BB al;replace hc0 := btr hc0 al;replace hv := hv.below al;replace hp := hp.below al;replace RA := RA.below al;replace oA := oA.below al;replace q3 := q3.below al;replace q4 := q4.below al;replace q6 := q6.below al;clear al;have q10 := Cel.new (w2) [.slice a 3 cap, .slice c m cap', .slice (some ⟨G, 0, none⟩) N pc, .int .i64 s, .slice e 3 ec, .slice u 2 uc] 72;generalize (w2).alloc (.cells #[.slice a 3 cap, .slice c m cap', .slice (some ⟨G, 0, none⟩) N pc, .int .i64 s, .slice e 3 ec, .slice u 2 uc] 72) = W3 at hv hp RA oA q3 q4 q6 q10 BB hc0 ⊢;obtain ⟨X10, hX10⟩ : ∃ x, x = w2.heap.size := ⟨_, rfl⟩
  rw [<- hX10];rw [<- hX10] at q10;have loX10 : w2.heap.size <= X10 := by omega
  have upX10 : X10 <= w2.heap.size := by omega
  clear hX10;have ltX10 := q10.lt;have ltX6 := q6.lt;obtain ⟨g3_0, g3_1, g3_2, g3_3, g3_4, g3_5⟩ := q3.c6;obtain ⟨g4_0, g4_1, g4_2, g4_3⟩ := q4.c4;obtain ⟨g6_0, g6_1⟩ := q6.c2;obtain ⟨g10_0, g10_1, g10_2, g10_3, g10_4, g10_5⟩ := q10.c6
  go_wp2_with fail
  refine (sums_any E AD 20000 1000000000000 hv.hE oA.ints hb.bE bAD).mono ?_;rintro ee w4 ⟨ya, ycap, YB, rfl, bS, oS, loS⟩;clear g3_0 g3_1 g3_2 g3_3 g3_4 g3_5 g4_0 g4_1 g4_2 g4_3 g6_0 g6_1 g10_0 g10_1 g10_2 g10_3 g10_4 g10_5;replace BB := btr BB bS;replace hc0 := btr hc0 bS;replace hv := hv.below bS;replace hp := hp.below bS;replace RA := RA.below bS;replace oA := oA.below bS;replace q3 := q3.below bS;replace q4 := q4.below bS;replace q6 := q6.below bS;replace q10 := q10.below bS;clear bS;obtain ⟨XX, hXX⟩ : ∃ x, List.zipWith (· + ·) E AD = x := ⟨_, rfl⟩
  have HXX : Hid (List.zipWith (· + ·) E AD = XX) := hXX;have HX3 : Hid (XX.length = 3) := by (show _ = _; rw [<- hXX, List.length_zipWith, HE3.out, HLA.out]; rfl)
  rw [hXX] at oS;clear hXX;have ltS := oS.lt (by omega);obtain ⟨g3_0, g3_1, g3_2, g3_3, g3_4, g3_5⟩ := q3.c6;obtain ⟨g4_0, g4_1, g4_2, g4_3⟩ := q4.c4;obtain ⟨g6_0, g6_1⟩ := q6.c2;obtain ⟨g10_0, g10_1, g10_2, g10_3, g10_4, g10_5⟩ := q10.c6;have f10_4 := q10.free 4;have l10 := q10.lt
  go_upto_region 6 with fail
  clear f10_4;clear g3_0 g3_1 g3_2 g3_3 g3_4 g3_5 g4_0 g4_1 g4_2 g4_3 g6_0 g6_1 g10_0 g10_1 g10_2 g10_3 g10_4 g10_5;replace BB := BB.setCell (p := ⟨X10, 4, none⟩) (by simp only []; omega) (.slice ya 3 ycap);replace hc0 := hc0.setCell (p := ⟨X10, 4, none⟩) (by simp only []; omega) (.slice ya 3 ycap);replace q10 := q10.set 4 (.slice ya 3 ycap);simp only [qD, qE] at q10;replace oS := oS.setOther (X := X10) (fun _ => by omega) 4 (.slice ya 3 ycap);replace hv := hv0.below hc0;replace hp := hp0.below hc0;replace RA := RA0.below hc0;replace oA := oA0.below hc0;replace q3 := q30.below hc0;replace q4 := q40.below hc0;replace q6 := q60.below hc0;clear hv0 hp0 RA0 oA0 q30 q40 q60;obtain ⟨W5, hW5⟩ : ∃ W, W = (w4.setCell ⟨X10, 4, none⟩ (.slice ya 3 ycap)) := ⟨_, rfl⟩
  rw [<- hW5];rw [<- hW5] at BB hc0 q10 oS hv hp RA oA q3 q4 q6;have hszW5 : w4.heap.size <= W5.heap.size := by rw [hW5, size_setCell]; exact qK _
  clear hW5;clear hc0;have hv2 : Vw W5 a c m G ya u C D XX U ss := ⟨hv.hC, hv.hD, oS.ints, hv.hU, hv.hP, hv.hI⟩
  obtain ⟨g3_0, g3_1, g3_2, g3_3, g3_4, g3_5⟩ := q3.c6;obtain ⟨g4_0, g4_1, g4_2, g4_3⟩ := q4.c4;obtain ⟨g6_0, g6_1⟩ := q6.c2;obtain ⟨g10_0, g10_1, g10_2, g10_3, g10_4, g10_5⟩ := q10.c6
  go_wp2_with fail
  go_wp2_with fail
  refine (ipin_any f AD hp oA.ints).mono ?_;rintro ee v6 ⟨rfl, rfl⟩
  cases h1 : pinned f AD
  ·go_wp2_with fail
   refine (imay_any XX oS.ints (by omega)).mono ?_;rintro ee v7 ⟨rfl, rfl⟩
   cases h2 : okN 3 20000 3 XX
   ·go_wp2_with fail
    have lX6 := q6.lt;refine (clone_any _ _ E hv.hE).mono ?_;rintro ee w8 ⟨vE, rfl, jE⟩;obtain ⟨ea, ecap, EB, rfl, oE, loE⟩ := jE.ownx HE3.out;have bE := jE.b;have loE2 := loE (by omega);have ltE := oE.lt (by omega);clear jE loE;clear g3_0 g3_1 g3_2 g3_3 g3_4 g3_5 g4_0 g4_1 g4_2 g4_3 g6_0 g6_1 g10_0 g10_1 g10_2 g10_3 g10_4 g10_5;replace BB := btr BB bE;replace hv := hv.below bE;replace hp := hp.below bE;replace RA := RA.below bE;replace oA := oA.below bE;replace oS := oS.below bE;replace hv2 := hv2.below bE;replace q3 := q3.below bE;replace q4 := q4.below bE;replace q6 := q6.below bE;replace q10 := q10.below bE;clear bE;obtain ⟨g6_0, g6_1⟩ := q6.c2;have f6_0 := q6.free 0;have f6_1 := q6.free 1;have l6 := q6.lt;have z6 := (q6.set 0 (.int .i64 0)).set 1 (.slice none 0 0);have z60 := z6.cell 0;have z61 := z6.cell 1;simp only [qH, qI, qD, qE] at z60 z61;clear z6;have hBB := (BB.setCell (p := ⟨X6, 0, none⟩) (by simp only []; omega) (.int .i64 0)).setCell (p := ⟨X6, 1, none⟩) (by simp only []; omega) (.slice none 0 0);have o_oE := (oE.setOther (X := X6) (fun _ => by omega) 0 (.int .i64 0)).setOther (X := X6) (fun _ => by omega) 1 (.slice none 0 0);have HR : Hid (tryL m C D ss s E U f false AD TL = (0, [], E, false)) := by (show _ = _; exact (show tryL m C D ss s E U f false AD TL = (0, [], E, false) from by simp [tryL, h1, HXX.out, h2]))
    go_wp2
    exact bodyPost_ret (v := .tuple #[resV 0 none 0 0, .slice ea 3 ecap, .bool false]) (by simp [results, Tryz.results54, go_sem, z60, z61]) rfl (by rw [HR.out]; unfold LocD; exact ⟨none, 0, 0, 0, ea, 3, ecap, EB, rfl, rfl, HE3.out, hBB, OwnX.nil _ _ 0, o_oE, fun h => absurd h (by omega), fun _ => by omega, fun h _ => absurd h (by omega)⟩)
   have bX : bnd 20000 XX := (okN_nat (by omega) h2).2;have hb2 : Vb m N C D XX U ss := ⟨hb.hN, hb.hN1, hb.hm3, hb.bC, bX, hb.bU, hb.bD⟩
   have HM : Hid (okN 3 20000 3 XX = true) := h2
   go_wp2_with fail
   refine (isover_any a cap c m cap' G N pc s ya ycap u uc C D XX U ss hv2 hb2).mono ?_;rintro ee w8 ⟨rfl, b7⟩;clear g3_0 g3_1 g3_2 g3_3 g3_4 g3_5 g4_0 g4_1 g4_2 g4_3 g6_0 g6_1 g10_0 g10_1 g10_2 g10_3 g10_4 g10_5;replace BB := btr BB b7;replace hv := hv.below b7;replace hp := hp.below b7;replace RA := RA.below b7;replace oA := oA.below b7;replace oS := oS.below b7;replace hv2 := hv2.below b7;replace q3 := q3.below b7;replace q4 := q4.below b7;replace q6 := q6.below b7;replace q10 := q10.below b7;clear b7
   cases h3 : (List.range 3).any (fun v => over1 (potB m C D ss s XX U v))
   ·obtain ⟨g3_0, g3_1, g3_2, g3_3, g3_4, g3_5⟩ := q3.c6;obtain ⟨g4_0, g4_1, g4_2, g4_3⟩ := q4.c4;obtain ⟨g6_0, g6_1⟩ := q6.c2;obtain ⟨g10_0, g10_1, g10_2, g10_3, g10_4, g10_5⟩ := q10.c6
    go_wp2_with fail
    refine (ismay_any a cap c m cap' G N pc s ya ycap u uc C D XX U ss hv2 hb2).mono ?_;rintro ee w9 ⟨rfl, b8⟩;clear g3_0 g3_1 g3_2 g3_3 g3_4 g3_5 g4_0 g4_1 g4_2 g4_3 g6_0 g6_1 g10_0 g10_1 g10_2 g10_3 g10_4 g10_5;replace BB := btr BB b8;replace hv := hv.below b8;replace hp := hp.below b8;replace RA := RA.below b8;replace oA := oA.below b8;replace oS := oS.below b8;replace hv2 := hv2.below b8;replace q3 := q3.below b8;replace q4 := q4.below b8;replace q6 := q6.below b8;replace q10 := q10.below b8;clear b8
    cases h4 : (List.range 3).any (fun v => may1 (potB m C D ss s XX U v))
    ·obtain ⟨g3_0, g3_1, g3_2, g3_3, g3_4, g3_5⟩ := q3.c6;obtain ⟨g4_0, g4_1, g4_2, g4_3⟩ := q4.c4;obtain ⟨g6_0, g6_1⟩ := q6.c2;obtain ⟨g10_0, g10_1, g10_2, g10_3, g10_4, g10_5⟩ := q10.c6
     go_wp2_with fail
     refine (vkeeps_any _ _ _ _ _ _ _ _ _ s _ _ _ _ _ C D XX ss hv2.hD hv2.hE hb.hN hv2.isg hb.hN1 hb.hm3 hs0 hs1 hps bX hb.bD).mono ?_;rintro ee w10 ⟨rfl, b9⟩;clear g3_0 g3_1 g3_2 g3_3 g3_4 g3_5 g4_0 g4_1 g4_2 g4_3 g6_0 g6_1 g10_0 g10_1 g10_2 g10_3 g10_4 g10_5;replace BB := btr BB b9;replace hv := hv.below b9;replace hp := hp.below b9;replace RA := RA.below b9;replace oA := oA.below b9;replace oS := oS.below b9;replace hv2 := hv2.below b9;replace q3 := q3.below b9;replace q4 := q4.below b9;replace q6 := q6.below b9;replace q10 := q10.below b9;clear b9
     cases h5 : keepsB (D[s.toNat]?.getD 0) XX ss
     ·obtain ⟨g3_0, g3_1, g3_2, g3_3, g3_4, g3_5⟩ := q3.c6;obtain ⟨g4_0, g4_1, g4_2, g4_3⟩ := q4.c4;obtain ⟨g6_0, g6_1⟩ := q6.c2;obtain ⟨g10_0, g10_1, g10_2, g10_3, g10_4, g10_5⟩ := q10.c6
      go_wp2_with fail
      have lX6 := q6.lt;refine (clone_any _ _ E hv.hE).mono ?_;rintro ee w11 ⟨vE, rfl, jE⟩;obtain ⟨ea, ecap, EB, rfl, oE, loE⟩ := jE.ownx HE3.out;have bE := jE.b;have loE2 := loE (by omega);have ltE := oE.lt (by omega);clear jE loE;clear g3_0 g3_1 g3_2 g3_3 g3_4 g3_5 g4_0 g4_1 g4_2 g4_3 g6_0 g6_1 g10_0 g10_1 g10_2 g10_3 g10_4 g10_5;replace BB := btr BB bE;replace hv := hv.below bE;replace hp := hp.below bE;replace RA := RA.below bE;replace oA := oA.below bE;replace oS := oS.below bE;replace hv2 := hv2.below bE;replace q3 := q3.below bE;replace q4 := q4.below bE;replace q6 := q6.below bE;replace q10 := q10.below bE;clear bE;obtain ⟨g6_0, g6_1⟩ := q6.c2;have f6_0 := q6.free 0;have f6_1 := q6.free 1;have l6 := q6.lt;have z6 := (q6.set 0 (.int .i64 0)).set 1 (.slice none 0 0);have z60 := z6.cell 0;have z61 := z6.cell 1;simp only [qH, qI, qD, qE] at z60 z61;clear z6;have hBB := (BB.setCell (p := ⟨X6, 0, none⟩) (by simp only []; omega) (.int .i64 0)).setCell (p := ⟨X6, 1, none⟩) (by simp only []; omega) (.slice none 0 0);have o_oE := (oE.setOther (X := X6) (fun _ => by omega) 0 (.int .i64 0)).setOther (X := X6) (fun _ => by omega) 1 (.slice none 0 0);have HR : Hid (tryL m C D ss s E U f false AD TL = (0, [], E, false)) := by (show _ = _; exact (show tryL m C D ss s E U f false AD TL = (0, [], E, false) from by simp [tryL, h1, HXX.out, h2, h3, h4, h5]))
      go_wp2
      exact bodyPost_ret (v := .tuple #[resV 0 none 0 0, .slice ea 3 ecap, .bool false]) (by simp [results, Tryz.results54, go_sem, z60, z61]) rfl (by rw [HR.out]; unfold LocD; exact ⟨none, 0, 0, 0, ea, 3, ecap, EB, rfl, rfl, HE3.out, hBB, OwnX.nil _ _ 0, o_oE, fun h => absurd h (by omega), fun _ => by omega, fun h _ => absurd h (by omega)⟩)
     have HQ : Hid (tryL m C D ss s E U f false AD TL = (1, TL, XX, true)) := by (show _ = _; simp [tryL, h1, HXX.out, h2, h3, h4, h5])
     clear h1 h2 h3 h4 h5
     go_upto_region 12 with fail
     have lX6 := q6.lt;have lYS := oS.lt (by omega);refine wp_region_ends (fun X => X.cell? ⟨X3, 0, none⟩ = some (.slice a 3 cap) /\ X.cell? ⟨X3, 1, none⟩ = some (.slice c m cap') /\ X.cell? ⟨X3, 2, none⟩ = some (.slice (some ⟨G, 0, none⟩) N pc) /\ X.cell? ⟨X3, 3, none⟩ = some (.int .i64 s) /\ X.cell? ⟨X3, 4, none⟩ = some (.slice e 3 ec) /\ X.cell? ⟨X3, 5, none⟩ = some (.slice u 2 uc) /\ X.cell? ⟨X4, 0, none⟩ = some (.slice ga G0 gc) /\ X.cell? ⟨X4, 1, none⟩ = some (.slice aa 3 ac) /\ X.cell? ⟨X4, 2, none⟩ = some (.slice ta T tc) /\ X.cell? ⟨X4, 3, none⟩ = some (.bool false) /\ X.cell? ⟨X10, 0, none⟩ = some (.slice a 3 cap) /\ X.cell? ⟨X10, 1, none⟩ = some (.slice c m cap') /\ X.cell? ⟨X10, 2, none⟩ = some (.slice (some ⟨G, 0, none⟩) N pc) /\ X.cell? ⟨X10, 3, none⟩ = some (.int .i64 s) /\ X.cell? ⟨X10, 4, none⟩ = some (.slice ya 3 ycap) /\ X.cell? ⟨X10, 5, none⟩ = some (.slice u 2 uc)) (fun _ => True) 13 (by kernel_rfl) ?_;have dr : Below w10.heap.size w10 w10.drew := (Below.refl _ _).drew;replace BB := btr BB dr;replace hv := hv.below dr;replace hp := hp.below dr;replace RA := RA.below dr;replace oA := oA.below dr;replace oS := oS.below dr;replace hv2 := hv2.below dr;replace q3 := q3.below dr;replace q4 := q4.below dr;replace q6 := q6.below dr;replace q10 := q10.below dr;clear dr;have szV : w10.drew.heap.size = w10.heap.size := rfl;rw [<- szV] at lX6 lYS;clear szV;generalize w10.drew = V11 at hv hp RA oA oS hv2 q3 q4 q6 q10 BB lX6 lYS ⊢
     have hSS : (V11.cell? ⟨X3, 0, none⟩ = some (.slice a 3 cap) /\ V11.cell? ⟨X3, 1, none⟩ = some (.slice c m cap') /\ V11.cell? ⟨X3, 2, none⟩ = some (.slice (some ⟨G, 0, none⟩) N pc) /\ V11.cell? ⟨X3, 3, none⟩ = some (.int .i64 s) /\ V11.cell? ⟨X3, 4, none⟩ = some (.slice e 3 ec) /\ V11.cell? ⟨X3, 5, none⟩ = some (.slice u 2 uc) /\ V11.cell? ⟨X4, 0, none⟩ = some (.slice ga G0 gc) /\ V11.cell? ⟨X4, 1, none⟩ = some (.slice aa 3 ac) /\ V11.cell? ⟨X4, 2, none⟩ = some (.slice ta T tc) /\ V11.cell? ⟨X4, 3, none⟩ = some (.bool false) /\ V11.cell? ⟨X10, 0, none⟩ = some (.slice a 3 cap) /\ V11.cell? ⟨X10, 1, none⟩ = some (.slice c m cap') /\ V11.cell? ⟨X10, 2, none⟩ = some (.slice (some ⟨G, 0, none⟩) N pc) /\ V11.cell? ⟨X10, 3, none⟩ = some (.int .i64 s) /\ V11.cell? ⟨X10, 4, none⟩ = some (.slice ya 3 ycap) /\ V11.cell? ⟨X10, 5, none⟩ = some (.slice u 2 uc)) /\ True := ⟨⟨q3.cell 0, q3.cell 1, q3.cell 2, q3.cell 3, q3.cell 4, q3.cell 5, q4.cell 0, q4.cell 1, q4.cell 2, q4.cell 3, q10.cell 0, q10.cell 1, q10.cell 2, q10.cell 3, q10.cell 4, q10.cell 5⟩, trivial⟩
     refine tkl 0 rfl hSS ?_;refine tkl 1 rfl hSS ?_;refine tkl 2 rfl hSS ?_;simp only [Act.put, qC, qE, qD, qJ, qG, qF];refine tkl 3 rfl hSS ?_;refine tkl 4 rfl hSS ?_;refine tkl 5 rfl hSS ?_;simp only [Act.put, qC, qE, qD, qJ, qG, qF];refine tkl 6 rfl hSS ?_;refine tkl 9 rfl hSS ?_;refine tkl 10 rfl hSS ?_;simp only [Act.put, qC, qE, qD, qJ, qG, qF];refine wo1 7 rfl fun K hK => ?_;go_simp;refine (formsAt_any ts C U RA.ht RA.t (by have := RA.zt; omega) HOU.out.2 hv.hC hv.hU hb.bC hb.bU).mono ?_;rintro ee w12 ⟨vT, rfl, jT⟩;rw [HTL.out] at jT;obtain ⟨xt, xtc, TB, rfl, oT, loT⟩ := jT.ownx HLT.out;have bT := jT.b;clear jT;replace BB := btr BB bT;replace hv := hv.below bT;replace hp := hp.below bT;replace RA := RA.below bT;replace oA := oA.below bT;replace oS := oS.below bT;replace hv2 := hv2.below bT;replace q3 := q3.below bT;replace q4 := q4.below bT;replace q6 := q6.below bT;replace q10 := q10.below bT;clear bT;clear hSS
     have hSS : (w12.cell? ⟨X3, 0, none⟩ = some (.slice a 3 cap) /\ w12.cell? ⟨X3, 1, none⟩ = some (.slice c m cap') /\ w12.cell? ⟨X3, 2, none⟩ = some (.slice (some ⟨G, 0, none⟩) N pc) /\ w12.cell? ⟨X3, 3, none⟩ = some (.int .i64 s) /\ w12.cell? ⟨X3, 4, none⟩ = some (.slice e 3 ec) /\ w12.cell? ⟨X3, 5, none⟩ = some (.slice u 2 uc) /\ w12.cell? ⟨X4, 0, none⟩ = some (.slice ga G0 gc) /\ w12.cell? ⟨X4, 1, none⟩ = some (.slice aa 3 ac) /\ w12.cell? ⟨X4, 2, none⟩ = some (.slice ta T tc) /\ w12.cell? ⟨X4, 3, none⟩ = some (.bool false) /\ w12.cell? ⟨X10, 0, none⟩ = some (.slice a 3 cap) /\ w12.cell? ⟨X10, 1, none⟩ = some (.slice c m cap') /\ w12.cell? ⟨X10, 2, none⟩ = some (.slice (some ⟨G, 0, none⟩) N pc) /\ w12.cell? ⟨X10, 3, none⟩ = some (.int .i64 s) /\ w12.cell? ⟨X10, 4, none⟩ = some (.slice ya 3 ycap) /\ w12.cell? ⟨X10, 5, none⟩ = some (.slice u 2 uc)) /\ True := ⟨⟨q3.cell 0, q3.cell 1, q3.cell 2, q3.cell 3, q3.cell 4, q3.cell 5, q4.cell 0, q4.cell 1, q4.cell 2, q4.cell 3, q10.cell 0, q10.cell 1, q10.cell 2, q10.cell 3, q10.cell 4, q10.cell 5⟩, trivial⟩
     (try dsimp only);refine kk0 hK (hSS.1) ?_;refine tkl 8 rfl hSS ?_;simp only [Act.put, qC, qE, qD, qJ, qG, qF];have z0 := q6.cell 0;have z1 := q6.cell 1;simp only [qH, qI] at z0 z1;have y0 := q6.free 0;have y1 := q6.free 1;have l6 := q6.lt;refine wo1 11 rfl fun K hK => ?_;go_simp;have hBB := (BB.setCell (p := ⟨X6, 0, none⟩) (by simp only []; omega) (.int .i64 1)).setCell (p := ⟨X6, 1, none⟩) (by simp only []; omega) (.slice xt T xtc);have q33 := (q3.setOther (B' := X6) (by omega) 0 (.int .i64 1)).setOther (B' := X6) (by omega) 1 (.slice xt T xtc);have q44 := (q4.setOther (B' := X6) (by omega) 0 (.int .i64 1)).setOther (B' := X6) (by omega) 1 (.slice xt T xtc);have q1010 := (q10.setOther (B' := X6) (by omega) 0 (.int .i64 1)).setOther (B' := X6) (by omega) 1 (.slice xt T xtc);have oS2 := (oS.setOther (X := X6) (fun _ => by omega) 0 (.int .i64 1)).setOther (X := X6) (fun _ => by omega) 1 (.slice xt T xtc);have oT2 := (oT.setOther (X := X6) (fun h => by have := loT h; omega) 0 (.int .i64 1)).setOther (X := X6) (fun h => by have := loT h; omega) 1 (.slice xt T xtc);have z6 := (q6.set 0 (.int .i64 1)).set 1 (.slice xt T xtc);have z60 := z6.cell 0;have z61 := z6.cell 1;simp only [qH, qI, qD, qE] at z60 z61
     have hS2 : (((w12.setCell ⟨X6, 0, none⟩ (.int .i64 1)).setCell ⟨X6, 1, none⟩ (.slice xt T xtc)).cell? ⟨X3, 0, none⟩ = some (.slice a 3 cap) /\ ((w12.setCell ⟨X6, 0, none⟩ (.int .i64 1)).setCell ⟨X6, 1, none⟩ (.slice xt T xtc)).cell? ⟨X3, 1, none⟩ = some (.slice c m cap') /\ ((w12.setCell ⟨X6, 0, none⟩ (.int .i64 1)).setCell ⟨X6, 1, none⟩ (.slice xt T xtc)).cell? ⟨X3, 2, none⟩ = some (.slice (some ⟨G, 0, none⟩) N pc) /\ ((w12.setCell ⟨X6, 0, none⟩ (.int .i64 1)).setCell ⟨X6, 1, none⟩ (.slice xt T xtc)).cell? ⟨X3, 3, none⟩ = some (.int .i64 s) /\ ((w12.setCell ⟨X6, 0, none⟩ (.int .i64 1)).setCell ⟨X6, 1, none⟩ (.slice xt T xtc)).cell? ⟨X3, 4, none⟩ = some (.slice e 3 ec) /\ ((w12.setCell ⟨X6, 0, none⟩ (.int .i64 1)).setCell ⟨X6, 1, none⟩ (.slice xt T xtc)).cell? ⟨X3, 5, none⟩ = some (.slice u 2 uc) /\ ((w12.setCell ⟨X6, 0, none⟩ (.int .i64 1)).setCell ⟨X6, 1, none⟩ (.slice xt T xtc)).cell? ⟨X4, 0, none⟩ = some (.slice ga G0 gc) /\ ((w12.setCell ⟨X6, 0, none⟩ (.int .i64 1)).setCell ⟨X6, 1, none⟩ (.slice xt T xtc)).cell? ⟨X4, 1, none⟩ = some (.slice aa 3 ac) /\ ((w12.setCell ⟨X6, 0, none⟩ (.int .i64 1)).setCell ⟨X6, 1, none⟩ (.slice xt T xtc)).cell? ⟨X4, 2, none⟩ = some (.slice ta T tc) /\ ((w12.setCell ⟨X6, 0, none⟩ (.int .i64 1)).setCell ⟨X6, 1, none⟩ (.slice xt T xtc)).cell? ⟨X4, 3, none⟩ = some (.bool false) /\ ((w12.setCell ⟨X6, 0, none⟩ (.int .i64 1)).setCell ⟨X6, 1, none⟩ (.slice xt T xtc)).cell? ⟨X10, 0, none⟩ = some (.slice a 3 cap) /\ ((w12.setCell ⟨X6, 0, none⟩ (.int .i64 1)).setCell ⟨X6, 1, none⟩ (.slice xt T xtc)).cell? ⟨X10, 1, none⟩ = some (.slice c m cap') /\ ((w12.setCell ⟨X6, 0, none⟩ (.int .i64 1)).setCell ⟨X6, 1, none⟩ (.slice xt T xtc)).cell? ⟨X10, 2, none⟩ = some (.slice (some ⟨G, 0, none⟩) N pc) /\ ((w12.setCell ⟨X6, 0, none⟩ (.int .i64 1)).setCell ⟨X6, 1, none⟩ (.slice xt T xtc)).cell? ⟨X10, 3, none⟩ = some (.int .i64 s) /\ ((w12.setCell ⟨X6, 0, none⟩ (.int .i64 1)).setCell ⟨X6, 1, none⟩ (.slice xt T xtc)).cell? ⟨X10, 4, none⟩ = some (.slice ya 3 ycap) /\ ((w12.setCell ⟨X6, 0, none⟩ (.int .i64 1)).setCell ⟨X6, 1, none⟩ (.slice xt T xtc)).cell? ⟨X10, 5, none⟩ = some (.slice u 2 uc)) /\ True := ⟨⟨q33.cell 0, q33.cell 1, q33.cell 2, q33.cell 3, q33.cell 4, q33.cell 5, q44.cell 0, q44.cell 1, q44.cell 2, q44.cell 3, q1010.cell 0, q1010.cell 1, q1010.cell 2, q1010.cell 3, q1010.cell 4, q1010.cell 5⟩, trivial⟩
     refine kk0 hK (hS2.1) ?_;clear hK K hSS z0 z1 y0 y1;refine wo1 12 rfl fun K hK => ?_;go_simp;refine kk0 hK (hS2.1) ?_;refine wo1 13 rfl fun K hK => ?_;go_simp;refine kk0 hK (hS2.1) ?_;refine wod ?_ _;clear hS2 q33 q44 q1010
     go_wp2
     exact bodyPost_ret (v := .tuple #[resV 1 xt T xtc, .slice ya 3 ycap, .bool true]) (by simp [results, Tryz.results54, go_sem, z60, z61]) rfl (by rw [HQ.out]; unfold LocD; exact ⟨xt, T, xtc, TB, ya, 3, ycap, YB, rfl, HLT.out, HX3.out, hBB, oT2, oS2, fun h => by have := loT h; omega, fun _ => by omega, fun h _ => by have := loT h; omega⟩)
    obtain ⟨g3_0, g3_1, g3_2, g3_3, g3_4, g3_5⟩ := q3.c6;obtain ⟨g4_0, g4_1, g4_2, g4_3⟩ := q4.c4;obtain ⟨g6_0, g6_1⟩ := q6.c2;obtain ⟨g10_0, g10_1, g10_2, g10_3, g10_4, g10_5⟩ := q10.c6
    go_wp2_with fail
    have lX6 := q6.lt;refine (clone_any _ _ E hv.hE).mono ?_;rintro ee w10 ⟨vE, rfl, jE⟩;obtain ⟨ea, ecap, EB, rfl, oE, loE⟩ := jE.ownx HE3.out;have bE := jE.b;have loE2 := loE (by omega);have ltE := oE.lt (by omega);clear jE loE;clear g3_0 g3_1 g3_2 g3_3 g3_4 g3_5 g4_0 g4_1 g4_2 g4_3 g6_0 g6_1 g10_0 g10_1 g10_2 g10_3 g10_4 g10_5;replace BB := btr BB bE;replace hv := hv.below bE;replace hp := hp.below bE;replace RA := RA.below bE;replace oA := oA.below bE;replace oS := oS.below bE;replace hv2 := hv2.below bE;replace q3 := q3.below bE;replace q4 := q4.below bE;replace q6 := q6.below bE;replace q10 := q10.below bE;clear bE;obtain ⟨g6_0, g6_1⟩ := q6.c2;have f6_0 := q6.free 0;have f6_1 := q6.free 1;have l6 := q6.lt;have z6 := (q6.set 0 (.int .i64 0)).set 1 (.slice none 0 0);have z60 := z6.cell 0;have z61 := z6.cell 1;simp only [qH, qI, qD, qE] at z60 z61;clear z6;have hBB := (BB.setCell (p := ⟨X6, 0, none⟩) (by simp only []; omega) (.int .i64 0)).setCell (p := ⟨X6, 1, none⟩) (by simp only []; omega) (.slice none 0 0);have o_oE := (oE.setOther (X := X6) (fun _ => by omega) 0 (.int .i64 0)).setOther (X := X6) (fun _ => by omega) 1 (.slice none 0 0);have HR : Hid (tryL m C D ss s E U f false AD TL = (0, [], E, false)) := by (show _ = _; exact (show tryL m C D ss s E U f false AD TL = (0, [], E, false) from by simp [tryL, h1, HXX.out, h2, h3, h4]))
    go_wp2
    exact bodyPost_ret (v := .tuple #[resV 0 none 0 0, .slice ea 3 ecap, .bool false]) (by simp [results, Tryz.results54, go_sem, z60, z61]) rfl (by rw [HR.out]; unfold LocD; exact ⟨none, 0, 0, 0, ea, 3, ecap, EB, rfl, rfl, HE3.out, hBB, OwnX.nil _ _ 0, o_oE, fun h => absurd h (by omega), fun _ => by omega, fun h _ => absurd h (by omega)⟩)
   obtain ⟨g3_0, g3_1, g3_2, g3_3, g3_4, g3_5⟩ := q3.c6;obtain ⟨g4_0, g4_1, g4_2, g4_3⟩ := q4.c4;obtain ⟨g6_0, g6_1⟩ := q6.c2;obtain ⟨g10_0, g10_1, g10_2, g10_3, g10_4, g10_5⟩ := q10.c6
   go_wp2_with fail
   have lX6 := q6.lt;refine (clone_any _ _ E hv.hE).mono ?_;rintro ee w9 ⟨vE, rfl, jE⟩;obtain ⟨ea, ecap, EB, rfl, oE, loE⟩ := jE.ownx HE3.out;have bE := jE.b;have loE2 := loE (by omega);have ltE := oE.lt (by omega);clear jE loE;clear g3_0 g3_1 g3_2 g3_3 g3_4 g3_5 g4_0 g4_1 g4_2 g4_3 g6_0 g6_1 g10_0 g10_1 g10_2 g10_3 g10_4 g10_5;replace BB := btr BB bE;replace hv := hv.below bE;replace hp := hp.below bE;replace RA := RA.below bE;replace oA := oA.below bE;replace oS := oS.below bE;replace hv2 := hv2.below bE;replace q3 := q3.below bE;replace q4 := q4.below bE;replace q6 := q6.below bE;replace q10 := q10.below bE;clear bE;obtain ⟨g6_0, g6_1⟩ := q6.c2;have f6_0 := q6.free 0;have f6_1 := q6.free 1;have l6 := q6.lt;have z6 := (q6.set 0 (.int .i64 3)).set 1 (.slice none 0 0);have z60 := z6.cell 0;have z61 := z6.cell 1;simp only [qH, qI, qD, qE] at z60 z61;clear z6;have hBB := (BB.setCell (p := ⟨X6, 0, none⟩) (by simp only []; omega) (.int .i64 3)).setCell (p := ⟨X6, 1, none⟩) (by simp only []; omega) (.slice none 0 0);have o_oE := (oE.setOther (X := X6) (fun _ => by omega) 0 (.int .i64 3)).setOther (X := X6) (fun _ => by omega) 1 (.slice none 0 0);have HR : Hid (tryL m C D ss s E U f false AD TL = (3, [], E, true)) := by (show _ = _; exact (show tryL m C D ss s E U f false AD TL = (3, [], E, true) from by simp [tryL, h1, HXX.out, h2, h3]))
   go_wp2
   exact bodyPost_ret (v := .tuple #[resV 3 none 0 0, .slice ea 3 ecap, .bool true]) (by simp [results, Tryz.results54, go_sem, z60, z61]) rfl (by rw [HR.out]; unfold LocD; exact ⟨none, 0, 0, 0, ea, 3, ecap, EB, rfl, rfl, HE3.out, hBB, OwnX.nil _ _ 0, o_oE, fun h => absurd h (by omega), fun _ => by omega, fun h _ => absurd h (by omega)⟩)
  go_wp2_with fail
  have lX6 := q6.lt;refine (clone_any _ _ E hv.hE).mono ?_;rintro ee w7 ⟨vE, rfl, jE⟩;obtain ⟨ea, ecap, EB, rfl, oE, loE⟩ := jE.ownx HE3.out;have bE := jE.b;have loE2 := loE (by omega);have ltE := oE.lt (by omega);clear jE loE;clear g3_0 g3_1 g3_2 g3_3 g3_4 g3_5 g4_0 g4_1 g4_2 g4_3 g6_0 g6_1 g10_0 g10_1 g10_2 g10_3 g10_4 g10_5;replace BB := btr BB bE;replace hv := hv.below bE;replace hp := hp.below bE;replace RA := RA.below bE;replace oA := oA.below bE;replace oS := oS.below bE;replace hv2 := hv2.below bE;replace q3 := q3.below bE;replace q4 := q4.below bE;replace q6 := q6.below bE;replace q10 := q10.below bE;clear bE;obtain ⟨g6_0, g6_1⟩ := q6.c2;have f6_0 := q6.free 0;have f6_1 := q6.free 1;have l6 := q6.lt;have z6 := (q6.set 0 (.int .i64 0)).set 1 (.slice none 0 0);have z60 := z6.cell 0;have z61 := z6.cell 1;simp only [qH, qI, qD, qE] at z60 z61;clear z6;have hBB := (BB.setCell (p := ⟨X6, 0, none⟩) (by simp only []; omega) (.int .i64 0)).setCell (p := ⟨X6, 1, none⟩) (by simp only []; omega) (.slice none 0 0);have o_oE := (oE.setOther (X := X6) (fun _ => by omega) 0 (.int .i64 0)).setOther (X := X6) (fun _ => by omega) 1 (.slice none 0 0);have HR : Hid (tryL m C D ss s E U f false AD TL = (0, [], E, false)) := by (show _ = _; exact (show tryL m C D ss s E U f false AD TL = (0, [], E, false) from by simp [tryL, h1]))
  go_wp2
  exact bodyPost_ret (v := .tuple #[resV 0 none 0 0, .slice ea 3 ecap, .bool false]) (by simp [results, Tryz.results54, go_sem, z60, z61]) rfl (by rw [HR.out]; unfold LocD; exact ⟨none, 0, 0, 0, ea, 3, ecap, EB, rfl, rfl, HE3.out, hBB, OwnX.nil _ _ 0, o_oE, fun h => absurd h (by omega), fun _ => by omega, fun h _ => absurd h (by omega)⟩)
 go_enter Tryz.func54, Tryz.ntmps54
 have al := (Below.refl (w).heap.size (w)).alloc (qK _) (.cells #[.slice a 3 cap, .slice c m cap', .slice (some ⟨G, 0, none⟩) N pc, .int .i64 s, .slice e 3 ec, .slice u 2 uc] 72);have BB := al;replace hv := hv.below al;replace hp := hp.below al;replace RA := RA.below al;clear al;have q3 := Cel.new (w) [.slice a 3 cap, .slice c m cap', .slice (some ⟨G, 0, none⟩) N pc, .int .i64 s, .slice e 3 ec, .slice u 2 uc] 72;have al := (Below.refl ((w).alloc (.cells #[.slice a 3 cap, .slice c m cap', .slice (some ⟨G, 0, none⟩) N pc, .int .i64 s, .slice e 3 ec, .slice u 2 uc] 72)).heap.size ((w).alloc (.cells #[.slice a 3 cap, .slice c m cap', .slice (some ⟨G, 0, none⟩) N pc, .int .i64 s, .slice e 3 ec, .slice u 2 uc] 72))).alloc (qK _) (.cells #[.slice ga G0 gc, .slice aa A ac, .slice ta T tc, .bool true] 76);replace BB := btr BB al;replace hv := hv.below al;replace hp := hp.below al;replace RA := RA.below al;replace q3 := q3.below al;clear al;have q4 := Cel.new ((w).alloc (.cells #[.slice a 3 cap, .slice c m cap', .slice (some ⟨G, 0, none⟩) N pc, .int .i64 s, .slice e 3 ec, .slice u 2 uc] 72)) [.slice ga G0 gc, .slice aa A ac, .slice ta T tc, .bool true] 76;simp only [qB] at q4
 have al := (Below.refl (((w).alloc (.cells #[.slice a 3 cap, .slice c m cap', .slice (some ⟨G, 0, none⟩) N pc, .int .i64 s, .slice e 3 ec, .slice u 2 uc] 72)).alloc (.cells #[.slice ga G0 gc, .slice aa A ac, .slice ta T tc, .bool true] 76)).heap.size (((w).alloc (.cells #[.slice a 3 cap, .slice c m cap', .slice (some ⟨G, 0, none⟩) N pc, .int .i64 s, .slice e 3 ec, .slice u 2 uc] 72)).alloc (.cells #[.slice ga G0 gc, .slice aa A ac, .slice ta T tc, .bool true] 76))).alloc (qK _) (.cells #[.int .i64 0, .slice none 0 0] 30);replace BB := btr BB al;replace hv := hv.below al;replace hp := hp.below al;replace RA := RA.below al;replace q3 := q3.below al;replace q4 := q4.below al;clear al;have q6 := Cel.new (((w).alloc (.cells #[.slice a 3 cap, .slice c m cap', .slice (some ⟨G, 0, none⟩) N pc, .int .i64 s, .slice e 3 ec, .slice u 2 uc] 72)).alloc (.cells #[.slice ga G0 gc, .slice aa A ac, .slice ta T tc, .bool true] 76)) [.int .i64 0, .slice none 0 0] 30;simp only [qB] at q6;obtain ⟨g3_0, g3_1, g3_2, g3_3, g3_4, g3_5⟩ := q3.c6;obtain ⟨g4_0, g4_1, g4_2, g4_3⟩ := q4.c4;obtain ⟨g6_0, g6_1⟩ := q6.c2
 go_wp2_with fail
 generalize (((w).alloc (.cells #[.slice a 3 cap, .slice c m cap', .slice (some ⟨G, 0, none⟩) N pc, .int .i64 s, .slice e 3 ec, .slice u 2 uc] 72)).alloc (.cells #[.slice ga G0 gc, .slice aa A ac, .slice ta T tc, .bool true] 76)).alloc (.cells #[.int .i64 0, .slice none 0 0] 30) = W1 at hv hp RA q3 q4 q6 BB g3_0 g3_1 g3_2 g3_3 g3_4 g3_5 g4_0 g4_1 g4_2 g4_3 g6_0 g6_1 ⊢;obtain ⟨X6, hX6⟩ : ∃ x, x = w.heap.size + 1 + 1 := ⟨_, rfl⟩
 rw [<- hX6];rw [<- hX6] at q6 g6_0 g6_1;have loX6 : w.heap.size + 1 + 1 <= X6 := by omega
 have upX6 : X6 <= w.heap.size + 1 + 1 := by omega
 clear hX6;obtain ⟨X4, hX4⟩ : ∃ x, x = w.heap.size + 1 := ⟨_, rfl⟩
 rw [<- hX4];rw [<- hX4] at q4 g4_0 g4_1 g4_2 g4_3;have loX4 : w.heap.size + 1 <= X4 := by omega
 have upX4 : X4 <= w.heap.size + 1 := by omega
 clear hX4;obtain ⟨X3, hX3⟩ : ∃ x, x = w.heap.size := ⟨_, rfl⟩
 rw [<- hX3];rw [<- hX3] at q3 g3_0 g3_1 g3_2 g3_3 g3_4 g3_5;have loX3 : w.heap.size <= X3 := by omega
 have upX3 : X3 <= w.heap.size := by omega
 clear hX3;have lX6 := q6.lt;refine (clone_any _ _ E hv.hE).mono ?_;rintro ee w2 ⟨vE, rfl, jE⟩;obtain ⟨ea, ecap, EB, rfl, oE, loE⟩ := jE.ownx HE3.out;have bE := jE.b;have loE2 := loE (by omega);have ltE := oE.lt (by omega);clear jE loE;clear g3_0 g3_1 g3_2 g3_3 g3_4 g3_5 g4_0 g4_1 g4_2 g4_3 g6_0 g6_1;replace BB := btr BB bE;replace hv := hv.below bE;replace hp := hp.below bE;replace RA := RA.below bE;replace q3 := q3.below bE;replace q4 := q4.below bE;replace q6 := q6.below bE;clear bE;obtain ⟨g6_0, g6_1⟩ := q6.c2;have f6_0 := q6.free 0;have f6_1 := q6.free 1;have l6 := q6.lt;have z6 := (q6.set 0 (.int .i64 2)).set 1 (.slice none 0 0);have z60 := z6.cell 0;have z61 := z6.cell 1;simp only [qH, qI, qD, qE] at z60 z61;clear z6;have hBB := (BB.setCell (p := ⟨X6, 0, none⟩) (by simp only []; omega) (.int .i64 2)).setCell (p := ⟨X6, 1, none⟩) (by simp only []; omega) (.slice none 0 0);have o_oE := (oE.setOther (X := X6) (fun _ => by omega) 0 (.int .i64 2)).setOther (X := X6) (fun _ => by omega) 1 (.slice none 0 0);have HR : Hid (tryL m C D ss s E U f true AD TL = (2, [], E, true)) := by (show _ = _; exact (show tryL m C D ss s E U f true AD TL = (2, [], E, true) from rfl))
 go_wp2
 exact bodyPost_ret (v := .tuple #[resV 2 none 0 0, .slice ea 3 ecap, .bool true]) (by simp [results, Tryz.results54, go_sem, z60, z61]) rfl (by rw [HR.out]; unfold LocD; exact ⟨none, 0, 0, 0, ea, 3, ecap, EB, rfl, rfl, HE3.out, hBB, OwnX.nil _ _ 0, o_oE, fun h => absurd h (by omega), fun _ => by omega, fun h _ => absurd h (by omega)⟩)
abbrev kV (a b c : Int) : Value := .agg #[.int .i64 a, .int .i64 b, .int .i64 c]
abbrev KT : TypeId := 97
theorem arr3 : ArrKey Tryz.prog KT 3 3 := ⟨Tryz.underlying97, by kernel_rfl, by kernel_rfl, by kernel_rfl⟩
theorem law3 : Maps.Keyed Tryz.prog KT := Maps.Keyed.of_law arr3.law
theorem szT : ∃ m, Tryz.prog.types.size = m + 1 := ⟨Tryz.prog.types.size - 1, by have h : (0 : Nat) < Tryz.prog.types.size := of_decide_eq_true (by kernel_rfl); omega⟩
def kL (a b c : Int) : Lit := .string (keyBytes [.int .i64 a, .int .i64 b, .int .i64 c])
theorem keyOf_three {a b c : Int} (wa : (Lit.int .i64 a).wf = true) (wb : (Lit.int .i64 b).wf = true) (wc : (Lit.int .i64 c).wf = true) : keyOf Tryz.prog KT (kV a b c) = some (kL a b c) := by
 have hkt := arr3.keyType szT;obtain ⟨m, hm⟩ := szT;unfold keyOf;simp only [arr3.hu];rw [if_pos (by simp [hkt, Value.formed, arr3.hu, arr3.size]), hm];unfold Program.keyLits;simp only [arr3.hu, Value.cells];rw [if_pos (by rw [arr3.size]; rfl), show List.range 3 = [0, 1, 2] from rfl, List.mapM_cons, List.mapM_cons, List.mapM_cons, List.mapM_nil];simp [arr3.one, Program.keyLits, Tryz.underlying3, wa, wb, wc, kL]
theorem lit_one {m : Nat} {x : Value} {L : List Lit} (h : Tryz.prog.keyLits (m + 1) 3 [x] = some L) : ∃ a, x = .int .i64 a /\ (Lit.int .i64 a).wf = true /\ L = [.int .i64 a] := by
 unfold Program.keyLits at h;simp only [Tryz.underlying3] at h
 split at h
 all_goals first
  | (cases h; done)
  | skip
 all_goals simp_all
theorem inv3 {key : Value} {kl : Lit} (h : keyOf Tryz.prog KT key = some kl) : ∃ a b c, key = kV a b c /\ kl = kL a b c /\ (Lit.int .i64 a).wf = true /\ (Lit.int .i64 b).wf = true /\ (Lit.int .i64 c).wf = true := by
 obtain ⟨xs, L, rfl, hl, rfl⟩ := keyOf_top arr3.wide h;obtain ⟨m, hm⟩ := szT;rw [hm] at hl;unfold Program.keyLits at hl;simp only [arr3.hu] at hl
 split at hl
 ·rename_i hlen
  rw [arr3.size] at hlen
  obtain ⟨x, y, z, rfl⟩ : ∃ x y z, xs = #[x, y, z] := by
   match xs, hlen with
   | ⟨[x, y, z]⟩, _ => exact ⟨x, y, z, rfl⟩
  rw [show List.range 3 = [0, 1, 2] from rfl, List.mapM_cons, List.mapM_cons, List.mapM_cons, List.mapM_nil] at hl;simp only [arr3.one, bind, pure, Option.map_eq_some_iff, Option.bind_eq_some_iff] at hl;obtain ⟨aa, ⟨l0, h0, l1', ⟨l1, h1, l2', ⟨l2, h2, l3, e3, e2⟩, e1⟩, e0⟩, rfl⟩ := hl;simp only [qA] at e3 e2 e1 e0;subst e3 e2 e1 e0;obtain ⟨a, rfl, wa, rfl⟩ := lit_one (m := m) (x := x) (by simpa using h0);obtain ⟨b, rfl, wb, rfl⟩ := lit_one (m := m) (x := y) (by simpa using h1);obtain ⟨c, rfl, wc, rfl⟩ := lit_one (m := m) (x := z) (by simpa using h2)
  exact ⟨a, b, c, rfl, rfl, wa, wb, wc⟩
 cases hl
def kP (p : List Int) : Lit := kL (p[0]?.getD 0) (p[1]?.getD 0) (p[2]?.getD 0)
def wfP (p : List Int) : Prop := p.length = 3 /\ ∀ i, i < 3 -> (Lit.int .i64 (p[i]?.getD 0)).wf = true
theorem keyOf_P (h : wfP p) : keyOf Tryz.prog KT (kV (p[0]?.getD 0) (p[1]?.getD 0) (p[2]?.getD 0)) = some (kP p) := keyOf_three (h.2 0 (by omega)) (h.2 1 (by omega)) (h.2 2 (by omega))
theorem three_eq (h : p.length = 3) : p = [p[0]?.getD 0, p[1]?.getD 0, p[2]?.getD 0] := by
 match p, h with
 | [a, b, c], _ => rfl
theorem kP_inj {q : List Int} (hp : wfP p) (hq : wfP q) (h : kP p = kP q) : p = q := by
 have := law3.inj (keyOf_P hp) (h ▸ keyOf_P hq);simp only [kV, Value.agg.injEq, Array.mk.injEq, List.cons.injEq, Value.int.injEq, true_and, and_true] at this;obtain ⟨h0, h1, h2⟩ := this;rw [three_eq hp.1, three_eq hq.1, h0, h1, h2]
theorem wf_wrap {z : Int} : (Lit.int .i64 (wrap64 z)).wf = true := wrap64_wf z
theorem wfP_part {C : List Int} (h : C.length = 3) : wfP (partL C) := by
 refine ⟨by rw [part_len, h], fun i hi => ?_⟩;rw [partL, mulW_get (by omega)]
 exact wf_wrap
theorem key_lit (p : List Int) : WideAt.IsKeyLit (kP p) := trivial
structure MapIs (D : DataW Unit) (ps : List (List Int)) : Prop where
 sz : Maps.size D = ps.length
 ix : ∀ j, j < ps.length -> ∀ z, D.atKey (kP (ps[j]?.getD [])) z = .lit (.int .i64 j)
 has : ∀ p, wfP p -> (Maps.has D (kP p) = true ↔ p ∈ ps)
 wf : ∀ p ∈ ps, wfP p
theorem MapIs.empty : MapIs (.map []) [] := ⟨rfl, fun j hj => by simp at hj, fun p _ => by simp [Maps.has], fun p hp => by simp at hp⟩
theorem MapIs.put {D : DataW Unit} {ps : List (List Int)} (h : MapIs D ps) (hT : Maps.Tidy D) (hp : wfP p) (hn : p ∉ ps) : MapIs (D.put (kP p) (.lit (.int .i64 (ps.length : Int)))) (ps ++ [p]) := by
 have hno : Maps.has D (kP p) = false := by
  cases hh : Maps.has D (kP p) with
  | false => rfl
  | true => exact absurd ((h.has p hp).1 hh) hn
 refine ⟨?_, fun j hj z => ?_, fun q hq => ?_, fun q hq => ?_⟩
 ·rw [Maps.size_put hT, hno, h.sz]; simp
 ·by_cases e : j < ps.length
  ·have hm : ps[j]?.getD [] ∈ ps := by rw [List.getElem?_eq_getElem e]; exact List.getElem_mem e
   rw [List.getElem?_append_left e, Maps.atKey_put_other (fun e2 => hn (by rw [<- kP_inj (h.wf _ hm) hp e2]; exact hm))]
   exact h.ix j e z
  rw [List.length_append, List.length_singleton] at hj;obtain rfl : j = ps.length := by omega
  rw [List.getElem?_append_right (qK _), Nat.sub_self]
  exact Maps.atKey_put_same hT.isMap (key_lit p) _ z
 ·by_cases e : q = p
  ·subst e;simp [Maps.has_put_same hT.isMap (key_lit q)]
  rw [Maps.has_put_other (fun e2 => e (kP_inj hq hp e2)), h.has q hq];simp [e]
 rcases List.mem_append.1 hq with hq | hq
 ·exact h.wf q hq
 simp only [List.mem_cons, List.not_mem_nil, or_false] at hq;subst hq; exact hp
abbrev ET : TypeId := 3
abbrev OwnM (W : World) (B n : Nat) (D : DataW Unit) : Prop := W.ownsMap Tryz.prog KT (plainElem Tryz.prog ET) B n D
theorem OwnM.no {D : DataW Unit} (h : OwnM W B n D) : ∀ o, W.cell? ⟨B, o, none⟩ = none := fun o => by
 obtain ⟨es, clock, hb, _⟩ := h;simp [World.cell?, hb]
theorem FormsAt.pastM {D : DataW Unit} {a : Option Addr} {fs : List Frm} (h : FormsAt W a fs) (m : OwnM W B n D) (t : Touch (fun z => z = B) W W') : FormsAt W' a fs :=
 h.past (fun o v hv => by rw [m.no o] at hv; cases hv) t
theorem touch_grownQ (h : W.grownBy W' (some B)) : Touch (fun z => z = B) W W' := ⟨h.os, h.tape, h.output, h.size, fun z hz hn => h.block z hz (fun e => hn (by simpa using e))⟩
theorem OwnM.below {D : DataW Unit} (h : OwnM W B n D) (b : Below W.heap.size W W') : OwnM W' B n D := by
 obtain ⟨es, clock, hb, r⟩ := h
 exact ⟨es, clock, (b.block B (lt_of_block hb)).trans hb, r⟩
theorem OwnM.touch {S : Nat -> Prop} {D : DataW Unit} (h : OwnM W B n D) (t : Touch S W W') (hn : ¬ S B) : OwnM W' B n D := by
 obtain ⟨es, clock, hb, r⟩ := h
 exact ⟨es, clock, (t.block B (lt_of_block hb) hn).trans hb, r⟩
theorem zeroE {w : World} : (zeroValue ET).run Tryz.prog w = .ok (.int .i64 0) w := by kernel_rfl
theorem three_set {P : Nat} {vs : List Value} {t : TypeId} (h : Cel W P vs t) (hl : vs.length = 3) (x y z : Value) : Cel (W.setCells P 0 [x, y, z]) P [x, y, z] t /\ Touch (fun k => k = P) W (W.setCells P 0 [x, y, z]) := by
 simp only [World.setCells];refine ⟨?_, (((Touch.refl (fun k => k = P) W).setCell rfl _).setCell rfl _).setCell rfl _⟩;have := ((h.set 0 x).set 1 y).set 2 z
 match vs, hl with
 | [a, b, c], _ => exact this
theorem eq3 (hp : wfP p) (w : World) : ∃ r : Bool, (Op.equalIn 10000 KT (kV (p[0]?.getD 0) (p[1]?.getD 0) (p[2]?.getD 0)) (kV 0 0 0)).run Tryz.prog w = .ok r w /\ (r = true ↔ p = [0, 0, 0]) := by
 have h0 : wfP [0, 0, 0] := ⟨rfl, fun i hi => by
  match i, hi with
  | 0, _ => rfl
  | 1, _ => rfl
  | 2, _ => rfl⟩
 obtain ⟨r, h1, h2⟩ := run_equal_deep w (m := 2) (by omega) (arr3.at 0) arr3.wide (keyOf_P hp) (keyOf_P h0)
 exact ⟨r, h1, h2.trans ⟨fun h => kP_inj hp h0 h, fun h => by rw [h]⟩⟩
theorem iput_any (B n : Nat) (D : DataW Unit) (ps : List (List Int)) (ad : Option Addr) (N cap : Nat) (fs : List Frm) (w : World) (hm : OwnM w B n D) (hD : MapIs D ps) (hn : n <= 1000000000) (hN : fs.length = N) (hF : FormsAt w ad fs) (hfit : ∀ k, k < N -> fitX 10000000 (fs[k]?.getD ([], [], 0))) (hN1 : N <= 1048576 := by omega) :
  Calls Tryz.prog 62 #[.map (some B), .slice ad N cap] w fun e w' => (∃ v, e = .returned v) /\ Touch (fun z => z = B) w w' /\ ∃ D', OwnM w' B (n + N) D' /\ MapIs D' (guardsP ps fs) := by
 have HN : Hid (fs.length = N) := hN;have HF : Hid (FormsAt w ad fs) := hF;have HFT : Hid _ := hfit;have HM : Hid (OwnM w B n D) := hm;have HD : Hid (MapIs D ps) := hD;have hBw : B < w.heap.size := hm.lt;clear hN hF hfit hm hD
 go_enter Tryz.func62, Tryz.ntmps62
 go_wp2_with fail
 go_loopw [5, 6, 7, 8, 9, 12] (fun _ _ _ _ _ i wr => ∃ (k : Nat) (D : DataW Unit), k <= N /\ i = .int .i64 k /\ Touch (fun z => z = B) w wr /\ OwnM wr B (n + k) D /\ MapIs D (guardsP ps (fs.take k))) (fun _ _ _ _ _ i _ => N - (intOf i).toNat)
 case atStart => exact ⟨0, D, Nat.zero_le _, rfl, Touch.refl _ _, HM.out, HD.out⟩
 case round =>
  clear HD;obtain ⟨k, D1, hk, rfl, t, m, d⟩ := hrel;have HD : Hid (MapIs D1 (guardsP ps (fs.take k))) := d;clear d
  by_cases hlt : k < N
  ·have hlt' : (k : Int) < N := by omega
   have hkl : k < fs.length := by rw [HN.out]; exact hlt
   have HS : Hid (guardsP ps (fs.take (k + 1)) = addPb (guardsP ps (fs.take k)) (partL (fs[k]?.getD ([], [], 0)).1)) := guardsP_snoc ps fs k hkl;have HW : Hid (wfP (partL (fs[k]?.getD ([], [], 0)).1)) := wfP_part (HFT.out k hlt).1;obtain ⟨b, off, rfl, a', c', ca, cc, c0, c1, c2, iC, iD⟩ := (HF.out.pastM HM.out t) k hkl;generalize (fs[k]?.getD ([], [], 0)).1 = C at *;generalize (fs[k]?.getD ([], [], 0)).2.2 = kz at *;generalize guardsP ps (fs.take k) = qs at *;have lB : B < wr.heap.size := m.lt;have b1 : Below wr.heap.size wr ((wr.alloc (.cells #[.slice a' 3 ca, .slice c' 2 cc, .int .i64 kz] 86)).alloc (.cells #[.int .i64 0, .int .i64 0, .int .i64 0] KT)) := (bal).alloc (by simp) _;have fb := (Cel.new wr [.slice a' 3 ca, .slice c' 2 cc, .int .i64 kz] 86).alloc (.cells #[.int .i64 0, .int .i64 0, .int .i64 0] KT);have pb := Cel.new (wr.alloc (.cells #[.slice a' 3 ca, .slice c' 2 cc, .int .i64 kz] 86)) [.int .i64 0, .int .i64 0, .int .i64 0] KT;rw [qB] at pb
   go_upto_region 4 with fail
   obtain ⟨Z, hZ⟩ : ∃ Z, Z = (wr.alloc (.cells #[.slice a' 3 ca, .slice c' 2 cc, .int .i64 kz] 86)).alloc (.cells #[.int .i64 0, .int .i64 0, .int .i64 0] KT) := ⟨_, rfl⟩
   rw [<- hZ] at b1 fb pb ⊢;clear hZ c0 c1 c2;have KP : Hid (∀ W, Below Z.heap.size Z W -> (W.cell? ⟨wr.heap.size, 0, none⟩ = some (.slice a' 3 ca) /\ W.cell? ⟨wr.heap.size, 1, none⟩ = some (.slice c' 2 cc) /\ W.cell? ⟨wr.heap.size, 2, none⟩ = some (.int .i64 kz))) := fun W hW => ⟨(fb.below hW).cell 0, (fb.below hW).cell 1, (fb.below hW).cell 2⟩
   have e0 : Below Z.heap.size Z Z.drew := (Below.refl _ _).drew;have hSS := And.intro (KP.out _ e0) (True.intro);have lP := pb.lt;refine wp_region_ends (fun w' => w'.cell? ⟨wr.heap.size, 0, none⟩ = some (.slice a' 3 ca) /\ w'.cell? ⟨wr.heap.size, 1, none⟩ = some (.slice c' 2 cc) /\ w'.cell? ⟨wr.heap.size, 2, none⟩ = some (.int .i64 kz)) (fun _ => True) 3 (by kernel_rfl) ?_;refine tkl 0 rfl hSS ?_;refine tkl 1 rfl hSS ?_;simp only [Act.put, qC, qE, qD, qJ, qG, qF];clear hSS;refine wo1 2 rfl fun K hK => ?_;go_simp;refine (ipart_any 3 2 C ((iC.below b1).below e0)).mono ?_;rintro ee w4 ⟨rfl, bd4, k4⟩;have b4 : Below Z.heap.size Z w4 := btr e0 bd4;have zd : Z.drew.heap.size = Z.heap.size := rfl;rw [zd] at k4;(try dsimp only);refine kk0 hK (KP.out _ b4) ?_;have p4 := pb.below b4;have hp3 : (partL C).length = 3 := HW.out.1
   have hr : (Builtin.copy_ #[24, 24] 3 #[.slice (some ⟨wr.heap.size + 1, 0, none⟩) 3 3, .slice (some ⟨Z.heap.size + 1, 0, none⟩) 3 3]).run Tryz.prog w4 = .ok (goInt 3) (w4.setCells (wr.heap.size + 1) 0 [.int .i64 ((partL C)[0]?.getD 0), .int .i64 ((partL C)[1]?.getD 0), .int .i64 ((partL C)[2]?.getD 0)]) :=
    run_copy_cells w4 24 24 3 3 (wr.heap.size + 1) 0 3 3 ⟨Z.heap.size + 1, 0, none⟩ 3 3 [.int .i64 ((partL C)[0]?.getD 0), .int .i64 ((partL C)[1]?.getD 0), .int .i64 ((partL C)[2]?.getD 0)] Tryz.underlying24 (by kernel_rfl) rfl
     (fun j v hv => by
      have hadd : (⟨Z.heap.size + 1, 0, none⟩ : Addr).add j = ⟨Z.heap.size + 1, j, none⟩ := by
       by_cases h0 : j = 0
       ·subst h0; simp [Addr.add]
       simp [Addr.add, h0]
      rw [hadd]
      match j with
      | 0 => simp only [qH, qA] at hv; subst hv; rw [k4.cell 0 (by omega), List.getD_eq_getElem?_getD]
      | 1 => simp only [qH, qI, qA] at hv; subst hv; rw [k4.cell 1 (by omega), List.getD_eq_getElem?_getD]
      | 2 => simp only [qH, qI, qA] at hv; subst hv; rw [k4.cell 2 (by omega), List.getD_eq_getElem?_getD]
      | j + 3 => simp at hv)
     (fun j hj => by
      have hj3 : j < 3 := hj;rw [Nat.zero_add, p4.cell j]
      match j, hj3 with
      | 0, _ => rfl
      | 1, _ => rfl
      | 2, _ => rfl)
     (fun j hj => by rw [Nat.zero_add]; exact p4.free j)
     (by simp [Value.oneCell'])
   obtain ⟨p5, t5⟩ := three_set p4 rfl (.int .i64 ((partL C)[0]?.getD 0)) (.int .i64 ((partL C)[1]?.getD 0)) (.int .i64 ((partL C)[2]?.getD 0));have s4 := b4.size;have s1 := b1.size;have m5 : OwnM (w4.setCells (wr.heap.size + 1) 0 [.int .i64 ((partL C)[0]?.getD 0), .int .i64 ((partL C)[1]?.getD 0), .int .i64 ((partL C)[2]?.getD 0)]) B (n + k) D1 := ((m.below b1).below b4).touch t5 (fun h => by have : B = wr.heap.size + 1 := h; omega)
   have T5 : Touch (fun z => z = B) w (w4.setCells (wr.heap.size + 1) 0 [.int .i64 ((partL C)[0]?.getD 0), .int .i64 ((partL C)[1]?.getD 0), .int .i64 ((partL C)[2]?.getD 0)]) := by
    have tw := t.size;have tb := (t.trans (Touch.of b1)).trans (Touch.of b4);refine ⟨t5.os.trans tb.os, t5.tape.trans tb.tape, t5.output.trans tb.output, Nat.le_trans tb.size t5.size, fun z hz hz2 => ?_⟩;rw [t5.block z (Nat.lt_of_lt_of_le hz tb.size) (by omega)]
    exact tb.block z hz hz2
   have KP5 : (w4.setCells (wr.heap.size + 1) 0 [.int .i64 ((partL C)[0]?.getD 0), .int .i64 ((partL C)[1]?.getD 0), .int .i64 ((partL C)[2]?.getD 0)]).cell? ⟨wr.heap.size, 0, none⟩ = some (.slice a' 3 ca) /\ (w4.setCells (wr.heap.size + 1) 0 [.int .i64 ((partL C)[0]?.getD 0), .int .i64 ((partL C)[1]?.getD 0), .int .i64 ((partL C)[2]?.getD 0)]).cell? ⟨wr.heap.size, 1, none⟩ = some (.slice c' 2 cc) /\ (w4.setCells (wr.heap.size + 1) 0 [.int .i64 ((partL C)[0]?.getD 0), .int .i64 ((partL C)[1]?.getD 0), .int .i64 ((partL C)[2]?.getD 0)]).cell? ⟨wr.heap.size, 2, none⟩ = some (.int .i64 kz) := by
    have := fb.below b4;have := Cel.touch this t5 (fun h => by have : wr.heap.size = wr.heap.size + 1 := h; omega)
    exact ⟨this.cell 0, this.cell 1, this.cell 2⟩
   refine wo1 3 rfl fun K hK => ?_;rw [if_pos (by kernel_rfl)];refine Go.Lib.wp_copy_run w4 (.tmp 16) (.tmp 18) 24 24 rfl (.slice (some ⟨wr.heap.size + 1, 0, none⟩) 3 3) (.slice (some ⟨Z.heap.size + 1, 0, none⟩) 3 3) (by rfl) (by rfl) hr ?_;(try dsimp only);refine hK.out _ _ ⟨KP5, fun h => absurd (show true = false from h) (by decide)⟩ ?_;refine wod ?_ _;generalize w4.setCells (wr.heap.size + 1) 0 [.int .i64 ((partL C)[0]?.getD 0), .int .i64 ((partL C)[1]?.getD 0), .int .i64 ((partL C)[2]?.getD 0)] = w5 at *;clear KP5 KP hr p4 t5 k4 bd4 b4 pb fb b1 m t iC iD e0 zd;obtain ⟨g0, g1, g2⟩ : w5.cell? ⟨wr.heap.size + 1, 0, none⟩ = some (.int .i64 ((partL C)[0]?.getD 0)) /\ w5.cell? ⟨wr.heap.size + 1, 1, none⟩ = some (.int .i64 ((partL C)[1]?.getD 0)) /\ w5.cell? ⟨wr.heap.size + 1, 2, none⟩ = some (.int .i64 ((partL C)[2]?.getD 0)) := ⟨p5.cell 0, p5.cell 1, p5.cell 2⟩
   obtain ⟨rz, hrz, hrz2⟩ := eq3 HW.out w5;have HRZ : Hid (rz = true ↔ partL C = [0, 0, 0]) := hrz2;clear hrz2;have HKEY : Hid (keyOf Tryz.prog KT (kV ((partL C)[0]?.getD 0) ((partL C)[1]?.getD 0) ((partL C)[2]?.getD 0)) = some (kP (partL C))) := keyOf_P HW.out;have HP3 : Hid (partL C = [(partL C)[0]?.getD 0, (partL C)[1]?.getD 0, (partL C)[2]?.getD 0]) := three_eq hp3;generalize hx0 : (partL C)[0]?.getD 0 = x0 at *;generalize hx1 : (partL C)[1]?.getD 0 = x1 at *;generalize hx2 : (partL C)[2]?.getD 0 = x2 at *;clear hx0 hx1 hx2 hp3;have HSZ : Hid (Maps.size D1 = qs.length) := HD.out.sz
   cases hh : Maps.has D1 (kP (partL C))
   ·have HNI : Hid (partL C ∉ qs) := fun hin => by
     have := (HD.out.has _ HW.out).2 hin;rw [hh] at this
     cases this
    cases rz
    ·have HNZ : Hid (partL C ≠ [0, 0, 0]) := fun e => by
      have := HRZ.out.2 e
      cases this
     have hszb : Maps.size D1 <= n + k := m5.size_le;have HWF : Hid ((Lit.int .i64 (Maps.size D1 : Int)).wf = true) := WalkArith.wf_i64 (by omega)
     go_wp2_with (first | (at_len; refine wpList_len_own _ rfl (.tmp 20) 89 rfl KT ET Tryz.underlying89 (plainElem Tryz.prog ET) B _ D1 rfl m5 ?_) | (at_lookup; refine wpList_lookup_own_ok_int _ rfl (.tmp 23) (.tmp 24) 89 rfl KT ET .i64 law3 Tryz.underlying89 Tryz.underlying3 (zeroE) B _ D1 rfl m5 _ _ rfl HKEY.out ?_; intro cq hatq hwq) | (at_mapUpdate; refine wpList_mapUpdate_own _ rfl (.tmp 35) (.tmp 36) (.tmp 37) 89 rfl KT ET law3 Tryz.underlying89 (plainElem Tryz.prog ET) B _ D1 rfl m5 (by unfold maxLen; omega) _ _ _ rfl rfl HKEY.out (.lit (.int .i64 (Maps.size D1))) [] (plainElem_int Tryz.underlying3 HWF.out) ?_; intro w6 hown6 hgrow6))
     have HD6 : Hid (MapIs (D1.put (kP (partL C)) (.lit (.int .i64 (Maps.size D1 : Int)))) (guardsP ps (fs.take (k + 1)))) := by
      have := HD.out.put (m5.tidy law3) HW.out HNI.out;rw [HSZ.out, HS.out, addPb, if_neg (by rintro (h | h); exact HNI.out h; exact HNZ.out h)]
      exact this
     have T6 := T5.trans (touch_grownQ hgrow6);have m6 : OwnM w6 B (n + (k + 1)) _ := hown6;clear m5 T5 hown6 hgrow6
     go_wp2
     go_roundw
     case rel => exact ⟨k + 1, _, by omega, by go_num, T6, m6, HD6.out⟩
     case measure => simp [intOf]; omega
    have HD6 : Hid (MapIs D1 (guardsP ps (fs.take (k + 1)))) := by
     have e : partL C = [0, 0, 0] := HRZ.out.1 rfl
     show MapIs _ _
     rw [HS.out, addP_zero e]
     exact HD.out
    have m6 : OwnM w5 B (n + (k + 1)) D1 := m5.mono (by omega)
    go_wp2_with (first | (at_len; refine wpList_len_own _ rfl (.tmp 20) 89 rfl KT ET Tryz.underlying89 (plainElem Tryz.prog ET) B _ D1 rfl m5 ?_) | (at_lookup; refine wpList_lookup_own_ok_int _ rfl (.tmp 23) (.tmp 24) 89 rfl KT ET .i64 law3 Tryz.underlying89 Tryz.underlying3 (zeroE) B _ D1 rfl m5 _ _ rfl HKEY.out ?_; intro cq hatq hwq))
    go_roundw
    case rel => exact ⟨k + 1, D1, by omega, by go_num, T5, m6, HD6.out⟩
    case measure => simp [intOf]; omega
   have HD6 : Hid (MapIs D1 (guardsP ps (fs.take (k + 1)))) := by
    have e : partL C ∈ qs := (HD.out.has _ HW.out).1 hh
    show MapIs _ _
    rw [HS.out, addPb, if_pos (.inl e)]
    exact HD.out
   have m6 : OwnM w5 B (n + (k + 1)) D1 := m5.mono (by omega)
   go_wp2_with (first | (at_len; refine wpList_len_own _ rfl (.tmp 20) 89 rfl KT ET Tryz.underlying89 (plainElem Tryz.prog ET) B _ D1 rfl m5 ?_) | (at_lookup; refine wpList_lookup_own_ok_int _ rfl (.tmp 23) (.tmp 24) 89 rfl KT ET .i64 law3 Tryz.underlying89 Tryz.underlying3 (zeroE) B _ D1 rfl m5 _ _ rfl HKEY.out ?_; intro cq hatq hwq))
   go_roundw
   case rel => exact ⟨k + 1, D1, by omega, by go_num, T5, m6, HD6.out⟩
   case measure => simp [intOf]; omega
  obtain rfl : k = N := by omega
  have HE : Hid (MapIs D1 (guardsP ps fs)) := by
   have := HD.out;rw [List.take_of_length_le (by rw [HN.out]; exact qK _)] at this
   exact this
  clear HD
  go_wp2
  go_end0
  exact ⟨⟨_, rfl⟩, t, D1, m, HE.out⟩
end Go.Proofs.YtemcinobgdphnaaGreat
