/-
  Lemmas that the claim's last text rests on.
-/
import Derived.OrdersIn
import Derived.OrdersHeld
import Derived.RangeFuncNested
import Derived.RangeFuncBound
import Derived.RangeFuncCalls
import Derived.RangeFuncLeaves
import Derived.Deep.AppendSrc
import Derived.Deep.Upon
import Derived.Shelf.Abstract
import Derived.Shelf.RegionOpen
import Derived.OwnWalkIn
import Derived.TacticsInMore
import Derived.LoopNIn
import Derived.LoopIn
import Derived.Test.YtpmihhbgjimpmaaGreatDoorSxN
namespace Go.Proofs.YtpmihhbgjimpmaaGreatDoor
open Go.RowKit Go.Deep Go.Joins Go.Shelf
open World renaming size_alloc → qA
open List renaming setIfInBounds_toArray → qB, set_cons_zero → qC, set_cons_succ → qD, getElem_cons_zero → qE, getElem_cons_succ → qF, getElem?_cons_zero → qG, getElem?_cons_succ → qH, getElem_toArray → qI
open Nat renaming le_refl → qJ
set_option linter.unusedVariables false
set_option maxRecDepth 100000
set_option maxHeartbeats 25600000
variable {N ln : Nat} {X Y : World} {cl : Int} {fs : List LgV}
def dRs (f : RsV) : Int × List Int := (f.c, f.t.x)
def SerD (w w' : World) (r : Ending) (X : List (Int × List Int) × List Int) : Prop :=
 ∃ v ts bs a n cap B, r = .returned (.tuple #[v, .slice a n cap]) /\ JRs w v ts bs w' /\ ts.map dRs = X.1 /\ X.2.length = n /\ n <= 1048576 /\ OwnX w' a B n X.2 /\ (0 < n -> w.heap.size <= B /\ some B ≠ v.ownBlock /\ ∀ j, j < ts.length -> 0 < (ts[j]?.getD noRs).t.n -> bs j ≠ B)
def serX (cl : Int) (N : Nat) (ss : List L2V) (gn : Nat) (G : List Int) (sn : Nat) (S : List Int) (ln : Nat) (fs : List LgV) : List (Int × List Int) × List Int :=
 if plnB cl N ss gn G sn S && logB cl N ln fs then serL ss S fs else ([], [])
theorem serX_no {ss : List L2V} {gn : Nat} {G : List Int} {sn : Nat} {S : List Int} (h : (plnB cl N ss gn G sn S && logB cl N ln fs) = false) : serX cl N ss gn G sn S ln fs = ([], []) := by rw [serX, h]; rfl
theorem serX_yes {ss : List L2V} {gn : Nat} {G : List Int} {sn : Nat} {S : List Int} (h1 : plnB cl N ss gn G sn S = true) (h2 : logB cl N ln fs = true) : serX cl N ss gn G sn S ln fs = serL ss S fs := by rw [serX, h1, h2]; rfl
theorem JRs.rebase {w w1 W : World} {v : Value} {ts : List RsV} {bs : Nat -> Nat} (j : JRs w1 v ts bs W) (b : Below w.heap.size w w1) : JRs w v ts bs W :=
 ⟨btr b j.b, ownsRow_le j.o b.size, fun i hi => by
  obtain ⟨h1, h2, h3⟩ := j.k i hi
  exact ⟨h1, h2, fun h => ⟨Nat.le_trans b.size (h3 h).1, (h3 h).2⟩⟩, j.d⟩
theorem log_act {k : Nat} (h : logB cl N ln fs = true) (hk : k < fs.length) : ∃ c : Nat, (fs[k]?.getD noLg).c = (c : Int) /\ c < N := by
 simp only [logB, Bool.and_eq_true] at h;have h1 := List.all_eq_true.1 h.2 _ (List.getElem_mem hk);simp only [lgOk, inCallB, Bool.and_eq_true] at h1;have h2 := inB_iff.1 h1.1.2.2.1;rw [List.getElem?_eq_getElem hk]
 exact ⟨(fs[k].c).toNat, by show fs[k].c = _; omega, by omega⟩
theorem ser_ts {ts : List RsV} {R : List (Int × List Int)} {f : RsV} {x : Int × List Int} (h : ts.map dRs = R) (hx : dRs f = x) : (ts ++ [f]).map dRs = R ++ [x] := by rw [List.map_append, h, <- hx]; rfl
def SerQ (W wx : World) (s t : Value) (code : Int) (tl pl : List Int) : Prop :=
 ∃ X a n ca A b m cb B, s = .pointer (some ⟨X, 0, none⟩) /\ t = .slice b m cb /\ tl.length = n /\ pl.length = m /\ Below W.heap.size W wx /\ Cel wx X [.int .i64 code, .slice a n ca] 54 /\ OwnX wx a A n tl /\ OwnX wx b B m pl /\ (0 < n -> W.heap.size <= A) /\ (0 < m -> W.heap.size <= B) /\ (0 < n -> 0 < m -> A ≠ B)
theorem sser_any (cl : Int) (ad : Option Addr) (N cap : Nat) (ga : Option Addr) (gn gc : Nat) (sa : Option Addr) (sn sc : Nat) (ss : List L2V) (G S : List Int) (la : Option Addr) (ln lc : Nat) (fs : List LgV) {w : World} (hA : PlAt w ad N ss ga gn G sa sn S) (hN : fs.length = ln) (hF : LgSG w la fs) (hz : ln <= 1048576) :
  Calls Tryz.prog 22 #[plV cl ad N cap ga gn gc sa sn sc, .slice la ln lc] w fun r w' => SerD w w' r (serX cl N ss gn G sn S ln fs) := by
 have HN : Hid (fs.length = ln) := hN;obtain ⟨R, hR⟩ : ∃ R, serX cl N ss gn G sn S ln fs = R := ⟨_, rfl⟩
 have HRX : Hid (serX cl N ss gn G sn S ln fs = R) := hR;rw [hR];clear hN hR;obtain ⟨zi, hi, hz0, hz1, hz2⟩ := info_parts Tryz.infoResResult;have q := Cel.new w [.int .i64 cl, .slice ad N cap, .slice ga gn gc, .slice sa sn sc] 26;have B0 := (Below.refl w.heap.size w).alloc (qJ _) (.cells #[.int .i64 cl, .slice ad N cap, .slice ga gn gc, .slice sa sn sc] 26);obtain ⟨W0, hW0⟩ : ∃ W, W = w.alloc (.cells #[.int .i64 cl, .slice ad N cap, .slice ga gn gc, .slice sa sn sc] 26) := ⟨_, rfl⟩
 obtain ⟨Y, hY⟩ : ∃ Y, Y = w.heap.size := ⟨_, rfl⟩
 have hY1 : w.heap.size <= Y /\ Y <= w.heap.size := by omega
 go_enter Tryz.func22, Tryz.ntmps22
 go_upto_region 1 with fail
 rw [<- hW0] at q B0;rw [<- hW0, <- hY];rw [<- hY] at q;clear hW0 hY;have g0 := q.cell 0;have g1 := q.cell 1;have g2 := q.cell 2;have g3 := q.cell 3;simp only [qG, qH] at g0 g1 g2 g3
 have none_ : ∀ (W : World), Below w.heap.size w W -> SerD w ((W.alloc (.cells #[] 54)).alloc (.cells #[] 3)) (.returned (.tuple #[.slice (some ⟨W.heap.size, 0, none⟩) 0 0, .slice (some ⟨W.heap.size + 1, 0, none⟩) 0 0])) ([], []) := fun W hW =>
  ⟨_, [], fun _ => 0, _, 0, 0, 0, rfl, ((JRs.lit W (fun _ => 0)).rebase hW).below (bal), rfl, rfl, by omega, OwnX.nil _ _ _, fun h => by omega⟩
 have NONE : Hid _ := none_;clear none_
 cases h1 : plnB cl N ss gn G sn S
 ·obtain rfl : R = ([], []) := by rw [<- HRX.out]; exact serX_no (by rw [h1]; rfl)
  go_wp2_with fail
  refine (splnok_any cl ad N cap ss ga gn gc G sa sn sc S (hA.below B0)).mono ?_;rintro e w1 ⟨rfl, b1⟩;rw [h1]
  go_wp2
  go_ret2
  exact NONE.out _ (btr B0 b1)
 have hp := pln_parts h1;have hn4 := pln_acts h1
 go_wp2_with fail
 refine (splnok_any cl ad N cap ss ga gn gc G sa sn sc S (hA.below B0)).mono ?_;rintro e w1 ⟨rfl, b1⟩;rw [h1];have B1 := btr B0 b1;replace q := q.below b1;clear g0 g1 g2 g3 b1 B0;have g0 := q.cell 0;have g1 := q.cell 1;have g2 := q.cell 2;have g3 := q.cell 3;simp only [qG, qH] at g0 g1 g2 g3
 go_wp2_with fail
 refine (slog_any cl ad N cap ga gn gc sa sn sc la ln lc fs HN.out (hF.below B1) hz hp.1 hn4).mono ?_;rintro e w2 ⟨rfl, b2⟩;have B2 := btr B1 b2;replace q := q.below b2;clear g0 g1 g2 g3 b2 B1
 cases h2 : logB cl N ln fs
 ·obtain rfl : R = ([], []) := by rw [<- HRX.out]; exact serX_no (by rw [h2]; simp)
  go_wp2
  go_ret2
  exact NONE.out _ B2
 obtain rfl : R = serL ss S fs := by rw [<- HRX.out]; exact serX_yes h1 h2
 clear HRX;clear NONE
 obtain rfl : sn = 3 := by
  have h := h1;simp only [plnB, okN, Bool.and_eq_true, decide_eq_true_eq] at h;have := h.2.2.1.1
  omega
 have LA : Hid _ := h2;clear h1 h2;have g0 := q.cell 0;have g1 := q.cell 1;have g2 := q.cell 2;have g3 := q.cell 3;simp only [qG, qH] at g0 g1 g2 g3;have al : Below w2.heap.size w2 (w2.alloc (.cells #[] 3)) := bal;have o0 : (w2.alloc (.cells #[] 3)).ownsRow w2.heap.size 3 1 (.slice (some ⟨w2.heap.size, 0, none⟩) 0 0) 0 [] := World.ownsRow_lit w2 #[] 0 (qJ _) (by unfold maxLen; omega) rfl;have hBa := (hA.s.below B2).below al;have g3a := (q.below al).cell 3;simp only [qG, qH] at g3a
 go_wp2_with (at_builtin; go_must (refine wpList_plain rfl (fun K hK => ?_); refine wp_copyN (.tmp 22) (.tmp 24) rfl w2.heap.size w2.heap.size sa 3 sc S (by rfl) o0 (by rfl) hBa (by omega) (by omega) (by rw [qA]; omega) (qJ _) ?_))
 intro c3 PB0 w3 bn3 tn3 op hB3 hor;refine hK _ _ ?_;have b3 := al.trans bn3;have B3 := btr B2 b3;replace q := q.below b3;clear g0 g1 g2 g3 g3a bn3 tn3 al o0 hBa hor b3;have j0 := JRs.lit w3 (fun _ => 0);have lY := q.lt;have A3 : Below w3.heap.size w3 (w3.alloc (.cells #[] 54)) := bal;have op0 := op.below A3;have hS3 := op.1;have lo0 : w.heap.size <= PB0 /\ some PB0 ≠ (Value.slice (some ⟨w3.heap.size, 0, none⟩) 0 0).ownBlock := ⟨Nat.le_trans B2.size hB3, fun e => by simp only [Value.ownBlock, Option.some.injEq] at e; have := op.lt (by omega); omega⟩
 clear op A3 hB3;have HQ : Hid _ := q;clear q B2
 go_wp2_with fail
 go_loopw [6, 7, 8, 9, 10] (fun vals out i _ _ wr => ∃ (k : Nat) (ts : List RsV) (bs : Nat -> Nat) (pa : Option Addr) (pn pc PB : Nat), k <= ln /\ i = .int .i64 k /\ vals = .slice pa pn pc /\ Hid (ts.length = k) /\ JRs w3 out ts bs wr /\ Hid (ts.map dRs = (serL ss S (fs.take k)).1) /\ Hid ((serL ss S (fs.take k)).2.length = pn) /\ pn <= 1048576 /\ OwnX wr pa PB pn (serL ss S (fs.take k)).2 /\ Hid (0 < pn -> w.heap.size <= PB /\ some PB ≠ out.ownBlock /\ ∀ j, j < ts.length -> 0 < (ts[j]?.getD noRs).t.n -> bs j ≠ PB)) (fun _ _ i _ _ _ => ln - (intOf i).toNat)
 case atStart => exact ⟨0, [], fun _ => 0, _, 3, _, PB0, Nat.zero_le _, rfl, rfl, rfl, j0, rfl, hS3, by omega, op0, fun _ => ⟨lo0.1, lo0.2, fun j hj => by simp at hj⟩⟩
 case round =>
  clear j0 op0 lo0 hS3;obtain ⟨k, ts, bs, pa, pn, pc, PB, hk, rfl, rfl, htl, j, HS, HPL, hpn, op, HPB⟩ := hrel;have Bw := btr B3 j.b;obtain ⟨va, vc, rfl⟩ := j.isSlice htl.out
  by_cases hlt : k < ln
  ·have hlt' : (k : Int) < ln := by omega
   obtain ⟨b, off, rfl, hc6, hg1, -, -⟩ := (hF.below Bw) k (by rw [HN.out]; exact hlt);obtain ⟨c, hgc, hcN⟩ := log_act LA.out (by rw [HN.out]; exact hlt);have STEP : Hid _ := serL_step (ss := ss) (V := S) (k := k) (by rw [HN.out]; exact hlt);obtain ⟨e0, e1, e2, e3, e4, e5⟩ := cellsLg hc6;clear e0 e1 e4 e5 hc6;generalize fs[k]?.getD noLg = g at *;obtain ⟨gx, gq, gc, ⟨gta, gtn, gtc, gtx⟩, ge, gu⟩ := g;obtain rfl : gc = (c : Int) := hgc;obtain ⟨gi, gz⟩ := hg1;replace gi : Ints wr gta gtn gtx := gi;replace gz : gtn <= 1048576 := gz;replace e2 : wr.cell? ⟨b, off + k * 6 + 2, none⟩ = some (.int .i64 (c : Int)) := e2;replace e3 : wr.cell? ⟨b, off + k * 6 + 3, none⟩ = some (.slice gta gtn gtc) := e3;obtain ⟨ba, bo, rfl, ha, hl⟩ := (hA.a.below Bw) c (by rw [hA.ha]; exact hcN);have hcN' : (c : Int) < (N : Int) := by omega
   obtain ⟨hx1, hx2, hx3⟩ := hl;obtain ⟨RC, hRC⟩ : ∃ x, x = runCode (ss[c]?.getD noL).n (ss[c]?.getD noL).x pn (serL ss S (fs.take k)).2 gtn gtx := ⟨_, rfl⟩
   obtain ⟨RT, hRT⟩ : ∃ x, x = runTells (ss[c]?.getD noL).n (ss[c]?.getD noL).x pn (serL ss S (fs.take k)).2 gtn gtx := ⟨_, rfl⟩
   obtain ⟨RP, hRP⟩ : ∃ x, x = runPots (ss[c]?.getD noL).n (ss[c]?.getD noL).x pn (serL ss S (fs.take k)).2 gtn gtx := ⟨_, rfl⟩
   have HST : Hid (serL ss S (fs.take (k + 1)) = ((serL ss S (fs.take k)).1 ++ [(RC, RT)], RP)) := by
    show _ = _
    rw [STEP.out, serStep];dsimp only;rw [Int.toNat_natCast, HPL.out, hRC, hRT, hRP]
   have hT7 : RT.length <= 7 := by rw [hRT]; exact runTells_le
   have hP3 : RP.length <= 1048576 := by rw [hRP]; exact Nat.le_trans (runPots_le) (by rw [HPL.out]; exact hpn)
   have HR : Hid (RC = _ /\ RT = _ /\ RP = _) := ⟨hRC, hRT, hRP⟩
   clear hRC hRT hRP STEP;have HV : Hid ((serL ss S (fs.take k)).2.length = pn) := HPL.out;generalize (serL ss S (fs.take k)).2 = VV at *;generalize ss[c]?.getD noL = al at *;obtain ⟨aa, an, ac, ax⟩ := al;replace ha : wr.cell? ⟨ba, bo + c, none⟩ = some (.slice aa an ac) := ha;replace hx1 : ax.length = an := hx1;replace hx2 : LinesG wr aa ax := hx2;replace hx3 : an <= 1048576 := hx3;have HX1 : Hid (ax.length = an) := hx1;clear hx1;have q := Cel.below HQ.out j.b;have g1 := q.cell 1;simp only [qG, qH] at g1
   go_upto_region 8 with fail
   go_cut [9, 10] from 27 to 58 (fun x y wx => SerQ wr wx x y RC RT RP)
   case first =>
    have KP : Hid (∀ X, Below wr.heap.size wr X -> X.cell? ⟨Y, 1, none⟩ = some (.slice (some ⟨ba, bo, none⟩) N cap) /\ X.cell? ⟨b, off + k * 6 + 2, none⟩ = some (.int .i64 (c : Int)) /\ X.cell? ⟨b, off + k * 6 + 3, none⟩ = some (.slice gta gtn gtc) /\ X.cell? ⟨ba, bo + c, none⟩ = some (.slice aa an ac)) := fun X hX => ⟨(hX.cell (p := ⟨Y, 1, none⟩) (block_lt g1)).trans g1, (hX.cell (p := ⟨b, off + k * 6 + 2, none⟩) (block_lt e2)).trans e2, (hX.cell (p := ⟨b, off + k * 6 + 3, none⟩) (block_lt e3)).trans e3, (hX.cell (p := ⟨ba, bo + c, none⟩) (block_lt ha)).trans ha⟩
    have d : Below wr.heap.size wr wr.drew := (Below.refl _ _).drew;have hSS : (wr.drew.cell? ⟨Y, 1, none⟩ = some (.slice (some ⟨ba, bo, none⟩) N cap) /\ wr.drew.cell? ⟨b, off + k * 6 + 2, none⟩ = some (.int .i64 (c : Int)) /\ wr.drew.cell? ⟨b, off + k * 6 + 3, none⟩ = some (.slice gta gtn gtc) /\ wr.drew.cell? ⟨ba, bo + c, none⟩ = some (.slice aa an ac)) /\ True := ⟨KP.out _ d, trivial⟩
    refine wp_region_ends (fun X => X.cell? ⟨Y, 1, none⟩ = some (.slice (some ⟨ba, bo, none⟩) N cap) /\ X.cell? ⟨b, off + k * 6 + 2, none⟩ = some (.int .i64 (c : Int)) /\ X.cell? ⟨b, off + k * 6 + 3, none⟩ = some (.slice gta gtn gtc) /\ X.cell? ⟨ba, bo + c, none⟩ = some (.slice aa an ac)) (fun _ => True) 23 (by kernel_rfl) ?_;obtain ⟨V0, hV0⟩ : ∃ V, V = wr.drew := ⟨_, rfl⟩
    rw [<- hV0] at hSS d;rw [<- hV0];clear hV0;have yd0 := d.size;refine tkl 0 rfl hSS ?_;refine tkl 1 rfl hSS ?_;refine tkl 2 rfl hSS ?_;refine tkl 3 rfl hSS ?_;refine tkl 4 rfl hSS ?_;refine tkl 5 rfl hSS ?_;refine tkl 6 rfl hSS ?_;refine tkl 7 rfl hSS ?_;refine tkl 8 rfl hSS ?_;refine tkl 9 rfl hSS ?_;refine tkl 10 rfl hSS ?_;refine tkl 11 rfl hSS ?_;refine tkl 12 rfl hSS ?_;refine tkl 13 rfl hSS ?_;refine tkl 14 rfl hSS ?_;refine tkl 15 rfl hSS ?_;refine tkl 16 rfl hSS ?_;(try simp only [Act.put, qB, qD, qC, qI, qF, qE]);refine wo2 17 21 rfl rfl (fun K hK => ?_) fun K hK => ?_
    ·go_simp;refine (srun_any an ax pn VV gtn gtx HX1.out (hx2.below d) hx3 (op.ints.below d) (gi.below d) hpn gz).mono ?_;rintro ee V1 ⟨ra, n1, rc, RA, rb, m1, rd, RB, rfl, ln1, ln2, bv, o1, o2, lo1, lo2, ne12⟩;rw [<- HR.out.1];rw [<- HR.out.2.1] at ln1 o1;rw [<- HR.out.2.2] at ln2 o2;have yV1 := bv.size;replace d := btr d bv;clear bv;(try dsimp only);replace hSS : (V1.cell? ⟨Y, 1, none⟩ = some (.slice (some ⟨ba, bo, none⟩) N cap) /\ V1.cell? ⟨b, off + k * 6 + 2, none⟩ = some (.int .i64 (c : Int)) /\ V1.cell? ⟨b, off + k * 6 + 3, none⟩ = some (.slice gta gtn gtc) /\ V1.cell? ⟨ba, bo + c, none⟩ = some (.slice aa an ac)) /\ True := ⟨KP.out _ d, trivial⟩
     refine kk0 hK (hSS.1) ?_;refine tkl 18 rfl hSS ?_;refine tkl 19 rfl hSS ?_;refine tkl 20 rfl hSS ?_;(try simp only [Act.put, qB, qD, qC, qI, qF, qE]);refine wo1 21 rfl fun K hK => ?_;go_simp;obtain ⟨V2, hV2⟩ : ∃ W, W = V1.alloc (.cells #[.int .i64 0, .slice none 0 0] 54) := ⟨_, rfl⟩
     have bv : Below V1.heap.size V1 V2 := by rw [hV2]; exact bal
     have nx1 : 0 < n1 -> RA ≠ V1.heap.size := fun h => by have := o1.lt h; omega
     have nx2 : 0 < m1 -> RB ≠ V1.heap.size := fun h => by have := o2.lt h; omega
     replace o1 := o1.below bv;replace o2 := o2.below bv;have xb : Cel V2 V1.heap.size [.int .i64 0, .slice none 0 0] 54 := by rw [hV2]; exact Cel.new V1 _ _
     have lb := xb.lt;have yV2 := d.size;replace d := btr d bv;rw [<- hV2];clear bv hV2;replace hSS : (V2.cell? ⟨Y, 1, none⟩ = some (.slice (some ⟨ba, bo, none⟩) N cap) /\ V2.cell? ⟨b, off + k * 6 + 2, none⟩ = some (.int .i64 (c : Int)) /\ V2.cell? ⟨b, off + k * 6 + 3, none⟩ = some (.slice gta gtn gtc) /\ V2.cell? ⟨ba, bo + c, none⟩ = some (.slice aa an ac)) /\ True := ⟨KP.out _ d, trivial⟩
     refine kk0 hK (hSS.1) ?_;have xS := ((xb.set 0 (.int .i64 RC)).set 1 (.slice ra n1 rc))
     simp only [qC, qD] at xS;have T := ((Touch.refl (fun z => z = V1.heap.size) V2).setCell (B := V1.heap.size) (i := 0) rfl (.int .i64 RC)).setCell (B := V1.heap.size) (i := 1) rfl (.slice ra n1 rc);have y0 := xb.cell 0;have y1 := xb.cell 1;have f0 := xb.free 0;have f1 := xb.free 1;simp only [qG, qH] at y0 y1;have dS := d.trans (T.below (B := wr.heap.size) (by omega) (fun z hz => by have hz : z = V1.heap.size := hz; omega));refine wo1 22 rfl fun K hK => ?_;go_simp;refine kk0 hK (KP.out _ dS) ?_;refine wo1 23 rfl fun K hK => ?_;go_simp;refine kk0 hK (KP.out _ dS) ?_;refine wod ?_ _;clear hSS y0 f0 y1 f1
     go_wp2_with fail
     go_meet
     case rel => exact ⟨V1.heap.size, ra, n1, rc, RA, rb, m1, rd, RB, rfl, rfl, ln1, ln2, dS, xS, o1.touch T (fun h0 hz => nx1 h0 hz), o2.touch T (fun h0 hz => nx2 h0 hz), fun h => by have := lo1 h; omega, fun h => by have := lo2 h; omega, ne12⟩
    go_simp;obtain ⟨V3, hV3⟩ : ∃ W, W = V0.alloc (.cells #[.int .i64 0, .slice none 0 0] 54) := ⟨_, rfl⟩
    have bv : Below V0.heap.size V0 V3 := by rw [hV3]; exact bal
    have xb : Cel V3 V0.heap.size [.int .i64 0, .slice none 0 0] 54 := by rw [hV3]; exact Cel.new V0 _ _
    have lb := xb.lt;have yV3 := d.size;replace d := btr d bv;rw [<- hV3];clear bv hV3;replace hSS : (V3.cell? ⟨Y, 1, none⟩ = some (.slice (some ⟨ba, bo, none⟩) N cap) /\ V3.cell? ⟨b, off + k * 6 + 2, none⟩ = some (.int .i64 (c : Int)) /\ V3.cell? ⟨b, off + k * 6 + 3, none⟩ = some (.slice gta gtn gtc) /\ V3.cell? ⟨ba, bo + c, none⟩ = some (.slice aa an ac)) /\ True := ⟨KP.out _ d, trivial⟩
    refine kk0 hK (hSS.1) ?_;refine wo1 17 rfl fun K hK => ?_;go_simp;refine (srun_any an ax pn VV gtn gtx HX1.out (hx2.below d) hx3 (op.ints.below d) (gi.below d) hpn gz).mono ?_;rintro ee V4 ⟨ra, n1, rc, RA, rb, m1, rd, RB, rfl, ln1, ln2, bv, o1, o2, lo1, lo2, ne12⟩;rw [<- HR.out.1];rw [<- HR.out.2.1] at ln1 o1;rw [<- HR.out.2.2] at ln2 o2;replace xb := xb.below bv;have nx1 : 0 < n1 -> RA ≠ V0.heap.size := fun h => by have := lo1 h; omega
    have nx2 : 0 < m1 -> RB ≠ V0.heap.size := fun h => by have := lo2 h; omega
    have yV4 := bv.size;replace d := btr d bv;clear bv;(try dsimp only);replace hSS : (V4.cell? ⟨Y, 1, none⟩ = some (.slice (some ⟨ba, bo, none⟩) N cap) /\ V4.cell? ⟨b, off + k * 6 + 2, none⟩ = some (.int .i64 (c : Int)) /\ V4.cell? ⟨b, off + k * 6 + 3, none⟩ = some (.slice gta gtn gtc) /\ V4.cell? ⟨ba, bo + c, none⟩ = some (.slice aa an ac)) /\ True := ⟨KP.out _ d, trivial⟩
    refine kk0 hK (hSS.1) ?_;refine tkl 18 rfl hSS ?_;refine tkl 19 rfl hSS ?_;refine tkl 20 rfl hSS ?_;(try simp only [Act.put, qB, qD, qC, qI, qF, qE]);have xS := ((xb.set 0 (.int .i64 RC)).set 1 (.slice ra n1 rc))
    simp only [qC, qD] at xS;have T := ((Touch.refl (fun z => z = V0.heap.size) V4).setCell (B := V0.heap.size) (i := 0) rfl (.int .i64 RC)).setCell (B := V0.heap.size) (i := 1) rfl (.slice ra n1 rc);have y0 := xb.cell 0;have y1 := xb.cell 1;have f0 := xb.free 0;have f1 := xb.free 1;simp only [qG, qH] at y0 y1;have dS := d.trans (T.below (B := wr.heap.size) (by omega) (fun z hz => by have hz : z = V0.heap.size := hz; omega));refine wo1 22 rfl fun K hK => ?_;go_simp;refine kk0 hK (KP.out _ dS) ?_;refine wo1 23 rfl fun K hK => ?_;go_simp;refine kk0 hK (KP.out _ dS) ?_;refine wod ?_ _;clear hSS y0 f0 y1 f1
    go_wp2_with fail
    go_meet
    case rel => exact ⟨V0.heap.size, ra, n1, rc, RA, rb, m1, rd, RB, rfl, rfl, ln1, ln2, dS, xS, o1.touch T (fun h0 hz => nx1 h0 hz), o2.touch T (fun h0 hz => nx2 h0 hz), fun h => by have := lo1 h; omega, fun h => by have := lo2 h; omega, ne12⟩
   case rest =>
   obtain ⟨w11, hwc⟩ : ∃ W, W = wc := ⟨wc, rfl⟩
   rw [<- hwc] at hcut;rw [<- hwc];clear hwc;obtain ⟨X9, ra, n1, rc, RA, rb, m1, rd, RB, rfl, rfl, ln1, ln2, bb, xb, o1, o2, lo1, lo2, ne12⟩ := hcut;have j4 := j.below bb;have zz := bb.size;have LN1 : Hid (RT.length = n1) := ln1;have LN2 : Hid (RP.length = m1) := ln2;have hn1 : n1 <= 1048576 := by omega
   have hm1 : m1 <= 1048576 := by omega
   have jown : ∀ z, (Value.slice va k vc).ownBlock = some z -> w3.heap.size <= z /\ z < wr.heap.size := fun z hz => j.own hz;have jk : ∀ i, i < k -> 0 < (ts[i]?.getD noRs).t.n -> bs i < wr.heap.size := fun i hi h0 => ((j.k i (by rw [htl.out]; exact hi)).1).lt h0;have j3s := j.b.size
   have hlo : Hid (0 < n1 -> w3.heap.size <= RA /\ some RA ≠ (Value.slice va k vc).ownBlock) := fun h0 => by
    have h2 := lo1 h0
    exact ⟨by omega, fun e => by have := (jown _ e.symm).2; omega⟩
   have hnew : Hid (0 < n1 -> ∀ i, i < k -> 0 < (ts[i]?.getD noRs).t.n -> bs i ≠ RA) := fun h0 i hi hi0 => by
    have h2 := lo1 h0;have h1 := jk i hi hi0
    omega
   clear ln1 ln2 op HPB q g1 e2 e3 ha gi hx2 HR HX1 HV j bb;have x0 := xb.cell 0;have x1 := xb.cell 1;simp only [qG, qH] at x0 x1;have A : Below w11.heap.size w11 (w11.alloc (.cells #[.int .i64 RC, .slice ra n1 rc] 54)) := bal;have j5 := j4.below A
   have ho : (w11.alloc (.cells #[.int .i64 RC, .slice ra n1 rc] 54)).ownsRow w3.heap.size 54 2 (.slice va k vc) k (ts.flatMap RsV.cs) := by
    have := j5.o;rw [htl.out] at this
    exact this
   have z4 := j4.b.size
   go_wp2_with (at_builtin; go_must (refine wpList_append_lies _ rfl (.tmp 55) (.tmp 57) 49 rfl w3.heap.size 54 zi _ 2 32 Tryz.underlying49 hi hz0 hz1 hz2 rfl (by decide) (.slice va k vc) k (ts.flatMap RsV.cs) rfl ho ⟨w11.heap.size, 0, none⟩ 1 1 [.int .i64 RC, .slice ra n1 rc] rfl rfl (World.news_of_block (cs := #[.int .i64 RC, .slice ra n1 rc]) (t := 54) (fr := (0, 0)) (heap_alloc_new w11 _)) (by simp [Value.oneCell']) (by omega) (by unfold maxLen; omega) (by omega) (by rw [qA]; omega) _ rfl ?_); intro g cp w6 hown hgrow hat hlt1)
   have lo1b : 0 < n1 -> RA < w11.heap.size := fun h => o1.lt h;have lo2b : 0 < m1 -> RB < w11.heap.size := fun h => o2.lt h
   have HO : Hid (OwnX w6 rb RB m1 RP) := by
    by_cases h0 : 0 < m1
    ·exact OwnX.grown o2 hgrow (fun e => by have := (jown _ e).2; have := lo2 h0; omega)
    obtain rfl : m1 = 0 := by omega
    exact ⟨o2.1, .inl rfl⟩
   have hat' : (Value.slice (some ⟨g, 0, none⟩) (k + 1) cp).ownBlock = (Value.slice va k vc).ownBlock \/ (Value.slice (some ⟨g, 0, none⟩) (k + 1) cp).ownBlock = some (w11.alloc (.cells #[.int .i64 RC, .slice ra n1 rc] 54)).heap.size := hat.elim (fun h => .inl (by rw [h]; rfl)) (fun h => .inr (by rw [h]; rfl));have j6 := j4.app (s := ⟨RC, ⟨ra, n1, rc, RT⟩⟩) htl.out o1 hn1 hlo.out hnew.out hown hgrow hat'
   have HPB2 : Hid (0 < m1 -> w.heap.size <= RB /\ some RB ≠ (Value.slice (some ⟨g, 0, none⟩) (k + 1) cp).ownBlock /\ ∀ j, j < (ts ++ [(⟨RC, ⟨ra, n1, rc, RT⟩⟩ : RsV)]).length -> 0 < ((ts ++ [(⟨RC, ⟨ra, n1, rc, RT⟩⟩ : RsV)])[j]?.getD noRs).t.n -> (if j < k then bs j else RA) ≠ RB) := fun h0 => by
    have h2 := lo2 h0;have h3 := lo2b h0;have h4 := Bw.size;refine ⟨by omega, fun e => ?_, fun j hj hj0 => ?_⟩
    ·rcases hat' with h | h
     ·rw [h] at e;have := (jown _ e.symm).2
      omega
     rw [h, qA] at e;simp only [Option.some.injEq] at e
     omega
    rw [List.length_append, htl.out, List.length_singleton] at hj
    by_cases hjk : j < k
    ·rw [if_pos hjk];rw [List.getElem?_append_left (by rw [htl.out]; exact hjk)] at hj0;have := jk j hjk hj0
     omega
    obtain rfl : j = k := by omega
    rw [if_neg hjk];rw [List.getElem?_append_right (by rw [htl.out]; exact qJ _), htl.out, Nat.sub_self] at hj0
    exact ne12 hj0 h0
   have HT2 : Hid ((ts ++ [(⟨RC, ⟨ra, n1, rc, RT⟩⟩ : RsV)]).map dRs = (serL ss S (fs.take (k + 1))).1) := by
    show _ = _
    rw [HST.out]
    exact ser_ts HS.out rfl
   have HP2 : Hid ((serL ss S (fs.take (k + 1))).2.length = m1) := by
    show _ = _
    rw [HST.out]; exact LN2.out
   have HO2 : Hid (OwnX w6 rb RB m1 (serL ss S (fs.take (k + 1))).2) := by
    show OwnX _ _ _ _ _
    rw [HST.out]; exact HO.out
   clear hown hgrow hat hat' j5 j4 ho o1 o2 x0 x1 xb A jown jk lo1 lo2 ne12
   go_wp2
   go_roundw
   case rel => exact ⟨k + 1, _, _, _, m1, _, RB, by omega, by go_num, rfl, by show _ = _; rw [List.length_append, htl.out]; rfl, j6, HT2, HP2, hm1, HO2.out, HPB2⟩
   case measure => simp [intOf]; omega
  obtain rfl : k = ln := by omega
  go_wp2
  go_ret2
  rw [List.take_of_length_le (by rw [HN.out]; exact qJ _)] at HS HPL op
  exact ⟨_, ts, bs, pa, pn, pc, PB, rfl, j.rebase B3, HS.out, HPL.out, hpn, op, HPB.out⟩
section
variable {F : Fence} {n : Nat} {P : Program} {ops : Array Oper} {Q : Exit -> Act -> World -> Prop} {md : Region.Mode} {S : World -> Prop}
def Left (o : Oper) (a a' : Act) : Prop := ∃ u ds, a' = ({ a with defers := ds } : Act).put o.dst u
theorem wpIn_left {o : Oper} {a : Act} {w : World} {K : Act -> World -> Prop} (h : o.wpIn F n P a w K Q) : o.wpIn F n P a w (fun a' w' => Left o a a' /\ K a' w') Q := by
 unfold Oper.wpIn at *;refine ⟨h.1, ?_⟩;have h := h.2;generalize (o.semAt F.round a.eval).run P w = r at *
 cases r with
 | ok x w' =>
  cases x <;> simp only [Oper.uponIn] at h ⊢ <;>
   first
    | exact ⟨⟨_, _, rfl⟩, h⟩
    | exact ⟨h.1, CallsIn.mono h.2 (fun e w'' he => by cases e <;> first | exact ⟨⟨_, _, rfl⟩, he⟩ | exact he)⟩
    | exact ⟨h.1, RowsIn.mono h.2 (fun _ _ he => ⟨⟨_, _, rfl⟩, he⟩)⟩
    | exact ⟨h.1, RoundIn.mono h.2 (fun e w'' he => by cases e <;> first | exact ⟨⟨_, _, rfl⟩, he⟩ | exact he)⟩
    | exact h
 | halt x w' => cases x <;> simp only [Oper.uponIn] at h ⊢ <;> exact h
theorem wpOpIn_left {j : Nat} {oj : Oper} (hj : ops[j]? = some oj) {a : Act} {w : World} {K : Act -> World -> Prop} (h : wpOpIn F n P ops Q j K a w) : wpOpIn F n P ops Q j (fun a' w' => Left oj a a' /\ K a' w') a w := by
 unfold wpOpIn at *;simp only [hj] at *
 split
 ·rename_i hw
  simp only [hw, if_true] at h
  exact wpIn_left h
 rename_i hw
 simp only [hw] at h
 exact ⟨h.1, ⟨undef, a.defers, rfl⟩, h.2⟩
def YieldsS (P : Program) (ops : Array Oper) (S : World -> Prop) (o : Oper) (v : Value) (a : Act) : Prop := YieldsIf P ops S o v a /\ ∀ w, o.about P w a.eval = none
theorem YieldsS.left {oi oj : Oper} {v : Value} {a a' : Act} (hy : YieldsS P ops S oi v a) (hap : oi.apart ops oj = true) (hsi : ∀ cs b, oi.op ≠ .select cs b) (h : Left oj a a') : YieldsS P ops S oi v a' := by
 obtain ⟨u, ds, rfl⟩ := h;obtain ⟨h1, h2, h3⟩ := Oper.apart_spec hap;refine ⟨YieldsIf.of_same (a := ({ a with defers := ds } : Act)) (YieldsIf.of_same hy.1 rfl rfl) (execOp_put oi hsi _ oj.dst u h3) (wanted_put oi _ oj.dst u h3), fun w => ?_⟩;rw [about_put oi w _ oj.dst u h3]
 exact hy.2 w
theorem YieldsS.wpOpIn {i : Nat} {o : Oper} {v : Value} {a : Act} (hro : F.round = none) (hi : ops[i]? = some o) (hy : YieldsS P ops S o v a) {K : Act -> World -> Prop} {w : World} (hS : S w) (h : K (a.put o.dst v) w) : wpOpIn F n P ops Q i K a w := by
 unfold Go.wpOpIn;simp only [hi];have hab : ∀ f, o.about P w a.eval = some f -> F.fn f := fun f hf => by rw [hy.2 w] at hf; cases hf
 rcases hy.1 with ⟨hw, hv⟩ | ⟨hw, rfl⟩
 ·simp only [hw, if_true, Oper.wpIn, hro, Oper.semAt_none, hv w hS, Oper.uponIn]; exact ⟨hab, h⟩
 simp only [hw, Bool.false_eq_true, if_false]; exact ⟨hab, h⟩
def still (oi : Oper) (v : Value) : Oper := { oi with op := .move (.const v), guard := none, after := #[] }
theorem still_yields (oi : Oper) (v : Value) (a : Act) : YieldsFenced P ops (still oi v) v a := by
 refine ⟨.inl ⟨rfl, fun w => ?_⟩, fun w => rfl⟩;simp [still, execOp, Act.eval]
theorem still_apart {oi oj : Oper} {v : Value} (h : oi.apart ops oj = true) : (still oi v).apart ops oj = true := by
 simp only [Oper.apart, Bool.and_eq_true] at h ⊢;refine ⟨h.1, ?_⟩
 cases oj.dst with
 | none => rfl
 | some d => simp [still, Oper.looksAt, Op.operands]
theorem wpOpIn_putS {j : Nat} {oi oj : Oper} {v : Value} (hro : F.round = none) (hj : ops[j]? = some oj) (hap : oi.apart ops oj = true)
  (hsi : ∀ cs b, oi.op ≠ .select cs b) (hsj : ∀ cs b, oj.op ≠ .select cs b)
  (hQ : ∀ c a w, Q (.panic c) (a.put oi.dst v) w -> Q (.panic c) a w) {K : Act -> World -> Prop} {a : Act} {w : World}
  (hy : YieldsS P ops S oi v a) (h : wpOpIn F n P ops Q j K (a.put oi.dst v) w) :
  wpOpIn F n P ops Q j (fun a' w' => YieldsS P ops S oi v a' /\ K (a'.put oi.dst v) w') a w :=
 wpOpIn_mono (fun a' w' hh => ⟨hy.left hap hsi hh.1, hh.2.2⟩) (wpOpIn_left hj (wpOpIn_put (oi := still oi v) hro hj (still_apart hap) (fun cs b e => by cases e) hsj hQ (still_yields oi v a) h))
def wpAnyS (F : Fence) (n : Nat) (P : Program) (md : Region.Mode) (ops : Array Oper) (Q : Exit -> Act -> World -> Prop) (S : World -> Prop) : Nat -> Array Bool -> Act -> World -> Prop
 | 0, listed, a, w => Region.ready md ops listed = [] /\ Q .normal a w
 | fuel + 1, listed, a, w =>
  (Region.ready md ops listed = [] -> Q .normal a w) /\
  ∀ i ∈ Region.ready md ops listed, wpOpIn F n P ops Q i (fun a' w' => S w' /\ wpAnyS F n P md ops Q S fuel (listed.setIfInBounds i true) a' w') a w
theorem wpAnyIn_of_S : ∀ (fuel : Nat) (listed : Array Bool) (a : Act) (w : World), wpAnyS F n P md ops Q S fuel listed a w -> wpAnyIn F n P md ops Q fuel listed a w
 | 0, _, _, _, h => h
 | fuel + 1, _, _, _, h => ⟨h.1, fun i hi => wpOpIn_mono (fun a' w' h' => wpAnyIn_of_S fuel _ a' w' h'.2) (h.2 i hi)⟩
theorem wpAnyS_first {i : Nat} {oi : Oper} {v : Value} (hro : F.round = none) (hi : ops[i]? = some oi) (hsel : ∀ (j : Nat) (o : Oper) cs b, ops[j]? = some o -> o.op ≠ .select cs b)
  (hQ : ∀ c a w, Q (.panic c) (a.put oi.dst v) w -> Q (.panic c) a w) :
  ∀ (fuel : Nat) (listed : Array Bool) (a : Act) (w : World),
   (∀ j oj, ops[j]? = some oj -> j ≠ i -> listed.getD j true = false -> (∀ e ∈ oj.after, Region.binds md e = true -> e.on ≠ i) -> oi.apart ops oj = true) ->
   i ∈ Region.ready md ops listed -> YieldsS P ops S oi v a -> S w ->
   wpAnyS F n P md ops Q S fuel (listed.setIfInBounds i true) (a.put oi.dst v) w -> wpAnyS F n P md ops Q S (fuel + 1) listed a w := by
 intro fuel
 induction fuel with
 | zero =>
  intro listed a w _ hr hy hS H;refine ⟨fun h => (by rw [h] at hr; cases hr), fun j hj => ?_⟩
  by_cases hji : j = i
  ·subst hji; exact hy.wpOpIn hro hi hS ⟨hS, H⟩
  have := ready_mono hj hji;rw [H.1] at this
  cases this
 | succ fuel ih =>
  intro listed a w hfree hr hy hS H;refine ⟨fun h => (by rw [h] at hr; cases hr), fun j hj => ?_⟩
  by_cases hji : j = i
  ·subst hji; exact hy.wpOpIn hro hi hS ⟨hS, H⟩
  have h1 := H.2 j (ready_mono hj hji);obtain ⟨hjun, oj, hoj, hall⟩ := mem_ready.1 hj;have h2 := wpOpIn_putS hro hoj (hfree j oj hoj hji hjun (not_waits (i := i) (j := j) hr hall)) (fun cs b => hsel i oi cs b hi) (fun cs b => hsel j oj cs b hoj) hQ hy h1
  have hfree' : ∀ k ok, ops[k]? = some ok -> k ≠ i -> (listed.setIfInBounds j true).getD k true = false ->
    (∀ e ∈ ok.after, Region.binds md e = true -> e.on ≠ i) -> oi.apart ops ok = true := fun k ok hk hki hun hno => by
   refine hfree k ok hk hki ?_ hno
   by_cases hjk : j = k
   ·subst hjk; exact hjun
   rw [getD_set_ne true hjk] at hun; exact hun
  refine wpOpIn_mono (fun a' w' h3 => ⟨h3.2.1, ih (listed.setIfInBounds j true) a' w' hfree' (ready_mono hr (Ne.symm hji)) h3.1 h3.2.1 ?_⟩) h2;rw [Array.setIfInBounds_comm _ _ hji]
  exact h3.2.2
theorem wpAnyS_take {i : Nat} {oi : Oper} {v : Value} {fuel : Nat} {listed : Array Bool} {a : Act} {w : World} (hro : F.round = none) (hi : ops[i]? = some oi)
  (hs : Region.noSelect ops = true) (hf : Region.free md ops listed i = true) (hr : (Region.ready md ops listed).contains i = true)
  (hQ : ∀ c a w, Q (.panic c) (a.put oi.dst v) w -> Q (.panic c) a w) (hy : YieldsIf P ops S oi v a) (hab : ∀ w, oi.about P w a.eval = none) (hS : S w)
  (h : wpAnyS F n P md ops Q S fuel (listed.setIfInBounds i true) (a.put oi.dst v) w) : wpAnyS F n P md ops Q S (fuel + 1) listed a w :=
 wpAnyS_first hro hi (Region.noSelect_spec hs) hQ fuel listed a w (Region.free_spec hi hf) (by simpa using hr) ⟨hy, hab⟩ hS h
theorem tks (i : Nat) {oi : Oper} {v : Value} {fuel : Nat} {listed : Array Bool} {a : Act} {w : World} (hro : F.round = none) (hi : ops[i]? = some oi) (hS : S w)
  (h : wpAnyS F n P md ops Q S fuel (listed.setIfInBounds i true) (a.put oi.dst v) w)
  (hw : Region.wanted oi (yielded ops a.tmps) = true := by rfl)
  (hy : ∀ w, S w -> (execOp a.eval oi).run P w = .ok (.value v) w := by (intro wz hSw; (try dsimp only at hSw); go_simp; try (with_reducible rfl)))
  (hab : ∀ w, oi.about P w a.eval = none := by exact fun _ => rfl)
  (hs : Region.noSelect ops = true := by kernel_rfl) (hf : Region.free md ops listed i = true := by kernel_rfl) (hr : (Region.ready md ops listed).contains i = true := by kernel_rfl)
  (hQ : ∀ c a w, Q (.panic c) (a.put oi.dst v) w -> Q (.panic c) a w := by exact fun _ _ _ h => h) : wpAnyS F n P md ops Q S (fuel + 1) listed a w :=
 wpAnyS_take hro hi hs hf hr hQ (Or.inl ⟨hw, hy⟩) hab hS h
theorem wpAnyS_one {i : Nat} {o : Oper} {fuel : Nat} {listed : Array Bool} {a : Act} {w : World} (hr : Region.ready md ops listed = [i]) (ho : ops[i]? = some o)
  (h : ∀ K' : Act -> World -> Prop, Shut (∀ a w, S w -> wpAnyS F n P md ops Q S fuel (listed.setIfInBounds i true) a w -> K' a w) -> if Region.wanted o (yielded ops a.tmps) = true then Oper.wpIn F n P o a w K' Q else (∀ f, o.about P w a.eval = some f -> F.fn f) /\ K' (a.put o.dst undef) w) : wpAnyS F n P md ops Q S (fuel + 1) listed a w := by
 refine ⟨fun h0 => (by rw [hr] at h0; cases h0), fun j hj => ?_⟩;rw [hr] at hj
 rcases List.mem_cons.1 hj with rfl | hj
 ·exact wpOpIn_step ho (fun K' hK => h K' (fun a w hS hW => hK a w ⟨hS, hW⟩))
 cases hj
theorem wpAnyS_done {listed : Array Bool} {a : Act} {w : World} (hr : Region.ready md ops listed = []) (h : Q .normal a w) : ∀ fuel, wpAnyS F n P md ops Q S fuel listed a w
 | 0 => ⟨hr, h⟩
 | _ + 1 => ⟨fun _ => h, by rw [hr]; simp⟩
theorem wpIn_region_S {id : Nat} {a : Act} {w : World} (S : World -> Prop) (hm : P.follows .mixedOrders = true)
  (h : wpAnyS F n P .any ops Q S ops.size (Array.replicate ops.size false) a w.drew) : (Code.region id ops true).wpIn F n P Q a w :=
 wpIn_region_any hm (wpAnyIn_of_S _ _ _ _ h)
end
section
variable {P : Program} {n : Nat} {α : Type}
def roundOn (B : Nat) (Kp : World -> World -> Prop) (I : List α -> World -> Prop) (xs : List α) (W : World) : Exit -> Act -> World -> Prop
 | .normal, _, W' => KeepsFrom B W W' /\ Kp W W' /\ I xs W'
 | _, _, _ => False
end
theorem below_touch {w : World} {G : Nat} (h : Below w.heap.size w X) (t : Touch (fun k => k = G) X Y) (hG : w.heap.size <= G := by omega) : Below w.heap.size w Y :=
 ⟨t.os.trans h.os, t.tape.trans h.tape, t.output.trans h.output, Nat.le_trans h.size t.size, fun k hk => (t.block k (Nat.lt_of_lt_of_le hk h.size) (by omega)).trans (h.block k hk)⟩
theorem keeps_below {B : Nat} (h : Below X.heap.size X Y) : KeepsFrom B X Y := ⟨h.size, fun k o _ hk _ => (h.block k (lt_of_block hk)).trans hk⟩
theorem keeps_touch {B G : Nat} (t : Touch (fun k => k = G) X Y) (hG : G < B := by omega) : KeepsFrom B X Y := ⟨t.size, fun k o hB hk _ => (t.block k (lt_of_block hk) (by omega)).trans hk⟩
end Go.Proofs.YtpmihhbgjimpmaaGreatDoor
