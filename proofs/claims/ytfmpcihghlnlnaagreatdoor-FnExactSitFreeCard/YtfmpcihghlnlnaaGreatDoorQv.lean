/-
  Lemmas that the claim's last text rests on.
-/
import Derived.Test.YtfmpcihghlnlnaaGreatDoorQr
import Derived.Test.YtfmpcihghlnlnaaGreatDoorQu
namespace Go.Proofs.YtfmpcihghlnlnaaGreatDoor
open Go.RowKit Go.Deep
open World renaming size_alloc → qA
open List renaming setIfInBounds_toArray → qB, set_cons_zero → qC, set_cons_succ → qD, getElem?_eq_getElem → qE, getElem_cons_zero → qF, getElem_cons_succ → qG, getElem?_cons_zero → qH, getElem?_cons_succ → qI, getElem_toArray → qJ
open Nat renaming le_refl → qK
set_option linter.unusedVariables false
set_option linter.unusedSimpArgs false
set_option maxRecDepth 100000
set_option maxHeartbeats 25600000
variable {rs : List RowM}
theorem jr_cells {w W : World} {G cap : Nat} {xs : List Value} (h : JR w G cap xs rs W) {j : Nat} (hj : j < rs.length) : ∃ ga gc aa ac ta tc, W.cell? ⟨G, j * 4, none⟩ = some (.slice ga (rs[j]?.getD noR).guards.length gc) /\ W.cell? ⟨G, j * 4 + 1, none⟩ = some (.slice aa (rs[j]?.getD noR).adds.length ac) /\ W.cell? ⟨G, j * 4 + 2, none⟩ = some (.slice ta (rs[j]?.getD noR).tells.length tc) /\ W.cell? ⟨G, j * 4 + 3, none⟩ = some (.bool (rs[j]?.getD noR).stop) /\ FormsAt W ga (rs[j]?.getD noR).guards /\ FormsAt W aa (rs[j]?.getD noR).adds /\ FormsAt W ta (rs[j]?.getD noR).tells := by
 obtain ⟨ga, gc, aa, ac, ta, tc, e0, e1, e2, e3, f0, f1, f2⟩ := h.r j hj
 have c : ∀ k, k < 4 -> W.cell? ⟨G, j * 4 + k, none⟩ = xs[j * 4 + k]? := fun k hk => by
  have := own_cell h.o (j * 4 + k) (by omega)
  exact this
 exact ⟨ga, gc, aa, ac, ta, tc, (c 0 (by omega)).trans e0, (c 1 (by omega)).trans e1, (c 2 (by omega)).trans e2, (c 3 (by omega)).trans e3, f0.at, f1.at, f2.at⟩
def tryA (m : Nat) (C D : List Int) (ss : List IV) (s : Int) (E U : List Int) (f : Nat -> Bool) (rs : List RowM) : Int × List Int × List Int × Bool :=
 match rs.find? (sureR m C D ss s E U) with
 | none => (0, [], E, false)
 | some r => tryR m C D ss s E U f r
theorem find_at {p : RowM -> Bool} {k : Nat} (hk : k < rs.length) (h : ∀ j, j < k -> p (rs[j]?.getD noR) = false) (h1 : p (rs[k]?.getD noR) = true) : rs.find? p = some (rs[k]?.getD noR) := by
 induction rs generalizing k with
 | nil => simp at hk
 | cons r rs ih =>
  cases k with
  | zero => simp only [qH, Option.getD_some] at h1 ⊢; rw [List.find?_cons_of_pos h1]
  | succ k =>
   have h0 := h 0 (by omega);simp only [qH, Option.getD_some] at h0;rw [List.find?_cons_of_neg (by simp [h0]), qI];rw [qI] at h1
   exact ih (by simpa using hk) (fun j hj => by have := h (j + 1) (by omega); rwa [qI] at this) h1
theorem find_no {p : RowM -> Bool} (h : ∀ j, j < rs.length -> p (rs[j]?.getD noR) = false) : rs.find? p = none := by
 rw [List.find?_eq_none];intro r hr;obtain ⟨j, hj, rfl⟩ := List.getElem_of_mem hr;have := h j hj;rw [qE hj] at this;simp only [Option.getD_some] at this;simp [this]
theorem stry_any (ad : Option Addr) (NA cc : Nat) (acts : List L2V) (pa : Option Addr) (N pc : Nat) (G cg : Nat) (f : Nat -> Bool) (a : Option Addr) (cap : Nat) (c : Option Addr) (m cap' : Nat) (s : Int) (e : Option Addr) (ec : Nat) (kn : Nat) (u : Option Addr) (uc : Nat) (C D E U : List Int) (ss : List IV) {w : World}
  (hA : LSG w ad acts) (hkn : kn < acts.length) (hok : (acts[kn]?.getD noL).ok = true) (hC : Ints w a 3 C) (hD : Ints w c m D) (hE : Ints w e 3 E) (hU : Ints w u 2 U) (hN : ss.length = N) (hF : ISG w pa ss) (hN1 : N <= 1048576) (hNA : acts.length = NA) (hNA1 : NA <= 1048576) (hv : viewB 3 m C D ss s 3 E = true) (bU : okN 2 9 2 U = true) (hf : OwnB w G f) (hK : ∀ x v, v < 3 -> (potB m C D ss s x U v).2.2 = true) :
  Calls Tryz.prog 42 #[.slice ad NA cc, .slice pa N pc, .slice (some ⟨G, 0, none⟩) 3 cg, treV a 3 cap c m cap', .int .i64 s, .slice e 3 ec, .int .i64 kn, .slice u 2 uc] w fun r w' => LocD w w' r (tryA m C D ss s E U f (rowsL (acts[kn]?.getD noL).x)) := by
 have HN : Hid (ss.length = N) := hN;have HVW : Hid (viewB 3 m C D ss s 3 E = true) := hv;have HUU : Hid (okN 2 9 2 U = true) := bU;have HKP : Hid (∀ x v, v < 3 -> (potB m C D ss s x U v).2.2 = true) := hK;have HEL : Hid (E.length = 3) := hE.1;obtain ⟨i0, hi, hz0, hz1, hz2⟩ := info_parts Tryz.infoInt;have hknA : kn < NA := by omega
 have HNA : Hid (acts.length = NA) := hNA;obtain ⟨eb, eo, rfl, _⟩ := hE.pos (by omega);obtain ⟨ab, ao, rfl, hcell, hLG⟩ := hA kn hkn;obtain ⟨sv, hs⟩ : ∃ sv, sv = acts[kn]?.getD noL := ⟨_, rfl⟩
 rw [<- hs] at hcell hLG hok;rw [<- hs];clear hs;obtain ⟨sa, sn, sc, sx⟩ := sv;obtain ⟨hxl, hLi, hsn⟩ := hLG;have hAt : At1 w ab (ao + kn) (.slice sa sn sc) := hcell;have HXL : Hid (sx.length = sn) := hxl;have HAC : Hid (actB sn sx = true) := hok;have hsn' : sn <= 1048576 := hsn;have hLin : LinesG w sa sx := hLi
 show Calls _ _ _ _ (fun r w' => LocD w w' r (tryA m C D ss s (E) U f (rowsL sx)))
 have HFIT : Hid (∀ r ∈ rowsL sx, RowFit r /\ ((r.stop = true -> r.adds.length = 0 /\ r.tells.length = 0) /\ (r.stop = false -> r.adds.length = 3))) := fun r hr => ⟨rowsL_fit (by rw [HXL.out]; exact (actB_parts HAC.out).1) (actB_parts HAC.out).2 hLin r hr, goW_sh sx 7 0 way0 r hr⟩
 clear hN hv hK bU hcell hxl hok hsn hLi hkn hA hNA
 go_enter Tryz.func42, Tryz.ntmps42
 have al := (Below.refl (w).heap.size (w)).alloc (qK _) (.cells #[.slice a 3 cap, .slice c m cap'] 59);have BB := al;replace hC := hC.below al;replace hD := hD.below al;replace hE := hE.below al;replace hU := hU.below al;replace hF := hF.below al;replace hf := hf.below al;replace hAt := hAt.below al;replace hLin := hLin.below al;clear al;have q11 := Cel.new (w) [.slice a 3 cap, .slice c m cap'] 59;have al := (Below.refl ((w).alloc (.cells #[.slice a 3 cap, .slice c m cap'] 59)).heap.size ((w).alloc (.cells #[.slice a 3 cap, .slice c m cap'] 59))).alloc (qK _) (.cells #[.int .i64 0, .slice none 0 0] 55);replace BB := btr BB al;replace hC := hC.below al;replace hD := hD.below al;replace hE := hE.below al;replace hU := hU.below al;replace hF := hF.below al;replace hf := hf.below al;replace hAt := hAt.below al;replace hLin := hLin.below al;replace q11 := q11.below al;clear al;have q16 := Cel.new ((w).alloc (.cells #[.slice a 3 cap, .slice c m cap'] 59)) [.int .i64 0, .slice none 0 0] 55;simp only [qA] at q16;obtain ⟨g11_0, g11_1⟩ := q11.c2;obtain ⟨g16_0, g16_1⟩ := q16.c2
 go_upto_region 1 with fail
 generalize ((w).alloc (.cells #[.slice a 3 cap, .slice c m cap'] 59)).alloc (.cells #[.int .i64 0, .slice none 0 0] 55) = W1 at hC hD hE hU hF hf hAt hLin q11 q16 BB g11_0 g11_1 g16_0 g16_1 ⊢;obtain ⟨X16, hX16⟩ : ∃ x, x = w.heap.size + 1 := ⟨_, rfl⟩
 rw [<- hX16];rw [<- hX16] at q16 g16_0 g16_1;have loX16 : w.heap.size + 1 <= X16 := by omega
 have upX16 : X16 <= w.heap.size + 1 := by omega
 clear hX16;obtain ⟨X11, hX11⟩ : ∃ x, x = w.heap.size := ⟨_, rfl⟩
 rw [<- hX11];rw [<- hX11] at q11 g11_0 g11_1;have loX11 : w.heap.size <= X11 := by omega
 have upX11 : X11 <= w.heap.size := by omega
 clear hX11;clear g11_0 g11_1 g16_0 g16_1;have lQ0 := q16.lt;have hcell : W1.cell? ⟨ab, ao + kn, none⟩ = some (.slice sa sn sc) := hAt;obtain ⟨g11_0, g11_1⟩ := q11.c2;obtain ⟨g16_0, g16_1⟩ := q16.c2
 go_wp2_with fail
 refine (srows_any sx HXL.out hLin hsn').mono ?_;rintro ee w2 ⟨Gr, cr, xs, rfl, jr⟩;rw [show rowsB sn sx = rowsL sx from by rw [rowsB, HAC.out]; rfl] at jr;rw [show rowsB sn sx = rowsL sx from by rw [rowsB, HAC.out]; rfl];have bR := jr.b;clear hcell;clear g11_0 g11_1 g16_0 g16_1;replace BB := btr BB bR;replace hC := hC.below bR;replace hD := hD.below bR;replace hE := hE.below bR;replace hU := hU.below bR;replace hF := hF.below bR;replace hf := hf.below bR;replace hAt := hAt.below bR;replace hLin := hLin.below bR;replace q11 := q11.below bR;replace q16 := q16.below bR;clear bR;have q1 : (rowsL sx).length <= 128 := goW_128 (by omega);obtain ⟨R, hR⟩ : ∃ R, R = rowsL sx := ⟨_, rfl⟩
 rw [<- hR] at jr q1 HFIT ⊢;have HRC : Hid (∀ j, j < R.length -> ∃ ga gc aa ac ta tc, _) := fun j hj => jr_cells jr hj;have HRX : Hid (R = rowsL sx) := hR;clear hR;obtain ⟨g11_0, g11_1⟩ := q11.c2;obtain ⟨g16_0, g16_1⟩ := q16.c2
 go_upto_region 2 with fail
 clear g11_0 g11_1 g16_0 g16_1
 go_wp2_with fail
 go_loopw [20] (fun i wr => ∃ k : Nat, k <= R.length /\ i = .int .i64 k /\ Below w2.heap.size w2 wr /\ ∀ j, j < k -> sureR m C D ss s E U (R[j]?.getD noR) = false) (fun i _ => R.length - (intOf i).toNat)
 case atStart => exact ⟨0, Nat.zero_le _, rfl, Below.refl _ _, fun j hj => by omega⟩
 case round =>
  obtain ⟨k, hk, rfl, hb, hz⟩ := hrel;have HZ : Hid (∀ j, j < k -> sureR m C D ss s E U (R[j]?.getD noR) = false) := hz;clear hz;have BR := hb;have HRK : Hid _ := HRC.out k;have hb0 := hb;replace BB := btr BB hb;replace hC := hC.below hb;replace hD := hD.below hb;replace hE := hE.below hb;replace hU := hU.below hb;replace hF := hF.below hb;replace hf := hf.below hb;replace hAt := hAt.below hb;replace hLin := hLin.below hb;replace q11 := q11.below hb;replace q16 := q16.below hb;clear hb
  by_cases hlt : k < R.length
  ·have hlt' : (k : Int) < (R.length : Int) := by omega
   obtain ⟨ga, gc, aa, ac, ta, tc, r0, r1, r2, r3, f0, f1, f2⟩ := HRK.out hlt
   have HRQ : Hid (R[k]?.getD noR ∈ R) := by
    show _
    rw [qE hlt]; exact List.getElem_mem hlt
   have hfs := HFIT.out _ HRQ.out;have HFA := find_at (p := sureR m C D ss s E U) (k := k) hlt HZ.out;obtain ⟨q, hq⟩ : ∃ q, R[k]?.getD noR = q := ⟨_, rfl⟩
   have HQK : Hid (R[k]?.getD noR = q) := hq;rw [hq] at r0 r1 r2 r3 f0 f1 f2 hfs HFA;have HFD : Hid (sureR m C D ss s E U q = true -> R.find? (sureR m C D ss s E U) = some q) := HFA;clear hq HFA;obtain ⟨gs, us, ts, RA, hB, eg, ea, et⟩ := row_rowAt hfs.1 hfs.2 f0 f1 f2;have RA := RA.below hb0;have HG : Hid (gs.all (fun g => sureG m C D ss s E U g.frm) = sureR m C D ss s E U q) := by (show _ = _; rw [sureR, <- eg, List.all_map]; rfl)
   have EA : Hid (q.adds.map (atX C U) = us.map (atF C U)) := by (show _ = _; rw [<- ea, List.map_map]; rfl)
   have ET : Hid (q.tells.map (atX C U) = ts.map (atF C U)) := by (show _ = _; rw [<- et, List.map_map]; rfl)
   clear eg ea et f0 f1 f2 hfs;have KP : Hid (∀ W : World, Below wr.heap.size wr W -> (W.cell? ⟨X11, 0, none⟩ = some (.slice a 3 cap) /\ W.cell? ⟨X11, 1, none⟩ = some (.slice c m cap') /\ W.cell? ⟨Gr, k * 4, none⟩ = some (.slice ga q.guards.length gc) /\ W.cell? ⟨Gr, k * 4 + 1, none⟩ = some (.slice aa q.adds.length ac) /\ W.cell? ⟨Gr, k * 4 + 2, none⟩ = some (.slice ta q.tells.length tc) /\ W.cell? ⟨Gr, k * 4 + 3, none⟩ = some (.bool q.stop))) := fun W hW => ⟨(q11.below hW).cell 0, (q11.below hW).cell 1, ((btr hb0 hW).cell (p := ⟨Gr, k * 4, none⟩) (block_lt r0)).trans r0, ((btr hb0 hW).cell (p := ⟨Gr, k * 4 + 1, none⟩) (block_lt r0)).trans r1, ((btr hb0 hW).cell (p := ⟨Gr, k * 4 + 2, none⟩) (block_lt r0)).trans r2, ((btr hb0 hW).cell (p := ⟨Gr, k * 4 + 3, none⟩) (block_lt r0)).trans r3⟩
   clear r0 r1 r2 r3
   go_upto_region 5 with fail
   have d5 : Below wr.heap.size wr wr.drew := (Below.refl _ _).drew;refine wp_region_ends (fun X => X.cell? ⟨X11, 0, none⟩ = some (.slice a 3 cap) /\ X.cell? ⟨X11, 1, none⟩ = some (.slice c m cap') /\ X.cell? ⟨Gr, k * 4, none⟩ = some (.slice ga q.guards.length gc) /\ X.cell? ⟨Gr, k * 4 + 1, none⟩ = some (.slice aa q.adds.length ac) /\ X.cell? ⟨Gr, k * 4 + 2, none⟩ = some (.slice ta q.tells.length tc) /\ X.cell? ⟨Gr, k * 4 + 3, none⟩ = some (.bool q.stop)) (fun _ => True) 9 (by kernel_rfl) ?_;have hSS := And.intro (KP.out _ d5) True.intro;obtain ⟨V5, hV5⟩ : ∃ V, V = wr.drew := ⟨_, rfl⟩
   rw [<- hV5] at hSS d5 ⊢;clear hV5;refine tkl 0 rfl hSS ?_;refine tkl 1 rfl hSS ?_;refine tkl 2 rfl hSS ?_;refine tkl 3 rfl hSS ?_;simp only [Act.put, qB, qD, qC, qJ, qG, qF];refine tkl 4 rfl hSS ?_;refine tkl 5 rfl hSS ?_;refine tkl 6 rfl hSS ?_;refine tkl 7 rfl hSS ?_;simp only [Act.put, qB, qD, qC, qJ, qG, qF];refine tkl 8 rfl hSS ?_;refine wo1 9 rfl fun K hK => ?_;go_simp;refine (ssure_any a cap c m cap' pa N pc s (some ⟨eb, eo, none⟩) ec ga q.guards.length gc gs aa q.adds.length ac us ta q.tells.length tc ts q.stop u uc C D E U ss V5 (hC.below d5) (hD.below d5) (hE.below d5) (hU.below d5) HN.out (hF.below d5) hN1 HVW.out HUU.out (RA.below d5) (rowB_g hB).1).mono ?_;rintro ee V5b ⟨rfl, b5⟩;rw [HG.out];have d5b := btr d5 b5;clear hSS;have hSS := And.intro (KP.out _ d5b) True.intro;(try dsimp only);refine kk0 hK (hSS.1) ?_;refine wod ?_ _;clear hSS
   cases hsu : sureR m C D ss s E U q
   ·have BT := btr BR d5b;have HSU : Hid (sureR m C D ss s E U q = false) := hsu;clear KP d5b d5 b5 BR BB hC hD hE hU hF hf hAt hLin RA q11 q16 hb0 hsu
    go_wp2
    go_roundw
    case rel => exact ⟨k + 1, by omega, by go_num, BT, fun j hj => if h : j < k then HZ.out j h else by (obtain rfl : j = k := by omega); rw [HQK.out]; exact HSU.out⟩
    case measure => simp [intOf]; omega
   have HFQ : Hid (R.find? (sureR m C D ss s E U) = some q) := HFD.out hsu;clear hsu
   go_upto_region 6 with fail
   have d6 : Below wr.heap.size wr V5b.drew := d5b.drew;refine wp_region_ends (fun X => X.cell? ⟨X11, 0, none⟩ = some (.slice a 3 cap) /\ X.cell? ⟨X11, 1, none⟩ = some (.slice c m cap') /\ X.cell? ⟨Gr, k * 4, none⟩ = some (.slice ga q.guards.length gc) /\ X.cell? ⟨Gr, k * 4 + 1, none⟩ = some (.slice aa q.adds.length ac) /\ X.cell? ⟨Gr, k * 4 + 2, none⟩ = some (.slice ta q.tells.length tc) /\ X.cell? ⟨Gr, k * 4 + 3, none⟩ = some (.bool q.stop)) (fun _ => True) 14 (by kernel_rfl) ?_;have hSS := And.intro (KP.out _ d6) True.intro;obtain ⟨V6, hV6⟩ : ∃ V, V = V5b.drew := ⟨_, rfl⟩
   rw [<- hV6] at hSS d6 ⊢;clear hV6;refine tkl 0 rfl hSS ?_;refine tkl 1 rfl hSS ?_;refine tkl 2 rfl hSS ?_;refine tkl 3 rfl hSS ?_;simp only [Act.put, qB, qD, qC, qJ, qG, qF];refine tkl 4 rfl hSS ?_;refine tkl 5 rfl hSS ?_;refine tkl 6 rfl hSS ?_;refine tkl 7 rfl hSS ?_;simp only [Act.put, qB, qD, qC, qJ, qG, qF];refine tkl 8 rfl hSS ?_;refine tkl 9 rfl hSS ?_;refine wo1 10 rfl fun K hK => ?_;go_simp;have BV := btr BB d6;have zBV := BV.size;have lX16 := (q16.below d6).lt;refine (srow5_any a cap c m cap' pa N pc G cg f s (some ⟨eb, eo, none⟩) ec ga q.guards.length gc gs aa q.adds.length ac us ta q.tells.length tc ts q.stop u uc C D E U ss V6 (hC.below d6) (hD.below d6) (hE.below d6) (hU.below d6) HN.out (hF.below d6) hN1 HVW.out HUU.out (hf.below d6) (RA.below d6) hB HKP.out).mono ?_;intro ee V6b hL;obtain ⟨x, hx⟩ : ∃ x, tryL m C D ss s E U f q.stop (us.map (atF C U)) (ts.map (atF C U)) = x := ⟨_, rfl⟩
   have HX : Hid (tryL m C D ss s E U f q.stop (us.map (atF C U)) (ts.map (atF C U)) = x) := hx;rw [hx] at hL;clear hx;obtain ⟨x1, x2, x3, x4⟩ := x;obtain ⟨xa, xn, xcap, XB, ya, yn, ycap, YB, rfl, hl1, hl2, bT, o1, o2, lo1, lo2, hne⟩ := hL;have HL1 : Hid (x2.length = xn) := hl1;have HL2 : Hid (x3.length = yn) := hl2;clear hl1 hl2;have HR : Hid (tryA m C D ss s E U f (rowsL sx) = (x1, x2, x3, x4)) := by (show _ = _; rw [<- HRX.out, tryA, HFQ.out]; show tryR m C D ss s E U f q = _; rw [tryR, EA.out, ET.out]; exact HX.out)
   have d7 := btr d6 bT;have qr := q16.below d7;obtain ⟨g0, g1, g2, g3⟩ := qr.pair;have BB7 := btr BB d7;have lX := qr.lt;clear hSS;have hSS := And.intro (KP.out _ d7) True.intro;(try dsimp only);refine kk0 hK (hSS.1) ?_;refine tkl 11 rfl hSS ?_;refine tkl 12 rfl hSS ?_;refine tkl 13 rfl hSS ?_;simp only [Act.put, qB, qD, qC, qJ, qG, qF];have T : Touch (fun z => z = X16) V6b ((V6b.setCell ⟨X16, 0, none⟩ (.int .i64 x1)).setCell ⟨X16, 1, none⟩ (.slice xa xn xcap)) := Touch.setCell (Touch.setCell (S := fun z => z = X16) (Touch.refl _ _) rfl _) rfl _;have z16 := (qr.set 0 (.int .i64 x1)).set 1 (.slice xa xn xcap);have z0 := z16.cell 0;have z1 := z16.cell 1;simp only [qH, qI, qC, qD] at z0 z1;have q11r := q11.below d7;have lG : Gr < w2.heap.size := jr.lt.2;have zz := hb0.size;have z7 := d7.size
   have S2 : ((V6b.setCell ⟨X16, 0, none⟩ (.int .i64 x1)).setCell ⟨X16, 1, none⟩ (.slice xa xn xcap)).cell? ⟨X11, 0, none⟩ = some (.slice a 3 cap) /\ ((V6b.setCell ⟨X16, 0, none⟩ (.int .i64 x1)).setCell ⟨X16, 1, none⟩ (.slice xa xn xcap)).cell? ⟨X11, 1, none⟩ = some (.slice c m cap') /\ ((V6b.setCell ⟨X16, 0, none⟩ (.int .i64 x1)).setCell ⟨X16, 1, none⟩ (.slice xa xn xcap)).cell? ⟨Gr, k * 4, none⟩ = some (.slice ga q.guards.length gc) /\ ((V6b.setCell ⟨X16, 0, none⟩ (.int .i64 x1)).setCell ⟨X16, 1, none⟩ (.slice xa xn xcap)).cell? ⟨Gr, k * 4 + 1, none⟩ = some (.slice aa q.adds.length ac) /\ ((V6b.setCell ⟨X16, 0, none⟩ (.int .i64 x1)).setCell ⟨X16, 1, none⟩ (.slice xa xn xcap)).cell? ⟨Gr, k * 4 + 2, none⟩ = some (.slice ta q.tells.length tc) /\ ((V6b.setCell ⟨X16, 0, none⟩ (.int .i64 x1)).setCell ⟨X16, 1, none⟩ (.slice xa xn xcap)).cell? ⟨Gr, k * 4 + 3, none⟩ = some (.bool q.stop) := by
    obtain ⟨s0, s1, s2, s3, s4, s5⟩ := hSS.1;have qs := cel_past q11r T;have nG : ¬ Gr = X16 := by have := jr.lt.1; omega
    exact ⟨qs.cell 0, qs.cell 1, (World.cell?_of_block (T.block Gr (block_lt s2) nG)).trans s2, (World.cell?_of_block (T.block Gr (block_lt s2) nG)).trans s3, (World.cell?_of_block (T.block Gr (block_lt s2) nG)).trans s4, (World.cell?_of_block (T.block Gr (block_lt s2) nG)).trans s5⟩
   refine wo1 14 rfl fun K hK => ?_;go_simp;refine kk0 hK (S2) ?_;refine wo1 15 rfl fun K hK => ?_;go_simp;refine kk0 hK (S2) ?_;refine wo1 16 rfl fun K hK => ?_;go_simp;refine kk0 hK (S2) ?_;refine wod ?_ _;have hBB := (BB7.setCell (p := ⟨X16, 0, none⟩) (by simp only []; omega) (.int .i64 x1)).setCell (p := ⟨X16, 1, none⟩) (by simp only []; omega) (.slice xa xn xcap);have o11 := (o1.setOther (X := X16) (fun h => by have := lo1 h; omega) 0 (.int .i64 x1)).setOther (X := X16) (fun h => by have := lo1 h; omega) 1 (.slice xa xn xcap);have o22 := (o2.setOther (X := X16) (fun h => by have := lo2 h; omega) 0 (.int .i64 x1)).setOther (X := X16) (fun h => by have := lo2 h; omega) 1 (.slice xa xn xcap);clear hSS S2 KP g0 g1 g2 g3 T z16 q11r qr q11 q16
   go_wp2
   exact bodyPost_ret (v := .tuple #[resV x1 xa xn xcap, .slice ya yn ycap, .bool x4]) (by simp [results, Tryz.results42, go_sem, z0, z1]) rfl (by rw [HR.out]; unfold LocD; exact ⟨xa, xn, xcap, XB, ya, yn, ycap, YB, rfl, HL1.out, HL2.out, hBB, o11, o22, fun h => by have := lo1 h; omega, fun h => by have := lo2 h; omega, hne⟩)
  have hlt' : ¬ (k : Int) < (R.length : Int) := by omega
  have HFN : Hid (R.find? (sureR m C D ss s E U) = none) := find_no (fun j hj => HZ.out j (by omega));clear HRK;obtain ⟨g11_0, g11_1⟩ := q11.c2;obtain ⟨g16_0, g16_1⟩ := q16.c2
  go_upto_region 7 with fail
  clear g11_0 g11_1 g16_0 g16_1;have HC0 : Hid _ := newsI (lit_cells hE) hE.1;have HL0 : Hid ((E.map (Value.int .i64)).length = 3 * 1) := by (show _ = _; rw [List.length_map, hE.1])
  have HJ0 : Hid _ := (JA.lit wr).o;have lX := q16.lt;have zB := BB.size
  go_wp2_with (at_builtin; go_must (refine wpList_append_lies _ rfl (.tmp 57) (.tmp 58) 23 rfl wr.heap.size 3 i0 (.int .i64 0) 1 8 Tryz.underlying23 hi hz0 hz1 hz2 rfl (by decide) _ 0 [] rfl HJ0.out ⟨eb, eo, none⟩ 3 ec (E.map (Value.int .i64)) rfl HL0.out HC0.out (oneI) (by omega) (by unfold maxLen; omega) (by omega) (by rw [qA]; omega) _ rfl ?_); intro g2 cp2 w2 hown hgrow hat hlt2; have j := JA.copied HEL.out hown hgrow; have q2 := q16.below j.b; obtain ⟨d0, d1, f0, f1⟩ := q2.pair; have hlt2 := q2.lt; clear hown hgrow hat)
  obtain ⟨x, cx, B, hv2, hX, hB⟩ := j.ownx HEL.out;simp only [Value.slice.injEq, true_and] at hv2;obtain ⟨rfl, rfl⟩ := hv2;have bb := btr BB j.b;have HR : Hid (tryA m C D ss s E U f (rowsL sx) = (0, [], E, false)) := by (show _ = _; rw [<- HRX.out, tryA, HFN.out])
  exact bodyPost_ret (v := .tuple #[resV 0 none 0 0, .slice (some ⟨g2, 0, none⟩) 3 cp2, .bool false]) (by simp [results, Tryz.results42, go_sem, d0, d1]) rfl (by rw [HR.out]; unfold LocD; exact ⟨none, 0, 0, 0, some ⟨g2, 0, none⟩, 3, cp2, B, rfl, rfl, HEL.out, (bb.setCell (by simp only []; omega) _).setCell (by simp only []; omega) _, OwnX.nil _ _ _, (hX.setOther (fun h => by have := hB h; omega) _ _).setOther (fun h => by have := hB h; omega) _ _, fun h => by omega, fun h => by have := hB h; omega, fun h => by omega⟩)
theorem addPb_pre (ps : List (List Int)) {p : List Int} : ps <+: addPb ps p := by
 unfold addPb
 split
 ·exact List.prefix_refl _
 exact List.prefix_append _ _
theorem foldl_pre {α : Type} {f : List (List Int) -> α -> List (List Int)} (hf : ∀ ps a, ps <+: f ps a) : ∀ (xs : List α) (ps : List (List Int)), ps <+: xs.foldl f ps
 | [], ps => List.prefix_refl _
 | x :: xs, ps => (hf ps x).trans (foldl_pre hf xs (f ps x))
theorem guardsP_pre (ps : List (List Int)) {fs : List Frm} : ps <+: guardsP ps fs := foldl_pre (fun ps f => addPb_pre ps) fs ps
theorem rowsP_pre (ps : List (List Int)) {rs : List RowM} : ps <+: rowsP ps rs := foldl_pre (fun ps r => guardsP_pre ps) rs ps
theorem actsP_pre (ps : List (List Int)) (ss : List L2V) : ps <+: actsP ps ss := foldl_pre (fun ps s => rowsP_pre ps) ss ps
theorem catP_pre (ss : List L2V) : pots3 <+: catP ss := actsP_pre pots3 ss
theorem has_pos {p : List Int} {ps : List (List Int)} {k : Nat} (h : p ∈ ps) : ¬ hasFrom p k ps < 0 := fun e => ((has_mem p ps k).1 e) h
theorem pot_in {ss : List L2V} {p : List Int} (h : p ∈ pots3) : p ∈ catP ss := (catP_pre ss).subset h
theorem pots_known {acts : List L2V} {ts : List IV} (h : ts.map IV.x = catP acts) (m : Nat) (C D : List Int) (s : Int) (U : List Int) : ∀ x v, v < 3 -> (potB m C D ts s x U v).2.2 = true := fun x v hv => by
 have hp : partL (potX v).1 ∈ pots3 := by
  rcases v with _ | _ | _ | v
  ·decide +kernel
  ·decide +kernel
  ·decide +kernel
  omega
 have h2 : ¬ hasI ts (partL (potX v).1) < 0 := by rw [hasI, h]; exact has_pos (pot_in hp)
 rw [potB, bnds, if_neg h2]
 split <;> rfl
theorem sloc_any (ad : Option Addr) (N cc : Nat) (a : Option Addr) (n cap : Nat) (c : Option Addr) (m cap' : Nat) (s : Int) (e : Option Addr) (k ec : Nat) (kk : Int) (u : Option Addr) (l uc : Nat) (ss : List L2V) (C D E U : List Int) (w : World)
  (hA : LSG w ad ss) (hC : Ints w a n C) (hD : Ints w c m D) (hE : Ints w e k E) (hU : Ints w u l U) (hN : ss.length = N) (hN1 : N <= 1048576) (hn : n <= 1048576) (hm : m <= 1048576) (hk : k <= 1048576) (hl : l <= 1048576) :
  Calls Tryz.prog 20 #[.slice ad N cc, treV a n cap c m cap', .int .i64 s, .slice e k ec, .int .i64 kk, .slice u l uc] w fun r w' => LocD w w' r (locL n m C D N ss s k E kk l U) := by
 have HN : Hid (ss.length = N) := hN;obtain ⟨R, hR⟩ : ∃ R, locL n m C D N ss s k E kk l U = R := ⟨_, rfl⟩
 have HR0 : Hid (locL n m C D N ss s k E kk l U = R) := hR;rw [hR];clear hN hR
 go_enter Tryz.func20, Tryz.ntmps20
 have al := (Below.refl (w).heap.size (w)).alloc (qK _) (.cells #[.slice a n cap, .slice c m cap'] 59);have BB := al;replace hA := hA.below al;replace hC := hC.below al;replace hD := hD.below al;replace hE := hE.below al;replace hU := hU.below al;clear al;have q7 := Cel.new (w) [.slice a n cap, .slice c m cap'] 59;have al := (Below.refl ((w).alloc (.cells #[.slice a n cap, .slice c m cap'] 59)).heap.size ((w).alloc (.cells #[.slice a n cap, .slice c m cap'] 59))).alloc (qK _) (.cells #[.int .i64 0, .slice none 0 0] 55);replace BB := btr BB al;replace hA := hA.below al;replace hC := hC.below al;replace hD := hD.below al;replace hE := hE.below al;replace hU := hU.below al;replace q7 := q7.below al;clear al;have q12 := Cel.new ((w).alloc (.cells #[.slice a n cap, .slice c m cap'] 59)) [.int .i64 0, .slice none 0 0] 55;simp only [qA] at q12;obtain ⟨g7_0, g7_1⟩ := q7.c2;obtain ⟨g12_0, g12_1⟩ := q12.c2
 go_wp2_with fail
 generalize ((w).alloc (.cells #[.slice a n cap, .slice c m cap'] 59)).alloc (.cells #[.int .i64 0, .slice none 0 0] 55) = W1 at hA hC hD hE hU q7 q12 BB g7_0 g7_1 g12_0 g12_1 ⊢;obtain ⟨X12, hX12⟩ : ∃ x, x = w.heap.size + 1 := ⟨_, rfl⟩
 rw [<- hX12];rw [<- hX12] at q12 g12_0 g12_1;have loX12 : w.heap.size + 1 <= X12 := by omega
 have upX12 : X12 <= w.heap.size + 1 := by omega
 clear hX12;obtain ⟨X7, hX7⟩ : ∃ x, x = w.heap.size := ⟨_, rfl⟩
 rw [<- hX7];rw [<- hX7] at q7 g7_0 g7_1;have loX7 : w.heap.size <= X7 := by omega
 have upX7 : X7 <= w.heap.size := by omega
 clear hX7;refine (scat_any ss HN.out hA hN1).mono ?_;rintro ee w2 ⟨rfl, b1⟩;clear g7_0 g7_1 g12_0 g12_1;replace BB := btr BB b1;replace hA := hA.below b1;replace hC := hC.below b1;replace hD := hD.below b1;replace hE := hE.below b1;replace hU := hU.below b1;replace q7 := q7.below b1;replace q12 := q12.below b1;clear b1
 cases h1 : catB N ss
 ·obtain ⟨g7_0, g7_1⟩ := q7.c2;obtain ⟨g12_0, g12_1⟩ := q12.c2
  go_upto_region 2 with fail
  clear g7_0 g7_1 g12_0 g12_1;have al := (Below.refl w2.heap.size w2).alloc (qK _) (.cells #[] 3);have BA := btr BB al;have hlt1 := q12.lt;have zB := BB.size;obtain ⟨d0, d1, f0, f1⟩ := q12.pair;have HR : Hid (R = (0, [], [], false)) := by (show _ = _; rw [<- HR0.out]; simp [locL, h1])
  clear al hA hC hD hE hU
  go_wp2
  exact bodyPost_ret (v := .tuple #[resV 0 none 0 0, .slice (some ⟨w2.heap.size, 0, none⟩) 0 0, .bool false]) (by simp [results, Tryz.results20, go_sem, d0, d1, hlt1]) rfl (by rw [HR.out]; unfold LocD; exact ⟨none, 0, 0, 0, _, 0, 0, 0, rfl, rfl, rfl, (((BB.setCell (by simp only []; omega) _).setCell (by simp only []; omega) _).alloc (by rw [size_setCell, size_setCell]; exact BB.size) _), OwnX.nil _ _ _, OwnX.nil _ _ _, fun h => by omega, fun h => by omega, fun h => by omega⟩)
 obtain ⟨g7_0, g7_1⟩ := q7.c2;obtain ⟨g12_0, g12_1⟩ := q12.c2
 go_wp2_with fail
 refine (in_any).mono ?_;rintro ee v3 ⟨rfl, rfl⟩
 cases h2 : inB kk 0 ((N : Int) - 1)
 ·go_upto_region 2 with fail
  clear g7_0 g7_1 g12_0 g12_1;have al := (Below.refl v3.heap.size v3).alloc (qK _) (.cells #[] 3);have BA := btr BB al;have hlt1 := q12.lt;have zB := BB.size;obtain ⟨d0, d1, f0, f1⟩ := q12.pair;have HR : Hid (R = (0, [], [], false)) := by (show _ = _; rw [<- HR0.out]; simp [locL, h1, h2])
  clear al hA hC hD hE hU
  go_wp2
  exact bodyPost_ret (v := .tuple #[resV 0 none 0 0, .slice (some ⟨v3.heap.size, 0, none⟩) 0 0, .bool false]) (by simp [results, Tryz.results20, go_sem, d0, d1, hlt1]) rfl (by rw [HR.out]; unfold LocD; exact ⟨none, 0, 0, 0, _, 0, 0, 0, rfl, rfl, rfl, (((BB.setCell (by simp only []; omega) _).setCell (by simp only []; omega) _).alloc (by rw [size_setCell, size_setCell]; exact BB.size) _), OwnX.nil _ _ _, OwnX.nil _ _ _, fun h => by omega, fun h => by omega, fun h => by omega⟩)
 go_wp2_with fail
 refine (sarg_any U hU hl).mono ?_;rintro ee v4 ⟨rfl, rfl⟩
 cases h3 : okN 2 9 l U
 ·go_upto_region 2 with fail
  clear g7_0 g7_1 g12_0 g12_1;have al := (Below.refl v4.heap.size v4).alloc (qK _) (.cells #[] 3);have BA := btr BB al;have hlt1 := q12.lt;have zB := BB.size;obtain ⟨d0, d1, f0, f1⟩ := q12.pair;have HR : Hid (R = (0, [], [], false)) := by (show _ = _; rw [<- HR0.out]; simp [locL, h1, h2, h3])
  clear al hA hC hD hE hU
  go_wp2
  exact bodyPost_ret (v := .tuple #[resV 0 none 0 0, .slice (some ⟨v4.heap.size, 0, none⟩) 0 0, .bool false]) (by simp [results, Tryz.results20, go_sem, d0, d1, hlt1]) rfl (by rw [HR.out]; unfold LocD; exact ⟨none, 0, 0, 0, _, 0, 0, 0, rfl, rfl, rfl, (((BB.setCell (by simp only []; omega) _).setCell (by simp only []; omega) _).alloc (by rw [size_setCell, size_setCell]; exact BB.size) _), OwnX.nil _ _ _, OwnX.nil _ _ _, fun h => by omega, fun h => by omega, fun h => by omega⟩)
 have hk2 := inB_iff.1 h2;have h4 := (catB_parts h1).1;obtain ⟨rfl, bU⟩ := okN_nat (by omega) h3;obtain ⟨kn, rfl⟩ : ∃ kn : Nat, kk = kn := ⟨kk.toNat, by omega⟩
 have hkN : kn < N := by omega
 clear hk2;have HP4 : Hid (catB N ss = true /\ inB (kn : Int) 0 ((N : Int) - 1) = true /\ okN 2 9 2 U = true) := ⟨h1, h2, h3⟩
 clear h1 h2 h3
 go_wp2_with fail
 refine (sboth_any ss HN.out hA (catB_parts HP4.out.1).2 h4).mono ?_;rintro ee w5 ⟨G, cG, ts, nt, P, cP, rfl, hnt, jp, hts, hnt2, oP, lP⟩;have bJ := jp.b;have hIS := jp.g;have h3n : ∀ i, i < ts.length -> (ts[i]?.getD noI).n = 3 := fun i hi => (jp.k i hi).1;clear jp;clear g7_0 g7_1 g12_0 g12_1;replace BB := btr BB bJ;replace hA := hA.below bJ;replace hC := hC.below bJ;replace hD := hD.below bJ;replace hE := hE.below bJ;replace hU := hU.below bJ;replace q7 := q7.below bJ;replace q12 := q12.below bJ;clear bJ;obtain ⟨hcl, hcp⟩ := copies_ivs hts h3n;have HTL : Hid (ts.length = nt) := hnt;have hKn := pots_known hts m C D s U;have hL1 : nt <= 1048576 := by omega
 have E1 : Hid (∀ n C D k E, viewB n m C D (ivs (catP ss)) s k E = viewB n m C D ts s k E) := fun n C D k E => (viewB_copy hcl hcp).symm;have E2 : Hid (∀ g E, keepsB g E (ivs (catP ss)) = keepsB g E ts) := fun g E => (keepsB_copy hcl hcp).symm;have E3 : Hid (∀ C D E U, sureR m C D (ivs (catP ss)) s E U = sureR m C D ts s E U) := fun C D E U => (sureR_copy hcl hcp).symm;have E4 : Hid (∀ C D E U f st AD TL, tryL m C D (ivs (catP ss)) s E U f st AD TL = tryL m C D ts s E U f st AD TL) := fun C D E U f st AD TL => (tryL_copy hcl hcp).symm;have HKN : Hid (∀ x v, v < 3 -> (potB m C D ts s x U v).2.2 = true) := hKn;clear hcl hcp hts h3n hnt hKn;obtain ⟨g7_0, g7_1⟩ := q7.c2;obtain ⟨g12_0, g12_1⟩ := q12.c2
 go_wp2_with fail
 refine (skeep_any a n cap c m cap' (some ⟨G, 0, none⟩) nt cG s e k ec C D E ts hC hD hE HTL.out hIS hn hm hk hL1).mono ?_;rintro ee w6 ⟨rfl, b5⟩;clear g7_0 g7_1 g12_0 g12_1;replace BB := btr BB b5;replace hA := hA.below b5;replace hC := hC.below b5;replace hD := hD.below b5;replace hE := hE.below b5;replace hU := hU.below b5;replace hIS := hIS.below b5;replace oP := oP.below b5;replace q7 := q7.below b5;replace q12 := q12.below b5;clear b5
 cases h5 : keepB n m C D ts s k E
 ·have h56 : viewB n m C D ts s k E = false \/ keepsB (D[s.toNat]?.getD 0) E ts = false := by
   rw [keepB, Bool.and_eq_false_iff] at h5; exact h5
  have HK0 : Hid ((!viewB n m C D ts s k E || !keepsB (D[s.toNat]?.getD 0) E ts) = true) := by (show _ = _; rcases h56 with h | h <;> simp [h])
  clear h56;obtain ⟨g7_0, g7_1⟩ := q7.c2;obtain ⟨g12_0, g12_1⟩ := q12.c2
  go_upto_region 5 with fail
  clear g7_0 g7_1 g12_0 g12_1;have al := (Below.refl w6.heap.size w6).alloc (qK _) (.cells #[] 3);have BA := btr BB al;have hlt1 := q12.lt;have zB := BB.size;obtain ⟨d0, d1, f0, f1⟩ := q12.pair;have HR : Hid (R = (0, [], [], false)) := by (show _ = _; rw [<- HR0.out]; simp [locL, HP4.out.1, HP4.out.2.1, HP4.out.2.2, E1.out, E2.out, HK0.out])
  clear al hA hC hD hE hU
  go_wp2
  exact bodyPost_ret (v := .tuple #[resV 0 none 0 0, .slice (some ⟨w6.heap.size, 0, none⟩) 0 0, .bool false]) (by simp [results, Tryz.results20, go_sem, d0, d1, hlt1]) rfl (by rw [HR.out]; unfold LocD; exact ⟨none, 0, 0, 0, _, 0, 0, 0, rfl, rfl, rfl, (((BB.setCell (by simp only []; omega) _).setCell (by simp only []; omega) _).alloc (by rw [size_setCell, size_setCell]; exact BB.size) _), OwnX.nil _ _ _, OwnX.nil _ _ _, fun h => by omega, fun h => by omega, fun h => by omega⟩)
 have h56 : viewB n m C D ts s k E = true /\ keepsB (D[s.toNat]?.getD 0) E ts = true := by
  rw [keepB, Bool.and_eq_true] at h5; exact h5
 obtain ⟨h6, h7⟩ := h56;clear h5;obtain ⟨rfl, bC, hm1, hm3, hps, hs0, hs1, rfl, bE, bD⟩ := viewB_elim h6;obtain ⟨g7_0, g7_1⟩ := q7.c2;obtain ⟨g12_0, g12_1⟩ := q12.c2
 go_wp2_with fail
 refine (sstill_any (pinsA ss) E oP hE).mono ?_;rintro ee v7 ⟨rfl, rfl⟩
 cases h8 : pinned (pinsA ss) E
 ·have hix : kn < ss.length := by rw [HN.out]; exact hkN
  have hsok : (ss[kn]?.getD noL).ok = true := by
   rw [qE hix]
   exact List.all_eq_true.1 (catB_parts HP4.out.1).2 _ (List.getElem_mem hix)
  have HR : Hid (R = tryA m C D ts s E U (pinsA ss) (rowsL (ss[kn]?.getD noL).x)) := by
   show _ = _
   rw [<- HR0.out];simp only [locL, HP4.out.1, HP4.out.2.1, HP4.out.2.2, E1.out, E2.out, E3.out, h6, h7, h8, Int.toNat_natCast, Bool.not_true, Bool.or_false, Bool.false_eq_true, if_false, tryA, tryR, E4.out]
   cases (rowsL (ss[kn]?.getD noL).x).find? (sureR m C D ts s E U) <;> rfl
  have HH6 : Hid _ := h6;clear h7 h8
  go_wp2_with fail
  refine (stry_any ad N cc ss (some ⟨G, 0, none⟩) nt cG P cP (pinsA ss) a cap c m cap' s e ec kn u uc C D E U ts hA hix hsok hC hD hE hU HTL.out hIS hL1 HN.out hN1 h6 HP4.out.2.2 oP HKN.out).mono ?_;rintro ee w8 hL;rw [<- HR.out] at hL;obtain ⟨x1, x2, x3, x4⟩ := R;obtain ⟨xa, xn, xcap, XB, ya, yn, ycap, YB, rfl, hl1, hl2, bT, o1, o2, lo1, lo2, hne⟩ := hL;have HL1 : Hid (x2.length = xn) := hl1;have HL2 : Hid (x3.length = yn) := hl2;clear hl1 hl2;have lX0 := q12.lt;have zB0 := BB.size;clear g7_0 g7_1 g12_0 g12_1;replace BB := btr BB bT;replace hA := hA.below bT;replace hC := hC.below bT;replace hD := hD.below bT;replace hE := hE.below bT;replace hU := hU.below bT;replace hIS := hIS.below bT;replace oP := oP.below bT;replace q7 := q7.below bT;replace q12 := q12.below bT;clear bT;obtain ⟨g12_0, g12_1⟩ := q12.c2;have f12_0 := q12.free 0;have f12_1 := q12.free 1;have l12 := q12.lt;have z12 := (q12.set 0 (.int .i64 x1)).set 1 (.slice xa xn xcap);have z120 := z12.cell 0;have z121 := z12.cell 1;simp only [qH, qI, qC, qD] at z120 z121;clear z12;have hBB := (BB.setCell (p := ⟨X12, 0, none⟩) (by simp only []; omega) (.int .i64 x1)).setCell (p := ⟨X12, 1, none⟩) (by simp only []; omega) (.slice xa xn xcap);have o11 := (o1.setOther (X := X12) (fun h => by have := lo1 h; omega) 0 (.int .i64 x1)).setOther (X := X12) (fun h => by have := lo1 h; omega) 1 (.slice xa xn xcap)
  have o22 := (o2.setOther (X := X12) (fun h => by have := lo2 h; omega) 0 (.int .i64 x1)).setOther (X := X12) (fun h => by have := lo2 h; omega) 1 (.slice xa xn xcap)
  go_wp2
  exact bodyPost_ret (v := .tuple #[resV x1 xa xn xcap, .slice ya yn ycap, .bool x4]) (by simp [results, Tryz.results20, go_sem, z120, z121]) rfl (by unfold LocD; exact ⟨xa, xn, xcap, XB, ya, yn, ycap, YB, rfl, HL1.out, HL2.out, hBB, o11, o22, fun h => by have := lo1 h; omega, fun h => by have := lo2 h; omega, hne⟩)
 go_upto_region 5 with fail
 clear g7_0 g7_1 g12_0 g12_1;have al := (Below.refl v7.heap.size v7).alloc (qK _) (.cells #[] 3);have BA := btr BB al;have hlt1 := q12.lt;have zB := BB.size;obtain ⟨d0, d1, f0, f1⟩ := q12.pair;have HR : Hid (R = (0, [], [], false)) := by (show _ = _; rw [<- HR0.out]; simp [locL, HP4.out.1, HP4.out.2.1, HP4.out.2.2, E1.out, E2.out, h6, h7, h8])
 clear al hA hC hD hE hU
 go_wp2
 exact bodyPost_ret (v := .tuple #[resV 0 none 0 0, .slice (some ⟨v7.heap.size, 0, none⟩) 0 0, .bool false]) (by simp [results, Tryz.results20, go_sem, d0, d1, hlt1]) rfl (by rw [HR.out]; unfold LocD; exact ⟨none, 0, 0, 0, _, 0, 0, 0, rfl, rfl, rfl, (((BB.setCell (by simp only []; omega) _).setCell (by simp only []; omega) _).alloc (by rw [size_setCell, size_setCell]; exact BB.size) _), OwnX.nil _ _ _, OwnX.nil _ _ _, fun h => by omega, fun h => by omega, fun h => by omega⟩)
end Go.Proofs.YtfmpcihghlnlnaaGreatDoor
