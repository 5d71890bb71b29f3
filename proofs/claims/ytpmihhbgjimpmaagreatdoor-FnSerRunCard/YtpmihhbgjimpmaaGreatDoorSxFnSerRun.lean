/-
  For all bytes FnSerRun returns true, and what came in reads behind the call as it did. The library's tables that are listed are as its text lays them; no other condition. (one behind the other is one, and then the other)
-/
import Derived.Test.YtpmihhbgjimpmaaGreatDoorTie
import Derived.Test.YtpmihhbgjimpmaaGreatDoorCards
import Derived.Stop.LaidErr
import Derived.Lib.LaidTab
import Derived.LaidMore
import Derived.Lay
import Derived.SevenTiedAt
import Derived.Stop.Joined
import Derived.Test.YtpmihhbgjimpmaaGreatDoorSxP
namespace Go.Proofs.YtpmihhbgjimpmaaGreatDoor.fnSerRun
set_option maxHeartbeats 25600000
open Go.ChangeShapes Go.WideShapes Go.ChangeAt Go.RowKit Go.Deep Go.Joins
set_option linter.unusedVariables false
set_option maxRecDepth 100000
theorem open_bytesT {H : Type} {enc : TypeId × Value → H} {W : World} {r : Reach} {b0 : Nat} {v : Value} {d : DataW H} {p : List MemPlace}
  (hv : Value.okWide Tryz.prog W r b0 22 v) (h : DataW.Trod enc Tryz.prog W 0 (fun _ => true) true 22 v d p) : ∃ a n cap zs, v = .slice a n cap ∧ BInts W a n zs ∧ (n ≤ cap ∧ cap ≤ maxLen) := by
 obtain ⟨a0, len0, cap0, rfl⟩ := okWide_slice Tryz.underlying22 hv;obtain ⟨fuel, hf⟩ := h
 rcases open_ints Tryz.underlying22 Tryz.underlying5 (by kernel_rfl) hf with ⟨hcs, _⟩ | ⟨x, l, c, zs, hcs, _, hl, hm, hz, _, hcell, hwz⟩
 ·simp [Value.cells] at hcs;obtain ⟨rfl, rfl, rfl⟩ := hcs
  exact ⟨none, 0, 0, [], rfl, ⟨rfl, fun i hi => by omega, fun i => by simp⟩, by omega, by unfold maxLen; omega⟩
 simp [Value.cells] at hcs;obtain ⟨rfl, rfl, rfl⟩ := hcs;have hz' : zs.length = cap0 := by simpa using hz
 refine ⟨some x, len0, cap0, zs.take len0, rfl, ⟨by rw [List.length_take]; omega, fun i hi => ?_, fun i => ?_⟩, hl, hm⟩
 ·obtain ⟨b, off, spot⟩ := x;have hc0 := hcell 0 (by omega);have hspot : spot = none := by simpa [Addr.add] using World.cell?_spot hc0
  subst hspot;refine ⟨b, off, rfl, ?_⟩;have hc := hcell i (by omega)
  have : W.cell? ⟨b, off + i, none⟩ = some (.int .u8 (zs.getD i 0)) := by
   by_cases h0 : i = 0
   ·subst h0; simpa [Addr.add] using hc
   simpa [Addr.add, h0] using hc
  rw [this];simp [hi]
 by_cases hi : i < (zs.take len0).length
 ·rw [List.getElem?_eq_getElem hi];have := hwz _ (List.mem_of_mem_take (List.getElem_mem hi));simpa [Lit.wf, IntKind.min, IntKind.max, IntKind.signed, IntKind.bits] using this
 rw [List.getElem?_eq_none (by omega)];simp
theorem co_of_same {c d : Int} {ta tb : Option Addr} {tn tm tc td : Nat} {tx ty : List Int} (h : sameRs ⟨c, ⟨ta, tn, tc, tx⟩⟩ ⟨d, ⟨tb, tm, td, ty⟩⟩) : coRB c d tx ty = true := by
 obtain ⟨h1, h2, -⟩ := h;have h1 : c = d := h1;have h2 : tx = ty := h2;subst h1 h2
 exact coRB_same
theorem coRss_same {ad ae : Option Addr} {N cap cap' : Nat} (fs gs : List RsV) {w : World} (hN : fs.length = N) (hM : gs.length = N) (hF : RsSG w ad fs) (hG : RsSG w ae gs) (hN1 : N ≤ 1048576)
  (hsame : ∀ i, i < N → sameRs (fs[i]?.getD noRs) (gs[i]?.getD noRs)) :
  Calls Tryz.prog 23 #[.slice ad N cap, .slice ae N cap'] w fun e w' => e = .returned (.bool true) ∧ Below w.heap.size w w' := by
 have HN : Hid (fs.length = N) := hN;have HM : Hid (gs.length = N) := hM;have HS : Hid _ := hsame;clear hN hM hsame
 go_enter Tryz.func23, Tryz.ntmps23
 go_wp2_with fail
 go_loopw [5] (fun i wr => ∃ k : Nat, k ≤ N ∧ i = .int .i64 k ∧ Below w.heap.size w wr) (fun i _ => N - (intOf i).toNat)
 case atStart => exact ⟨0, Nat.zero_le _, rfl, Below.refl _ _⟩
 case round =>
  obtain ⟨k, hk, rfl, hb⟩ := hrel
  by_cases hlt : k < N
  ·obtain ⟨b, off, rfl, hc, hr⟩ := (hF.below hb) k (by rw [HN.out]; exact hlt);obtain ⟨b', off', rfl, hc', hr'⟩ := (hG.below hb) k (by rw [HM.out]; exact hlt);have hs := HS.out k hlt;generalize HG1 : fs[k]?.getD noRs = fe at *;generalize HG2 : gs[k]?.getD noRs = g at *;clear HG1 HG2 hF hG;obtain ⟨e0, e1⟩ := cellsRs hc;obtain ⟨fec, ⟨feta, fetn, fetc, fetx⟩⟩ := fe;have e0' : wr.cell? ⟨b, off + k * 2, none⟩ = some (.int .i64 fec) := e0;have e1' : wr.cell? ⟨b, off + k * 2 + 1, none⟩ = some (.slice feta fetn fetc) := e1;clear e0 e1 hc;obtain ⟨d0, d1⟩ := cellsRs hc';obtain ⟨gc, ⟨gta, gtn, gtc, gtx⟩⟩ := g;have d0' : wr.cell? ⟨b', off' + k * 2, none⟩ = some (.int .i64 gc) := d0;have d1' : wr.cell? ⟨b', off' + k * 2 + 1, none⟩ = some (.slice gta gtn gtc) := d1;clear d0 d1 hc';have hlt' : (k : Int) < (N : Int) := by omega
   go_wp2_with fail
   go_region_with (first | (go_at_call 59; refine (coR_any fetx gtx (by exact (hr.below (Below.refl _ _).drew).1.1) (by exact (hr'.below (Below.refl _ _).drew).1.1) hr.1.2 hr'.1.2).mono ?_; rintro ee w1 ⟨rfl, b1⟩; rw [co_of_same hs]))
   all_goals
    have b1' := below_of_drew b1
    go_wp2
    go_roundw
    case rel => exact ⟨k + 1, by omega, by go_num, btr hb b1'⟩
    case measure => simp [intOf]; omega
  go_wp2
  go_ret
  exact ⟨rfl, hb⟩
theorem same_rs {ts us : List RsV} (h : ts.map dRs = us.map dRs) : ∀ i, i < ts.length → sameRs (ts[i]?.getD noRs) (us[i]?.getD noRs) := fun i hi => by
 have hl : ts.length = us.length := by simpa using congrArg List.length h
 have h1 := congrArg (fun l => l[i]?) h;simp only [List.getElem?_map] at h1;have et : ts[i]? = some (ts[i]?.getD noRs) := by rw [List.getElem?_eq_getElem (by omega)]; rfl
 have eu : us[i]? = some (us[i]?.getD noRs) := by rw [List.getElem?_eq_getElem (by omega)]; rfl
 rw [et, eu] at h1;simp only [Option.map_some, Option.some.injEq, dRs, Prod.mk.injEq] at h1
 exact ⟨h1.1, h1.2, trivial⟩
theorem JRs.rsg {w W : World} {ts : List RsV} {bs : Nat → Nat} {n : Nat} {a : Option Addr} {cap : Nat} (j : JRs w (.slice a n cap) ts bs W) (hn : ts.length = n) : RsSG W a ts := by
 obtain ⟨a', G, cap', e, l, -⟩ := j.lies hn;simp only [Value.slice.injEq] at e;obtain ⟨rfl, -, -⟩ := e
 exact l.sg hn
theorem ok_more {n : Nat} {S : List Int} (h : okN 3 1000 n S = true) : okN 3 10000 n S = true := by
 have h2 := okN_elim (by omega) h;have e := h2.1;rw [okN_is (by omega)]
 exact bnd_allE (bnd_mono h2.2 (by omega))
theorem ser_fine {cl : Int} {N : Nat} {ss : List L2V} {gn : Nat} {G : List Int} {sn : Nat} {S : List Int} {ln : Nat} {fs : List LgV} (hp : plnB cl N ss gn G sn S = true) (hg : logB cl N ln fs = true) (hN : ss.length = N) (hS : S.length = sn) (hl : ∀ i, i < ss.length → (ss[i]?.getD noL).x.length = (ss[i]?.getD noL).n) (hq : ∀ i, i < fs.length → (fs[i]?.getD noLg).t.x.length = (fs[i]?.getD noLg).t.n) : ∀ k, k ≤ fs.length → okN 3 10000 3 (serL ss S (fs.take k)).2 = true ∧ (serL ss S (fs.take k)).2.length = 3 := by
 simp only [plnB, catB, Bool.and_eq_true] at hp;have hs3 := (okN_elim (by omega) hp.2.2.1).1;intro k
 induction k with
 | zero =>
  intro _;rw [serL_zero];have := ok_more hp.2.2.1;have e : sn = 3 := by omega
  subst e
  exact ⟨this, hS⟩
 | succ k ih =>
  intro hk;obtain ⟨i1, i2⟩ := ih (by omega);rw [serL_step (by omega), serStep];dsimp only;obtain ⟨c, hc, hcN⟩ := log_act hg (show k < fs.length by omega);simp only [logB, Bool.and_eq_true] at hg;have h1 := List.all_eq_true.1 hg.2 _ (List.getElem_mem (show k < fs.length by omega));simp only [lgOk, inCallB, Bool.and_eq_true] at h1;have hgk : fs[k]?.getD noLg = fs[k]'(by omega) := by rw [List.getElem?_eq_getElem (by omega)]; rfl
  rw [hc, Int.toNat_natCast, i2]
  have ha : (ss[c]?.getD noL).ok = true := by
   have := List.all_eq_true.1 hp.2.1.2 _ (List.getElem_mem (show c < ss.length by omega));rw [List.getElem?_eq_getElem (by omega)]
   exact this
  have hrun : runB (ss[c]?.getD noL).n (ss[c]?.getD noL).x 3 (serL ss S (fs.take k)).2 (fs[k]?.getD noLg).t.n (fs[k]?.getD noLg).t.x = true := by
   simp only [runB, Bool.and_eq_true];refine ⟨⟨ha, i1⟩, ?_⟩;rw [hgk]
   exact h1.1.2.2.2
  exact ⟨(run_left (hl c (by omega)) hrun i2 (hq k (by omega))).hp, pots_threeE hrun i2⟩
theorem log_take {cl : Int} {N ln k : Nat} {fs : List LgV} (h : logB cl N ln fs = true) (hk : k ≤ ln) : logB cl N k (fs.take k) = true := by
 simp only [logB, Bool.and_eq_true, decide_eq_true_eq] at h ⊢
 exact ⟨by omega, List.all_eq_true.2 fun x hx => List.all_eq_true.1 h.2 x (List.mem_of_mem_take hx)⟩
theorem sg_take {w : World} {la : Option Addr} {fs : List LgV} {k : Nat} (h : LgSG w la fs) : LgSG w la (fs.take k) := fun i hi => by
 rw [List.length_take] at hi;obtain ⟨b, off, e, h1⟩ := h i (by omega);refine ⟨b, off, e, ?_⟩;rw [List.getElem?_take, if_pos (by omega)]
 exact h1
theorem walk (w : World) (a : Option Addr) (n cap : Nat) (A0 : List Int) (hA0 : BInts w a n A0) (hn : n ≤ cap ∧ cap ≤ maxLen) (hT : Lib.TabBelow Tryz.prog w.heap.size w "internal/strconv.uint64pow10" .u64 Lib.pow10Tab) :
  Calls Tryz.prog 4 #[.slice a n cap] w fun e w' => e = .returned (.bool true) ∧ Below w.heap.size w w' := by
 obtain ⟨hn2, hn3⟩ := hn
 by_cases hn1 : n ≤ 1048576
 ·have HTB : Hid _ := hT;clear hT
  go_enter Tryz.func4, Tryz.ntmps4
  go_wp2_with fail
  refine (dSerRun A0 hA0 hn2 hn1 hn3).mono ?_;rintro ee w1 ⟨cl, ad, N, c, ss, ga, gn, gc, G, sa, sn, sc, S, la, ln, lc, fs, rfl, BB, P, hfl, hl8, F, hlc, hlm⟩;have HL : Hid (fs.length = ln) := hfl;clear hfl;have al := (Below.refl w1.heap.size w1).alloc (Nat.le_refl _) (.cells #[.int .i64 cl, .slice ad N c, .slice ga gn gc, .slice sa sn sc] 26);replace BB := btr BB al;replace P := P.below al;replace F := F.below al;clear al;have x := Cel.new w1 [.int .i64 cl, .slice ad N c, .slice ga gn gc, .slice sa sn sc] 26
  go_wp2_with fail
  obtain ⟨w2, hw2⟩ : ∃ W, W = w1.alloc (.cells #[.int .i64 cl, .slice ad N c, .slice ga gn gc, .slice sa sn sc] 26) := ⟨_, rfl⟩
  rw [← hw2];rw [← hw2] at BB P F x;have zb2 : w2.heap.size = w1.heap.size + 1 := by rw [hw2, World.size_alloc]
  have za2 : w2.heap.size ≤ w1.heap.size + 1 ∧ w1.heap.size + 1 ≤ w2.heap.size := by omega
  clear hw2 zb2;obtain ⟨R, hR⟩ : ∃ R, serX cl N ss gn G sn S ln fs = R := ⟨_, rfl⟩
  have HR : Hid (serX cl N ss gn G sn S ln fs = R) := hR;clear hR;refine (iser_any cl ad N c ga gn gc sa sn sc ss G S la ln lc fs P HL.out F (by omega) (fun w' h' => HTB.out w' (btr BB h'))).mono ?_;rintro ee w3 ⟨v5, t5, bs5, a5, m, c5, O5, rfl, j5, x5, L5, zm5, o5, -⟩;rw [HR.out] at x5 L5 o5;have b5 := j5.b;obtain ⟨n5, hn5⟩ : ∃ n, t5.length = n := ⟨_, rfl⟩
  obtain ⟨r5, d5, rfl⟩ := j5.isSlice hn5;have g5 := JRs.rsg j5 hn5;have i5 := o5.ints;clear j5 o5;replace BB := btr BB b5;replace P := P.below b5;replace F := F.below b5;replace x := x.below b5;have z3 := b5.size;clear b5;have cx_0 := x.cell 0;have cx_1 := x.cell 1;have cx_2 := x.cell 2;have cx_3 := x.cell 3;simp only [List.getElem?_cons_zero, List.getElem?_cons_succ] at cx_0 cx_1 cx_2 cx_3
  go_wp2_with fail
  refine (sser_any cl ad N c ga gn gc sa sn sc ss G S la ln lc fs P HL.out F (by omega)).mono ?_;rintro ee w4 ⟨v6, t6, bs6, a6, m6, c6, O6, rfl, j6, x6, L6, zm6, o6, -⟩;rw [HR.out] at x6 L6 o6;have b6 := j6.b;obtain rfl : m = m6 := by rw [← L6]; exact L5.symm
  have hn6 : t6.length = n5 := by
   have h1 := congrArg List.length x5;have h2 := congrArg List.length x6;rw [List.length_map] at h1 h2
   omega
  obtain ⟨r6, d6, rfl⟩ := j6.isSlice hn6;have g6 := JRs.rsg j6 hn6;have i6 := o6.ints;clear j6 o6;clear cx_0 cx_1 cx_2 cx_3;replace BB := btr BB b6;replace P := P.below b6;replace F := F.below b6;replace x := x.below b6;replace g5 := g5.below b6;replace i5 := i5.below b6;have z4 := b6.size;clear b6;have HN5 : Hid (t5.length = n5) := hn5;have HX5 : Hid (t5.map dRs = R.1) := x5;have HL5 : Hid (R.2.length = m) := L5;have HSM : Hid (∀ i, i < n5 → sameRs (t5[i]?.getD noRs) (t6[i]?.getD noRs)) := fun i hi => same_rs (x5.trans x6.symm) i (by omega);have HN6 : Hid (t6.length = n5) := hn6
  have hn5b : n5 ≤ 1048576 := by
   have h1 := congrArg List.length x5;rw [List.length_map, ← HR.out, serX] at h1
   split at h1
   ·rw [serL_len, HL.out] at h1; omega
   have h2 : t5.length = 0 := h1
   omega
  clear hn5 hn6 x5 x6 L5 L6
  go_wp2_with fail
  refine (coRss_same t5 t6 HN5.out HN6.out g5 g6 hn5b HSM.out).mono ?_;rintro ee w5 ⟨rfl, b⟩;replace BB := btr BB b;replace P := P.below b;replace F := F.below b;replace x := x.below b;replace g5 := g5.below b;replace i5 := i5.below b;replace g6 := g6.below b;replace i6 := i6.below b;have z5 := b.size;clear b
  go_wp2_with fail
  refine (coI_any R.2 R.2 i5 i6 zm5 zm5).mono ?_;rintro ee w6 ⟨rfl, b⟩;replace BB := btr BB b;replace P := P.below b;replace F := F.below b;replace x := x.below b;replace g5 := g5.below b;replace i5 := i5.below b;replace g6 := g6.below b;replace i6 := i6.below b;have z6 := b.size;clear b;rw [eqB_refl];clear g6 i6;clear HN6 HSM zm6;obtain ⟨R1, R2⟩ := R;dsimp only at HX5 HL5 i5
  cases hpl : plnB cl N ss gn G sn S && logB cl N ln fs
  ·have hz := HR.out;rw [serX_no hpl] at hz;simp only [Prod.mk.injEq] at hz;obtain ⟨rfl, rfl⟩ := hz;obtain rfl : m = 0 := HL5.out.symm
   obtain rfl : n5 = 0 := by
    have h1 := congrArg List.length HX5.out;rw [List.length_map] at h1;rw [← HN5.out, h1]; rfl
   clear HR HX5 HL5 HN5
   go_wp2_with fail
   refine (coHolds_any).mono ?_;rintro ee w7 ⟨rfl, b⟩;replace BB := btr BB b;replace P := P.below b;replace F := F.below b;replace x := x.below b;replace g5 := g5.below b;replace i5 := i5.below b;have z7 := b.size;clear b
   go_wp2
   go_ret
   exact ⟨rfl, BB⟩
  have hpl1 : plnB cl N ss gn G sn S = true := by simp only [Bool.and_eq_true] at hpl; exact hpl.1
  have hpl2 : logB cl N ln fs = true := by simp only [Bool.and_eq_true] at hpl; exact hpl.2
  have hz := HR.out;rw [serX_yes hpl1 hpl2] at hz;have HZ : Hid (serL ss S fs = (R1, R2)) := hz;clear hz HR hpl;have FINE : Hid _ := ser_fine hpl1 hpl2 P.ha P.s.1 (fun i hi => by obtain ⟨b, o, _, _, h⟩ := P.a i hi; exact h.1) (fun i hi => by obtain ⟨b, o, _, _, h, _⟩ := F i hi; exact h.1.1);have hfin := FINE.out fs.length (Nat.le_refl _);rw [List.take_length, HZ.out] at hfin;obtain rfl : m = 3 := by rw [← HL5.out]; exact hfin.2
  have HOK : Hid (okN 3 10000 3 R2 = true) := hfin.1;have HP : Hid (plnB cl N ss gn G sn S = true) := hpl1;have LA : Hid (logB cl N ln fs = true) := hpl2;clear hfin hpl1 hpl2;have x0 := x.cell 0;have x1 := x.cell 1;have x2 := x.cell 2;have x3 := x.cell 3;simp only [List.getElem?_cons_zero, List.getElem?_cons_succ] at x0 x1 x2 x3
  go_upto_region 11 with fail
  have ek : (n : Int) % ((ln : Int) + 1) = ((n % (ln + 1) : Nat) : Int) := by rw [Int.natCast_emod, Int.natCast_add]; rfl
  rw [ek];have hk0 : n % (ln + 1) < ln + 1 := Nat.mod_lt _ (by omega);generalize n % (ln + 1) = k0 at *;clear ek;have hk1 : k0 ≤ ln := by omega
  have hkc : (k0 : Int) ≤ (lc : Int) := by omega
  have hkc0 : (0 : Int) ≤ (k0 : Int) := by omega
  have HTK : Hid ((fs.take k0).length = k0) := by
   show _ = _
   rw [List.length_take, HL.out]; omega
  obtain ⟨X3, hX3⟩ : ∃ x, x = w1.heap.size := ⟨_, rfl⟩
  rw [← hX3] at x0 x1 x2 x3 x;rw [← hX3];clear hX3;have KP : Hid (∀ X, Below w6.heap.size w6 X → X.cell? ⟨X3, 0, none⟩ = some (.int .i64 cl) ∧ X.cell? ⟨X3, 1, none⟩ = some (.slice ad N c) ∧ X.cell? ⟨X3, 2, none⟩ = some (.slice ga gn gc) ∧ X.cell? ⟨X3, 3, none⟩ = some (.slice sa sn sc)) := fun X hX => ⟨(hX.cell (p := ⟨X3, 0, none⟩) (block_lt x0)).trans x0, (hX.cell (p := ⟨X3, 1, none⟩) (block_lt x1)).trans x1, (hX.cell (p := ⟨X3, 2, none⟩) (block_lt x2)).trans x2, (hX.cell (p := ⟨X3, 3, none⟩) (block_lt x3)).trans x3⟩
  have d : Below w6.heap.size w6 w6.drew := (Below.refl _ _).drew;have hSS : (w6.drew.cell? ⟨X3, 0, none⟩ = some (.int .i64 cl) ∧ w6.drew.cell? ⟨X3, 1, none⟩ = some (.slice ad N c) ∧ w6.drew.cell? ⟨X3, 2, none⟩ = some (.slice ga gn gc) ∧ w6.drew.cell? ⟨X3, 3, none⟩ = some (.slice sa sn sc)) ∧ True := ⟨KP.out _ d, trivial⟩
  refine wp_region_ends (fun X => X.cell? ⟨X3, 0, none⟩ = some (.int .i64 cl) ∧ X.cell? ⟨X3, 1, none⟩ = some (.slice ad N c) ∧ X.cell? ⟨X3, 2, none⟩ = some (.slice ga gn gc) ∧ X.cell? ⟨X3, 3, none⟩ = some (.slice sa sn sc)) (fun _ => True) 9 (by kernel_rfl) ?_;obtain ⟨V, hV0⟩ : ∃ V, V = w6.drew := ⟨_, rfl⟩
  rw [← hV0] at hSS d;rw [← hV0];clear hV0;refine tkl 0 rfl hSS ?_;refine tkl 1 rfl hSS ?_;refine tkl 2 rfl hSS ?_;refine tkl 3 rfl hSS ?_;(try simp only [Act.put, List.setIfInBounds_toArray, List.set_cons_succ, List.set_cons_zero, List.getElem_toArray, List.getElem_cons_succ, List.getElem_cons_zero]);have zV := d.size;replace BB := btr BB d;replace P := P.below d;replace F := F.below d;replace x := x.below d;replace g5 := g5.below d;replace i5 := i5.below d;refine wo1 4 rfl fun K hK => ?_;go_simp;refine (iser_any cl ad N c ga gn gc sa sn sc ss G S la k0 lc (fs.take k0) P HTK.out (sg_take F) (by omega) (fun w' h' => HTB.out w' (btr BB h'))).mono ?_;rintro ee w9 ⟨v9, t9, bs9, a9, m9, c9, O9, rfl, j9, y9, L9, zm9, o9, -⟩;rw [serX_yes HP.out (log_take LA.out hk1)] at y9 L9 o9;have b9 := j9.b;replace d := btr d b9;(try dsimp only);replace hSS : (w9.cell? ⟨X3, 0, none⟩ = some (.int .i64 cl) ∧ w9.cell? ⟨X3, 1, none⟩ = some (.slice ad N c) ∧ w9.cell? ⟨X3, 2, none⟩ = some (.slice ga gn gc) ∧ w9.cell? ⟨X3, 3, none⟩ = some (.slice sa sn sc)) ∧ True := ⟨KP.out _ d, trivial⟩
  refine kk0 hK (hSS.1) ?_;refine tkl 5 rfl hSS ?_;refine tkl 6 rfl hSS ?_;refine tkl 7 rfl hSS ?_;(try simp only [Act.put, List.setIfInBounds_toArray, List.set_cons_succ, List.set_cons_zero, List.getElem_toArray, List.getElem_cons_succ, List.getElem_cons_zero]);refine wo1 8 rfl fun K hK => ?_;go_simp;refine kk0 hK (hSS.1) ?_;refine wo1 9 rfl fun K hK => ?_;go_simp;refine kk0 hK (hSS.1) ?_;refine wod ?_ _;clear hSS KP d;clear x0 x1 x2 x3;obtain ⟨n9, hn9⟩ : ∃ n, t9.length = n := ⟨_, rfl⟩
  obtain rfl : n9 = k0 := by
   have h1 := congrArg List.length y9;rw [List.length_map, serL_len, HTK.out] at h1
   omega
  go_upto_region 12 with fail
  have HB0 : Hid _ := BB;have HP0 : Hid _ := P;have HF0 : Hid _ := F;have HX0 : Hid _ := x;have HG0 : Hid _ := g5;have HI0 : Hid _ := i5;have i9 := o9.ints;have HLN : Hid (t9.length = n9) := hn9;have HY9 : Hid _ := y9;obtain ⟨zi, hi, hz0, hz1, hz2⟩ := info_parts Tryz.infoResResult;clear BB P F x g5 i5 o9 b9 hn9 y9 L9
  go_wp2_with fail
  go_loopw [10, 11, 12, 13, 14] (fun out vals i _ _ wr => ∃ (k : Nat) (ts : List RsV) (bs : Nat → Nat) (pa : Option Addr) (pn pc : Nat), k ≤ ln ∧ i = .int .i64 k ∧ vals = .slice pa pn pc ∧ Hid (ts.length = k) ∧ JRs V out ts bs wr ∧ Hid (ts.map dRs = (serL ss S (fs.take k)).1) ∧ Ints wr pa pn (serL ss S (fs.take k)).2 ∧ pn ≤ 1048576) (fun _ _ i _ _ _ => ln - (intOf i).toNat)
  case atStart => exact ⟨n9, t9, bs9, a9, m9, c9, hk1, rfl, rfl, HLN.out, j9, HY9.out, i9, zm9⟩
  case round =>
   clear j9 i9;obtain ⟨k, ts, bs, pa, pn, pc, hk, rfl, rfl, htl, j, HS, op, hpn⟩ := hrel;obtain ⟨va, vc, rfl⟩ := j.isSlice htl.out
   by_cases hlt : k < ln
   ·have hlt' : (k : Int) < ln := by omega
    have F := LgSG.below HF0.out j.b;have P := PlAt.below HP0.out j.b;have x := Cel.below HX0.out j.b;obtain ⟨b, off, rfl, hc6, hg1, -, -⟩ := F k (by rw [HL.out]; exact hlt);obtain ⟨ac, hgc, hcN⟩ := log_act LA.out (by rw [HL.out]; exact hlt);have STEP : Hid _ := serL_step (ss := ss) (V := S) (k := k) (by rw [HL.out]; exact hlt);have HV : Hid ((serL ss S (fs.take k)).2.length = pn) := op.1;obtain ⟨e0, e1, e2, e3, e4, e5⟩ := cellsLg hc6;clear e0 e1 e4 e5 hc6;generalize fs[k]?.getD noLg = g at *;obtain ⟨gx, gq, gc', ⟨gta, gtn, gtc, gtx⟩, ge, gu⟩ := g;obtain rfl : gc' = (ac : Int) := hgc;obtain ⟨gi, gz⟩ := hg1;replace gi : Ints wr gta gtn gtx := gi;replace gz : gtn ≤ 1048576 := gz;replace e2 : wr.cell? ⟨b, off + k * 6 + 2, none⟩ = some (.int .i64 (ac : Int)) := e2;replace e3 : wr.cell? ⟨b, off + k * 6 + 3, none⟩ = some (.slice gta gtn gtc) := e3;obtain ⟨ba, bo, rfl, ha, hl⟩ := P.a ac (by rw [P.ha]; exact hcN);have hcN' : (ac : Int) < (N : Int) := by omega
    obtain ⟨hx1, hx2, hx3⟩ := hl;obtain ⟨RC, hRC⟩ : ∃ x, x = runCode (ss[ac]?.getD noL).n (ss[ac]?.getD noL).x pn (serL ss S (fs.take k)).2 gtn gtx := ⟨_, rfl⟩
    obtain ⟨RT, hRT⟩ : ∃ x, x = runTells (ss[ac]?.getD noL).n (ss[ac]?.getD noL).x pn (serL ss S (fs.take k)).2 gtn gtx := ⟨_, rfl⟩
    obtain ⟨RP, hRP⟩ : ∃ x, x = runPots (ss[ac]?.getD noL).n (ss[ac]?.getD noL).x pn (serL ss S (fs.take k)).2 gtn gtx := ⟨_, rfl⟩
    have HST : Hid (serL ss S (fs.take (k + 1)) = ((serL ss S (fs.take k)).1 ++ [(RC, RT)], RP)) := by
     show _ = _
     rw [STEP.out, serStep];dsimp only;rw [Int.toNat_natCast, HV.out, hRC, hRT, hRP]
    have hT7 : RT.length ≤ 7 := by rw [hRT]; exact runTells_le
    have hP3 : RP.length ≤ 1048576 := by rw [hRP]; exact Nat.le_trans (runPots_le) (by rw [HV.out]; exact hpn)
    have HR : Hid (RC = _ ∧ RT = _ ∧ RP = _) := ⟨hRC, hRT, hRP⟩
    clear hRC hRT hRP STEP P F;generalize (serL ss S (fs.take k)).2 = VV at *;generalize ss[ac]?.getD noL = al at *;obtain ⟨aa, an, acp, ax⟩ := al;replace ha : wr.cell? ⟨ba, bo + ac, none⟩ = some (.slice aa an acp) := ha;replace hx1 : ax.length = an := hx1;replace hx2 : LinesG wr aa ax := hx2;replace hx3 : an ≤ 1048576 := hx3;have HX1 : Hid (ax.length = an) := hx1;clear hx1;have g1 := x.cell 1;simp only [List.getElem?_cons_zero, List.getElem?_cons_succ] at g1;clear x
    go_upto_region 15 with fail
    go_cut [13, 14] from 69 to 100 (fun x y wx => SerQ wr wx x y RC RT RP)
    case first =>
     have KP : Hid (∀ X, Below wr.heap.size wr X → X.cell? ⟨X3, 1, none⟩ = some (.slice (some ⟨ba, bo, none⟩) N c) ∧ X.cell? ⟨b, off + k * 6 + 2, none⟩ = some (.int .i64 (ac : Int)) ∧ X.cell? ⟨b, off + k * 6 + 3, none⟩ = some (.slice gta gtn gtc) ∧ X.cell? ⟨ba, bo + ac, none⟩ = some (.slice aa an acp)) := fun X hX => ⟨(hX.cell (p := ⟨X3, 1, none⟩) (block_lt g1)).trans g1, (hX.cell (p := ⟨b, off + k * 6 + 2, none⟩) (block_lt e2)).trans e2, (hX.cell (p := ⟨b, off + k * 6 + 3, none⟩) (block_lt e3)).trans e3, (hX.cell (p := ⟨ba, bo + ac, none⟩) (block_lt ha)).trans ha⟩
     have d : Below wr.heap.size wr wr.drew := (Below.refl _ _).drew;have hSS : (wr.drew.cell? ⟨X3, 1, none⟩ = some (.slice (some ⟨ba, bo, none⟩) N c) ∧ wr.drew.cell? ⟨b, off + k * 6 + 2, none⟩ = some (.int .i64 (ac : Int)) ∧ wr.drew.cell? ⟨b, off + k * 6 + 3, none⟩ = some (.slice gta gtn gtc) ∧ wr.drew.cell? ⟨ba, bo + ac, none⟩ = some (.slice aa an acp)) ∧ True := ⟨KP.out _ d, trivial⟩
     refine wp_region_ends (fun X => X.cell? ⟨X3, 1, none⟩ = some (.slice (some ⟨ba, bo, none⟩) N c) ∧ X.cell? ⟨b, off + k * 6 + 2, none⟩ = some (.int .i64 (ac : Int)) ∧ X.cell? ⟨b, off + k * 6 + 3, none⟩ = some (.slice gta gtn gtc) ∧ X.cell? ⟨ba, bo + ac, none⟩ = some (.slice aa an acp)) (fun _ => True) 23 (by kernel_rfl) ?_;obtain ⟨V0, hV0⟩ : ∃ V, V = wr.drew := ⟨_, rfl⟩
     rw [← hV0] at hSS d;rw [← hV0];clear hV0;have yd0 := d.size;refine tkl 0 rfl hSS ?_;refine tkl 1 rfl hSS ?_;refine tkl 2 rfl hSS ?_;refine tkl 3 rfl hSS ?_;refine tkl 4 rfl hSS ?_;refine tkl 5 rfl hSS ?_;refine tkl 6 rfl hSS ?_;refine tkl 7 rfl hSS ?_;refine tkl 8 rfl hSS ?_;refine tkl 9 rfl hSS ?_;refine tkl 10 rfl hSS ?_;refine tkl 11 rfl hSS ?_;refine tkl 12 rfl hSS ?_;refine tkl 13 rfl hSS ?_;refine tkl 14 rfl hSS ?_;refine tkl 15 rfl hSS ?_;refine tkl 16 rfl hSS ?_;(try simp only [Act.put, List.setIfInBounds_toArray, List.set_cons_succ, List.set_cons_zero, List.getElem_toArray, List.getElem_cons_succ, List.getElem_cons_zero]);refine wo2 17 21 rfl rfl (fun K hK => ?_) fun K hK => ?_
     ·go_simp;refine (irun_any an ax pn VV gtn gtx HX1.out (hx2.below d) hx3 (op.below d) (gi.below d) hpn gz).mono ?_;rintro ee V1 ⟨ra, n1, rc, RA, rb, m1, rd, RB, rfl, ln1, ln2, bv, o1, o2, lo1, lo2, ne12⟩;rw [← HR.out.1];rw [← HR.out.2.1] at ln1 o1;rw [← HR.out.2.2] at ln2 o2;have yV1 := bv.size;replace d := btr d bv;clear bv;(try dsimp only);replace hSS : (V1.cell? ⟨X3, 1, none⟩ = some (.slice (some ⟨ba, bo, none⟩) N c) ∧ V1.cell? ⟨b, off + k * 6 + 2, none⟩ = some (.int .i64 (ac : Int)) ∧ V1.cell? ⟨b, off + k * 6 + 3, none⟩ = some (.slice gta gtn gtc) ∧ V1.cell? ⟨ba, bo + ac, none⟩ = some (.slice aa an acp)) ∧ True := ⟨KP.out _ d, trivial⟩
      refine kk0 hK (hSS.1) ?_;refine tkl 18 rfl hSS ?_;refine tkl 19 rfl hSS ?_;refine tkl 20 rfl hSS ?_;(try simp only [Act.put, List.setIfInBounds_toArray, List.set_cons_succ, List.set_cons_zero, List.getElem_toArray, List.getElem_cons_succ, List.getElem_cons_zero]);refine wo1 21 rfl fun K hK => ?_;go_simp;obtain ⟨V2, hV2⟩ : ∃ W, W = V1.alloc (.cells #[.int .i64 0, .slice none 0 0] 54) := ⟨_, rfl⟩
      have bv : Below V1.heap.size V1 V2 := by rw [hV2]; exact bal
      have nx1 : 0 < n1 → RA ≠ V1.heap.size := fun h => by have := o1.lt h; omega
      have nx2 : 0 < m1 → RB ≠ V1.heap.size := fun h => by have := o2.lt h; omega
      replace o1 := o1.below bv;replace o2 := o2.below bv;have xb : Cel V2 V1.heap.size [.int .i64 0, .slice none 0 0] 54 := by rw [hV2]; exact Cel.new V1 _ _
      have lb := xb.lt;have yV2 := d.size;replace d := btr d bv;rw [← hV2];clear bv hV2;replace hSS : (V2.cell? ⟨X3, 1, none⟩ = some (.slice (some ⟨ba, bo, none⟩) N c) ∧ V2.cell? ⟨b, off + k * 6 + 2, none⟩ = some (.int .i64 (ac : Int)) ∧ V2.cell? ⟨b, off + k * 6 + 3, none⟩ = some (.slice gta gtn gtc) ∧ V2.cell? ⟨ba, bo + ac, none⟩ = some (.slice aa an acp)) ∧ True := ⟨KP.out _ d, trivial⟩
      refine kk0 hK (hSS.1) ?_;have xS := ((xb.set 0 (.int .i64 RC)).set 1 (.slice ra n1 rc))
      simp only [List.set_cons_zero, List.set_cons_succ] at xS;have T := ((Touch.refl (fun z => z = V1.heap.size) V2).setCell (B := V1.heap.size) (i := 0) rfl (.int .i64 RC)).setCell (B := V1.heap.size) (i := 1) rfl (.slice ra n1 rc);have y0 := xb.cell 0;have y1 := xb.cell 1;have f0 := xb.free 0;have f1 := xb.free 1;simp only [List.getElem?_cons_zero, List.getElem?_cons_succ] at y0 y1;have dS := d.trans (T.below (B := wr.heap.size) (by omega) (fun z hz => by have hz : z = V1.heap.size := hz; omega));refine wo1 22 rfl fun K hK => ?_;go_simp;refine kk0 hK (KP.out _ dS) ?_;refine wo1 23 rfl fun K hK => ?_;go_simp;refine kk0 hK (KP.out _ dS) ?_;refine wod ?_ _;clear hSS y0 f0 y1 f1
      go_wp2_with fail
      go_meet
      case rel => exact ⟨V1.heap.size, ra, n1, rc, RA, rb, m1, rd, RB, rfl, rfl, ln1, ln2, dS, xS, o1.touch T (fun h0 hz => nx1 h0 hz), o2.touch T (fun h0 hz => nx2 h0 hz), fun h => by have := lo1 h; omega, fun h => by have := lo2 h; omega, ne12⟩
     go_simp;obtain ⟨V3, hV3⟩ : ∃ W, W = V0.alloc (.cells #[.int .i64 0, .slice none 0 0] 54) := ⟨_, rfl⟩
     have bv : Below V0.heap.size V0 V3 := by rw [hV3]; exact bal
     have xb : Cel V3 V0.heap.size [.int .i64 0, .slice none 0 0] 54 := by rw [hV3]; exact Cel.new V0 _ _
     have lb := xb.lt;have yV3 := d.size;replace d := btr d bv;rw [← hV3];clear bv hV3;replace hSS : (V3.cell? ⟨X3, 1, none⟩ = some (.slice (some ⟨ba, bo, none⟩) N c) ∧ V3.cell? ⟨b, off + k * 6 + 2, none⟩ = some (.int .i64 (ac : Int)) ∧ V3.cell? ⟨b, off + k * 6 + 3, none⟩ = some (.slice gta gtn gtc) ∧ V3.cell? ⟨ba, bo + ac, none⟩ = some (.slice aa an acp)) ∧ True := ⟨KP.out _ d, trivial⟩
     refine kk0 hK (hSS.1) ?_;refine wo1 17 rfl fun K hK => ?_;go_simp;refine (irun_any an ax pn VV gtn gtx HX1.out (hx2.below d) hx3 (op.below d) (gi.below d) hpn gz).mono ?_;rintro ee V4 ⟨ra, n1, rc, RA, rb, m1, rd, RB, rfl, ln1, ln2, bv, o1, o2, lo1, lo2, ne12⟩;rw [← HR.out.1];rw [← HR.out.2.1] at ln1 o1;rw [← HR.out.2.2] at ln2 o2;replace xb := xb.below bv;have nx1 : 0 < n1 → RA ≠ V0.heap.size := fun h => by have := lo1 h; omega
     have nx2 : 0 < m1 → RB ≠ V0.heap.size := fun h => by have := lo2 h; omega
     have yV4 := bv.size;replace d := btr d bv;clear bv;(try dsimp only);replace hSS : (V4.cell? ⟨X3, 1, none⟩ = some (.slice (some ⟨ba, bo, none⟩) N c) ∧ V4.cell? ⟨b, off + k * 6 + 2, none⟩ = some (.int .i64 (ac : Int)) ∧ V4.cell? ⟨b, off + k * 6 + 3, none⟩ = some (.slice gta gtn gtc) ∧ V4.cell? ⟨ba, bo + ac, none⟩ = some (.slice aa an acp)) ∧ True := ⟨KP.out _ d, trivial⟩
     refine kk0 hK (hSS.1) ?_;refine tkl 18 rfl hSS ?_;refine tkl 19 rfl hSS ?_;refine tkl 20 rfl hSS ?_;(try simp only [Act.put, List.setIfInBounds_toArray, List.set_cons_succ, List.set_cons_zero, List.getElem_toArray, List.getElem_cons_succ, List.getElem_cons_zero]);have xS := ((xb.set 0 (.int .i64 RC)).set 1 (.slice ra n1 rc))
     simp only [List.set_cons_zero, List.set_cons_succ] at xS;have T := ((Touch.refl (fun z => z = V0.heap.size) V4).setCell (B := V0.heap.size) (i := 0) rfl (.int .i64 RC)).setCell (B := V0.heap.size) (i := 1) rfl (.slice ra n1 rc);have y0 := xb.cell 0;have y1 := xb.cell 1;have f0 := xb.free 0;have f1 := xb.free 1;simp only [List.getElem?_cons_zero, List.getElem?_cons_succ] at y0 y1;have dS := d.trans (T.below (B := wr.heap.size) (by omega) (fun z hz => by have hz : z = V0.heap.size := hz; omega));refine wo1 22 rfl fun K hK => ?_;go_simp;refine kk0 hK (KP.out _ dS) ?_;refine wo1 23 rfl fun K hK => ?_;go_simp;refine kk0 hK (KP.out _ dS) ?_;refine wod ?_ _;clear hSS y0 f0 y1 f1
     go_wp2_with fail
     go_meet
     case rel => exact ⟨V0.heap.size, ra, n1, rc, RA, rb, m1, rd, RB, rfl, rfl, ln1, ln2, dS, xS, o1.touch T (fun h0 hz => nx1 h0 hz), o2.touch T (fun h0 hz => nx2 h0 hz), fun h => by have := lo1 h; omega, fun h => by have := lo2 h; omega, ne12⟩
    case rest =>
    obtain ⟨w21, hwc⟩ : ∃ W, W = wc := ⟨wc, rfl⟩
    rw [← hwc] at hcut;rw [← hwc];clear hwc;obtain ⟨X9, ra, n1, rc, RA, rb, m1, rd, RB, rfl, rfl, ln1, ln2, bb, xb, o1, o2, lo1, lo2, ne12⟩ := hcut;have j4 := j.below bb;have zz := bb.size;have hn1' : n1 ≤ 1048576 := by omega
    have hm1 : m1 ≤ 1048576 := by omega
    have jown : ∀ z, (Value.slice va k vc).ownBlock = some z → V.heap.size ≤ z ∧ z < wr.heap.size := fun z hz => j.own hz;have jk : ∀ i, i < k → 0 < (ts[i]?.getD noRs).t.n → bs i < wr.heap.size := fun i hi h0 => ((j.k i (by rw [htl.out]; exact hi)).1).lt h0;have j3s := j.b.size
    have hlo : Hid (0 < n1 → V.heap.size ≤ RA ∧ some RA ≠ (Value.slice va k vc).ownBlock) := fun h0 => by
     have h2 := lo1 h0
     exact ⟨by omega, fun e => by have := (jown _ e.symm).2; omega⟩
    have hnew : Hid (0 < n1 → ∀ i, i < k → 0 < (ts[i]?.getD noRs).t.n → bs i ≠ RA) := fun h0 i hi hi0 => by
     have h2 := lo1 h0;have h1 := jk i hi hi0
     omega
    have HLP : Hid (RP.length = m1) := ln2;clear ln1 ln2 op g1 e2 e3 ha gi hx2 HR HX1 HV j bb;have x0 := xb.cell 0;have x1 := xb.cell 1;simp only [List.getElem?_cons_zero, List.getElem?_cons_succ] at x0 x1;have A : Below w21.heap.size w21 (w21.alloc (.cells #[.int .i64 RC, .slice ra n1 rc] 54)) := bal;have j5 := j4.below A
    have ho : (w21.alloc (.cells #[.int .i64 RC, .slice ra n1 rc] 54)).ownsRow V.heap.size 54 2 (.slice va k vc) k (ts.flatMap RsV.cs) := by
     have := j5.o;rw [htl.out] at this
     exact this
    have z4 := j4.b.size
    go_wp2_with (at_builtin; go_must (refine wpList_append_lies _ rfl (.tmp 96) (.tmp 98) 49 rfl V.heap.size 54 zi _ 2 32 Tryz.underlying49 hi hz0 hz1 hz2 rfl (by decide) (.slice va k vc) k (ts.flatMap RsV.cs) rfl ho ⟨w21.heap.size, 0, none⟩ 1 1 [.int .i64 RC, .slice ra n1 rc] rfl rfl (World.news_of_block (cs := #[.int .i64 RC, .slice ra n1 rc]) (t := 54) (fr := (0, 0)) (heap_alloc_new w21 _)) (by simp [Value.oneCell']) (by omega) (by unfold maxLen; omega) (by omega) (by rw [World.size_alloc]; omega) _ rfl ?_); intro g cp w6' hown hgrow hat hlt1)
    have hat' : (Value.slice (some ⟨g, 0, none⟩) (k + 1) cp).ownBlock = (Value.slice va k vc).ownBlock ∨ (Value.slice (some ⟨g, 0, none⟩) (k + 1) cp).ownBlock = some (w21.alloc (.cells #[.int .i64 RC, .slice ra n1 rc] 54)).heap.size := hat.elim (fun h => .inl (by rw [h]; rfl)) (fun h => .inr (by rw [h]; rfl));have j6 := j4.app (s := ⟨RC, ⟨ra, n1, rc, RT⟩⟩) htl.out o1 hn1' hlo.out hnew.out hown hgrow hat'
    have HO : Hid (OwnX w6' rb RB m1 RP) := by
     by_cases h0 : 0 < m1
     ·exact OwnX.grown o2 hgrow (fun e => by have := (jown _ e).2; have := lo2 h0; omega)
     obtain rfl : m1 = 0 := by omega
     exact ⟨o2.1, .inl rfl⟩
    have HT2 : Hid ((ts ++ [(⟨RC, ⟨ra, n1, rc, RT⟩⟩ : RsV)]).map dRs = (serL ss S (fs.take (k + 1))).1) := by
     show _ = _
     rw [HST.out]
     exact ser_ts HS.out rfl
    have HO2 : Hid (Ints w6' rb m1 (serL ss S (fs.take (k + 1))).2) := by
     show Ints _ _ _ _
     rw [HST.out]; exact HO.out.ints
    clear hown hgrow hat hat' j5 j4 ho o1 o2 x0 x1 xb A jown jk lo1 lo2 ne12
    go_wp2
    go_roundw
    case rel => exact ⟨k + 1, _, _, rb, m1, rd, by omega, by go_num, rfl, by show _ = _; rw [List.length_append, htl.out]; rfl, j6, HT2, HO2.out, hm1⟩
    case measure => simp [intOf]; omega
   obtain rfl : k = ln := by omega
   rw [List.take_of_length_le (by rw [HL.out]; exact Nat.le_refl _), HZ.out] at HS op;dsimp only at HS op;have BB := Below.trans HB0.out (j.b.mono HB0.out.size);have g5 := RsSG.below HG0.out j.b;have i5 := Ints.below HI0.out j.b;obtain rfl : pn = 3 := by rw [← op.1]; exact HL5.out
   obtain rfl : n5 = k := by
    have h1 := congrArg List.length HS.out;have h2 := congrArg List.length HX5.out;rw [List.length_map] at h1 h2;have := HN5.out;have := htl.out
    omega
   have gj := JRs.rsg j htl.out;have HSF : Hid (∀ i, i < n5 → sameRs (ts[i]?.getD noRs) (t5[i]?.getD noRs)) := fun i hi => same_rs (HS.out.trans HX5.out.symm) i (by rw [htl.out]; exact hi);clear j
   go_wp2_with fail
   refine (coRss_same ts t5 htl.out HN5.out gj g5 (by omega) HSF.out).mono ?_;rintro ee w61 ⟨rfl, b⟩;replace BB := btr BB b;replace g5 := g5.below b;replace i5 := i5.below b;replace gj := gj.below b;replace op := op.below b;have z61 := b.size;clear b
   go_wp2_with fail
   refine (coI_any R2 R2 op i5 hpn hpn).mono ?_;rintro ee w62 ⟨rfl, b⟩;replace BB := btr BB b;replace g5 := g5.below b;replace i5 := i5.below b;replace gj := gj.below b;replace op := op.below b;have z62 := b.size;clear b;rw [eqB_refl]
   go_wp2_with fail
   refine (ival_any R2 i5 (by omega)).mono ?_;rintro ee wv ⟨rfl, rfl⟩;rw [HOK.out]
   go_wp2
   go_ret
   exact ⟨rfl, BB⟩
 go_enter Tryz.func4, Tryz.ntmps4
 go_wp2
 go_ret
 exact ⟨rfl, Below.refl _ _⟩
/-! ### The row's step -/
theorem tab_of {W : World} (h : laidMetH Tryz.prog Rows.fnSerRunRow.laid W) : Lib.TabIs Tryz.prog W "internal/strconv.uint64pow10" .u64 Lib.pow10Tab := by
 rw [MakeChecks.laidMetH_plain _ _ _ (by kernel_rfl)] at h;have h2 : laidMet Tryz.prog [("internal/strconv.uint64pow10", Lib.tabData .u64 Lib.pow10Tab)] W := h.tail.tail
 exact Lib.tabIs_of_head (g := 1) (t := 271) (e := 265) (n := 20) (by kernel_rfl) (by kernel_rfl) Tryz.underlying271 Tryz.underlying265 (by kernel_rfl) (by kernel_rfl) h2
theorem lifted (os : Os) (started : os.Started) (H : Type) (enc : TypeId × Value → H) :
  ReturnsInHanded {} Tryz.checked os 4 .any (fun w args => (Rows.fnSerRunSpec.pre enc Tryz.prog Tryz.f4 Rows.fnSerRunRow.domain false w args ∧ laidMetH Tryz.prog Rows.fnSerRunRow.laid w) ∧ sizedMet enc Tryz.prog Tryz.f4 (OpenSpec.ofChange Rows.fnSerRunSpec) false w args) (Rows.fnSerRunSpec.post enc Tryz.prog Tryz.f4 false true false false) := by
 refine returnsInHanded_of_change_and (C := Tryz.checked) (X := fun w _ => laidMetH Tryz.prog Rows.fnSerRunRow.laid w) (fun _ _ _ hh h => h.of_heap hh) own started (by kernel_rfl) Tryz.func4
  (ChangeSpec.witness_shaped (enc := enc) (C := Tryz.checked) (os := os) (X := fun w _ => laidMetH Tryz.prog Rows.fnSerRunRow.laid w) false (World.laidAll Tryz.prog os Rows.fnSerRunRow.laid) #[.slice none 0 0] 8 (World.laidAll_os _ _ _)
   (World.shaped_of_ZipB (by kernel_rfl) (by kernel_rfl)) (by kernel_rfl) (by kernel_rfl) (by kernel_rfl)
   (by rw [MakeChecks.laidMetH_plain _ _ _ (by kernel_rfl)]; exact laidMet_laidAll _ (by kernel_rfl) (by kernel_rfl))) ?_
 intro W base args ds gs before hval0 hW hcnd _ hL _;have hval : ∀ (j : Nat) t v, Tryz.f4.params[j]? = some t → args[j]? = some v → Value.okWide Tryz.prog W .any base t v := hval0;have hW' := hW;obtain ⟨p, q, hA0, hV, rfl, hfz, hnd⟩ := hW;have hA : DataW.TrodAll enc Tryz.prog W 0 (fun _ => true) true Tryz.f4.params.toList args.toList ds p := hA0;rw [Tryz.params4] at hA hval;obtain ⟨v0, vs0, d0, ds0, p0, q0, hargs, rfl, rfl, h0, r0⟩ := trodAll_cons hA;obtain ⟨rfl, rfl, rfl⟩ := trodAll_nil r0;obtain rfl : args = #[v0] := by cases args; simp_all
 obtain ⟨rfl, rfl⟩ := trodVars_none hV;have k0 := h0;have lt0 : ∀ x ∈ p0, x.block < W.heap.size := by obtain ⟨m, hm⟩ := k0; exact DataW.trod_lt m _ _ _ hm
 obtain ⟨a0, n0, cap0, C0, rfl, hC0, hn0⟩ := open_bytesT (hval 0 22 v0 rfl rfl) h0;clear hA0 hval0;refine (walk W a0 n0 cap0 C0 hC0 hn0 (Lib.tabBelow_of_tabIs (tab_of hL))).mono fun e W' ⟨he, bel⟩ => ?_;subst he
 exact ⟨_, rfl, _, _, _, [], _, [], hW', trodAll_mk1 (shut_bool Tryz.underlying4 _), (trodAll_cons_mk (Below.trod laidOut (by kernel_rfl) (of_decide_eq_true (by kernel_rfl)) k0 bel lt0) trodAll_mk0), rfl, bel.frame _, fun h => by cases h⟩
theorem over : Rows.fnSerRunRow.holds Tryz.pinned (OpenSpec.ofChange Rows.fnSerRunSpec) :=
 OpenClaim.holds_of_wide 4 Tryz.f4 rfl rfl rfl rfl rfl rfl rfl ⟨rfl, rfl, rfl, rfl, rfl⟩ rfl rfl rfl rfl rfl (by kernel_rfl) Tryz.func4 (by kernel_rfl)
  (of_decide_eq_true (by kernel_rfl)) (by unfold Func.isWrapper; first | (rw [if_pos (by decide +kernel)]; kernel_rfl) | (rw [if_neg (by decide +kernel)]; exact ⟨rfl, rfl⟩))
  (fun os started H enc _ => lifted os started H enc)
end Go.Proofs.YtpmihhbgjimpmaaGreatDoor.fnSerRun
namespace Go.Proofs.YtpmihhbgjimpmaaGreatDoor
theorem fnSerRun_holds : Rows.FnSerRunCardSaid :=
 Claim7.holds_tied_plain_at .later [] [.data, .data, .data] true Rows.fnSerRunCard.stood.harness Rows.fnSerRunCard.stood.looks fnSerRun.over (fun _ h => by cases h) (by kernel_rfl) (fun _ h => by cases h) fnSerRun_row_tie rfl ⟨rfl, rfl⟩ (by kernel_rfl) rfl
  (fun f fn hf hfn => by
   obtain rfl : f = 4 := Option.some.inj ((show Tryz.prog.funcNamed Rows.fnSerRunRow.func = some 4 by kernel_rfl).symm.trans hf) |>.symm
   obtain rfl : fn = Tryz.f4 := (Option.some.inj (Tryz.func4.symm.trans hfn)).symm
   exact ⟨by kernel_rfl, fun j t ht => by
    rw [Tryz.params4] at ht;have hm : t ∈ [22] := by simpa using Array.mem_of_getElem? ht
    have hall : ([22].all fun u => !Tryz.prog.wantsStandIn u) = true := by kernel_rfl
    exact (show Tryz.prog.wantsStandIn t = false by simpa using List.all_eq_true.1 hall t hm)⟩)
  (by kernel_rfl)
#print axioms fnSerRun_holds
end Go.Proofs.YtpmihhbgjimpmaaGreatDoor
