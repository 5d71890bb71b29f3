/-
  Lemmas that the claim's last text rests on.
-/
import Derived.Deep.RegionLawGrows
import Derived.Test.YtpmihhbgjimpmaaGreatDoorNxL
namespace Go.Proofs.YtpmihhbgjimpmaaGreatDoor
open Go.RowKit Go.Deep
open Option.some renaming injEq → qA
open Addr.mk renaming injEq → qB
open World renaming size_alloc → qC
open List renaming getElem?_eq_getElem → qD, getElem?_append_left → qE
open Nat renaming le_refl → qF
set_option linter.unusedVariables false
set_option maxRecDepth 100000
set_option maxHeartbeats 25600000
variable {C D E zs : List Int} {G N base cap cap' ec k m n pc : Nat} {K g s : Int} {T : List Frm} {W W' w : World} {a ad c e : Option Addr} {fs : List FV} {ss ts : List IV} {xs : List Value}
theorem sclknew_any (cl : Int) (ad : Option Addr) (N cap : Nat) (ss : List L2V) (ga : Option Addr) (gn gc : Nat) (G : List Int) (sa : Option Addr) (sn sc : Nat) (S : List Int) {w : World} (h : PlAt w ad N ss ga gn G sa sn S) :
  Calls Tryz.prog 12 #[plV cl ad N cap ga gn gc sa sn sc] w fun e w' => ClkR w w' e (plnB cl N ss gn G sn S) cl gn S := by
 have n0 := (BP.new w [.int .i64 cl, .slice ad N cap, .slice ga gn gc, .slice sa sn sc] 26).alloc (.cells #[.bool false, .int .i64 0, .slice none 0 0, .slice none 0 0, .slice none 0 0, .slice none 0 0] 35);have x0 := Cel.new (w.alloc (.cells #[.int .i64 cl, .slice ad N cap, .slice ga gn gc, .slice sa sn sc] 26)) [.bool false, .int .i64 0, .slice none 0 0, .slice none 0 0, .slice none 0 0, .slice none 0 0] 35;rw [qC] at x0;obtain ⟨i0, hi, hz0, hz1, hz2⟩ := info_parts Tryz.infoInt;obtain ⟨j0, hj, hy0, hy1, hy2⟩ := info_parts Tryz.infoDone;obtain ⟨k0, hk, hx0, hx1, hx2⟩ := info_parts Tryz.infoGot
 go_enter Tryz.func12, Tryz.ntmps12
 go_wp2_with fail
 refine (splnok_any cl _ _ _ ss _ _ _ G _ _ _ S (h.below n0.b)).mono ?_;rintro e W0 ⟨rfl, b1⟩;have n1 := n0.below b1;have x1 := x0.below b1;have hbW := n1.b;have hS := h.s.below hbW
 have hB : Hid (∀ b, plnB cl N ss gn G sn S = b -> (b = true -> sn = 3 /\ (1 <= cl /\ cl <= 4) /\ (1 <= gn /\ gn <= 3))) := fun b hb hbt => by
  subst hbt
  exact ⟨pln_three hb, pln_parts hb⟩
 obtain ⟨b, hb⟩ : ∃ b, plnB cl N ss gn G sn S = b := ⟨_, rfl⟩
 have hB' := hB.out b hb;have HBB : Hid (plnB cl N ss gn G sn S = b) := hb;rw [hb];clear hB hb n0 x0 b1 h
 cases b with
 | false =>
  obtain ⟨q0, q1, q2, q3, q4, q5⟩ := x1.six6;have y0 := x1.free 0;have y1 := x1.free 1;have y2 := x1.free 2;have y3 := x1.free 3;have y4 := x1.free 4;have y5 := x1.free 5;have lx := x1.lt;obtain ⟨x', T'⟩ := put6 x1 rfl (.bool false) (.int .i64 0) (.slice none 0 0) (.slice none 0 0) (.slice none 0 0) (.slice none 0 0);obtain ⟨r0, r1, r2, r3, r4, r5⟩ := x'.six6
  go_wp2
  refine bodyPost_ret (v := clkV false 0 none 0 0 none 0 0 none 0 0) (by simp [results, Tryz.results12, go_sem, r0, r1, r2, r3, r4, r5]) rfl ?_;rw [HBB.out]
  exact ⟨none, 0, 0, none, 0, 0, none, 0, 0, 0, 0, 0, [], rfl, hbW.trans (T'.below hbW.size (fun k hk => by omega)), ⟨OwnX.nil _ _ _, DX.zero _ _ _ _, GX.zero _ _ _ _, fun h => by omega, fun h => by omega, fun h => by omega, by omega, by omega, by omega⟩, fun h => by omega, fun h => by omega, fun h => by omega, rfl, rfl, rfl, rfl⟩
 | true =>
  obtain ⟨e3, ⟨h1, h4⟩, g1, g3⟩ := hB' rfl;subst e3;clear hB';have HMD : Hid _ := madeD cl.toNat;have HMG : Hid _ := madeG gn;have KP : Hid (∀ W, Below W0.heap.size W0 W -> Cel W w.heap.size [.int .i64 cl, .slice ad N cap, .slice ga gn gc, .slice sa 3 sc] 26) := fun W hW => n1.p.below hW;have HX : Hid (∀ W, Below W0.heap.size W0 W -> Cel W (w.heap.size + 1) [.bool false, .int .i64 0, .slice none 0 0, .slice none 0 0, .slice none 0 0, .slice none 0 0] 35) := fun W hW => x1.below hW;have lx1 := x1.lt;have lx0 := n1.p.lt;obtain ⟨sb, so, rfl, hSc⟩ := hS.pos (by omega);have HN : Hid (∀ W, Below W0.heap.size W0 W -> ∀ j u, (S.map (Value.int .i64))[j]? = some u -> W.cell? ((⟨sb, so, none⟩ : Addr).add j) = some u) := fun W hW => newsI (hS.below hW).pos' hS.1;have c0 : Below W0.heap.size W0 W0.drew := (Below.refl _ _).drew;have hSS : (W0.drew.cell? ⟨w.heap.size, 0, none⟩ = some (.int .i64 cl) /\ W0.drew.cell? ⟨w.heap.size, 1, none⟩ = some (.slice ad N cap) /\ W0.drew.cell? ⟨w.heap.size, 2, none⟩ = some (.slice ga gn gc) /\ W0.drew.cell? ⟨w.heap.size, 3, none⟩ = some (.slice (some ⟨sb, so, none⟩) 3 sc)) /\ True := ⟨(KP.out _ c0).quadP, trivial⟩
  clear n1 x1 hSc
  go_upto_region 3 with fail
  refine wp_region_ends (fun w' => w'.cell? ⟨w.heap.size, 0, none⟩ = some (.int .i64 cl) /\ w'.cell? ⟨w.heap.size, 1, none⟩ = some (.slice ad N cap) /\ w'.cell? ⟨w.heap.size, 2, none⟩ = some (.slice ga gn gc) /\ w'.cell? ⟨w.heap.size, 3, none⟩ = some (.slice (some ⟨sb, so, none⟩) 3 sc)) (fun _ => True) 9 (by kernel_rfl) ?_;refine tkl 1 rfl hSS ?_;refine tkl 2 rfl hSS ?_;refine tkl 4 rfl hSS ?_;refine tkl 6 rfl hSS ?_;simp only [Act.put, List.setIfInBounds_toArray, List.set_cons_succ, List.set_cons_zero, List.getElem_toArray, List.getElem_cons_succ, List.getElem_cons_zero];clear hSS;generalize W0.drew = Wd at *;have zc := c0.size;refine wo1 0 rfl fun K hK => ?_;go_simp;obtain ⟨u1, hu1⟩ : ∃ W, W = Wd.alloc (.cells #[] 3) := ⟨_, rfl⟩
  have oE := World.ownsRow_lit (e := 3) (size := 1) (base := W0.heap.size) Wd #[] 0 c0.size (by unfold maxLen; omega) rfl;have b1 : Below Wd.heap.size Wd u1 := by rw [hu1]; exact bal
  have zE : Wd.heap.size < u1.heap.size := by rw [hu1, qC]; omega
  rw [<- hu1] at oE ⊢;clear hu1;obtain ⟨X, hX⟩ : ∃ X, X = Wd.heap.size := ⟨_, rfl⟩
  rw [<- hX] at oE ⊢;have hX1 : Wd.heap.size <= X := by omega
  have hX2 : X <= Wd.heap.size := by omega
  clear hX;have z1 := b1.size;have c1 : Below W0.heap.size W0 u1 := btr c0 b1;(try dsimp only);refine kk0 hK ((KP.out _ c1).quadP) ?_;refine wo1 3 rfl fun K hK => ?_;refine if_then (by kernel_rfl) ?_;refine wp_append_lies _ (.tmp 7) (.tmp 9) 24 rfl W0.heap.size 3 i0 _ 1 8 Tryz.underlying24 hi hz0 hz1 hz2 rfl (by omega) (.slice (some ⟨X, 0, none⟩) 0 0) 0 [] (by rfl) oE ⟨sb, so, none⟩ 3 sc (S.map (Value.int .i64)) (by rfl) (by simp [hS.1]) (HN.out _ c1) (oneI) (by omega) (by unfold maxLen; omega) (by omega) c1.size _ rfl ?_;intro g cpg u2 hown hgrow hat hltg
  have b2 : Below W0.heap.size u1 u2 := (Below.refl _ _).grown hgrow (by omega) (fun z hz => by
   have hz' : X = z := by simpa [Value.ownBlock] using hz
   omega)
  obtain ⟨oA, gA⟩ := own_x hown (D := S) (by rw [List.nil_append]) (by rw [hS.1]);clear hown hgrow hat oE;have z2 := b2.size;have loA := oA.lt (by omega);have c2 : Below W0.heap.size W0 u2 := c1.trans b2;(try dsimp only);refine kk0 hK ((KP.out _ c2).quadP) ?_;refine wo1 5 rfl fun K hK => ?_;go_simp;refine (snew_any h1 h4).mono ?_;rintro ee u3 ⟨D, dc, rfl, b3, oD, gD⟩;have oA := oA.below b3;have z3 := b3.size;have loA := oA.lt (by omega);have loD := oD.lt (by omega);have c3 : Below W0.heap.size W0 u3 := btr c2 b3;(try dsimp only);refine kk0 hK ((KP.out _ c3).quadP) ?_;refine wo1 7 rfl fun K hK => ?_;go_simp;refine (snone_any (by omega)).mono ?_;rintro ee u4 ⟨I, ic, rfl, b4, oI, gI⟩;have oA := oA.below b4;have oD := oD.below b4;have z4 := b4.size;have loA := oA.lt (by omega);have loD := oD.lt (by omega);have loI := oI.lt (by omega);have c4 : Below W0.heap.size W0 u4 := btr c3 b4;(try dsimp only);refine kk0 hK ((KP.out _ c4).quadP) ?_;have x := HX.out _ c4;obtain ⟨q0, q1, q2, q3, q4, q5⟩ := x.six6;have y0 := x.free 0;have y1 := x.free 1;have y2 := x.free 2;have y3 := x.free 3;have y4 := x.free 4;have y5 := x.free 5;have lx := x.lt;obtain ⟨x', T'⟩ := put6 x rfl (.bool true) (.int .i64 0) (.slice (some ⟨g, 0, none⟩) 3 cpg) (.slice (some ⟨D, 0, none⟩) cl.toNat dc) (.slice none 0 0) (.slice (some ⟨I, 0, none⟩) gn ic);have bb := (btr hbW c4).trans (T'.below (B := w.heap.size) (by omega) (fun k hk => by omega));refine wo1 8 rfl fun K hK => ?_;go_simp
  refine kk0 hK ((KP.out _ c4).quadP) ?_;refine wo1 9 rfl fun K hK => ?_;go_simp;refine hK.out _ _ ⟨((KP.out _ c4).touch T' (fun hh => by have := hh; omega)).quadP, fun h => absurd (show true = false from h) (by decide)⟩ ?_;refine wod ?_ _;have oA' := oA.touch T' (fun _ hh => by have := hh; omega);have oI' := oI.touch T' (fun _ hh => by have := hh; omega);have oD' := oD.touch T' (fun _ hh => by have := hh; omega);obtain ⟨r0, r1, r2, r3, r4, r5⟩ := x'.six6;clear q0 q1 q2 q3 q4 q5 y0 y1 y2 y3 y4 y5 x oA oI oD;generalize ((((((u4.setCell ⟨w.heap.size + 1, 0, none⟩ (.bool true)).setCell ⟨w.heap.size + 1, 1, none⟩ (.int .i64 0)).setCell ⟨w.heap.size + 1, 2, none⟩ (.slice (some ⟨g, 0, none⟩) 3 cpg)).setCell ⟨w.heap.size + 1, 3, none⟩ (.slice (some ⟨D, 0, none⟩) cl.toNat dc)).setCell ⟨w.heap.size + 1, 4, none⟩ (.slice none 0 0)).setCell ⟨w.heap.size + 1, 5, none⟩ (.slice (some ⟨I, 0, none⟩) gn ic)) = V at *
  go_wp2
  refine bodyPost_ret (v := clkV true 0 (some ⟨g, 0, none⟩) 3 cpg (some ⟨D, 0, none⟩) cl.toNat dc (some ⟨I, 0, none⟩) gn ic) (by simp [results, Tryz.results12, go_sem, r0, r1, r2, r3, r4, r5]) rfl ?_;rw [HBB.out]
  exact ⟨_, g, _, _, D, _, _, I, _, 3, cl.toNat, gn, S, rfl, bb, ⟨oA', oD', oI', fun _ _ => by omega, fun _ _ => by omega, fun _ _ => by omega, by omega, by omega, by omega⟩, fun _ => by omega, fun _ => by omega, fun _ => by omega, rfl, rfl, rfl, rfl⟩
def viewB (n m : Nat) (C D : List Int) (ss : List IV) (s : Int) (k : Nat) (E : List Int) : Bool := trtB n m C D && (partsB ss && (inB s 0 ((m : Int) - 1) && okN 3 20000 k E))
def keepsB (g : Int) (E : List Int) (ss : List IV) : Bool := ss.all fun p => inB (dot p.x E 3) (-g) g
theorem keepsB_step (h : k < ss.length) (h1 : keepsB g E (ss.take k) = true) (h2 : inB (dot (ss[k]?.getD noI).x E 3) (-g) g = true) : keepsB g E (ss.take (k + 1)) = true := by
 unfold keepsB at *;rw [List.take_succ_eq_append_getElem h, List.all_append, h1];rw [qD h] at h2;simpa using h2
theorem keepsB_end (h : ss.length <= k) (h1 : keepsB g E (ss.take k) = true) : keepsB g E ss = true := by
 rwa [List.take_of_length_le h] at h1
theorem keepsB_false (h : k < ss.length) (hn : inB (dot (ss[k]?.getD noI).x E 3) (-g) g = false) : keepsB g E ss = false := by
 unfold keepsB;rw [List.all_eq_false];refine ⟨ss[k], List.getElem_mem h, ?_⟩;rw [qD h] at hn;simpa using hn
theorem viewB_elim (h : viewB n m C D ss s k E = true) :
  n = 3 /\ bnd 10000 C /\ 1 <= m /\ m <= 3 /\ partsB ss = true /\ 0 <= s /\ s < m /\ k = 3 /\ bnd 20000 E /\ (∀ i : Nat, i < D.length -> 0 <= D[i]?.getD 0 /\ D[i]?.getD 0 <= 50) := by
 simp only [viewB, trtB, Bool.and_eq_true] at h;obtain ⟨⟨h1, h2, h3⟩, h4, h5, h6⟩ := h;have a := okN_elim (by omega) h1;have b := okN_elim (by omega) h6;have c := inB_iff.1 h2;have d := inB_iff.1 h5;refine ⟨by omega, a.2, by omega, by omega, h4, d.1, by omega, by omega, b.2, fun i hi => ?_⟩;unfold betB at h3;rw [List.all_eq_true] at h3;have := inB_iff.1 (h3 D[i] (List.getElem_mem hi));rw [qD hi];simpa using this
def keepB (n m : Nat) (C D : List Int) (ss : List IV) (s : Int) (k : Nat) (E : List Int) : Bool := viewB n m C D ss s k E && keepsB (D[s.toNat]?.getD 0) E ss
theorem place_in (s : Int) (m : Nat) : decide (0 <= s /\ s < (m : Int)) = inB s 0 ((m : Int) - 1) := by
 unfold inB
 apply decide_eq_decide.2
 omega
abbrev viewV (a : Option Addr) (n cap : Nat) (c : Option Addr) (m cap' : Nat) (ad : Option Addr) (N pc : Nat) (s : Int) (e : Option Addr) (k ec : Nat) (u : Option Addr) (l uc : Nat) : Value := .agg #[.slice a n cap, .slice c m cap', .slice ad N pc, .int .i64 s, .slice e k ec, .slice u l uc]
theorem Cel.sixK {B : Nat} {v0 v1 v2 v3 v4 v5 : Value} {t : TypeId} (h : Cel w B [v0, v1, v2, v3, v4, v5] t) : w.cell? ⟨B, 0, none⟩ = some v0 /\ w.cell? ⟨B, 1, none⟩ = some v1 /\ w.cell? ⟨B, 2, none⟩ = some v2 /\ w.cell? ⟨B, 3, none⟩ = some v3 /\ w.cell? ⟨B, 4, none⟩ = some v4 /\ w.cell? ⟨B, 5, none⟩ = some v5 := ⟨h.cell 0, h.cell 1, h.cell 2, h.cell 3, h.cell 4, h.cell 5⟩
theorem vok_any {u : Option Addr} {l uc : Nat} (C D E : List Int) (ss : List IV) {w : World}
  (hC : Ints w a n C) (hD : Ints w c m D) (hE : Ints w e k E) (hN : ss.length = N) (hF : ISG w ad ss) (hn : n <= 1048576) (hm : m <= 1048576) (hk : k <= 1048576) (hN1 : N <= 1048576) :
  Calls Tryz.prog 130 #[viewV a n cap c m cap' ad N pc s e k ec u l uc] w fun r w' => r = .returned (.bool (viewB n m C D ss s k E)) /\ Below w.heap.size w w' := by
 have HN : Hid (ss.length = N) := hN;clear hN;have q0 := Cel.new w [.slice a n cap, .slice c m cap', .slice ad N pc, .int .i64 s, .slice e k ec, .slice u l uc] 179;have b0 := (Below.refl w.heap.size w).alloc (qF _) (.cells #[.slice a n cap, .slice c m cap', .slice ad N pc, .int .i64 s, .slice e k ec, .slice u l uc] 179)
 cases h1 : trtB n m C D
 ·go_enter Tryz.func130, Tryz.ntmps130
  go_wp2_with fail
  refine (itrt_any C D (hC.below b0) (hD.below b0) hn hm).mono ?_;rintro r w1 ⟨rfl, b1⟩;have B1 := btr b0 b1;rw [h1]
  go_wp2
  go_ret
  exact ⟨ret_bool (by simp [viewB, h1]), B1⟩
 cases h2 : partsB ss
 ·go_enter Tryz.func130, Tryz.ntmps130
  go_wp2_with fail
  refine (itrt_any C D (hC.below b0) (hD.below b0) hn hm).mono ?_;rintro r w1 ⟨rfl, b1⟩;have B1 := btr b0 b1;obtain ⟨c0, c1, c2, c3, c4, c5⟩ := (q0.below b1).sixK;rw [h1]
  go_wp2_with fail
  refine (iparts_any ss HN.out (hF.below B1) hN1).mono ?_;rintro r w2 ⟨rfl, rfl⟩;rw [h2]
  go_wp2
  go_ret
  exact ⟨ret_bool (by simp [viewB, h2]), B1⟩
 cases h3 : inB s 0 ((m : Int) - 1)
 ·go_enter Tryz.func130, Tryz.ntmps130
  go_wp2_with fail
  refine (itrt_any C D (hC.below b0) (hD.below b0) hn hm).mono ?_;rintro r w1 ⟨rfl, b1⟩;have B1 := btr b0 b1;obtain ⟨c0, c1, c2, c3, c4, c5⟩ := (q0.below b1).sixK;rw [h1]
  go_wp2_with fail
  refine (iparts_any ss HN.out (hF.below B1) hN1).mono ?_;rintro r w2 ⟨rfl, rfl⟩;rw [h2]
  go_wp2_with fail
  refine (place_any).mono ?_;rintro r w3 ⟨rfl, rfl⟩;rw [place_in, h3]
  go_wp2
  go_ret
  exact ⟨ret_bool (by simp [viewB, h3]), B1⟩
 go_enter Tryz.func130, Tryz.ntmps130
 go_wp2_with fail
 refine (itrt_any C D (hC.below b0) (hD.below b0) hn hm).mono ?_;rintro r w1 ⟨rfl, b1⟩;have B1 := btr b0 b1;obtain ⟨c0, c1, c2, c3, c4, c5⟩ := (q0.below b1).sixK;rw [h1]
 go_wp2_with fail
 refine (iparts_any ss HN.out (hF.below B1) hN1).mono ?_;rintro r w2 ⟨rfl, rfl⟩;rw [h2]
 go_wp2_with fail
 refine (place_any).mono ?_;rintro r w3 ⟨rfl, rfl⟩;rw [place_in, h3]
 go_wp2_with fail
 refine (imay_any E (hE.below B1) hk).mono ?_;rintro r w4 ⟨rfl, rfl⟩
 go_wp2
 go_ret
 exact ⟨ret_bool (by simp [viewB, h1, h2, h3]), B1⟩
theorem vkeeps_any {u : Option Addr} {l uc : Nat} (C D E : List Int) (ss : List IV) {w : World}
  (hD : Ints w c m D) (hE : Ints w e 3 E) (hN : ss.length = N) (hF : ISG w ad ss) (hN1 : N <= 1048576) (hm3 : m <= 3) (hs : 0 <= s) (hs' : s < m) (hp : partsB ss = true) (bE : bnd 20000 E) (bD : ∀ i : Nat, i < D.length -> 0 <= D[i]?.getD 0 /\ D[i]?.getD 0 <= 50) :
  Calls Tryz.prog 131 #[viewV a n cap c m cap' ad N pc s e 3 ec u l uc] w fun r w' => r = .returned (.bool (keepsB (D[s.toNat]?.getD 0) E ss)) /\ Below w.heap.size w w' := by
 have HN : Hid (ss.length = N) := hN;have HP : Hid (partsB ss = true) := hp;clear hN hp;have q0 := Cel.new w [.slice a n cap, .slice c m cap', .slice ad N pc, .int .i64 s, .slice e 3 ec, .slice u l uc] 179;have b0 := (Below.refl w.heap.size w).alloc (qF _) (.cells #[.slice a n cap, .slice c m cap', .slice ad N pc, .int .i64 s, .slice e 3 ec, .slice u l uc] 179);obtain ⟨t, rfl⟩ : ∃ t : Nat, s = t := ⟨s.toNat, by omega⟩
 have ht : t < m := by omega
 have bg := bD t (by rw [hD.1]; exact ht);obtain ⟨b, off, rfl, hcell⟩ := (hD.below b0).pos (by omega);have hck := hcell t ht;rw [Int.toNat_natCast];have hck' : (w.alloc (.cells #[.slice a n cap, .slice (some ⟨b, off, none⟩) m cap', .slice ad N pc, .int .i64 (t : Int), .slice e 3 ec, .slice u l uc] 179)).cell? ⟨b, off + t, none⟩ = some (.int .i64 (D[t]?.getD 0)) := by rw [hck]; simp
 generalize HG : D[t]?.getD 0 = g at *;clear HG hck hcell bD hD
 go_enter Tryz.func131, Tryz.ntmps131
 go_wp2_with fail
 go_loopw [5, 16] (fun _ i wr => ∃ k : Nat, k <= N /\ i = .int .i64 k /\ Below w.heap.size w wr /\ Cel wr w.heap.size [.slice a n cap, .slice (some ⟨b, off, none⟩) m cap', .slice ad N pc, .int .i64 (t : Int), .slice e 3 ec, .slice u l uc] 179 /\ keepsB g E (ss.take k) = true) (fun _ i _ => N - (intOf i).toNat)
 case atStart => exact ⟨0, Nat.zero_le _, rfl, b0, q0, rfl⟩
 case round =>
  clear hck' q0 b0;obtain ⟨k, hk, rfl, hb, q1, hall⟩ := hrel;have HA : Hid _ := hall;clear hall
  by_cases hlt : k < N
  ·obtain ⟨b2, off2, rfl, hc, hr⟩ := (hF.below hb) k (by rw [HN.out]; exact hlt);have H1 : Hid _ := keepsB_step (g := g) (E := E) (ss := ss) (k := k) (by rw [HN.out]; exact hlt) HA.out;have H2 : Hid _ := keepsB_false (g := g) (E := E) (ss := ss) (k := k) (by rw [HN.out]; exact hlt);have H3 := partsB_at (ss := ss) (k := k) (by rw [HN.out]; exact hlt) HP.out;generalize HG : ss[k]?.getD noI = p at *;clear HG hF HA;obtain ⟨ga, gn, gcap, gx⟩ := p;obtain ⟨e3, bx⟩ := okN_elim (by omega) H3;obtain rfl : gn = 3 := by have : (gn : Int) = 3 := e3; omega
   have hP := bndP_of bx bE (by omega) (by omega);have hc' : wr.cell? ⟨b2, off2 + k, none⟩ = some (.slice ga 3 gcap) := hc;have c4 := q1.cell 4;simp only [List.getElem?_cons_zero, List.getElem?_cons_succ] at c4;have hr1 : Ints wr ga 3 gx := hr.1;clear hc H3 e3;have dn := dot_bnd hP 3
   go_wp2_with fail
   refine (psum_any gx E hr1 (hE.below hb) (by omega) hP (by omega) (by omega)).mono ?_;rintro r w1 ⟨rfl, rfl⟩;have H1' : Hid (inB (dot gx E 3) (-g) g = true -> keepsB g E (ss.take (k + 1)) = true) := H1;have H2' : Hid (inB (dot gx E 3) (-g) g = false -> keepsB g E ss = false) := H2;generalize HG : dot gx E 3 = x at *;clear HG H1 H2 hP dn
   go_wp2_with fail
   refine (within_any (some ⟨w1.heap.size, 0, none⟩) 1 1 [x] ?_ (by omega)).mono ?_
   ·refine ⟨rfl, fun i hi => ⟨w1.heap.size, 0, rfl, ?_⟩⟩;obtain rfl : i = 0 := by omega
    simp [go_sem]
   rintro r w2 ⟨rfl, rfl⟩;rw [allB_one]
   cases he : inB x (-g) g
   ·go_wp2
    go_ret
    exact ⟨ret_bool (by rw [H2'.out he]), hb.alloc hb.size _⟩
   go_wp2
   go_roundw
   case rel => exact ⟨k + 1, by omega, by go_num, hb.alloc hb.size _, q1.alloc _, H1'.out he⟩
   case measure => simp [intOf]; omega
  go_wp2
  go_ret
  exact ⟨ret_bool (by rw [keepsB_end (by rw [HN.out]; omega) HA.out]), hb⟩
theorem ikeep_any (C D E : List Int) (ss : List IV) {w : World}
  (hC : Ints w a n C) (hD : Ints w c m D) (hE : Ints w e k E) (hN : ss.length = N) (hF : ISG w ad ss) (hn : n <= 1048576) (hm : m <= 1048576) (hk : k <= 1048576) (hN1 : N <= 1048576) :
  Calls Tryz.prog 93 #[treV a n cap c m cap', .slice ad N pc, .int .i64 s, .slice e k ec] w fun r w' => r = .returned (.bool (keepB n m C D ss s k E)) /\ Below w.heap.size w w' := by
 have HN : Hid (ss.length = N) := hN;clear hN;have B0 : Below w.heap.size w ((w.alloc (.cells #[.slice a n cap, .slice c m cap'] 92)).alloc (.cells #[.slice a n cap, .slice c m cap', .slice ad N pc, .int .i64 s, .slice e k ec, .slice none 0 0] 179)) := ((Below.refl w.heap.size w).alloc (qF _) _).alloc (by simp) _;have q0 := Cel.new (w.alloc (.cells #[.slice a n cap, .slice c m cap'] 92)) [.slice a n cap, .slice c m cap', .slice ad N pc, .int .i64 s, .slice e k ec, .slice none 0 0] 179;rw [qC] at q0
 cases h1 : viewB n m C D ss s k E
 ·go_enter Tryz.func93, Tryz.ntmps93
  go_wp2_with fail
  refine (vok_any C D E ss (hC.below B0) (hD.below B0) (hE.below B0) HN.out (hF.below B0) hn hm hk hN1).mono ?_;rintro r w1 ⟨rfl, b1⟩;have B1 := btr B0 b1;rw [h1]
  go_wp2
  go_ret
  exact ⟨ret_bool (by simp [keepB, h1]), B1⟩
 obtain ⟨-, -, m1, m2, hp0, s0, s1, e2, bE, bD⟩ := viewB_elim h1;have hp : Hid _ := hp0;clear hp0;subst e2
 go_enter Tryz.func93, Tryz.ntmps93
 go_wp2_with fail
 refine (vok_any C D E ss (hC.below B0) (hD.below B0) (hE.below B0) HN.out (hF.below B0) hn hm hk hN1).mono ?_;rintro r w1 ⟨rfl, b1⟩;have B1 := btr B0 b1;obtain ⟨c0, c1, c2, c3, c4, c5⟩ := (q0.below b1).sixK;rw [h1];have HK : Hid _ := h1;clear h1
 go_wp2_with fail
 refine (vkeeps_any C D E ss (hD.below B1) (hE.below B1) HN.out (hF.below B1) hN1 m2 s0 s1 hp.out bE bD).mono ?_;rintro r w2 ⟨rfl, b2⟩;have B2 := btr B1 b2
 go_wp2
 go_ret
 exact ⟨ret_bool (by rw [keepB, HK.out]; rfl), B2⟩
theorem copies_pair (hl : ts.length = ss.length) (h : copiesIS ss ts) : ts.map (fun p => (p.n, p.x)) = ss.map (fun p => (p.n, p.x)) := by
 apply List.ext_getElem?
 intro i
 by_cases hi : i < ts.length
 ·have h0 := h i hi;have h1 := h0.1;have h2 := h0.2;rw [qD hi, qD (by omega)] at h1 h2;simp only [Option.getD_some] at h1 h2;rw [List.getElem?_map, List.getElem?_map, qD hi, qD (by omega)];simp [h1, h2]
 rw [List.getElem?_eq_none (by simp; omega), List.getElem?_eq_none (by simp; omega)]
theorem partsB_copy (hl : ts.length = ss.length) (h : copiesIS ss ts) : partsB ts = partsB ss := by
 have e : ∀ l : List IV, partsB l = (l.map (fun p => (p.n, p.x))).all fun q => okN 3 10000000 q.1 q.2 := fun l => by rw [List.all_map]; rfl
 rw [e, e, copies_pair hl h]
theorem keepsB_copy (hl : ts.length = ss.length) (h : copiesIS ss ts) : keepsB g E ts = keepsB g E ss := by
 have e : ∀ l : List IV, keepsB g E l = (l.map (fun p => (p.n, p.x))).all fun q => inB (dot q.2 E 3) (-g) g := fun l => by rw [List.all_map]; rfl
 rw [e, e, copies_pair hl h]
theorem viewB_copy (hl : ts.length = ss.length) (h : copiesIS ss ts) : viewB n m C D ts s k E = viewB n m C D ss s k E := by
 rw [viewB, viewB, partsB_copy hl h]
theorem keepB_copy (hl : ts.length = ss.length) (h : copiesIS ss ts) : keepB n m C D ts s k E = keepB n m C D ss s k E := by
 rw [keepB, keepB, viewB_copy hl h, keepsB_copy hl h]
theorem Cel.three {B : Nat} {v0 v1 v2 : Value} {t : TypeId} (h : Cel w B [v0, v1, v2] t) : w.cell? ⟨B, 0, none⟩ = some v0 /\ w.cell? ⟨B, 1, none⟩ = some v1 /\ w.cell? ⟨B, 2, none⟩ = some v2 := ⟨h.cell 0, h.cell 1, h.cell 2⟩
def intoC (C : List Int) (fs : List FV) : Nat -> List Int
 | 0 => [0, 0, 0]
 | k + 1 => lin (intoC C fs k) (fs[k]?.getD noFV).C (C[k]?.getD 0)
def intoD (C D : List Int) (fs : List FV) : Nat -> List Int
 | 0 => D
 | k + 1 => lin (intoD C D fs k) (fs[k]?.getD noFV).D (C[k]?.getD 0)
def intoK (C : List Int) (K : Int) (fs : List FV) : Nat -> Int
 | 0 => K
 | k + 1 => intoK C K fs k + C[k]?.getD 0 * (fs[k]?.getD noFV).K
theorem lin_mul (xs ys : List Int) (n : Int) : List.zipWith (· + ·) xs (mulL n ys) = lin xs ys n := by
 simp [lin, mulL, List.zipWith_map_right]
def terms (C D : List Int) (K : Int) (fs : List FV) : List Frm := ([0, 0, 0], D, K) :: (List.range 3).map fun i => (mulL (C[i]?.getD 0) (fs[i]?.getD noFV).C, mulL (C[i]?.getD 0) (fs[i]?.getD noFV).D, C[i]?.getD 0 * (fs[i]?.getD noFV).K)
theorem zip0 {xs : List Int} (h : xs.length = 3) : List.zipWith (· + ·) [0, 0, 0] xs = xs := by
 match xs, h with
 | [x, y, z], _ => simp
theorem zip02 {xs : List Int} (h : xs.length = 2) : List.zipWith (· + ·) [0, 0] xs = xs := by
 match xs, h with
 | [x, y], _ => simp
theorem terms_sum (hD : D.length = 2) :
  sumC (terms C D K fs) 4 = intoC C fs 3 /\ sumD (terms C D K fs) 4 = intoD C D fs 3 /\ sumK (terms C D K fs) 4 = intoK C K fs 3 := by
 have t0 : (terms C D K fs)[0]? = some ([0, 0, 0], D, K) := rfl;have t1 : (terms C D K fs)[1]? = some (mulL (C[0]?.getD 0) (fs[0]?.getD noFV).C, mulL (C[0]?.getD 0) (fs[0]?.getD noFV).D, C[0]?.getD 0 * (fs[0]?.getD noFV).K) := rfl;have t2 : (terms C D K fs)[2]? = some (mulL (C[1]?.getD 0) (fs[1]?.getD noFV).C, mulL (C[1]?.getD 0) (fs[1]?.getD noFV).D, C[1]?.getD 0 * (fs[1]?.getD noFV).K) := rfl;have t3 : (terms C D K fs)[3]? = some (mulL (C[2]?.getD 0) (fs[2]?.getD noFV).C, mulL (C[2]?.getD 0) (fs[2]?.getD noFV).D, C[2]?.getD 0 * (fs[2]?.getD noFV).K) := rfl;refine ⟨?_, ?_, ?_⟩
 ·simp only [sumC, t0, t1, t2, t3, Option.getD_some, intoC];rw [zip0 (xs := [0, 0, 0]) rfl, lin_mul, lin_mul, lin_mul]
 ·simp only [sumD, t0, t1, t2, t3, Option.getD_some, intoD];rw [zip02 hD, lin_mul, lin_mul, lin_mul]
 simp only [sumK, t0, t1, t2, t3, Option.getD_some, intoK]
 omega
theorem without_any :
  Calls Tryz.prog 194 #[formV a n cap c m cap' K] w fun e w' => ∃ P, e = .returned (formV (some ⟨P, 0, none⟩) 3 3 c m cap' K) /\ Below w.heap.size w w' /\ w.heap.size <= P /\ Blk w' P [0, 0, 0] := by
 have hm3 := make3
 go_enter Tryz.func194, Tryz.ntmps194
 go_wp2_with fail
 go_region
 go_wp2
 exact bodyPost_ret (v := formV (some ⟨w.heap.size + 1 + 1, 0, none⟩) 3 3 c m cap' K) (by simp [results, Tryz.results194, go_sem]) rfl ⟨_, rfl, (((bal).alloc (by simp) _).alloc (by simp; omega) _).drew, by omega, three2 w⟩
theorem lin_bnd {M P n : Int} {xs ys : List Int} (h1 : xs.length = k) (h2 : ys.length = k) (hx : bnd M xs) (hy : bndT P n ys) (h0 : 0 <= M + P) : bnd (M + P) (lin xs ys n) := by
 intro i
 by_cases hi : i < k
 ·rw [lin_get h1 h2 hi];have := hx i;have := hy i
  omega
 have : (lin xs ys n)[i]? = none := List.getElem?_eq_none (by rw [lin_len h1 h2]; omega);rw [this];simp only [Option.getD_none]
 omega
theorem mul_bnd {x y : Int} (a1 : -10000000 <= x) (a2 : x <= 10000000) (h1 : -10000000 <= y) (h2 : y <= 10000000) : -100000000000000 <= x * y /\ x * y <= 100000000000000 := by
 have hx' : x.natAbs <= 10000000 := by omega
 have hy' : y.natAbs <= 10000000 := by omega
 have hm : (x * y).natAbs <= 10000000 * 10000000 := by rw [Int.natAbs_mul]; exact Nat.mul_le_mul hx' hy'
 omega
theorem mulT_bnd {k : Int} (h : bnd 10000000 C) (h1 : -10000000 <= k) (h2 : k <= 10000000) : bndT 100000000000000 k C := by
 intro i;have := h i
 exact mul_bnd h1 h2 this.1 this.2
structure OkF (g : FV) : Prop where
 n : g.n = 3
 m : g.m = 2
 lC : g.C.length = 3
 lD : g.D.length = 2
 bC : bnd 10000000 g.C
 bD : bnd 10000000 g.D
 k1 : -10000000 <= g.K
 k2 : g.K <= 10000000
theorem OkF.of {g : FV} (h : g.At w) (ok : g.ok = true) : OkF g := by
 obtain ⟨n3, m2, bC, bD, bK1, bK2⟩ := formB_elim ok
 exact ⟨n3, m2, by have := h.C.1; omega, by have := h.D.1; omega, bC, bD, bK1, bK2⟩
structure IntoF (C D : List Int) (K : Int) (fs : List FV) (k : Nat) : Prop where
 lC : (intoC C fs k).length = 3
 lD : (intoD C D fs k).length = 2
 bC : bnd (k * 100000000000000) (intoC C fs k)
 bD : bnd (10000000 + k * 100000000000000) (intoD C D fs k)
 k1 : -(10000000 + k * 100000000000000) <= intoK C K fs k
 k2 : intoK C K fs k <= 10000000 + k * 100000000000000
theorem IntoF.of (hD : D.length = 2) (bC : bnd 10000000 C) (bD : bnd 10000000 D) (k1 : -10000000 <= K) (k2 : K <= 10000000) (ho : ∀ i, i < 3 -> OkF (fs[i]?.getD noFV)) : ∀ k : Nat, k <= 3 -> IntoF C D K fs k
 | 0, _ => ⟨rfl, hD, by simpa [intoC] using bnd_zeros 3, by simpa [intoD] using bD, by simpa [intoK] using k1, by simpa [intoK] using k2⟩
 | k + 1, hk => by
  have ih := IntoF.of hD bC bD k1 k2 ho k (by omega);have g := ho k (by omega);have bc := bC k;have e : ((k + 1 : Nat) : Int) = k + 1 := by omega
  have tC := mulT_bnd g.bC bc.1 bc.2;have tD := mulT_bnd g.bD bc.1 bc.2;have tK := mul_bnd bc.1 bc.2 g.k1 g.k2;have i1 := ih.k1;have i2 := ih.k2;refine ⟨lin_len ih.lC g.lC, lin_len ih.lD g.lD, ?_, ?_, ?_, ?_⟩
  ·have := lin_bnd ih.lC g.lC ih.bC tC (by omega);intro i;have := this i;simp only [intoC]
   omega
  ·have := lin_bnd ih.lD g.lD ih.bD tD (by omega);intro i;have := this i;simp only [intoD]
   omega
  ·simp only [intoK]; omega
  simp only [intoK]; omega
def intoOk (n m : Nat) (C D : List Int) (K : Int) (N : Nat) (fs : List FV) : Bool := formB n m C D K && decide (N = 3) && fs.all FV.ok && formB 3 2 (intoC C fs 3) (intoD C D fs 3) (intoK C K fs 3)
structure IH (w : World) (a : Option Addr) (n cap : Nat) (c : Option Addr) (m cap' : Nat) (K : Int) (w' : World) : Prop where
 p : Cel w' w.heap.size [.slice a n cap, .slice c m cap', .int .i64 K] 95
 r : Cel w' (w.heap.size + 1) [.slice none 0 0, .slice none 0 0, .int .i64 0] 95
 b : Below w.heap.size w w'
section
variable {w W w3 : World} {a c : Option Addr} {n cap m cap' : Nat} {K : Int}
theorem IH.below (h : IH w a n cap c m cap' K W) (b : Below W.heap.size W w3) : IH w a n cap c m cap' K w3 := ⟨h.p.below b, h.r.below b, h.b.trans (b.mono h.b.size)⟩
theorem IH.drew (h : IH w a n cap c m cap' K W) : IH w a n cap c m cap' K W.drew := ⟨h.p, h.r, h.b.drew⟩
theorem IH.alloc (h : IH w a n cap c m cap' K W) (o : Obj) : IH w a n cap c m cap' K (W.alloc o) := h.below (bal)
theorem IH.new : IH w a n cap c m cap' K ((w.alloc (Obj.cells #[Value.slice a n cap, Value.slice c m cap', Value.int IntKind.i64 K] 95)).alloc (Obj.cells #[Value.slice none 0 0, Value.slice none 0 0, Value.int IntKind.i64 0] 95)) :=
 ⟨(Cel.new w _ _).alloc _, by have := Cel.new (w.alloc (Obj.cells #[Value.slice a n cap, Value.slice c m cap', Value.int IntKind.i64 K] 95)) [.slice none 0 0, .slice none 0 0, .int .i64 0] 95; rw [qC] at this; exact this, (bal).alloc (by simp) _⟩
theorem IH.cells (h : IH w a n cap c m cap' K W) :
  W.cell? ⟨w.heap.size, 0, none⟩ = some (.slice a n cap) /\ W.cell? ⟨w.heap.size, 1, none⟩ = some (.slice c m cap') /\ W.cell? ⟨w.heap.size, 2, none⟩ = some (.int .i64 K) := ⟨h.p.cell 0, h.p.cell 1, h.p.cell 2⟩
theorem IH.room (h : IH w a n cap c m cap' K W) :
  W.cell? ⟨w.heap.size + 1, 0, none⟩ = some (.slice none 0 0) /\ W.cell? ⟨w.heap.size + 1, 1, none⟩ = some (.slice none 0 0) /\ W.cell? ⟨w.heap.size + 1, 2, none⟩ = some (.int .i64 0) /\ W.frozen? ⟨w.heap.size + 1, 0, none⟩ = false /\ W.frozen? ⟨w.heap.size + 1, 1, none⟩ = false /\ W.frozen? ⟨w.heap.size + 1, 2, none⟩ = false := ⟨h.r.cell 0, h.r.cell 1, h.r.cell 2, h.r.free 0, h.r.free 1, h.r.free 2⟩
theorem IH.none (h : IH w a n cap c m cap' K W) : Res w (((W.setCell ⟨w.heap.size + 1, 0, Option.none⟩ (.slice Option.none 0 0)).setCell ⟨w.heap.size + 1, 1, Option.none⟩ (.slice Option.none 0 0)).setCell ⟨w.heap.size + 1, 2, Option.none⟩ (.int .i64 0)) (.returned (formV Option.none 0 0 Option.none 0 0 0)) [] [] 0 :=
 Res.none rfl (((h.b.setCell (by simp only []; omega) _).setCell (by simp only []; omega) _).setCell (by simp only []; omega) _)
end
theorem sz1 (w : World) (o0 : Obj) : (w.alloc o0).drew.heap.size = w.heap.size + 1 := by show (w.heap.push o0).size = _; simp only [Array.size_push]
theorem sz2 (w : World) (o0 o1 : Obj) : ((w.alloc o0).alloc o1).drew.heap.size = w.heap.size + 1 + 1 := by show ((w.heap.push o0).push o1).size = _; simp only [Array.size_push]
theorem sz3 (w : World) (o0 o1 o2 : Obj) : (((w.alloc o0).alloc o1).alloc o2).drew.heap.size = w.heap.size + 1 + 1 + 1 := by show (((w.heap.push o0).push o1).push o2).size = _; simp only [Array.size_push]
theorem own_below {e : TypeId} {s : Nat} {v : Value} (h : W.ownsRow base e s v n xs) (b : Below W.heap.size W W') : W'.ownsRow base e s v n xs := by
  refine ⟨h.1, ?_⟩
  rcases h.2 with h0 | ⟨g, cap, cur, hv, hb, hg, hr⟩
  · exact .inl h0
  · exact .inr ⟨g, cap, cur, hv, hb, by rw [b.block g (lt_of_block hg)]; exact hg, hr⟩
theorem own_cell {g s : Nat} {e : TypeId} (h : W.ownsRow base e s (.slice (some ⟨g, 0, none⟩) n cap) n xs) (j : Nat) (hj : j < n * s := by omega) : W.cell? ⟨g, j, none⟩ = xs[j]? := by
  rcases h.2 with ⟨h', _⟩ | ⟨g', cap', cur, h', _, hg, _, _, hcs, htake⟩
  · simp at h'
  · simp only [Value.slice.injEq, qA, qB, and_true, true_and] at h'
    obtain ⟨rfl, rfl⟩ := h'
    have e : cur[j]? = xs[j]? := by
      rw [<- htake, List.getElem?_take_of_lt hj]
      simp
    simp only [World.cell?, hg]
    exact e
theorem Ints.grown (h : Ints W a n zs) (hg : W.grownBy W' (some G)) (hx : ∀ b o, a = some ⟨b, o, none⟩ -> b ≠ G) : Ints W' a n zs := by
  refine ⟨h.1, fun j hj => ?_⟩
  obtain ⟨b, off, hab, hc⟩ := h.2 j hj
  refine ⟨b, off, hab, ?_⟩
  rw [hg.cell_far ⟨b, off + j, none⟩ (block_lt hc) (by simpa using hx b off hab)]
  exact hc
theorem Ints.blt (h : Ints W a n zs) (hn : 0 < n) (b o : Nat) (e : a = some ⟨b, o, none⟩) : b < W.heap.size := by
  obtain ⟨b', o', e', hc⟩ := h.2 0 hn
  rw [e] at e'
  simp only [qA, qB, and_true] at e'
  rw [e'.1]
  exact block_lt hc
def TermsOk (W : World) (G : Nat) (xs : List Value) (T : List Frm) (n : Nat) : Prop :=
  ∀ j, j < n -> ∃ a' c' ca cc, xs[j * 3]? = some (.slice a' 3 ca) /\ xs[j * 3 + 1]? = some (.slice c' 2 cc) /\ xs[j * 3 + 2]? = some (.int .i64 (T[j]?.getD ([], [], 0)).2.2) /\ Ints W a' 3 (T[j]?.getD ([], [], 0)).1 /\ Ints W c' 2 (T[j]?.getD ([], [], 0)).2.1 /\ (∀ b o, a' = some ⟨b, o, none⟩ -> b ≠ G) /\ (∀ b o, c' = some ⟨b, o, none⟩ -> b ≠ G)
theorem TermsOk.below (h : TermsOk W G xs T n) (b : Below W.heap.size W W') : TermsOk W' G xs T n := fun j hj => by
  obtain ⟨a', c', ca, cc, e0, e1, e2, i1, i2, n1, n2⟩ := h j hj
  exact ⟨a', c', ca, cc, e0, e1, e2, i1.below b, i2.below b, n1, n2⟩
theorem TermsOk.step {g : Nat} (h : TermsOk W G xs T n) (hl : xs.length = n * 3) (hg : W.grownBy W' (some G)) (hat : g = G \/ W.heap.size <= g) {B1 B2 ca cc : Nat} {C D : List Int} {K : Int}
    (k1 : Ints W (some ⟨B1, 0, none⟩) 3 C) (k2 : Ints W (some ⟨B2, 0, none⟩) 2 D) (n1 : B1 ≠ G) (n2 : B2 ≠ G) (hT : T[n]?.getD ([], [], 0) = (C, D, K)) :
    TermsOk W' g (xs ++ [.slice (some ⟨B1, 0, none⟩) 3 ca, .slice (some ⟨B2, 0, none⟩) 2 cc, .int .i64 K]) T (n + 1) := fun j hj => by
  have l1 := k1.blt (by omega) B1 0 rfl
  have l2 := k2.blt (by omega) B2 0 rfl
  by_cases hjn : j < n
  · obtain ⟨a', c', ca, cc, e0, e1, e2, i1, i2, m1, m2⟩ := h j hjn
    refine ⟨a', c', ca, cc, ?_, ?_, ?_, i1.grown hg m1, i2.grown hg m2, fun b o e => ?_, fun b o e => ?_⟩
    · rw [qE (by omega)]; exact e0
    · rw [qE (by omega)]; exact e1
    · rw [qE (by omega)]; exact e2
    · have := m1 b o e
      have := i1.blt (by omega) b o e
      omega
    · have := m2 b o e
      have := i2.blt (by omega) b o e
      omega
  · obtain rfl : j = n := by omega
    rw [hT]
    refine ⟨some ⟨B1, 0, none⟩, some ⟨B2, 0, none⟩, ca, cc, ?_, ?_, ?_, k1.grown hg (fun b o e => ?_), k2.grown hg (fun b o e => ?_), fun b o e => ?_, fun b o e => ?_⟩
    · rw [List.getElem?_append_right (by omega), hl]; simp
    iterate 2
      · rw [List.getElem?_append_right (by omega), hl, Nat.add_sub_cancel_left]; rfl
    all_goals
      simp only [qA, qB, and_true] at e
      omega
theorem TermsOk.forms (h : TermsOk W G xs T n) (hT : T.length = n) (ho : W.ownsRow base 95 3 (.slice (some ⟨G, 0, none⟩) n cap) n xs) : FormsAt W (some ⟨G, 0, none⟩) T := fun i hi => by
  obtain ⟨a', c', ca, cc, e0, e1, e2, i1, i2, _, _⟩ := h i (by omega)
  refine ⟨G, 0, rfl, a', c', ca, cc, ?_, ?_, ?_, i1, i2⟩
  · rw [own_cell ho _, Nat.zero_add]; exact e0
  · rw [own_cell ho _, Nat.zero_add]; exact e1
  · rw [own_cell ho _, Nat.zero_add]; exact e2
theorem terms_at (h : k < 3) : (terms C D K fs)[k + 1]?.getD ([], [], 0) = (mulL (C[k]?.getD 0) (fs[k]?.getD noFV).C, mulL (C[k]?.getD 0) (fs[k]?.getD noFV).D, C[k]?.getD 0 * (fs[k]?.getD noFV).K) := by
  match k, h with
  | 0, _ => rfl
  | 1, _ => rfl
  | 2, _ => rfl
theorem mulL_bnd {n P : Int} (h : bndT P n zs) (h0 : 0 <= P := by omega) : bnd P (mulL n zs) := fun i => by
  by_cases hi : i < zs.length
  · rw [mulL_get hi]; exact h i
  · have : (mulL n zs)[i]? = none := List.getElem?_eq_none (by rw [mulL_len]; omega)
    rw [this]
    simp only [Option.getD_none]
    omega
theorem terms_fit (hD : D.length = 2) (bC : bnd 10000000 C) (bD : bnd 10000000 D) (k1 : -10000000 <= K) (k2 : K <= 10000000) (ho : ∀ i, i < 3 -> OkF (fs[i]?.getD noFV)) : ∀ i, i < (terms C D K fs).length -> fits 100000000000000 ((terms C D K fs)[i]?.getD ([], [], 0)) := fun i hi => by
  have hl : (terms C D K fs).length = 4 := rfl
  match i, hi with
  | 0, _ => exact ⟨rfl, hD, fun i => by have := bnd_zeros 3 i; simp only [List.replicate] at this; show -100000000000000 <= ([0, 0, 0] : List Int)[i]?.getD 0 /\ ([0, 0, 0] : List Int)[i]?.getD 0 <= 100000000000000; omega, fun i => by have := bD i; show -100000000000000 <= D[i]?.getD 0 /\ D[i]?.getD 0 <= 100000000000000; omega, by show -100000000000000 <= K; omega, by show K <= 100000000000000; omega⟩
  | j + 1, hj =>
    have hj' : j < 3 := by omega
    rw [terms_at hj']
    have g := ho j hj'
    have bc := bC j
    have tK := mul_bnd bc.1 bc.2 g.k1 g.k2
    exact ⟨by simp only [mulL_len]; exact g.lC, by simp only [mulL_len]; exact g.lD, mulL_bnd (mulT_bnd g.bC bc.1 bc.2), mulL_bnd (mulT_bnd g.bD bc.1 bc.2), tK.1, tK.2⟩
theorem iinto_no (a : Option Addr) (n cap : Nat) (c : Option Addr) (m cap' : Nat) (K : Int) (C D : List Int) (ad : Option Addr) (N capN : Nat) (fs : List FV) (w : World) (hC : Ints w a n C) (hD : Ints w c m D) (hn : n <= 1048576) (hm : m <= 1048576)
    (hN : fs.length = N) (hF : FormsG w ad fs) (hN1 : N <= 1048576) (hno : (formB n m C D K && decide (N = 3) && fs.all FV.ok) = false) :
    Calls Tryz.prog 182 #[formV a n cap c m cap' K, .slice ad N capN] w fun e w' => Res w w' e [] [] 0 := by
  have n0 := IH.new (w := w) (a := a) (n := n) (cap := cap) (c := c) (m := m) (cap' := cap') (K := K)
  by_cases h2 : (N : Int) = 3
  · have h2' : ((N : Int) != 3) = false := by simpa using h2
    have hN3 : N = 3 := by omega
    have HN3 : Hid (N = 3) := hN3
    clear h2 hN3
    cases h1 : formB n m C D K
    · clear hno
      go_enter Tryz.func182, Tryz.ntmps182
      go_wp2_with fail
      refine (iok_any _ _ _ _ _ C D (hC.below n0.b) (hD.below n0.b) hn hm).mono ?_
      rintro e w1 ⟨rfl, b1⟩
      have H := n0.below b1
      obtain ⟨r0, r1, r2, r3, r4, r5⟩ := H.room
      go_wp2
      exact bodyPost_ret (v := formV none 0 0 none 0 0 0) (by simp [results, Tryz.results182, go_sem, r0, r1, r2]) rfl H.none
    · have hno' : fs.all FV.ok = false := by simpa [h1, HN3.out] using hno
      clear hno
      go_enter Tryz.func182, Tryz.ntmps182
      go_wp2_with fail
      refine (iok_any _ _ _ _ _ C D (hC.below n0.b) (hD.below n0.b) hn hm).mono ?_
      rintro e w1 ⟨rfl, b1⟩
      have H1 := n0.below b1
      go_wp2_with fail
      refine (allForms_any _ fs hN (hF.below H1.b) hN1).mono ?_
      rintro e w2 ⟨rfl, b2⟩
      rw [hno']
      have H := H1.below b2
      obtain ⟨r0, r1, r2, r3, r4, r5⟩ := H.room
      go_wp2
      exact bodyPost_ret (v := formV none 0 0 none 0 0 0) (by simp [results, Tryz.results182, go_sem, r0, r1, r2]) rfl H.none
  · clear hno
    have h2' : ((N : Int) != 3) = true := by simpa using h2
    obtain ⟨r0, r1, r2, r3, r4, r5⟩ := n0.room
    go_enter Tryz.func182, Tryz.ntmps182
    go_wp2
    exact bodyPost_ret (v := formV none 0 0 none 0 0 0) (by simp [results, Tryz.results182, go_sem, r0, r1, r2]) rfl (Res.none rfl n0.b)
theorem iinto_yes (a : Option Addr) (cap : Nat) (c : Option Addr) (cap' : Nat) (K : Int) (C D : List Int) (b off capN : Nat) (fs : List FV) (w : World) (hC : Ints w a 3 C) (hD : Ints w c 2 D)
    (hN : fs.length = 3) (hF : FormsG w (some ⟨b, off, none⟩) fs) (h1 : formB 3 2 C D K = true) (hall : fs.all FV.ok = true) :
    Calls Tryz.prog 182 #[formV a 3 cap c 2 cap' K, .slice (some ⟨b, off, none⟩) 3 capN] w fun e w' => Res w w' e (keepL (formB 3 2 (intoC C fs 3) (intoD C D fs 3) (intoK C K fs 3)) (intoC C fs 3)) (keepL (formB 3 2 (intoC C fs 3) (intoD C D fs 3) (intoK C K fs 3)) (intoD C D fs 3)) (keepK (formB 3 2 (intoC C fs 3) (intoD C D fs 3) (intoK C K fs 3)) (intoK C K fs 3)) := by
  have n0 := IH.new (w := w) (a := a) (n := 3) (cap := cap) (c := c) (m := 2) (cap' := cap') (K := K)
  obtain ⟨-, -, bC, bD, bK1, bK2⟩ := formB_elim h1
  have hg : ∀ i, i < 3 -> ∃ x : FV, x = fs[i]?.getD noFV /\ OkF x /\ x.ok = true /\ x.At w /\ w.cell? ⟨b, off + i * 3, none⟩ = some (.slice x.a x.n x.cap) /\ w.cell? ⟨b, off + i * 3 + 1, none⟩ = some (.slice x.c x.m x.cap') /\ w.cell? ⟨b, off + i * 3 + 2, none⟩ = some (.int .i64 x.K) := fun i hi => by
    obtain ⟨b', off', hb', q0, q1, q2, A1⟩ := hF i (by omega)
    simp only [qA, qB, and_true] at hb'
    obtain ⟨rfl, rfl⟩ := hb'
    have ok : (fs[i]?.getD noFV).ok = true := by
      rw [List.all_eq_true] at hall
      rw [qD (by omega)]
      exact hall _ (List.getElem_mem _)
    exact ⟨_, rfl, OkF.of A1 ok, ok, A1, q0, q1, q2⟩
  have ho : ∀ i, i < 3 -> OkF (fs[i]?.getD noFV) := fun i hi => by
    obtain ⟨x, rfl, h, _⟩ := hg i hi; exact h
  have HI : Hid _ := IntoF.of hD.1 bC bD bK1 bK2 ho 3 (by omega)
  have HT : Hid _ := terms_fit (K := K) hD.1 bC bD bK1 bK2 ho
  have HS : Hid _ := terms_sum (C := C) (K := K) (fs := fs) hD.1
  have HG : Hid _ := hg
  obtain ⟨lb0, _⟩ : b < w.heap.size /\ True := by
    obtain ⟨x, rfl, _, _, _, q0, _⟩ := hg 0 (by omega)
    exact ⟨block_lt q0, trivial⟩
  clear hg ho
  obtain ⟨cb, co, rfl, hDc⟩ := hD.pos (by omega)
  obtain ⟨ab, ao, rfl, hCc⟩ := hC.pos (by omega)
  have lcb := hD.blt (by omega) cb co rfl
  have lab0 := hC.blt (by omega) ab ao rfl
  clear hDc hCc
  obtain ⟨i0, hi, hz0, hz1, hz2⟩ := info_parts Tryz.infoForm
  go_enter Tryz.func182, Tryz.ntmps182
  go_wp2_with fail
  refine (iok_any _ _ _ _ _ C D (hC.below n0.b) (hD.below n0.b) (by omega) (by omega)).mono ?_
  rintro e w1 ⟨rfl, b1⟩
  have H1 := n0.below b1
  clear n0 b1
  go_wp2_with fail
  refine (allForms_any _ fs hN (hF.below H1.b) (by omega)).mono ?_
  rintro e w2 ⟨rfl, b2⟩
  rw [hall]
  have H2 := H1.below b2
  have G2 := H2.cells
  clear H1 b2 hall hF hN
  go_wp2_with fail
  refine (without_any).mono ?_
  rintro e w3 ⟨P, rfl, b3, hP, kP⟩
  have H3 := H2.below b3
  have A2 := H2.b.size
  have A3 := b3.size
  have A4 := H3.r.lt
  clear G2
  have HT0 : TermsOk (w3.alloc (Obj.cells #[Value.slice (some ⟨P, 0, none⟩) 3 3, Value.slice (some ⟨cb, co, none⟩) 2 cap', Value.int .i64 K] 95)) w3.heap.size [Value.slice (some ⟨P, 0, none⟩) 3 3, Value.slice (some ⟨cb, co, none⟩) 2 cap', Value.int .i64 K] (terms C D K fs) 1 := fun j hj => by
    obtain rfl : j = 0 := by omega
    have lP := kP.lt
    refine ⟨some ⟨P, 0, none⟩, some ⟨cb, co, none⟩, 3, cap', rfl, rfl, rfl, (kP.alloc _).ints' (n := 3) rfl, (hD.below H3.b).alloc _, fun x o e => ?_, fun x o e => ?_⟩
    all_goals
      simp only [qA, qB, and_true] at e
      omega
  have HO0 : (w3.alloc (Obj.cells #[Value.slice (some ⟨P, 0, none⟩) 3 3, Value.slice (some ⟨cb, co, none⟩) 2 cap', Value.int .i64 K] 95)).ownsRow (w.heap.size + 2) 95 3 (.slice (some ⟨w3.heap.size, 0, none⟩) 1 1) 1 [Value.slice (some ⟨P, 0, none⟩) 3 3, Value.slice (some ⟨cb, co, none⟩) 2 cap', Value.int .i64 K] :=
    ⟨rfl, .inr ⟨w3.heap.size, 1, _, rfl, by omega, heap_alloc_new w3 _, by omega, by unfold maxLen; omega, rfl, rfl⟩⟩
  have H4 := H3.alloc (Obj.cells #[Value.slice (some ⟨P, 0, none⟩) 3 3, Value.slice (some ⟨cb, co, none⟩) 2 cap', Value.int .i64 K] 95)
  clear H3 b3 kP H2
  go_wp2_with fail
  go_loopw [5, 6, 7, 27] (fun tv _ _ i wr => ∃ k : Nat, k <= 3 /\ i = .int .i64 k /\ IH w (some ⟨ab, ao, none⟩) 3 cap (some ⟨cb, co, none⟩) 2 cap' K wr /\ ∃ G cp xs, tv = .slice (some ⟨G, 0, none⟩) (k + 1 : Nat) cp /\ wr.ownsRow (w.heap.size + 2) 95 3 (.slice (some ⟨G, 0, none⟩) (k + 1) cp) (k + 1) xs /\ TermsOk wr G xs (terms C D K fs) (k + 1)) (fun _ _ _ i _ => 3 - (intOf i).toNat)
  case atStart => exact ⟨0, by omega, rfl, H4, _, _, _, rfl, HO0, HT0⟩
  case round =>
    clear HT0 HO0 H4 A2 A3 A4 hP
    obtain ⟨k, hk, rfl, HX, G, cp, xs, rfl, hown, hT⟩ := hrel
    by_cases hlt : k < 3
    · obtain ⟨x, hx, okf, -, A, q0, q1, q2⟩ := HG.out k hlt
      obtain ⟨xa, xn, xcap, xc, xm, xcap', xK, xC, xD⟩ := x
      obtain ⟨x1, x2, x3, x4⟩ := A
      obtain ⟨o1, o2, o3, o4, o5, o6, o7, o8⟩ := okf
      simp only at o1 o2 o3 o4 o5 o6 o7 o8 q0 q1 q2 x1 x2
      subst o1 o2
      have HX' : Hid _ := hx
      clear hx x3 x4
      have s0 := (HX.b.cell (p := ⟨b, off + k * 3, none⟩) lb0).trans q0
      have s1 := (HX.b.cell (p := ⟨b, off + k * 3 + 1, none⟩) lb0).trans q1
      have s2 := (HX.b.cell (p := ⟨b, off + k * 3 + 2, none⟩) lb0).trans q2
      have bc := bC k
      have tC := tim_bnd o5 bc.1 bc.2
      have tD := tim_bnd o6 bc.1 bc.2
      have tK := tim_num o7 o8 bc.1 bc.2
      have ET := terms_at (C := C) (D := D) (K := K) (fs := fs) hlt
      rw [<- HX'.out] at ET
      have HET : Hid _ := ET
      have hck : wr.cell? ⟨ab, ao + k, none⟩ = some (.int .i64 (C[k]?.getD 0)) := by
        obtain ⟨b', off', he, hc⟩ := (hC.below HX.b).2 k hlt
        simp only [qA, qB, and_true] at he
        obtain ⟨rfl, rfl⟩ := he
        simpa using hc
      have GX := HX.cells.1
      have hlt' : (k : Int) < 3 := by omega
      have hlt0 : (0 : Int) <= (k : Int) := by omega
      have lG := (hown.lt G rfl).2
      have lG0 := (hown.lt G rfl).1
      have lr := HX.r.lt
      have lab := block_lt hck
      clear ET bc q0 q1 q2
      generalize C[k]?.getD 0 = ck at *
      go_wp2_with fail
      obtain ⟨W1, hW1⟩ : ∃ W1, W1 = wr.alloc (Obj.cells #[Value.slice xa 3 xcap, Value.slice xc 2 xcap', Value.int .i64 xK] 95) := ⟨_, rfl⟩
      have sW1 : W1.heap.size = wr.heap.size + 1 := by rw [hW1, qC]
      have BW : Below wr.heap.size wr W1 := by rw [hW1]; exact bal
      have cW : Cel W1 wr.heap.size [Value.slice xa 3 xcap, Value.slice xc 2 xcap', Value.int .i64 xK] 95 := by rw [hW1]; exact Cel.new wr _ _
      rw [<- hW1]
      clear hW1
      have HX1 := HX.below BW
      have hT1 := hT.below BW
      have hO1 := own_below hown BW
      have GX1 := HX1.cells.1
      have hck1 := (BW.cell (p := ⟨ab, ao + k, none⟩) lab).trans hck
      obtain ⟨e0, e1, e2, -, -, -⟩ := cW.trio
      have hS1 := And.intro e0 (And.intro e1 (And.intro e2 (And.intro GX1 hck1)))
      clear hT hown HX hck GX s0 s1 s2 BW cW
      go_region_held3 (fun w' => w'.cell? ⟨wr.heap.size, 0, none⟩ = some (.slice xa 3 xcap) /\ w'.cell? ⟨wr.heap.size, 1, none⟩ = some (.slice xc 2 xcap') /\ w'.cell? ⟨wr.heap.size, 2, none⟩ = some (.int .i64 xK) /\ w'.cell? ⟨w.heap.size, 0, none⟩ = some (.slice (some ⟨ab, ao, none⟩) 3 cap) /\ w'.cell? ⟨ab, ao + k, none⟩ = some (.int .i64 ck)) (first | with_reducible assumption | exact hS1 | with_reducible exact hS5a _)
        (first
          | (go_at_call 195
             refine (times_any xC xD (by exact x1.below HX1.drew.b) (by exact x2.below HX1.drew.b) tC tD tK).mono ?_
             rintro e w5 ⟨B1, B2, rfl, b5, g1, g2, g3, k1, k2⟩
             have b5' : Below W1.heap.size W1 w5 := below_of_drew b5
             have g1' : W1.heap.size <= B1 := g1
             have g3' : W1.heap.size <= B2 := g3
             have H5 := HX1.below b5'
             have hT5 := hT1.below b5'
             have hO5 := own_below hO1 b5'
             have z5 := b5'.size
             have c0 := (b5'.cell (p := ⟨wr.heap.size, 0, none⟩) (by show wr.heap.size < W1.heap.size; omega)).trans e0
             have c1 := (b5'.cell (p := ⟨wr.heap.size, 1, none⟩) (by show wr.heap.size < W1.heap.size; omega)).trans e1
             have c2 := (b5'.cell (p := ⟨wr.heap.size, 2, none⟩) (by show wr.heap.size < W1.heap.size; omega)).trans e2
             have c3 := (b5'.cell (p := ⟨w.heap.size, 0, none⟩) (by show w.heap.size < W1.heap.size; omega)).trans GX1
             have c4 := (b5'.cell (p := ⟨ab, ao + k, none⟩) (by show ab < W1.heap.size; omega)).trans hck1
             have hS5 := And.intro c0 (And.intro c1 (And.intro c2 (And.intro c3 c4)))
             have hS5a : ∀ o, (w5.alloc o).cell? ⟨wr.heap.size, 0, none⟩ = some (.slice xa 3 xcap) /\ (w5.alloc o).cell? ⟨wr.heap.size, 1, none⟩ = some (.slice xc 2 xcap') /\ (w5.alloc o).cell? ⟨wr.heap.size, 2, none⟩ = some (.int .i64 xK) /\ (w5.alloc o).cell? ⟨w.heap.size, 0, none⟩ = some (.slice (some ⟨ab, ao, none⟩) 3 cap) /\ (w5.alloc o).cell? ⟨ab, ao + k, none⟩ = some (.int .i64 ck) := fun o => by
               have ba : Below w5.heap.size w5 (w5.alloc o) := bal
               exact ⟨(ba.cell (p := ⟨wr.heap.size, 0, none⟩) (block_lt c0)).trans c0, (ba.cell (p := ⟨wr.heap.size, 1, none⟩) (block_lt c0)).trans c1, (ba.cell (p := ⟨wr.heap.size, 2, none⟩) (block_lt c0)).trans c2, (ba.cell (p := ⟨w.heap.size, 0, none⟩) (block_lt c3)).trans c3, (ba.cell (p := ⟨ab, ao + k, none⟩) (block_lt c4)).trans c4⟩)
          | (refine step_append_lies _ (by rfl) _ _ _ (by rfl) (w.heap.size + 2) 95 i0 _ 3 56 Tryz.underlying176 hi hz0 hz1 hz2 rfl (by omega) (.slice (some ⟨G, 0, none⟩) (k + 1) cp) (k + 1) xs (by rfl) (hO5.alloc _) ⟨w5.heap.size, 0, none⟩ 1 1 [Value.slice (some ⟨B1, 0, none⟩) 3 3, Value.slice (some ⟨B2, 0, none⟩) 2 2, Value.int .i64 (ck * xK)] (by rfl) (by rfl) (World.news_of_block (cs := #[Value.slice (some ⟨B1, 0, none⟩) 3 3, Value.slice (some ⟨B2, 0, none⟩) 2 2, Value.int .i64 (ck * xK)]) (t := 95) (fr := (0, 0)) (heap_alloc_new w5 _)) (by simp [Value.oneCell']) (by omega) (by unfold maxLen; omega) (by omega) (by rw [qC]; omega) (w5.heap.size + 1) (by rw [qC]) ?_
             intro g cpg w6 hown6 hgrow hat hlt6
             have hgr : (w5.alloc (Obj.cells #[Value.slice (some ⟨B1, 0, none⟩) 3 3, Value.slice (some ⟨B2, 0, none⟩) 2 2, Value.int .i64 (ck * xK)] 95)).grownBy w6 (some G) := hgrow
             have hq := hS5a (Obj.cells #[Value.slice (some ⟨B1, 0, none⟩) 3 3, Value.slice (some ⟨B2, 0, none⟩) 2 2, Value.int .i64 (ck * xK)] 95)
             have hS6 := And.intro ((hgr.cell_far ⟨wr.heap.size, 0, none⟩ (block_lt hq.1) (by simp only [ne_eq, qA]; omega)).trans hq.1) (And.intro ((hgr.cell_far ⟨wr.heap.size, 1, none⟩ (block_lt hq.1) (by simp only [ne_eq, qA]; omega)).trans hq.2.1) (And.intro ((hgr.cell_far ⟨wr.heap.size, 2, none⟩ (block_lt hq.1) (by simp only [ne_eq, qA]; omega)).trans hq.2.2.1) (And.intro ((hgr.cell_far ⟨w.heap.size, 0, none⟩ (block_lt hq.2.2.2.1) (by simp only [ne_eq, qA]; omega)).trans hq.2.2.2.1) ((hgr.cell_far ⟨ab, ao + k, none⟩ (block_lt hq.2.2.2.2) (by simp only [ne_eq, qA]; omega)).trans hq.2.2.2.2))))))
      have hat' : g = G \/ (w5.alloc (Obj.cells #[Value.slice (some ⟨B1, 0, none⟩) 3 3, Value.slice (some ⟨B2, 0, none⟩) 2 2, Value.int .i64 (ck * xK)] 95)).heap.size <= g := by
        rw [qC]
        rcases hat with h | h
        · left
          simpa [Value.ownBlock] using h.symm
        · right; omega
      have LC : (mulL ck xC).length = 3 := by rw [mulL_len]; exact o3
      have LD : (mulL ck xD).length = 2 := by rw [mulL_len]; exact o4
      have T6 := (hT5.below ((Below.refl _ _).alloc (qF _) (Obj.cells #[Value.slice (some ⟨B1, 0, none⟩) 3 3, Value.slice (some ⟨B2, 0, none⟩) 2 2, Value.int .i64 (ck * xK)] 95))).step (ca := 3) (cc := 2) (K := ck * xK) hO5.1 hgr hat' ((k1.alloc _).ints' LC) ((k2.alloc _).ints' LD) (by omega) (by omega) HET.out
      have H5a := H5.alloc (Obj.cells #[Value.slice (some ⟨B1, 0, none⟩) 3 3, Value.slice (some ⟨B2, 0, none⟩) 2 2, Value.int .i64 (ck * xK)] 95)
      have H6 : IH w (some ⟨ab, ao, none⟩) 3 cap (some ⟨cb, co, none⟩) 2 cap' K w6 := by
        refine ⟨?_, ?_, H5a.b.grown hgr H5a.b.size (fun x hx => by simp only [qA] at hx; omega)⟩
        · have := hgr.block w.heap.size H5a.p.lt (by simp only [ne_eq, qA]; omega)
          unfold Cel
          rw [this]; exact H5a.p
        · have := hgr.block (w.heap.size + 1) H5a.r.lt (by simp only [ne_eq, qA]; omega)
          unfold Cel
          rw [this]; exact H5a.r
      clear hS6 hS5 hS5a hS1 hgrow hgr hat hat' c0 c1 c2 c3 c4 k1 k2 H5 H5a hT5 hO5 hT1 hO1 HX1 b5 b5' GX1 hck1 e0 e1 e2
      go_wp2
      go_roundw
      case rel => exact ⟨k + 1, by omega, by go_num, H6, g, cpg, _, rfl, hown6, T6⟩
      case measure => simp [intOf]; omega
    · obtain rfl : k = 3 := by omega
      obtain ⟨f1, f2, -, -, -, -⟩ := HI.out
      have fa := hT.forms rfl hown
      have A1 := HX.r.lt
      have A2 := HX.b.size
      go_wp2_with fail
      refine (sum_any _ 4 _ (terms C D K fs) 100000000000000 rfl fa HT.out).mono ?_
      rintro e w2 ⟨B1, B2, rfl, b2, g1, g2, g3, k1, k2⟩
      rw [HS.out.1] at k1
      rw [HS.out.2.1] at k2
      rw [HS.out.2.2]
      have H2 := HX.below b2
      clear fa b2
      cases h3 : formB 3 2 (intoC C fs 3) (intoD C D fs 3) (intoK C K fs 3)
      all_goals
        go_wp2_with fail
        first
          | (refine (orN_no (intoC C fs 3) (intoD C D fs 3) (k1.ints' f1) (k2.ints' f2) (by omega) (by omega) h3).mono ?_)
          | (refine (orN_yes (intoC C fs 3) (intoD C D fs 3) (k1.ints' f1) (k2.ints' f2) (by omega) (by omega) h3).mono ?_)
        rintro e w3 ⟨rfl, b3⟩
        have H := H2.below b3
        have k1' := k1.below b3
        have k2' := k2.below b3
        obtain ⟨r0, r1, r2, r3, r4, r5⟩ := H.room
        clear H2 k1 k2 b3
        go_wp2
      · refine bodyPost_ret (v := formV none 0 0 none 0 0 0) (by simp [results, Tryz.results182, go_sem, r0, r1, r2]) rfl ?_
        rw [h3]
        exact H.none
      · refine bodyPost_ret (v := formV (some ⟨B1, 0, none⟩) 3 3 (some ⟨B2, 0, none⟩) 2 2 (intoK C K fs 3)) (by simp [results, Tryz.results182, go_sem, r0, r1, r2]) rfl ?_
        rw [h3]
        refine Res.of (B1 := B1) (B2 := B2) rfl f1 f2 ?_ (by omega) g2 (by omega) ?_ ?_
        · exact ((H.b.setCell (by simp only []; omega) _).setCell (by simp only []; omega) _).setCell (by simp only []; omega) _
        · exact ((k1'.so).so).so
        · exact ((k2'.so).so).so
theorem iinto_any (C D : List Int) {ad : Option Addr} {N capN : Nat} (fs : List FV) {w : World} (hC : Ints w a n C) (hD : Ints w c m D) (hn : n <= 1048576) (hm : m <= 1048576)
  (hN : fs.length = N) (hF : FormsG w ad fs) (hN1 : N <= 1048576) :
  Calls Tryz.prog 182 #[formV a n cap c m cap' K, .slice ad N capN] w fun e w' => Res w w' e (keepL (intoOk n m C D K N fs) (intoC C fs 3)) (keepL (intoOk n m C D K N fs) (intoD C D fs 3)) (keepK (intoOk n m C D K N fs) (intoK C K fs 3)) := by
 cases h : (formB n m C D K && decide (N = 3) && fs.all FV.ok)
 ·have ho : intoOk n m C D K N fs = false := by unfold intoOk; rw [h]; rfl
  rw [ho]
  exact iinto_no a n cap c m cap' K C D ad N capN fs w hC hD hn hm hN hF hN1 h
 have ho : intoOk n m C D K N fs = formB 3 2 (intoC C fs 3) (intoD C D fs 3) (intoK C K fs 3) := by unfold intoOk; rw [h, Bool.true_and]
 rw [ho];simp only [Bool.and_eq_true, decide_eq_true_eq] at h;obtain ⟨⟨h1, rfl⟩, h3⟩ := h;obtain ⟨rfl, rfl, _⟩ := formB_elim h1;obtain ⟨b, off, rfl, _⟩ := hF 0 (by omega)
 exact iinto_yes a cap c cap' K C D b off capN fs w hC hD hN hF h1 h3
end Go.Proofs.YtpmihhbgjimpmaaGreatDoor
