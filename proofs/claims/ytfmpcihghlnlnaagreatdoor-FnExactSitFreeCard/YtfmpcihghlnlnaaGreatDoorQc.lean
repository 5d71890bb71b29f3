/-
  Lemmas that the claim's last text rests on.
-/
import Derived.Test.YtfmpcihghlnlnaaGreatDoorQb
namespace Go.Proofs.YtfmpcihghlnlnaaGreatDoor
open Go.RowKit Go.ChangeShapes Go.WideShapes Go.ChangeAt Go.Joins Go.Deep
open World renaming size_alloc → qA
open List renaming getElem?_eq_getElem → qB, length_cons → qC
set_option linter.unusedVariables false
set_option maxRecDepth 100000
set_option maxHeartbeats 25600000
variable {B G N cap cap' k lo n : Nat} {E : List Int} {T : List (List Int)} {W W' w : World} {a ad : Option Addr} {bs : Nat -> Nat} {cl code : Int} {ls : List LV} {ss : List L2V} {ts : List IV}
structure SL (W : World) (a : Option Addr) (G n : Nat) (ts : List IV) (bs : Nat -> Nat) (f : Nat -> List Int) : Prop where
 c : ∀ j, j < n -> a = some ⟨G, 0, none⟩ /\ W.cell? ⟨G, j, none⟩ = some (.slice (ts[j]?.getD noI).a 3 (ts[j]?.getD noI).cap) /\ OwnX W (ts[j]?.getD noI).a (bs j) 3 (f j) /\ bs j ≠ G
 d : ∀ i j, i < j -> j < n -> bs i < bs j
theorem SL.touch {S : Nat -> Prop} {f : Nat -> List Int} (h : SL W a G n ts bs f) (t : Touch S W W') (hG : 0 < n -> ¬ S G) (hb : ∀ j, j < n -> ¬ S (bs j)) : SL W' a G n ts bs f :=
 ⟨fun j hj => by
  obtain ⟨h1, h2, h3, h4⟩ := h.c j hj;refine ⟨h1, ?_, h3.touch t (fun _ => hb j hj), h4⟩
  rw [World.cell?_of_block (t.block G (block_lt h2) (hG (by omega)))]; exact h2, h.d⟩
theorem SL.below {f : Nat -> List Int} (h : SL W a G n ts bs f) (b : Below W.heap.size W W') : SL W' a G n ts bs f := h.touch (S := fun _ => False) (Touch.of b) (fun _ h => h) (fun _ _ h => h)
theorem SL.ext {f g : Nat -> List Int} (h : SL W a G n ts bs f) (e : ∀ j, j < n -> f j = g j) : SL W a G n ts bs g := ⟨fun j hj => by rw [<- e j hj]; exact h.c j hj, h.d⟩
theorem SL.none (W : World) (a : Option Addr) (G : Nat) (ts : List IV) (bs : Nat -> Nat) (f : Nat -> List Int) : SL W a G 0 ts bs f := ⟨fun j hj => by omega, fun i j _ hj => by omega⟩
theorem JO.sl {cG : Nat} (j : JO w (.slice (some ⟨G, 0, Option.none⟩) n cG) ts bs W) (hn : ts.length = n) : SL W (some ⟨G, 0, Option.none⟩) G n ts bs (fun i => (ts[i]?.getD noI).x) := by
 subst hn;refine ⟨fun i hi => ?_, j.d⟩;obtain ⟨a, b, c, d⟩ := j.k i hi;refine ⟨rfl, ?_, b, fun e => d (by rw [e]; rfl)⟩;rw [own_cell j.o i (by omega), List.getElem?_map, qB hi];rw [qB hi] at a;simp only [Option.getD_some] at a;simp [IV.v, a]
theorem SL.isg (h : SL W a G n ts bs (fun i => (ts[i]?.getD noI).x)) (hn : ts.length = n) (h3 : ∀ i, i < n -> (ts[i]?.getD noI).n = 3) : ISG W a ts := fun i hi => by
 obtain ⟨h1, h2, hx, _⟩ := h.c i (by omega);refine ⟨G, 0, h1, ?_, ?_, by rw [h3 i (by omega)]; omega⟩
 ·rw [Nat.zero_add, h2, IV.v, h3 i (by omega)]
 rw [h3 i (by omega)]; exact hx.ints
theorem goW_copies {gs : List LV} (hl : gs.length = ls.length) (h : copiesL ls gs) (f : Nat) : ∀ (i : Nat) (y : Way), goW gs f i y = goW ls f i y := by
 induction f with
 | zero => intro i y; rfl
 | succ f ih =>
  intro i y;rw [goW, goW, hl]
  by_cases hi : i < ls.length
  ·obtain ⟨a1, a2, a3, a4, a5, a6, _⟩ := h i (by omega);have e : intoX (gs[i]?.getD noLV).f y.pots = intoX (ls[i]?.getD noLV).f y.pots := by rw [intoX, intoX, a4, a5, a6]
   rw [if_pos hi, if_pos hi, a1, a2, a3, e, ih, ih, ih, ih]
  rw [if_neg hi, if_neg hi]
theorem rowsL_copies {gs : List LV} (hl : gs.length = ls.length) (h : copiesL ls gs) : rowsL gs = rowsL ls := goW_copies hl h 7 0 way0
def lenB (v : Bool) : Nat := if v then 3 else 0
abbrev plV (cl : Int) (ad : Option Addr) (N cap : Nat) (ga : Option Addr) (gn gc : Nat) (sa : Option Addr) (sn sc : Nat) : Value := .agg #[.int .i64 cl, .slice ad N cap, .slice ga gn gc, .slice sa sn sc]
structure PlAt (w : World) (ad : Option Addr) (N : Nat) (ss : List L2V) (ga : Option Addr) (gn : Nat) (G : List Int) (sa : Option Addr) (sn : Nat) (S : List Int) : Prop where
 a : LSG w ad ss
 ha : ss.length = N
 za : N <= 1048576
 g : Ints w ga gn G
 zg : gn <= 1048576
 s : Ints w sa sn S
 zs : sn <= 1048576
theorem PlAt.below {w' : World} {ga : Option Addr} {gn : Nat} {G : List Int} {sa : Option Addr} {sn : Nat} {S : List Int} (h : PlAt w ad N ss ga gn G sa sn S) (b : Below w.heap.size w w') : PlAt w' ad N ss ga gn G sa sn S :=
 ⟨h.a.below b, h.ha, h.za, h.g.below b, h.zg, h.s.below b, h.zs⟩
theorem PlAt.alloc {ga : Option Addr} {gn : Nat} {G : List Int} {sa : Option Addr} {sn : Nat} {S : List Int} (h : PlAt w ad N ss ga gn G sa sn S) (o : Obj) : PlAt (w.alloc o) ad N ss ga gn G sa sn S :=
 h.below (bal)
theorem Cel.quadP {x y z u : Value} {t : TypeId} (h : Cel w B [x, y, z, u] t) : w.cell? ⟨B, 0, none⟩ = some x /\ w.cell? ⟨B, 1, none⟩ = some y /\ w.cell? ⟨B, 2, none⟩ = some z /\ w.cell? ⟨B, 3, none⟩ = some u := ⟨h.cell 0, h.cell 1, h.cell 2, h.cell 3⟩
structure BP (w : World) (B : Nat) (la : List Value) (ty : TypeId) (W : World) : Prop where
 p : Cel W B la ty
 b : Below w.heap.size w W
theorem BP.new (w : World) (la : List Value) (ty : TypeId) : BP w w.heap.size la ty (w.alloc (.cells la.toArray ty)) := ⟨Cel.new w la ty, bal⟩
theorem BP.below {la : List Value} {ty : TypeId} (h : BP w B la ty W) (b : Below W.heap.size W W') : BP w B la ty W' := ⟨h.p.below b, h.b.trans (b.mono h.b.size)⟩
theorem BP.alloc {la : List Value} {ty : TypeId} (h : BP w B la ty W) (o : Obj) : BP w B la ty (W.alloc o) := h.below (bal)
theorem ML2.setLow {ts : List L2V} (h : ML2 W B N ts) {X : Nat} (hX : X < B) (i : Nat) (v : Value) : ML2 (W.setCell ⟨X, i, none⟩ v) B N ts := by
 have T : Touch (fun x => x = X) W (W.setCell ⟨X, i, none⟩ v) := Touch.setCell (S := fun x => x = X) (Touch.refl _ _) rfl _;obtain ⟨vs, h1, h2, h3⟩ := h.c;obtain ⟨c, c1, c2, c3⟩ := h.d
 exact ⟨⟨vs, h1.so, h2, h3⟩, fun i hi => (h.l i hi).touch T (fun x hx => by omega), c, c1, by rw [size_setCell]; exact c2, c3⟩
theorem szP_any (ss : List L2V) {ga : Option Addr} {gn gc : Nat} (G : List Int) {sa : Option Addr} {sn sc : Nat} (S : List Int) {l : Int} {w : World}
  (ha : ss.length = N) (hA : LSM w ad ss) (hN1 : N <= maxLen) (hG : Ints w ga gn G) (hG1 : gn <= maxLen) (hS : Ints w sa sn S) (hS1 : sn <= maxLen) (h0 : 0 <= l) (hl : l <= 1048576) :
  Calls Tryz.prog 4 #[plV cl ad N cap ga gn gc sa sn sc, .int .i64 l] w fun e w' => ∃ r, e = .returned (.int .i64 r) /\ -1 <= r /\ r <= 1048576 /\ (0 <= r -> PlAt w ad N ss ga gn G sa sn S) /\ Below w.heap.size w w' := by
 have n0 := BP.new w [.int .i64 cl, .slice ad N cap, .slice ga gn gc, .slice sa sn sc] 25;have HA : Hid (ss.length = N) := ha;clear ha
 go_enter Tryz.func4, Tryz.ntmps4
 go_wp2_with fail
 refine (szL2S_any ss HA.out (hA.below n0.b) hN1 h0 hl).mono ?_;rintro e w1 ⟨r1, rfl, p1, q1, s1, b1⟩;have n1 := n0.below b1;obtain ⟨c0, c1, c2, c3⟩ := n1.p.quadP
 by_cases h1 : r1 < 0
 ·go_wp2
  go_ret
  exact ⟨-1, rfl, by omega, by omega, fun h => by omega, n1.b⟩
 have h1' : 0 <= r1 := by omega
 obtain ⟨zN, sN⟩ := s1 h1';have HSN : Hid _ := sN;clear s1 sN h1;have g2 := leftOf_ge r1 gn;obtain ⟨r2, hr2⟩ : ∃ r, r = leftOf r1 gn := ⟨_, rfl⟩
 have HR2 : Hid _ := hr2;rw [<- hr2] at g2;clear hr2
 go_wp2_with fail
 refine (sz_any _ _ _ _ _ hG1 h1' q1).mono ?_;rintro e w2 ⟨rfl, rfl⟩;rw [<- HR2.out]
 by_cases h2 : r2 < 0
 ·go_wp2
  go_ret
  exact ⟨-1, rfl, by omega, by omega, fun h => by omega, n1.b⟩
 have h2' : 0 <= r2 := by omega
 have z2 := leftOf_le (l := r1) (n := gn) (by rw [<- HR2.out]; exact h2');rw [<- HR2.out] at z2;have g3 := leftOf_ge r2 sn;obtain ⟨r3, hr3⟩ : ∃ r, r = leftOf r2 sn := ⟨_, rfl⟩
 have HR3 : Hid _ := hr3;rw [<- hr3] at g3;clear hr3 h2;have q2 : r2 <= 1048576 := by omega
 have zg : gn <= 1048576 := by omega
 clear z2
 go_wp2_with fail
 refine (sz_any _ _ _ _ _ hS1 h2' q2).mono ?_;rintro e w2 ⟨rfl, rfl⟩;rw [<- HR3.out]
 by_cases h3 : r3 < 0
 ·go_wp2
  go_ret
  exact ⟨-1, rfl, by omega, by omega, fun h => by omega, n1.b⟩
 have h3' : 0 <= r3 := by omega
 have z3 := leftOf_le (l := r2) (n := sn) (by rw [<- HR3.out]; exact h3');rw [<- HR3.out] at z3;have q3 : r3 <= 1048576 := by omega
 have zs : sn <= 1048576 := by omega
 clear z3 h3
 go_wp2
 go_ret
 exact ⟨r3, rfl, by omega, q3, fun _ => ⟨hA.g HSN.out, HA.out, zN, hG, zg, hS, zs⟩, n1.b⟩
theorem toP_sep (cl : Int) (ad : Option Addr) (N cap : Nat) (ss : List L2V) (ga : Option Addr) (gn gc : Nat) (G : List Int) (sa : Option Addr) (sn sc : Nat) (S : List Int) (w : World) (h : PlAt w ad N ss ga gn G sa sn S) :
  Calls Tryz.prog 8 #[plV cl ad N cap ga gn gc sa sn sc] w fun e w' => ∃ B1 B2 B3 ts, e = .returned (plV cl (some ⟨B1, 0, none⟩) N N (some ⟨B2, 0, none⟩) gn gn (some ⟨B3, 0, none⟩) sn sn) /\
   ts.length = N /\ copiesL2S ss ts /\ Below w.heap.size w w' /\ ML2 w' B1 N ts /\ Blk w' B2 G /\ Blk w' B3 S /\ w.heap.size <= B1 /\ B2 < B3 /\ B3 < w'.heap.size /\ (∃ c : Nat -> Nat, B1 < c 0 /\ c N <= B2 /\ ∀ i, i < N -> c i <= c (i + 1) /\ InR (c i) (c (i + 1)) (ts[i]?.getD noL)) := by
 have HN : Hid (ss.length = N) := h.ha;have za := h.za;have zg := h.zg;have zs := h.zs
 go_enter Tryz.func8, Tryz.ntmps8
 go_wp2_with fail
 refine (toL2S_any ss HN.out (((h.alloc _).alloc _).alloc _).a za).mono ?_;rintro e w1 ⟨ts, rfl, lt, cp, b1, m1⟩;have HT : Hid (ts.length = N) := lt;have HC : Hid (copiesL2S ss ts) := cp;clear lt cp;have p0 := (((Cel.new w _ _).alloc _).alloc _).below b1;have pr := ((Cel.new (w.alloc _) _ _).alloc _).below b1;have px := (Cel.new ((w.alloc _).alloc _) _ _).below b1;rw [qA] at pr;rw [qA, qA] at px;rw [qA, qA, qA] at m1;have s1 := m1.lt
 have HD : Hid (∃ c : Nat -> Nat, w.heap.size + 1 + 1 + 1 < c 0 /\ c N <= w1.heap.size /\ ∀ i, i < N -> c i <= c (i + 1) /\ InR (c i) (c (i + 1)) (ts[i]?.getD noL)) := by
  obtain ⟨c, c1, c2, c3⟩ := m1.d;rw [HT.out] at c2 c3
  exact ⟨c, c1, c2, c3⟩
 have B1 : Below w.heap.size w w1 := (((bal).alloc (by simp) _).alloc (by simp; omega) _).trans (b1.mono (by simp; omega));clear b1;obtain ⟨c0, c1, c2, c3⟩ := p0.quadP;obtain ⟨d0, d1, d2, d3⟩ := px.quadP;have f0 := px.free 1
 go_wp2_with fail
 have B1s := B1.setCell (p := ⟨w.heap.size + 1 + 1, 1, none⟩) (by show w.heap.size <= w.heap.size + 1 + 1; omega) (Value.slice (some ⟨w.heap.size + 1 + 1 + 1, 0, none⟩) N N);refine (to_any G (h.below B1s).g zg).mono ?_;rintro e w2 ⟨rfl, b2, k2⟩;clear c0 c1 c2 c3 d0 d1 d2 d3 f0;have r0 := (p0.so).below b2;have rr := (pr.so).below b2;have rx := (px.set _ _).below b2;have n1 := (m1.setLow (X := w.heap.size + 1 + 1) (by omega) 1 _).below b2;have B2 := btr B1s b2;rw [size_setCell] at k2;have s2 := k2.lt;clear p0 pr px m1 b2 B1 B1s;simp only [List.set_cons_zero, List.set_cons_succ] at rx;obtain ⟨c0, c1, c2, c3⟩ := r0.quadP;obtain ⟨d0, d1, d2, d3⟩ := rx.quadP;have f0 := rx.free 2
 go_wp2_with fail
 have B2s := B2.setCell (p := ⟨w.heap.size + 1 + 1, 2, none⟩) (by show w.heap.size <= w.heap.size + 1 + 1; omega) (Value.slice (some ⟨w1.heap.size, 0, none⟩) gn gn);refine (to_any S (h.below B2s).s zs).mono ?_;rintro e w3 ⟨rfl, b3, k3⟩;clear c0 c1 c2 c3 d0 d1 d2 d3 f0;have tr := (rr.so).below b3;have tx := (rx.set _ _).below b3;have n1' := (n1.setLow (X := w.heap.size + 1 + 1) (by omega) 2 _).below b3;have k2' := (k2.setOther (B' := w.heap.size + 1 + 1) (by omega) 2 _).below b3;have B3 := btr B2s b3;rw [size_setCell] at k3;have s3 := k3.lt;clear r0 rr rx n1 k2 b3 B2 B2s;simp only [List.set_cons_zero, List.set_cons_succ] at tx;obtain ⟨d0, d1, d2, d3⟩ := tx.quadP;obtain ⟨e0, e1, e2, e3⟩ := tr.quadP;have f0 := tx.free 3;have f2 := tr.free 0;have f3 := tr.free 1;have f4 := tr.free 2;have f5 := tr.free 3;have hlt1 : w.heap.size + 1 < w3.heap.size := by omega
 have hlt2 : w.heap.size + 1 + 1 < w3.heap.size := by omega
 go_wp2
 refine bodyPost_ret (v := plV cl (some ⟨w.heap.size + 1 + 1 + 1, 0, none⟩) N N (some ⟨w1.heap.size, 0, none⟩) gn gn (some ⟨w2.heap.size, 0, none⟩) sn sn) (by simp [results, Tryz.results8, go_sem, e0, e1, e2, e3]) rfl ⟨_, _, _, ts, rfl, HT.out, HC.out, ?_, ?_, ?_, ?_, by omega, by omega, by simp only [size_setCell]; omega, HD.out⟩
 ·exact ((((B3.setCell (by simp only []; omega) _).setCell (by simp only []; omega) _).setCell (by simp only []; omega) _).setCell (by simp only []; omega) _).setCell (by simp only []; omega) _
 ·exact ((((n1'.setLow (by omega) _ _).setLow (by omega) _ _).setLow (by omega) _ _).setLow (by omega) _ _).setLow (by omega) _ _
 ·exact ((((k2'.so).so).so).so).so
 exact ((((k3.so).so).so).so).so
theorem toP_any (ss : List L2V) {ga : Option Addr} {gn gc : Nat} (G : List Int) {sa : Option Addr} {sn sc : Nat} (S : List Int) {w : World} (h : PlAt w ad N ss ga gn G sa sn S) :
  Calls Tryz.prog 8 #[plV cl ad N cap ga gn gc sa sn sc] w fun e w' => ∃ B1 B2 B3 ts, e = .returned (plV cl (some ⟨B1, 0, none⟩) N N (some ⟨B2, 0, none⟩) gn gn (some ⟨B3, 0, none⟩) sn sn) /\
   ts.length = N /\ copiesL2S ss ts /\ Below w.heap.size w w' /\ ML2 w' B1 N ts /\ Blk w' B2 G /\ Blk w' B3 S :=
 (toP_sep cl ad N cap ss ga gn gc G sa sn sc S w h).mono fun e w' hx => by
  obtain ⟨B1, B2, B3, ts, h1, h2, h3, h4, h5, h6, h7, _⟩ := hx
  exact ⟨B1, B2, B3, ts, h1, h2, h3, h4, h5, h6, h7⟩
theorem copies_mapP {ts : List L2V} (hl : ts.length = ss.length) (h : copiesL2S ss ts) : ts.map L2V.ok = ss.map L2V.ok := by
 apply List.ext_getElem?
 intro i
 by_cases hi : i < ts.length
 ·obtain ⟨e1, e2, e3⟩ := h i hi;have : (ts[i]?.getD noL).ok = (ss[i]?.getD noL).ok := by rw [L2V.ok, L2V.ok, e1]; exact copiesL_act e2 e3
  rw [qB hi, qB (by omega)] at this;simp only [Option.getD_some] at this;rw [List.getElem?_map, List.getElem?_map, qB hi, qB (by omega)];simp [this]
 rw [List.getElem?_eq_none (by simp; omega), List.getElem?_eq_none (by simp; omega)]
theorem copies_catP {ts : List L2V} (hl : ts.length = ss.length) (h : copiesL2S ss ts) : catB N ts = catB N ss := by
 have h3 := copies_mapP hl h;have e1 : ∀ xs : List L2V, xs.all L2V.ok = (xs.map L2V.ok).all id := fun xs => by simp [List.all_map]
 rw [catB, catB, e1, e1, h3]
theorem copies_sameP {ts us : List L2V} (h1 : ts.length = N) (h2 : us.length = N) (c1 : copiesL2S ss ts) (c2 : copiesL2S ss us) (hl : ∀ i, i < N -> (ts[i]?.getD noL).x.length = (ts[i]?.getD noL).n) : ∀ i, i < N -> sameL2 (ts[i]?.getD noL) (us[i]?.getD noL) := fun i hi => by
 obtain ⟨a1, a2, a3⟩ := c1 i (by omega);obtain ⟨b1, b2, b3⟩ := c2 i (by omega);refine ⟨by rw [a1, b1], fun j hj => ?_⟩;have e1 := hl i hi
 exact copiesL_same (N := (ts[i]?.getD noL).n) e1 (by rw [b2, <- a2]; exact e1) a3 b3 j hj
theorem ML2.lens {ts : List L2V} (h : ML2 W B N ts) (hl : ts.length = N) : ∀ i, i < N -> (ts[i]?.getD noL).x.length = (ts[i]?.getD noL).n := fun i hi => by
 obtain ⟨b, off, _, _, h⟩ := h.g i (by rw [hl]; exact hi)
 exact h.1
theorem eqP_same (ss : List L2V) {ga : Option Addr} {gn gc : Nat} (G : List Int) {sa : Option Addr} {sn sc : Nat} (S : List Int) {ad' : Option Addr} {cap' : Nat} (ss' : List L2V) {ga' : Option Addr} {gc' : Nat} {sa' : Option Addr} {sc' : Nat} {w : World}
  (h : PlAt w ad N ss ga gn G sa sn S) (h' : PlAt w ad' N ss' ga' gn G sa' sn S) (hs : ∀ i, i < N -> sameL2 (ss[i]?.getD noL) (ss'[i]?.getD noL)) :
  Calls Tryz.prog 12 #[plV cl ad N cap ga gn gc sa sn sc, plV cl ad' N cap' ga' gn gc' sa' sn sc'] w fun e w' => e = .returned (.bool true) /\ Below w.heap.size w w' := by
 have E1 : Hid _ := hs;clear hs;have HG := eqB_refl G;have HS := eqB_refl S;have hcl : (cl != cl) = false := by simp
 have n0 := (BP.new w [.int .i64 cl, .slice ad N cap, .slice ga gn gc, .slice sa sn sc] 37).alloc (.cells #[.int .i64 cl, .slice ad' N cap', .slice ga' gn gc', .slice sa' sn sc'] 37);have y0 := Cel.new (w.alloc (.cells #[.int .i64 cl, .slice ad N cap, .slice ga gn gc, .slice sa sn sc] 37)) [.int .i64 cl, .slice ad' N cap', .slice ga' gn gc', .slice sa' sn sc'] 37;rw [qA] at y0
 go_enter Tryz.func12, Tryz.ntmps12
 go_wp2_with fail
 refine (eqL2S_same ss ss' h.ha h'.ha ((h.alloc _).alloc _).a ((h'.alloc _).alloc _).a h.za E1.out).mono ?_;rintro e w1 ⟨rfl, b1⟩;have n1 := n0.below b1;have y1 := y0.below b1;clear n0 y0 b1;obtain ⟨c0, c1, c2, c3⟩ := n1.p.quadP;obtain ⟨d0, d1, d2, d3⟩ := y1.quadP
 go_wp2_with fail
 refine (eq_any G G (h.below n1.b).g (h'.below n1.b).g h.zg h.zg).mono ?_;rintro e w2 ⟨rfl, b2⟩;rw [HG];have n2 := n1.below b2;have y2 := y1.below b2;clear n1 y1 b2 c0 c1 c2 c3 d0 d1 d2 d3;obtain ⟨c0, c1, c2, c3⟩ := n2.p.quadP;obtain ⟨d0, d1, d2, d3⟩ := y2.quadP
 go_wp2_with fail
 refine (eq_any S S (h.below n2.b).s (h'.below n2.b).s h.zs h.zs).mono ?_;rintro e w3 ⟨rfl, b3⟩;rw [HS];have n3 := n2.below b3
 go_wp2
 go_ret
 exact ⟨rfl, n3.b⟩
def plnB (cl : Int) (N : Nat) (ss : List L2V) (gn : Nat) (G : List Int) (sn : Nat) (S : List Int) : Bool := inB cl 1 4 && (catB N ss && (okN 3 1000 sn S && trtB sn gn S G))
theorem open_LSC {H : Type} {enc : TypeId × Value -> H} {fuel : Nat} {v : Value} {y : DataW H × List MemPlace}
  (hf : DataW.trod enc Tryz.prog W 0 (fun _ => true) true fuel 22 [v] = some y) :
  ∃ ad N cap ss, v = .slice ad N cap /\ ss.length = N /\ LSM W ad ss /\ N <= maxLen := by
 obtain ⟨ad, N, cap, ss, hv, hl, hN, hall⟩ := open_sliceC noL (fun s => [L2V.v s]) (fun s => LM W s) (c := 1) (by omega) Tryz.underlying22 (by kernel_rfl) (fun _ => rfl) (fun fuel cs x hx => by
  have hl : cs.length = 1 := (trod_lenL Tryz.underlying69 hx)
  match cs, hl with
  | [c], _ =>
   obtain ⟨s, hs, hr⟩ := open_L1 hx
   exact ⟨s, by rw [hs], hr⟩) hf
 refine ⟨ad, N, cap, ss, hv, hl, fun i hi => ?_, hN⟩;obtain ⟨b, off, e, hc, hr⟩ := hall i hi;have h0 := hc 0 (by omega);simp only [Nat.mul_one, Nat.add_zero, List.getElem?_cons_zero] at h0
 exact ⟨b, off, e, h0, hr⟩
theorem open_plan {H : Type} {enc : TypeId × Value -> H} {r : Reach} {b0 : Nat} {v : Value} {d : DataW H} {p : List MemPlace}
  (hv : Value.okWide Tryz.prog W r b0 25 v) (h : DataW.Trod enc Tryz.prog W 0 (fun _ => true) true 25 v d p) :
  ∃ cl ad N cap ss ga gn gc G sa sn sc S, v = plV cl ad N cap ga gn gc sa sn sc /\ (Lit.int .i64 cl).wf = true /\ ss.length = N /\ LSM W ad ss /\ N <= maxLen /\ Ints W ga gn G /\ gn <= maxLen /\ Ints W sa sn S /\ sn <= maxLen := by
 obtain ⟨v0, v1, v2, v3, y0, y1, y2, y3, k, rfl, -, -, h0, h1, h2, h3⟩ := open_agg4 Tryz.underlying25 (by kernel_rfl) (by kernel_rfl) hv h;obtain ⟨cl, rfl, wc⟩ := open_num h0;obtain ⟨ad, N, cap, ss, rfl, hl, hM, hN⟩ := open_LSC h1;obtain ⟨ga, gn, gc, G, rfl, hG, hg⟩ := open_row h2;obtain ⟨sa, sn, sc, S, rfl, hS, hs⟩ := open_row h3
 exact ⟨cl, ad, N, cap, ss, ga, gn, gc, G, sa, sn, sc, S, rfl, wc, hl, hM, hN, hG, hg, hS, hs⟩
theorem rows_map {ts : List L2V} (hl : ts.length = ss.length) (h : copiesL2S ss ts) : ts.map (fun s => rowsL s.x) = ss.map (fun s => rowsL s.x) := by
 apply List.ext_getElem?
 intro i
 by_cases hi : i < ts.length
 ·obtain ⟨e1, e2, e3⟩ := h i hi;have := rowsL_copies e2 e3;rw [qB hi, qB (by omega)] at this;simp only [Option.getD_some] at this;rw [List.getElem?_map, List.getElem?_map, qB hi, qB (by omega)];simp [this]
 rw [List.getElem?_eq_none (by simp; omega), List.getElem?_eq_none (by simp; omega)]
theorem pins_copies {ts : List L2V} (hl : ts.length = ss.length) (h : copiesL2S ss ts) : pinsA ts = pinsA ss := by
 funext v
 have e : ∀ xs : List L2V, pinsA xs v = (xs.map (fun s => rowsL s.x)).any (fun r => readsR r v) := fun xs => by simp [pinsA, List.any_map, Function.comp_def]
 rw [e, e, rows_map hl h]
theorem catP_copies {ts : List L2V} (hl : ts.length = ss.length) (h : copiesL2S ss ts) : catP ts = catP ss := by
 have e : ∀ xs : List L2V, catP xs = (xs.map (fun s => rowsL s.x)).foldl rowsP pots3 := fun xs => by rw [catP, actsP, List.foldl_map]
 rw [e, e, rows_map hl h]
theorem icatpins_at (v : Bool) (R : Nat -> Bool) {ad : Option Addr} {N cap : Nat} (gs : List L2V) {w : World} (hN : gs.length = N) (hF : LSG w ad gs) (hN1 : N <= 1048576) (hv : catB N gs = v) (hR : pinsA gs = R) :
  Calls Tryz.prog 81 #[.slice ad N cap] w fun e w' => ∃ a cp, e = .returned (.slice a (lenB v) cp) /\ Below w.heap.size w w' /\ (v = false \/ (v = true /\ ∃ G, a = some ⟨G, 0, none⟩ /\ w.heap.size <= G /\ OwnBB w' G R)) := by
 refine (icatpins_any ad N cap gs w hN hF hN1).mono ?_;rintro e w' ⟨b, ⟨h, rfl⟩ | ⟨h, G, cG, rfl, hG, o⟩⟩
 ·rw [hv] at h; subst h
  exact ⟨_, 0, rfl, b, Or.inl rfl⟩
 rw [hv] at h; subst h; subst hR
 exact ⟨_, cG, rfl, b, Or.inr ⟨rfl, G, rfl, hG, o⟩⟩
def catT (v : Bool) (ps : List (List Int)) : List (List Int) := if v then ps else []
def tF (T : List (List Int)) (i : Nat) : List Int := T[i]?.getD []
theorem map_at (h : ts.map IV.x = T) {i : Nat} (hi : i < T.length) : (ts[i]?.getD noI).x = tF T i := by
 subst h;rw [List.length_map] at hi;rw [tF, List.getElem?_map, qB hi]; rfl
theorem map_len (h : ts.map IV.x = T) : ts.length = T.length := by rw [<- h, List.length_map]
def UF (W : World) (a : Option Addr) (lo : Nat) (T : List (List Int)) (f : Nat -> List Int) : Prop := ∃ G ts bs, SL W a G T.length ts bs f /\ ts.map IV.x = T /\ (∀ i, i < T.length -> (ts[i]?.getD noI).n = 3) /\ (0 < T.length -> lo <= G) /\ ∀ j, j < T.length -> lo <= bs j
theorem UF.below {f : Nat -> List Int} (h : UF W a lo T f) (b : Below W.heap.size W W') : UF W' a lo T f := by
 obtain ⟨G, ts, bs, s, r⟩ := h
 exact ⟨G, ts, bs, s.below b, r⟩
theorem UF.touch {S : Nat -> Prop} {f : Nat -> List Int} (h : UF W a lo T f) (t : Touch S W W') (hs : ∀ k, S k -> k < lo) : UF W' a lo T f := by
 obtain ⟨G, ts, bs, s, r1, r2, r3, r4⟩ := h
 exact ⟨G, ts, bs, s.touch t (fun h0 hh => by have := hs _ hh; have := r3 h0; omega) (fun j hj hh => by have := hs _ hh; have := r4 j hj; omega), r1, r2, r3, r4⟩
theorem UF.isg (h : UF W a lo T (tF T)) : ∃ ts, ISG W a ts /\ ts.map IV.x = T := by
 obtain ⟨G, ts, bs, s, r1, r2, _⟩ := h
 exact ⟨ts, (s.ext (fun j hj => (map_at r1 hj).symm)).isg (map_len r1) r2, r1⟩
theorem icatforms_at (T : List (List Int)) {ad : Option Addr} {N cap : Nat} (gs : List L2V) {w : World} (hN : gs.length = N) (hF : LSG w ad gs) (hN1 : N <= 1048576) (hT : catT (catB N gs) (catP gs) = T) :
  Calls Tryz.prog 79 #[.slice ad N cap] w fun e w' => ∃ a cp, e = .returned (.slice a T.length cp) /\ Below w.heap.size w w' /\ UF w' a w.heap.size T (tF T) := by
 refine (icatforms_any ad N cap gs w hN hF hN1).mono ?_;rintro e w' ⟨b, ⟨h, rfl⟩ | ⟨h, G, cG, ts, bs, rfl, hx, jo⟩⟩
 ·rw [h, catT] at hT;simp only [Bool.false_eq_true, if_false] at hT;subst hT
  exact ⟨_, 0, rfl, b, 0, [], fun _ => 0, SL.none _ _ _ _ _ _, rfl, fun i hi => by simp at hi, fun h => by simp at h, fun j hj => by simp at hj⟩
 rw [h, catT] at hT;simp only [if_true] at hT;rw [hT] at hx jo ⊢;have hl := map_len hx;have s := jo.sl hl;refine ⟨_, cG, rfl, b, G, ts, bs, s.ext (fun j hj => map_at hx hj), hx, fun i hi => (jo.k i (by omega)).1, fun _ => (jo.blk (g := G) rfl).1, fun j hj => (jo.k j (by omega)).2.2.1⟩
def stillTo (R : Nat -> Bool) (E : List Int) (k : Nat) : Bool := (List.range k).all fun v => !(R v && decide (E[v]?.getD 0 ≠ 0))
def stillB (R : Nat -> Bool) (E : List Int) : Bool := stillTo R E 3
theorem still_succ (R : Nat -> Bool) (E : List Int) (k : Nat) : stillTo R E (k + 1) = (stillTo R E k && !(R k && decide (E[k]?.getD 0 ≠ 0))) := by
 rw [stillTo, List.range_succ, List.all_append]; simp [stillTo]
theorem still_no {R : Nat -> Bool} (h : k < 3) (h1 : R k = true) (h2 : E[k]?.getD 0 ≠ 0) : stillB R E = false := by
 rw [stillB, stillTo, List.all_eq_false]
 exact ⟨k, by simpa using h, by simp [h1, h2]⟩
theorem still_go {R : Nat -> Bool} (h : stillTo R E k = true) (h1 : R k = false \/ E[k]?.getD 0 = 0) : stillTo R E (k + 1) = true := by
 rw [still_succ, h]
 rcases h1 with h1 | h1 <;> simp [h1]
theorem sstillB_any {c : Option Addr} (R : Nat -> Bool) (E : List Int) {w : World} (hR : BA w a 3 R) (hE : Ints w c 3 E) :
  Calls Tryz.prog 41 #[.slice a 3 cap, .slice c 3 cap'] w fun e w' => e = .returned (.bool (stillB R E)) /\ w' = w := by
 go_enter Tryz.func41, Tryz.ntmps41
 go_wp2_with fail
 go_loop [5] (fun i => ∃ k : Nat, k <= 3 /\ i = .int .i64 k /\ stillTo R E k = true) (fun i => 3 - (intOf i).toNat)
 case atStart => exact ⟨0, Nat.zero_le _, rfl, rfl⟩
 case round =>
  obtain ⟨k, hk, rfl, hall⟩ := hrel;have HA : Hid _ := hall;clear hall
  by_cases hlt : k < 3
  ·obtain ⟨b, off, rfl, hc⟩ := hR k hlt;obtain ⟨b', off', rfl, hcell'⟩ := hE.pos (by omega);have hd := hcell' k hlt;clear hcell';have hlt' : (k : Int) < 3 := by omega
   cases h1 : R k
   ·rw [h1] at hc
    go_wp2
    go_round
    case rel => exact ⟨k + 1, by omega, by go_num, still_go HA.out (Or.inl h1)⟩
    case measure => simp [intOf]; omega
   rw [h1] at hc
   cases h2 : (E[k]?.getD 0 != 0)
   ·have h2' : E[k]?.getD 0 = 0 := by simpa using h2
    have H2 : Hid _ := h2';clear h2'
    go_wp2
    go_round
    case rel => exact ⟨k + 1, by omega, by go_num, still_go HA.out (Or.inr H2.out)⟩
    case measure => simp [intOf]; omega
   have H2 : Hid (E[k]?.getD 0 ≠ 0) := by show _ ≠ _; simpa using h2
   go_wp2
   go_ret
   exact ⟨ret_bool (by rw [still_no hlt h1 H2.out]), rfl⟩
  obtain rfl : k = 3 := by omega
  go_wp2
  go_ret
  exact ⟨ret_bool (by rw [stillB, HA.out]), rfl⟩
theorem ipinned_any {c : Option Addr} (R : Nat -> Bool) (E : List Int) {w : World} (hR : BA w a 3 R) (hE : Ints w c 3 E) :
  Calls Tryz.prog 80 #[.slice a 3 cap, .slice c 3 cap'] w fun e w' => e = .returned (.bool (!stillB R E)) /\ w' = w := by
 go_enter Tryz.func80, Tryz.ntmps80
 go_wp2_with fail
 go_loop [5, 6, 9] (fun _ _ i => ∃ k : Nat, k <= 3 /\ i = .int .i64 k /\ stillTo R E k = true) (fun _ _ i => 3 - (intOf i).toNat)
 case atStart => exact ⟨0, Nat.zero_le _, rfl, rfl⟩
 case round =>
  obtain ⟨k, hk, rfl, hall⟩ := hrel;have HA : Hid _ := hall;clear hall
  by_cases hlt : k < 3
  ·obtain ⟨b, off, rfl, hc⟩ := hR k hlt;obtain ⟨b', off', rfl, hcell'⟩ := hE.pos (by omega);have hd := hcell' k hlt;clear hcell';have hlt' : (k : Int) < 3 := by omega
   cases h1 : R k
   ·rw [h1] at hc
    go_wp2
    go_round
    case rel => exact ⟨k + 1, by omega, by go_num, still_go HA.out (Or.inl h1)⟩
    case measure => simp [intOf]; omega
   rw [h1] at hc
   cases h2 : (E[k]?.getD 0 != 0)
   ·have h2' : E[k]?.getD 0 = 0 := by simpa using h2
    have H2 : Hid _ := h2';clear h2'
    go_wp2
    go_round
    case rel => exact ⟨k + 1, by omega, by go_num, still_go HA.out (Or.inr H2.out)⟩
    case measure => simp [intOf]; omega
   have H2 : Hid (E[k]?.getD 0 ≠ 0) := by show _ ≠ _; simpa using h2
   go_wp2
   go_ret
   exact ⟨ret_bool (by rw [still_no hlt h1 H2.out]; rfl), rfl⟩
  obtain rfl : k = 3 := by omega
  go_wp2
  go_ret
  exact ⟨ret_bool (by rw [stillB, HA.out]; rfl), rfl⟩
def keepT (n m : Nat) (C D : List Int) (T : List (List Int)) (s : Int) (k : Nat) (E : List Int) : Bool := keepB n m C D (T.map fun x => ⟨none, x.length, 0, x⟩) s k E
theorem keep_of (h : ISG w a ts) (hT : ts.map IV.x = T) {n m : Nat} {C D : List Int} {s : Int} {k : Nat} {E : List Int} : keepB n m C D ts s k E = keepT n m C D T s k E := by
 have hl := map_len hT;refine keepB_copy (by simp [hl]) (fun i hi => ?_);obtain ⟨b, off, -, -, hI, -⟩ := h i hi;have e := map_at hT (i := i) (by omega)
 have e2 : ((T.map fun x => (⟨none, x.length, 0, x⟩ : IV))[i]?.getD noI) = ⟨none, (tF T i).length, 0, tF T i⟩ := by
  rw [List.getElem?_map, tF, qB (by omega)]; rfl
 rw [e2]
 exact ⟨by show _ = _; rw [<- hI.1, e], e⟩
theorem keepT_elim {m : Nat} {C D : List Int} {s : Int} (h : keepT n m C D T s k E = true) : okN 3 10000 n C = true /\ inB s 0 ((m : Int) - 1) = true /\ k = 3 := by
 have hv : viewB n m C D (T.map fun x => ⟨none, x.length, 0, x⟩) s k E = true := by
  simp only [keepT, keepB, Bool.and_eq_true] at h
  exact h.1
 have e := viewB_elim hv;simp only [viewB, trtB, Bool.and_eq_true] at hv
 exact ⟨hv.1.1, hv.2.2.1, e.2.2.2.2.2.2.2.1⟩
theorem goW_guardsW (f : Nat) : ∀ (i : Nat) (y : Way) (r : RowM), r ∈ goW ls f i y -> r.guards.length <= y.guards.length + f := by
 induction f with
 | zero =>
  intro i y r h;simp only [goW, List.mem_singleton] at h;subst h;simp [endW]
 | succ f ih =>
  intro i y r h;rw [goW] at h
  by_cases hi : i < ls.length
  ·rw [if_pos hi] at h
   by_cases h1 : (ls[i]?.getD noLV).kind = 1
   ·rw [if_pos h1, List.mem_append] at h
    rcases h with h | h
    iterate 2
     ·have := ih _ _ _ h;simp only [Way.guard, List.length_append, qC, List.length_nil] at this
      omega
   rw [if_neg h1] at h
   by_cases h2 : (ls[i]?.getD noLV).kind = 2
   ·rw [if_pos h2] at h;have := ih _ _ _ h;simp only [Way.add] at this
    omega
   rw [if_neg h2] at h
   by_cases h3 : (ls[i]?.getD noLV).kind = 3
   ·rw [if_pos h3] at h;have := ih _ _ _ h;simp only [Way.tell] at this
    omega
   rw [if_neg h3, List.mem_singleton] at h;subst h;simp only [stopW]
   omega
  rw [if_neg hi, List.mem_singleton] at h;subst h;simp only [endW]
  omega
theorem addP_mostW (ps : List (List Int)) (p : List Int) : (addPb ps p).length <= ps.length + 1 := by
 unfold addPb
 split
 ·omega
 simp
theorem guardsP_mostW (fs : List Frm) : ∀ ps : List (List Int), (guardsP ps fs).length <= ps.length + fs.length := by
 induction fs with
 | nil => intro ps; simp [guardsP]
 | cons f fs ih =>
  intro ps;have h1 := ih (addPb ps (partL f.1));have h2 := addP_mostW ps (partL f.1);have e : guardsP ps (f :: fs) = guardsP (addPb ps (partL f.1)) fs := rfl;rw [e, qC]
  omega
theorem rowsP_mostW (rs : List RowM) (M : Nat) : ∀ ps : List (List Int), (∀ r ∈ rs, r.guards.length <= M) -> (rowsP ps rs).length <= ps.length + rs.length * M := by
 induction rs with
 | nil => intro ps _; simp [rowsP]
 | cons r rs ih =>
  intro ps h;have h1 := ih (guardsP ps r.guards) (fun x hx => h x (List.mem_cons_of_mem _ hx));have h2 := guardsP_mostW r.guards ps;have h3 := h r List.mem_cons_self;have e : rowsP ps (r :: rs) = rowsP (guardsP ps r.guards) rs := rfl;rw [e, qC, Nat.succ_mul]
  omega
theorem actsP_mostW (ss : List L2V) : ∀ ps : List (List Int), (actsP ps ss).length <= ps.length + ss.length * 896 := by
 induction ss with
 | nil => intro ps; simp [actsP]
 | cons s ss ih =>
  intro ps;have h1 := ih (rowsP ps (rowsL s.x));have h2 := rowsP_mostW (rowsL s.x) 7 ps (fun r hr => by have := goW_guardsW 7 0 way0 r hr; simpa [way0] using this);have h3 : (rowsL s.x).length <= 128 := goW_128 (by omega);have h4 : (rowsL s.x).length * 7 <= 128 * 7 := Nat.mul_le_mul_right _ h3;have e : actsP ps (s :: ss) = actsP (rowsP ps (rowsL s.x)) ss := rfl;rw [e, qC]
  omega
theorem catP_lenW (h : ss.length <= 4) : (catP ss).length <= 600000 := by
 have h1 := actsP_mostW ss pots3;have h2 : pots3.length = 3 := rfl
 show (actsP pots3 ss).length <= 600000
 omega
abbrev resP (code : Int) (a : Option Addr) (n cap : Nat) : Value := .agg #[.int .i64 code, .slice a n cap]
theorem szR_any {l : Int} (hn : n <= maxLen) (h0 : 0 <= l) (hl : l <= 1048576) :
  Calls Tryz.prog 55 #[resP code a n cap, .int .i64 l] w fun e w' => e = .returned (.int .i64 (leftOf l n)) /\ Below w.heap.size w w' := by
 have g1 := leftOf_ge l n
 by_cases h : leftOf l n < 0
 ·go_enter Tryz.func55, Tryz.ntmps55
  go_wp2_with fail
  refine (sz_any _ _ _ _ _ hn h0 hl).mono ?_;rintro e w1 ⟨rfl, rfl⟩
  go_wp2
  go_ret
  exact ⟨ret_int (by omega), bal⟩
 go_enter Tryz.func55, Tryz.ntmps55
 go_wp2_with fail
 refine (sz_any _ _ _ _ _ hn h0 hl).mono ?_;rintro e w1 ⟨rfl, rfl⟩
 go_wp2
 go_ret
 exact ⟨ret_int rfl, bal⟩
theorem toR_any (C : List Int) {w : World} (hC : Ints w a n C) (hn : n <= 1048576) :
  Calls Tryz.prog 73 #[resP code a n cap] w fun e w' => ∃ B1, e = .returned (resP code (some ⟨B1, 0, none⟩) n n) /\ Below w.heap.size w w' /\ w.heap.size <= B1 /\ Blk w' B1 C := by
 go_enter Tryz.func73, Tryz.ntmps73
 go_wp2_with fail
 refine (to_any _ (((hC.alloc _).alloc _).alloc _) hn).mono ?_;rintro e w1 ⟨rfl, b1, k1⟩;have p1 := ((Cel.new (w.alloc _) _ _).alloc _).below b1;have p2 := (Cel.new ((w.alloc _).alloc _) _ _).below b1;rw [qA] at p1;rw [qA, qA] at p2;rw [qA, qA, qA] at k1;have s1 := k1.lt;have B1 : Below w.heap.size w w1 := (((bal).alloc (by simp) _).alloc (by simp; omega) _).trans (b1.mono (by simp; omega));clear b1;have g0 := p2.cell 0;have g1 := p2.cell 1;have g2 := p2.free 1;have g6 := p1.cell 0;have g7 := p1.cell 1;have g9 := p1.free 0;have g10 := p1.free 1;simp only [List.getElem?_cons_zero, List.getElem?_cons_succ] at g0 g1 g6 g7;have hlt1 : w.heap.size + 1 < w1.heap.size := by omega
 have hlt2 : w.heap.size + 1 + 1 < w1.heap.size := by omega
 go_wp2
 refine bodyPost_ret (v := resP code (some ⟨w.heap.size + 1 + 1 + 1, 0, none⟩) n n) (by simp [results, Tryz.results73, go_sem, g6, g7]) rfl ⟨_, rfl, ?_, by omega, ?_⟩
 ·exact (((B1.setCell (by simp only []; omega) _).setCell (by simp only []; omega) _).setCell (by simp only []; omega) _)
 exact (((k1.so).so).so)
theorem eqR_same {a' : Option Addr} (tl : List Int) {w : World} (h : Ints w a n tl) (h' : Ints w a' n tl) (hn : n <= 1048576) :
  Calls Tryz.prog 93 #[resP code a n cap, resP code a' n cap'] w fun e w' => e = .returned (.bool true) /\ Below w.heap.size w w' := by
 have hc : (code != code) = false := by simp
 have HE := eqB_refl tl
 go_enter Tryz.func93, Tryz.ntmps93
 go_wp2_with fail
 refine (eq_any tl tl ((h.alloc _).alloc _) ((h'.alloc _).alloc _) hn hn).mono ?_;rintro e w1 ⟨rfl, b1⟩;rw [HE]
 go_wp2
 go_ret
 exact ⟨rfl, ((bal).alloc (by simp) _).trans (b1.mono (by simp; omega))⟩
end Go.Proofs.YtfmpcihghlnlnaaGreatDoor
