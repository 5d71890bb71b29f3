/-
  Lemmas that the claim's last text rests on.
-/
import Derived.Test.YtacfoeekmcnpjaaGreatDoorQF
namespace Go.Proofs.YtacfoeekmcnpjaaGreatDoor
open Go.ChangeShapes Go.WideShapes Go.ChangeAt Go.RowKit Go.Joins Go.Deep
open List renaming set_cons_zero → qA, set_cons_succ → qB, getElem?_eq_getElem → qC, getElem?_cons_zero → qD, getElem?_cons_succ → qE, getElem?_set_ne → qF, length_append → qG, getElem?_append_right → qH, getElem?_append_left → qI, getElem?_set_self → qJ, length_singleton → qM
open Nat renaming le_refl → qK, zero_le → qL
set_option linter.unusedVariables false
set_option maxRecDepth 100000
set_option maxHeartbeats 25600000
variable {B Bq G N b0 bc bn cap dn gn k kn n sn : Nat} {W W' w : World} {a ad ba da ga ka sa : Option Addr} {bs : Nat -> Nat} {bx : List Int} {cl r : Int} {dx : List DV} {f : Nat -> DV} {gx : List GV} {kx : List QV} {p : List MemPlace} {ss ts : List L2V} {t : TypeId} {u : Bool} {v : Value}
abbrev plV (cl : Int) (ad : Option Addr) (N cap : Nat) (ga : Option Addr) (gn gc : Nat) (sa : Option Addr) (sn sc : Nat) : Value := .agg #[.int .i64 cl, .slice ad N cap, .slice ga gn gc, .slice sa sn sc]
structure PlAt (w : World) (ad : Option Addr) (N : Nat) (ss : List L2V) (ga : Option Addr) (gn : Nat) (G : List Int) (sa : Option Addr) (sn : Nat) (S : List Int) : Prop where
 a : LSG w ad ss
 ha : ss.length = N
 za : N <= 1048576
 g : Ints w ga gn G
 zg : gn <= 1048576
 s : Ints w sa sn S
 zs : sn <= 1048576
theorem PlAt.below {w' : World} {G : List Int} {S : List Int} (h : PlAt w ad N ss ga gn G sa sn S) (b : Below w.heap.size w w') : PlAt w' ad N ss ga gn G sa sn S :=
 ⟨h.a.below b, h.ha, h.za, h.g.below b, h.zg, h.s.below b, h.zs⟩
theorem PlAt.alloc {G : List Int} {S : List Int} (h : PlAt w ad N ss ga gn G sa sn S) (o : Obj) : PlAt (w.alloc o) ad N ss ga gn G sa sn S :=
 h.below (bal)
theorem Cel.quadP {x y z u : Value} (h : Cel w B [x, y, z, u] t) : w.cell? ⟨B, 0, none⟩ = some x /\ w.cell? ⟨B, 1, none⟩ = some y /\ w.cell? ⟨B, 2, none⟩ = some z /\ w.cell? ⟨B, 3, none⟩ = some u := ⟨h.cell 0, h.cell 1, h.cell 2, h.cell 3⟩
structure BP (w : World) (B : Nat) (la : List Value) (ty : TypeId) (W : World) : Prop where
 p : Cel W B la ty
 b : Below w.heap.size w W
theorem BP.new (w : World) (la : List Value) (ty : TypeId) : BP w w.heap.size la ty (w.alloc (.cells la.toArray ty)) := ⟨Cel.new w la ty, bal⟩
theorem BP.below {la : List Value} {ty : TypeId} (h : BP w B la ty W) (b : Below W.heap.size W W') : BP w B la ty W' := ⟨h.p.below b, h.b.trans (b.mono h.b.size)⟩
theorem BP.alloc {la : List Value} {ty : TypeId} (h : BP w B la ty W) (o : Obj) : BP w B la ty (W.alloc o) := h.below (bal)
theorem ML2.setLow (h : ML2 W B N ts) {X : Nat} (hX : X < B) (i : Nat) (v : Value) : ML2 (W.setCell ⟨X, i, none⟩ v) B N ts := by
 have T : Touch (fun x => x = X) W (W.setCell ⟨X, i, none⟩ v) := Touch.setCell (S := fun x => x = X) (Touch.refl _ _) rfl _
 obtain ⟨vs, h1, h2, h3⟩ := h.c
 obtain ⟨c, c1, c2, c3⟩ := h.d
 exact ⟨⟨vs, h1.so, h2, h3⟩, fun i hi => (h.l i hi).touch T (fun x hx => by omega), c, c1, by rw [size_setCell]; exact c2, c3⟩
theorem szP_any (ss : List L2V) {ga : Option Addr} {gn gc : Nat} (G : List Int) {sa : Option Addr} {sn sc : Nat} (S : List Int) {l : Int} {w : World}
  (ha : ss.length = N) (hA : LSM w ad ss) (hN1 : N <= maxLen) (hG : Ints w ga gn G) (hG1 : gn <= maxLen) (hS : Ints w sa sn S) (hS1 : sn <= maxLen) (h0 : 0 <= l) (hl : l <= 1048576) :
  Calls Tryz.prog 26 #[plV cl ad N cap ga gn gc sa sn sc, .int .i64 l] w fun e w' => ∃ r, e = .returned (.int .i64 r) /\ -1 <= r /\ r <= 1048576 /\ (0 <= r -> PlAt w ad N ss ga gn G sa sn S) /\ Below w.heap.size w w' := by
 have n0 := BP.new w [.int .i64 cl, .slice ad N cap, .slice ga gn gc, .slice sa sn sc] 25
 have HA : Hid (ss.length = N) := ha
 clear ha
 go_enter Tryz.func26, Tryz.ntmps26
 go_wp2_with fail
 refine (szL2S_any ss HA.out (hA.below n0.b) hN1 h0 hl).mono ?_
 rintro e w1 ⟨r1, rfl, p1, q1, s1, b1⟩
 have n1 := n0.below b1
 obtain ⟨c0, c1, c2, c3⟩ := n1.p.quadP
 by_cases h1 : r1 < 0
 ·go_wp2
  go_ret
  exact ⟨-1, rfl, by omega, by omega, fun h => by omega, n1.b⟩
 have h1' : 0 <= r1 := by omega
 obtain ⟨zN, sN⟩ := s1 h1'
 have HSN : Hid _ := sN
 clear s1 sN h1
 have g2 := leftOf_ge r1 gn
 obtain ⟨r2, hr2⟩ : ∃ r, r = leftOf r1 gn := ⟨_, rfl⟩
 have HR2 : Hid _ := hr2
 rw [<- hr2] at g2
 clear hr2
 go_wp2_with fail
 refine (sz_any _ _ _ _ _ hG1 h1' q1).mono ?_
 rintro e w2 ⟨rfl, rfl⟩
 rw [<- HR2.out]
 by_cases h2 : r2 < 0
 ·go_wp2
  go_ret
  exact ⟨-1, rfl, by omega, by omega, fun h => by omega, n1.b⟩
 have h2' : 0 <= r2 := by omega
 have z2 := leftOf_le (l := r1) (n := gn) (by rw [<- HR2.out]; exact h2')
 rw [<- HR2.out] at z2
 have g3 := leftOf_ge r2 sn
 obtain ⟨r3, hr3⟩ : ∃ r, r = leftOf r2 sn := ⟨_, rfl⟩
 have HR3 : Hid _ := hr3
 rw [<- hr3] at g3
 clear hr3 h2
 have q2 : r2 <= 1048576 := by omega
 have zg : gn <= 1048576 := by omega
 clear z2
 go_wp2_with fail
 refine (sz_any _ _ _ _ _ hS1 h2' q2).mono ?_
 rintro e w2 ⟨rfl, rfl⟩
 rw [<- HR3.out]
 by_cases h3 : r3 < 0
 ·go_wp2
  go_ret
  exact ⟨-1, rfl, by omega, by omega, fun h => by omega, n1.b⟩
 have h3' : 0 <= r3 := by omega
 have z3 := leftOf_le (l := r2) (n := sn) (by rw [<- HR3.out]; exact h3')
 rw [<- HR3.out] at z3
 have q3 : r3 <= 1048576 := by omega
 have zs : sn <= 1048576 := by omega
 clear z3 h3
 go_wp2
 go_ret
 exact ⟨r3, rfl, by omega, q3, fun _ => ⟨hA.g HSN.out, HA.out, zN, hG, zg, hS, zs⟩, n1.b⟩
theorem toP_sep (cl : Int) (ad : Option Addr) (N cap : Nat) (ss : List L2V) (ga : Option Addr) (gn gc : Nat) (G : List Int) (sa : Option Addr) (sn sc : Nat) (S : List Int) (w : World) (h : PlAt w ad N ss ga gn G sa sn S) :
  Calls Tryz.prog 29 #[plV cl ad N cap ga gn gc sa sn sc] w fun e w' => ∃ B1 B2 B3 ts, e = .returned (plV cl (some ⟨B1, 0, none⟩) N N (some ⟨B2, 0, none⟩) gn gn (some ⟨B3, 0, none⟩) sn sn) /\
   ts.length = N /\ copiesL2S ss ts /\ Below w.heap.size w w' /\ ML2 w' B1 N ts /\ Blk w' B2 G /\ Blk w' B3 S /\ w.heap.size <= B1 /\ B2 < B3 /\ B3 < w'.heap.size /\ (∃ c : Nat -> Nat, B1 < c 0 /\ c N <= B2 /\ ∀ i, i < N -> c i <= c (i + 1) /\ InR (c i) (c (i + 1)) (ts[i]?.getD noL)) := by
 have HN : Hid (ss.length = N) := h.ha
 have za := h.za
 have zg := h.zg
 have zs := h.zs
 go_enter Tryz.func29, Tryz.ntmps29
 go_wp2_with fail
 refine (toL2S_any ss HN.out (((h.alloc _).alloc _).alloc _).a za).mono ?_
 rintro e w1 ⟨ts, rfl, lt, cp, b1, m1⟩
 have HT : Hid (ts.length = N) := lt
 have HC : Hid (copiesL2S ss ts) := cp
 clear lt cp
 have p0 := (((Cel.new w _ _).alloc _).alloc _).below b1
 have pr := ((Cel.new (w.alloc _) _ _).alloc _).below b1
 have px := (Cel.new ((w.alloc _).alloc _) _ _).below b1
 rw [World.size_alloc] at pr
 rw [World.size_alloc, World.size_alloc] at px
 rw [World.size_alloc, World.size_alloc, World.size_alloc] at m1
 have s1 := m1.lt
 have HD : Hid (∃ c : Nat -> Nat, w.heap.size + 1 + 1 + 1 < c 0 /\ c N <= w1.heap.size /\ ∀ i, i < N -> c i <= c (i + 1) /\ InR (c i) (c (i + 1)) (ts[i]?.getD noL)) := by
  obtain ⟨c, c1, c2, c3⟩ := m1.d
  rw [HT.out] at c2 c3
  exact ⟨c, c1, c2, c3⟩
 have B1 : Below w.heap.size w w1 := (((bal).alloc (by simp) _).alloc (by simp; omega) _).trans (b1.mono (by simp; omega))
 clear b1
 obtain ⟨c0, c1, c2, c3⟩ := p0.quadP
 obtain ⟨d0, d1, d2, d3⟩ := px.quadP
 have f0 := px.free 1
 go_wp2_with fail
 have B1s := B1.setCell (p := ⟨w.heap.size + 1 + 1, 1, none⟩) (by show w.heap.size <= w.heap.size + 1 + 1; omega) (Value.slice (some ⟨w.heap.size + 1 + 1 + 1, 0, none⟩) N N)
 refine (to_any G (h.below B1s).g zg).mono ?_
 rintro e w2 ⟨rfl, b2, k2⟩
 clear c0 c1 c2 c3 d0 d1 d2 d3 f0
 have r0 := (p0.so).below b2
 have rr := (pr.so).below b2
 have rx := (px.set _ _).below b2
 have n1 := (m1.setLow (X := w.heap.size + 1 + 1) (by omega) 1 _).below b2
 have B2 := btq B1s b2
 rw [size_setCell] at k2
 have s2 := k2.lt
 clear p0 pr px m1 b2 B1 B1s
 simp only [qA, qB] at rx
 obtain ⟨c0, c1, c2, c3⟩ := r0.quadP
 obtain ⟨d0, d1, d2, d3⟩ := rx.quadP
 have f0 := rx.free 2
 go_wp2_with fail
 have B2s := B2.setCell (p := ⟨w.heap.size + 1 + 1, 2, none⟩) (by show w.heap.size <= w.heap.size + 1 + 1; omega) (Value.slice (some ⟨w1.heap.size, 0, none⟩) gn gn)
 refine (to_any S (h.below B2s).s zs).mono ?_
 rintro e w3 ⟨rfl, b3, k3⟩
 clear c0 c1 c2 c3 d0 d1 d2 d3 f0
 have tr := (rr.so).below b3
 have tx := (rx.set _ _).below b3
 have n1' := (n1.setLow (X := w.heap.size + 1 + 1) (by omega) 2 _).below b3
 have k2' := (k2.setOther (B' := w.heap.size + 1 + 1) (by omega) 2 _).below b3
 have B3 := btq B2s b3
 rw [size_setCell] at k3
 have s3 := k3.lt
 clear r0 rr rx n1 k2 b3 B2 B2s
 simp only [qA, qB] at tx
 obtain ⟨d0, d1, d2, d3⟩ := tx.quadP
 obtain ⟨e0, e1, e2, e3⟩ := tr.quadP
 have f0 := tx.free 3
 have f2 := tr.free 0
 have f3 := tr.free 1
 have f4 := tr.free 2
 have f5 := tr.free 3
 have hlt1 : w.heap.size + 1 < w3.heap.size := by omega
 have hlt2 : w.heap.size + 1 + 1 < w3.heap.size := by omega
 go_wp2
 refine bodyPost_ret (v := plV cl (some ⟨w.heap.size + 1 + 1 + 1, 0, none⟩) N N (some ⟨w1.heap.size, 0, none⟩) gn gn (some ⟨w2.heap.size, 0, none⟩) sn sn) (by simp [results, Tryz.results29, go_sem, e0, e1, e2, e3]) rfl ⟨_, _, _, ts, rfl, HT.out, HC.out, ?_, ?_, ?_, ?_, by omega, by omega, by simp only [size_setCell]; omega, HD.out⟩
 ·exact ((((B3.setCell (by simp only []; omega) _).setCell (by simp only []; omega) _).setCell (by simp only []; omega) _).setCell (by simp only []; omega) _).setCell (by simp only []; omega) _
 ·exact ((((n1'.setLow (by omega) _ _).setLow (by omega) _ _).setLow (by omega) _ _).setLow (by omega) _ _).setLow (by omega) _ _
 ·exact ((((k2'.so).so).so).so).so
 ·exact ((((k3.so).so).so).so).so
theorem toP_any (ss : List L2V) {ga : Option Addr} {gn gc : Nat} (G : List Int) {sa : Option Addr} {sn sc : Nat} (S : List Int) {w : World} (h : PlAt w ad N ss ga gn G sa sn S) :
  Calls Tryz.prog 29 #[plV cl ad N cap ga gn gc sa sn sc] w fun e w' => ∃ B1 B2 B3 ts, e = .returned (plV cl (some ⟨B1, 0, none⟩) N N (some ⟨B2, 0, none⟩) gn gn (some ⟨B3, 0, none⟩) sn sn) /\
   ts.length = N /\ copiesL2S ss ts /\ Below w.heap.size w w' /\ ML2 w' B1 N ts /\ Blk w' B2 G /\ Blk w' B3 S :=
 (toP_sep cl ad N cap ss ga gn gc G sa sn sc S w h).mono fun e w' hx => by
  obtain ⟨B1, B2, B3, ts, h1, h2, h3, h4, h5, h6, h7, _⟩ := hx
  exact ⟨B1, B2, B3, ts, h1, h2, h3, h4, h5, h6, h7⟩
theorem copies_mapP (hl : ts.length = ss.length) (h : copiesL2S ss ts) : ts.map L2V.ok = ss.map L2V.ok := by
 apply List.ext_getElem?
 intro i
 by_cases hi : i < ts.length
 ·obtain ⟨e1, e2, e3⟩ := h i hi
  have : (ts[i]?.getD noL).ok = (ss[i]?.getD noL).ok := by rw [L2V.ok, L2V.ok, e1]; exact copiesL_act e2 e3
  rw [qC hi, qC (by omega)] at this
  simp only [Option.getD_some] at this
  rw [List.getElem?_map, List.getElem?_map, qC hi, qC (by omega)]
  simp [this]
 ·rw [List.getElem?_eq_none (by simp; omega), List.getElem?_eq_none (by simp; omega)]
theorem copies_catP (hl : ts.length = ss.length) (h : copiesL2S ss ts) : catB N ts = catB N ss := by
 have h3 := copies_mapP hl h
 have e1 : ∀ xs : List L2V, xs.all L2V.ok = (xs.map L2V.ok).all id := fun xs => by simp [List.all_map]
 rw [catB, catB, e1, e1, h3]
theorem copies_sameP {us : List L2V} (h1 : ts.length = N) (h2 : us.length = N) (c1 : copiesL2S ss ts) (c2 : copiesL2S ss us) (hl : ∀ i, i < N -> (ts[i]?.getD noL).x.length = (ts[i]?.getD noL).n) : ∀ i, i < N -> sameL2 (ts[i]?.getD noL) (us[i]?.getD noL) := fun i hi => by
 obtain ⟨a1, a2, a3⟩ := c1 i (by omega)
 obtain ⟨b1, b2, b3⟩ := c2 i (by omega)
 refine ⟨by rw [a1, b1], fun j hj => ?_⟩
 have e1 := hl i hi
 exact copiesL_same (N := (ts[i]?.getD noL).n) e1 (by rw [b2, <- a2]; exact e1) a3 b3 j hj
theorem ML2.lens (h : ML2 W B N ts) (hl : ts.length = N) : ∀ i, i < N -> (ts[i]?.getD noL).x.length = (ts[i]?.getD noL).n := fun i hi => by
 obtain ⟨b, off, _, _, h⟩ := h.g i (by rw [hl]; exact hi)
 exact h.1
theorem eqP_same (ss : List L2V) {ga : Option Addr} {gn gc : Nat} (G : List Int) {sa : Option Addr} {sn sc : Nat} (S : List Int) {ad' : Option Addr} {cap' : Nat} (ss' : List L2V) {ga' : Option Addr} {gc' : Nat} {sa' : Option Addr} {sc' : Nat} {w : World}
  (h : PlAt w ad N ss ga gn G sa sn S) (h' : PlAt w ad' N ss' ga' gn G sa' sn S) (hs : ∀ i, i < N -> sameL2 (ss[i]?.getD noL) (ss'[i]?.getD noL)) :
  Calls Tryz.prog 33 #[plV cl ad N cap ga gn gc sa sn sc, plV cl ad' N cap' ga' gn gc' sa' sn sc'] w fun e w' => e = .returned (.bool true) /\ Below w.heap.size w w' := by
 have E1 : Hid _ := hs
 clear hs
 have HG := eqB_refl G
 have HS := eqB_refl S
 have hcl : (cl != cl) = false := by simp
 have n0 := (BP.new w [.int .i64 cl, .slice ad N cap, .slice ga gn gc, .slice sa sn sc] 41).alloc (.cells #[.int .i64 cl, .slice ad' N cap', .slice ga' gn gc', .slice sa' sn sc'] 41)
 have y0 := Cel.new (w.alloc (.cells #[.int .i64 cl, .slice ad N cap, .slice ga gn gc, .slice sa sn sc] 41)) [.int .i64 cl, .slice ad' N cap', .slice ga' gn gc', .slice sa' sn sc'] 41
 rw [World.size_alloc] at y0
 go_enter Tryz.func33, Tryz.ntmps33
 go_wp2_with fail
 refine (eqL2S_same ss ss' h.ha h'.ha ((h.alloc _).alloc _).a ((h'.alloc _).alloc _).a h.za E1.out).mono ?_
 rintro e w1 ⟨rfl, b1⟩
 have n1 := n0.below b1
 have y1 := y0.below b1
 clear n0 y0 b1
 obtain ⟨c0, c1, c2, c3⟩ := n1.p.quadP
 obtain ⟨d0, d1, d2, d3⟩ := y1.quadP
 go_wp2_with fail
 refine (eq_any G G (h.below n1.b).g (h'.below n1.b).g h.zg h.zg).mono ?_
 rintro e w2 ⟨rfl, b2⟩
 rw [HG]
 have n2 := n1.below b2
 have y2 := y1.below b2
 clear n1 y1 b2 c0 c1 c2 c3 d0 d1 d2 d3
 obtain ⟨c0, c1, c2, c3⟩ := n2.p.quadP
 obtain ⟨d0, d1, d2, d3⟩ := y2.quadP
 go_wp2_with fail
 refine (eq_any S S (h.below n2.b).s (h'.below n2.b).s h.zs h.zs).mono ?_
 rintro e w3 ⟨rfl, b3⟩
 rw [HS]
 have n3 := n2.below b3
 go_wp2
 go_ret
 exact ⟨rfl, n3.b⟩
def plnB (cl : Int) (N : Nat) (ss : List L2V) (gn : Nat) (G : List Int) (sn : Nat) (S : List Int) : Bool := inB cl 1 4 && (catB N ss && (okN 3 1000 sn S && trtB sn gn S G))
theorem open_LSC {H : Type} {enc : TypeId × Value -> H} {fuel : Nat} {y : DataW H × List MemPlace}
  (hf : DataW.trod enc Tryz.prog W 0 (fun _ => true) true fuel 22 [v] = some y) :
  ∃ ad N cap ss, v = .slice ad N cap /\ ss.length = N /\ LSM W ad ss /\ N <= maxLen := by
 obtain ⟨ad, N, cap, ss, hv, hl, hN, hall⟩ := open_sliceC noL (fun s => [L2V.v s]) (fun s => LM W s) (c := 1) (by omega) Tryz.underlying22 (by kernel_rfl) (fun _ => rfl) (fun fuel cs x hx => by
  have hl : cs.length = 1 := (trod_lenL Tryz.underlying207 hx)
  match cs, hl with
  | [c], _ =>
   obtain ⟨s, hs, hr⟩ := open_L1 hx
   exact ⟨s, by rw [hs], hr⟩) hf
 refine ⟨ad, N, cap, ss, hv, hl, fun i hi => ?_, hN⟩
 obtain ⟨b, off, e, hc, hr⟩ := hall i hi
 have h0 := hc 0 (by omega)
 simp only [Nat.mul_one, Nat.add_zero, qD] at h0
 exact ⟨b, off, e, h0, hr⟩
theorem open_plan {H : Type} {enc : TypeId × Value -> H} {r : Reach} {d : DataW H}
  (hv : Value.okWide Tryz.prog W r b0 25 v) (h : DataW.Trod enc Tryz.prog W 0 (fun _ => true) true 25 v d p) :
  ∃ cl ad N cap ss ga gn gc G sa sn sc S, v = plV cl ad N cap ga gn gc sa sn sc /\ (Lit.int .i64 cl).wf = true /\ ss.length = N /\ LSM W ad ss /\ N <= maxLen /\ Ints W ga gn G /\ gn <= maxLen /\ Ints W sa sn S /\ sn <= maxLen := by
 obtain ⟨v0, v1, v2, v3, y0, y1, y2, y3, k, rfl, -, -, h0, h1, h2, h3⟩ := open_agg4 Tryz.underlying25 (by kernel_rfl) (by kernel_rfl) hv h
 obtain ⟨cl, rfl, wc⟩ := open_num h0
 obtain ⟨ad, N, cap, ss, rfl, hl, hM, hN⟩ := open_LSC h1
 obtain ⟨ga, gn, gc, G, rfl, hG, hg⟩ := open_row h2
 obtain ⟨sa, sn, sc, S, rfl, hS, hs⟩ := open_row h3
 exact ⟨cl, ad, N, cap, ss, ga, gn, gc, G, sa, sn, sc, S, rfl, wc, hl, hM, hN, hG, hg, hS, hs⟩
theorem Cel.sixP {x y z u t' : Value} (h : Cel w B [x, y, z, u, v, t'] t) : w.cell? ⟨B, 0, none⟩ = some x /\ w.cell? ⟨B, 1, none⟩ = some y /\ w.cell? ⟨B, 2, none⟩ = some z /\ w.cell? ⟨B, 3, none⟩ = some u /\ w.cell? ⟨B, 4, none⟩ = some v /\ w.cell? ⟨B, 5, none⟩ = some t' := ⟨h.cell 0, h.cell 1, h.cell 2, h.cell 3, h.cell 4, h.cell 5⟩
theorem array6 {α : Type} {cs : Array α} (h : cs.size = 6) : ∃ c0 c1 c2 c3 c4 c5, cs = #[c0, c1, c2, c3, c4, c5] := by
 obtain ⟨l⟩ := cs
 match l, h with
 | [c0, c1, c2, c3, c4, c5], _ => exact ⟨c0, c1, c2, c3, c4, c5, rfl⟩
theorem trod_struct6 {H : Type} {enc : TypeId × Value -> H} {f0 f1 f2 f3 f4 f5 : Field} {fuel : Nat} {cs : List Value} {x : DataW H × List MemPlace} (ht : Tryz.prog.underlying t = some (.struct #[f0, f1, f2, f3, f4, f5])) (h : DataW.trod enc Tryz.prog W 0 (fun _ => true) true fuel t cs = some x) :
  ∃ y0 y1 y2 y3 y4 y5 n, DataW.trod enc Tryz.prog W 0 (fun _ => true) true n f0.type ((cs.drop f0.offset).take (Tryz.prog.cellsOf f0.type)) = some y0 /\ DataW.trod enc Tryz.prog W 0 (fun _ => true) true n f1.type ((cs.drop f1.offset).take (Tryz.prog.cellsOf f1.type)) = some y1 /\ DataW.trod enc Tryz.prog W 0 (fun _ => true) true n f2.type ((cs.drop f2.offset).take (Tryz.prog.cellsOf f2.type)) = some y2 /\
   DataW.trod enc Tryz.prog W 0 (fun _ => true) true n f3.type ((cs.drop f3.offset).take (Tryz.prog.cellsOf f3.type)) = some y3 /\ DataW.trod enc Tryz.prog W 0 (fun _ => true) true n f4.type ((cs.drop f4.offset).take (Tryz.prog.cellsOf f4.type)) = some y4 /\ DataW.trod enc Tryz.prog W 0 (fun _ => true) true n f5.type ((cs.drop f5.offset).take (Tryz.prog.cellsOf f5.type)) = some y5 := by
 obtain ⟨xs, n, _, rfl, hl, hlen, hf⟩ := DataW.trod_struct ht h
 match xs, hlen with
 | [y0, y1, y2, y3, y4, y5], _ => exact ⟨y0, y1, y2, y3, y4, y5, n, by simpa using hf 0 f0 rfl, by simpa using hf 1 f1 rfl, by simpa using hf 2 f2 rfl, by simpa using hf 3 f3 rfl, by simpa using hf 4 f4 rfl, by simpa using hf 5 f5 rfl⟩
theorem open_agg6 {H : Type} {enc : TypeId × Value -> H} {r : Reach} {f0 f1 f2 f3 f4 f5 : Field} {d : DataW H} (hs : Tryz.prog.underlying t = some (.struct #[f0, f1, f2, f3, f4, f5])) (hone : oneCellFields Tryz.prog #[f0, f1, f2, f3, f4, f5] = true) (hC : Tryz.prog.cellsOf t = 6)
  (hv : Value.okWide Tryz.prog W r b0 t v) (h : DataW.Trod enc Tryz.prog W 0 (fun _ => true) true t v d p) :
  ∃ (v0 v1 v2 v3 v4 v5 : Value) (y0 y1 y2 y3 y4 y5 : DataW H × List MemPlace) (n : Nat), v = .agg #[v0, v1, v2, v3, v4, v5] /\
   DataW.trod enc Tryz.prog W 0 (fun _ => true) true n f0.type [v0] = some y0 /\ DataW.trod enc Tryz.prog W 0 (fun _ => true) true n f1.type [v1] = some y1 /\ DataW.trod enc Tryz.prog W 0 (fun _ => true) true n f2.type [v2] = some y2 /\ DataW.trod enc Tryz.prog W 0 (fun _ => true) true n f3.type [v3] = some y3 /\ DataW.trod enc Tryz.prog W 0 (fun _ => true) true n f4.type [v4] = some y4 /\ DataW.trod enc Tryz.prog W 0 (fun _ => true) true n f5.type [v5] = some y5 := by
 obtain ⟨cs, rfl, hsz⟩ := okWide_struct hs hv
 obtain ⟨c0, c1, c2, c3, c4, c5, rfl⟩ := array6 (hsz.trans hC)
 obtain ⟨fuel, hf⟩ := h
 obtain ⟨y0, y1, y2, y3, y4, y5, n, h0, h1, h2, h3, h4, h5⟩ := trod_struct6 hs hf
 obtain ⟨o0, k0⟩ := hone_of hone 0 f0 rfl
 obtain ⟨o1, k1⟩ := hone_of hone 1 f1 rfl
 obtain ⟨o2, k2⟩ := hone_of hone 2 f2 rfl
 obtain ⟨o3, k3⟩ := hone_of hone 3 f3 rfl
 obtain ⟨o4, k4⟩ := hone_of hone 4 f4 rfl
 obtain ⟨o5, k5⟩ := hone_of hone 5 f5 rfl
 exact ⟨c0, c1, c2, c3, c4, c5, y0, y1, y2, y3, y4, y5, n, rfl, by simpa [Value.cells, o0, k0] using h0, by simpa [Value.cells, o1, k1] using h1, by simpa [Value.cells, o2, k2] using h2, by simpa [Value.cells, o3, k3] using h3, by simpa [Value.cells, o4, k4] using h4, by simpa [Value.cells, o5, k5] using h5⟩
abbrev ckV (u : Bool) (r : Int) (ba : Option Addr) (bn bc : Nat) (da : Option Addr) (dn dc : Nat) (ka : Option Addr) (kn kc : Nat) (ga : Option Addr) (gn gc : Nat) : Value := .agg #[.bool u, .int .i64 r, .slice ba bn bc, .slice da dn dc, .slice ka kn kc, .slice ga gn gc]
structure CkAt (w : World) (ba : Option Addr) (bn : Nat) (bx : List Int) (da : Option Addr) (dn : Nat) (dx : List DV) (ka : Option Addr) (kn : Nat) (kx : List QV) (ga : Option Addr) (gn : Nat) (gx : List GV) : Prop where
 b : Ints w ba bn bx
 zb : bn <= 1048576
 d : DSG w da dx
 ld : dx.length = dn
 zd : dn <= 1048576
 k : QSG w ka kx
 lk : kx.length = kn
 zk : kn <= 1048576
 g : GSG w ga gx
 lg : gx.length = gn
 zg : gn <= 1048576
theorem CkAt.below {w' : World} (h : CkAt w ba bn bx da dn dx ka kn kx ga gn gx) (hb : Below w.heap.size w w') : CkAt w' ba bn bx da dn dx ka kn kx ga gn gx :=
 ⟨h.b.below hb, h.zb, h.d.below hb, h.ld, h.zd, h.k.below hb, h.lk, h.zk, h.g.below hb, h.lg, h.zg⟩
theorem CkAt.alloc (h : CkAt w ba bn bx da dn dx ka kn kx ga gn gx) (o : Obj) : CkAt (w.alloc o) ba bn bx da dn dx ka kn kx ga gn gx := h.below (bal)
theorem CkAt.drewS (h : CkAt w ba bn bx da dn dx ka kn kx ga gn gx) : CkAt w.drew ba bn bx da dn dx ka kn kx ga gn gx := h.below (Below.refl _ _).drew
theorem open_clerk {H : Type} {enc : TypeId × Value -> H} {r0 : Reach} {d0 : DataW H}
  (hv : Value.okWide Tryz.prog W r0 b0 31 v) (h : DataW.Trod enc Tryz.prog W 0 (fun _ => true) true 31 v d0 p) :
  ∃ u r ba bn bc bx da dn dc dx ka kn kc kx ga gn gc gx, v = ckV u r ba bn bc da dn dc ka kn kc ga gn gc /\ (Lit.int .i64 r).wf = true /\ Ints W ba bn bx /\ bn <= maxLen /\ dx.length = dn /\ DSM W da dx /\ dn <= maxLen /\ kx.length = kn /\ QSM W ka kx /\ kn <= maxLen /\ gx.length = gn /\ GSM W ga gx /\ gn <= maxLen := by
 obtain ⟨v0, v1, v2, v3, v4, v5, y0, y1, y2, y3, y4, y5, k, rfl, h0, h1, h2, h3, h4, h5⟩ := open_agg6 Tryz.underlying31 (by kernel_rfl) (by kernel_rfl) hv h
 obtain ⟨u, e0, _⟩ := DataW.trod_bool Tryz.underlying4 h0
 obtain rfl : v0 = .bool u := by simpa using e0
 obtain ⟨r, rfl, w1⟩ := open_num h1
 obtain ⟨ba, bn, bc, bx, rfl, i2, n2⟩ := open_row h2
 obtain ⟨da, dn, dc, dx, rfl, l3, m3, n3⟩ := open_DS h3
 obtain ⟨ka, kn, kc, kx, rfl, l4, m4, n4⟩ := open_QS h4
 obtain ⟨ga, gn, gc, gx, rfl, l5, m5, n5⟩ := open_GS h5
 exact ⟨u, r, ba, bn, bc, bx, da, dn, dc, dx, ka, kn, kc, kx, ga, gn, gc, gx, rfl, w1, i2, n2, l3, m3, n3, l4, m4, n4, l5, m5, n5⟩
theorem szCk_any (bx : List Int) {da : Option Addr} {dn dc : Nat} (dx : List DV) {ka : Option Addr} {kn kc : Nat} (kx : List QV) {ga : Option Addr} {gn gc : Nat} (gx : List GV) {l : Int} {w : World} (hb : Ints w ba bn bx) (mb : bn <= maxLen) (ld : dx.length = dn) (hd : DSM w da dx) (md : dn <= maxLen) (lk : kx.length = kn) (hk : QSM w ka kx) (mk : kn <= maxLen) (lg : gx.length = gn) (hg : GSM w ga gx) (mg : gn <= maxLen) (h0 : 0 <= l) (hl : l <= 1048576) :
  Calls Tryz.prog 27 #[ckV u r ba bn bc da dn dc ka kn kc ga gn gc, .int .i64 l] w fun e w' => ∃ r', e = .returned (.int .i64 r') /\ -1 <= r' /\ r' <= 1048576 /\ (0 <= r' -> CkAt w ba bn bx da dn dx ka kn kx ga gn gx) /\ Below w.heap.size w w' := by
 have n0 := BP.new w [.bool u, .int .i64 r, .slice ba bn bc, .slice da dn dc, .slice ka kn kc, .slice ga gn gc] 31
 have Ld : Hid (dx.length = dn) := ld
 clear ld
 have Lk : Hid (kx.length = kn) := lk
 clear lk
 have Lg : Hid (gx.length = gn) := lg
 clear lg
 go_enter Tryz.func27, Tryz.ntmps27
 go_wp2_with fail
 refine (szI_ex bx ⟨hb.below n0.b, mb⟩ h0 hl).mono ?_
 rintro e w1 ⟨r1, rfl, p1, q1, s1, b1⟩
 have n1 := n0.below b1
 obtain ⟨c0, c1, c2, c3, c4, c5⟩ := n1.p.sixP
 by_cases g1 : r1 < 0
 ·go_wp2
  go_ret
  exact ⟨-1, rfl, by omega, by omega, fun h => by omega, n1.b⟩
 have g1' : 0 <= r1 := by omega
 have S1 : Hid _ := s1 g1'
 clear s1 g1 n0 b1
 go_wp2_with fail
 refine (szDS_any dx Ld.out (hd.below n1.b) md g1' q1).mono ?_
 rintro e w2 ⟨r2, rfl, p2, q2, s2, b2⟩
 have n2 := n1.below b2
 clear c0 c1 c2 c3 c4 c5
 obtain ⟨c0, c1, c2, c3, c4, c5⟩ := n2.p.sixP
 by_cases g2 : r2 < 0
 ·go_wp2
  go_ret
  exact ⟨-1, rfl, by omega, by omega, fun h => by omega, n2.b⟩
 have g2' : 0 <= r2 := by omega
 have S2 : Hid _ := s2 g2'
 clear s2 g2 n1 b2
 go_wp2_with fail
 refine (szQS_any kx Lk.out (hk.below n2.b) mk g2' q2).mono ?_
 rintro e w3 ⟨r3, rfl, p3, q3, s3, b3⟩
 have n3 := n2.below b3
 clear c0 c1 c2 c3 c4 c5
 obtain ⟨c0, c1, c2, c3, c4, c5⟩ := n3.p.sixP
 by_cases g3 : r3 < 0
 ·go_wp2
  go_ret
  exact ⟨-1, rfl, by omega, by omega, fun h => by omega, n3.b⟩
 have g3' : 0 <= r3 := by omega
 have S3 : Hid _ := s3 g3'
 clear s3 g3 n2 b3
 go_wp2_with fail
 refine (szGS_any gx Lg.out (hg.below n3.b) mg g3' q3).mono ?_
 rintro e w4 ⟨r4, rfl, p4, q4, s4, b4⟩
 have n4 := n3.below b4
 clear c0 c1 c2 c3 c4 c5
 obtain ⟨c0, c1, c2, c3, c4, c5⟩ := n4.p.sixP
 by_cases g4 : r4 < 0
 ·go_wp2
  go_ret
  exact ⟨-1, rfl, by omega, by omega, fun h => by omega, n4.b⟩
 have g4' : 0 <= r4 := by omega
 have S4 : Hid _ := s4 g4'
 clear s4 g4 n3 b4
 go_wp2
 go_ret
 exact ⟨r4, rfl, by omega, q4, fun _ => ⟨hb, S1.out, hd.g S2.out.2, Ld.out, S2.out.1, hk.g S3.out.2, Lk.out, S3.out.1, hg.g S4.out.2, Lg.out, S4.out.1⟩, n4.b⟩
theorem toCk_any (bx : List Int) {da : Option Addr} {dn dc : Nat} (dx : List DV) {ka : Option Addr} {kn kc : Nat} (kx : List QV) {ga : Option Addr} {gn gc : Nat} (gx : List GV) {w : World} (h : CkAt w ba bn bx da dn dx ka kn kx ga gn gx) :
  Calls Tryz.prog 30 #[ckV u r ba bn bc da dn dc ka kn kc ga gn gc] w fun e w' => ∃ Bb Bd yd Bk yk Bg yg, e = .returned (ckV u r (some ⟨Bb, 0, none⟩) bn bn (some ⟨Bd, 0, none⟩) dn dn (some ⟨Bk, 0, none⟩) kn kn (some ⟨Bg, 0, none⟩) gn gn) /\ yd.length = dn /\ copiesDS dx yd /\ yk.length = kn /\ copiesQS kx yk /\ yg.length = gn /\ copiesGS gx yg /\ Below w.heap.size w w' /\ Blk w' Bb bx /\ MD w' Bd dn yd /\ MQ w' Bk kn yk /\ MG w' Bg gn yg /\ w.heap.size <= Bb /\ Bb < Bd /\ Bd < Bk /\ Bk < Bg := by
 have zb := h.zb
 have zd := h.zd
 have Ld : Hid (dx.length = dn) := h.ld
 have zk := h.zk
 have Lk : Hid (kx.length = kn) := h.lk
 have zg := h.zg
 have Lg : Hid (gx.length = gn) := h.lg
 go_enter Tryz.func30, Tryz.ntmps30
 go_wp2_with fail
 refine (to_any bx (((h.alloc _).alloc _).alloc _).b zb).mono ?_
 rintro e w1 ⟨rfl, b1, kb⟩
 have p0 := (((Cel.new w _ _).alloc _).alloc _).below b1
 have pr := ((Cel.new (w.alloc _) _ _).alloc _).below b1
 have px := (Cel.new ((w.alloc _).alloc _) _ _).below b1
 rw [World.size_alloc] at pr
 rw [World.size_alloc, World.size_alloc] at px
 rw [World.size_alloc, World.size_alloc, World.size_alloc] at kb
 have s1 := kb.lt
 have B1 : Below w.heap.size w w1 := (((bal).alloc (by simp) _).alloc (by simp; omega) _).trans (b1.mono (by simp; omega))
 clear b1
 obtain ⟨c0, c1, c2, c3, c4, c5⟩ := p0.sixP
 obtain ⟨d0, d1, d2, d3, d4, d5⟩ := px.sixP
 have f0 := px.free 2
 go_wp2_with fail
 have B1s := B1.setCell (p := ⟨w.heap.size + 1 + 1, 2, none⟩) (by show w.heap.size <= w.heap.size + 1 + 1; omega) (Value.slice (some ⟨w.heap.size + 1 + 1 + 1, 0, none⟩) bn bn)
 refine (toDS_any dx Ld.out (h.below B1s).d zd).mono ?_
 rintro e w2 ⟨yd, rfl, lgd, cpd, b2, kd⟩
 have LGd : Hid _ := lgd
 have CPd : Hid _ := cpd
 clear lgd cpd
 clear c0 c1 c2 c3 c4 c5 d0 d1 d2 d3 d4 d5 f0
 replace p0 := (p0.so).below b2
 replace pr := (pr.so).below b2
 replace px := (px.set _ _).below b2
 replace kb := (kb.setOther (B' := w.heap.size + 1 + 1) (by omega) 2 _).below b2
 have B2 := btq B1s b2
 rw [size_setCell] at kd
 have s2 := kd.lt
 clear b2 B1 B1s
 simp only [qA, qB] at px
 obtain ⟨c0, c1, c2, c3, c4, c5⟩ := p0.sixP
 obtain ⟨d0, d1, d2, d3, d4, d5⟩ := px.sixP
 have f0 := px.free 3
 go_wp2_with fail
 have B2s := B2.setCell (p := ⟨w.heap.size + 1 + 1, 3, none⟩) (by show w.heap.size <= w.heap.size + 1 + 1; omega) (Value.slice (some ⟨w1.heap.size, 0, none⟩) dn dn)
 refine (toQS_any kx Lk.out (h.below B2s).k zk).mono ?_
 rintro e w3 ⟨yk, rfl, lgk, cpk, b3, kk⟩
 have LGk : Hid _ := lgk
 have CPk : Hid _ := cpk
 clear lgk cpk
 clear c0 c1 c2 c3 c4 c5 d0 d1 d2 d3 d4 d5 f0
 replace p0 := (p0.so).below b3
 replace pr := (pr.so).below b3
 replace px := (px.set _ _).below b3
 replace kb := (kb.setOther (B' := w.heap.size + 1 + 1) (by omega) 3 _).below b3
 replace kd := (kd.setLow (X := w.heap.size + 1 + 1) (by omega) 3 _).below b3
 have B3 := btq B2s b3
 rw [size_setCell] at kk
 have s3 := kk.lt
 clear b3 B2 B2s
 simp only [qA, qB] at px
 obtain ⟨c0, c1, c2, c3, c4, c5⟩ := p0.sixP
 obtain ⟨d0, d1, d2, d3, d4, d5⟩ := px.sixP
 have f0 := px.free 4
 go_wp2_with fail
 have B3s := B3.setCell (p := ⟨w.heap.size + 1 + 1, 4, none⟩) (by show w.heap.size <= w.heap.size + 1 + 1; omega) (Value.slice (some ⟨w2.heap.size, 0, none⟩) kn kn)
 refine (toGS_any gx Lg.out (h.below B3s).g zg).mono ?_
 rintro e w4 ⟨yg, rfl, lgg, cpg, b4, kg⟩
 have LGg : Hid _ := lgg
 have CPg : Hid _ := cpg
 clear lgg cpg
 clear c0 c1 c2 c3 c4 c5 d0 d1 d2 d3 d4 d5 f0
 replace p0 := (p0.so).below b4
 replace pr := (pr.so).below b4
 replace px := (px.set _ _).below b4
 replace kb := (kb.setOther (B' := w.heap.size + 1 + 1) (by omega) 4 _).below b4
 replace kd := (kd.setLow (X := w.heap.size + 1 + 1) (by omega) 4 _).below b4
 replace kk := (kk.setLow (X := w.heap.size + 1 + 1) (by omega) 4 _).below b4
 have B4 := btq B3s b4
 rw [size_setCell] at kg
 have s4 := kg.lt
 clear b4 B3 B3s
 simp only [qA, qB] at px
 obtain ⟨d0, d1, d2, d3, d4, d5⟩ := px.sixP
 obtain ⟨e0, e1, e2, e3, e4, e5⟩ := pr.sixP
 have f0 := px.free 5
 have g0 := pr.free 0
 have g1 := pr.free 1
 have g2 := pr.free 2
 have g3 := pr.free 3
 have g4 := pr.free 4
 have g5 := pr.free 5
 have hlt1 : w.heap.size + 1 < w4.heap.size := by omega
 have hlt2 : w.heap.size + 1 + 1 < w4.heap.size := by omega
 go_wp2
 refine bodyPost_ret (v := ckV u r (some ⟨w.heap.size + 1 + 1 + 1, 0, none⟩) bn bn (some ⟨w1.heap.size, 0, none⟩) dn dn (some ⟨w2.heap.size, 0, none⟩) kn kn (some ⟨w3.heap.size, 0, none⟩) gn gn) (by simp [results, Tryz.results30, go_sem, e0, e1, e2, e3, e4, e5]) rfl ⟨_, _, yd, _, yk, _, yg, rfl, LGd.out, CPd.out, LGk.out, CPk.out, LGg.out, CPg.out, ?_, ?_, ?_, ?_, ?_, by omega, by omega, by omega, by omega⟩
 ·exact (((((((B4).setCell (by simp only []; omega) _).setCell (by simp only []; omega) _).setCell (by simp only []; omega) _).setCell (by simp only []; omega) _).setCell (by simp only []; omega) _).setCell (by simp only []; omega) _).setCell (by simp only []; omega) _
 ·exact (((((((kb).so).so).so).so).so).so).so
 ·exact (((((((kd).setLow (by omega) _ _).setLow (by omega) _ _).setLow (by omega) _ _).setLow (by omega) _ _).setLow (by omega) _ _).setLow (by omega) _ _).setLow (by omega) _ _
 ·exact (((((((kk).setLow (by omega) _ _).setLow (by omega) _ _).setLow (by omega) _ _).setLow (by omega) _ _).setLow (by omega) _ _).setLow (by omega) _ _).setLow (by omega) _ _
 ·exact (((((((kg).setLow (by omega) _ _).setLow (by omega) _ _).setLow (by omega) _ _).setLow (by omega) _ _).setLow (by omega) _ _).setLow (by omega) _ _).setLow (by omega) _ _
theorem eqCk_same (bx : List Int) {da : Option Addr} {dn dc : Nat} (dx : List DV) {ka : Option Addr} {kn kc : Nat} (kx : List QV) {ga : Option Addr} {gn gc : Nat} (gx : List GV) {ba' : Option Addr} {bc' : Nat} {da' : Option Addr} {dc' : Nat} (dx' : List DV) {ka' : Option Addr} {kc' : Nat} (kx' : List QV) {ga' : Option Addr} {gc' : Nat} (gx' : List GV) {w : World} (h : CkAt w ba bn bx da dn dx ka kn kx ga gn gx) (h' : CkAt w ba' bn bx da' dn dx' ka' kn kx' ga' gn gx') (Ed : ∀ i, i < dn -> sameD (dx[i]?.getD noD) (dx'[i]?.getD noD)) (Ek : ∀ i, i < kn -> sameQ (kx[i]?.getD noQ) (kx'[i]?.getD noQ)) (Eg : ∀ i, i < gn -> sameG (gx[i]?.getD noG) (gx'[i]?.getD noG)) :
  Calls Tryz.prog 32 #[ckV u r ba bn bc da dn dc ka kn kc ga gn gc, ckV u r ba' bn bc' da' dn dc' ka' kn kc' ga' gn gc'] w fun e w' => e = .returned (.bool true) /\ Below w.heap.size w w' := by
 have HBb := eqB_refl bx
 have HEd : Hid _ := Ed
 clear Ed
 have HEk : Hid _ := Ek
 clear Ek
 have HEg : Hid _ := Eg
 clear Eg
 have hu : (u != u) = false := by cases u <;> rfl
 have hr : (r != r) = false := by simp
 have n0 := (BP.new w [.bool u, .int .i64 r, .slice ba bn bc, .slice da dn dc, .slice ka kn kc, .slice ga gn gc] 47).alloc (.cells #[.bool u, .int .i64 r, .slice ba' bn bc', .slice da' dn dc', .slice ka' kn kc', .slice ga' gn gc'] 47)
 have y0 := Cel.new (w.alloc (.cells #[.bool u, .int .i64 r, .slice ba bn bc, .slice da dn dc, .slice ka kn kc, .slice ga gn gc] 47)) [.bool u, .int .i64 r, .slice ba' bn bc', .slice da' dn dc', .slice ka' kn kc', .slice ga' gn gc'] 47
 rw [World.size_alloc] at y0
 go_enter Tryz.func32, Tryz.ntmps32
 go_wp2_with fail
 refine (eq_any bx bx (h.below n0.b).b (h'.below n0.b).b h.zb h.zb).mono ?_
 rintro e w1 ⟨rfl, b1⟩
 rw [HBb]
 have n1 := n0.below b1
 have y1 := y0.below b1
 clear n0 y0 b1
 obtain ⟨c0, c1, c2, c3, c4, c5⟩ := n1.p.sixP
 obtain ⟨d0, d1, d2, d3, d4, d5⟩ := y1.sixP
 go_wp2_with fail
 refine (eqDS_same dx dx' h.ld h'.ld (h.below n1.b).d (h'.below n1.b).d h.zd HEd.out).mono ?_
 rintro e w2 ⟨rfl, b2⟩
 have n2 := n1.below b2
 have y2 := y1.below b2
 clear n1 y1 b2 c0 c1 c2 c3 c4 c5 d0 d1 d2 d3 d4 d5
 obtain ⟨c0, c1, c2, c3, c4, c5⟩ := n2.p.sixP
 obtain ⟨d0, d1, d2, d3, d4, d5⟩ := y2.sixP
 go_wp2_with fail
 refine (eqQS_same kx kx' h.lk h'.lk (h.below n2.b).k (h'.below n2.b).k h.zk HEk.out).mono ?_
 rintro e w3 ⟨rfl, b3⟩
 have n3 := n2.below b3
 have y3 := y2.below b3
 clear n2 y2 b3 c0 c1 c2 c3 c4 c5 d0 d1 d2 d3 d4 d5
 obtain ⟨c0, c1, c2, c3, c4, c5⟩ := n3.p.sixP
 obtain ⟨d0, d1, d2, d3, d4, d5⟩ := y3.sixP
 go_wp2_with fail
 refine (eqGS_same gx gx' h.lg h'.lg (h.below n3.b).g (h'.below n3.b).g h.zg HEg.out).mono ?_
 rintro e w4 ⟨rfl, b4⟩
 have n4 := n3.below b4
 have y4 := y3.below b4
 clear n3 y3 b4 c0 c1 c2 c3 c4 c5 d0 d1 d2 d3 d4 d5
 go_wp2
 go_ret
 exact ⟨rfl, n4.b⟩
theorem JGc.lit (w : World) (bs ds : Nat -> Nat) : JGc w (.slice (some ⟨w.heap.size, 0, none⟩) 0 0) [] bs ds (w.alloc (.cells #[] 222)) := ⟨bal, World.ownsRow_lit w #[] 0 (qK _) (by unfold maxLen; omega) rfl, fun j hj => by simp at hj, fun j hj => by simp at hj, fun i j hi => by simp at hi, fun i j hi => by simp at hi, fun i j hi => by simp at hi⟩
theorem snoneG_any {gc : Nat} {sc : Nat} (h4 : gn <= 1048576) :
  Calls Tryz.prog 164 #[plV cl ad N cap ga gn gc sa sn sc] w fun e w' => ∃ a dc, e = .returned (.slice a gn dc) /\ Below w.heap.size w w' /\ ∀ (S : Nat -> Prop) (W : World), Touch S w' W -> (∀ x, S x -> x < w.heap.size \/ w'.heap.size <= x) -> GSG W a (List.replicate gn noG) := by
 have n0 := Cel.new w [.int .i64 cl, .slice ad N cap, .slice ga gn gc, .slice sa sn sc] 41
 have A0 : Below w.heap.size w (w.alloc (.cells #[.int .i64 cl, .slice ad N cap, .slice ga gn gc, .slice sa sn sc] 41)) := bal
 obtain ⟨zi, hi, hz0, hz1, hz2⟩ := info_parts Tryz.infoClkGot
 go_enter Tryz.func164, Tryz.ntmps164
 go_upto_region 1 with fail
 obtain ⟨W0, hW0⟩ : ∃ W, W = w.alloc (.cells #[.int .i64 cl, .slice ad N cap, .slice ga gn gc, .slice sa sn sc] 41) := ⟨_, rfl⟩
 rw [<- hW0] at n0 A0 ⊢
 clear hW0
 have j0 := JGc.lit W0 (fun _ => 0) (fun _ => 0)
 have NN : Hid _ := n0
 go_wp2_with fail
 go_loopw [3, 4] (fun r i wr => ∃ (k : Nat) (ts : List GV) (bs ds : Nat -> Nat), k <= gn /\ i = .int .i64 k /\ Hid (ts = List.replicate k noG) /\ JGc W0 r ts bs ds wr) (fun _ i _ => gn - (intOf i).toNat)
 case atStart => exact ⟨0, [], _, _, qL _, rfl, rfl, j0⟩
 case round =>
  clear j0
  obtain ⟨k, ts, bs, ds, hk, rfl, HR, j⟩ := hrel
  have hlen : Hid (ts.length = k) := by show _ = _; rw [HR.out, List.length_replicate]
  obtain ⟨va, vc, rfl⟩ := j.isSlice hlen.out
  have n1 := n0.below j.b
  obtain ⟨c0, c1, c2, c3⟩ := n1.quadP
  by_cases hlt : k < gn
  ·have hlt' : (k : Int) < gn := by omega
   have A : Below wr.heap.size wr (wr.alloc (.cells #[.bool false, .slice none 0 0, .slice none 0 0] 222)) := bal
   have j4 := j.below A
   have sz := j4.b.size
   have ho : (wr.alloc (.cells #[.bool false, .slice none 0 0, .slice none 0 0] 222)).ownsRow W0.heap.size 222 3 (.slice va k vc) k (ts.flatMap GV.cs) := by
    have := j4.o
    rw [hlen.out] at this
    exact this
   go_wp2_with (at_builtin; go_must (refine wpList_append_lies _ rfl (.tmp 13) (.tmp 15) 45 rfl W0.heap.size 222 zi _ 3 56 Tryz.underlying45 hi hz0 hz1 hz2 rfl (by decide) (.slice va k vc) k (ts.flatMap GV.cs) rfl ho ⟨wr.heap.size, 0, none⟩ 1 1 [.bool false, .slice none 0 0, .slice none 0 0] rfl rfl (World.news_of_block (cs := #[.bool false, .slice none 0 0, .slice none 0 0]) (t := 222) (fr := (0, 0)) (heap_alloc_new wr _)) (by simp [Value.oneCell']) (by omega) (by unfold maxLen; omega) (by omega) sz _ rfl ?_); intro g cp w4 hown hgrow hat hlt1)
   have j5 := j.app (s := noG) (A := 0) (C := 0) hlen.out (OwnX.nil _ _ _) (by decide) (fun h => absurd h (by decide)) (OwnX.nil _ _ _) (by decide) (fun h => absurd h (by decide)) (fun h => absurd h (by decide)) (fun h => absurd h (by decide)) (fun h => absurd h (by decide)) hown hgrow (hat.elim (fun h => .inl (by rw [h]; rfl)) (fun h => .inr (by rw [h]; rfl)))
   have HR5 : Hid (ts ++ [noG] = List.replicate (k + 1) noG) := by show _ = _; rw [HR.out, List.replicate_succ']
   clear hown hgrow hat j4 j ho c0 c1 c2 c3 n1
   go_wp2
   go_roundw
   case rel => exact ⟨k + 1, _, _, _, by omega, by go_num, HR5, j5⟩
   case measure => simp [intOf]; omega
  ·obtain rfl : k = gn := by omega
   go_wp2
   go_ret
   obtain ⟨a, G, c, hv, gl, lo1, -, -⟩ := j.lies hlen.out
   have A0s := A0.size
   simp only [Value.slice.injEq, true_and] at hv
   obtain ⟨rfl, rfl⟩ := hv
   have hno : ∀ i, (ts[i]?.getD noG) = noG := fun i => by rw [HR.out, List.getElem?_replicate]; split <;> rfl
   refine ⟨_, _, rfl, btq A0 j.b, fun S W t hS => ?_⟩
   have := (gl.touch t (fun h0 s => by have := gl.lt h0; have := lo1 h0; have := hS _ s; omega) (fun i hi h0 => absurd h0 (by rw [hno i]; decide)) (fun i hi h0 => absurd h0 (by rw [hno i]; decide))).sg hlen.out
   rw [HR.out] at this
   exact this
theorem icopDone_any {s c : Int} (zs : List Int) {w : World} (h : Blk w B zs) (hl : zs.length = n) (hn : n <= 1048576) :
  Calls Tryz.prog 352 #[doV s c (some ⟨B, 0, none⟩) n cap] w fun e w' => ∃ a' cap' B', e = .returned (doV s c a' n cap') /\ Below w.heap.size w w' /\ OwnX w' a' B' n zs /\ (0 < n -> w.heap.size <= B') := by
 have p0 := (Cel.new w [.int .i64 s, .int .i64 c, .slice (some ⟨B, 0, none⟩) n cap] 219).alloc (.cells #[.int .i64 0, .int .i64 0, .slice none 0 0] 219)
 have r0 := Cel.new (w.alloc (.cells #[.int .i64 s, .int .i64 c, .slice (some ⟨B, 0, none⟩) n cap] 219)) [.int .i64 0, .int .i64 0, .slice none 0 0] 219
 rw [World.size_alloc] at r0
 have B0 := ((Below.refl w.heap.size w).alloc (qK _) (.cells #[.int .i64 s, .int .i64 c, .slice (some ⟨B, 0, none⟩) n cap] 219)).alloc (by simp) (.cells #[.int .i64 0, .int .i64 0, .slice none 0 0] 219)
 have HL : Hid _ := hl
 clear hl
 go_enter Tryz.func352, Tryz.ntmps352
 go_upto_region 1 with fail
 obtain ⟨W0, hW0⟩ : ∃ W, W = (w.alloc (.cells #[.int .i64 s, .int .i64 c, .slice (some ⟨B, 0, none⟩) n cap] 219)).alloc (.cells #[.int .i64 0, .int .i64 0, .slice none 0 0] 219) := ⟨_, rfl⟩
 rw [<- hW0] at p0 r0 B0 ⊢
 clear hW0
 have c0 := p0.cell 0
 have c1 := p0.cell 1
 have c2 := p0.cell 2
 have d0 := r0.cell 0
 have d1 := r0.cell 1
 have d2 := r0.cell 2
 simp only [qD, qE] at c0 c1 c2 d0 d1 d2
 go_region_with (first | (go_at_call 346; refine (icopRes_any zs (by exact (h.below B0).below (Below.refl _ _).drew) HL.out hn).mono ?_; rintro ee w1 ⟨a', cap', B', rfl, bd1, o1, g1⟩; have b1 := below_of_drew bd1; have p1 := p0.below b1; have r1 := r0.below b1; have e0 := p1.cell 0; have e1 := p1.cell 1; have e2 := p1.cell 2; have f0 := r1.cell 0; have f1 := r1.cell 1; have f2 := r1.cell 2; have z0 := r1.free 0; have z1 := r1.free 1; have z2 := r1.free 2; simp only [qD, qE] at e0 e1 e2 f0 f1 f2))
 all_goals
  have s1 := r1.lt
  have s0 := r0.lt
  have hsz : W0.heap.size <= W0.drew.heap.size := qK _
  go_wp2
  refine bodyPost_ret (v := doV s c a' n cap') (by simp [results, Tryz.results352, go_sem, f0, f1, f2]) rfl ⟨a', cap', B', rfl, ?_, ?_, ?_⟩
  ·exact (((btq B0 b1).setCell (by simp only []; omega) _).setCell (by simp only []; omega) _).setCell (by simp only []; omega) _
  ·refine ((o1.setOther (fun h0 => ?_) _ _).setOther (fun h0 => ?_) _ _).setOther (fun h0 => ?_) _ _
   ·have := g1 h0; have : W0.heap.size <= B' := this; omega
   ·have := g1 h0; have : W0.heap.size <= B' := this; omega
   ·have := g1 h0; have : W0.heap.size <= B' := this; omega
  ·intro h0; have := g1 h0; have : W0.heap.size <= B' := this; omega
structure DL (W : World) (a : Option Addr) (G n : Nat) (f : Nat -> DV) (bs : Nat -> Nat) : Prop where
 g : 0 < n -> a = some ⟨G, 0, none⟩ /\ ∃ cur : List Value, Cel W G cur 219 /\ ∀ j, j < n -> ∀ r, r < 3 -> cur[j * 3 + r]? = (f j).cs[r]?
 l : ∀ j, j < n -> OwnX W (f j).t.a (bs j) (f j).t.n (f j).t.x /\ (0 < (f j).t.n -> bs j ≠ G) /\ (f j).t.n <= 1048576
 d : ∀ i j, i < n -> j < n -> i ≠ j -> 0 < (f i).t.n -> 0 < (f j).t.n -> bs i ≠ bs j
theorem DL.zero (W : World) (a : Option Addr) (G : Nat) (f : Nat -> DV) (bs : Nat -> Nat) : DL W a G 0 f bs := ⟨fun h => by omega, fun j hj => by omega, fun i j hi => by omega⟩
theorem DL.lt (h : DL W a G n f bs) (hn : 0 < n) : G < W.heap.size := by
 obtain ⟨_, cur, hc, _⟩ := h.g hn
 exact hc.lt
theorem DL.touch {S : Nat -> Prop} (h : DL W a G n f bs) (t : Touch S W W') (hG : 0 < n -> ¬ S G) (hb : ∀ j, j < n -> 0 < (f j).t.n -> ¬ S (bs j)) : DL W' a G n f bs :=
 ⟨fun hn => by
  obtain ⟨e, cur, hc, hv⟩ := h.g hn
  exact ⟨e, cur, hc.touch t (hG hn), hv⟩, fun j hj => by
  obtain ⟨h1, h2, h3⟩ := h.l j hj
  exact ⟨h1.touch t (hb j hj), h2, h3⟩, h.d⟩
theorem DL.below (h : DL W a G n f bs) (b : Below W.heap.size W W') : DL W' a G n f bs := h.touch (S := fun _ => False) (Touch.of b) (fun _ h => h) (fun _ _ _ h => h)
theorem DL.ext {g : Nat -> DV} (h : DL W a G n f bs) (e : ∀ i, i < n -> f i = g i) : DL W a G n g bs :=
 ⟨fun hn => by
  obtain ⟨e1, cur, hc, hv⟩ := h.g hn
  exact ⟨e1, cur, hc, fun j hj r hr => by rw [<- e j hj]; exact hv j hj r hr⟩, fun j hj => by rw [<- e j hj]; exact h.l j hj, fun i j hi hj hne h1 h2 => h.d i j hi hj hne (by rw [e i hi]; exact h1) (by rw [e j hj]; exact h2)⟩
theorem DL.sg {fs : List DV} (h : DL W a G n (fun i => fs[i]?.getD noD) bs) (hn : fs.length = n) : DSG W a fs := fun i hi => by
 obtain ⟨e1, cur, hc, hv⟩ := h.g (by omega)
 obtain ⟨o, _, z⟩ := h.l i (by omega)
 exact ⟨G, 0, e1, fun r hr => by rw [Nat.zero_add, hc.cell]; exact hv i (by omega) r hr, ⟨o.ints, z⟩, trivial⟩
theorem DL.at (h : DL W a G n f bs) {k : Nat} (hk : k < n) : a = some ⟨G, 0, none⟩ /\ (∀ r, r < 3 -> W.cell? ⟨G, k * 3 + r, none⟩ = (f k).cs[r]?) /\ ∀ i, W.frozen? ⟨G, i, none⟩ = false := by
 obtain ⟨e1, cur, hc, hv⟩ := h.g (by omega)
 exact ⟨e1, fun r hr => (hc.cell _).trans (hv k hk r hr), fun i => hc.free i⟩
theorem DL.put (h : DL W a G n f bs) {k : Nat} (hk : k < n) (y0 y1 : Int) : DL ((W.setCell ⟨G, k * 3, none⟩ (.int .i64 y0)).setCell ⟨G, k * 3 + 1, none⟩ (.int .i64 y1)) a G n (fun i => if i = k then ⟨y0, y1, (f k).t⟩ else f i) bs := by
 obtain ⟨e1, cur, hc, hv⟩ := h.g (by omega)
 have T : Touch (fun x => x = G) W ((W.setCell ⟨G, k * 3, none⟩ (.int .i64 y0)).setCell ⟨G, k * 3 + 1, none⟩ (.int .i64 y1)) := ((Touch.refl (fun x => x = G) W).setCell rfl _).setCell rfl _
 have hlen : k * 3 + 2 < cur.length := by
  have h2 := hv k hk 2 (by omega)
  have e : (f k).cs[2]? = some (f k).t.v := rfl
  rw [e] at h2
  exact (List.getElem?_eq_some_iff.1 h2).1
 refine ⟨fun _ => ⟨e1, _, ((hc.set (k * 3) _).set (k * 3 + 1) _), fun j hj r hr => ?_⟩, fun j hj => ?_, fun i j hi hj hne h1 h2 => ?_⟩
 ·(try dsimp only)
  by_cases e : j = k
  ·subst e
   rw [if_pos rfl]
   have hcase : r = 0 \/ r = 1 \/ r = 2 := by omega
   rcases hcase with rfl | rfl | rfl
   ·simp only [Nat.add_zero]
    rw [qF (by omega), qJ (by omega)]; rfl
   ·rw [qJ (by simp; omega)]; rfl
   ·rw [qF (by omega), qF (by omega)]; exact hv j hj 2 (by omega)
  ·rw [if_neg e]
   have hr' : j * 3 + r < k * 3 \/ k * 3 + 3 <= j * 3 + r := by
    rcases Nat.lt_or_gt_of_ne e with h | h
    ·left; omega
    ·right; omega
   rw [qF (by omega), qF (by omega)]
   exact hv j hj r hr
 ·obtain ⟨h1, h2, h3⟩ := h.l j hj
  have hh := h1.touch T (fun h0 e => h2 h0 e)
  (try dsimp only)
  by_cases e : j = k
  ·subst e; rw [if_pos rfl]; exact ⟨hh, h2, h3⟩
  ·rw [if_neg e]; exact ⟨hh, h2, h3⟩
 ·have e : ∀ i, (if i = k then (⟨y0, y1, (f k).t⟩ : DV) else f i).t = (f i).t := fun i => by
   by_cases e : i = k
   ·subst e; rw [if_pos rfl]
   ·rw [if_neg e]
  (try dsimp only at h1 h2)
  rw [e] at h1 h2
  exact h.d i j hi hj hne h1 h2
def offD (f : Nat -> DV) : Nat -> Nat
 | 0 => 0
 | j + 1 => offD f j + (2 + (f j).t.n)
def mkD (k0 : Int) (f : Nat -> DV) (i : Nat) : DV := ⟨k0 + offD f i, k0 + offD f i + 1, ⟨(f i).t.a, (f i).t.n, (f i).t.cap, ramp (k0 + offD f i + 1 + 1) (f i).t.n⟩⟩
theorem offD_mono (f : Nat -> DV) {i j : Nat} (h : i <= j) : offD f i <= offD f j := by
 induction h with
 | refl => exact qK _
 | step _ ih => simp only [offD]; omega
theorem markDL_any (f : Nat -> DV) (bs : Nat -> Nat) {k0 : Int} {w : World} (h : DL w a G n f bs) (hn : n <= 1048576) (hk0 : 0 <= k0) (hk : k0 + offD f n <= 100000000000000) :
  Calls Tryz.prog 94 #[.slice a n cap, .int .i64 k0] w fun e w' => e = .returned (.int .i64 (k0 + offD f n)) /\ Touch (fun x => (0 < n /\ x = G) \/ ∃ j, j < n /\ 0 < (f j).t.n /\ x = bs j) w w' /\ DL w' a G n (mkD k0 f) bs := by
 have H : Hid (DL w a G n f bs) := h
 have HO : Hid (∀ i j, i <= j -> offD f i <= offD f j) := fun i j h => offD_mono f h
 have HK : Hid (k0 + offD f n <= 100000000000000) := hk
 clear h hk
 go_enter Tryz.func94, Tryz.ntmps94
 go_wp2_with fail
 go_loopw [1, 5] (fun kv i wr => ∃ k : Nat, k <= n /\ i = .int .i64 k /\ kv = .int .i64 (k0 + offD f k) /\ Touch (fun x => (0 < n /\ x = G) \/ ∃ j, j < n /\ 0 < (f j).t.n /\ x = bs j) w wr /\ DL wr a G n (fun i => if i < k then mkD k0 f i else f i) bs) (fun _ i _ => n - (intOf i).toNat)
 case atStart => exact ⟨0, qL _, rfl, by simp [offD], Touch.refl _ _, H.out.ext (fun i _ => by simp)⟩
 case round =>
  obtain ⟨k, hk', rfl, rfl, t, d⟩ := hrel
  by_cases hlt : k < n
  ·obtain ⟨ea, hcs, fz⟩ := d.at hlt
   have hl := (d.l k hlt)
   have efk : (if k < k then mkD k0 f k else f k) = f k := if_neg (by omega)
   rw [efk] at hcs hl
   obtain ⟨o, hne, hz⟩ := hl
   subst ea
   obtain ⟨e0, e1, e2⟩ := cellsD hcs
   have b1 := HO.out (k + 1) n (by omega)
   have b2 : offD f (k + 1) = offD f k + (2 + (f k).t.n) := rfl
   have b3 := HK.out
   obtain ⟨kk, hkk⟩ : ∃ kk : Int, kk = k0 + offD f k := ⟨_, rfl⟩
   have HKK : Hid _ := hkk
   have hkb : 0 <= kk /\ kk <= 100000000000000 := by omega
   rw [<- hkk]
   have dp := d.put hlt (kk) (kk + 1)
   have T2 : Touch (fun x => (0 < n /\ x = G) \/ ∃ j, j < n /\ 0 < (f j).t.n /\ x = bs j) w ((wr.setCell ⟨G, k * 3, none⟩ (.int .i64 (kk))).setCell ⟨G, k * 3 + 1, none⟩ (.int .i64 (kk + 1))) := ((t.setCell (B := G) (Or.inl ⟨by omega, rfl⟩) _).setCell (B := G) (Or.inl ⟨by omega, rfl⟩) _)
   have TG : Touch (fun x => x = G) wr ((wr.setCell ⟨G, k * 3, none⟩ (.int .i64 (kk))).setCell ⟨G, k * 3 + 1, none⟩ (.int .i64 (kk + 1))) := ((Touch.refl (fun x => x = G) wr).setCell rfl _).setCell rfl _
   have o' := o.touch TG (fun h0 e => hne h0 e)
   generalize hft : (f k).t = ft at *
   have HFT : Hid ((f k).t = ft) := hft
   obtain ⟨fa, fn, fc, fx⟩ := ft
   have e2' : wr.cell? ⟨G, k * 3 + 2, none⟩ = some (.slice fa fn fc) := e2
   have o2 : OwnX ((wr.setCell ⟨G, k * 3, none⟩ (.int .i64 (kk))).setCell ⟨G, k * 3 + 1, none⟩ (.int .i64 (kk + 1))) fa (bs k) fn fx := o'
   have hz' : fn <= 1048576 := hz
   have hne' : 0 < fn -> bs k ≠ G := hne
   have f0 := fz (k * 3)
   have f1 := fz (k * 3 + 1)
   have hlt' : (k : Int) < (n : Int) := by omega
   obtain ⟨hkb1, hkb2⟩ := hkb
   clear o o' hz hne hft efk hcs fz b1 b2 b3 hkk e2
   go_wp2_with fail
   refine (markX_any (bs k) fx o2 hz' (by omega) (by omega)).mono ?_
   rintro ee w2 ⟨rfl, t2, o3⟩
   have T3 := T2.trans (t2.mono (T := fun x => (0 < n /\ x = G) \/ ∃ j, j < n /\ 0 < (f j).t.n /\ x = bs j) fun y hy => Or.inr ⟨k, hlt, by rw [HFT.out]; exact hy.2, hy.1⟩)
   have D3 : DL w2 (some ⟨G, 0, none⟩) G n (fun i => if i < k + 1 then mkD k0 f i else f i) bs := by
    refine ⟨fun hn0 => ?_, fun j hj => ?_, fun i j hi hj hij h1 h2 => ?_⟩
    ·obtain ⟨e1, cur, hc, hv⟩ := dp.g hn0
     refine ⟨e1, cur, hc.touch t2 (fun hh => hne' hh.2 hh.1.symm), fun j hj r hr => ?_⟩
     have h1 := hv j hj r hr
     (try dsimp only at h1 ⊢)
     rw [h1]
     by_cases e : j = k
     ·subst e
      have hk1 : (if j < j then mkD k0 f j else f j) = f j := if_neg (by omega)
      have hk2 : (if j < j + 1 then mkD k0 f j else f j) = mkD k0 f j := if_pos (by omega)
      rw [hk1, hk2, if_pos (rfl : j = j), mkD, <- HKK.out]
      simp only [DV.cs, IV.v]
     ·rw [if_neg e]
      by_cases e2 : j < k
      ·rw [if_pos e2, if_pos (by omega)]
      ·rw [if_neg e2, if_neg (by omega)]
    ·have h1 := dp.l j hj
     (try dsimp only at h1 ⊢)
     by_cases e : j = k
     ·subst e
      rw [if_pos (by omega)]
      refine ⟨?_, ?_, ?_⟩
      ·show OwnX w2 (mkD k0 f j).t.a (bs j) (mkD k0 f j).t.n (mkD k0 f j).t.x
       simp only [mkD]
       rw [HFT.out, <- HKK.out]
       exact o3
      ·simp only [mkD]; rw [HFT.out]; exact hne'
      ·simp only [mkD]; rw [HFT.out]; exact hz'
     ·rw [if_neg e] at h1
      have hx : (if j < k + 1 then mkD k0 f j else f j) = (if j < k then mkD k0 f j else f j) := by
       by_cases e2 : j < k
       ·rw [if_pos e2, if_pos (by omega)]
       ·rw [if_neg e2, if_neg (by omega)]
      rw [hx]
      refine ⟨h1.1.touch t2 (fun h0 hh => ?_), h1.2⟩
      have hd := d.d j k hj hlt e (by simpa using h0) (by
       have : (if k < k then mkD k0 f k else f k) = f k := if_neg (by omega)
       rw [this, HFT.out]; exact hh.2)
      exact hd hh.1
    ·have e : ∀ i, (if i < k + 1 then mkD k0 f i else f i).t.n = (f i).t.n := fun i => by
      by_cases e : i < k + 1
      ·rw [if_pos e]; rfl
      ·rw [if_neg e]
     have e' : ∀ i, (if i < k then mkD k0 f i else f i).t.n = (f i).t.n := fun i => by
      by_cases e : i < k
      ·rw [if_pos e]; rfl
      ·rw [if_neg e]
     (try dsimp only at h1 h2)
     rw [e] at h1 h2
     exact d.d i j hi hj hij (by rw [e']; exact h1) (by rw [e']; exact h2)
   have HE : Hid (k0 + (offD f (k + 1) : Nat) = kk + 1 + 1 + fn) := by
    show _ = _
    have h1 : offD f (k + 1) = offD f k + (2 + (f k).t.n) := rfl
    have h2 : (f k).t.n = fn := by rw [HFT.out]
    rw [HKK.out, h1, h2]
    omega
   clear d dp t T2 TG t2 o3
   go_wp2
   go_roundw
   case rel => exact ⟨k + 1, by omega, by go_num, by rw [HE.out], T3, D3⟩
   case measure => simp [intOf]; omega
  ·obtain rfl : k = n := by omega
   go_wp2
   go_ret
   exact ⟨rfl, t, d.ext (fun i hi => by rw [if_pos hi])⟩
theorem heldDL_any (f : Nat -> DV) (bs : Nat -> Nat) {k0 : Int} {w : World} (h : DL w a G n (mkD k0 f) bs) (hn : n <= 1048576) (hk0 : 0 <= k0) (hk : k0 + offD f n <= 100000000000000) :
  Calls Tryz.prog 97 #[.slice a n cap, .int .i64 k0] w fun e w' => e = .returned (.int .i64 (k0 + offD f n)) /\ w' = w := by
 have H : Hid (DL w a G n (mkD k0 f) bs) := h
 have HO : Hid (∀ i j, i <= j -> offD f i <= offD f j) := fun i j h => offD_mono f h
 have HK : Hid (k0 + offD f n <= 100000000000000) := hk
 clear h hk
 go_enter Tryz.func97, Tryz.ntmps97
 go_wp2_with fail
 go_loopw [1, 5] (fun kv i wr => ∃ k : Nat, k <= n /\ i = .int .i64 k /\ kv = .int .i64 (k0 + offD f k) /\ wr = w) (fun _ i _ => n - (intOf i).toNat)
 case atStart => exact ⟨0, qL _, rfl, by simp [offD], rfl⟩
 case round =>
  obtain ⟨k, hk', rfl, rfl, rfl⟩ := hrel
  by_cases hlt : k < n
  ·obtain ⟨ea, hcs, -⟩ := H.out.at hlt
   obtain ⟨o, -, hz⟩ := H.out.l k hlt
   subst ea
   obtain ⟨e0, e1, e2⟩ := cellsD hcs
   have b1 := HO.out (k + 1) n (by omega)
   have b2 : offD f (k + 1) = offD f k + (2 + (f k).t.n) := rfl
   have b3 := HK.out
   simp only [mkD] at e0 e1 e2 o hz
   obtain ⟨kk, hkk⟩ : ∃ kk : Int, kk = k0 + offD f k := ⟨_, rfl⟩
   have HKK : Hid _ := hkk
   have hkb : 0 <= kk /\ kk <= 100000000000000 := by omega
   have hkn : 0 <= kk + 1 + 1 + (f k).t.n := by omega
   rw [<- hkk] at e0 e1 e2 o ⊢
   generalize hft : (f k).t = ft at *
   have HFT : Hid ((f k).t = ft) := hft
   obtain ⟨fa, fn, fc, fx⟩ := ft
   simp only [IV.v] at e2 o hz hkn
   have hi3 := o.ints
   have hlt' : (k : Int) < (n : Int) := by omega
   obtain ⟨hkb1, hkb2⟩ := hkb
   have HE : Hid (k0 + (offD f (k + 1) : Nat) = kk + 1 + 1 + fn) := by
    show _ = _
    have h1 : offD f (k + 1) = offD f k + (2 + (f k).t.n) := rfl
    have h2 : (f k).t.n = fn := by rw [HFT.out]
    rw [HKK.out, h1, h2]
    omega
   clear hcs o hft b1 b2 b3 hkk
   go_wp2_with fail
   refine (held_any hi3 hz (by omega) (by omega)).mono ?_
   rintro ee w2 ⟨rfl, rfl⟩
   go_wp2
   go_roundw
   case rel => exact ⟨k + 1, by omega, by go_num, by rw [HE.out], trivial⟩
   case measure => simp [intOf]; omega
  ·obtain rfl : k = n := by omega
   go_wp2
   go_ret
   exact ⟨rfl, rfl⟩
structure JDc (w : World) (v : Value) (ts : List DV) (bs : Nat -> Nat) (W : World) : Prop where
 b : Below w.heap.size w W
 o : W.ownsRow w.heap.size 219 3 v ts.length (ts.flatMap DV.cs)
 k : ∀ j, j < ts.length -> OwnX W (ts[j]?.getD noD).t.a (bs j) (ts[j]?.getD noD).t.n (ts[j]?.getD noD).t.x /\ (ts[j]?.getD noD).t.n <= 1048576 /\ (0 < (ts[j]?.getD noD).t.n -> w.heap.size <= bs j /\ some (bs j) ≠ v.ownBlock)
 d : ∀ i j, i < ts.length -> j < ts.length -> i ≠ j -> 0 < (ts[i]?.getD noD).t.n -> 0 < (ts[j]?.getD noD).t.n -> bs i ≠ bs j
theorem JDc.nil (w W : World) (hb : Below w.heap.size w W) (bs : Nat -> Nat) : JDc w (.slice none 0 0) [] bs W := ⟨hb, World.ownsRow_nil W _ _ _, fun j hj => by simp at hj, fun i j hi => by simp at hi⟩
theorem JDc.below {ts : List DV} (j : JDc w v ts bs W) (h : Below W.heap.size W W') : JDc w v ts bs W' :=
 ⟨j.b.trans (h.mono j.b.size), own_below j.o h, fun i hi => by obtain ⟨a, b⟩ := j.k i hi; exact ⟨a.below h, b⟩, j.d⟩
theorem JDc.own {ts : List DV} (j : JDc w v ts bs W) {g : Nat} (h : v.ownBlock = some g) : w.heap.size <= g /\ g < W.heap.size := by
 rcases j.o.2 with ⟨h', _⟩ | ⟨g', cap, cur, hv, hg, hh, r⟩
 ·rw [h'] at h; simp [Value.ownBlock] at h
 ·rw [hv] at h
  simp only [Value.ownBlock, Option.some.injEq] at h
  subst h
  exact ⟨hg, lt_of_block hh⟩
theorem JDc.isSlice {ts : List DV} (j : JDc w v ts bs W) (hk : ts.length = k) : ∃ a c, v = .slice a k c := by
 subst hk
 rcases j.o.2 with ⟨h', h0⟩ | ⟨g', cap, cur, hv, hg, hh, r⟩
 ·exact ⟨none, 0, by rw [h', h0]⟩
 ·exact ⟨_, _, hv⟩
theorem JDc.app {v' : Value} {ts : List DV} {s : DV} {A : Nat} {o : Obj} (j : JDc w v ts bs W) (hk : ts.length = k) (hA : OwnX W s.t.a A s.t.n s.t.x) (hz : s.t.n <= 1048576) (hlo : 0 < s.t.n -> w.heap.size <= A /\ some A ≠ v.ownBlock) (hnew : 0 < s.t.n -> ∀ i, i < k -> 0 < (ts[i]?.getD noD).t.n -> bs i ≠ A)
  (hown : W'.ownsRow w.heap.size 219 3 v' (k + 1) (ts.flatMap DV.cs ++ s.cs)) (hg : (W.alloc o).grownBy W' v.ownBlock) (hat : v'.ownBlock = v.ownBlock \/ v'.ownBlock = some (W.alloc o).heap.size) : JDc w v' (ts ++ [s]) (fun i => if i < k then bs i else A) W' := by
 subst hk
 have B1 : Below W.heap.size W (W.alloc o) := bal
 have ja := j.below B1
 have key : ∀ (a : Option Addr) (Y n : Nat) (x : List Int), OwnX W a Y n x -> (0 < n -> w.heap.size <= Y /\ some Y ≠ v.ownBlock) -> OwnX W' a Y n x /\ (0 < n -> w.heap.size <= Y /\ some Y ≠ v'.ownBlock) := fun a Y n x h1 h2 => by
  refine ⟨?_, fun hn => ⟨(h2 hn).1, fun e => ?_⟩⟩
  ·have h3 := h1.below B1
   rcases h3.2 with h0 | ⟨e1, cur, hc, hv⟩
   ·exact ⟨h3.1, .inl h0⟩
   ·by_cases hn : 0 < n
    ·exact ⟨h3.1, .inr ⟨e1, cur, hc.grew hg (fun e => (h2 hn).2 e.symm), hv⟩⟩
    ·exact ⟨h3.1, .inl (by omega)⟩
  ·have hl := h1.lt hn
   rcases hat with h | h
   ·exact (h2 hn).2 (e.trans h)
   ·rw [h, World.size_alloc] at e
    simp only [Option.some.injEq] at e
    omega
 have hold : ∀ i, i < ts.length -> (ts ++ [s])[i]?.getD noD = (ts[i]?.getD noD) := fun i h => by rw [qI h]
 have hlast : (ts ++ [s])[ts.length]?.getD noD = s := by rw [qH (qK _), Nat.sub_self]; rfl
 refine ⟨ja.b.grown hg ja.b.size (fun z hz => (j.own hz).1), ?_, fun i hi => ?_, fun i i' hi hi' hne h1 h2 => ?_⟩
 ·rw [qG, List.flatMap_append]
  have : [s].flatMap DV.cs = s.cs := by simp
  rw [this]
  exact hown
 ·by_cases h : i < ts.length
  ·rw [hold i h]
   obtain ⟨a, b, d⟩ := j.k i h
   simp only [h, if_true]
   obtain ⟨q1, q2⟩ := key _ _ _ _ a d
   exact ⟨q1, b, q2⟩
  ·rw [qG, qM] at hi
   obtain rfl : i = ts.length := by omega
   rw [hlast]
   simp only [Nat.lt_irrefl, if_false]
   obtain ⟨q1, q2⟩ := key _ _ _ _ hA hlo
   exact ⟨q1, hz, q2⟩
 ·rw [qG, qM] at hi hi'
  by_cases h : i < ts.length
  ·by_cases h' : i' < ts.length
   ·rw [hold i h] at h1
    rw [hold i' h'] at h2
    simp only [h, h', if_true]
    exact j.d i i' h h' hne h1 h2
   ·obtain rfl : i' = ts.length := by omega
    rw [hold i h] at h1
    rw [hlast] at h2
    simp only [h, if_true, Nat.lt_irrefl, if_false]
    exact hnew h2 i h h1
  ·obtain rfl : i = ts.length := by omega
   have h' : i' < ts.length := by omega
   rw [hlast] at h1
   rw [hold i' h'] at h2
   simp only [h', if_true, Nat.lt_irrefl, if_false]
   exact fun e => hnew h1 i' h' h2 e.symm
theorem atDc (ts : List DV) : ∀ i, i < ts.length -> ∀ r, r < 3 -> (ts.flatMap DV.cs)[i * 3 + r]? = (ts[i]?.getD noD).cs[r]? := by
 induction ts with
 | nil => intro i hi; simp at hi
 | cons t ts ih =>
  intro i hi r hr
  rw [List.flatMap_cons]
  have hl : t.cs.length = 3 := rfl
  cases i with
  | zero => rw [qI (by omega)]; simp
  | succ i =>
   rw [qH (by omega), hl, show (i + 1) * 3 + r - 3 = i * 3 + r by omega, ih i (by simpa using hi) r hr]
   simp
theorem JDc.lies {ts : List DV} (j : JDc w v ts bs W) (hn : ts.length = n) : ∃ a G cap, v = .slice a n cap /\ DL W a G n (fun i => ts[i]?.getD noD) bs /\ (0 < n -> w.heap.size <= G) /\ ∀ i, i < n -> 0 < (ts[i]?.getD noD).t.n -> w.heap.size <= bs i := by
 subst hn
 rcases j.o.2 with ⟨h', h0⟩ | ⟨g, cap, cur, hv, hg, hh, _, _, hcs, htake⟩
 ·refine ⟨none, 0, 0, by rw [h', h0], ?_, fun h => by omega, fun i hi => by omega⟩
  rw [h0]
  exact DL.zero _ _ _ _ _
 ·refine ⟨_, g, cap, hv, ⟨fun h => ⟨rfl, cur.toList, by unfold Cel; simpa using hh, fun i hi r hr => ?_⟩, fun i hi => ?_, fun i i' hi hi' hne h1 h2 => j.d i i' hi hi' hne h1 h2⟩, fun _ => hg, fun i hi h => ((j.k i hi).2.2 h).1⟩
  ·rw [<- atDc ts i hi r hr, <- htake, List.getElem?_take, if_pos (by omega)]
  ·obtain ⟨a, b, d⟩ := j.k i hi
   refine ⟨a, fun h e => (d h).2 ?_, b⟩
   rw [hv, e]
   rfl
theorem Tryz.copiedD (v : Value) (w : World) : (Go.method 545 219 v "loop.example/concord/impl.copied").run Tryz.prog w = .ok (352, v) w := by kernel_rfl
theorem icopiesByD_any (fs : List DV) {w : World} (hN : fs.length = N) (hF : MD w Bq N fs) (hN1 : N <= 1048576) :
  Calls Tryz.prog 221 #[.slice (some ⟨Bq, 0, none⟩) N cap, .func (.methodOf 219 "loop.example/concord/impl.copied") #[] #[]] w fun e w' => ∃ v ts bs, e = .returned v /\ ts.length = N /\ JDc w v ts bs w' /\ ∀ i, i < N -> sameD (fs[i]?.getD noD) (ts[i]?.getD noD) := by
 have HN : Hid (fs.length = N) := hN
 have HF : Hid (MD w Bq N fs) := hF
 clear hN hF
 obtain ⟨zi, hi, hz0, hz1, hz2⟩ := info_parts Tryz.infoPlnDone
 have hm := Tryz.copiedD
 go_enter Tryz.func221, Tryz.ntmps221
 go_wp2_with fail
 go_loopw [5, 7, 10] (fun r _ i wr => ∃ (k : Nat) (ts : List DV) (bs : Nat -> Nat), k <= N /\ i = .int .i64 k /\ Hid (ts.length = k) /\ JDc w r ts bs wr /\ Hid (∀ i, i < k -> sameD (fs[i]?.getD noD) (ts[i]?.getD noD))) (fun _ _ i _ => N - (intOf i).toNat)
 case atStart => exact ⟨0, [], fun _ => 0, qL _, rfl, rfl, JDc.nil w _ (Below.refl _ _) _, fun i hi => by omega⟩
 case round =>
  obtain ⟨k, ts, bs, hk, rfl, htl, j, HS⟩ := hrel
  by_cases hlt : k < N
  ·obtain ⟨va, vc, rfl⟩ := j.isSlice htl.out
   have hlt' : (k : Int) < N := by omega
   obtain ⟨vs, hcel, hvl, hcs⟩ := (HF.out.below j.b).c
   have hdk := (HF.out.below j.b).l k (by rw [HN.out]; exact hlt)
   have hcs' := hcs k (by rw [HN.out]; exact hlt)
   have hx : ∀ r, r < 3 -> wr.cell? ⟨Bq, k * 3 + r, none⟩ = (fs[k]?.getD noD).cs[r]? := fun r hr => by rw [hcel.cell]; exact hcs' r hr
   generalize HG : fs[k]?.getD noD = g at *
   have HT : Hid (fs[k]?.getD noD = g) := HG
   clear HG hcs hcs'
   obtain ⟨gq, gc, ⟨gta, gtn, gtc, gtx⟩⟩ := g
   obtain ⟨e0, e1, e2⟩ := cellsD hx
   have e0' : wr.cell? ⟨Bq, k * 3, none⟩ = some (.int .i64 gq) := e0
   have e1' : wr.cell? ⟨Bq, k * 3 + 1, none⟩ = some (.int .i64 gc) := e1
   have e2' : wr.cell? ⟨Bq, k * 3 + 2, none⟩ = some (.slice gta gtn gtc) := e2
   obtain ⟨⟨Bl, hBl, _, hblk, hlen, hle⟩, -⟩ := hdk
   obtain rfl : gta = some ⟨Bl, 0, none⟩ := hBl
   have hblk : Blk wr Bl gtx := hblk
   have hlen : Hid (gtx.length = gtn) := hlen
   have hle : gtn <= 1048576 := hle
   clear e0 e1 e2 hx
   have A1 : Below wr.heap.size wr (wr.alloc (.cells #[.int .i64 gq, .int .i64 gc, .slice (some ⟨Bl, 0, none⟩) gtn gtc] 219)) := bal
   have sz := j.b.size
   go_wp2_with fail
   refine (icopDone_any gtx (hblk.below A1) hlen.out hle).mono ?_
   rintro ee w3 ⟨na, nc, nB, rfl, b3, o3, g3⟩
   rw [World.size_alloc] at g3
   have b3' := btq A1 b3
   have j3 := j.below b3'
   have sz3 := b3'.size
   have A : Below w3.heap.size w3 (w3.alloc (.cells #[.int .i64 gq, .int .i64 gc, .slice na gtn nc] 219)) := bal
   have j4 := j3.below A
   have o4 := o3.below A
   have hnew : Hid (0 < gtn -> ∀ i, i < k -> 0 < (ts[i]?.getD noD).t.n -> bs i ≠ nB) := fun h0 i hi hi0 => by
    have h1 := ((j.k i (by rw [htl.out]; exact hi)).1).lt hi0
    have h2 := g3 h0
    omega
   have hlo : Hid (0 < gtn -> w.heap.size <= nB /\ some nB ≠ (Value.slice va k vc).ownBlock) := fun h0 => by
    have h2 := g3 h0
    exact ⟨by omega, fun e => by have := (j.own e.symm).2; omega⟩
   have hlen4 : Hid (ts.length = k) := htl
   have HO4 : Hid _ := j4.o
   clear j e0' e1' e2' hblk A1 b3 b3' g3
   have ho : (w3.alloc (.cells #[.int .i64 gq, .int .i64 gc, .slice na gtn nc] 219)).ownsRow w.heap.size 219 3 (.slice va k vc) k (ts.flatMap DV.cs) := by rw [<- hlen4.out]; exact (by rw [hlen4.out] at HO4 ⊢; exact HO4.out)
   go_wp2_with (at_builtin; go_must (refine wpList_append_lies _ rfl (.tmp 14) (.tmp 18) 43 rfl w.heap.size 219 zi _ 3 40 Tryz.underlying43 hi hz0 hz1 hz2 rfl (by decide) (.slice va k vc) k (ts.flatMap DV.cs) rfl ho ⟨w3.heap.size, 0, none⟩ 1 1 [.int .i64 gq, .int .i64 gc, .slice na gtn nc] rfl rfl (World.news_of_block (cs := #[.int .i64 gq, .int .i64 gc, .slice na gtn nc]) (t := 219) (fr := (0, 0)) (heap_alloc_new w3 _)) (by simp [Value.oneCell']) (by omega) (by unfold maxLen; omega) (by omega) (by rw [World.size_alloc]; omega) _ rfl ?_); intro g cp w4 hown hgrow hat hlt1)
   have j5 := j3.app (s := ⟨gq, gc, ⟨na, gtn, nc, gtx⟩⟩) htl.out o3 hle hlo.out hnew.out hown hgrow (hat.elim (fun h => .inl (by rw [h]; rfl)) (fun h => .inr (by rw [h]; rfl)))
   have HS5 : Hid (∀ i, i < k + 1 -> sameD (fs[i]?.getD noD) ((ts ++ [⟨gq, gc, ⟨na, gtn, nc, gtx⟩⟩])[i]?.getD noD)) := fun i hi => by
    by_cases h : i < k
    ·rw [qI (by rw [htl.out]; exact h)]; exact HS.out i h
    ·obtain rfl : i = k := by omega
     rw [qH (by rw [htl.out]; exact qK _), htl.out, Nat.sub_self, HT.out]
     exact ⟨rfl, rfl, rfl, trivial⟩
   clear hown hgrow hat j4 j3 o3 o4 ho HO4
   go_wp2
   go_roundw
   case rel => exact ⟨k + 1, _, _, by omega, by go_num, by show _ = _; rw [qG, htl.out]; rfl, j5, HS5⟩
   case measure => simp [intOf]; omega
  ·obtain rfl : k = N := by omega
   go_wp2
   go_ret
   exact ⟨_, ts, bs, rfl, htl.out, j, HS.out⟩
theorem icopiesD_any (fs : List DV) {w : World} (hN : fs.length = N) (hF : MD w Bq N fs) (hN1 : N <= 1048576) :
  Calls Tryz.prog 169 #[.slice (some ⟨Bq, 0, none⟩) N cap] w fun e w' => ∃ v ts bs, e = .returned v /\ ts.length = N /\ JDc w v ts bs w' /\ ∀ i, i < N -> sameD (fs[i]?.getD noD) (ts[i]?.getD noD) := by
 go_enter Tryz.func169, Tryz.ntmps169
 go_wp2_with fail
 refine (icopiesByD_any fs hN hF hN1).mono ?_
 rintro e w1 ⟨v, ts, bs, rfl, h1, j, h2⟩
 go_wp2
 go_ret
 exact ⟨v, ts, bs, rfl, h1, j, h2⟩
abbrev qV (x q c : Int) (a : Option Addr) (n cap : Nat) : Value := .agg #[.int .i64 x, .int .i64 q, .int .i64 c, .slice a n cap]
theorem icopCall_any {x q c : Int} (zs : List Int) {w : World} (h : Blk w B zs) (hl : zs.length = n) (hn : n <= 1048576) :
  Calls Tryz.prog 347 #[qV x q c (some ⟨B, 0, none⟩) n cap] w fun e w' => ∃ a' cap' B', e = .returned (qV x q c a' n cap') /\ Below w.heap.size w w' /\ OwnX w' a' B' n zs /\ (0 < n -> w.heap.size <= B') := by
 have p0 := (Cel.new w [.int .i64 x, .int .i64 q, .int .i64 c, .slice (some ⟨B, 0, none⟩) n cap] 106).alloc (.cells #[.int .i64 0, .int .i64 0, .int .i64 0, .slice none 0 0] 106)
 have r0 := Cel.new (w.alloc (.cells #[.int .i64 x, .int .i64 q, .int .i64 c, .slice (some ⟨B, 0, none⟩) n cap] 106)) [.int .i64 0, .int .i64 0, .int .i64 0, .slice none 0 0] 106
 rw [World.size_alloc] at r0
 have B0 := ((Below.refl w.heap.size w).alloc (qK _) (.cells #[.int .i64 x, .int .i64 q, .int .i64 c, .slice (some ⟨B, 0, none⟩) n cap] 106)).alloc (by simp) (.cells #[.int .i64 0, .int .i64 0, .int .i64 0, .slice none 0 0] 106)
 have HL : Hid _ := hl
 clear hl
 go_enter Tryz.func347, Tryz.ntmps347
 go_upto_region 1 with fail
 obtain ⟨W0, hW0⟩ : ∃ W, W = (w.alloc (.cells #[.int .i64 x, .int .i64 q, .int .i64 c, .slice (some ⟨B, 0, none⟩) n cap] 106)).alloc (.cells #[.int .i64 0, .int .i64 0, .int .i64 0, .slice none 0 0] 106) := ⟨_, rfl⟩
 rw [<- hW0] at p0 r0 B0 ⊢
 clear hW0
 have c3 := p0.cell 3
 simp only [qD, qE] at c3
 go_wp2_with fail
 refine (cloneN_any zs (h.below B0) HL.out hn).mono ?_
 rintro ee w1 ⟨a', cap', B', rfl, b1, o1, g1⟩
 have p1 := p0.below b1
 have r1 := r0.below b1
 have z3 := p1.free 3
 have T : Touch (fun y => y = w.heap.size) w1 (w1.setCell ⟨w.heap.size, 3, none⟩ (.slice a' n cap')) := (Touch.refl (fun y => y = w.heap.size) w1).setCell rfl _
 have p2 := p1.set 3 (.slice a' n cap')
 simp only [qA, qB] at p2
 have r2 := r1.touch T (fun h => by have : w.heap.size + 1 = w.heap.size := h; omega)
 have s1 := r1.lt
 have s0 := r0.lt
 have o2 := o1.touch T (fun h0 h => by have h : B' = w.heap.size := h; have := g1 h0; omega)
 have B2 := (btq B0 b1).trans (T.below (by omega) (fun z hz => by have hz : z = w.heap.size := hz; omega))
 have B3 : Below w.heap.size w (w1.setCell ⟨w.heap.size, 3, none⟩ (.slice a' n cap')) := B2
 obtain ⟨W2, hW2⟩ : ∃ W, W = w1.setCell ⟨w.heap.size, 3, none⟩ (.slice a' n cap') := ⟨_, rfl⟩
 have e0 := p1.cell 3
 simp only [qD, qE] at e0
 go_upto_region 2 with fail
 rw [<- hW2] at p2 r2 o2 B2 B3 ⊢
 have x0 := p2.cell 0
 have x1 := p2.cell 1
 have x2 := p2.cell 2
 have x3 := p2.cell 3
 have f0 := r2.cell 0
 have f1 := r2.cell 1
 have f2 := r2.cell 2
 have f3 := r2.cell 3
 have z0 := r2.free 0
 have z1 := r2.free 1
 have z2 := r2.free 2
 have z3' := r2.free 3
 have s2 := r2.lt
 simp only [qD, qE] at x0 x1 x2 x3 f0 f1 f2 f3
 clear hW2 T p1 r1 p0 r0 e0 c3 z3
 go_wp2
 refine bodyPost_ret (v := qV x q c a' n cap') (by simp [results, Tryz.results347, go_sem, f0, f1, f2, f3]) rfl ⟨a', cap', B', rfl, ?_, ?_, ?_⟩
 ·exact (((B2.setCell (by simp only []; omega) _).setCell (by simp only []; omega) _).setCell (by simp only []; omega) _).setCell (by simp only []; omega) _
 ·refine (((o2.setOther (fun h0 => ?_) _ _).setOther (fun h0 => ?_) _ _).setOther (fun h0 => ?_) _ _).setOther (fun h0 => ?_) _ _
  all_goals (have := g1 h0; omega)
 ·intro h0; have := g1 h0; omega
structure QL (W : World) (a : Option Addr) (G n : Nat) (f : Nat -> QV) (bs : Nat -> Nat) : Prop where
 g : 0 < n -> a = some ⟨G, 0, none⟩ /\ ∃ cur : List Value, Cel W G cur 106 /\ ∀ j, j < n -> ∀ r, r < 4 -> cur[j * 4 + r]? = (f j).cs[r]?
 l : ∀ j, j < n -> OwnX W (f j).t.a (bs j) (f j).t.n (f j).t.x /\ (0 < (f j).t.n -> bs j ≠ G) /\ (f j).t.n <= 1048576
 d : ∀ i j, i < n -> j < n -> i ≠ j -> 0 < (f i).t.n -> 0 < (f j).t.n -> bs i ≠ bs j
theorem QL.zero (W : World) (a : Option Addr) (G : Nat) (f : Nat -> QV) (bs : Nat -> Nat) : QL W a G 0 f bs := ⟨fun h => by omega, fun j hj => by omega, fun i j hi => by omega⟩
theorem QL.lt {f : Nat -> QV} (h : QL W a G n f bs) (hn : 0 < n) : G < W.heap.size := by
 obtain ⟨_, cur, hc, _⟩ := h.g hn
 exact hc.lt
theorem QL.touch {S : Nat -> Prop} {f : Nat -> QV} (h : QL W a G n f bs) (t : Touch S W W') (hG : 0 < n -> ¬ S G) (hb : ∀ j, j < n -> 0 < (f j).t.n -> ¬ S (bs j)) : QL W' a G n f bs :=
 ⟨fun hn => by
  obtain ⟨e, cur, hc, hv⟩ := h.g hn
  exact ⟨e, cur, hc.touch t (hG hn), hv⟩, fun j hj => by
  obtain ⟨h1, h2, h3⟩ := h.l j hj
  exact ⟨h1.touch t (hb j hj), h2, h3⟩, h.d⟩
theorem QL.below {f : Nat -> QV} (h : QL W a G n f bs) (b : Below W.heap.size W W') : QL W' a G n f bs := h.touch (S := fun _ => False) (Touch.of b) (fun _ h => h) (fun _ _ _ h => h)
theorem QL.ext {f g : Nat -> QV} (h : QL W a G n f bs) (e : ∀ i, i < n -> f i = g i) : QL W a G n g bs :=
 ⟨fun hn => by
  obtain ⟨e1, cur, hc, hv⟩ := h.g hn
  exact ⟨e1, cur, hc, fun j hj r hr => by rw [<- e j hj]; exact hv j hj r hr⟩, fun j hj => by rw [<- e j hj]; exact h.l j hj, fun i j hi hj hne h1 h2 => h.d i j hi hj hne (by rw [e i hi]; exact h1) (by rw [e j hj]; exact h2)⟩
theorem QL.sg {fs : List QV} (h : QL W a G n (fun i => fs[i]?.getD noQ) bs) (hn : fs.length = n) : QSG W a fs := fun i hi => by
 obtain ⟨e1, cur, hc, hv⟩ := h.g (by omega)
 obtain ⟨o, _, z⟩ := h.l i (by omega)
 exact ⟨G, 0, e1, fun r hr => by rw [Nat.zero_add, hc.cell]; exact hv i (by omega) r hr, ⟨o.ints, z⟩, trivial⟩
theorem QL.at {f : Nat -> QV} (h : QL W a G n f bs) {k : Nat} (hk : k < n) : a = some ⟨G, 0, none⟩ /\ (∀ r, r < 4 -> W.cell? ⟨G, k * 4 + r, none⟩ = (f k).cs[r]?) /\ ∀ i, W.frozen? ⟨G, i, none⟩ = false := by
 obtain ⟨e1, cur, hc, hv⟩ := h.g (by omega)
 exact ⟨e1, fun r hr => (hc.cell _).trans (hv k hk r hr), fun i => hc.free i⟩
theorem QL.put {f : Nat -> QV} (h : QL W a G n f bs) {k : Nat} (hk : k < n) (y0 y1 y2 : Int) : QL (((W.setCell ⟨G, k * 4, none⟩ (.int .i64 y0)).setCell ⟨G, k * 4 + 1, none⟩ (.int .i64 y1)).setCell ⟨G, k * 4 + 2, none⟩ (.int .i64 y2)) a G n (fun i => if i = k then ⟨y0, y1, y2, (f k).t⟩ else f i) bs := by
 obtain ⟨e1, cur, hc, hv⟩ := h.g (by omega)
 have T : Touch (fun x => x = G) W (((W.setCell ⟨G, k * 4, none⟩ (.int .i64 y0)).setCell ⟨G, k * 4 + 1, none⟩ (.int .i64 y1)).setCell ⟨G, k * 4 + 2, none⟩ (.int .i64 y2)) := (((Touch.refl (fun x => x = G) W).setCell rfl _).setCell rfl _).setCell rfl _
 have hlen : k * 4 + 3 < cur.length := by
  have h2 := hv k hk 3 (by omega)
  have e : (f k).cs[3]? = some (f k).t.v := rfl
  rw [e] at h2
  exact (List.getElem?_eq_some_iff.1 h2).1
 refine ⟨fun _ => ⟨e1, _, (((hc.set (k * 4) _).set (k * 4 + 1) _).set (k * 4 + 2) _), fun j hj r hr => ?_⟩, fun j hj => ?_, fun i j hi hj hne h1 h2 => ?_⟩
 ·(try dsimp only)
  by_cases e : j = k
  ·subst e
   rw [if_pos rfl]
   have hcase : r = 0 \/ r = 1 \/ r = 2 \/ r = 3 := by omega
   rcases hcase with rfl | rfl | rfl | rfl
   ·simp only [Nat.add_zero]
    rw [qF (by omega), qF (by omega), qJ (by omega)]; rfl
   ·rw [qF (by omega), qJ (by simp; omega)]; rfl
   ·rw [qJ (by simp; omega)]; rfl
   ·rw [qF (by omega), qF (by omega), qF (by omega)]; exact hv j hj 3 (by omega)
  ·rw [if_neg e]
   have hr' : j * 4 + r < k * 4 \/ k * 4 + 4 <= j * 4 + r := by
    rcases Nat.lt_or_gt_of_ne e with h | h
    ·left; omega
    ·right; omega
   rw [qF (by omega), qF (by omega), qF (by omega)]
   exact hv j hj r hr
 ·obtain ⟨h1, h2, h3⟩ := h.l j hj
  have hh := h1.touch T (fun h0 e => h2 h0 e)
  (try dsimp only)
  by_cases e : j = k
  ·subst e; rw [if_pos rfl]; exact ⟨hh, h2, h3⟩
  ·rw [if_neg e]; exact ⟨hh, h2, h3⟩
 ·have e : ∀ i, (if i = k then (⟨y0, y1, y2, (f k).t⟩ : QV) else f i).t = (f i).t := fun i => by
   by_cases e : i = k
   ·subst e; rw [if_pos rfl]
   ·rw [if_neg e]
  (try dsimp only at h1 h2)
  rw [e] at h1 h2
  exact h.d i j hi hj hne h1 h2
def offQ (f : Nat -> QV) : Nat -> Nat
 | 0 => 0
 | j + 1 => offQ f j + (3 + (f j).t.n)
def mkQ (k0 : Int) (f : Nat -> QV) (i : Nat) : QV := ⟨k0 + offQ f i, k0 + offQ f i + 1, k0 + offQ f i + 1 + 1, ⟨(f i).t.a, (f i).t.n, (f i).t.cap, ramp (k0 + offQ f i + 1 + 1 + 1) (f i).t.n⟩⟩
theorem offQ_mono (f : Nat -> QV) {i j : Nat} (h : i <= j) : offQ f i <= offQ f j := by
 induction h with
 | refl => exact qK _
 | step _ ih => simp only [offQ]; omega
theorem markQL_any (f : Nat -> QV) (bs : Nat -> Nat) {k0 : Int} {w : World} (h : QL w a G n f bs) (hn : n <= 1048576) (hk0 : 0 <= k0) (hk : k0 + offQ f n <= 100000000000000) :
  Calls Tryz.prog 95 #[.slice a n cap, .int .i64 k0] w fun e w' => e = .returned (.int .i64 (k0 + offQ f n)) /\ Touch (fun x => (0 < n /\ x = G) \/ ∃ j, j < n /\ 0 < (f j).t.n /\ x = bs j) w w' /\ QL w' a G n (mkQ k0 f) bs := by
 have H : Hid (QL w a G n f bs) := h
 have HO : Hid (∀ i j, i <= j -> offQ f i <= offQ f j) := fun i j h => offQ_mono f h
 have HK : Hid (k0 + offQ f n <= 100000000000000) := hk
 clear h hk
 go_enter Tryz.func95, Tryz.ntmps95
 go_wp2_with fail
 go_loopw [1, 5] (fun kv i wr => ∃ k : Nat, k <= n /\ i = .int .i64 k /\ kv = .int .i64 (k0 + offQ f k) /\ Touch (fun x => (0 < n /\ x = G) \/ ∃ j, j < n /\ 0 < (f j).t.n /\ x = bs j) w wr /\ QL wr a G n (fun i => if i < k then mkQ k0 f i else f i) bs) (fun _ i _ => n - (intOf i).toNat)
 case atStart => exact ⟨0, qL _, rfl, by simp [offQ], Touch.refl _ _, H.out.ext (fun i _ => by simp)⟩
 case round =>
  obtain ⟨k, hk', rfl, rfl, t, d⟩ := hrel
  by_cases hlt : k < n
  ·obtain ⟨ea, hcs, fz⟩ := d.at hlt
   have hl := (d.l k hlt)
   have efk : (if k < k then mkQ k0 f k else f k) = f k := if_neg (by omega)
   rw [efk] at hcs hl
   obtain ⟨o, hne, hz⟩ := hl
   subst ea
   obtain ⟨e0, e1, e2, e3⟩ := cellsQ hcs
   have b1 := HO.out (k + 1) n (by omega)
   have b2 : offQ f (k + 1) = offQ f k + (3 + (f k).t.n) := rfl
   have b3 := HK.out
   obtain ⟨kk, hkk⟩ : ∃ kk : Int, kk = k0 + offQ f k := ⟨_, rfl⟩
   have HKK : Hid _ := hkk
   have hkb : 0 <= kk /\ kk <= 100000000000000 := by omega
   rw [<- hkk]
   have dp := d.put hlt (kk) (kk + 1) (kk + 1 + 1)
   have T2 : Touch (fun x => (0 < n /\ x = G) \/ ∃ j, j < n /\ 0 < (f j).t.n /\ x = bs j) w (((wr.setCell ⟨G, k * 4, none⟩ (.int .i64 (kk))).setCell ⟨G, k * 4 + 1, none⟩ (.int .i64 (kk + 1))).setCell ⟨G, k * 4 + 2, none⟩ (.int .i64 (kk + 1 + 1))) := (((t.setCell (B := G) (Or.inl ⟨by omega, rfl⟩) _).setCell (B := G) (Or.inl ⟨by omega, rfl⟩) _).setCell (B := G) (Or.inl ⟨by omega, rfl⟩) _)
   have TG : Touch (fun x => x = G) wr (((wr.setCell ⟨G, k * 4, none⟩ (.int .i64 (kk))).setCell ⟨G, k * 4 + 1, none⟩ (.int .i64 (kk + 1))).setCell ⟨G, k * 4 + 2, none⟩ (.int .i64 (kk + 1 + 1))) := (((Touch.refl (fun x => x = G) wr).setCell rfl _).setCell rfl _).setCell rfl _
   have o' := o.touch TG (fun h0 e => hne h0 e)
   generalize hft : (f k).t = ft at *
   have HFT : Hid ((f k).t = ft) := hft
   obtain ⟨fa, fn, fc, fx⟩ := ft
   have e3' : wr.cell? ⟨G, k * 4 + 3, none⟩ = some (.slice fa fn fc) := e3
   have o2 : OwnX (((wr.setCell ⟨G, k * 4, none⟩ (.int .i64 (kk))).setCell ⟨G, k * 4 + 1, none⟩ (.int .i64 (kk + 1))).setCell ⟨G, k * 4 + 2, none⟩ (.int .i64 (kk + 1 + 1))) fa (bs k) fn fx := o'
   have hz' : fn <= 1048576 := hz
   have hne' : 0 < fn -> bs k ≠ G := hne
   have f0 := fz (k * 4)
   have f1 := fz (k * 4 + 1)
   have f2 := fz (k * 4 + 2)
   have hlt' : (k : Int) < (n : Int) := by omega
   obtain ⟨hkb1, hkb2⟩ := hkb
   clear o o' hz hne hft efk hcs fz b1 b2 b3 hkk e3
   go_wp2_with fail
   refine (markX_any (bs k) fx o2 hz' (by omega) (by omega)).mono ?_
   rintro ee w2 ⟨rfl, t2, o3⟩
   have T3 := T2.trans (t2.mono (T := fun x => (0 < n /\ x = G) \/ ∃ j, j < n /\ 0 < (f j).t.n /\ x = bs j) fun y hy => Or.inr ⟨k, hlt, by rw [HFT.out]; exact hy.2, hy.1⟩)
   have D3 : QL w2 (some ⟨G, 0, none⟩) G n (fun i => if i < k + 1 then mkQ k0 f i else f i) bs := by
    refine ⟨fun hn0 => ?_, fun j hj => ?_, fun i j hi hj hij h1 h2 => ?_⟩
    ·obtain ⟨e1, cur, hc, hv⟩ := dp.g hn0
     refine ⟨e1, cur, hc.touch t2 (fun hh => hne' hh.2 hh.1.symm), fun j hj r hr => ?_⟩
     have h1 := hv j hj r hr
     (try dsimp only at h1 ⊢)
     rw [h1]
     by_cases e : j = k
     ·subst e
      have hk1 : (if j < j then mkQ k0 f j else f j) = f j := if_neg (by omega)
      have hk2 : (if j < j + 1 then mkQ k0 f j else f j) = mkQ k0 f j := if_pos (by omega)
      rw [hk1, hk2, if_pos (rfl : j = j), mkQ, <- HKK.out]
      simp only [QV.cs, IV.v]
     ·rw [if_neg e]
      by_cases e2 : j < k
      ·rw [if_pos e2, if_pos (by omega)]
      ·rw [if_neg e2, if_neg (by omega)]
    ·have h1 := dp.l j hj
     (try dsimp only at h1 ⊢)
     by_cases e : j = k
     ·subst e
      rw [if_pos (by omega)]
      refine ⟨?_, ?_, ?_⟩
      ·show OwnX w2 (mkQ k0 f j).t.a (bs j) (mkQ k0 f j).t.n (mkQ k0 f j).t.x
       simp only [mkQ]
       rw [HFT.out, <- HKK.out]
       exact o3
      ·simp only [mkQ]; rw [HFT.out]; exact hne'
      ·simp only [mkQ]; rw [HFT.out]; exact hz'
     ·rw [if_neg e] at h1
      have hx : (if j < k + 1 then mkQ k0 f j else f j) = (if j < k then mkQ k0 f j else f j) := by
       by_cases e2 : j < k
       ·rw [if_pos e2, if_pos (by omega)]
       ·rw [if_neg e2, if_neg (by omega)]
      rw [hx]
      refine ⟨h1.1.touch t2 (fun h0 hh => ?_), h1.2⟩
      have hd := d.d j k hj hlt e (by simpa using h0) (by
       have : (if k < k then mkQ k0 f k else f k) = f k := if_neg (by omega)
       rw [this, HFT.out]; exact hh.2)
      exact hd hh.1
    ·have e : ∀ i, (if i < k + 1 then mkQ k0 f i else f i).t.n = (f i).t.n := fun i => by
      by_cases e : i < k + 1
      ·rw [if_pos e]; rfl
      ·rw [if_neg e]
     have e' : ∀ i, (if i < k then mkQ k0 f i else f i).t.n = (f i).t.n := fun i => by
      by_cases e : i < k
      ·rw [if_pos e]; rfl
      ·rw [if_neg e]
     (try dsimp only at h1 h2)
     rw [e] at h1 h2
     exact d.d i j hi hj hij (by rw [e']; exact h1) (by rw [e']; exact h2)
   have HE : Hid (k0 + (offQ f (k + 1) : Nat) = kk + 1 + 1 + 1 + fn) := by
    show _ = _
    have h1 : offQ f (k + 1) = offQ f k + (3 + (f k).t.n) := rfl
    have h2 : (f k).t.n = fn := by rw [HFT.out]
    rw [HKK.out, h1, h2]
    omega
   clear d dp t T2 TG t2 o3
   go_wp2
   go_roundw
   case rel => exact ⟨k + 1, by omega, by go_num, by rw [HE.out], T3, D3⟩
   case measure => simp [intOf]; omega
  ·obtain rfl : k = n := by omega
   go_wp2
   go_ret
   exact ⟨rfl, t, d.ext (fun i hi => by rw [if_pos hi])⟩
theorem heldQL_any (f : Nat -> QV) (bs : Nat -> Nat) {k0 : Int} {w : World} (h : QL w a G n (mkQ k0 f) bs) (hn : n <= 1048576) (hk0 : 0 <= k0) (hk : k0 + offQ f n <= 100000000000000) :
  Calls Tryz.prog 98 #[.slice a n cap, .int .i64 k0] w fun e w' => e = .returned (.int .i64 (k0 + offQ f n)) /\ w' = w := by
 have H : Hid (QL w a G n (mkQ k0 f) bs) := h
 have HO : Hid (∀ i j, i <= j -> offQ f i <= offQ f j) := fun i j h => offQ_mono f h
 have HK : Hid (k0 + offQ f n <= 100000000000000) := hk
 clear h hk
 go_enter Tryz.func98, Tryz.ntmps98
 go_wp2_with fail
 go_loopw [1, 5] (fun kv i wr => ∃ k : Nat, k <= n /\ i = .int .i64 k /\ kv = .int .i64 (k0 + offQ f k) /\ wr = w) (fun _ i _ => n - (intOf i).toNat)
 case atStart => exact ⟨0, qL _, rfl, by simp [offQ], rfl⟩
 case round =>
  obtain ⟨k, hk', rfl, rfl, rfl⟩ := hrel
  by_cases hlt : k < n
  ·obtain ⟨ea, hcs, -⟩ := H.out.at hlt
   obtain ⟨o, -, hz⟩ := H.out.l k hlt
   subst ea
   obtain ⟨e0, e1, e2, e3⟩ := cellsQ hcs
   have b1 := HO.out (k + 1) n (by omega)
   have b2 : offQ f (k + 1) = offQ f k + (3 + (f k).t.n) := rfl
   have b3 := HK.out
   simp only [mkQ] at e0 e1 e2 e3 o hz
   obtain ⟨kk, hkk⟩ : ∃ kk : Int, kk = k0 + offQ f k := ⟨_, rfl⟩
   have HKK : Hid _ := hkk
   have hkb : 0 <= kk /\ kk <= 100000000000000 := by omega
   have hkn : 0 <= kk + 1 + 1 + 1 + (f k).t.n := by omega
   rw [<- hkk] at e0 e1 e2 e3 o ⊢
   generalize hft : (f k).t = ft at *
   have HFT : Hid ((f k).t = ft) := hft
   obtain ⟨fa, fn, fc, fx⟩ := ft
   simp only [IV.v] at e3 o hz hkn
   have hi3 := o.ints
   have hlt' : (k : Int) < (n : Int) := by omega
   obtain ⟨hkb1, hkb2⟩ := hkb
   have HE : Hid (k0 + (offQ f (k + 1) : Nat) = kk + 1 + 1 + 1 + fn) := by
    show _ = _
    have h1 : offQ f (k + 1) = offQ f k + (3 + (f k).t.n) := rfl
    have h2 : (f k).t.n = fn := by rw [HFT.out]
    rw [HKK.out, h1, h2]
    omega
   clear hcs o hft b1 b2 b3 hkk
   go_wp2_with fail
   refine (held_any hi3 hz (by omega) (by omega)).mono ?_
   rintro ee w2 ⟨rfl, rfl⟩
   go_wp2
   go_roundw
   case rel => exact ⟨k + 1, by omega, by go_num, by rw [HE.out], trivial⟩
   case measure => simp [intOf]; omega
  ·obtain rfl : k = n := by omega
   go_wp2
   go_ret
   exact ⟨rfl, rfl⟩
structure JQc (w : World) (v : Value) (ts : List QV) (bs : Nat -> Nat) (W : World) : Prop where
 b : Below w.heap.size w W
 o : W.ownsRow w.heap.size 106 4 v ts.length (ts.flatMap QV.cs)
 k : ∀ j, j < ts.length -> OwnX W (ts[j]?.getD noQ).t.a (bs j) (ts[j]?.getD noQ).t.n (ts[j]?.getD noQ).t.x /\ (ts[j]?.getD noQ).t.n <= 1048576 /\ (0 < (ts[j]?.getD noQ).t.n -> w.heap.size <= bs j /\ some (bs j) ≠ v.ownBlock)
 d : ∀ i j, i < ts.length -> j < ts.length -> i ≠ j -> 0 < (ts[i]?.getD noQ).t.n -> 0 < (ts[j]?.getD noQ).t.n -> bs i ≠ bs j
theorem JQc.nil (w W : World) (hb : Below w.heap.size w W) (bs : Nat -> Nat) : JQc w (.slice none 0 0) [] bs W := ⟨hb, World.ownsRow_nil W _ _ _, fun j hj => by simp at hj, fun i j hi => by simp at hi⟩
theorem JQc.below {ts : List QV} (j : JQc w v ts bs W) (h : Below W.heap.size W W') : JQc w v ts bs W' :=
 ⟨j.b.trans (h.mono j.b.size), own_below j.o h, fun i hi => by obtain ⟨a, b⟩ := j.k i hi; exact ⟨a.below h, b⟩, j.d⟩
theorem JQc.own {ts : List QV} (j : JQc w v ts bs W) {g : Nat} (h : v.ownBlock = some g) : w.heap.size <= g /\ g < W.heap.size := by
 rcases j.o.2 with ⟨h', _⟩ | ⟨g', cap, cur, hv, hg, hh, r⟩
 ·rw [h'] at h; simp [Value.ownBlock] at h
 ·rw [hv] at h
  simp only [Value.ownBlock, Option.some.injEq] at h
  subst h
  exact ⟨hg, lt_of_block hh⟩
theorem JQc.isSlice {ts : List QV} (j : JQc w v ts bs W) (hk : ts.length = k) : ∃ a c, v = .slice a k c := by
 subst hk
 rcases j.o.2 with ⟨h', h0⟩ | ⟨g', cap, cur, hv, hg, hh, r⟩
 ·exact ⟨none, 0, by rw [h', h0]⟩
 ·exact ⟨_, _, hv⟩
theorem JQc.app {v' : Value} {ts : List QV} {s : QV} {A : Nat} {o : Obj} (j : JQc w v ts bs W) (hk : ts.length = k) (hA : OwnX W s.t.a A s.t.n s.t.x) (hz : s.t.n <= 1048576) (hlo : 0 < s.t.n -> w.heap.size <= A /\ some A ≠ v.ownBlock) (hnew : 0 < s.t.n -> ∀ i, i < k -> 0 < (ts[i]?.getD noQ).t.n -> bs i ≠ A)
  (hown : W'.ownsRow w.heap.size 106 4 v' (k + 1) (ts.flatMap QV.cs ++ s.cs)) (hg : (W.alloc o).grownBy W' v.ownBlock) (hat : v'.ownBlock = v.ownBlock \/ v'.ownBlock = some (W.alloc o).heap.size) : JQc w v' (ts ++ [s]) (fun i => if i < k then bs i else A) W' := by
 subst hk
 have B1 : Below W.heap.size W (W.alloc o) := bal
 have ja := j.below B1
 have key : ∀ (a : Option Addr) (Y n : Nat) (x : List Int), OwnX W a Y n x -> (0 < n -> w.heap.size <= Y /\ some Y ≠ v.ownBlock) -> OwnX W' a Y n x /\ (0 < n -> w.heap.size <= Y /\ some Y ≠ v'.ownBlock) := fun a Y n x h1 h2 => by
  refine ⟨?_, fun hn => ⟨(h2 hn).1, fun e => ?_⟩⟩
  ·have h3 := h1.below B1
   rcases h3.2 with h0 | ⟨e1, cur, hc, hv⟩
   ·exact ⟨h3.1, .inl h0⟩
   ·by_cases hn : 0 < n
    ·exact ⟨h3.1, .inr ⟨e1, cur, hc.grew hg (fun e => (h2 hn).2 e.symm), hv⟩⟩
    ·exact ⟨h3.1, .inl (by omega)⟩
  ·have hl := h1.lt hn
   rcases hat with h | h
   ·exact (h2 hn).2 (e.trans h)
   ·rw [h, World.size_alloc] at e
    simp only [Option.some.injEq] at e
    omega
 have hold : ∀ i, i < ts.length -> (ts ++ [s])[i]?.getD noQ = (ts[i]?.getD noQ) := fun i h => by rw [qI h]
 have hlast : (ts ++ [s])[ts.length]?.getD noQ = s := by rw [qH (qK _), Nat.sub_self]; rfl
 refine ⟨ja.b.grown hg ja.b.size (fun z hz => (j.own hz).1), ?_, fun i hi => ?_, fun i i' hi hi' hne h1 h2 => ?_⟩
 ·rw [qG, List.flatMap_append]
  have : [s].flatMap QV.cs = s.cs := by simp
  rw [this]
  exact hown
 ·by_cases h : i < ts.length
  ·rw [hold i h]
   obtain ⟨a, b, d⟩ := j.k i h
   simp only [h, if_true]
   obtain ⟨q1, q2⟩ := key _ _ _ _ a d
   exact ⟨q1, b, q2⟩
  ·rw [qG, qM] at hi
   obtain rfl : i = ts.length := by omega
   rw [hlast]
   simp only [Nat.lt_irrefl, if_false]
   obtain ⟨q1, q2⟩ := key _ _ _ _ hA hlo
   exact ⟨q1, hz, q2⟩
 ·rw [qG, qM] at hi hi'
  by_cases h : i < ts.length
  ·by_cases h' : i' < ts.length
   ·rw [hold i h] at h1
    rw [hold i' h'] at h2
    simp only [h, h', if_true]
    exact j.d i i' h h' hne h1 h2
   ·obtain rfl : i' = ts.length := by omega
    rw [hold i h] at h1
    rw [hlast] at h2
    simp only [h, if_true, Nat.lt_irrefl, if_false]
    exact hnew h2 i h h1
  ·obtain rfl : i = ts.length := by omega
   have h' : i' < ts.length := by omega
   rw [hlast] at h1
   rw [hold i' h'] at h2
   simp only [h', if_true, Nat.lt_irrefl, if_false]
   exact fun e => hnew h1 i' h' h2 e.symm
theorem atQc (ts : List QV) : ∀ i, i < ts.length -> ∀ r, r < 4 -> (ts.flatMap QV.cs)[i * 4 + r]? = (ts[i]?.getD noQ).cs[r]? := by
 induction ts with
 | nil => intro i hi; simp at hi
 | cons t ts ih =>
  intro i hi r hr
  rw [List.flatMap_cons]
  have hl : t.cs.length = 4 := rfl
  cases i with
  | zero => rw [qI (by omega)]; simp
  | succ i =>
   rw [qH (by omega), hl, show (i + 1) * 4 + r - 4 = i * 4 + r by omega, ih i (by simpa using hi) r hr]
   simp
theorem JQc.lies {ts : List QV} (j : JQc w v ts bs W) (hn : ts.length = n) : ∃ a G cap, v = .slice a n cap /\ QL W a G n (fun i => ts[i]?.getD noQ) bs /\ (0 < n -> w.heap.size <= G) /\ ∀ i, i < n -> 0 < (ts[i]?.getD noQ).t.n -> w.heap.size <= bs i := by
 subst hn
 rcases j.o.2 with ⟨h', h0⟩ | ⟨g, cap, cur, hv, hg, hh, _, _, hcs, htake⟩
 ·refine ⟨none, 0, 0, by rw [h', h0], ?_, fun h => by omega, fun i hi => by omega⟩
  rw [h0]
  exact QL.zero _ _ _ _ _
 ·refine ⟨_, g, cap, hv, ⟨fun h => ⟨rfl, cur.toList, by unfold Cel; simpa using hh, fun i hi r hr => ?_⟩, fun i hi => ?_, fun i i' hi hi' hne h1 h2 => j.d i i' hi hi' hne h1 h2⟩, fun _ => hg, fun i hi h => ((j.k i hi).2.2 h).1⟩
  ·rw [<- atQc ts i hi r hr, <- htake, List.getElem?_take, if_pos (by omega)]
  ·obtain ⟨a, b, d⟩ := j.k i hi
   refine ⟨a, fun h e => (d h).2 ?_, b⟩
   rw [hv, e]
   rfl
theorem Tryz.copiedQ (v : Value) (w : World) : (Go.method 545 106 v "loop.example/concord/impl.copied").run Tryz.prog w = .ok (347, v) w := by kernel_rfl
theorem icopiesByQ_any (fs : List QV) {w : World} (hN : fs.length = N) (hF : MQ w Bq N fs) (hN1 : N <= 1048576) :
  Calls Tryz.prog 222 #[.slice (some ⟨Bq, 0, none⟩) N cap, .func (.methodOf 106 "loop.example/concord/impl.copied") #[] #[]] w fun e w' => ∃ v ts bs, e = .returned v /\ ts.length = N /\ JQc w v ts bs w' /\ ∀ i, i < N -> sameQ (fs[i]?.getD noQ) (ts[i]?.getD noQ) := by
 have HN : Hid (fs.length = N) := hN
 have HF : Hid (MQ w Bq N fs) := hF
 clear hN hF
 obtain ⟨zi, hi, hz0, hz1, hz2⟩ := info_parts Tryz.infoPlnCall
 have hm := Tryz.copiedQ
 go_enter Tryz.func222, Tryz.ntmps222
 go_wp2_with fail
 go_loopw [5, 7, 10] (fun r _ i wr => ∃ (k : Nat) (ts : List QV) (bs : Nat -> Nat), k <= N /\ i = .int .i64 k /\ Hid (ts.length = k) /\ JQc w r ts bs wr /\ Hid (∀ i, i < k -> sameQ (fs[i]?.getD noQ) (ts[i]?.getD noQ))) (fun _ _ i _ => N - (intOf i).toNat)
 case atStart => exact ⟨0, [], fun _ => 0, qL _, rfl, rfl, JQc.nil w _ (Below.refl _ _) _, fun i hi => by omega⟩
 case round =>
  obtain ⟨k, ts, bs, hk, rfl, htl, j, HS⟩ := hrel
  by_cases hlt : k < N
  ·obtain ⟨va, vc, rfl⟩ := j.isSlice htl.out
   have hlt' : (k : Int) < N := by omega
   obtain ⟨vs, hcel, hvl, hcs⟩ := (HF.out.below j.b).c
   have hdk := (HF.out.below j.b).l k (by rw [HN.out]; exact hlt)
   have hcs' := hcs k (by rw [HN.out]; exact hlt)
   have hx : ∀ r, r < 4 -> wr.cell? ⟨Bq, k * 4 + r, none⟩ = (fs[k]?.getD noQ).cs[r]? := fun r hr => by rw [hcel.cell]; exact hcs' r hr
   generalize HG : fs[k]?.getD noQ = g at *
   have HT : Hid (fs[k]?.getD noQ = g) := HG
   clear HG hcs hcs'
   obtain ⟨gx, gq, gc, ⟨gta, gtn, gtc, gtx⟩⟩ := g
   obtain ⟨e0, e1, e2, e3⟩ := cellsQ hx
   have e0' : wr.cell? ⟨Bq, k * 4, none⟩ = some (.int .i64 gx) := e0
   have e1' : wr.cell? ⟨Bq, k * 4 + 1, none⟩ = some (.int .i64 gq) := e1
   have e2' : wr.cell? ⟨Bq, k * 4 + 2, none⟩ = some (.int .i64 gc) := e2
   have e3' : wr.cell? ⟨Bq, k * 4 + 3, none⟩ = some (.slice gta gtn gtc) := e3
   obtain ⟨⟨Bl, hBl, _, hblk, hlen, hle⟩, -⟩ := hdk
   obtain rfl : gta = some ⟨Bl, 0, none⟩ := hBl
   have hblk : Blk wr Bl gtx := hblk
   have hlen : Hid (gtx.length = gtn) := hlen
   have hle : gtn <= 1048576 := hle
   clear e0 e1 e2 e3 hx
   have A1 : Below wr.heap.size wr (wr.alloc (.cells #[.int .i64 gx, .int .i64 gq, .int .i64 gc, .slice (some ⟨Bl, 0, none⟩) gtn gtc] 106)) := bal
   have sz := j.b.size
   go_wp2_with fail
   refine (icopCall_any gtx (hblk.below A1) hlen.out hle).mono ?_
   rintro ee w3 ⟨na, nc, nB, rfl, b3, o3, g3⟩
   rw [World.size_alloc] at g3
   have b3' := btq A1 b3
   have j3 := j.below b3'
   have sz3 := b3'.size
   have A : Below w3.heap.size w3 (w3.alloc (.cells #[.int .i64 gx, .int .i64 gq, .int .i64 gc, .slice na gtn nc] 106)) := bal
   have j4 := j3.below A
   have o4 := o3.below A
   have hnew : Hid (0 < gtn -> ∀ i, i < k -> 0 < (ts[i]?.getD noQ).t.n -> bs i ≠ nB) := fun h0 i hi hi0 => by
    have h1 := ((j.k i (by rw [htl.out]; exact hi)).1).lt hi0
    have h2 := g3 h0
    omega
   have hlo : Hid (0 < gtn -> w.heap.size <= nB /\ some nB ≠ (Value.slice va k vc).ownBlock) := fun h0 => by
    have h2 := g3 h0
    exact ⟨by omega, fun e => by have := (j.own e.symm).2; omega⟩
   have hlen4 : Hid (ts.length = k) := htl
   have HO4 : Hid _ := j4.o
   clear j e0' e1' e2' e3' hblk A1 b3 b3' g3
   have ho : (w3.alloc (.cells #[.int .i64 gx, .int .i64 gq, .int .i64 gc, .slice na gtn nc] 106)).ownsRow w.heap.size 106 4 (.slice va k vc) k (ts.flatMap QV.cs) := by rw [<- hlen4.out]; exact (by rw [hlen4.out] at HO4 ⊢; exact HO4.out)
   go_wp2_with (at_builtin; go_must (refine wpList_append_lies _ rfl (.tmp 14) (.tmp 18) 44 rfl w.heap.size 106 zi _ 4 48 Tryz.underlying44 hi hz0 hz1 hz2 rfl (by decide) (.slice va k vc) k (ts.flatMap QV.cs) rfl ho ⟨w3.heap.size, 0, none⟩ 1 1 [.int .i64 gx, .int .i64 gq, .int .i64 gc, .slice na gtn nc] rfl rfl (World.news_of_block (cs := #[.int .i64 gx, .int .i64 gq, .int .i64 gc, .slice na gtn nc]) (t := 106) (fr := (0, 0)) (heap_alloc_new w3 _)) (by simp [Value.oneCell']) (by omega) (by unfold maxLen; omega) (by omega) (by rw [World.size_alloc]; omega) _ rfl ?_); intro g cp w4 hown hgrow hat hlt1)
   have j5 := j3.app (s := ⟨gx, gq, gc, ⟨na, gtn, nc, gtx⟩⟩) htl.out o3 hle hlo.out hnew.out hown hgrow (hat.elim (fun h => .inl (by rw [h]; rfl)) (fun h => .inr (by rw [h]; rfl)))
   have HS5 : Hid (∀ i, i < k + 1 -> sameQ (fs[i]?.getD noQ) ((ts ++ [⟨gx, gq, gc, ⟨na, gtn, nc, gtx⟩⟩])[i]?.getD noQ)) := fun i hi => by
    by_cases h : i < k
    ·rw [qI (by rw [htl.out]; exact h)]; exact HS.out i h
    ·obtain rfl : i = k := by omega
     rw [qH (by rw [htl.out]; exact qK _), htl.out, Nat.sub_self, HT.out]
     exact ⟨rfl, rfl, rfl, rfl, trivial⟩
   clear hown hgrow hat j4 j3 o3 o4 ho HO4
   go_wp2
   go_roundw
   case rel => exact ⟨k + 1, _, _, by omega, by go_num, by show _ = _; rw [qG, htl.out]; rfl, j5, HS5⟩
   case measure => simp [intOf]; omega
  ·obtain rfl : k = N := by omega
   go_wp2
   go_ret
   exact ⟨_, ts, bs, rfl, htl.out, j, HS.out⟩
theorem icopiesQ_any (fs : List QV) {w : World} (hN : fs.length = N) (hF : MQ w Bq N fs) (hN1 : N <= 1048576) :
  Calls Tryz.prog 170 #[.slice (some ⟨Bq, 0, none⟩) N cap] w fun e w' => ∃ v ts bs, e = .returned v /\ ts.length = N /\ JQc w v ts bs w' /\ ∀ i, i < N -> sameQ (fs[i]?.getD noQ) (ts[i]?.getD noQ) := by
 go_enter Tryz.func170, Tryz.ntmps170
 go_wp2_with fail
 refine (icopiesByQ_any fs hN hF hN1).mono ?_
 rintro e w1 ⟨v, ts, bs, rfl, h1, j, h2⟩
 go_wp2
 go_ret
 exact ⟨v, ts, bs, rfl, h1, j, h2⟩
end Go.Proofs.YtacfoeekmcnpjaaGreatDoor
