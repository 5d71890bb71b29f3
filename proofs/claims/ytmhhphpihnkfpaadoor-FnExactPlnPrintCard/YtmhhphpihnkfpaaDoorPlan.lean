/-
  Plans: the size, a copy, one held against another, an argument that is one; whether one is ok. Lengths at most 1048576 where one is copied.
-/
import Derived.Test.YtmhhphpihnkfpaaDoorCat
import Derived.Test.YtmhhphpihnkfpaaDoorTrtW
namespace Go.Proofs.YtmhhphpihnkfpaaDoor
open Go.ChangeShapes Go.WideShapes Go.ChangeAt Go.RowKit Go.Joins
set_option linter.unusedVariables false
set_option maxRecDepth 100000

/-- A plan as a value. -/
abbrev plV (cl : Int) (ad : Option Addr) (N cap : Nat) (ga : Option Addr) (gn gc : Nat) (sa : Option Addr) (sn sc : Nat) : Value := .agg #[.int .i64 cl, .slice ad N cap, .slice ga gn gc, .slice sa sn sc]

/-- What a plan holds, that may be copied. -/
structure PlAt (w : World) (ad : Option Addr) (N : Nat) (ss : List L2V) (ga : Option Addr) (gn : Nat) (G : List Int) (sa : Option Addr) (sn : Nat) (S : List Int) : Prop where
  a : LSG w ad ss
  ha : ss.length = N
  za : N ≤ 1048576
  g : Ints w ga gn G
  zg : gn ≤ 1048576
  s : Ints w sa sn S
  zs : sn ≤ 1048576
theorem PlAt.below {w w' : World} {ad : Option Addr} {N : Nat} {ss : List L2V} {ga : Option Addr} {gn : Nat} {G : List Int} {sa : Option Addr} {sn : Nat} {S : List Int} (h : PlAt w ad N ss ga gn G sa sn S) (b : Below w.heap.size w w') : PlAt w' ad N ss ga gn G sa sn S :=
  ⟨h.a.below b, h.ha, h.za, h.g.below b, h.zg, h.s.below b, h.zs⟩
theorem PlAt.alloc {w : World} {ad : Option Addr} {N : Nat} {ss : List L2V} {ga : Option Addr} {gn : Nat} {G : List Int} {sa : Option Addr} {sn : Nat} {S : List Int} (h : PlAt w ad N ss ga gn G sa sn S) (o : Obj) : PlAt (w.alloc o) ad N ss ga gn G sa sn S :=
  h.below ((Below.refl _ _).alloc (Nat.le_refl _) _)

theorem Cel.quadP {w : World} {B : Nat} {x y z u : Value} {t : TypeId} (h : Cel w B [x, y, z, u] t) : w.cell? ⟨B, 0, none⟩ = some x ∧ w.cell? ⟨B, 1, none⟩ = some y ∧ w.cell? ⟨B, 2, none⟩ = some z ∧ w.cell? ⟨B, 3, none⟩ = some u := ⟨h.cell 0, h.cell 1, h.cell 2, h.cell 3⟩
/-- A box, and all that came before is as it was. -/
structure BP (w : World) (B : Nat) (la : List Value) (ty : TypeId) (W : World) : Prop where
  p : Cel W B la ty
  b : Below w.heap.size w W
theorem BP.new (w : World) (la : List Value) (ty : TypeId) : BP w w.heap.size la ty (w.alloc (.cells la.toArray ty)) := ⟨Cel.new w la ty, (Below.refl _ _).alloc (Nat.le_refl _) _⟩
theorem BP.below {w W W' : World} {B : Nat} {la : List Value} {ty : TypeId} (h : BP w B la ty W) (b : Below W.heap.size W W') : BP w B la ty W' := ⟨h.p.below b, h.b.trans (b.mono h.b.size)⟩
theorem BP.alloc {w W : World} {B : Nat} {la : List Value} {ty : TypeId} (h : BP w B la ty W) (o : Obj) : BP w B la ty (W.alloc o) := h.below ((Below.refl _ _).alloc (Nat.le_refl _) _)

theorem ML2.setLow {W : World} {B N : Nat} {ts : List L2V} (h : ML2 W B N ts) {X : Nat} (hX : X < B) (i : Nat) (v : Value) : ML2 (W.setCell ⟨X, i, none⟩ v) B N ts := by
  have T : Touch (fun x => x = X) W (W.setCell ⟨X, i, none⟩ v) := Touch.setCell (S := fun x => x = X) (Touch.refl _ _) rfl _
  obtain ⟨vs, h1, h2, h3⟩ := h.c
  obtain ⟨c, c1, c2, c3⟩ := h.d
  exact ⟨⟨vs, h1.setOther (by omega) _ _, h2, h3⟩, fun i hi => (h.l i hi).touch T (fun x hx => by omega), c, c1, by rw [size_setCell]; exact c2, c3⟩

set_option maxHeartbeats 1600000 in
theorem szP_any (cl : Int) (ad : Option Addr) (N cap : Nat) (ss : List L2V) (ga : Option Addr) (gn gc : Nat) (G : List Int) (sa : Option Addr) (sn sc : Nat) (S : List Int) (l : Int) (w : World)
    (ha : ss.length = N) (hA : LSM w ad ss) (hN1 : N ≤ maxLen) (hG : Ints w ga gn G) (hG1 : gn ≤ maxLen) (hS : Ints w sa sn S) (hS1 : sn ≤ maxLen) (h0 : 0 ≤ l) (hl : l ≤ 1048576) :
    Calls Tryd.prog 4 #[plV cl ad N cap ga gn gc sa sn sc, .int .i64 l] w fun e w' => ∃ r, e = .returned (.int .i64 r) ∧ -1 ≤ r ∧ r ≤ 1048576 ∧ (0 ≤ r → PlAt w ad N ss ga gn G sa sn S) ∧ Below w.heap.size w w' := by
  have n0 := BP.new w [.int .i64 cl, .slice ad N cap, .slice ga gn gc, .slice sa sn sc] 25
  have HA : Hid (ss.length = N) := ha
  clear ha
  go_enter Tryd.func4, Tryd.ntmps4
  go_wp2_with fail
  refine (szL2S_any _ _ _ ss _ _ HA.out (hA.below n0.b) hN1 h0 hl).mono ?_
  rintro e w1 ⟨r1, rfl, p1, q1, s1, b1⟩
  have n1 := n0.below b1
  obtain ⟨c0, c1, c2, c3⟩ := n1.p.quadP
  by_cases h1 : r1 < 0
  · go_wp2
    go_ret
    exact ⟨-1, rfl, by omega, by omega, fun h => by omega, n1.b⟩
  have h1' : 0 ≤ r1 := by omega
  obtain ⟨zN, sN⟩ := s1 h1'
  have HSN : Hid _ := sN
  clear s1 sN h1
  have g2 := leftOf_ge r1 gn
  obtain ⟨r2, hr2⟩ : ∃ r, r = leftOf r1 gn := ⟨_, rfl⟩
  have HR2 : Hid _ := hr2
  rw [← hr2] at g2
  clear hr2
  go_wp2_with fail
  refine (sz_any _ _ _ _ _ hG1 h1' q1).mono ?_
  rintro e w2 ⟨rfl, rfl⟩
  rw [← HR2.out]
  by_cases h2 : r2 < 0
  · go_wp2
    go_ret
    exact ⟨-1, rfl, by omega, by omega, fun h => by omega, n1.b⟩
  have h2' : 0 ≤ r2 := by omega
  have z2 := leftOf_le (l := r1) (n := gn) (by rw [← HR2.out]; exact h2')
  rw [← HR2.out] at z2
  have g3 := leftOf_ge r2 sn
  obtain ⟨r3, hr3⟩ : ∃ r, r = leftOf r2 sn := ⟨_, rfl⟩
  have HR3 : Hid _ := hr3
  rw [← hr3] at g3
  clear hr3 h2
  have q2 : r2 ≤ 1048576 := by omega
  have zg : gn ≤ 1048576 := by omega
  clear z2
  go_wp2_with fail
  refine (sz_any _ _ _ _ _ hS1 h2' q2).mono ?_
  rintro e w2 ⟨rfl, rfl⟩
  rw [← HR3.out]
  by_cases h3 : r3 < 0
  · go_wp2
    go_ret
    exact ⟨-1, rfl, by omega, by omega, fun h => by omega, n1.b⟩
  have h3' : 0 ≤ r3 := by omega
  have z3 := leftOf_le (l := r2) (n := sn) (by rw [← HR3.out]; exact h3')
  rw [← HR3.out] at z3
  have q3 : r3 ≤ 1048576 := by omega
  have zs : sn ≤ 1048576 := by omega
  clear z3 h3
  go_wp2
  go_ret
  exact ⟨r3, rfl, by omega, q3, fun _ => ⟨hA.g HSN.out, HA.out, zN, hG, zg, hS, zs⟩, n1.b⟩

set_option maxHeartbeats 3200000 in
theorem toP_sep (cl : Int) (ad : Option Addr) (N cap : Nat) (ss : List L2V) (ga : Option Addr) (gn gc : Nat) (G : List Int) (sa : Option Addr) (sn sc : Nat) (S : List Int) (w : World) (h : PlAt w ad N ss ga gn G sa sn S) :
    Calls Tryd.prog 6 #[plV cl ad N cap ga gn gc sa sn sc] w fun e w' => ∃ B1 B2 B3 ts, e = .returned (plV cl (some ⟨B1, 0, none⟩) N N (some ⟨B2, 0, none⟩) gn gn (some ⟨B3, 0, none⟩) sn sn) ∧
      ts.length = N ∧ copiesL2S ss ts ∧ Below w.heap.size w w' ∧ ML2 w' B1 N ts ∧ Blk w' B2 G ∧ Blk w' B3 S ∧ w.heap.size ≤ B1 ∧ B2 < B3 ∧ B3 < w'.heap.size ∧ (∃ c : Nat → Nat, B1 < c 0 ∧ c N ≤ B2 ∧ ∀ i, i < N → c i ≤ c (i + 1) ∧ InR (c i) (c (i + 1)) (ts[i]?.getD noL)) := by
  have HN : Hid (ss.length = N) := h.ha
  have za := h.za
  have zg := h.zg
  have zs := h.zs
  go_enter Tryd.func6, Tryd.ntmps6
  go_wp2_with fail
  refine (toL2S_any _ _ _ ss _ HN.out (((h.alloc _).alloc _).alloc _).a za).mono ?_
  rintro e w1 ⟨ts, rfl, lt, cp, b1, m1⟩
  have HT : Hid (ts.length = N) := lt
  have HC : Hid (copiesL2S ss ts) := cp
  clear lt cp
  have p0 := (((Cel.new w _ _).alloc _).alloc _).below b1
  have pr := ((Cel.new (w.alloc _) _ _).alloc _).below b1
  have px := (Cel.new ((w.alloc _).alloc _) _ _).below b1
  rw [World.size_alloc] at pr
  rw [World.size_alloc, World.size_alloc] at px
  rw [World.size_alloc, World.size_alloc, World.size_alloc] at m1
  have s1 := m1.lt
  have HD : Hid (∃ c : Nat → Nat, w.heap.size + 1 + 1 + 1 < c 0 ∧ c N ≤ w1.heap.size ∧ ∀ i, i < N → c i ≤ c (i + 1) ∧ InR (c i) (c (i + 1)) (ts[i]?.getD noL)) := by
    obtain ⟨c, c1, c2, c3⟩ := m1.d
    rw [HT.out] at c2 c3
    exact ⟨c, c1, c2, c3⟩
  have B1 : Below w.heap.size w w1 := ((((Below.refl _ _).alloc (Nat.le_refl _) _).alloc (by simp) _).alloc (by simp; omega) _).trans (b1.mono (by simp; omega))
  clear b1
  obtain ⟨c0, c1, c2, c3⟩ := p0.quadP
  obtain ⟨d0, d1, d2, d3⟩ := px.quadP
  have f0 := px.free 1
  go_wp2_with fail
  have B1s := B1.setCell (p := ⟨w.heap.size + 1 + 1, 1, none⟩) (by show w.heap.size ≤ w.heap.size + 1 + 1; omega) (Value.slice (some ⟨w.heap.size + 1 + 1 + 1, 0, none⟩) N N)
  refine (to_any _ _ _ G _ (h.below B1s).g zg).mono ?_
  rintro e w2 ⟨rfl, b2, k2⟩
  clear c0 c1 c2 c3 d0 d1 d2 d3 f0
  have r0 := (p0.setOther (by omega) _ _).below b2
  have rr := (pr.setOther (by omega) _ _).below b2
  have rx := (px.set _ _).below b2
  have n1 := (m1.setLow (X := w.heap.size + 1 + 1) (by omega) 1 _).below b2
  have B2 := B1s.trans (b2.mono B1s.size)
  rw [size_setCell] at k2
  have s2 := k2.lt
  clear p0 pr px m1 b2 B1 B1s
  simp only [List.set_cons_zero, List.set_cons_succ] at rx
  obtain ⟨c0, c1, c2, c3⟩ := r0.quadP
  obtain ⟨d0, d1, d2, d3⟩ := rx.quadP
  have f0 := rx.free 2
  go_wp2_with fail
  have B2s := B2.setCell (p := ⟨w.heap.size + 1 + 1, 2, none⟩) (by show w.heap.size ≤ w.heap.size + 1 + 1; omega) (Value.slice (some ⟨w1.heap.size, 0, none⟩) gn gn)
  refine (to_any _ _ _ S _ (h.below B2s).s zs).mono ?_
  rintro e w3 ⟨rfl, b3, k3⟩
  clear c0 c1 c2 c3 d0 d1 d2 d3 f0
  have tr := (rr.setOther (by omega) _ _).below b3
  have tx := (rx.set _ _).below b3
  have n1' := (n1.setLow (X := w.heap.size + 1 + 1) (by omega) 2 _).below b3
  have k2' := (k2.setOther (B' := w.heap.size + 1 + 1) (by omega) 2 _).below b3
  have B3 := B2s.trans (b3.mono B2s.size)
  rw [size_setCell] at k3
  have s3 := k3.lt
  clear r0 rr rx n1 k2 b3 B2 B2s
  simp only [List.set_cons_zero, List.set_cons_succ] at tx
  obtain ⟨d0, d1, d2, d3⟩ := tx.quadP
  obtain ⟨e0, e1, e2, e3⟩ := tr.quadP
  have f0 := tx.free 3
  have f2 := tr.free 0
  have f3 := tr.free 1
  have f4 := tr.free 2
  have f5 := tr.free 3
  have hlt1 : w.heap.size + 1 < w3.heap.size := by omega
  have hlt2 : w.heap.size + 1 + 1 < w3.heap.size := by omega
  go_wp2
  refine bodyPost_ret (v := plV cl (some ⟨w.heap.size + 1 + 1 + 1, 0, none⟩) N N (some ⟨w1.heap.size, 0, none⟩) gn gn (some ⟨w2.heap.size, 0, none⟩) sn sn) (by simp [results, Tryd.results6, go_sem, e0, e1, e2, e3]) rfl ⟨_, _, _, ts, rfl, HT.out, HC.out, ?_, ?_, ?_, ?_, by omega, by omega, by simp only [size_setCell]; omega, HD.out⟩
  · exact ((((B3.setCell (by simp only []; omega) _).setCell (by simp only []; omega) _).setCell (by simp only []; omega) _).setCell (by simp only []; omega) _).setCell (by simp only []; omega) _
  · exact ((((n1'.setLow (by omega) _ _).setLow (by omega) _ _).setLow (by omega) _ _).setLow (by omega) _ _).setLow (by omega) _ _
  · exact ((((k2'.setOther (by omega) _ _).setOther (by omega) _ _).setOther (by omega) _ _).setOther (by omega) _ _).setOther (by omega) _ _
  · exact ((((k3.setOther (by omega) _ _).setOther (by omega) _ _).setOther (by omega) _ _).setOther (by omega) _ _).setOther (by omega) _ _

theorem toP_any (cl : Int) (ad : Option Addr) (N cap : Nat) (ss : List L2V) (ga : Option Addr) (gn gc : Nat) (G : List Int) (sa : Option Addr) (sn sc : Nat) (S : List Int) (w : World) (h : PlAt w ad N ss ga gn G sa sn S) :
    Calls Tryd.prog 6 #[plV cl ad N cap ga gn gc sa sn sc] w fun e w' => ∃ B1 B2 B3 ts, e = .returned (plV cl (some ⟨B1, 0, none⟩) N N (some ⟨B2, 0, none⟩) gn gn (some ⟨B3, 0, none⟩) sn sn) ∧
      ts.length = N ∧ copiesL2S ss ts ∧ Below w.heap.size w w' ∧ ML2 w' B1 N ts ∧ Blk w' B2 G ∧ Blk w' B3 S :=
  (toP_sep cl ad N cap ss ga gn gc G sa sn sc S w h).mono fun e w' hx => by
    obtain ⟨B1, B2, B3, ts, h1, h2, h3, h4, h5, h6, h7, _⟩ := hx
    exact ⟨B1, B2, B3, ts, h1, h2, h3, h4, h5, h6, h7⟩

theorem copies_mapP {ss ts : List L2V} (hl : ts.length = ss.length) (h : copiesL2S ss ts) : ts.map L2V.ok = ss.map L2V.ok := by
  apply List.ext_getElem?
  intro i
  by_cases hi : i < ts.length
  · obtain ⟨e1, e2, e3⟩ := h i hi
    have : (ts[i]?.getD noL).ok = (ss[i]?.getD noL).ok := by rw [L2V.ok, L2V.ok, e1]; exact copiesL_act e2 e3
    rw [List.getElem?_eq_getElem hi, List.getElem?_eq_getElem (by omega)] at this
    simp only [Option.getD_some] at this
    rw [List.getElem?_map, List.getElem?_map, List.getElem?_eq_getElem hi, List.getElem?_eq_getElem (by omega)]
    simp [this]
  · rw [List.getElem?_eq_none (by simp; omega), List.getElem?_eq_none (by simp; omega)]
theorem copies_catP {ss ts : List L2V} {N : Nat} (hl : ts.length = ss.length) (h : copiesL2S ss ts) : catB N ts = catB N ss := by
  have h3 := copies_mapP hl h
  have e1 : ∀ xs : List L2V, xs.all L2V.ok = (xs.map L2V.ok).all id := fun xs => by simp [List.all_map]
  rw [catB, catB, e1, e1, h3]
theorem copies_sameP {ss ts us : List L2V} {N : Nat} (h1 : ts.length = N) (h2 : us.length = N) (c1 : copiesL2S ss ts) (c2 : copiesL2S ss us) (hl : ∀ i, i < N → (ts[i]?.getD noL).x.length = (ts[i]?.getD noL).n) : ∀ i, i < N → sameL2 (ts[i]?.getD noL) (us[i]?.getD noL) := fun i hi => by
  obtain ⟨a1, a2, a3⟩ := c1 i (by omega)
  obtain ⟨b1, b2, b3⟩ := c2 i (by omega)
  refine ⟨by rw [a1, b1], fun j hj => ?_⟩
  have e1 := hl i hi
  exact copiesL_same (N := (ts[i]?.getD noL).n) e1 (by rw [b2, ← a2]; exact e1) a3 b3 j hj
theorem ML2.lens {W : World} {B N : Nat} {ts : List L2V} (h : ML2 W B N ts) (hl : ts.length = N) : ∀ i, i < N → (ts[i]?.getD noL).x.length = (ts[i]?.getD noL).n := fun i hi => by
  obtain ⟨b, off, _, _, h⟩ := h.g i (by rw [hl]; exact hi)
  exact h.1

set_option maxHeartbeats 1600000 in
/-- Held against a plan that holds the same. -/
theorem eqP_same (cl : Int) (ad : Option Addr) (N cap : Nat) (ss : List L2V) (ga : Option Addr) (gn gc : Nat) (G : List Int) (sa : Option Addr) (sn sc : Nat) (S : List Int) (ad' : Option Addr) (cap' : Nat) (ss' : List L2V) (ga' : Option Addr) (gc' : Nat) (sa' : Option Addr) (sc' : Nat) (w : World)
    (h : PlAt w ad N ss ga gn G sa sn S) (h' : PlAt w ad' N ss' ga' gn G sa' sn S) (hs : ∀ i, i < N → sameL2 (ss[i]?.getD noL) (ss'[i]?.getD noL)) :
    Calls Tryd.prog 9 #[plV cl ad N cap ga gn gc sa sn sc, plV cl ad' N cap' ga' gn gc' sa' sn sc'] w fun e w' => e = .returned (.bool true) ∧ Below w.heap.size w w' := by
  have E1 : Hid _ := hs
  clear hs
  have HG := eqB_refl G
  have HS := eqB_refl S
  have hcl : (cl != cl) = false := by simp
  have n0 := (BP.new w [.int .i64 cl, .slice ad N cap, .slice ga gn gc, .slice sa sn sc] 31).alloc (.cells #[.int .i64 cl, .slice ad' N cap', .slice ga' gn gc', .slice sa' sn sc'] 31)
  have y0 := Cel.new (w.alloc (.cells #[.int .i64 cl, .slice ad N cap, .slice ga gn gc, .slice sa sn sc] 31)) [.int .i64 cl, .slice ad' N cap', .slice ga' gn gc', .slice sa' sn sc'] 31
  rw [World.size_alloc] at y0
  go_enter Tryd.func9, Tryd.ntmps9
  go_wp2_with fail
  refine (eqL2S_same _ _ _ _ _ ss ss' _ h.ha h'.ha ((h.alloc _).alloc _).a ((h'.alloc _).alloc _).a h.za E1.out).mono ?_
  rintro e w1 ⟨rfl, b1⟩
  have n1 := n0.below b1
  have y1 := y0.below b1
  clear n0 y0 b1
  obtain ⟨c0, c1, c2, c3⟩ := n1.p.quadP
  obtain ⟨d0, d1, d2, d3⟩ := y1.quadP
  go_wp2_with fail
  refine (eq_any _ _ _ _ _ _ G G _ (h.below n1.b).g (h'.below n1.b).g h.zg h.zg).mono ?_
  rintro e w2 ⟨rfl, b2⟩
  rw [HG]
  have n2 := n1.below b2
  have y2 := y1.below b2
  clear n1 y1 b2 c0 c1 c2 c3 d0 d1 d2 d3
  obtain ⟨c0, c1, c2, c3⟩ := n2.p.quadP
  obtain ⟨d0, d1, d2, d3⟩ := y2.quadP
  go_wp2_with fail
  refine (eq_any _ _ _ _ _ _ S S _ (h.below n2.b).s (h'.below n2.b).s h.zs h.zs).mono ?_
  rintro e w3 ⟨rfl, b3⟩
  rw [HS]
  have n3 := n2.below b3
  go_wp2
  go_ret
  exact ⟨rfl, n3.b⟩

/-- A plan is ok. -/
def plnB (cl : Int) (N : Nat) (ss : List L2V) (gn : Nat) (G : List Int) (sn : Nat) (S : List Int) : Bool := inB cl 1 4 && (catB N ss && (okN 3 1000 sn S && trtB sn gn S G))

theorem open_LSC {H : Type} {enc : TypeId × Value → H} {W : World} {fuel : Nat} {v : Value} {y : DataW H × List MemPlace}
    (hf : DataW.trod enc Tryd.prog W 0 (fun _ => true) true fuel 22 [v] = some y) :
    ∃ ad N cap ss, v = .slice ad N cap ∧ ss.length = N ∧ LSM W ad ss ∧ N ≤ maxLen := by
  obtain ⟨ad, N, cap, ss, hv, hl, hN, hall⟩ := open_sliceC noL (fun s => [L2V.v s]) (fun s => LM W s) (c := 1) (by omega) Tryd.underlying22 (by kernel_rfl) (fun _ => rfl) (fun fuel cs x hx => by
    have hl : cs.length = 1 := (trod_lenL Tryd.underlying56 hx)
    match cs, hl with
    | [c], _ =>
      obtain ⟨s, hs, hr⟩ := open_L1 hx
      exact ⟨s, by rw [hs], hr⟩) hf
  refine ⟨ad, N, cap, ss, hv, hl, fun i hi => ?_, hN⟩
  obtain ⟨b, off, e, hc, hr⟩ := hall i hi
  have h0 := hc 0 (by omega)
  simp only [Nat.mul_one, Nat.add_zero, List.getElem?_cons_zero] at h0
  exact ⟨b, off, e, h0, hr⟩

theorem open_plan {H : Type} {enc : TypeId × Value → H} {W : World} {r : Reach} {b0 : Nat} {v : Value} {d : DataW H} {p : List MemPlace}
    (hv : Value.okWide Tryd.prog W r b0 25 v) (h : DataW.Trod enc Tryd.prog W 0 (fun _ => true) true 25 v d p) :
    ∃ cl ad N cap ss ga gn gc G sa sn sc S, v = plV cl ad N cap ga gn gc sa sn sc ∧ (Lit.int .i64 cl).wf = true ∧ ss.length = N ∧ LSM W ad ss ∧ N ≤ maxLen ∧ Ints W ga gn G ∧ gn ≤ maxLen ∧ Ints W sa sn S ∧ sn ≤ maxLen := by
  obtain ⟨v0, v1, v2, v3, y0, y1, y2, y3, k, rfl, -, -, h0, h1, h2, h3⟩ := open_agg4 Tryd.underlying25 (by kernel_rfl) (by kernel_rfl) hv h
  obtain ⟨cl, rfl, wc⟩ := open_num h0
  obtain ⟨ad, N, cap, ss, rfl, hl, hM, hN⟩ := open_LSC h1
  obtain ⟨ga, gn, gc, G, rfl, hG, hg⟩ := open_row h2
  obtain ⟨sa, sn, sc, S, rfl, hS, hs⟩ := open_row h3
  exact ⟨cl, ad, N, cap, ss, ga, gn, gc, G, sa, sn, sc, S, rfl, wc, hl, hM, hN, hG, hg, hS, hs⟩

end Go.Proofs.YtmhhphpihnkfpaaDoor
