/-
  Clerks as arguments: the size, a copy, one held against another. Lengths at most 1048576 where one is copied.
-/
import Derived.Test.YtacjjhfbnbmnlaaGreatDoorYDonS
import Derived.Test.YtacjjhfbnbmnlaaGreatDoorYCalS
import Derived.Test.YtacjjhfbnbmnlaaGreatDoorYGotS
import Derived.Test.YtacjjhfbnbmnlaaGreatDoorPackJ
import Derived.Test.YtacjjhfbnbmnlaaGreatDoorYSitP
namespace Go.Proofs.YtacjjhfbnbmnlaaGreatDoor
open Go.ChangeShapes Go.WideShapes Go.ChangeAt Go.RowKit Go.Joins Go.Deep
set_option linter.unusedVariables false
set_option maxRecDepth 100000

/-- As a value. -/
abbrev ckV (u : Bool) (r : Int) (ba : Option Addr) (bn bc : Nat) (da : Option Addr) (dn dc : Nat) (ka : Option Addr) (kn kc : Nat) (ga : Option Addr) (gn gc : Nat) : Value := .agg #[.bool u, .int .i64 r, .slice ba bn bc, .slice da dn dc, .slice ka kn kc, .slice ga gn gc]
/-- What one holds, that may be copied. -/
structure CkAt (w : World) (ba : Option Addr) (bn : Nat) (bx : List Int) (da : Option Addr) (dn : Nat) (dx : List DV) (ka : Option Addr) (kn : Nat) (kx : List QV) (ga : Option Addr) (gn : Nat) (gx : List GV) : Prop where
  b : Ints w ba bn bx
  zb : bn ≤ 1048576
  d : DSG w da dx
  ld : dx.length = dn
  zd : dn ≤ 1048576
  k : QSG w ka kx
  lk : kx.length = kn
  zk : kn ≤ 1048576
  g : GSG w ga gx
  lg : gx.length = gn
  zg : gn ≤ 1048576
theorem CkAt.below {w w' : World} {ba : Option Addr} {bn : Nat} {bx : List Int} {da : Option Addr} {dn : Nat} {dx : List DV} {ka : Option Addr} {kn : Nat} {kx : List QV} {ga : Option Addr} {gn : Nat} {gx : List GV} (h : CkAt w ba bn bx da dn dx ka kn kx ga gn gx) (hb : Below w.heap.size w w') : CkAt w' ba bn bx da dn dx ka kn kx ga gn gx :=
  ⟨h.b.below hb, h.zb, h.d.below hb, h.ld, h.zd, h.k.below hb, h.lk, h.zk, h.g.below hb, h.lg, h.zg⟩
theorem CkAt.alloc {w : World} {ba : Option Addr} {bn : Nat} {bx : List Int} {da : Option Addr} {dn : Nat} {dx : List DV} {ka : Option Addr} {kn : Nat} {kx : List QV} {ga : Option Addr} {gn : Nat} {gx : List GV} (h : CkAt w ba bn bx da dn dx ka kn kx ga gn gx) (o : Obj) : CkAt (w.alloc o) ba bn bx da dn dx ka kn kx ga gn gx := h.below ((Below.refl _ _).alloc (Nat.le_refl _) _)
theorem CkAt.drewS {w : World} {ba : Option Addr} {bn : Nat} {bx : List Int} {da : Option Addr} {dn : Nat} {dx : List DV} {ka : Option Addr} {kn : Nat} {kx : List QV} {ga : Option Addr} {gn : Nat} {gx : List GV} (h : CkAt w ba bn bx da dn dx ka kn kx ga gn gx) : CkAt w.drew ba bn bx da dn dx ka kn kx ga gn gx := h.below (Below.refl _ _).drew

theorem open_clerk {H : Type} {enc : TypeId × Value → H} {W : World} {r0 : Reach} {b0 : Nat} {v : Value} {d0 : DataW H} {p : List MemPlace}
    (hv : Value.okWide Tryz.prog W r0 b0 46 v) (h : DataW.Trod enc Tryz.prog W 0 (fun _ => true) true 46 v d0 p) :
    ∃ u r ba bn bc bx da dn dc dx ka kn kc kx ga gn gc gx, v = ckV u r ba bn bc da dn dc ka kn kc ga gn gc ∧ (Lit.int .i64 r).wf = true ∧ Ints W ba bn bx ∧ bn ≤ maxLen ∧ dx.length = dn ∧ DSM W da dx ∧ dn ≤ maxLen ∧ kx.length = kn ∧ QSM W ka kx ∧ kn ≤ maxLen ∧ gx.length = gn ∧ GSM W ga gx ∧ gn ≤ maxLen := by
  obtain ⟨v0, v1, v2, v3, v4, v5, y0, y1, y2, y3, y4, y5, k, rfl, h0, h1, h2, h3, h4, h5⟩ := open_agg6 Tryz.underlying46 (by kernel_rfl) (by kernel_rfl) hv h
  obtain ⟨u, e0, _⟩ := DataW.trod_bool Tryz.underlying4 h0
  obtain rfl : v0 = .bool u := by simpa using e0
  obtain ⟨r, rfl, w1⟩ := open_num h1
  obtain ⟨ba, bn, bc, bx, rfl, i2, n2⟩ := open_row h2
  obtain ⟨da, dn, dc, dx, rfl, l3, m3, n3⟩ := open_DS h3
  obtain ⟨ka, kn, kc, kx, rfl, l4, m4, n4⟩ := open_QS h4
  obtain ⟨ga, gn, gc, gx, rfl, l5, m5, n5⟩ := open_GS h5
  exact ⟨u, r, ba, bn, bc, bx, da, dn, dc, dx, ka, kn, kc, kx, ga, gn, gc, gx, rfl, w1, i2, n2, l3, m3, n3, l4, m4, n4, l5, m5, n5⟩

set_option maxHeartbeats 1600000 in
theorem szCk_any (u : Bool) (r : Int) (ba : Option Addr) (bn bc : Nat) (bx : List Int) (da : Option Addr) (dn dc : Nat) (dx : List DV) (ka : Option Addr) (kn kc : Nat) (kx : List QV) (ga : Option Addr) (gn gc : Nat) (gx : List GV) (l : Int) (w : World) (hb : Ints w ba bn bx) (mb : bn ≤ maxLen) (ld : dx.length = dn) (hd : DSM w da dx) (md : dn ≤ maxLen) (lk : kx.length = kn) (hk : QSM w ka kx) (mk : kn ≤ maxLen) (lg : gx.length = gn) (hg : GSM w ga gx) (mg : gn ≤ maxLen) (h0 : 0 ≤ l) (hl : l ≤ 1048576) :
    Calls Tryz.prog 17 #[ckV u r ba bn bc da dn dc ka kn kc ga gn gc, .int .i64 l] w fun e w' => ∃ r', e = .returned (.int .i64 r') ∧ -1 ≤ r' ∧ r' ≤ 1048576 ∧ (0 ≤ r' → CkAt w ba bn bx da dn dx ka kn kx ga gn gx) ∧ Below w.heap.size w w' := by
  have n0 := BP.new w [.bool u, .int .i64 r, .slice ba bn bc, .slice da dn dc, .slice ka kn kc, .slice ga gn gc] 46
  have Ld : Hid (dx.length = dn) := ld
  clear ld
  have Lk : Hid (kx.length = kn) := lk
  clear lk
  have Lg : Hid (gx.length = gn) := lg
  clear lg
  go_enter Tryz.func17, Tryz.ntmps17
  go_wp2_with fail
  refine (szI_ex _ _ _ bx _ _ ⟨hb.below n0.b, mb⟩ h0 hl).mono ?_
  rintro e w1 ⟨r1, rfl, p1, q1, s1, b1⟩
  have n1 := n0.below b1
  obtain ⟨c0, c1, c2, c3, c4, c5⟩ := n1.p.sixP
  by_cases g1 : r1 < 0
  · go_wp2
    go_ret
    exact ⟨-1, rfl, by omega, by omega, fun h => by omega, n1.b⟩
  have g1' : 0 ≤ r1 := by omega
  have S1 : Hid _ := s1 g1'
  clear s1 g1 n0 b1
  go_wp2_with fail
  refine (szDS_any _ _ _ dx _ _ Ld.out (hd.below n1.b) md g1' q1).mono ?_
  rintro e w2 ⟨r2, rfl, p2, q2, s2, b2⟩
  have n2 := n1.below b2
  clear c0 c1 c2 c3 c4 c5
  obtain ⟨c0, c1, c2, c3, c4, c5⟩ := n2.p.sixP
  by_cases g2 : r2 < 0
  · go_wp2
    go_ret
    exact ⟨-1, rfl, by omega, by omega, fun h => by omega, n2.b⟩
  have g2' : 0 ≤ r2 := by omega
  have S2 : Hid _ := s2 g2'
  clear s2 g2 n1 b2
  go_wp2_with fail
  refine (szQS_any _ _ _ kx _ _ Lk.out (hk.below n2.b) mk g2' q2).mono ?_
  rintro e w3 ⟨r3, rfl, p3, q3, s3, b3⟩
  have n3 := n2.below b3
  clear c0 c1 c2 c3 c4 c5
  obtain ⟨c0, c1, c2, c3, c4, c5⟩ := n3.p.sixP
  by_cases g3 : r3 < 0
  · go_wp2
    go_ret
    exact ⟨-1, rfl, by omega, by omega, fun h => by omega, n3.b⟩
  have g3' : 0 ≤ r3 := by omega
  have S3 : Hid _ := s3 g3'
  clear s3 g3 n2 b3
  go_wp2_with fail
  refine (szGS_any _ _ _ gx _ _ Lg.out (hg.below n3.b) mg g3' q3).mono ?_
  rintro e w4 ⟨r4, rfl, p4, q4, s4, b4⟩
  have n4 := n3.below b4
  clear c0 c1 c2 c3 c4 c5
  obtain ⟨c0, c1, c2, c3, c4, c5⟩ := n4.p.sixP
  by_cases g4 : r4 < 0
  · go_wp2
    go_ret
    exact ⟨-1, rfl, by omega, by omega, fun h => by omega, n4.b⟩
  have g4' : 0 ≤ r4 := by omega
  have S4 : Hid _ := s4 g4'
  clear s4 g4 n3 b4
  go_wp2
  go_ret
  exact ⟨r4, rfl, by omega, q4, fun _ => ⟨hb, S1.out, hd.g S2.out.2, Ld.out, S2.out.1, hk.g S3.out.2, Lk.out, S3.out.1, hg.g S4.out.2, Lg.out, S4.out.1⟩, n4.b⟩

set_option maxHeartbeats 3200000 in
theorem toCk_any (u : Bool) (r : Int) (ba : Option Addr) (bn bc : Nat) (bx : List Int) (da : Option Addr) (dn dc : Nat) (dx : List DV) (ka : Option Addr) (kn kc : Nat) (kx : List QV) (ga : Option Addr) (gn gc : Nat) (gx : List GV) (w : World) (h : CkAt w ba bn bx da dn dx ka kn kx ga gn gx) :
    Calls Tryz.prog 19 #[ckV u r ba bn bc da dn dc ka kn kc ga gn gc] w fun e w' => ∃ Bb Bd yd Bk yk Bg yg, e = .returned (ckV u r (some ⟨Bb, 0, none⟩) bn bn (some ⟨Bd, 0, none⟩) dn dn (some ⟨Bk, 0, none⟩) kn kn (some ⟨Bg, 0, none⟩) gn gn) ∧ yd.length = dn ∧ copiesDS dx yd ∧ yk.length = kn ∧ copiesQS kx yk ∧ yg.length = gn ∧ copiesGS gx yg ∧ Below w.heap.size w w' ∧ Blk w' Bb bx ∧ MD w' Bd dn yd ∧ MQ w' Bk kn yk ∧ MG w' Bg gn yg ∧ w.heap.size ≤ Bb ∧ Bb < Bd ∧ Bd < Bk ∧ Bk < Bg := by
  have zb := h.zb
  have zd := h.zd
  have Ld : Hid (dx.length = dn) := h.ld
  have zk := h.zk
  have Lk : Hid (kx.length = kn) := h.lk
  have zg := h.zg
  have Lg : Hid (gx.length = gn) := h.lg
  go_enter Tryz.func19, Tryz.ntmps19
  go_wp2_with fail
  refine (to_any _ _ _ bx _ (((h.alloc _).alloc _).alloc _).b zb).mono ?_
  rintro e w1 ⟨rfl, b1, kb⟩
  have p0 := (((Cel.new w _ _).alloc _).alloc _).below b1
  have pr := ((Cel.new (w.alloc _) _ _).alloc _).below b1
  have px := (Cel.new ((w.alloc _).alloc _) _ _).below b1
  rw [World.size_alloc] at pr
  rw [World.size_alloc, World.size_alloc] at px
  rw [World.size_alloc, World.size_alloc, World.size_alloc] at kb
  have s1 := kb.lt
  have B1 : Below w.heap.size w w1 := ((((Below.refl _ _).alloc (Nat.le_refl _) _).alloc (by simp) _).alloc (by simp; omega) _).trans (b1.mono (by simp; omega))
  clear b1
  obtain ⟨c0, c1, c2, c3, c4, c5⟩ := p0.sixP
  obtain ⟨d0, d1, d2, d3, d4, d5⟩ := px.sixP
  have f0 := px.free 2
  go_wp2_with fail
  have B1s := B1.setCell (p := ⟨w.heap.size + 1 + 1, 2, none⟩) (by show w.heap.size ≤ w.heap.size + 1 + 1; omega) (Value.slice (some ⟨w.heap.size + 1 + 1 + 1, 0, none⟩) bn bn)
  refine (toDS_any _ _ _ dx _ Ld.out (h.below B1s).d zd).mono ?_
  rintro e w2 ⟨yd, rfl, lgd, cpd, b2, kd⟩
  have LGd : Hid _ := lgd
  have CPd : Hid _ := cpd
  clear lgd cpd
  clear c0 c1 c2 c3 c4 c5 d0 d1 d2 d3 d4 d5 f0
  replace p0 := (p0.setOther (by omega) _ _).below b2
  replace pr := (pr.setOther (by omega) _ _).below b2
  replace px := (px.set _ _).below b2
  replace kb := (kb.setOther (B' := w.heap.size + 1 + 1) (by omega) 2 _).below b2
  have B2 := B1s.trans (b2.mono B1s.size)
  rw [size_setCell] at kd
  have s2 := kd.lt
  clear b2 B1 B1s
  simp only [List.set_cons_zero, List.set_cons_succ] at px
  obtain ⟨c0, c1, c2, c3, c4, c5⟩ := p0.sixP
  obtain ⟨d0, d1, d2, d3, d4, d5⟩ := px.sixP
  have f0 := px.free 3
  go_wp2_with fail
  have B2s := B2.setCell (p := ⟨w.heap.size + 1 + 1, 3, none⟩) (by show w.heap.size ≤ w.heap.size + 1 + 1; omega) (Value.slice (some ⟨w1.heap.size, 0, none⟩) dn dn)
  refine (toQS_any _ _ _ kx _ Lk.out (h.below B2s).k zk).mono ?_
  rintro e w3 ⟨yk, rfl, lgk, cpk, b3, kk⟩
  have LGk : Hid _ := lgk
  have CPk : Hid _ := cpk
  clear lgk cpk
  clear c0 c1 c2 c3 c4 c5 d0 d1 d2 d3 d4 d5 f0
  replace p0 := (p0.setOther (by omega) _ _).below b3
  replace pr := (pr.setOther (by omega) _ _).below b3
  replace px := (px.set _ _).below b3
  replace kb := (kb.setOther (B' := w.heap.size + 1 + 1) (by omega) 3 _).below b3
  replace kd := (kd.setLow (X := w.heap.size + 1 + 1) (by omega) 3 _).below b3
  have B3 := B2s.trans (b3.mono B2s.size)
  rw [size_setCell] at kk
  have s3 := kk.lt
  clear b3 B2 B2s
  simp only [List.set_cons_zero, List.set_cons_succ] at px
  obtain ⟨c0, c1, c2, c3, c4, c5⟩ := p0.sixP
  obtain ⟨d0, d1, d2, d3, d4, d5⟩ := px.sixP
  have f0 := px.free 4
  go_wp2_with fail
  have B3s := B3.setCell (p := ⟨w.heap.size + 1 + 1, 4, none⟩) (by show w.heap.size ≤ w.heap.size + 1 + 1; omega) (Value.slice (some ⟨w2.heap.size, 0, none⟩) kn kn)
  refine (toGS_any _ _ _ gx _ Lg.out (h.below B3s).g zg).mono ?_
  rintro e w4 ⟨yg, rfl, lgg, cpg, b4, kg⟩
  have LGg : Hid _ := lgg
  have CPg : Hid _ := cpg
  clear lgg cpg
  clear c0 c1 c2 c3 c4 c5 d0 d1 d2 d3 d4 d5 f0
  replace p0 := (p0.setOther (by omega) _ _).below b4
  replace pr := (pr.setOther (by omega) _ _).below b4
  replace px := (px.set _ _).below b4
  replace kb := (kb.setOther (B' := w.heap.size + 1 + 1) (by omega) 4 _).below b4
  replace kd := (kd.setLow (X := w.heap.size + 1 + 1) (by omega) 4 _).below b4
  replace kk := (kk.setLow (X := w.heap.size + 1 + 1) (by omega) 4 _).below b4
  have B4 := B3s.trans (b4.mono B3s.size)
  rw [size_setCell] at kg
  have s4 := kg.lt
  clear b4 B3 B3s
  simp only [List.set_cons_zero, List.set_cons_succ] at px
  obtain ⟨d0, d1, d2, d3, d4, d5⟩ := px.sixP
  obtain ⟨e0, e1, e2, e3, e4, e5⟩ := pr.sixP
  have f0 := px.free 5
  have g0 := pr.free 0
  have g1 := pr.free 1
  have g2 := pr.free 2
  have g3 := pr.free 3
  have g4 := pr.free 4
  have g5 := pr.free 5
  have hlt1 : w.heap.size + 1 < w4.heap.size := by omega
  have hlt2 : w.heap.size + 1 + 1 < w4.heap.size := by omega
  go_wp2
  refine bodyPost_ret (v := ckV u r (some ⟨w.heap.size + 1 + 1 + 1, 0, none⟩) bn bn (some ⟨w1.heap.size, 0, none⟩) dn dn (some ⟨w2.heap.size, 0, none⟩) kn kn (some ⟨w3.heap.size, 0, none⟩) gn gn) (by simp [results, Tryz.results19, go_sem, e0, e1, e2, e3, e4, e5]) rfl ⟨_, _, yd, _, yk, _, yg, rfl, LGd.out, CPd.out, LGk.out, CPk.out, LGg.out, CPg.out, ?_, ?_, ?_, ?_, ?_, by omega, by omega, by omega, by omega⟩
  · exact (((((((B4).setCell (by simp only []; omega) _).setCell (by simp only []; omega) _).setCell (by simp only []; omega) _).setCell (by simp only []; omega) _).setCell (by simp only []; omega) _).setCell (by simp only []; omega) _).setCell (by simp only []; omega) _
  · exact (((((((kb).setOther (by omega) _ _).setOther (by omega) _ _).setOther (by omega) _ _).setOther (by omega) _ _).setOther (by omega) _ _).setOther (by omega) _ _).setOther (by omega) _ _
  · exact (((((((kd).setLow (by omega) _ _).setLow (by omega) _ _).setLow (by omega) _ _).setLow (by omega) _ _).setLow (by omega) _ _).setLow (by omega) _ _).setLow (by omega) _ _
  · exact (((((((kk).setLow (by omega) _ _).setLow (by omega) _ _).setLow (by omega) _ _).setLow (by omega) _ _).setLow (by omega) _ _).setLow (by omega) _ _).setLow (by omega) _ _
  · exact (((((((kg).setLow (by omega) _ _).setLow (by omega) _ _).setLow (by omega) _ _).setLow (by omega) _ _).setLow (by omega) _ _).setLow (by omega) _ _).setLow (by omega) _ _

set_option maxHeartbeats 1600000 in
/-- Held against one that holds the same. -/
theorem eqCk_same (u : Bool) (r : Int) (ba : Option Addr) (bn bc : Nat) (bx : List Int) (da : Option Addr) (dn dc : Nat) (dx : List DV) (ka : Option Addr) (kn kc : Nat) (kx : List QV) (ga : Option Addr) (gn gc : Nat) (gx : List GV) (ba' : Option Addr) (bc' : Nat) (da' : Option Addr) (dc' : Nat) (dx' : List DV) (ka' : Option Addr) (kc' : Nat) (kx' : List QV) (ga' : Option Addr) (gc' : Nat) (gx' : List GV) (w : World) (h : CkAt w ba bn bx da dn dx ka kn kx ga gn gx) (h' : CkAt w ba' bn bx da' dn dx' ka' kn kx' ga' gn gx') (Ed : ∀ i, i < dn → sameD (dx[i]?.getD noD) (dx'[i]?.getD noD)) (Ek : ∀ i, i < kn → sameQ (kx[i]?.getD noQ) (kx'[i]?.getD noQ)) (Eg : ∀ i, i < gn → sameG (gx[i]?.getD noG) (gx'[i]?.getD noG)) :
    Calls Tryz.prog 21 #[ckV u r ba bn bc da dn dc ka kn kc ga gn gc, ckV u r ba' bn bc' da' dn dc' ka' kn kc' ga' gn gc'] w fun e w' => e = .returned (.bool true) ∧ Below w.heap.size w w' := by
  have HBb := eqB_refl bx
  have HEd : Hid _ := Ed
  clear Ed
  have HEk : Hid _ := Ek
  clear Ek
  have HEg : Hid _ := Eg
  clear Eg
  have hu : (u != u) = false := by cases u <;> rfl
  have hr : (r != r) = false := by simp
  have n0 := (BP.new w [.bool u, .int .i64 r, .slice ba bn bc, .slice da dn dc, .slice ka kn kc, .slice ga gn gc] 52).alloc (.cells #[.bool u, .int .i64 r, .slice ba' bn bc', .slice da' dn dc', .slice ka' kn kc', .slice ga' gn gc'] 52)
  have y0 := Cel.new (w.alloc (.cells #[.bool u, .int .i64 r, .slice ba bn bc, .slice da dn dc, .slice ka kn kc, .slice ga gn gc] 52)) [.bool u, .int .i64 r, .slice ba' bn bc', .slice da' dn dc', .slice ka' kn kc', .slice ga' gn gc'] 52
  rw [World.size_alloc] at y0
  go_enter Tryz.func21, Tryz.ntmps21
  go_wp2_with fail
  refine (eq_any _ _ _ _ _ _ bx bx _ (h.below n0.b).b (h'.below n0.b).b h.zb h.zb).mono ?_
  rintro e w1 ⟨rfl, b1⟩
  rw [HBb]
  have n1 := n0.below b1
  have y1 := y0.below b1
  clear n0 y0 b1
  obtain ⟨c0, c1, c2, c3, c4, c5⟩ := n1.p.sixP
  obtain ⟨d0, d1, d2, d3, d4, d5⟩ := y1.sixP
  go_wp2_with fail
  refine (eqDS_same _ _ _ _ _ dx dx' _ h.ld h'.ld (h.below n1.b).d (h'.below n1.b).d h.zd HEd.out).mono ?_
  rintro e w2 ⟨rfl, b2⟩
  have n2 := n1.below b2
  have y2 := y1.below b2
  clear n1 y1 b2 c0 c1 c2 c3 c4 c5 d0 d1 d2 d3 d4 d5
  obtain ⟨c0, c1, c2, c3, c4, c5⟩ := n2.p.sixP
  obtain ⟨d0, d1, d2, d3, d4, d5⟩ := y2.sixP
  go_wp2_with fail
  refine (eqQS_same _ _ _ _ _ kx kx' _ h.lk h'.lk (h.below n2.b).k (h'.below n2.b).k h.zk HEk.out).mono ?_
  rintro e w3 ⟨rfl, b3⟩
  have n3 := n2.below b3
  have y3 := y2.below b3
  clear n2 y2 b3 c0 c1 c2 c3 c4 c5 d0 d1 d2 d3 d4 d5
  obtain ⟨c0, c1, c2, c3, c4, c5⟩ := n3.p.sixP
  obtain ⟨d0, d1, d2, d3, d4, d5⟩ := y3.sixP
  go_wp2_with fail
  refine (eqGS_same _ _ _ _ _ gx gx' _ h.lg h'.lg (h.below n3.b).g (h'.below n3.b).g h.zg HEg.out).mono ?_
  rintro e w4 ⟨rfl, b4⟩
  have n4 := n3.below b4
  have y4 := y3.below b4
  clear n3 y3 b4 c0 c1 c2 c3 c4 c5 d0 d1 d2 d3 d4 d5
  go_wp2
  go_ret
  exact ⟨rfl, n4.b⟩

end Go.Proofs.YtacjjhfbnbmnlaaGreatDoor
