/-
  A call that was done, and what came of it: the size, a copy, one held against another. Lengths at most 1048576 where one is copied.
-/
import Derived.Test.YtpmihhbgjimpmaaGreatDoorDonE
import Derived.Test.YtpmihhbgjimpmaaGreatDoorCalE
namespace Go.Proofs.YtpmihhbgjimpmaaGreatDoor
open Go.ChangeShapes Go.WideShapes Go.ChangeAt Go.RowKit Go.Joins Go.Deep
set_option linter.unusedVariables false
set_option maxRecDepth 100000

/-- One of them, and what it holds. -/
structure LgV where
  x : Int
  q : Int
  c : Int
  t : IV
  e : Int
  u : IV
def noLg : LgV := ⟨0, 0, 0, noI, 0, noI⟩
def LgV.cs (f : LgV) : List Value := [.int .i64 f.x, .int .i64 f.q, .int .i64 f.c, IV.v f.t, .int .i64 f.e, IV.v f.u]
def LgM (w : World) (f : LgV) : Prop := IM w f.t ∧ IM w f.u ∧ True
def LgG (w : World) (f : LgV) : Prop := IG w f.t ∧ IG w f.u ∧ True
def LgZ (f : LgV) : Prop := IS f.t ∧ IS f.u ∧ True
def LgK (w : World) (lo : Nat) (f : LgV) : Prop := IK w lo f.t ∧ IK w lo f.u ∧ True
def copiesLg (f g : LgV) : Prop := g.x = f.x ∧ g.q = f.q ∧ g.c = f.c ∧ copiesI f.t g.t ∧ g.e = f.e ∧ copiesI f.u g.u ∧ True
def sameLg (f g : LgV) : Prop := f.x = g.x ∧ f.q = g.q ∧ f.c = g.c ∧ sameI f.t g.t ∧ f.e = g.e ∧ sameI f.u g.u ∧ True
theorem LgM.below {w w' : World} {f : LgV} (h : LgM w f) (hb : Below w.heap.size w w') : LgM w' f := ⟨h.1.below hb, h.2.1.below hb, trivial⟩
theorem LgG.below {w w' : World} {f : LgV} (h : LgG w f) (hb : Below w.heap.size w w') : LgG w' f := ⟨h.1.below hb, h.2.1.below hb, trivial⟩
theorem LgM.g {w : World} {f : LgV} (h : LgM w f) (hs : LgZ f) : LgG w f := ⟨(h.1).g hs.1, (h.2.1).g hs.2.1, trivial⟩
theorem LgK.below {w w' : World} {lo : Nat} {f : LgV} (h : LgK w lo f) (hb : Below w.heap.size w w') : LgK w' lo f := ⟨h.1.below hb, h.2.1.below hb, trivial⟩
theorem LgK.touch {S : Nat → Prop} {w w' : World} {lo : Nat} {f : LgV} (h : LgK w lo f) (t : Touch S w w') (hs : ∀ k, S k → k < lo) : LgK w' lo f := ⟨h.1.touch t hs, h.2.1.touch t hs, trivial⟩
theorem LgK.mono {w : World} {lo lo' : Nat} {f : LgV} (h : LgK w lo f) (hl : lo' ≤ lo) : LgK w lo' f := ⟨h.1.mono hl, h.2.1.mono hl, trivial⟩
theorem LgK.g {w : World} {lo : Nat} {f : LgV} (h : LgK w lo f) : LgG w f := ⟨h.1.g, h.2.1.g, trivial⟩

/-- A call that was done, as a value. -/
abbrev lgV (x q c : Int) (a : Option Addr) (n cap : Nat) (e : Int) (a' : Option Addr) (n' cap' : Nat) : Value := .agg #[.int .i64 x, .int .i64 q, .int .i64 c, .slice a n cap, .int .i64 e, .slice a' n' cap']
theorem Cel.sixL {w : World} {B : Nat} {x y z u v t' : Value} {t : TypeId} (h : Cel w B [x, y, z, u, v, t'] t) : w.cell? ⟨B, 0, none⟩ = some x ∧ w.cell? ⟨B, 1, none⟩ = some y ∧ w.cell? ⟨B, 2, none⟩ = some z ∧ w.cell? ⟨B, 3, none⟩ = some u ∧ w.cell? ⟨B, 4, none⟩ = some v ∧ w.cell? ⟨B, 5, none⟩ = some t' := ⟨h.cell 0, h.cell 1, h.cell 2, h.cell 3, h.cell 4, h.cell 5⟩

theorem open_LgC {H : Type} {enc : TypeId × Value → H} {W : World} {fuel : Nat} {cs : List Value} {x : DataW H × List MemPlace}
    (hf : DataW.trod enc Tryz.prog W 0 (fun _ => true) true fuel 123 cs = some x) :
    ∃ f : LgV, cs = f.cs ∧ LgM W f := by
  obtain ⟨y0, y1, n, _, hl, h0, h1⟩ := trod_struct2 Tryz.underlying123 hf
  have hC : Tryz.prog.cellsOf 123 = 6 := by kernel_rfl
  have hl' : cs.length = 6 := hl.trans hC
  match cs, hl' with
  | [c0, c1, c2, c3, c4, c5], _ =>
    have k3 : Tryz.prog.cellsOf 120 = 4 := by kernel_rfl
    have k57 : Tryz.prog.cellsOf 121 = 2 := by kernel_rfl
    simp only [k3, k57, List.drop_zero, List.drop_succ_cons, List.take_succ_cons, List.take_zero] at h0 h1
    obtain ⟨f, ef, hf1⟩ := open_QC h0
    obtain ⟨v0, v1, z0, z1, k, e, r0, r1⟩ := open_cells2 Tryz.underlying121 (by kernel_rfl) (by kernel_rfl) h1
    obtain ⟨c, rfl, wc⟩ := open_num r0
    obtain ⟨a, m, cap, C, rfl, hC, hm⟩ := open_row r1
    obtain ⟨fx, fq, fc, ft⟩ := f
    simp only [QV.cs, List.cons.injEq, and_true] at e ef
    obtain ⟨rfl, rfl⟩ := e
    obtain ⟨rfl, rfl, rfl, rfl⟩ := ef
    exact ⟨⟨fx, fq, fc, ft, c, ⟨a, m, cap, C⟩⟩, rfl, hf1.1, ⟨hC, hm⟩, trivial⟩

set_option maxHeartbeats 800000 in
theorem szLg_ex (x q c : Int) (ta : Option Addr) (tn tc : Nat) (tx : List Int) (e : Int) (ua : Option Addr) (un uc : Nat) (ux : List Int) (l : Int) (w : World) (hM : LgM w ⟨x, q, c, ⟨ta, tn, tc, tx⟩, e, ⟨ua, un, uc, ux⟩⟩) (h0 : 0 ≤ l) (hl : l ≤ 1048576) :
    Calls Tryz.prog 75 #[lgV x q c ta tn tc e ua un uc, .int .i64 l] w fun e' w' => ∃ r, e' = .returned (.int .i64 r) ∧ -1 ≤ r ∧ r ≤ 1048576 ∧ (0 ≤ r → LgZ ⟨x, q, c, ⟨ta, tn, tc, tx⟩, e, ⟨ua, un, uc, ux⟩⟩) ∧ Below w.heap.size w w' := by
  have h1 : QM w ⟨x, q, c, ⟨ta, tn, tc, tx⟩⟩ := ⟨hM.1, trivial⟩
  have hn : un ≤ maxLen := hM.2.1.2
  clear hM
  have n0 := Cel.new w [.int .i64 x, .int .i64 q, .int .i64 c, .slice ta tn tc, .int .i64 e, .slice ua un uc] 123
  have B0 := (Below.refl w.heap.size w).alloc (Nat.le_refl _) (.cells #[.int .i64 x, .int .i64 q, .int .i64 c, .slice ta tn tc, .int .i64 e, .slice ua un uc] 123)
  go_enter Tryz.func75, Tryz.ntmps75
  go_wp2_with fail
  refine (szQ_ex _ _ _ _ _ _ tx _ _ (h1.below B0) h0 hl).mono ?_
  rintro ee w1 ⟨r1, rfl, p1, q1, s1, b1⟩
  have B1 := B0.trans (b1.mono B0.size)
  have n1 := n0.below b1
  obtain ⟨c0, c1, c2, c3, c4, c5⟩ := n1.sixL
  clear n0 B0 b1
  by_cases g1 : r1 < 0
  · go_wp2
    go_ret
    exact ⟨-1, rfl, by omega, by omega, fun h => by omega, B1⟩
  have g1' : 0 ≤ r1 := by omega
  have S1 : Hid _ := s1 g1'
  have g2 := leftOf_ge r1 un
  obtain ⟨r, hr⟩ : ∃ r, r = leftOf r1 un := ⟨_, rfl⟩
  have HR : Hid _ := hr
  rw [← hr] at g2
  clear s1 g1 hr
  go_wp2_with fail
  refine (szR_any _ _ _ _ _ _ hn g1' q1).mono ?_
  rintro ee w2 ⟨rfl, b2⟩
  rw [← HR.out]
  have B2 := B1.trans (b2.mono B1.size)
  clear c0 c1 c2 c3 c4 c5 n1 B1 b2
  by_cases g3 : r < 0
  · go_wp2
    go_ret
    exact ⟨-1, rfl, by omega, by omega, fun h => by omega, B2⟩
  · have g3' : 0 ≤ r := by omega
    have z := leftOf_le (l := r1) (n := un) (by rw [← HR.out]; exact g3')
    rw [← HR.out] at z
    have HZ : Hid (un ≤ 1048576) := by show _ ≤ _; omega
    have hr2 : r ≤ 1048576 := by omega
    clear z
    go_wp2
    go_ret
    exact ⟨r, rfl, by omega, hr2, fun _ => ⟨S1.out.1, HZ.out, trivial⟩, B2⟩

set_option maxHeartbeats 1600000 in
theorem toLg_ex (x q c : Int) (ta : Option Addr) (tn tc : Nat) (tx : List Int) (e : Int) (ua : Option Addr) (un uc : Nat) (ux : List Int) (w : World) (hG : LgG w ⟨x, q, c, ⟨ta, tn, tc, tx⟩, e, ⟨ua, un, uc, ux⟩⟩) :
    Calls Tryz.prog 78 #[lgV x q c ta tn tc e ua un uc] w fun e' w' => ∃ Pt Qt Pu Qu, e' = .returned (lgV x q c Pt tn tn e Pu un un) ∧ Below w.heap.size w w' ∧ LgK w' w.heap.size ⟨x, q, c, ⟨Pt, tn, tn, Qt⟩, e, ⟨Pu, un, un, Qu⟩⟩ ∧ copiesLg ⟨x, q, c, ⟨ta, tn, tc, tx⟩, e, ⟨ua, un, uc, ux⟩⟩ ⟨x, q, c, ⟨Pt, tn, tn, Qt⟩, e, ⟨Pu, un, un, Qu⟩⟩ := by
  have hC : Ints w ta tn tx := hG.1.1
  have hn : tn ≤ 1048576 := hG.1.2
  have hD : Ints w ua un ux := hG.2.1.1
  have hm : un ≤ 1048576 := hG.2.1.2
  clear hG
  have L1 : Hid (tx.length = tn) := hC.1
  have L2 : Hid (ux.length = un) := hD.1
  go_enter Tryz.func78, Tryz.ntmps78
  go_wp2_with fail
  refine (toC_any _ _ _ _ _ _ tx _ (((hC.alloc _).alloc _).alloc _) hn).mono ?_
  rintro ee w1 ⟨A1, rfl, b1, lA, k1⟩
  have p0 := (((Cel.new w _ _).alloc _).alloc _).below b1
  have p1 := ((Cel.new (w.alloc _) _ _).alloc _).below b1
  have p2 := (Cel.new ((w.alloc _).alloc _) _ _).below b1
  rw [World.size_alloc] at p1
  rw [World.size_alloc, World.size_alloc] at p2
  rw [World.size_alloc, World.size_alloc, World.size_alloc] at lA
  have s1 := k1.lt
  have B1 : Below w.heap.size w w1 := ((((Below.refl _ _).alloc (Nat.le_refl _) _).alloc (by simp) _).alloc (by simp; omega) _).trans (b1.mono (by simp; omega))
  clear b1
  obtain ⟨c0, c1, c2, c3, c4, c5⟩ := p0.sixL
  obtain ⟨d0, d1, d2, d3, d4, d5⟩ := p2.sixL
  have f0 := p2.free 0
  have f1 := p2.free 1
  have f2 := p2.free 2
  have f3 := p2.free 3
  go_wp2_with fail
  have B2 := (((B1.setCell (p := ⟨w.heap.size + 1 + 1, 0, none⟩) (by show w.heap.size ≤ w.heap.size + 1 + 1; omega) (.int .i64 x)).setCell (p := ⟨w.heap.size + 1 + 1, 1, none⟩) (by show w.heap.size ≤ w.heap.size + 1 + 1; omega) (.int .i64 q)).setCell (p := ⟨w.heap.size + 1 + 1, 2, none⟩) (by show w.heap.size ≤ w.heap.size + 1 + 1; omega) (.int .i64 c)).setCell (p := ⟨w.heap.size + 1 + 1, 3, none⟩) (by show w.heap.size ≤ w.heap.size + 1 + 1; omega) (Value.slice (some ⟨A1, 0, none⟩) tn tn)
  refine (toR_any _ _ _ _ ux _ (hD.below B2) hm).mono ?_
  rintro ee w2 ⟨A2, rfl, b2, lB, k2⟩
  clear c0 c1 c2 c3 c4 c5 d0 d1 d2 d3 d4 d5 f0 f1 f2 f3
  have q1 := ((((p1.setOther (by omega) _ _).setOther (by omega) _ _).setOther (by omega) _ _).setOther (by omega) _ _).below b2
  have q2 := ((((p2.set _ _).set _ _).set _ _).set _ _).below b2
  have k1' := ((((k1.setOther (B' := w.heap.size + 1 + 1) (by omega) 0 _).setOther (B' := w.heap.size + 1 + 1) (by omega) 1 _).setOther (B' := w.heap.size + 1 + 1) (by omega) 2 _).setOther (B' := w.heap.size + 1 + 1) (by omega) 3 _).below b2
  have B3 := B2.trans (b2.mono B2.size)
  have s2 := k2.lt
  have s3 := b2.size
  rw [size_setCell, size_setCell, size_setCell, size_setCell] at lB s3
  clear p0 p1 p2 k1 b2 B1 B2
  simp only [List.set_cons_zero, List.set_cons_succ] at q2
  obtain ⟨d0, d1, d2, d3, d4, d5⟩ := q2.sixL
  obtain ⟨e0, e1, e2, e3, e4, e5⟩ := q1.sixL
  have f4 := q2.free 4
  have f5 := q2.free 5
  have g0 := q1.free 0
  have g1 := q1.free 1
  have g2 := q1.free 2
  have g3 := q1.free 3
  have g4 := q1.free 4
  have g5 := q1.free 5
  have hlt1 : w.heap.size + 1 < w2.heap.size := by omega
  have hlt2 : w.heap.size + 1 + 1 < w2.heap.size := by omega
  go_wp2
  refine bodyPost_ret (v := lgV x q c (some ⟨A1, 0, none⟩) tn tn e (some ⟨A2, 0, none⟩) un un) (by simp [results, Tryz.results78, go_sem, e0, e1, e2, e3, e4, e5]) rfl ⟨_, tx, _, ux, rfl, ?_, ⟨⟨_, rfl, by show _ ≤ _; omega, ?_, L1.out, hn⟩, ⟨_, rfl, by show _ ≤ _; omega, ?_, L2.out, hm⟩, trivial⟩, rfl, rfl, rfl, ⟨rfl, rfl⟩, rfl, ⟨rfl, rfl⟩, trivial⟩
  · exact ((((((((B3).setCell (by simp only []; omega) _).setCell (by simp only []; omega) _).setCell (by simp only []; omega) _).setCell (by simp only []; omega) _).setCell (by simp only []; omega) _).setCell (by simp only []; omega) _).setCell (by simp only []; omega) _).setCell (by simp only []; omega) _
  · exact ((((((((k1').setOther (by omega) _ _).setOther (by omega) _ _).setOther (by omega) _ _).setOther (by omega) _ _).setOther (by omega) _ _).setOther (by omega) _ _).setOther (by omega) _ _).setOther (by omega) _ _
  · exact ((((((((k2).setOther (by omega) _ _).setOther (by omega) _ _).setOther (by omega) _ _).setOther (by omega) _ _).setOther (by omega) _ _).setOther (by omega) _ _).setOther (by omega) _ _).setOther (by omega) _ _

set_option maxHeartbeats 1600000 in
theorem eqLg_ex (x q c : Int) (ta : Option Addr) (tn tc : Nat) (tx : List Int) (e : Int) (ua : Option Addr) (un uc : Nat) (ux : List Int) (x' q' c' : Int) (ta' : Option Addr) (tn' tc' : Nat) (tx' : List Int) (e' : Int) (ua' : Option Addr) (un' uc' : Nat) (ux' : List Int) (w : World) (hA : LgG w ⟨x, q, c, ⟨ta, tn, tc, tx⟩, e, ⟨ua, un, uc, ux⟩⟩) (hB : LgG w ⟨x', q', c', ⟨ta', tn', tc', tx'⟩, e', ⟨ua', un', uc', ux'⟩⟩) (hs : sameLg ⟨x, q, c, ⟨ta, tn, tc, tx⟩, e, ⟨ua, un, uc, ux⟩⟩ ⟨x', q', c', ⟨ta', tn', tc', tx'⟩, e', ⟨ua', un', uc', ux'⟩⟩) :
    Calls Tryz.prog 81 #[lgV x q c ta tn tc e ua un uc, lgV x' q' c' ta' tn' tc' e' ua' un' uc'] w fun ee w' => ee = .returned (.bool true) ∧ Below w.heap.size w w' := by
  obtain ⟨y1, y2, y3, y4, y5, y6, -⟩ := hs
  have i1 : Ints w ta tn tx := hA.1.1
  have z1 : tn ≤ 1048576 := hA.1.2
  have i2 : Ints w ua un ux := hA.2.1.1
  have z2 : un ≤ 1048576 := hA.2.1.2
  have j1 : Ints w ta' tn' tx' := hB.1.1
  have j2 : Ints w ua' un' ux' := hB.2.1.1
  have y1 : x = x' := y1
  have y2 : q = q' := y2
  have y3 : c = c' := y3
  have y4 : tx = tx' := y4
  have y5 : e = e' := y5
  have y6 : ux = ux' := y6
  have m1 : tn = tn' := by rw [← i1.1, ← j1.1, y4]
  have m2 : un = un' := by rw [← i2.1, ← j2.1, y6]
  clear hA hB
  subst y1 y2 y3 y4 y5 y6 m1 m2
  have x0 := (Cel.new w [.int .i64 x, .int .i64 q, .int .i64 c, .slice ta tn tc, .int .i64 e, .slice ua un uc] 61).alloc (.cells #[.int .i64 x, .int .i64 q, .int .i64 c, .slice ta' tn tc', .int .i64 e, .slice ua' un uc'] 61)
  have y0 := Cel.new (w.alloc (.cells #[.int .i64 x, .int .i64 q, .int .i64 c, .slice ta tn tc, .int .i64 e, .slice ua un uc] 61)) [.int .i64 x, .int .i64 q, .int .i64 c, .slice ta' tn tc', .int .i64 e, .slice ua' un uc'] 61
  rw [World.size_alloc] at y0
  have B0 := ((Below.refl w.heap.size w).alloc (Nat.le_refl _) (.cells #[.int .i64 x, .int .i64 q, .int .i64 c, .slice ta tn tc, .int .i64 e, .slice ua un uc] 61)).alloc (by simp) (.cells #[.int .i64 x, .int .i64 q, .int .i64 c, .slice ta' tn tc', .int .i64 e, .slice ua' un uc'] 61)
  obtain ⟨a0, a1, a2, a3, a4, a5⟩ := x0.sixL
  obtain ⟨c0, c1, c2, c3, c4, c5⟩ := y0.sixL
  go_enter Tryz.func81, Tryz.ntmps81
  go_wp2_with fail
  refine (eqC_same _ _ _ _ _ _ _ _ tx _ (i1.below B0) (j1.below B0) z1).mono ?_
  rintro ee w1 ⟨rfl, b1⟩
  have B1 := B0.trans (b1.mono B0.size)
  have x1 := x0.below b1
  have y1 := y0.below b1
  clear x0 y0 B0 b1 a0 a1 a2 a3 a4 a5 c0 c1 c2 c3 c4 c5
  obtain ⟨a0, a1, a2, a3, a4, a5⟩ := x1.sixL
  obtain ⟨c0, c1, c2, c3, c4, c5⟩ := y1.sixL
  go_wp2_with fail
  refine (eqR_same _ _ _ _ _ _ ux _ (i2.below B1) (j2.below B1) z2).mono ?_
  rintro ee w2 ⟨rfl, b2⟩
  have B2 := B1.trans (b2.mono B1.size)
  go_wp2
  go_ret
  exact ⟨rfl, B2⟩

end Go.Proofs.YtpmihhbgjimpmaaGreatDoor
