/-
  Lemmas that the claim's last text rests on.
-/
import Derived.Lib.SliceRun
import Derived.Test.YtpmihhbgjimpmaaGreatDoorSxH
namespace Go.Proofs.YtpmihhbgjimpmaaGreatDoor
open Go.RowKit Go.ChangeShapes Go.WideShapes Go.ChangeAt Go.Joins Go.Deep
open Option.some renaming injEq → qA
open Addr.mk renaming injEq → qB
open World renaming size_alloc → qC
open List renaming getElem?_cons_zero → qD, getElem?_cons_succ → qE, length_append → qF
open Nat renaming le_refl → qG
set_option linter.unusedVariables false
set_option maxRecDepth 100000
set_option maxHeartbeats 25600000
variable {B R cap n : Nat} {W W' w : World} {a : Option Addr} {bs xs zs : List Int} {q y : Int} {t : TypeId} {v : Value}
structure CaI (w : World) (R : Nat) (a : Option Addr) (n cap : Nat) (bs : List Int) (q : Int) (cb : Nat) (pv : List Value) (x s k : Int) (ua : Option Addr) (un uc : Nat) (U : List Int) (W : World) : Prop where
 t : Touch (fun z => z = R) w W
 r : Rd W R a n cap bs q
 c : Cel W cb [.int .i64 x, .int .i64 s, .int .i64 k, .slice ua un uc] 59
 p : Cel W w.heap.size pv 26
 o : Cel W (w.heap.size + 1) [.int .i64 0, .int .i64 0, .int .i64 0, .slice none 0 0] 59
 i : Ints W ua un U
 hc : w.heap.size + 2 <= cb
 hR : R < w.heap.size
 ha : 0 < n -> ∀ b o, a = some ⟨b, o, none⟩ -> b < w.heap.size
 lo : ∀ b o, ua = some ⟨b, o, none⟩ -> w.heap.size + 2 <= b /\ b ≠ cb
 u4 : un <= 4
 bx : -10 <= x /\ x <= 10
 bk : -10 <= k /\ k <= 10
 bs' : -10 <= s /\ s <= 1000
section
variable {w W W' : World} {R : Nat} {a : Option Addr} {n cap : Nat} {bs : List Int} {q q' : Int} {cb : Nat} {pv : List Value} {x s k : Int} {ua : Option Addr} {un uc : Nat} {U : List Int}
theorem CaI.below (h : CaI w R a n cap bs q cb pv x s k ua un uc U W) (b : Below W.heap.size W W') : CaI w R a n cap bs q cb pv x s k ua un uc U W' :=
 ⟨h.t.trans (Touch.of b), h.r.below b, h.c.below b, h.p.below b, h.o.below b, h.i.below b, h.hc, h.hR, h.ha, h.lo, h.u4, h.bx, h.bk, h.bs'⟩
theorem CaI.pick (h : CaI w R a n cap bs q cb pv x s k ua un uc U W) (t : Touch (fun z => z = R) W W') (r : Rd W' R a n cap bs q') : CaI w R a n cap bs q' cb pv x s k ua un uc U W' := by
 have h1 := h.hR;have h2 := h.hc
 exact ⟨h.t.trans t, r, h.c.touch t (by omega), h.p.touch t (by omega), h.o.touch t (by omega), h.i.off t (fun b o e hs => by have := h.lo b o e; omega), h.hc, h.hR, h.ha, h.lo, h.u4, h.bx, h.bk, h.bs'⟩
theorem CaI.set0 (h : CaI w R a n cap bs q cb pv x s k ua un uc U W) {y : Int} (hy : -10 <= y /\ y <= 10) : CaI w R a n cap bs q cb pv y s k ua un uc U (W.setCell ⟨cb, 0, none⟩ (.int .i64 y)) := by
 have h1 := h.hR;have h2 := h.hc
 exact ⟨h.t.setNewF (by omega) 0 _, h.r.setNew (by omega) (fun h0 b o e => by have := h.ha h0 b o e; omega) 0 _, h.c.set 0 _, h.p.setOther (by omega) 0 _, h.o.setOther (by omega) 0 _, h.i.setFar (fun b o e => (h.lo b o e).2) 0 _, h.hc, h.hR, h.ha, h.lo, h.u4, hy, h.bk, h.bs'⟩
theorem CaI.set1 (h : CaI w R a n cap bs q cb pv x s k ua un uc U W) {y : Int} (hy : -10 <= y /\ y <= 1000) : CaI w R a n cap bs q cb pv x y k ua un uc U (W.setCell ⟨cb, 1, none⟩ (.int .i64 y)) := by
 have h1 := h.hR;have h2 := h.hc
 exact ⟨h.t.setNewF (by omega) 1 _, h.r.setNew (by omega) (fun h0 b o e => by have := h.ha h0 b o e; omega) 1 _, h.c.set 1 _, h.p.setOther (by omega) 1 _, h.o.setOther (by omega) 1 _, h.i.setFar (fun b o e => (h.lo b o e).2) 1 _, h.hc, h.hR, h.ha, h.lo, h.u4, h.bx, h.bk, hy⟩
theorem CaI.set2 (h : CaI w R a n cap bs q cb pv x s k ua un uc U W) {y : Int} (hy : -10 <= y /\ y <= 10) : CaI w R a n cap bs q cb pv x s y ua un uc U (W.setCell ⟨cb, 2, none⟩ (.int .i64 y)) := by
 have h1 := h.hR;have h2 := h.hc
 exact ⟨h.t.setNewF (by omega) 2 _, h.r.setNew (by omega) (fun h0 b o e => by have := h.ha h0 b o e; omega) 2 _, h.c.set 2 _, h.p.setOther (by omega) 2 _, h.o.setOther (by omega) 2 _, h.i.setFar (fun b o e => (h.lo b o e).2) 2 _, h.hc, h.hR, h.ha, h.lo, h.u4, h.bx, hy, h.bs'⟩
end
structure ClN (w w' : World) (R : Nat) (a : Option Addr) (n cap : Nat) (bs : List Int) (p q : Int) (x s k : Int) (ua : Option Addr) (un : Nat) (U : List Int) : Prop where
 t : Touch (fun z => z = R) w w'
 r : Rd w' R a n cap bs q
 i : Ints w' ua un U
 u4 : un <= 4
 lo : ∀ b o, ua = some ⟨b, o, none⟩ -> w.heap.size + 2 <= b
 bx : -10 <= x /\ x <= 10
 bk : -10 <= k /\ k <= 10
 bs' : -10 <= s /\ s <= 1000
 q0 : p <= q
 q1 : q <= p + 40
theorem CaI.fin {p : Int} {cb : Nat} {pv : List Value} {x s k : Int} {ua : Option Addr} {un uc : Nat} {U : List Int} (h : CaI w R a n cap bs q cb pv x s k ua un uc U W) (h0 : p <= q) (h1 : q <= p + 40) (v0 v1 v2 v3 : Value) :
  ClN w ((((W.setCell ⟨w.heap.size + 1, 0, none⟩ v0).setCell ⟨w.heap.size + 1, 1, none⟩ v1).setCell ⟨w.heap.size + 1, 2, none⟩ v2).setCell ⟨w.heap.size + 1, 3, none⟩ v3) R a n cap bs p q x s k ua un U := by
 have h2 := h.hR;have f : ∀ b o, ua = some ⟨b, o, none⟩ -> b ≠ w.heap.size + 1 := fun b o e => by have := h.lo b o e; omega
 have g : 0 < n -> ∀ b o, a = some ⟨b, o, none⟩ -> b ≠ w.heap.size + 1 := fun h0 b o e => by have := h.ha h0 b o e; omega
 exact ⟨(((h.t.setNewF (by omega) 0 v0).setNewF (by omega) 1 v1).setNewF (by omega) 2 v2).setNewF (by omega) 3 v3, (((h.r.setNew (by omega) g 0 v0).setNew (by omega) g 1 v1).setNew (by omega) g 2 v2).setNew (by omega) g 3 v3, (((h.i.setFar f 0 v0).setFar f 1 v1).setFar f 2 v2).setFar f 3 v3, h.u4, fun b o e => (h.lo b o e).1, h.bx, h.bk, h.bs', h0, h1⟩
theorem lit3c (j : Nat) (hj : j < 3) : (-10 <= ([-1, 4, 3] : List Int)[j]?.getD 0 /\ ([-1, 4, 3] : List Int)[j]?.getD 0 <= 10) /\ (-10 <= ([0, 300, 301] : List Int)[j]?.getD 0 /\ ([0, 300, 301] : List Int)[j]?.getD 0 <= 1000) := by
 rcases j with _ | _ | _ | j <;> first | omega | simp
theorem emod_in {r c : Int} (h0 : 0 <= r) (h1 : r <= 10) (hc : 0 < c) : -10 <= r % c /\ r % c <= 10 := by
 have a := Int.emod_nonneg r (show c ≠ 0 by omega)
 by_cases h : r < c
 ·rw [Int.emod_eq_of_lt h0 h]; omega
 have := Int.emod_lt_of_pos r hc
 omega
theorem call_f (R : Nat) (a : Option Addr) (n cap : Nat) (bs : List Int) (p M : Int) (cl : Int) (ad : Option Addr) (N c : Nat) (v2 v3 : Value) {w : World} (hR : Rd w R a n cap bs p) (hp : 0 <= p) (hp1 : p <= 4000000) (hM : 1 <= M) (hM1 : M <= 1000) (hN : N <= 1048576) (h2 : ∃ x y z, v2 = .slice x y z) (h3 : ∃ x y z, v3 = .slice x y z) (ha : 0 < n -> ∀ b o, a = some ⟨b, o, none⟩ -> b < w.heap.size) :
  Calls Tryz.prog 62 #[.pointer (some ⟨R, 0, none⟩), .agg #[.int .i64 cl, .slice ad N c, v2, v3], .int .i64 M] w fun e w' => ∃ x s k ua un uc U q, e = .returned (clV x s k ua un uc) /\ ClN w w' R a n cap bs p q x s k ua un U := by
 obtain ⟨x2, y2, z2, rfl⟩ := h2;obtain ⟨x3, y3, z3, rfl⟩ := h3;have hRl := hR.c.lt;have qp := (Cel.new w [.int .i64 cl, .slice ad N c, .slice x2 y2 z2, .slice x3 y3 z3] 26).alloc (.cells #[.int .i64 0, .int .i64 0, .int .i64 0, .slice none 0 0] 59);have qo := Cel.new (w.alloc (.cells #[.int .i64 cl, .slice ad N c, .slice x2 y2 z2, .slice x3 y3 z3] 26)) [.int .i64 0, .int .i64 0, .int .i64 0, .slice none 0 0] 59;rw [qC] at qo;have B0 := ((Below.refl w.heap.size w).alloc (qG _) (.cells #[.int .i64 cl, .slice ad N c, .slice x2 y2 z2, .slice x3 y3 z3] 26)).alloc (by rw [qC]; omega) (.cells #[.int .i64 0, .int .i64 0, .int .i64 0, .slice none 0 0] 59)
 go_enter Tryz.func62, Tryz.ntmps62
 go_wp2_with fail
 obtain ⟨W0, hW0⟩ : ∃ W, W = (w.alloc (.cells #[.int .i64 cl, .slice ad N c, .slice x2 y2 z2, .slice x3 y3 z3] 26)).alloc (.cells #[.int .i64 0, .int .i64 0, .int .i64 0, .slice none 0 0] 59) := ⟨_, rfl⟩
 have z0 : W0.heap.size = w.heap.size + 2 := by rw [hW0, qC, qC]
 rw [<- hW0];rw [<- hW0] at qp qo B0;clear hW0;have HZ0 : Hid (W0.heap.size = w.heap.size + 2) := z0;have r0 := hR.below B0;clear hR z0;refine (pick_any R a n cap bs p 4 r0).mono ?_;rintro e w1 ⟨r1, r10, r11, rfl, t1, R1⟩
 go_wp2_with fail
 refine (pick_any R a n cap bs (p + 1) 3 R1).mono ?_;rintro e w2 ⟨r2, r20, r21, rfl, t2, R2⟩
 go_wp2_with fail
 refine (pick_any R a n cap bs (p + 1 + 1) 4 R2).mono ?_;rintro e w3 ⟨r3, r30, r31, rfl, t3, R3⟩
 go_wp2_with fail
 refine (args_gen R a n cap bs (p + 1 + 1 + 1) 99 R3 (by omega) (by omega) (by omega) (by omega) R3.ha).mono ?_;rintro e w4 ⟨ua, un, uc, U, q4, rfl, d4⟩;have u0 := d4.q0;have u1 := d4.q1;have u4 := d4.h4;have lo := d4.lo;have hi := d4.hi;have T4 := ((t1.trans t2).trans t3).trans d4.t;have s3 := ((t1.trans t2).trans t3).size;have s4 := T4.size;have al := (Below.refl w4.heap.size w4).alloc (qG _) (.cells #[.int .i64 r1, .int .i64 (1 + r2), .int .i64 r3, .slice ua un uc] 59)
 have s0 : CaI w R a n cap bs q4 w4.heap.size [.int .i64 cl, .slice ad N c, .slice x2 y2 z2, .slice x3 y3 z3] r1 (1 + r2) r3 ua un uc U (w4.alloc (.cells #[.int .i64 r1, .int .i64 (1 + r2), .int .i64 r3, .slice ua un uc] 59)) :=
  ⟨((Touch.of B0).trans T4).trans (Touch.of al), d4.r.below al, Cel.new w4 _ _, (qp.touch T4 (by omega)).below al, (qo.touch T4 (by omega)).below al, d4.i.below al, by have := HZ0.out; omega, hRl, ha, fun b o e => by (have := lo b o e; have := hi b o e; have := HZ0.out; omega), u4, by omega, by omega, by omega⟩
 obtain ⟨cb, hcb⟩ : ∃ x, x = w4.heap.size := ⟨_, rfl⟩
 obtain ⟨W5, hW5⟩ : ∃ W, W = w4.alloc (.cells #[.int .i64 r1, .int .i64 (1 + r2), .int .i64 r3, .slice ua un uc] 59) := ⟨_, rfl⟩
 rw [<- hcb, <- hW5] at s0;have gp := s0.p.cell 0;simp only [qD] at gp
 go_upto_region 2 with fail
 rw [<- hcb, <- hW5];clear hcb hW5 T4 d4 al qp qo B0 t1 t2 t3 R1 R2 R3 r0 s3 s4 lo hi
 go_upto_if 20 with fail
 clear gp
 go_cut [] (fun wx => ∃ x, CaI w R a n cap bs q4 cb [.int .i64 cl, .slice ad N c, .slice x2 y2 z2, .slice x3 y3 z3] x (1 + r2) r3 ua un uc U wx)
 case first =>
  by_cases hcl : 0 < cl
  ·have c0 := s0.c.cell 0;have p0 := s0.p.cell 0;have f0 := s0.c.free 0;have lt0 := s0.c.lt;simp only [qD] at c0 p0;have hne : cl ≠ 0 := by omega
   have s1 := s0.set0 (emod_in (r := r1) (c := cl) (by omega) (by omega) hcl);clear s0
   go_wp2
   go_meet
   case rel => exact ⟨_, s1⟩
  go_wp2
  go_meet
  case rel => exact ⟨_, s0⟩
 case rest =>
  obtain ⟨x, s1⟩ := hcut;have gp := s1.p.cell 1;simp only [qD, qE] at gp;clear s0
  go_upto_if 30 with fail
  clear gp
  go_cut [] (fun wx => ∃ k, CaI w R a n cap bs q4 cb [.int .i64 cl, .slice ad N c, .slice x2 y2 z2, .slice x3 y3 z3] x (1 + r2) k ua un uc U wx)
  case first =>
   by_cases hn : 0 < N
   ·have hn' : (0 : Int) < (N : Int) := by omega
    have hn0 : (N : Int) ≠ 0 := by omega
    have c0 := s1.c.cell 2;have p0 := s1.p.cell 1;have f0 := s1.c.free 2;have lt0 := s1.c.lt;simp only [qD, qE] at c0 p0;have s2 := s1.set2 (emod_in (r := r3) (c := (N : Int)) (by omega) (by omega) hn');clear s1
    go_wp2
    go_meet
    case rel => exact ⟨_, s2⟩
   have hn' : ¬ (0 : Int) < (N : Int) := by omega
   go_wp2
   go_meet
   case rel => exact ⟨_, s1⟩
  case rest =>
   clear s1;obtain ⟨k, s1⟩ := hcut
   go_wp2_with fail
   refine (pick_any R a n cap bs q4 M s1.r).mono ?_;rintro e w6 ⟨u, v0, v1, rfl, t6, R6⟩;replace s1 := s1.pick t6 R6;clear t6 R6
   by_cases hu : 0 < u
   ·have c0 := s1.c.cell 0;have c1 := s1.c.cell 1;have c2 := s1.c.cell 2;have c3 := s1.c.cell 3;have g0 := s1.o.cell 0;have g1 := s1.o.cell 1;have g2 := s1.o.cell 2;have g3 := s1.o.cell 3;have k0 := s1.o.free 0;have k1 := s1.o.free 1;have k2 := s1.o.free 2;have k3 := s1.o.free 3;have kl := s1.o.lt;simp only [qD, qE] at c0 c1 c2 c3 g0 g1 g2 g3
    go_wp2
    exact bodyPost_ret (v := clV x (1 + r2) k ua un uc) (by simp [results, Tryz.results62, go_sem, g0, g1, g2, g3]) rfl ⟨_, _, _, _, _, _, U, q4 + 1, rfl, s1.fin (by omega) (by omega) _ _ _ _⟩
   obtain rfl : u = 0 := by omega
   clear hu v0 v1
   go_wp2_with fail
   refine (pick_any R a n cap bs (q4 + 1) 4 s1.r).mono ?_;rintro e w7 ⟨m, m0, m1, rfl, t7, R7⟩;replace s1 := s1.pick t7 R7;clear t7 R7
   rcases (show m = 0 \/ m = 1 \/ m = 2 \/ m = 3 from by omega) with rfl | rfl | rfl | rfl
   ·have al := (Below.refl w7.heap.size w7).alloc (qG _) (.cells #[.int .i64 (-1), .int .i64 4, .int .i64 3] 3);have lb := Cel.new w7 [.int .i64 (-1), .int .i64 4, .int .i64 3] 3;have s2 := s1.below al;have nl : w7.heap.size ≠ R := by have h1 := s1.hR; have h2 := s1.t.size; omega
    have zc := s1.c.lt;clear s1 al
    go_wp2_with fail
    refine (pick_any R a n cap bs (q4 + 1 + 1) 3 s2.r).mono ?_;rintro e w8 ⟨j, j0, j1, rfl, t8, R8⟩;obtain ⟨j, rfl⟩ := Int.eq_ofNat_of_zero_le j0;have hj : j < 3 := by omega
    have hj' : (j : Int) < 3 := by omega
    replace s2 := s2.pick t8 R8;replace lb := lb.touch t8 nl;clear t8 R8 j0 j1;have hc := lit_cell (xs := [-1, 4, 3]) lb hj;have hy := (lit3c j hj).1;generalize ([-1, 4, 3] : List Int)[j]?.getD 0 = y at hc hy;have s3 := s2.set0 hy;have e0 := s2.c.cell 0;have f0 := s2.c.free 0;have lt := s2.c.lt;simp only [qD] at e0;clear s2 lb
    go_upto_region 16 with fail
    clear hc e0 f0 lt;have c0 := s3.c.cell 0;have c1 := s3.c.cell 1;have c2 := s3.c.cell 2;have c3 := s3.c.cell 3;have g0 := s3.o.cell 0;have g1 := s3.o.cell 1;have g2 := s3.o.cell 2;have g3 := s3.o.cell 3;have k0 := s3.o.free 0;have k1 := s3.o.free 1;have k2 := s3.o.free 2;have k3 := s3.o.free 3;have kl := s3.o.lt;simp only [qD, qE] at c0 c1 c2 c3 g0 g1 g2 g3
    go_wp2
    exact bodyPost_ret (v := clV y (1 + r2) k ua un uc) (by simp [results, Tryz.results62, go_sem, g0, g1, g2, g3]) rfl ⟨_, _, _, _, _, _, U, q4 + 1 + 1 + 1, rfl, s3.fin (by omega) (by omega) _ _ _ _⟩
   ·have al := (Below.refl w7.heap.size w7).alloc (qG _) (.cells #[.int .i64 0, .int .i64 300, .int .i64 301] 3);have lb := Cel.new w7 [.int .i64 0, .int .i64 300, .int .i64 301] 3;have s2 := s1.below al;have nl : w7.heap.size ≠ R := by have h1 := s1.hR; have h2 := s1.t.size; omega
    have zc := s1.c.lt;clear s1 al
    go_wp2_with fail
    refine (pick_any R a n cap bs (q4 + 1 + 1) 3 s2.r).mono ?_;rintro e w8 ⟨j, j0, j1, rfl, t8, R8⟩;obtain ⟨j, rfl⟩ := Int.eq_ofNat_of_zero_le j0;have hj : j < 3 := by omega
    have hj' : (j : Int) < 3 := by omega
    replace s2 := s2.pick t8 R8;replace lb := lb.touch t8 nl;clear t8 R8 j0 j1;have hc := lit_cell (xs := [0, 300, 301]) lb hj;have hy := (lit3c j hj).2;generalize ([0, 300, 301] : List Int)[j]?.getD 0 = y at hc hy;have s3 := s2.set1 hy;have e1 := s2.c.cell 1;have f1 := s2.c.free 1;have lt := s2.c.lt;simp only [qD, qE] at e1;clear s2 lb
    go_upto_region 16 with fail
    clear hc e1 f1 lt;have c0 := s3.c.cell 0;have c1 := s3.c.cell 1;have c2 := s3.c.cell 2;have c3 := s3.c.cell 3;have g0 := s3.o.cell 0;have g1 := s3.o.cell 1;have g2 := s3.o.cell 2;have g3 := s3.o.cell 3;have k0 := s3.o.free 0;have k1 := s3.o.free 1;have k2 := s3.o.free 2;have k3 := s3.o.free 3;have kl := s3.o.lt;simp only [qD, qE] at c0 c1 c2 c3 g0 g1 g2 g3
    go_wp2
    exact bodyPost_ret (v := clV x y k ua un uc) (by simp [results, Tryz.results62, go_sem, g0, g1, g2, g3]) rfl ⟨_, _, _, _, _, _, U, q4 + 1 + 1 + 1, rfl, s3.fin (by omega) (by omega) _ _ _ _⟩
   ·have al := (Below.refl w7.heap.size w7).alloc (qG _) (.cells #[.int .i64 (-1), .int .i64 4, .int .i64 3] 3);have lb := Cel.new w7 [.int .i64 (-1), .int .i64 4, .int .i64 3] 3;have s2 := s1.below al;have nl : w7.heap.size ≠ R := by have h1 := s1.hR; have h2 := s1.t.size; omega
    have zc := s1.c.lt;clear s1 al
    go_wp2_with fail
    refine (pick_any R a n cap bs (q4 + 1 + 1) 3 s2.r).mono ?_;rintro e w8 ⟨j, j0, j1, rfl, t8, R8⟩;obtain ⟨j, rfl⟩ := Int.eq_ofNat_of_zero_le j0;have hj : j < 3 := by omega
    have hj' : (j : Int) < 3 := by omega
    replace s2 := s2.pick t8 R8;replace lb := lb.touch t8 nl;clear t8 R8 j0 j1;have hc := lit_cell (xs := [-1, 4, 3]) lb hj;have hy := (lit3c j hj).1;generalize ([-1, 4, 3] : List Int)[j]?.getD 0 = y at hc hy;have s3 := s2.set2 hy;have e2 := s2.c.cell 2;have f2 := s2.c.free 2;have lt := s2.c.lt;simp only [qD, qE] at e2;clear s2 lb
    go_upto_region 16 with fail
    clear hc e2 f2 lt;have c0 := s3.c.cell 0;have c1 := s3.c.cell 1;have c2 := s3.c.cell 2;have c3 := s3.c.cell 3;have g0 := s3.o.cell 0;have g1 := s3.o.cell 1;have g2 := s3.o.cell 2;have g3 := s3.o.cell 3;have k0 := s3.o.free 0;have k1 := s3.o.free 1;have k2 := s3.o.free 2;have k3 := s3.o.free 3;have kl := s3.o.lt;simp only [qD, qE] at c0 c1 c2 c3 g0 g1 g2 g3
    go_wp2
    exact bodyPost_ret (v := clV x (1 + r2) y ua un uc) (by simp [results, Tryz.results62, go_sem, g0, g1, g2, g3]) rfl ⟨_, _, _, _, _, _, U, q4 + 1 + 1 + 1, rfl, s3.fin (by omega) (by omega) _ _ _ _⟩
   go_wp2_with fail
   refine (args_gen R a n cap bs (q4 + 1 + 1) 1 s1.r (by omega) (by omega) (by omega) (by omega) s1.r.ha).mono ?_;rintro e w8 ⟨ua2, un2, uc2, U2, q8, rfl, d8⟩;have y0 := d8.q0;have y1 := d8.q1;have y4 := d8.h4;have s2 := s1.pick d8.t d8.r;have lo := d8.lo;have i8 := d8.i;have c3 := s2.c.cell 3;have f3 := s2.c.free 3;have l3 := s2.c.lt;have l7 := s1.c.lt;have h2 := s2.hR;have h3 := s2.hc;simp only [qD, qE] at c3
   have s4 : CaI w R a n cap bs q8 cb [.int .i64 cl, .slice ad N c, .slice x2 y2 z2, .slice x3 y3 z3] x (1 + r2) k ua2 un2 uc2 U2 (w8.setCell ⟨cb, 3, none⟩ (.slice ua2 un2 uc2)) :=
    ⟨s2.t.setNewF (by omega) 3 _, s2.r.setNew (by omega) (fun h0 b o e => by have := s2.ha h0 b o e; omega) 3 _, s2.c.set 3 _, s2.p.setOther (by omega) 3 _, s2.o.setOther (by omega) 3 _, i8.setFar (fun b o e => by have := lo b o e; omega) 3 _, s2.hc, s2.hR, s2.ha, fun b o e => by (have := lo b o e; omega), y4, s2.bx, s2.bk, s2.bs'⟩
   clear d8 s1 s2 i8
   go_upto_region 16 with fail
   clear c3 f3 l3 l7;have c0 := s4.c.cell 0;have c1 := s4.c.cell 1;have c2 := s4.c.cell 2;have c3 := s4.c.cell 3;have g0 := s4.o.cell 0;have g1 := s4.o.cell 1;have g2 := s4.o.cell 2;have g3 := s4.o.cell 3;have k0 := s4.o.free 0;have k1 := s4.o.free 1;have k2 := s4.o.free 2;have k3 := s4.o.free 3;have kl := s4.o.lt;simp only [qD, qE] at c0 c1 c2 c3 g0 g1 g2 g3
   go_wp2
   exact bodyPost_ret (v := clV x (1 + r2) k ua2 un2 uc2) (by simp [results, Tryz.results62, go_sem, g0, g1, g2, g3]) rfl ⟨_, _, _, _, _, _, U2, q8, rfl, s4.fin (by omega) (by omega) _ _ _ _⟩
structure JA (w : World) (v : Value) (xs : List Int) (W : World) : Prop where
 b : Below w.heap.size w W
 o : W.ownsRow w.heap.size 3 1 v xs.length (xs.map (Value.int .i64))
theorem JA.lit (w : World) : JA w (.slice (some ⟨w.heap.size, 0, none⟩) 0 0) [] (w.alloc (.cells #[] 3)) :=
 ⟨bal, World.ownsRow_lit w #[] 0 (qG _) (by unfold maxLen; omega) rfl⟩
theorem JA.alloc (j : JA w v xs W) (o : Obj) : JA w v xs (W.alloc o) := ⟨j.b.alloc j.b.size _, j.o.alloc o⟩
theorem JA.below (j : JA w v xs W) (h : Below W.heap.size W W') : JA w v xs W' := by
 refine ⟨j.b.trans (h.mono j.b.size), j.o.1, ?_⟩
 rcases j.o.2 with h2 | ⟨g, cap, cur, hv, hg, hh, r⟩
 ·exact Or.inl h2
 exact Or.inr ⟨g, cap, cur, hv, hg, by rw [h.block g (lt_of_block hh)]; exact hh, r⟩
theorem JA.own {v' : Value} {ys : List Int} (j : JA w v xs W) (o : W'.ownsRow w.heap.size 3 1 v' ys.length (ys.map (Value.int .i64))) (g : W.grownBy W' v.ownBlock) : JA w v' ys W' :=
 ⟨j.b.grown g j.b.size (fun k hk => (j.o.lt k hk).1), o⟩
theorem news1 {x : Value} : ∀ j u, [x][j]? = some u -> (w.alloc (.cells #[x] t)).cell? ((⟨w.heap.size, 0, none⟩ : Addr).add j) = some u := fun j u hu => by
 match j, hu with
 | 0, hu =>
  simp only [qD, qA] at hu;subst hu;simp [Addr.add]
theorem one1 {k : IntKind} {x : Int} : ∀ u ∈ [Value.int k x], u.oneCell' = true := fun u hu => by
 simp at hu; subst hu; rfl
theorem JA.app {g k : Nat} {o : Obj} (j : JA w v xs W) (hk : xs.length = k) (hown : W'.ownsRow w.heap.size 3 1 (.slice (some ⟨g, 0, none⟩) (k + 1) cap) (k + 1) (xs.map (Value.int .i64) ++ [.int .i64 y])) (hg : (W.alloc o).grownBy W' v.ownBlock) :
  JA w (.slice (some ⟨g, 0, none⟩) (k + 1) cap) (xs ++ [y]) W' := by
 refine (j.alloc o).own ?_ hg;rw [qF, hk, List.map_append]
 exact hown
def OwnX (W : World) (a : Option Addr) (B n : Nat) (zs : List Int) : Prop :=
 zs.length = n /\ (n = 0 \/ (a = some ⟨B, 0, none⟩ /\ ∃ cur : List Value, Cel W B cur 3 /\ ∀ i, i < n -> cur[i]? = some (.int .i64 (zs[i]?.getD 0))))
theorem OwnX.ints (h : OwnX W a B n zs) : Ints W a n zs := by
 refine ⟨h.1, fun i hi => ?_⟩
 rcases h.2 with h0 | ⟨rfl, cur, hc, hv⟩
 ·omega
 refine ⟨B, 0, rfl, ?_⟩;rw [Nat.zero_add, hc.cell i, hv i hi];simp
theorem OwnX.below (h : OwnX W a B n zs) (b : Below W.heap.size W W') : OwnX W' a B n zs := by
 refine ⟨h.1, ?_⟩
 rcases h.2 with h0 | ⟨e, cur, hc, hv⟩
 ·exact .inl h0
 exact .inr ⟨e, cur, hc.below b, hv⟩
theorem OwnX.alloc (h : OwnX W a B n zs) (o : Obj) : OwnX (W.alloc o) a B n zs := h.below (bal)
theorem OwnX.touch {S : Nat -> Prop} (h : OwnX W a B n zs) (t : Touch S W W') (hn : 0 < n -> ¬ S B) : OwnX W' a B n zs := by
 refine ⟨h.1, ?_⟩
 rcases h.2 with h0 | ⟨e, cur, hc, hv⟩
 ·exact .inl h0
 by_cases h0 : 0 < n
 ·exact .inr ⟨e, cur, hc.touch t (hn h0), hv⟩
 exact .inl (by omega)
theorem OwnX.lt (h : OwnX W a B n zs) (hn : 0 < n) : B < W.heap.size := by
 rcases h.2 with h0 | ⟨e, cur, hc, hv⟩
 ·omega
 exact hc.lt
theorem OwnX.setOther {X : Nat} (h : OwnX W a B n zs) (hX : 0 < n -> X ≠ B) (i : Nat) (v : Value) : OwnX (W.setCell ⟨X, i, none⟩ v) a B n zs := by
 refine h.touch (S := fun k => k = X) (Touch.setCell (S := fun k => k = X) (Touch.refl _ _) rfl v) (fun h0 e => hX h0 e.symm)
theorem OwnX.nil (W : World) (a : Option Addr) (B : Nat) : OwnX W a B 0 [] := ⟨rfl, .inl rfl⟩
theorem OwnX.pos (h : OwnX W a B n zs) (hn : 0 < n) : a = some ⟨B, 0, none⟩ /\ (∀ i, i < n -> W.cell? ⟨B, i, none⟩ = some (.int .i64 (zs[i]?.getD 0))) /\ ∀ i, W.frozen? ⟨B, i, none⟩ = false := by
 rcases h.2 with h0 | ⟨rfl, cur, hc, hv⟩
 ·omega
 exact ⟨rfl, fun i hi => by rw [hc.cell i, hv i hi], fun i => hc.free i⟩
theorem OwnX.set (h : OwnX W a B n zs) {i : Nat} (hi : i < n) (x : Int) : OwnX (W.setCell ⟨B, i, none⟩ (.int .i64 x)) a B n (zs.set i x) := by
 refine ⟨by rw [List.length_set]; exact h.1, ?_⟩
 rcases h.2 with h0 | ⟨e, cur, hc, hv⟩
 ·omega
 refine .inr ⟨e, cur.set i (.int .i64 x), hc.set _ _, fun j hj => ?_⟩
 have hl : i < cur.length := by
  have := hv i hi
  exact (List.getElem?_eq_some_iff.1 this).1
 have hz := h.1
 by_cases e : j = i
 ·subst e;rw [List.getElem?_set_self hl, List.getElem?_set_self (by omega)]; rfl
 rw [List.getElem?_set_ne (by omega), hv j hj, List.getElem?_set_ne (by omega)]
theorem JA.ownx (j : JA w v xs W) (hn : xs.length = n) : ∃ a cap B, v = .slice a n cap /\ OwnX W a B n xs /\ (0 < n -> w.heap.size <= B) := by
 subst hn
 rcases j.o.2 with ⟨hv, h⟩ | ⟨g, cap', cur, rfl, hg, hh, hl, _, hs, ht⟩
 ·rw [h];have : xs = [] := List.eq_nil_of_length_eq_zero h;subst this
  exact ⟨none, 0, 0, hv, OwnX.nil _ _ _, fun h => by omega⟩
 refine ⟨some ⟨g, 0, none⟩, cap', g, rfl, ⟨rfl, .inr ⟨rfl, cur.toList, by unfold Cel; simpa using hh, fun i hi => ?_⟩⟩, fun _ => hg⟩;have h1 : (cur.toList.take (xs.length * 1))[i]? = (xs.map (Value.int .i64))[i]? := by rw [ht]
 rw [List.getElem?_take, if_pos (by omega)] at h1;rw [h1];simp [hi]
abbrev resP (code : Int) (a : Option Addr) (n cap : Nat) : Value := .agg #[.int .i64 code, .slice a n cap]
structure JRd (wL : World) (R TB : Nat) (a : Option Addr) (n cap : Nat) (bs : List Int) (q : Int) (bv v' v : Value) (G : List Int) (W : World) : Prop where
 t : Touch (fun x => x = R \/ x = TB) wL W
 r : Rd W R a n cap bs q
 o : W.ownsRow wL.heap.size 3 1 v G.length (G.map (Value.int .i64))
 cb : Cel W TB [bv, v'] 54
 lR : R < wL.heap.size
 lT : TB < wL.heap.size
 ne : TB ≠ R
 lb : 0 < n -> ∀ b o, a = some ⟨b, o, none⟩ -> b < wL.heap.size /\ b ≠ TB
 gB : bnd 12345 G
section
variable {wL W W' : World} {R TB : Nat} {a : Option Addr} {n cap : Nat} {bs : List Int} {q : Int} {bv v' v : Value} {G : List Int}
theorem own_belowR {base : Nat} {e : TypeId} {s : Nat} {m : Nat} {xs : List Value} (h : W.ownsRow base e s v m xs) (b : Below W.heap.size W W') : W'.ownsRow base e s v m xs := by
 obtain ⟨h1, h2⟩ := h;refine ⟨h1, ?_⟩
 rcases h2 with h2 | ⟨g, cap, cur, hv, hg, hh, r⟩
 ·exact Or.inl h2
 exact Or.inr ⟨g, cap, cur, hv, hg, by rw [b.block g (lt_of_block hh)]; exact hh, r⟩
theorem JRd.below (j : JRd wL R TB a n cap bs q bv v' v G W) (b : Below W.heap.size W W') : JRd wL R TB a n cap bs q bv v' v G W' :=
 ⟨j.t.trans (Touch.of b), j.r.below b, own_belowR j.o b, j.cb.below b, j.lR, j.lT, j.ne, j.lb, j.gB⟩
theorem JRd.pick {q' : Int} (j : JRd wL R TB a n cap bs q bv v' v G W) (t : Touch (fun x => x = R) W W') (r : Rd W' R a n cap bs q') : JRd wL R TB a n cap bs q' bv v' v G W' :=
 ⟨j.t.trans (t.mono (fun k h => Or.inl h)), r, ownsRow_touch j.o t (fun k h => by have := j.lR; omega), j.cb.touch t j.ne, j.lR, j.lT, j.ne, j.lb, j.gB⟩
theorem bnd.appR {M : Int} (h : bnd M zs) (h1 : -M <= y) (h2 : y <= M) (h0 : 0 <= M) : bnd M (zs ++ [y]) := by
 intro i
 by_cases hi : i < zs.length
 ·rw [List.getElem?_append_left hi]; exact h i
 by_cases he : i = zs.length
 ·subst he; simp; omega
 rw [List.getElem?_eq_none (by rw [qF]; simp; omega)]; simp; omega
theorem JRd.app {g c k : Nat} (j : JRd wL R TB a n cap bs q bv v' v G W) (hk : G.length = k) (y1 : -12345 <= y) (y2 : y <= 12345) (hown : W'.ownsRow wL.heap.size 3 1 (.slice (some ⟨g, 0, none⟩) (k + 1) c) (k + 1) (G.map (Value.int .i64) ++ [.int .i64 y])) (hg : W.grownBy W' v.ownBlock) : JRd wL R TB a n cap bs q bv v' (.slice (some ⟨g, 0, none⟩) (k + 1) c) (G ++ [y]) W' := by
 have hr : ∀ x, v.ownBlock = some x -> wL.heap.size <= x := fun x hx => (j.o.lt x hx).1;have lR := j.lR;have lT := j.lT;have T : Touch (fun x => wL.heap.size <= x) W W' := ⟨hg.os, hg.tape, hg.output, hg.size, fun x hx hs => hg.block x hx (fun e => hs (hr x e.symm))⟩
 refine ⟨j.t.grown hg hr, j.r.touch T (by omega) (fun h0 b o hab => by have := (j.lb h0 b o hab).1; omega), ?_, j.cb.touch T (by omega), j.lR, j.lT, j.ne, j.lb, j.gB.appR y1 y2 (by omega)⟩;rw [qF, hk, List.map_append]
 exact hown
theorem JRd.store (j : JRd wL R TB a n cap bs q bv v' v G W) : JRd wL R TB a n cap bs q bv v v G (W.setCell ⟨TB, 1, none⟩ v) := by
 have lT := j.lT;have T : Touch (fun x => x = TB) W (W.setCell ⟨TB, 1, none⟩ v) := Touch.setCell (S := fun x => x = TB) (Touch.refl _ _) rfl _
 exact ⟨j.t.trans (T.mono (fun k h => Or.inr h)), j.r.touch T (fun e => j.ne e.symm) (fun h0 b o e h => (j.lb h0 b o e).2 h), ownsRow_touch j.o T (fun k h => by omega), j.cb.set 1 v, j.lR, j.lT, j.ne, j.lb, j.gB⟩
theorem JRd.ints (j : JRd wL R TB a n cap bs q bv v' v G W) (h0 : 0 < G.length) : ∃ g c, v = .slice (some ⟨g, 0, none⟩) G.length c /\ wL.heap.size <= g /\ OwnX W (some ⟨g, 0, none⟩) g G.length G /\ (∀ i, W.frozen? ⟨g, i, none⟩ = false) /\ g < W.heap.size := by
 rcases j.o.2 with ⟨_, h⟩ | ⟨g, cap', cur, rfl, hg, hh, hl, _, _⟩
 ·omega
 have hC : Cel W g cur.toList 3 := by unfold Cel; simpa using hh
 refine ⟨g, cap', rfl, hg, ⟨rfl, .inr ⟨rfl, cur.toList, hC, fun i hi => ?_⟩⟩, fun i => j.o.frozenAt i, lt_of_block hh⟩;have := j.o.cellAt i (by omega);rw [<- hC.cell i, this];simp [hi]
end
theorem JRd.any {wL : World} {TB : Nat} {bv v' : Value} {G : List Int} (j : JRd wL R TB a n cap bs q bv v' v G W) : ∃ ta tc, v = .slice ta G.length tc /\ Ints W ta G.length G /\ ∀ b o, ta = some ⟨b, o, none⟩ -> wL.heap.size <= b := by
 by_cases h0 : 0 < G.length
 ·obtain ⟨g, c, e, hg, ho, _, _⟩ := j.ints h0
  exact ⟨_, c, e, ho.ints, fun b o e => by (simp only [qA, qB] at e; omega)⟩
 have hz : G.length = 0 := by omega
 have hG : G = [] := List.eq_nil_of_length_eq_zero hz;subst hG
 rcases j.o.2 with ⟨hv, _⟩ | ⟨g, cap', cur, hv, hg, _⟩
 ·exact ⟨none, 0, hv, ⟨rfl, fun i hi => by simp at hi⟩, fun b o e => by simp at e⟩
 exact ⟨_, cap', hv, ⟨rfl, fun i hi => by simp at hi⟩, fun b o e => by (simp only [qA, qB] at e; omega)⟩
theorem ints_lit (h : Cel W B (xs.map (Value.int .i64)) t) : Ints W (some ⟨B, 0, none⟩) xs.length xs := ⟨rfl, fun i hi => ⟨B, 0, rfl, by rw [Nat.zero_add, h.cell i]; simp [hi]⟩⟩
structure RsN (w w' : World) (R : Nat) (a : Option Addr) (n cap : Nat) (bs : List Int) (p q : Int) (c : Int) (ta : Option Addr) (tn : Nat) (T : List Int) : Prop where
 t : Touch (fun z => z = R) w w'
 r : Rd w' R a n cap bs q
 i : Ints w' ta tn T
 n7 : tn <= 7
 lo : ∀ b o, ta = some ⟨b, o, none⟩ -> w.heap.size + 1 <= b
 q0 : p <= q
 q1 : q <= p + 20
theorem litR_4 (j : Nat) (hj : j < 4) : -12345 <= ([0, 7, -7, 12345] : List Int)[j]?.getD 0 /\ ([0, 7, -7, 12345] : List Int)[j]?.getD 0 <= 12345 := by
 rcases j with _ | _ | _ | _ | j <;> first | omega | simp
theorem RsN.fin {p c : Int} {ta : Option Addr} {tn : Nat} {T : List Int} (h : RsN w W R a n cap bs p q c ta tn T) (hR : R < w.heap.size) (ha : 0 < n -> ∀ b o, a = some ⟨b, o, none⟩ -> b < w.heap.size) (v0 v1 : Value) : RsN w ((W.setCell ⟨w.heap.size, 0, none⟩ v0).setCell ⟨w.heap.size, 1, none⟩ v1) R a n cap bs p q c ta tn T := by
 have f : ∀ b o, ta = some ⟨b, o, none⟩ -> b ≠ w.heap.size := fun b o e => by have := h.lo b o e; omega
 have g : 0 < n -> ∀ b o, a = some ⟨b, o, none⟩ -> b ≠ w.heap.size := fun h0 b o e => by have := ha h0 b o e; omega
 exact ⟨(h.t.setNewF (qG _) 0 v0).setNewF (qG _) 1 v1, (h.r.setNew (by omega) g 0 v0).setNew (by omega) g 1 v1, (h.i.setFar f 0 v0).setFar f 1 v1, h.n7, h.lo, h.q0, h.q1⟩
theorem res_f (R : Nat) (a : Option Addr) (n cap : Nat) (bs : List Int) (p M : Int) {w : World} (hR : Rd w R a n cap bs p) (hp : 0 <= p) (hp1 : p <= 4000000) (hM : 1 <= M) (hM1 : M <= 1000) (ha : 0 < n -> ∀ b o, a = some ⟨b, o, none⟩ -> b < w.heap.size) :
  Calls Tryz.prog 63 #[.pointer (some ⟨R, 0, none⟩), .int .i64 M] w fun e w' => ∃ c ta tn tc T q, e = .returned (resP c ta tn tc) /\ RsN w w' R a n cap bs p q c ta tn T := by
 have hRl := hR.c.lt;have rb := Cel.new w [.int .i64 0, .slice none 0 0] 54;have B0 := (Below.refl w.heap.size w).alloc (qG _) (.cells #[.int .i64 0, .slice none 0 0] 54);obtain ⟨i0, hi, hz0, hz1, hz2⟩ := info_parts Tryz.infoInt
 go_enter Tryz.func63, Tryz.ntmps63
 go_wp2_with fail
 refine (pick_any R a n cap bs p 3 (hR.below B0)).mono ?_;rintro e w1 ⟨r, r0, r3, rfl, t1, R1⟩;have z1 := t1.size;rw [qC] at z1;have al := (Below.refl w1.heap.size w1).alloc (qG _) (.cells #[.int .i64 (1 + r), .slice none 0 0] 54);have cb := Cel.new w1 [.int .i64 (1 + r), .slice none 0 0] 54;have rb1 := (rb.touch t1 (by omega)).below al;have tw := ((Touch.of (S := fun x => x = R) B0).trans t1).trans (Touch.of al);have r1 := R1.below al;obtain ⟨TB, hTB⟩ : ∃ x, x = w1.heap.size := ⟨_, rfl⟩
 obtain ⟨wL, hwL⟩ : ∃ W, W = w1.alloc (.cells #[.int .i64 (1 + r), .slice none 0 0] 54) := ⟨_, rfl⟩
 have cbl : TB < wL.heap.size := by rw [hwL, hTB, qC]; omega
 have hTB1 : w.heap.size < TB := by omega
 have zL : w1.heap.size < wL.heap.size := by rw [hwL, qC]; omega
 rw [<- hwL] at cb rb1 tw r1;rw [<- hTB] at cb
 have jL : JRd wL R TB a n cap bs (p + 1) (.int .i64 (1 + r)) (.slice none 0 0) (.slice none 0 0) [] wL :=
  ⟨Touch.refl _ _, r1, World.ownsRow_nil _ _ _ _, cb, by omega, cbl, by omega, fun h0 b o e => by have := ha h0 b o e; exact ⟨by omega, by omega⟩, fun i => by simp⟩
 go_upto_region 2 with fail
 rw [<- hTB, <- hwL];clear hTB hwL hR rb B0 R1 t1 al cb r1 zL;have gc := jL.cb.cell 0;simp only [qD] at gc
 go_upto_if 13 with fail
 clear gc
 go_cut [] (fun wx => ∃ v T q, JRd wL R TB a n cap bs q (.int .i64 (1 + r)) v v T wx /\ T.length <= 2 /\ p + 1 <= q /\ q <= p + 5)
 case first =>
  by_cases hr : r = 0
  ·subst hr
   go_wp2_with fail
   refine (pick_any R a n cap bs (p + 1) 3 jL.r).mono ?_;rintro e w3 ⟨rk, k0, k3, rfl, t3, R3⟩;obtain ⟨rk, rfl⟩ := Int.eq_ofNat_of_zero_le k0;replace jL := jL.pick t3 R3;clear t3 R3 k0
   go_wp2_with fail
   go_loopw [6] (fun i wr => ∃ (k l : Nat) (v : Value) (G : List Int) (q : Int), k + l = rk /\ i = .int .i64 l /\ G.length = k /\ JRd wL R TB a n cap bs q (.int .i64 (1 + 0)) v v G wr /\ p + 2 <= q /\ q <= p + 2 + k) (fun i _ => (intOf i).toNat)
   case atStart => exact ⟨0, rk, _, [], p + 1 + 1, by omega, rfl, rfl, jL, by omega, by omega⟩
   case round =>
    clear jL;obtain ⟨k, l, v, G, q, hkl, rfl, hG, j, hq0, hq1⟩ := hrel;have HG : Hid (G.length = k) := hG;clear hG
    by_cases hl : 0 < l
    ·have hl' : (0 : Int) < (l : Int) := by omega
     go_upto_region 6 with fail
     refine wp_region_ends (fun _ => True) (fun X => X.cell? ⟨TB, 1, none⟩ = some v) 9 (by kernel_rfl) ?_;have sd := j.below ((Below.refl _ _).drew);obtain ⟨V0, hV0⟩ : ∃ V, V = wr.drew := ⟨_, rfl⟩
     rw [<- hV0] at sd ⊢;clear hV0 j;have hSS : True /\ (fun X : World => X.cell? ⟨TB, 1, none⟩ = some v) V0 := ⟨trivial, sd.cb.cell 1⟩
     refine tkl 0 rfl hSS ?_;refine tkM (i := 1) rfl rfl hSS ?_;refine tkl 3 rfl hSS ?_;clear hSS;refine wpAnyE_two (i := 2) (j := 4) (by kernel_rfl) rfl rfl (fun Kn hK => ?_) (fun Kn hK => ?_)
     ·go_simp;have al := (Below.refl V0.heap.size V0).alloc (qG _) (.cells #[.int .i64 0, .int .i64 7, .int .i64 (-7), .int .i64 12345] 3);have lb := Cel.new V0 [.int .i64 0, .int .i64 7, .int .i64 (-7), .int .i64 12345] 3;have nl : V0.heap.size ≠ R := by have h1 := sd.lR; have h2 := sd.t.size; omega
      have sa := sd.below al;clear al;refine hK.out _ _ ⟨trivial, fun _ => sa.cb.cell 1⟩ ?_;clear hK;refine wpAnyE_one (i := 4) (by kernel_rfl) rfl (fun Kn hK => ?_);go_simp;refine (pick_any R a n cap bs _ 4 sa.r).mono ?_;rintro e w5 ⟨rj, r0, r1, rfl, t5, R5⟩;obtain ⟨j, rfl⟩ := Int.eq_ofNat_of_zero_le r0;have hj : j < 4 := by omega
      have hj' : (j : Int) < 4 := by omega
      clear r0 r1;have sb := sa.pick t5 R5;replace lb := lb.touch t5 nl;clear t5 R5 sa sd;dsimp only;refine hK.out _ _ ⟨trivial, fun _ => sb.cb.cell 1⟩ ?_;clear hK;have hSS : True /\ (fun X : World => X.cell? ⟨TB, 1, none⟩ = some v) w5 := ⟨trivial, sb.cb.cell 1⟩
      refine tkl 5 rfl hSS ?_;clear hSS;have hc := lit_cell (xs := [0, 7, -7, 12345]) lb hj;have hy := litR_4 j hj;generalize ([0, 7, -7, 12345] : List Int)[j]?.getD 0 = y at hc hy;refine wpAnyE_one (i := 6) (by kernel_rfl) rfl (fun Kn hK => ?_);go_simp;refine hK.out _ _ ⟨trivial, fun _ => sb.cb.cell 1⟩ ?_;clear hK;clear hc lb;obtain ⟨V3, hV3⟩ : ∃ V, V = w5 := ⟨_, rfl⟩
      rw [<- hV3] at sb;rw [<- hV3];clear hV3;refine wpAnyE_one (i := 7) (by kernel_rfl) rfl (fun Kn hK => ?_);go_simp;have al := (Below.refl V3.heap.size V3).alloc (qG _) (.cells #[.int .i64 y] 3);have s7 := sb.below al;refine hK.out _ _ ⟨trivial, fun _ => s7.cb.cell 1⟩ ?_;clear hK;have hsz := s7.t.size;clear al;refine wpAnyE_one (i := 8) (by kernel_rfl) rfl (fun Kn hK => ?_);rw [if_pos (by rfl)];refine wp_append_lies _ (.tmp 21) (.tmp 27) 24 rfl wL.heap.size 3 i0 _ 1 8 Tryz.underlying24 hi hz0 hz1 hz2 rfl (by omega) v k (G.map (Value.int .i64)) (by rfl) (by have h := s7.o; rw [HG.out] at h; exact h) ⟨V3.heap.size, 0, none⟩ 1 1 [.int .i64 y] (by rfl) (by rfl) (World.news_of_block (cs := #[.int .i64 y]) (t := 3) (fr := (0, 0)) (heap_alloc_new V3 _)) (by simp [Value.oneCell']) (by omega) (by unfold maxLen; omega) (by omega) hsz (V3.heap.size + 1) (by rw [qC]) ?_;intro g c w8 hown hgrow _ _;have s8 := s7.app HG.out hy.1 hy.2 hown hgrow;clear hown hgrow;refine hK.out _ _ ⟨trivial, fun _ => s8.cb.cell 1⟩ ?_;clear hK;refine wpAnyE_one (i := 9) (by kernel_rfl) rfl (fun Kn hK => ?_);go_simp;refine hK.out _ _ ⟨trivial, fun _ => s8.cb.cell 1⟩ ?_;clear hK;have f1 := s8.cb.free 1;have c1 := s8.cb.cell 1;have lt1 := s8.cb.lt;simp only [qD, qE] at c1;have s9 := s8.store;refine wpAnyE_one (i := 10) (by kernel_rfl) rfl (fun Kn hK => ?_);go_simp;refine hK.out _ _ ⟨trivial, fun h => absurd h (by decide)⟩ ?_;clear hK
      refine wod ?_ _;clear f1 c1 s8 s7
      go_wp2
      go_roundw
      case rel => exact ⟨k + 1, l - 1, _, _, _, by omega, by go_num, by rw [qF, HG.out]; rfl, s9, by omega, by omega⟩
      case measure => simp [intOf]; omega
     go_simp;refine (pick_any R a n cap bs _ 4 sd.r).mono ?_;rintro e w5 ⟨rj, r0, r1, rfl, t5, R5⟩;obtain ⟨j, rfl⟩ := Int.eq_ofNat_of_zero_le r0;have hj : j < 4 := by omega
     have hj' : (j : Int) < 4 := by omega
     clear r0 r1;have sa := sd.pick t5 R5;clear t5 R5 sd;dsimp only;refine hK.out _ _ ⟨trivial, fun _ => sa.cb.cell 1⟩ ?_;clear hK;refine wpAnyE_one (i := 2) (by kernel_rfl) rfl (fun Kn hK => ?_);go_simp;have al := (Below.refl w5.heap.size w5).alloc (qG _) (.cells #[.int .i64 0, .int .i64 7, .int .i64 (-7), .int .i64 12345] 3);have lb := Cel.new w5 [.int .i64 0, .int .i64 7, .int .i64 (-7), .int .i64 12345] 3;have nl : w5.heap.size ≠ R := by have h1 := sa.lR; have h2 := sa.t.size; omega
     have sb := sa.below al;clear al;refine hK.out _ _ ⟨trivial, fun _ => sb.cb.cell 1⟩ ?_;clear hK;clear sa;have hSS : True /\ (fun X : World => X.cell? ⟨TB, 1, none⟩ = some v) (w5.alloc (.cells #[.int .i64 0, .int .i64 7, .int .i64 (-7), .int .i64 12345] 3)) := ⟨trivial, sb.cb.cell 1⟩
     refine tkl 5 rfl hSS ?_;clear hSS;have hc := lit_cell (xs := [0, 7, -7, 12345]) lb hj;have hy := litR_4 j hj;generalize ([0, 7, -7, 12345] : List Int)[j]?.getD 0 = y at hc hy;refine wpAnyE_one (i := 6) (by kernel_rfl) rfl (fun Kn hK => ?_);go_simp;refine hK.out _ _ ⟨trivial, fun _ => sb.cb.cell 1⟩ ?_;clear hK;clear hc lb;obtain ⟨V3, hV3⟩ : ∃ V, V = (w5.alloc (.cells #[.int .i64 0, .int .i64 7, .int .i64 (-7), .int .i64 12345] 3)) := ⟨_, rfl⟩
     rw [<- hV3] at sb;rw [<- hV3];clear hV3;refine wpAnyE_one (i := 7) (by kernel_rfl) rfl (fun Kn hK => ?_);go_simp;have al := (Below.refl V3.heap.size V3).alloc (qG _) (.cells #[.int .i64 y] 3);have s7 := sb.below al;refine hK.out _ _ ⟨trivial, fun _ => s7.cb.cell 1⟩ ?_;clear hK;have hsz := s7.t.size;clear al;refine wpAnyE_one (i := 8) (by kernel_rfl) rfl (fun Kn hK => ?_);rw [if_pos (by rfl)];refine wp_append_lies _ (.tmp 21) (.tmp 27) 24 rfl wL.heap.size 3 i0 _ 1 8 Tryz.underlying24 hi hz0 hz1 hz2 rfl (by omega) v k (G.map (Value.int .i64)) (by rfl) (by have h := s7.o; rw [HG.out] at h; exact h) ⟨V3.heap.size, 0, none⟩ 1 1 [.int .i64 y] (by rfl) (by rfl) (World.news_of_block (cs := #[.int .i64 y]) (t := 3) (fr := (0, 0)) (heap_alloc_new V3 _)) (by simp [Value.oneCell']) (by omega) (by unfold maxLen; omega) (by omega) hsz (V3.heap.size + 1) (by rw [qC]) ?_;intro g c w8 hown hgrow _ _;have s8 := s7.app HG.out hy.1 hy.2 hown hgrow;clear hown hgrow;refine hK.out _ _ ⟨trivial, fun _ => s8.cb.cell 1⟩ ?_;clear hK;refine wpAnyE_one (i := 9) (by kernel_rfl) rfl (fun Kn hK => ?_);go_simp;refine hK.out _ _ ⟨trivial, fun _ => s8.cb.cell 1⟩ ?_;clear hK;have f1 := s8.cb.free 1;have c1 := s8.cb.cell 1;have lt1 := s8.cb.lt;simp only [qD, qE] at c1;have s9 := s8.store;refine wpAnyE_one (i := 10) (by kernel_rfl) rfl (fun Kn hK => ?_);go_simp;refine hK.out _ _ ⟨trivial, fun h => absurd h (by decide)⟩ ?_;clear hK
     refine wod ?_ _;clear f1 c1 s8 s7
     go_wp2
     go_roundw
     case rel => exact ⟨k + 1, l - 1, _, _, _, by omega, by go_num, by rw [qF, HG.out]; rfl, s9, by omega, by omega⟩
     case measure => simp [intOf]; omega
    have hl' : ¬ (0 : Int) < (l : Int) := by omega
    have HGk : G.length <= 2 := by rw [HG.out]; omega
    go_wp2
    go_meet
    case rel => exact ⟨v, G, q, j, HGk, by omega, by omega⟩
  have hr' : ((1 + r) == 1) = false := by simp; omega
  go_wp2
  go_meet
  case rel => exact ⟨_, _, _, jL, by simp, by omega, by omega⟩
 case rest =>
  clear jL;obtain ⟨v, T, q, j, hT2, hq0, hq1⟩ := hcut
  go_wp2_with fail
  refine (pick_any R a n cap bs q M j.r).mono ?_;rintro e w4 ⟨u, u0, u1, rfl, t4, R4⟩;replace j := j.pick t4 R4;clear t4 R4;have zw := j.t.size
  by_cases hu : 0 < u
  ·obtain ⟨ta, tc, rfl, iT, loT⟩ := j.any;obtain ⟨L, hL⟩ : ∃ L, T.length = L := ⟨_, rfl⟩
   rw [hL] at j iT hT2;have tw9 := (⟨j.t.os.trans tw.os, j.t.tape.trans tw.tape, j.t.output.trans tw.output, Nat.le_trans tw.size j.t.size, fun x hx hs => (j.t.block x (Nat.lt_of_lt_of_le hx tw.size) (by omega)).trans (tw.block x hx hs)⟩ : Touch (fun x => x = R) w _)
   have rb9 := rb1.touch j.t (by omega);have hN : RsN w w4 R a n cap bs p (q + 1) (1 + r) ta L T := ⟨tw9, j.r, iT, by omega, fun b o e => by have := loT b o e; omega, by omega, by omega⟩
   have hZ := fun v0 v1 => hN.fin hRl ha v0 v1;have c0 := j.cb.cell 0;have c1 := j.cb.cell 1;have g0 := rb9.cell 0;have g1 := rb9.cell 1;have k0 := rb9.free 0;have k1' := rb9.free 1;have kl' := rb9.lt;simp only [qD, qE] at c0 c1 g0 g1
   go_wp2
   exact bodyPost_ret (v := resP (1 + r) ta L tc) (by simp [results, Tryz.results63, go_sem, g0, g1]) rfl ⟨_, ta, L, tc, T, q + 1, rfl, hZ _ _⟩
  obtain rfl : u = 0 := by omega
  clear hu u0 u1
  go_wp2_with fail
  refine (pick_any R a n cap bs (q + 1) 3 j.r).mono ?_;rintro e w5 ⟨s, s0, s3, rfl, t5, R5⟩;replace j := j.pick t5 R5;clear t5 R5
  rcases (show s = 0 \/ s = 1 \/ s = 2 from by omega) with rfl | rfl | rfl
  ·have al := (Below.refl w5.heap.size w5).alloc (qG _) (.cells #[.int .i64 0, .int .i64 4, .int .i64 (-1)] 3);have lb := Cel.new w5 [.int .i64 0, .int .i64 4, .int .i64 (-1)] 3;have zz := j.t.size;have nl : w5.heap.size ≠ R := by have h1 := j.lR; omega
   replace j := j.below al;clear al
   go_wp2_with fail
   refine (pick_any R a n cap bs (q + 1 + 1) 3 j.r).mono ?_;rintro e w6 ⟨i, j0, j1, rfl, t8, R8⟩;obtain ⟨i, rfl⟩ := Int.eq_ofNat_of_zero_le j0;have hi3 : i < 3 := by omega
   have hi' : (i : Int) < 3 := by omega
   replace j := j.pick t8 R8;replace lb := lb.touch t8 nl;clear t8 R8 j0 j1;have hc := lit_cell (xs := [0, 4, -1]) lb hi3;generalize ([0, 4, -1] : List Int)[i]?.getD 0 = y at hc;obtain ⟨ta, tc, rfl, iT, loT⟩ := j.any;obtain ⟨L, hL⟩ : ∃ L, T.length = L := ⟨_, rfl⟩
   rw [hL] at j iT hT2;have e0 := j.cb.cell 0;have f0 := j.cb.free 0;have lt := j.cb.lt;simp only [qD] at e0;have T9 : Touch (fun x => x = R \/ x = TB) wL (w6.setCell ⟨TB, 0, none⟩ (.int .i64 y)) := Touch.setCell (S := fun x => x = R \/ x = TB) j.t (Or.inr rfl) _;have r9 := j.r.setNew (B := TB) (fun e => j.ne e) (fun h0 b o e => (j.lb h0 b o e).2) 0 (.int .i64 y);have cb9 := j.cb.set 0 (.int .i64 y);have i9 := iT.setFar (B := TB) (fun b o e => by have := loT b o e; omega) 0 (.int .i64 y);clear j iT lb
   go_upto_region 15 with fail
   clear hc e0 f0 lt;generalize w6.setCell ⟨TB, 0, none⟩ (.int .i64 y) = W9 at T9 r9 cb9 i9 ⊢;have tw9 := (⟨T9.os.trans tw.os, T9.tape.trans tw.tape, T9.output.trans tw.output, Nat.le_trans tw.size T9.size, fun x hx hs => (T9.block x (Nat.lt_of_lt_of_le hx tw.size) (by omega)).trans (tw.block x hx hs)⟩ : Touch (fun x => x = R) w _)
   have rb9 := rb1.touch T9 (by omega);have hN : RsN w W9 R a n cap bs p (q + 1 + 1 + 1) y ta L T := ⟨tw9, r9, i9, by omega, fun b o e => by have := loT b o e; omega, by omega, by omega⟩
   have hZ := fun v0 v1 => hN.fin hRl ha v0 v1;have c0 := cb9.cell 0;have c1 := cb9.cell 1;have g0 := rb9.cell 0;have g1 := rb9.cell 1;have k0 := rb9.free 0;have k1' := rb9.free 1;have kl' := rb9.lt;simp only [qD, qE] at c0 c1 g0 g1
   go_wp2
   exact bodyPost_ret (v := resP y ta L tc) (by simp [results, Tryz.results63, go_sem, g0, g1]) rfl ⟨_, ta, L, tc, T, q + 1 + 1 + 1, rfl, hZ _ _⟩
  ·obtain ⟨L, hL⟩ : ∃ L, T.length = L := ⟨_, rfl⟩
   have HL : Hid (T.length = L) := hL;rw [hL] at hT2;clear hL;have al := (Below.refl w5.heap.size w5).alloc (qG _) (.cells #[.int .i64 1] 3);have s7 := j.below al;have e1 := j.cb.cell 1;have e7 := s7.cb.cell 1;simp only [qD, qE] at e1 e7;have hsz := s7.t.size;clear al
   go_upto_region 15 with (at_builtin; go_must (refine wpList_append_lies _ rfl (.tmp 59) (.tmp 60) 24 rfl wL.heap.size 3 i0 _ 1 8 Tryz.underlying24 hi hz0 hz1 hz2 rfl (by decide) v L (T.map (Value.int .i64)) rfl (by have h := s7.o; rw [HL.out] at h; exact h) ⟨w5.heap.size, 0, none⟩ 1 1 [.int .i64 1] rfl rfl (World.news_of_block (cs := #[.int .i64 1]) (t := 3) (fr := (0, 0)) (heap_alloc_new w5 _)) (by simp [Value.oneCell']) (by omega) (by unfold maxLen; omega) (by omega) hsz _ rfl ?_); intro g c w8 hown hgrow _ _; have s8 := s7.app HL.out (by omega) (by omega) hown hgrow; have k1 := s8.cb.cell 1; have kf := s8.cb.free 1; have kl := s8.cb.lt; simp only [qD, qE] at k1)
   have s9 := s8.store;clear hown hgrow s7 j e1 e7 k1 kf kl;obtain ⟨W9, hW9⟩ : ∃ W, W = w8.setCell ⟨TB, 1, none⟩ (.slice (some ⟨g, 0, none⟩) (L + 1) c) := ⟨_, rfl⟩
   rw [<- hW9];rw [<- hW9] at s9;clear hW9 s8;obtain ⟨ta, tc, e9, iT, loT⟩ := s9.any;have hl9 : (T ++ [1]).length = L + 1 := by rw [qF, HL.out]; rfl
   rw [hl9] at e9 iT
   cases e9
   have tw9 := (⟨s9.t.os.trans tw.os, s9.t.tape.trans tw.tape, s9.t.output.trans tw.output, Nat.le_trans tw.size s9.t.size, fun x hx hs => (s9.t.block x (Nat.lt_of_lt_of_le hx tw.size) (by omega)).trans (tw.block x hx hs)⟩ : Touch (fun x => x = R) w _)
   have rb9 := rb1.touch s9.t (by omega);have hN : RsN w W9 R a n cap bs p (q + 1 + 1) (1 + r) (some ⟨g, 0, none⟩) (L + 1) (T ++ [1]) := ⟨tw9, s9.r, iT, by omega, fun b o e => by have := loT b o e; omega, by omega, by omega⟩
   have hZ := fun v0 v1 => hN.fin hRl ha v0 v1;have cb9 := s9.cb;have c0 := cb9.cell 0;have c1 := cb9.cell 1;have g0 := rb9.cell 0;have g1 := rb9.cell 1;have k0 := rb9.free 0;have k1' := rb9.free 1;have kl' := rb9.lt;simp only [qD, qE] at c0 c1 g0 g1
   go_wp2
   exact bodyPost_ret (v := resP (1 + r) (some ⟨g, 0, none⟩) (L + 1) c) (by simp [results, Tryz.results63, go_sem, g0, g1]) rfl ⟨_, _, L + 1, c, T ++ [1], q + 1 + 1, rfl, hZ _ _⟩
  have zz := j.t.size;have l1 := j.lR;have al0 := (Below.refl w5.heap.size w5).alloc (qG _) (.cells #[.int .i64 1, .int .i64 2, .int .i64 3, .int .i64 4, .int .i64 5, .int .i64 6, .int .i64 7] 3);have m0 := Cel.new w5 [.int .i64 1, .int .i64 2, .int .i64 3, .int .i64 4, .int .i64 5, .int .i64 6, .int .i64 7] 3;replace j := j.below al0;obtain ⟨X0, hX0⟩ : ∃ x, x = w5.heap.size := ⟨_, rfl⟩
  obtain ⟨Y0, hY0⟩ : ∃ W, W = w5.alloc (.cells #[.int .i64 1, .int .i64 2, .int .i64 3, .int .i64 4, .int .i64 5, .int .i64 6, .int .i64 7] 3) := ⟨_, rfl⟩
  rw [<- hY0] at j m0;rw [<- hX0] at m0;have x0 : wL.heap.size <= X0 /\ R < X0 /\ X0 < Y0.heap.size := by have := m0.lt; omega
  have y0 : w5.heap.size < Y0.heap.size := by rw [hY0, qC]; omega
  clear al0;have al1 := (Below.refl Y0.heap.size Y0).alloc (qG _) (.cells #[.int .i64 999999999999] 3);have m1 := Cel.new Y0 [.int .i64 999999999999] 3;replace j := j.below al1;replace m0 := m0.below al1;obtain ⟨X1, hX1⟩ : ∃ x, x = Y0.heap.size := ⟨_, rfl⟩
  obtain ⟨Y1, hY1⟩ : ∃ W, W = Y0.alloc (.cells #[.int .i64 999999999999] 3) := ⟨_, rfl⟩
  rw [<- hY1] at j m0 m1;rw [<- hX1] at m1;have x1 : wL.heap.size <= X1 /\ R < X1 /\ X1 < Y1.heap.size := by have := m1.lt; omega
  have y1 : Y0.heap.size < Y1.heap.size := by rw [hY1, qC]; omega
  clear al1;have al2 := (Below.refl Y1.heap.size Y1).alloc (qG _) (.cells #[.int .i64 (-999999999999)] 3);have m2 := Cel.new Y1 [.int .i64 (-999999999999)] 3;replace j := j.below al2;replace m0 := m0.below al2;replace m1 := m1.below al2;obtain ⟨X2, hX2⟩ : ∃ x, x = Y1.heap.size := ⟨_, rfl⟩
  obtain ⟨Y2, hY2⟩ : ∃ W, W = Y1.alloc (.cells #[.int .i64 (-999999999999)] 3) := ⟨_, rfl⟩
  rw [<- hY2] at j m0 m1 m2;rw [<- hX2] at m2;have x2 : wL.heap.size <= X2 /\ R < X2 /\ X2 < Y2.heap.size := by have := m2.lt; omega
  have y2 : Y1.heap.size < Y2.heap.size := by rw [hY2, qC]; omega
  clear al2;have al3 := (Below.refl Y2.heap.size Y2).alloc (qG _) (.cells #[.int .i64 1000000000000] 3);have m3 := Cel.new Y2 [.int .i64 1000000000000] 3;replace j := j.below al3;replace m0 := m0.below al3;replace m1 := m1.below al3;replace m2 := m2.below al3;obtain ⟨X3, hX3⟩ : ∃ x, x = Y2.heap.size := ⟨_, rfl⟩
  obtain ⟨Y3, hY3⟩ : ∃ W, W = Y2.alloc (.cells #[.int .i64 1000000000000] 3) := ⟨_, rfl⟩
  rw [<- hY3] at j m0 m1 m2 m3;rw [<- hX3] at m3;have x3 : wL.heap.size <= X3 /\ R < X3 /\ X3 < Y3.heap.size := by have := m3.lt; omega
  have y3 : Y2.heap.size < Y3.heap.size := by rw [hY3, qC]; omega
  clear al3;have al4 := (Below.refl Y3.heap.size Y3).alloc (qG _) (.cells #[.int .i64 (-9223372036854775808)] 3);have m4 := Cel.new Y3 [.int .i64 (-9223372036854775808)] 3;replace j := j.below al4;replace m0 := m0.below al4;replace m1 := m1.below al4;replace m2 := m2.below al4;replace m3 := m3.below al4;obtain ⟨X4, hX4⟩ : ∃ x, x = Y3.heap.size := ⟨_, rfl⟩
  obtain ⟨Y4, hY4⟩ : ∃ W, W = Y3.alloc (.cells #[.int .i64 (-9223372036854775808)] 3) := ⟨_, rfl⟩
  rw [<- hY4] at j m0 m1 m2 m3 m4;rw [<- hX4] at m4;have x4 : wL.heap.size <= X4 /\ R < X4 /\ X4 < Y4.heap.size := by have := m4.lt; omega
  have y4 : Y3.heap.size < Y4.heap.size := by rw [hY4, qC]; omega
  clear al4;have al5 := (Below.refl Y4.heap.size Y4).alloc (qG _) (.cells #[.slice (some ⟨X0, 0, none⟩) 7 7, .slice (some ⟨X1, 0, none⟩) 1 1, .slice (some ⟨X2, 0, none⟩) 1 1, .slice (some ⟨X3, 0, none⟩) 1 1, .slice (some ⟨X4, 0, none⟩) 1 1] 24);have m5 := Cel.new Y4 [.slice (some ⟨X0, 0, none⟩) 7 7, .slice (some ⟨X1, 0, none⟩) 1 1, .slice (some ⟨X2, 0, none⟩) 1 1, .slice (some ⟨X3, 0, none⟩) 1 1, .slice (some ⟨X4, 0, none⟩) 1 1] 24;replace j := j.below al5;replace m0 := m0.below al5;replace m1 := m1.below al5;replace m2 := m2.below al5;replace m3 := m3.below al5;replace m4 := m4.below al5;have n5 : Y4.heap.size ≠ R := by omega
  clear al5
  go_wp2_with fail
  have x01 : X0 + 1 = X1 := by rw [hX1, hY0, qC, hX0]
  have x12 : X1 + 1 = X2 := by rw [hX2, hY1, qC, hX1]
  have x23 : X2 + 1 = X3 := by rw [hX3, hY2, qC, hX2]
  have x34 : X3 + 1 = X4 := by rw [hX4, hY3, qC, hX3]
  have x45 : X4 + 1 = Y4.heap.size := by rw [hY4, qC, hX4]
  rw [<- hX0, x01, x12, x23, x34]
  try rw [x45]
  rw [<- hY0, <- hY1, <- hY2, <- hY3, <- hY4];clear hX0 hY0 hX1 hY1 hX2 hY2 hX3 hY3 hX4 hY4 x01 x12 x23 x34 x45;refine (pick_any R a n cap bs (q + 1 + 1) 5 j.r).mono ?_;rintro e w6 ⟨i, j0, j1, rfl, t8, R8⟩;replace j := j.pick t8 R8;replace m0 := m0.touch t8 (by omega);replace m1 := m1.touch t8 (by omega);replace m2 := m2.touch t8 (by omega);replace m3 := m3.touch t8 (by omega);replace m4 := m4.touch t8 (by omega);replace m5 := m5.touch t8 n5;clear t8 R8
  have PICK : ∃ (xa : Nat) (L : Nat) (Z : List Int), w6.cell? ⟨Y4.heap.size, i.toNat, none⟩ = some (.slice (some ⟨xa, 0, none⟩) L L) /\ Ints w6 (some ⟨xa, 0, none⟩) L Z /\ L <= 7 /\ wL.heap.size <= xa /\ xa ≠ TB := by
   rcases (show i = 0 \/ i = 1 \/ i = 2 \/ i = 3 \/ i = 4 from by omega) with rfl | rfl | rfl | rfl | rfl
   ·exact ⟨X0, 7, [1, 2, 3, 4, 5, 6, 7], m5.cell 0, ints_lit m0, by omega, by omega, by (have := j.lT; omega)⟩
   ·exact ⟨X1, 1, [999999999999], m5.cell 1, ints_lit m1, by omega, by omega, by (have := j.lT; omega)⟩
   ·exact ⟨X2, 1, [-999999999999], m5.cell 2, ints_lit m2, by omega, by omega, by (have := j.lT; omega)⟩
   ·exact ⟨X3, 1, [1000000000000], m5.cell 3, ints_lit m3, by omega, by omega, by (have := j.lT; omega)⟩
   exact ⟨X4, 1, [-9223372036854775808], m5.cell 4, ints_lit m4, by omega, by omega, by (have := j.lT; omega)⟩
  obtain ⟨xa, L, Z, cx, iZ, L7, lx, nx⟩ := PICK;have hi5 : i < 5 := by omega
  clear m0 m1 m2 m3 m4 m5;have e1 := j.cb.cell 1;have f1 := j.cb.free 1;have lt := j.cb.lt;simp only [qD, qE] at e1;have T9 : Touch (fun x => x = R \/ x = TB) wL (w6.setCell ⟨TB, 1, none⟩ (.slice (some ⟨xa, 0, none⟩) L L)) := Touch.setCell (S := fun x => x = R \/ x = TB) j.t (Or.inr rfl) _;have r9 := j.r.setNew (B := TB) (fun e => j.ne e) (fun h0 b o e => (j.lb h0 b o e).2) 1 (.slice (some ⟨xa, 0, none⟩) L L);have cb9 := j.cb.set 1 (.slice (some ⟨xa, 0, none⟩) L L);have i9 := iZ.setFar (B := TB) (fun b o e => by (simp only [qA, qB] at e; omega)) 1 (.slice (some ⟨xa, 0, none⟩) L L);clear j iZ
  go_upto_region 15 with fail
  clear cx e1 f1 lt;generalize w6.setCell ⟨TB, 1, none⟩ (.slice (some ⟨xa, 0, none⟩) L L) = W9 at T9 r9 cb9 i9 ⊢;have tw9 := (⟨T9.os.trans tw.os, T9.tape.trans tw.tape, T9.output.trans tw.output, Nat.le_trans tw.size T9.size, fun x hx hs => (T9.block x (Nat.lt_of_lt_of_le hx tw.size) (by omega)).trans (tw.block x hx hs)⟩ : Touch (fun x => x = R) w _)
  have rb9 := rb1.touch T9 (by omega);have hN : RsN w W9 R a n cap bs p (q + 1 + 1 + 1) (1 + r) (some ⟨xa, 0, none⟩) L Z := ⟨tw9, r9, i9, by omega, fun b o e => by (simp only [qA, qB] at e; omega), by omega, by omega⟩
  have hZ := fun v0 v1 => hN.fin hRl ha v0 v1;have c0 := cb9.cell 0;have c1 := cb9.cell 1;have g0 := rb9.cell 0;have g1 := rb9.cell 1;have k0 := rb9.free 0;have k1' := rb9.free 1;have kl' := rb9.lt;simp only [qD, qE] at c0 c1 g0 g1
  go_wp2
  exact bodyPost_ret (v := resP (1 + r) (some ⟨xa, 0, none⟩) L L) (by simp [results, Tryz.results63, go_sem, g0, g1]) rfl ⟨_, _, L, L, Z, q + 1 + 1 + 1, rfl, hZ _ _⟩
structure LgV where
 x : Int
 q : Int
 c : Int
 t : IV
 e : Int
 u : IV
def noLg : LgV := ⟨0, 0, 0, noI, 0, noI⟩
def LgV.cs (f : LgV) : List Value := [.int .i64 f.x, .int .i64 f.q, .int .i64 f.c, IV.v f.t, .int .i64 f.e, IV.v f.u]
def LgG (w : World) (f : LgV) : Prop := IG w f.t /\ IG w f.u /\ True
theorem LgG.below {w' : World} {f : LgV} (h : LgG w f) (hb : Below w.heap.size w w') : LgG w' f := ⟨h.1.below hb, h.2.1.below hb, trivial⟩
abbrev lgV (x q c : Int) (a : Option Addr) (n cap : Nat) (e : Int) (a' : Option Addr) (n' cap' : Nat) : Value := .agg #[.int .i64 x, .int .i64 q, .int .i64 c, .slice a n cap, .int .i64 e, .slice a' n' cap']
theorem Cel.sixL {x y z u t' : Value} (h : Cel w B [x, y, z, u, v, t'] t) : w.cell? ⟨B, 0, none⟩ = some x /\ w.cell? ⟨B, 1, none⟩ = some y /\ w.cell? ⟨B, 2, none⟩ = some z /\ w.cell? ⟨B, 3, none⟩ = some u /\ w.cell? ⟨B, 4, none⟩ = some v /\ w.cell? ⟨B, 5, none⟩ = some t' := ⟨h.cell 0, h.cell 1, h.cell 2, h.cell 3, h.cell 4, h.cell 5⟩
def LgSG (w : World) (ad : Option Addr) (fs : List LgV) : Prop :=
 ∀ i, i < fs.length -> ∃ b off, ad = some ⟨b, off, none⟩ /\ (∀ r, r < 6 -> w.cell? ⟨b, off + i * 6 + r, none⟩ = (fs[i]?.getD noLg).cs[r]?) /\ LgG w (fs[i]?.getD noLg)
theorem LgSG.below {w' : World} {ad : Option Addr} {fs : List LgV} (h : LgSG w ad fs) (hb : Below w.heap.size w w') : LgSG w' ad fs := fun i hi => by
 obtain ⟨b, off, e, hc, hr⟩ := h i hi;have hl : b < w.heap.size := block_lt (v := ((fs[i]?.getD noLg).cs[0]?).getD (.bool false)) ((hc 0 (by omega)).trans rfl)
 exact ⟨b, off, e, fun r hr => by rw [hb.cell (p := ⟨b, off + i * 6 + r, none⟩) hl]; exact hc r hr, hr.below hb⟩
theorem cellsLg {b o : Nat} {f : LgV} (h : ∀ r, r < 6 -> w.cell? ⟨b, o + r, none⟩ = f.cs[r]?) : w.cell? ⟨b, o, none⟩ = some (.int .i64 f.x) /\ w.cell? ⟨b, o + 1, none⟩ = some (.int .i64 f.q) /\ w.cell? ⟨b, o + 2, none⟩ = some (.int .i64 f.c) /\ w.cell? ⟨b, o + 3, none⟩ = some (f.t.v) /\ w.cell? ⟨b, o + 4, none⟩ = some (.int .i64 f.e) /\ w.cell? ⟨b, o + 5, none⟩ = some (f.u.v) := ⟨h 0 (by omega), h 1 (by omega), h 2 (by omega), h 3 (by omega), h 4 (by omega), h 5 (by omega)⟩
theorem Tryz.infoLogDone : (Tryz.prog.info? 61).map (fun i => (i.zero, i.size, i.bytes)) = some (some (.agg #[.int .i64 0, .int .i64 0, .int .i64 0, .slice none 0 0, .int .i64 0, .slice none 0 0]), 6, 80) := by kernel_rfl
section
variable {W W' : World} {a : Option Addr} {G n : Nat} {f : Nat -> LgV} {bs ds : Nat -> Nat}
end
section
variable {w W W' : World} {v v' : Value} {ts : List LgV} {bs ds : Nat -> Nat}
theorem atLgc (ts : List LgV) : ∀ i, i < ts.length -> ∀ r, r < 6 -> (ts.flatMap LgV.cs)[i * 6 + r]? = (ts[i]?.getD noLg).cs[r]? := by
 induction ts with
 | nil => intro i hi; simp at hi
 | cons t ts ih =>
  intro i hi r hr;rw [List.flatMap_cons];have hl : t.cs.length = 6 := rfl
  cases i with
  | zero => rw [List.getElem?_append_left (by omega)]; simp
  | succ i =>
   rw [List.getElem?_append_right (by omega), hl, show (i + 1) * 6 + r - 6 = i * 6 + r by omega, ih i (by simpa using hi) r hr];simp
end
end Go.Proofs.YtpmihhbgjimpmaaGreatDoor
