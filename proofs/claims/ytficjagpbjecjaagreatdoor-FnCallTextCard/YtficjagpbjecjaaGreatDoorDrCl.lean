/-
  Calls that are drawn (l21Call): numbers, and arguments in new memory.
-/
import Derived.Test.YtficjagpbjecjaaGreatDoorDrL
import Derived.Test.YtficjagpbjecjaaGreatDoorCallP
import Derived.Deep.DeepCutAuto
namespace Go.Proofs.YtficjagpbjecjaaGreatDoor
open Go.RowKit
set_option linter.unusedVariables false
set_option maxRecDepth 100000

/-- A call that is being drawn: its box, its arguments, the boxes of the plan and of the answer. -/
structure CaI (w : World) (R : Nat) (a : Option Addr) (n cap : Nat) (bs : List Int) (q : Int) (cb : Nat) (pv : List Value) (x s k : Int) (ua : Option Addr) (un uc : Nat) (U : List Int) (W : World) : Prop where
  t : Touch (fun z => z = R) w W
  r : Rd W R a n cap bs q
  c : Cel W cb [.int .i64 x, .int .i64 s, .int .i64 k, .slice ua un uc] 25
  p : Cel W w.heap.size pv 40
  o : Cel W (w.heap.size + 1) [.int .i64 0, .int .i64 0, .int .i64 0, .slice none 0 0] 25
  i : Ints W ua un U
  hc : w.heap.size + 2 ≤ cb
  hR : R < w.heap.size
  ha : 0 < n → ∀ b o, a = some ⟨b, o, none⟩ → b < w.heap.size
  lo : ∀ b o, ua = some ⟨b, o, none⟩ → w.heap.size + 2 ≤ b ∧ b ≠ cb
  u4 : un ≤ 4
  bx : -10 ≤ x ∧ x ≤ 10
  bk : -10 ≤ k ∧ k ≤ 10
  bs' : -10 ≤ s ∧ s ≤ 1000
section
variable {w W W' : World} {R : Nat} {a : Option Addr} {n cap : Nat} {bs : List Int} {q q' : Int} {cb : Nat} {pv : List Value} {x s k : Int} {ua : Option Addr} {un uc : Nat} {U : List Int}
theorem CaI.below (h : CaI w R a n cap bs q cb pv x s k ua un uc U W) (b : Below W.heap.size W W') : CaI w R a n cap bs q cb pv x s k ua un uc U W' :=
  ⟨h.t.trans (Touch.of b), h.r.below b, h.c.below b, h.p.below b, h.o.below b, h.i.below b, h.hc, h.hR, h.ha, h.lo, h.u4, h.bx, h.bk, h.bs'⟩
theorem CaI.pick (h : CaI w R a n cap bs q cb pv x s k ua un uc U W) (t : Touch (fun z => z = R) W W') (r : Rd W' R a n cap bs q') : CaI w R a n cap bs q' cb pv x s k ua un uc U W' := by
  have h1 := h.hR
  have h2 := h.hc
  exact ⟨h.t.trans t, r, h.c.touch t (by omega), h.p.touch t (by omega), h.o.touch t (by omega), h.i.off t (fun b o e hs => by have := h.lo b o e; omega), h.hc, h.hR, h.ha, h.lo, h.u4, h.bx, h.bk, h.bs'⟩
theorem CaI.set0 (h : CaI w R a n cap bs q cb pv x s k ua un uc U W) {y : Int} (hy : -10 ≤ y ∧ y ≤ 10) : CaI w R a n cap bs q cb pv y s k ua un uc U (W.setCell ⟨cb, 0, none⟩ (.int .i64 y)) := by
  have h1 := h.hR
  have h2 := h.hc
  exact ⟨h.t.setNewF (by omega) 0 _, h.r.setNew (by omega) (fun h0 b o e => by have := h.ha h0 b o e; omega) 0 _, h.c.set 0 _, h.p.setOther (by omega) 0 _, h.o.setOther (by omega) 0 _, h.i.setFar (fun b o e => (h.lo b o e).2) 0 _, h.hc, h.hR, h.ha, h.lo, h.u4, hy, h.bk, h.bs'⟩
theorem CaI.set1 (h : CaI w R a n cap bs q cb pv x s k ua un uc U W) {y : Int} (hy : -10 ≤ y ∧ y ≤ 1000) : CaI w R a n cap bs q cb pv x y k ua un uc U (W.setCell ⟨cb, 1, none⟩ (.int .i64 y)) := by
  have h1 := h.hR
  have h2 := h.hc
  exact ⟨h.t.setNewF (by omega) 1 _, h.r.setNew (by omega) (fun h0 b o e => by have := h.ha h0 b o e; omega) 1 _, h.c.set 1 _, h.p.setOther (by omega) 1 _, h.o.setOther (by omega) 1 _, h.i.setFar (fun b o e => (h.lo b o e).2) 1 _, h.hc, h.hR, h.ha, h.lo, h.u4, h.bx, h.bk, hy⟩
theorem CaI.set2 (h : CaI w R a n cap bs q cb pv x s k ua un uc U W) {y : Int} (hy : -10 ≤ y ∧ y ≤ 10) : CaI w R a n cap bs q cb pv x s y ua un uc U (W.setCell ⟨cb, 2, none⟩ (.int .i64 y)) := by
  have h1 := h.hR
  have h2 := h.hc
  exact ⟨h.t.setNewF (by omega) 2 _, h.r.setNew (by omega) (fun h0 b o e => by have := h.ha h0 b o e; omega) 2 _, h.c.set 2 _, h.p.setOther (by omega) 2 _, h.o.setOther (by omega) 2 _, h.i.setFar (fun b o e => (h.lo b o e).2) 2 _, h.hc, h.hR, h.ha, h.lo, h.u4, h.bx, hy, h.bs'⟩
end
/-- A call was drawn. -/
structure ClN (w w' : World) (R : Nat) (a : Option Addr) (n cap : Nat) (bs : List Int) (p q : Int) (x s k : Int) (ua : Option Addr) (un : Nat) (U : List Int) : Prop where
  t : Touch (fun z => z = R) w w'
  r : Rd w' R a n cap bs q
  i : Ints w' ua un U
  u4 : un ≤ 4
  lo : ∀ b o, ua = some ⟨b, o, none⟩ → w.heap.size + 2 ≤ b
  bx : -10 ≤ x ∧ x ≤ 10
  bk : -10 ≤ k ∧ k ≤ 10
  bs' : -10 ≤ s ∧ s ≤ 1000
  q0 : p ≤ q
  q1 : q ≤ p + 40
theorem CaI.fin {w W : World} {R : Nat} {a : Option Addr} {n cap : Nat} {bs : List Int} {p q : Int} {cb : Nat} {pv : List Value} {x s k : Int} {ua : Option Addr} {un uc : Nat} {U : List Int} (h : CaI w R a n cap bs q cb pv x s k ua un uc U W) (h0 : p ≤ q) (h1 : q ≤ p + 40) (v0 v1 v2 v3 : Value) :
    ClN w ((((W.setCell ⟨w.heap.size + 1, 0, none⟩ v0).setCell ⟨w.heap.size + 1, 1, none⟩ v1).setCell ⟨w.heap.size + 1, 2, none⟩ v2).setCell ⟨w.heap.size + 1, 3, none⟩ v3) R a n cap bs p q x s k ua un U := by
  have h2 := h.hR
  have f : ∀ b o, ua = some ⟨b, o, none⟩ → b ≠ w.heap.size + 1 := fun b o e => by have := h.lo b o e; omega
  have g : 0 < n → ∀ b o, a = some ⟨b, o, none⟩ → b ≠ w.heap.size + 1 := fun h0 b o e => by have := h.ha h0 b o e; omega
  exact ⟨(((h.t.setNewF (by omega) 0 v0).setNewF (by omega) 1 v1).setNewF (by omega) 2 v2).setNewF (by omega) 3 v3, (((h.r.setNew (by omega) g 0 v0).setNew (by omega) g 1 v1).setNew (by omega) g 2 v2).setNew (by omega) g 3 v3, (((h.i.setFar f 0 v0).setFar f 1 v1).setFar f 2 v2).setFar f 3 v3, h.u4, fun b o e => (h.lo b o e).1, h.bx, h.bk, h.bs', h0, h1⟩
theorem lit3c (j : Nat) (hj : j < 3) : (-10 ≤ ([-1, 4, 3] : List Int)[j]?.getD 0 ∧ ([-1, 4, 3] : List Int)[j]?.getD 0 ≤ 10) ∧ (-10 ≤ ([0, 300, 301] : List Int)[j]?.getD 0 ∧ ([0, 300, 301] : List Int)[j]?.getD 0 ≤ 1000) := by
  rcases j with _ | _ | _ | j <;> first | omega | simp
theorem emod_in {r c : Int} (h0 : 0 ≤ r) (h1 : r ≤ 10) (hc : 0 < c) : -10 ≤ r % c ∧ r % c ≤ 10 := by
  have a := Int.emod_nonneg r (show c ≠ 0 by omega)
  by_cases h : r < c
  · rw [Int.emod_eq_of_lt h0 h]; omega
  · have := Int.emod_lt_of_pos r hc
    omega

set_option maxHeartbeats 12800000 in
theorem call_f (R : Nat) (a : Option Addr) (n cap : Nat) (bs : List Int) (p M : Int) (cl : Int) (ad : Option Addr) (N c : Nat) (v2 v3 : Value) (w : World) (hR : Rd w R a n cap bs p) (hp : 0 ≤ p) (hp1 : p ≤ 4000000) (hM : 1 ≤ M) (hM1 : M ≤ 1000) (hN : N ≤ 1048576) (h2 : ∃ x y z, v2 = .slice x y z) (h3 : ∃ x y z, v3 = .slice x y z) (ha : 0 < n → ∀ b o, a = some ⟨b, o, none⟩ → b < w.heap.size) :
    Calls Tryz.prog 16 #[.pointer (some ⟨R, 0, none⟩), .agg #[.int .i64 cl, .slice ad N c, v2, v3], .int .i64 M] w fun e w' => ∃ x s k ua un uc U q, e = .returned (clV x s k ua un uc) ∧ ClN w w' R a n cap bs p q x s k ua un U := by
  obtain ⟨x2, y2, z2, rfl⟩ := h2
  obtain ⟨x3, y3, z3, rfl⟩ := h3
  have hRl := hR.c.lt
  have qp := (Cel.new w [.int .i64 cl, .slice ad N c, .slice x2 y2 z2, .slice x3 y3 z3] 40).alloc (.cells #[.int .i64 0, .int .i64 0, .int .i64 0, .slice none 0 0] 25)
  have qo := Cel.new (w.alloc (.cells #[.int .i64 cl, .slice ad N c, .slice x2 y2 z2, .slice x3 y3 z3] 40)) [.int .i64 0, .int .i64 0, .int .i64 0, .slice none 0 0] 25
  rw [World.size_alloc] at qo
  have B0 := ((Below.refl w.heap.size w).alloc (Nat.le_refl _) (.cells #[.int .i64 cl, .slice ad N c, .slice x2 y2 z2, .slice x3 y3 z3] 40)).alloc (by rw [World.size_alloc]; omega) (.cells #[.int .i64 0, .int .i64 0, .int .i64 0, .slice none 0 0] 25)
  go_enter Tryz.func16, Tryz.ntmps16
  go_wp2_with fail
  obtain ⟨W0, hW0⟩ : ∃ W, W = (w.alloc (.cells #[.int .i64 cl, .slice ad N c, .slice x2 y2 z2, .slice x3 y3 z3] 40)).alloc (.cells #[.int .i64 0, .int .i64 0, .int .i64 0, .slice none 0 0] 25) := ⟨_, rfl⟩
  have z0 : W0.heap.size = w.heap.size + 2 := by rw [hW0, World.size_alloc, World.size_alloc]
  rw [← hW0]
  rw [← hW0] at qp qo B0
  clear hW0
  have HZ0 : Hid (W0.heap.size = w.heap.size + 2) := z0
  have r0 := hR.below B0
  clear hR z0
  refine (pick_any R a n cap bs p 4 _ r0 (by omega) (by omega) (by omega) (by omega)).mono ?_
  rintro e w1 ⟨r1, r10, r11, rfl, t1, R1⟩
  go_wp2_with fail
  refine (pick_any R a n cap bs (p + 1) 3 _ R1 (by omega) (by omega) (by omega) (by omega)).mono ?_
  rintro e w2 ⟨r2, r20, r21, rfl, t2, R2⟩
  go_wp2_with fail
  refine (pick_any R a n cap bs (p + 1 + 1) 4 _ R2 (by omega) (by omega) (by omega) (by omega)).mono ?_
  rintro e w3 ⟨r3, r30, r31, rfl, t3, R3⟩
  go_wp2_with fail
  refine (args_gen R a n cap bs (p + 1 + 1 + 1) 99 _ R3 (by omega) (by omega) (by omega) (by omega) R3.ha).mono ?_
  rintro e w4 ⟨ua, un, uc, U, q4, rfl, d4⟩
  have u0 := d4.q0
  have u1 := d4.q1
  have u4 := d4.h4
  have lo := d4.lo
  have hi := d4.hi
  have T4 := ((t1.trans t2).trans t3).trans d4.t
  have s3 := ((t1.trans t2).trans t3).size
  have s4 := T4.size
  have al := (Below.refl w4.heap.size w4).alloc (Nat.le_refl _) (.cells #[.int .i64 r1, .int .i64 (1 + r2), .int .i64 r3, .slice ua un uc] 25)
  have s0 : CaI w R a n cap bs q4 w4.heap.size [.int .i64 cl, .slice ad N c, .slice x2 y2 z2, .slice x3 y3 z3] r1 (1 + r2) r3 ua un uc U (w4.alloc (.cells #[.int .i64 r1, .int .i64 (1 + r2), .int .i64 r3, .slice ua un uc] 25)) :=
    ⟨((Touch.of B0).trans T4).trans (Touch.of al), d4.r.below al, Cel.new w4 _ _, (qp.touch T4 (by omega)).below al, (qo.touch T4 (by omega)).below al, d4.i.below al, by have := HZ0.out; omega, hRl, ha, fun b o e => by (have := lo b o e; have := hi b o e; have := HZ0.out; omega), u4, by omega, by omega, by omega⟩
  obtain ⟨cb, hcb⟩ : ∃ x, x = w4.heap.size := ⟨_, rfl⟩
  obtain ⟨W5, hW5⟩ : ∃ W, W = w4.alloc (.cells #[.int .i64 r1, .int .i64 (1 + r2), .int .i64 r3, .slice ua un uc] 25) := ⟨_, rfl⟩
  rw [← hcb, ← hW5] at s0
  have gp := s0.p.cell 0
  simp only [List.getElem?_cons_zero] at gp
  go_upto_region 2 with fail
  rw [← hcb, ← hW5]
  clear hcb hW5 T4 d4 al qp qo B0 t1 t2 t3 R1 R2 R3 r0 s3 s4 lo hi
  go_upto_if 20 with fail
  clear gp
  go_cut [] (fun wx => ∃ x, CaI w R a n cap bs q4 cb [.int .i64 cl, .slice ad N c, .slice x2 y2 z2, .slice x3 y3 z3] x (1 + r2) r3 ua un uc U wx)
  case first =>
    by_cases hcl : 0 < cl
    · have c0 := s0.c.cell 0
      have p0 := s0.p.cell 0
      have f0 := s0.c.free 0
      have lt0 := s0.c.lt
      simp only [List.getElem?_cons_zero] at c0 p0
      have hne : cl ≠ 0 := by omega
      have s1 := s0.set0 (emod_in (r := r1) (c := cl) (by omega) (by omega) hcl)
      clear s0
      go_wp2
      go_meet
      case rel => exact ⟨_, s1⟩
    · go_wp2
      go_meet
      case rel => exact ⟨_, s0⟩
  case rest =>
    obtain ⟨x, s1⟩ := hcut
    have gp := s1.p.cell 1
    simp only [List.getElem?_cons_zero, List.getElem?_cons_succ] at gp
    clear s0
    go_upto_if 30 with fail
    clear gp
    go_cut [] (fun wx => ∃ k, CaI w R a n cap bs q4 cb [.int .i64 cl, .slice ad N c, .slice x2 y2 z2, .slice x3 y3 z3] x (1 + r2) k ua un uc U wx)
    case first =>
      by_cases hn : 0 < N
      · have hn' : (0 : Int) < (N : Int) := by omega
        have hn0 : (N : Int) ≠ 0 := by omega
        have c0 := s1.c.cell 2
        have p0 := s1.p.cell 1
        have f0 := s1.c.free 2
        have lt0 := s1.c.lt
        simp only [List.getElem?_cons_zero, List.getElem?_cons_succ] at c0 p0
        have s2 := s1.set2 (emod_in (r := r3) (c := (N : Int)) (by omega) (by omega) hn')
        clear s1
        go_wp2
        go_meet
        case rel => exact ⟨_, s2⟩
      · have hn' : ¬ (0 : Int) < (N : Int) := by omega
        go_wp2
        go_meet
        case rel => exact ⟨_, s1⟩
    case rest =>
      clear s1
      obtain ⟨k, s1⟩ := hcut
      go_wp2_with fail
      refine (pick_any R a n cap bs q4 M _ s1.r (by omega) (by omega) (by omega) (by omega)).mono ?_
      rintro e w6 ⟨u, v0, v1, rfl, t6, R6⟩
      replace s1 := s1.pick t6 R6
      clear t6 R6
      by_cases hu : 0 < u
      · have c0 := s1.c.cell 0
        have c1 := s1.c.cell 1
        have c2 := s1.c.cell 2
        have c3 := s1.c.cell 3
        have g0 := s1.o.cell 0
        have g1 := s1.o.cell 1
        have g2 := s1.o.cell 2
        have g3 := s1.o.cell 3
        have k0 := s1.o.free 0
        have k1 := s1.o.free 1
        have k2 := s1.o.free 2
        have k3 := s1.o.free 3
        have kl := s1.o.lt
        simp only [List.getElem?_cons_zero, List.getElem?_cons_succ] at c0 c1 c2 c3 g0 g1 g2 g3
        go_wp2
        exact bodyPost_ret (v := clV x (1 + r2) k ua un uc) (by simp [results, Tryz.results16, go_sem, g0, g1, g2, g3]) rfl ⟨_, _, _, _, _, _, U, q4 + 1, rfl, s1.fin (by omega) (by omega) _ _ _ _⟩
      · obtain rfl : u = 0 := by omega
        clear hu v0 v1
        go_wp2_with fail
        refine (pick_any R a n cap bs (q4 + 1) 4 _ s1.r (by omega) (by omega) (by omega) (by omega)).mono ?_
        rintro e w7 ⟨m, m0, m1, rfl, t7, R7⟩
        replace s1 := s1.pick t7 R7
        clear t7 R7
        rcases (show m = 0 ∨ m = 1 ∨ m = 2 ∨ m = 3 from by omega) with rfl | rfl | rfl | rfl
        · have al := (Below.refl w7.heap.size w7).alloc (Nat.le_refl _) (.cells #[.int .i64 (-1), .int .i64 4, .int .i64 3] 3)
          have lb := Cel.new w7 [.int .i64 (-1), .int .i64 4, .int .i64 3] 3
          have s2 := s1.below al
          have nl : w7.heap.size ≠ R := by have h1 := s1.hR; have h2 := s1.t.size; omega
          have zc := s1.c.lt
          clear s1 al
          go_wp2_with fail
          refine (pick_any R a n cap bs (q4 + 1 + 1) 3 _ s2.r (by omega) (by omega) (by omega) (by omega)).mono ?_
          rintro e w8 ⟨j, j0, j1, rfl, t8, R8⟩
          obtain ⟨j, rfl⟩ := Int.eq_ofNat_of_zero_le j0
          have hj : j < 3 := by omega
          have hj' : (j : Int) < 3 := by omega
          replace s2 := s2.pick t8 R8
          replace lb := lb.touch t8 nl
          clear t8 R8 j0 j1
          have hc := lit_cell (xs := [-1, 4, 3]) lb hj
          have hy := (lit3c j hj).1
          generalize ([-1, 4, 3] : List Int)[j]?.getD 0 = y at hc hy
          have s3 := s2.set0 hy
          have e0 := s2.c.cell 0
          have f0 := s2.c.free 0
          have lt := s2.c.lt
          simp only [List.getElem?_cons_zero] at e0
          clear s2 lb
          go_upto_region 16 with fail
          clear hc e0 f0 lt
          have c0 := s3.c.cell 0
          have c1 := s3.c.cell 1
          have c2 := s3.c.cell 2
          have c3 := s3.c.cell 3
          have g0 := s3.o.cell 0
          have g1 := s3.o.cell 1
          have g2 := s3.o.cell 2
          have g3 := s3.o.cell 3
          have k0 := s3.o.free 0
          have k1 := s3.o.free 1
          have k2 := s3.o.free 2
          have k3 := s3.o.free 3
          have kl := s3.o.lt
          simp only [List.getElem?_cons_zero, List.getElem?_cons_succ] at c0 c1 c2 c3 g0 g1 g2 g3
          go_wp2
          exact bodyPost_ret (v := clV y (1 + r2) k ua un uc) (by simp [results, Tryz.results16, go_sem, g0, g1, g2, g3]) rfl ⟨_, _, _, _, _, _, U, q4 + 1 + 1 + 1, rfl, s3.fin (by omega) (by omega) _ _ _ _⟩
        · have al := (Below.refl w7.heap.size w7).alloc (Nat.le_refl _) (.cells #[.int .i64 0, .int .i64 300, .int .i64 301] 3)
          have lb := Cel.new w7 [.int .i64 0, .int .i64 300, .int .i64 301] 3
          have s2 := s1.below al
          have nl : w7.heap.size ≠ R := by have h1 := s1.hR; have h2 := s1.t.size; omega
          have zc := s1.c.lt
          clear s1 al
          go_wp2_with fail
          refine (pick_any R a n cap bs (q4 + 1 + 1) 3 _ s2.r (by omega) (by omega) (by omega) (by omega)).mono ?_
          rintro e w8 ⟨j, j0, j1, rfl, t8, R8⟩
          obtain ⟨j, rfl⟩ := Int.eq_ofNat_of_zero_le j0
          have hj : j < 3 := by omega
          have hj' : (j : Int) < 3 := by omega
          replace s2 := s2.pick t8 R8
          replace lb := lb.touch t8 nl
          clear t8 R8 j0 j1
          have hc := lit_cell (xs := [0, 300, 301]) lb hj
          have hy := (lit3c j hj).2
          generalize ([0, 300, 301] : List Int)[j]?.getD 0 = y at hc hy
          have s3 := s2.set1 hy
          have e1 := s2.c.cell 1
          have f1 := s2.c.free 1
          have lt := s2.c.lt
          simp only [List.getElem?_cons_zero, List.getElem?_cons_succ] at e1
          clear s2 lb
          go_upto_region 16 with fail
          clear hc e1 f1 lt
          have c0 := s3.c.cell 0
          have c1 := s3.c.cell 1
          have c2 := s3.c.cell 2
          have c3 := s3.c.cell 3
          have g0 := s3.o.cell 0
          have g1 := s3.o.cell 1
          have g2 := s3.o.cell 2
          have g3 := s3.o.cell 3
          have k0 := s3.o.free 0
          have k1 := s3.o.free 1
          have k2 := s3.o.free 2
          have k3 := s3.o.free 3
          have kl := s3.o.lt
          simp only [List.getElem?_cons_zero, List.getElem?_cons_succ] at c0 c1 c2 c3 g0 g1 g2 g3
          go_wp2
          exact bodyPost_ret (v := clV x y k ua un uc) (by simp [results, Tryz.results16, go_sem, g0, g1, g2, g3]) rfl ⟨_, _, _, _, _, _, U, q4 + 1 + 1 + 1, rfl, s3.fin (by omega) (by omega) _ _ _ _⟩
        · have al := (Below.refl w7.heap.size w7).alloc (Nat.le_refl _) (.cells #[.int .i64 (-1), .int .i64 4, .int .i64 3] 3)
          have lb := Cel.new w7 [.int .i64 (-1), .int .i64 4, .int .i64 3] 3
          have s2 := s1.below al
          have nl : w7.heap.size ≠ R := by have h1 := s1.hR; have h2 := s1.t.size; omega
          have zc := s1.c.lt
          clear s1 al
          go_wp2_with fail
          refine (pick_any R a n cap bs (q4 + 1 + 1) 3 _ s2.r (by omega) (by omega) (by omega) (by omega)).mono ?_
          rintro e w8 ⟨j, j0, j1, rfl, t8, R8⟩
          obtain ⟨j, rfl⟩ := Int.eq_ofNat_of_zero_le j0
          have hj : j < 3 := by omega
          have hj' : (j : Int) < 3 := by omega
          replace s2 := s2.pick t8 R8
          replace lb := lb.touch t8 nl
          clear t8 R8 j0 j1
          have hc := lit_cell (xs := [-1, 4, 3]) lb hj
          have hy := (lit3c j hj).1
          generalize ([-1, 4, 3] : List Int)[j]?.getD 0 = y at hc hy
          have s3 := s2.set2 hy
          have e2 := s2.c.cell 2
          have f2 := s2.c.free 2
          have lt := s2.c.lt
          simp only [List.getElem?_cons_zero, List.getElem?_cons_succ] at e2
          clear s2 lb
          go_upto_region 16 with fail
          clear hc e2 f2 lt
          have c0 := s3.c.cell 0
          have c1 := s3.c.cell 1
          have c2 := s3.c.cell 2
          have c3 := s3.c.cell 3
          have g0 := s3.o.cell 0
          have g1 := s3.o.cell 1
          have g2 := s3.o.cell 2
          have g3 := s3.o.cell 3
          have k0 := s3.o.free 0
          have k1 := s3.o.free 1
          have k2 := s3.o.free 2
          have k3 := s3.o.free 3
          have kl := s3.o.lt
          simp only [List.getElem?_cons_zero, List.getElem?_cons_succ] at c0 c1 c2 c3 g0 g1 g2 g3
          go_wp2
          exact bodyPost_ret (v := clV x (1 + r2) y ua un uc) (by simp [results, Tryz.results16, go_sem, g0, g1, g2, g3]) rfl ⟨_, _, _, _, _, _, U, q4 + 1 + 1 + 1, rfl, s3.fin (by omega) (by omega) _ _ _ _⟩
        · go_wp2_with fail
          refine (args_gen R a n cap bs (q4 + 1 + 1) 1 _ s1.r (by omega) (by omega) (by omega) (by omega) s1.r.ha).mono ?_
          rintro e w8 ⟨ua2, un2, uc2, U2, q8, rfl, d8⟩
          have y0 := d8.q0
          have y1 := d8.q1
          have y4 := d8.h4
          have s2 := s1.pick d8.t d8.r
          have lo := d8.lo
          have i8 := d8.i
          have c3 := s2.c.cell 3
          have f3 := s2.c.free 3
          have l3 := s2.c.lt
          have l7 := s1.c.lt
          have h2 := s2.hR
          have h3 := s2.hc
          simp only [List.getElem?_cons_zero, List.getElem?_cons_succ] at c3
          have s4 : CaI w R a n cap bs q8 cb [.int .i64 cl, .slice ad N c, .slice x2 y2 z2, .slice x3 y3 z3] x (1 + r2) k ua2 un2 uc2 U2 (w8.setCell ⟨cb, 3, none⟩ (.slice ua2 un2 uc2)) :=
            ⟨s2.t.setNewF (by omega) 3 _, s2.r.setNew (by omega) (fun h0 b o e => by have := s2.ha h0 b o e; omega) 3 _, s2.c.set 3 _, s2.p.setOther (by omega) 3 _, s2.o.setOther (by omega) 3 _, i8.setFar (fun b o e => by have := lo b o e; omega) 3 _, s2.hc, s2.hR, s2.ha, fun b o e => by (have := lo b o e; omega), y4, s2.bx, s2.bk, s2.bs'⟩
          clear d8 s1 s2 i8
          go_upto_region 16 with fail
          clear c3 f3 l3 l7
          have c0 := s4.c.cell 0
          have c1 := s4.c.cell 1
          have c2 := s4.c.cell 2
          have c3 := s4.c.cell 3
          have g0 := s4.o.cell 0
          have g1 := s4.o.cell 1
          have g2 := s4.o.cell 2
          have g3 := s4.o.cell 3
          have k0 := s4.o.free 0
          have k1 := s4.o.free 1
          have k2 := s4.o.free 2
          have k3 := s4.o.free 3
          have kl := s4.o.lt
          simp only [List.getElem?_cons_zero, List.getElem?_cons_succ] at c0 c1 c2 c3 g0 g1 g2 g3
          go_wp2
          exact bodyPost_ret (v := clV x (1 + r2) k ua2 un2 uc2) (by simp [results, Tryz.results16, go_sem, g0, g1, g2, g3]) rfl ⟨_, _, _, _, _, _, U2, q8, rfl, s4.fin (by omega) (by omega) _ _ _ _⟩

end Go.Proofs.YtficjagpbjecjaaGreatDoor
