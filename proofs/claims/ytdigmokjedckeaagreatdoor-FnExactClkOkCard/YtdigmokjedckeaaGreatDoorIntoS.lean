/-
  A form in which each pot is a form itself, as the first text reckons it.
-/
import Derived.Test.YtdigmokjedckeaaGreatDoorInto
import Derived.Deep.AppendLies
namespace Go.Proofs.YtdigmokjedckeaaGreatDoor
open Go.RowKit
set_option linter.unusedVariables false
set_option maxRecDepth 100000

theorem lin_bnd {M P n : Int} {xs ys : List Int} {k : Nat} (h1 : xs.length = k) (h2 : ys.length = k) (hx : bnd M xs) (hy : bndT P n ys) (h0 : 0 ≤ M + P) : bnd (M + P) (lin xs ys n) := by
  intro i
  by_cases hi : i < k
  · rw [lin_get h1 h2 hi]
    have := hx i
    have := hy i
    omega
  · have : (lin xs ys n)[i]? = none := List.getElem?_eq_none (by rw [lin_len h1 h2]; omega)
    rw [this]
    simp only [Option.getD_none]
    omega
theorem mul_bnd {x y : Int} (a1 : -10000000 ≤ x) (a2 : x ≤ 10000000) (h1 : -10000000 ≤ y) (h2 : y ≤ 10000000) : -100000000000000 ≤ x * y ∧ x * y ≤ 100000000000000 := by
  have hx' : x.natAbs ≤ 10000000 := by omega
  have hy' : y.natAbs ≤ 10000000 := by omega
  have hm : (x * y).natAbs ≤ 10000000 * 10000000 := by rw [Int.natAbs_mul]; exact Nat.mul_le_mul hx' hy'
  omega
theorem mulT_bnd {C : List Int} {k : Int} (h : bnd 10000000 C) (h1 : -10000000 ≤ k) (h2 : k ≤ 10000000) : bndT 100000000000000 k C := by
  intro i
  have := h i
  exact mul_bnd h1 h2 this.1 this.2

/-- What is known of a form that is ok. -/
structure OkF (g : FV) : Prop where
  n : g.n = 3
  m : g.m = 2
  lC : g.C.length = 3
  lD : g.D.length = 2
  bC : bnd 10000000 g.C
  bD : bnd 10000000 g.D
  k1 : -10000000 ≤ g.K
  k2 : g.K ≤ 10000000
theorem OkF.of {g : FV} {w : World} (h : g.At w) (ok : g.ok = true) : OkF g := by
  obtain ⟨n3, m2, bC, bD, bK1, bK2⟩ := formB_elim ok
  exact ⟨n3, m2, by have := h.C.1; omega, by have := h.D.1; omega, bC, bD, bK1, bK2⟩

structure IntoF (C D : List Int) (K : Int) (fs : List FV) (k : Nat) : Prop where
  lC : (intoC C fs k).length = 3
  lD : (intoD C D fs k).length = 2
  bC : bnd (k * 100000000000000) (intoC C fs k)
  bD : bnd (10000000 + k * 100000000000000) (intoD C D fs k)
  k1 : -(10000000 + k * 100000000000000) ≤ intoK C K fs k
  k2 : intoK C K fs k ≤ 10000000 + k * 100000000000000
theorem IntoF.of {C D : List Int} {K : Int} {fs : List FV} (hD : D.length = 2) (bC : bnd 10000000 C) (bD : bnd 10000000 D) (k1 : -10000000 ≤ K) (k2 : K ≤ 10000000) (ho : ∀ i, i < 3 → OkF (fs[i]?.getD noFV)) : ∀ k : Nat, k ≤ 3 → IntoF C D K fs k
  | 0, _ => ⟨rfl, hD, by simpa [intoC] using bnd_zeros 3, by simpa [intoD] using bD, by simpa [intoK] using k1, by simpa [intoK] using k2⟩
  | k + 1, hk => by
    have ih := IntoF.of hD bC bD k1 k2 ho k (by omega)
    have g := ho k (by omega)
    have bc := bC k
    have e : ((k + 1 : Nat) : Int) = k + 1 := by omega
    have tC := mulT_bnd g.bC bc.1 bc.2
    have tD := mulT_bnd g.bD bc.1 bc.2
    have tK := mul_bnd bc.1 bc.2 g.k1 g.k2
    have i1 := ih.k1
    have i2 := ih.k2
    refine ⟨lin_len ih.lC g.lC, lin_len ih.lD g.lD, ?_, ?_, ?_, ?_⟩
    · have := lin_bnd ih.lC g.lC ih.bC tC (by omega)
      intro i
      have := this i
      simp only [intoC]
      omega
    · have := lin_bnd ih.lD g.lD ih.bD tD (by omega)
      intro i
      have := this i
      simp only [intoD]
      omega
    · simp only [intoK]; omega
    · simp only [intoK]; omega

/-- Whether the form that comes is ok, and all that it is made of. -/
def intoOk (n m : Nat) (C D : List Int) (K : Int) (N : Nat) (fs : List FV) : Bool := formB n m C D K && decide (N = 3) && fs.all FV.ok && formB 3 2 (intoC C fs 3) (intoD C D fs 3) (intoK C K fs 3)

/-- A call's box for a form, its result's room, old memory. -/
structure IH (w : World) (a : Option Addr) (n cap : Nat) (c : Option Addr) (m cap' : Nat) (K : Int) (w' : World) : Prop where
  p : Cel w' w.heap.size [.slice a n cap, .slice c m cap', .int .i64 K] 98
  r : Cel w' (w.heap.size + 1) [.slice none 0 0, .slice none 0 0, .int .i64 0] 98
  b : Below w.heap.size w w'
section
variable {w W w3 : World} {a c : Option Addr} {n cap m cap' : Nat} {K : Int}
theorem IH.below (h : IH w a n cap c m cap' K W) (b : Below W.heap.size W w3) : IH w a n cap c m cap' K w3 := ⟨h.p.below b, h.r.below b, h.b.trans (b.mono h.b.size)⟩
theorem IH.drew (h : IH w a n cap c m cap' K W) : IH w a n cap c m cap' K W.drew := ⟨h.p, h.r, h.b.drew⟩
theorem IH.alloc (h : IH w a n cap c m cap' K W) (o : Obj) : IH w a n cap c m cap' K (W.alloc o) := h.below ((Below.refl _ _).alloc (Nat.le_refl _) _)
theorem IH.set (h : IH w a n cap c m cap' K W) {X : Nat} (hX : w.heap.size + 1 < X) (i : Nat) (v : Value) : IH w a n cap c m cap' K (W.setCell ⟨X, i, none⟩ v) :=
  ⟨h.p.setOther (by omega) i v, h.r.setOther (by omega) i v, h.b.setCell (by show w.heap.size ≤ X; omega) v⟩
theorem IH.new : IH w a n cap c m cap' K ((w.alloc (Obj.cells #[Value.slice a n cap, Value.slice c m cap', Value.int IntKind.i64 K] 98)).alloc (Obj.cells #[Value.slice none 0 0, Value.slice none 0 0, Value.int IntKind.i64 0] 98)) :=
  ⟨(Cel.new w _ _).alloc _, by have := Cel.new (w.alloc (Obj.cells #[Value.slice a n cap, Value.slice c m cap', Value.int IntKind.i64 K] 98)) [.slice none 0 0, .slice none 0 0, .int .i64 0] 98; rw [World.size_alloc] at this; exact this, ((Below.refl _ _).alloc (Nat.le_refl _) _).alloc (by simp) _⟩
theorem IH.cells (h : IH w a n cap c m cap' K W) :
    W.cell? ⟨w.heap.size, 0, none⟩ = some (.slice a n cap) ∧ W.cell? ⟨w.heap.size, 1, none⟩ = some (.slice c m cap') ∧ W.cell? ⟨w.heap.size, 2, none⟩ = some (.int .i64 K) := ⟨h.p.cell 0, h.p.cell 1, h.p.cell 2⟩
theorem IH.room (h : IH w a n cap c m cap' K W) :
    W.cell? ⟨w.heap.size + 1, 0, none⟩ = some (.slice none 0 0) ∧ W.cell? ⟨w.heap.size + 1, 1, none⟩ = some (.slice none 0 0) ∧ W.cell? ⟨w.heap.size + 1, 2, none⟩ = some (.int .i64 0) ∧ W.frozen? ⟨w.heap.size + 1, 0, none⟩ = false ∧ W.frozen? ⟨w.heap.size + 1, 1, none⟩ = false ∧ W.frozen? ⟨w.heap.size + 1, 2, none⟩ = false := ⟨h.r.cell 0, h.r.cell 1, h.r.cell 2, h.r.free 0, h.r.free 1, h.r.free 2⟩
theorem IH.none (h : IH w a n cap c m cap' K W) : Res w (((W.setCell ⟨w.heap.size + 1, 0, Option.none⟩ (.slice Option.none 0 0)).setCell ⟨w.heap.size + 1, 1, Option.none⟩ (.slice Option.none 0 0)).setCell ⟨w.heap.size + 1, 2, Option.none⟩ (.int .i64 0)) (.returned (formV Option.none 0 0 Option.none 0 0 0)) [] [] 0 :=
  Res.none rfl (((h.b.setCell (by simp only []; omega) _).setCell (by simp only []; omega) _).setCell (by simp only []; omega) _)
end

set_option maxHeartbeats 1600000 in
theorem sinto_no (a : Option Addr) (n cap : Nat) (c : Option Addr) (m cap' : Nat) (K : Int) (C D : List Int) (ad : Option Addr) (N capN : Nat) (fs : List FV) (w : World) (hC : Ints w a n C) (hD : Ints w c m D) (hn : n ≤ 1048576) (hm : m ≤ 1048576)
    (hN : fs.length = N) (hF : FormsG w ad fs) (hN1 : N ≤ 1048576) (hno : (formB n m C D K && decide (N = 3) && fs.all FV.ok) = false) :
    Calls Tryz.prog 124 #[formV a n cap c m cap' K, .slice ad N capN] w fun e w' => Res w w' e [] [] 0 := by
  have n0 := IH.new (w := w) (a := a) (n := n) (cap := cap) (c := c) (m := m) (cap' := cap') (K := K)
  have HN : Hid (fs.length = N) := hN
  clear hN
  cases h1 : formB n m C D K
  · clear hno
    go_enter Tryz.func124, Tryz.ntmps124
    go_wp2_with fail
    refine (sok_any _ _ _ _ _ _ _ C D _ (hC.below n0.b) (hD.below n0.b) hn hm).mono ?_
    rintro e w1 ⟨rfl, b1⟩
    have H := n0.below b1
    obtain ⟨r0, r1, r2, r3, r4, r5⟩ := H.room
    go_wp2
    exact bodyPost_ret (v := formV none 0 0 none 0 0 0) (by simp [results, Tryz.results124, go_sem, r0, r1, r2]) rfl H.none
  · by_cases h2 : (N : Int) = 3
    · obtain rfl : N = 3 := by omega
      have hno' : fs.all FV.ok = false := by simpa [h1] using hno
      clear hno h2
      have f0 := hF 0 (by rw [HN.out]; omega)
      have f1 := hF 1 (by rw [HN.out]; omega)
      have f2 := hF 2 (by rw [HN.out]; omega)
      obtain ⟨b, off, rfl, p0, p1, p2, A0⟩ := f0
      obtain ⟨b', off', hb', q0, q1, q2, A1⟩ := f1
      simp only [Option.some.injEq, Addr.mk.injEq, and_true] at hb'
      obtain ⟨rfl, rfl⟩ := hb'
      obtain ⟨b', off', hb', r0, r1, r2, A2⟩ := f2
      simp only [Option.some.injEq, Addr.mk.injEq, and_true] at hb'
      obtain ⟨rfl, rfl⟩ := hb'
      have hor : (fs[0]?.getD noFV).ok = false ∨ (fs[1]?.getD noFV).ok = false ∨ (fs[2]?.getD noFV).ok = false := by
        match fs, HN.out with
        | [x, y, z], _ =>
          simp only [List.all_cons, List.all_nil, Bool.and_true] at hno'
          simp only [List.getElem?_cons_zero, List.getElem?_cons_succ, Option.getD_some]
          revert hno'
          cases x.ok <;> cases y.ok <;> cases z.ok <;> simp
      generalize fs[0]?.getD noFV = x at *
      generalize fs[1]?.getD noFV = y at *
      generalize fs[2]?.getD noFV = z at *
      obtain ⟨xa, xn, xcap, xc, xm, xcap', xK, xC, xD⟩ := x
      obtain ⟨ya, yn, ycap, yc, ym, ycap', yK, yC, yD⟩ := y
      obtain ⟨za, zn, zcap, zc, zm, zcap', zK, zC, zD⟩ := z
      obtain ⟨x1, x2, x3, x4⟩ := A0
      obtain ⟨y1, y2, y3, y4⟩ := A1
      obtain ⟨z1, z2, z3, z4⟩ := A2
      simp only [FV.ok] at p0 p1 p2 q0 q1 q2 r0 r1 r2 hor x1 x2 x3 x4 y1 y2 y3 y4 z1 z2 z3 z4
      have lb := block_lt p0
      have nb := n0.b
      clear hF hno'
      rw [Nat.zero_mul, Nat.add_zero] at p0 p1 p2
      rw [Nat.one_mul] at q0 q1 q2
      have e6 : off + 2 * 3 = off + 6 := rfl
      rw [e6] at r0 r1 r2
      cases hx : formB xn xm xC xD xK
      · go_enter Tryz.func124, Tryz.ntmps124
        go_wp2_with fail
        refine (sok_any _ _ _ _ _ _ _ C D _ (hC.below n0.b) (hD.below n0.b) hn hm).mono ?_
        rintro e w1 ⟨rfl, b1⟩
        have H1 := n0.below b1
        have s0 := (H1.b.cell (p := ⟨b, off, none⟩) lb).trans p0
        have s1 := (H1.b.cell (p := ⟨b, off + 1, none⟩) lb).trans p1
        have s2 := (H1.b.cell (p := ⟨b, off + 2, none⟩) lb).trans p2
        go_wp2_with fail
        refine (sok_any _ _ _ _ _ _ _ xC xD _ (x1.below H1.b) (x2.below H1.b) x3 x4).mono ?_
        rintro e w2 ⟨rfl, b2⟩
        have H2 := H1.below b2
        obtain ⟨g0, g1, g2, g3, g4, g5⟩ := H2.room
        go_wp2
        exact bodyPost_ret (v := formV none 0 0 none 0 0 0) (by simp [results, Tryz.results124, go_sem, g0, g1, g2]) rfl H2.none
      · cases hy : formB yn ym yC yD yK
        · go_enter Tryz.func124, Tryz.ntmps124
          go_wp2_with fail
          refine (sok_any _ _ _ _ _ _ _ C D _ (hC.below n0.b) (hD.below n0.b) hn hm).mono ?_
          rintro e w1 ⟨rfl, b1⟩
          have H1 := n0.below b1
          have s0 := (H1.b.cell (p := ⟨b, off, none⟩) lb).trans p0
          have s1 := (H1.b.cell (p := ⟨b, off + 1, none⟩) lb).trans p1
          have s2 := (H1.b.cell (p := ⟨b, off + 2, none⟩) lb).trans p2
          go_wp2_with fail
          refine (sok_any _ _ _ _ _ _ _ xC xD _ (x1.below H1.b) (x2.below H1.b) x3 x4).mono ?_
          rintro e w2 ⟨rfl, b2⟩
          have H2 := H1.below b2
          have t0 := (H2.b.cell (p := ⟨b, off + 3, none⟩) lb).trans q0
          have t1 := (H2.b.cell (p := ⟨b, off + 3 + 1, none⟩) lb).trans q1
          have t2 := (H2.b.cell (p := ⟨b, off + 3 + 2, none⟩) lb).trans q2
          go_wp2_with fail
          refine (sok_any _ _ _ _ _ _ _ yC yD _ (y1.below H2.b) (y2.below H2.b) y3 y4).mono ?_
          rintro e w3 ⟨rfl, b3⟩
          have H3 := H2.below b3
          obtain ⟨g0, g1, g2, g3, g4, g5⟩ := H3.room
          go_wp2
          exact bodyPost_ret (v := formV none 0 0 none 0 0 0) (by simp [results, Tryz.results124, go_sem, g0, g1, g2]) rfl H3.none
        · have hz : formB zn zm zC zD zK = false := by simpa [hx, hy] using hor
          go_enter Tryz.func124, Tryz.ntmps124
          go_wp2_with fail
          refine (sok_any _ _ _ _ _ _ _ C D _ (hC.below n0.b) (hD.below n0.b) hn hm).mono ?_
          rintro e w1 ⟨rfl, b1⟩
          have H1 := n0.below b1
          have s0 := (H1.b.cell (p := ⟨b, off, none⟩) lb).trans p0
          have s1 := (H1.b.cell (p := ⟨b, off + 1, none⟩) lb).trans p1
          have s2 := (H1.b.cell (p := ⟨b, off + 2, none⟩) lb).trans p2
          go_wp2_with fail
          refine (sok_any _ _ _ _ _ _ _ xC xD _ (x1.below H1.b) (x2.below H1.b) x3 x4).mono ?_
          rintro e w2 ⟨rfl, b2⟩
          have H2 := H1.below b2
          have t0 := (H2.b.cell (p := ⟨b, off + 3, none⟩) lb).trans q0
          have t1 := (H2.b.cell (p := ⟨b, off + 3 + 1, none⟩) lb).trans q1
          have t2 := (H2.b.cell (p := ⟨b, off + 3 + 2, none⟩) lb).trans q2
          go_wp2_with fail
          refine (sok_any _ _ _ _ _ _ _ yC yD _ (y1.below H2.b) (y2.below H2.b) y3 y4).mono ?_
          rintro e w3 ⟨rfl, b3⟩
          have H3 := H2.below b3
          have u0 := (H3.b.cell (p := ⟨b, off + 6, none⟩) lb).trans r0
          have u1 := (H3.b.cell (p := ⟨b, off + 6 + 1, none⟩) lb).trans r1
          have u2 := (H3.b.cell (p := ⟨b, off + 6 + 2, none⟩) lb).trans r2
          go_wp2_with fail
          refine (sok_any _ _ _ _ _ _ _ zC zD _ (z1.below H3.b) (z2.below H3.b) z3 z4).mono ?_
          rintro e w4 ⟨rfl, b4⟩
          have H4 := H3.below b4
          obtain ⟨g0, g1, g2, g3, g4, g5⟩ := H4.room
          go_wp2
          exact bodyPost_ret (v := formV none 0 0 none 0 0 0) (by simp [results, Tryz.results124, go_sem, g0, g1, g2]) rfl H4.none
    · clear hno
      have h2' : ((N : Int) != 3) = true := by simpa using h2
      go_enter Tryz.func124, Tryz.ntmps124
      go_wp2_with fail
      refine (sok_any _ _ _ _ _ _ _ C D _ (hC.below n0.b) (hD.below n0.b) hn hm).mono ?_
      rintro e w1 ⟨rfl, b1⟩
      have H := n0.below b1
      obtain ⟨r0, r1, r2, r3, r4, r5⟩ := H.room
      go_wp2
      exact bodyPost_ret (v := formV none 0 0 none 0 0 0) (by simp [results, Tryz.results124, go_sem, r0, r1, r2]) rfl H.none

end Go.Proofs.YtdigmokjedckeaaGreatDoor
