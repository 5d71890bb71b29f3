/-
  Lemmas that the claim's last text rests on.
-/
import Derived.Deep.RegionLawGrows
import Derived.Test.YtemcinobgdphnaaGreatQLH
namespace Go.Proofs.YtemcinobgdphnaaGreat
open Go.RowKit
open Option.some renaming injEq → qA
open Addr.mk renaming injEq → qB
open World renaming size_alloc → qC
set_option linter.unusedVariables false
set_option maxRecDepth 100000
set_option maxHeartbeats 25600000
variable {D : List Int} {W : World} {n : Nat}
theorem lin_bnd {M P n : Int} {xs ys : List Int} {k : Nat} (h1 : xs.length = k) (h2 : ys.length = k) (hx : bnd M xs) (hy : bndT P n ys) (h0 : 0 <= M + P) : bnd (M + P) (lin xs ys n) := by
 intro i
 by_cases hi : i < k
 ·rw [lin_get h1 h2 hi];have := hx i;have := hy i
  omega
 have : (lin xs ys n)[i]? = none := List.getElem?_eq_none (by rw [lin_len h1 h2]; omega);rw [this];simp only [Option.getD_none]
 omega
theorem mul_bnd {x y : Int} (a1 : -10000000 <= x) (a2 : x <= 10000000) (h1 : -10000000 <= y) (h2 : y <= 10000000) : -100000000000000 <= x * y /\ x * y <= 100000000000000 := by
 have hx' : x.natAbs <= 10000000 := by omega
 have hy' : y.natAbs <= 10000000 := by omega
 have hm : (x * y).natAbs <= 10000000 * 10000000 := by rw [Int.natAbs_mul]; exact Nat.mul_le_mul hx' hy'
 omega
theorem mulT_bnd {C : List Int} {k : Int} (h : bnd 10000000 C) (h1 : -10000000 <= k) (h2 : k <= 10000000) : bndT 100000000000000 k C := by
 intro i;have := h i
 exact mul_bnd h1 h2 this.1 this.2
structure OkF (g : FV) : Prop where
 n : g.n = 3
 m : g.m = 2
 lC : g.C.length = 3
 lD : g.D.length = 2
 bC : bnd 10000000 g.C
 bD : bnd 10000000 g.D
 k1 : -10000000 <= g.K
 k2 : g.K <= 10000000
theorem OkF.of {g : FV} {w : World} (h : g.At w) (ok : g.ok = true) : OkF g := by
 obtain ⟨n3, m2, bC, bD, bK1, bK2⟩ := formB_elim ok
 exact ⟨n3, m2, by have := h.C.1; omega, by have := h.D.1; omega, bC, bD, bK1, bK2⟩
structure IntoF (C D : List Int) (K : Int) (fs : List FV) (k : Nat) : Prop where
 lC : (intoC C fs k).length = 3
 lD : (intoD C D fs k).length = 2
 bC : bnd (k * 100000000000000) (intoC C fs k)
 bD : bnd (10000000 + k * 100000000000000) (intoD C D fs k)
 k1 : -(10000000 + k * 100000000000000) <= intoK C K fs k
 k2 : intoK C K fs k <= 10000000 + k * 100000000000000
theorem IntoF.of {C : List Int} {K : Int} {fs : List FV} (hD : D.length = 2) (bC : bnd 10000000 C) (bD : bnd 10000000 D) (k1 : -10000000 <= K) (k2 : K <= 10000000) (ho : ∀ i, i < 3 -> OkF (fs[i]?.getD noFV)) : ∀ k : Nat, k <= 3 -> IntoF C D K fs k
 | 0, _ => ⟨rfl, hD, by simpa [intoC] using bnd_zeros 3, by simpa [intoD] using bD, by simpa [intoK] using k1, by simpa [intoK] using k2⟩
 | k + 1, hk => by
  have ih := IntoF.of hD bC bD k1 k2 ho k (by omega);have g := ho k (by omega);have bc := bC k;have e : ((k + 1 : Nat) : Int) = k + 1 := by omega
  have tC := mulT_bnd g.bC bc.1 bc.2;have tD := mulT_bnd g.bD bc.1 bc.2;have tK := mul_bnd bc.1 bc.2 g.k1 g.k2;have i1 := ih.k1;have i2 := ih.k2;refine ⟨lin_len ih.lC g.lC, lin_len ih.lD g.lD, ?_, ?_, ?_, ?_⟩
  ·have := lin_bnd ih.lC g.lC ih.bC tC (by omega);intro i;have := this i;simp only [intoC]
   omega
  ·have := lin_bnd ih.lD g.lD ih.bD tD (by omega);intro i;have := this i;simp only [intoD]
   omega
  ·simp only [intoK]; omega
  simp only [intoK]; omega
def intoOk (n m : Nat) (C D : List Int) (K : Int) (N : Nat) (fs : List FV) : Bool := formB n m C D K && decide (N = 3) && fs.all FV.ok && formB 3 2 (intoC C fs 3) (intoD C D fs 3) (intoK C K fs 3)
structure IH (w : World) (a : Option Addr) (n cap : Nat) (c : Option Addr) (m cap' : Nat) (K : Int) (w' : World) : Prop where
 p : Cel w' w.heap.size [.slice a n cap, .slice c m cap', .int .i64 K] 86
 r : Cel w' (w.heap.size + 1) [.slice none 0 0, .slice none 0 0, .int .i64 0] 86
 b : Below w.heap.size w w'
section
variable {w W w3 : World} {a c : Option Addr} {n cap m cap' : Nat} {K : Int}
theorem IH.below (h : IH w a n cap c m cap' K W) (b : Below W.heap.size W w3) : IH w a n cap c m cap' K w3 := ⟨h.p.below b, h.r.below b, h.b.trans (b.mono h.b.size)⟩
theorem IH.drew (h : IH w a n cap c m cap' K W) : IH w a n cap c m cap' K W.drew := ⟨h.p, h.r, h.b.drew⟩
theorem IH.alloc (h : IH w a n cap c m cap' K W) (o : Obj) : IH w a n cap c m cap' K (W.alloc o) := h.below (bal)
theorem IH.set (h : IH w a n cap c m cap' K W) {X : Nat} (hX : w.heap.size + 1 < X) (i : Nat) (v : Value) : IH w a n cap c m cap' K (W.setCell ⟨X, i, none⟩ v) :=
 ⟨h.p.setOther (by omega) i v, h.r.setOther (by omega) i v, h.b.setCell (by show w.heap.size <= X; omega) v⟩
theorem IH.new : IH w a n cap c m cap' K ((w.alloc (Obj.cells #[Value.slice a n cap, Value.slice c m cap', Value.int IntKind.i64 K] 86)).alloc (Obj.cells #[Value.slice none 0 0, Value.slice none 0 0, Value.int IntKind.i64 0] 86)) :=
 ⟨(Cel.new w _ _).alloc _, by have := Cel.new (w.alloc (Obj.cells #[Value.slice a n cap, Value.slice c m cap', Value.int IntKind.i64 K] 86)) [.slice none 0 0, .slice none 0 0, .int .i64 0] 86; rw [qC] at this; exact this, (bal).alloc (by simp) _⟩
theorem IH.cells (h : IH w a n cap c m cap' K W) :
  W.cell? ⟨w.heap.size, 0, none⟩ = some (.slice a n cap) /\ W.cell? ⟨w.heap.size, 1, none⟩ = some (.slice c m cap') /\ W.cell? ⟨w.heap.size, 2, none⟩ = some (.int .i64 K) := ⟨h.p.cell 0, h.p.cell 1, h.p.cell 2⟩
theorem IH.room (h : IH w a n cap c m cap' K W) :
  W.cell? ⟨w.heap.size + 1, 0, none⟩ = some (.slice none 0 0) /\ W.cell? ⟨w.heap.size + 1, 1, none⟩ = some (.slice none 0 0) /\ W.cell? ⟨w.heap.size + 1, 2, none⟩ = some (.int .i64 0) /\ W.frozen? ⟨w.heap.size + 1, 0, none⟩ = false /\ W.frozen? ⟨w.heap.size + 1, 1, none⟩ = false /\ W.frozen? ⟨w.heap.size + 1, 2, none⟩ = false := ⟨h.r.cell 0, h.r.cell 1, h.r.cell 2, h.r.free 0, h.r.free 1, h.r.free 2⟩
theorem IH.none (h : IH w a n cap c m cap' K W) : Res w (((W.setCell ⟨w.heap.size + 1, 0, Option.none⟩ (.slice Option.none 0 0)).setCell ⟨w.heap.size + 1, 1, Option.none⟩ (.slice Option.none 0 0)).setCell ⟨w.heap.size + 1, 2, Option.none⟩ (.int .i64 0)) (.returned (formV Option.none 0 0 Option.none 0 0 0)) [] [] 0 :=
 Res.none rfl (((h.b.setCell (by simp only []; omega) _).setCell (by simp only []; omega) _).setCell (by simp only []; omega) _)
end
theorem sinto_no (a : Option Addr) (n cap : Nat) (c : Option Addr) (m cap' : Nat) (K : Int) (C D : List Int) (ad : Option Addr) (N capN : Nat) (fs : List FV) (w : World) (hC : Ints w a n C) (hD : Ints w c m D) (hn : n <= 1048576) (hm : m <= 1048576)
  (hN : fs.length = N) (hF : FormsG w ad fs) (hN1 : N <= 1048576) (hno : (formB n m C D K && decide (N = 3) && fs.all FV.ok) = false) :
  Calls Tryz.prog 147 #[formV a n cap c m cap' K, .slice ad N capN] w fun e w' => Res w w' e [] [] 0 := by
 have n0 := IH.new (w := w) (a := a) (n := n) (cap := cap) (c := c) (m := m) (cap' := cap') (K := K);have HN : Hid (fs.length = N) := hN;clear hN
 cases h1 : formB n m C D K
 ·clear hno
  go_enter Tryz.func147, Tryz.ntmps147
  go_wp2_with fail
  refine (sok_any C D (hC.below n0.b) (hD.below n0.b) hn hm).mono ?_;rintro e w1 ⟨rfl, b1⟩;have H := n0.below b1;obtain ⟨r0, r1, r2, r3, r4, r5⟩ := H.room
  go_wp2
  exact bodyPost_ret (v := formV none 0 0 none 0 0 0) (by simp [results, Tryz.results147, go_sem, r0, r1, r2]) rfl H.none
 by_cases h2 : (N : Int) = 3
 ·obtain rfl : N = 3 := by omega
  have hno' : fs.all FV.ok = false := by simpa [h1] using hno
  clear hno h2;have f0 := hF 0 (by rw [HN.out]; omega);have f1 := hF 1 (by rw [HN.out]; omega);have f2 := hF 2 (by rw [HN.out]; omega);obtain ⟨b, off, rfl, p0, p1, p2, A0⟩ := f0;obtain ⟨b', off', hb', q0, q1, q2, A1⟩ := f1;simp only [qA, qB, and_true] at hb';obtain ⟨rfl, rfl⟩ := hb';obtain ⟨b', off', hb', r0, r1, r2, A2⟩ := f2;simp only [qA, qB, and_true] at hb';obtain ⟨rfl, rfl⟩ := hb'
  have hor : (fs[0]?.getD noFV).ok = false \/ (fs[1]?.getD noFV).ok = false \/ (fs[2]?.getD noFV).ok = false := by
   match fs, HN.out with
   | [x, y, z], _ =>
    simp only [List.all_cons, List.all_nil, Bool.and_true] at hno';simp only [List.getElem?_cons_zero, List.getElem?_cons_succ, Option.getD_some]
    revert hno'
    cases x.ok <;> cases y.ok <;> cases z.ok <;> simp
  generalize fs[0]?.getD noFV = x at *;generalize fs[1]?.getD noFV = y at *;generalize fs[2]?.getD noFV = z at *;obtain ⟨xa, xn, xcap, xc, xm, xcap', xK, xC, xD⟩ := x;obtain ⟨ya, yn, ycap, yc, ym, ycap', yK, yC, yD⟩ := y;obtain ⟨za, zn, zcap, zc, zm, zcap', zK, zC, zD⟩ := z;obtain ⟨x1, x2, x3, x4⟩ := A0;obtain ⟨y1, y2, y3, y4⟩ := A1;obtain ⟨z1, z2, z3, z4⟩ := A2;simp only [FV.ok] at p0 p1 p2 q0 q1 q2 r0 r1 r2 hor x1 x2 x3 x4 y1 y2 y3 y4 z1 z2 z3 z4;have lb := block_lt p0;have nb := n0.b;clear hF hno';rw [Nat.zero_mul, Nat.add_zero] at p0 p1 p2;rw [Nat.one_mul] at q0 q1 q2;have e6 : off + 2 * 3 = off + 6 := rfl;rw [e6] at r0 r1 r2
  cases hx : formB xn xm xC xD xK
  ·go_enter Tryz.func147, Tryz.ntmps147
   go_wp2_with fail
   refine (sok_any C D (hC.below n0.b) (hD.below n0.b) hn hm).mono ?_;rintro e w1 ⟨rfl, b1⟩;have H1 := n0.below b1;have s0 := (H1.b.cell (p := ⟨b, off, none⟩) lb).trans p0;have s1 := (H1.b.cell (p := ⟨b, off + 1, none⟩) lb).trans p1;have s2 := (H1.b.cell (p := ⟨b, off + 2, none⟩) lb).trans p2
   go_wp2_with fail
   refine (sok_any xC xD (x1.below H1.b) (x2.below H1.b) x3 x4).mono ?_;rintro e w2 ⟨rfl, b2⟩;have H2 := H1.below b2;obtain ⟨g0, g1, g2, g3, g4, g5⟩ := H2.room
   go_wp2
   exact bodyPost_ret (v := formV none 0 0 none 0 0 0) (by simp [results, Tryz.results147, go_sem, g0, g1, g2]) rfl H2.none
  cases hy : formB yn ym yC yD yK
  ·go_enter Tryz.func147, Tryz.ntmps147
   go_wp2_with fail
   refine (sok_any C D (hC.below n0.b) (hD.below n0.b) hn hm).mono ?_;rintro e w1 ⟨rfl, b1⟩;have H1 := n0.below b1;have s0 := (H1.b.cell (p := ⟨b, off, none⟩) lb).trans p0;have s1 := (H1.b.cell (p := ⟨b, off + 1, none⟩) lb).trans p1;have s2 := (H1.b.cell (p := ⟨b, off + 2, none⟩) lb).trans p2
   go_wp2_with fail
   refine (sok_any xC xD (x1.below H1.b) (x2.below H1.b) x3 x4).mono ?_;rintro e w2 ⟨rfl, b2⟩;have H2 := H1.below b2;have t0 := (H2.b.cell (p := ⟨b, off + 3, none⟩) lb).trans q0;have t1 := (H2.b.cell (p := ⟨b, off + 3 + 1, none⟩) lb).trans q1;have t2 := (H2.b.cell (p := ⟨b, off + 3 + 2, none⟩) lb).trans q2
   go_wp2_with fail
   refine (sok_any yC yD (y1.below H2.b) (y2.below H2.b) y3 y4).mono ?_;rintro e w3 ⟨rfl, b3⟩;have H3 := H2.below b3;obtain ⟨g0, g1, g2, g3, g4, g5⟩ := H3.room
   go_wp2
   exact bodyPost_ret (v := formV none 0 0 none 0 0 0) (by simp [results, Tryz.results147, go_sem, g0, g1, g2]) rfl H3.none
  have hz : formB zn zm zC zD zK = false := by simpa [hx, hy] using hor
  go_enter Tryz.func147, Tryz.ntmps147
  go_wp2_with fail
  refine (sok_any C D (hC.below n0.b) (hD.below n0.b) hn hm).mono ?_;rintro e w1 ⟨rfl, b1⟩;have H1 := n0.below b1;have s0 := (H1.b.cell (p := ⟨b, off, none⟩) lb).trans p0;have s1 := (H1.b.cell (p := ⟨b, off + 1, none⟩) lb).trans p1;have s2 := (H1.b.cell (p := ⟨b, off + 2, none⟩) lb).trans p2
  go_wp2_with fail
  refine (sok_any xC xD (x1.below H1.b) (x2.below H1.b) x3 x4).mono ?_;rintro e w2 ⟨rfl, b2⟩;have H2 := H1.below b2;have t0 := (H2.b.cell (p := ⟨b, off + 3, none⟩) lb).trans q0;have t1 := (H2.b.cell (p := ⟨b, off + 3 + 1, none⟩) lb).trans q1;have t2 := (H2.b.cell (p := ⟨b, off + 3 + 2, none⟩) lb).trans q2
  go_wp2_with fail
  refine (sok_any yC yD (y1.below H2.b) (y2.below H2.b) y3 y4).mono ?_;rintro e w3 ⟨rfl, b3⟩;have H3 := H2.below b3;have u0 := (H3.b.cell (p := ⟨b, off + 6, none⟩) lb).trans r0;have u1 := (H3.b.cell (p := ⟨b, off + 6 + 1, none⟩) lb).trans r1;have u2 := (H3.b.cell (p := ⟨b, off + 6 + 2, none⟩) lb).trans r2
  go_wp2_with fail
  refine (sok_any zC zD (z1.below H3.b) (z2.below H3.b) z3 z4).mono ?_;rintro e w4 ⟨rfl, b4⟩;have H4 := H3.below b4;obtain ⟨g0, g1, g2, g3, g4, g5⟩ := H4.room
  go_wp2
  exact bodyPost_ret (v := formV none 0 0 none 0 0 0) (by simp [results, Tryz.results147, go_sem, g0, g1, g2]) rfl H4.none
 clear hno;have h2' : ((N : Int) != 3) = true := by simpa using h2
 go_enter Tryz.func147, Tryz.ntmps147
 go_wp2_with fail
 refine (sok_any C D (hC.below n0.b) (hD.below n0.b) hn hm).mono ?_;rintro e w1 ⟨rfl, b1⟩;have H := n0.below b1;obtain ⟨r0, r1, r2, r3, r4, r5⟩ := H.room
 go_wp2
 exact bodyPost_ret (v := formV none 0 0 none 0 0 0) (by simp [results, Tryz.results147, go_sem, r0, r1, r2]) rfl H.none
theorem at20 (w : World) (o0 o1 : Obj) : ((w.alloc o0).alloc o1).drew.heap[w.heap.size]? = some o0 := by
  show ((w.heap.push o0).push o1)[w.heap.size]? = some o0
  simp only [Array.getElem?_push, Array.size_push]
  repeat (first | rw [if_pos trivial] | rw [if_neg (by omega)])
theorem lt20 (w : World) (o0 o1 : Obj) : w.heap.size < ((w.alloc o0).alloc o1).drew.heap.size := by
  show w.heap.size < ((w.heap.push o0).push o1).size
  simp only [Array.size_push]
  omega
theorem at21 (w : World) (o0 o1 : Obj) : ((w.alloc o0).alloc o1).drew.heap[w.heap.size + 1]? = some o1 := by
  show ((w.heap.push o0).push o1)[w.heap.size + 1]? = some o1
  simp only [Array.getElem?_push, Array.size_push]
  repeat (first | rw [if_pos trivial] | rw [if_neg (by omega)])
theorem lt21 (w : World) (o0 o1 : Obj) : w.heap.size + 1 < ((w.alloc o0).alloc o1).drew.heap.size := by
  show w.heap.size + 1 < ((w.heap.push o0).push o1).size
  simp only [Array.size_push]
  omega
theorem at30 (w : World) (o0 o1 o2 : Obj) : (((w.alloc o0).alloc o1).alloc o2).drew.heap[w.heap.size]? = some o0 := by
  show (((w.heap.push o0).push o1).push o2)[w.heap.size]? = some o0
  simp only [Array.getElem?_push, Array.size_push]
  repeat (first | rw [if_pos trivial] | rw [if_neg (by omega)])
theorem lt30 (w : World) (o0 o1 o2 : Obj) : w.heap.size < (((w.alloc o0).alloc o1).alloc o2).drew.heap.size := by
  show w.heap.size < (((w.heap.push o0).push o1).push o2).size
  simp only [Array.size_push]
  omega
theorem at31 (w : World) (o0 o1 o2 : Obj) : (((w.alloc o0).alloc o1).alloc o2).drew.heap[w.heap.size + 1]? = some o1 := by
  show (((w.heap.push o0).push o1).push o2)[w.heap.size + 1]? = some o1
  simp only [Array.getElem?_push, Array.size_push]
  repeat (first | rw [if_pos trivial] | rw [if_neg (by omega)])
theorem lt31 (w : World) (o0 o1 o2 : Obj) : w.heap.size + 1 < (((w.alloc o0).alloc o1).alloc o2).drew.heap.size := by
  show w.heap.size + 1 < (((w.heap.push o0).push o1).push o2).size
  simp only [Array.size_push]
  omega
theorem at32 (w : World) (o0 o1 o2 : Obj) : (((w.alloc o0).alloc o1).alloc o2).drew.heap[w.heap.size + 1 + 1]? = some o2 := by
  show (((w.heap.push o0).push o1).push o2)[w.heap.size + 1 + 1]? = some o2
  simp only [Array.getElem?_push, Array.size_push]
  repeat (first | rw [if_pos trivial] | rw [if_neg (by omega)])
theorem lt32 (w : World) (o0 o1 o2 : Obj) : w.heap.size + 1 + 1 < (((w.alloc o0).alloc o1).alloc o2).drew.heap.size := by
  show w.heap.size + 1 + 1 < (((w.heap.push o0).push o1).push o2).size
  simp only [Array.size_push]
  omega
theorem sz1 (w : World) (o0 : Obj) : (w.alloc o0).drew.heap.size = w.heap.size + 1 := by show (w.heap.push o0).size = _; simp only [Array.size_push]
theorem sz2 (w : World) (o0 o1 : Obj) : ((w.alloc o0).alloc o1).drew.heap.size = w.heap.size + 1 + 1 := by show ((w.heap.push o0).push o1).size = _; simp only [Array.size_push]
theorem sz3 (w : World) (o0 o1 o2 : Obj) : (((w.alloc o0).alloc o1).alloc o2).drew.heap.size = w.heap.size + 1 + 1 + 1 := by show (((w.heap.push o0).push o1).push o2).size = _; simp only [Array.size_push]
theorem own_ints {base g cap : Nat} (h : W.ownsRow base 3 1 (.slice (some ⟨g, 0, none⟩) (0 + n) cap) (0 + n) ([] ++ D.map (Value.int .i64))) (hl : D.length = n) : Ints W (some ⟨g, 0, none⟩) n D := by
  refine ⟨hl, fun i hi => ⟨g, 0, rfl, ?_⟩⟩
  rcases h.2 with ⟨h', _⟩ | ⟨g', cap', cur, h', _, hg, _, _, hcs, htake⟩
  · simp at h'
  · simp only [Value.slice.injEq, qA, qB, and_true, true_and] at h'
    obtain ⟨rfl, rfl⟩ := h'
    have e : cur[i]? = (([] ++ D.map (Value.int .i64)) : List Value)[i]? := by
      rw [<- htake, List.getElem?_take_of_lt (by omega)]
      simp
    simp only [World.cell?, hg]
    simp only [Nat.zero_add]
    rw [e]
    simp [hl, hi]
theorem Ints.set {a : Option Addr} {X : Nat} {zs : List Int} (h : Ints W a n zs) (hx : ∀ b o, a = some ⟨b, o, none⟩ -> b ≠ X) (i : Nat) (v : Value) : Ints (W.setCell ⟨X, i, none⟩ v) a n zs := by
  refine ⟨h.1, fun j hj => ?_⟩
  obtain ⟨b, off, hab, hc⟩ := h.2 j hj
  refine ⟨b, off, hab, ?_⟩
  rw [<- hc]
  exact World.cell?_of_block (Below.heap_setCell _ _ _ _ (hx b off hab))
theorem Cel.set3 {w : World} {B : Nat} {x y z : Value} {t : TypeId} (h : Cel w B [x, y, z] t) (u v u' : Value) : Cel (((w.setCell ⟨B, 0, none⟩ u).setCell ⟨B, 1, none⟩ v).setCell ⟨B, 2, none⟩ u') B [u, v, u'] t := ((h.set 0 u).set 1 v).set 2 u'
theorem Cel.new1 (w : World) (o : Obj) (vs : List Value) (t : TypeId) : Cel ((w.alloc o).alloc (.cells vs.toArray t)) (w.heap.size + 1) vs t := by
  have := Cel.new (w.alloc o) vs t
  rw [qC] at this; exact this
theorem Blk.new3s (w : World) (p q r : Addr) (u v x : Value) : Blk ((((w.setCell p u).setCell q v).setCell r x).alloc (.cells #[.int .i64 0, .int .i64 0, .int .i64 0] 3)) w.heap.size [0, 0, 0] := by
  have := Blk.new3 (((w.setCell p u).setCell q v).setCell r x)
  rw [size_setCell, size_setCell, size_setCell] at this; exact this
theorem Blk.new31 (w : World) (o : Obj) : Blk ((w.alloc o).alloc (.cells #[.int .i64 0, .int .i64 0, .int .i64 0] 3)) (w.heap.size + 1) [0, 0, 0] := by
  have := Blk.new3 (w.alloc o)
  rw [qC] at this; exact this
theorem row_news {cb co : Nat} (h : Ints W (some ⟨cb, co, none⟩) n D) : ∀ (j : Nat) (u : Value), (D.map (Value.int .i64))[j]? = some u -> W.cell? ((⟨cb, co, none⟩ : Addr).add j) = some u := fun j u hu => by
  rw [List.getElem?_map] at hu
  obtain ⟨z, hz, rfl⟩ := Option.map_eq_some_iff.1 hu
  have hj : j < n := by rw [<- h.1]; exact (List.getElem?_eq_some_iff.1 hz).1
  obtain ⟨b, off, he, hc⟩ := h.2 j hj
  simp only [qA, qB, and_true] at he
  obtain ⟨rfl, rfl⟩ := he
  have hadd : (⟨cb, co, none⟩ : Addr).add j = ⟨cb, co + j, none⟩ := by
    by_cases h0 : j = 0
    · subst h0; simp [Addr.add]
    · simp [Addr.add, h0]
  rw [hadd, hc]
  simp [hz]
theorem row_one (D : List Int) : ∀ u ∈ D.map (Value.int .i64), u.oneCell' = true := by
  intro u hu
  obtain ⟨z, _, rfl⟩ := List.mem_map.1 hu
  rfl
theorem sinto_yes (a : Option Addr) (cap : Nat) (c : Option Addr) (cap' : Nat) (K : Int) (C D : List Int) (b off capN : Nat) (fs : List FV) (w : World) (hC : Ints w a 3 C) (hD : Ints w c 2 D)
    (hN : fs.length = 3) (hF : FormsG w (some ⟨b, off, none⟩) fs) (h1 : formB 3 2 C D K = true) (hall : fs.all FV.ok = true) :
    Calls Tryz.prog 147 #[formV a 3 cap c 2 cap' K, .slice (some ⟨b, off, none⟩) 3 capN] w fun e w' => Res w w' e (keepL (formB 3 2 (intoC C fs 3) (intoD C D fs 3) (intoK C K fs 3)) (intoC C fs 3)) (keepL (formB 3 2 (intoC C fs 3) (intoD C D fs 3) (intoK C K fs 3)) (intoD C D fs 3)) (keepK (formB 3 2 (intoC C fs 3) (intoD C D fs 3) (intoK C K fs 3)) (intoK C K fs 3)) := by
  have n0 := IH.new (w := w) (a := a) (n := 3) (cap := cap) (c := c) (m := 2) (cap' := cap') (K := K)
  obtain ⟨-, -, bC, bD, bK1, bK2⟩ := formB_elim h1
  have hg : ∀ i, i < 3 -> ∃ x : FV, x = fs[i]?.getD noFV /\ OkF x /\ x.ok = true /\ x.At w /\ w.cell? ⟨b, off + i * 3, none⟩ = some (.slice x.a x.n x.cap) /\ w.cell? ⟨b, off + i * 3 + 1, none⟩ = some (.slice x.c x.m x.cap') /\ w.cell? ⟨b, off + i * 3 + 2, none⟩ = some (.int .i64 x.K) := fun i hi => by
    obtain ⟨b', off', hb', q0, q1, q2, A1⟩ := hF i (by omega)
    simp only [qA, qB, and_true] at hb'
    obtain ⟨rfl, rfl⟩ := hb'
    have ok : (fs[i]?.getD noFV).ok = true := by
      rw [List.all_eq_true] at hall
      rw [List.getElem?_eq_getElem (by omega)]
      exact hall _ (List.getElem_mem _)
    exact ⟨_, rfl, OkF.of A1 ok, ok, A1, q0, q1, q2⟩
  have ho : ∀ i, i < 3 -> OkF (fs[i]?.getD noFV) := fun i hi => by
    obtain ⟨x, rfl, h, _⟩ := hg i hi; exact h
  have HI : Hid _ := fun k hk => IntoF.of hD.1 bC bD bK1 bK2 ho k hk
  have HG : Hid _ := hg
  obtain ⟨lb0, _⟩ : b < w.heap.size /\ True := by
    obtain ⟨x, rfl, _, _, _, q0, _⟩ := hg 0 (by omega)
    exact ⟨block_lt q0, trivial⟩
  clear hg ho hF hN hall
  obtain ⟨cb, co, rfl, hDc⟩ := hD.pos (by omega)
  obtain ⟨ab, ao, rfl, hCc⟩ := hC.pos (by omega)
  clear hDc hCc
  obtain ⟨i0, hi, hz0, hz1, hz2⟩ := info_parts Tryz.infoInt
  go_enter Tryz.func147, Tryz.ntmps147
  go_wp2_with fail
  refine (sok_any C D (hC.below n0.b) (hD.below n0.b) (by omega) (by omega)).mono ?_
  rintro e w1 ⟨rfl, b1⟩
  have H1 := n0.below b1
  clear n0 b1
  obtain ⟨⟨xa, xn, xcap, xc, xm, xcap', xK, xC, xD⟩, -, -, ok, A, q0, q1, q2⟩ := HG.out 0 (by omega)
  obtain ⟨x1, x2, x3, x4⟩ := A
  simp only [FV.ok] at ok q0 q1 q2 x1 x2 x3 x4
  rw [Nat.zero_mul, Nat.add_zero] at q0 q1 q2
  have s0 := (H1.b.cell (p := ⟨b, off, none⟩) lb0).trans q0
  have s1 := (H1.b.cell (p := ⟨b, off + 1, none⟩) lb0).trans q1
  have s2 := (H1.b.cell (p := ⟨b, off + 2, none⟩) lb0).trans q2
  clear q0 q1 q2
  go_wp2_with fail
  refine (sok_any xC xD (x1.below H1.b) (x2.below H1.b) x3 x4).mono ?_
  rintro e w2 ⟨rfl, b2⟩
  rw [ok]
  have H2 := H1.below b2
  clear ok x1 x2 x3 x4 s0 s1 s2 H1 b2
  obtain ⟨⟨xa, xn, xcap, xc, xm, xcap', xK, xC, xD⟩, -, -, ok, A, q0, q1, q2⟩ := HG.out 1 (by omega)
  obtain ⟨x1, x2, x3, x4⟩ := A
  simp only [FV.ok] at ok q0 q1 q2 x1 x2 x3 x4
  rw [Nat.one_mul] at q0 q1 q2
  have s0 := (H2.b.cell (p := ⟨b, off + 3, none⟩) lb0).trans q0
  have s1 := (H2.b.cell (p := ⟨b, off + 3 + 1, none⟩) lb0).trans q1
  have s2 := (H2.b.cell (p := ⟨b, off + 3 + 2, none⟩) lb0).trans q2
  clear q0 q1 q2
  go_wp2_with fail
  refine (sok_any xC xD (x1.below H2.b) (x2.below H2.b) x3 x4).mono ?_
  rintro e w3 ⟨rfl, b3⟩
  rw [ok]
  have H3 := H2.below b3
  clear ok x1 x2 x3 x4 s0 s1 s2 H2 b3
  obtain ⟨⟨xa, xn, xcap, xc, xm, xcap', xK, xC, xD⟩, -, -, ok, A, q0, q1, q2⟩ := HG.out 2 (by omega)
  obtain ⟨x1, x2, x3, x4⟩ := A
  simp only [FV.ok] at ok q0 q1 q2 x1 x2 x3 x4
  have e6 : off + 2 * 3 = off + 6 := rfl
  rw [e6] at q0 q1 q2
  have s0 := (H3.b.cell (p := ⟨b, off + 6, none⟩) lb0).trans q0
  have s1 := (H3.b.cell (p := ⟨b, off + 6 + 1, none⟩) lb0).trans q1
  have s2 := (H3.b.cell (p := ⟨b, off + 6 + 2, none⟩) lb0).trans q2
  clear q0 q1 q2 e6
  go_wp2_with fail
  refine (sok_any xC xD (x1.below H3.b) (x2.below H3.b) x3 x4).mono ?_
  rintro e wy ⟨rfl, b4⟩
  rw [ok]
  have HY := H3.below b4
  clear ok x1 x2 x3 x4 s0 s1 s2 H3 b4
  have ly := HY.r.lt
  have A1 := HY.b.size
  go_upto_region 3 with fail
  go_cut [5] (fun s wx => ∃ X a' cpa c' cpc, s = .pointer (some ⟨X, 0, none⟩) /\ IH w (some ⟨ab, ao, none⟩) 3 cap (some ⟨cb, co, none⟩) 2 cap' K wx /\ Cel wx X [.slice a' 3 cpa, .slice c' 2 cpc, .int .i64 K] 86 /\ Ints wx a' 3 [0, 0, 0] /\ Ints wx c' 2 D /\ w.heap.size + 1 < X)
  case first =>
    have GY := HY.cells
    have N1 := World.new_ne wy ⟨w.heap.size, 1, none⟩ GY.2.1
    have N2 := World.new_ne wy ⟨w.heap.size, 2, none⟩ GY.2.2
    go_region_held3 (fun w' => w'.cell? ⟨w.heap.size, 1, none⟩ = some (.slice (some ⟨cb, co, none⟩) 2 cap') /\ w'.cell? ⟨w.heap.size, 2, none⟩ = some (.int .i64 K)) (with_reducible first | assumption | exact (HY.alloc _).drew.cells.2 | exact ((HY.alloc _).alloc _).drew.cells.2 | exact (((HY.alloc _).alloc _).alloc _).drew.cells.2 | exact (HZ.alloc _).cells.2 | exact ((HZ.alloc _).alloc _).cells.2 | exact (((HZ.set (by omega) _ _).set (by omega) _ _).set (by omega) _ _).cells.2 | exact ((((HZ.alloc _).set (by omega) _ _).set (by omega) _ _).set (by omega) _ _).cells.2 | exact (((((HZ.alloc _).alloc _).set (by omega) _ _).set (by omega) _ _).set (by omega) _ _).cells.2 | exact ((((HZ.set (by omega) _ _).set (by omega) _ _).set (by omega) _ _).alloc _).cells.2 | go_keep)
      ((refine step_append_grows (by rfl) _ _ _ (by rfl) 3 i0 (.int .i64 0) 1 8 Tryz.underlying24 hi hz0 hz1 hz2 rfl (by decide) _ 0 0 [] (by rfl) (fun _ => ⟨rfl, rfl⟩) rfl (fun _ _ j u hu => by simp at hu) ⟨cb, co, none⟩ 2 cap' (D.map (Value.int .i64)) (by rfl) (by rw [List.length_map]; exact hD.1) (row_news (by with_reducible first | exact hD.below HY.drew.b | exact hD.below (HY.alloc _).drew.b | exact hD.below ((HY.alloc _).alloc _).drew.b | exact hD.below (((HY.alloc _).alloc _).alloc _).drew.b)) (row_one D) (by omega) (by unfold maxLen; omega) (by omega) ?_
        intro v' wz hown hgrow
        obtain ⟨g, cpg, rfl, hbg, hlt⟩ := World.ownsRow.form hown (by omega)
        have IZ := own_ints hown hD.1
        simp only [sz1, qC] at hbg
        have BZ := (Below.refl _ _).grown hgrow (Nat.le_refl _) (by simp)
        have HZ := IH.below (w := w) (a := some ⟨ab, ao, none⟩) (n := 3) (cap := cap) (c := some ⟨cb, co, none⟩) (m := 2) (cap' := cap') (K := K) (by with_reducible first | exact HY.drew | exact (HY.alloc _).drew | exact ((HY.alloc _).alloc _).drew | exact (((HY.alloc _).alloc _).alloc _).drew) BZ
        have GZ := HZ.cells.2
        have rz := HZ.r.lt
        have P0 := BZ.block wy.heap.size
        have P1 := BZ.block (wy.heap.size + 1)
        have P2 := BZ.block (wy.heap.size + 1 + 1)
        try simp only [at20, at21, at30, at31, at32, lt20, lt21, lt30, lt31, lt32, forall_const] at P0 P1 P2
        first
          | (have XZ : Cel wz wy.heap.size [.slice none 0 0, .slice none 0 0, .int .i64 0] 86 := by unfold Cel; with_reducible exact P0
             obtain ⟨u0, u1, u2, u3, u4, u5⟩ := XZ.trio; have lx := XZ.lt; have nx0 := World.new_ne wz _ u0; have nx1 := World.new_ne wz _ u1; have nx2 := World.new_ne wz _ u2)
          | (have XZ : Cel wz (wy.heap.size + 1) [.slice none 0 0, .slice none 0 0, .int .i64 0] 86 := by unfold Cel; with_reducible exact P1
             obtain ⟨u0, u1, u2, u3, u4, u5⟩ := XZ.trio; have lx := XZ.lt; have nx0 := World.new_ne wz _ u0; have nx1 := World.new_ne wz _ u1; have nx2 := World.new_ne wz _ u2)
          | (have XZ : Cel wz (wy.heap.size + 1 + 1) [.slice none 0 0, .slice none 0 0, .int .i64 0] 86 := by unfold Cel; with_reducible exact P2
             obtain ⟨u0, u1, u2, u3, u4, u5⟩ := XZ.trio; have lx := XZ.lt; have nx0 := World.new_ne wz _ u0; have nx1 := World.new_ne wz _ u1; have nx2 := World.new_ne wz _ u2)
          | skip
        first
          | have AZ : Blk wz wy.heap.size [0, 0, 0] := by exact P0
          | have AZ : Blk wz (wy.heap.size + 1) [0, 0, 0] := by exact P1
          | have AZ : Blk wz (wy.heap.size + 1 + 1) [0, 0, 0] := by exact P2
          | skip))
    all_goals
      go_wp2_with fail
      go_meet
      case rel =>
        first
          | refine ⟨_, some ⟨wy.heap.size, 0, none⟩, 3, some ⟨g, 0, none⟩, cpg, rfl, (by with_reducible first | exact HZ.alloc _ | exact (HZ.alloc _).alloc _ | exact (((HZ.set (by omega) _ _).set (by omega) _ _).set (by omega) _ _) | exact (((HZ.set (by omega) _ _).set (by omega) _ _).set (by omega) _ _).alloc _), (by with_reducible first | exact Cel.new wz _ _ | exact Cel.new1 wz _ _ _ | exact (Cel.new wz _ _).alloc _ | exact (XZ.set3 _ _ _) | exact (XZ.set3 _ _ _).alloc _), (by with_reducible first | exact (AZ.alloc _).ints' (n := 3) rfl | exact (Blk.new3 _).ints' (n := 3) rfl | exact ((Blk.new3 wz).alloc _).ints' (n := 3) rfl | exact (Blk.new31 wz _).ints' (n := 3) rfl | exact (Blk.new3s wz _ _ _ _ _ _).ints' (n := 3) rfl | exact (((AZ.so).so).so).ints' (n := 3) rfl), (by with_reducible first | exact IZ.alloc _ | exact (IZ.alloc _).alloc _ | exact (((IZ.set (fun x o hx => by simp only [qA, qB, and_true] at hx; omega) _ _).set (fun x o hx => by simp only [qA, qB, and_true] at hx; omega) _ _).set (fun x o hx => by simp only [qA, qB, and_true] at hx; omega) _ _) | exact (((IZ.set (fun x o hx => by simp only [qA, qB, and_true] at hx; omega) _ _).set (fun x o hx => by simp only [qA, qB, and_true] at hx; omega) _ _).set (fun x o hx => by simp only [qA, qB, and_true] at hx; omega) _ _).alloc _), by omega⟩
          | refine ⟨_, some ⟨wy.heap.size + 1, 0, none⟩, 3, some ⟨g, 0, none⟩, cpg, rfl, (by with_reducible first | exact HZ.alloc _ | exact (HZ.alloc _).alloc _ | exact (((HZ.set (by omega) _ _).set (by omega) _ _).set (by omega) _ _) | exact (((HZ.set (by omega) _ _).set (by omega) _ _).set (by omega) _ _).alloc _), (by with_reducible first | exact Cel.new wz _ _ | exact Cel.new1 wz _ _ _ | exact (Cel.new wz _ _).alloc _ | exact (XZ.set3 _ _ _) | exact (XZ.set3 _ _ _).alloc _), (by with_reducible first | exact (AZ.alloc _).ints' (n := 3) rfl | exact (Blk.new3 _).ints' (n := 3) rfl | exact ((Blk.new3 wz).alloc _).ints' (n := 3) rfl | exact (Blk.new31 wz _).ints' (n := 3) rfl | exact (Blk.new3s wz _ _ _ _ _ _).ints' (n := 3) rfl | exact (((AZ.so).so).so).ints' (n := 3) rfl), (by with_reducible first | exact IZ.alloc _ | exact (IZ.alloc _).alloc _ | exact (((IZ.set (fun x o hx => by simp only [qA, qB, and_true] at hx; omega) _ _).set (fun x o hx => by simp only [qA, qB, and_true] at hx; omega) _ _).set (fun x o hx => by simp only [qA, qB, and_true] at hx; omega) _ _) | exact (((IZ.set (fun x o hx => by simp only [qA, qB, and_true] at hx; omega) _ _).set (fun x o hx => by simp only [qA, qB, and_true] at hx; omega) _ _).set (fun x o hx => by simp only [qA, qB, and_true] at hx; omega) _ _).alloc _), by omega⟩
          | refine ⟨_, some ⟨wy.heap.size + 1 + 1, 0, none⟩, 3, some ⟨g, 0, none⟩, cpg, rfl, (by with_reducible first | exact HZ.alloc _ | exact (HZ.alloc _).alloc _ | exact (((HZ.set (by omega) _ _).set (by omega) _ _).set (by omega) _ _) | exact (((HZ.set (by omega) _ _).set (by omega) _ _).set (by omega) _ _).alloc _), (by with_reducible first | exact Cel.new wz _ _ | exact Cel.new1 wz _ _ _ | exact (Cel.new wz _ _).alloc _ | exact (XZ.set3 _ _ _) | exact (XZ.set3 _ _ _).alloc _), (by with_reducible first | exact (AZ.alloc _).ints' (n := 3) rfl | exact (Blk.new3 _).ints' (n := 3) rfl | exact ((Blk.new3 wz).alloc _).ints' (n := 3) rfl | exact (Blk.new31 wz _).ints' (n := 3) rfl | exact (Blk.new3s wz _ _ _ _ _ _).ints' (n := 3) rfl | exact (((AZ.so).so).so).ints' (n := 3) rfl), (by with_reducible first | exact IZ.alloc _ | exact (IZ.alloc _).alloc _ | exact (((IZ.set (fun x o hx => by simp only [qA, qB, and_true] at hx; omega) _ _).set (fun x o hx => by simp only [qA, qB, and_true] at hx; omega) _ _).set (fun x o hx => by simp only [qA, qB, and_true] at hx; omega) _ _) | exact (((IZ.set (fun x o hx => by simp only [qA, qB, and_true] at hx; omega) _ _).set (fun x o hx => by simp only [qA, qB, and_true] at hx; omega) _ _).set (fun x o hx => by simp only [qA, qB, and_true] at hx; omega) _ _).alloc _), by omega⟩
          | refine ⟨_, some ⟨wz.heap.size, 0, none⟩, 3, some ⟨g, 0, none⟩, cpg, rfl, (by with_reducible first | exact HZ.alloc _ | exact (HZ.alloc _).alloc _ | exact (((HZ.set (by omega) _ _).set (by omega) _ _).set (by omega) _ _) | exact (((HZ.set (by omega) _ _).set (by omega) _ _).set (by omega) _ _).alloc _), (by with_reducible first | exact Cel.new wz _ _ | exact Cel.new1 wz _ _ _ | exact (Cel.new wz _ _).alloc _ | exact (XZ.set3 _ _ _) | exact (XZ.set3 _ _ _).alloc _), (by with_reducible first | exact (AZ.alloc _).ints' (n := 3) rfl | exact (Blk.new3 _).ints' (n := 3) rfl | exact ((Blk.new3 wz).alloc _).ints' (n := 3) rfl | exact (Blk.new31 wz _).ints' (n := 3) rfl | exact (Blk.new3s wz _ _ _ _ _ _).ints' (n := 3) rfl | exact (((AZ.so).so).so).ints' (n := 3) rfl), (by with_reducible first | exact IZ.alloc _ | exact (IZ.alloc _).alloc _ | exact (((IZ.set (fun x o hx => by simp only [qA, qB, and_true] at hx; omega) _ _).set (fun x o hx => by simp only [qA, qB, and_true] at hx; omega) _ _).set (fun x o hx => by simp only [qA, qB, and_true] at hx; omega) _ _) | exact (((IZ.set (fun x o hx => by simp only [qA, qB, and_true] at hx; omega) _ _).set (fun x o hx => by simp only [qA, qB, and_true] at hx; omega) _ _).set (fun x o hx => by simp only [qA, qB, and_true] at hx; omega) _ _).alloc _), by omega⟩
          | refine ⟨_, some ⟨wz.heap.size + 1, 0, none⟩, 3, some ⟨g, 0, none⟩, cpg, rfl, (by with_reducible first | exact HZ.alloc _ | exact (HZ.alloc _).alloc _ | exact (((HZ.set (by omega) _ _).set (by omega) _ _).set (by omega) _ _) | exact (((HZ.set (by omega) _ _).set (by omega) _ _).set (by omega) _ _).alloc _), (by with_reducible first | exact Cel.new wz _ _ | exact Cel.new1 wz _ _ _ | exact (Cel.new wz _ _).alloc _ | exact (XZ.set3 _ _ _) | exact (XZ.set3 _ _ _).alloc _), (by with_reducible first | exact (AZ.alloc _).ints' (n := 3) rfl | exact (Blk.new3 _).ints' (n := 3) rfl | exact ((Blk.new3 wz).alloc _).ints' (n := 3) rfl | exact (Blk.new31 wz _).ints' (n := 3) rfl | exact (Blk.new3s wz _ _ _ _ _ _).ints' (n := 3) rfl | exact (((AZ.so).so).so).ints' (n := 3) rfl), (by with_reducible first | exact IZ.alloc _ | exact (IZ.alloc _).alloc _ | exact (((IZ.set (fun x o hx => by simp only [qA, qB, and_true] at hx; omega) _ _).set (fun x o hx => by simp only [qA, qB, and_true] at hx; omega) _ _).set (fun x o hx => by simp only [qA, qB, and_true] at hx; omega) _ _) | exact (((IZ.set (fun x o hx => by simp only [qA, qB, and_true] at hx; omega) _ _).set (fun x o hx => by simp only [qA, qB, and_true] at hx; omega) _ _).set (fun x o hx => by simp only [qA, qB, and_true] at hx; omega) _ _).alloc _), by omega⟩
  case rest =>
    obtain ⟨X, a', cpa, c', cpc, rfl, HX, hX, iA, iD, lX⟩ := hcut
    clear HY ly A1 hi hz0 hz1 hz2
    go_wp2_with fail
    go_loopw [6] (fun i wr => ∃ k : Nat, k <= 3 /\ i = .int .i64 k /\ IH w (some ⟨ab, ao, none⟩) 3 cap (some ⟨cb, co, none⟩) 2 cap' K wr /\ ∃ a' cpa c' cpc, Cel wr X [.slice a' 3 cpa, .slice c' 2 cpc, .int .i64 (intoK C K fs k)] 86 /\ Ints wr a' 3 (intoC C fs k) /\ Ints wr c' 2 (intoD C D fs k) /\
      (k = 3 -> ∃ B1 B2, a' = some ⟨B1, 0, none⟩ /\ cpa = 3 /\ c' = some ⟨B2, 0, none⟩ /\ cpc = 2 /\ Blk wr B1 (intoC C fs 3) /\ Blk wr B2 (intoD C D fs 3) /\ w.heap.size + 1 < B1 /\ w.heap.size + 1 < B2 /\ B1 ≠ B2)) (fun i _ => 3 - (intOf i).toNat)
    case atStart => exact ⟨0, by omega, rfl, HX, a', cpa, c', cpc, hX, iA, iD, fun h => by omega⟩
    case round =>
      clear HX hX iA iD
      obtain ⟨k, hk, rfl, HX, a', cpa, c', cpc, hX, iA, iD, hB⟩ := hrel
      have IF := HI.out k hk
      by_cases hlt : k < 3
      · clear hB
        obtain ⟨x, hx, okf, -, A, q0, q1, q2⟩ := HG.out k hlt
        obtain ⟨xa, xn, xcap, xc, xm, xcap', xK, xC, xD⟩ := x
        obtain ⟨x1, x2, x3, x4⟩ := A
        obtain ⟨o1, o2, o3, o4, o5, o6, o7, o8⟩ := okf
        simp only at o1 o2 o3 o4 o5 o6 o7 o8 q0 q1 q2 x1 x2
        subst o1 o2
        have HX' : Hid _ := hx
        clear hx x3 x4
        have s0 := (HX.b.cell (p := ⟨b, off + k * 3, none⟩) lb0).trans q0
        have s1 := (HX.b.cell (p := ⟨b, off + k * 3 + 1, none⟩) lb0).trans q1
        have s2 := (HX.b.cell (p := ⟨b, off + k * 3 + 2, none⟩) lb0).trans q2
        have bc := bC k
        have tC := tim_bnd o5 bc.1 bc.2
        have tD := tim_bnd o6 bc.1 bc.2
        have tK := tim_num o7 o8 bc.1 bc.2
        obtain ⟨f1, f2, f3, f4, f5, f6⟩ := IF
        have xbC : bnd 1000000000000000000 (intoC C fs k) := fun i => by have := f3 i; omega
        have xbD : bnd 1000000000000000000 (intoD C D fs k) := fun i => by have := f4 i; omega
        have xbK : -1000000000000000000 <= intoK C K fs k /\ intoK C K fs k <= 1000000000000000000 := by omega
        have EC : intoC C fs (k + 1) = lin (intoC C fs k) xC (C[k]?.getD 0) := by simp only [intoC]; rw [<- HX'.out]
        have ED : intoD C D fs (k + 1) = lin (intoD C D fs k) xD (C[k]?.getD 0) := by simp only [intoD]; rw [<- HX'.out]
        have EK : intoK C K fs (k + 1) = intoK C K fs k + C[k]?.getD 0 * xK := by simp only [intoK]; rw [<- HX'.out]
        have LC := lin_len (n := C[k]?.getD 0) f1 o3
        have LD := lin_len (n := C[k]?.getD 0) f2 o4
        have hck : wr.cell? ⟨ab, ao + k, none⟩ = some (.int .i64 (C[k]?.getD 0)) := by
          obtain ⟨b', off', he, hc⟩ := (hC.below HX.b).2 k hlt
          simp only [qA, qB, and_true] at he
          obtain ⟨rfl, rfl⟩ := he
          simpa using hc
        have HEC : Hid _ := EC
        have HED : Hid _ := ED
        have HEK : Hid _ := EK
        clear EC ED EK f3 f4 f5 f6 bc q0 q1 q2
        have GX := HX.cells.1
        obtain ⟨u0, u1, u2, u3, u4, u5⟩ := hX.trio
        have hlt' : (k : Int) < 3 := by omega
        have hlt0 : (0 : Int) <= (k : Int) := by omega
        generalize intoC C fs k = iC at *
        generalize intoD C D fs k = jD at *
        generalize intoK C K fs k = sK at *
        generalize C[k]?.getD 0 = ck at *
        go_wp2_with fail
        go_region_with (first | (go_at_call 149; refine (l1sum_any iC jD xC xD (by exact iA) (by exact iD) (by exact x1.below HX.drew.b) (by exact x2.below HX.drew.b) xbC xbD xbK tC tD tK).mono ?_; rintro e w5 ⟨B1, B2, rfl, b5, g1, g2, g3, k1, k2⟩; have g1' : wr.heap.size <= B1 := g1; have g3' : wr.heap.size <= B2 := g3; have b5' := below_of_drew b5; have H5 := HX.below b5'; have X5 := hX.below b5'; obtain ⟨v0, v1, v2, v3, v4, v5⟩ := X5.trio))
        all_goals
          have E3 : Blk (((w5.setCell ⟨X, 0, none⟩ (.slice (some ⟨B1, 0, none⟩) 3 3)).setCell ⟨X, 1, none⟩ (.slice (some ⟨B2, 0, none⟩) 2 2)).setCell ⟨X, 2, none⟩ (.int .i64 (sK + ck * xK))) B1 (lin iC xC ck) := ((k1.setOther (by have := hX.lt; omega) _ _).setOther (by have := hX.lt; omega) _ _).setOther (by have := hX.lt; omega) _ _
          have E4 : Blk (((w5.setCell ⟨X, 0, none⟩ (.slice (some ⟨B1, 0, none⟩) 3 3)).setCell ⟨X, 1, none⟩ (.slice (some ⟨B2, 0, none⟩) 2 2)).setCell ⟨X, 2, none⟩ (.int .i64 (sK + ck * xK))) B2 (lin jD xD ck) := ((k2.setOther (by have := hX.lt; omega) _ _).setOther (by have := hX.lt; omega) _ _).setOther (by have := hX.lt; omega) _ _
          have E1 := ((H5.set (X := X) (by omega) 0 (.slice (some ⟨B1, 0, none⟩) 3 3)).set (X := X) (by omega) 1 (.slice (some ⟨B2, 0, none⟩) 2 2)).set (X := X) (by omega) 2 (.int .i64 (sK + ck * xK))
          have E2 := X5.set3 (.slice (some ⟨B1, 0, none⟩) 3 3) (.slice (some ⟨B2, 0, none⟩) 2 2) (.int .i64 (sK + ck * xK))
          have zr := HX.r.lt
          have zX := hX.lt
          clear k1 k2 HX hX iA iD s0 s1 s2 hck x1 x2 b5 b5' tC tD tK xbC xbD xbK u0 u1 u2 u3 u4 u5 GX
          go_wp2
          go_roundw
          case rel =>
            refine ⟨k + 1, by omega, by go_num, E1, some ⟨B1, 0, none⟩, 3, some ⟨B2, 0, none⟩, 2, ?_, ?_, ?_, ?_⟩
            · rw [HEK.out]; exact E2
            · rw [HEC.out]; exact E3.ints' LC
            · rw [HED.out]; exact E4.ints' LD
            · intro h3
              obtain rfl : k = 2 := by omega
              refine ⟨B1, B2, rfl, rfl, rfl, rfl, ?_, ?_, by omega, by omega, g2⟩
              · rw [HEC.out]; exact E3
              · rw [HED.out]; exact E4
          case measure => simp [intOf]; omega
      · obtain rfl : k = 3 := by omega
        obtain ⟨B1, B2, rfl, rfl, rfl, rfl, k1, k2, lB1, lB2, hne⟩ := hB rfl
        obtain ⟨f1, f2, -, -, -, -⟩ := IF
        clear iA iD hlt hk
        obtain ⟨c0, c1, c2, -, -, -⟩ := hX.trio
        cases h3 : formB 3 2 (intoC C fs 3) (intoD C D fs 3) (intoK C K fs 3)
        all_goals
          go_wp2_with fail
          refine (sok_any (intoC C fs 3) (intoD C D fs 3) (k1.ints' f1) (k2.ints' f2) (by omega) (by omega)).mono ?_
          rintro e w5 ⟨rfl, b5⟩
          have H5 := HX.below b5
          have x5 := hX.below b5
          obtain ⟨d0, d1, d2, -, -, -⟩ := x5.trio
          obtain ⟨r0, r1, r2, r3, r4, r5⟩ := H5.room
          have k1' := k1.below b5
          have k2' := k2.below b5
          clear c0 c1 c2 HX hX k1 k2 b5
          go_wp2
        · refine bodyPost_ret (v := formV none 0 0 none 0 0 0) (by simp [results, Tryz.results147, go_sem, r0, r1, r2]) rfl ?_
          rw [h3]
          exact H5.none
        · refine bodyPost_ret (v := formV (some ⟨B1, 0, none⟩) 3 3 (some ⟨B2, 0, none⟩) 2 2 (intoK C K fs 3)) (by simp [results, Tryz.results147, go_sem, r0, r1, r2]) rfl ?_
          rw [h3]
          refine Res.of (B1 := B1) (B2 := B2) rfl f1 f2 ?_ (by omega) hne (by omega) ?_ ?_
          · exact ((H5.b.setCell (by simp only []; omega) _).setCell (by simp only []; omega) _).setCell (by simp only []; omega) _
          · exact ((k1'.so).so).so
          · exact ((k2'.so).so).so
end Go.Proofs.YtemcinobgdphnaaGreat
