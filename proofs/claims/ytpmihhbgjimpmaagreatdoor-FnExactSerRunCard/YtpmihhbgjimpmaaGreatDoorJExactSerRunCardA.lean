/-
  Lemmas that the claim's last text rests on: Into, IntoS, IntoT, IntoI, IntoL, Ways, Copy, Minus, Pots, RowEnd, WalkL, IntoW, WayI, JRs, Cat, Trt, TrtW, Plan.
-/
import Derived.Test.YtpmihhbgjimpmaaGreatDoorMarkS
import Derived.Deep.AppendLies
import Derived.Deep.RegionLawGrows
import Derived.Test.YtpmihhbgjimpmaaGreatDoorAct
import Derived.Test.YtpmihhbgjimpmaaGreatDoorKeyed
import Derived.Deep.DeepCutAuto
import Derived.Test.YtpmihhbgjimpmaaGreatDoorSums
import Derived.Test.YtpmihhbgjimpmaaGreatDoorOwn
import Derived.Test.YtpmihhbgjimpmaaGreatDoorMkRs
import Derived.Test.YtpmihhbgjimpmaaGreatDoorLineSS
import Derived.Test.YtpmihhbgjimpmaaGreatDoorForms
import Derived.Test.YtpmihhbgjimpmaaGreatDoorOpen
import Derived.Test.YtpmihhbgjimpmaaGreatDoorIntSS
namespace Go.Proofs.YtpmihhbgjimpmaaGreatDoor
open Go.RowKit
set_option linter.unusedVariables false

/-- Pot by pot: the form without its pots, and so many times each pot's form. -/
def intoC (C : List Int) (fs : List FV) : Nat → List Int
  | 0 => [0, 0, 0]
  | k + 1 => lin (intoC C fs k) (fs[k]?.getD noFV).C (C[k]?.getD 0)
def intoD (C D : List Int) (fs : List FV) : Nat → List Int
  | 0 => D
  | k + 1 => lin (intoD C D fs k) (fs[k]?.getD noFV).D (C[k]?.getD 0)
def intoK (C : List Int) (K : Int) (fs : List FV) : Nat → Int
  | 0 => K
  | k + 1 => intoK C K fs k + C[k]?.getD 0 * (fs[k]?.getD noFV).K

theorem lin_mul (xs ys : List Int) (n : Int) : List.zipWith (· + ·) xs (mulL n ys) = lin xs ys n := by
  simp [lin, mulL, List.zipWith_map_right]

/-- The same by one sum of four: the form without its pots first. -/
def terms (C D : List Int) (K : Int) (fs : List FV) : List Frm := ([0, 0, 0], D, K) :: (List.range 3).map fun i => (mulL (C[i]?.getD 0) (fs[i]?.getD noFV).C, mulL (C[i]?.getD 0) (fs[i]?.getD noFV).D, C[i]?.getD 0 * (fs[i]?.getD noFV).K)

theorem zip0 {xs : List Int} (h : xs.length = 3) : List.zipWith (· + ·) [0, 0, 0] xs = xs := by
  match xs, h with
  | [x, y, z], _ => simp
theorem zip02 {xs : List Int} (h : xs.length = 2) : List.zipWith (· + ·) [0, 0] xs = xs := by
  match xs, h with
  | [x, y], _ => simp

theorem terms_sum {C D : List Int} {K : Int} {fs : List FV} (hD : D.length = 2) :
    sumC (terms C D K fs) 4 = intoC C fs 3 ∧ sumD (terms C D K fs) 4 = intoD C D fs 3 ∧ sumK (terms C D K fs) 4 = intoK C K fs 3 := by
  have t0 : (terms C D K fs)[0]? = some ([0, 0, 0], D, K) := rfl
  have t1 : (terms C D K fs)[1]? = some (mulL (C[0]?.getD 0) (fs[0]?.getD noFV).C, mulL (C[0]?.getD 0) (fs[0]?.getD noFV).D, C[0]?.getD 0 * (fs[0]?.getD noFV).K) := rfl
  have t2 : (terms C D K fs)[2]? = some (mulL (C[1]?.getD 0) (fs[1]?.getD noFV).C, mulL (C[1]?.getD 0) (fs[1]?.getD noFV).D, C[1]?.getD 0 * (fs[1]?.getD noFV).K) := rfl
  have t3 : (terms C D K fs)[3]? = some (mulL (C[2]?.getD 0) (fs[2]?.getD noFV).C, mulL (C[2]?.getD 0) (fs[2]?.getD noFV).D, C[2]?.getD 0 * (fs[2]?.getD noFV).K) := rfl
  refine ⟨?_, ?_, ?_⟩
  · simp only [sumC, t0, t1, t2, t3, Option.getD_some, intoC]
    rw [zip0 (xs := [0, 0, 0]) rfl, lin_mul, lin_mul, lin_mul]
  · simp only [sumD, t0, t1, t2, t3, Option.getD_some, intoD]
    rw [zip02 hD, lin_mul, lin_mul, lin_mul]
  · simp only [sumK, t0, t1, t2, t3, Option.getD_some, intoK]
    omega

set_option maxHeartbeats 800000 in
theorem without_any (a : Option Addr) (n cap : Nat) (c : Option Addr) (m cap' : Nat) (K : Int) (w : World) :
    Calls Tryz.prog 194 #[formV a n cap c m cap' K] w fun e w' => ∃ P, e = .returned (formV (some ⟨P, 0, none⟩) 3 3 c m cap' K) ∧ Below w.heap.size w w' ∧ w.heap.size ≤ P ∧ Blk w' P [0, 0, 0] := by
  have hm3 := make3
  go_enter Tryz.func194, Tryz.ntmps194
  go_wp2_with fail
  go_region
  go_wp2
  exact bodyPost_ret (v := formV (some ⟨w.heap.size + 1 + 1, 0, none⟩) 3 3 c m cap' K) (by simp [results, Tryz.results194, go_sem]) rfl ⟨_, rfl, ((((Below.refl _ _).alloc (Nat.le_refl _) _).alloc (by simp) _).alloc (by simp; omega) _).drew, by omega, three2 w _ _ _⟩

end Go.Proofs.YtpmihhbgjimpmaaGreatDoor
namespace Go.Proofs.YtpmihhbgjimpmaaGreatDoor
open Go.RowKit
set_option linter.unusedVariables false
set_option maxRecDepth 100000

theorem lin_bnd {M P n : Int} {xs ys : List Int} {k : Nat} (h1 : xs.length = k) (h2 : ys.length = k) (hx : bnd M xs) (hy : bndT P n ys) (h0 : 0 ≤ M + P) : bnd (M + P) (lin xs ys n) := by
  intro i
  by_cases hi : i < k
  · rw [lin_get h1 h2 hi]
    have := hx i
    have := hy i
    omega
  · have : (lin xs ys n)[i]? = none := List.getElem?_eq_none (by rw [lin_len h1 h2]; omega)
    rw [this]
    simp only [Option.getD_none]
    omega
theorem mul_bnd {x y : Int} (a1 : -10000000 ≤ x) (a2 : x ≤ 10000000) (h1 : -10000000 ≤ y) (h2 : y ≤ 10000000) : -100000000000000 ≤ x * y ∧ x * y ≤ 100000000000000 := by
  have hx' : x.natAbs ≤ 10000000 := by omega
  have hy' : y.natAbs ≤ 10000000 := by omega
  have hm : (x * y).natAbs ≤ 10000000 * 10000000 := by rw [Int.natAbs_mul]; exact Nat.mul_le_mul hx' hy'
  omega
theorem mulT_bnd {C : List Int} {k : Int} (h : bnd 10000000 C) (h1 : -10000000 ≤ k) (h2 : k ≤ 10000000) : bndT 100000000000000 k C := by
  intro i
  have := h i
  exact mul_bnd h1 h2 this.1 this.2

/-- What is known of a form that is ok. -/
structure OkF (g : FV) : Prop where
  n : g.n = 3
  m : g.m = 2
  lC : g.C.length = 3
  lD : g.D.length = 2
  bC : bnd 10000000 g.C
  bD : bnd 10000000 g.D
  k1 : -10000000 ≤ g.K
  k2 : g.K ≤ 10000000
theorem OkF.of {g : FV} {w : World} (h : g.At w) (ok : g.ok = true) : OkF g := by
  obtain ⟨n3, m2, bC, bD, bK1, bK2⟩ := formB_elim ok
  exact ⟨n3, m2, by have := h.C.1; omega, by have := h.D.1; omega, bC, bD, bK1, bK2⟩

structure IntoF (C D : List Int) (K : Int) (fs : List FV) (k : Nat) : Prop where
  lC : (intoC C fs k).length = 3
  lD : (intoD C D fs k).length = 2
  bC : bnd (k * 100000000000000) (intoC C fs k)
  bD : bnd (10000000 + k * 100000000000000) (intoD C D fs k)
  k1 : -(10000000 + k * 100000000000000) ≤ intoK C K fs k
  k2 : intoK C K fs k ≤ 10000000 + k * 100000000000000
theorem IntoF.of {C D : List Int} {K : Int} {fs : List FV} (hD : D.length = 2) (bC : bnd 10000000 C) (bD : bnd 10000000 D) (k1 : -10000000 ≤ K) (k2 : K ≤ 10000000) (ho : ∀ i, i < 3 → OkF (fs[i]?.getD noFV)) : ∀ k : Nat, k ≤ 3 → IntoF C D K fs k
  | 0, _ => ⟨rfl, hD, by simpa [intoC] using bnd_zeros 3, by simpa [intoD] using bD, by simpa [intoK] using k1, by simpa [intoK] using k2⟩
  | k + 1, hk => by
    have ih := IntoF.of hD bC bD k1 k2 ho k (by omega)
    have g := ho k (by omega)
    have bc := bC k
    have e : ((k + 1 : Nat) : Int) = k + 1 := by omega
    have tC := mulT_bnd g.bC bc.1 bc.2
    have tD := mulT_bnd g.bD bc.1 bc.2
    have tK := mul_bnd bc.1 bc.2 g.k1 g.k2
    have i1 := ih.k1
    have i2 := ih.k2
    refine ⟨lin_len ih.lC g.lC, lin_len ih.lD g.lD, ?_, ?_, ?_, ?_⟩
    · have := lin_bnd ih.lC g.lC ih.bC tC (by omega)
      intro i
      have := this i
      simp only [intoC]
      omega
    · have := lin_bnd ih.lD g.lD ih.bD tD (by omega)
      intro i
      have := this i
      simp only [intoD]
      omega
    · simp only [intoK]; omega
    · simp only [intoK]; omega

/-- Whether the form that comes is ok, and all that it is made of. -/
def intoOk (n m : Nat) (C D : List Int) (K : Int) (N : Nat) (fs : List FV) : Bool := formB n m C D K && decide (N = 3) && fs.all FV.ok && formB 3 2 (intoC C fs 3) (intoD C D fs 3) (intoK C K fs 3)

/-- A call's box for a form, its result's room, old memory. -/
structure IH (w : World) (a : Option Addr) (n cap : Nat) (c : Option Addr) (m cap' : Nat) (K : Int) (w' : World) : Prop where
  p : Cel w' w.heap.size [.slice a n cap, .slice c m cap', .int .i64 K] 95
  r : Cel w' (w.heap.size + 1) [.slice none 0 0, .slice none 0 0, .int .i64 0] 95
  b : Below w.heap.size w w'
section
variable {w W w3 : World} {a c : Option Addr} {n cap m cap' : Nat} {K : Int}
theorem IH.below (h : IH w a n cap c m cap' K W) (b : Below W.heap.size W w3) : IH w a n cap c m cap' K w3 := ⟨h.p.below b, h.r.below b, h.b.trans (b.mono h.b.size)⟩
theorem IH.drew (h : IH w a n cap c m cap' K W) : IH w a n cap c m cap' K W.drew := ⟨h.p, h.r, h.b.drew⟩
theorem IH.alloc (h : IH w a n cap c m cap' K W) (o : Obj) : IH w a n cap c m cap' K (W.alloc o) := h.below ((Below.refl _ _).alloc (Nat.le_refl _) _)
theorem IH.set (h : IH w a n cap c m cap' K W) {X : Nat} (hX : w.heap.size + 1 < X) (i : Nat) (v : Value) : IH w a n cap c m cap' K (W.setCell ⟨X, i, none⟩ v) :=
  ⟨h.p.setOther (by omega) i v, h.r.setOther (by omega) i v, h.b.setCell (by show w.heap.size ≤ X; omega) v⟩
theorem IH.new : IH w a n cap c m cap' K ((w.alloc (Obj.cells #[Value.slice a n cap, Value.slice c m cap', Value.int IntKind.i64 K] 95)).alloc (Obj.cells #[Value.slice none 0 0, Value.slice none 0 0, Value.int IntKind.i64 0] 95)) :=
  ⟨(Cel.new w _ _).alloc _, by have := Cel.new (w.alloc (Obj.cells #[Value.slice a n cap, Value.slice c m cap', Value.int IntKind.i64 K] 95)) [.slice none 0 0, .slice none 0 0, .int .i64 0] 95; rw [World.size_alloc] at this; exact this, ((Below.refl _ _).alloc (Nat.le_refl _) _).alloc (by simp) _⟩
theorem IH.cells (h : IH w a n cap c m cap' K W) :
    W.cell? ⟨w.heap.size, 0, none⟩ = some (.slice a n cap) ∧ W.cell? ⟨w.heap.size, 1, none⟩ = some (.slice c m cap') ∧ W.cell? ⟨w.heap.size, 2, none⟩ = some (.int .i64 K) := ⟨h.p.cell 0, h.p.cell 1, h.p.cell 2⟩
theorem IH.room (h : IH w a n cap c m cap' K W) :
    W.cell? ⟨w.heap.size + 1, 0, none⟩ = some (.slice none 0 0) ∧ W.cell? ⟨w.heap.size + 1, 1, none⟩ = some (.slice none 0 0) ∧ W.cell? ⟨w.heap.size + 1, 2, none⟩ = some (.int .i64 0) ∧ W.frozen? ⟨w.heap.size + 1, 0, none⟩ = false ∧ W.frozen? ⟨w.heap.size + 1, 1, none⟩ = false ∧ W.frozen? ⟨w.heap.size + 1, 2, none⟩ = false := ⟨h.r.cell 0, h.r.cell 1, h.r.cell 2, h.r.free 0, h.r.free 1, h.r.free 2⟩
theorem IH.none (h : IH w a n cap c m cap' K W) : Res w (((W.setCell ⟨w.heap.size + 1, 0, Option.none⟩ (.slice Option.none 0 0)).setCell ⟨w.heap.size + 1, 1, Option.none⟩ (.slice Option.none 0 0)).setCell ⟨w.heap.size + 1, 2, Option.none⟩ (.int .i64 0)) (.returned (formV Option.none 0 0 Option.none 0 0 0)) [] [] 0 :=
  Res.none rfl (((h.b.setCell (by simp only []; omega) _).setCell (by simp only []; omega) _).setCell (by simp only []; omega) _)
end

end Go.Proofs.YtpmihhbgjimpmaaGreatDoor
namespace Go.Proofs.YtpmihhbgjimpmaaGreatDoor
open Go.RowKit
set_option linter.unusedVariables false
set_option maxRecDepth 100000

theorem at20 (w : World) (o0 o1 : Obj) : ((w.alloc o0).alloc o1).drew.heap[w.heap.size]? = some o0 := by
  show ((w.heap.push o0).push o1)[w.heap.size]? = some o0
  simp only [Array.getElem?_push, Array.size_push]
  repeat (first | rw [if_pos trivial] | rw [if_neg (by omega)])
theorem lt20 (w : World) (o0 o1 : Obj) : w.heap.size < ((w.alloc o0).alloc o1).drew.heap.size := by
  show w.heap.size < ((w.heap.push o0).push o1).size
  simp only [Array.size_push]
  omega
theorem at21 (w : World) (o0 o1 : Obj) : ((w.alloc o0).alloc o1).drew.heap[w.heap.size + 1]? = some o1 := by
  show ((w.heap.push o0).push o1)[w.heap.size + 1]? = some o1
  simp only [Array.getElem?_push, Array.size_push]
  repeat (first | rw [if_pos trivial] | rw [if_neg (by omega)])
theorem lt21 (w : World) (o0 o1 : Obj) : w.heap.size + 1 < ((w.alloc o0).alloc o1).drew.heap.size := by
  show w.heap.size + 1 < ((w.heap.push o0).push o1).size
  simp only [Array.size_push]
  omega
theorem at30 (w : World) (o0 o1 o2 : Obj) : (((w.alloc o0).alloc o1).alloc o2).drew.heap[w.heap.size]? = some o0 := by
  show (((w.heap.push o0).push o1).push o2)[w.heap.size]? = some o0
  simp only [Array.getElem?_push, Array.size_push]
  repeat (first | rw [if_pos trivial] | rw [if_neg (by omega)])
theorem lt30 (w : World) (o0 o1 o2 : Obj) : w.heap.size < (((w.alloc o0).alloc o1).alloc o2).drew.heap.size := by
  show w.heap.size < (((w.heap.push o0).push o1).push o2).size
  simp only [Array.size_push]
  omega
theorem at31 (w : World) (o0 o1 o2 : Obj) : (((w.alloc o0).alloc o1).alloc o2).drew.heap[w.heap.size + 1]? = some o1 := by
  show (((w.heap.push o0).push o1).push o2)[w.heap.size + 1]? = some o1
  simp only [Array.getElem?_push, Array.size_push]
  repeat (first | rw [if_pos trivial] | rw [if_neg (by omega)])
theorem lt31 (w : World) (o0 o1 o2 : Obj) : w.heap.size + 1 < (((w.alloc o0).alloc o1).alloc o2).drew.heap.size := by
  show w.heap.size + 1 < (((w.heap.push o0).push o1).push o2).size
  simp only [Array.size_push]
  omega
theorem at32 (w : World) (o0 o1 o2 : Obj) : (((w.alloc o0).alloc o1).alloc o2).drew.heap[w.heap.size + 1 + 1]? = some o2 := by
  show (((w.heap.push o0).push o1).push o2)[w.heap.size + 1 + 1]? = some o2
  simp only [Array.getElem?_push, Array.size_push]
  repeat (first | rw [if_pos trivial] | rw [if_neg (by omega)])
theorem lt32 (w : World) (o0 o1 o2 : Obj) : w.heap.size + 1 + 1 < (((w.alloc o0).alloc o1).alloc o2).drew.heap.size := by
  show w.heap.size + 1 + 1 < (((w.heap.push o0).push o1).push o2).size
  simp only [Array.size_push]
  omega

theorem sz1 (w : World) (o0 : Obj) : (w.alloc o0).drew.heap.size = w.heap.size + 1 := by show (w.heap.push o0).size = _; simp only [Array.size_push]
theorem sz2 (w : World) (o0 o1 : Obj) : ((w.alloc o0).alloc o1).drew.heap.size = w.heap.size + 1 + 1 := by show ((w.heap.push o0).push o1).size = _; simp only [Array.size_push]
theorem sz3 (w : World) (o0 o1 o2 : Obj) : (((w.alloc o0).alloc o1).alloc o2).drew.heap.size = w.heap.size + 1 + 1 + 1 := by show (((w.heap.push o0).push o1).push o2).size = _; simp only [Array.size_push]
theorem own_ints {W : World} {base g cap n : Nat} {D : List Int} (h : W.ownsRow base 3 1 (.slice (some ⟨g, 0, none⟩) (0 + n) cap) (0 + n) ([] ++ D.map (Value.int .i64))) (hl : D.length = n) : Ints W (some ⟨g, 0, none⟩) n D := by
  refine ⟨hl, fun i hi => ⟨g, 0, rfl, ?_⟩⟩
  rcases h.2 with ⟨h', _⟩ | ⟨g', cap', cur, h', _, hg, _, _, hcs, htake⟩
  · simp at h'
  · simp only [Value.slice.injEq, Option.some.injEq, Addr.mk.injEq, and_true, true_and] at h'
    obtain ⟨rfl, rfl⟩ := h'
    have e : cur[i]? = (([] ++ D.map (Value.int .i64)) : List Value)[i]? := by
      rw [← htake, List.getElem?_take_of_lt (by omega)]
      simp
    simp only [World.cell?, hg]
    simp only [Nat.zero_add]
    rw [e]
    simp [hl, hi]
theorem Ints.set {W : World} {a : Option Addr} {n X : Nat} {zs : List Int} (h : Ints W a n zs) (hx : ∀ b o, a = some ⟨b, o, none⟩ → b ≠ X) (i : Nat) (v : Value) : Ints (W.setCell ⟨X, i, none⟩ v) a n zs := by
  refine ⟨h.1, fun j hj => ?_⟩
  obtain ⟨b, off, hab, hc⟩ := h.2 j hj
  refine ⟨b, off, hab, ?_⟩
  rw [← hc]
  exact World.cell?_of_block (Below.heap_setCell _ _ _ _ (hx b off hab))
theorem Cel.set3 {w : World} {B : Nat} {x y z : Value} {t : TypeId} (h : Cel w B [x, y, z] t) (u v u' : Value) : Cel (((w.setCell ⟨B, 0, none⟩ u).setCell ⟨B, 1, none⟩ v).setCell ⟨B, 2, none⟩ u') B [u, v, u'] t := ((h.set 0 u).set 1 v).set 2 u'
theorem Cel.new1 (w : World) (o : Obj) (vs : List Value) (t : TypeId) : Cel ((w.alloc o).alloc (.cells vs.toArray t)) (w.heap.size + 1) vs t := by
  have := Cel.new (w.alloc o) vs t
  rw [World.size_alloc] at this; exact this
theorem Blk.new3s (w : World) (p q r : Addr) (u v x : Value) : Blk ((((w.setCell p u).setCell q v).setCell r x).alloc (.cells #[.int .i64 0, .int .i64 0, .int .i64 0] 3)) w.heap.size [0, 0, 0] := by
  have := Blk.new3 (((w.setCell p u).setCell q v).setCell r x)
  rw [size_setCell, size_setCell, size_setCell] at this; exact this
theorem Blk.new31 (w : World) (o : Obj) : Blk ((w.alloc o).alloc (.cells #[.int .i64 0, .int .i64 0, .int .i64 0] 3)) (w.heap.size + 1) [0, 0, 0] := by
  have := Blk.new3 (w.alloc o)
  rw [World.size_alloc] at this; exact this

theorem row_news {W : World} {cb co n : Nat} {D : List Int} (h : Ints W (some ⟨cb, co, none⟩) n D) : ∀ (j : Nat) (u : Value), (D.map (Value.int .i64))[j]? = some u → W.cell? ((⟨cb, co, none⟩ : Addr).add j) = some u := fun j u hu => by
  rw [List.getElem?_map] at hu
  obtain ⟨z, hz, rfl⟩ := Option.map_eq_some_iff.1 hu
  have hj : j < n := by rw [← h.1]; exact (List.getElem?_eq_some_iff.1 hz).1
  obtain ⟨b, off, he, hc⟩ := h.2 j hj
  simp only [Option.some.injEq, Addr.mk.injEq, and_true] at he
  obtain ⟨rfl, rfl⟩ := he
  have hadd : (⟨cb, co, none⟩ : Addr).add j = ⟨cb, co + j, none⟩ := by
    by_cases h0 : j = 0
    · subst h0; simp [Addr.add]
    · simp [Addr.add, h0]
  rw [hadd, hc]
  simp [hz]
theorem row_one (D : List Int) : ∀ u ∈ D.map (Value.int .i64), u.oneCell' = true := by
  intro u hu
  obtain ⟨z, _, rfl⟩ := List.mem_map.1 hu
  rfl

end Go.Proofs.YtpmihhbgjimpmaaGreatDoor
namespace Go.Proofs.YtpmihhbgjimpmaaGreatDoor
open Go.RowKit
set_option linter.unusedVariables false
set_option maxRecDepth 100000

theorem own_below {W W' : World} {base : Nat} {e : TypeId} {s : Nat} {v : Value} {n : Nat} {xs : List Value} (h : W.ownsRow base e s v n xs) (b : Below W.heap.size W W') : W'.ownsRow base e s v n xs := by
  refine ⟨h.1, ?_⟩
  rcases h.2 with h0 | ⟨g, cap, cur, hv, hb, hg, hr⟩
  · exact .inl h0
  · exact .inr ⟨g, cap, cur, hv, hb, by rw [b.block g (lt_of_block hg)]; exact hg, hr⟩
theorem own_cell {W : World} {base g cap n s : Nat} {e : TypeId} {xs : List Value} (h : W.ownsRow base e s (.slice (some ⟨g, 0, none⟩) n cap) n xs) (j : Nat) (hj : j < n * s) : W.cell? ⟨g, j, none⟩ = xs[j]? := by
  rcases h.2 with ⟨h', _⟩ | ⟨g', cap', cur, h', _, hg, _, _, hcs, htake⟩
  · simp at h'
  · simp only [Value.slice.injEq, Option.some.injEq, Addr.mk.injEq, and_true, true_and] at h'
    obtain ⟨rfl, rfl⟩ := h'
    have e : cur[j]? = xs[j]? := by
      rw [← htake, List.getElem?_take_of_lt hj]
      simp
    simp only [World.cell?, hg]
    exact e
theorem Ints.grown {W W' : World} {a : Option Addr} {n G : Nat} {zs : List Int} (h : Ints W a n zs) (hg : W.grownBy W' (some G)) (hx : ∀ b o, a = some ⟨b, o, none⟩ → b ≠ G) : Ints W' a n zs := by
  refine ⟨h.1, fun j hj => ?_⟩
  obtain ⟨b, off, hab, hc⟩ := h.2 j hj
  refine ⟨b, off, hab, ?_⟩
  rw [hg.cell_far ⟨b, off + j, none⟩ (block_lt hc) (by simpa using hx b off hab)]
  exact hc
theorem Ints.blt {W : World} {a : Option Addr} {n : Nat} {zs : List Int} (h : Ints W a n zs) (hn : 0 < n) (b o : Nat) (e : a = some ⟨b, o, none⟩) : b < W.heap.size := by
  obtain ⟨b', o', e', hc⟩ := h.2 0 hn
  rw [e] at e'
  simp only [Option.some.injEq, Addr.mk.injEq, and_true] at e'
  rw [e'.1]
  exact block_lt hc

/-- The first so many terms, in a row of cells. -/
def TermsOk (W : World) (G : Nat) (xs : List Value) (T : List Frm) (n : Nat) : Prop :=
  ∀ j, j < n → ∃ a' c' ca cc, xs[j * 3]? = some (.slice a' 3 ca) ∧ xs[j * 3 + 1]? = some (.slice c' 2 cc) ∧ xs[j * 3 + 2]? = some (.int .i64 (T[j]?.getD ([], [], 0)).2.2) ∧ Ints W a' 3 (T[j]?.getD ([], [], 0)).1 ∧ Ints W c' 2 (T[j]?.getD ([], [], 0)).2.1 ∧ (∀ b o, a' = some ⟨b, o, none⟩ → b ≠ G) ∧ (∀ b o, c' = some ⟨b, o, none⟩ → b ≠ G)
theorem TermsOk.below {W W' : World} {G : Nat} {xs : List Value} {T : List Frm} {n : Nat} (h : TermsOk W G xs T n) (b : Below W.heap.size W W') : TermsOk W' G xs T n := fun j hj => by
  obtain ⟨a', c', ca, cc, e0, e1, e2, i1, i2, n1, n2⟩ := h j hj
  exact ⟨a', c', ca, cc, e0, e1, e2, i1.below b, i2.below b, n1, n2⟩
theorem TermsOk.step {W W' : World} {G g n : Nat} {xs : List Value} {T : List Frm} (h : TermsOk W G xs T n) (hl : xs.length = n * 3) (hg : W.grownBy W' (some G)) (hat : g = G ∨ W.heap.size ≤ g) {B1 B2 ca cc : Nat} {C D : List Int} {K : Int}
    (k1 : Ints W (some ⟨B1, 0, none⟩) 3 C) (k2 : Ints W (some ⟨B2, 0, none⟩) 2 D) (n1 : B1 ≠ G) (n2 : B2 ≠ G) (hT : T[n]?.getD ([], [], 0) = (C, D, K)) :
    TermsOk W' g (xs ++ [.slice (some ⟨B1, 0, none⟩) 3 ca, .slice (some ⟨B2, 0, none⟩) 2 cc, .int .i64 K]) T (n + 1) := fun j hj => by
  have l1 := k1.blt (by omega) B1 0 rfl
  have l2 := k2.blt (by omega) B2 0 rfl
  by_cases hjn : j < n
  · obtain ⟨a', c', ca, cc, e0, e1, e2, i1, i2, m1, m2⟩ := h j hjn
    refine ⟨a', c', ca, cc, ?_, ?_, ?_, i1.grown hg m1, i2.grown hg m2, fun b o e => ?_, fun b o e => ?_⟩
    · rw [List.getElem?_append_left (by omega)]; exact e0
    · rw [List.getElem?_append_left (by omega)]; exact e1
    · rw [List.getElem?_append_left (by omega)]; exact e2
    · have := m1 b o e
      have := i1.blt (by omega) b o e
      omega
    · have := m2 b o e
      have := i2.blt (by omega) b o e
      omega
  · obtain rfl : j = n := by omega
    rw [hT]
    refine ⟨some ⟨B1, 0, none⟩, some ⟨B2, 0, none⟩, ca, cc, ?_, ?_, ?_, k1.grown hg (fun b o e => ?_), k2.grown hg (fun b o e => ?_), fun b o e => ?_, fun b o e => ?_⟩
    · rw [List.getElem?_append_right (by omega), hl]; simp
    · rw [List.getElem?_append_right (by omega), hl, Nat.add_sub_cancel_left]; rfl
    · rw [List.getElem?_append_right (by omega), hl, Nat.add_sub_cancel_left]; rfl
    all_goals
      simp only [Option.some.injEq, Addr.mk.injEq, and_true] at e
      omega
theorem TermsOk.forms {W : World} {base G cap : Nat} {xs : List Value} {T : List Frm} {n : Nat} (h : TermsOk W G xs T n) (hT : T.length = n) (ho : W.ownsRow base 95 3 (.slice (some ⟨G, 0, none⟩) n cap) n xs) : FormsAt W (some ⟨G, 0, none⟩) T := fun i hi => by
  obtain ⟨a', c', ca, cc, e0, e1, e2, i1, i2, _, _⟩ := h i (by omega)
  refine ⟨G, 0, rfl, a', c', ca, cc, ?_, ?_, ?_, i1, i2⟩
  · rw [own_cell ho _ (by omega), Nat.zero_add]; exact e0
  · rw [own_cell ho _ (by omega), Nat.zero_add]; exact e1
  · rw [own_cell ho _ (by omega), Nat.zero_add]; exact e2

theorem terms_at {C D : List Int} {K : Int} {fs : List FV} {k : Nat} (h : k < 3) : (terms C D K fs)[k + 1]?.getD ([], [], 0) = (mulL (C[k]?.getD 0) (fs[k]?.getD noFV).C, mulL (C[k]?.getD 0) (fs[k]?.getD noFV).D, C[k]?.getD 0 * (fs[k]?.getD noFV).K) := by
  match k, h with
  | 0, _ => rfl
  | 1, _ => rfl
  | 2, _ => rfl
theorem mulL_bnd {n P : Int} {zs : List Int} (h : bndT P n zs) (h0 : 0 ≤ P) : bnd P (mulL n zs) := fun i => by
  by_cases hi : i < zs.length
  · rw [mulL_get hi]; exact h i
  · have : (mulL n zs)[i]? = none := List.getElem?_eq_none (by rw [mulL_len]; omega)
    rw [this]
    simp only [Option.getD_none]
    omega
theorem terms_fit {C D : List Int} {K : Int} {fs : List FV} (hD : D.length = 2) (bC : bnd 10000000 C) (bD : bnd 10000000 D) (k1 : -10000000 ≤ K) (k2 : K ≤ 10000000) (ho : ∀ i, i < 3 → OkF (fs[i]?.getD noFV)) : ∀ i, i < (terms C D K fs).length → fits 100000000000000 ((terms C D K fs)[i]?.getD ([], [], 0)) := fun i hi => by
  have hl : (terms C D K fs).length = 4 := rfl
  match i, hi with
  | 0, _ => exact ⟨rfl, hD, fun i => by have := bnd_zeros 3 i; simp only [List.replicate] at this; show -100000000000000 ≤ ([0, 0, 0] : List Int)[i]?.getD 0 ∧ ([0, 0, 0] : List Int)[i]?.getD 0 ≤ 100000000000000; omega, fun i => by have := bD i; show -100000000000000 ≤ D[i]?.getD 0 ∧ D[i]?.getD 0 ≤ 100000000000000; omega, by show -100000000000000 ≤ K; omega, by show K ≤ 100000000000000; omega⟩
  | j + 1, hj =>
    have hj' : j < 3 := by omega
    rw [terms_at hj']
    have g := ho j hj'
    have bc := bC j
    have tK := mul_bnd bc.1 bc.2 g.k1 g.k2
    exact ⟨by simp only [mulL_len]; exact g.lC, by simp only [mulL_len]; exact g.lD, mulL_bnd (mulT_bnd g.bC bc.1 bc.2) (by omega), mulL_bnd (mulT_bnd g.bD bc.1 bc.2) (by omega), tK.1, tK.2⟩

set_option maxHeartbeats 1600000 in
theorem iinto_no (a : Option Addr) (n cap : Nat) (c : Option Addr) (m cap' : Nat) (K : Int) (C D : List Int) (ad : Option Addr) (N capN : Nat) (fs : List FV) (w : World) (hC : Ints w a n C) (hD : Ints w c m D) (hn : n ≤ 1048576) (hm : m ≤ 1048576)
    (hN : fs.length = N) (hF : FormsG w ad fs) (hN1 : N ≤ 1048576) (hno : (formB n m C D K && decide (N = 3) && fs.all FV.ok) = false) :
    Calls Tryz.prog 182 #[formV a n cap c m cap' K, .slice ad N capN] w fun e w' => Res w w' e [] [] 0 := by
  have n0 := IH.new (w := w) (a := a) (n := n) (cap := cap) (c := c) (m := m) (cap' := cap') (K := K)
  by_cases h2 : (N : Int) = 3
  · have h2' : ((N : Int) != 3) = false := by simpa using h2
    have hN3 : N = 3 := by omega
    have HN3 : Hid (N = 3) := hN3
    clear h2 hN3
    cases h1 : formB n m C D K
    · clear hno
      go_enter Tryz.func182, Tryz.ntmps182
      go_wp2_with fail
      refine (iok_any _ _ _ _ _ _ _ C D _ (hC.below n0.b) (hD.below n0.b) hn hm).mono ?_
      rintro e w1 ⟨rfl, b1⟩
      have H := n0.below b1
      obtain ⟨r0, r1, r2, r3, r4, r5⟩ := H.room
      go_wp2
      exact bodyPost_ret (v := formV none 0 0 none 0 0 0) (by simp [results, Tryz.results182, go_sem, r0, r1, r2]) rfl H.none
    · have hno' : fs.all FV.ok = false := by simpa [h1, HN3.out] using hno
      clear hno
      go_enter Tryz.func182, Tryz.ntmps182
      go_wp2_with fail
      refine (iok_any _ _ _ _ _ _ _ C D _ (hC.below n0.b) (hD.below n0.b) hn hm).mono ?_
      rintro e w1 ⟨rfl, b1⟩
      have H1 := n0.below b1
      go_wp2_with fail
      refine (allForms_any _ _ _ fs _ hN (hF.below H1.b) hN1).mono ?_
      rintro e w2 ⟨rfl, b2⟩
      rw [hno']
      have H := H1.below b2
      obtain ⟨r0, r1, r2, r3, r4, r5⟩ := H.room
      go_wp2
      exact bodyPost_ret (v := formV none 0 0 none 0 0 0) (by simp [results, Tryz.results182, go_sem, r0, r1, r2]) rfl H.none
  · clear hno
    have h2' : ((N : Int) != 3) = true := by simpa using h2
    obtain ⟨r0, r1, r2, r3, r4, r5⟩ := n0.room
    go_enter Tryz.func182, Tryz.ntmps182
    go_wp2
    exact bodyPost_ret (v := formV none 0 0 none 0 0 0) (by simp [results, Tryz.results182, go_sem, r0, r1, r2]) rfl (Res.none rfl n0.b)

set_option maxHeartbeats 3200000 in
theorem iinto_yes (a : Option Addr) (cap : Nat) (c : Option Addr) (cap' : Nat) (K : Int) (C D : List Int) (b off capN : Nat) (fs : List FV) (w : World) (hC : Ints w a 3 C) (hD : Ints w c 2 D)
    (hN : fs.length = 3) (hF : FormsG w (some ⟨b, off, none⟩) fs) (h1 : formB 3 2 C D K = true) (hall : fs.all FV.ok = true) :
    Calls Tryz.prog 182 #[formV a 3 cap c 2 cap' K, .slice (some ⟨b, off, none⟩) 3 capN] w fun e w' => Res w w' e (keepL (formB 3 2 (intoC C fs 3) (intoD C D fs 3) (intoK C K fs 3)) (intoC C fs 3)) (keepL (formB 3 2 (intoC C fs 3) (intoD C D fs 3) (intoK C K fs 3)) (intoD C D fs 3)) (keepK (formB 3 2 (intoC C fs 3) (intoD C D fs 3) (intoK C K fs 3)) (intoK C K fs 3)) := by
  have n0 := IH.new (w := w) (a := a) (n := 3) (cap := cap) (c := c) (m := 2) (cap' := cap') (K := K)
  obtain ⟨-, -, bC, bD, bK1, bK2⟩ := formB_elim h1
  have hg : ∀ i, i < 3 → ∃ x : FV, x = fs[i]?.getD noFV ∧ OkF x ∧ x.ok = true ∧ x.At w ∧ w.cell? ⟨b, off + i * 3, none⟩ = some (.slice x.a x.n x.cap) ∧ w.cell? ⟨b, off + i * 3 + 1, none⟩ = some (.slice x.c x.m x.cap') ∧ w.cell? ⟨b, off + i * 3 + 2, none⟩ = some (.int .i64 x.K) := fun i hi => by
    obtain ⟨b', off', hb', q0, q1, q2, A1⟩ := hF i (by omega)
    simp only [Option.some.injEq, Addr.mk.injEq, and_true] at hb'
    obtain ⟨rfl, rfl⟩ := hb'
    have ok : (fs[i]?.getD noFV).ok = true := by
      rw [List.all_eq_true] at hall
      rw [List.getElem?_eq_getElem (by omega)]
      exact hall _ (List.getElem_mem _)
    exact ⟨_, rfl, OkF.of A1 ok, ok, A1, q0, q1, q2⟩
  have ho : ∀ i, i < 3 → OkF (fs[i]?.getD noFV) := fun i hi => by
    obtain ⟨x, rfl, h, _⟩ := hg i hi; exact h
  have HI : Hid _ := IntoF.of hD.1 bC bD bK1 bK2 ho 3 (by omega)
  have HT : Hid _ := terms_fit (K := K) hD.1 bC bD bK1 bK2 ho
  have HS : Hid _ := terms_sum (C := C) (K := K) (fs := fs) hD.1
  have HG : Hid _ := hg
  obtain ⟨lb0, _⟩ : b < w.heap.size ∧ True := by
    obtain ⟨x, rfl, _, _, _, q0, _⟩ := hg 0 (by omega)
    exact ⟨block_lt q0, trivial⟩
  clear hg ho
  obtain ⟨cb, co, rfl, hDc⟩ := hD.pos (by omega)
  obtain ⟨ab, ao, rfl, hCc⟩ := hC.pos (by omega)
  have lcb := hD.blt (by omega) cb co rfl
  have lab0 := hC.blt (by omega) ab ao rfl
  clear hDc hCc
  obtain ⟨i0, hi, hz0, hz1, hz2⟩ := info_parts Tryz.infoForm
  go_enter Tryz.func182, Tryz.ntmps182
  go_wp2_with fail
  refine (iok_any _ _ _ _ _ _ _ C D _ (hC.below n0.b) (hD.below n0.b) (by omega) (by omega)).mono ?_
  rintro e w1 ⟨rfl, b1⟩
  have H1 := n0.below b1
  clear n0 b1
  go_wp2_with fail
  refine (allForms_any _ _ _ fs _ hN (hF.below H1.b) (by omega)).mono ?_
  rintro e w2 ⟨rfl, b2⟩
  rw [hall]
  have H2 := H1.below b2
  have G2 := H2.cells
  clear H1 b2 hall hF hN
  go_wp2_with fail
  refine (without_any _ _ _ _ _ _ _ _).mono ?_
  rintro e w3 ⟨P, rfl, b3, hP, kP⟩
  have H3 := H2.below b3
  have A2 := H2.b.size
  have A3 := b3.size
  have A4 := H3.r.lt
  clear G2
  have HT0 : TermsOk (w3.alloc (Obj.cells #[Value.slice (some ⟨P, 0, none⟩) 3 3, Value.slice (some ⟨cb, co, none⟩) 2 cap', Value.int .i64 K] 95)) w3.heap.size [Value.slice (some ⟨P, 0, none⟩) 3 3, Value.slice (some ⟨cb, co, none⟩) 2 cap', Value.int .i64 K] (terms C D K fs) 1 := fun j hj => by
    obtain rfl : j = 0 := by omega
    have lP := kP.lt
    refine ⟨some ⟨P, 0, none⟩, some ⟨cb, co, none⟩, 3, cap', rfl, rfl, rfl, (kP.alloc _).ints' (n := 3) rfl, (hD.below H3.b).alloc _, fun x o e => ?_, fun x o e => ?_⟩
    all_goals
      simp only [Option.some.injEq, Addr.mk.injEq, and_true] at e
      omega
  have HO0 : (w3.alloc (Obj.cells #[Value.slice (some ⟨P, 0, none⟩) 3 3, Value.slice (some ⟨cb, co, none⟩) 2 cap', Value.int .i64 K] 95)).ownsRow (w.heap.size + 2) 95 3 (.slice (some ⟨w3.heap.size, 0, none⟩) 1 1) 1 [Value.slice (some ⟨P, 0, none⟩) 3 3, Value.slice (some ⟨cb, co, none⟩) 2 cap', Value.int .i64 K] :=
    ⟨rfl, .inr ⟨w3.heap.size, 1, _, rfl, by omega, heap_alloc_new w3 _, by omega, by unfold maxLen; omega, rfl, rfl⟩⟩
  have H4 := H3.alloc (Obj.cells #[Value.slice (some ⟨P, 0, none⟩) 3 3, Value.slice (some ⟨cb, co, none⟩) 2 cap', Value.int .i64 K] 95)
  clear H3 b3 kP H2
  go_wp2_with fail
  go_loopw [5, 6, 7, 27] (fun tv _ _ i wr => ∃ k : Nat, k ≤ 3 ∧ i = .int .i64 k ∧ IH w (some ⟨ab, ao, none⟩) 3 cap (some ⟨cb, co, none⟩) 2 cap' K wr ∧ ∃ G cp xs, tv = .slice (some ⟨G, 0, none⟩) (k + 1 : Nat) cp ∧ wr.ownsRow (w.heap.size + 2) 95 3 (.slice (some ⟨G, 0, none⟩) (k + 1) cp) (k + 1) xs ∧ TermsOk wr G xs (terms C D K fs) (k + 1)) (fun _ _ _ i _ => 3 - (intOf i).toNat)
  case atStart => exact ⟨0, by omega, rfl, H4, _, _, _, rfl, HO0, HT0⟩
  case round =>
    clear HT0 HO0 H4 A2 A3 A4 hP
    obtain ⟨k, hk, rfl, HX, G, cp, xs, rfl, hown, hT⟩ := hrel
    by_cases hlt : k < 3
    · obtain ⟨x, hx, okf, -, A, q0, q1, q2⟩ := HG.out k hlt
      obtain ⟨xa, xn, xcap, xc, xm, xcap', xK, xC, xD⟩ := x
      obtain ⟨x1, x2, x3, x4⟩ := A
      obtain ⟨o1, o2, o3, o4, o5, o6, o7, o8⟩ := okf
      simp only at o1 o2 o3 o4 o5 o6 o7 o8 q0 q1 q2 x1 x2
      subst o1 o2
      have HX' : Hid _ := hx
      clear hx x3 x4
      have s0 := (HX.b.cell (p := ⟨b, off + k * 3, none⟩) lb0).trans q0
      have s1 := (HX.b.cell (p := ⟨b, off + k * 3 + 1, none⟩) lb0).trans q1
      have s2 := (HX.b.cell (p := ⟨b, off + k * 3 + 2, none⟩) lb0).trans q2
      have bc := bC k
      have tC := tim_bnd o5 bc.1 bc.2
      have tD := tim_bnd o6 bc.1 bc.2
      have tK := tim_num o7 o8 bc.1 bc.2
      have ET := terms_at (C := C) (D := D) (K := K) (fs := fs) hlt
      rw [← HX'.out] at ET
      have HET : Hid _ := ET
      have hck : wr.cell? ⟨ab, ao + k, none⟩ = some (.int .i64 (C[k]?.getD 0)) := by
        obtain ⟨b', off', he, hc⟩ := (hC.below HX.b).2 k hlt
        simp only [Option.some.injEq, Addr.mk.injEq, and_true] at he
        obtain ⟨rfl, rfl⟩ := he
        simpa using hc
      have GX := HX.cells.1
      have hlt' : (k : Int) < 3 := by omega
      have hlt0 : (0 : Int) ≤ (k : Int) := by omega
      have lG := (hown.lt G rfl).2
      have lG0 := (hown.lt G rfl).1
      have lr := HX.r.lt
      have lab := block_lt hck
      clear ET bc q0 q1 q2
      generalize C[k]?.getD 0 = ck at *
      go_wp2_with fail
      obtain ⟨W1, hW1⟩ : ∃ W1, W1 = wr.alloc (Obj.cells #[Value.slice xa 3 xcap, Value.slice xc 2 xcap', Value.int .i64 xK] 95) := ⟨_, rfl⟩
      have sW1 : W1.heap.size = wr.heap.size + 1 := by rw [hW1, World.size_alloc]
      have BW : Below wr.heap.size wr W1 := by rw [hW1]; exact (Below.refl _ _).alloc (Nat.le_refl _) _
      have cW : Cel W1 wr.heap.size [Value.slice xa 3 xcap, Value.slice xc 2 xcap', Value.int .i64 xK] 95 := by rw [hW1]; exact Cel.new wr _ _
      rw [← hW1]
      clear hW1
      have HX1 := HX.below BW
      have hT1 := hT.below BW
      have hO1 := own_below hown BW
      have GX1 := HX1.cells.1
      have hck1 := (BW.cell (p := ⟨ab, ao + k, none⟩) lab).trans hck
      obtain ⟨e0, e1, e2, -, -, -⟩ := cW.trio
      have hS1 := And.intro e0 (And.intro e1 (And.intro e2 (And.intro GX1 hck1)))
      clear hT hown HX hck GX s0 s1 s2 BW cW
      go_region_held3 (fun w' => w'.cell? ⟨wr.heap.size, 0, none⟩ = some (.slice xa 3 xcap) ∧ w'.cell? ⟨wr.heap.size, 1, none⟩ = some (.slice xc 2 xcap') ∧ w'.cell? ⟨wr.heap.size, 2, none⟩ = some (.int .i64 xK) ∧ w'.cell? ⟨w.heap.size, 0, none⟩ = some (.slice (some ⟨ab, ao, none⟩) 3 cap) ∧ w'.cell? ⟨ab, ao + k, none⟩ = some (.int .i64 ck)) (first | with_reducible assumption | exact hS1 | with_reducible exact hS5a _)
        (first
          | (go_at_call 195
             refine (times_any _ _ _ _ _ xC xD _ _ (by exact x1.below HX1.drew.b) (by exact x2.below HX1.drew.b) tC tD tK).mono ?_
             rintro e w5 ⟨B1, B2, rfl, b5, g1, g2, g3, k1, k2⟩
             have b5' : Below W1.heap.size W1 w5 := below_of_drew b5
             have g1' : W1.heap.size ≤ B1 := g1
             have g3' : W1.heap.size ≤ B2 := g3
             have H5 := HX1.below b5'
             have hT5 := hT1.below b5'
             have hO5 := own_below hO1 b5'
             have z5 := b5'.size
             have c0 := (b5'.cell (p := ⟨wr.heap.size, 0, none⟩) (by show wr.heap.size < W1.heap.size; omega)).trans e0
             have c1 := (b5'.cell (p := ⟨wr.heap.size, 1, none⟩) (by show wr.heap.size < W1.heap.size; omega)).trans e1
             have c2 := (b5'.cell (p := ⟨wr.heap.size, 2, none⟩) (by show wr.heap.size < W1.heap.size; omega)).trans e2
             have c3 := (b5'.cell (p := ⟨w.heap.size, 0, none⟩) (by show w.heap.size < W1.heap.size; omega)).trans GX1
             have c4 := (b5'.cell (p := ⟨ab, ao + k, none⟩) (by show ab < W1.heap.size; omega)).trans hck1
             have hS5 := And.intro c0 (And.intro c1 (And.intro c2 (And.intro c3 c4)))
             have hS5a : ∀ o, (w5.alloc o).cell? ⟨wr.heap.size, 0, none⟩ = some (.slice xa 3 xcap) ∧ (w5.alloc o).cell? ⟨wr.heap.size, 1, none⟩ = some (.slice xc 2 xcap') ∧ (w5.alloc o).cell? ⟨wr.heap.size, 2, none⟩ = some (.int .i64 xK) ∧ (w5.alloc o).cell? ⟨w.heap.size, 0, none⟩ = some (.slice (some ⟨ab, ao, none⟩) 3 cap) ∧ (w5.alloc o).cell? ⟨ab, ao + k, none⟩ = some (.int .i64 ck) := fun o => by
               have ba : Below w5.heap.size w5 (w5.alloc o) := (Below.refl _ _).alloc (Nat.le_refl _) _
               exact ⟨(ba.cell (p := ⟨wr.heap.size, 0, none⟩) (block_lt c0)).trans c0, (ba.cell (p := ⟨wr.heap.size, 1, none⟩) (block_lt c0)).trans c1, (ba.cell (p := ⟨wr.heap.size, 2, none⟩) (block_lt c0)).trans c2, (ba.cell (p := ⟨w.heap.size, 0, none⟩) (block_lt c3)).trans c3, (ba.cell (p := ⟨ab, ao + k, none⟩) (block_lt c4)).trans c4⟩)
          | (refine step_append_lies _ (by rfl) _ _ _ (by rfl) (w.heap.size + 2) 95 i0 _ 3 56 Tryz.underlying176 hi hz0 hz1 hz2 rfl (by omega) (.slice (some ⟨G, 0, none⟩) (k + 1) cp) (k + 1) xs (by rfl) (hO5.alloc _) ⟨w5.heap.size, 0, none⟩ 1 1 [Value.slice (some ⟨B1, 0, none⟩) 3 3, Value.slice (some ⟨B2, 0, none⟩) 2 2, Value.int .i64 (ck * xK)] (by rfl) (by rfl) (World.news_of_block (cs := #[Value.slice (some ⟨B1, 0, none⟩) 3 3, Value.slice (some ⟨B2, 0, none⟩) 2 2, Value.int .i64 (ck * xK)]) (t := 95) (fr := (0, 0)) (heap_alloc_new w5 _)) (by simp [Value.oneCell']) (by omega) (by unfold maxLen; omega) (by omega) (by rw [World.size_alloc]; omega) (w5.heap.size + 1) (by rw [World.size_alloc]) ?_
             intro g cpg w6 hown6 hgrow hat hlt6
             have hgr : (w5.alloc (Obj.cells #[Value.slice (some ⟨B1, 0, none⟩) 3 3, Value.slice (some ⟨B2, 0, none⟩) 2 2, Value.int .i64 (ck * xK)] 95)).grownBy w6 (some G) := hgrow
             have hq := hS5a (Obj.cells #[Value.slice (some ⟨B1, 0, none⟩) 3 3, Value.slice (some ⟨B2, 0, none⟩) 2 2, Value.int .i64 (ck * xK)] 95)
             have hS6 := And.intro ((hgr.cell_far ⟨wr.heap.size, 0, none⟩ (block_lt hq.1) (by simp only [ne_eq, Option.some.injEq]; omega)).trans hq.1) (And.intro ((hgr.cell_far ⟨wr.heap.size, 1, none⟩ (block_lt hq.1) (by simp only [ne_eq, Option.some.injEq]; omega)).trans hq.2.1) (And.intro ((hgr.cell_far ⟨wr.heap.size, 2, none⟩ (block_lt hq.1) (by simp only [ne_eq, Option.some.injEq]; omega)).trans hq.2.2.1) (And.intro ((hgr.cell_far ⟨w.heap.size, 0, none⟩ (block_lt hq.2.2.2.1) (by simp only [ne_eq, Option.some.injEq]; omega)).trans hq.2.2.2.1) ((hgr.cell_far ⟨ab, ao + k, none⟩ (block_lt hq.2.2.2.2) (by simp only [ne_eq, Option.some.injEq]; omega)).trans hq.2.2.2.2))))))
      have hat' : g = G ∨ (w5.alloc (Obj.cells #[Value.slice (some ⟨B1, 0, none⟩) 3 3, Value.slice (some ⟨B2, 0, none⟩) 2 2, Value.int .i64 (ck * xK)] 95)).heap.size ≤ g := by
        rw [World.size_alloc]
        rcases hat with h | h
        · left
          simpa [Value.ownBlock] using h.symm
        · right; omega
      have LC : (mulL ck xC).length = 3 := by rw [mulL_len]; exact o3
      have LD : (mulL ck xD).length = 2 := by rw [mulL_len]; exact o4
      have T6 := (hT5.below ((Below.refl _ _).alloc (Nat.le_refl _) (Obj.cells #[Value.slice (some ⟨B1, 0, none⟩) 3 3, Value.slice (some ⟨B2, 0, none⟩) 2 2, Value.int .i64 (ck * xK)] 95))).step (ca := 3) (cc := 2) (K := ck * xK) hO5.1 hgr hat' ((k1.alloc _).ints' LC) ((k2.alloc _).ints' LD) (by omega) (by omega) HET.out
      have H5a := H5.alloc (Obj.cells #[Value.slice (some ⟨B1, 0, none⟩) 3 3, Value.slice (some ⟨B2, 0, none⟩) 2 2, Value.int .i64 (ck * xK)] 95)
      have H6 : IH w (some ⟨ab, ao, none⟩) 3 cap (some ⟨cb, co, none⟩) 2 cap' K w6 := by
        refine ⟨?_, ?_, H5a.b.grown hgr H5a.b.size (fun x hx => by simp only [Option.some.injEq] at hx; omega)⟩
        · have := hgr.block w.heap.size H5a.p.lt (by simp only [ne_eq, Option.some.injEq]; omega)
          unfold Cel
          rw [this]; exact H5a.p
        · have := hgr.block (w.heap.size + 1) H5a.r.lt (by simp only [ne_eq, Option.some.injEq]; omega)
          unfold Cel
          rw [this]; exact H5a.r
      clear hS6 hS5 hS5a hS1 hgrow hgr hat hat' c0 c1 c2 c3 c4 k1 k2 H5 H5a hT5 hO5 hT1 hO1 HX1 b5 b5' GX1 hck1 e0 e1 e2
      go_wp2
      go_roundw
      case rel => exact ⟨k + 1, by omega, by go_num, H6, g, cpg, _, rfl, hown6, T6⟩
      case measure => simp [intOf]; omega
    · obtain rfl : k = 3 := by omega
      obtain ⟨f1, f2, -, -, -, -⟩ := HI.out
      have fa := hT.forms rfl hown
      have A1 := HX.r.lt
      have A2 := HX.b.size
      go_wp2_with fail
      refine (sum_any _ 4 _ (terms C D K fs) 100000000000000 _ rfl fa HT.out (by omega) (by omega) (by omega)).mono ?_
      rintro e w2 ⟨B1, B2, rfl, b2, g1, g2, g3, k1, k2⟩
      rw [HS.out.1] at k1
      rw [HS.out.2.1] at k2
      rw [HS.out.2.2]
      have H2 := HX.below b2
      clear fa b2
      cases h3 : formB 3 2 (intoC C fs 3) (intoD C D fs 3) (intoK C K fs 3)
      all_goals
        go_wp2_with fail
        first
          | (refine (orN_no _ _ _ _ _ _ _ (intoC C fs 3) (intoD C D fs 3) _ (k1.ints' f1) (k2.ints' f2) (by omega) (by omega) h3).mono ?_)
          | (refine (orN_yes _ _ _ _ _ _ _ (intoC C fs 3) (intoD C D fs 3) _ (k1.ints' f1) (k2.ints' f2) (by omega) (by omega) h3).mono ?_)
        rintro e w3 ⟨rfl, b3⟩
        have H := H2.below b3
        have k1' := k1.below b3
        have k2' := k2.below b3
        obtain ⟨r0, r1, r2, r3, r4, r5⟩ := H.room
        clear H2 k1 k2 b3
        go_wp2
      · refine bodyPost_ret (v := formV none 0 0 none 0 0 0) (by simp [results, Tryz.results182, go_sem, r0, r1, r2]) rfl ?_
        rw [h3]
        exact H.none
      · refine bodyPost_ret (v := formV (some ⟨B1, 0, none⟩) 3 3 (some ⟨B2, 0, none⟩) 2 2 (intoK C K fs 3)) (by simp [results, Tryz.results182, go_sem, r0, r1, r2]) rfl ?_
        rw [h3]
        refine Res.of (B1 := B1) (B2 := B2) rfl f1 f2 ?_ (by omega) g2 (by omega) ?_ ?_
        · exact ((H.b.setCell (by simp only []; omega) _).setCell (by simp only []; omega) _).setCell (by simp only []; omega) _
        · exact ((k1'.setOther (by omega) _ _).setOther (by omega) _ _).setOther (by omega) _ _
        · exact ((k2'.setOther (by omega) _ _).setOther (by omega) _ _).setOther (by omega) _ _

end Go.Proofs.YtpmihhbgjimpmaaGreatDoor
namespace Go.Proofs.YtpmihhbgjimpmaaGreatDoor
open Go.RowKit
set_option linter.unusedVariables false
set_option maxRecDepth 100000

theorem iinto_any (a : Option Addr) (n cap : Nat) (c : Option Addr) (m cap' : Nat) (K : Int) (C D : List Int) (ad : Option Addr) (N capN : Nat) (fs : List FV) (w : World) (hC : Ints w a n C) (hD : Ints w c m D) (hn : n ≤ 1048576) (hm : m ≤ 1048576)
    (hN : fs.length = N) (hF : FormsG w ad fs) (hN1 : N ≤ 1048576) :
    Calls Tryz.prog 182 #[formV a n cap c m cap' K, .slice ad N capN] w fun e w' => Res w w' e (keepL (intoOk n m C D K N fs) (intoC C fs 3)) (keepL (intoOk n m C D K N fs) (intoD C D fs 3)) (keepK (intoOk n m C D K N fs) (intoK C K fs 3)) := by
  cases h : (formB n m C D K && decide (N = 3) && fs.all FV.ok)
  · have ho : intoOk n m C D K N fs = false := by unfold intoOk; rw [h]; rfl
    rw [ho]
    exact iinto_no a n cap c m cap' K C D ad N capN fs w hC hD hn hm hN hF hN1 h
  · have ho : intoOk n m C D K N fs = formB 3 2 (intoC C fs 3) (intoD C D fs 3) (intoK C K fs 3) := by unfold intoOk; rw [h, Bool.true_and]
    rw [ho]
    simp only [Bool.and_eq_true, decide_eq_true_eq] at h
    obtain ⟨⟨h1, rfl⟩, h3⟩ := h
    obtain ⟨rfl, rfl, _⟩ := formB_elim h1
    obtain ⟨b, off, rfl, _⟩ := hF 0 (by omega)
    exact iinto_yes a cap c cap' K C D b off capN fs w hC hD hN hF h1 h3

theorem copies_all {fs gs : List FV} (hl : gs.length = fs.length) (h : copies fs gs) : gs.all FV.ok = fs.all FV.ok := by
  have key : gs.map FV.ok = fs.map FV.ok := by
    refine List.ext_getElem (by simp [hl]) fun i h1 h2 => ?_
    have hi : i < gs.length := by simpa using h1
    have hi' : i < fs.length := by omega
    obtain ⟨e1, e2, e3, e4, e5⟩ := h i hi
    rw [List.getElem?_eq_getElem hi, List.getElem?_eq_getElem hi'] at e1 e2 e3 e4 e5
    simp only [Option.getD_some] at e1 e2 e3 e4 e5
    simp only [List.getElem_map, FV.ok, e1, e2, e3, e4, e5]
  have h1 : gs.all FV.ok = (gs.map FV.ok).all id := by simp [List.all_map]
  have h2 : fs.all FV.ok = (fs.map FV.ok).all id := by simp [List.all_map]
  rw [h1, h2, key]
theorem copies_into {fs gs : List FV} {C D : List Int} {K : Int} (hl : gs.length = 3) (h : copies fs gs) : intoC C gs 3 = intoC C fs 3 ∧ intoD C D gs 3 = intoD C D fs 3 ∧ intoK C K gs 3 = intoK C K fs 3 := by
  obtain ⟨a1, a2, a3, _⟩ := h 0 (by omega)
  obtain ⟨b1, b2, b3, _⟩ := h 1 (by omega)
  obtain ⟨c1, c2, c3, _⟩ := h 2 (by omega)
  exact ⟨by simp only [intoC, a1, b1, c1], by simp only [intoD, a2, b2, c2], by simp only [intoK, a3, b3, c3]⟩
theorem copies_same {n m N : Nat} {C D : List Int} {K : Int} {fs gs : List FV} (hN : fs.length = N) (hl : gs.length = N) (h : copies fs gs) :
    keepL (intoOk n m C D K N gs) (intoC C gs 3) = keepL (intoOk n m C D K N fs) (intoC C fs 3) ∧ keepL (intoOk n m C D K N gs) (intoD C D gs 3) = keepL (intoOk n m C D K N fs) (intoD C D fs 3) ∧ keepK (intoOk n m C D K N gs) (intoK C K gs 3) = keepK (intoOk n m C D K N fs) (intoK C K fs 3) := by
  by_cases h3 : N = 3
  · subst h3
    obtain ⟨e1, e2, e3⟩ := copies_into (C := C) (D := D) (K := K) hl h
    have e4 := copies_all (by omega) h
    simp only [intoOk, e1, e2, e3, e4]
    exact ⟨trivial, trivial, trivial⟩
  · have o1 : intoOk n m C D K N gs = false := by simp [intoOk, h3]
    have o2 : intoOk n m C D K N fs = false := by simp [intoOk, h3]
    rw [o1, o2]
    exact ⟨rfl, rfl, rfl⟩
theorem into_len {n m N : Nat} {C D : List Int} {K : Int} {fs : List FV} (hD : D.length = m) (hm : m ≤ 1048576) : (keepL (intoOk n m C D K N fs) (intoC C fs 3)).length ≤ 1048576 ∧ (keepL (intoOk n m C D K N fs) (intoD C D fs 3)).length ≤ 1048576 := by
  refine ⟨keepL_len ?_, keepL_len ?_⟩
  · simp only [intoC, lin, List.length_zipWith, List.length_cons, List.length_nil]; omega
  · simp only [intoD, lin, List.length_zipWith]; omega

end Go.Proofs.YtpmihhbgjimpmaaGreatDoor
namespace Go.Proofs.YtpmihhbgjimpmaaGreatDoor
open Go.RowKit
set_option linter.unusedVariables false

/-- A form alone, without its memory. -/
def noX : Frm := ([], [], 0)
def toFV (f : Frm) : FV := ⟨none, f.1.length, 0, none, f.2.1.length, 0, f.2.2, f.1, f.2.1⟩
def intoX (f : FV) (P : List Frm) : Frm := (intoC f.C (P.map toFV) 3, intoD f.C f.D (P.map toFV) 3, intoK f.C f.K (P.map toFV) 3)
/-- Zero or more just where f is below zero. -/
def minusX (f : Frm) : Frm := (mulL (-1) f.1, mulL (-1) f.2.1, -1 * f.2.2 - 1)
def plusX (f g : Frm) : Frm := (lin f.1 g.1 1, lin f.2.1 g.2.1 1, f.2.2 + 1 * g.2.2)
def potX (v : Nat) : Frm := ([0, 0, 0].set v 1, [0, 0], 0)
def lessX (f : Frm) (v : Nat) : Frm := (lin f.1 ([0, 0, 0].set v 1) (-1), lin f.2.1 [0, 0] (-1), f.2.2 + -1 * 0)

/-- A way as far as it is gone; a way at its end. -/
structure Way where
  pots : List Frm
  guards : List Frm
  tells : List Frm
structure RowM where
  guards : List Frm
  adds : List Frm
  tells : List Frm
  stop : Bool
def endW (y : Way) : RowM := ⟨y.guards, (List.range 3).map fun v => lessX (y.pots[v]?.getD noX) v, y.tells, false⟩
def stopW (y : Way) : RowM := ⟨y.guards, [], [], true⟩
def Way.guard (y : Way) (f : Frm) : Way := { y with guards := y.guards ++ [f] }
def Way.tell (y : Way) (f : Frm) : Way := { y with tells := y.tells ++ [f] }
def Way.add (y : Way) (p : Nat) (f : Frm) : Way := { y with pots := y.pots.set p (plusX (y.pots[p]?.getD noX) f) }
def way0 : Way := ⟨[potX 0, potX 1, potX 2], [], []⟩

/-- All ways from a line on. -/
def goW (ls : List LV) : Nat → Nat → Way → List RowM
  | 0, _, y => [endW y]
  | f + 1, i, y =>
    if i < ls.length then
      if (ls[i]?.getD noLV).kind = 1 then goW ls f (i + 1) (y.guard (intoX (ls[i]?.getD noLV).f y.pots)) ++ goW ls f (i + 1 + (ls[i]?.getD noLV).skip.toNat) (y.guard (minusX (intoX (ls[i]?.getD noLV).f y.pots)))
      else if (ls[i]?.getD noLV).kind = 2 then goW ls f (i + 1) (y.add (ls[i]?.getD noLV).pot.toNat (intoX (ls[i]?.getD noLV).f y.pots))
      else if (ls[i]?.getD noLV).kind = 3 then goW ls f (i + 1) (y.tell (intoX (ls[i]?.getD noLV).f y.pots))
      else [stopW y]
    else [endW y]
def rowsL (ls : List LV) : List RowM := goW ls 7 0 way0
theorem goW_end {ls : List LV} {f i : Nat} {y : Way} (h : ls.length ≤ i) : goW ls f i y = [endW y] := by
  cases f with
  | zero => rfl
  | succ f => rw [goW, if_neg (by omega)]
/-- Fuel that suffices is as good as more. -/
theorem goW_fuel {ls : List LV} (f : Nat) : ∀ (g i : Nat) (y : Way), ls.length ≤ i + f → ls.length ≤ i + g → goW ls f i y = goW ls g i y := by
  induction f with
  | zero => intro g i y h1 h2; rw [goW_end (by omega), goW_end (by omega)]
  | succ f ih =>
    intro g i y h1 h2
    by_cases hi : i < ls.length
    · obtain ⟨g, rfl⟩ : ∃ g', g = g' + 1 := ⟨g - 1, by omega⟩
      rw [goW, goW, if_pos hi, if_pos hi, ih g (i + 1) _ (by omega) (by omega), ih g (i + 1 + (ls[i]?.getD noLV).skip.toNat) _ (by omega) (by omega), ih g (i + 1) _ (by omega) (by omega), ih g (i + 1) _ (by omega) (by omega)]
    · rw [goW_end (by omega), goW_end (by omega)]

/-- How great a pot's numbers may be behind so many lines. -/
def wb : Nat → Int
  | 0 => 1
  | n + 1 => 7 * wb n + 20
theorem wb_pos : ∀ n, 1 ≤ wb n
  | 0 => by simp [wb]
  | n + 1 => by have := wb_pos n; simp only [wb]; omega
theorem wb_mono {n m : Nat} (h : n ≤ m) : wb n ≤ wb m := by
  induction h with
  | refl => exact Int.le_refl _
  | step _ ih => rename_i m _; have := wb_pos m; exact Int.le_trans ih (by simp only [wb]; omega)
theorem wb_six {n : Nat} (h : n ≤ 6) : wb n ≤ 509809 := Int.le_trans (wb_mono h) (by simp [wb])

/-- Three and two numbers, and one more, none past M. -/
structure fitX (M : Int) (f : Frm) : Prop where
  c : f.1.length = 3
  d : f.2.1.length = 2
  bc : bnd M f.1
  bd : bnd M f.2.1
  k1 : -M ≤ f.2.2
  k2 : f.2.2 ≤ M
theorem fitX.mono {M M' : Int} {f : Frm} (h : fitX M f) (hM : M ≤ M') : fitX M' f :=
  ⟨h.c, h.d, fun i => by have := h.bc i; omega, fun i => by have := h.bd i; omega, by have := h.k1; omega, by have := h.k2; omega⟩
theorem two_mul {c y M : Int} (h1 : -2 ≤ c) (h2 : c ≤ 2) (h3 : -M ≤ y) (h4 : y ≤ M) : -(2 * M) ≤ c * y ∧ c * y ≤ 2 * M := by
  obtain h | h | h | h | h : c = -2 ∨ c = -1 ∨ c = 0 ∨ c = 1 ∨ c = 2 := by omega
  all_goals subst h; constructor <;> omega
theorem toFV_at {P : List Frm} {k : Nat} (h : k < P.length) : (P.map toFV)[k]?.getD noFV = toFV (P[k]?.getD noX) := by
  rw [List.getElem?_map, List.getElem?_eq_getElem h]; rfl

/-- A small form into pots. -/
theorem intoX_fit {f : FV} {P : List Frm} {M : Int} (bC : bnd 2 f.C) (bD : bnd 2 f.D) (lD : f.D.length = 2) (k1 : -20 ≤ f.K) (k2 : f.K ≤ 20) (hP : P.length = 3) (hM : 0 ≤ M) (h : ∀ k, k < 3 → fitX M (P[k]?.getD noX)) : fitX (6 * M + 20) (intoX f P) := by
  have bt : ∀ k, k < 3 → bndT (2 * M) (f.C[k]?.getD 0) ((P.map toFV)[k]?.getD noFV).C ∧ bndT (2 * M) (f.C[k]?.getD 0) ((P.map toFV)[k]?.getD noFV).D ∧ -(2 * M) ≤ f.C[k]?.getD 0 * ((P.map toFV)[k]?.getD noFV).K ∧ f.C[k]?.getD 0 * ((P.map toFV)[k]?.getD noFV).K ≤ 2 * M ∧ ((P.map toFV)[k]?.getD noFV).C.length = 3 ∧ ((P.map toFV)[k]?.getD noFV).D.length = 2 := fun k hk => by
    rw [toFV_at (by omega)]
    have hf := h k hk
    have hc := bC k
    refine ⟨fun i => ?_, fun i => ?_, ?_, ?_, hf.c, hf.d⟩
    · have := hf.bc i; exact two_mul hc.1 hc.2 this.1 this.2
    · have := hf.bd i; exact two_mul hc.1 hc.2 this.1 this.2
    · exact (two_mul hc.1 hc.2 hf.k1 hf.k2).1
    · exact (two_mul hc.1 hc.2 hf.k1 hf.k2).2
  obtain ⟨a0, b0, x0, y0, l0, m0⟩ := bt 0 (by omega)
  obtain ⟨a1, b1, x1, y1, l1, m1⟩ := bt 1 (by omega)
  obtain ⟨a2, b2, x2, y2, l2, m2⟩ := bt 2 (by omega)
  have z3 : bnd 0 ([0, 0, 0] : List Int) := fun i => by
    match i with
    | 0 => simp
    | 1 => simp
    | 2 => simp
    | i + 3 => simp
  refine ⟨?_, ?_, ?_, ?_, ?_, ?_⟩
  · exact lin_len (lin_len (lin_len rfl l0) l1) l2
  · exact lin_len (lin_len (lin_len lD m0) m1) m2
  · have := lin_bnd (lin_len (lin_len rfl l0) l1) l2 (lin_bnd (lin_len rfl l0) l1 (lin_bnd (k := 3) rfl l0 z3 a0 (by omega)) a1 (by omega)) a2 (by omega)
    exact fun i => by have := this i; simp only [intoX, intoC] at *; omega
  · have := lin_bnd (lin_len (lin_len lD m0) m1) m2 (lin_bnd (lin_len lD m0) m1 (lin_bnd lD m0 bD b0 (by omega)) b1 (by omega)) b2 (by omega)
    exact fun i => by have := this i; simp only [intoX, intoD] at *; omega
  · simp only [intoX, intoK]; omega
  · simp only [intoX, intoK]; omega
theorem bndT_one {M : Int} {xs : List Int} (h : bnd M xs) : bndT M 1 xs := fun i => by have := h i; omega
theorem plusX_fit {M M' : Int} {f g : Frm} (hf : fitX M f) (hg : fitX M' g) (h0 : 0 ≤ M + M') : fitX (M + M') (plusX f g) := by
  have a := hf.k1
  have b := hf.k2
  have c := hg.k1
  have d := hg.k2
  exact ⟨lin_len hf.c hg.c, lin_len hf.d hg.d, lin_bnd hf.c hg.c hf.bc (bndT_one hg.bc) h0, lin_bnd hf.d hg.d hf.bd (bndT_one hg.bd) h0, by simp only [plusX]; omega, by simp only [plusX]; omega⟩
theorem minusX_fit {M : Int} {f : Frm} (hf : fitX M f) : fitX (M + 1) (minusX f) := by
  have key : ∀ (xs : List Int), bnd M xs → bnd (M + 1) (mulL (-1) xs) := fun xs hx i => by
    have hi := hx i
    have : (mulL (-1) xs)[i]?.getD 0 = -1 * xs[i]?.getD 0 := by
      simp only [mulL, List.getElem?_map]
      cases xs[i]? <;> simp
    rw [this]; omega
  have a := hf.k1
  have b := hf.k2
  exact ⟨by simp [minusX, mulL, hf.c], by simp [minusX, mulL, hf.d], key _ hf.bc, key _ hf.bd, by simp only [minusX]; omega, by simp only [minusX]; omega⟩

/-- A way behind so many lines. -/
structure WayOk (i : Nat) (y : Way) : Prop where
  pl : y.pots.length = 3
  pf : ∀ k, k < 3 → fitX (wb (min i 6)) (y.pots[k]?.getD noX)
  gf : ∀ k, k < y.guards.length → fitX 10000000 (y.guards[k]?.getD noX)
  tf : ∀ k, k < y.tells.length → fitX 10000000 (y.tells[k]?.getD noX)
  gl : y.guards.length ≤ i
  tl : y.tells.length ≤ i
theorem WayOk.start : WayOk 0 way0 := by
  refine ⟨rfl, fun k hk => ?_, fun k hk => by simp [way0] at hk, fun k hk => by simp [way0] at hk, Nat.le_refl _, Nat.le_refl _⟩
  have b3 : ∀ v, v < 3 → bnd 1 (([0, 0, 0] : List Int).set v 1) := fun v hv i => by
    match v, hv, i with
    | 0, _, 0 => simp
    | 0, _, 1 => simp
    | 0, _, 2 => simp
    | 0, _, i + 3 => simp
    | 1, _, 0 => simp
    | 1, _, 1 => simp
    | 1, _, 2 => simp
    | 1, _, i + 3 => simp
    | 2, _, 0 => simp
    | 2, _, 1 => simp
    | 2, _, 2 => simp
    | 2, _, i + 3 => simp
  have b2 : bnd 1 ([0, 0] : List Int) := fun i => by
    match i with
    | 0 => simp
    | 1 => simp
    | i + 2 => simp
  match k, hk with
  | 0, _ => exact ⟨rfl, rfl, b3 0 (by omega), b2, by decide, by decide⟩
  | 1, _ => exact ⟨rfl, rfl, b3 1 (by omega), b2, by decide, by decide⟩
  | 2, _ => exact ⟨rfl, rfl, b3 2 (by omega), b2, by decide, by decide⟩
/-- A way that has gone on a line, or over more. -/
theorem WayOk.more {i j : Nat} {y : Way} (h : WayOk i y) (hij : i ≤ j) : WayOk j y :=
  ⟨h.pl, fun k hk => (h.pf k hk).mono (wb_mono (by omega)), h.gf, h.tf, by have := h.gl; omega, by have := h.tl; omega⟩
theorem snoc_fit {L : List Frm} {f : Frm} {M : Int} (h : ∀ k, k < L.length → fitX M (L[k]?.getD noX)) (hf : fitX M f) : ∀ k, k < (L ++ [f]).length → fitX M ((L ++ [f])[k]?.getD noX) := fun k hk => by
  rw [List.length_append] at hk
  simp only [List.length_cons, List.length_nil] at hk
  by_cases e : k < L.length
  · rw [List.getElem?_append_left e]; exact h k e
  · obtain rfl : k = L.length := by omega
    rw [List.getElem?_append_right (Nat.le_refl _), Nat.sub_self]
    exact hf
theorem WayOk.guard {i j : Nat} {y : Way} {f : Frm} (h : WayOk i y) (hij : i < j) (hf : fitX 10000000 f) : WayOk j (y.guard f) := by
  have h' := h.more (j := j) (by omega)
  refine ⟨h'.pl, h'.pf, snoc_fit h.gf hf, h'.tf, ?_, h'.tl⟩
  have := h.gl
  simp only [Way.guard, List.length_append, List.length_cons, List.length_nil]; omega
theorem WayOk.tell {i j : Nat} {y : Way} {f : Frm} (h : WayOk i y) (hij : i < j) (hf : fitX 10000000 f) : WayOk j (y.tell f) := by
  have h' := h.more (j := j) (by omega)
  refine ⟨h'.pl, h'.pf, h'.gf, snoc_fit h.tf hf, h'.gl, ?_⟩
  have := h.tl
  simp only [Way.tell, List.length_append, List.length_cons, List.length_nil]; omega
theorem WayOk.add {i p : Nat} {y : Way} {f : Frm} (h : WayOk i y) (h6 : i < 6) (hp : p < 3) (hf : fitX (6 * wb i + 20) f) : WayOk (i + 1) (y.add p f) := by
  have h' := h.more (j := i + 1) (by omega)
  refine ⟨by simp only [Way.add, List.length_set]; exact h.pl, fun k hk => ?_, h'.gf, h'.tf, h'.gl, h'.tl⟩
  have hw := wb_pos i
  have e6 : min i 6 = i := by omega
  have e7 : min (i + 1) 6 = i + 1 := by omega
  have hpf := h.pf p hp
  rw [e6] at hpf
  by_cases e : p = k
  · subst e
    have : (y.add p f).pots[p]?.getD noX = plusX (y.pots[p]?.getD noX) f := by
      simp only [Way.add]
      rw [List.getElem?_set_self (by rw [h.pl]; exact hp)]; rfl
    rw [this]
    have := plusX_fit hpf hf (by omega)
    rw [e7]
    exact this.mono (by simp only [wb]; omega)
  · have : (y.add p f).pots[k]?.getD noX = y.pots[k]?.getD noX := by
      simp only [Way.add]
      rw [List.getElem?_set_ne e]
    rw [this]
    exact h'.pf k hk
/-- What a small form into the pots of such a way is. -/
theorem WayOk.into {i : Nat} {y : Way} (h : WayOk i y) (h6 : i ≤ 6) {f : FV} (hf : smallB f.n f.m f.C f.D f.K = true) (lD : f.D.length = f.m) : fitX (6 * wb i + 20) (intoX f y.pots) ∧ fitX 10000000 (intoX f y.pots) ∧ fitX 10000000 (minusX (intoX f y.pots)) := by
  simp only [smallB, Bool.and_eq_true] at hf
  obtain ⟨⟨h1, h2⟩, h3⟩ := hf
  obtain ⟨e1, b1⟩ := okN_elim (by omega) h1
  obtain ⟨e2, b2⟩ := okN_elim (by omega) h2
  have h4 := inB_iff.1 h3
  have hw := wb_pos i
  have hw6 := wb_six h6
  have := intoX_fit (f := f) (M := wb i) b1 b2 (by omega) h4.1 h4.2 h.pl (by omega) (fun k hk => by have := h.pf k hk; rwa [show min i 6 = i by omega] at this)
  exact ⟨this, this.mono (by omega), (minusX_fit this).mono (by omega)⟩

end Go.Proofs.YtpmihhbgjimpmaaGreatDoor
namespace Go.Proofs.YtpmihhbgjimpmaaGreatDoor
open Go.RowKit Go.Deep
set_option linter.unusedVariables false
set_option maxRecDepth 100000

/-- No slice among these lies below B. -/
def Lo (B : Nat) (xs : List Value) : Prop := ∀ (i b o : Nat) (m c : Nat), xs[i]? = some (Value.slice (some ⟨b, o, none⟩) m c) → B ≤ b
theorem Lo.nil (B : Nat) : Lo B [] := fun i b o m c h => by simp at h
theorem Lo.app {B : Nat} {xs : List Value} (h : Lo B xs) {B1 B2 n1 n2 c1 c2 : Nat} {K : Int} (h1 : B ≤ B1) (h2 : B ≤ B2) : Lo B (xs ++ [.slice (some ⟨B1, 0, none⟩) n1 c1, .slice (some ⟨B2, 0, none⟩) n2 c2, .int .i64 K]) := fun i b o m c e => by
  by_cases hi : i < xs.length
  · rw [List.getElem?_append_left hi] at e; exact h i b o m c e
  · rw [List.getElem?_append_right (by omega)] at e
    generalize i - xs.length = j at e
    match j with
    | 0 => simp at e; omega
    | 1 => simp at e; omega
    | 2 => simp at e
    | j + 3 => simp at e
theorem Ints.offC {S : Nat → Prop} {W W' : World} {a : Option Addr} {n : Nat} {zs : List Int} (h : Ints W a n zs) (hb : ∀ b o, a = some ⟨b, o, none⟩ → ¬ S b) (t : Touch S W W') : Ints W' a n zs := by
  refine ⟨h.1, fun i hi => ?_⟩
  obtain ⟨b, off, e, hc⟩ := h.2 i hi
  refine ⟨b, off, e, ?_⟩
  have hl := block_lt hc
  simp only [World.cell?] at hc ⊢
  rw [t.block b hl (hb b off e)]; exact hc
theorem own_off {S : Nat → Prop} {W W' : World} {base : Nat} {e : TypeId} {s : Nat} {v : Value} {n : Nat} {xs : List Value} (h : W.ownsRow base e s v n xs) (hn : ∀ g, v.ownBlock = some g → ¬ S g) (t : Touch S W W') : W'.ownsRow base e s v n xs := by
  refine ⟨h.1, ?_⟩
  rcases h.2 with h2 | ⟨g, cap, cur, hv, hg, hh, r⟩
  · exact Or.inl h2
  · refine Or.inr ⟨g, cap, cur, hv, hg, ?_, r⟩
    rw [t.block g (lt_of_block hh) (hn g (by rw [hv]; rfl))]; exact hh
theorem TermsOk.off {S : Nat → Prop} {W W' : World} {G : Nat} {xs : List Value} {fs : List Frm} {n : Nat} (h : TermsOk W G xs fs n) {B : Nat} (hl : Lo B xs) (hS : ∀ k, S k → k < B) (t : Touch S W W') : TermsOk W' G xs fs n := fun i hi => by
  obtain ⟨a', c', ca, cc, e0, e1, e2, i1, i2, n1, n2⟩ := h i hi
  refine ⟨a', c', ca, cc, e0, e1, e2, i1.offC (fun b o e hs => ?_) t, i2.offC (fun b o e hs => ?_) t, n1, n2⟩
  · rw [e] at e0
    have := hl _ _ _ _ _ e0
    have := hS _ hs
    omega
  · rw [e] at e1
    have := hl _ _ _ _ _ e1
    have := hS _ hs
    omega

/-- A slice of the first n forms, in memory made since w. -/
structure JF (w : World) (G cap n : Nat) (xs : List Value) (fs : List Frm) (W : World) : Prop where
  b : Below w.heap.size w W
  o : W.ownsRow w.heap.size 95 3 (.slice (some ⟨G, 0, none⟩) n cap) n xs
  t : TermsOk W G xs fs n
  l : Lo w.heap.size xs
theorem JF.below {w W W' : World} {G cap n : Nat} {xs : List Value} {fs : List Frm} (j : JF w G cap n xs fs W) (h : Below W.heap.size W W') : JF w G cap n xs fs W' := ⟨j.b.trans (h.mono j.b.size), own_below j.o h, j.t.below h, j.l⟩
theorem JF.at {w W : World} {G cap n : Nat} {xs : List Value} {fs : List Frm} (j : JF w G cap n xs fs W) (hn : fs.length = n) : FormsAt W (some ⟨G, 0, none⟩) fs := j.t.forms hn j.o
theorem JF.lt {w W : World} {G cap n : Nat} {xs : List Value} {fs : List Frm} (j : JF w G cap n xs fs W) : w.heap.size ≤ G ∧ G < W.heap.size := by
  rcases j.o.2 with ⟨h, _⟩ | ⟨g, cap', cur, h, hg, hh, _⟩
  · cases h
  · simp only [Value.slice.injEq, Option.some.injEq, Addr.mk.injEq, and_true, true_and] at h
    obtain ⟨rfl, _⟩ := h
    exact ⟨hg, lt_of_block hh⟩
/-- Whatever becomes of elder memory, the forms read as they did. -/
theorem JF.off {w W W' : World} {G cap n : Nat} {xs : List Value} {fs : List Frm} (j : JF w G cap n xs fs W) (hn : fs.length = n) {S : Nat → Prop} (hS : ∀ k, S k → k < w.heap.size) (t : Touch S W W') : FormsAt W' (some ⟨G, 0, none⟩) fs := by
  have hG := j.lt
  have o' := own_off j.o (fun g hg hs => by
    have : some G = some g := hg
    simp only [Option.some.injEq] at this
    have := hS _ hs
    omega) t
  exact (j.t.off j.l hS t).forms hn o'
theorem lin3_one {xs : List Int} (h : xs.length = 3) : lin [0, 0, 0] xs 1 = xs := by
  match xs, h with
  | [x, y, z], _ => simp [lin]
theorem lin2_one {xs : List Int} (h : xs.length = 2) : lin [0, 0] xs 1 = xs := by
  match xs, h with
  | [x, y], _ => simp [lin]

end Go.Proofs.YtpmihhbgjimpmaaGreatDoor
namespace Go.Proofs.YtpmihhbgjimpmaaGreatDoor
open Go.RowKit
set_option linter.unusedVariables false
set_option maxRecDepth 100000

end Go.Proofs.YtpmihhbgjimpmaaGreatDoor
namespace Go.Proofs.YtpmihhbgjimpmaaGreatDoor
open Go.RowKit
set_option linter.unusedVariables false

theorem izero_any (w : World) :
    Calls Tryz.prog 52 #[] w fun e w' => ∃ B1 B2, e = .returned (formV (some ⟨B1, 0, none⟩) 3 3 (some ⟨B2, 0, none⟩) 2 2 0) ∧ Below w.heap.size w w' ∧ w.heap.size ≤ B1 ∧ B1 ≠ B2 ∧ w.heap.size ≤ B2 ∧ Blk w' B1 [0, 0, 0] ∧ Blk w' B2 [0, 0] := by
  go_enter Tryz.func52, Tryz.ntmps52
  go_wp2_with fail
  refine (sum_any none 0 0 [] 0 _ rfl (fun i hi => by simp at hi) (fun i hi => by simp at hi) (by omega) (by omega) (by omega)).mono ?_
  rintro e w1 ⟨B1, B2, rfl, b1, h1, h2, h3, k1, k2⟩
  have r := (Cel.new w _ _).below b1
  have r0 := r.cell 0
  have r1 := r.cell 1
  have r2 := r.cell 2
  have r3 := r.free 0
  have r4 := r.free 1
  have r5 := r.free 2
  simp only [List.getElem?_cons_zero, List.getElem?_cons_succ] at r0 r1 r2
  rw [World.size_alloc] at h1 h3
  have hb : Below w.heap.size w w1 := ((Below.refl _ _).alloc (Nat.le_refl _) _).trans (b1.mono (by simp))
  go_wp2
  refine bodyPost_ret (v := formV (some ⟨B1, 0, none⟩) 3 3 (some ⟨B2, 0, none⟩) 2 2 0) (by simp [results, Tryz.results52, go_sem, r0, r1, r2, sumK]) rfl ⟨B1, B2, rfl, ?_, by omega, h2, by omega, ?_, ?_⟩
  · exact ((hb.setCell (Nat.le_refl _) _).setCell (Nat.le_refl _) _).setCell (Nat.le_refl _) _
  · exact ((k1.setOther (by omega) _ _).setOther (by omega) _ _).setOther (by omega) _ _
  · exact ((k2.setOther (by omega) _ _).setOther (by omega) _ _).setOther (by omega) _ _

theorem szero_res (w : World) : Calls Tryz.prog 172 #[] w fun e w' => Res w w' e [0, 0, 0] [0, 0] 0 :=
  (szero_any w).mono fun e w' ⟨B1, B2, he, hb, h1, h2, h3, k1, k2⟩ => Res.of he rfl rfl hb h1 h2 h3 k1 k2
theorem izero_res (w : World) : Calls Tryz.prog 52 #[] w fun e w' => Res w w' e [0, 0, 0] [0, 0] 0 :=
  (izero_any w).mono fun e w' ⟨B1, B2, he, hb, h1, h2, h3, k1, k2⟩ => Res.of he rfl rfl hb h1 h2 h3 k1 k2

/-- The form that is pot v: nothing, if there is no such pot. -/
def potC (v : Int) : List Int := if 0 ≤ v ∧ v ≤ 2 then [0, 0, 0].set v.toNat 1 else []
def potD (v : Int) : List Int := if 0 ≤ v ∧ v ≤ 2 then [0, 0] else []
theorem potC_in (v : Int) (k : Nat) (hv : v = k) (hk : k ≤ 2) : potC v = [0, 0, 0].set k 1 := by subst hv; unfold potC; rw [if_pos (by omega)]; rfl
theorem potD_in (v : Int) (h0 : 0 ≤ v) (h2 : v ≤ 2) : potD v = [0, 0] := by unfold potD; rw [if_pos ⟨h0, h2⟩]
theorem potC_out (v : Int) (h : ¬ (0 ≤ v ∧ v ≤ 2)) : potC v = [] := by unfold potC; rw [if_neg h]
theorem potD_out (v : Int) (h : ¬ (0 ≤ v ∧ v ≤ 2)) : potD v = [] := by unfold potD; rw [if_neg h]
theorem potC_len (v : Int) : (potC v).length ≤ 1048576 := by unfold potC; split <;> simp
theorem potD_len (v : Int) : (potD v).length ≤ 1048576 := by unfold potD; split <;> simp

set_option maxHeartbeats 800000 in
theorem ipot_any (v : Int) (w : World) :
    Calls Tryz.prog 157 #[.int .i64 v] w fun e w' => Res w w' e (potC v) (potD v) 0 := by
  by_cases h : 0 ≤ v ∧ v ≤ 2
  · obtain ⟨h0, h2⟩ := h
    have hi : inB v 0 2 = true := inB_iff.2 ⟨h0, h2⟩
    obtain ⟨k, rfl⟩ := Int.eq_ofNat_of_zero_le h0
    have hk : k < 3 := by omega
    have hk' : (k : Int) < 3 := by omega
    rw [potC_in (k : Int) k rfl (by omega), potD_in (k : Int) (by omega) (by omega)]
    go_enter Tryz.func157, Tryz.ntmps157
    go_wp2_with fail
    refine (place_any _ _ _).mono ?_
    rintro e w0 ⟨rfl, rfl⟩
    rw [decide_eq_true (show 0 ≤ (k : Int) ∧ (k : Int) < 3 from ⟨h0, hk'⟩)]
    go_wp2_with fail
    refine (izero_any _).mono ?_
    rintro e w1 ⟨B1, B2, rfl, b1, g1, g2, g3, k1, k2⟩
    rw [World.size_alloc] at g1 g3
    have r := (Cel.new w _ _).below b1
    have hb : Below w.heap.size w w1 := ((Below.refl _ _).alloc (Nat.le_refl _) _).trans (b1.mono (by simp))
    have hrl := r.lt
    have c0 : w1.cell? ⟨B1, k, none⟩ = some (.int .i64 0) := by
      have := k1.cell k (by simpa using hk)
      rw [this]
      match k, hk with
      | 0, _ => rfl
      | 1, _ => rfl
      | 2, _ => rfl
    have c1 := k1.free k
    have hB1 := k1.lt
    have hB2 := k2.lt
    have k3 := k1.set k 1
    have k4 := k2.setOther (B' := B1) (by omega) k (.int .i64 1)
    have r' := r.setOther (B' := B1) (by omega) k (.int .i64 1)
    have hb' := hb.setCell (p := ⟨B1, k, none⟩) (by show w.heap.size ≤ B1; omega) (.int .i64 1)
    have r0 := r'.cell 0
    have r1 := r'.cell 1
    have r2 := r'.cell 2
    have r3 := r'.free 0
    have r4 := r'.free 1
    have r5 := r'.free 2
    simp only [List.getElem?_cons_zero, List.getElem?_cons_succ] at r0 r1 r2
    clear hi
    go_wp2
    refine bodyPost_ret (v := formV (some ⟨B1, 0, none⟩) 3 3 (some ⟨B2, 0, none⟩) 2 2 0) (by simp [results, Tryz.results157, go_sem, r0, r1, r2, hrl]) rfl (Res.of (B1 := B1) (B2 := B2) rfl (by simp) rfl ?_ (by omega) g2 (by omega) ?_ ?_)
    · exact (((hb'.setCell (Nat.le_refl _) _).setCell (Nat.le_refl _) _).setCell (Nat.le_refl _) _).alloc (by rw [size_setCell, size_setCell, size_setCell, size_setCell]; omega) _
    · exact (((k3.setOther (by omega) _ _).setOther (by omega) _ _).setOther (by omega) _ _).alloc _
    · exact (((k4.setOther (by omega) _ _).setOther (by omega) _ _).setOther (by omega) _ _).alloc _
  · rw [potC_out v h, potD_out v h]
    go_enter Tryz.func157, Tryz.ntmps157
    go_wp2_with fail
    refine (place_any _ _ _).mono ?_
    rintro e w0 ⟨rfl, rfl⟩
    rw [decide_eq_false (show ¬ (0 ≤ v ∧ v < 3) by omega)]
    go_wp2
    exact bodyPost_ret (v := formV none 0 0 none 0 0 0) (by simp [results, Tryz.results157, go_sem]) rfl (Res.none rfl ((Below.refl _ _).alloc (Nat.le_refl _) _))

end Go.Proofs.YtpmihhbgjimpmaaGreatDoor
namespace Go.Proofs.YtpmihhbgjimpmaaGreatDoor
open Go.RowKit Go.Deep
set_option linter.unusedVariables false
set_option maxRecDepth 100000

theorem grown_none {W W' : World} (h : W.grownBy W' none) (G : Nat) : W.grownBy W' (some G) :=
  ⟨h.os, h.tape, h.output, h.size, fun k hk _ => h.block k hk (by simp)⟩
theorem Cel.grew {W W' : World} {B : Nat} {vs : List Value} {t : TypeId} {row : Option Nat} (h : Cel W B vs t) (hg : W.grownBy W' row) (hne : row ≠ some B) : Cel W' B vs t := by
  have hl := h.lt
  unfold Cel at *
  rw [hg.block B hl (fun e => hne e.symm)]; exact h

/-- A slice of the first n forms, in memory made since w; it may be nil as yet. -/
structure JV (w : World) (v : Value) (n : Nat) (xs : List Value) (fs : List Frm) (W : World) : Prop where
  b : Below w.heap.size w W
  o : W.ownsRow w.heap.size 95 3 v n xs
  t : ∃ G, (v.ownBlock = some G ∨ (v.ownBlock = none ∧ n = 0)) ∧ TermsOk W G xs fs n
  l : Lo w.heap.size xs
theorem JV.nil (w : World) (fs : List Frm) : JV w (.slice none 0 0) 0 [] fs w := ⟨Below.refl _ _, World.ownsRow_nil w _ _ _, ⟨0, Or.inr ⟨rfl, rfl⟩, fun j hj => by omega⟩, Lo.nil _⟩
theorem JV.below {w W W' : World} {v : Value} {n : Nat} {xs : List Value} {fs : List Frm} (j : JV w v n xs fs W) (h : Below W.heap.size W W') : JV w v n xs fs W' := by
  obtain ⟨G, hG, ht⟩ := j.t
  exact ⟨j.b.trans (h.mono j.b.size), own_below j.o h, ⟨G, hG, ht.below h⟩, j.l⟩
theorem JV.own {w W : World} {v : Value} {n : Nat} {xs : List Value} {fs : List Frm} (j : JV w v n xs fs W) {G : Nat} (h : v.ownBlock = some G) : w.heap.size ≤ G ∧ G < W.heap.size := by
  rcases j.o.2 with ⟨e, _⟩ | ⟨g, cap', cur, e, hg, hh, _⟩
  · rw [e] at h; cases h
  · rw [e] at h
    have : some g = some G := h
    simp only [Option.some.injEq] at this
    subst this
    exact ⟨hg, lt_of_block hh⟩
theorem JV.isSlice {w W : World} {v : Value} {n : Nat} {xs : List Value} {fs : List Frm} (j : JV w v n xs fs W) : ∃ a c, v = .slice a n c := by
  rcases j.o.2 with ⟨e, h0⟩ | ⟨g, cap', cur, e, _⟩
  · subst h0; exact ⟨_, _, e⟩
  · exact ⟨_, _, e⟩
theorem JV.slice {w W : World} {v : Value} {n : Nat} {xs : List Value} {fs : List Frm} (j : JV w v n xs fs W) (hn : fs.length = n) : ∃ a cap, v = .slice a n cap ∧ FormsAt W a fs := by
  obtain ⟨G, hG, ht⟩ := j.t
  rcases j.o.2 with ⟨e, h0⟩ | ⟨g, cap', cur, e, hg, hh, _⟩
  · subst h0
    exact ⟨none, 0, e, fun i hi => by omega⟩
  · have o := j.o
    rw [e] at o
    rcases hG with hG | ⟨_, h0⟩
    · rw [e] at hG
      have : some g = some G := hG
      simp only [Option.some.injEq] at this
      subst this
      exact ⟨_, cap', e, ht.forms hn o⟩
    · subst h0
      exact ⟨_, cap', e, fun i hi => by omega⟩
theorem JV.app {w W W' : World} {v : Value} {n : Nat} {xs : List Value} {fs : List Frm} {g cap B1 B2 ca cc : Nat} {C D : List Int} {K : Int} (j : JV w v n xs fs W) (hown : W'.ownsRow w.heap.size 95 3 (.slice (some ⟨g, 0, none⟩) (n + 1) cap) (n + 1) (xs ++ [.slice (some ⟨B1, 0, none⟩) 3 ca, .slice (some ⟨B2, 0, none⟩) 2 cc, .int .i64 K])) (hgrow : W.grownBy W' v.ownBlock) {H : Nat} (hat : v.ownBlock = some g ∨ g = H) (hH : W.heap.size = H)
    (k1 : Ints W (some ⟨B1, 0, none⟩) 3 C) (k2 : Ints W (some ⟨B2, 0, none⟩) 2 D) (n1 : v.ownBlock ≠ some B1) (n2 : v.ownBlock ≠ some B2) (p1 : w.heap.size ≤ B1) (p2 : w.heap.size ≤ B2) (hT : fs[n]?.getD ([], [], 0) = (C, D, K)) :
    JV w (.slice (some ⟨g, 0, none⟩) (n + 1) cap) (n + 1) (xs ++ [.slice (some ⟨B1, 0, none⟩) 3 ca, .slice (some ⟨B2, 0, none⟩) 2 cc, .int .i64 K]) fs W' := by
  have hb : Below w.heap.size w W' := j.b.grown hgrow j.b.size (fun z hz => (j.own hz).1)
  have l1 := k1.blt (by omega) B1 0 rfl
  have l2 := k2.blt (by omega) B2 0 rfl
  obtain ⟨G, hG, ht⟩ := j.t
  refine ⟨hb, hown, ⟨g, Or.inl rfl, ?_⟩, j.l.app p1 p2⟩
  rcases hG with hG | ⟨hG, h0⟩
  · rw [hG] at hgrow hat n1 n2
    refine ht.step j.o.1 hgrow ?_ k1 k2 (fun e => n1 (by rw [e])) (fun e => n2 (by rw [e])) hT
    rcases hat with h | h
    · simp only [Option.some.injEq] at h; exact Or.inl h.symm
    · exact Or.inr (by omega)
  · rw [hG] at hgrow hat
    have ht' : TermsOk W (W.heap.size + 1) xs fs n := fun j hj => by omega
    refine ht'.step j.o.1 (grown_none hgrow _) ?_ k1 k2 (by omega) (by omega) hT
    rcases hat with h | h
    · cases h
    · exact Or.inr (by omega)

/-- Forms that read as they do, whatever becomes of the blocks of S. -/
def FOff (W : World) (S : Nat → Prop) (a : Option Addr) (fs : List Frm) : Prop := ∀ W', Touch S W W' → FormsAt W' a fs
theorem FOff.at {W : World} {S : Nat → Prop} {a : Option Addr} {fs : List Frm} (h : FOff W S a fs) : FormsAt W a fs := h W (Touch.refl _ _)
theorem FOff.touch {W W' : World} {S : Nat → Prop} {a : Option Addr} {fs : List Frm} (h : FOff W S a fs) (t : Touch S W W') : FOff W' S a fs := fun W'' t' => h W'' (t.trans t')
theorem FOff.below {W W' : World} {S : Nat → Prop} {a : Option Addr} {fs : List Frm} (h : FOff W S a fs) (b : Below W.heap.size W W') : FOff W' S a fs := h.touch (Touch.of b)
theorem FOff.mono {W : World} {S S' : Nat → Prop} {a : Option Addr} {fs : List Frm} (h : FOff W S a fs) (hs : ∀ k, S' k → S k) : FOff W S' a fs := fun W' t => h W' (t.mono hs)
/-- A block that is new. -/
theorem FOff.fresh {W : World} {S : Nat → Prop} {a : Option Addr} {fs : List Frm} (h : FOff W S a fs) (o : Obj) : FOff (W.alloc o) (fun k => S k ∨ k = W.heap.size) a fs := fun W' t => by
  have b : Below W.heap.size W (W.alloc o) := (Below.refl _ _).alloc (Nat.le_refl _) _
  refine h W' ⟨t.os.trans b.os, t.tape.trans b.tape, t.output.trans b.output, Nat.le_trans b.size t.size, fun k hk hn => ?_⟩
  rw [t.block k (Nat.lt_of_lt_of_le hk b.size) (fun e => by
    rcases e with e | e
    · exact hn e
    · omega)]
  exact b.block k hk
theorem JF.foff {w W : World} {G cap n : Nat} {xs : List Value} {fs : List Frm} (j : JF w G cap n xs fs W) (hn : fs.length = n) : FOff W (fun k => k < w.heap.size) (some ⟨G, 0, none⟩) fs := fun W' t => j.off hn (fun k h => h) t
theorem JV.foff {w W : World} {v : Value} {n : Nat} {xs : List Value} {fs : List Frm} (j : JV w v n xs fs W) (hn : fs.length = n) : ∃ a cap, v = .slice a n cap ∧ FOff W (fun k => k < w.heap.size) a fs := by
  obtain ⟨a, cap, hv⟩ := j.isSlice
  refine ⟨a, cap, hv, fun W' t => ?_⟩
  obtain ⟨G, hG, ht⟩ := j.t
  have o' := own_off j.o (fun g hg hs => by have := (j.own hg).1; omega) t
  have b' : Below w.heap.size W W' → True := fun _ => trivial
  have t' := ht.off j.l (fun k h => h) t
  rcases o'.2 with ⟨e, h0⟩ | ⟨g, cap', cur, e, _⟩
  · subst h0
    intro i hi
    omega
  · have o := o'
    rw [e] at o hv
    simp only [Value.slice.injEq, true_and] at hv
    obtain ⟨rfl, rfl⟩ := hv
    rcases hG with hG | ⟨hG, _⟩
    · rw [e] at hG
      have : some g = some G := hG
      simp only [Option.some.injEq] at this
      subst this
      exact t'.forms hn o
    · rw [e] at hG; cases hG

theorem own_zero {W : World} {b : Nat} {e : TypeId} {s : Nat} {v : Value} {n : Nat} {xs : List Value} (h : W.ownsRow b e s v n xs) : W.ownsRow 0 e s v n xs := ⟨h.1, by
  rcases h.2 with h2 | ⟨g, cap, cur, hv, hg, r⟩
  · exact Or.inl h2
  · exact Or.inr ⟨g, cap, cur, hv, Nat.zero_le _, r⟩⟩
/-- A slice of forms that may grow where it lies, whatever becomes of the blocks of S. -/
def FOwn (W : World) (S : Nat → Prop) (v : Value) (n : Nat) (fs : List Frm) : Prop := ∃ xs, ∀ W', Touch S W W' → W'.ownsRow 0 95 3 v n xs ∧ ∃ G, (v.ownBlock = some G ∨ (v.ownBlock = none ∧ n = 0)) ∧ TermsOk W' G xs fs n
theorem FOwn.touch {W W' : World} {S : Nat → Prop} {v : Value} {n : Nat} {fs : List Frm} (h : FOwn W S v n fs) (t : Touch S W W') : FOwn W' S v n fs := by
  obtain ⟨xs, h⟩ := h
  exact ⟨xs, fun W'' t' => h W'' (t.trans t')⟩
theorem FOwn.below {W W' : World} {S : Nat → Prop} {v : Value} {n : Nat} {fs : List Frm} (h : FOwn W S v n fs) (b : Below W.heap.size W W') : FOwn W' S v n fs := h.touch (Touch.of b)
theorem FOwn.mono {W : World} {S S' : Nat → Prop} {v : Value} {n : Nat} {fs : List Frm} (h : FOwn W S v n fs) (hs : ∀ k, S' k → S k) : FOwn W S' v n fs := by
  obtain ⟨xs, h⟩ := h
  exact ⟨xs, fun W' t => h W' (t.mono hs)⟩
theorem FOwn.fresh {W : World} {S T : Nat → Prop} {v : Value} {n : Nat} {fs : List Frm} (h : FOwn W (fun k => S k ∨ T k) v n fs) (o : Obj) : FOwn (W.alloc o) (fun k => (S k ∨ k = W.heap.size) ∨ T k) v n fs := by
  obtain ⟨xs, h⟩ := h
  have b : Below W.heap.size W (W.alloc o) := (Below.refl _ _).alloc (Nat.le_refl _) _
  refine ⟨xs, fun W' t => h W' ⟨t.os.trans b.os, t.tape.trans b.tape, t.output.trans b.output, Nat.le_trans b.size t.size, fun k hk hn => ?_⟩⟩
  rw [t.block k (Nat.lt_of_lt_of_le hk b.size) (fun e => by
    rcases e with (e | e) | e
    · exact hn (Or.inl e)
    · omega
    · exact hn (Or.inr e))]
  exact b.block k hk
theorem FOwn.none {W : World} {S : Nat → Prop} {fs : List Frm} : FOwn W S (.slice Option.none 0 0) 0 fs := ⟨[], fun W' t => ⟨World.ownsRow_nil W' 0 _ _, 0, Or.inr ⟨rfl, rfl⟩, fun j hj => by omega⟩⟩
/-- What does not lie yet may become anything. -/
theorem FOwn.above {W : World} {S : Nat → Prop} {v : Value} {n : Nat} {fs : List Frm} (h : FOwn W S v n fs) : FOwn W (fun k => S k ∨ W.heap.size ≤ k) v n fs := by
  obtain ⟨xs, h⟩ := h
  exact ⟨xs, fun W' t => h W' ⟨t.os, t.tape, t.output, t.size, fun k hk hn => t.block k hk (fun e => by
    rcases e with e | e
    · exact hn e
    · omega)⟩⟩
theorem JF.fown {w W : World} {G cap n : Nat} {xs : List Value} {fs : List Frm} (j : JF w G cap n xs fs W) : FOwn W (fun k => k < w.heap.size ∨ W.heap.size ≤ k) (.slice (some ⟨G, 0, Option.none⟩) n cap) n fs := by
  have hG := j.lt
  exact FOwn.above ⟨xs, fun W' t => ⟨own_zero (own_off j.o (fun g hg hs => by
    have : some G = some g := hg
    simp only [Option.some.injEq] at this
    omega) t), G, Or.inl rfl, j.t.off j.l (fun k h => h) t⟩⟩
theorem JV.fown {w W : World} {v : Value} {n : Nat} {xs : List Value} {fs : List Frm} (j : JV w v n xs fs W) : FOwn W (fun k => k < w.heap.size ∨ W.heap.size ≤ k) v n fs := by
  obtain ⟨G, hG, ht⟩ := j.t
  exact FOwn.above ⟨xs, fun W' t => ⟨own_zero (own_off j.o (fun g hg hs => by have := (j.own hg).1; omega) t), G, hG, ht.off j.l (fun k h => h) t⟩⟩
/-- The block of an address. -/
def InB (a : Option Addr) (k : Nat) : Prop := ∃ o s, a = some ⟨k, o, s⟩
/-- A row whose lists are each its own. -/
def RowOwn (W : World) (S : Nat → Prop) (ga : Option Addr) (gc : Nat) (aa : Option Addr) (ac : Nat) (ta : Option Addr) (tc : Nat) (r : RowM) : Prop :=
  FOwn W (fun k => S k ∨ (InB aa k ∨ InB ta k)) (.slice ga r.guards.length gc) r.guards.length r.guards ∧ FOwn W (fun k => S k ∨ (InB ga k ∨ InB ta k)) (.slice aa r.adds.length ac) r.adds.length r.adds ∧ FOwn W (fun k => S k ∨ (InB ga k ∨ InB aa k)) (.slice ta r.tells.length tc) r.tells.length r.tells

/-- A row that can be read, whatever becomes of memory below B. -/
def RowX (W : World) (B : Nat) (v : Value) (r : RowM) : Prop :=
  ∃ ga gc aa ac ta tc, v = .agg #[.slice ga r.guards.length gc, .slice aa r.adds.length ac, .slice ta r.tells.length tc, .bool r.stop] ∧ FOff W (fun k => k < B) ga r.guards ∧ FOff W (fun k => k < B) aa r.adds ∧ FOff W (fun k => k < B) ta r.tells
/-- The same, and its lists are each its own. -/
def RowXO (W : World) (B : Nat) (v : Value) (r : RowM) : Prop :=
  ∃ ga gc aa ac ta tc, v = .agg #[.slice ga r.guards.length gc, .slice aa r.adds.length ac, .slice ta r.tells.length tc, .bool r.stop] ∧ FOff W (fun k => k < B) ga r.guards ∧ FOff W (fun k => k < B) aa r.adds ∧ FOff W (fun k => k < B) ta r.tells ∧ RowOwn W (fun k => k < B) ga gc aa ac ta tc r
theorem FormsAt.keep {W W' : World} {a : Option Addr} {fs : List Frm} (h : FormsAt W a fs) (hb : Below W.heap.size W W') : FormsAt W' a fs := fun i hi => by
  obtain ⟨b, off, e, a', c', ca, cc, c0, c1, c2, iC, iD⟩ := h i hi
  refine ⟨b, off, e, a', c', ca, cc, ?_, ?_, ?_, iC.below hb, iD.below hb⟩
  · rw [hb.cell (p := ⟨b, off + i * 3, none⟩) (block_lt c0)]; exact c0
  · rw [hb.cell (p := ⟨b, off + i * 3 + 1, none⟩) (block_lt c1)]; exact c1
  · rw [hb.cell (p := ⟨b, off + i * 3 + 2, none⟩) (block_lt c2)]; exact c2

/-- Blocks that hold no number, and no slice of two or three, hold no part of a form. -/
theorem Ints.past {W W' : World} {X : Nat} {a : Option Addr} {n : Nat} {zs : List Int} (h : Ints W a n zs) (hx : ∀ o q, W.cell? ⟨X, o, none⟩ ≠ some (.int .i64 q)) (t : Touch (fun z => z = X) W W') : Ints W' a n zs := by
  refine ⟨h.1, fun i hi => ?_⟩
  obtain ⟨b, off, e, hc⟩ := h.2 i hi
  refine ⟨b, off, e, ?_⟩
  have hb := block_lt hc
  have hne : b ≠ X := fun e2 => by subst e2; exact hx _ _ hc
  simp only [World.cell?] at hc ⊢
  rw [t.block b hb hne]; exact hc
theorem FormsAt.past {W W' : World} {X : Nat} {a : Option Addr} {fs : List Frm} (h : FormsAt W a fs) (hx : ∀ o v, W.cell? ⟨X, o, none⟩ = some v → v = .slice none 0 0 ∨ v = .bool false) (t : Touch (fun z => z = X) W W') : FormsAt W' a fs := fun i hi => by
  obtain ⟨b, off, e, a', c', ca, cc, c0, c1, c2, iC, iD⟩ := h i hi
  have hi' : ∀ o q, W.cell? ⟨X, o, none⟩ ≠ some (.int .i64 q) := fun o q hq => by rcases hx o _ hq with h | h <;> cases h
  have hne : b ≠ X := fun e2 => by subst e2; rcases hx _ _ c0 with h | h <;> cases h
  have hb := block_lt c0
  refine ⟨b, off, e, a', c', ca, cc, ?_, ?_, ?_, iC.past hi' t, iD.past hi' t⟩
  · simp only [World.cell?] at c0 ⊢; rw [t.block b hb hne]; exact c0
  · simp only [World.cell?] at c1 ⊢; rw [t.block b hb hne]; exact c1
  · simp only [World.cell?] at c2 ⊢; rw [t.block b hb hne]; exact c2
theorem JV.past {w W W' : World} {X : Nat} {v : Value} {n : Nat} {xs : List Value} {fs : List Frm} (j : JV w v n xs fs W) (hX : w.heap.size ≤ X) (hx : ∀ o q, W.cell? ⟨X, o, none⟩ ≠ some (.int .i64 q)) (ne : v.ownBlock ≠ some X) (t : Touch (fun z => z = X) W W') : JV w v n xs fs W' := by
  obtain ⟨G, hG, ht⟩ := j.t
  refine ⟨j.b.trans (t.below j.b.size (fun k hk => by omega)), ⟨j.o.1, ?_⟩, ⟨G, hG, fun i hi => ?_⟩, j.l⟩
  · rcases j.o.2 with h2 | ⟨g, cap, cur, hv, hg, hh, r⟩
    · exact Or.inl h2
    · refine Or.inr ⟨g, cap, cur, hv, hg, ?_, r⟩
      have hne : g ≠ X := fun e => ne (by rw [hv, e]; rfl)
      rw [t.block g (lt_of_block hh) hne]; exact hh
  · obtain ⟨a', c', ca, cc, e0, e1, e2, i1, i2, n1, n2⟩ := ht i hi
    exact ⟨a', c', ca, cc, e0, e1, e2, i1.past hx t, i2.past hx t, n1, n2⟩

theorem Cel.four {w : World} {B : Nat} {x y z u : Value} {t : TypeId} (h : Cel w B [x, y, z, u] t) : w.cell? ⟨B, 0, none⟩ = some x ∧ w.cell? ⟨B, 1, none⟩ = some y ∧ w.cell? ⟨B, 2, none⟩ = some z ∧ w.cell? ⟨B, 3, none⟩ = some u := ⟨h.cell 0, h.cell 1, h.cell 2, h.cell 3⟩
theorem boxNo {W : World} {X : Nat} {a a' a'' : Option Addr} {n n' n'' c c' c'' : Nat} {bb : Bool} {t : TypeId} (h : Cel W X [.slice a n c, .slice a' n' c', .slice a'' n'' c'', .bool bb] t) : ∀ o q, W.cell? ⟨X, o, none⟩ ≠ some (.int .i64 q) := fun o q e => by
  have := h.cell o
  rw [e] at this
  match o with
  | 0 => simp at this
  | 1 => simp at this
  | 2 => simp at this
  | 3 => simp at this
  | o + 4 => simp at this
theorem boxNil {W : World} {X : Nat} {t : TypeId} (h : Cel W X [.slice none 0 0, .slice none 0 0, .slice none 0 0, .bool false] t) : ∀ o v, W.cell? ⟨X, o, none⟩ = some v → v = .slice none 0 0 ∨ v = .bool false := fun o v e => by
  have := h.cell o
  rw [e] at this
  match o with
  | 0 => simp at this; exact Or.inl this
  | 1 => simp at this; exact Or.inl this
  | 2 => simp at this; exact Or.inl this
  | 3 => simp at this; exact Or.inr this
  | o + 4 => simp at this
theorem pot_bnd {k : Nat} (hk : k < 3) : bndT 1000000000000000000 (-1) (([0, 0, 0] : List Int).set k 1) := fun i => by
  match k, hk, i with
  | 0, _, 0 => simp
  | 0, _, 1 => simp
  | 0, _, 2 => simp
  | 0, _, i + 3 => simp
  | 1, _, 0 => simp
  | 1, _, 1 => simp
  | 1, _, 2 => simp
  | 1, _, i + 3 => simp
  | 2, _, 0 => simp
  | 2, _, 1 => simp
  | 2, _, 2 => simp
  | 2, _, i + 3 => simp
theorem pot_bnd2 : bndT 1000000000000000000 (-1) ([0, 0] : List Int) := fun i => by
  match i with
  | 0 => simp
  | 1 => simp
  | i + 2 => simp

end Go.Proofs.YtpmihhbgjimpmaaGreatDoor
namespace Go.Proofs.YtpmihhbgjimpmaaGreatDoor
open Go.RowKit Go.Deep
set_option linter.unusedVariables false
set_option maxRecDepth 100000

theorem goW_ne {ls : List LV} (f : Nat) : ∀ (i : Nat) (y : Way), 0 < (goW ls f i y).length := by
  induction f with
  | zero => intro i y; simp [goW]
  | succ f ih =>
    intro i y
    rw [goW]
    split
    · split
      · rw [List.length_append]; have := ih (i + 1) (y.guard (intoX (ls[i]?.getD noLV).f y.pots)); omega
      · split
        · exact ih _ _
        · split
          · exact ih _ _
          · simp
    · simp
theorem goW_len {ls : List LV} (f : Nat) : ∀ (i : Nat) (y : Way), (goW ls f i y).length ≤ 2 ^ f := by
  induction f with
  | zero => intro i y; simp [goW]
  | succ f ih =>
    intro i y
    have hp : 1 ≤ 2 ^ f := Nat.one_le_two_pow
    have h2 : 2 ^ (f + 1) = 2 ^ f + 2 ^ f := by rw [Nat.pow_succ]; omega
    rw [goW]
    split
    · split
      · rw [List.length_append]
        have h3 := ih (i + 1) (y.guard (intoX (ls[i]?.getD noLV).f y.pots))
        have h4 := ih (i + 1 + (ls[i]?.getD noLV).skip.toNat) (y.guard (minusX (intoX (ls[i]?.getD noLV).f y.pots)))
        omega
      · split
        · have := ih (i + 1) (y.add (ls[i]?.getD noLV).pot.toNat (intoX (ls[i]?.getD noLV).f y.pots)); omega
        · split
          · have := ih (i + 1) (y.tell (intoX (ls[i]?.getD noLV).f y.pots)); omega
          · simp; omega
    · simp; omega
theorem goW_128 {ls : List LV} {f i : Nat} {y : Way} (hf : f ≤ 7) : (goW ls f i y).length ≤ 128 :=
  Nat.le_trans (goW_len f i y) (Nat.le_trans (Nat.pow_le_pow_right (by omega) hf) (by decide))

theorem FOff.grown {W W' : World} {B G g : Nat} {a : Option Addr} {fs : List Frm} (h : FOff W (fun k => k < B ∨ k = G) a fs) (hg : W.grownBy W' (some G)) (hat : g = G ∨ W.heap.size ≤ g) : FOff W' (fun k => k < B ∨ k = g) a fs := fun W'' t => by
  refine h W'' ⟨t.os.trans hg.os, t.tape.trans hg.tape, t.output.trans hg.output, Nat.le_trans hg.size t.size, fun k hk hn => ?_⟩
  have hk1 : ¬ k < B := fun e => hn (Or.inl e)
  have hk2 : k ≠ G := fun e => hn (Or.inr e)
  rw [t.block k (Nat.lt_of_lt_of_le hk hg.size) (fun e => by omega)]
  exact hg.block k hk (fun e => by simp only [Option.some.injEq] at e; omega)

theorem FOwn.grown {W W' : World} {B G g : Nat} {T : Nat → Prop} {v : Value} {n : Nat} {fs : List Frm} (h : FOwn W (fun k => (k < B ∨ k = G) ∨ T k) v n fs) (hg : W.grownBy W' (some G)) (hat : g = G ∨ W.heap.size ≤ g) : FOwn W' (fun k => (k < B ∨ k = g) ∨ T k) v n fs := by
  obtain ⟨xs, h⟩ := h
  refine ⟨xs, fun W'' t => h W'' ⟨t.os.trans hg.os, t.tape.trans hg.tape, t.output.trans hg.output, Nat.le_trans hg.size t.size, fun k hk hn => ?_⟩⟩
  have hk1 : ¬ k < B := fun e => hn (Or.inl (Or.inl e))
  have hk2 : k ≠ G := fun e => hn (Or.inl (Or.inr e))
  have hk3 : ¬ T k := fun e => hn (Or.inr e)
  rw [t.block k (Nat.lt_of_lt_of_le hk hg.size) (fun e => by
    rcases e with (e | e) | e
    · exact hk1 e
    · omega
    · exact hk3 e)]
  exact hg.block k hk (fun e => by simp only [Option.some.injEq] at e; omega)

def noR : RowM := ⟨[], [], [], false⟩
/-- Rows in cells, each of whose lists is its own. -/
def RowsOwn (W : World) (S : Nat → Prop) (xs : List Value) (rs : List RowM) : Prop :=
  ∀ j, j < rs.length → ∃ ga gc aa ac ta tc, xs[j * 4]? = some (.slice ga (rs[j]?.getD noR).guards.length gc) ∧ xs[j * 4 + 1]? = some (.slice aa (rs[j]?.getD noR).adds.length ac) ∧ xs[j * 4 + 2]? = some (.slice ta (rs[j]?.getD noR).tells.length tc) ∧ xs[j * 4 + 3]? = some (.bool (rs[j]?.getD noR).stop) ∧ RowOwn W S ga gc aa ac ta tc (rs[j]?.getD noR)
theorem RowsOwn.map {W W' : World} {S S' : Nat → Prop} {xs : List Value} {rs : List RowM} (h : RowsOwn W S xs rs) (hf : ∀ (T : Nat → Prop) v n fs, FOwn W (fun k => S k ∨ T k) v n fs → FOwn W' (fun k => S' k ∨ T k) v n fs) : RowsOwn W' S' xs rs := fun j hj => by
  obtain ⟨ga, gc, aa, ac, ta, tc, e0, e1, e2, e3, f0, f1, f2⟩ := h j hj
  exact ⟨ga, gc, aa, ac, ta, tc, e0, e1, e2, e3, hf _ _ _ _ f0, hf _ _ _ _ f1, hf _ _ _ _ f2⟩
theorem RowsOwn.join {W : World} {S : Nat → Prop} {xs ys : List Value} {rs ss : List RowM} (h1 : RowsOwn W S xs rs) (h2 : RowsOwn W S ys ss) (hl : xs.length = rs.length * 4) : RowsOwn W S (xs ++ ys) (rs ++ ss) := fun j hj => by
  rw [List.length_append] at hj
  by_cases hjr : j < rs.length
  · rw [List.getElem?_append_left (l₁ := rs) hjr, List.getElem?_append_left (by omega), List.getElem?_append_left (by omega), List.getElem?_append_left (by omega), List.getElem?_append_left (by omega)]
    exact h1 j hjr
  · rw [List.getElem?_append_right (l₁ := rs) (by omega), List.getElem?_append_right (by omega), List.getElem?_append_right (by omega), List.getElem?_append_right (by omega), List.getElem?_append_right (by omega), hl]
    have := h2 (j - rs.length) (by omega)
    rw [show j * 4 - rs.length * 4 = (j - rs.length) * 4 by omega, show j * 4 + 1 - rs.length * 4 = (j - rs.length) * 4 + 1 by omega, show j * 4 + 2 - rs.length * 4 = (j - rs.length) * 4 + 2 by omega, show j * 4 + 3 - rs.length * 4 = (j - rs.length) * 4 + 3 by omega]
    exact this
/-- Rows in cells; they read on whatever becomes of the blocks of S. -/
def RowsOk (W : World) (S : Nat → Prop) (xs : List Value) (rs : List RowM) : Prop :=
  ∀ j, j < rs.length → ∃ ga gc aa ac ta tc, xs[j * 4]? = some (.slice ga (rs[j]?.getD noR).guards.length gc) ∧ xs[j * 4 + 1]? = some (.slice aa (rs[j]?.getD noR).adds.length ac) ∧ xs[j * 4 + 2]? = some (.slice ta (rs[j]?.getD noR).tells.length tc) ∧ xs[j * 4 + 3]? = some (.bool (rs[j]?.getD noR).stop) ∧
    FOff W S ga (rs[j]?.getD noR).guards ∧ FOff W S aa (rs[j]?.getD noR).adds ∧ FOff W S ta (rs[j]?.getD noR).tells
theorem RowsOk.map {W W' : World} {S S' : Nat → Prop} {xs : List Value} {rs : List RowM} (h : RowsOk W S xs rs) (hf : ∀ a fs, FOff W S a fs → FOff W' S' a fs) : RowsOk W' S' xs rs := fun j hj => by
  obtain ⟨ga, gc, aa, ac, ta, tc, e0, e1, e2, e3, f0, f1, f2⟩ := h j hj
  exact ⟨ga, gc, aa, ac, ta, tc, e0, e1, e2, e3, hf _ _ f0, hf _ _ f1, hf _ _ f2⟩
theorem RowsOk.join {W : World} {S : Nat → Prop} {xs ys : List Value} {rs ss : List RowM} (h1 : RowsOk W S xs rs) (h2 : RowsOk W S ys ss) (hl : xs.length = rs.length * 4) : RowsOk W S (xs ++ ys) (rs ++ ss) := fun j hj => by
  rw [List.length_append] at hj
  by_cases hjr : j < rs.length
  · rw [List.getElem?_append_left (l₁ := rs) hjr, List.getElem?_append_left (by omega), List.getElem?_append_left (by omega), List.getElem?_append_left (by omega), List.getElem?_append_left (by omega)]
    exact h1 j hjr
  · rw [List.getElem?_append_right (l₁ := rs) (by omega), List.getElem?_append_right (by omega), List.getElem?_append_right (by omega), List.getElem?_append_right (by omega), List.getElem?_append_right (by omega), hl]
    have := h2 (j - rs.length) (by omega)
    rw [show j * 4 - rs.length * 4 = (j - rs.length) * 4 by omega, show j * 4 + 1 - rs.length * 4 = (j - rs.length) * 4 + 1 by omega, show j * 4 + 2 - rs.length * 4 = (j - rs.length) * 4 + 2 by omega, show j * 4 + 3 - rs.length * 4 = (j - rs.length) * 4 + 3 by omega]
    exact this

end Go.Proofs.YtpmihhbgjimpmaaGreatDoor
namespace Go.Proofs.YtpmihhbgjimpmaaGreatDoor
open Go.RowKit Go.Deep
set_option linter.unusedVariables false
set_option maxRecDepth 100000

theorem allB_ofW {M : Int} {zs : List Int} (h : bnd M zs) : allB M zs = true := by
  unfold allB
  rw [List.all_eq_true]
  intro z hz
  obtain ⟨i, hi, rfl⟩ := List.getElem_of_mem hz
  have := h i
  rw [List.getElem?_eq_getElem hi] at this
  simp only [Option.getD_some] at this
  exact inB_iff.2 this
theorem fit_ok {f : Frm} (h : fitX 10000000 f) : formB 3 2 f.1 f.2.1 f.2.2 = true := by
  simp only [formB, okN, Bool.and_eq_true, decide_eq_true_eq]
  exact ⟨⟨⟨rfl, allB_ofW h.bc⟩, rfl, allB_ofW h.bd⟩, inB_iff.2 ⟨h.k1, h.k2⟩⟩
/-- Forms that can be read, with where they lie. -/
theorem FormsAt.fv {w : World} {a : Option Addr} {P : List Frm} (h : FormsAt w a P) (hl : P.length = 3) : ∃ fs : List FV, fs.length = 3 ∧ FormsG w a fs ∧ ∀ k, k < 3 → (fs[k]?.getD noFV).n = 3 ∧ (fs[k]?.getD noFV).m = 2 ∧ (fs[k]?.getD noFV).C = (P[k]?.getD noX).1 ∧ (fs[k]?.getD noFV).D = (P[k]?.getD noX).2.1 ∧ (fs[k]?.getD noFV).K = (P[k]?.getD noX).2.2 := by
  obtain ⟨b, off, e, a0, c0, p0, q0, x0, x1, x2, i0, j0⟩ := h 0 (by omega)
  obtain ⟨b1, off1, e1, a1, c1, p1, q1, y0, y1, y2, i1, j1⟩ := h 1 (by omega)
  obtain ⟨b2, off2, e2, a2, c2, p2, q2, z0, z1, z2, i2, j2⟩ := h 2 (by omega)
  refine ⟨[⟨a0, 3, p0, c0, 2, q0, (P[0]?.getD noX).2.2, (P[0]?.getD noX).1, (P[0]?.getD noX).2.1⟩, ⟨a1, 3, p1, c1, 2, q1, (P[1]?.getD noX).2.2, (P[1]?.getD noX).1, (P[1]?.getD noX).2.1⟩, ⟨a2, 3, p2, c2, 2, q2, (P[2]?.getD noX).2.2, (P[2]?.getD noX).1, (P[2]?.getD noX).2.1⟩], rfl, fun i hi => ?_, fun k hk => ?_⟩
  · match i, hi with
    | 0, _ => exact ⟨b, off, e, x0, x1, x2, ⟨i0, j0, by show (3 : Nat) ≤ _; omega, by show (2 : Nat) ≤ _; omega⟩⟩
    | 1, _ => exact ⟨b1, off1, e1, y0, y1, y2, ⟨i1, j1, by show (3 : Nat) ≤ _; omega, by show (2 : Nat) ≤ _; omega⟩⟩
    | 2, _ => exact ⟨b2, off2, e2, z0, z1, z2, ⟨i2, j2, by show (3 : Nat) ≤ _; omega, by show (2 : Nat) ≤ _; omega⟩⟩
  · match k, hk with
    | 0, _ => exact ⟨rfl, rfl, rfl, rfl, rfl⟩
    | 1, _ => exact ⟨rfl, rfl, rfl, rfl, rfl⟩
    | 2, _ => exact ⟨rfl, rfl, rfl, rfl, rfl⟩

theorem into_eq {g : FV} {P : List Frm} {fs : List FV} (hP : P.length = 3) (h : ∀ k, k < 3 → (fs[k]?.getD noFV).C = (P[k]?.getD noX).1 ∧ (fs[k]?.getD noFV).D = (P[k]?.getD noX).2.1 ∧ (fs[k]?.getD noFV).K = (P[k]?.getD noX).2.2) : intoC g.C fs 3 = (intoX g P).1 ∧ intoD g.C g.D fs 3 = (intoX g P).2.1 ∧ intoK g.C g.K fs 3 = (intoX g P).2.2 := by
  obtain ⟨x0, x1, x2⟩ := h 0 (by omega)
  obtain ⟨y0, y1, y2⟩ := h 1 (by omega)
  obtain ⟨z0, z1, z2⟩ := h 2 (by omega)
  have t0 := toFV_at (P := P) (k := 0) (by omega)
  have t1 := toFV_at (P := P) (k := 1) (by omega)
  have t2 := toFV_at (P := P) (k := 2) (by omega)
  simp only [intoX, intoC, intoD, intoK, x0, x1, x2, y0, y1, y2, z0, z1, z2, t0, t1, t2, toFV]
  exact ⟨trivial, trivial, trivial⟩

/-- What a call of either FrmInto leaves, where no number is too great. -/
theorem into_done {i : Nat} {y : Way} (hy : WayOk i y) (h6 : i ≤ 6) (g : FV) (hs : smallB g.n g.m g.C g.D g.K = true) (w : World) (hA : g.At w) (pa : Option Addr) (cp : Nat) (hP : FormsAt w pa y.pots) (fn : Nat)
    (call : ∀ fs : List FV, fs.length = 3 → FormsG w pa fs → Calls Tryz.prog fn #[formV g.a g.n g.cap g.c g.m g.cap' g.K, .slice pa 3 cp] w fun e w' => Res w w' e (keepL (intoOk g.n g.m g.C g.D g.K 3 fs) (intoC g.C fs 3)) (keepL (intoOk g.n g.m g.C g.D g.K 3 fs) (intoD g.C g.D fs 3)) (keepK (intoOk g.n g.m g.C g.D g.K 3 fs) (intoK g.C g.K fs 3))) :
    Calls Tryz.prog fn #[formV g.a g.n g.cap g.c g.m g.cap' g.K, .slice pa 3 cp] w fun e w' => ∃ B1 B2 c1 c2, e = .returned (formV (some ⟨B1, 0, none⟩) 3 c1 (some ⟨B2, 0, none⟩) 2 c2 (intoX g y.pots).2.2) ∧ Below w.heap.size w w' ∧ w.heap.size ≤ B1 ∧ B1 ≠ B2 ∧ w.heap.size ≤ B2 ∧ Blk w' B1 (intoX g y.pots).1 ∧ Blk w' B2 (intoX g y.pots).2.1 := by
  obtain ⟨fs, hl, hG, hv⟩ := hP.fv hy.pl
  have hw6 := wb_six h6
  obtain ⟨q1, q2, q3⟩ := into_eq (g := g) hy.pl (fun k hk => ⟨(hv k hk).2.2.1, (hv k hk).2.2.2.1, (hv k hk).2.2.2.2⟩)
  obtain ⟨f1, f2, f3⟩ := hy.into h6 hs hA.D.1
  have hok : fs.all FV.ok = true := by
    rw [List.all_eq_true]
    intro x hx
    obtain ⟨k, hk, rfl⟩ := List.getElem_of_mem hx
    obtain ⟨e1, e2, e3, e4, e5⟩ := hv k (by omega)
    rw [List.getElem?_eq_getElem hk] at e1 e2 e3 e4 e5
    simp only [Option.getD_some] at e1 e2 e3 e4 e5
    have hf := fit_ok ((hy.pf k (by omega)).mono (show wb (min i 6) ≤ 10000000 by have := wb_six (n := min i 6) (by omega); omega))
    unfold FV.ok
    rw [e1, e2, e3, e4, e5]; exact hf
  have hio : intoOk g.n g.m g.C g.D g.K 3 fs = true := by
    unfold intoOk
    rw [small_ok hs, hok, q1, q2, q3, fit_ok f2]; rfl
  refine (call fs hl hG).mono ?_
  rintro e w' ⟨a, n, cap, c, m, cap', B1, B2, rfl, L1, L2, b, o1, o2, g1, g2, g3⟩
  rw [hio] at L1 L2 o1 o2 ⊢
  simp only [keepL, keepK, if_true] at L1 L2 o1 o2 ⊢
  rw [q1] at L1 o1
  rw [q2] at L2 o2
  rw [q3]
  have hc := f2.c
  have hd := f2.d
  obtain rfl : n = 3 := by omega
  obtain rfl : m = 2 := by omega
  rcases o1 with h | ⟨rfl, k1⟩
  · rw [h] at hc; cases hc
  rcases o2 with h | ⟨rfl, k2⟩
  · rw [h] at hd; cases hd
  exact ⟨B1, B2, cap, cap', rfl, b, g1 (by omega), g3 (by omega) (by omega), g2 (by omega), k1, k2⟩

theorem iintoW_any {i : Nat} {y : Way} (hy : WayOk i y) (h6 : i ≤ 6) (g : FV) (hs : smallB g.n g.m g.C g.D g.K = true) (w : World) (hA : g.At w) (pa : Option Addr) (cp : Nat) (hP : FormsAt w pa y.pots) :
    Calls Tryz.prog 182 #[formV g.a g.n g.cap g.c g.m g.cap' g.K, .slice pa 3 cp] w fun e w' => ∃ B1 B2 c1 c2, e = .returned (formV (some ⟨B1, 0, none⟩) 3 c1 (some ⟨B2, 0, none⟩) 2 c2 (intoX g y.pots).2.2) ∧ Below w.heap.size w w' ∧ w.heap.size ≤ B1 ∧ B1 ≠ B2 ∧ w.heap.size ≤ B2 ∧ Blk w' B1 (intoX g y.pots).1 ∧ Blk w' B2 (intoX g y.pots).2.1 :=
  into_done hy h6 g hs w hA pa cp hP _ (fun fs hl hG => iinto_any _ _ _ _ _ _ _ g.C g.D _ _ _ fs _ hA.C hA.D hA.hn hA.hm hl hG (by omega))

end Go.Proofs.YtpmihhbgjimpmaaGreatDoor
namespace Go.Proofs.YtpmihhbgjimpmaaGreatDoor
open Go.RowKit Go.Deep
set_option linter.unusedVariables false
set_option maxRecDepth 100000

set_option maxHeartbeats 1600000 in
theorem ilack_any (a : Option Addr) (cap : Nat) (c : Option Addr) (cap' : Nat) (K : Int) (C D : List Int) (w : World) (hC : Ints w a 3 C) (hD : Ints w c 2 D) (bC : bnd 10000000 C) (bD : bnd 10000000 D) (bK1 : -10000000 ≤ K) (bK2 : K ≤ 10000000) (hfit : fitX 10000000 (minusX (C, D, K))) :
    Calls Tryz.prog 184 #[formV a 3 cap c 2 cap' K] w fun e w' => ∃ B1 B2, e = .returned (formV (some ⟨B1, 0, none⟩) 3 3 (some ⟨B2, 0, none⟩) 2 2 (-K - 1)) ∧ Below w.heap.size w w' ∧ w.heap.size ≤ B1 ∧ B1 ≠ B2 ∧ w.heap.size ≤ B2 ∧ Blk w' B1 (mulL (-1) C) ∧ Blk w' B2 (mulL (-1) D) := by
  have hok : formB 3 2 (mulL (-1) C) (mulL (-1) D) (-K - 1) = true := by
    have := fit_ok hfit
    simp only [minusX] at this
    rw [show -1 * K - 1 = -K - 1 by omega] at this
    exact this
  have HOK : Hid _ := hok
  have lC : (mulL (-1) C).length = 3 := by rw [mulL_len]; exact hC.1
  have lD : (mulL (-1) D).length = 2 := by rw [mulL_len]; exact hD.1
  clear hok hfit
  have A2 : Below w.heap.size w ((w.alloc (.cells #[.slice a 3 cap, .slice c 2 cap', .int .i64 K] 95)).alloc (.cells #[.slice none 0 0, .slice none 0 0, .int .i64 0] 95)) := ((Below.refl _ _).alloc (Nat.le_refl _) _).alloc (by simp) _
  have rr := Cel.new (w.alloc (.cells #[.slice a 3 cap, .slice c 2 cap', .int .i64 K] 95)) [.slice none 0 0, .slice none 0 0, .int .i64 0] 95
  rw [World.size_alloc] at rr
  go_enter Tryz.func184, Tryz.ntmps184
  go_wp2_with fail
  refine (times_any _ _ _ _ _ C D _ _ (hC.below A2) (hD.below A2) (tim_bnd bC (by omega) (by omega)) (tim_bnd bD (by omega) (by omega)) (tim_num bK1 bK2 (by omega) (by omega))).mono ?_
  rintro e w3 ⟨B1, B2, rfl, b3, y1, y2, y3, k1, k2⟩
  rw [show (-1 : Int) * K = -K by omega]
  rw [World.size_alloc, World.size_alloc] at y1 y3
  have B3 := A2.trans (b3.mono A2.size)
  have r3 := rr.below b3
  have l1 := k1.lt
  have l2 := k2.lt
  have lr := r3.lt
  clear A2 b3 rr
  have hw : IntKind.i64.wrap (-K - 1) = -K - 1 := wrap_id (by omega) (by omega)
  have A4 : Below w3.heap.size w3 (w3.alloc (.cells #[.slice (some ⟨B1, 0, none⟩) 3 3, .slice (some ⟨B2, 0, none⟩) 2 2, .int .i64 (-K - 1)] 95)) := (Below.refl _ _).alloc (Nat.le_refl _) _
  have m1 := k1.below A4
  have m2 := k2.below A4
  have r4 := r3.below A4
  have B4 := B3.trans (A4.mono B3.size)
  clear k1 k2 r3 A4 B3
  go_wp2_with fail
  refine (orN_yes _ _ _ _ _ _ _ (mulL (-1) C) (mulL (-1) D) _ (m1.ints' lC) (m2.ints' lD) (by omega) (by omega) HOK.out).mono ?_
  rintro e w5 ⟨rfl, b5⟩
  have n1 := m1.below b5
  have n2 := m2.below b5
  have r5 := r4.below b5
  have B5 := B4.trans (b5.mono B4.size)
  obtain ⟨e0, e1, e2, e3, e4, e5⟩ := r5.trio
  have r6 := ((r5.set 0 (.slice (some ⟨B1, 0, none⟩) 3 3)).set 1 (.slice (some ⟨B2, 0, none⟩) 2 2)).set 2 (.int .i64 (-K - 1))
  simp only [List.set_cons_zero, List.set_cons_succ] at r6
  obtain ⟨h0, h1, h2, h3, h4, h5⟩ := r6.trio
  clear m1 m2 r4 B4 b5
  go_wp2
  refine bodyPost_ret (v := formV (some ⟨B1, 0, none⟩) 3 3 (some ⟨B2, 0, none⟩) 2 2 (-K - 1)) (by simp [results, Tryz.results184, go_sem, h0, h1, h2]) rfl ?_
  refine ⟨B1, B2, rfl, ?_, by omega, y2, by omega, ?_, ?_⟩
  · exact ((B5.setCell (by simp only []; omega) _).setCell (by simp only []; omega) _).setCell (by simp only []; omega) _
  · exact ((n1.setOther (by omega) _ _).setOther (by omega) _ _).setOther (by omega) _ _
  · exact ((n2.setOther (by omega) _ _).setOther (by omega) _ _).setOther (by omega) _ _

theorem way0_get {k : Nat} (hk : k < 3) : way0.pots[k]?.getD ([], [], 0) = (([0, 0, 0] : List Int).set k 1, [0, 0], 0) := by
  match k, hk with
  | 0, _ => rfl
  | 1, _ => rfl
  | 2, _ => rfl

set_option maxHeartbeats 1600000 in
theorem ipots_any (w : World) : Calls Tryz.prog 133 #[] w fun e w' => ∃ v xs, e = .returned v ∧ JV w v 3 xs way0.pots w' := by
  obtain ⟨zi, hi, hz0, hz1, hz2⟩ := info_parts Tryz.infoForm
  go_enter Tryz.func133, Tryz.ntmps133
  go_wp2_with fail
  go_loopw [1, 2, 3] (fun r _ i wr => ∃ (k : Nat) (xs : List Value), k ≤ 3 ∧ i = .int .i64 k ∧ JV w r k xs way0.pots wr) (fun _ _ i _ => 3 - (intOf i).toNat)
  case atStart => exact ⟨0, [], by omega, rfl, JV.nil w _⟩
  case round =>
    obtain ⟨k, xs, hk, rfl, j⟩ := hrel
    by_cases hlt : k < 3
    · obtain ⟨va, vc, rfl⟩ := j.isSlice
      have hlt' : (k : Int) < 3 := by omega
      have HT : Hid _ := way0_get hlt
      go_wp2_with fail
      refine (ipot_any _ _).mono ?_
      rintro ee w3 ⟨a0, n0, x0, c0, m0, y0, Z1, Z2, rfl, L1, L2, b3, o1, o2, g1, g2, g3⟩
      rw [potC_in (k : Int) k rfl (by omega)] at L1 o1
      rw [potD_in (k : Int) (by omega) (by omega)] at L2 o2
      obtain rfl : n0 = 3 := by rw [← L1]; simp
      obtain rfl : m0 = 2 := by rw [← L2]; simp
      rcases o1 with h | ⟨rfl, k1⟩
      · rw [h] at L1; cases L1
      rcases o2 with h | ⟨rfl, k2⟩
      · cases h
      have z1 := g1 (by omega)
      have z2 := g2 (by omega)
      clear g1 g2 g3
      have j3 := j.below b3
      have sz := j.b.size
      have sz3 := b3.size
      have A : Below w3.heap.size w3 (w3.alloc (.cells #[.slice (some ⟨Z1, 0, none⟩) 3 x0, .slice (some ⟨Z2, 0, none⟩) 2 y0, .int .i64 0] 95)) := (Below.refl _ _).alloc (Nat.le_refl _) _
      have j4 := j3.below A
      have k1' := k1.below A
      have k2' := k2.below A
      have n1 : (Value.slice va k vc).ownBlock ≠ some Z1 := fun e => by have := (j.own e).2; omega
      have n2 : (Value.slice va k vc).ownBlock ≠ some Z2 := fun e => by have := (j.own e).2; omega
      have l3 : (([0, 0, 0] : List Int).set k 1).length = 3 := by simp
      clear j j3
      go_wp2_with (at_builtin; go_must (refine wpList_append_lies _ rfl (.tmp 6) (.tmp 9) 176 rfl w.heap.size 95 zi _ 3 56 Tryz.underlying176 hi hz0 hz1 hz2 rfl (by decide) (.slice va k vc) k xs rfl j4.o ⟨w3.heap.size, 0, none⟩ 1 1 [.slice (some ⟨Z1, 0, none⟩) 3 x0, .slice (some ⟨Z2, 0, none⟩) 2 y0, .int .i64 0] rfl rfl (World.news_of_block (cs := #[.slice (some ⟨Z1, 0, none⟩) 3 x0, .slice (some ⟨Z2, 0, none⟩) 2 y0, .int .i64 0]) (t := 95) (fr := (0, 0)) (heap_alloc_new w3 _)) (by simp [Value.oneCell']) (by omega) (by unfold maxLen; omega) (by omega) (by rw [World.size_alloc]; omega) _ rfl ?_); intro g cp w4 hown hgrow hat hlt1)
      have j5 := j4.app hown hgrow hat rfl (k1'.ints' l3) (k2'.ints' rfl) n1 n2 (by omega) (by omega) HT.out
      clear hown hgrow hat j4 k1 k2 k1' k2'
      go_wp2
      go_roundw
      case rel => exact ⟨k + 1, _, by omega, by go_num, j5⟩
      case measure => simp [intOf]; omega
    · obtain rfl : k = 3 := by omega
      go_wp2
      go_ret
      exact ⟨_, xs, rfl, j⟩

end Go.Proofs.YtpmihhbgjimpmaaGreatDoor
namespace Go.Proofs.YtpmihhbgjimpmaaGreatDoor
open Go.RowKit Go.Deep
set_option linter.unusedVariables false
set_option maxRecDepth 100000

/-- A slice of them that grows in memory of its own; each list in a block of its own. -/
structure JRs (w : World) (v : Value) (ts : List RsV) (bs : Nat → Nat) (W : World) : Prop where
  b : Below w.heap.size w W
  o : W.ownsRow w.heap.size 54 2 v ts.length (ts.flatMap RsV.cs)
  k : ∀ j, j < ts.length → OwnX W (ts[j]?.getD noRs).t.a (bs j) (ts[j]?.getD noRs).t.n (ts[j]?.getD noRs).t.x ∧ (ts[j]?.getD noRs).t.n ≤ 1048576 ∧ (0 < (ts[j]?.getD noRs).t.n → w.heap.size ≤ bs j ∧ some (bs j) ≠ v.ownBlock)
  d : ∀ i j, i < ts.length → j < ts.length → i ≠ j → 0 < (ts[i]?.getD noRs).t.n → 0 < (ts[j]?.getD noRs).t.n → bs i ≠ bs j
theorem JRs.nil (w W : World) (hb : Below w.heap.size w W) (bs : Nat → Nat) : JRs w (.slice none 0 0) [] bs W := ⟨hb, World.ownsRow_nil W _ _ _, fun j hj => by simp at hj, fun i j hi => by simp at hi⟩
theorem JRs.below {w W W' : World} {v : Value} {ts : List RsV} {bs : Nat → Nat} (j : JRs w v ts bs W) (h : Below W.heap.size W W') : JRs w v ts bs W' :=
  ⟨j.b.trans (h.mono j.b.size), own_below j.o h, fun i hi => by obtain ⟨a, b⟩ := j.k i hi; exact ⟨a.below h, b⟩, j.d⟩
theorem JRs.own {w W : World} {v : Value} {ts : List RsV} {bs : Nat → Nat} (j : JRs w v ts bs W) {g : Nat} (h : v.ownBlock = some g) : w.heap.size ≤ g ∧ g < W.heap.size := by
  rcases j.o.2 with ⟨h', _⟩ | ⟨g', cap, cur, hv, hg, hh, r⟩
  · rw [h'] at h; simp [Value.ownBlock] at h
  · rw [hv] at h
    simp only [Value.ownBlock, Option.some.injEq] at h
    subst h
    exact ⟨hg, lt_of_block hh⟩
theorem JRs.isSlice {w W : World} {v : Value} {ts : List RsV} {bs : Nat → Nat} {k : Nat} (j : JRs w v ts bs W) (hk : ts.length = k) : ∃ a c, v = .slice a k c := by
  subst hk
  rcases j.o.2 with ⟨h', h0⟩ | ⟨g', cap, cur, hv, hg, hh, r⟩
  · exact ⟨none, 0, by rw [h', h0]⟩
  · exact ⟨_, _, hv⟩
theorem JRs.app {w W W' : World} {v v' : Value} {ts : List RsV} {bs : Nat → Nat} {s : RsV} {A k : Nat} {o : Obj} (j : JRs w v ts bs W) (hk : ts.length = k) (hA : OwnX W s.t.a A s.t.n s.t.x) (hz : s.t.n ≤ 1048576) (hlo : 0 < s.t.n → w.heap.size ≤ A ∧ some A ≠ v.ownBlock) (hnew : 0 < s.t.n → ∀ i, i < k → 0 < (ts[i]?.getD noRs).t.n → bs i ≠ A)
    (hown : W'.ownsRow w.heap.size 54 2 v' (k + 1) (ts.flatMap RsV.cs ++ s.cs)) (hg : (W.alloc o).grownBy W' v.ownBlock) (hat : v'.ownBlock = v.ownBlock ∨ v'.ownBlock = some (W.alloc o).heap.size) : JRs w v' (ts ++ [s]) (fun i => if i < k then bs i else A) W' := by
  subst hk
  have B1 : Below W.heap.size W (W.alloc o) := (Below.refl _ _).alloc (Nat.le_refl _) _
  have ja := j.below B1
  have key : ∀ (a : Option Addr) (Y n : Nat) (x : List Int), OwnX W a Y n x → (0 < n → w.heap.size ≤ Y ∧ some Y ≠ v.ownBlock) → OwnX W' a Y n x ∧ (0 < n → w.heap.size ≤ Y ∧ some Y ≠ v'.ownBlock) := fun a Y n x h1 h2 => by
    refine ⟨?_, fun hn => ⟨(h2 hn).1, fun e => ?_⟩⟩
    · have h3 := h1.below B1
      rcases h3.2 with h0 | ⟨e1, cur, hc, hv⟩
      · exact ⟨h3.1, .inl h0⟩
      · by_cases hn : 0 < n
        · exact ⟨h3.1, .inr ⟨e1, cur, hc.grew hg (fun e => (h2 hn).2 e.symm), hv⟩⟩
        · exact ⟨h3.1, .inl (by omega)⟩
    · have hl := h1.lt hn
      rcases hat with h | h
      · exact (h2 hn).2 (e.trans h)
      · rw [h, World.size_alloc] at e
        simp only [Option.some.injEq] at e
        omega
  have hold : ∀ i, i < ts.length → (ts ++ [s])[i]?.getD noRs = (ts[i]?.getD noRs) := fun i h => by rw [List.getElem?_append_left h]
  have hlast : (ts ++ [s])[ts.length]?.getD noRs = s := by rw [List.getElem?_append_right (Nat.le_refl _), Nat.sub_self]; rfl
  refine ⟨ja.b.grown hg ja.b.size (fun z hz => (j.own hz).1), ?_, fun i hi => ?_, fun i i' hi hi' hne h1 h2 => ?_⟩
  · rw [List.length_append, List.flatMap_append]
    have : [s].flatMap RsV.cs = s.cs := by simp
    rw [this]
    exact hown
  · by_cases h : i < ts.length
    · rw [hold i h]
      obtain ⟨a, b, d⟩ := j.k i h
      simp only [h, if_true]
      obtain ⟨q1, q2⟩ := key _ _ _ _ a d
      exact ⟨q1, b, q2⟩
    · rw [List.length_append, List.length_singleton] at hi
      obtain rfl : i = ts.length := by omega
      rw [hlast]
      simp only [Nat.lt_irrefl, if_false]
      obtain ⟨q1, q2⟩ := key _ _ _ _ hA hlo
      exact ⟨q1, hz, q2⟩
  · rw [List.length_append, List.length_singleton] at hi hi'
    by_cases h : i < ts.length
    · by_cases h' : i' < ts.length
      · rw [hold i h] at h1
        rw [hold i' h'] at h2
        simp only [h, h', if_true]
        exact j.d i i' h h' hne h1 h2
      · obtain rfl : i' = ts.length := by omega
        rw [hold i h] at h1
        rw [hlast] at h2
        simp only [h, if_true, Nat.lt_irrefl, if_false]
        exact hnew h2 i h h1
    · obtain rfl : i = ts.length := by omega
      have h' : i' < ts.length := by omega
      rw [hlast] at h1
      rw [hold i' h'] at h2
      simp only [h', if_true, Nat.lt_irrefl, if_false]
      exact fun e => hnew h1 i' h' h2 e.symm
theorem atRsc (ts : List RsV) : ∀ i, i < ts.length → ∀ r, r < 2 → (ts.flatMap RsV.cs)[i * 2 + r]? = (ts[i]?.getD noRs).cs[r]? := by
  induction ts with
  | nil => intro i hi; simp at hi
  | cons t ts ih =>
    intro i hi r hr
    rw [List.flatMap_cons]
    have hl : t.cs.length = 2 := rfl
    cases i with
    | zero => rw [List.getElem?_append_left (by omega)]; simp
    | succ i =>
      rw [List.getElem?_append_right (by omega), hl, show (i + 1) * 2 + r - 2 = i * 2 + r by omega, ih i (by simpa using hi) r hr]
      simp
theorem JRs.lies {w W : World} {v : Value} {ts : List RsV} {bs : Nat → Nat} {n : Nat} (j : JRs w v ts bs W) (hn : ts.length = n) : ∃ a G cap, v = .slice a n cap ∧ RsL W a G n (fun i => ts[i]?.getD noRs) bs ∧ (0 < n → w.heap.size ≤ G) ∧ ∀ i, i < n → 0 < (ts[i]?.getD noRs).t.n → w.heap.size ≤ bs i := by
  subst hn
  rcases j.o.2 with ⟨h', h0⟩ | ⟨g, cap, cur, hv, hg, hh, _, _, hcs, htake⟩
  · refine ⟨none, 0, 0, by rw [h', h0], ?_, fun h => by omega, fun i hi => by omega⟩
    rw [h0]
    exact RsL.zero _ _ _ _ _
  · refine ⟨_, g, cap, hv, ⟨fun h => ⟨rfl, cur.toList, by unfold Cel; simpa using hh, fun i hi r hr => ?_⟩, fun i hi => ?_, fun i i' hi hi' hne h1 h2 => j.d i i' hi hi' hne h1 h2⟩, fun _ => hg, fun i hi h => ((j.k i hi).2.2 h).1⟩
    · rw [← atRsc ts i hi r hr, ← htake, List.getElem?_take, if_pos (by omega)]
    · obtain ⟨a, b, d⟩ := j.k i hi
      refine ⟨a, fun h e => (d h).2 ?_, b⟩
      rw [hv, e]
      rfl
theorem JRs.lit (w : World) (bs : Nat → Nat) : JRs w (.slice (some ⟨w.heap.size, 0, none⟩) 0 0) [] bs (w.alloc (.cells #[] 54)) := ⟨(Below.refl _ _).alloc (Nat.le_refl _) _, World.ownsRow_lit w #[] 0 (Nat.le_refl _) (by unfold maxLen; omega) rfl, fun j hj => by simp at hj, fun i j hi => by simp at hi⟩

end Go.Proofs.YtpmihhbgjimpmaaGreatDoor
namespace Go.Proofs.YtpmihhbgjimpmaaGreatDoor
open Go.RowKit
set_option linter.unusedVariables false
set_option maxRecDepth 100000

theorem copiesL_same {fs gs hs : List LV} {N : Nat} (hg : gs.length = N) (hh : hs.length = N) (h1 : copiesL fs gs) (h2 : copiesL fs hs) : ∀ i, i < N → sameL (gs[i]?.getD noLV) (hs[i]?.getD noLV) := fun i hi => by
  obtain ⟨a1, a2, a3, a4, a5, a6, _⟩ := h1 i (by omega)
  obtain ⟨b1, b2, b3, b4, b5, b6, _⟩ := h2 i (by omega)
  refine ⟨by rw [a1, b1], by rw [a2, b2], by rw [a3, b3], ?_⟩
  rw [a4, a5, a6, b4, b5, b6]
  exact eqF_refl _ _ _
theorem copiesL_map {α : Type} (P : LV → α) (hP : ∀ f g : LV, f.kind = g.kind → f.pot = g.pot → f.skip = g.skip → f.f.C = g.f.C → f.f.D = g.f.D → f.f.K = g.f.K → f.f.n = g.f.n → f.f.m = g.f.m → P f = P g) {fs gs : List LV} (hl : gs.length = fs.length) (h : copiesL fs gs) : gs.map P = fs.map P := by
  apply List.ext_getElem?
  intro i
  by_cases hi : i < gs.length
  · obtain ⟨a1, a2, a3, a4, a5, a6, a7, a8⟩ := h i hi
    have := hP _ _ a1 a2 a3 a4 a5 a6 a7 a8
    rw [List.getElem?_eq_getElem hi, List.getElem?_eq_getElem (by omega)] at this
    simp only [Option.getD_some] at this
    rw [List.getElem?_map, List.getElem?_map, List.getElem?_eq_getElem hi, List.getElem?_eq_getElem (by omega)]
    simp [this]
  · rw [List.getElem?_eq_none (by simp; omega), List.getElem?_eq_none (by simp; omega)]
theorem copiesL_act {fs gs : List LV} {N : Nat} (hl : gs.length = fs.length) (h : copiesL fs gs) : actB N gs = actB N fs := by
  have h1 := copiesL_map LV.ok (fun f g a1 a2 a3 a4 a5 a6 a7 a8 => by simp only [LV.ok, a1, a2, a3, a4, a5, a6, a7, a8]) hl h
  have h2 := copiesL_map LV.tst (fun f g a1 a2 a3 a4 a5 a6 a7 a8 => by simp only [LV.tst, a1]) hl h
  have e1 : ∀ xs : List LV, xs.all LV.ok = (xs.map LV.ok).all id := fun xs => by simp [List.all_map]
  have e2 : ∀ xs : List LV, tests xs = (xs.map LV.tst).countP id := fun xs => by simp [tests, List.countP_map]
  rw [actB, actB, e1, e1, e2, e2, h1, h2]

def L2V.ok (s : L2V) : Bool := actB s.n s.x
/-- Whether acts are ok. -/
def catB (N : Nat) (ss : List L2V) : Bool := inB N 1 4 && ss.all L2V.ok
theorem allC_take_succ {ls : List L2V} {k : Nat} (h : k < ls.length) (h1 : (ls.take k).all L2V.ok = true) (h2 : (ls[k]?.getD noL).ok = true) : (ls.take (k + 1)).all L2V.ok = true := by
  rw [List.take_succ_eq_append_getElem h, List.all_append, h1]
  rw [List.getElem?_eq_getElem h] at h2
  simpa using h2
theorem allC_no {ls : List L2V} {k : Nat} (h : k < ls.length) (h2 : (ls[k]?.getD noL).ok = false) : ls.all L2V.ok = false := by
  rw [List.all_eq_false]
  rw [List.getElem?_eq_getElem h] at h2
  exact ⟨ls[k], List.getElem_mem h, by simpa using h2⟩

set_option maxHeartbeats 1600000 in
theorem scat_any (ad : Option Addr) (N cap : Nat) (ss : List L2V) (w : World) (hN : ss.length = N) (hF : LSG w ad ss) (hN1 : N ≤ 1048576) :
    Calls Tryz.prog 48 #[.slice ad N cap] w fun e w' => e = .returned (.bool (catB N ss)) ∧ Below w.heap.size w w' := by
  have HN : Hid (ss.length = N) := hN
  clear hN
  cases hib : inB N 1 4
  · go_enter Tryz.func48, Tryz.ntmps48
    go_wp2_with fail
    refine (in_any _ _ _ _).mono ?_
    rintro e w1 ⟨rfl, rfl⟩
    rw [hib]
    go_wp2
    go_ret
    exact ⟨ret_bool (by rw [catB, hib]; rfl), Below.refl _ _⟩
  go_enter Tryz.func48, Tryz.ntmps48
  go_wp2_with fail
  refine (in_any _ _ _ _).mono ?_
  rintro e w1 ⟨rfl, hw1⟩
  rw [hib, hw1]
  clear hw1
  go_wp2_with fail
  have HCB : Hid (catB N ss = ss.all L2V.ok) := by show catB N ss = _; rw [catB, hib]; rfl
  go_loopw [3] (fun  i wr => ∃ k : Nat, k ≤ N ∧ i = .int .i64 k ∧ Below w.heap.size w wr ∧ (ss.take k).all L2V.ok = true) (fun i _ => N - (intOf i).toNat)
  case atStart => exact ⟨0, Nat.zero_le _, rfl, Below.refl _ _, by simp⟩
  case round =>
    obtain ⟨k, hk, rfl, hb, hall⟩ := hrel
    have HA : Hid ((ss.take k).all L2V.ok = true) := hall
    clear hall
    by_cases hlt : k < N
    · obtain ⟨b, off, rfl, hc, hr⟩ := (hF.below hb) k (by rw [HN.out]; exact hlt)
      generalize HG : ss[k]?.getD noL = g at *
      have HG' : Hid (ss[k]?.getD noL = g) := HG
      clear HG hF
      obtain ⟨ga, gn, gcap, gx⟩ := g
      have hc' : wr.cell? ⟨b, off + k, none⟩ = some (.slice ga gn gcap) := hc
      clear hc
      cases hf : actB gn gx
      · go_wp2_with fail
        refine (sact_any _ _ _ gx _ hr.1 hr.2.1 hr.2.2).mono ?_
        rintro e w1 ⟨rfl, b1⟩
        rw [hf]
        go_wp2
        go_ret
        exact ⟨ret_bool (by rw [HCB.out, allC_no (k := k) (by rw [HN.out]; exact hlt) (by rw [HG'.out]; exact hf)]), hb.trans (b1.mono hb.size)⟩
      · go_wp2_with fail
        refine (sact_any _ _ _ gx _ hr.1 hr.2.1 hr.2.2).mono ?_
        rintro e w1 ⟨rfl, b1⟩
        rw [hf]
        go_wp2
        go_roundw
        case rel => exact ⟨k + 1, by omega, by go_num, hb.trans (b1.mono hb.size), allC_take_succ (by rw [HN.out]; exact hlt) HA.out (by rw [HG'.out]; exact hf)⟩
        case measure => simp [intOf]; omega
    · go_wp2
      go_ret
      exact ⟨ret_bool (by rw [HCB.out]; have := HA.out; rw [List.take_of_length_le (by rw [HN.out]; omega)] at this; exact this.symm), hb⟩

set_option maxHeartbeats 1600000 in
theorem icat_any (ad : Option Addr) (N cap : Nat) (ss : List L2V) (w : World) (hN : ss.length = N) (hF : LSG w ad ss) (hN1 : N ≤ 1048576) :
    Calls Tryz.prog 86 #[.slice ad N cap] w fun e w' => e = .returned (.bool (catB N ss)) ∧ Below w.heap.size w w' := by
  have HN : Hid (ss.length = N) := hN
  clear hN
  by_cases h1 : N < 1
  · have hib : inB N 1 4 = false := inB_not.2 (by omega)
    go_enter Tryz.func86, Tryz.ntmps86
    go_wp2
    go_ret
    exact ⟨ret_bool (by rw [catB, hib]; rfl), Below.refl _ _⟩
  by_cases h4 : 4 < N
  · have hib : inB N 1 4 = false := inB_not.2 (by omega)
    go_enter Tryz.func86, Tryz.ntmps86
    go_wp2
    go_ret
    exact ⟨ret_bool (by rw [catB, hib]; rfl), Below.refl _ _⟩
  have hib : inB N 1 4 = true := inB_iff.2 (by omega)
  go_enter Tryz.func86, Tryz.ntmps86
  go_wp2_with fail
  have HCB : Hid (catB N ss = ss.all L2V.ok) := by show catB N ss = _; rw [catB, hib]; rfl
  go_loopw [4, 15] (fun _ i wr => ∃ k : Nat, k ≤ N ∧ i = .int .i64 k ∧ Below w.heap.size w wr ∧ (ss.take k).all L2V.ok = true) (fun _ i _ => N - (intOf i).toNat)
  case atStart => exact ⟨0, Nat.zero_le _, rfl, Below.refl _ _, by simp⟩
  case round =>
    obtain ⟨k, hk, rfl, hb, hall⟩ := hrel
    have HA : Hid ((ss.take k).all L2V.ok = true) := hall
    clear hall
    by_cases hlt : k < N
    · obtain ⟨b, off, rfl, hc, hr⟩ := (hF.below hb) k (by rw [HN.out]; exact hlt)
      generalize HG : ss[k]?.getD noL = g at *
      have HG' : Hid (ss[k]?.getD noL = g) := HG
      clear HG hF
      obtain ⟨ga, gn, gcap, gx⟩ := g
      have hc' : wr.cell? ⟨b, off + k, none⟩ = some (.slice ga gn gcap) := hc
      clear hc
      cases hf : actB gn gx
      · go_wp2_with fail
        refine (iact_any _ _ _ gx _ hr.1 hr.2.1 hr.2.2).mono ?_
        rintro e w1 ⟨rfl, b1⟩
        rw [hf]
        go_wp2
        go_ret
        exact ⟨ret_bool (by rw [HCB.out, allC_no (k := k) (by rw [HN.out]; exact hlt) (by rw [HG'.out]; exact hf)]), hb.trans (b1.mono hb.size)⟩
      · go_wp2_with fail
        refine (iact_any _ _ _ gx _ hr.1 hr.2.1 hr.2.2).mono ?_
        rintro e w1 ⟨rfl, b1⟩
        rw [hf]
        go_wp2
        go_roundw
        case rel => exact ⟨k + 1, by omega, by go_num, hb.trans (b1.mono hb.size), allC_take_succ (by rw [HN.out]; exact hlt) HA.out (by rw [HG'.out]; exact hf)⟩
        case measure => simp [intOf]; omega
    · go_wp2
      go_ret
      exact ⟨ret_bool (by rw [HCB.out]; have := HA.out; rw [List.take_of_length_le (by rw [HN.out]; omega)] at this; exact this.symm), hb⟩

end Go.Proofs.YtpmihhbgjimpmaaGreatDoor
namespace Go.Proofs.YtpmihhbgjimpmaaGreatDoor
open Go.ChangeShapes Go.WideShapes Go.ChangeAt Go.RowKit Go.Joins
set_option linter.unusedVariables false
set_option maxRecDepth 100000

/-- A treaty as a value. -/
abbrev treV (a : Option Addr) (n cap : Nat) (c : Option Addr) (m cap' : Nat) : Value := .agg #[.slice a n cap, .slice c m cap']

end Go.Proofs.YtpmihhbgjimpmaaGreatDoor
namespace Go.Proofs.YtpmihhbgjimpmaaGreatDoor
open Go.RowKit
set_option linter.unusedVariables false

/-- A treaty is ok. -/
def trtB (n m : Nat) (C D : List Int) : Bool := okN 3 10000 n C && (inB m 1 3 && betB 0 50 D)

set_option maxHeartbeats 800000 in
theorem strt_any (a : Option Addr) (n cap : Nat) (c : Option Addr) (m cap' : Nat) (C D : List Int) (w : World) (hC : Ints w a n C) (hD : Ints w c m D) (hn : n ≤ 1048576) (hm : m ≤ 1048576) :
    Calls Tryz.prog 50 #[treV a n cap c m cap'] w fun e w' => e = .returned (.bool (trtB n m C D)) ∧ Below w.heap.size w w' := by
  have HD : Hid (D.length = m) := hD.1
  cases h1 : okN 3 10000 n C
  · go_enter Tryz.func50, Tryz.ntmps50
    go_wp2_with fail
    refine (sval_any _ _ _ C _ (hC.alloc _) hn).mono ?_
    rintro e w1 ⟨rfl, rfl⟩
    go_wp2
    go_ret
    exact ⟨ret_bool (by simp [trtB, h1]), (Below.refl _ _).alloc (Nat.le_refl _) _⟩
  · cases h2 : inB m 1 3
    · go_enter Tryz.func50, Tryz.ntmps50
      go_wp2_with fail
      refine (sval_any _ _ _ C _ (hC.alloc _) hn).mono ?_
      rintro e w1 ⟨rfl, rfl⟩
      go_wp2_with fail
      refine (in_any _ _ _ _).mono ?_
      rintro e w1 ⟨rfl, rfl⟩
      go_wp2
      go_ret
      exact ⟨ret_bool (by simp [trtB, h2]), (Below.refl _ _).alloc (Nat.le_refl _) _⟩
    · go_enter Tryz.func50, Tryz.ntmps50
      go_wp2_with fail
      refine (sval_any _ _ _ C _ (hC.alloc _) hn).mono ?_
      rintro e w1 ⟨rfl, rfl⟩
      go_wp2_with fail
      refine (in_any _ _ _ _).mono ?_
      rintro e w1 ⟨rfl, rfl⟩
      go_wp2_with fail
      go_loop [3] (fun i => ∃ k : Nat, k ≤ m ∧ i = .int .i64 k ∧ betB 0 50 (D.take k) = true) (fun i => m - (intOf i).toNat)
      case atStart => exact ⟨0, Nat.zero_le _, rfl, rfl⟩
      case round =>
        obtain ⟨k, hk, rfl, hall⟩ := hrel
        have HA : Hid (betB 0 50 (D.take k) = true) := hall
        clear hall
        by_cases hlt : k < m
        · obtain ⟨b, off, rfl, hcell⟩ := (hD.alloc (.cells #[.slice a n cap, .slice c m cap'] 92 (0, 0))).pos (by omega)
          have hck := hcell k hlt
          clear hcell hC hD
          cases hin : inB (D[k]?.getD 0) 0 50
          · go_wp2_with fail
            refine (in_any _ _ _ _).mono ?_
            rintro e w1 ⟨rfl, rfl⟩
            go_wp2
            go_ret
            exact ⟨ret_bool (by rw [trtB, betB_false (by rw [HD.out]; exact hlt) hin]; simp), (Below.refl _ _).alloc (Nat.le_refl _) _⟩
          · go_wp2_with fail
            refine (in_any _ _ _ _).mono ?_
            rintro e w1 ⟨rfl, rfl⟩
            go_wp2
            go_round
            case rel => exact ⟨k + 1, by omega, by go_num, betB_step (by rw [HD.out]; exact hlt) HA.out hin⟩
            case measure => simp [intOf]; omega
        · go_wp2
          go_ret
          exact ⟨ret_bool (by rw [trtB, h1, h2, betB_end (by rw [HD.out]; omega) HA.out]; rfl), (Below.refl _ _).alloc (Nat.le_refl _) _⟩

set_option maxHeartbeats 800000 in
theorem itrt_any (a : Option Addr) (n cap : Nat) (c : Option Addr) (m cap' : Nat) (C D : List Int) (w : World) (hC : Ints w a n C) (hD : Ints w c m D) (hn : n ≤ 1048576) (hm : m ≤ 1048576) :
    Calls Tryz.prog 87 #[treV a n cap c m cap'] w fun e w' => e = .returned (.bool (trtB n m C D)) ∧ Below w.heap.size w w' := by
  cases h1 : okN 3 10000 n C
  · go_enter Tryz.func87, Tryz.ntmps87
    go_wp2_with fail
    refine (ival_any _ _ _ C _ (hC.alloc _) hn).mono ?_
    rintro e w1 ⟨rfl, rfl⟩
    go_wp2
    go_ret
    exact ⟨ret_bool (by simp [trtB, h1]), (Below.refl _ _).alloc (Nat.le_refl _) _⟩
  · by_cases h2 : 1 ≤ m
    · by_cases h3 : m ≤ 3
      · have h4 : inB m 1 3 = true := inB_iff.2 ⟨by omega, by omega⟩
        have H4 : Hid _ := h4
        clear h4
        go_enter Tryz.func87, Tryz.ntmps87
        go_wp2_with fail
        refine (ival_any _ _ _ C _ (hC.alloc _) hn).mono ?_
        rintro e w1 ⟨rfl, rfl⟩
        go_wp2_with fail
        refine (between_any _ _ _ D _ _ _ (hD.alloc _) hm).mono ?_
        rintro e w1 ⟨rfl, rfl⟩
        go_wp2
        go_ret
        exact ⟨ret_bool (by rw [trtB, h1, H4.out]; rfl), (Below.refl _ _).alloc (Nat.le_refl _) _⟩
      · have h4 : inB m 1 3 = false := inB_not.2 (by omega)
        have H4 : Hid _ := h4
        clear h4
        go_enter Tryz.func87, Tryz.ntmps87
        go_wp2_with fail
        refine (ival_any _ _ _ C _ (hC.alloc _) hn).mono ?_
        rintro e w1 ⟨rfl, rfl⟩
        go_wp2
        go_ret
        exact ⟨ret_bool (by rw [trtB, H4.out]; simp), (Below.refl _ _).alloc (Nat.le_refl _) _⟩
    · have h4 : inB m 1 3 = false := inB_not.2 (by omega)
      have H4 : Hid _ := h4
      clear h4
      go_enter Tryz.func87, Tryz.ntmps87
      go_wp2_with fail
      refine (ival_any _ _ _ C _ (hC.alloc _) hn).mono ?_
      rintro e w1 ⟨rfl, rfl⟩
      go_wp2
      go_ret
      exact ⟨ret_bool (by rw [trtB, H4.out]; simp), (Below.refl _ _).alloc (Nat.le_refl _) _⟩

/-- What the first k sites but one may. -/
def others (D : List Int) (s : Int) : Nat → Int
  | 0 => 0
  | k + 1 => if (k : Int) = s then others D s k else wrap64 (others D s k + D[k]?.getD 0)

/-- Parts are ok. -/
def partsB (ss : List IV) : Bool := ss.all fun s => okN 3 10000000 s.n s.x
theorem partsB_step {ss : List IV} {k : Nat} (h : k < ss.length) (h1 : partsB (ss.take k) = true) (h2 : okN 3 10000000 (ss[k]?.getD noI).n (ss[k]?.getD noI).x = true) : partsB (ss.take (k + 1)) = true := by
  unfold partsB at *
  rw [List.take_succ_eq_append_getElem h, List.all_append, h1]
  rw [List.getElem?_eq_getElem h] at h2
  simpa using h2
theorem partsB_end {ss : List IV} {k : Nat} (h : ss.length ≤ k) (h1 : partsB (ss.take k) = true) : partsB ss = true := by
  rwa [List.take_of_length_le h] at h1
theorem partsB_false {ss : List IV} {k : Nat} (h : k < ss.length) (hn : okN 3 10000000 (ss[k]?.getD noI).n (ss[k]?.getD noI).x = false) : partsB ss = false := by
  unfold partsB
  rw [List.all_eq_false]
  refine ⟨ss[k], List.getElem_mem h, ?_⟩
  rw [List.getElem?_eq_getElem h] at hn
  simpa using hn
theorem partsB_at {ss : List IV} {k : Nat} (h : k < ss.length) (hp : partsB ss = true) : okN 3 10000000 (ss[k]?.getD noI).n (ss[k]?.getD noI).x = true := by
  cases hn : okN 3 10000000 (ss[k]?.getD noI).n (ss[k]?.getD noI).x
  · rw [partsB_false h hn] at hp; cases hp
  · rfl

set_option maxHeartbeats 800000 in
theorem iparts_any (ad : Option Addr) (N cap : Nat) (ss : List IV) (w : World) (hN : ss.length = N) (hF : ISG w ad ss) (hN1 : N ≤ 1048576) :
    Calls Tryz.prog 153 #[.slice ad N cap] w fun e w' => e = .returned (.bool (partsB ss)) ∧ w' = w := by
  have HN : Hid (ss.length = N) := hN
  clear hN
  go_enter Tryz.func153, Tryz.ntmps153
  go_wp2_with fail
  go_loop [4, 7] (fun _ i => ∃ k : Nat, k ≤ N ∧ i = .int .i64 k ∧ partsB (ss.take k) = true) (fun _ i => N - (intOf i).toNat)
  case atStart => exact ⟨0, Nat.zero_le _, rfl, rfl⟩
  case round =>
    obtain ⟨k, hk, rfl, hall⟩ := hrel
    have HA : Hid _ := hall
    clear hall
    by_cases hlt : k < N
    · obtain ⟨b, off, rfl, hc, hr⟩ := hF k (by rw [HN.out]; exact hlt)
      have H1 : Hid _ := partsB_step (ss := ss) (k := k) (by rw [HN.out]; exact hlt) HA.out
      have H2 : Hid _ := partsB_false (ss := ss) (k := k) (by rw [HN.out]; exact hlt)
      generalize HG : ss[k]?.getD noI = g at *
      clear HG hF HA
      obtain ⟨ga, gn, gcap, gx⟩ := g
      have hc' : w.cell? ⟨b, off + k, none⟩ = some (.slice ga gn gcap) := hc
      clear hc
      by_cases hn3 : (gn : Int) = 3
      · have hn3' : ((gn : Int) != 3) = false := by simp [hn3]
        have H3 : Hid ((gn : Int) = 3) := hn3
        clear hn3
        cases he : allB 10000000 gx
        · go_wp2_with fail
          refine (within_any _ _ _ gx _ _ hr.1 hr.2 (by omega) (by omega)).mono ?_
          rintro e w1 ⟨rfl, rfl⟩
          rw [he]
          go_wp2
          go_ret
          exact ⟨ret_bool (by rw [H2.out (by rw [okN_is H3.out, he])]), rfl⟩
        · go_wp2_with fail
          refine (within_any _ _ _ gx _ _ hr.1 hr.2 (by omega) (by omega)).mono ?_
          rintro e w1 ⟨rfl, rfl⟩
          rw [he]
          go_wp2
          go_round
          case rel => exact ⟨k + 1, by omega, by go_num, H1.out (by rw [okN_is H3.out, he])⟩
          case measure => simp [intOf]; omega
      · have hn3' : ((gn : Int) != 3) = true := by simp [hn3]
        have H3 : Hid (¬ (gn : Int) = 3) := hn3
        clear hn3
        go_wp2
        go_ret
        exact ⟨ret_bool (by rw [H2.out (okN_not H3.out)]), rfl⟩
    · go_wp2
      go_ret
      exact ⟨ret_bool (by rw [partsB_end (by rw [HN.out]; omega) HA.out]), rfl⟩

theorem imay_any (a : Option Addr) (n cap : Nat) (zs : List Int) (w : World) (h : Ints w a n zs) (hn : n ≤ 1048576) :
    Calls Tryz.prog 154 #[.slice a n cap] w fun e w' => e = .returned (.bool (okN 3 20000 n zs)) ∧ w' = w := by
  by_cases hc : (n : Int) = 3
  · have hc' : ((n : Int) == 3) = true := by simp [hc]
    have HC : Hid ((n : Int) = 3) := hc
    clear hc
    go_enter Tryz.func154, Tryz.ntmps154
    go_wp2_with fail
    refine (within_any _ _ _ zs _ _ h hn (by omega) (by omega)).mono ?_
    rintro e w' ⟨rfl, rfl⟩
    go_wp2
    go_ret
    exact ⟨ret_bool (by rw [okN_is HC.out]), rfl⟩
  · have hc' : ((n : Int) == 3) = false := by simpa using hc
    go_enter Tryz.func154, Tryz.ntmps154
    go_wp2
    go_ret
    exact ⟨ret_bool (by rw [okN_not hc]), rfl⟩

end Go.Proofs.YtpmihhbgjimpmaaGreatDoor
namespace Go.Proofs.YtpmihhbgjimpmaaGreatDoor
open Go.ChangeShapes Go.WideShapes Go.ChangeAt Go.RowKit Go.Joins
set_option linter.unusedVariables false
set_option maxRecDepth 100000

/-- A plan as a value. -/
abbrev plV (cl : Int) (ad : Option Addr) (N cap : Nat) (ga : Option Addr) (gn gc : Nat) (sa : Option Addr) (sn sc : Nat) : Value := .agg #[.int .i64 cl, .slice ad N cap, .slice ga gn gc, .slice sa sn sc]

/-- What a plan holds, that may be copied. -/
structure PlAt (w : World) (ad : Option Addr) (N : Nat) (ss : List L2V) (ga : Option Addr) (gn : Nat) (G : List Int) (sa : Option Addr) (sn : Nat) (S : List Int) : Prop where
  a : LSG w ad ss
  ha : ss.length = N
  za : N ≤ 1048576
  g : Ints w ga gn G
  zg : gn ≤ 1048576
  s : Ints w sa sn S
  zs : sn ≤ 1048576
theorem PlAt.below {w w' : World} {ad : Option Addr} {N : Nat} {ss : List L2V} {ga : Option Addr} {gn : Nat} {G : List Int} {sa : Option Addr} {sn : Nat} {S : List Int} (h : PlAt w ad N ss ga gn G sa sn S) (b : Below w.heap.size w w') : PlAt w' ad N ss ga gn G sa sn S :=
  ⟨h.a.below b, h.ha, h.za, h.g.below b, h.zg, h.s.below b, h.zs⟩
theorem PlAt.alloc {w : World} {ad : Option Addr} {N : Nat} {ss : List L2V} {ga : Option Addr} {gn : Nat} {G : List Int} {sa : Option Addr} {sn : Nat} {S : List Int} (h : PlAt w ad N ss ga gn G sa sn S) (o : Obj) : PlAt (w.alloc o) ad N ss ga gn G sa sn S :=
  h.below ((Below.refl _ _).alloc (Nat.le_refl _) _)

theorem Cel.quadP {w : World} {B : Nat} {x y z u : Value} {t : TypeId} (h : Cel w B [x, y, z, u] t) : w.cell? ⟨B, 0, none⟩ = some x ∧ w.cell? ⟨B, 1, none⟩ = some y ∧ w.cell? ⟨B, 2, none⟩ = some z ∧ w.cell? ⟨B, 3, none⟩ = some u := ⟨h.cell 0, h.cell 1, h.cell 2, h.cell 3⟩
/-- A box, and all that came before is as it was. -/
structure BP (w : World) (B : Nat) (la : List Value) (ty : TypeId) (W : World) : Prop where
  p : Cel W B la ty
  b : Below w.heap.size w W
theorem BP.new (w : World) (la : List Value) (ty : TypeId) : BP w w.heap.size la ty (w.alloc (.cells la.toArray ty)) := ⟨Cel.new w la ty, (Below.refl _ _).alloc (Nat.le_refl _) _⟩
theorem BP.below {w W W' : World} {B : Nat} {la : List Value} {ty : TypeId} (h : BP w B la ty W) (b : Below W.heap.size W W') : BP w B la ty W' := ⟨h.p.below b, h.b.trans (b.mono h.b.size)⟩
theorem BP.alloc {w W : World} {B : Nat} {la : List Value} {ty : TypeId} (h : BP w B la ty W) (o : Obj) : BP w B la ty (W.alloc o) := h.below ((Below.refl _ _).alloc (Nat.le_refl _) _)

theorem ML2.setLow {W : World} {B N : Nat} {ts : List L2V} (h : ML2 W B N ts) {X : Nat} (hX : X < B) (i : Nat) (v : Value) : ML2 (W.setCell ⟨X, i, none⟩ v) B N ts := by
  have T : Touch (fun x => x = X) W (W.setCell ⟨X, i, none⟩ v) := Touch.setCell (S := fun x => x = X) (Touch.refl _ _) rfl _
  obtain ⟨vs, h1, h2, h3⟩ := h.c
  obtain ⟨c, c1, c2, c3⟩ := h.d
  exact ⟨⟨vs, h1.setOther (by omega) _ _, h2, h3⟩, fun i hi => (h.l i hi).touch T (fun x hx => by omega), c, c1, by rw [size_setCell]; exact c2, c3⟩

set_option maxHeartbeats 1600000 in
theorem szP_any (cl : Int) (ad : Option Addr) (N cap : Nat) (ss : List L2V) (ga : Option Addr) (gn gc : Nat) (G : List Int) (sa : Option Addr) (sn sc : Nat) (S : List Int) (l : Int) (w : World)
    (ha : ss.length = N) (hA : LSM w ad ss) (hN1 : N ≤ maxLen) (hG : Ints w ga gn G) (hG1 : gn ≤ maxLen) (hS : Ints w sa sn S) (hS1 : sn ≤ maxLen) (h0 : 0 ≤ l) (hl : l ≤ 1048576) :
    Calls Tryz.prog 26 #[plV cl ad N cap ga gn gc sa sn sc, .int .i64 l] w fun e w' => ∃ r, e = .returned (.int .i64 r) ∧ -1 ≤ r ∧ r ≤ 1048576 ∧ (0 ≤ r → PlAt w ad N ss ga gn G sa sn S) ∧ Below w.heap.size w w' := by
  have n0 := BP.new w [.int .i64 cl, .slice ad N cap, .slice ga gn gc, .slice sa sn sc] 65
  have HA : Hid (ss.length = N) := ha
  clear ha
  go_enter Tryz.func26, Tryz.ntmps26
  go_wp2_with fail
  refine (szL2S_any _ _ _ ss _ _ HA.out (hA.below n0.b) hN1 h0 hl).mono ?_
  rintro e w1 ⟨r1, rfl, p1, q1, s1, b1⟩
  have n1 := n0.below b1
  obtain ⟨c0, c1, c2, c3⟩ := n1.p.quadP
  by_cases h1 : r1 < 0
  · go_wp2
    go_ret
    exact ⟨-1, rfl, by omega, by omega, fun h => by omega, n1.b⟩
  have h1' : 0 ≤ r1 := by omega
  obtain ⟨zN, sN⟩ := s1 h1'
  have HSN : Hid _ := sN
  clear s1 sN h1
  have g2 := leftOf_ge r1 gn
  obtain ⟨r2, hr2⟩ : ∃ r, r = leftOf r1 gn := ⟨_, rfl⟩
  have HR2 : Hid _ := hr2
  rw [← hr2] at g2
  clear hr2
  go_wp2_with fail
  refine (sz_any _ _ _ _ _ hG1 h1' q1).mono ?_
  rintro e w2 ⟨rfl, rfl⟩
  rw [← HR2.out]
  by_cases h2 : r2 < 0
  · go_wp2
    go_ret
    exact ⟨-1, rfl, by omega, by omega, fun h => by omega, n1.b⟩
  have h2' : 0 ≤ r2 := by omega
  have z2 := leftOf_le (l := r1) (n := gn) (by rw [← HR2.out]; exact h2')
  rw [← HR2.out] at z2
  have g3 := leftOf_ge r2 sn
  obtain ⟨r3, hr3⟩ : ∃ r, r = leftOf r2 sn := ⟨_, rfl⟩
  have HR3 : Hid _ := hr3
  rw [← hr3] at g3
  clear hr3 h2
  have q2 : r2 ≤ 1048576 := by omega
  have zg : gn ≤ 1048576 := by omega
  clear z2
  go_wp2_with fail
  refine (sz_any _ _ _ _ _ hS1 h2' q2).mono ?_
  rintro e w2 ⟨rfl, rfl⟩
  rw [← HR3.out]
  by_cases h3 : r3 < 0
  · go_wp2
    go_ret
    exact ⟨-1, rfl, by omega, by omega, fun h => by omega, n1.b⟩
  have h3' : 0 ≤ r3 := by omega
  have z3 := leftOf_le (l := r2) (n := sn) (by rw [← HR3.out]; exact h3')
  rw [← HR3.out] at z3
  have q3 : r3 ≤ 1048576 := by omega
  have zs : sn ≤ 1048576 := by omega
  clear z3 h3
  go_wp2
  go_ret
  exact ⟨r3, rfl, by omega, q3, fun _ => ⟨hA.g HSN.out, HA.out, zN, hG, zg, hS, zs⟩, n1.b⟩

set_option maxHeartbeats 3200000 in
theorem toP_sep (cl : Int) (ad : Option Addr) (N cap : Nat) (ss : List L2V) (ga : Option Addr) (gn gc : Nat) (G : List Int) (sa : Option Addr) (sn sc : Nat) (S : List Int) (w : World) (h : PlAt w ad N ss ga gn G sa sn S) :
    Calls Tryz.prog 28 #[plV cl ad N cap ga gn gc sa sn sc] w fun e w' => ∃ B1 B2 B3 ts, e = .returned (plV cl (some ⟨B1, 0, none⟩) N N (some ⟨B2, 0, none⟩) gn gn (some ⟨B3, 0, none⟩) sn sn) ∧
      ts.length = N ∧ copiesL2S ss ts ∧ Below w.heap.size w w' ∧ ML2 w' B1 N ts ∧ Blk w' B2 G ∧ Blk w' B3 S ∧ w.heap.size ≤ B1 ∧ B2 < B3 ∧ B3 < w'.heap.size ∧ (∃ c : Nat → Nat, B1 < c 0 ∧ c N ≤ B2 ∧ ∀ i, i < N → c i ≤ c (i + 1) ∧ InR (c i) (c (i + 1)) (ts[i]?.getD noL)) := by
  have HN : Hid (ss.length = N) := h.ha
  have za := h.za
  have zg := h.zg
  have zs := h.zs
  go_enter Tryz.func28, Tryz.ntmps28
  go_wp2_with fail
  refine (toL2S_any _ _ _ ss _ HN.out (((h.alloc _).alloc _).alloc _).a za).mono ?_
  rintro e w1 ⟨ts, rfl, lt, cp, b1, m1⟩
  have HT : Hid (ts.length = N) := lt
  have HC : Hid (copiesL2S ss ts) := cp
  clear lt cp
  have p0 := (((Cel.new w _ _).alloc _).alloc _).below b1
  have pr := ((Cel.new (w.alloc _) _ _).alloc _).below b1
  have px := (Cel.new ((w.alloc _).alloc _) _ _).below b1
  rw [World.size_alloc] at pr
  rw [World.size_alloc, World.size_alloc] at px
  rw [World.size_alloc, World.size_alloc, World.size_alloc] at m1
  have s1 := m1.lt
  have HD : Hid (∃ c : Nat → Nat, w.heap.size + 1 + 1 + 1 < c 0 ∧ c N ≤ w1.heap.size ∧ ∀ i, i < N → c i ≤ c (i + 1) ∧ InR (c i) (c (i + 1)) (ts[i]?.getD noL)) := by
    obtain ⟨c, c1, c2, c3⟩ := m1.d
    rw [HT.out] at c2 c3
    exact ⟨c, c1, c2, c3⟩
  have B1 : Below w.heap.size w w1 := ((((Below.refl _ _).alloc (Nat.le_refl _) _).alloc (by simp) _).alloc (by simp; omega) _).trans (b1.mono (by simp; omega))
  clear b1
  obtain ⟨c0, c1, c2, c3⟩ := p0.quadP
  obtain ⟨d0, d1, d2, d3⟩ := px.quadP
  have f0 := px.free 1
  go_wp2_with fail
  have B1s := B1.setCell (p := ⟨w.heap.size + 1 + 1, 1, none⟩) (by show w.heap.size ≤ w.heap.size + 1 + 1; omega) (Value.slice (some ⟨w.heap.size + 1 + 1 + 1, 0, none⟩) N N)
  refine (to_any _ _ _ G _ (h.below B1s).g zg).mono ?_
  rintro e w2 ⟨rfl, b2, k2⟩
  clear c0 c1 c2 c3 d0 d1 d2 d3 f0
  have r0 := (p0.setOther (by omega) _ _).below b2
  have rr := (pr.setOther (by omega) _ _).below b2
  have rx := (px.set _ _).below b2
  have n1 := (m1.setLow (X := w.heap.size + 1 + 1) (by omega) 1 _).below b2
  have B2 := B1s.trans (b2.mono B1s.size)
  rw [size_setCell] at k2
  have s2 := k2.lt
  clear p0 pr px m1 b2 B1 B1s
  simp only [List.set_cons_zero, List.set_cons_succ] at rx
  obtain ⟨c0, c1, c2, c3⟩ := r0.quadP
  obtain ⟨d0, d1, d2, d3⟩ := rx.quadP
  have f0 := rx.free 2
  go_wp2_with fail
  have B2s := B2.setCell (p := ⟨w.heap.size + 1 + 1, 2, none⟩) (by show w.heap.size ≤ w.heap.size + 1 + 1; omega) (Value.slice (some ⟨w1.heap.size, 0, none⟩) gn gn)
  refine (to_any _ _ _ S _ (h.below B2s).s zs).mono ?_
  rintro e w3 ⟨rfl, b3, k3⟩
  clear c0 c1 c2 c3 d0 d1 d2 d3 f0
  have tr := (rr.setOther (by omega) _ _).below b3
  have tx := (rx.set _ _).below b3
  have n1' := (n1.setLow (X := w.heap.size + 1 + 1) (by omega) 2 _).below b3
  have k2' := (k2.setOther (B' := w.heap.size + 1 + 1) (by omega) 2 _).below b3
  have B3 := B2s.trans (b3.mono B2s.size)
  rw [size_setCell] at k3
  have s3 := k3.lt
  clear r0 rr rx n1 k2 b3 B2 B2s
  simp only [List.set_cons_zero, List.set_cons_succ] at tx
  obtain ⟨d0, d1, d2, d3⟩ := tx.quadP
  obtain ⟨e0, e1, e2, e3⟩ := tr.quadP
  have f0 := tx.free 3
  have f2 := tr.free 0
  have f3 := tr.free 1
  have f4 := tr.free 2
  have f5 := tr.free 3
  have hlt1 : w.heap.size + 1 < w3.heap.size := by omega
  have hlt2 : w.heap.size + 1 + 1 < w3.heap.size := by omega
  go_wp2
  refine bodyPost_ret (v := plV cl (some ⟨w.heap.size + 1 + 1 + 1, 0, none⟩) N N (some ⟨w1.heap.size, 0, none⟩) gn gn (some ⟨w2.heap.size, 0, none⟩) sn sn) (by simp [results, Tryz.results28, go_sem, e0, e1, e2, e3]) rfl ⟨_, _, _, ts, rfl, HT.out, HC.out, ?_, ?_, ?_, ?_, by omega, by omega, by simp only [size_setCell]; omega, HD.out⟩
  · exact ((((B3.setCell (by simp only []; omega) _).setCell (by simp only []; omega) _).setCell (by simp only []; omega) _).setCell (by simp only []; omega) _).setCell (by simp only []; omega) _
  · exact ((((n1'.setLow (by omega) _ _).setLow (by omega) _ _).setLow (by omega) _ _).setLow (by omega) _ _).setLow (by omega) _ _
  · exact ((((k2'.setOther (by omega) _ _).setOther (by omega) _ _).setOther (by omega) _ _).setOther (by omega) _ _).setOther (by omega) _ _
  · exact ((((k3.setOther (by omega) _ _).setOther (by omega) _ _).setOther (by omega) _ _).setOther (by omega) _ _).setOther (by omega) _ _

theorem toP_any (cl : Int) (ad : Option Addr) (N cap : Nat) (ss : List L2V) (ga : Option Addr) (gn gc : Nat) (G : List Int) (sa : Option Addr) (sn sc : Nat) (S : List Int) (w : World) (h : PlAt w ad N ss ga gn G sa sn S) :
    Calls Tryz.prog 28 #[plV cl ad N cap ga gn gc sa sn sc] w fun e w' => ∃ B1 B2 B3 ts, e = .returned (plV cl (some ⟨B1, 0, none⟩) N N (some ⟨B2, 0, none⟩) gn gn (some ⟨B3, 0, none⟩) sn sn) ∧
      ts.length = N ∧ copiesL2S ss ts ∧ Below w.heap.size w w' ∧ ML2 w' B1 N ts ∧ Blk w' B2 G ∧ Blk w' B3 S :=
  (toP_sep cl ad N cap ss ga gn gc G sa sn sc S w h).mono fun e w' hx => by
    obtain ⟨B1, B2, B3, ts, h1, h2, h3, h4, h5, h6, h7, _⟩ := hx
    exact ⟨B1, B2, B3, ts, h1, h2, h3, h4, h5, h6, h7⟩

theorem copies_mapP {ss ts : List L2V} (hl : ts.length = ss.length) (h : copiesL2S ss ts) : ts.map L2V.ok = ss.map L2V.ok := by
  apply List.ext_getElem?
  intro i
  by_cases hi : i < ts.length
  · obtain ⟨e1, e2, e3⟩ := h i hi
    have : (ts[i]?.getD noL).ok = (ss[i]?.getD noL).ok := by rw [L2V.ok, L2V.ok, e1]; exact copiesL_act e2 e3
    rw [List.getElem?_eq_getElem hi, List.getElem?_eq_getElem (by omega)] at this
    simp only [Option.getD_some] at this
    rw [List.getElem?_map, List.getElem?_map, List.getElem?_eq_getElem hi, List.getElem?_eq_getElem (by omega)]
    simp [this]
  · rw [List.getElem?_eq_none (by simp; omega), List.getElem?_eq_none (by simp; omega)]
theorem copies_catP {ss ts : List L2V} {N : Nat} (hl : ts.length = ss.length) (h : copiesL2S ss ts) : catB N ts = catB N ss := by
  have h3 := copies_mapP hl h
  have e1 : ∀ xs : List L2V, xs.all L2V.ok = (xs.map L2V.ok).all id := fun xs => by simp [List.all_map]
  rw [catB, catB, e1, e1, h3]
theorem copies_sameP {ss ts us : List L2V} {N : Nat} (h1 : ts.length = N) (h2 : us.length = N) (c1 : copiesL2S ss ts) (c2 : copiesL2S ss us) (hl : ∀ i, i < N → (ts[i]?.getD noL).x.length = (ts[i]?.getD noL).n) : ∀ i, i < N → sameL2 (ts[i]?.getD noL) (us[i]?.getD noL) := fun i hi => by
  obtain ⟨a1, a2, a3⟩ := c1 i (by omega)
  obtain ⟨b1, b2, b3⟩ := c2 i (by omega)
  refine ⟨by rw [a1, b1], fun j hj => ?_⟩
  have e1 := hl i hi
  exact copiesL_same (N := (ts[i]?.getD noL).n) e1 (by rw [b2, ← a2]; exact e1) a3 b3 j hj
theorem ML2.lens {W : World} {B N : Nat} {ts : List L2V} (h : ML2 W B N ts) (hl : ts.length = N) : ∀ i, i < N → (ts[i]?.getD noL).x.length = (ts[i]?.getD noL).n := fun i hi => by
  obtain ⟨b, off, _, _, h⟩ := h.g i (by rw [hl]; exact hi)
  exact h.1

set_option maxHeartbeats 1600000 in
/-- Held against a plan that holds the same. -/
theorem eqP_same (cl : Int) (ad : Option Addr) (N cap : Nat) (ss : List L2V) (ga : Option Addr) (gn gc : Nat) (G : List Int) (sa : Option Addr) (sn sc : Nat) (S : List Int) (ad' : Option Addr) (cap' : Nat) (ss' : List L2V) (ga' : Option Addr) (gc' : Nat) (sa' : Option Addr) (sc' : Nat) (w : World)
    (h : PlAt w ad N ss ga gn G sa sn S) (h' : PlAt w ad' N ss' ga' gn G sa' sn S) (hs : ∀ i, i < N → sameL2 (ss[i]?.getD noL) (ss'[i]?.getD noL)) :
    Calls Tryz.prog 32 #[plV cl ad N cap ga gn gc sa sn sc, plV cl ad' N cap' ga' gn gc' sa' sn sc'] w fun e w' => e = .returned (.bool true) ∧ Below w.heap.size w w' := by
  have E1 : Hid _ := hs
  clear hs
  have HG := eqB_refl G
  have HS := eqB_refl S
  have hcl : (cl != cl) = false := by simp
  have n0 := (BP.new w [.int .i64 cl, .slice ad N cap, .slice ga gn gc, .slice sa sn sc] 26).alloc (.cells #[.int .i64 cl, .slice ad' N cap', .slice ga' gn gc', .slice sa' sn sc'] 26)
  have y0 := Cel.new (w.alloc (.cells #[.int .i64 cl, .slice ad N cap, .slice ga gn gc, .slice sa sn sc] 26)) [.int .i64 cl, .slice ad' N cap', .slice ga' gn gc', .slice sa' sn sc'] 26
  rw [World.size_alloc] at y0
  go_enter Tryz.func32, Tryz.ntmps32
  go_wp2_with fail
  refine (eqL2S_same _ _ _ _ _ ss ss' _ h.ha h'.ha ((h.alloc _).alloc _).a ((h'.alloc _).alloc _).a h.za E1.out).mono ?_
  rintro e w1 ⟨rfl, b1⟩
  have n1 := n0.below b1
  have y1 := y0.below b1
  clear n0 y0 b1
  obtain ⟨c0, c1, c2, c3⟩ := n1.p.quadP
  obtain ⟨d0, d1, d2, d3⟩ := y1.quadP
  go_wp2_with fail
  refine (eq_any _ _ _ _ _ _ G G _ (h.below n1.b).g (h'.below n1.b).g h.zg h.zg).mono ?_
  rintro e w2 ⟨rfl, b2⟩
  rw [HG]
  have n2 := n1.below b2
  have y2 := y1.below b2
  clear n1 y1 b2 c0 c1 c2 c3 d0 d1 d2 d3
  obtain ⟨c0, c1, c2, c3⟩ := n2.p.quadP
  obtain ⟨d0, d1, d2, d3⟩ := y2.quadP
  go_wp2_with fail
  refine (eq_any _ _ _ _ _ _ S S _ (h.below n2.b).s (h'.below n2.b).s h.zs h.zs).mono ?_
  rintro e w3 ⟨rfl, b3⟩
  rw [HS]
  have n3 := n2.below b3
  go_wp2
  go_ret
  exact ⟨rfl, n3.b⟩

/-- A plan is ok. -/
def plnB (cl : Int) (N : Nat) (ss : List L2V) (gn : Nat) (G : List Int) (sn : Nat) (S : List Int) : Bool := inB cl 1 4 && (catB N ss && (okN 3 1000 sn S && trtB sn gn S G))

theorem open_LSC {H : Type} {enc : TypeId × Value → H} {W : World} {fuel : Nat} {v : Value} {y : DataW H × List MemPlace}
    (hf : DataW.trod enc Tryz.prog W 0 (fun _ => true) true fuel 63 [v] = some y) :
    ∃ ad N cap ss, v = .slice ad N cap ∧ ss.length = N ∧ LSM W ad ss ∧ N ≤ maxLen := by
  obtain ⟨ad, N, cap, ss, hv, hl, hN, hall⟩ := open_sliceC noL (fun s => [L2V.v s]) (fun s => LM W s) (c := 1) (by omega) Tryz.underlying63 (by kernel_rfl) (fun _ => rfl) (fun fuel cs x hx => by
    have hl : cs.length = 1 := (trod_lenL Tryz.underlying165 hx)
    match cs, hl with
    | [c], _ =>
      obtain ⟨s, hs, hr⟩ := open_L1 hx
      exact ⟨s, by rw [hs], hr⟩) hf
  refine ⟨ad, N, cap, ss, hv, hl, fun i hi => ?_, hN⟩
  obtain ⟨b, off, e, hc, hr⟩ := hall i hi
  have h0 := hc 0 (by omega)
  simp only [Nat.mul_one, Nat.add_zero, List.getElem?_cons_zero] at h0
  exact ⟨b, off, e, h0, hr⟩

theorem open_plan {H : Type} {enc : TypeId × Value → H} {W : World} {r : Reach} {b0 : Nat} {v : Value} {d : DataW H} {p : List MemPlace}
    (hv : Value.okWide Tryz.prog W r b0 65 v) (h : DataW.Trod enc Tryz.prog W 0 (fun _ => true) true 65 v d p) :
    ∃ cl ad N cap ss ga gn gc G sa sn sc S, v = plV cl ad N cap ga gn gc sa sn sc ∧ (Lit.int .i64 cl).wf = true ∧ ss.length = N ∧ LSM W ad ss ∧ N ≤ maxLen ∧ Ints W ga gn G ∧ gn ≤ maxLen ∧ Ints W sa sn S ∧ sn ≤ maxLen := by
  obtain ⟨v0, v1, v2, v3, y0, y1, y2, y3, k, rfl, -, -, h0, h1, h2, h3⟩ := open_agg4 Tryz.underlying65 (by kernel_rfl) (by kernel_rfl) hv h
  obtain ⟨cl, rfl, wc⟩ := open_num h0
  obtain ⟨ad, N, cap, ss, rfl, hl, hM, hN⟩ := open_LSC h1
  obtain ⟨ga, gn, gc, G, rfl, hG, hg⟩ := open_row h2
  obtain ⟨sa, sn, sc, S, rfl, hS, hs⟩ := open_row h3
  exact ⟨cl, ad, N, cap, ss, ga, gn, gc, G, sa, sn, sc, S, rfl, wc, hl, hM, hN, hG, hg, hS, hs⟩

end Go.Proofs.YtpmihhbgjimpmaaGreatDoor
