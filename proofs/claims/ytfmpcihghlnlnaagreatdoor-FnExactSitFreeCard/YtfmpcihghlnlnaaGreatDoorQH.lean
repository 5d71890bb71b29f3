/-
  A form in which each pot is a form itself, as the first text reckons it: where all is ok.
-/
import Derived.Deep.RegionLawGrows
import Derived.Test.YtfmpcihghlnlnaaGreatDoorQG
namespace Go.Proofs.YtfmpcihghlnlnaaGreatDoor
open Go.RowKit
open Option.some renaming injEq → qA
open Addr.mk renaming injEq → qB
open World renaming size_alloc → qC
set_option linter.unusedVariables false
set_option maxRecDepth 100000
set_option maxHeartbeats 25600000
variable {W : World} {n : Nat}
theorem at20 (w : World) (o0 o1 : Obj) : ((w.alloc o0).alloc o1).drew.heap[w.heap.size]? = some o0 := by
  show ((w.heap.push o0).push o1)[w.heap.size]? = some o0
  simp only [Array.getElem?_push, Array.size_push]
  repeat (first | rw [if_pos trivial] | rw [if_neg (by omega)])
theorem lt20 (w : World) (o0 o1 : Obj) : w.heap.size < ((w.alloc o0).alloc o1).drew.heap.size := by
  show w.heap.size < ((w.heap.push o0).push o1).size
  simp only [Array.size_push]
  omega
theorem at21 (w : World) (o0 o1 : Obj) : ((w.alloc o0).alloc o1).drew.heap[w.heap.size + 1]? = some o1 := by
  show ((w.heap.push o0).push o1)[w.heap.size + 1]? = some o1
  simp only [Array.getElem?_push, Array.size_push]
  repeat (first | rw [if_pos trivial] | rw [if_neg (by omega)])
theorem lt21 (w : World) (o0 o1 : Obj) : w.heap.size + 1 < ((w.alloc o0).alloc o1).drew.heap.size := by
  show w.heap.size + 1 < ((w.heap.push o0).push o1).size
  simp only [Array.size_push]
  omega
theorem at30 (w : World) (o0 o1 o2 : Obj) : (((w.alloc o0).alloc o1).alloc o2).drew.heap[w.heap.size]? = some o0 := by
  show (((w.heap.push o0).push o1).push o2)[w.heap.size]? = some o0
  simp only [Array.getElem?_push, Array.size_push]
  repeat (first | rw [if_pos trivial] | rw [if_neg (by omega)])
theorem lt30 (w : World) (o0 o1 o2 : Obj) : w.heap.size < (((w.alloc o0).alloc o1).alloc o2).drew.heap.size := by
  show w.heap.size < (((w.heap.push o0).push o1).push o2).size
  simp only [Array.size_push]
  omega
theorem at31 (w : World) (o0 o1 o2 : Obj) : (((w.alloc o0).alloc o1).alloc o2).drew.heap[w.heap.size + 1]? = some o1 := by
  show (((w.heap.push o0).push o1).push o2)[w.heap.size + 1]? = some o1
  simp only [Array.getElem?_push, Array.size_push]
  repeat (first | rw [if_pos trivial] | rw [if_neg (by omega)])
theorem lt31 (w : World) (o0 o1 o2 : Obj) : w.heap.size + 1 < (((w.alloc o0).alloc o1).alloc o2).drew.heap.size := by
  show w.heap.size + 1 < (((w.heap.push o0).push o1).push o2).size
  simp only [Array.size_push]
  omega
theorem at32 (w : World) (o0 o1 o2 : Obj) : (((w.alloc o0).alloc o1).alloc o2).drew.heap[w.heap.size + 1 + 1]? = some o2 := by
  show (((w.heap.push o0).push o1).push o2)[w.heap.size + 1 + 1]? = some o2
  simp only [Array.getElem?_push, Array.size_push]
  repeat (first | rw [if_pos trivial] | rw [if_neg (by omega)])
theorem lt32 (w : World) (o0 o1 o2 : Obj) : w.heap.size + 1 + 1 < (((w.alloc o0).alloc o1).alloc o2).drew.heap.size := by
  show w.heap.size + 1 + 1 < (((w.heap.push o0).push o1).push o2).size
  simp only [Array.size_push]
  omega
theorem sz1 (w : World) (o0 : Obj) : (w.alloc o0).drew.heap.size = w.heap.size + 1 := by show (w.heap.push o0).size = _; simp only [Array.size_push]
theorem sz2 (w : World) (o0 o1 : Obj) : ((w.alloc o0).alloc o1).drew.heap.size = w.heap.size + 1 + 1 := by show ((w.heap.push o0).push o1).size = _; simp only [Array.size_push]
theorem sz3 (w : World) (o0 o1 o2 : Obj) : (((w.alloc o0).alloc o1).alloc o2).drew.heap.size = w.heap.size + 1 + 1 + 1 := by show (((w.heap.push o0).push o1).push o2).size = _; simp only [Array.size_push]
theorem own_ints {base g cap : Nat} {D : List Int} (h : W.ownsRow base 3 1 (.slice (some ⟨g, 0, none⟩) (0 + n) cap) (0 + n) ([] ++ D.map (Value.int .i64))) (hl : D.length = n) : Ints W (some ⟨g, 0, none⟩) n D := by
  refine ⟨hl, fun i hi => ⟨g, 0, rfl, ?_⟩⟩
  rcases h.2 with ⟨h', _⟩ | ⟨g', cap', cur, h', _, hg, _, _, hcs, htake⟩
  · simp at h'
  · simp only [Value.slice.injEq, qA, qB, and_true, true_and] at h'
    obtain ⟨rfl, rfl⟩ := h'
    have e : cur[i]? = (([] ++ D.map (Value.int .i64)) : List Value)[i]? := by
      rw [<- htake, List.getElem?_take_of_lt (by omega)]
      simp
    simp only [World.cell?, hg]
    simp only [Nat.zero_add]
    rw [e]
    simp [hl, hi]
theorem Ints.set {a : Option Addr} {X : Nat} {zs : List Int} (h : Ints W a n zs) (hx : ∀ b o, a = some ⟨b, o, none⟩ -> b ≠ X) (i : Nat) (v : Value) : Ints (W.setCell ⟨X, i, none⟩ v) a n zs := by
  refine ⟨h.1, fun j hj => ?_⟩
  obtain ⟨b, off, hab, hc⟩ := h.2 j hj
  refine ⟨b, off, hab, ?_⟩
  rw [<- hc]
  exact World.cell?_of_block (Below.heap_setCell _ _ _ _ (hx b off hab))
theorem Cel.set3 {w : World} {B : Nat} {x y z : Value} {t : TypeId} (h : Cel w B [x, y, z] t) (u v u' : Value) : Cel (((w.setCell ⟨B, 0, none⟩ u).setCell ⟨B, 1, none⟩ v).setCell ⟨B, 2, none⟩ u') B [u, v, u'] t := ((h.set 0 u).set 1 v).set 2 u'
theorem Cel.new1 (w : World) (o : Obj) (vs : List Value) (t : TypeId) : Cel ((w.alloc o).alloc (.cells vs.toArray t)) (w.heap.size + 1) vs t := by
  have := Cel.new (w.alloc o) vs t
  rw [qC] at this; exact this
theorem Blk.new3s (w : World) (p q r : Addr) (u v x : Value) : Blk ((((w.setCell p u).setCell q v).setCell r x).alloc (.cells #[.int .i64 0, .int .i64 0, .int .i64 0] 3)) w.heap.size [0, 0, 0] := by
  have := Blk.new3 (((w.setCell p u).setCell q v).setCell r x)
  rw [size_setCell, size_setCell, size_setCell] at this; exact this
theorem Blk.new31 (w : World) (o : Obj) : Blk ((w.alloc o).alloc (.cells #[.int .i64 0, .int .i64 0, .int .i64 0] 3)) (w.heap.size + 1) [0, 0, 0] := by
  have := Blk.new3 (w.alloc o)
  rw [qC] at this; exact this
theorem row_news {cb co : Nat} {D : List Int} (h : Ints W (some ⟨cb, co, none⟩) n D) : ∀ (j : Nat) (u : Value), (D.map (Value.int .i64))[j]? = some u -> W.cell? ((⟨cb, co, none⟩ : Addr).add j) = some u := fun j u hu => by
  rw [List.getElem?_map] at hu
  obtain ⟨z, hz, rfl⟩ := Option.map_eq_some_iff.1 hu
  have hj : j < n := by rw [<- h.1]; exact (List.getElem?_eq_some_iff.1 hz).1
  obtain ⟨b, off, he, hc⟩ := h.2 j hj
  simp only [qA, qB, and_true] at he
  obtain ⟨rfl, rfl⟩ := he
  have hadd : (⟨cb, co, none⟩ : Addr).add j = ⟨cb, co + j, none⟩ := by
    by_cases h0 : j = 0
    · subst h0; simp [Addr.add]
    · simp [Addr.add, h0]
  rw [hadd, hc]
  simp [hz]
theorem row_one (D : List Int) : ∀ u ∈ D.map (Value.int .i64), u.oneCell' = true := by
  intro u hu
  obtain ⟨z, _, rfl⟩ := List.mem_map.1 hu
  rfl
theorem sinto_yes (a : Option Addr) (cap : Nat) (c : Option Addr) (cap' : Nat) (K : Int) (C D : List Int) (b off capN : Nat) (fs : List FV) (w : World) (hC : Ints w a 3 C) (hD : Ints w c 2 D)
    (hN : fs.length = 3) (hF : FormsG w (some ⟨b, off, none⟩) fs) (h1 : formB 3 2 C D K = true) (hall : fs.all FV.ok = true) :
    Calls Tryz.prog 130 #[formV a 3 cap c 2 cap' K, .slice (some ⟨b, off, none⟩) 3 capN] w fun e w' => Res w w' e (keepL (formB 3 2 (intoC C fs 3) (intoD C D fs 3) (intoK C K fs 3)) (intoC C fs 3)) (keepL (formB 3 2 (intoC C fs 3) (intoD C D fs 3) (intoK C K fs 3)) (intoD C D fs 3)) (keepK (formB 3 2 (intoC C fs 3) (intoD C D fs 3) (intoK C K fs 3)) (intoK C K fs 3)) := by
  have n0 := IH.new (w := w) (a := a) (n := 3) (cap := cap) (c := c) (m := 2) (cap' := cap') (K := K)
  obtain ⟨-, -, bC, bD, bK1, bK2⟩ := formB_elim h1
  have hg : ∀ i, i < 3 -> ∃ x : FV, x = fs[i]?.getD noFV /\ OkF x /\ x.ok = true /\ x.At w /\ w.cell? ⟨b, off + i * 3, none⟩ = some (.slice x.a x.n x.cap) /\ w.cell? ⟨b, off + i * 3 + 1, none⟩ = some (.slice x.c x.m x.cap') /\ w.cell? ⟨b, off + i * 3 + 2, none⟩ = some (.int .i64 x.K) := fun i hi => by
    obtain ⟨b', off', hb', q0, q1, q2, A1⟩ := hF i (by omega)
    simp only [qA, qB, and_true] at hb'
    obtain ⟨rfl, rfl⟩ := hb'
    have ok : (fs[i]?.getD noFV).ok = true := by
      rw [List.all_eq_true] at hall
      rw [List.getElem?_eq_getElem (by omega)]
      exact hall _ (List.getElem_mem _)
    exact ⟨_, rfl, OkF.of A1 ok, ok, A1, q0, q1, q2⟩
  have ho : ∀ i, i < 3 -> OkF (fs[i]?.getD noFV) := fun i hi => by
    obtain ⟨x, rfl, h, _⟩ := hg i hi; exact h
  have HI : Hid _ := fun k hk => IntoF.of hD.1 bC bD bK1 bK2 ho k hk
  have HG : Hid _ := hg
  obtain ⟨lb0, _⟩ : b < w.heap.size /\ True := by
    obtain ⟨x, rfl, _, _, _, q0, _⟩ := hg 0 (by omega)
    exact ⟨block_lt q0, trivial⟩
  clear hg ho hF hN hall
  obtain ⟨cb, co, rfl, hDc⟩ := hD.pos (by omega)
  obtain ⟨ab, ao, rfl, hCc⟩ := hC.pos (by omega)
  clear hDc hCc
  obtain ⟨i0, hi, hz0, hz1, hz2⟩ := info_parts Tryz.infoInt
  go_enter Tryz.func130, Tryz.ntmps130
  go_wp2_with fail
  refine (sok_any C D (hC.below n0.b) (hD.below n0.b) (by omega) (by omega)).mono ?_
  rintro e w1 ⟨rfl, b1⟩
  have H1 := n0.below b1
  clear n0 b1
  obtain ⟨⟨xa, xn, xcap, xc, xm, xcap', xK, xC, xD⟩, -, -, ok, A, q0, q1, q2⟩ := HG.out 0 (by omega)
  obtain ⟨x1, x2, x3, x4⟩ := A
  simp only [FV.ok] at ok q0 q1 q2 x1 x2 x3 x4
  rw [Nat.zero_mul, Nat.add_zero] at q0 q1 q2
  have s0 := (H1.b.cell (p := ⟨b, off, none⟩) lb0).trans q0
  have s1 := (H1.b.cell (p := ⟨b, off + 1, none⟩) lb0).trans q1
  have s2 := (H1.b.cell (p := ⟨b, off + 2, none⟩) lb0).trans q2
  clear q0 q1 q2
  go_wp2_with fail
  refine (sok_any xC xD (x1.below H1.b) (x2.below H1.b) x3 x4).mono ?_
  rintro e w2 ⟨rfl, b2⟩
  rw [ok]
  have H2 := H1.below b2
  clear ok x1 x2 x3 x4 s0 s1 s2 H1 b2
  obtain ⟨⟨xa, xn, xcap, xc, xm, xcap', xK, xC, xD⟩, -, -, ok, A, q0, q1, q2⟩ := HG.out 1 (by omega)
  obtain ⟨x1, x2, x3, x4⟩ := A
  simp only [FV.ok] at ok q0 q1 q2 x1 x2 x3 x4
  rw [Nat.one_mul] at q0 q1 q2
  have s0 := (H2.b.cell (p := ⟨b, off + 3, none⟩) lb0).trans q0
  have s1 := (H2.b.cell (p := ⟨b, off + 3 + 1, none⟩) lb0).trans q1
  have s2 := (H2.b.cell (p := ⟨b, off + 3 + 2, none⟩) lb0).trans q2
  clear q0 q1 q2
  go_wp2_with fail
  refine (sok_any xC xD (x1.below H2.b) (x2.below H2.b) x3 x4).mono ?_
  rintro e w3 ⟨rfl, b3⟩
  rw [ok]
  have H3 := H2.below b3
  clear ok x1 x2 x3 x4 s0 s1 s2 H2 b3
  obtain ⟨⟨xa, xn, xcap, xc, xm, xcap', xK, xC, xD⟩, -, -, ok, A, q0, q1, q2⟩ := HG.out 2 (by omega)
  obtain ⟨x1, x2, x3, x4⟩ := A
  simp only [FV.ok] at ok q0 q1 q2 x1 x2 x3 x4
  have e6 : off + 2 * 3 = off + 6 := rfl
  rw [e6] at q0 q1 q2
  have s0 := (H3.b.cell (p := ⟨b, off + 6, none⟩) lb0).trans q0
  have s1 := (H3.b.cell (p := ⟨b, off + 6 + 1, none⟩) lb0).trans q1
  have s2 := (H3.b.cell (p := ⟨b, off + 6 + 2, none⟩) lb0).trans q2
  clear q0 q1 q2 e6
  go_wp2_with fail
  refine (sok_any xC xD (x1.below H3.b) (x2.below H3.b) x3 x4).mono ?_
  rintro e wy ⟨rfl, b4⟩
  rw [ok]
  have HY := H3.below b4
  clear ok x1 x2 x3 x4 s0 s1 s2 H3 b4
  have ly := HY.r.lt
  have A1 := HY.b.size
  go_upto_region 3 with fail
  go_cut [5] (fun s wx => ∃ X a' cpa c' cpc, s = .pointer (some ⟨X, 0, none⟩) /\ IH w (some ⟨ab, ao, none⟩) 3 cap (some ⟨cb, co, none⟩) 2 cap' K wx /\ Cel wx X [.slice a' 3 cpa, .slice c' 2 cpc, .int .i64 K] 106 /\ Ints wx a' 3 [0, 0, 0] /\ Ints wx c' 2 D /\ w.heap.size + 1 < X)
  case first =>
    have GY := HY.cells
    have N1 := World.new_ne wy ⟨w.heap.size, 1, none⟩ GY.2.1
    have N2 := World.new_ne wy ⟨w.heap.size, 2, none⟩ GY.2.2
    go_region_held3 (fun w' => w'.cell? ⟨w.heap.size, 1, none⟩ = some (.slice (some ⟨cb, co, none⟩) 2 cap') /\ w'.cell? ⟨w.heap.size, 2, none⟩ = some (.int .i64 K)) (with_reducible first | assumption | exact (HY.alloc _).drew.cells.2 | exact ((HY.alloc _).alloc _).drew.cells.2 | exact (((HY.alloc _).alloc _).alloc _).drew.cells.2 | exact (HZ.alloc _).cells.2 | exact ((HZ.alloc _).alloc _).cells.2 | exact (((HZ.set (by omega) _ _).set (by omega) _ _).set (by omega) _ _).cells.2 | exact ((((HZ.alloc _).set (by omega) _ _).set (by omega) _ _).set (by omega) _ _).cells.2 | exact (((((HZ.alloc _).alloc _).set (by omega) _ _).set (by omega) _ _).set (by omega) _ _).cells.2 | exact ((((HZ.set (by omega) _ _).set (by omega) _ _).set (by omega) _ _).alloc _).cells.2 | go_keep)
      ((refine step_append_grows (by rfl) _ _ _ (by rfl) 3 i0 (.int .i64 0) 1 8 Tryz.underlying23 hi hz0 hz1 hz2 rfl (by decide) _ 0 0 [] (by rfl) (fun _ => ⟨rfl, rfl⟩) rfl (fun _ _ j u hu => by simp at hu) ⟨cb, co, none⟩ 2 cap' (D.map (Value.int .i64)) (by rfl) (by rw [List.length_map]; exact hD.1) (row_news (by with_reducible first | exact hD.below HY.drew.b | exact hD.below (HY.alloc _).drew.b | exact hD.below ((HY.alloc _).alloc _).drew.b | exact hD.below (((HY.alloc _).alloc _).alloc _).drew.b)) (row_one D) (by omega) (by unfold maxLen; omega) (by omega) ?_
        intro v' wz hown hgrow
        obtain ⟨g, cpg, rfl, hbg, hlt⟩ := World.ownsRow.form hown (by omega)
        have IZ := own_ints hown hD.1
        simp only [sz1, qC] at hbg
        have BZ := (Below.refl _ _).grown hgrow (Nat.le_refl _) (by simp)
        have HZ := IH.below (w := w) (a := some ⟨ab, ao, none⟩) (n := 3) (cap := cap) (c := some ⟨cb, co, none⟩) (m := 2) (cap' := cap') (K := K) (by with_reducible first | exact HY.drew | exact (HY.alloc _).drew | exact ((HY.alloc _).alloc _).drew | exact (((HY.alloc _).alloc _).alloc _).drew) BZ
        have GZ := HZ.cells.2
        have rz := HZ.r.lt
        have P0 := BZ.block wy.heap.size
        have P1 := BZ.block (wy.heap.size + 1)
        have P2 := BZ.block (wy.heap.size + 1 + 1)
        try simp only [at20, at21, at30, at31, at32, lt20, lt21, lt30, lt31, lt32, forall_const] at P0 P1 P2
        first
          | (have XZ : Cel wz wy.heap.size [.slice none 0 0, .slice none 0 0, .int .i64 0] 106 := by unfold Cel; with_reducible exact P0
             obtain ⟨u0, u1, u2, u3, u4, u5⟩ := XZ.trio; have lx := XZ.lt; have nx0 := World.new_ne wz _ u0; have nx1 := World.new_ne wz _ u1; have nx2 := World.new_ne wz _ u2)
          | (have XZ : Cel wz (wy.heap.size + 1) [.slice none 0 0, .slice none 0 0, .int .i64 0] 106 := by unfold Cel; with_reducible exact P1
             obtain ⟨u0, u1, u2, u3, u4, u5⟩ := XZ.trio; have lx := XZ.lt; have nx0 := World.new_ne wz _ u0; have nx1 := World.new_ne wz _ u1; have nx2 := World.new_ne wz _ u2)
          | (have XZ : Cel wz (wy.heap.size + 1 + 1) [.slice none 0 0, .slice none 0 0, .int .i64 0] 106 := by unfold Cel; with_reducible exact P2
             obtain ⟨u0, u1, u2, u3, u4, u5⟩ := XZ.trio; have lx := XZ.lt; have nx0 := World.new_ne wz _ u0; have nx1 := World.new_ne wz _ u1; have nx2 := World.new_ne wz _ u2)
          | skip
        first
          | have AZ : Blk wz wy.heap.size [0, 0, 0] := by exact P0
          | have AZ : Blk wz (wy.heap.size + 1) [0, 0, 0] := by exact P1
          | have AZ : Blk wz (wy.heap.size + 1 + 1) [0, 0, 0] := by exact P2
          | skip))
    all_goals
      go_wp2_with fail
      go_meet
      case rel =>
        first
          | refine ⟨_, some ⟨wy.heap.size, 0, none⟩, 3, some ⟨g, 0, none⟩, cpg, rfl, (by with_reducible first | exact HZ.alloc _ | exact (HZ.alloc _).alloc _ | exact (((HZ.set (by omega) _ _).set (by omega) _ _).set (by omega) _ _) | exact (((HZ.set (by omega) _ _).set (by omega) _ _).set (by omega) _ _).alloc _), (by with_reducible first | exact Cel.new wz _ _ | exact Cel.new1 wz _ _ _ | exact (Cel.new wz _ _).alloc _ | exact (XZ.set3 _ _ _) | exact (XZ.set3 _ _ _).alloc _), (by with_reducible first | exact (AZ.alloc _).ints' (n := 3) rfl | exact (Blk.new3 _).ints' (n := 3) rfl | exact ((Blk.new3 wz).alloc _).ints' (n := 3) rfl | exact (Blk.new31 wz _).ints' (n := 3) rfl | exact (Blk.new3s wz _ _ _ _ _ _).ints' (n := 3) rfl | exact (((AZ.so).so).so).ints' (n := 3) rfl), (by with_reducible first | exact IZ.alloc _ | exact (IZ.alloc _).alloc _ | exact (((IZ.set (fun x o hx => by simp only [qA, qB, and_true] at hx; omega) _ _).set (fun x o hx => by simp only [qA, qB, and_true] at hx; omega) _ _).set (fun x o hx => by simp only [qA, qB, and_true] at hx; omega) _ _) | exact (((IZ.set (fun x o hx => by simp only [qA, qB, and_true] at hx; omega) _ _).set (fun x o hx => by simp only [qA, qB, and_true] at hx; omega) _ _).set (fun x o hx => by simp only [qA, qB, and_true] at hx; omega) _ _).alloc _), by omega⟩
          | refine ⟨_, some ⟨wy.heap.size + 1, 0, none⟩, 3, some ⟨g, 0, none⟩, cpg, rfl, (by with_reducible first | exact HZ.alloc _ | exact (HZ.alloc _).alloc _ | exact (((HZ.set (by omega) _ _).set (by omega) _ _).set (by omega) _ _) | exact (((HZ.set (by omega) _ _).set (by omega) _ _).set (by omega) _ _).alloc _), (by with_reducible first | exact Cel.new wz _ _ | exact Cel.new1 wz _ _ _ | exact (Cel.new wz _ _).alloc _ | exact (XZ.set3 _ _ _) | exact (XZ.set3 _ _ _).alloc _), (by with_reducible first | exact (AZ.alloc _).ints' (n := 3) rfl | exact (Blk.new3 _).ints' (n := 3) rfl | exact ((Blk.new3 wz).alloc _).ints' (n := 3) rfl | exact (Blk.new31 wz _).ints' (n := 3) rfl | exact (Blk.new3s wz _ _ _ _ _ _).ints' (n := 3) rfl | exact (((AZ.so).so).so).ints' (n := 3) rfl), (by with_reducible first | exact IZ.alloc _ | exact (IZ.alloc _).alloc _ | exact (((IZ.set (fun x o hx => by simp only [qA, qB, and_true] at hx; omega) _ _).set (fun x o hx => by simp only [qA, qB, and_true] at hx; omega) _ _).set (fun x o hx => by simp only [qA, qB, and_true] at hx; omega) _ _) | exact (((IZ.set (fun x o hx => by simp only [qA, qB, and_true] at hx; omega) _ _).set (fun x o hx => by simp only [qA, qB, and_true] at hx; omega) _ _).set (fun x o hx => by simp only [qA, qB, and_true] at hx; omega) _ _).alloc _), by omega⟩
          | refine ⟨_, some ⟨wy.heap.size + 1 + 1, 0, none⟩, 3, some ⟨g, 0, none⟩, cpg, rfl, (by with_reducible first | exact HZ.alloc _ | exact (HZ.alloc _).alloc _ | exact (((HZ.set (by omega) _ _).set (by omega) _ _).set (by omega) _ _) | exact (((HZ.set (by omega) _ _).set (by omega) _ _).set (by omega) _ _).alloc _), (by with_reducible first | exact Cel.new wz _ _ | exact Cel.new1 wz _ _ _ | exact (Cel.new wz _ _).alloc _ | exact (XZ.set3 _ _ _) | exact (XZ.set3 _ _ _).alloc _), (by with_reducible first | exact (AZ.alloc _).ints' (n := 3) rfl | exact (Blk.new3 _).ints' (n := 3) rfl | exact ((Blk.new3 wz).alloc _).ints' (n := 3) rfl | exact (Blk.new31 wz _).ints' (n := 3) rfl | exact (Blk.new3s wz _ _ _ _ _ _).ints' (n := 3) rfl | exact (((AZ.so).so).so).ints' (n := 3) rfl), (by with_reducible first | exact IZ.alloc _ | exact (IZ.alloc _).alloc _ | exact (((IZ.set (fun x o hx => by simp only [qA, qB, and_true] at hx; omega) _ _).set (fun x o hx => by simp only [qA, qB, and_true] at hx; omega) _ _).set (fun x o hx => by simp only [qA, qB, and_true] at hx; omega) _ _) | exact (((IZ.set (fun x o hx => by simp only [qA, qB, and_true] at hx; omega) _ _).set (fun x o hx => by simp only [qA, qB, and_true] at hx; omega) _ _).set (fun x o hx => by simp only [qA, qB, and_true] at hx; omega) _ _).alloc _), by omega⟩
          | refine ⟨_, some ⟨wz.heap.size, 0, none⟩, 3, some ⟨g, 0, none⟩, cpg, rfl, (by with_reducible first | exact HZ.alloc _ | exact (HZ.alloc _).alloc _ | exact (((HZ.set (by omega) _ _).set (by omega) _ _).set (by omega) _ _) | exact (((HZ.set (by omega) _ _).set (by omega) _ _).set (by omega) _ _).alloc _), (by with_reducible first | exact Cel.new wz _ _ | exact Cel.new1 wz _ _ _ | exact (Cel.new wz _ _).alloc _ | exact (XZ.set3 _ _ _) | exact (XZ.set3 _ _ _).alloc _), (by with_reducible first | exact (AZ.alloc _).ints' (n := 3) rfl | exact (Blk.new3 _).ints' (n := 3) rfl | exact ((Blk.new3 wz).alloc _).ints' (n := 3) rfl | exact (Blk.new31 wz _).ints' (n := 3) rfl | exact (Blk.new3s wz _ _ _ _ _ _).ints' (n := 3) rfl | exact (((AZ.so).so).so).ints' (n := 3) rfl), (by with_reducible first | exact IZ.alloc _ | exact (IZ.alloc _).alloc _ | exact (((IZ.set (fun x o hx => by simp only [qA, qB, and_true] at hx; omega) _ _).set (fun x o hx => by simp only [qA, qB, and_true] at hx; omega) _ _).set (fun x o hx => by simp only [qA, qB, and_true] at hx; omega) _ _) | exact (((IZ.set (fun x o hx => by simp only [qA, qB, and_true] at hx; omega) _ _).set (fun x o hx => by simp only [qA, qB, and_true] at hx; omega) _ _).set (fun x o hx => by simp only [qA, qB, and_true] at hx; omega) _ _).alloc _), by omega⟩
          | refine ⟨_, some ⟨wz.heap.size + 1, 0, none⟩, 3, some ⟨g, 0, none⟩, cpg, rfl, (by with_reducible first | exact HZ.alloc _ | exact (HZ.alloc _).alloc _ | exact (((HZ.set (by omega) _ _).set (by omega) _ _).set (by omega) _ _) | exact (((HZ.set (by omega) _ _).set (by omega) _ _).set (by omega) _ _).alloc _), (by with_reducible first | exact Cel.new wz _ _ | exact Cel.new1 wz _ _ _ | exact (Cel.new wz _ _).alloc _ | exact (XZ.set3 _ _ _) | exact (XZ.set3 _ _ _).alloc _), (by with_reducible first | exact (AZ.alloc _).ints' (n := 3) rfl | exact (Blk.new3 _).ints' (n := 3) rfl | exact ((Blk.new3 wz).alloc _).ints' (n := 3) rfl | exact (Blk.new31 wz _).ints' (n := 3) rfl | exact (Blk.new3s wz _ _ _ _ _ _).ints' (n := 3) rfl | exact (((AZ.so).so).so).ints' (n := 3) rfl), (by with_reducible first | exact IZ.alloc _ | exact (IZ.alloc _).alloc _ | exact (((IZ.set (fun x o hx => by simp only [qA, qB, and_true] at hx; omega) _ _).set (fun x o hx => by simp only [qA, qB, and_true] at hx; omega) _ _).set (fun x o hx => by simp only [qA, qB, and_true] at hx; omega) _ _) | exact (((IZ.set (fun x o hx => by simp only [qA, qB, and_true] at hx; omega) _ _).set (fun x o hx => by simp only [qA, qB, and_true] at hx; omega) _ _).set (fun x o hx => by simp only [qA, qB, and_true] at hx; omega) _ _).alloc _), by omega⟩
  case rest =>
    obtain ⟨X, a', cpa, c', cpc, rfl, HX, hX, iA, iD, lX⟩ := hcut
    clear HY ly A1 hi hz0 hz1 hz2
    go_wp2_with fail
    go_loopw [6] (fun i wr => ∃ k : Nat, k <= 3 /\ i = .int .i64 k /\ IH w (some ⟨ab, ao, none⟩) 3 cap (some ⟨cb, co, none⟩) 2 cap' K wr /\ ∃ a' cpa c' cpc, Cel wr X [.slice a' 3 cpa, .slice c' 2 cpc, .int .i64 (intoK C K fs k)] 106 /\ Ints wr a' 3 (intoC C fs k) /\ Ints wr c' 2 (intoD C D fs k) /\
      (k = 3 -> ∃ B1 B2, a' = some ⟨B1, 0, none⟩ /\ cpa = 3 /\ c' = some ⟨B2, 0, none⟩ /\ cpc = 2 /\ Blk wr B1 (intoC C fs 3) /\ Blk wr B2 (intoD C D fs 3) /\ w.heap.size + 1 < B1 /\ w.heap.size + 1 < B2 /\ B1 ≠ B2)) (fun i _ => 3 - (intOf i).toNat)
    case atStart => exact ⟨0, by omega, rfl, HX, a', cpa, c', cpc, hX, iA, iD, fun h => by omega⟩
    case round =>
      clear HX hX iA iD
      obtain ⟨k, hk, rfl, HX, a', cpa, c', cpc, hX, iA, iD, hB⟩ := hrel
      have IF := HI.out k hk
      by_cases hlt : k < 3
      · clear hB
        obtain ⟨x, hx, okf, -, A, q0, q1, q2⟩ := HG.out k hlt
        obtain ⟨xa, xn, xcap, xc, xm, xcap', xK, xC, xD⟩ := x
        obtain ⟨x1, x2, x3, x4⟩ := A
        obtain ⟨o1, o2, o3, o4, o5, o6, o7, o8⟩ := okf
        simp only at o1 o2 o3 o4 o5 o6 o7 o8 q0 q1 q2 x1 x2
        subst o1 o2
        have HX' : Hid _ := hx
        clear hx x3 x4
        have s0 := (HX.b.cell (p := ⟨b, off + k * 3, none⟩) lb0).trans q0
        have s1 := (HX.b.cell (p := ⟨b, off + k * 3 + 1, none⟩) lb0).trans q1
        have s2 := (HX.b.cell (p := ⟨b, off + k * 3 + 2, none⟩) lb0).trans q2
        have bc := bC k
        have tC := tim_bnd o5 bc.1 bc.2
        have tD := tim_bnd o6 bc.1 bc.2
        have tK := tim_num o7 o8 bc.1 bc.2
        obtain ⟨f1, f2, f3, f4, f5, f6⟩ := IF
        have xbC : bnd 1000000000000000000 (intoC C fs k) := fun i => by have := f3 i; omega
        have xbD : bnd 1000000000000000000 (intoD C D fs k) := fun i => by have := f4 i; omega
        have xbK : -1000000000000000000 <= intoK C K fs k /\ intoK C K fs k <= 1000000000000000000 := by omega
        have EC : intoC C fs (k + 1) = lin (intoC C fs k) xC (C[k]?.getD 0) := by simp only [intoC]; rw [<- HX'.out]
        have ED : intoD C D fs (k + 1) = lin (intoD C D fs k) xD (C[k]?.getD 0) := by simp only [intoD]; rw [<- HX'.out]
        have EK : intoK C K fs (k + 1) = intoK C K fs k + C[k]?.getD 0 * xK := by simp only [intoK]; rw [<- HX'.out]
        have LC := lin_len (n := C[k]?.getD 0) f1 o3
        have LD := lin_len (n := C[k]?.getD 0) f2 o4
        have hck : wr.cell? ⟨ab, ao + k, none⟩ = some (.int .i64 (C[k]?.getD 0)) := by
          obtain ⟨b', off', he, hc⟩ := (hC.below HX.b).2 k hlt
          simp only [qA, qB, and_true] at he
          obtain ⟨rfl, rfl⟩ := he
          simpa using hc
        have HEC : Hid _ := EC
        have HED : Hid _ := ED
        have HEK : Hid _ := EK
        clear EC ED EK f3 f4 f5 f6 bc q0 q1 q2
        have GX := HX.cells.1
        obtain ⟨u0, u1, u2, u3, u4, u5⟩ := hX.trio
        have hlt' : (k : Int) < 3 := by omega
        have hlt0 : (0 : Int) <= (k : Int) := by omega
        generalize intoC C fs k = iC at *
        generalize intoD C D fs k = jD at *
        generalize intoK C K fs k = sK at *
        generalize C[k]?.getD 0 = ck at *
        go_wp2_with fail
        go_region_with (first | (go_at_call 132; refine (l1sum_any iC jD xC xD (by exact iA) (by exact iD) (by exact x1.below HX.drew.b) (by exact x2.below HX.drew.b) xbC xbD xbK tC tD tK).mono ?_; rintro e w5 ⟨B1, B2, rfl, b5, g1, g2, g3, k1, k2⟩; have g1' : wr.heap.size <= B1 := g1; have g3' : wr.heap.size <= B2 := g3; have b5' := below_of_drew b5; have H5 := HX.below b5'; have X5 := hX.below b5'; obtain ⟨v0, v1, v2, v3, v4, v5⟩ := X5.trio))
        all_goals
          have E3 : Blk (((w5.setCell ⟨X, 0, none⟩ (.slice (some ⟨B1, 0, none⟩) 3 3)).setCell ⟨X, 1, none⟩ (.slice (some ⟨B2, 0, none⟩) 2 2)).setCell ⟨X, 2, none⟩ (.int .i64 (sK + ck * xK))) B1 (lin iC xC ck) := ((k1.setOther (by have := hX.lt; omega) _ _).setOther (by have := hX.lt; omega) _ _).setOther (by have := hX.lt; omega) _ _
          have E4 : Blk (((w5.setCell ⟨X, 0, none⟩ (.slice (some ⟨B1, 0, none⟩) 3 3)).setCell ⟨X, 1, none⟩ (.slice (some ⟨B2, 0, none⟩) 2 2)).setCell ⟨X, 2, none⟩ (.int .i64 (sK + ck * xK))) B2 (lin jD xD ck) := ((k2.setOther (by have := hX.lt; omega) _ _).setOther (by have := hX.lt; omega) _ _).setOther (by have := hX.lt; omega) _ _
          have E1 := ((H5.set (X := X) (by omega) 0 (.slice (some ⟨B1, 0, none⟩) 3 3)).set (X := X) (by omega) 1 (.slice (some ⟨B2, 0, none⟩) 2 2)).set (X := X) (by omega) 2 (.int .i64 (sK + ck * xK))
          have E2 := X5.set3 (.slice (some ⟨B1, 0, none⟩) 3 3) (.slice (some ⟨B2, 0, none⟩) 2 2) (.int .i64 (sK + ck * xK))
          have zr := HX.r.lt
          have zX := hX.lt
          clear k1 k2 HX hX iA iD s0 s1 s2 hck x1 x2 b5 b5' tC tD tK xbC xbD xbK u0 u1 u2 u3 u4 u5 GX
          go_wp2
          go_roundw
          case rel =>
            refine ⟨k + 1, by omega, by go_num, E1, some ⟨B1, 0, none⟩, 3, some ⟨B2, 0, none⟩, 2, ?_, ?_, ?_, ?_⟩
            · rw [HEK.out]; exact E2
            · rw [HEC.out]; exact E3.ints' LC
            · rw [HED.out]; exact E4.ints' LD
            · intro h3
              obtain rfl : k = 2 := by omega
              refine ⟨B1, B2, rfl, rfl, rfl, rfl, ?_, ?_, by omega, by omega, g2⟩
              · rw [HEC.out]; exact E3
              · rw [HED.out]; exact E4
          case measure => simp [intOf]; omega
      · obtain rfl : k = 3 := by omega
        obtain ⟨B1, B2, rfl, rfl, rfl, rfl, k1, k2, lB1, lB2, hne⟩ := hB rfl
        obtain ⟨f1, f2, -, -, -, -⟩ := IF
        clear iA iD hlt hk
        obtain ⟨c0, c1, c2, -, -, -⟩ := hX.trio
        cases h3 : formB 3 2 (intoC C fs 3) (intoD C D fs 3) (intoK C K fs 3)
        all_goals
          go_wp2_with fail
          refine (sok_any (intoC C fs 3) (intoD C D fs 3) (k1.ints' f1) (k2.ints' f2) (by omega) (by omega)).mono ?_
          rintro e w5 ⟨rfl, b5⟩
          have H5 := HX.below b5
          have x5 := hX.below b5
          obtain ⟨d0, d1, d2, -, -, -⟩ := x5.trio
          obtain ⟨r0, r1, r2, r3, r4, r5⟩ := H5.room
          have k1' := k1.below b5
          have k2' := k2.below b5
          clear c0 c1 c2 HX hX k1 k2 b5
          go_wp2
        · refine bodyPost_ret (v := formV none 0 0 none 0 0 0) (by simp [results, Tryz.results130, go_sem, r0, r1, r2]) rfl ?_
          rw [h3]
          exact H5.none
        · refine bodyPost_ret (v := formV (some ⟨B1, 0, none⟩) 3 3 (some ⟨B2, 0, none⟩) 2 2 (intoK C K fs 3)) (by simp [results, Tryz.results130, go_sem, r0, r1, r2]) rfl ?_
          rw [h3]
          refine Res.of (B1 := B1) (B2 := B2) rfl f1 f2 ?_ (by omega) hne (by omega) ?_ ?_
          · exact ((H5.b.setCell (by simp only []; omega) _).setCell (by simp only []; omega) _).setCell (by simp only []; omega) _
          · exact ((k1'.so).so).so
          · exact ((k2'.so).so).so
end Go.Proofs.YtfmpcihghlnlnaaGreatDoor
