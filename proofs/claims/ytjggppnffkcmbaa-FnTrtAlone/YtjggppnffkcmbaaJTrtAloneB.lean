/-
  Lemmas that the claim's last text rests on: WayR, WayD, WayG, WayK, WayT, MarkP2, KeyI, RowsY, WayK2, WayF, WayP, WayQ, WayS, WayZ, WayH, IReads, BoolS, CatPW, DrPt, DrBo.
-/
import Derived.Test.YtjggppnffkcmbaaJTrtAloneA
import Derived.Deep.AppendSrc
import Derived.Deep.Upon
import Derived.Test.YtjggppnffkcmbaaKeyed
import Derived.OrdersIn
import Derived.OrdersHeld
import Derived.RangeFuncNested
import Derived.RangeFuncBound
import Derived.RangeFuncCalls
import Derived.RangeFuncLeaves
import Derived.Shelf.Abstract
import Derived.Shelf.RegionOpen
import Derived.WalkKit
import Derived.OwnWalkIn
import Derived.TacticsInMore
import Derived.LoopNIn
import Derived.LoopIn
import Derived.Test.YtjggppnffkcmbaaDrTr
import Derived.Test.YtjggppnffkcmbaaDrAs
import Derived.Test.YtjggppnffkcmbaaDrAd
namespace Go.Proofs.Ytjggppnffkcmbaa
open Go.RowKit Go.Deep
set_option linter.unusedVariables false
set_option maxRecDepth 100000

theorem put4 {W : World} {X : Nat} {vs : List Value} {T : TypeId} (h : Cel W X vs T) (hl : vs.length = 4) (v0 v1 v2 v3 : Value) :
    Cel ((((W.setCell ⟨X, 0, none⟩ v0).setCell ⟨X, 1, none⟩ v1).setCell ⟨X, 2, none⟩ v2).setCell ⟨X, 3, none⟩ v3) X [v0, v1, v2, v3] T ∧ Touch (fun z => z = X) W ((((W.setCell ⟨X, 0, none⟩ v0).setCell ⟨X, 1, none⟩ v1).setCell ⟨X, 2, none⟩ v2).setCell ⟨X, 3, none⟩ v3) := by
  refine ⟨?_, (((((Touch.refl (fun z => z = X) W).setCell rfl _).setCell rfl _).setCell rfl _).setCell rfl _)⟩
  have := (((h.set 0 v0).set 1 v1).set 2 v2).set 3 v3
  match vs, hl with
  | [a, b, c, d], _ => exact this
theorem FOff.empty {W : World} {S : Nat → Prop} {a : Option Addr} : FOff W S a [] := fun W' t i hi => by simp at hi
theorem JV.foff' {w W : World} {a : Option Addr} {n cap : Nat} {xs : List Value} {fs : List Frm} (j : JV w (.slice a n cap) n xs fs W) (hn : fs.length = n) : FOff W (fun k => k < w.heap.size) a fs := by
  obtain ⟨a', cap', e, h⟩ := j.foff hn
  simp only [Value.slice.injEq, true_and] at e
  obtain ⟨rfl, rfl⟩ := e
  exact h

set_option maxHeartbeats 3200000 in
theorem irow_stop (y : Way) (ga : Option Addr) (ng gc : Nat) (pa : Option Addr) (cp : Nat) (ta : Option Addr) (nt tc : Nat) (w : World) (hg : y.guards.length = ng) (hG : FormsAt w ga y.guards) (fg : ∀ k, k < ng → fitX 10000000 (y.guards[k]?.getD ([], [], 0))) (hg1 : ng ≤ 1048576) :
    Calls Try.prog 129 #[wayV ga ng gc pa cp ta nt tc true] w fun e w' => ∃ v, e = .returned v ∧ Below w.heap.size w w' ∧ RowX w' w.heap.size v (stopW y) := by
  have HGL : Hid (y.guards.length = ng) := hg
  have HFG : Hid _ := fg
  clear hg fg
  have B0 : Below w.heap.size w ((w.alloc (.cells #[.slice ga ng gc, .slice pa 3 cp, .slice ta nt tc, .bool true] 143)).alloc (.cells #[.slice none 0 0, .slice none 0 0, .slice none 0 0, .bool false] 25)) := ((Below.refl _ _).alloc (Nat.le_refl _) _).alloc (by simp) _
  have r0 := Cel.new (w.alloc (.cells #[.slice ga ng gc, .slice pa 3 cp, .slice ta nt tc, .bool true] 143)) [.slice none 0 0, .slice none 0 0, .slice none 0 0, .bool false] 25
  rw [World.size_alloc] at r0
  go_enter Try.func129, Try.ntmps129
  go_wp2_with fail
  refine (icopies_any _ _ _ y.guards _ HGL.out (hG.keep B0) HFG.out hg1).mono ?_
  rintro e w1 ⟨v1, xs1, rfl, j1⟩
  obtain ⟨a1, c1, rfl⟩ := j1.isSlice
  have B1 := B0.trans (j1.b.mono B0.size)
  have r1 := r0.below j1.b
  have g1 := j1.foff' HGL.out
  rw [World.size_alloc, World.size_alloc] at g1
  have lr := r1.lt
  obtain ⟨c0, c1', c2, c3⟩ := r1.four
  have y0 := r1.free 0
  have y1 := r1.free 1
  have y2 := r1.free 2
  have y3 := r1.free 3
  obtain ⟨x', T'⟩ := put4 r1 rfl (.slice a1 ng c1) (.slice none 0 0) (.slice none 0 0) (.bool true)
  obtain ⟨h0, h1, h2, h3⟩ := x'.four
  clear j1 r0 B0
  go_wp2
  refine bodyPost_ret (v := .agg #[.slice a1 ng c1, .slice none 0 0, .slice none 0 0, .bool true]) (by simp [results, Try.results129, go_sem, h0, h1, h2, h3]) rfl ?_
  refine ⟨_, rfl, B1.trans (T'.below B1.size (fun k hk => by omega)), a1, c1, none, 0, none, 0, ?_, (g1.touch (T'.mono (fun k hk => by omega))).mono (fun k hk => by omega), FOff.empty, FOff.empty⟩
  show _ = Value.agg #[.slice a1 y.guards.length c1, .slice none 0 0, .slice none 0 0, .bool true]
  rw [HGL.out]

set_option maxHeartbeats 3200000 in
theorem irow_end (y : Way) (ga : Option Addr) (ng gc : Nat) (pa : Option Addr) (cp : Nat) (ta : Option Addr) (nt tc : Nat) (w : World) (hp : y.pots.length = 3) (hg : y.guards.length = ng) (ht : y.tells.length = nt) (hP : FormsAt w pa y.pots) (hG : FormsAt w ga y.guards) (hT : FormsAt w ta y.tells) (fp : ∀ k, k < 3 → fitX 9000000 (y.pots[k]?.getD noX)) (fg : ∀ k, k < ng → fitX 10000000 (y.guards[k]?.getD ([], [], 0))) (ft : ∀ k, k < nt → fitX 10000000 (y.tells[k]?.getD ([], [], 0))) (hg1 : ng ≤ 1048576) (ht1 : nt ≤ 1048576) :
    Calls Try.prog 129 #[wayV ga ng gc pa cp ta nt tc false] w fun e w' => ∃ v, e = .returned v ∧ Below w.heap.size w w' ∧ RowX w' w.heap.size v (endW y) := by
  have HPL : Hid (y.pots.length = 3) := hp
  have HGL : Hid (y.guards.length = ng) := hg
  have HTL : Hid (y.tells.length = nt) := ht
  have HFP : Hid _ := fp
  have HFG : Hid _ := fg
  have HFT : Hid _ := ft
  clear hp hg ht fp fg ft
  have B0 : Below w.heap.size w ((w.alloc (.cells #[.slice ga ng gc, .slice pa 3 cp, .slice ta nt tc, .bool false] 143)).alloc (.cells #[.slice none 0 0, .slice none 0 0, .slice none 0 0, .bool false] 25)) := ((Below.refl _ _).alloc (Nat.le_refl _) _).alloc (by simp) _
  have r0 := Cel.new (w.alloc (.cells #[.slice ga ng gc, .slice pa 3 cp, .slice ta nt tc, .bool false] 143)) [.slice none 0 0, .slice none 0 0, .slice none 0 0, .bool false] 25
  have p0 := (Cel.new w [.slice ga ng gc, .slice pa 3 cp, .slice ta nt tc, .bool false] 143).alloc (.cells #[.slice none 0 0, .slice none 0 0, .slice none 0 0, .bool false] 25)
  rw [World.size_alloc] at r0
  go_enter Try.func129, Try.ntmps129
  go_upto_region 3 with fail
  generalize ((w.alloc (.cells #[.slice ga ng gc, .slice pa 3 cp, .slice ta nt tc, .bool false] 143)).alloc (.cells #[.slice none 0 0, .slice none 0 0, .slice none 0 0, .bool false] 25)) = W0 at *
  have KP : Hid (∀ W, Below W0.heap.size W0 W → Cel W w.heap.size [.slice ga ng gc, .slice pa 3 cp, .slice ta nt tc, .bool false] 143) := fun W hW => p0.below hW
  have KR : Hid (∀ W, Below W0.heap.size W0 W → Cel W (w.heap.size + 1) [.slice none 0 0, .slice none 0 0, .slice none 0 0, .bool false] 25) := fun W hW => r0.below hW
  have e0 : Below W0.heap.size W0 W0.drew := (Below.refl _ _).drew
  have hSS : (W0.drew.cell? ⟨w.heap.size, 0, none⟩ = some (.slice ga ng gc) ∧ W0.drew.cell? ⟨w.heap.size, 1, none⟩ = some (.slice pa 3 cp) ∧ W0.drew.cell? ⟨w.heap.size, 2, none⟩ = some (.slice ta nt tc) ∧ W0.drew.cell? ⟨w.heap.size, 3, none⟩ = some (.bool false)) ∧ True := ⟨(KP.out _ e0).four, trivial⟩
  have lr := r0.lt
  clear p0 r0
  refine wp_region_ends (fun w' => w'.cell? ⟨w.heap.size, 0, none⟩ = some (.slice ga ng gc) ∧ w'.cell? ⟨w.heap.size, 1, none⟩ = some (.slice pa 3 cp) ∧ w'.cell? ⟨w.heap.size, 2, none⟩ = some (.slice ta nt tc) ∧ w'.cell? ⟨w.heap.size, 3, none⟩ = some (.bool false)) (fun _ => True) 9 (by kernel_rfl) ?_
  refine wpAnyE_take0 (i := 0) (v := ?v0) rfl (by kernel_rfl) (by kernel_rfl) (by kernel_rfl) (by decide) (fun _ _ _ h => h) (Or.inl ⟨by rfl, ?hy0⟩) hSS ?_
  case hy0 => (intro wz hSw; (try dsimp only at hSw); go_simp; try (with_reducible rfl))
  refine wpAnyE_take0 (i := 1) (v := ?v1) rfl (by kernel_rfl) (by kernel_rfl) (by kernel_rfl) (by decide) (fun _ _ _ h => h) (Or.inl ⟨by rfl, ?hy1⟩) hSS ?_
  case hy1 => (intro wz hSw; (try dsimp only at hSw); go_simp; try (with_reducible rfl))
  refine wpAnyE_take0 (i := 3) (v := ?v3) rfl (by kernel_rfl) (by kernel_rfl) (by kernel_rfl) (by decide) (fun _ _ _ h => h) (Or.inl ⟨by rfl, ?hy3⟩) hSS ?_
  case hy3 => (intro wz hSw; (try dsimp only at hSw); go_simp; try (with_reducible rfl))
  refine wpAnyE_take0 (i := 5) (v := ?v5) rfl (by kernel_rfl) (by kernel_rfl) (by kernel_rfl) (by decide) (fun _ _ _ h => h) (Or.inl ⟨by rfl, ?hy5⟩) hSS ?_
  case hy5 => (intro wz hSw; (try dsimp only at hSw); go_simp; try (with_reducible rfl))
  refine wpAnyE_take0 (i := 6) (v := ?v6) rfl (by kernel_rfl) (by kernel_rfl) (by kernel_rfl) (by decide) (fun _ _ _ h => h) (Or.inl ⟨by rfl, ?hy6⟩) hSS ?_
  case hy6 => (intro wz hSw; (try dsimp only at hSw); go_simp; try (with_reducible rfl))
  clear hSS
  refine wpAnyE_one (i := 2) (by kernel_rfl) rfl (fun K hK => ?_)
  go_simp
  refine (icopies_any _ _ _ y.guards _ HGL.out ((hG.keep B0).keep e0) HFG.out hg1).mono ?_
  rintro ee w1 ⟨v1, xs1, rfl, j1⟩
  have e1 := below_of_drew j1.b
  obtain ⟨a1, c1, rfl⟩ := j1.isSlice
  have g1 : FOff w1 (fun k => k < W0.heap.size) a1 y.guards := j1.foff' HGL.out
  clear j1
  (try dsimp only)
  refine hK.out _ _ ⟨(KP.out _ e1).four, fun _ => trivial⟩ ?_
  clear hK K
  refine wpAnyE_one (i := 4) (by kernel_rfl) rfl (fun K hK => ?_)
  go_simp
  refine (iadds_any y _ _ _ _ _ _ _ _ _ _ HPL.out ((hP.keep B0).keep e1) HFP.out).mono ?_
  rintro ee w2 ⟨v2, xs2, rfl, j2⟩
  have e2 := e1.trans (j2.b.mono e1.size)
  obtain ⟨a2, c2, rfl⟩ := j2.isSlice
  have g2 := g1.below j2.b
  have s1 := e1.size
  have d2 : FOff w2 (fun k => k < w1.heap.size) a2 (endW y).adds := j2.foff' rfl
  clear j2 g1
  (try dsimp only)
  refine hK.out _ _ ⟨(KP.out _ e2).four, fun _ => trivial⟩ ?_
  clear hK K
  refine wpAnyE_one (i := 7) (by kernel_rfl) rfl (fun K hK => ?_)
  go_simp
  refine (icopies_any _ _ _ y.tells _ HTL.out ((hT.keep B0).keep e2) HFT.out ht1).mono ?_
  rintro ee w3 ⟨v3, xs3, rfl, j3⟩
  have e3 := e2.trans (j3.b.mono e2.size)
  obtain ⟨a3, c3, rfl⟩ := j3.isSlice
  have g3 := g2.below j3.b
  have d3 := d2.below j3.b
  have s2 := e2.size
  have s3 := e3.size
  have t3 : FOff w3 (fun k => k < w2.heap.size) a3 y.tells := j3.foff' HTL.out
  clear j3 g2 d2
  (try dsimp only)
  refine hK.out _ _ ⟨(KP.out _ e3).four, fun _ => trivial⟩ ?_
  clear hK K
  refine wpAnyE_one (i := 8) (by kernel_rfl) rfl (fun K hK => ?_)
  go_simp
  refine hK.out _ _ ⟨(KP.out _ e3).four, fun _ => trivial⟩ ?_
  clear hK K
  have r1 := KR.out _ e3
  have lr3 := r1.lt
  obtain ⟨q0, q1, q2, q3⟩ := r1.four
  have y0 := r1.free 0
  have y1 := r1.free 1
  have y2 := r1.free 2
  have y3 := r1.free 3
  obtain ⟨x', T'⟩ := put4 r1 rfl (.slice a1 ng c1) (.slice a2 3 c2) (.slice a3 nt c3) (.bool false)
  have p4 := (KP.out _ e3).touch T' (fun h => by have := h; omega)
  obtain ⟨h0, h1, h2, h3⟩ := x'.four
  refine wpAnyE_one (i := 9) (by kernel_rfl) rfl (fun K hK => ?_)
  go_simp
  refine hK.out _ _ ⟨p4.four, fun h => absurd (show true = false from h) (by decide)⟩ ?_
  clear hK K
  refine wpAnyE_done (by kernel_rfl) ?_ _
  have B3 := B0.trans (e3.mono B0.size)
  have sB := B0.size
  have gg := (g3.touch (T'.mono (fun k hk => by omega))).mono (S' := fun k => k < w.heap.size) (fun k hk => by omega)
  have dd := (d3.touch (T'.mono (fun k hk => by omega))).mono (S' := fun k => k < w.heap.size) (fun k hk => by omega)
  have tt := (t3.touch (T'.mono (fun k hk => by omega))).mono (S' := fun k => k < w.heap.size) (fun k hk => by omega)
  have BB := B3.trans (T'.below B3.size (fun k hk => by omega))
  clear q0 q1 q2 q3 y0 y1 y2 y3 r1 p4 x' T' g3 d3 t3 KP KR
  go_wp2
  refine bodyPost_ret (v := .agg #[.slice a1 ng c1, .slice a2 3 c2, .slice a3 nt c3, .bool false]) (by simp [results, Try.results129, go_sem, h0, h1, h2, h3]) rfl ?_
  refine ⟨_, rfl, BB, a1, c1, a2, c2, a3, c3, ?_, gg, dd, tt⟩
  show _ = Value.agg #[.slice a1 y.guards.length c1, .slice a2 3 c2, .slice a3 y.tells.length c3, .bool false]
  rw [HGL.out, HTL.out]

end Go.Proofs.Ytjggppnffkcmbaa
namespace Go.Proofs.Ytjggppnffkcmbaa
open Go.RowKit Go.Deep
set_option linter.unusedVariables false
set_option maxRecDepth 100000

/-- Three forms in memory of their own, their lists anywhere. -/
structure JC (base : Nat) (G cap : Nat) (xs : List Value) (fs : List Frm) (W : World) : Prop where
  o : W.ownsRow base 34 3 (.slice (some ⟨G, 0, none⟩) 3 cap) 3 xs
  t : TermsOk W G xs fs 3
theorem JC.below {base : Nat} {W W' : World} {G cap : Nat} {xs : List Value} {fs : List Frm} (j : JC base G cap xs fs W) (h : Below W.heap.size W W') : JC base G cap xs fs W' := ⟨own_below j.o h, j.t.below h⟩
theorem JC.past {base : Nat} {W W' : World} {X G cap : Nat} {xs : List Value} {fs : List Frm} (j : JC base G cap xs fs W) (hX : X ≠ G) (hx : ∀ o q, W.cell? ⟨X, o, none⟩ ≠ some (.int .i64 q)) (t : Touch (fun z => z = X) W W') : JC base G cap xs fs W' := by
  refine ⟨own_off j.o (fun g hg hs => ?_) t, fun i hi => ?_⟩
  · have h' : some G = some g := hg
    simp only [Option.some.injEq] at h'
    exact hX (by rw [h']; exact hs.symm)
  · obtain ⟨a', c', ca, cc, e0, e1, e2, i1, i2, n1, n2⟩ := j.t i hi
    exact ⟨a', c', ca, cc, e0, e1, e2, i1.past hx t, i2.past hx t, n1, n2⟩
theorem JC.lt {base : Nat} {W : World} {G cap : Nat} {xs : List Value} {fs : List Frm} (j : JC base G cap xs fs W) : base ≤ G ∧ G < W.heap.size := by
  rcases j.o.2 with ⟨h, _⟩ | ⟨g, cap', cur, h, hg, hh, _⟩
  · cases h
  · simp only [Value.slice.injEq, Option.some.injEq, Addr.mk.injEq, and_true, true_and] at h
    obtain ⟨rfl, _⟩ := h
    exact ⟨hg, lt_of_block hh⟩
theorem JC.frz {base : Nat} {W : World} {G cap : Nat} {xs : List Value} {fs : List Frm} (j : JC base G cap xs fs W) (i : Nat) : W.frozen? ⟨G, i, none⟩ = false := by
  rcases j.o.2 with ⟨h, _⟩ | ⟨g, cap', cur, h, hg, hh, _⟩
  · cases h
  · simp only [Value.slice.injEq, Option.some.injEq, Addr.mk.injEq, and_true, true_and] at h
    obtain ⟨rfl, _⟩ := h
    have : Cel W G cur.toList 34 := by unfold Cel; simpa using hh
    exact this.free i
/-- One of them is overwritten. -/
theorem JC.put {base : Nat} {W : World} {G cp : Nat} {xs : List Value} {fs : List Frm} (j : JC base G cp xs fs W) (hn : fs.length = 3) {p : Nat} (hp : p < 3) {B1 B2 ca cc : Nat} {C D : List Int} {K : Int} (k1 : Blk W B1 C) (l1 : C.length = 3) (k2 : Blk W B2 D) (l2 : D.length = 2) (n1 : B1 ≠ G) (n2 : B2 ≠ G) :
    FormsAt (((W.setCell ⟨G, p * 3, none⟩ (.slice (some ⟨B1, 0, none⟩) 3 ca)).setCell ⟨G, p * 3 + 1, none⟩ (.slice (some ⟨B2, 0, none⟩) 2 cc)).setCell ⟨G, p * 3 + 2, none⟩ (.int .i64 K)) (some ⟨G, 0, none⟩) (fs.set p (C, D, K)) := by
  have hT := j.t
  have hx := j.o.1
  rcases j.o.2 with ⟨h, _⟩ | ⟨g, cap', cur, h, hg, hh, hl, _, hcs, ht⟩
  · cases h
  simp only [Value.slice.injEq, Option.some.injEq, Addr.mk.injEq, and_true, true_and] at h
  obtain ⟨rfl, rfl⟩ := h
  have cel : Cel W G cur.toList 34 := by unfold Cel; simpa using hh
  have hlen : 9 ≤ cur.toList.length := by
    have := congrArg List.length ht
    rw [List.length_take, hx] at this
    omega
  have hat : ∀ i, i < 9 → cur.toList[i]? = xs[i]? := fun i hi => by
    rw [← ht, List.getElem?_take, if_pos (by omega)]
  have c3 := ((cel.set (p * 3) (.slice (some ⟨B1, 0, none⟩) 3 ca)).set (p * 3 + 1) (.slice (some ⟨B2, 0, none⟩) 2 cc)).set (p * 3 + 2) (.int .i64 K)
  have tt : Touch (fun x => x = G) W (((W.setCell ⟨G, p * 3, none⟩ (.slice (some ⟨B1, 0, none⟩) 3 ca)).setCell ⟨G, p * 3 + 1, none⟩ (.slice (some ⟨B2, 0, none⟩) 2 cc)).setCell ⟨G, p * 3 + 2, none⟩ (.int .i64 K)) := (((Touch.refl (fun x => x = G) W).setCell rfl _).setCell rfl _).setCell rfl _
  have m1 := (k1.ints' l1).by tt (fun b o e => by simp only [Option.some.injEq, Addr.mk.injEq, and_true] at e; omega)
  have m2 := (k2.ints' l2).by tt (fun b o e => by simp only [Option.some.injEq, Addr.mk.injEq, and_true] at e; omega)
  intro i hi
  rw [List.length_set, hn] at hi
  by_cases e : p = i
  · subst e
    rw [List.getElem?_set_self (by omega)]
    refine ⟨G, 0, rfl, _, _, ca, cc, ?_, ?_, ?_, m1, m2⟩
    · rw [Nat.zero_add, c3.cell, List.getElem?_set_ne (by omega), List.getElem?_set_ne (by omega), List.getElem?_set_self (by omega)]
    · rw [Nat.zero_add, c3.cell, List.getElem?_set_ne (by omega), List.getElem?_set_self (by rw [List.length_set]; omega)]
    · rw [Nat.zero_add, c3.cell, List.getElem?_set_self (by rw [List.length_set, List.length_set]; omega)]; rfl
  · rw [List.getElem?_set_ne e]
    obtain ⟨a', c', x, y, e0, e1, e2, i1, i2, q1, q2⟩ := hT i hi
    refine ⟨G, 0, rfl, a', c', x, y, ?_, ?_, ?_, i1.by tt q1, i2.by tt q2⟩
    · rw [Nat.zero_add, c3.cell, List.getElem?_set_ne (by omega), List.getElem?_set_ne (by omega), List.getElem?_set_ne (by omega), hat _ (by omega)]; exact e0
    · rw [Nat.zero_add, c3.cell, List.getElem?_set_ne (by omega), List.getElem?_set_ne (by omega), List.getElem?_set_ne (by omega), hat _ (by omega)]; exact e1
    · rw [Nat.zero_add, c3.cell, List.getElem?_set_ne (by omega), List.getElem?_set_ne (by omega), List.getElem?_set_ne (by omega), hat _ (by omega)]; exact e2

theorem addr_add (b off j : Nat) : (⟨b, off, none⟩ : Addr).add j = ⟨b, off + j, none⟩ := by
  by_cases h0 : j = 0
  · subst h0; simp [Addr.add]
  · simp [Addr.add, h0]

set_option maxHeartbeats 1600000 in
theorem iclone3_any (pa : Option Addr) (cp : Nat) (fs : List Frm) (w : World) (hn : fs.length = 3) (hP : FormsAt w pa fs) :
    Calls Try.prog 148 #[.slice pa 3 cp] w fun e w' => ∃ G cap xs, e = .returned (.slice (some ⟨G, 0, none⟩) 3 cap) ∧ Below w.heap.size w w' ∧ JC w.heap.size G cap xs fs w' := by
  obtain ⟨zi, hi, hz0, hz1, hz2⟩ := info_parts Try.infoForm
  obtain ⟨b, off, rfl, a0, c0, x0, y0, p00, p01, p02, i0, j0⟩ := hP 0 (by omega)
  obtain ⟨b1, off1, e1, a1, c1, x1, y1, p10, p11, p12, i1, j1⟩ := hP 1 (by omega)
  obtain ⟨b2, off2, e2, a2, c2, x2, y2, p20, p21, p22, i2, j2⟩ := hP 2 (by omega)
  simp only [Option.some.injEq, Addr.mk.injEq, and_true] at e1 e2
  obtain ⟨rfl, rfl⟩ := e1
  obtain ⟨rfl, rfl⟩ := e2
  have A : Below w.heap.size w (w.alloc (.cells #[] 34)) := (Below.refl _ _).alloc (Nat.le_refl _) _
  have HNW : Hid (∀ j u, ([.slice a0 3 x0, .slice c0 2 y0, .int .i64 (fs[0]?.getD ([], [], 0)).2.2, .slice a1 3 x1, .slice c1 2 y1, .int .i64 (fs[1]?.getD ([], [], 0)).2.2, .slice a2 3 x2, .slice c2 2 y2, .int .i64 (fs[2]?.getD ([], [], 0)).2.2] : List Value)[j]? = some u → (w.alloc (.cells #[] 34)).cell? ((⟨b, off, none⟩ : Addr).add j) = some u) := fun j u hu => by
    rw [addr_add]
    have key : ∀ q v, w.cell? ⟨b, q, none⟩ = some v → (w.alloc (.cells #[] 34)).cell? ⟨b, q, none⟩ = some v := fun q v h => by rw [A.cell (p := ⟨b, q, none⟩) (block_lt h)]; exact h
    match j with
    | 0 => simp only [List.getElem?_cons_zero, Option.some.injEq] at hu; subst hu; exact key _ _ p00
    | 1 => simp only [List.getElem?_cons_zero, List.getElem?_cons_succ, Option.some.injEq] at hu; subst hu; exact key _ _ p01
    | 2 => simp only [List.getElem?_cons_zero, List.getElem?_cons_succ, Option.some.injEq] at hu; subst hu; exact key _ _ p02
    | 3 => simp only [List.getElem?_cons_zero, List.getElem?_cons_succ, Option.some.injEq] at hu; subst hu; exact key _ _ p10
    | 4 => simp only [List.getElem?_cons_zero, List.getElem?_cons_succ, Option.some.injEq] at hu; subst hu; exact key _ _ p11
    | 5 => simp only [List.getElem?_cons_zero, List.getElem?_cons_succ, Option.some.injEq] at hu; subst hu; exact key _ _ p12
    | 6 => simp only [List.getElem?_cons_zero, List.getElem?_cons_succ, Option.some.injEq] at hu; subst hu; exact key _ _ p20
    | 7 => simp only [List.getElem?_cons_zero, List.getElem?_cons_succ, Option.some.injEq] at hu; subst hu; exact key _ _ p21
    | 8 => simp only [List.getElem?_cons_zero, List.getElem?_cons_succ, Option.some.injEq] at hu; subst hu; exact key _ _ p22
    | j + 9 => simp at hu
  have HOL := World.ownsRow_lit (e := 34) (size := 3) (base := w.heap.size) w #[] 0 (Nat.le_refl _) (by unfold maxLen; omega) rfl
  have HNX : Hid (∀ u ∈ ([.slice a0 3 x0, .slice c0 2 y0, .int .i64 (fs[0]?.getD ([], [], 0)).2.2, .slice a1 3 x1, .slice c1 2 y1, .int .i64 (fs[1]?.getD ([], [], 0)).2.2, .slice a2 3 x2, .slice c2 2 y2, .int .i64 (fs[2]?.getD ([], [], 0)).2.2] : List Value), u.oneCell' = true) := by
    show ∀ u ∈ _, _
    simp [Value.oneCell']
  have I0 := i0.below A
  have J0 := j0.below A
  have I1 := i1.below A
  have J1 := j1.below A
  have I2 := i2.below A
  have J2 := j2.below A
  have l0 := i0.blt (by omega)
  have m0 := j0.blt (by omega)
  have l1 := i1.blt (by omega)
  have m1 := j1.blt (by omega)
  have l2 := i2.blt (by omega)
  have m2 := j2.blt (by omega)
  have hnil : ∀ w, (binOp .eql 23 (.slice (some ⟨b, off, none⟩) 3 cp) (.slice none 0 0)).run Try.prog w = .ok (.bool false) w := fun w => Go.Lib.run_eql_slice_nil w _ _ _ _ _ _ _ Try.underlying23
  clear hP p00 p01 p02 p10 p11 p12 p20 p21 p22 i0 j0 i1 j1 i2 j2
  go_enter Try.func148, Try.ntmps148
  go_wp2_with (at_builtin; go_must (refine wpList_append_lies _ rfl (.tmp 5) (.tmp 6) 23 rfl w.heap.size 34 zi _ 3 56 Try.underlying23 hi hz0 hz1 hz2 rfl (by decide) (.slice (some ⟨w.heap.size, 0, none⟩) 0 0) 0 [] rfl HOL ⟨b, off, none⟩ 3 cp _ rfl rfl HNW.out HNX.out (by omega) (by unfold maxLen; omega) (by omega) (by rw [World.size_alloc]; omega) _ rfl ?_); intro g cpg w1 hown hgrow hat hlt1)
  have hg : w.heap.size ≤ g := by
    rcases hat with h | h
    · have h' : some w.heap.size = some g := h
      simp only [Option.some.injEq] at h'
      omega
    · rw [World.size_alloc] at h; omega
  have gT : Touch (fun k => k = w.heap.size) (w.alloc (.cells #[] 34)) w1 := ⟨hgrow.os, hgrow.tape, hgrow.output, hgrow.size, fun z hz hn => hgrow.block z hz (fun e => hn (by have e' : some z = some w.heap.size := e; simpa using e'))⟩
  have ty : ∀ {a : Option Addr} {n : Nat} {zs : List Int}, Ints (w.alloc (.cells #[] 34)) a n zs → (∀ b o, a = some ⟨b, o, none⟩ → b < w.heap.size) → Ints w1 a n zs := fun h hb => h.by gT (fun b o e => by have := hb b o e; omega)
  have bb : Below w.heap.size w w1 := A.grown hgrow A.size (fun k hk => by have h' : some w.heap.size = some k := hk; simp only [Option.some.injEq] at h'; omega)
  have jj : JC w.heap.size g cpg _ fs w1 := ⟨hown, fun i hi => by
    match i, hi with
    | 0, _ => exact ⟨a0, c0, x0, y0, rfl, rfl, rfl, ty I0 l0, ty J0 m0, fun b o e => by have := l0 b o e; omega, fun b o e => by have := m0 b o e; omega⟩
    | 1, _ => exact ⟨a1, c1, x1, y1, rfl, rfl, rfl, ty I1 l1, ty J1 m1, fun b o e => by have := l1 b o e; omega, fun b o e => by have := m1 b o e; omega⟩
    | 2, _ => exact ⟨a2, c2, x2, y2, rfl, rfl, rfl, ty I2 l2, ty J2 m2, fun b o e => by have := l2 b o e; omega, fun b o e => by have := m2 b o e; omega⟩⟩
  clear hown hgrow hat gT ty I0 J0 I1 J1 I2 J2 l0 m0 l1 m1 l2 m2
  go_wp2
  go_ret
  exact ⟨g, cpg, rfl, bb, _, jj⟩

set_option maxHeartbeats 6400000 in
theorem iadding_any (y : Way) (p : Nat) (hp : p < 3) (X : Frm) (ga : Option Addr) (ng gc : Nat) (pa : Option Addr) (cp : Nat) (ta : Option Addr) (nt tc : Nat) (st : Bool) (fa : Option Addr) (fc : Nat) (fd : Option Addr) (fe : Nat) (w : World) (hl : y.pots.length = 3) (hP : FormsAt w pa y.pots) (hX1 : Ints w fa 3 X.1) (hX2 : Ints w fd 2 X.2.1) (h1 : fitX 10000000 (y.pots[p]?.getD noX)) (h2 : fitX 10000000 X) (h3 : fitX 10000000 (plusX (y.pots[p]?.getD noX) X)) :
    Calls Try.prog 139 #[wayV ga ng gc pa cp ta nt tc st, .int .i64 (p : Int), formV fa 3 fc fd 2 fe X.2.2] w fun e w' => ∃ G cG, e = .returned (wayV ga ng gc (some ⟨G, 0, none⟩) cG ta nt tc st) ∧ Below w.heap.size w w' ∧ FormsAt w' (some ⟨G, 0, none⟩) (y.add p X).pots := by
  have HL : Hid (y.pots.length = 3) := hl
  have H1 : Hid _ := h1
  have H2 : Hid _ := h2
  have H3 : Hid _ := h3
  clear hl h1 h2 h3
  obtain ⟨W0, hW0⟩ : ∃ W0, W0 = ((w.alloc (.cells #[.slice ga ng gc, .slice pa 3 cp, .slice ta nt tc, .bool st] 143)).alloc (.cells #[.slice fa 3 fc, .slice fd 2 fe, .int .i64 X.2.2] 34)).alloc (.cells #[.slice none 0 0, .slice none 0 0, .slice none 0 0, .bool false] 143) := ⟨_, rfl⟩
  have q0 := ((Cel.new w [.slice ga ng gc, .slice pa 3 cp, .slice ta nt tc, .bool st] 143).alloc (.cells #[.slice fa 3 fc, .slice fd 2 fe, .int .i64 X.2.2] 34)).alloc (.cells #[.slice none 0 0, .slice none 0 0, .slice none 0 0, .bool false] 143)
  have f0 := (Cel.new (w.alloc (.cells #[.slice ga ng gc, .slice pa 3 cp, .slice ta nt tc, .bool st] 143)) [.slice fa 3 fc, .slice fd 2 fe, .int .i64 X.2.2] 34).alloc (.cells #[.slice none 0 0, .slice none 0 0, .slice none 0 0, .bool false] 143)
  have r0 := Cel.new ((w.alloc (.cells #[.slice ga ng gc, .slice pa 3 cp, .slice ta nt tc, .bool st] 143)).alloc (.cells #[.slice fa 3 fc, .slice fd 2 fe, .int .i64 X.2.2] 34)) [.slice none 0 0, .slice none 0 0, .slice none 0 0, .bool false] 143
  rw [World.size_alloc] at f0
  rw [World.size_alloc, World.size_alloc] at r0
  have B0 : Below w.heap.size w W0 := by rw [hW0]; exact (((Below.refl _ _).alloc (Nat.le_refl _) _).alloc (by simp) _).alloc (by simp; omega) _
  rw [← hW0] at q0 f0 r0
  go_enter Try.func139, Try.ntmps139
  go_upto_region 1 with fail
  rw [← hW0]
  clear hW0
  obtain ⟨c0, c1, c2, c3⟩ := q0.four
  have z0 := q0.lt
  have z1 := f0.lt
  have z2 := r0.lt
  go_wp2_with fail
  refine (iclone3_any _ _ y.pots _ HL.out (hP.keep B0)).mono ?_
  rintro e w1 ⟨G, cG, xs, rfl, b1, jG⟩
  have lG := jG.lt
  have q1 := q0.below b1
  have f1 := f0.below b1
  have r1 := r0.below b1
  have B1 := B0.trans (b1.mono B0.size)
  have sz1 := b1.size
  have x1 := hX1.below B1
  have x2 := hX2.below B1
  clear q0 f0 r0 c0 c1 c2 c3 b1
  obtain ⟨c0, c1, c2, c3⟩ := q1.four
  have y1 := q1.free 1
  have T1 : Touch (fun k => k = w.heap.size) w1 (w1.setCell ⟨w.heap.size, 1, none⟩ (.slice (some ⟨G, 0, none⟩) 3 cG)) := Touch.setCell (S := fun k => k = w.heap.size) (Touch.refl _ _) rfl _
  have q2 := q1.set 1 (.slice (some ⟨G, 0, none⟩) 3 cG)
  simp only [List.set_cons_zero, List.set_cons_succ] at q2
  have f2 := f1.touch T1 (fun h => by have := h; omega)
  have r2 := r1.touch T1 (fun h => by have := h; omega)
  have B2 := B1.trans (T1.below B1.size (fun k hk => by omega))
  have j2 := jG.past (by omega) (boxNo q1) T1
  have u1 := x1.past (boxNo q1) T1
  have u2 := x2.past (boxNo q1) T1
  have s2 : w1.heap.size ≤ (w1.setCell ⟨w.heap.size, 1, none⟩ (.slice (some ⟨G, 0, none⟩) 3 cG)).heap.size := T1.size
  go_upto_region 2 with fail
  clear q1 f1 r1 jG x1 x2 T1 B1 c0 c1 c2 c3 y1
  generalize (w1.setCell ⟨w.heap.size, 1, none⟩ (.slice (some ⟨G, 0, none⟩) 3 cG)) = w2 at *
  obtain ⟨pa', pc', pca, pcc, d0, d1, d2, iC, iD, nC, nD⟩ := j2.t p hp
  obtain ⟨PX, hPX⟩ : ∃ PX, PX = y.pots[p]?.getD ([], [], 0) := ⟨_, rfl⟩
  have HPX : Hid (y.pots[p]?.getD noX = PX) := hPX.symm
  rw [← hPX] at d2 iC iD
  clear hPX
  have g0 : w2.cell? ⟨G, p * 3, none⟩ = some (.slice pa' 3 pca) := (own_cell j2.o _ (by omega)).trans d0
  have g1 : w2.cell? ⟨G, p * 3 + 1, none⟩ = some (.slice pc' 2 pcc) := (own_cell j2.o _ (by omega)).trans d1
  have g2 : w2.cell? ⟨G, p * 3 + 2, none⟩ = some (.int .i64 PX.2.2) := (own_cell j2.o _ (by omega)).trans d2
  have lG2 := j2.lt
  obtain ⟨-, m1, -, -⟩ := q2.four
  obtain ⟨n0, n1, n2, -, -, -⟩ := f2.trio
  have hSS : (w2.drew.cell? ⟨w.heap.size, 1, none⟩ = some (.slice (some ⟨G, 0, none⟩) 3 cG) ∧ w2.drew.cell? ⟨w.heap.size + 1, 0, none⟩ = some (.slice fa 3 fc) ∧ w2.drew.cell? ⟨w.heap.size + 1, 1, none⟩ = some (.slice fd 2 fe) ∧ w2.drew.cell? ⟨w.heap.size + 1, 2, none⟩ = some (.int .i64 X.2.2)) ∧ (w2.drew.cell? ⟨G, p * 3, none⟩ = some (.slice pa' 3 pca) ∧ w2.drew.cell? ⟨G, p * 3 + 1, none⟩ = some (.slice pc' 2 pcc) ∧ w2.drew.cell? ⟨G, p * 3 + 2, none⟩ = some (.int .i64 PX.2.2)) := ⟨⟨m1, n0, n1, n2⟩, g0, g1, g2⟩
  have hpI : (p : Int) < 3 := by omega
  refine wp_region_ends (fun w' => w'.cell? ⟨w.heap.size, 1, none⟩ = some (.slice (some ⟨G, 0, none⟩) 3 cG) ∧ w'.cell? ⟨w.heap.size + 1, 0, none⟩ = some (.slice fa 3 fc) ∧ w'.cell? ⟨w.heap.size + 1, 1, none⟩ = some (.slice fd 2 fe) ∧ w'.cell? ⟨w.heap.size + 1, 2, none⟩ = some (.int .i64 X.2.2)) (fun w' => w'.cell? ⟨G, p * 3, none⟩ = some (.slice pa' 3 pca) ∧ w'.cell? ⟨G, p * 3 + 1, none⟩ = some (.slice pc' 2 pcc) ∧ w'.cell? ⟨G, p * 3 + 2, none⟩ = some (.int .i64 PX.2.2)) 10 (by kernel_rfl) ?_
  refine wpAnyE_take0 (i := 0) (v := ?v0) rfl (by kernel_rfl) (by kernel_rfl) (by kernel_rfl) (by decide) (fun _ _ _ h => h) (Or.inl ⟨by rfl, ?hy0⟩) hSS ?_
  case hy0 => (intro wz hSw; (try dsimp only at hSw); go_simp; try (with_reducible rfl))
  refine wpAnyE_take0 (i := 1) (v := ?v1) rfl (by kernel_rfl) (by kernel_rfl) (by kernel_rfl) (by decide) (fun _ _ _ h => h) (Or.inl ⟨by rfl, ?hy1⟩) hSS ?_
  case hy1 => (intro wz hSw; (try dsimp only at hSw); go_simp; try (with_reducible rfl))
  refine wpAnyE_take0 (i := 2) (v := ?v2) rfl (by kernel_rfl) (by kernel_rfl) (by kernel_rfl) (by decide) (fun _ _ _ h => h) (Or.inl ⟨by rfl, ?hy2⟩) hSS ?_
  case hy2 => (intro wz hSw; (try dsimp only at hSw); go_simp; try (with_reducible rfl))
  refine wpAnyE_take0 (i := 3) (v := ?v3) rfl (by kernel_rfl) (by kernel_rfl) (by kernel_rfl) (by decide) (fun _ _ _ h => h) (Or.inl ⟨by rfl, ?hy3⟩) hSS ?_
  case hy3 => (intro wz hSw; (try dsimp only at hSw); go_simp; try (with_reducible rfl))
  refine wpAnyE_take0 (i := 4) (v := ?v4) rfl (by kernel_rfl) (by kernel_rfl) (by kernel_rfl) (by decide) (fun _ _ _ h => h) (Or.inl ⟨by rfl, ?hy4⟩) hSS ?_
  case hy4 => (intro wz hSw; (try dsimp only at hSw); go_simp; try (with_reducible rfl))
  refine wpAnyE_take0 (i := 5) (v := ?v5) rfl (by kernel_rfl) (by kernel_rfl) (by kernel_rfl) (by decide) (fun _ _ _ h => h) (Or.inl ⟨by rfl, ?hy5⟩) hSS ?_
  case hy5 => (intro wz hSw; (try dsimp only at hSw); go_simp; try (with_reducible rfl))
  refine wpAnyE_take0 (i := 6) (v := ?v6) rfl (by kernel_rfl) (by kernel_rfl) (by kernel_rfl) (by decide) (fun _ _ _ h => h) (Or.inl ⟨by rfl, ?hy6⟩) hSS ?_
  case hy6 => (intro wz hSw; (try dsimp only at hSw); go_simp; try (with_reducible rfl))
  refine wpAnyE_take1 (i := 7) (v := ?v7) rfl rfl (by kernel_rfl) (by kernel_rfl) (by kernel_rfl) (by decide) (by rfl) (by simp [Region.binds]) (fun _ _ _ h => h) (Or.inl ⟨by rfl, ?hy7⟩) hSS ?_
  case hy7 => (intro wz hSw; (try dsimp only at hSw); go_simp; try (with_reducible rfl))
  refine wpAnyE_take0 (i := 8) (v := ?v8) rfl (by kernel_rfl) (by kernel_rfl) (by kernel_rfl) (by decide) (fun _ _ _ h => h) (Or.inl ⟨by rfl, ?hy8⟩) hSS ?_
  case hy8 => (intro wz hSw; (try dsimp only at hSw); go_simp; try (with_reducible rfl))
  refine wpAnyE_one (i := 9) (by kernel_rfl) rfl (fun K hK => ?_)
  go_simp
  refine (iaddX_any _ _ _ _ PX _ _ _ _ X _ (iC.below (Below.refl _ _).drew) (iD.below (Below.refl _ _).drew) (u1.below (Below.refl _ _).drew) (u2.below (Below.refl _ _).drew) (by rw [← HPX.out]; exact H1.out) H2.out (by rw [← HPX.out]; exact H3.out)).mono ?_
  rintro ee w3 ⟨E1, E2, k1', k2', rfl, bd, y1, y2, y3, v1, v2⟩
  have b3 := below_of_drew bd
  have y1x : w2.heap.size ≤ E1 := y1
  have y3x : w2.heap.size ≤ E2 := y3
  have j3 := j2.below b3
  have q3 := q2.below b3
  have f3 := f2.below b3
  have r3 := r2.below b3
  have s3 := b3.size
  obtain ⟨-, m1', -, -⟩ := q3.four
  obtain ⟨n0', n1', n2', -, -, -⟩ := f3.trio
  have hS3 : (w3.cell? ⟨w.heap.size, 1, none⟩ = some (.slice (some ⟨G, 0, none⟩) 3 cG) ∧ w3.cell? ⟨w.heap.size + 1, 0, none⟩ = some (.slice fa 3 fc) ∧ w3.cell? ⟨w.heap.size + 1, 1, none⟩ = some (.slice fd 2 fe) ∧ w3.cell? ⟨w.heap.size + 1, 2, none⟩ = some (.int .i64 X.2.2)) ∧ (w3.cell? ⟨G, p * 3, none⟩ = some (.slice pa' 3 pca) ∧ w3.cell? ⟨G, p * 3 + 1, none⟩ = some (.slice pc' 2 pcc) ∧ w3.cell? ⟨G, p * 3 + 2, none⟩ = some (.int .i64 PX.2.2)) := ⟨⟨m1', n0', n1', n2'⟩, (b3.cell (p := ⟨G, p * 3, none⟩) lG2.2).trans g0, (b3.cell (p := ⟨G, p * 3 + 1, none⟩) lG2.2).trans g1, (b3.cell (p := ⟨G, p * 3 + 2, none⟩) lG2.2).trans g2⟩
  (try dsimp only)
  refine hK.out _ _ ⟨hS3.1, fun _ => hS3.2⟩ ?_
  clear hK K hSS
  refine wpAnyE_one (i := 10) (by kernel_rfl) rfl (fun K hK => ?_)
  go_simp
  refine hK.out _ _ ⟨hS3.1, fun h => absurd (show true = false from h) (by decide)⟩ ?_
  clear hK K
  have FPN := j3.put HL.out hp (ca := k1') (cc := k2') (K := (plusX PX X).2.2) v1 (by rw [← HPX.out]; exact H3.out.c) v2 (by rw [← HPX.out]; exact H3.out.d) (by omega) (by omega)
  have fz0 := j3.frz (p * 3)
  have fz1 := j3.frz (p * 3 + 1)
  have fz2 := j3.frz (p * 3 + 2)
  obtain ⟨h0', h1', h2'⟩ := hS3.2
  have TT : Touch (fun q => q = G) w3 (((w3.setCell ⟨G, p * 3, none⟩ (.slice (some ⟨E1, 0, none⟩) 3 k1')).setCell ⟨G, p * 3 + 1, none⟩ (.slice (some ⟨E2, 0, none⟩) 2 k2')).setCell ⟨G, p * 3 + 2, none⟩ (.int .i64 (plusX PX X).2.2)) := (((Touch.refl (fun q => q = G) w3).setCell rfl _).setCell rfl _).setCell rfl _
  have q4 := q3.touch TT (fun h => by have := h; omega)
  have f4 := f3.touch TT (fun h => by have := h; omega)
  have r4 := r3.touch TT (fun h => by have := h; omega)
  have B4 := (B2.trans (b3.mono B2.size)).trans (TT.below (by have := B2.size; omega) (fun q hq => by omega))
  obtain ⟨o0, o1, o2, o3⟩ := q4.four
  obtain ⟨t0, t1, t2, -, -, -⟩ := f4.trio
  have sTT := TT.size
  refine wpAnyE_one (i := 11) (by kernel_rfl) rfl (fun K hK => ?_)
  go_simp
  refine hK.out _ _ ⟨⟨o1, t0, t1, t2⟩, fun h => absurd (show true = false from h) (by decide)⟩ ?_
  clear hK K
  refine wpAnyE_done (by kernel_rfl) ?_ _
  have eAdd : (y.add p X).pots = y.pots.set p ((plusX PX X).1, (plusX PX X).2.1, (plusX PX X).2.2) := by
    show y.pots.set p (plusX (y.pots[p]?.getD noX) X) = _
    rw [HPX.out]
  rw [← eAdd] at FPN
  clear hS3 h0' h1' h2' fz0 fz1 fz2 TT eAdd f4 f3 f2 q3 q2 r3 r2 j3 j2 B2 b3 bd v1 v2 u1 u2 iC iD g0 g1 g2 d0 d1 d2
  generalize (((w3.setCell ⟨G, p * 3, none⟩ (.slice (some ⟨E1, 0, none⟩) 3 k1')).setCell ⟨G, p * 3 + 1, none⟩ (.slice (some ⟨E2, 0, none⟩) 2 k2')).setCell ⟨G, p * 3 + 2, none⟩ (.int .i64 (plusX PX X).2.2)) = V at *
  obtain ⟨l0, l1, l2, l3⟩ := r4.four
  have fy0 := r4.free 0
  have fy1 := r4.free 1
  have fy2 := r4.free 2
  have fy3 := r4.free 3
  obtain ⟨x', T'⟩ := put4 r4 rfl (.slice ga ng gc) (.slice (some ⟨G, 0, none⟩) 3 cG) (.slice ta nt tc) (.bool st)
  have FP2 := FPN.past (boxNil r4) T'
  have B5 := B4.trans (T'.below B4.size (fun k hk => by omega))
  obtain ⟨e0, e1, e2, e3⟩ := x'.four
  have lr := r4.lt
  clear FPN r4 T' x'
  go_wp2
  refine bodyPost_ret (v := wayV ga ng gc (some ⟨G, 0, none⟩) cG ta nt tc st) (by simp [results, Try.results139, go_sem, e0, e1, e2, e3]) rfl ?_
  exact ⟨G, cG, rfl, B5, FP2⟩

end Go.Proofs.Ytjggppnffkcmbaa
namespace Go.Proofs.Ytjggppnffkcmbaa
open Go.RowKit Go.Deep
set_option linter.unusedVariables false
set_option maxRecDepth 100000

theorem next_nil {n : Nat} (h : 0 < n) : Builtin.nextslicecap n 0 = n := by
  simp [Builtin.nextslicecap, h]
/-- append(nil, make([]T, n)...). -/
theorem run_append_made {P : Program} (w : World) (t tx ty e : TypeId) (i : TypeInfo) (z : Value) (ht : P.underlying t = some (.slice e)) (htx : P.underlying tx = some (.int .i64)) (hi : P.info? e = some i) (hz : i.zero = some z) (n : Nat) (h0 : 0 < n) (hs : 0 < i.size) (hn : n ≤ 1000) (hb : i.bytes ≤ 1000) :
    (Builtin.append_ #[t, tx] ty #[.slice none 0 0, .int .i64 (n : Int)]).run P w = .ok (.slice (some ⟨w.heap.size, 0, none⟩) n (grownCap w n 0 e)) (w.drew.alloc (.cells (Builtin.zeroCells z.cells n ++ Builtin.zeroCells z.cells (grownCap w n 0 e - n)) e)) := by
  have hw : IntKind.i64.wrap (n : Int) = n := wrap_id (by omega) (by omega)
  have h1 : ¬ ((n : Int) < 0) := by omega
  have hnb : n * i.bytes ≤ 1000 * 1000 := Nat.mul_le_mul hn hb
  have h2 : ¬ (281474976710656 < (n : Int) * (i.bytes : Int)) := by
    have : ((n * i.bytes : Nat) : Int) = (n : Int) * (i.bytes : Int) := by simp
    omega
  have h3 : ¬ (n * i.size = 0) := by
    have := Nat.mul_pos h0 hs
    omega
  have h4 : ¬ (n = 0) := by omega
  have h5 : ¬ (281474976710656 < n * i.bytes) := by omega
  have h6 : ¬ (9223372036854775807 < (n : Int)) := by omega
  have hold : (Builtin.firstCells i.size 0 (.slice none 0 0)).run P w.drew = .ok #[] w.drew := run_firstCells_none w.drew i.size 0 0 0
  simp [Builtin.append_, asInt, asIntOf, run_underlying ht, run_underlying htx, sizeOf, typeInfo, zeroValue, hi, hz, hw, h1, h2, h3, h4, h5, h6, next_nil h0, Question.forced, hold, newRow, grownCap]

theorem wpList_append_made {P : Program} {ops : Array Oper} {rest : List Oper} {o : Oper} {a : Act} {w : World} {Q : Exit → Act → World → Prop} (hgd : o.guard = none) (s x : Operand) (t tx : TypeId) (ho : o.op = .call { callee := .builtin .append, args := #[s, x], argTypes := #[t, tx] }) (v xv r : Value) (w' : World) (hs : a.eval s = v) (hx : a.eval x = xv) (hr : (Builtin.append_ #[t, tx] o.type #[v, xv]).run P w = .ok r w') (h : wpList P ops Q rest (a.put o.dst r) w') : wpList P ops Q (o :: rest) a w := by
  refine wpList_plain hgd fun K hK => ?_
  unfold Oper.wp execOp
  simp only [ho, resolve, invoke, builtin, Sem.run_bind, Sem.run_pure, Result.andThen_ok, List.map_toArray, List.map_cons, List.map_nil, hs, hx, hr]
  exact hK _ _ h
theorem zero_size (z : Array Value) (n : Nat) : (Builtin.zeroCells z n).size = n * z.size := by simp [Builtin.zeroCells]

set_option maxHeartbeats 1600000 in
theorem igrow_any (n : Nat) (h0 : 0 < n) (hn : n ≤ 1000) (w : World) :
    Calls Try.prog 149 #[.slice none 0 0, .int .i64 (n : Int)] w fun e w' => ∃ G cap, e = .returned (.slice (some ⟨G, 0, none⟩) 0 cap) ∧ Below w.heap.size w w' ∧ w'.ownsRow w.heap.size 34 3 (.slice (some ⟨G, 0, none⟩) 0 cap) 0 [] ∧ n ≤ cap := by
  obtain ⟨zi, hi, hz0, hz1, hz2⟩ := info_parts Try.infoForm
  have hap : ∀ (ty : TypeId) (w : World), (Builtin.append_ #[23, 3] ty #[.slice none 0 0, .int .i64 (n : Int)]).run Try.prog w = .ok (.slice (some ⟨w.heap.size, 0, none⟩) n (grownCap w n 0 34)) (w.drew.alloc (.cells (Builtin.zeroCells (Value.agg #[.slice none 0 0, .slice none 0 0, .int .i64 0]).cells n ++ Builtin.zeroCells (Value.agg #[.slice none 0 0, .slice none 0 0, .int .i64 0]).cells (grownCap w n 0 34 - n)) 34)) := fun ty w => run_append_made w _ _ ty _ zi _ Try.underlying23 (by kernel_rfl) hi hz0 n h0 (by rw [hz1]; omega) hn (by rw [hz2]; omega)
  have hpos : ¬ ((n : Int) < 0) := by omega
  have hpos2 : (0 : Int) < n := by omega
  have hge := grownCap_ge w n 0 34
  have hle := grownCap_le_maxLen w n 0 34 (by unfold maxLen; omega)
  go_enter Try.func149, Try.ntmps149
  go_wp2_with (at_builtin; go_must (refine wpList_append_made rfl (.tmp 20) (.tmp 21) 23 3 rfl _ _ _ _ rfl rfl (hap _ _) ?_))
  have B : Below w.heap.size w (w.drew.alloc (.cells (Builtin.zeroCells (Value.agg #[.slice none 0 0, .slice none 0 0, .int .i64 0]).cells n ++ Builtin.zeroCells (Value.agg #[.slice none 0 0, .slice none 0 0, .int .i64 0]).cells (grownCap w n 0 34 - n)) 34)) := ((Below.refl w.heap.size w).drew).alloc (Nat.le_refl _) _
  have O : (w.drew.alloc (.cells (Builtin.zeroCells (Value.agg #[.slice none 0 0, .slice none 0 0, .int .i64 0]).cells n ++ Builtin.zeroCells (Value.agg #[.slice none 0 0, .slice none 0 0, .int .i64 0]).cells (grownCap w n 0 34 - n)) 34)).ownsRow w.heap.size 34 3 (.slice (some ⟨w.heap.size, 0, none⟩) 0 (grownCap w n 0 34)) 0 [] := by
    refine ⟨rfl, .inr ⟨w.heap.size, _, _, rfl, Nat.le_refl _, heap_alloc_new w.drew _, Nat.zero_le _, hle, ?_, rfl⟩⟩
    rw [Array.size_append, zero_size, zero_size]
    show n * 3 + (grownCap w n 0 34 - n) * 3 = _
    omega
  go_wp2
  go_ret
  exact ⟨_, _, rfl, B, O, hge⟩

end Go.Proofs.Ytjggppnffkcmbaa
namespace Go.Proofs.Ytjggppnffkcmbaa
open Go.RowKit Go.Deep
set_option linter.unusedVariables false
set_option maxRecDepth 100000

/-- The cells of forms that can be read. -/
theorem FormsAt.cells {w : World} {b off : Nat} {fs : List Frm} (h : FormsAt w (some ⟨b, off, none⟩) fs) : ∀ k, k ≤ fs.length → ∃ xs : List Value, xs.length = k * 3 ∧ (∀ j u, xs[j]? = some u → w.cell? ⟨b, off + j, none⟩ = some u) ∧ (∀ u ∈ xs, u.oneCell' = true) ∧ (∀ G, w.heap.size ≤ G → TermsOk w G xs fs k) := by
  intro k
  induction k with
  | zero => intro _; exact ⟨[], rfl, fun j u hu => by simp at hu, fun u hu => by simp at hu, fun G _ j hj => by omega⟩
  | succ k ih =>
    intro hk
    obtain ⟨xs, h1, h2, h3, h4⟩ := ih (by omega)
    obtain ⟨b', off', e, a', c', ca, cc, c0, c1, c2, iC, iD⟩ := h k (by omega)
    simp only [Option.some.injEq, Addr.mk.injEq, and_true] at e
    obtain ⟨rfl, rfl⟩ := e
    refine ⟨xs ++ [.slice a' 3 ca, .slice c' 2 cc, .int .i64 (fs[k]?.getD ([], [], 0)).2.2], by rw [List.length_append, h1]; simp; omega, fun j u hu => ?_, fun u hu => ?_, fun G hG j hj => ?_⟩
    · by_cases hj : j < xs.length
      · rw [List.getElem?_append_left hj] at hu; exact h2 j u hu
      · rw [List.getElem?_append_right (by omega), h1] at hu
        obtain ⟨r, rfl⟩ : ∃ r, j = k * 3 + r := ⟨j - k * 3, by omega⟩
        rw [show k * 3 + r - k * 3 = r by omega] at hu
        match r with
        | 0 => simp only [List.getElem?_cons_zero, Option.some.injEq] at hu; subst hu; exact c0
        | 1 => simp only [List.getElem?_cons_zero, List.getElem?_cons_succ, Option.some.injEq] at hu; subst hu; exact c1
        | 2 => simp only [List.getElem?_cons_zero, List.getElem?_cons_succ, Option.some.injEq] at hu; subst hu; exact c2
        | r + 3 => simp at hu
    · rcases List.mem_append.1 hu with hu | hu
      · exact h3 u hu
      · simp only [List.mem_cons, List.not_mem_nil, or_false] at hu
        rcases hu with rfl | rfl | rfl <;> rfl
    · by_cases hjk : j < k
      · obtain ⟨a2, c2', x, y, e0, e1, e2, i1, i2, n1, n2⟩ := h4 G hG j hjk
        exact ⟨a2, c2', x, y, by rw [List.getElem?_append_left (by omega)]; exact e0, by rw [List.getElem?_append_left (by omega)]; exact e1, by rw [List.getElem?_append_left (by omega)]; exact e2, i1, i2, n1, n2⟩
      · obtain rfl : j = k := by omega
        refine ⟨a', c', ca, cc, ?_, ?_, ?_, iC, iD, fun b o e => by have := iC.blt (by omega) b o e; omega, fun b o e => by have := iD.blt (by omega) b o e; omega⟩
        · rw [List.getElem?_append_right (by omega), h1, Nat.sub_self]; rfl
        · rw [List.getElem?_append_right (by omega), h1, show j * 3 + 1 - j * 3 = 1 by omega]; rfl
        · rw [List.getElem?_append_right (by omega), h1, show j * 3 + 2 - j * 3 = 2 by omega]; rfl
theorem TermsOk.move {W W' : World} {G g : Nat} {xs : List Value} {T : List Frm} {n : Nat} (h : TermsOk W G xs T n) (t : Touch (fun x => x = G) W W') (hg : g = G ∨ W.heap.size ≤ g) : TermsOk W' g xs T n := fun j hj => by
  obtain ⟨a', c', ca, cc, e0, e1, e2, i1, i2, n1, n2⟩ := h j hj
  refine ⟨a', c', ca, cc, e0, e1, e2, i1.by t n1, i2.by t n2, fun b o e => ?_, fun b o e => ?_⟩
  · have := n1 b o e
    have := i1.blt (by omega) b o e
    omega
  · have := n2 b o e
    have := i2.blt (by omega) b o e
    omega
theorem TermsOk.join {W : World} {G : Nat} {xs ys : List Value} {T U : List Frm} {n m : Nat} (h : TermsOk W G xs T n) (h' : TermsOk W G ys U m) (hx : xs.length = n * 3) (hT : T.length = n) : TermsOk W G (xs ++ ys) (T ++ U) (n + m) := fun j hj => by
  by_cases hjn : j < n
  · obtain ⟨a', c', ca, cc, e0, e1, e2, r⟩ := h j hjn
    refine ⟨a', c', ca, cc, by rw [List.getElem?_append_left (by omega)]; exact e0, by rw [List.getElem?_append_left (by omega)]; exact e1, ?_, ?_⟩
    · rw [List.getElem?_append_left (by omega), List.getElem?_append_left (l₁ := T) (by omega)]; exact e2
    · rw [List.getElem?_append_left (l₁ := T) (by omega)]; exact r
  · obtain ⟨a', c', ca, cc, e0, e1, e2, r⟩ := h' (j - n) (by omega)
    refine ⟨a', c', ca, cc, ?_, ?_, ?_, ?_⟩
    · rw [List.getElem?_append_right (by omega), hx, show j * 3 - n * 3 = (j - n) * 3 by omega]; exact e0
    · rw [List.getElem?_append_right (by omega), hx, show j * 3 + 1 - n * 3 = (j - n) * 3 + 1 by omega]; exact e1
    · rw [List.getElem?_append_right (by omega), hx, show j * 3 + 2 - n * 3 = (j - n) * 3 + 2 by omega, List.getElem?_append_right (l₁ := T) (by omega), hT]; exact e2
    · rw [List.getElem?_append_right (l₁ := T) (by omega), hT]; exact r
theorem grown_touch {W W' : World} {G : Nat} (h : W.grownBy W' (some G)) : Touch (fun x => x = G) W W' := ⟨h.os, h.tape, h.output, h.size, fun z hz hn => h.block z hz (fun e => hn (by simpa using e))⟩

theorem igrow_at (x : Int) (n : Nat) (hx : x = (n : Int)) (h0 : 0 < n) (hn : n ≤ 1000) (w : World) :
    Calls Try.prog 149 #[.slice none 0 0, .int .i64 x] w fun e w' => ∃ G cap, e = .returned (.slice (some ⟨G, 0, none⟩) 0 cap) ∧ Below w.heap.size w w' ∧ w'.ownsRow w.heap.size 34 3 (.slice (some ⟨G, 0, none⟩) 0 cap) 0 [] ∧ n ≤ cap := by
  subst hx
  exact igrow_any n h0 hn w
theorem own_lo {W : World} {base g cap n : Nat} {xs : List Value} (h : W.ownsRow base 34 3 (.slice (some ⟨g, 0, none⟩) n cap) n xs) : base ≤ g ∧ g < W.heap.size ∧ n ≤ cap := by
  rcases h.2 with ⟨h', _⟩ | ⟨g', cap', cur, h', hb, hh, hc, _⟩
  · cases h'
  · simp only [Value.slice.injEq, Option.some.injEq, Addr.mk.injEq, and_true, true_and] at h'
    obtain ⟨rfl, rfl⟩ := h'
    exact ⟨hb, lt_of_block hh, hc⟩

set_option maxHeartbeats 3200000 in
theorem iconcat_any (Q : Nat) (ga : Option Addr) (ng gc : Nat) (fs : List Frm) (F fcap : Nat) (X : Frm) (w : World) (hQ : Cel w Q [.slice ga ng gc, .slice (some ⟨F, 0, none⟩) 1 fcap] 23) (hn : fs.length = ng) (hng : ng ≤ 100) (hG : FormsAt w ga fs) (hX : FormsAt w (some ⟨F, 0, none⟩) [X]) :
    Calls Try.prog 147 #[.slice (some ⟨Q, 0, none⟩) 2 2] w fun e w' => ∃ G cap, e = .returned (.slice (some ⟨G, 0, none⟩) (ng + 1) cap) ∧ Below w.heap.size w w' ∧ FormsAt w' (some ⟨G, 0, none⟩) (fs ++ [X]) := by
  have HN : Hid (fs.length = ng) := hn
  have HG : Hid (FormsAt w ga fs) := hG
  have HX : Hid (FormsAt w (some ⟨F, 0, none⟩) [X]) := hX
  have HQ : Hid (Cel w Q [.slice ga ng gc, .slice (some ⟨F, 0, none⟩) 1 fcap] 23) := hQ
  clear hn hG hX hQ
  obtain ⟨zi, hi, hz0, hz1, hz2⟩ := info_parts Try.infoForm
  go_enter Try.func147, Try.ntmps147
  go_wp2_with fail
  go_loopw [3, 5, 11] (fun s _ i wr => ∃ k : Nat, k ≤ 2 ∧ i = .int .i64 k ∧ (∃ x : Int, s = .int .i64 x ∧ ((k = 0 ∧ x = 0) ∨ (k = 1 ∧ x = ng) ∨ (k = 2 ∧ x = ng + 1))) ∧ wr = w) (fun _ _ i _ => 2 - (intOf i).toNat)
  case atStart => exact ⟨0, by omega, rfl, ⟨0, rfl, .inl ⟨rfl, rfl⟩⟩, rfl⟩
  case round =>
    obtain ⟨k, hk, rfl, ⟨x, rfl, hx⟩, hwr⟩ := hrel
    have hwr' : w = wr := hwr.symm
    subst hwr'
    have c0 : w.cell? ⟨Q, 0, none⟩ = some (.slice ga ng gc) := HQ.out.cell 0
    have c1 : w.cell? ⟨Q, 1, none⟩ = some (.slice (some ⟨F, 0, none⟩) 1 fcap) := HQ.out.cell 1
    rcases hx with ⟨rfl, rfl⟩ | ⟨rfl, rfl⟩ | ⟨rfl, rfl⟩
    · have p1 : ¬ ((ng : Int) < 0) := by omega
      go_wp2
      go_roundw
      case rel => exact ⟨1, by omega, rfl, ⟨_, rfl, .inr (.inl ⟨rfl, rfl⟩)⟩, trivial⟩
      case measure => simp [intOf]
    · have p1 : ¬ ((ng : Int) + 1 < 0) := by omega
      go_wp2
      go_roundw
      case rel => exact ⟨2, by omega, rfl, ⟨_, rfl, .inr (.inr ⟨rfl, rfl⟩)⟩, trivial⟩
      case measure => simp [intOf]
    · go_wp2_with fail
      refine (igrow_at _ (ng + 1) (by omega) (by omega) (by omega) _).mono ?_
      rintro e w1 ⟨G, cap, rfl, b1, o1, hcap⟩
      clear c0 c1
      go_wp2_with fail
      go_loopw [6, 8, 27] (fun r _ i w2 => ∃ (k n g cp : Nat) (xs : List Value) (T : List Frm), k ≤ 2 ∧ i = .int .i64 k ∧ r = .slice (some ⟨g, 0, none⟩) n cp ∧ T.length = n ∧ ((k = 0 ∧ n = 0 ∧ T = []) ∨ (k = 1 ∧ n = ng ∧ T = fs) ∨ (k = 2 ∧ n = ng + 1 ∧ T = fs ++ [X])) ∧ Below w.heap.size w w2 ∧ w2.ownsRow w.heap.size 34 3 (.slice (some ⟨g, 0, none⟩) n cp) n xs ∧ TermsOk w2 g xs T n) (fun _ _ i _ => 2 - (intOf i).toNat)
      case atStart => exact ⟨0, 0, G, cap, [], [], by omega, rfl, rfl, rfl, .inl ⟨rfl, rfl, rfl⟩, b1, o1, fun j hj => by omega⟩
      case round =>
        clear b1 o1 hcap
        obtain ⟨k, n, g, cp, xs, T, hk, rfl, rfl, hT, hx, hb, ho, ht⟩ := hrel
        have HT : Hid (T.length = n) := hT
        have HTT : Hid (TermsOk wr g xs T n) := ht
        have q := HQ.out.below hb
        have c0 : wr.cell? ⟨Q, 0, none⟩ = some (.slice ga ng gc) := q.cell 0
        have c1 : wr.cell? ⟨Q, 1, none⟩ = some (.slice (some ⟨F, 0, none⟩) 1 fcap) := q.cell 1
        obtain ⟨lo1, lo2, lo3⟩ := own_lo ho
        have sz := hb.size
        clear hT ht q
        rcases hx with ⟨rfl, rfl, rfl⟩ | ⟨rfl, rfl, rfl⟩ | ⟨rfl, rfl, rfl⟩
        · rcases Nat.eq_zero_or_pos ng with h0 | h0
          · have HNG : Hid (ng = 0) := h0
            clear h0
            have hs : ∀ w : World, Src Try.prog zi.size 23 (.slice ga ng gc) 0 [] w := fun w => by
              rw [HNG.out]
              cases ga with
              | none => exact Src.ofNil w Try.underlying23 gc
              | some a => exact Src.ofSlice w Try.underlying23 a 0 gc [] (by simp) (fun j u hu => by simp at hu) (fun u hu => by simp at hu)
            go_wp2_with (at_builtin; go_must (refine wpList_append_made rfl (.tmp 31) (.tmp 32) 23 23 rfl _ _ _ _ rfl rfl (run_append_nothing _ _ _ _ _ zi Try.underlying23 hi _ _ _ lo3 _ (hs _)) ?_))
            (try go_wp2)
            go_roundw
            case rel => exact ⟨1, 0, g, cp, xs, fs, by omega, rfl, rfl, HN.out.trans HNG.out, .inr (.inl ⟨rfl, HNG.out.symm, rfl⟩), hb, ho, fun j hj => by omega⟩
            case measure => simp [intOf]
          · obtain ⟨gb, go', rfl, -⟩ := HG.out 0 (by rw [HN.out]; exact h0)
            obtain ⟨ys, y1, y2, y3, y4⟩ := (HG.out.keep hb).cells ng (by rw [HN.out]; exact Nat.le_refl _)
            have HY2 : Hid (∀ j u, ys[j]? = some u → wr.cell? ((⟨gb, go', none⟩ : Addr).add j) = some u) := fun j u hu => by rw [addr_add]; exact y2 j u hu
            have HY3 : Hid _ := y3
            have HY1 : Hid (ys.length = ng * 3) := y1
            have HG2 := (HG.out.keep hb)
            obtain ⟨zs, z1, z2, z3, z4⟩ := HG.out.cells ng (by rw [HN.out]; exact Nat.le_refl _)
            have hxs : xs = [] := List.eq_nil_of_length_eq_zero (by have := ho.1; omega)
            subst hxs
            have HTG : Hid (TermsOk wr g ys fs ng) := fun j hj => by
              obtain ⟨a', c', ca, cc, e0, e1, e2, i1, i2, n1, n2⟩ := y4 wr.heap.size (Nat.le_refl _) j hj
              obtain ⟨b0, o0, e, a'', c'', ca', cc', k0, k1, k2, iC, iD⟩ := HG.out j (by rw [HN.out]; exact hj)
              simp only [Option.some.injEq, Addr.mk.injEq, and_true] at e
              obtain ⟨rfl, rfl⟩ := e
              have f0 := (hb.cell (p := ⟨gb, go' + j * 3, none⟩) (block_lt k0)).trans k0
              have f1 := (hb.cell (p := ⟨gb, go' + j * 3 + 1, none⟩) (block_lt k1)).trans k1
              have g0 := y2 (j * 3) _ e0
              have g1 := y2 (j * 3 + 1) _ e1
              rw [f0] at g0
              rw [show go' + (j * 3 + 1) = go' + j * 3 + 1 by omega, f1] at g1
              simp only [Option.some.injEq, Value.slice.injEq, true_and] at g0 g1
              obtain ⟨rfl, rfl⟩ := g0
              obtain ⟨rfl, rfl⟩ := g1
              exact ⟨a'', c'', ca', cc', e0, e1, e2, i1, i2, fun b o e => by have := iC.blt (by omega) b o e; omega, fun b o e => by have := iD.blt (by omega) b o e; omega⟩
            clear y1 y2 y3 y4 z1 z2 z3 z4 zs HG2
            go_wp2_with (at_builtin; go_must (refine wpList_append_lies _ rfl (.tmp 31) (.tmp 32) 23 rfl w.heap.size 34 zi _ 3 56 Try.underlying23 hi hz0 hz1 hz2 rfl (by decide) (.slice (some ⟨g, 0, none⟩) 0 cp) 0 [] rfl ho ⟨gb, go', none⟩ ng gc ys rfl HY1.out HY2.out HY3.out h0 (by unfold maxLen; omega) (by omega) sz _ rfl ?_); intro g2 cp2 w3 hown hgrow hat hlt1)
            have t3 : Touch (fun x => x = g) wr w3 := grown_touch hgrow
            have hat' : g2 = g ∨ wr.heap.size ≤ g2 := by
              rcases hat with h | h
              · have h' : some g = some g2 := h
                simp only [Option.some.injEq] at h'
                omega
              · omega
            have T3 := HTG.out.move t3 hat'
            have b3 := hb.trans (t3.below hb.size (fun k hk => by omega))
            have ow : w3.ownsRow w.heap.size 34 3 (.slice (some ⟨g2, 0, none⟩) ng cp2) ng ys := by
              have := hown
              rw [Nat.zero_add, List.nil_append] at this
              exact this
            clear hown hgrow hat t3 hat' HTG
            (try go_wp2)
            go_roundw
            case rel => exact ⟨1, ng, g2, cp2, ys, fs, by omega, rfl, rfl, HN.out, .inr (.inl ⟨rfl, rfl, rfl⟩), b3, ow, T3⟩
            case measure => simp [intOf]
        · obtain ⟨ys, y1, y2, y3, y4⟩ := (HX.out.keep hb).cells 1 (Nat.le_refl _)
          have HY2 : Hid (∀ j u, ys[j]? = some u → wr.cell? ((⟨F, 0, none⟩ : Addr).add j) = some u) := fun j u hu => by rw [addr_add]; exact y2 j u hu
          have HY3 : Hid _ := y3
          have HY1 : Hid (ys.length = 1 * 3) := y1
          have HTG : Hid (TermsOk wr g ys [X] 1) := fun j hj => by
            obtain ⟨a', c', ca, cc, e0, e1, e2, i1, i2, n1, n2⟩ := y4 wr.heap.size (Nat.le_refl _) j hj
            obtain ⟨b0, o0, e, a'', c'', ca', cc', k0, k1, k2, iC, iD⟩ := HX.out j hj
            simp only [Option.some.injEq, Addr.mk.injEq, and_true] at e
            obtain ⟨rfl, rfl⟩ := e
            have f0 := (hb.cell (p := ⟨F, 0 + j * 3, none⟩) (block_lt k0)).trans k0
            have f1 := (hb.cell (p := ⟨F, 0 + j * 3 + 1, none⟩) (block_lt k1)).trans k1
            have g0 := y2 (j * 3) _ e0
            have g1 := y2 (j * 3 + 1) _ e1
            rw [f0] at g0
            rw [show 0 + (j * 3 + 1) = 0 + j * 3 + 1 by omega, f1] at g1
            simp only [Option.some.injEq, Value.slice.injEq, true_and] at g0 g1
            obtain ⟨rfl, rfl⟩ := g0
            obtain ⟨rfl, rfl⟩ := g1
            exact ⟨a'', c'', ca', cc', e0, e1, e2, i1, i2, fun b o e => by have := iC.blt (by omega) b o e; omega, fun b o e => by have := iD.blt (by omega) b o e; omega⟩
          have HJ : Hid (TermsOk wr g (xs ++ ys) (T ++ [X]) (n + 1)) := HTT.out.join HTG.out ho.1 HT.out
          clear y1 y2 y3 y4
          go_wp2_with (at_builtin; go_must (refine wpList_append_lies _ rfl (.tmp 31) (.tmp 32) 23 rfl w.heap.size 34 zi _ 3 56 Try.underlying23 hi hz0 hz1 hz2 rfl (by decide) (.slice (some ⟨g, 0, none⟩) n cp) n xs rfl ho ⟨F, 0, none⟩ 1 fcap ys rfl HY1.out HY2.out HY3.out (by omega) (by unfold maxLen; omega) (by omega) sz _ rfl ?_); intro g2 cp2 w3 hown hgrow hat hlt1)
          have t3 : Touch (fun x => x = g) wr w3 := grown_touch hgrow
          have hat' : g2 = g ∨ wr.heap.size ≤ g2 := by
            rcases hat with h | h
            · have h' : some g = some g2 := h
              simp only [Option.some.injEq] at h'
              omega
            · omega
          have T3 := HJ.out.move t3 hat'
          have b3 := hb.trans (t3.below hb.size (fun k hk => by omega))
          clear hgrow hat t3 hat' HTG HJ
          (try go_wp2)
          go_roundw
          case rel => exact ⟨2, _, g2, cp2, _, T ++ [X], by omega, rfl, rfl, by rw [List.length_append, HT.out]; rfl, .inr (.inr ⟨rfl, rfl, rfl⟩), b3, hown, T3⟩
          case measure => simp [intOf]
        · go_wp2
          go_ret
          exact ⟨g, cp, rfl, hb, HTT.out.forms HT.out ho⟩

end Go.Proofs.Ytjggppnffkcmbaa
namespace Go.Proofs.Ytjggppnffkcmbaa
open Go.RowKit Go.Deep
set_option linter.unusedVariables false
set_option maxRecDepth 100000

/-- A block that holds no number holds no form. -/
theorem FormsAt.past2 {W W' : World} {X : Nat} {a : Option Addr} {fs : List Frm} (h : FormsAt W a fs) (hx : ∀ o q, W.cell? ⟨X, o, none⟩ ≠ some (.int .i64 q)) (t : Touch (fun z => z = X) W W') : FormsAt W' a fs := fun i hi => by
  obtain ⟨b, off, e, a', c', ca, cc, c0, c1, c2, iC, iD⟩ := h i hi
  have hne : b ≠ X := fun e2 => by subst e2; exact hx _ _ c2
  have hb := block_lt c0
  refine ⟨b, off, e, a', c', ca, cc, ?_, ?_, ?_, iC.past hx t, iD.past hx t⟩
  · simp only [World.cell?] at c0 ⊢; rw [t.block b hb hne]; exact c0
  · simp only [World.cell?] at c1 ⊢; rw [t.block b hb hne]; exact c1
  · simp only [World.cell?] at c2 ⊢; rw [t.block b hb hne]; exact c2

set_option maxHeartbeats 3200000 in
theorem iguard_any (X : Frm) (fs : List Frm) (ga : Option Addr) (ng gc : Nat) (pa : Option Addr) (cp : Nat) (ta : Option Addr) (nt tc : Nat) (st : Bool) (fa : Option Addr) (fc : Nat) (fd : Option Addr) (fe : Nat) (w : World) (hl : fs.length = ng) (hn : ng ≤ 100) (hG : FormsAt w ga fs) (hX1 : Ints w fa 3 X.1) (hX2 : Ints w fd 2 X.2.1) :
    Calls Try.prog 137 #[wayV ga ng gc pa cp ta nt tc st, formV fa 3 fc fd 2 fe X.2.2] w fun e w' => ∃ G cG, e = .returned (wayV (some ⟨G, 0, none⟩) (ng + 1) cG pa cp ta nt tc st) ∧ Below w.heap.size w w' ∧ FormsAt w' (some ⟨G, 0, none⟩) (fs ++ [X]) := by
  have HL : Hid (fs.length = ng) := hl
  clear hl
  have B3 : Below w.heap.size w (((w.alloc (.cells #[.slice ga ng gc, .slice pa 3 cp, .slice ta nt tc, .bool st] 143)).alloc (.cells #[.slice fa 3 fc, .slice fd 2 fe, .int .i64 X.2.2] 34)).alloc (.cells #[.slice none 0 0, .slice none 0 0, .slice none 0 0, .bool false] 143)) := (((Below.refl _ _).alloc (Nat.le_refl _) _).alloc (by simp) _).alloc (by simp; omega) _
  have B5 : Below w.heap.size w (((((w.alloc (.cells #[.slice ga ng gc, .slice pa 3 cp, .slice ta nt tc, .bool st] 143)).alloc (.cells #[.slice fa 3 fc, .slice fd 2 fe, .int .i64 X.2.2] 34)).alloc (.cells #[.slice none 0 0, .slice none 0 0, .slice none 0 0, .bool false] 143)).alloc (.cells #[.slice fa 3 fc, .slice fd 2 fe, .int .i64 X.2.2] 34)).alloc (.cells #[.slice ga ng gc, .slice (some ⟨w.heap.size + 1 + 1 + 1, 0, none⟩) 1 1] 23)) := (B3.alloc B3.size _).alloc (B3.alloc B3.size _).size _
  have q0 := ((((Cel.new w [.slice ga ng gc, .slice pa 3 cp, .slice ta nt tc, .bool st] 143).alloc (.cells #[.slice fa 3 fc, .slice fd 2 fe, .int .i64 X.2.2] 34)).alloc (.cells #[.slice none 0 0, .slice none 0 0, .slice none 0 0, .bool false] 143)).alloc (.cells #[.slice fa 3 fc, .slice fd 2 fe, .int .i64 X.2.2] 34)).alloc (.cells #[.slice ga ng gc, .slice (some ⟨w.heap.size + 1 + 1 + 1, 0, none⟩) 1 1] 23)
  have r0 := ((Cel.new (((w.alloc (.cells #[.slice ga ng gc, .slice pa 3 cp, .slice ta nt tc, .bool st] 143)).alloc (.cells #[.slice fa 3 fc, .slice fd 2 fe, .int .i64 X.2.2] 34))) [.slice none 0 0, .slice none 0 0, .slice none 0 0, .bool false] 143).alloc (.cells #[.slice fa 3 fc, .slice fd 2 fe, .int .i64 X.2.2] 34)).alloc (.cells #[.slice ga ng gc, .slice (some ⟨w.heap.size + 1 + 1 + 1, 0, none⟩) 1 1] 23)
  have f0 := (Cel.new ((((w.alloc (.cells #[.slice ga ng gc, .slice pa 3 cp, .slice ta nt tc, .bool st] 143)).alloc (.cells #[.slice fa 3 fc, .slice fd 2 fe, .int .i64 X.2.2] 34)).alloc (.cells #[.slice none 0 0, .slice none 0 0, .slice none 0 0, .bool false] 143))) [.slice fa 3 fc, .slice fd 2 fe, .int .i64 X.2.2] 34).alloc (.cells #[.slice ga ng gc, .slice (some ⟨w.heap.size + 1 + 1 + 1, 0, none⟩) 1 1] 23)
  have s0 := Cel.new (((((w.alloc (.cells #[.slice ga ng gc, .slice pa 3 cp, .slice ta nt tc, .bool st] 143)).alloc (.cells #[.slice fa 3 fc, .slice fd 2 fe, .int .i64 X.2.2] 34)).alloc (.cells #[.slice none 0 0, .slice none 0 0, .slice none 0 0, .bool false] 143)).alloc (.cells #[.slice fa 3 fc, .slice fd 2 fe, .int .i64 X.2.2] 34))) [.slice ga ng gc, .slice (some ⟨w.heap.size + 1 + 1 + 1, 0, none⟩) 1 1] 23
  simp only [World.size_alloc] at r0 f0 s0
  have hF : FormsAt ((((((w.alloc (.cells #[.slice ga ng gc, .slice pa 3 cp, .slice ta nt tc, .bool st] 143)).alloc (.cells #[.slice fa 3 fc, .slice fd 2 fe, .int .i64 X.2.2] 34)).alloc (.cells #[.slice none 0 0, .slice none 0 0, .slice none 0 0, .bool false] 143)).alloc (.cells #[.slice fa 3 fc, .slice fd 2 fe, .int .i64 X.2.2] 34)).alloc (.cells #[.slice ga ng gc, .slice (some ⟨w.heap.size + 1 + 1 + 1, 0, none⟩) 1 1] 23))) (some ⟨w.heap.size + 1 + 1 + 1, 0, none⟩) [X] := fun i hi => by
    simp only [List.length_cons, List.length_nil] at hi
    obtain rfl : i = 0 := by omega
    exact ⟨_, 0, rfl, fa, fd, fc, fe, f0.cell 0, f0.cell 1, f0.cell 2, hX1.below B5, hX2.below B5⟩
  have hG5 := hG.keep B5
  go_enter Try.func137, Try.ntmps137
  go_wp2_with fail
  refine (iconcat_any _ _ _ _ fs _ _ X _ s0 HL.out hn hG5 hF).mono ?_
  rintro e w1 ⟨G, cG, rfl, b1, F1⟩
  have B1 := B5.trans (b1.mono B5.size)
  have q1 := q0.below b1
  have r1 := r0.below b1
  have lq := q1.lt
  have lr := r1.lt
  clear q0 r0 f0 s0 hF hG5 b1
  obtain ⟨c0, c1, c2, c3⟩ := q1.four
  have y0 := q1.free 0
  have T1 : Touch (fun k => k = w.heap.size) w1 (w1.setCell ⟨w.heap.size, 0, none⟩ (.slice (some ⟨G, 0, none⟩) (ng + 1) cG)) := Touch.setCell (S := fun k => k = w.heap.size) (Touch.refl _ _) rfl _
  have q2 := q1.set 0 (.slice (some ⟨G, 0, none⟩) (ng + 1) cG)
  simp only [List.set_cons_zero] at q2
  have r2 := r1.touch T1 (fun h => by have := h; omega)
  have F2 := F1.past2 (boxNo q1) T1
  have B2 := B1.trans (T1.below B1.size (fun k hk => by omega))
  go_upto_region 2 with fail
  clear q1 r1 F1 T1 B1 c0 c1 c2 c3 y0
  generalize (w1.setCell ⟨w.heap.size, 0, none⟩ (.slice (some ⟨G, 0, none⟩) (ng + 1) cG)) = w2 at *
  obtain ⟨c0, c1, c2, c3⟩ := q2.four
  obtain ⟨l0, l1, l2, l3⟩ := r2.four
  have fy0 := r2.free 0
  have fy1 := r2.free 1
  have fy2 := r2.free 2
  have fy3 := r2.free 3
  obtain ⟨x', T'⟩ := put4 r2 rfl (.slice (some ⟨G, 0, none⟩) (ng + 1) cG) (.slice pa 3 cp) (.slice ta nt tc) (.bool st)
  have F3 := F2.past2 (boxNo r2) T'
  have BB := B2.trans (T'.below B2.size (fun k hk => by omega))
  obtain ⟨e0, e1, e2, e3⟩ := x'.four
  have lr2 := r2.lt
  clear F2 r2 T' x' q2
  go_wp2
  refine bodyPost_ret (v := wayV (some ⟨G, 0, none⟩) (ng + 1) cG pa cp ta nt tc st) (by simp [results, Try.results137, go_sem, e0, e1, e2, e3]) rfl ?_
  exact ⟨G, cG, rfl, BB, F3⟩

set_option maxHeartbeats 3200000 in
theorem itell_any (X : Frm) (fs : List Frm) (ga : Option Addr) (ng gc : Nat) (pa : Option Addr) (cp : Nat) (ta : Option Addr) (nt tc : Nat) (st : Bool) (fa : Option Addr) (fc : Nat) (fd : Option Addr) (fe : Nat) (w : World) (hl : fs.length = nt) (hn : nt ≤ 100) (hG : FormsAt w ta fs) (hX1 : Ints w fa 3 X.1) (hX2 : Ints w fd 2 X.2.1) :
    Calls Try.prog 140 #[wayV ga ng gc pa cp ta nt tc st, formV fa 3 fc fd 2 fe X.2.2] w fun e w' => ∃ G cG, e = .returned (wayV ga ng gc pa cp (some ⟨G, 0, none⟩) (nt + 1) cG st) ∧ Below w.heap.size w w' ∧ FormsAt w' (some ⟨G, 0, none⟩) (fs ++ [X]) := by
  have HL : Hid (fs.length = nt) := hl
  clear hl
  have B3 : Below w.heap.size w (((w.alloc (.cells #[.slice ga ng gc, .slice pa 3 cp, .slice ta nt tc, .bool st] 143)).alloc (.cells #[.slice fa 3 fc, .slice fd 2 fe, .int .i64 X.2.2] 34)).alloc (.cells #[.slice none 0 0, .slice none 0 0, .slice none 0 0, .bool false] 143)) := (((Below.refl _ _).alloc (Nat.le_refl _) _).alloc (by simp) _).alloc (by simp; omega) _
  have B5 : Below w.heap.size w (((((w.alloc (.cells #[.slice ga ng gc, .slice pa 3 cp, .slice ta nt tc, .bool st] 143)).alloc (.cells #[.slice fa 3 fc, .slice fd 2 fe, .int .i64 X.2.2] 34)).alloc (.cells #[.slice none 0 0, .slice none 0 0, .slice none 0 0, .bool false] 143)).alloc (.cells #[.slice fa 3 fc, .slice fd 2 fe, .int .i64 X.2.2] 34)).alloc (.cells #[.slice ta nt tc, .slice (some ⟨w.heap.size + 1 + 1 + 1, 0, none⟩) 1 1] 23)) := (B3.alloc B3.size _).alloc (B3.alloc B3.size _).size _
  have q0 := ((((Cel.new w [.slice ga ng gc, .slice pa 3 cp, .slice ta nt tc, .bool st] 143).alloc (.cells #[.slice fa 3 fc, .slice fd 2 fe, .int .i64 X.2.2] 34)).alloc (.cells #[.slice none 0 0, .slice none 0 0, .slice none 0 0, .bool false] 143)).alloc (.cells #[.slice fa 3 fc, .slice fd 2 fe, .int .i64 X.2.2] 34)).alloc (.cells #[.slice ta nt tc, .slice (some ⟨w.heap.size + 1 + 1 + 1, 0, none⟩) 1 1] 23)
  have r0 := ((Cel.new (((w.alloc (.cells #[.slice ga ng gc, .slice pa 3 cp, .slice ta nt tc, .bool st] 143)).alloc (.cells #[.slice fa 3 fc, .slice fd 2 fe, .int .i64 X.2.2] 34))) [.slice none 0 0, .slice none 0 0, .slice none 0 0, .bool false] 143).alloc (.cells #[.slice fa 3 fc, .slice fd 2 fe, .int .i64 X.2.2] 34)).alloc (.cells #[.slice ta nt tc, .slice (some ⟨w.heap.size + 1 + 1 + 1, 0, none⟩) 1 1] 23)
  have f0 := (Cel.new ((((w.alloc (.cells #[.slice ga ng gc, .slice pa 3 cp, .slice ta nt tc, .bool st] 143)).alloc (.cells #[.slice fa 3 fc, .slice fd 2 fe, .int .i64 X.2.2] 34)).alloc (.cells #[.slice none 0 0, .slice none 0 0, .slice none 0 0, .bool false] 143))) [.slice fa 3 fc, .slice fd 2 fe, .int .i64 X.2.2] 34).alloc (.cells #[.slice ta nt tc, .slice (some ⟨w.heap.size + 1 + 1 + 1, 0, none⟩) 1 1] 23)
  have s0 := Cel.new (((((w.alloc (.cells #[.slice ga ng gc, .slice pa 3 cp, .slice ta nt tc, .bool st] 143)).alloc (.cells #[.slice fa 3 fc, .slice fd 2 fe, .int .i64 X.2.2] 34)).alloc (.cells #[.slice none 0 0, .slice none 0 0, .slice none 0 0, .bool false] 143)).alloc (.cells #[.slice fa 3 fc, .slice fd 2 fe, .int .i64 X.2.2] 34))) [.slice ta nt tc, .slice (some ⟨w.heap.size + 1 + 1 + 1, 0, none⟩) 1 1] 23
  simp only [World.size_alloc] at r0 f0 s0
  have hF : FormsAt ((((((w.alloc (.cells #[.slice ga ng gc, .slice pa 3 cp, .slice ta nt tc, .bool st] 143)).alloc (.cells #[.slice fa 3 fc, .slice fd 2 fe, .int .i64 X.2.2] 34)).alloc (.cells #[.slice none 0 0, .slice none 0 0, .slice none 0 0, .bool false] 143)).alloc (.cells #[.slice fa 3 fc, .slice fd 2 fe, .int .i64 X.2.2] 34)).alloc (.cells #[.slice ta nt tc, .slice (some ⟨w.heap.size + 1 + 1 + 1, 0, none⟩) 1 1] 23))) (some ⟨w.heap.size + 1 + 1 + 1, 0, none⟩) [X] := fun i hi => by
    simp only [List.length_cons, List.length_nil] at hi
    obtain rfl : i = 0 := by omega
    exact ⟨_, 0, rfl, fa, fd, fc, fe, f0.cell 0, f0.cell 1, f0.cell 2, hX1.below B5, hX2.below B5⟩
  have hG5 := hG.keep B5
  go_enter Try.func140, Try.ntmps140
  go_wp2_with fail
  refine (iconcat_any _ _ _ _ fs _ _ X _ s0 HL.out hn hG5 hF).mono ?_
  rintro e w1 ⟨G, cG, rfl, b1, F1⟩
  have B1 := B5.trans (b1.mono B5.size)
  have q1 := q0.below b1
  have r1 := r0.below b1
  have lq := q1.lt
  have lr := r1.lt
  clear q0 r0 f0 s0 hF hG5 b1
  obtain ⟨c0, c1, c2, c3⟩ := q1.four
  have y0 := q1.free 2
  have T1 : Touch (fun k => k = w.heap.size) w1 (w1.setCell ⟨w.heap.size, 2, none⟩ (.slice (some ⟨G, 0, none⟩) (nt + 1) cG)) := Touch.setCell (S := fun k => k = w.heap.size) (Touch.refl _ _) rfl _
  have q2 := q1.set 2 (.slice (some ⟨G, 0, none⟩) (nt + 1) cG)
  simp only [List.set_cons_zero, List.set_cons_succ] at q2
  have r2 := r1.touch T1 (fun h => by have := h; omega)
  have F2 := F1.past2 (boxNo q1) T1
  have B2 := B1.trans (T1.below B1.size (fun k hk => by omega))
  go_upto_region 2 with fail
  clear q1 r1 F1 T1 B1 c0 c1 c2 c3 y0
  generalize (w1.setCell ⟨w.heap.size, 2, none⟩ (.slice (some ⟨G, 0, none⟩) (nt + 1) cG)) = w2 at *
  obtain ⟨c0, c1, c2, c3⟩ := q2.four
  obtain ⟨l0, l1, l2, l3⟩ := r2.four
  have fy0 := r2.free 0
  have fy1 := r2.free 1
  have fy2 := r2.free 2
  have fy3 := r2.free 3
  obtain ⟨x', T'⟩ := put4 r2 rfl (.slice ga ng gc) (.slice pa 3 cp) (.slice (some ⟨G, 0, none⟩) (nt + 1) cG) (.bool st)
  have F3 := F2.past2 (boxNo r2) T'
  have BB := B2.trans (T'.below B2.size (fun k hk => by omega))
  obtain ⟨e0, e1, e2, e3⟩ := x'.four
  have lr2 := r2.lt
  clear F2 r2 T' x' q2
  go_wp2
  refine bodyPost_ret (v := wayV ga ng gc pa cp (some ⟨G, 0, none⟩) (nt + 1) cG st) (by simp [results, Try.results140, go_sem, e0, e1, e2, e3]) rfl ?_
  exact ⟨G, cG, rfl, BB, F3⟩

end Go.Proofs.Ytjggppnffkcmbaa
namespace Go.Proofs.Ytjggppnffkcmbaa
open Go.RowKit Go.Deep
set_option linter.unusedVariables false
set_option maxRecDepth 100000

/-- A block of just three bools. -/
def OwnBB (W : World) (G : Nat) (f : Nat → Bool) : Prop := Cel W G [.bool (f 0), .bool (f 1), .bool (f 2)] 4
theorem OwnBB.at {W : World} {G : Nat} {f : Nat → Bool} (h : OwnBB W G f) {v : Nat} (hv : v < 3) : W.cell? ⟨G, v, none⟩ = some (.bool (f v)) ∧ W.frozen? ⟨G, v, none⟩ = false := by
  refine ⟨(Cel.cell h v).trans ?_, Cel.free h v⟩
  match v, hv with
  | 0, _ => rfl
  | 1, _ => rfl
  | 2, _ => rfl
theorem OwnBB.no {W : World} {G : Nat} {f : Nat → Bool} (h : OwnBB W G f) : ∀ o q, W.cell? ⟨G, o, none⟩ ≠ some (.int .i64 q) := fun o q e => by
  have := Cel.cell h o
  rw [e] at this
  match o with
  | 0 => simp at this
  | 1 => simp at this
  | 2 => simp at this
  | o + 3 => simp at this
theorem OwnBB.set {W : World} {G : Nat} {f : Nat → Bool} (h : OwnBB W G f) {u : Nat} (hu : u < 3) (x : Bool) : OwnBB (W.setCell ⟨G, u, none⟩ (.bool x)) G (fun v => if v = u then x else f v) := by
  have := Cel.set h u (.bool x)
  unfold OwnBB
  match u, hu with
  | 0, _ => simpa using this
  | 1, _ => simpa using this
  | 2, _ => simpa using this
theorem OwnBB.ext {W : World} {G : Nat} {f g : Nat → Bool} (h : OwnBB W G f) (e : ∀ v, v < 3 → f v = g v) : OwnBB W G g := by
  unfold OwnBB at *
  rw [← e 0 (by omega), ← e 1 (by omega), ← e 2 (by omega)]; exact h
theorem OwnBB.below {W W' : World} {G : Nat} {f : Nat → Bool} (h : OwnBB W G f) (b : Below W.heap.size W W') : OwnBB W' G f := Cel.below h b

set_option maxHeartbeats 3200000 in
theorem imarkpots_any (G cG : Nat) (r : Nat → Bool) (ad : Option Addr) (N cap : Nat) (fs : List Frm) (w : World) (hO : OwnBB w G r) (hN : fs.length = N) (hF : FormsAt w ad fs) (hfit : ∀ k, k < N → fitX 10000000 (fs[k]?.getD ([], [], 0))) (hN1 : N ≤ 1048576) :
    Calls Try.prog 91 #[.slice (some ⟨G, 0, none⟩) 3 cG, .slice ad N cap] w fun e w' => (∃ v, e = .returned v) ∧ Touch (fun k => k = G) w w' ∧ OwnBB w' G (readsF r fs) := by
  have HN : Hid (fs.length = N) := hN
  have HF : Hid (FormsAt w ad fs) := hF
  have HFT : Hid _ := hfit
  have HO : Hid (OwnBB w G r) := hO
  have lG0 := Cel.lt hO
  clear hN hF hfit hO
  go_enter Try.func91, Try.ntmps91
  go_wp2_with fail
  go_loopw [5, 6, 7, 10] (fun _ _ _ i wr => ∃ k : Nat, k ≤ N ∧ i = .int .i64 k ∧ Touch (fun k => k = G) w wr ∧ OwnBB wr G (readsF r (fs.take k))) (fun _ _ _ i _ => N - (intOf i).toNat)
  case atStart => exact ⟨0, Nat.zero_le _, rfl, Touch.refl _ _, HO.out.ext (fun v _ => by simp [readsF])⟩
  case round =>
    obtain ⟨k, hk, rfl, ht, o⟩ := hrel
    by_cases hlt : k < N
    · have hlt' : (k : Int) < N := by omega
      have hkl : k < fs.length := by rw [HN.out]; exact hlt
      have HS : Hid (∀ v, readsF r (fs.take (k + 1)) v = (readsF r (fs.take k) v || hasP (fs[k]?.getD ([], [], 0)) v)) := fun v => readsF_snoc r fs k hkl v
      have hfit := HFT.out k hlt
      obtain ⟨b, off, rfl, a', c', ca, cc, c0, c1, c2, iC, iD⟩ := (HF.out.past2 HO.out.no ht) k hkl
      generalize fs[k]?.getD ([], [], 0) = q at *
      obtain ⟨qC, qD, qK⟩ := q
      simp only at c2 iC iD
      have A : Below wr.heap.size wr (wr.alloc (.cells #[.slice a' 3 ca, .slice c' 2 cc, .int .i64 qK] 34)) := (Below.refl _ _).alloc (Nat.le_refl _) _
      have HIC : Hid (Ints (wr.alloc (.cells #[.slice a' 3 ca, .slice c' 2 cc, .int .i64 qK] 34)) a' 3 qC) := iC.below A
      have oA := o.below A
      have HNO : Hid _ := oA.no
      have o' : OwnBB (wr.alloc (.cells #[.slice a' 3 ca, .slice c' 2 cc, .int .i64 qK] 34)) G (fun v => if v < 0 then readsF r (fs.take (k + 1)) v else readsF r (fs.take k) v) := oA.ext (fun v hv => by simp)
      have tA : Touch (fun k => k = G) w (wr.alloc (.cells #[.slice a' 3 ca, .slice c' 2 cc, .int .i64 qK] 34)) := ht.trans (Touch.of A)
      have HTA : Hid _ := tA
      clear o iC iD oA tA A ht
      go_wp2_with fail
      obtain ⟨W1, hW1⟩ : ∃ W1, W1 = wr.alloc (.cells #[.slice a' 3 ca, .slice c' 2 cc, .int .i64 qK] 34) := ⟨_, rfl⟩
      rw [← hW1] at HIC HNO o' HTA ⊢
      clear hW1 c0 c1 c2
      go_loopw [6, 7, 17] (fun _ _ v w2 => ∃ u : Nat, u ≤ 3 ∧ v = .int .i64 u ∧ Touch (fun k => k = G) W1 w2 ∧ OwnBB w2 G (fun v => if v < u then readsF r (fs.take (k + 1)) v else readsF r (fs.take k) v)) (fun _ _ v _ => 3 - (intOf v).toNat)
      case atStart => exact ⟨0, by omega, rfl, Touch.refl _ _, o'⟩
      case round =>
        clear o'
        obtain ⟨u, hu, rfl, t, o⟩ := hrel
        by_cases hu3 : u < 3
        · have hu' : (u : Int) < 3 := by omega
          obtain ⟨cb, co, rfl, cv⟩ := (HIC.out.past HNO.out t).2 u hu3
          have hval : qC.getD u 0 = qC[u]?.getD 0 := by rw [List.getD_eq_getElem?_getD]
          rw [hval] at cv
          have HH : Hid (hasP (qC, qD, qK) u = (qC[u]?.getD 0 != 0)) := rfl
          generalize qC[u]?.getD 0 = z at *
          obtain ⟨g0, fz⟩ := o.at hu3
          rw [if_neg (Nat.lt_irrefl u)] at g0
          obtain ⟨bo, hbo⟩ : ∃ bo, bo = readsF r (fs.take k) u := ⟨_, rfl⟩
          have HBO : Hid _ := hbo
          rw [← hbo] at g0
          have o2 := o.set hu3 (bo || (z != 0))
          have O2 : Hid (OwnBB (wr.setCell ⟨G, u, none⟩ (.bool (bo || (z != 0)))) G (fun v => if v < u + 1 then readsF r (fs.take (k + 1)) v else readsF r (fs.take k) v)) := o2.ext (fun v hv => by
            by_cases e : v = u
            · subst e; simp only [if_true, Nat.lt_succ_self]; rw [HS.out, HH.out, HBO.out]
            · simp only [e, if_false]
              by_cases e2 : v < u
              · rw [if_pos e2, if_pos (by omega)]
              · rw [if_neg e2, if_neg (by omega)])
          have T2 : Touch (fun k => k = G) W1 (wr.setCell ⟨G, u, none⟩ (.bool (bo || (z != 0)))) := t.setCell (B := G) rfl _
          clear o2 o hbo t
          cases bo with
          | true =>
            simp only [Bool.true_or] at O2 T2
            go_wp2
            go_roundw
            case rel => exact ⟨u + 1, by omega, by go_num, T2, O2.out⟩
            case measure => simp [intOf]; omega
          | false =>
            simp only [Bool.false_or] at O2 T2
            by_cases hz : z = 0
            · have hz' : (z != 0) = false := by simp [hz]
              rw [hz'] at O2 T2
              go_wp2
              go_roundw
              case rel => exact ⟨u + 1, by omega, by go_num, T2, O2.out⟩
              case measure => simp [intOf]; omega
            · have hz' : (z != 0) = true := by simp [hz]
              rw [hz'] at O2 T2
              go_wp2
              go_roundw
              case rel => exact ⟨u + 1, by omega, by go_num, T2, O2.out⟩
              case measure => simp [intOf]; omega
        · obtain rfl : u = 3 := by omega
          have O3 : Hid (OwnBB wr G (readsF r (fs.take (k + 1)))) := o.ext (fun v hv => by simp only [hv, if_true])
          have T3 := HTA.out.trans t
          clear o t
          go_wp2
          go_roundw
          case rel => exact ⟨k + 1, by omega, by go_num, T3, O3.out⟩
          case measure => simp [intOf]; omega
    · obtain rfl : k = N := by omega
      have O3 : OwnBB wr G (readsF r fs) := by
        have : fs.take k = fs := List.take_of_length_le (by rw [HN.out]; exact Nat.le_refl _)
        rw [this] at o; exact o
      go_wp2
      go_end0
      exact ⟨⟨_, rfl⟩, ht, O3⟩

end Go.Proofs.Ytjggppnffkcmbaa
namespace Go.Proofs.Ytjggppnffkcmbaa
open Go.RowKit
set_option linter.unusedVariables false

section
variable {F : Fence} {n : Nat} {P : Program} {ops : Array Oper} {Q : Exit → Act → World → Prop} {md : Region.Mode} {S : World → Prop}

/-- What an operation leaves of an activation: its own slot alone, and calls put off. -/
def Left (o : Oper) (a a' : Act) : Prop := ∃ u ds, a' = ({ a with defers := ds } : Act).put o.dst u
theorem wpIn_left {o : Oper} {a : Act} {w : World} {K : Act → World → Prop} (h : o.wpIn F n P a w K Q) : o.wpIn F n P a w (fun a' w' => Left o a a' ∧ K a' w') Q := by
  unfold Oper.wpIn at *
  refine ⟨h.1, ?_⟩
  have h := h.2
  generalize (o.semAt F.round a.eval).run P w = r at *
  cases r with
  | ok x w' =>
    cases x <;> simp only [Oper.uponIn] at h ⊢ <;>
      first
        | exact ⟨⟨_, _, rfl⟩, h⟩
        | exact ⟨h.1, CallsIn.mono h.2 (fun e w'' he => by cases e <;> first | exact ⟨⟨_, _, rfl⟩, he⟩ | exact he)⟩
        | exact ⟨h.1, RowsIn.mono h.2 (fun _ _ he => ⟨⟨_, _, rfl⟩, he⟩)⟩
        | exact ⟨h.1, RoundIn.mono h.2 (fun e w'' he => by cases e <;> first | exact ⟨⟨_, _, rfl⟩, he⟩ | exact he)⟩
        | exact h
  | halt x w' => cases x <;> simp only [Oper.uponIn] at h ⊢ <;> exact h
theorem wpOpIn_left {j : Nat} {oj : Oper} (hj : ops[j]? = some oj) {a : Act} {w : World} {K : Act → World → Prop} (h : wpOpIn F n P ops Q j K a w) : wpOpIn F n P ops Q j (fun a' w' => Left oj a a' ∧ K a' w') a w := by
  unfold wpOpIn at *
  simp only [hj] at *
  split
  · rename_i hw
    simp only [hw, if_true] at h
    exact wpIn_left h
  · rename_i hw
    simp only [hw] at h
    exact ⟨h.1, ⟨undef, a.defers, rfl⟩, h.2⟩

/-- Yields where S holds, and makes no call. -/
def YieldsS (P : Program) (ops : Array Oper) (S : World → Prop) (o : Oper) (v : Value) (a : Act) : Prop := YieldsIf P ops S o v a ∧ ∀ w, o.about P w a.eval = none
theorem YieldsS.left {oi oj : Oper} {v : Value} {a a' : Act} (hy : YieldsS P ops S oi v a) (hap : oi.apart ops oj = true) (hsi : ∀ cs b, oi.op ≠ .select cs b) (h : Left oj a a') : YieldsS P ops S oi v a' := by
  obtain ⟨u, ds, rfl⟩ := h
  obtain ⟨h1, h2, h3⟩ := Oper.apart_spec hap
  refine ⟨YieldsIf.of_same (a := ({ a with defers := ds } : Act)) (YieldsIf.of_same hy.1 rfl rfl) (execOp_put oi hsi _ oj.dst u h3) (wanted_put oi _ oj.dst u h3), fun w => ?_⟩
  rw [about_put oi w _ oj.dst u h3]
  exact hy.2 w
theorem YieldsS.wpOpIn {i : Nat} {o : Oper} {v : Value} {a : Act} (hro : F.round = none) (hi : ops[i]? = some o) (hy : YieldsS P ops S o v a) {K : Act → World → Prop} {w : World} (hS : S w) (h : K (a.put o.dst v) w) : wpOpIn F n P ops Q i K a w := by
  unfold Go.wpOpIn
  simp only [hi]
  have hab : ∀ f, o.about P w a.eval = some f → F.fn f := fun f hf => by rw [hy.2 w] at hf; cases hf
  rcases hy.1 with ⟨hw, hv⟩ | ⟨hw, rfl⟩
  · simp only [hw, if_true, Oper.wpIn, hro, Oper.semAt_none, hv w hS, Oper.uponIn]; exact ⟨hab, h⟩
  · simp only [hw, Bool.false_eq_true, if_false]; exact ⟨hab, h⟩
/-- The same slot, filled by a constant. -/
def still (oi : Oper) (v : Value) : Oper := { oi with op := .move (.const v), guard := none, after := #[] }
theorem still_yields (oi : Oper) (v : Value) (a : Act) : YieldsFenced P ops (still oi v) v a := by
  refine ⟨.inl ⟨rfl, fun w => ?_⟩, fun w => rfl⟩
  simp [still, execOp, Act.eval]

theorem still_apart {oi oj : Oper} {v : Value} (h : oi.apart ops oj = true) : (still oi v).apart ops oj = true := by
  simp only [Oper.apart, Bool.and_eq_true] at h ⊢
  refine ⟨h.1, ?_⟩
  cases oj.dst with
  | none => rfl
  | some d => simp [still, Oper.looksAt, Op.operands]
theorem wpOpIn_putS {j : Nat} {oi oj : Oper} {v : Value} (hro : F.round = none) (hj : ops[j]? = some oj) (hap : oi.apart ops oj = true)
    (hsi : ∀ cs b, oi.op ≠ .select cs b) (hsj : ∀ cs b, oj.op ≠ .select cs b)
    (hQ : ∀ c a w, Q (.panic c) (a.put oi.dst v) w → Q (.panic c) a w) {K : Act → World → Prop} {a : Act} {w : World}
    (hy : YieldsS P ops S oi v a) (h : wpOpIn F n P ops Q j K (a.put oi.dst v) w) :
    wpOpIn F n P ops Q j (fun a' w' => YieldsS P ops S oi v a' ∧ K (a'.put oi.dst v) w') a w :=
  wpOpIn_mono (fun a' w' hh => ⟨hy.left hap hsi hh.1, hh.2.2⟩) (wpOpIn_left hj (wpOpIn_put (oi := still oi v) hro hj (still_apart hap) (fun cs b e => by cases e) hsj hQ (still_yields oi v a) h))

/-- Whatever order is picked from here on; S holds behind every operation. -/
def wpAnyS (F : Fence) (n : Nat) (P : Program) (md : Region.Mode) (ops : Array Oper) (Q : Exit → Act → World → Prop) (S : World → Prop) : Nat → Array Bool → Act → World → Prop
  | 0, listed, a, w => Region.ready md ops listed = [] ∧ Q .normal a w
  | fuel + 1, listed, a, w =>
    (Region.ready md ops listed = [] → Q .normal a w) ∧
    ∀ i ∈ Region.ready md ops listed, wpOpIn F n P ops Q i (fun a' w' => S w' ∧ wpAnyS F n P md ops Q S fuel (listed.setIfInBounds i true) a' w') a w
theorem wpAnyIn_of_S : ∀ (fuel : Nat) (listed : Array Bool) (a : Act) (w : World), wpAnyS F n P md ops Q S fuel listed a w → wpAnyIn F n P md ops Q fuel listed a w
  | 0, _, _, _, h => h
  | fuel + 1, _, _, _, h => ⟨h.1, fun i hi => wpOpIn_mono (fun a' w' h' => wpAnyIn_of_S fuel _ a' w' h'.2) (h.2 i hi)⟩
theorem wpAnyS_first {i : Nat} {oi : Oper} {v : Value} (hro : F.round = none) (hi : ops[i]? = some oi) (hsel : ∀ (j : Nat) (o : Oper) cs b, ops[j]? = some o → o.op ≠ .select cs b)
    (hQ : ∀ c a w, Q (.panic c) (a.put oi.dst v) w → Q (.panic c) a w) :
    ∀ (fuel : Nat) (listed : Array Bool) (a : Act) (w : World),
      (∀ j oj, ops[j]? = some oj → j ≠ i → listed.getD j true = false → (∀ e ∈ oj.after, Region.binds md e = true → e.on ≠ i) → oi.apart ops oj = true) →
      i ∈ Region.ready md ops listed → YieldsS P ops S oi v a → S w →
      wpAnyS F n P md ops Q S fuel (listed.setIfInBounds i true) (a.put oi.dst v) w → wpAnyS F n P md ops Q S (fuel + 1) listed a w := by
  intro fuel
  induction fuel with
  | zero =>
    intro listed a w _ hr hy hS H
    refine ⟨fun h => (by rw [h] at hr; cases hr), fun j hj => ?_⟩
    by_cases hji : j = i
    · subst hji; exact hy.wpOpIn hro hi hS ⟨hS, H⟩
    · have := ready_mono hj hji
      rw [H.1] at this
      cases this
  | succ fuel ih =>
    intro listed a w hfree hr hy hS H
    refine ⟨fun h => (by rw [h] at hr; cases hr), fun j hj => ?_⟩
    by_cases hji : j = i
    · subst hji; exact hy.wpOpIn hro hi hS ⟨hS, H⟩
    · have h1 := H.2 j (ready_mono hj hji)
      obtain ⟨hjun, oj, hoj, hall⟩ := mem_ready.1 hj
      have h2 := wpOpIn_putS hro hoj (hfree j oj hoj hji hjun (not_waits (i := i) (j := j) hr hall)) (fun cs b => hsel i oi cs b hi) (fun cs b => hsel j oj cs b hoj) hQ hy h1
      have hfree' : ∀ k ok, ops[k]? = some ok → k ≠ i → (listed.setIfInBounds j true).getD k true = false →
          (∀ e ∈ ok.after, Region.binds md e = true → e.on ≠ i) → oi.apart ops ok = true := fun k ok hk hki hun hno => by
        refine hfree k ok hk hki ?_ hno
        by_cases hjk : j = k
        · subst hjk; exact hjun
        · rw [getD_set_ne true hjk] at hun; exact hun
      refine wpOpIn_mono (fun a' w' h3 => ⟨h3.2.1, ih (listed.setIfInBounds j true) a' w' hfree' (ready_mono hr (Ne.symm hji)) h3.1 h3.2.1 ?_⟩) h2
      rw [Array.setIfInBounds_comm _ _ hji]
      exact h3.2.2
theorem wpAnyS_take {i : Nat} {oi : Oper} {v : Value} {fuel : Nat} {listed : Array Bool} {a : Act} {w : World} (hro : F.round = none) (hi : ops[i]? = some oi)
    (hs : Region.noSelect ops = true) (hf : Region.free md ops listed i = true) (hr : (Region.ready md ops listed).contains i = true)
    (hQ : ∀ c a w, Q (.panic c) (a.put oi.dst v) w → Q (.panic c) a w) (hy : YieldsIf P ops S oi v a) (hab : ∀ w, oi.about P w a.eval = none) (hS : S w)
    (h : wpAnyS F n P md ops Q S fuel (listed.setIfInBounds i true) (a.put oi.dst v) w) : wpAnyS F n P md ops Q S (fuel + 1) listed a w :=
  wpAnyS_first hro hi (Region.noSelect_spec hs) hQ fuel listed a w (Region.free_spec hi hf) (by simpa using hr) ⟨hy, hab⟩ hS h
/-- One operation alone may come up. -/
theorem wpAnyS_one {i : Nat} {o : Oper} {fuel : Nat} {listed : Array Bool} {a : Act} {w : World} (hr : Region.ready md ops listed = [i]) (ho : ops[i]? = some o)
    (h : ∀ K' : Act → World → Prop, Shut (∀ a w, S w → wpAnyS F n P md ops Q S fuel (listed.setIfInBounds i true) a w → K' a w) → if Region.wanted o (yielded ops a.tmps) = true then Oper.wpIn F n P o a w K' Q else (∀ f, o.about P w a.eval = some f → F.fn f) ∧ K' (a.put o.dst undef) w) : wpAnyS F n P md ops Q S (fuel + 1) listed a w := by
  refine ⟨fun h0 => (by rw [hr] at h0; cases h0), fun j hj => ?_⟩
  rw [hr] at hj
  rcases List.mem_cons.1 hj with rfl | hj
  · exact wpOpIn_step ho (fun K' hK => h K' (fun a w hS hW => hK a w ⟨hS, hW⟩))
  · cases hj
theorem wpAnyS_done {listed : Array Bool} {a : Act} {w : World} (hr : Region.ready md ops listed = []) (h : Q .normal a w) : ∀ fuel, wpAnyS F n P md ops Q S fuel listed a w
  | 0 => ⟨hr, h⟩
  | _ + 1 => ⟨fun _ => h, by rw [hr]; simp⟩
theorem wpIn_region_S {id : Nat} {a : Act} {w : World} (S : World → Prop) (hm : P.follows .mixedOrders = true)
    (h : wpAnyS F n P .any ops Q S ops.size (Array.replicate ops.size false) a w.drew) : (Code.region id ops true).wpIn F n P Q a w :=
  wpIn_region_any hm (wpAnyIn_of_S _ _ _ _ h)

end
end Go.Proofs.Ytjggppnffkcmbaa
namespace Go.Proofs.Ytjggppnffkcmbaa
open Go.RowKit
set_option linter.unusedVariables false

section
variable {P : Program} {n : Nat} {α : Type}

/-- How a round is left: it goes on. -/
def roundOn (B : Nat) (Kp : World → World → Prop) (I : List α → World → Prop) (xs : List α) (W : World) : Exit → Act → World → Prop
  | .normal, _, W' => KeepsFrom B W W' ∧ Kp W W' ∧ I xs W'
  | _, _, _ => False

theorem wpIn_rows {g : Operand} {ps : Array Tmp} {assign body : Code} {Q : Exit → Act → World → Prop} {a : Act} {w : World} {gf : Nat} {lb : Array Value}
    (hg : a.eval g = .func (.func gf) #[] lb) (eg : ∀ args w, (callFunc gf args).run P w = .ok (.enter gf args) w)
    {encs : α → Array Value} (hps : ∀ x, (encs x).size = ps.size) (A : List α → α → World → Prop) (Kp : World → World → Prop) (Sx : List α → Prop) (I : List α → World → Prop)
    (hI : ∀ pre X Y, I pre X → Below X.heap.size X Y → I pre Y) (hIb : ∀ pre X l r r', I pre X → X.heap[l]? = some (.loop r) → w.heap.size < l → I pre (X.putObj l (.loop r')))
    (hKb : ∀ X l r r', X.heap[l]? = some (.loop r) → Kp X (X.putObj l (.loop r'))) (hKt : ∀ X Y Z, Kp X Y → Kp Y Z → Kp X Z) (h0 : I [] w)
    (hseq : ∀ (l : Nat) (J : List α → World → Prop) (W : World), (∀ pre X Y, J pre X → Below X.heap.size X Y → J pre Y) → Below w.heap.size w W → J [] W →
      (∀ m pre x X, J pre X → A pre x X → YieldAt Fence.wide m P l (encs x) X fun e Y => e = .returned (.bool true) ∧ J (pre ++ [x]) Y ∧ Kp X Y) →
      CallsIn Fence.wide (n - 1) P gf (#[.func (.yield l) #[] #[]] ++ lb) W fun e Y => (∃ v, e = .returned v) ∧ ∃ xs, Sx xs ∧ J xs Y)
    (hround : ∀ (m l : Nat) (pre : List α) (x : α) (X : World) (r : Loop), I pre X → A pre x X → X.heap[l]? = some (.loop r) → w.heap.size < l →
      assign.wpIn (Fence.wide.inRound l) m P (Exit.then (fun a' Y => KeepsFrom w.heap.size X Y ∧ Kp X Y ∧ body.wpIn (Fence.wide.inRound l) m P (roundOn w.heap.size Kp I (pre ++ [x]) (Y.putObj l (.loop { r with state := .busy }))) a' (Y.putObj l (.loop { r with state := .busy }))) (fun _ _ _ => False))
        { tmps := (ps.zip (encs x)).foldl (fun t (p, v) => t.setIfInBounds p v) a.tmps, defers := [] } X)
    (hdone : ∀ (D : Nat) (xs : List α) (W : World), w.heap.size ≤ D → Sx xs → I xs W → W.heap[D]? = some (.deferred (some [])) → Q .normal { a with defers := { target := .collected D, args := #[] } :: a.defers } W) :
    (Code.rangeFunc g ps assign body).wpIn Fence.wide n P Q a w := by
  refine wpIn_rangeFunc ?_
  intro fn _
  obtain ⟨r0, hr0⟩ : ∃ r0 : Loop, r0 = { state := .ready, pending := none, fn, tmps := a.tmps, params := ps, assign, body, defers := w.heap.size } := ⟨_, rfl⟩
  obtain ⟨W1, hW1⟩ : ∃ W1, W1 = (w.alloc (.deferred (some []))).alloc (.loop r0) := ⟨_, rfl⟩
  have b1 : Below w.heap.size w W1 := by rw [hW1]; exact ((Below.refl _ w).alloc (Nat.le_refl _) _).alloc (by simp) _
  have hL : W1.heap[w.heap.size + 1]? = some (.loop r0) := by
    rw [hW1]; have := World.alloc_heap_new (w.alloc (.deferred (some []))) (.loop r0); rwa [World.size_alloc] at this
  have hD : W1.heap[w.heap.size]? = some (.deferred (some [])) := by
    rw [hW1]; exact (Below.heap_alloc _ _ _ (by simp)).trans (World.alloc_heap_new w _)
  refine ⟨w.heap.size + 1, [{ target := .collected w.heap.size, args := #[] }], W1, { target := .fn (.func gf) lb, args := #[.func (.yield (w.heap.size + 1)) #[] #[]] }, W1, gf, #[.func (.yield (w.heap.size + 1)) #[] #[]] ++ lb, W1, ?_, ?_, ?_, ?_, ?_, ?_⟩
  · rw [hW1, hr0]; exact run_enterLoop_outer _ _ _ _ _
  · simp only [resolve, hg]
    simp [go_sem]
  · intro f' _; trivial
  · simp [invoke, go_sem, eg]
  · intro h; simp [Fence.wide] at h
  · refine (hseq (w.heap.size + 1) (fun pre W => I pre W ∧ W.heap[w.heap.size + 1]? = some (.loop r0) ∧ W.heap[w.heap.size]? = some (.deferred (some []))) W1 ?_ b1 ⟨hI _ _ _ h0 b1, hL, hD⟩ ?_).mono ?_
    · rintro pre X Y ⟨i1, i2, i3⟩ hb
      exact ⟨hI _ _ _ i1 hb, (hb.block _ (Array.getElem?_eq_some_iff.1 i2).1).trans i2, (hb.block _ (Array.getElem?_eq_some_iff.1 i3).1).trans i3⟩
    · rintro m pre x X ⟨i1, i2, i3⟩ hA
      have hy := run_yield (P := P) (args := encs x) i2 (by rw [hr0]; exact hps x)
      rw [hr0] at hy
      refine ⟨fn, _, assign, body, hy, roundIn_of_wpIn trivial (wpIn_mono (hround m _ pre x X r0 i1 hA i2 (by omega)) ?_)⟩
      rintro e a' Y hp
      cases e with
      | normal =>
        obtain ⟨k1, k2, hb⟩ := hp
        have j2 := k1.same _ _ (by omega) i2 rfl
        have j3 := k1.same _ _ (Nat.le_refl _) i3 rfl
        refine ⟨_, run_beginRound j2 (by rw [hr0]), wpIn_mono hb ?_⟩
        rintro e a'' Z hq
        cases e with
        | normal =>
          obtain ⟨q1, q2, q3⟩ := hq
          have hl : w.heap.size + 1 < Y.heap.size := (Array.getElem?_eq_some_iff.1 j2).1
          have m2 := q1.same _ _ (by omega) (World.putObj_heap_same (o := .loop { r0 with state := .busy }) hl) rfl
          have m3 := q1.same _ _ (Nat.le_refl _) ((World.putObj_heap_other (by omega)).trans j3) rfl
          have hz : w.heap.size + 1 < Z.heap.size := (Array.getElem?_eq_some_iff.1 m2).1
          refine ⟨_, _, run_endRound none m2, rfl, ⟨hIb _ _ _ _ _ q3 m2 (by omega), ?_, (World.putObj_heap_other (by omega)).trans m3⟩, hKt _ _ _ (hKt _ _ _ (hKt _ _ _ k2 (hKb _ _ _ _ j2)) q2) (hKb _ _ _ _ m2)⟩
          rw [World.putObj_heap_same hz, hr0]
          rfl
        | ret => exact hq.elim
        | exit id => exact hq.elim
        | goto t => exact hq.elim
        | panic c => exact hq.elim
        | outgrown => exact hq.elim
      | ret => exact hp.elim
      | exit id => exact hp.elim
      | goto t => exact hp.elim
      | panic c => exact hp.elim
      | outgrown => exact hp.elim
    · rintro e W2 ⟨⟨v, rfl⟩, xs, hS, i1, i2, i3⟩
      exact ⟨none, _, by have := run_endLoop (P := P) i2 (by rw [hr0]; simp); rw [hr0] at this; rw [hr0] at i2; exact this, hdone _ xs _ (Nat.le_refl _) hS (hIb _ _ _ _ _ i1 i2 (by omega)) ((World.putObj_heap_other (by omega)).trans i3)⟩

end
end Go.Proofs.Ytjggppnffkcmbaa
namespace Go.Proofs.Ytjggppnffkcmbaa
open Go.RowKit Go.Deep
set_option linter.unusedVariables false
set_option maxRecDepth 100000

/-- A block that a round may touch: no cells, or bools, rows or a slice of rows, and no numbers. -/
def Loose (o : Option Obj) : Prop := ∀ cs t fr, o = some (.cells cs t fr) → (t = 4 ∨ t = 25 ∨ t = 54) ∧ ∀ (i : Nat) q, cs[i]? ≠ some (.int .i64 q)
/-- What a round leaves. -/
def KpR (X Y : World) : Prop := Touch (fun k => Loose X.heap[k]?) X Y
theorem KpR.refl (X : World) : KpR X X := Touch.refl _ _
theorem KpR.of {X Y : World} (h : Below X.heap.size X Y) : KpR X Y := Touch.of h
theorem KpR.trans {X Y Z : World} (h : KpR X Y) (k : KpR Y Z) : KpR X Z :=
  ⟨k.os.trans h.os, k.tape.trans h.tape, k.output.trans h.output, Nat.le_trans h.size k.size, fun i hi hn => by
    have e := h.block i hi hn
    rw [k.block i (Nat.lt_of_lt_of_le hi h.size) (fun hl => hn (by rw [e] at hl; exact hl))]
    exact e⟩
theorem KpR.loop (X : World) (l : Nat) (r r' : Loop) (h : X.heap[l]? = some (.loop r)) : KpR X (X.putObj l (.loop r')) := by
  refine ⟨rfl, rfl, rfl, by simp [World.putObj], fun k hk hn => ?_⟩
  by_cases e : k = l
  · subst e
    exact absurd (fun cs t fr hh => by rw [h] at hh; cases hh) hn
  · exact World.putObj_heap_other e
theorem not_loose {X : World} {b o : Nat} {q : Int} (h : X.cell? ⟨b, o, none⟩ = some (.int .i64 q)) : ¬ Loose X.heap[b]? := fun hl => by
  simp only [World.cell?] at h
  split at h
  · rename_i c t fr hh
    have := (hl _ _ _ hh).2 o q
    simp at h
    exact this (by simpa using h)
  · cases h
theorem Ints.keepR {X Y : World} {a : Option Addr} {n : Nat} {zs : List Int} (h : Ints X a n zs) (k : KpR X Y) : Ints Y a n zs := by
  refine ⟨h.1, fun i hi => ?_⟩
  obtain ⟨b, off, e, hc⟩ := h.2 i hi
  refine ⟨b, off, e, ?_⟩
  rw [World.cell?_of_block (k.block b (block_lt hc) (not_loose hc))]; exact hc
theorem FormsAt.keepR {X Y : World} {a : Option Addr} {fs : List Frm} (h : FormsAt X a fs) (k : KpR X Y) : FormsAt Y a fs := fun i hi => by
  obtain ⟨b, off, e, a', c', ca, cc, c0, c1, c2, iC, iD⟩ := h i hi
  have hb := k.block b (block_lt c0) (not_loose c2)
  exact ⟨b, off, e, a', c', ca, cc, by rw [World.cell?_of_block hb]; exact c0, by rw [World.cell?_of_block hb]; exact c1, by rw [World.cell?_of_block hb]; exact c2, iC.keepR k, iD.keepR k⟩
theorem Cel.keepR {X Y : World} {B : Nat} {vs : List Value} {t : TypeId} (h : Cel X B vs t) (k : KpR X Y) (h1 : t ≠ 4) (h2 : t ≠ 25) (h3 : t ≠ 54 := by decide) : Cel Y B vs t := by
  have hl := h.lt
  unfold Cel at *
  rw [k.block B hl (fun hl => by rcases (hl _ _ _ h).1 with e | e | e <;> contradiction)]; exact h

end Go.Proofs.Ytjggppnffkcmbaa
namespace Go.Proofs.Ytjggppnffkcmbaa
open Go.RowKit Go.Deep Go.Shelf
set_option linter.unusedVariables false
set_option maxRecDepth 100000
attribute [local go_sem] Oper.semAt_some

abbrev walkV (l : Nat) (sa : Option Addr) (N sc : Nat) : Value := .agg #[.slice sa N sc, .func (.yield l) #[] #[]]
/-- What a round answers, handed a row that lies in memory made since n₀. -/
def Rounds (l n₀ : Nat) (J : List RowM → World → Prop) (M : Nat) : Prop := ∀ (m : Nat) (pre : List RowM) (v : Value) (r : RowM) (X : World), J pre X → RowFit r → RowX X n₀ v r → pre.length < M → YieldAt Fence.wide m Try.prog l #[v] X fun e Y => e = .returned (.bool true) ∧ J (pre ++ [r]) Y ∧ KpR X Y

set_option maxHeartbeats 3200000 in
theorem from_end (l n₀ : Nat) (J : List RowM → World → Prop) (hJ : ∀ pre X Y, J pre X → Below X.heap.size X Y → J pre Y) (M : Nat) (hY : Rounds l n₀ J M) (sa : Option Addr) (N sc : Nat) (i0 : Nat) (hi : N ≤ i0) (hi1 : i0 ≤ 12) (y : Way) (pa : Option Addr) (cp : Nat) (ga : Option Addr) (ng gc : Nat) (ta : Option Addr) (nt tc : Nat) (st : Bool) (q : RowM) (pre : List RowM) (W : World) (n : Nat) (hn0 : n₀ ≤ W.heap.size) (h0 : J pre W) (hq : RowFit q) (hM : pre.length < M)
    (hrow : ∀ X, Below W.heap.size W X → Calls Try.prog 129 #[wayV ga ng gc pa cp ta nt tc st] X fun e X' => ∃ v, e = .returned v ∧ Below X.heap.size X X' ∧ RowX X' X.heap.size v q) :
    CallsIn Fence.wide n Try.prog 115 #[walkV l sa N sc, .int .i64 (i0 : Int), wayV ga ng gc pa cp ta nt tc st] W fun e W' => e = .returned (.bool true) ∧ J (pre ++ [q]) W' ∧ KpR W W' := by
  have hge : (N : Int) ≤ i0 := by omega
  have A : Below W.heap.size W ((W.alloc (.cells #[.slice sa N sc, .func (.yield l) #[] #[]] 140)).alloc (.cells #[.slice ga ng gc, .slice pa 3 cp, .slice ta nt tc, .bool st] 143)) := ((Below.refl _ _).alloc (Nat.le_refl _) _).alloc (by simp) _
  have x0 := (Cel.new W [.slice sa N sc, .func (.yield l) #[] #[]] 140).alloc (.cells #[.slice ga ng gc, .slice pa 3 cp, .slice ta nt tc, .bool st] 143)
  have y0 := Cel.new (W.alloc (.cells #[.slice sa N sc, .func (.yield l) #[] #[]] 140)) [.slice ga ng gc, .slice pa 3 cp, .slice ta nt tc, .bool st] 143
  rw [World.size_alloc] at y0
  refine callsIn_of_wp Try.func115 rfl trivial ?_ rfl
  simp only [Try.ntmps115, List.size_toArray, List.length_cons, List.length_nil, Nat.reduceAdd, Nat.reduceSub, Array.replicate_succ, Array.replicate_zero, List.push_toArray, List.append_toArray, List.nil_append, List.cons_append]
  gi_wp2_with fail
  obtain ⟨W0, hW0⟩ : ∃ W0, W0 = (W.alloc (.cells #[.slice sa N sc, .func (.yield l) #[] #[]] 140)).alloc (.cells #[.slice ga ng gc, .slice pa 3 cp, .slice ta nt tc, .bool st] 143) := ⟨_, rfl⟩
  rw [← hW0] at A x0 y0 ⊢
  clear hW0
  have KP : Hid (∀ X, KpR W0 X → ((X.cell? ⟨W.heap.size, 0, none⟩ = some (.slice sa N sc) ∧ X.cell? ⟨W.heap.size, 1, none⟩ = some (.func (.yield l) #[] #[])) ∧ (X.cell? ⟨W.heap.size + 1, 0, none⟩ = some (.slice ga ng gc) ∧ X.cell? ⟨W.heap.size + 1, 1, none⟩ = some (.slice pa 3 cp) ∧ X.cell? ⟨W.heap.size + 1, 2, none⟩ = some (.slice ta nt tc) ∧ X.cell? ⟨W.heap.size + 1, 3, none⟩ = some (.bool st)))) := fun X hX => by
    have a1 := x0.keepR hX (by decide) (by decide)
    have a2 := y0.keepR hX (by decide) (by decide)
    exact ⟨⟨a1.cell 0, a1.cell 1⟩, a2.four⟩
  have e0 : Below W0.heap.size W0 W0.drew := (Below.refl _ _).drew
  have hSS := KP.out _ (KpR.of e0)
  refine wpIn_region_S (fun w' => (w'.cell? ⟨W.heap.size, 0, none⟩ = some (.slice sa N sc) ∧ w'.cell? ⟨W.heap.size, 1, none⟩ = some (.func (.yield l) #[] #[])) ∧ (w'.cell? ⟨W.heap.size + 1, 0, none⟩ = some (.slice ga ng gc) ∧ w'.cell? ⟨W.heap.size + 1, 1, none⟩ = some (.slice pa 3 cp) ∧ w'.cell? ⟨W.heap.size + 1, 2, none⟩ = some (.slice ta nt tc) ∧ w'.cell? ⟨W.heap.size + 1, 3, none⟩ = some (.bool st))) (by kernel_rfl) ?_
  refine wpAnyS_take (i := 0) (v := ?v0) rfl rfl (by kernel_rfl) (by kernel_rfl) (by kernel_rfl) (fun _ _ _ h => h) (Or.inl ⟨by rfl, ?y0⟩) (fun _ => rfl) hSS ?_
  case y0 => (intro wz hSw; (try dsimp only at hSw); go_simp; try (with_reducible rfl))
  refine wpAnyS_take (i := 1) (v := ?v1) rfl rfl (by kernel_rfl) (by kernel_rfl) (by kernel_rfl) (fun _ _ _ h => h) (Or.inl ⟨by rfl, ?y1⟩) (fun _ => rfl) hSS ?_
  case y1 => (intro wz hSw; (try dsimp only at hSw); go_simp; try (with_reducible rfl))
  refine wpAnyS_take (i := 2) (v := ?v2) rfl rfl (by kernel_rfl) (by kernel_rfl) (by kernel_rfl) (fun _ _ _ h => h) (Or.inl ⟨by rfl, ?y2⟩) (fun _ => rfl) hSS ?_
  case y2 => (intro wz hSw; (try dsimp only at hSw); go_simp; try (with_reducible rfl))
  clear hSS
  refine wpAnyS_one (i := 3) (by kernel_rfl) rfl (fun K hK => ?_)
  go_simp
  refine ⟨trivial, fun h => by simp [Fence.wide] at h, (callsIn_wide.2 (hrow _ (A.trans (e0.mono A.size)))).mono ?_⟩
  rintro e w1 ⟨v, rfl, bd1, rx⟩
  have b1 : Below W0.heap.size W0 w1 := below_of_drew bd1
  have hS1 := KP.out _ (KpR.of b1)
  have J1 := hJ _ _ _ h0 (A.trans (b1.mono A.size))
  have sA := A.size
  have rx' : RowX w1 n₀ v q := by
    obtain ⟨ga', gc', aa, ac, ta', tc', e, f0, f1, f2⟩ := rx
    have hs : n₀ ≤ W0.drew.heap.size := by show n₀ ≤ W0.heap.size; omega
    exact ⟨ga', gc', aa, ac, ta', tc', e, f0.mono (fun k hk => by omega), f1.mono (fun k hk => by omega), f2.mono (fun k hk => by omega)⟩
  (try dsimp only)
  refine hK.out _ _ hS1 ?_
  clear hK K bd1 rx
  obtain ⟨fn, tmps, assign, body, hy, hR⟩ := hY (n - 1) pre v q w1 J1 hq rx' hM
  refine wpAnyS_one (i := 4) (by kernel_rfl) rfl (fun K hK => ?_)
  go_simp
  refine ⟨fun h => by simp [Fence.wide] at h, hR.mono ?_⟩
  rintro e w2 ⟨rfl, J2, k2⟩
  have K2 := (KpR.of b1).trans k2
  have hS2 := KP.out _ K2
  (try dsimp only)
  refine hK.out _ _ hS2 ?_
  clear hK K hR hy
  refine wpAnyS_one (i := 5) (by kernel_rfl) rfl (fun K hK => ?_)
  go_simp
  refine hK.out _ _ hS2 ?_
  clear hK K
  refine wpAnyS_done (by kernel_rfl) ?_ _
  have KK := (KpR.of A).trans K2
  clear KP hS1 hS2 x0 y0
  gi_wp2
  go_ret
  exact ⟨rfl, J2, KK⟩

end Go.Proofs.Ytjggppnffkcmbaa
namespace Go.Proofs.Ytjggppnffkcmbaa
open Go.RowKit Go.Deep Go.Shelf
set_option linter.unusedVariables false
set_option maxRecDepth 100000
attribute [local go_sem] Oper.semAt_some

abbrev goV (l : Nat) (sa : Option Addr) (N sc : Nat) : Value := .func (.func 115) #[walkV l sa N sc] #[]
/-- What comes of going on, from X on. -/
def GoesOn (l : Nat) (sa : Option Addr) (N sc : Nat) (i : Int) (v : Value) (J : World → Prop) (X : World) : Prop := ∀ m, CallsIn Fence.wide m Try.prog 115 #[walkV l sa N sc, .int .i64 i, v] X fun e Y => e = .returned (.bool true) ∧ J Y ∧ KpR X Y

theorem is_test_test (v : Value) (w : World) : (Instr.typeAssert (.iface 166 v) 151 166 true).run Try.prog w = .ok (.tuple #[v, .bool true]) w := by kernel_rfl
theorem is_test_add (v : Value) (w : World) : (Instr.typeAssert (.iface 166 v) 151 168 true).run Try.prog w = .ok (.tuple #[.agg #[.int .i64 0, .slice none 0 0, .slice none 0 0, .int .i64 0], .bool false]) w := by kernel_rfl
theorem is_test_print (v : Value) (w : World) : (Instr.typeAssert (.iface 166 v) 151 170 true).run Try.prog w = .ok (.tuple #[.agg #[.slice none 0 0, .slice none 0 0, .int .i64 0], .bool false]) w := by kernel_rfl
theorem is_add_test (v : Value) (w : World) : (Instr.typeAssert (.iface 168 v) 151 166 true).run Try.prog w = .ok (.tuple #[.agg #[.int .i64 0, .slice none 0 0, .slice none 0 0, .int .i64 0], .bool false]) w := by kernel_rfl
theorem is_add_add (v : Value) (w : World) : (Instr.typeAssert (.iface 168 v) 151 168 true).run Try.prog w = .ok (.tuple #[v, .bool true]) w := by kernel_rfl
theorem is_add_print (v : Value) (w : World) : (Instr.typeAssert (.iface 168 v) 151 170 true).run Try.prog w = .ok (.tuple #[.agg #[.slice none 0 0, .slice none 0 0, .int .i64 0], .bool false]) w := by kernel_rfl
theorem is_print_test (v : Value) (w : World) : (Instr.typeAssert (.iface 170 v) 151 166 true).run Try.prog w = .ok (.tuple #[.agg #[.int .i64 0, .slice none 0 0, .slice none 0 0, .int .i64 0], .bool false]) w := by kernel_rfl
theorem is_print_add (v : Value) (w : World) : (Instr.typeAssert (.iface 170 v) 151 168 true).run Try.prog w = .ok (.tuple #[.agg #[.int .i64 0, .slice none 0 0, .slice none 0 0, .int .i64 0], .bool false]) w := by kernel_rfl
theorem is_print_print (v : Value) (w : World) : (Instr.typeAssert (.iface 170 v) 151 170 true).run Try.prog w = .ok (.tuple #[v, .bool true]) w := by kernel_rfl
theorem is_stop_test (v : Value) (w : World) : (Instr.typeAssert (.iface 171 v) 151 166 true).run Try.prog w = .ok (.tuple #[.agg #[.int .i64 0, .slice none 0 0, .slice none 0 0, .int .i64 0], .bool false]) w := by kernel_rfl
theorem is_stop_add (v : Value) (w : World) : (Instr.typeAssert (.iface 171 v) 151 168 true).run Try.prog w = .ok (.tuple #[.agg #[.int .i64 0, .slice none 0 0, .slice none 0 0, .int .i64 0], .bool false]) w := by kernel_rfl
theorem is_stop_print (v : Value) (w : World) : (Instr.typeAssert (.iface 171 v) 151 170 true).run Try.prog w = .ok (.tuple #[.agg #[.slice none 0 0, .slice none 0 0, .int .i64 0], .bool false]) w := by kernel_rfl

set_option maxHeartbeats 3200000 in
theorem past_stop (l : Nat) (sa : Option Addr) (N sc : Nat) (nx : Int) (ga : Option Addr) (ng gc : Nat) (pa : Option Addr) (cp : Nat) (ta : Option Addr) (nt tc : Nat) (J : World → Prop) (W : World) (n : Nat)
    (hgo : ∀ X, Below W.heap.size W X → GoesOn l sa N sc 6 (wayV ga ng gc pa cp ta nt tc true) J X) :
    CallsIn Fence.wide n Try.prog 130 #[wayV ga ng gc pa cp ta nt tc false, .iface 171 (.agg #[]), .int .i64 nx, goV l sa N sc] W fun e Y => e = .returned (.bool true) ∧ J Y ∧ KpR W Y := by
  have hdd : ∀ k : Nat, (Fence.wide.depth.isSome = true → 1 ≤ k) := fun k h => by simp [Fence.wide] at h
  refine callsIn_of_wp Try.func130 rfl trivial ?_ rfl
  simp only [Try.ntmps130, List.size_toArray, List.length_cons, List.length_nil, Nat.reduceAdd, Nat.reduceSub, Array.replicate_succ, Array.replicate_zero, List.push_toArray, List.append_toArray, List.nil_append, List.cons_append]
  have t1 := is_stop_test
  have t2 := is_stop_add
  have t3 := is_stop_print
  have A : Below W.heap.size W (W.alloc (.cells #[.slice ga ng gc, .slice pa 3 cp, .slice ta nt tc, .bool true] 143)) := (Below.refl _ _).alloc (Nat.le_refl _) _
  have hc := hgo _ A
  gi_wp2_with fail
  refine ⟨trivial, hdd _, (hc _).mono ?_⟩
  rintro e w1 ⟨rfl, j1, k1⟩
  have kk := (KpR.of A).trans k1
  clear hc
  gi_wp2
  go_ret
  exact ⟨rfl, j1, kk⟩

set_option maxHeartbeats 6400000 in
theorem past_print (l : Nat) (sa : Option Addr) (N sc : Nat) (nx : Int) (i : Nat) (y : Way) (hy : WayOk i y) (h6 : i ≤ 5) (g : FV) (hs : smallB g.n g.m g.C g.D g.K = true) (ga : Option Addr) (ng gc : Nat) (pa : Option Addr) (cp : Nat) (ta : Option Addr) (nt tc : Nat) (J : World → Prop) (W : World) (n : Nat) (hA : g.At W) (hP : FormsAt W pa y.pots) (hT : FormsAt W ta y.tells) (htl : y.tells.length = nt)
    (hgo : ∀ X ta' tc', Below W.heap.size W X → FormsAt X ta' (y.tells ++ [intoX g y.pots]) → GoesOn l sa N sc nx (wayV ga ng gc pa cp ta' (nt + 1) tc' false) J X) :
    CallsIn Fence.wide n Try.prog 130 #[wayV ga ng gc pa cp ta nt tc false, .iface 170 (.agg #[.slice g.a g.n g.cap, .slice g.c g.m g.cap', .int .i64 g.K]), .int .i64 nx, goV l sa N sc] W fun e Y => e = .returned (.bool true) ∧ J Y ∧ KpR W Y := by
  have hdd : ∀ k : Nat, (Fence.wide.depth.isSome = true → 1 ≤ k) := fun k h => by simp [Fence.wide] at h
  obtain ⟨fit1, fit2, -⟩ := hy.into (by omega) (f := g) hs hA.D.1
  have HF1 : Hid _ := fit1
  have HF2 : Hid _ := fit2
  have HY : Hid (WayOk i y) := hy
  have HTL : Hid (y.tells.length = nt) := htl
  have nt1 : nt ≤ 100 := by have := hy.tl; omega
  obtain ⟨FX, hFX⟩ : ∃ FX, FX = intoX g y.pots := ⟨_, rfl⟩
  have HFX : Hid (intoX g y.pots = FX) := hFX.symm
  have lXC := fit2.c
  have lXD := fit2.d
  rw [← hFX] at lXC lXD
  clear fit1 fit2 hy htl hFX
  have A0 : Below W.heap.size W ((W.alloc (.cells #[.slice ga ng gc, .slice pa 3 cp, .slice ta nt tc, .bool false] 143)).alloc (.cells #[.slice g.a g.n g.cap, .slice g.c g.m g.cap', .int .i64 g.K] 170)) := ((Below.refl _ _).alloc (Nat.le_refl _) _).alloc (by simp) _
  have x0 := (Cel.new W [.slice ga ng gc, .slice pa 3 cp, .slice ta nt tc, .bool false] 143).alloc (.cells #[.slice g.a g.n g.cap, .slice g.c g.m g.cap', .int .i64 g.K] 170)
  have y0 := Cel.new (W.alloc (.cells #[.slice ga ng gc, .slice pa 3 cp, .slice ta nt tc, .bool false] 143)) [.slice g.a g.n g.cap, .slice g.c g.m g.cap', .int .i64 g.K] 170
  rw [World.size_alloc] at y0
  have t0 := is_print_test
  have t1 := is_print_add
  have t2 := is_print_print
  refine callsIn_of_wp Try.func130 rfl trivial ?_ rfl
  simp only [Try.ntmps130, List.size_toArray, List.length_cons, List.length_nil, Nat.reduceAdd, Nat.reduceSub, Array.replicate_succ, Array.replicate_zero, List.push_toArray, List.append_toArray, List.nil_append, List.cons_append]
  gi_wp2_with fail
  obtain ⟨W0, hW0⟩ : ∃ W0, W0 = (W.alloc (.cells #[.slice ga ng gc, .slice pa 3 cp, .slice ta nt tc, .bool false] 143)).alloc (.cells #[.slice g.a g.n g.cap, .slice g.c g.m g.cap', .int .i64 g.K] 170) := ⟨_, rfl⟩
  rw [← hW0] at A0 x0 y0 ⊢
  clear hW0
  have KA : Hid (∀ X, KpR W0 X → Cel X W.heap.size [.slice ga ng gc, .slice pa 3 cp, .slice ta nt tc, .bool false] 143) := fun X hX => x0.keepR hX (by decide) (by decide)
  have KB : Hid (∀ X, KpR W0 X → Cel X (W.heap.size + 1) [.slice g.a g.n g.cap, .slice g.c g.m g.cap', .int .i64 g.K] 170) := fun X hX => y0.keepR hX (by decide) (by decide)
  have KP : Hid (∀ X, KpR W0 X → ((X.cell? ⟨W.heap.size, 0, none⟩ = some (.slice ga ng gc) ∧ X.cell? ⟨W.heap.size, 1, none⟩ = some (.slice pa 3 cp) ∧ X.cell? ⟨W.heap.size, 2, none⟩ = some (.slice ta nt tc) ∧ X.cell? ⟨W.heap.size, 3, none⟩ = some (.bool false)) ∧ (X.cell? ⟨W.heap.size + 1, 0, none⟩ = some (.slice g.a g.n g.cap) ∧ X.cell? ⟨W.heap.size + 1, 1, none⟩ = some (.slice g.c g.m g.cap') ∧ X.cell? ⟨W.heap.size + 1, 2, none⟩ = some (.int .i64 g.K)))) := fun X hX => ⟨(KA.out X hX).four, (KB.out X hX).cell 0, (KB.out X hX).cell 1, (KB.out X hX).cell 2⟩
  have e0 : Below W0.heap.size W0 W0.drew := (Below.refl _ _).drew
  have hSS := KP.out _ (KpR.of e0)
  refine wpIn_region_S (fun w' => (w'.cell? ⟨W.heap.size, 0, none⟩ = some (.slice ga ng gc) ∧ w'.cell? ⟨W.heap.size, 1, none⟩ = some (.slice pa 3 cp) ∧ w'.cell? ⟨W.heap.size, 2, none⟩ = some (.slice ta nt tc) ∧ w'.cell? ⟨W.heap.size, 3, none⟩ = some (.bool false)) ∧ (w'.cell? ⟨W.heap.size + 1, 0, none⟩ = some (.slice g.a g.n g.cap) ∧ w'.cell? ⟨W.heap.size + 1, 1, none⟩ = some (.slice g.c g.m g.cap') ∧ w'.cell? ⟨W.heap.size + 1, 2, none⟩ = some (.int .i64 g.K))) (by kernel_rfl) ?_
  refine wpAnyS_take (i := 0) (v := ?v0) rfl rfl (by kernel_rfl) (by kernel_rfl) (by kernel_rfl) (fun _ _ _ h => h) (Or.inl ⟨by rfl, ?y0⟩) (fun _ => rfl) hSS ?_
  case y0 => (intro wz hSw; (try dsimp only at hSw); go_simp; try (with_reducible rfl))
  refine wpAnyS_take (i := 1) (v := ?v1) rfl rfl (by kernel_rfl) (by kernel_rfl) (by kernel_rfl) (fun _ _ _ h => h) (Or.inl ⟨by rfl, ?y1⟩) (fun _ => rfl) hSS ?_
  case y1 => (intro wz hSw; (try dsimp only at hSw); go_simp; try (with_reducible rfl))
  refine wpAnyS_take (i := 2) (v := ?v2) rfl rfl (by kernel_rfl) (by kernel_rfl) (by kernel_rfl) (fun _ _ _ h => h) (Or.inl ⟨by rfl, ?y2⟩) (fun _ => rfl) hSS ?_
  case y2 => (intro wz hSw; (try dsimp only at hSw); go_simp; try (with_reducible rfl))
  refine wpAnyS_take (i := 3) (v := ?v3) rfl rfl (by kernel_rfl) (by kernel_rfl) (by kernel_rfl) (fun _ _ _ h => h) (Or.inl ⟨by rfl, ?y3⟩) (fun _ => rfl) hSS ?_
  case y3 => (intro wz hSw; (try dsimp only at hSw); go_simp; try (with_reducible rfl))
  refine wpAnyS_take (i := 4) (v := ?v4) rfl rfl (by kernel_rfl) (by kernel_rfl) (by kernel_rfl) (fun _ _ _ h => h) (Or.inl ⟨by rfl, ?y4⟩) (fun _ => rfl) hSS ?_
  case y4 => (intro wz hSw; (try dsimp only at hSw); go_simp; try (with_reducible rfl))
  refine wpAnyS_take (i := 5) (v := ?v5) rfl rfl (by kernel_rfl) (by kernel_rfl) (by kernel_rfl) (fun _ _ _ h => h) (Or.inl ⟨by rfl, ?y5⟩) (fun _ => rfl) hSS ?_
  case y5 => (intro wz hSw; (try dsimp only at hSw); go_simp; try (with_reducible rfl))
  refine wpAnyS_take (i := 6) (v := ?v6) rfl rfl (by kernel_rfl) (by kernel_rfl) (by kernel_rfl) (fun _ _ _ h => h) (Or.inl ⟨by rfl, ?y6⟩) (fun _ => rfl) hSS ?_
  case y6 => (intro wz hSw; (try dsimp only at hSw); go_simp; try (with_reducible rfl))
  clear hSS
  refine wpAnyS_one (i := 7) (by kernel_rfl) rfl (fun K hK => ?_)
  go_simp
  refine ⟨trivial, hdd _, (callsIn_wide.2 (iintoW_any HY.out (by omega) g hs _ (hA.below (A0.trans (e0.mono A0.size))) _ _ (hP.keep (A0.trans (e0.mono A0.size))))).mono ?_⟩
  rintro e w1 ⟨B1, B2, c1, c2, rfl, bd1, y1, y2, y3, k1, k2⟩
  rw [HFX.out] at k1 k2 ⊢
  have b1 : Below W0.heap.size W0 w1 := below_of_drew bd1
  have E1 := A0.trans (b1.mono A0.size)
  clear bd1 y1 y2 y3
  (try dsimp only)
  refine hK.out _ _ (KP.out _ (KpR.of b1)) ?_
  clear hK K
  refine wpAnyS_one (i := 8) (by kernel_rfl) rfl (fun K hK => ?_)
  go_simp
  refine ⟨trivial, hdd _, (callsIn_wide.2 (itell_any FX y.tells _ _ _ _ _ _ _ _ _ _ _ _ _ _ HTL.out nt1 (hT.keep E1) (k1.ints' lXC) (k2.ints' lXD))).mono ?_⟩
  rintro e w2 ⟨G, cG, rfl, b2', F2⟩
  have b2 := b1.trans (b2'.mono b1.size)
  have E2 := A0.trans (b2.mono A0.size)
  have HG2 : Hid _ := hgo w2 _ cG E2 (by rw [HFX.out]; exact F2)
  clear k1 k2
  (try dsimp only)
  refine hK.out _ _ (KP.out _ (KpR.of b2)) ?_
  clear hK K
  refine wpAnyS_one (i := 9) (by kernel_rfl) rfl (fun K hK => ?_)
  go_simp
  refine ⟨trivial, hdd _, (HG2.out _).mono ?_⟩
  rintro e w3 ⟨rfl, j3, k3⟩
  have K3 := (KpR.of b2).trans k3
  have KK := (KpR.of A0).trans K3
  (try dsimp only)
  refine hK.out _ _ (KP.out _ K3) ?_
  clear hK K
  refine wpAnyS_one (i := 10) (by kernel_rfl) rfl (fun K hK => ?_)
  go_simp
  refine hK.out _ _ (KP.out _ K3) ?_
  clear hK K
  refine wpAnyS_done (by kernel_rfl) ?_ _
  clear KP KA KB x0 y0 HG2
  gi_wp2
  go_ret
  exact ⟨rfl, j3, KK⟩

set_option maxHeartbeats 6400000 in
theorem past_add (l : Nat) (sa : Option Addr) (N sc : Nat) (nx : Int) (i : Nat) (y : Way) (hy : WayOk i y) (h6 : i ≤ 5) (g : FV) (hs : smallB g.n g.m g.C g.D g.K = true) (ga : Option Addr) (ng gc : Nat) (pa : Option Addr) (cp : Nat) (ta : Option Addr) (nt tc : Nat) (J : World → Prop) (W : World) (n : Nat) (hA : g.At W) (hP : FormsAt W pa y.pots) (hT : FormsAt W ta y.tells) (htl : y.tells.length = nt)
    (p : Nat) (hp : p < 3) (hgo : ∀ X pa' cp', Below W.heap.size W X → FormsAt X pa' (y.add p (intoX g y.pots)).pots → GoesOn l sa N sc nx (wayV ga ng gc pa' cp' ta nt tc false) J X) :
    CallsIn Fence.wide n Try.prog 130 #[wayV ga ng gc pa cp ta nt tc false, .iface 168 (.agg #[.int .i64 (p : Int), .slice g.a g.n g.cap, .slice g.c g.m g.cap', .int .i64 g.K]), .int .i64 nx, goV l sa N sc] W fun e Y => e = .returned (.bool true) ∧ J Y ∧ KpR W Y := by
  have hdd : ∀ k : Nat, (Fence.wide.depth.isSome = true → 1 ≤ k) := fun k h => by simp [Fence.wide] at h
  obtain ⟨fit1, fit2, -⟩ := hy.into (by omega) (f := g) hs hA.D.1
  have HF1 : Hid _ := fit1
  have HF2 : Hid _ := fit2
  have HY : Hid (WayOk i y) := hy
  have HTL : Hid (y.tells.length = nt) := htl
  have nt1 : nt ≤ 100 := by have := hy.tl; omega
  obtain ⟨FX, hFX⟩ : ∃ FX, FX = intoX g y.pots := ⟨_, rfl⟩
  have HFX : Hid (intoX g y.pots = FX) := hFX.symm
  have lXC := fit2.c
  have lXD := fit2.d
  rw [← hFX] at lXC lXD
  have hw := wb_pos i
  have hw6 := wb_six (n := i) (by omega)
  have hq := hy.pf p hp
  rw [show min i 6 = i by omega] at hq
  have HQ1 : Hid (fitX 10000000 (y.pots[p]?.getD noX)) := hq.mono (by omega)
  have HQ3 : Hid (fitX 10000000 (plusX (y.pots[p]?.getD noX) (intoX g y.pots))) := (plusX_fit hq fit1 (by omega)).mono (by omega)
  clear fit1 fit2 hy htl hFX hq
  have A0 : Below W.heap.size W ((W.alloc (.cells #[.slice ga ng gc, .slice pa 3 cp, .slice ta nt tc, .bool false] 143)).alloc (.cells #[.int .i64 (p : Int), .slice g.a g.n g.cap, .slice g.c g.m g.cap', .int .i64 g.K] 168)) := ((Below.refl _ _).alloc (Nat.le_refl _) _).alloc (by simp) _
  have x0 := (Cel.new W [.slice ga ng gc, .slice pa 3 cp, .slice ta nt tc, .bool false] 143).alloc (.cells #[.int .i64 (p : Int), .slice g.a g.n g.cap, .slice g.c g.m g.cap', .int .i64 g.K] 168)
  have y0 := Cel.new (W.alloc (.cells #[.slice ga ng gc, .slice pa 3 cp, .slice ta nt tc, .bool false] 143)) [.int .i64 (p : Int), .slice g.a g.n g.cap, .slice g.c g.m g.cap', .int .i64 g.K] 168
  rw [World.size_alloc] at y0
  have t0 := is_add_test
  have t1 := is_add_add
  have t2 := is_add_print
  refine callsIn_of_wp Try.func130 rfl trivial ?_ rfl
  simp only [Try.ntmps130, List.size_toArray, List.length_cons, List.length_nil, Nat.reduceAdd, Nat.reduceSub, Array.replicate_succ, Array.replicate_zero, List.push_toArray, List.append_toArray, List.nil_append, List.cons_append]
  gi_wp2_with fail
  obtain ⟨W0, hW0⟩ : ∃ W0, W0 = (W.alloc (.cells #[.slice ga ng gc, .slice pa 3 cp, .slice ta nt tc, .bool false] 143)).alloc (.cells #[.int .i64 (p : Int), .slice g.a g.n g.cap, .slice g.c g.m g.cap', .int .i64 g.K] 168) := ⟨_, rfl⟩
  rw [← hW0] at A0 x0 y0 ⊢
  clear hW0
  have KA : Hid (∀ X, KpR W0 X → Cel X W.heap.size [.slice ga ng gc, .slice pa 3 cp, .slice ta nt tc, .bool false] 143) := fun X hX => x0.keepR hX (by decide) (by decide)
  have KB : Hid (∀ X, KpR W0 X → Cel X (W.heap.size + 1) [.int .i64 (p : Int), .slice g.a g.n g.cap, .slice g.c g.m g.cap', .int .i64 g.K] 168) := fun X hX => y0.keepR hX (by decide) (by decide)
  have KP : Hid (∀ X, KpR W0 X → ((X.cell? ⟨W.heap.size, 0, none⟩ = some (.slice ga ng gc) ∧ X.cell? ⟨W.heap.size, 1, none⟩ = some (.slice pa 3 cp) ∧ X.cell? ⟨W.heap.size, 2, none⟩ = some (.slice ta nt tc) ∧ X.cell? ⟨W.heap.size, 3, none⟩ = some (.bool false)) ∧ (X.cell? ⟨W.heap.size + 1, 0, none⟩ = some (.int .i64 (p : Int)) ∧ X.cell? ⟨W.heap.size + 1, 1, none⟩ = some (.slice g.a g.n g.cap) ∧ X.cell? ⟨W.heap.size + 1, 2, none⟩ = some (.slice g.c g.m g.cap') ∧ X.cell? ⟨W.heap.size + 1, 3, none⟩ = some (.int .i64 g.K)))) := fun X hX => ⟨(KA.out X hX).four, (KB.out X hX).cell 0, (KB.out X hX).cell 1, (KB.out X hX).cell 2, (KB.out X hX).cell 3⟩
  have e0 : Below W0.heap.size W0 W0.drew := (Below.refl _ _).drew
  have hSS := KP.out _ (KpR.of e0)
  refine wpIn_region_S (fun w' => (w'.cell? ⟨W.heap.size, 0, none⟩ = some (.slice ga ng gc) ∧ w'.cell? ⟨W.heap.size, 1, none⟩ = some (.slice pa 3 cp) ∧ w'.cell? ⟨W.heap.size, 2, none⟩ = some (.slice ta nt tc) ∧ w'.cell? ⟨W.heap.size, 3, none⟩ = some (.bool false)) ∧ (w'.cell? ⟨W.heap.size + 1, 0, none⟩ = some (.int .i64 (p : Int)) ∧ w'.cell? ⟨W.heap.size + 1, 1, none⟩ = some (.slice g.a g.n g.cap) ∧ w'.cell? ⟨W.heap.size + 1, 2, none⟩ = some (.slice g.c g.m g.cap') ∧ w'.cell? ⟨W.heap.size + 1, 3, none⟩ = some (.int .i64 g.K))) (by kernel_rfl) ?_
  refine wpAnyS_take (i := 0) (v := ?v0) rfl rfl (by kernel_rfl) (by kernel_rfl) (by kernel_rfl) (fun _ _ _ h => h) (Or.inl ⟨by rfl, ?y0⟩) (fun _ => rfl) hSS ?_
  case y0 => (intro wz hSw; (try dsimp only at hSw); go_simp; try (with_reducible rfl))
  refine wpAnyS_take (i := 1) (v := ?v1) rfl rfl (by kernel_rfl) (by kernel_rfl) (by kernel_rfl) (fun _ _ _ h => h) (Or.inl ⟨by rfl, ?y1⟩) (fun _ => rfl) hSS ?_
  case y1 => (intro wz hSw; (try dsimp only at hSw); go_simp; try (with_reducible rfl))
  refine wpAnyS_take (i := 2) (v := ?v2) rfl rfl (by kernel_rfl) (by kernel_rfl) (by kernel_rfl) (fun _ _ _ h => h) (Or.inl ⟨by rfl, ?y2⟩) (fun _ => rfl) hSS ?_
  case y2 => (intro wz hSw; (try dsimp only at hSw); go_simp; try (with_reducible rfl))
  refine wpAnyS_take (i := 3) (v := ?v3) rfl rfl (by kernel_rfl) (by kernel_rfl) (by kernel_rfl) (fun _ _ _ h => h) (Or.inl ⟨by rfl, ?y3⟩) (fun _ => rfl) hSS ?_
  case y3 => (intro wz hSw; (try dsimp only at hSw); go_simp; try (with_reducible rfl))
  refine wpAnyS_take (i := 4) (v := ?v4) rfl rfl (by kernel_rfl) (by kernel_rfl) (by kernel_rfl) (fun _ _ _ h => h) (Or.inl ⟨by rfl, ?y4⟩) (fun _ => rfl) hSS ?_
  case y4 => (intro wz hSw; (try dsimp only at hSw); go_simp; try (with_reducible rfl))
  refine wpAnyS_take (i := 5) (v := ?v5) rfl rfl (by kernel_rfl) (by kernel_rfl) (by kernel_rfl) (fun _ _ _ h => h) (Or.inl ⟨by rfl, ?y5⟩) (fun _ => rfl) hSS ?_
  case y5 => (intro wz hSw; (try dsimp only at hSw); go_simp; try (with_reducible rfl))
  refine wpAnyS_take (i := 6) (v := ?v6) rfl rfl (by kernel_rfl) (by kernel_rfl) (by kernel_rfl) (fun _ _ _ h => h) (Or.inl ⟨by rfl, ?y6⟩) (fun _ => rfl) hSS ?_
  case y6 => (intro wz hSw; (try dsimp only at hSw); go_simp; try (with_reducible rfl))
  refine wpAnyS_take (i := 7) (v := ?v7) rfl rfl (by kernel_rfl) (by kernel_rfl) (by kernel_rfl) (fun _ _ _ h => h) (Or.inl ⟨by rfl, ?y7⟩) (fun _ => rfl) hSS ?_
  case y7 => (intro wz hSw; (try dsimp only at hSw); go_simp; try (with_reducible rfl))
  refine wpAnyS_take (i := 8) (v := ?v8) rfl rfl (by kernel_rfl) (by kernel_rfl) (by kernel_rfl) (fun _ _ _ h => h) (Or.inl ⟨by rfl, ?y8⟩) (fun _ => rfl) hSS ?_
  case y8 => (intro wz hSw; (try dsimp only at hSw); go_simp; try (with_reducible rfl))
  clear hSS
  refine wpAnyS_one (i := 9) (by kernel_rfl) rfl (fun K hK => ?_)
  go_simp
  refine ⟨trivial, hdd _, (callsIn_wide.2 (iintoW_any HY.out (by omega) g hs _ (hA.below (A0.trans (e0.mono A0.size))) _ _ (hP.keep (A0.trans (e0.mono A0.size))))).mono ?_⟩
  rintro e w1 ⟨B1, B2, c1, c2, rfl, bd1, y1, y2, y3, k1, k2⟩
  rw [HFX.out] at k1 k2 ⊢
  have b1 : Below W0.heap.size W0 w1 := below_of_drew bd1
  have E1 := A0.trans (b1.mono A0.size)
  clear bd1 y1 y2 y3
  (try dsimp only)
  refine hK.out _ _ (KP.out _ (KpR.of b1)) ?_
  clear hK K
  refine wpAnyS_one (i := 10) (by kernel_rfl) rfl (fun K hK => ?_)
  go_simp
  refine ⟨trivial, hdd _, (callsIn_wide.2 (iadding_any y p hp FX _ _ _ _ _ _ _ _ _ _ _ _ _ _ HY.out.pl (hP.keep E1) (k1.ints' lXC) (k2.ints' lXD) HQ1.out (by rw [← HFX.out]; exact HF2.out) (by rw [← HFX.out]; exact HQ3.out))).mono ?_⟩
  rintro e w2 ⟨G, cG, rfl, b2', F2⟩
  have b2 := b1.trans (b2'.mono b1.size)
  have E2 := A0.trans (b2.mono A0.size)
  have HG2 : Hid _ := hgo w2 _ cG E2 (by rw [HFX.out]; exact F2)
  clear k1 k2
  (try dsimp only)
  refine hK.out _ _ (KP.out _ (KpR.of b2)) ?_
  clear hK K
  refine wpAnyS_one (i := 11) (by kernel_rfl) rfl (fun K hK => ?_)
  go_simp
  refine ⟨trivial, hdd _, (HG2.out _).mono ?_⟩
  rintro e w3 ⟨rfl, j3, k3⟩
  have K3 := (KpR.of b2).trans k3
  have KK := (KpR.of A0).trans K3
  (try dsimp only)
  refine hK.out _ _ (KP.out _ K3) ?_
  clear hK K
  refine wpAnyS_one (i := 12) (by kernel_rfl) rfl (fun K hK => ?_)
  go_simp
  refine hK.out _ _ (KP.out _ K3) ?_
  clear hK K
  refine wpAnyS_done (by kernel_rfl) ?_ _
  clear KP KA KB x0 y0 HG2
  gi_wp2
  go_ret
  exact ⟨rfl, j3, KK⟩

end Go.Proofs.Ytjggppnffkcmbaa
namespace Go.Proofs.Ytjggppnffkcmbaa
open Go.RowKit Go.Deep Go.Shelf
set_option linter.unusedVariables false
set_option maxRecDepth 100000
attribute [local go_sem] Oper.semAt_some

set_option maxHeartbeats 12800000 in
theorem past_test (l : Nat) (sa : Option Addr) (N sc : Nat) (nx sk : Int) (hnx : 0 ≤ nx ∧ nx ≤ 100) (hsk : 0 ≤ sk ∧ sk ≤ 100) (i : Nat) (y : Way) (hy : WayOk i y) (h6 : i ≤ 5) (g : FV) (hs : smallB g.n g.m g.C g.D g.K = true) (ga : Option Addr) (ng gc : Nat) (pa : Option Addr) (cp : Nat) (ta : Option Addr) (nt tc : Nat) (J1 J2 : World → Prop) (hJ1 : ∀ X Y, J1 X → Below X.heap.size X Y → J1 Y) (W : World) (n : Nat) (hA : g.At W) (hP : FormsAt W pa y.pots) (hG : FormsAt W ga y.guards) (hgl : y.guards.length = ng)
    (hgo1 : ∀ X ga' gc', Below W.heap.size W X → FormsAt X ga' (y.guards ++ [intoX g y.pots]) → GoesOn l sa N sc nx (wayV ga' (ng + 1) gc' pa cp ta nt tc false) J1 X)
    (hgo2 : ∀ X ga' gc', KpR W X → J1 X → FormsAt X ga' (y.guards ++ [minusX (intoX g y.pots)]) → GoesOn l sa N sc (nx + sk) (wayV ga' (ng + 1) gc' pa cp ta nt tc false) J2 X) :
    CallsIn Fence.wide n Try.prog 130 #[wayV ga ng gc pa cp ta nt tc false, .iface 166 (.agg #[.int .i64 sk, .slice g.a g.n g.cap, .slice g.c g.m g.cap', .int .i64 g.K]), .int .i64 nx, goV l sa N sc] W fun e Y => e = .returned (.bool true) ∧ J2 Y ∧ KpR W Y := by
  have hdd : ∀ k : Nat, (Fence.wide.depth.isSome = true → 1 ≤ k) := fun k h => by simp [Fence.wide] at h
  obtain ⟨hnx0, hnx1⟩ := hnx
  obtain ⟨hsk0, hsk1⟩ := hsk
  obtain ⟨-, fit2, fit3⟩ := hy.into (by omega) (f := g) hs hA.D.1
  have HY : Hid (WayOk i y) := hy
  have HGL : Hid (y.guards.length = ng) := hgl
  have ng1 : ng ≤ 100 := by have := hy.gl; omega
  obtain ⟨FX, hFX⟩ : ∃ FX, FX = intoX g y.pots := ⟨_, rfl⟩
  have HFX : Hid (intoX g y.pots = FX) := hFX.symm
  rw [← hFX] at fit2 fit3 hgo1 hgo2
  have lXC := fit2.c
  have lXD := fit2.d
  have bXC := fit2.bc
  have bXD := fit2.bd
  have bX1 := fit2.k1
  have bX2 := fit2.k2
  have HF3 : Hid (fitX 10000000 (minusX FX)) := fit3
  have hK3 : (minusX FX).2.2 = -FX.2.2 - 1 := by simp only [minusX]; omega
  have HK3 : Hid _ := hK3
  have hw : IntKind.i64.wrap (nx + sk) = nx + sk := wrap_id (by omega) (by omega)
  clear fit2 fit3 hy hgl hFX hK3
  have A0 : Below W.heap.size W ((W.alloc (.cells #[.slice ga ng gc, .slice pa 3 cp, .slice ta nt tc, .bool false] 143)).alloc (.cells #[.int .i64 sk, .slice g.a g.n g.cap, .slice g.c g.m g.cap', .int .i64 g.K] 166)) := ((Below.refl _ _).alloc (Nat.le_refl _) _).alloc (by simp) _
  have x0 := (Cel.new W [.slice ga ng gc, .slice pa 3 cp, .slice ta nt tc, .bool false] 143).alloc (.cells #[.int .i64 sk, .slice g.a g.n g.cap, .slice g.c g.m g.cap', .int .i64 g.K] 166)
  have y0 := Cel.new (W.alloc (.cells #[.slice ga ng gc, .slice pa 3 cp, .slice ta nt tc, .bool false] 143)) [.int .i64 sk, .slice g.a g.n g.cap, .slice g.c g.m g.cap', .int .i64 g.K] 166
  rw [World.size_alloc] at y0
  have t1 := is_test_test
  refine callsIn_of_wp Try.func130 rfl trivial ?_ rfl
  simp only [Try.ntmps130, List.size_toArray, List.length_cons, List.length_nil, Nat.reduceAdd, Nat.reduceSub, Array.replicate_succ, Array.replicate_zero, List.push_toArray, List.append_toArray, List.nil_append, List.cons_append]
  gi_wp2_with fail
  refine ⟨trivial, hdd _, (callsIn_wide.2 (iintoW_any HY.out (by omega) g hs _ (hA.below A0) _ _ (hP.keep A0))).mono ?_⟩
  rintro e w1 ⟨B1, B2, c1, c2, rfl, b1, y1, y2, y3, k1, k2⟩
  rw [HFX.out] at k1 k2 ⊢
  have E1 := A0.trans (b1.mono A0.size)
  have x1 := x0.below b1
  have y1' := y0.below b1
  have A1 : Below w1.heap.size w1 (w1.alloc (.cells #[.slice (some ⟨B1, 0, none⟩) 3 c1, .slice (some ⟨B2, 0, none⟩) 2 c2, .int .i64 FX.2.2] 34)) := (Below.refl _ _).alloc (Nat.le_refl _) _
  have x2 := x1.below A1
  have y2' := y1'.below A1
  have z2 := Cel.new w1 [.slice (some ⟨B1, 0, none⟩) 3 c1, .slice (some ⟨B2, 0, none⟩) 2 c2, .int .i64 FX.2.2] 34
  have E2 := E1.trans (A1.mono E1.size)
  have u1 := k1.below A1
  have u2 := k2.below A1
  clear x0 y0 x1 y1' A0 b1 y1 y2 y3 k1 k2 E1
  gi_wp2_with fail
  obtain ⟨W0, hW0⟩ : ∃ W0, W0 = w1.alloc (.cells #[.slice (some ⟨B1, 0, none⟩) 3 c1, .slice (some ⟨B2, 0, none⟩) 2 c2, .int .i64 FX.2.2] 34) := ⟨_, rfl⟩
  rw [← hW0] at x2 y2' z2 E2 u1 u2 ⊢
  clear hW0 A1
  have KP : Hid (∀ X, KpR W0 X → ((X.cell? ⟨W.heap.size, 0, none⟩ = some (.slice ga ng gc) ∧ X.cell? ⟨W.heap.size, 1, none⟩ = some (.slice pa 3 cp) ∧ X.cell? ⟨W.heap.size, 2, none⟩ = some (.slice ta nt tc) ∧ X.cell? ⟨W.heap.size, 3, none⟩ = some (.bool false)) ∧ (X.cell? ⟨W.heap.size + 1, 0, none⟩ = some (.int .i64 sk) ∧ X.cell? ⟨W.heap.size + 1, 1, none⟩ = some (.slice g.a g.n g.cap) ∧ X.cell? ⟨W.heap.size + 1, 2, none⟩ = some (.slice g.c g.m g.cap') ∧ X.cell? ⟨W.heap.size + 1, 3, none⟩ = some (.int .i64 g.K)) ∧ (X.cell? ⟨w1.heap.size, 0, none⟩ = some (.slice (some ⟨B1, 0, none⟩) 3 c1) ∧ X.cell? ⟨w1.heap.size, 1, none⟩ = some (.slice (some ⟨B2, 0, none⟩) 2 c2) ∧ X.cell? ⟨w1.heap.size, 2, none⟩ = some (.int .i64 FX.2.2)))) := fun X hX => by
    have q1 := x2.keepR hX (by decide) (by decide)
    have q2 := y2'.keepR hX (by decide) (by decide)
    have q3 := z2.keepR hX (by decide) (by decide)
    obtain ⟨m0, m1, m2, -, -, -⟩ := q3.trio
    exact ⟨q1.four, ⟨q2.cell 0, q2.cell 1, q2.cell 2, q2.cell 3⟩, m0, m1, m2⟩
  have e0 : Below W0.heap.size W0 W0.drew := (Below.refl _ _).drew
  have hSS := KP.out _ (KpR.of e0)
  have G0 := hG.keep E2
  clear x2 y2' z2
  refine wpIn_region_S (fun w' => (w'.cell? ⟨W.heap.size, 0, none⟩ = some (.slice ga ng gc) ∧ w'.cell? ⟨W.heap.size, 1, none⟩ = some (.slice pa 3 cp) ∧ w'.cell? ⟨W.heap.size, 2, none⟩ = some (.slice ta nt tc) ∧ w'.cell? ⟨W.heap.size, 3, none⟩ = some (.bool false)) ∧ (w'.cell? ⟨W.heap.size + 1, 0, none⟩ = some (.int .i64 sk) ∧ w'.cell? ⟨W.heap.size + 1, 1, none⟩ = some (.slice g.a g.n g.cap) ∧ w'.cell? ⟨W.heap.size + 1, 2, none⟩ = some (.slice g.c g.m g.cap') ∧ w'.cell? ⟨W.heap.size + 1, 3, none⟩ = some (.int .i64 g.K)) ∧ (w'.cell? ⟨w1.heap.size, 0, none⟩ = some (.slice (some ⟨B1, 0, none⟩) 3 c1) ∧ w'.cell? ⟨w1.heap.size, 1, none⟩ = some (.slice (some ⟨B2, 0, none⟩) 2 c2) ∧ w'.cell? ⟨w1.heap.size, 2, none⟩ = some (.int .i64 FX.2.2))) (by kernel_rfl) ?_
  refine wpAnyS_take (i := 0) (v := ?v0) rfl rfl (by kernel_rfl) (by kernel_rfl) (by kernel_rfl) (fun _ _ _ h => h) (Or.inl ⟨by rfl, ?y0⟩) (fun _ => rfl) hSS ?_
  case y0 => (intro wz hSw; (try dsimp only at hSw); go_simp; try (with_reducible rfl))
  refine wpAnyS_take (i := 1) (v := ?v1) rfl rfl (by kernel_rfl) (by kernel_rfl) (by kernel_rfl) (fun _ _ _ h => h) (Or.inl ⟨by rfl, ?y1⟩) (fun _ => rfl) hSS ?_
  case y1 => (intro wz hSw; (try dsimp only at hSw); go_simp; try (with_reducible rfl))
  refine wpAnyS_take (i := 2) (v := ?v2) rfl rfl (by kernel_rfl) (by kernel_rfl) (by kernel_rfl) (fun _ _ _ h => h) (Or.inl ⟨by rfl, ?y2⟩) (fun _ => rfl) hSS ?_
  case y2 => (intro wz hSw; (try dsimp only at hSw); go_simp; try (with_reducible rfl))
  refine wpAnyS_take (i := 3) (v := ?v3) rfl rfl (by kernel_rfl) (by kernel_rfl) (by kernel_rfl) (fun _ _ _ h => h) (Or.inl ⟨by rfl, ?y3⟩) (fun _ => rfl) hSS ?_
  case y3 => (intro wz hSw; (try dsimp only at hSw); go_simp; try (with_reducible rfl))
  clear hSS
  refine wpAnyS_one (i := 4) (by kernel_rfl) rfl (fun K hK => ?_)
  go_simp
  refine ⟨trivial, hdd _, (callsIn_wide.2 (iguard_any FX y.guards _ _ _ _ _ _ _ _ _ _ _ _ _ _ HGL.out ng1 (G0.keep e0) ((u1.below e0).ints' lXC) ((u2.below e0).ints' lXD))).mono ?_⟩
  rintro e w2 ⟨G, cG, rfl, bd2, F2⟩
  have b2 : Below W0.heap.size W0 w2 := below_of_drew bd2
  have HG1 : Hid _ := hgo1 w2 _ cG (E2.trans (b2.mono E2.size)) F2
  clear bd2 F2 e0
  (try dsimp only)
  refine hK.out _ _ (KP.out _ (KpR.of b2)) ?_
  clear hK K
  refine wpAnyS_one (i := 5) (by kernel_rfl) rfl (fun K hK => ?_)
  go_simp
  refine ⟨trivial, hdd _, (HG1.out _).mono ?_⟩
  rintro e w3 ⟨rfl, j3, k3⟩
  have K3 := (KpR.of b2).trans k3
  have hS3 := KP.out _ K3
  (try dsimp only)
  refine hK.out _ _ hS3 ?_
  clear hK K HG1 k3
  refine wpAnyS_one (i := 6) (by kernel_rfl) rfl (fun K hK => ?_)
  go_simp
  refine hK.out _ _ hS3 ?_
  clear hK K
  refine wpAnyS_take (i := 7) (v := ?dv7) rfl rfl (by kernel_rfl) (by kernel_rfl) (by kernel_rfl) (fun _ _ _ h => h) (Or.inl ⟨by kernel_rfl, ?dy7⟩) (fun _ => rfl) hS3 ?_
  case dy7 => (intro wz hSw; (try dsimp only at hSw); go_simp; try (with_reducible rfl))
  refine wpAnyS_take (i := 8) (v := ?dv8) rfl rfl (by kernel_rfl) (by kernel_rfl) (by kernel_rfl) (fun _ _ _ h => h) (Or.inl ⟨by kernel_rfl, ?dy8⟩) (fun _ => rfl) hS3 ?_
  case dy8 => (intro wz hSw; (try dsimp only at hSw); go_simp; try (with_reducible rfl))
  refine wpAnyS_take (i := 9) (v := ?dv9) rfl rfl (by kernel_rfl) (by kernel_rfl) (by kernel_rfl) (fun _ _ _ h => h) (Or.inl ⟨by kernel_rfl, ?dy9⟩) (fun _ => rfl) hS3 ?_
  case dy9 => (intro wz hSw; (try dsimp only at hSw); go_simp; try (with_reducible rfl))
  refine wpAnyS_take (i := 10) (v := ?dv10) rfl rfl (by kernel_rfl) (by kernel_rfl) (by kernel_rfl) (fun _ _ _ h => h) (Or.inl ⟨by kernel_rfl, ?dy10⟩) (fun _ => rfl) hS3 ?_
  case dy10 => (intro wz hSw; (try dsimp only at hSw); go_simp; try (with_reducible rfl))
  refine wpAnyS_take (i := 11) (v := ?dv11) rfl rfl (by kernel_rfl) (by kernel_rfl) (by kernel_rfl) (fun _ _ _ h => h) (Or.inl ⟨by kernel_rfl, ?dy11⟩) (fun _ => rfl) hS3 ?_
  case dy11 => (intro wz hSw; (try dsimp only at hSw); go_simp; try (with_reducible rfl))
  refine wpAnyS_take (i := 12) (v := ?dv12) rfl rfl (by kernel_rfl) (by kernel_rfl) (by kernel_rfl) (fun _ _ _ h => h) (Or.inl ⟨by kernel_rfl, ?dy12⟩) (fun _ => rfl) hS3 ?_
  case dy12 => (intro wz hSw; (try dsimp only at hSw); go_simp; try (with_reducible rfl))
  refine wpAnyS_take (i := 13) (v := ?dv13) rfl rfl (by kernel_rfl) (by kernel_rfl) (by kernel_rfl) (fun _ _ _ h => h) (Or.inl ⟨by kernel_rfl, ?dy13⟩) (fun _ => rfl) hS3 ?_
  case dy13 => (intro wz hSw; (try dsimp only at hSw); go_simp; try (with_reducible rfl))
  have v1 := (u1.ints' lXC).keepR K3
  have v2 := (u2.ints' lXD).keepR K3
  have G3 := G0.keepR K3
  clear hS3 u1 u2 G0 b2
  refine wpAnyS_one (i := 14) (by kernel_rfl) rfl (fun K hK => ?_)
  go_simp
  refine ⟨trivial, hdd _, (callsIn_wide.2 (ilack_any _ _ _ _ _ FX.1 FX.2.1 _ v1 v2 bXC bXD bX1 bX2 HF3.out)).mono ?_⟩
  rintro e w4 ⟨M1, M2, rfl, b4, -, -, -, m1, m2⟩
  have K4 := K3.trans (KpR.of b4)
  have j4 := hJ1 _ _ j3 b4
  (try dsimp only)
  refine hK.out _ _ (KP.out _ K4) ?_
  clear hK K j3 K3
  have hcall := iguard_any (minusX FX) y.guards ga ng gc pa cp ta nt tc false (some ⟨M1, 0, none⟩) 3 (some ⟨M2, 0, none⟩) 2 w4 HGL.out ng1 (G3.keep b4) (m1.ints' (by rw [mulL_len]; exact lXC)) (m2.ints' (by rw [mulL_len]; exact lXD))
  rw [HK3.out] at hcall
  refine wpAnyS_one (i := 15) (by kernel_rfl) rfl (fun K hK => ?_)
  go_simp
  refine ⟨trivial, hdd _, (callsIn_wide.2 hcall).mono ?_⟩
  rintro e w5 ⟨G5, c5, rfl, b5, F5⟩
  have K5 := K4.trans (KpR.of b5)
  have HG2 : Hid _ := hgo2 w5 _ c5 ((KpR.of E2).trans K5) (hJ1 _ _ j4 b5) F5
  (try dsimp only)
  refine hK.out _ _ (KP.out _ K5) ?_
  clear hK K hcall F5 j4 K4 m1 m2
  refine wpAnyS_one (i := 16) (by kernel_rfl) rfl (fun K hK => ?_)
  go_simp
  refine ⟨trivial, hdd _, (HG2.out _).mono ?_⟩
  rintro e w6 ⟨rfl, j6, k6⟩
  have K6 := K5.trans k6
  have KK := (KpR.of E2).trans K6
  (try dsimp only)
  refine hK.out _ _ (KP.out _ K6) ?_
  clear hK K HG2
  refine wpAnyS_one (i := 17) (by kernel_rfl) rfl (fun K hK => ?_)
  go_simp
  refine hK.out _ _ (KP.out _ K6) ?_
  clear hK K
  refine wpAnyS_one (i := 18) (by kernel_rfl) rfl (fun K hK => ?_)
  go_simp
  refine hK.out _ _ (KP.out _ K6) ?_
  clear hK K
  refine wpAnyS_done (by kernel_rfl) ?_ _
  clear KP
  gi_wp2
  go_ret
  exact ⟨rfl, j6, KK⟩

end Go.Proofs.Ytjggppnffkcmbaa
namespace Go.Proofs.Ytjggppnffkcmbaa
open Go.RowKit Go.Deep Go.Shelf
set_option linter.unusedVariables false
set_option maxRecDepth 100000
attribute [local go_sem] Oper.semAt_some

set_option maxHeartbeats 6400000 in
theorem from_step (l : Nat) (SG N sc i0 : Nat) (hlt : i0 < N) (hi1 : i0 ≤ 12) (ga : Option Addr) (ng gc : Nat) (pa : Option Addr) (cp : Nat) (ta : Option Addr) (nt tc : Nat) (ty : TypeId) (sv : Value) (cur : List Value) (J : World → Prop) (W : World) (n : Nat) (hC : Cel W SG cur 151) (hv : cur[i0]? = some (.iface ty sv))
    (hpast : ∀ X m, Below W.heap.size W X → CallsIn Fence.wide m Try.prog 130 #[wayV ga ng gc pa cp ta nt tc false, .iface ty sv, .int .i64 ((i0 : Int) + 1), goV l (some ⟨SG, 0, none⟩) N sc] X fun e Y => e = .returned (.bool true) ∧ J Y ∧ KpR X Y) :
    CallsIn Fence.wide n Try.prog 115 #[walkV l (some ⟨SG, 0, none⟩) N sc, .int .i64 (i0 : Int), wayV ga ng gc pa cp ta nt tc false] W fun e Y => e = .returned (.bool true) ∧ J Y ∧ KpR W Y := by
  have hdd : ∀ k : Nat, (Fence.wide.depth.isSome = true → 1 ≤ k) := fun k h => by simp [Fence.wide] at h
  have hge : ¬ ((N : Int) ≤ i0) := by omega
  have hlt' : (i0 : Int) < N := by omega
  have hw : IntKind.i64.wrap ((i0 : Int) + 1) = (i0 : Int) + 1 := wrap_id (by omega) (by omega)
  have A : Below W.heap.size W ((W.alloc (.cells #[.slice (some ⟨SG, 0, none⟩) N sc, .func (.yield l) #[] #[]] 140)).alloc (.cells #[.slice ga ng gc, .slice pa 3 cp, .slice ta nt tc, .bool false] 143)) := ((Below.refl _ _).alloc (Nat.le_refl _) _).alloc (by simp) _
  have x0 := (Cel.new W [.slice (some ⟨SG, 0, none⟩) N sc, .func (.yield l) #[] #[]] 140).alloc (.cells #[.slice ga ng gc, .slice pa 3 cp, .slice ta nt tc, .bool false] 143)
  have y0 := Cel.new (W.alloc (.cells #[.slice (some ⟨SG, 0, none⟩) N sc, .func (.yield l) #[] #[]] 140)) [.slice ga ng gc, .slice pa 3 cp, .slice ta nt tc, .bool false] 143
  rw [World.size_alloc] at y0
  have s0 := hC.below A
  refine callsIn_of_wp Try.func115 rfl trivial ?_ rfl
  simp only [Try.ntmps115, List.size_toArray, List.length_cons, List.length_nil, Nat.reduceAdd, Nat.reduceSub, Array.replicate_succ, Array.replicate_zero, List.push_toArray, List.append_toArray, List.nil_append, List.cons_append]
  gi_wp2_with fail
  obtain ⟨W0, hW0⟩ : ∃ W0, W0 = (W.alloc (.cells #[.slice (some ⟨SG, 0, none⟩) N sc, .func (.yield l) #[] #[]] 140)).alloc (.cells #[.slice ga ng gc, .slice pa 3 cp, .slice ta nt tc, .bool false] 143) := ⟨_, rfl⟩
  rw [← hW0] at A x0 y0 s0 ⊢
  clear hW0
  have KP : Hid (∀ X, KpR W0 X → ((X.cell? ⟨W.heap.size, 0, none⟩ = some (.slice (some ⟨SG, 0, none⟩) N sc) ∧ X.cell? ⟨W.heap.size, 1, none⟩ = some (.func (.yield l) #[] #[])) ∧ (X.cell? ⟨W.heap.size + 1, 0, none⟩ = some (.slice ga ng gc) ∧ X.cell? ⟨W.heap.size + 1, 1, none⟩ = some (.slice pa 3 cp) ∧ X.cell? ⟨W.heap.size + 1, 2, none⟩ = some (.slice ta nt tc) ∧ X.cell? ⟨W.heap.size + 1, 3, none⟩ = some (.bool false)) ∧ X.cell? ⟨SG, i0, none⟩ = some (.iface ty sv))) := fun X hX => by
    have a1 := x0.keepR hX (by decide) (by decide)
    have a2 := y0.keepR hX (by decide) (by decide)
    have a3 := s0.keepR hX (by decide) (by decide)
    exact ⟨⟨a1.cell 0, a1.cell 1⟩, a2.four, (a3.cell i0).trans hv⟩
  have e0 : Below W0.heap.size W0 W0.drew := (Below.refl _ _).drew
  have hSS := KP.out _ (KpR.of e0)
  have HP : Hid _ := hpast _ (n - 1) (A.trans (e0.mono A.size))
  clear x0 y0 s0 hpast
  refine wpIn_region_S (fun w' => (w'.cell? ⟨W.heap.size, 0, none⟩ = some (.slice (some ⟨SG, 0, none⟩) N sc) ∧ w'.cell? ⟨W.heap.size, 1, none⟩ = some (.func (.yield l) #[] #[])) ∧ (w'.cell? ⟨W.heap.size + 1, 0, none⟩ = some (.slice ga ng gc) ∧ w'.cell? ⟨W.heap.size + 1, 1, none⟩ = some (.slice pa 3 cp) ∧ w'.cell? ⟨W.heap.size + 1, 2, none⟩ = some (.slice ta nt tc) ∧ w'.cell? ⟨W.heap.size + 1, 3, none⟩ = some (.bool false)) ∧ w'.cell? ⟨SG, i0, none⟩ = some (.iface ty sv)) (by kernel_rfl) ?_
  refine wpAnyS_take (i := 0) (v := ?v0) rfl rfl (by kernel_rfl) (by kernel_rfl) (by kernel_rfl) (fun _ _ _ h => h) (Or.inl ⟨by rfl, ?y0⟩) (fun _ => rfl) hSS ?_
  case y0 => (intro wz hSw; (try dsimp only at hSw); go_simp; try (with_reducible rfl))
  refine wpAnyS_take (i := 1) (v := ?v1) rfl rfl (by kernel_rfl) (by kernel_rfl) (by kernel_rfl) (fun _ _ _ h => h) (Or.inl ⟨by rfl, ?y1⟩) (fun _ => rfl) hSS ?_
  case y1 => (intro wz hSw; (try dsimp only at hSw); go_simp; try (with_reducible rfl))
  refine wpAnyS_take (i := 2) (v := ?v2) rfl rfl (by kernel_rfl) (by kernel_rfl) (by kernel_rfl) (fun _ _ _ h => h) (Or.inl ⟨by rfl, ?y2⟩) (fun _ => rfl) hSS ?_
  case y2 => (intro wz hSw; (try dsimp only at hSw); go_simp; try (with_reducible rfl))
  refine wpAnyS_take (i := 3) (v := ?v3) rfl rfl (by kernel_rfl) (by kernel_rfl) (by kernel_rfl) (fun _ _ _ h => h) (Or.inl ⟨by rfl, ?y3⟩) (fun _ => rfl) hSS ?_
  case y3 => (intro wz hSw; (try dsimp only at hSw); go_simp; try (with_reducible rfl))
  refine wpAnyS_take (i := 4) (v := ?v4) rfl rfl (by kernel_rfl) (by kernel_rfl) (by kernel_rfl) (fun _ _ _ h => h) (Or.inl ⟨by rfl, ?y4⟩) (fun _ => rfl) hSS ?_
  case y4 => (intro wz hSw; (try dsimp only at hSw); go_simp; try (with_reducible rfl))
  refine wpAnyS_take (i := 5) (v := ?v5) rfl rfl (by kernel_rfl) (by kernel_rfl) (by kernel_rfl) (fun _ _ _ h => h) (Or.inl ⟨by rfl, ?y5⟩) (fun _ => rfl) hSS ?_
  case y5 => (intro wz hSw; (try dsimp only at hSw); go_simp; try (with_reducible rfl))
  refine wpAnyS_take (i := 6) (v := ?v6) rfl rfl (by kernel_rfl) (by kernel_rfl) (by kernel_rfl) (fun _ _ _ h => h) (Or.inl ⟨by rfl, ?y6⟩) (fun _ => rfl) hSS ?_
  case y6 => (intro wz hSw; (try dsimp only at hSw); go_simp; try (with_reducible rfl))
  refine wpAnyS_take (i := 7) (v := ?v7) rfl rfl (by kernel_rfl) (by kernel_rfl) (by kernel_rfl) (fun _ _ _ h => h) (Or.inl ⟨by rfl, ?y7⟩) (fun _ => rfl) hSS ?_
  case y7 => (intro wz hSw; (try dsimp only at hSw); go_simp; try (with_reducible rfl))
  refine wpAnyS_take (i := 8) (v := ?v8) rfl rfl (by kernel_rfl) (by kernel_rfl) (by kernel_rfl) (fun _ _ _ h => h) (Or.inl ⟨by rfl, ?y8⟩) (fun _ => rfl) hSS ?_
  case y8 => (intro wz hSw; (try dsimp only at hSw); go_simp; try (with_reducible rfl))
  refine wpAnyS_take (i := 9) (v := ?v9) rfl rfl (by kernel_rfl) (by kernel_rfl) (by kernel_rfl) (fun _ _ _ h => h) (Or.inl ⟨by rfl, ?y9⟩) (fun _ => rfl) hSS ?_
  case y9 => (intro wz hSw; (try dsimp only at hSw); go_simp; try (with_reducible rfl))
  clear hSS
  refine wpAnyS_one (i := 10) (by kernel_rfl) rfl (fun K hK => ?_)
  go_simp
  refine ⟨trivial, hdd _, CallsIn.mono HP.out ?_⟩
  rintro e w1 ⟨rfl, j1, k1⟩
  have K1 : KpR W0 w1 := (KpR.of e0).trans k1
  have KK := (KpR.of A).trans K1
  (try dsimp only)
  refine hK.out _ _ (KP.out _ K1) ?_
  clear hK K HP
  refine wpAnyS_one (i := 11) (by kernel_rfl) rfl (fun K hK => ?_)
  go_simp
  refine hK.out _ _ (KP.out _ K1) ?_
  clear hK K
  refine wpAnyS_done (by kernel_rfl) ?_ _
  clear KP
  gi_wp2
  go_ret
  exact ⟨rfl, j1, KK⟩

end Go.Proofs.Ytjggppnffkcmbaa
namespace Go.Proofs.Ytjggppnffkcmbaa
open Go.RowKit Go.Deep Go.Shelf
set_option linter.unusedVariables false
set_option maxRecDepth 100000

/-- Steps in memory; their forms can be read. -/
def Stp (W : World) (SG N : Nat) (ls : List LV) : Prop := ∃ cur, Cel W SG cur 151 ∧ ∀ j, j < N → cur[j]? = some (stepV (ls[j]?.getD noLV))
def LinesIn (W : World) (ls : List LV) : Prop := ∀ j, j < ls.length → (ls[j]?.getD noLV).f.At W
theorem FV.At.keepR {g : FV} {X Y : World} (h : g.At X) (k : KpR X Y) : g.At Y := ⟨h.C.keepR k, h.D.keepR k, h.hn, h.hm⟩
theorem Stp.keepR {X Y : World} {SG N : Nat} {ls : List LV} (h : Stp X SG N ls) (k : KpR X Y) : Stp Y SG N ls := by
  obtain ⟨cur, hc, hv⟩ := h
  exact ⟨cur, hc.keepR k (by decide) (by decide), hv⟩
theorem LinesIn.keepR {X Y : World} {ls : List LV} (h : LinesIn X ls) (k : KpR X Y) : LinesIn Y ls := fun j hj => (h j hj).keepR k

theorem from_any (l n₀ : Nat) (J : List RowM → World → Prop) (hJ : ∀ pre X Y, J pre X → Below X.heap.size X Y → J pre Y) (M : Nat) (hY : Rounds l n₀ J M) (SG N sc : Nat) (ls : List LV) (hN : ls.length = N) (h6 : N ≤ 6) (hall : ls.all LV.ok = true) (f : Nat) :
    ∀ (i0 : Nat) (y : Way) (pa : Option Addr) (cp : Nat) (ga : Option Addr) (ng gc : Nat) (ta : Option Addr) (nt tc : Nat) (pre : List RowM) (W : World) (n : Nat), f ≤ 7 → N ≤ i0 + f → i0 ≤ 12 → WayOk i0 y → y.guards.length = ng → y.tells.length = nt → Stp W SG N ls → LinesIn W ls → FormsAt W pa y.pots → FormsAt W ga y.guards → FormsAt W ta y.tells → n₀ ≤ W.heap.size → J pre W → pre.length + (goW ls f i0 y).length ≤ M →
    CallsIn Fence.wide n Try.prog 115 #[walkV l (some ⟨SG, 0, none⟩) N sc, .int .i64 (i0 : Int), wayV ga ng gc pa cp ta nt tc false] W fun e Y => e = .returned (.bool true) ∧ J (pre ++ goW ls f i0 y) Y ∧ KpR W Y := by
  have atEnd : ∀ (f i0 : Nat) (y : Way) (pa : Option Addr) (cp : Nat) (ga : Option Addr) (ng gc : Nat) (ta : Option Addr) (nt tc : Nat) (pre : List RowM) (W : World) (n : Nat), N ≤ i0 → i0 ≤ 12 → WayOk i0 y → y.guards.length = ng → y.tells.length = nt → FormsAt W pa y.pots → FormsAt W ga y.guards → FormsAt W ta y.tells → n₀ ≤ W.heap.size → J pre W → pre.length + (goW ls f i0 y).length ≤ M →
      CallsIn Fence.wide n Try.prog 115 #[walkV l (some ⟨SG, 0, none⟩) N sc, .int .i64 (i0 : Int), wayV ga ng gc pa cp ta nt tc false] W fun e Y => e = .returned (.bool true) ∧ J (pre ++ goW ls f i0 y) Y ∧ KpR W Y := by
    intro f i0 y pa cp ga ng gc ta nt tc pre W n hi hi1 hy hg ht hP hG hT hn0 h0
    rw [goW_end (by omega)]
    intro hM
    have hM' : pre.length < M := by simp only [List.length_cons, List.length_nil] at hM; omega
    have g1 := hy.gl
    have g2 := hy.tl
    exact from_end l n₀ J hJ M hY _ N sc i0 hi hi1 y pa cp ga ng gc ta nt tc false (endW y) pre W n hn0 h0 (endW_fit hy (by omega)) hM' (fun X hb => irow_end y ga ng gc pa cp ta nt tc X hy.pl hg ht (hP.keep hb) (hG.keep hb) (hT.keep hb) (fun k hk => (hy.pf k hk).mono (by have := wb_six (n := min i0 6) (by omega); omega)) (fun k hk => hy.gf k (by omega)) (fun k hk => hy.tf k (by omega)) (by omega) (by omega))
  induction f with
  | zero => intro i0 y pa cp ga ng gc ta nt tc pre W n _ hfu hi1 hy hg ht _ _ hP hG hT hn0 h0 hM; exact atEnd 0 i0 y pa cp ga ng gc ta nt tc pre W n (by omega) hi1 hy hg ht hP hG hT hn0 h0 hM
  | succ f ih =>
    intro i0 y pa cp ga ng gc ta nt tc pre W n hf7 hfu hi1 hy hg ht hS hLI hP hG hT hn0 h0 hM
    by_cases hlt : i0 < N
    · have hl : i0 < ls.length := by omega
      have hok : (ls[i0]?.getD noLV).ok = true := by
        rw [List.getElem?_eq_getElem hl]
        exact List.all_eq_true.1 hall _ (List.getElem_mem hl)
      obtain ⟨cur, hC, hv⟩ := hS
      have hv0 := hv i0 hlt
      have hA := hLI i0 hl
      have hS' : Stp W SG N ls := ⟨cur, hC, hv⟩
      rw [goW, if_pos hl] at hM ⊢
      generalize ls[i0]?.getD noLV = q at *
      have e1 : ((i0 + 1 : Nat) : Int) = (i0 : Int) + 1 := by omega
      by_cases hk4 : q.kind = 4
      · rw [if_neg (by omega), if_neg (by omega), if_neg (by omega)] at hM ⊢
        have hM' : pre.length < M := by simp only [List.length_cons, List.length_nil] at hM; omega
        have hst : stepV q = .iface 171 (.agg #[]) := by simp [stepV, hk4]
        rw [hst] at hv0
        have g1 := hy.gl
        refine from_step l SG N sc i0 hlt hi1 ga ng gc pa cp ta nt tc _ _ cur _ W n hC hv0 (fun X m hb => past_stop l _ N sc _ ga ng gc pa cp ta nt tc _ X m (fun X2 hb2 m2 => ?_))
        have hb' := hb.trans (hb2.mono hb.size)
        exact from_end l n₀ J hJ M hY _ N sc 6 h6 (by omega) y pa cp ga ng gc ta nt tc true (stopW y) pre X2 m2 (by have := hb'.size; omega) (hJ _ _ _ h0 hb') (stopW_fit hy (by omega)) hM' (fun X3 hb3 => irow_stop y ga ng gc pa cp ta nt tc X3 hg (hG.keep (hb'.trans (hb3.mono hb'.size))) (fun k hk => hy.gf k (by omega)) (by omega))
      · obtain ⟨hsm, hkk, hz, hp⟩ := lineW (show lineB q.kind q.pot q.skip q.f.n q.f.m q.f.C q.f.D q.f.K = true from hok) hk4
        obtain ⟨f1, f2, f3⟩ := hy.into (by omega) (f := q.f) hsm hA.D.1
        rcases hkk with e | e | e
        · rw [if_pos e] at hM ⊢
          rw [List.length_append] at hM
          obtain ⟨z1, z2⟩ := hz e
          have hst : stepV q = .iface 166 (.agg #[.int .i64 q.skip, .slice q.f.a q.f.n q.f.cap, .slice q.f.c q.f.m q.f.cap', .int .i64 q.f.K]) := by simp [stepV, e]
          rw [hst] at hv0
          have e2 : ((i0 + 1 + q.skip.toNat : Nat) : Int) = (i0 : Int) + 1 + q.skip := by omega
          refine from_step l SG N sc i0 hlt hi1 ga ng gc pa cp ta nt tc _ _ cur _ W n hC hv0 (fun X m hb => ?_)
          have kX : KpR W X := KpR.of hb
          refine past_test l _ N sc _ q.skip ⟨by omega, by omega⟩ ⟨by omega, by omega⟩ i0 y hy (by omega) q.f hsm ga ng gc pa cp ta nt tc (J (pre ++ goW ls f (i0 + 1) (y.guard (intoX q.f y.pots)))) _ (fun A B a b => hJ _ _ _ a b) X m (hA.keepR kX) (hP.keepR kX) (hG.keepR kX) hg (fun X2 ga' gc' hb2 F m2 => ?_) (fun X2 ga' gc' k2 j2 F m2 => ?_)
          · have k2 : KpR W X2 := kX.trans (KpR.of hb2)
            have := ih (i0 + 1) (y.guard (intoX q.f y.pots)) pa cp ga' (ng + 1) gc' ta nt tc pre X2 m2 (by omega) (by omega) (by omega) (hy.guard (by omega) f2) (by show (y.guards ++ [_]).length = ng + 1; rw [List.length_append, hg]; rfl) ht (hS'.keepR k2) (hLI.keepR k2) (hP.keepR k2) F (hT.keepR k2) (Nat.le_trans hn0 k2.size) (hJ _ _ _ (hJ _ _ _ h0 hb) hb2) (by omega)
            rw [e1] at this
            exact this
          · have k3 : KpR W X2 := kX.trans k2
            have := ih (i0 + 1 + q.skip.toNat) (y.guard (minusX (intoX q.f y.pots))) pa cp ga' (ng + 1) gc' ta nt tc _ X2 m2 (by omega) (by omega) (by omega) (hy.guard (by omega) f3) (by show (y.guards ++ [_]).length = ng + 1; rw [List.length_append, hg]; rfl) ht (hS'.keepR k3) (hLI.keepR k3) (hP.keepR k3) F (hT.keepR k3) (Nat.le_trans hn0 k3.size) j2 (by rw [List.length_append]; omega)
            rw [e2, List.append_assoc] at this
            exact this
        · rw [if_neg (by omega), if_pos e] at hM ⊢
          obtain ⟨z1, z2⟩ := hp e
          obtain ⟨p, hpq⟩ : ∃ p : Nat, q.pot = p := ⟨q.pot.toNat, by omega⟩
          have hpn : q.pot.toNat = p := by omega
          have hst : stepV q = .iface 168 (.agg #[.int .i64 (p : Int), .slice q.f.a q.f.n q.f.cap, .slice q.f.c q.f.m q.f.cap', .int .i64 q.f.K]) := by simp [stepV, e, hpq]
          rw [hst] at hv0
          rw [hpn] at hM ⊢
          refine from_step l SG N sc i0 hlt hi1 ga ng gc pa cp ta nt tc _ _ cur _ W n hC hv0 (fun X m hb => ?_)
          have kX : KpR W X := KpR.of hb
          refine past_add l _ N sc _ i0 y hy (by omega) q.f hsm ga ng gc pa cp ta nt tc _ X m (hA.keepR kX) (hP.keepR kX) (hT.keepR kX) ht p (by omega) (fun X2 pa' cp' hb2 F m2 => ?_)
          have k2 : KpR W X2 := kX.trans (KpR.of hb2)
          have := ih (i0 + 1) (y.add p (intoX q.f y.pots)) pa' cp' ga ng gc ta nt tc pre X2 m2 (by omega) (by omega) (by omega) (hy.add (by omega) (by omega) f1) hg ht (hS'.keepR k2) (hLI.keepR k2) F (hG.keepR k2) (hT.keepR k2) (Nat.le_trans hn0 k2.size) (hJ _ _ _ (hJ _ _ _ h0 hb) hb2) hM
          rw [e1] at this
          exact this
        · rw [if_neg (by omega), if_neg (by omega), if_pos e] at hM ⊢
          have hst : stepV q = .iface 170 (.agg #[.slice q.f.a q.f.n q.f.cap, .slice q.f.c q.f.m q.f.cap', .int .i64 q.f.K]) := by simp [stepV, e]
          rw [hst] at hv0
          refine from_step l SG N sc i0 hlt hi1 ga ng gc pa cp ta nt tc _ _ cur _ W n hC hv0 (fun X m hb => ?_)
          have kX : KpR W X := KpR.of hb
          refine past_print l _ N sc _ i0 y hy (by omega) q.f hsm ga ng gc pa cp ta nt tc _ X m (hA.keepR kX) (hP.keepR kX) (hT.keepR kX) ht (fun X2 ta' tc' hb2 F m2 => ?_)
          have k2 : KpR W X2 := kX.trans (KpR.of hb2)
          have := ih (i0 + 1) (y.tell (intoX q.f y.pots)) pa cp ga ng gc ta' (nt + 1) tc' pre X2 m2 (by omega) (by omega) (by omega) (hy.tell (by omega) f2) hg (by show (y.tells ++ [_]).length = nt + 1; rw [List.length_append, ht]; rfl) (hS'.keepR k2) (hLI.keepR k2) (hP.keepR k2) (hG.keepR k2) F (Nat.le_trans hn0 k2.size) (hJ _ _ _ (hJ _ _ _ h0 hb) hb2) hM
          rw [e1] at this
          exact this
    · exact atEnd (f + 1) i0 y pa cp ga ng gc ta nt tc pre W n (by omega) hi1 hy hg ht hP hG hT hn0 h0 hM

end Go.Proofs.Ytjggppnffkcmbaa
namespace Go.Proofs.Ytjggppnffkcmbaa
open Go.RowKit Go.Deep Go.Shelf
set_option linter.unusedVariables false
set_option maxRecDepth 100000
attribute [local go_sem] Oper.semAt_some

theorem LinesG.lin {W : World} {ad : Option Addr} {ls : List LV} (h : LinesG W ad ls) : LinesIn W ls := fun j hj => by
  obtain ⟨b, off, _, _, ha⟩ := h j hj
  exact ha
theorem JS.stp {w W : World} {v : Value} {ls : List LV} (j : JS w v (ls.map stepV) W) : ∃ sa sc, v = .slice sa ls.length sc ∧ (ls.length = 0 ∨ ∃ SG, sa = some ⟨SG, 0, none⟩ ∧ Stp W SG ls.length ls) := by
  rcases j.o.2 with ⟨e, h0⟩ | ⟨g, cap, cur, hv, hg, hh, hl, hc, hs, ht⟩
  · rw [List.length_map] at h0
    exact ⟨none, 0, by rw [h0]; exact e, Or.inl h0⟩
  · rw [List.length_map] at hv ht
    refine ⟨_, cap, hv, Or.inr ⟨g, rfl, cur.toList, hh, fun i hi => ?_⟩⟩
    rw [Nat.mul_one] at ht
    have : (cur.toList.take ls.length)[i]? = cur.toList[i]? := List.getElem?_take_of_lt hi
    rw [← this, ht, List.getElem?_map, List.getElem?_eq_getElem hi]
    rfl

theorem rs_func {P : Program} {w : World} {a : Addr} {m : Mode} (fn : Fn) (first captured : Array Value) : (store a (.func fn first captured) m).run P w = stored P w a (.func fn first captured) m := run_store P w a _ m rfl
attribute [local go_sem] rs_func

set_option maxHeartbeats 3200000 in
theorem through_any (l n₀ : Nat) (J : List RowM → World → Prop) (hJ : ∀ pre X Y, J pre X → Below X.heap.size X Y → J pre Y) (hY : Rounds l n₀ J 128) (aB : Nat) (ad : Option Addr) (N cap : Nat) (ls : List LV) (W : World) (n : Nat) (hN : ls.length = N) (hF : LinesG W ad ls) (hN1 : N ≤ 1048576) (hok : actB N ls = true) (hc : W.cell? ⟨aB, 0, none⟩ = some (.slice ad N cap)) (hn0 : n₀ ≤ W.heap.size) (h0 : J [] W) :
    CallsIn Fence.wide n Try.prog 114 #[.func (.yield l) #[] #[], .pointer (some ⟨aB, 0, none⟩)] W fun e Y => (∃ v, e = .returned v) ∧ J (rowsL ls) Y ∧ KpR W Y := by
  have hdd : ∀ k : Nat, (Fence.wide.depth.isSome = true → 1 ≤ k) := fun k h => by simp [Fence.wide] at h
  refine callsIn_of_wp Try.func114 rfl trivial ?_ rfl
  simp only [Try.ntmps114, List.size_toArray, List.length_cons, List.length_nil, Nat.reduceAdd, Nat.reduceSub, Array.replicate_succ, Array.replicate_zero, List.push_toArray, List.append_toArray, List.nil_append, List.cons_append]
  gi_wp2_with fail
  refine ⟨trivial, hdd _, (callsIn_wide.2 (isteps_any ad N cap ls _ hN hF hN1)).mono ?_⟩
  rintro e w1 ⟨sv, rfl, b1, js⟩
  rw [hok]
  have js := js hok
  obtain ⟨sa, sc, rfl, hst⟩ := js.stp
  rw [hN] at hst ⊢
  gi_wp2_with fail
  have bA : Below w1.heap.size w1 (w1.alloc (.cells #[.slice sa N sc, .func (.yield l) #[] #[]] 140)) := (Below.refl _ _).alloc (Nat.le_refl _) _
  have x0 := Cel.new w1 [.slice sa N sc, .func (.yield l) #[] #[]] 140
  obtain ⟨W0, hW0⟩ : ∃ W0, W0 = w1.alloc (.cells #[.slice sa N sc, .func (.yield l) #[] #[]] 140) := ⟨_, rfl⟩
  rw [← hW0] at bA x0 ⊢
  clear hW0
  have A : Below W.heap.size W W0 := b1.trans (bA.mono b1.size)
  have e0 : Below W0.heap.size W0 W0.drew := (Below.refl _ _).drew
  have KP : Hid (∀ X, KpR W0 X → (X.cell? ⟨w1.heap.size, 0, none⟩ = some (.slice sa N sc) ∧ X.cell? ⟨w1.heap.size, 1, none⟩ = some (.func (.yield l) #[] #[]))) := fun X hX => by
    have a1 := x0.keepR hX (by decide) (by decide)
    exact ⟨a1.cell 0, a1.cell 1⟩
  have hSS := KP.out _ (KpR.of e0)
  refine wpIn_region_S (fun w' => w'.cell? ⟨w1.heap.size, 0, none⟩ = some (.slice sa N sc) ∧ w'.cell? ⟨w1.heap.size, 1, none⟩ = some (.func (.yield l) #[] #[])) (by kernel_rfl) ?_
  refine wpAnyS_take (i := 0) (v := ?v0) rfl rfl (by kernel_rfl) (by kernel_rfl) (by kernel_rfl) (fun _ _ _ h => h) (Or.inl ⟨by rfl, ?y0⟩) (fun _ => rfl) hSS ?_
  case y0 => (intro wz hSw; (try dsimp only at hSw); go_simp; try (with_reducible rfl))
  clear hSS
  refine wpAnyS_one (i := 1) (by kernel_rfl) rfl (fun K hK => ?_)
  go_simp
  refine ⟨trivial, fun h => by simp [Fence.wide] at h, (callsIn_wide.2 (ipots_any _)).mono ?_⟩
  rintro e w2 ⟨v, xs, rfl, jv⟩
  obtain ⟨pa, cp, rfl, hP⟩ := jv.slice rfl
  have b2 : Below W0.heap.size W0 w2 := below_of_drew jv.b
  have hS2 := KP.out _ (KpR.of b2)
  have B2 : Below W.heap.size W w2 := A.trans (b2.mono A.size)
  have J2 := hJ _ _ _ h0 B2
  (try dsimp only)
  refine hK.out _ _ hS2 ?_
  clear hK K
  refine wpAnyS_take (i := 2) (v := ?v2) rfl rfl (by kernel_rfl) (by kernel_rfl) (by kernel_rfl) (fun _ _ _ h => h) (Or.inl ⟨by rfl, ?y2⟩) (fun _ => rfl) hS2 ?_
  case y2 => (intro wz hSw; (try dsimp only at hSw); go_simp; try (with_reducible rfl))
  have sB := B2.size
  have HC : Hid (CallsIn Fence.wide (n - 1) Try.prog 115 #[walkV l sa N sc, .int .i64 0, wayV none 0 0 pa cp none 0 0 false] w2 fun e Y => e = .returned (.bool true) ∧ J (rowsL ls) Y ∧ KpR w2 Y) := by
    obtain ⟨h6, hall⟩ := actB_parts hok
    have hy := WayOk.start
    have hG : ∀ X, FormsAt X none way0.guards := fun X i hi => by simp [way0] at hi
    have hT : ∀ X, FormsAt X none way0.tells := fun X i hi => by simp [way0] at hi
    rcases hst with hz | ⟨SG, rfl, hst⟩
    · have := from_end l n₀ J hJ 128 hY sa N sc 0 (by omega) (by omega) way0 pa cp none 0 0 none 0 0 false (endW way0) [] w2 (n - 1) (by omega) J2 (endW_fit hy (by omega)) (by simp) (fun X hb => irow_end way0 none 0 0 pa cp none 0 0 X hy.pl rfl rfl (hP.keep hb) (hG X) (hT X) (fun k hk => (hy.pf k hk).mono (by have := wb_six (n := min 0 6) (by omega); omega)) (fun k hk => hy.gf k (by omega)) (fun k hk => hy.tf k (by omega)) (by omega) (by omega))
      rw [rowsL, goW_end (by omega)]
      exact this
    · have k2 : KpR w1 w2 := (KpR.of bA).trans (KpR.of b2)
      exact from_any l n₀ J hJ 128 hY SG N sc ls hN h6 hall 7 0 way0 pa cp none 0 0 none 0 0 [] w2 (n - 1) (by omega) (by omega) (by omega) hy rfl rfl (hst.keepR k2) (hF.lin.keepR (KpR.of B2)) hP (hG _) (hT _) (by omega) J2 (by have := goW_128 (ls := ls) (f := 7) (i := 0) (y := way0) (by omega); simp only [List.length_nil]; omega)
  refine wpAnyS_one (i := 3) (by kernel_rfl) rfl (fun K hK => ?_)
  go_simp
  refine ⟨trivial, fun h => by simp [Fence.wide] at h, HC.out.mono ?_⟩
  rintro e w3 ⟨rfl, J3, k3⟩
  have hS3 := KP.out _ ((KpR.of b2).trans k3)
  (try dsimp only)
  refine hK.out _ _ hS3 ?_
  clear hK K
  refine wpAnyS_done (by kernel_rfl) ?_ _
  have KK := (KpR.of B2).trans k3
  clear KP HC
  gi_wp2
  go_end0
  exact ⟨⟨_, rfl⟩, J3, KK⟩

end Go.Proofs.Ytjggppnffkcmbaa
namespace Go.Proofs.Ytjggppnffkcmbaa
open Go.RowKit Go.Deep Go.Shelf
set_option linter.unusedVariables false
set_option maxRecDepth 100000
attribute [local go_sem] Oper.semAt_some

set_option maxHeartbeats 1600000 in
theorem ithrough_any (ad : Option Addr) (N cap : Nat) (w : World) :
    Calls Try.prog 85 #[.slice ad N cap] w fun e w' => ∃ B, e = .returned (.func (.func 114) #[] #[.pointer (some ⟨B, 0, none⟩)]) ∧ Below w.heap.size w w' ∧ Cel w' B [.slice ad N cap] 52 := by
  have b := (Below.refl w.heap.size w).alloc (Nat.le_refl _) (.cells #[.slice ad N cap] 52)
  have c := Cel.new w [.slice ad N cap] 52
  go_enter Try.func85, Try.ntmps85
  go_wp2
  go_ret
  exact ⟨_, rfl, b, c⟩

theorem Cel.loop {X : World} {B l : Nat} {vs : List Value} {t : TypeId} {r r' : Loop} (h : Cel X B vs t) (hl : X.heap[l]? = some (.loop r)) : Cel (X.putObj l (.loop r')) B vs t := by
  have hne : B ≠ l := fun e => by
    subst e
    unfold Cel at h
    rw [hl] at h
    cases h
  unfold Cel at *
  rw [World.putObj_heap_other hne]; exact h
theorem below_loop {w X : World} {n l : Nat} {r' : Loop} (h : Below n w X) (hl : n ≤ l) : Below n w (X.putObj l (.loop r')) :=
  ⟨h.os, h.tape, h.output, by simpa [World.putObj] using h.size, fun k hk => (World.putObj_heap_other (by omega)).trans (h.block k hk)⟩

theorem Cel.defer {X : World} {B l : Nat} {vs : List Value} {t : TypeId} {r : Option (List Deferred)} {o : Obj} (h : Cel X B vs t) (hl : X.heap[l]? = some (.deferred r)) : Cel (X.putObj l o) B vs t := by
  have hne : B ≠ l := fun e => by
    subst e
    unfold Cel at h
    rw [hl] at h
    cases h
  unfold Cel at *
  rw [World.putObj_heap_other hne]; exact h
theorem below_put {w X : World} {n l : Nat} {o : Obj} (h : Below n w X) (hl : n ≤ l) : Below n w (X.putObj l o) :=
  ⟨h.os, h.tape, h.output, by simpa [World.putObj] using h.size, fun k hk => (World.putObj_heap_other (by omega)).trans (h.block k hk)⟩
theorem cel_past {S : Nat → Prop} {X Y : World} {B : Nat} {vs : List Value} {t : TypeId} (h : Cel X B vs t) (k : Touch S X Y) (hn : ¬ S B) : Cel Y B vs t := by
  have hl := h.lt
  unfold Cel at *
  rw [k.block B hl hn]; exact h
theorem below_touch {w X Y : World} {G : Nat} (h : Below w.heap.size w X) (t : Touch (fun k => k = G) X Y) (hG : w.heap.size ≤ G) : Below w.heap.size w Y :=
  ⟨t.os.trans h.os, t.tape.trans h.tape, t.output.trans h.output, Nat.le_trans h.size t.size, fun k hk => (t.block k (Nat.lt_of_lt_of_le hk h.size) (by omega)).trans (h.block k hk)⟩
theorem OwnBB.loose {X : World} {G : Nat} {f : Nat → Bool} (h : OwnBB X G f) : Loose X.heap[G]? := fun cs t fr e => by
  unfold OwnBB Cel at h
  rw [h] at e
  cases e
  refine ⟨Or.inl rfl, fun i q => ?_⟩
  match i with
  | 0 => simp
  | 1 => simp
  | 2 => simp
  | i + 3 => simp
theorem OwnBB.kpR {X Y : World} {G : Nat} {f : Nat → Bool} (h : OwnBB X G f) (t : Touch (fun k => k = G) X Y) : KpR X Y := t.mono (fun k e => by subst e; exact h.loose)
theorem keeps_below {B : Nat} {X Y : World} (h : Below X.heap.size X Y) : KeepsFrom B X Y := ⟨h.size, fun k o _ hk _ => (h.block k (lt_of_block hk)).trans hk⟩
theorem keeps_touch {B G : Nat} {X Y : World} (t : Touch (fun k => k = G) X Y) (hG : G < B) : KeepsFrom B X Y := ⟨t.size, fun k o hB hk _ => (t.block k (lt_of_block hk) (by omega)).trans hk⟩

set_option maxHeartbeats 3200000 in
theorem icatreads_in (ad : Option Addr) (N cap : Nat) (ls : List LV) (w : World) (n : Nat) (hN : ls.length = N) (hF : LinesG w ad ls) (hN1 : N ≤ 1048576) :
    CallsIn Fence.wide n Try.prog 33 #[.slice ad N cap] w fun e w' => Below w.heap.size w w' ∧ ((actB N ls = false ∧ e = .returned (.slice none 0 0)) ∨ (actB N ls = true ∧ ∃ G cG, e = .returned (.slice (some ⟨G, 0, none⟩) 3 cG) ∧ w.heap.size ≤ G ∧ OwnBB w' G (readsR (rowsL ls)))) := by
  have hdd : ∀ k : Nat, (Fence.wide.depth.isSome = true → 1 ≤ k) := fun k h => by simp [Fence.wide] at h
  refine callsIn_of_wp_marks Try.func33 rfl trivial ?_ rfl
  simp only [Try.ntmps33, List.size_toArray, List.length_cons, List.length_nil, Nat.reduceAdd, Nat.reduceSub, Array.replicate_succ, Array.replicate_zero, List.push_toArray, List.append_toArray, List.nil_append, List.cons_append]
  gi_wp2_with fail
  refine ⟨trivial, hdd _, (callsIn_wide.2 (iact_any ad N cap ls _ hN hF hN1)).mono ?_⟩
  rintro e w1 ⟨rfl, b1⟩
  obtain ⟨u, hu⟩ : ∃ u, actB N ls = u := ⟨_, rfl⟩
  rw [hu]
  cases u with
  | false =>
    gi_wp2
    exact ⟨_, results_tmp rfl _ _ _, b1, Or.inl ⟨hu, rfl⟩⟩
  | true =>
    obtain ⟨i0, hi, hz0, hz1, hz2⟩ := info_parts Try.infoBool
    obtain ⟨w2, hrun, o2, g2⟩ := run_make_full (P := Try.prog) (w := w1) w1.heap.size 62 4 i0 (.bool false) 1 Try.underlying62 hi hz0 hz1 .i64 .i64 3 (by rw [hz2]; omega) (by unfold maxLen; omega) (Nat.le_refl _)
    have hrun' : (Instr.makeSlice 62 (.int .i64 3) (.int .i64 3)).run Try.prog w1 = .ok (.slice (some ⟨w1.heap.size, 0, none⟩) 3 3) w2 := hrun
    have b2 : Below w1.heap.size w1 w2 := (Below.refl _ _).grown g2 (Nat.le_refl _) (by simp)
    have O2 : OwnBB w2 w1.heap.size (fun _ => false) := by
      rcases o2.2 with ⟨e, _⟩ | ⟨g, cp, cur, hv, hg, hh, hl, hc, hs, ht⟩
      · cases e
      · cases hv
        have hl3 : cur.toList.length = 3 := by rw [Array.length_toList]; omega
        rw [List.take_of_length_le (by omega)] at ht
        have : cur = #[.bool false, .bool false, .bool false] := by
          apply Array.toList_inj.1
          rw [ht]; simpa [Value.cells] using toList_madeCells_one (.bool false) 3
        rw [this] at hh
        exact hh
    clear hrun o2 g2
    gi_wp2_with fail
    have bA : Below w2.heap.size w2 (w2.alloc (.cells #[.slice (some ⟨w1.heap.size, 0, none⟩) 3 3] 62)) := (Below.refl _ _).alloc (Nat.le_refl _) _
    have C3 := Cel.new w2 [.slice (some ⟨w1.heap.size, 0, none⟩) 3 3] 62
    have O3 := O2.below bA
    obtain ⟨w3, hw3⟩ : ∃ w3, w3 = w2.alloc (.cells #[.slice (some ⟨w1.heap.size, 0, none⟩) 3 3] 62) := ⟨_, rfl⟩
    rw [← hw3] at bA C3 O3 ⊢
    have lG := Cel.lt O2
    clear hw3 hrun' O2
    refine ⟨trivial, hdd _, (callsIn_wide.2 (ithrough_any ad N cap w3)).mono ?_⟩
    rintro e w4 ⟨B, rfl, b4, cB⟩
    have C4 := C3.below b4
    have O4 := O3.below b4
    have s2 := b2.size
    have sA := bA.size
    have s4 := b4.size
    have B4 : Below w.heap.size w w4 := ((b1.trans (b2.mono b1.size)).trans (bA.mono (Nat.le_trans b1.size s2))).trans (b4.mono (Nat.le_trans (Nat.le_trans b1.size s2) sA))
    have F4 := hF.below B4
    gi_wp2_with fail
    have s1 := b1.size
    refine wpIn_rows (α := Value × RowM) (gf := 114) (lb := #[.pointer (some ⟨B, 0, none⟩)]) rfl (enters_of Try.func114 (by kernel_rfl) rfl) (encs := fun x => #[x.1]) (fun _ => rfl)
      (fun _ x X => RowFit x.2 ∧ RowX X w4.heap.size x.1 x.2) KpR (fun xs => xs.map Prod.snd = rowsL ls)
      (fun pre X => OwnBB X w1.heap.size (readsR (pre.map Prod.snd)) ∧ Cel X w2.heap.size [.slice (some ⟨w1.heap.size, 0, none⟩) 3 3] 62 ∧ Below w.heap.size w X)
      (fun pre X Y h b => ⟨h.1.below b, h.2.1.below b, h.2.2.trans (b.mono h.2.2.size)⟩)
      (fun pre X l r r' h hl lt => ⟨Cel.loop h.1 hl, h.2.1.loop hl, below_loop h.2.2 (by have := B4.size; omega)⟩) KpR.loop (fun X Y Z => KpR.trans) ⟨O4, C4, B4⟩ ?seq ?round ?done
    case seq =>
      intro l J W hJ hb hJ0 hY
      have e0 : (#[.func (.yield l) #[] #[]] ++ #[.pointer (some ⟨B, 0, none⟩)] : Array Value) = #[.func (.yield l) #[] #[], .pointer (some ⟨B, 0, none⟩)] := rfl
      rw [e0]
      refine (through_any l w4.heap.size (fun rs X => ∃ xs : List (Value × RowM), xs.map Prod.snd = rs ∧ J xs X) (fun rs X Y h b => ?_) (fun m rs v r X h fit rx _ => ?_) B ad N cap ls W (n - 1) hN (F4.below hb) hN1 hu ((cB.below hb).cell 0) hb.size ⟨[], rfl, hJ0⟩).mono ?_
      · obtain ⟨xs, e, j⟩ := h
        exact ⟨xs, e, hJ _ _ _ j b⟩
      · obtain ⟨xs, e, j⟩ := h
        obtain ⟨fn, tmps, assign, body, hy, hR⟩ := hY m xs (v, r) X j ⟨fit, rx⟩
        refine ⟨fn, tmps, assign, body, hy, hR.mono ?_⟩
        rintro e' Y ⟨a, b, c⟩
        exact ⟨a, ⟨xs ++ [(v, r)], by simp [e], b⟩, c⟩
      · rintro e Y ⟨h1, ⟨xs, e1, j⟩, _⟩
        exact ⟨h1, xs, e1, j⟩
    case round =>
      rintro m l pre ⟨v, rm⟩ X r ⟨hO, hC, hB⟩ ⟨fit, rx⟩ hl hlt
      dsimp only at fit rx
      obtain ⟨ga, gc, aa, ac, ta, tc, rfl, f0, f1, f2⟩ := rx
      dsimp only
      gi_wp2_with fail
      have bx : Below X.heap.size X (X.alloc (.cells #[.slice ga rm.guards.length gc, .slice aa rm.adds.length ac, .slice ta rm.tells.length tc, .bool rm.stop] 25)) := (Below.refl _ _).alloc (Nat.le_refl _) _
      have cx := Cel.new X [.slice ga rm.guards.length gc, .slice aa rm.adds.length ac, .slice ta rm.tells.length tc, .bool rm.stop] 25
      have hl1 := (bx.block l (lt_of_block hl)).trans hl
      refine ⟨keeps_below bx, KpR.of bx, ?_⟩
      have O1 : OwnBB _ _ _ := Cel.loop (r' := { r with state := .busy }) (hO.below bx) hl1
      have C1 := Cel.loop (r' := { r with state := .busy }) (hC.below bx) hl1
      have X1 := Cel.loop (r' := { r with state := .busy }) cx hl1
      have k1 : KpR X _ := (KpR.of bx).trans (KpR.loop _ l r { r with state := .busy } hl1)
      have B1 := below_loop (r' := { r with state := .busy }) (hB.trans (bx.mono hB.size)) (l := l) (by have := B4.size; omega)
      obtain ⟨Y, hY⟩ : ∃ Y, Y = (X.alloc (.cells #[.slice ga rm.guards.length gc, .slice aa rm.adds.length ac, .slice ta rm.tells.length tc, .bool rm.stop] 25)).putObj l (.loop { r with state := .busy }) := ⟨_, rfl⟩
      rw [← hY] at O1 C1 X1 k1 B1 ⊢
      clear hY
      have FA := f1.at.keepR k1
      have FT := f2.at.keepR k1
      have hc := C1.cell 0
      have hx1 := X1.cell 1
      have lX := Cel.lt hO
      gi_wp2_with fail
      refine ⟨trivial, hdd _, CallsIn.mono (CallsIn.inRound l (callsIn_wide.2 (imarkpots_any _ _ _ _ _ _ rm.adds Y O1 rfl FA fit.a (by have := fit.la; omega)))) ?_⟩
      rintro e Y1 ⟨⟨v1, rfl⟩, t1, O2⟩
      have C2 := cel_past C1 t1 (by omega)
      have X2 := cel_past X1 t1 (by omega)
      have FT2 := FT.past2 O1.no t1
      have hc2 := C2.cell 0
      have hx2 := X2.cell 2
      clear hc hx1
      gi_wp2_with fail
      refine ⟨trivial, hdd _, CallsIn.mono (CallsIn.inRound l (callsIn_wide.2 (imarkpots_any _ _ _ _ _ _ rm.tells Y1 O2 rfl FT2 fit.t (by have := fit.lt; omega)))) ?_⟩
      rintro e Y2 ⟨⟨v2, rfl⟩, t2, O3⟩
      have C3' := cel_past C2 t2 (by omega)
      clear hc2 hx2
      gi_wp2_with fail
      refine ⟨(keeps_touch t1 (by omega)).trans (keeps_touch t2 (by omega)), (O1.kpR t1).trans (O2.kpR t2), O3.ext (fun v hv => ?_), C3', below_touch (below_touch B1 t1 (by omega)) t2 (by omega)⟩
      simp [readsF, readsR, Bool.or_assoc]
    case done =>
      rintro D xs W hD hS ⟨hO, hC, hB⟩ hK
      have hc := hC.cell 0
      gi_wp2
      refine ⟨by simp, .inl ⟨_, _, rfl, run_takeDeferred hK, ?_⟩⟩
      refine ⟨_, results_tmp rfl _ _ _, ?_⟩
      rw [hS] at hO
      exact ⟨below_put hB (by have := B4.size; omega), Or.inr ⟨hu, _, _, rfl, s1, Cel.defer hO hK⟩⟩

theorem icatreads_any (ad : Option Addr) (N cap : Nat) (ls : List LV) (w : World) (hN : ls.length = N) (hF : LinesG w ad ls) (hN1 : N ≤ 1048576) :
    Calls Try.prog 33 #[.slice ad N cap] w fun e w' => Below w.heap.size w w' ∧ ((actB N ls = false ∧ e = .returned (.slice none 0 0)) ∨ (actB N ls = true ∧ ∃ G cG, e = .returned (.slice (some ⟨G, 0, none⟩) 3 cG) ∧ w.heap.size ≤ G ∧ OwnBB w' G (readsR (rowsL ls)))) :=
  callsIn_wide.1 (icatreads_in ad N cap ls w 0 hN hF hN1)

end Go.Proofs.Ytjggppnffkcmbaa
namespace Go.Proofs.Ytjggppnffkcmbaa
open Go.RowKit Go.Deep
set_option linter.unusedVariables false
set_option maxRecDepth 100000

/-- Bools that can be read. -/
def BA (W : World) (a : Option Addr) (n : Nat) (f : Nat → Bool) : Prop := ∀ j, j < n → ∃ b off, a = some ⟨b, off, none⟩ ∧ W.cell? ⟨b, off + j, none⟩ = some (.bool (f j))
theorem BA.none {W : World} {a : Option Addr} {f : Nat → Bool} : BA W a 0 f := fun j hj => by omega
theorem Bools.ba {W : World} {a : Option Addr} {f : Nat → Bool} (h : Bools W a f) : BA W a 3 f := fun j hj => by
  obtain ⟨b, off, e, hc⟩ := h
  exact ⟨b, off, e, hc j hj⟩
theorem OwnBB.ba {W : World} {G : Nat} {f : Nat → Bool} (h : OwnBB W G f) : BA W (some ⟨G, 0, Option.none⟩) 3 f := fun j hj => ⟨G, 0, rfl, by rw [Nat.zero_add]; exact (h.at hj).1⟩
theorem BA.below {W W' : World} {a : Option Addr} {n : Nat} {f : Nat → Bool} (h : BA W a n f) (b : Below W.heap.size W W') : BA W' a n f := fun j hj => by
  obtain ⟨b0, off, e, hc⟩ := h j hj
  exact ⟨b0, off, e, (b.cell (p := ⟨b0, off + j, Option.none⟩) (block_lt hc)).trans hc⟩
def rampB (j : Nat) : Bool := (1 + j) % 3 == 0

end Go.Proofs.Ytjggppnffkcmbaa
namespace Go.Proofs.Ytjggppnffkcmbaa
open Go.RowKit Go.Deep
set_option linter.unusedVariables false
set_option maxRecDepth 100000

theorem catB_parts {N : Nat} {ss : List L2V} (h : catB N ss = true) : N ≤ 4 ∧ ss.all L2V.ok = true := by
  simp only [catB, Bool.and_eq_true] at h
  have := inB_iff.1 h.1
  exact ⟨by omega, h.2⟩

end Go.Proofs.Ytjggppnffkcmbaa
namespace Go.Proofs.Ytjggppnffkcmbaa
open Go.RowKit Go.Deep
set_option linter.unusedVariables false
set_option maxRecDepth 100000

theorem ISG.off {S : Nat → Prop} {w w' : World} {ad : Option Addr} {ts : List IV} (h : ISG w ad ts) (t : Touch S w w') (h0 : 0 < ts.length → ∀ b o, ad = some ⟨b, o, none⟩ → ¬ S b) (h1 : ∀ i, i < ts.length → ∀ b o, (ts[i]?.getD noI).a = some ⟨b, o, none⟩ → ¬ S b) : ISG w' ad ts := by
  intro i hi
  obtain ⟨b, off, e, hc, ha⟩ := h i hi
  have hb := t.block b (block_lt hc) (h0 (by omega) b off e)
  exact ⟨b, off, e, (World.cell?_of_block hb).trans hc, ha.1.off t (h1 i hi), ha.2⟩
/-- Parts that lie off some blocks. -/
structure Pt (S : Nat → Prop) (W : World) (ad : Option Addr) (ts : List IV) : Prop where
  g : ISG W ad ts
  na : 0 < ts.length → ∀ b o, ad = some ⟨b, o, none⟩ → ¬ S b
  nk : ∀ i, i < ts.length → ∀ b o, (ts[i]?.getD noI).a = some ⟨b, o, none⟩ → ¬ S b
theorem Pt.touch {S S' : Nat → Prop} {W W' : World} {ad : Option Addr} {ts : List IV} (h : Pt S W ad ts) (t : Touch S' W W') (hS : ∀ k, S' k → S k) : Pt S W' ad ts :=
  ⟨h.g.off t (fun h0 b o e hs => h.na h0 b o e (hS _ hs)) (fun i hi b o e hs => h.nk i hi b o e (hS _ hs)), h.na, h.nk⟩
theorem Pt.below {S : Nat → Prop} {W W' : World} {ad : Option Addr} {ts : List IV} (h : Pt S W ad ts) (b : Below W.heap.size W W') : Pt S W' ad ts := ⟨h.g.below b, h.na, h.nk⟩
theorem ints_ne {W : World} {R : Nat} {a : Option Addr} {n : Nat} {x : List Int} {u v : Value} {t : TypeId} (h : Ints W a n x) (hn : n = 3) (c : Cel W R [u, v] t) : ∀ b o, a = some ⟨b, o, none⟩ → b ≠ R := fun b o e hb => by
  subst hb
  obtain ⟨b', o', e', hc⟩ := h.2 2 (by omega)
  rw [e] at e'
  simp only [Option.some.injEq, Addr.mk.injEq, and_true] at e'
  obtain ⟨rfl, rfl⟩ := e'
  rw [c.cell (o + 2)] at hc
  simp at hc
/-- Parts in a row of their own; what is older may change. -/
structure JPt (n0 : Nat) (G cap : Nat) (ts : List IV) (W : World) : Prop where
  o : W.ownsRow n0 26 1 (.slice (some ⟨G, 0, none⟩) ts.length cap) ts.length (ts.map IV.v)
  k : ∀ j, j < ts.length → (ts[j]?.getD noI).n = 3 ∧ Ints W (ts[j]?.getD noI).a 3 (ts[j]?.getD noI).x ∧ ∀ b o, (ts[j]?.getD noI).a = some ⟨b, o, none⟩ → b ≠ G
theorem JP.old {w W : World} {G cap : Nat} {ts : List IV} (j : JP w G cap ts W) : JPt w.heap.size G cap ts W := ⟨j.o, j.k⟩
theorem JPt.lt {n0 : Nat} {W : World} {G cap : Nat} {ts : List IV} (j : JPt n0 G cap ts W) : n0 ≤ G ∧ G < W.heap.size := j.o.lt G rfl
theorem JPt.below {n0 : Nat} {W W' : World} {G cap : Nat} {ts : List IV} (j : JPt n0 G cap ts W) (h : Below W.heap.size W W') : JPt n0 G cap ts W' :=
  ⟨own_below j.o h, fun i hi => by obtain ⟨a, b, c⟩ := j.k i hi; exact ⟨a, b.below h, c⟩⟩
theorem JPt.touch {n0 R : Nat} {W W' : World} {G cap : Nat} {ts : List IV} {u v : Value} {ty : TypeId} (j : JPt n0 G cap ts W) (t : Touch (fun x => x = R) W W') (hR : R < n0) (hc : Cel W R [u, v] ty) : JPt n0 G cap ts W' :=
  ⟨ownsRow_touch j.o t (fun k hk => by omega), fun i hi => by obtain ⟨a, b, c⟩ := j.k i hi; exact ⟨a, b.off t (ints_ne b rfl hc), c⟩⟩
theorem JPt.g {n0 : Nat} {W : World} {G cap : Nat} {ts : List IV} (j : JPt n0 G cap ts W) : ISG W (some ⟨G, 0, none⟩) ts := fun i hi => by
  obtain ⟨h1, h2, h3⟩ := j.k i hi
  refine ⟨G, 0, rfl, ?_, ?_, by omega⟩
  · rw [Nat.zero_add, own_cell j.o i (by omega), List.getElem?_map, List.getElem?_eq_getElem hi]; rfl
  · rw [h1]; exact h2
theorem JPt.pt {S : Nat → Prop} {n0 : Nat} {W : World} {G cap : Nat} {ts : List IV} (j : JPt n0 G cap ts W) (hS : ∀ k, S k → k < n0) (hR : ∀ k, S k → ∃ u v t, Cel W k [u, v] t) : Pt S W (some ⟨G, 0, none⟩) ts := by
  refine ⟨j.g, fun _ b o e hs => ?_, fun i hi b o e hs => ?_⟩
  · have h1 := hS _ hs
    have h2 := j.lt.1
    simp only [Option.some.injEq, Addr.mk.injEq] at e
    omega
  · obtain ⟨h1, h2, _⟩ := j.k i hi
    obtain ⟨u, v, t, hc⟩ := hR b hs
    exact ints_ne h2 rfl hc b o e rfl
theorem JPt.ptApp {S : Nat → Prop} {n0 : Nat} {W W' : World} {G cap g cp k : Nat} {ts : List IV} {s : IV} {o : Obj} (j : JPt n0 G cap ts W) (hk : ts.length = k) (hI : Ints W s.a s.n s.x) (hn : s.n ≤ 1048576) (hb : ∀ b o, s.a = some ⟨b, o, none⟩ → b ≠ G ∧ ¬ S b)
    (hown : W'.ownsRow n0 26 1 (.slice (some ⟨g, 0, none⟩) (k + 1) cp) (k + 1) (ts.map IV.v ++ [s.v])) (hg : (W.alloc o).grownBy W' (some G)) (hat : g = G ∨ W.heap.size ≤ g) (hS : ∀ k, S k → k < n0) (hR : ∀ k, S k → ∃ u v t, Cel W k [u, v] t) : Pt S W' (some ⟨g, 0, none⟩) (ts ++ [s]) := by
  subst hk
  have A : Below W.heap.size W (W.alloc o) := (Below.refl _ _).alloc (Nat.le_refl _) _
  have T : Touch (fun y => y = G) (W.alloc o) W' := ⟨hg.os, hg.tape, hg.output, hg.size, fun z hz hn => hg.block z hz (fun e => hn (by simpa using e))⟩
  have P := j.pt hS hR
  have hlt := j.lt
  refine ⟨fun i hi => ?_, fun _ b o e hs => ?_, fun i hi b o e hs => ?_⟩
  · refine ⟨g, 0, rfl, ?_, ?_⟩
    · rw [Nat.zero_add, own_cell hown i (by rw [List.length_append] at hi; simpa using hi)]
      by_cases h : i < ts.length
      · rw [List.getElem?_append_left (by simpa using h), List.getElem?_append_left h, List.getElem?_map, List.getElem?_eq_getElem h]; rfl
      · rw [List.length_append, List.length_singleton] at hi
        obtain rfl : i = ts.length := by omega
        rw [List.getElem?_append_right (by simp), List.getElem?_append_right (Nat.le_refl _)]
        simp
    · by_cases h : i < ts.length
      · rw [List.getElem?_append_left h]
        obtain ⟨h1, h2, h3⟩ := j.k i h
        refine ⟨?_, by omega⟩
        rw [h1]
        exact (h2.below A).off T (fun b o e => h3 b o e)
      · rw [List.length_append, List.length_singleton] at hi
        obtain rfl : i = ts.length := by omega
        rw [List.getElem?_append_right (Nat.le_refl _), Nat.sub_self]
        exact ⟨(hI.below A).off T (fun b o e => (hb b o e).1), hn⟩
  · have h1 := hS _ hs
    simp only [Option.some.injEq, Addr.mk.injEq] at e
    omega
  · by_cases h : i < ts.length
    · rw [List.getElem?_append_left h] at e
      exact P.nk i h b o e hs
    · rw [List.length_append, List.length_singleton] at hi
      obtain rfl : i = ts.length := by omega
      rw [List.getElem?_append_right (Nat.le_refl _), Nat.sub_self] at e
      exact (hb b o e).2 hs

set_option maxHeartbeats 1600000 in
theorem sforms_jp (ad : Option Addr) (N cap : Nat) (ss : List L2V) (w : World) (hN : ss.length = N) (hF : LSG w ad ss) (hN1 : N ≤ 1048576) (hU : catB N ss = true) :
    Calls Try.prog 40 #[.slice ad N cap] w fun e w' => ∃ G cG ts nt, e = .returned (.slice (some ⟨G, 0, none⟩) nt cG) ∧ ts.length = nt ∧ JP w G cG ts w' ∧ ts.map IV.x = catP ss ∧ nt ≤ 600000 := by
  have HN : Hid (ss.length = N) := hN
  have HU : Hid (catB N ss = true) := hU
  clear hN
  go_enter Try.func40, Try.ntmps40
  go_wp2_with fail
  refine (scat_any _ _ _ ss _ HN.out hF hN1).mono ?_
  rintro e w1 ⟨rfl, b1⟩
  rw [hU]
  clear hU
  go_wp2_with fail
  refine (sboth_any _ _ _ ss _ HN.out (hF.below b1) (catB_parts HU.out).2 (catB_parts HU.out).1).mono ?_
  rintro e w2 ⟨G, cG, ts, nt, Gp, cp, rfl, hl, jp, hx, hnt, o, lGp⟩
  have jp' : JP w G cG ts w2 := ⟨b1.trans (jp.b.mono b1.size), ⟨jp.o.1, by
    rcases jp.o.2 with h | ⟨g, cap', cur, hv, hg, r⟩
    · exact .inl h
    · exact .inr ⟨g, cap', cur, hv, Nat.le_trans b1.size hg, r⟩⟩, jp.k⟩
  have HX : Hid _ := hx
  have HL : Hid _ := hl
  clear jp hx hl o
  go_wp2
  go_ret
  exact ⟨G, cG, ts, nt, rfl, HL.out, jp', HX.out, hnt⟩
theorem JAs.cat {w W : World} {R : Nat} {a : Option Addr} {n cap : Nat} {bs : List Int} {q : Int} {v : Value} {ss : List L2V} {N : Nat} (j : JAs w R a n cap bs q v ss W) (hN : ss.length = N) (h1 : 1 ≤ N) (h4 : N ≤ 4) : catB N ss = true := by
  unfold catB
  simp only [Bool.and_eq_true]
  refine ⟨inB_iff.2 (by omega), List.all_eq_true.2 fun s hs => ?_⟩
  obtain ⟨i, hi, rfl⟩ := List.getElem_of_mem hs
  have := (j.ac i hi).ok
  rw [List.getElem?_eq_getElem hi] at this
  exact this

end Go.Proofs.Ytjggppnffkcmbaa
namespace Go.Proofs.Ytjggppnffkcmbaa
open Go.RowKit Go.Deep
set_option linter.unusedVariables false
set_option maxRecDepth 100000

/-- The block of what a treaty gives is none of the others'. -/
structure OffG (gb : Nat) (ba pa : Option Addr) (ts : List IV) (ea fa : Option Addr) (fn : Nat) (fb : Option Addr) (fm : Nat) (ua : Option Addr) : Prop where
  b : ∀ b o, ba = some ⟨b, o, none⟩ → b ≠ gb
  p : ∀ b o, pa = some ⟨b, o, none⟩ → b ≠ gb
  q : ∀ i, i < ts.length → ∀ b o, (ts[i]?.getD noI).a = some ⟨b, o, none⟩ → b ≠ gb
  e : ∀ b o, ea = some ⟨b, o, none⟩ → b ≠ gb
  f : 0 < fn → ∀ b o, fa = some ⟨b, o, none⟩ → b ≠ gb
  g : 0 < fm → ∀ b o, fb = some ⟨b, o, none⟩ → b ≠ gb
  u : ∀ b o, ua = some ⟨b, o, none⟩ → b ≠ gb
/-- A block in which no list of three or of two numbers lies. -/
def NoL (W : World) (k : Nat) : Prop := ∀ a n x, Ints W a n x → (n = 3 ∨ n = 2) → ∀ b o, a = some ⟨b, o, none⟩ → b ≠ k
theorem noL2 {W : World} {k : Nat} {p : Option Addr} {m c : Nat} {v : Value} {t : TypeId} (h : Cel W k [.slice p m c, v] t) : NoL W k := fun a n x hI hn b o e hb => by
  subst hb
  obtain ⟨b0, o0, e0, h0⟩ := hI.2 0 (by omega)
  obtain ⟨b1, o1, e1, h1⟩ := hI.2 1 (by omega)
  rw [e] at e0 e1
  simp only [Option.some.injEq, Addr.mk.injEq, and_true] at e0 e1
  obtain ⟨rfl, rfl⟩ := e0
  obtain ⟨rfl, rfl⟩ := e1
  have k0 := h.cell (o + 0)
  have k1 := h.cell (o + 1)
  rw [h0] at k0
  rw [h1] at k1
  match o with
  | 0 => simp at k0
  | o + 1 => simp at k1
theorem noL3 {W : World} {k : Nat} {p p' : Option Addr} {m c m' c' : Nat} {v : Value} {t : TypeId} (h : Cel W k [.slice p m c, .slice p' m' c', v] t) : NoL W k := fun a n x hI hn b o e hb => by
  subst hb
  obtain ⟨b0, o0, e0, h0⟩ := hI.2 0 (by omega)
  obtain ⟨b1, o1, e1, h1⟩ := hI.2 1 (by omega)
  rw [e] at e0 e1
  simp only [Option.some.injEq, Addr.mk.injEq, and_true] at e0 e1
  obtain ⟨rfl, rfl⟩ := e0
  obtain ⟨rfl, rfl⟩ := e1
  have k0 := h.cell (o + 0)
  have k1 := h.cell (o + 1)
  rw [h0] at k0
  rw [h1] at k1
  match o with
  | 0 => simp at k0
  | 1 => simp at k0
  | o + 2 => simp at k1
theorem JPt.ptN {S : Nat → Prop} {n0 : Nat} {W : World} {G cap : Nat} {ts : List IV} (j : JPt n0 G cap ts W) (hS : ∀ k, S k → k < n0) (hR : ∀ k, S k → NoL W k) : Pt S W (some ⟨G, 0, none⟩) ts := by
  refine ⟨j.g, fun _ b o e hs => ?_, fun i hi b o e hs => ?_⟩
  · have h1 := hS _ hs
    have h2 := j.lt.1
    simp only [Option.some.injEq, Addr.mk.injEq] at e
    omega
  · obtain ⟨h1, h2, _⟩ := j.k i hi
    exact hR b hs _ _ _ h2 (.inl rfl) b o e rfl
/-- A form that lies off some blocks. -/
structure FmP (S : Nat → Prop) (W : World) (fa : Option Addr) (fn : Nat) (fb : Option Addr) (fm : Nat) (F : Frm) : Prop where
  C : Ints W fa fn F.1
  D : Ints W fb fm F.2.1
  n4 : fn ≤ 4
  m4 : fm ≤ 4
  oa : ∀ b o, fa = some ⟨b, o, none⟩ → ¬ S b
  ob : ∀ b o, fb = some ⟨b, o, none⟩ → ¬ S b
section
variable {S : Nat → Prop} {W W' : World} {fa : Option Addr} {fn : Nat} {fb : Option Addr} {fm : Nat} {F : Frm}
theorem FmP.below (h : FmP S W fa fn fb fm F) (b : Below W.heap.size W W') : FmP S W' fa fn fb fm F := ⟨h.C.below b, h.D.below b, h.n4, h.m4, h.oa, h.ob⟩
theorem FmP.touch {S' : Nat → Prop} (h : FmP S W fa fn fb fm F) (t : Touch S' W W') (hs : ∀ k, S' k → S k) : FmP S W' fa fn fb fm F := ⟨h.C.off t (fun b o e k => h.oa b o e (hs _ k)), h.D.off t (fun b o e k => h.ob b o e (hs _ k)), h.n4, h.m4, h.oa, h.ob⟩
theorem FmP.fa' (h : FmP S W fa fn fb fm F) : FA W fa fn fb fm F := ⟨h.C, h.D, by have := h.n4; omega, by have := h.m4; omega⟩
end

theorem Touch.setX {R X : Nat} {w1 W W' : World} (h : Touch (fun x => x = R) w1 W) (t : Touch (fun x => x = X) W W') (hX : w1.heap.size ≤ X) : Touch (fun x => x = R) w1 W' :=
  ⟨t.os.trans h.os, t.tape.trans h.tape, t.output.trans h.output, Nat.le_trans h.size t.size, fun x hx hs => (t.block x (Nat.lt_of_lt_of_le hx h.size) (fun e => by omega)).trans (h.block x hx hs)⟩

set_option maxHeartbeats 12800000 in
theorem dBounds (a : Option Addr) (n cap : Nat) (bs : List Int) (w : World) (h : BInts w a n bs) (hn : n ≤ cap) (hn1 : n ≤ 1048576) (hc : cap ≤ maxLen) :
    Calls Try.prog 23 #[.slice a n cap] w fun e w' => ∃ ba bn bc ga gn gc B G pa pn pc ts s ea en ec E fa fn fc fb fm fd F ua un uc U, e = .returned (.tuple #[treV ba bn bc ga gn gc, .slice pa pn pc, .int .i64 s, .slice ea en ec, formV fa fn fc fb fm fd F.2.2, .slice ua un uc]) ∧ Below w.heap.size w w' ∧ Ints w' ba bn B ∧ Ints w' ga gn G ∧ bn ≤ 4 ∧ gn ≤ 3 ∧ bnd 51 G ∧ ISG w' pa ts ∧ ts.length = pn ∧ pn ≤ 600000 ∧ Ints w' ea en E ∧ en ≤ 4 ∧ FA w' fa fn fb fm F ∧ Ints w' ua un U ∧ un ≤ 4 ∧ 0 ≤ s ∧ s ≤ 2 ∧ ∃ gb, OwnX w' ga gb gn G ∧ (0 < gn → w.heap.size ≤ gb ∧ OffG gb ba pa ts ea fa fn fb fm ua) := by
  have qt0 := Cel.new w [.slice none 0 0, .slice none 0 0] 45
  have al0 := (Below.refl w.heap.size w).alloc (Nat.le_refl _) (.cells #[.slice none 0 0, .slice none 0 0] 45)
  have qf := Cel.new (w.alloc (.cells #[.slice none 0 0, .slice none 0 0] 45)) [.slice none 0 0, .slice none 0 0, .int .i64 0] 34
  have al1 := (Below.refl (w.alloc (.cells #[.slice none 0 0, .slice none 0 0] 45)).heap.size (w.alloc (.cells #[.slice none 0 0, .slice none 0 0] 45))).alloc (Nat.le_refl _) (.cells #[.slice none 0 0, .slice none 0 0, .int .i64 0] 34)
  have al := al0.trans (al1.mono al0.size)
  have qt := qt0.below al1
  rw [World.size_alloc] at qf
  clear al0 al1 qt0
  go_enter Try.func23, Try.ntmps23
  go_wp2_with fail
  refine (open_any _ _ _ bs _ (h.below al) hn hn1 hc).mono ?_
  rintro e w1 ⟨R, n', cap2, bs', rfl, b1, hR, r1⟩
  simp only [World.size_alloc] at hR
  replace qt := qt.below b1
  replace qf := qf.below b1
  have hRl := r1.c.lt
  have hra := r1.ha
  go_wp2_with fail
  refine (acts_f R a n' cap2 bs' 0 _ r1 (by omega) (by omega) r1.ha).mono ?_
  rintro e w2 ⟨ad, N, c, ss, q, rfl, j, hN, hN1, hN4, y0, y1⟩
  have HC : Hid (catB N ss = true) := j.cat hN hN1 hN4
  have HN : Hid (ss.length = N) := hN
  have T := j.t
  have z2 := T.size
  have rd := j.r
  have hL := j.lsg hN
  have hA := (j.ac 0 (by rw [hN]; omega)).mono (P' := fun b => w1.heap.size ≤ b) (fun b hb => hb.1)
  obtain ⟨ga0, hga0⟩ : ∃ g, ad = some ⟨g, 0, none⟩ := by
    rcases j.o.2 with ⟨_, h⟩ | ⟨g, cap', cur, hv, _⟩
    · omega
    · simp only [Value.slice.injEq] at hv
      exact ⟨g, hv.1⟩
  subst hga0
  have oo := j.o
  rw [hN] at oo
  replace qt := qt.touch T (by omega)
  replace qf := qf.touch T (by omega)
  clear j hN r1
  go_wp2_with fail
  refine (sforms_jp _ _ _ ss _ HN.out hL (by omega) HC.out).mono ?_
  rintro e w3 ⟨G0, cG, ts, nt, rfl, hl, jp, _, hnt⟩
  have HL : Hid (ts.length = nt) := hl
  have bb := jp.b
  have z3 := bb.size
  replace qt := qt.below bb
  replace qf := qf.below bb
  replace rd := rd.below bb
  replace T := T.trans (Touch.of bb)
  replace hA := hA.below bb
  replace oo := own_belowL oo bb
  have HP3 : Hid (∀ i, i < ts.length → (ts[i]?.getD noI).n = 3 ∨ (ts[i]?.getD noI).n = 2) := fun i hi => .inl (jp.k i hi).1
  have jl := jp.lt
  have P := jp.old.ptN (S := fun k => k = R ∨ k = w.heap.size ∨ k = w.heap.size + 1) (fun k hk => by omega) (fun k hk => by (rcases hk with rfl | rfl | rfl; exact noL2 rd.c; exact noL2 qt; exact noL3 qf))
  clear jp hl hL bb
  go_wp2_with fail
  refine (form_f R a n' cap2 bs' q 12 _ rd (by omega) (by omega) (by omega) (by omega) rd.ha).mono ?_
  rintro e w4 ⟨B1, nC, cC, B2, nD, cD, K, LC, LD, q4, rfl, fm⟩
  have x0 := fm.q0
  have x1 := fm.q1
  have x2 := fm.b1
  have x3 := fm.b2
  have z4 := fm.t.size
  have P4 : FmP (fun k => k = R ∨ k = w.heap.size ∨ k = w.heap.size + 1) w4 (some ⟨B1, 0, none⟩) nC (some ⟨B2, 0, none⟩) nD (LC, LD, K) := ⟨fm.c, fm.d, fm.c4, fm.d4, fun b o e hs => by (simp only [Option.some.injEq, Addr.mk.injEq] at e; omega), fun b o e hs => by (simp only [Option.some.injEq, Addr.mk.injEq] at e; omega)⟩
  replace qt := qt.touch fm.t (by omega)
  replace qf := qf.touch fm.t (by omega)
  replace T := T.trans fm.t
  replace hA := hA.touch fm.t (fun b hb hs => by omega)
  replace oo := ownsRow_touch oo fm.t (fun k hk => by omega)
  replace P := P.touch fm.t (fun k hk => .inl hk)
  clear rd
  have rd := fm.r
  clear fm
  have bx := (Below.refl w4.heap.size w4).alloc (Nat.le_refl _) (.cells #[.slice (some ⟨B1, 0, none⟩) nC cC, .slice (some ⟨B2, 0, none⟩) nD cD, .int .i64 K] 34)
  have qx := Cel.new w4 [.slice (some ⟨B1, 0, none⟩) nC cC, .slice (some ⟨B2, 0, none⟩) nD cD, .int .i64 K] 34
  replace qt := qt.below bx
  replace qf := qf.below bx
  replace T := T.trans (Touch.of bx)
  replace hA := hA.below bx
  replace oo := own_belowL oo bx
  replace P := P.below bx
  replace P4 := P4.below bx
  replace rd := rd.below bx
  go_upto_region 5 with fail
  obtain ⟨w5, hw5⟩ : ∃ W, W = w4.alloc (.cells #[.slice (some ⟨B1, 0, none⟩) nC cC, .slice (some ⟨B2, 0, none⟩) nD cD, .int .i64 K] 34) := ⟨_, rfl⟩
  have z5 : w4.heap.size + 1 ≤ w5.heap.size := by rw [hw5, World.size_alloc]; omega
  rw [← hw5]
  rw [← hw5] at qt qf T hA oo P P4 rd qx
  clear hw5 bx
  obtain ⟨X, hX⟩ : ∃ x, x = w4.heap.size := ⟨_, rfl⟩
  rw [← hX]
  rw [← hX] at qx
  have v1 : w1.heap.size ≤ X := by omega
  have v2 : X < w5.heap.size := by omega
  have v3 : w3.heap.size ≤ X := by omega
  clear hX
  have c0 := oo.cellAt 0 (by omega)
  rw [List.getElem?_map, List.getElem?_eq_getElem (by rw [HN.out]; omega)] at c0
  obtain ⟨s0, hs0⟩ : ∃ s0, s0 = ss[0]?.getD noL := ⟨_, rfl⟩
  have es : ss[0]'(by rw [HN.out]; omega) = s0 := by rw [hs0, List.getElem?_eq_getElem (by rw [HN.out]; omega)]; rfl
  rw [es] at c0
  rw [← hs0] at hA
  have c0' : w5.cell? ⟨ga0, 0, none⟩ = some (.slice s0.a s0.n s0.cap) := c0
  have hok := hA.ok
  have hlen := hA.len
  have hlg := hA.g
  have h6 := hA.six
  have HO : Hid (actB s0.n s0.x = true) := hok
  have HLn : Hid (s0.x.length = s0.n) := hlen
  have hN0 : (0 : Int) < (N : Int) := by omega
  clear c0 es hs0 hok hlen
  go_wp2_with fail
  refine (srows_any _ _ _ s0.x _ HLn.out hlg (by omega)).mono ?_
  rintro e w6 ⟨Gr, cr, xs, rfl, jr⟩
  have hne : 0 < (rowsB s0.n s0.x).length := by unfold rowsB; rw [HO.out, if_pos rfl]; exact goW_ne _ _ _
  have bb := jr.b
  have z6 := bb.size
  have jlt := jr.lt
  have ro := jr.o
  have rk := jr.r
  replace qt := qt.below bb
  replace qf := qf.below bb
  replace qx := qx.below bb
  replace T := T.trans (Touch.of bb)
  replace P := P.below bb
  replace P4 := P4.below bb
  replace rd := rd.below bb
  clear jr bb c0' oo hA hlg
  go_wp2_with fail
  refine (pick_any R a n' cap2 bs' q4 2 _ rd (by omega) (by omega) (by omega) (by omega)).mono ?_
  rintro e w7 ⟨u, u0, u1, rfl, t7, R7⟩
  have z7 := t7.size
  replace qt := qt.touch t7 (by omega)
  replace qf := qf.touch t7 (by omega)
  replace qx := qx.touch t7 (by omega)
  replace T := T.trans t7
  replace P := P.touch t7 (fun k hk => .inl hk)
  replace P4 := P4.touch t7 (fun k hk => .inl hk)
  replace ro := ownsRow_touch ro t7 (fun k hk => by omega)
  obtain ⟨pa, pc, pb, pd, pe, pf, k0, _, _, _, f0, _, _⟩ := rk 0 hne
  have f7 := f0.touch (t7.mono (fun k hk => .inl (by omega)))
  clear rd rk f0
  have rd := R7
  have k0' := ro.cellAt 0 (by omega)
  rw [Nat.zero_mul] at k0
  rw [k0] at k0'
  obtain ⟨gl, hgl⟩ : ∃ g, g = ((rowsB s0.n s0.x)[0]?.getD noR).guards := ⟨_, rfl⟩
  rw [← hgl] at k0' f7
  have hne' : (0 : Int) < (((rowsB s0.n s0.x).length : Nat) : Int) := by omega
  obtain ⟨rl, hrl⟩ : ∃ r, r = (rowsB s0.n s0.x).length := ⟨_, rfl⟩
  rw [← hrl] at hne hne' ⊢
  clear hgl k0 ro R7 t7 hrl
  by_cases hu : u = 0
  · subst hu
    by_cases hg : 0 < gl.length
    · have hg' : (0 : Int) < ((gl.length : Nat) : Int) := by omega
      obtain ⟨b8, o8, e8, a8, c8, p8, p9, m0, m1, m2, I8, J8⟩ := f7.at 0 hg
      subst e8
      obtain ⟨F8, hF8⟩ : ∃ F, F = gl[0]?.getD ([], [], 0) := ⟨_, rfl⟩
      rw [← hF8] at m2 I8 J8
      simp only [Nat.zero_mul, Nat.add_zero] at m0 m1 m2
      have NR := noL2 rd.c
      have N2 := noL2 qt
      have N6 := noL3 qf
      have NX := noL3 qx
      have P8 : FmP (fun k => k = R ∨ k = w.heap.size ∨ k = w.heap.size + 1) w7 a8 3 c8 2 F8 := ⟨I8, J8, by omega, by omega, fun b o e hs => by (rcases hs with hs | hs | hs; exact NR _ _ _ I8 (.inl rfl) b o e hs; exact N2 _ _ _ I8 (.inl rfl) b o e hs; exact N6 _ _ _ I8 (.inl rfl) b o e hs), fun b o e hs => by (rcases hs with hs | hs | hs; exact NR _ _ _ J8 (.inr rfl) b o e hs; exact N2 _ _ _ J8 (.inr rfl) b o e hs; exact N6 _ _ _ J8 (.inr rfl) b o e hs)⟩
      have nx1 : ∀ b o, a8 = some ⟨b, o, none⟩ → b ≠ X := fun b o e => NX _ _ _ I8 (.inl rfl) b o e
      have nx2 : ∀ b o, c8 = some ⟨b, o, none⟩ → b ≠ X := fun b o e => NX _ _ _ J8 (.inr rfl) b o e
      have e0 := qx.cell 0
      have e1 := qx.cell 1
      have e2 := qx.cell 2
      have h0 := qx.free 0
      have h1 := qx.free 1
      have h2 := qx.free 2
      have lx := qx.lt
      simp only [List.getElem?_cons_zero, List.getElem?_cons_succ] at e0 e1 e2
      have NXP := NX
      clear NR N2 N6 NX I8 J8 hF8 f7 P4
      go_upto_region 8 with fail
      have TX : Touch (fun k => k = X) w7 (((w7.setCell ⟨X, 0, none⟩ (.slice a8 3 p8)).setCell ⟨X, 1, none⟩ (.slice c8 2 p9)).setCell ⟨X, 2, none⟩ (.int .i64 F8.2.2)) := Touch.setCell (S := fun k => k = X) (Touch.setCell (S := fun k => k = X) (Touch.setCell (S := fun k => k = X) (Touch.refl _ _) rfl _) rfl _) rfl _
      replace qx := ((qx.set 0 (.slice a8 3 p8)).set 1 (.slice c8 2 p9)).set 2 (.int .i64 F8.2.2)
      simp only [List.set_cons_succ, List.set_cons_zero] at qx
      have P4 : FmP (fun k => k = R ∨ k = w.heap.size ∨ k = w.heap.size + 1) (((w7.setCell ⟨X, 0, none⟩ (.slice a8 3 p8)).setCell ⟨X, 1, none⟩ (.slice c8 2 p9)).setCell ⟨X, 2, none⟩ (.int .i64 F8.2.2)) a8 3 c8 2 F8 := ⟨P8.C.off TX (fun b o e k => nx1 b o e k), P8.D.off TX (fun b o e k => nx2 b o e k), P8.n4, P8.m4, P8.oa, P8.ob⟩
      replace qt := qt.touch TX (by omega)
      replace qf := qf.touch TX (by omega)
      replace T := T.setX TX v1
      replace P : Pt (fun k => k = R ∨ k = w.heap.size ∨ k = w.heap.size + 1) _ (some ⟨G0, 0, none⟩) ts := ⟨P.g.off TX (fun h0 b o e hs => by (simp only [Option.some.injEq, Addr.mk.injEq] at e; omega)) (fun i hi b o e hs => by (obtain ⟨_, _, _, _, hI, hI2⟩ := P.g i hi; exact NXP _ _ _ hI (HP3.out i hi) b o e hs)), P.na, P.nk⟩
      replace rd := rd.touch TX (by omega) (fun h0 b o e hs => by have := hra h0 b o e; omega)
      clear TX P8 nx1 nx2 e0 e1 e2 h0 h1 h2 lx m0 m1 m2 k0'
      obtain ⟨w8, hw8⟩ : ∃ W, W = ((w7.setCell ⟨X, 0, none⟩ (.slice a8 3 p8)).setCell ⟨X, 1, none⟩ (.slice c8 2 p9)).setCell ⟨X, 2, none⟩ (.int .i64 F8.2.2) := ⟨_, rfl⟩
      have z8 : w7.heap.size ≤ w8.heap.size := by rw [hw8]; simp only [size_setCell]; omega
      rw [← hw8]
      rw [← hw8] at qx qt qf T P P4 rd
      clear hw8
      skip
      go_upto_region 8 with fail
      refine wp_region_ends (fun Y => Y.cell? ⟨X, 0, none⟩ = some (.slice a8 3 p8) ∧ Y.cell? ⟨X, 1, none⟩ = some (.slice c8 2 p9) ∧ Y.cell? ⟨X, 2, none⟩ = some (.int .i64 F8.2.2)) (fun _ => True) 16 (by kernel_rfl) ?_
      have dr : Below w8.heap.size w8 w8.drew := (Below.refl _ _).drew
      have zd := dr.size
      replace qt := qt.below dr
      replace qf := qf.below dr
      replace qx := qx.below dr
      replace T := T.trans (Touch.of dr)
      replace P := P.below dr
      replace P4 := P4.below dr
      replace rd := rd.below dr
      clear dr
      obtain ⟨V, hV⟩ : ∃ V, V = w8.drew := ⟨_, rfl⟩
      rw [← hV]
      rw [← hV] at qt qf qx T P P4 rd zd
      clear hV
      have hSS : (fun Y : World => Y.cell? ⟨X, 0, none⟩ = some (.slice a8 3 p8) ∧ Y.cell? ⟨X, 1, none⟩ = some (.slice c8 2 p9) ∧ Y.cell? ⟨X, 2, none⟩ = some (.int .i64 F8.2.2)) V ∧ True := ⟨⟨qx.cell 0, qx.cell 1, qx.cell 2⟩, trivial⟩
      refine tkL (i := 0) rfl hSS ?_
      refine tkL (i := 2) rfl hSS ?_
      refine tkL (i := 3) rfl hSS ?_
      simp only [Act.put, List.setIfInBounds_toArray, List.set_cons_succ, List.set_cons_zero, List.getElem_toArray, List.getElem_cons_succ, List.getElem_cons_zero]
      refine tkL (i := 5) rfl hSS ?_
      refine tkL (i := 7) rfl hSS ?_
      refine tkL (i := 8) rfl hSS ?_
      simp only [Act.put, List.setIfInBounds_toArray, List.set_cons_succ, List.set_cons_zero, List.getElem_toArray, List.getElem_cons_succ, List.getElem_cons_zero]
      clear hSS
      have HQB : Hid (∀ i, i < ts.length → ∀ b o, (ts[i]?.getD noI).a = some ⟨b, o, none⟩ → b < V.heap.size) := fun i hi b o e => by
        obtain ⟨_, _, _, _, hI, _⟩ := P.g i hi
        rw [e] at hI
        exact hI.blkB (by have := HP3.out i hi; omega)
      have HFB : Hid (0 < 3 → ∀ b o, (a8 : Option Addr) = some ⟨b, o, none⟩ → b < V.heap.size) := fun h b o e => by
        have h1 := P4.C
        rw [e] at h1
        exact h1.blkB h
      have HGB : Hid (0 < 2 → ∀ b o, (c8 : Option Addr) = some ⟨b, o, none⟩ → b < V.heap.size) := fun h b o e => by
        have h1 := P4.D
        rw [e] at h1
        exact h1.blkB h
      have hG0V : G0 < V.heap.size := by omega
      refine wpAnyE_one (i := 1) (by kernel_rfl) rfl (fun Kn hK => ?_)
      go_simp
      refine (treaty_f R a n' cap2 bs' (q4 + 1) 16 _ rd (by omega) (by omega) (by omega) (by omega) rd.ha).mono ?_
      rintro e w10 ⟨ba, bn, bc, ga, gn, gc, B, G, q10, rfl, d10⟩
      have y2 := d10.q0
      have y3 := d10.q1
      have lb := d10.lb
      have lg := d10.lg
      have hB := d10.b
      have hG := d10.g
      have w4b := d10.b4
      have w3g := d10.g3
      have hGb := d10.gB
      obtain ⟨gb, hO, hgb⟩ := d10.gx
      have hOl := fun h0 => hO.lt h0
      have t5 := d10.t
      have R5 := d10.r
      have z10 := t5.size
      replace qt := qt.touch t5 (by omega)
      replace qf := qf.touch t5 (by omega)
      replace qx := qx.touch t5 (by omega)
      replace T := T.trans t5
      replace P := P.touch t5 (fun k hk => .inl hk)
      replace P4 := P4.touch t5 (fun k hk => .inl hk)
      clear rd
      have rd := R5
      clear d10 t5 R5
      (try dsimp only)
      refine hK.out _ _ ⟨⟨qx.cell 0, qx.cell 1, qx.cell 2⟩, fun _ => trivial⟩ ?_
      clear hK
      refine wpAnyE_one (i := 4) (by kernel_rfl) rfl (fun Kn hK => ?_)
      go_simp
      refine (pick_any R a n' cap2 bs' q10 3 _ rd (by omega) (by omega) (by omega) (by omega)).mono ?_
      rintro e w11 ⟨s, s0', s3', rfl, t5, R5⟩
      have z11 := t5.size
      replace qt := qt.touch t5 (by omega)
      replace qf := qf.touch t5 (by omega)
      replace qx := qx.touch t5 (by omega)
      replace T := T.trans t5
      replace P := P.touch t5 (fun k hk => .inl hk)
      replace P4 := P4.touch t5 (fun k hk => .inl hk)
      clear rd
      have rd := R5
      replace hB := hB.off t5 (fun b o e hs => by have := lb b o e; omega)
      replace hG := hG.off t5 (fun b o e hs => by have := lg b o e; omega)
      replace hO := hO.touch t5 (fun h0 hs => by have := (hgb h0).1; omega)
      clear t5 R5
      (try dsimp only)
      refine hK.out _ _ ⟨⟨qx.cell 0, qx.cell 1, qx.cell 2⟩, fun _ => trivial⟩ ?_
      clear hK
      refine wpAnyE_one (i := 6) (by kernel_rfl) rfl (fun Kn hK => ?_)
      go_simp
      refine (added_gen R a n' cap2 bs' (q10 + 1) 16 _ rd (by omega) (by omega) (by omega) (by omega) rd.ha).mono ?_
      rintro e w12 ⟨ea, en, ec, E, q12, rfl, d12⟩
      have y4 := d12.q0
      have y5 := d12.q1
      have le := d12.lo
      have hE := d12.i
      have he4 := d12.h4
      have t5 := d12.t
      have R5 := d12.r
      have z12 := t5.size
      replace qt := qt.touch t5 (by omega)
      replace qf := qf.touch t5 (by omega)
      replace qx := qx.touch t5 (by omega)
      replace T := T.trans t5
      replace P := P.touch t5 (fun k hk => .inl hk)
      replace P4 := P4.touch t5 (fun k hk => .inl hk)
      clear rd
      have rd := R5
      replace hB := hB.off t5 (fun b o e hs => by have := lb b o e; omega)
      replace hG := hG.off t5 (fun b o e hs => by have := lg b o e; omega)
      replace hO := hO.touch t5 (fun h0 hs => by have := (hgb h0).1; omega)
      clear d12 t5 R5
      (try dsimp only)
      refine hK.out _ _ ⟨⟨qx.cell 0, qx.cell 1, qx.cell 2⟩, fun _ => trivial⟩ ?_
      clear hK
      refine wpAnyE_one (i := 9) (by kernel_rfl) rfl (fun Kn hK => ?_)
      go_simp
      refine (args_gen R a n' cap2 bs' q12 16 _ rd (by omega) (by omega) (by omega) (by omega) rd.ha).mono ?_
      rintro e w13 ⟨ua, un, uc, U, q13, rfl, d13⟩
      have lu := d13.lo
      have hU := d13.i
      have hu4 := d13.h4
      have t5 := d13.t
      have R5 := d13.r
      have z13 := t5.size
      replace qt := qt.touch t5 (by omega)
      replace qf := qf.touch t5 (by omega)
      replace qx := qx.touch t5 (by omega)
      replace T := T.trans t5
      replace P := P.touch t5 (fun k hk => .inl hk)
      replace P4 := P4.touch t5 (fun k hk => .inl hk)
      clear rd
      have rd := R5
      replace hB := hB.off t5 (fun b o e hs => by have := lb b o e; omega)
      replace hG := hG.off t5 (fun b o e hs => by have := lg b o e; omega)
      replace hO := hO.touch t5 (fun h0 hs => by have := (hgb h0).1; omega)
      replace hE := hE.off t5 (fun b o e hs => by have := le b o e; omega)
      clear d13 t5 R5
      (try dsimp only)
      refine hK.out _ _ ⟨⟨qx.cell 0, qx.cell 1, qx.cell 2⟩, fun _ => trivial⟩ ?_
      clear hK
      have g0 := qt.cell 0
      have g1 := qt.cell 1
      have h0 := qt.free 0
      have h1 := qt.free 1
      have l0 := qt.lt
      simp only [List.getElem?_cons_zero, List.getElem?_cons_succ] at g0 g1
      refine wpAnyE_one (i := 10) (by kernel_rfl) rfl (fun Kn hK => ?_)
      go_simp
      clear g0 g1 h0 h1 l0
      have TS : Touch (fun x => x = w.heap.size) w13 ((w13.setCell ⟨w.heap.size, 0, none⟩ (.slice ba bn bc)).setCell ⟨w.heap.size, 1, none⟩ (.slice ga gn gc)) := Touch.setCell (S := fun x => x = w.heap.size) (Touch.setCell (S := fun x => x = w.heap.size) (Touch.refl _ _) rfl _) rfl _
      have zS := TS.size
      replace qt := (qt.set 0 (.slice ba bn bc)).set 1 (.slice ga gn gc)
      simp only [List.set_cons_succ, List.set_cons_zero] at qt
      replace qf := qf.touch TS (by omega)
      replace qx := qx.touch TS (by omega)
      replace P := P.touch TS (fun k hk => .inr (.inl hk))
      replace P4 := P4.touch TS (fun k hk => .inr (.inl hk))
      replace hB := hB.off TS (fun b o e hs => by have := lb b o e; omega)
      replace hG := hG.off TS (fun b o e hs => by have := lg b o e; omega)
      replace hO := hO.touch TS (fun h0 hs => by have := (hgb h0).1; omega)
      replace hE := hE.off TS (fun b o e hs => by have := le b o e; omega)
      replace hU := hU.off TS (fun b o e hs => by have := lu b o e; omega)
      have BB : Below w.heap.size w ((w13.setCell ⟨w.heap.size, 0, none⟩ (.slice ba bn bc)).setCell ⟨w.heap.size, 1, none⟩ (.slice ga gn gc)) := (((al.trans (b1.mono al.size)).trans (T.below (by omega) (fun k hk => by omega))).setCell (Nat.le_refl _) _).setCell (Nat.le_refl _) _
      obtain ⟨w14, hw14⟩ : ∃ W, W = (w13.setCell ⟨w.heap.size, 0, none⟩ (.slice ba bn bc)).setCell ⟨w.heap.size, 1, none⟩ (.slice ga gn gc) := ⟨_, rfl⟩
      rw [← hw14]
      rw [← hw14] at qt qf qx P P4 hB hG hO hE hU BB zS
      clear hw14 TS rd T
      refine hK.out _ _ ⟨⟨qx.cell 0, qx.cell 1, qx.cell 2⟩, fun _ => trivial⟩ ?_
      clear hK
      refine wpAnyE_one (i := 11) (by kernel_rfl) rfl (fun Kn hK => ?_)
      go_simp
      refine hK.out _ _ ⟨⟨qx.cell 0, qx.cell 1, qx.cell 2⟩, fun _ => trivial⟩ ?_
      clear hK
      refine wpAnyE_one (i := 12) (by kernel_rfl) rfl (fun Kn hK => ?_)
      go_simp
      refine hK.out _ _ ⟨⟨qx.cell 0, qx.cell 1, qx.cell 2⟩, fun _ => trivial⟩ ?_
      clear hK
      refine wpAnyE_one (i := 13) (by kernel_rfl) rfl (fun Kn hK => ?_)
      go_simp
      refine hK.out _ _ ⟨⟨qx.cell 0, qx.cell 1, qx.cell 2⟩, fun _ => trivial⟩ ?_
      clear hK
      have g0 := qf.cell 0
      have g1 := qf.cell 1
      have g2 := qf.cell 2
      have h0 := qf.free 0
      have h1 := qf.free 1
      have h2 := qf.free 2
      have l0 := qf.lt
      simp only [List.getElem?_cons_zero, List.getElem?_cons_succ] at g0 g1 g2
      refine wpAnyE_one (i := 14) (by kernel_rfl) rfl (fun Kn hK => ?_)
      go_simp
      clear g0 g1 g2 h0 h1 h2 l0
      have TS : Touch (fun x => x = w.heap.size + 1) w14 (((w14.setCell ⟨w.heap.size + 1, 0, none⟩ (.slice a8 3 p8)).setCell ⟨w.heap.size + 1, 1, none⟩ (.slice c8 2 p9)).setCell ⟨w.heap.size + 1, 2, none⟩ (.int .i64 F8.2.2)) := Touch.setCell (S := fun x => x = w.heap.size + 1) (Touch.setCell (S := fun x => x = w.heap.size + 1) (Touch.setCell (S := fun x => x = w.heap.size + 1) (Touch.refl _ _) rfl _) rfl _) rfl _
      replace qf := ((qf.set 0 (.slice a8 3 p8)).set 1 (.slice c8 2 p9)).set 2 (.int .i64 F8.2.2)
      simp only [List.set_cons_succ, List.set_cons_zero] at qf
      replace qt := qt.touch TS (by omega)
      replace qx := qx.touch TS (by omega)
      replace P := P.touch TS (fun k hk => .inr (.inr hk))
      replace P4 := P4.touch TS (fun k hk => .inr (.inr hk))
      replace hB := hB.off TS (fun b o e hs => by have := lb b o e; omega)
      replace hG := hG.off TS (fun b o e hs => by have := lg b o e; omega)
      replace hO := hO.touch TS (fun h0 hs => by have := (hgb h0).1; omega)
      replace hE := hE.off TS (fun b o e hs => by have := le b o e; omega)
      replace hU := hU.off TS (fun b o e hs => by have := lu b o e; omega)
      replace BB := ((BB.setCell (p := ⟨w.heap.size + 1, 0, none⟩) (by simp only []; omega) (.slice a8 3 p8)).setCell (p := ⟨w.heap.size + 1, 1, none⟩) (by simp only []; omega) (.slice c8 2 p9)).setCell (p := ⟨w.heap.size + 1, 2, none⟩) (by simp only []; omega) (.int .i64 F8.2.2)
      obtain ⟨w15, hw15⟩ : ∃ W, W = ((w14.setCell ⟨w.heap.size + 1, 0, none⟩ (.slice a8 3 p8)).setCell ⟨w.heap.size + 1, 1, none⟩ (.slice c8 2 p9)).setCell ⟨w.heap.size + 1, 2, none⟩ (.int .i64 F8.2.2) := ⟨_, rfl⟩
      rw [← hw15]
      rw [← hw15] at qt qf qx P P4 hB hG hO hE hU BB
      clear hw15 TS
      refine hK.out _ _ ⟨⟨qx.cell 0, qx.cell 1, qx.cell 2⟩, fun _ => trivial⟩ ?_
      clear hK
      refine wpAnyE_one (i := 15) (by kernel_rfl) rfl (fun Kn hK => ?_)
      go_simp
      refine hK.out _ _ ⟨⟨qx.cell 0, qx.cell 1, qx.cell 2⟩, fun _ => trivial⟩ ?_
      clear hK
      refine wpAnyE_done (by kernel_rfl) ?_ _
      have e0 := qt.cell 0
      have e1 := qt.cell 1
      have e2 := qf.cell 0
      have e3 := qf.cell 1
      have e4 := qf.cell 2
      simp only [List.getElem?_cons_zero, List.getElem?_cons_succ] at e0 e1 e2 e3 e4
      clear qt qf qx
      go_wp2
      exact bodyPost_ret (v := .tuple #[treV ba bn bc ga gn gc, .slice (some ⟨G0, 0, none⟩) nt cG, .int .i64 s, .slice ea en ec, formV a8 3 p8 c8 2 p9 F8.2.2, .slice ua un uc]) (by simp [results, Try.results23, go_sem, e0, e1, e2, e3, e4]) rfl ⟨ba, bn, bc, ga, gn, gc, B, G, _, nt, cG, ts, s, ea, en, ec, E, _, 3, p8, _, 2, p9, F8, ua, un, uc, U, rfl, BB, hB, hG, w4b, w3g, hGb, P.g, HL.out, hnt, hE, he4, P4.fa', hU, hu4, by omega, by omega, gb, hO, fun h0 => ⟨by (have := (hgb h0).1; omega), fun b o e => (hgb h0).2 b o e, fun b o e => by (simp only [Option.some.injEq, Addr.mk.injEq] at e; have := (hgb h0).1; omega), fun i hi b o e => by (have := HQB.out i hi b o e; have := (hgb h0).1; omega), fun b o e => by (have := le b o e; have := hOl h0; omega), fun h b o e => by (have := HFB.out h b o e; have := (hgb h0).1; omega), fun h b o e => by (have := HGB.out h b o e; have := (hgb h0).1; omega), fun b o e => by (have := lu b o e; have := hOl h0; omega)⟩⟩
    · have hg' : ¬ (0 : Int) < ((gl.length : Nat) : Int) := by omega
      skip
      go_upto_region 8 with fail
      refine wp_region_ends (fun Y => Y.cell? ⟨X, 0, none⟩ = some (.slice (some ⟨B1, 0, none⟩) nC cC) ∧ Y.cell? ⟨X, 1, none⟩ = some (.slice (some ⟨B2, 0, none⟩) nD cD) ∧ Y.cell? ⟨X, 2, none⟩ = some (.int .i64 K)) (fun _ => True) 16 (by kernel_rfl) ?_
      have dr : Below w7.heap.size w7 w7.drew := (Below.refl _ _).drew
      have zd := dr.size
      replace qt := qt.below dr
      replace qf := qf.below dr
      replace qx := qx.below dr
      replace T := T.trans (Touch.of dr)
      replace P := P.below dr
      replace P4 := P4.below dr
      replace rd := rd.below dr
      clear dr
      obtain ⟨V, hV⟩ : ∃ V, V = w7.drew := ⟨_, rfl⟩
      rw [← hV]
      rw [← hV] at qt qf qx T P P4 rd zd
      clear hV
      have hSS : (fun Y : World => Y.cell? ⟨X, 0, none⟩ = some (.slice (some ⟨B1, 0, none⟩) nC cC) ∧ Y.cell? ⟨X, 1, none⟩ = some (.slice (some ⟨B2, 0, none⟩) nD cD) ∧ Y.cell? ⟨X, 2, none⟩ = some (.int .i64 K)) V ∧ True := ⟨⟨qx.cell 0, qx.cell 1, qx.cell 2⟩, trivial⟩
      refine tkL (i := 0) rfl hSS ?_
      refine tkL (i := 2) rfl hSS ?_
      refine tkL (i := 3) rfl hSS ?_
      simp only [Act.put, List.setIfInBounds_toArray, List.set_cons_succ, List.set_cons_zero, List.getElem_toArray, List.getElem_cons_succ, List.getElem_cons_zero]
      refine tkL (i := 5) rfl hSS ?_
      refine tkL (i := 7) rfl hSS ?_
      refine tkL (i := 8) rfl hSS ?_
      simp only [Act.put, List.setIfInBounds_toArray, List.set_cons_succ, List.set_cons_zero, List.getElem_toArray, List.getElem_cons_succ, List.getElem_cons_zero]
      clear hSS
      have HQB : Hid (∀ i, i < ts.length → ∀ b o, (ts[i]?.getD noI).a = some ⟨b, o, none⟩ → b < V.heap.size) := fun i hi b o e => by
        obtain ⟨_, _, _, _, hI, _⟩ := P.g i hi
        rw [e] at hI
        exact hI.blkB (by have := HP3.out i hi; omega)
      have HFB : Hid (0 < nC → ∀ b o, ((some ⟨B1, 0, none⟩) : Option Addr) = some ⟨b, o, none⟩ → b < V.heap.size) := fun h b o e => by
        have h1 := P4.C
        rw [e] at h1
        exact h1.blkB h
      have HGB : Hid (0 < nD → ∀ b o, ((some ⟨B2, 0, none⟩) : Option Addr) = some ⟨b, o, none⟩ → b < V.heap.size) := fun h b o e => by
        have h1 := P4.D
        rw [e] at h1
        exact h1.blkB h
      have hG0V : G0 < V.heap.size := by omega
      refine wpAnyE_one (i := 1) (by kernel_rfl) rfl (fun Kn hK => ?_)
      go_simp
      refine (treaty_f R a n' cap2 bs' (q4 + 1) 16 _ rd (by omega) (by omega) (by omega) (by omega) rd.ha).mono ?_
      rintro e w10 ⟨ba, bn, bc, ga, gn, gc, B, G, q10, rfl, d10⟩
      have y2 := d10.q0
      have y3 := d10.q1
      have lb := d10.lb
      have lg := d10.lg
      have hB := d10.b
      have hG := d10.g
      have w4b := d10.b4
      have w3g := d10.g3
      have hGb := d10.gB
      obtain ⟨gb, hO, hgb⟩ := d10.gx
      have hOl := fun h0 => hO.lt h0
      have t5 := d10.t
      have R5 := d10.r
      have z10 := t5.size
      replace qt := qt.touch t5 (by omega)
      replace qf := qf.touch t5 (by omega)
      replace qx := qx.touch t5 (by omega)
      replace T := T.trans t5
      replace P := P.touch t5 (fun k hk => .inl hk)
      replace P4 := P4.touch t5 (fun k hk => .inl hk)
      clear rd
      have rd := R5
      clear d10 t5 R5
      (try dsimp only)
      refine hK.out _ _ ⟨⟨qx.cell 0, qx.cell 1, qx.cell 2⟩, fun _ => trivial⟩ ?_
      clear hK
      refine wpAnyE_one (i := 4) (by kernel_rfl) rfl (fun Kn hK => ?_)
      go_simp
      refine (pick_any R a n' cap2 bs' q10 3 _ rd (by omega) (by omega) (by omega) (by omega)).mono ?_
      rintro e w11 ⟨s, s0', s3', rfl, t5, R5⟩
      have z11 := t5.size
      replace qt := qt.touch t5 (by omega)
      replace qf := qf.touch t5 (by omega)
      replace qx := qx.touch t5 (by omega)
      replace T := T.trans t5
      replace P := P.touch t5 (fun k hk => .inl hk)
      replace P4 := P4.touch t5 (fun k hk => .inl hk)
      clear rd
      have rd := R5
      replace hB := hB.off t5 (fun b o e hs => by have := lb b o e; omega)
      replace hG := hG.off t5 (fun b o e hs => by have := lg b o e; omega)
      replace hO := hO.touch t5 (fun h0 hs => by have := (hgb h0).1; omega)
      clear t5 R5
      (try dsimp only)
      refine hK.out _ _ ⟨⟨qx.cell 0, qx.cell 1, qx.cell 2⟩, fun _ => trivial⟩ ?_
      clear hK
      refine wpAnyE_one (i := 6) (by kernel_rfl) rfl (fun Kn hK => ?_)
      go_simp
      refine (added_gen R a n' cap2 bs' (q10 + 1) 16 _ rd (by omega) (by omega) (by omega) (by omega) rd.ha).mono ?_
      rintro e w12 ⟨ea, en, ec, E, q12, rfl, d12⟩
      have y4 := d12.q0
      have y5 := d12.q1
      have le := d12.lo
      have hE := d12.i
      have he4 := d12.h4
      have t5 := d12.t
      have R5 := d12.r
      have z12 := t5.size
      replace qt := qt.touch t5 (by omega)
      replace qf := qf.touch t5 (by omega)
      replace qx := qx.touch t5 (by omega)
      replace T := T.trans t5
      replace P := P.touch t5 (fun k hk => .inl hk)
      replace P4 := P4.touch t5 (fun k hk => .inl hk)
      clear rd
      have rd := R5
      replace hB := hB.off t5 (fun b o e hs => by have := lb b o e; omega)
      replace hG := hG.off t5 (fun b o e hs => by have := lg b o e; omega)
      replace hO := hO.touch t5 (fun h0 hs => by have := (hgb h0).1; omega)
      clear d12 t5 R5
      (try dsimp only)
      refine hK.out _ _ ⟨⟨qx.cell 0, qx.cell 1, qx.cell 2⟩, fun _ => trivial⟩ ?_
      clear hK
      refine wpAnyE_one (i := 9) (by kernel_rfl) rfl (fun Kn hK => ?_)
      go_simp
      refine (args_gen R a n' cap2 bs' q12 16 _ rd (by omega) (by omega) (by omega) (by omega) rd.ha).mono ?_
      rintro e w13 ⟨ua, un, uc, U, q13, rfl, d13⟩
      have lu := d13.lo
      have hU := d13.i
      have hu4 := d13.h4
      have t5 := d13.t
      have R5 := d13.r
      have z13 := t5.size
      replace qt := qt.touch t5 (by omega)
      replace qf := qf.touch t5 (by omega)
      replace qx := qx.touch t5 (by omega)
      replace T := T.trans t5
      replace P := P.touch t5 (fun k hk => .inl hk)
      replace P4 := P4.touch t5 (fun k hk => .inl hk)
      clear rd
      have rd := R5
      replace hB := hB.off t5 (fun b o e hs => by have := lb b o e; omega)
      replace hG := hG.off t5 (fun b o e hs => by have := lg b o e; omega)
      replace hO := hO.touch t5 (fun h0 hs => by have := (hgb h0).1; omega)
      replace hE := hE.off t5 (fun b o e hs => by have := le b o e; omega)
      clear d13 t5 R5
      (try dsimp only)
      refine hK.out _ _ ⟨⟨qx.cell 0, qx.cell 1, qx.cell 2⟩, fun _ => trivial⟩ ?_
      clear hK
      have g0 := qt.cell 0
      have g1 := qt.cell 1
      have h0 := qt.free 0
      have h1 := qt.free 1
      have l0 := qt.lt
      simp only [List.getElem?_cons_zero, List.getElem?_cons_succ] at g0 g1
      refine wpAnyE_one (i := 10) (by kernel_rfl) rfl (fun Kn hK => ?_)
      go_simp
      clear g0 g1 h0 h1 l0
      have TS : Touch (fun x => x = w.heap.size) w13 ((w13.setCell ⟨w.heap.size, 0, none⟩ (.slice ba bn bc)).setCell ⟨w.heap.size, 1, none⟩ (.slice ga gn gc)) := Touch.setCell (S := fun x => x = w.heap.size) (Touch.setCell (S := fun x => x = w.heap.size) (Touch.refl _ _) rfl _) rfl _
      have zS := TS.size
      replace qt := (qt.set 0 (.slice ba bn bc)).set 1 (.slice ga gn gc)
      simp only [List.set_cons_succ, List.set_cons_zero] at qt
      replace qf := qf.touch TS (by omega)
      replace qx := qx.touch TS (by omega)
      replace P := P.touch TS (fun k hk => .inr (.inl hk))
      replace P4 := P4.touch TS (fun k hk => .inr (.inl hk))
      replace hB := hB.off TS (fun b o e hs => by have := lb b o e; omega)
      replace hG := hG.off TS (fun b o e hs => by have := lg b o e; omega)
      replace hO := hO.touch TS (fun h0 hs => by have := (hgb h0).1; omega)
      replace hE := hE.off TS (fun b o e hs => by have := le b o e; omega)
      replace hU := hU.off TS (fun b o e hs => by have := lu b o e; omega)
      have BB : Below w.heap.size w ((w13.setCell ⟨w.heap.size, 0, none⟩ (.slice ba bn bc)).setCell ⟨w.heap.size, 1, none⟩ (.slice ga gn gc)) := (((al.trans (b1.mono al.size)).trans (T.below (by omega) (fun k hk => by omega))).setCell (Nat.le_refl _) _).setCell (Nat.le_refl _) _
      obtain ⟨w14, hw14⟩ : ∃ W, W = (w13.setCell ⟨w.heap.size, 0, none⟩ (.slice ba bn bc)).setCell ⟨w.heap.size, 1, none⟩ (.slice ga gn gc) := ⟨_, rfl⟩
      rw [← hw14]
      rw [← hw14] at qt qf qx P P4 hB hG hO hE hU BB zS
      clear hw14 TS rd T
      refine hK.out _ _ ⟨⟨qx.cell 0, qx.cell 1, qx.cell 2⟩, fun _ => trivial⟩ ?_
      clear hK
      refine wpAnyE_one (i := 11) (by kernel_rfl) rfl (fun Kn hK => ?_)
      go_simp
      refine hK.out _ _ ⟨⟨qx.cell 0, qx.cell 1, qx.cell 2⟩, fun _ => trivial⟩ ?_
      clear hK
      refine wpAnyE_one (i := 12) (by kernel_rfl) rfl (fun Kn hK => ?_)
      go_simp
      refine hK.out _ _ ⟨⟨qx.cell 0, qx.cell 1, qx.cell 2⟩, fun _ => trivial⟩ ?_
      clear hK
      refine wpAnyE_one (i := 13) (by kernel_rfl) rfl (fun Kn hK => ?_)
      go_simp
      refine hK.out _ _ ⟨⟨qx.cell 0, qx.cell 1, qx.cell 2⟩, fun _ => trivial⟩ ?_
      clear hK
      have g0 := qf.cell 0
      have g1 := qf.cell 1
      have g2 := qf.cell 2
      have h0 := qf.free 0
      have h1 := qf.free 1
      have h2 := qf.free 2
      have l0 := qf.lt
      simp only [List.getElem?_cons_zero, List.getElem?_cons_succ] at g0 g1 g2
      refine wpAnyE_one (i := 14) (by kernel_rfl) rfl (fun Kn hK => ?_)
      go_simp
      clear g0 g1 g2 h0 h1 h2 l0
      have TS : Touch (fun x => x = w.heap.size + 1) w14 (((w14.setCell ⟨w.heap.size + 1, 0, none⟩ (.slice (some ⟨B1, 0, none⟩) nC cC)).setCell ⟨w.heap.size + 1, 1, none⟩ (.slice (some ⟨B2, 0, none⟩) nD cD)).setCell ⟨w.heap.size + 1, 2, none⟩ (.int .i64 K)) := Touch.setCell (S := fun x => x = w.heap.size + 1) (Touch.setCell (S := fun x => x = w.heap.size + 1) (Touch.setCell (S := fun x => x = w.heap.size + 1) (Touch.refl _ _) rfl _) rfl _) rfl _
      replace qf := ((qf.set 0 (.slice (some ⟨B1, 0, none⟩) nC cC)).set 1 (.slice (some ⟨B2, 0, none⟩) nD cD)).set 2 (.int .i64 K)
      simp only [List.set_cons_succ, List.set_cons_zero] at qf
      replace qt := qt.touch TS (by omega)
      replace qx := qx.touch TS (by omega)
      replace P := P.touch TS (fun k hk => .inr (.inr hk))
      replace P4 := P4.touch TS (fun k hk => .inr (.inr hk))
      replace hB := hB.off TS (fun b o e hs => by have := lb b o e; omega)
      replace hG := hG.off TS (fun b o e hs => by have := lg b o e; omega)
      replace hO := hO.touch TS (fun h0 hs => by have := (hgb h0).1; omega)
      replace hE := hE.off TS (fun b o e hs => by have := le b o e; omega)
      replace hU := hU.off TS (fun b o e hs => by have := lu b o e; omega)
      replace BB := ((BB.setCell (p := ⟨w.heap.size + 1, 0, none⟩) (by simp only []; omega) (.slice (some ⟨B1, 0, none⟩) nC cC)).setCell (p := ⟨w.heap.size + 1, 1, none⟩) (by simp only []; omega) (.slice (some ⟨B2, 0, none⟩) nD cD)).setCell (p := ⟨w.heap.size + 1, 2, none⟩) (by simp only []; omega) (.int .i64 K)
      obtain ⟨w15, hw15⟩ : ∃ W, W = ((w14.setCell ⟨w.heap.size + 1, 0, none⟩ (.slice (some ⟨B1, 0, none⟩) nC cC)).setCell ⟨w.heap.size + 1, 1, none⟩ (.slice (some ⟨B2, 0, none⟩) nD cD)).setCell ⟨w.heap.size + 1, 2, none⟩ (.int .i64 K) := ⟨_, rfl⟩
      rw [← hw15]
      rw [← hw15] at qt qf qx P P4 hB hG hO hE hU BB
      clear hw15 TS
      refine hK.out _ _ ⟨⟨qx.cell 0, qx.cell 1, qx.cell 2⟩, fun _ => trivial⟩ ?_
      clear hK
      refine wpAnyE_one (i := 15) (by kernel_rfl) rfl (fun Kn hK => ?_)
      go_simp
      refine hK.out _ _ ⟨⟨qx.cell 0, qx.cell 1, qx.cell 2⟩, fun _ => trivial⟩ ?_
      clear hK
      refine wpAnyE_done (by kernel_rfl) ?_ _
      have e0 := qt.cell 0
      have e1 := qt.cell 1
      have e2 := qf.cell 0
      have e3 := qf.cell 1
      have e4 := qf.cell 2
      simp only [List.getElem?_cons_zero, List.getElem?_cons_succ] at e0 e1 e2 e3 e4
      clear qt qf qx
      go_wp2
      exact bodyPost_ret (v := .tuple #[treV ba bn bc ga gn gc, .slice (some ⟨G0, 0, none⟩) nt cG, .int .i64 s, .slice ea en ec, formV (some ⟨B1, 0, none⟩) nC cC (some ⟨B2, 0, none⟩) nD cD K, .slice ua un uc]) (by simp [results, Try.results23, go_sem, e0, e1, e2, e3, e4]) rfl ⟨ba, bn, bc, ga, gn, gc, B, G, _, nt, cG, ts, s, ea, en, ec, E, _, nC, cC, _, nD, cD, (LC, LD, K), ua, un, uc, U, rfl, BB, hB, hG, w4b, w3g, hGb, P.g, HL.out, hnt, hE, he4, P4.fa', hU, hu4, by omega, by omega, gb, hO, fun h0 => ⟨by (have := (hgb h0).1; omega), fun b o e => (hgb h0).2 b o e, fun b o e => by (simp only [Option.some.injEq, Addr.mk.injEq] at e; have := (hgb h0).1; omega), fun i hi b o e => by (have := HQB.out i hi b o e; have := (hgb h0).1; omega), fun b o e => by (have := le b o e; have := hOl h0; omega), fun h b o e => by (have := HFB.out h b o e; have := (hgb h0).1; omega), fun h b o e => by (have := HGB.out h b o e; have := (hgb h0).1; omega), fun b o e => by (have := lu b o e; have := hOl h0; omega)⟩⟩
  · have hu' : (u == 0) = false := by simpa using hu
    skip
    go_upto_region 8 with fail
    refine wp_region_ends (fun Y => Y.cell? ⟨X, 0, none⟩ = some (.slice (some ⟨B1, 0, none⟩) nC cC) ∧ Y.cell? ⟨X, 1, none⟩ = some (.slice (some ⟨B2, 0, none⟩) nD cD) ∧ Y.cell? ⟨X, 2, none⟩ = some (.int .i64 K)) (fun _ => True) 16 (by kernel_rfl) ?_
    have dr : Below w7.heap.size w7 w7.drew := (Below.refl _ _).drew
    have zd := dr.size
    replace qt := qt.below dr
    replace qf := qf.below dr
    replace qx := qx.below dr
    replace T := T.trans (Touch.of dr)
    replace P := P.below dr
    replace P4 := P4.below dr
    replace rd := rd.below dr
    clear dr
    obtain ⟨V, hV⟩ : ∃ V, V = w7.drew := ⟨_, rfl⟩
    rw [← hV]
    rw [← hV] at qt qf qx T P P4 rd zd
    clear hV
    have hSS : (fun Y : World => Y.cell? ⟨X, 0, none⟩ = some (.slice (some ⟨B1, 0, none⟩) nC cC) ∧ Y.cell? ⟨X, 1, none⟩ = some (.slice (some ⟨B2, 0, none⟩) nD cD) ∧ Y.cell? ⟨X, 2, none⟩ = some (.int .i64 K)) V ∧ True := ⟨⟨qx.cell 0, qx.cell 1, qx.cell 2⟩, trivial⟩
    refine tkL (i := 0) rfl hSS ?_
    refine tkL (i := 2) rfl hSS ?_
    refine tkL (i := 3) rfl hSS ?_
    simp only [Act.put, List.setIfInBounds_toArray, List.set_cons_succ, List.set_cons_zero, List.getElem_toArray, List.getElem_cons_succ, List.getElem_cons_zero]
    refine tkL (i := 5) rfl hSS ?_
    refine tkL (i := 7) rfl hSS ?_
    refine tkL (i := 8) rfl hSS ?_
    simp only [Act.put, List.setIfInBounds_toArray, List.set_cons_succ, List.set_cons_zero, List.getElem_toArray, List.getElem_cons_succ, List.getElem_cons_zero]
    clear hSS
    have HQB : Hid (∀ i, i < ts.length → ∀ b o, (ts[i]?.getD noI).a = some ⟨b, o, none⟩ → b < V.heap.size) := fun i hi b o e => by
      obtain ⟨_, _, _, _, hI, _⟩ := P.g i hi
      rw [e] at hI
      exact hI.blkB (by have := HP3.out i hi; omega)
    have HFB : Hid (0 < nC → ∀ b o, ((some ⟨B1, 0, none⟩) : Option Addr) = some ⟨b, o, none⟩ → b < V.heap.size) := fun h b o e => by
      have h1 := P4.C
      rw [e] at h1
      exact h1.blkB h
    have HGB : Hid (0 < nD → ∀ b o, ((some ⟨B2, 0, none⟩) : Option Addr) = some ⟨b, o, none⟩ → b < V.heap.size) := fun h b o e => by
      have h1 := P4.D
      rw [e] at h1
      exact h1.blkB h
    have hG0V : G0 < V.heap.size := by omega
    refine wpAnyE_one (i := 1) (by kernel_rfl) rfl (fun Kn hK => ?_)
    go_simp
    refine (treaty_f R a n' cap2 bs' (q4 + 1) 16 _ rd (by omega) (by omega) (by omega) (by omega) rd.ha).mono ?_
    rintro e w10 ⟨ba, bn, bc, ga, gn, gc, B, G, q10, rfl, d10⟩
    have y2 := d10.q0
    have y3 := d10.q1
    have lb := d10.lb
    have lg := d10.lg
    have hB := d10.b
    have hG := d10.g
    have w4b := d10.b4
    have w3g := d10.g3
    have hGb := d10.gB
    obtain ⟨gb, hO, hgb⟩ := d10.gx
    have hOl := fun h0 => hO.lt h0
    have t5 := d10.t
    have R5 := d10.r
    have z10 := t5.size
    replace qt := qt.touch t5 (by omega)
    replace qf := qf.touch t5 (by omega)
    replace qx := qx.touch t5 (by omega)
    replace T := T.trans t5
    replace P := P.touch t5 (fun k hk => .inl hk)
    replace P4 := P4.touch t5 (fun k hk => .inl hk)
    clear rd
    have rd := R5
    clear d10 t5 R5
    (try dsimp only)
    refine hK.out _ _ ⟨⟨qx.cell 0, qx.cell 1, qx.cell 2⟩, fun _ => trivial⟩ ?_
    clear hK
    refine wpAnyE_one (i := 4) (by kernel_rfl) rfl (fun Kn hK => ?_)
    go_simp
    refine (pick_any R a n' cap2 bs' q10 3 _ rd (by omega) (by omega) (by omega) (by omega)).mono ?_
    rintro e w11 ⟨s, s0', s3', rfl, t5, R5⟩
    have z11 := t5.size
    replace qt := qt.touch t5 (by omega)
    replace qf := qf.touch t5 (by omega)
    replace qx := qx.touch t5 (by omega)
    replace T := T.trans t5
    replace P := P.touch t5 (fun k hk => .inl hk)
    replace P4 := P4.touch t5 (fun k hk => .inl hk)
    clear rd
    have rd := R5
    replace hB := hB.off t5 (fun b o e hs => by have := lb b o e; omega)
    replace hG := hG.off t5 (fun b o e hs => by have := lg b o e; omega)
    replace hO := hO.touch t5 (fun h0 hs => by have := (hgb h0).1; omega)
    clear t5 R5
    (try dsimp only)
    refine hK.out _ _ ⟨⟨qx.cell 0, qx.cell 1, qx.cell 2⟩, fun _ => trivial⟩ ?_
    clear hK
    refine wpAnyE_one (i := 6) (by kernel_rfl) rfl (fun Kn hK => ?_)
    go_simp
    refine (added_gen R a n' cap2 bs' (q10 + 1) 16 _ rd (by omega) (by omega) (by omega) (by omega) rd.ha).mono ?_
    rintro e w12 ⟨ea, en, ec, E, q12, rfl, d12⟩
    have y4 := d12.q0
    have y5 := d12.q1
    have le := d12.lo
    have hE := d12.i
    have he4 := d12.h4
    have t5 := d12.t
    have R5 := d12.r
    have z12 := t5.size
    replace qt := qt.touch t5 (by omega)
    replace qf := qf.touch t5 (by omega)
    replace qx := qx.touch t5 (by omega)
    replace T := T.trans t5
    replace P := P.touch t5 (fun k hk => .inl hk)
    replace P4 := P4.touch t5 (fun k hk => .inl hk)
    clear rd
    have rd := R5
    replace hB := hB.off t5 (fun b o e hs => by have := lb b o e; omega)
    replace hG := hG.off t5 (fun b o e hs => by have := lg b o e; omega)
    replace hO := hO.touch t5 (fun h0 hs => by have := (hgb h0).1; omega)
    clear d12 t5 R5
    (try dsimp only)
    refine hK.out _ _ ⟨⟨qx.cell 0, qx.cell 1, qx.cell 2⟩, fun _ => trivial⟩ ?_
    clear hK
    refine wpAnyE_one (i := 9) (by kernel_rfl) rfl (fun Kn hK => ?_)
    go_simp
    refine (args_gen R a n' cap2 bs' q12 16 _ rd (by omega) (by omega) (by omega) (by omega) rd.ha).mono ?_
    rintro e w13 ⟨ua, un, uc, U, q13, rfl, d13⟩
    have lu := d13.lo
    have hU := d13.i
    have hu4 := d13.h4
    have t5 := d13.t
    have R5 := d13.r
    have z13 := t5.size
    replace qt := qt.touch t5 (by omega)
    replace qf := qf.touch t5 (by omega)
    replace qx := qx.touch t5 (by omega)
    replace T := T.trans t5
    replace P := P.touch t5 (fun k hk => .inl hk)
    replace P4 := P4.touch t5 (fun k hk => .inl hk)
    clear rd
    have rd := R5
    replace hB := hB.off t5 (fun b o e hs => by have := lb b o e; omega)
    replace hG := hG.off t5 (fun b o e hs => by have := lg b o e; omega)
    replace hO := hO.touch t5 (fun h0 hs => by have := (hgb h0).1; omega)
    replace hE := hE.off t5 (fun b o e hs => by have := le b o e; omega)
    clear d13 t5 R5
    (try dsimp only)
    refine hK.out _ _ ⟨⟨qx.cell 0, qx.cell 1, qx.cell 2⟩, fun _ => trivial⟩ ?_
    clear hK
    have g0 := qt.cell 0
    have g1 := qt.cell 1
    have h0 := qt.free 0
    have h1 := qt.free 1
    have l0 := qt.lt
    simp only [List.getElem?_cons_zero, List.getElem?_cons_succ] at g0 g1
    refine wpAnyE_one (i := 10) (by kernel_rfl) rfl (fun Kn hK => ?_)
    go_simp
    clear g0 g1 h0 h1 l0
    have TS : Touch (fun x => x = w.heap.size) w13 ((w13.setCell ⟨w.heap.size, 0, none⟩ (.slice ba bn bc)).setCell ⟨w.heap.size, 1, none⟩ (.slice ga gn gc)) := Touch.setCell (S := fun x => x = w.heap.size) (Touch.setCell (S := fun x => x = w.heap.size) (Touch.refl _ _) rfl _) rfl _
    have zS := TS.size
    replace qt := (qt.set 0 (.slice ba bn bc)).set 1 (.slice ga gn gc)
    simp only [List.set_cons_succ, List.set_cons_zero] at qt
    replace qf := qf.touch TS (by omega)
    replace qx := qx.touch TS (by omega)
    replace P := P.touch TS (fun k hk => .inr (.inl hk))
    replace P4 := P4.touch TS (fun k hk => .inr (.inl hk))
    replace hB := hB.off TS (fun b o e hs => by have := lb b o e; omega)
    replace hG := hG.off TS (fun b o e hs => by have := lg b o e; omega)
    replace hO := hO.touch TS (fun h0 hs => by have := (hgb h0).1; omega)
    replace hE := hE.off TS (fun b o e hs => by have := le b o e; omega)
    replace hU := hU.off TS (fun b o e hs => by have := lu b o e; omega)
    have BB : Below w.heap.size w ((w13.setCell ⟨w.heap.size, 0, none⟩ (.slice ba bn bc)).setCell ⟨w.heap.size, 1, none⟩ (.slice ga gn gc)) := (((al.trans (b1.mono al.size)).trans (T.below (by omega) (fun k hk => by omega))).setCell (Nat.le_refl _) _).setCell (Nat.le_refl _) _
    obtain ⟨w14, hw14⟩ : ∃ W, W = (w13.setCell ⟨w.heap.size, 0, none⟩ (.slice ba bn bc)).setCell ⟨w.heap.size, 1, none⟩ (.slice ga gn gc) := ⟨_, rfl⟩
    rw [← hw14]
    rw [← hw14] at qt qf qx P P4 hB hG hO hE hU BB zS
    clear hw14 TS rd T
    refine hK.out _ _ ⟨⟨qx.cell 0, qx.cell 1, qx.cell 2⟩, fun _ => trivial⟩ ?_
    clear hK
    refine wpAnyE_one (i := 11) (by kernel_rfl) rfl (fun Kn hK => ?_)
    go_simp
    refine hK.out _ _ ⟨⟨qx.cell 0, qx.cell 1, qx.cell 2⟩, fun _ => trivial⟩ ?_
    clear hK
    refine wpAnyE_one (i := 12) (by kernel_rfl) rfl (fun Kn hK => ?_)
    go_simp
    refine hK.out _ _ ⟨⟨qx.cell 0, qx.cell 1, qx.cell 2⟩, fun _ => trivial⟩ ?_
    clear hK
    refine wpAnyE_one (i := 13) (by kernel_rfl) rfl (fun Kn hK => ?_)
    go_simp
    refine hK.out _ _ ⟨⟨qx.cell 0, qx.cell 1, qx.cell 2⟩, fun _ => trivial⟩ ?_
    clear hK
    have g0 := qf.cell 0
    have g1 := qf.cell 1
    have g2 := qf.cell 2
    have h0 := qf.free 0
    have h1 := qf.free 1
    have h2 := qf.free 2
    have l0 := qf.lt
    simp only [List.getElem?_cons_zero, List.getElem?_cons_succ] at g0 g1 g2
    refine wpAnyE_one (i := 14) (by kernel_rfl) rfl (fun Kn hK => ?_)
    go_simp
    clear g0 g1 g2 h0 h1 h2 l0
    have TS : Touch (fun x => x = w.heap.size + 1) w14 (((w14.setCell ⟨w.heap.size + 1, 0, none⟩ (.slice (some ⟨B1, 0, none⟩) nC cC)).setCell ⟨w.heap.size + 1, 1, none⟩ (.slice (some ⟨B2, 0, none⟩) nD cD)).setCell ⟨w.heap.size + 1, 2, none⟩ (.int .i64 K)) := Touch.setCell (S := fun x => x = w.heap.size + 1) (Touch.setCell (S := fun x => x = w.heap.size + 1) (Touch.setCell (S := fun x => x = w.heap.size + 1) (Touch.refl _ _) rfl _) rfl _) rfl _
    replace qf := ((qf.set 0 (.slice (some ⟨B1, 0, none⟩) nC cC)).set 1 (.slice (some ⟨B2, 0, none⟩) nD cD)).set 2 (.int .i64 K)
    simp only [List.set_cons_succ, List.set_cons_zero] at qf
    replace qt := qt.touch TS (by omega)
    replace qx := qx.touch TS (by omega)
    replace P := P.touch TS (fun k hk => .inr (.inr hk))
    replace P4 := P4.touch TS (fun k hk => .inr (.inr hk))
    replace hB := hB.off TS (fun b o e hs => by have := lb b o e; omega)
    replace hG := hG.off TS (fun b o e hs => by have := lg b o e; omega)
    replace hO := hO.touch TS (fun h0 hs => by have := (hgb h0).1; omega)
    replace hE := hE.off TS (fun b o e hs => by have := le b o e; omega)
    replace hU := hU.off TS (fun b o e hs => by have := lu b o e; omega)
    replace BB := ((BB.setCell (p := ⟨w.heap.size + 1, 0, none⟩) (by simp only []; omega) (.slice (some ⟨B1, 0, none⟩) nC cC)).setCell (p := ⟨w.heap.size + 1, 1, none⟩) (by simp only []; omega) (.slice (some ⟨B2, 0, none⟩) nD cD)).setCell (p := ⟨w.heap.size + 1, 2, none⟩) (by simp only []; omega) (.int .i64 K)
    obtain ⟨w15, hw15⟩ : ∃ W, W = ((w14.setCell ⟨w.heap.size + 1, 0, none⟩ (.slice (some ⟨B1, 0, none⟩) nC cC)).setCell ⟨w.heap.size + 1, 1, none⟩ (.slice (some ⟨B2, 0, none⟩) nD cD)).setCell ⟨w.heap.size + 1, 2, none⟩ (.int .i64 K) := ⟨_, rfl⟩
    rw [← hw15]
    rw [← hw15] at qt qf qx P P4 hB hG hO hE hU BB
    clear hw15 TS
    refine hK.out _ _ ⟨⟨qx.cell 0, qx.cell 1, qx.cell 2⟩, fun _ => trivial⟩ ?_
    clear hK
    refine wpAnyE_one (i := 15) (by kernel_rfl) rfl (fun Kn hK => ?_)
    go_simp
    refine hK.out _ _ ⟨⟨qx.cell 0, qx.cell 1, qx.cell 2⟩, fun _ => trivial⟩ ?_
    clear hK
    refine wpAnyE_done (by kernel_rfl) ?_ _
    have e0 := qt.cell 0
    have e1 := qt.cell 1
    have e2 := qf.cell 0
    have e3 := qf.cell 1
    have e4 := qf.cell 2
    simp only [List.getElem?_cons_zero, List.getElem?_cons_succ] at e0 e1 e2 e3 e4
    clear qt qf qx
    go_wp2
    exact bodyPost_ret (v := .tuple #[treV ba bn bc ga gn gc, .slice (some ⟨G0, 0, none⟩) nt cG, .int .i64 s, .slice ea en ec, formV (some ⟨B1, 0, none⟩) nC cC (some ⟨B2, 0, none⟩) nD cD K, .slice ua un uc]) (by simp [results, Try.results23, go_sem, e0, e1, e2, e3, e4]) rfl ⟨ba, bn, bc, ga, gn, gc, B, G, _, nt, cG, ts, s, ea, en, ec, E, _, nC, cC, _, nD, cD, (LC, LD, K), ua, un, uc, U, rfl, BB, hB, hG, w4b, w3g, hGb, P.g, HL.out, hnt, hE, he4, P4.fa', hU, hu4, by omega, by omega, gb, hO, fun h0 => ⟨by (have := (hgb h0).1; omega), fun b o e => (hgb h0).2 b o e, fun b o e => by (simp only [Option.some.injEq, Addr.mk.injEq] at e; have := (hgb h0).1; omega), fun i hi b o e => by (have := HQB.out i hi b o e; have := (hgb h0).1; omega), fun b o e => by (have := le b o e; have := hOl h0; omega), fun h b o e => by (have := HFB.out h b o e; have := (hgb h0).1; omega), fun h b o e => by (have := HGB.out h b o e; have := (hgb h0).1; omega), fun b o e => by (have := lu b o e; have := hOl h0; omega)⟩⟩

end Go.Proofs.Ytjggppnffkcmbaa
