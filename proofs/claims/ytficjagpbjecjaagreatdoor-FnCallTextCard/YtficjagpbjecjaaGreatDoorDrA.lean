/-
  What is drawn for pots and arguments, at any place of the bytes: some list of at most four numbers, in new memory.
-/
import Derived.Test.YtficjagpbjecjaaGreatDoorDraw
namespace Go.Proofs.YtficjagpbjecjaaGreatDoor
open Go.RowKit
set_option linter.unusedVariables false
set_option maxRecDepth 100000

theorem ownsRow_touch {S : Nat → Prop} {W W' : World} {base : Nat} {e : TypeId} {size : Nat} {v : Value} {n : Nat} {xs : List Value} (h : W.ownsRow base e size v n xs) (t : Touch S W W') (hS : ∀ k, S k → k < base) : W'.ownsRow base e size v n xs := by
  obtain ⟨h1, h2⟩ := h
  refine ⟨h1, ?_⟩
  rcases h2 with h2 | ⟨g, cap, cur, hv, hg, hh, r⟩
  · exact Or.inl h2
  · refine Or.inr ⟨g, cap, cur, hv, hg, ?_, r⟩
    rw [t.block g (lt_of_block hh) (fun hs => by have := hS g hs; omega)]; exact hh

theorem Touch.grown {S : Nat → Prop} {w W W' : World} {row : Option Nat} (h : Touch S w W) (g : W.grownBy W' row) (hr : ∀ k, row = some k → w.heap.size ≤ k) : Touch S w W' :=
  ⟨g.os.trans h.os, g.tape.trans h.tape, g.output.trans h.output, Nat.le_trans h.size g.size, fun k hk hs => (g.block k (Nat.lt_of_lt_of_le hk h.size) (fun e => by have := hr k e.symm; omega)).trans (h.block k hk hs)⟩

/-- What the drawing holds: the reader, the list so far, old memory. -/
structure J (w : World) (R : Nat) (a : Option Addr) (n cap : Nat) (bs : List Int) (p : Int) (v : Value) (xs : List Int) (W : World) : Prop where
  t : Touch (fun x => x = R) w W
  r : Rd W R a n cap bs p
  o : W.ownsRow w.heap.size 3 1 v xs.length (xs.map (Value.int .i64))
  lR : R < w.heap.size
  lb : 0 < n → ∀ b o, a = some ⟨b, o, none⟩ → b < w.heap.size
section
variable {w W W' : World} {R : Nat} {a : Option Addr} {n cap : Nat} {bs : List Int} {p : Int} {v : Value} {xs : List Int}
theorem J.alloc (j : J w R a n cap bs p v xs W) (o : Obj) : J w R a n cap bs p v xs (W.alloc o) :=
  ⟨j.t.trans (Touch.of ((Below.refl _ _).alloc (Nat.le_refl _) _)), j.r.below ((Below.refl _ _).alloc (Nat.le_refl _) _), j.o.alloc o, j.lR, j.lb⟩
theorem J.pick {q : Int} (j : J w R a n cap bs p v xs W) (t : Touch (fun x => x = R) W W') (r : Rd W' R a n cap bs q) : J w R a n cap bs q v xs W' :=
  ⟨j.t.trans t, r, ownsRow_touch j.o t (fun k h => by have := j.lR; omega), j.lR, j.lb⟩
theorem J.own {v' : Value} {ys : List Int} (j : J w R a n cap bs p v xs W) (o : W'.ownsRow w.heap.size 3 1 v' ys.length (ys.map (Value.int .i64))) (g : W.grownBy W' v.ownBlock) : J w R a n cap bs p v' ys W' := by
  have hr : ∀ k, v.ownBlock = some k → w.heap.size ≤ k := fun k hk => (j.o.lt k hk).1
  have lR := j.lR
  have T : Touch (fun x => w.heap.size ≤ x) W W' := ⟨g.os, g.tape, g.output, g.size, fun k hk hs => g.block k hk (fun e => hs (hr k e.symm))⟩
  exact ⟨j.t.grown g hr, j.r.touch T (by omega) (fun h0 b o hab => by have := j.lb h0 b o hab; omega), o, j.lR, j.lb⟩
theorem J.ints (j : J w R a n cap bs p v xs W) (h0 : 0 < xs.length) : ∃ g cap', v = .slice (some ⟨g, 0, none⟩) xs.length cap' ∧ xs.length ≤ cap' ∧ w.heap.size ≤ g ∧ Ints W (some ⟨g, 0, none⟩) xs.length xs ∧ ∀ i, W.frozen? ⟨g, i, none⟩ = false := by
  rcases j.o.2 with ⟨_, h⟩ | ⟨g, cap', cur, rfl, hg, hh, hl, _, _⟩
  · omega
  · refine ⟨g, cap', rfl, hl, hg, ⟨rfl, fun i hi => ⟨g, 0, rfl, ?_⟩⟩, fun i => j.o.frozenAt i⟩
    have := j.o.cellAt i (by omega)
    rw [Nat.zero_add, this]
    simp [hi]
end

theorem Touch.setNewD {S : Nat → Prop} {w W : World} (h : Touch S w W) {B : Nat} (hB : w.heap.size ≤ B) (i : Nat) (v : Value) : Touch S w (W.setCell ⟨B, i, none⟩ v) :=
  ⟨h.os, h.tape, h.output, by rw [size_setCell]; exact h.size, fun k hk hs => by rw [Below.heap_setCell _ _ _ _ (by simp only []; omega)]; exact h.block k hk hs⟩
theorem ints_set {W : World} {g n s : Nat} {xs : List Int} (h : Ints W (some ⟨g, 0, none⟩) n xs) (hs : s < n) (y : Int) : Ints (W.setCell ⟨g, s, none⟩ (.int .i64 y)) (some ⟨g, 0, none⟩) n (xs.set s y) := by
  refine ⟨by rw [List.length_set]; exact h.1, fun i hi => ⟨g, 0, rfl, ?_⟩⟩
  have hc : ∀ i, i < n → W.cell? ⟨g, i, none⟩ = some (.int .i64 (xs.getD i 0)) := fun i hi => by
    obtain ⟨b, o, e, hh⟩ := h.2 i hi
    simp only [Option.some.injEq, Addr.mk.injEq, and_true] at e
    obtain ⟨rfl, rfl⟩ := e
    simpa using hh
  rw [Nat.zero_add]
  by_cases e : i = s
  · subst e
    rw [World.cell?_setCell_same' W ⟨g, i, none⟩ _ (by rw [hc i hi]; rfl)]
    simp [h.1, hi]
  · have ho : (W.setCell ⟨g, s, none⟩ (.int .i64 y)).cell? ⟨g, i, none⟩ = W.cell? ⟨g, i, none⟩ := by
      first
        | exact World.cell?_setCell_other W ⟨g, s, none⟩ ⟨g, i, none⟩ (.int .i64 y) (by intro hh; simp only [Addr.mk.injEq] at hh; omega)
        | exact World.cell?_setCell_other W ⟨g, s, none⟩ (.int .i64 y) ⟨g, i, none⟩ (by intro hh; simp only [Addr.mk.injEq] at hh; omega)
        | exact World.cell?_setCell_other W ⟨g, s, none⟩ (.int .i64 y) (by intro hh; simp only [Addr.mk.injEq] at hh; omega)
        | exact World.cell?_setCell_other (by intro hh; simp only [Addr.mk.injEq] at hh; omega)
    rw [ho, hc i hi]
    simp [Ne.symm e]

/-- A list was drawn: it lies in new memory, the reader has gone on. -/
structure Dn (w w' : World) (R : Nat) (a : Option Addr) (n cap : Nat) (bs : List Int) (p q : Int) (a' : Option Addr) (n' : Nat) (zs : List Int) : Prop where
  t : Touch (fun x => x = R) w w'
  r : Rd w' R a n cap bs q
  i : Ints w' a' n' zs
  h4 : n' ≤ 4
  h1 : 1 ≤ n'
  lo : ∀ b o, a' = some ⟨b, o, none⟩ → w.heap.size ≤ b
  q0 : p ≤ q
  q1 : q ≤ p + 8
theorem Dn.hi {w w' : World} {R : Nat} {a : Option Addr} {n cap : Nat} {bs : List Int} {p q : Int} {a' : Option Addr} {n' : Nat} {zs : List Int} (h : Dn w w' R a n cap bs p q a' n' zs) : ∀ b o, a' = some ⟨b, o, none⟩ → b < w'.heap.size := fun b o e => by
  obtain ⟨b', o', e', hc⟩ := h.i.2 0 (by have := h.h1; omega)
  rw [e] at e'
  simp only [Option.some.injEq, Addr.mk.injEq, and_true] at e'
  have := block_lt hc
  omega
theorem J.setR {w W : World} {R : Nat} {a : Option Addr} {n cap : Nat} {bs : List Int} {p : Int} {v : Value} {xs : List Int} (j : J w R a n cap bs p v xs W) {g : Nat} (hg : w.heap.size ≤ g) (i : Nat) (x : Value) : Rd (W.setCell ⟨g, i, none⟩ x) R a n cap bs p := by
  have lR := j.lR
  have T : Touch (fun x => x = g) W (W.setCell ⟨g, i, none⟩ x) := Touch.setCell (S := fun x => x = g) (Touch.refl _ _) rfl _
  exact j.r.touch T (by omega) (fun h0 b o hab => by have := j.lb h0 b o hab; omega)

def tabV : List Int := [0, 1, 5, 20, -3, 60, 10000, -10000, 9996]

theorem J.start {w : World} {R : Nat} {a : Option Addr} {n cap : Nat} {bs : List Int} {p : Int} (hR : Rd w R a n cap bs p) (hlb : 0 < n → ∀ b o, a = some ⟨b, o, none⟩ → b < w.heap.size) : J w R a n cap bs p (.slice none 0 0) [] w :=
  ⟨Touch.refl _ _, hR, World.ownsRow_nil _ _ _ _, hR.c.lt, hlb⟩
theorem J.lit {w W : World} {R : Nat} {a : Option Addr} {n cap : Nat} {bs : List Int} {p : Int} {v : Value} {xs : List Int} (j : J w R a n cap bs p v xs W) (x y : Int) : J w R a n cap bs p (.slice (some ⟨W.heap.size, 0, none⟩) 2 2) [x, y] (W.alloc (.cells #[.int .i64 x, .int .i64 y] 3)) :=
  ⟨(j.alloc _).t, (j.alloc _).r, World.ownsRow_lit W #[.int .i64 x, .int .i64 y] 2 j.t.size (by unfold maxLen; omega) rfl, j.lR, j.lb⟩

set_option maxHeartbeats 1600000 in
theorem args_gen (R : Nat) (a : Option Addr) (n cap : Nat) (bs : List Int) (p N : Int) (w : World) (hR : Rd w R a n cap bs p) (hp : 0 ≤ p) (hp1 : p ≤ 9000000) (hN : 1 ≤ N) (hN1 : N ≤ 1000) (hlb : 0 < n → ∀ b o, a = some ⟨b, o, none⟩ → b < w.heap.size) :
    Calls Tryz.prog 37 #[.pointer (some ⟨R, 0, none⟩), .int .i64 N] w fun e w' => ∃ a' n' cap' zs q, e = .returned (.slice a' n' cap') ∧ Dn w w' R a n cap bs p q a' n' zs := by
  have j := J.start hR hlb
  obtain ⟨i0, hi, hz0, hz1, hz2⟩ := info_parts Tryz.infoInt
  clear hR hlb
  go_enter Tryz.func37, Tryz.ntmps37
  go_wp2_with fail
  refine (pick_any R a n cap bs p 19 _ j.r (by omega) (by omega) (by omega) (by omega)).mono ?_
  rintro e w1 ⟨x, x0, x1, rfl, t1, R1⟩
  have j1 := j.pick t1 R1
  clear t1 R1 j
  go_wp2_with fail
  refine (pick_any R a n cap bs (p + 1) 19 _ j1.r (by omega) (by omega) (by omega) (by omega)).mono ?_
  rintro e w2 ⟨y, y0, y1, rfl, t2, R2⟩
  have j2 := (j1.pick t2 R2).lit (x - 9) (y - 9)
  have lw2 := (j1.pick t2 R2).t.size
  clear t2 R2 j1
  go_wp2_with fail
  refine (pick_any R a n cap bs (p + 1 + 1) N _ j2.r (by omega) (by omega) (by omega) (by omega)).mono ?_
  rintro e w3 ⟨r, r0, r2, rfl, t3, R3⟩
  have j3 := j2.pick t3 R3
  clear t3 R3 j2
  by_cases hr : r = 0
  · subst hr
    go_wp2_with fail
    refine (pick_any R a n cap bs (p + 1 + 1 + 1) 3 _ j3.r (by omega) (by omega) (by omega) (by omega)).mono ?_
    rintro e w4 ⟨s, s0, s3, rfl, t4, R4⟩
    have j4 := j3.pick t4 R4
    clear t4 R4 j3
    obtain ⟨g, cap', hv, hcap, hg, hI, hfz⟩ := j4.ints (by simp)
    simp only [Value.slice.injEq, Option.some.injEq, Addr.mk.injEq, and_true, true_and, List.length_cons, List.length_nil] at hv
    obtain ⟨rfl, _, rfl⟩ := hv
    rcases (show s = 0 ∨ s = 1 ∨ s = 2 from by omega) with rfl | rfl | rfl
    · go_wp2
      go_ret
      refine ⟨_, 1, 2, [x - 9], _, rfl, j4.t, j4.r, ⟨rfl, fun i hi => ?_⟩, by omega, by first | omega | simp, fun b o e => by simp only [Option.some.injEq, Addr.mk.injEq] at e; omega, by omega, by omega⟩
      obtain rfl : i = 0 := by omega
      obtain ⟨b, o, h1, h2⟩ := hI.2 0 (by simp)
      exact ⟨b, o, h1, h2⟩
    · go_wp2_with (at_builtin; refine wpList_append_own _ rfl (.tmp 34) (.tmp 35) 23 rfl w.heap.size 3 i0 (.int .i64 0) 1 8 Tryz.underlying23 hi hz0 hz1 hz2 rfl (by decide) _ _ _ rfl (j4.alloc _).o ⟨w4.heap.size, 0, none⟩ 1 1 [.int .i64 0] rfl rfl ?d1 ?d2 ?d3 ?d4 ?d5 ?_)
      case d1 =>
        intro i u hu
        match i, hu with
        | 0, hu => simp at hu; subst hu; simp [Addr.add]
      case d2 => intro u hu; simp at hu; subst hu; rfl
      case d3 => unfold maxLen; simp
      case d4 => simp
      case d5 => have := j4.t.size; simp; omega
      intro v' w5 hown' hgrow _
      have j5 : J w R a n cap bs (p + 1 + 1 + 1 + 1) v' ([x - 9, y - 9] ++ [0]) w5 := (j4.alloc _).own (by simpa using hown') hgrow
      obtain ⟨g', cap2, hv', hcap2, hg', hI', hfz'⟩ := j5.ints (by simp)
      subst hv'
      clear hown' hgrow j4 hI hfz
      go_wp2
      go_ret
      exact ⟨_, _, cap2, _, _, rfl, j5.t, j5.r, hI', by simp, by first | omega | simp, fun b o e => by simp only [Option.some.injEq, Addr.mk.injEq] at e; omega, by omega, by omega⟩
    · go_wp2_with fail
      refine (pick_any R a n cap bs (p + 1 + 1 + 1 + 1) 2 _ j4.r (by omega) (by omega) (by omega) (by omega)).mono ?_
      rintro e w5 ⟨s, s0, s3, rfl, t5, R5⟩
      have j5 := j4.pick t5 R5
      obtain ⟨sn, rfl⟩ := Int.eq_ofNat_of_zero_le s0
      clear t5 R5 j4 hI hfz
      go_wp2_with fail
      refine (pick_any R a n cap bs (p + 1 + 1 + 1 + 1 + 1) 2 _ (j5.alloc _).r (by omega) (by omega) (by omega) (by omega)).mono ?_
      rintro e w6 ⟨u, u0, u2, rfl, t6, R6⟩
      have j6 := (j5.alloc _).pick t6 R6
      have tb := (Cel.new w5 _ _).touch t6 (by have := j5.t.size; have := j5.lR; omega)
      obtain ⟨un, rfl⟩ := Int.eq_ofNat_of_zero_le u0
      have ct : w6.cell? ⟨w5.heap.size, un, none⟩ = some (.int .i64 ([10, -10][un]?.getD 0)) := by
        rw [tb.cell un]
        match un, u2 with
        | 0, _ => rfl
        | 1, _ => rfl
        | (m + 2), h => omega
      obtain ⟨g2, cap2, hv2, hcap2, hg2, hI2, hfz2⟩ := j6.ints (by simp)
      simp only [Value.slice.injEq, Option.some.injEq, Addr.mk.injEq, and_true, true_and, List.length_cons, List.length_nil] at hv2
      obtain ⟨rfl, _, rfl⟩ := hv2
      simp only [List.length_cons, List.length_nil] at hI2
      have cg : w6.cell? ⟨w2.heap.size, sn, none⟩ = some (.int .i64 ([x - 9, y - 9][sn]?.getD 0)) := by
        obtain ⟨b, o, e1, hh⟩ := hI2.2 sn (by omega)
        simp only [Option.some.injEq, Addr.mk.injEq, and_true] at e1
        obtain ⟨rfl, rfl⟩ := e1
        simpa using hh
      have fg := hfz2 sn
      have IS := ints_set hI2 (s := sn) (by omega) ([10, -10][un]?.getD 0)
      have TS := j6.t.setNewD hg2 sn (.int .i64 ([10, -10][un]?.getD 0))
      have RS := j6.setR hg2 sn (.int .i64 ([10, -10][un]?.getD 0))
      clear t6 R6 j5 j6 tb hI2 hfz2
      go_wp2
      go_ret
      exact ⟨_, _, 2, _, _, rfl, TS, RS, IS, by omega, by first | omega | simp, fun b o e => by simp only [Option.some.injEq, Addr.mk.injEq] at e; omega, by omega, by omega⟩
  · obtain ⟨g, cap', hv, hcap, hg, hI, hfz⟩ := j3.ints (by simp)
    simp only [Value.slice.injEq, Option.some.injEq, Addr.mk.injEq, and_true, true_and, List.length_cons, List.length_nil] at hv
    obtain ⟨rfl, _, rfl⟩ := hv
    have hr' : (r == 0) = false := by simpa using hr
    go_wp2
    go_ret
    exact ⟨_, _, 2, _, _, rfl, j3.t, j3.r, hI, by simp, by first | omega | simp, fun b o e => by simp only [Option.some.injEq, Addr.mk.injEq] at e; omega, by omega, by omega⟩

end Go.Proofs.YtficjagpbjecjaaGreatDoor
