/-
  Lemmas that the claim's last text rests on: DrA, DrFm, FvC, DrL, DrLn, DrJl, DrAc.
-/
import Derived.Test.YtemcinobgdphnaaDraw
import Derived.Test.YtemcinobgdphnaaDrS
import Derived.Test.YtemcinobgdphnaaAdd
import Derived.Test.YtemcinobgdphnaaAt
import Derived.Test.YtemcinobgdphnaaPots
import Derived.Test.YtemcinobgdphnaaAct
import Derived.Deep.AppendLies
namespace Go.Proofs.Ytemcinobgdphnaa
open Go.RowKit
set_option linter.unusedVariables false
set_option maxRecDepth 100000

theorem ownsRow_touch {S : Nat → Prop} {W W' : World} {base : Nat} {e : TypeId} {size : Nat} {v : Value} {n : Nat} {xs : List Value} (h : W.ownsRow base e size v n xs) (t : Touch S W W') (hS : ∀ k, S k → k < base) : W'.ownsRow base e size v n xs := by
  obtain ⟨h1, h2⟩ := h
  refine ⟨h1, ?_⟩
  rcases h2 with h2 | ⟨g, cap, cur, hv, hg, hh, r⟩
  · exact Or.inl h2
  · refine Or.inr ⟨g, cap, cur, hv, hg, ?_, r⟩
    rw [t.block g (lt_of_block hh) (fun hs => by have := hS g hs; omega)]; exact hh

theorem Touch.grown {S : Nat → Prop} {w W W' : World} {row : Option Nat} (h : Touch S w W) (g : W.grownBy W' row) (hr : ∀ k, row = some k → w.heap.size ≤ k) : Touch S w W' :=
  ⟨g.os.trans h.os, g.tape.trans h.tape, g.output.trans h.output, Nat.le_trans h.size g.size, fun k hk hs => (g.block k (Nat.lt_of_lt_of_le hk h.size) (fun e => by have := hr k e.symm; omega)).trans (h.block k hk hs)⟩

/-- What the drawing holds: the reader, the list so far, old memory. -/
structure J (w : World) (R : Nat) (a : Option Addr) (n cap : Nat) (bs : List Int) (p : Int) (v : Value) (xs : List Int) (W : World) : Prop where
  t : Touch (fun x => x = R) w W
  r : Rd W R a n cap bs p
  o : W.ownsRow w.heap.size 3 1 v xs.length (xs.map (Value.int .i64))
  lR : R < w.heap.size
  lb : 0 < n → ∀ b o, a = some ⟨b, o, none⟩ → b < w.heap.size
section
variable {w W W' : World} {R : Nat} {a : Option Addr} {n cap : Nat} {bs : List Int} {p : Int} {v : Value} {xs : List Int}
theorem J.alloc (j : J w R a n cap bs p v xs W) (o : Obj) : J w R a n cap bs p v xs (W.alloc o) :=
  ⟨j.t.trans (Touch.of ((Below.refl _ _).alloc (Nat.le_refl _) _)), j.r.below ((Below.refl _ _).alloc (Nat.le_refl _) _), j.o.alloc o, j.lR, j.lb⟩
theorem J.pick {q : Int} (j : J w R a n cap bs p v xs W) (t : Touch (fun x => x = R) W W') (r : Rd W' R a n cap bs q) : J w R a n cap bs q v xs W' :=
  ⟨j.t.trans t, r, ownsRow_touch j.o t (fun k h => by have := j.lR; omega), j.lR, j.lb⟩
theorem J.own {v' : Value} {ys : List Int} (j : J w R a n cap bs p v xs W) (o : W'.ownsRow w.heap.size 3 1 v' ys.length (ys.map (Value.int .i64))) (g : W.grownBy W' v.ownBlock) : J w R a n cap bs p v' ys W' := by
  have hr : ∀ k, v.ownBlock = some k → w.heap.size ≤ k := fun k hk => (j.o.lt k hk).1
  have lR := j.lR
  have T : Touch (fun x => w.heap.size ≤ x) W W' := ⟨g.os, g.tape, g.output, g.size, fun k hk hs => g.block k hk (fun e => hs (hr k e.symm))⟩
  exact ⟨j.t.grown g hr, j.r.touch T (by omega) (fun h0 b o hab => by have := j.lb h0 b o hab; omega), o, j.lR, j.lb⟩
theorem J.ints (j : J w R a n cap bs p v xs W) (h0 : 0 < xs.length) : ∃ g cap', v = .slice (some ⟨g, 0, none⟩) xs.length cap' ∧ xs.length ≤ cap' ∧ w.heap.size ≤ g ∧ Ints W (some ⟨g, 0, none⟩) xs.length xs ∧ ∀ i, W.frozen? ⟨g, i, none⟩ = false := by
  rcases j.o.2 with ⟨_, h⟩ | ⟨g, cap', cur, rfl, hg, hh, hl, _, _⟩
  · omega
  · refine ⟨g, cap', rfl, hl, hg, ⟨rfl, fun i hi => ⟨g, 0, rfl, ?_⟩⟩, fun i => j.o.frozenAt i⟩
    have := j.o.cellAt i (by omega)
    rw [Nat.zero_add, this]
    simp [hi]
end

theorem Touch.setNewD {S : Nat → Prop} {w W : World} (h : Touch S w W) {B : Nat} (hB : w.heap.size ≤ B) (i : Nat) (v : Value) : Touch S w (W.setCell ⟨B, i, none⟩ v) :=
  ⟨h.os, h.tape, h.output, by rw [size_setCell]; exact h.size, fun k hk hs => by rw [Below.heap_setCell _ _ _ _ (by simp only []; omega)]; exact h.block k hk hs⟩
theorem ints_set {W : World} {g n s : Nat} {xs : List Int} (h : Ints W (some ⟨g, 0, none⟩) n xs) (hs : s < n) (y : Int) : Ints (W.setCell ⟨g, s, none⟩ (.int .i64 y)) (some ⟨g, 0, none⟩) n (xs.set s y) := by
  refine ⟨by rw [List.length_set]; exact h.1, fun i hi => ⟨g, 0, rfl, ?_⟩⟩
  have hc : ∀ i, i < n → W.cell? ⟨g, i, none⟩ = some (.int .i64 (xs.getD i 0)) := fun i hi => by
    obtain ⟨b, o, e, hh⟩ := h.2 i hi
    simp only [Option.some.injEq, Addr.mk.injEq, and_true] at e
    obtain ⟨rfl, rfl⟩ := e
    simpa using hh
  rw [Nat.zero_add]
  by_cases e : i = s
  · subst e
    rw [World.cell?_setCell_same' W ⟨g, i, none⟩ _ (by rw [hc i hi]; rfl)]
    simp [h.1, hi]
  · have ho : (W.setCell ⟨g, s, none⟩ (.int .i64 y)).cell? ⟨g, i, none⟩ = W.cell? ⟨g, i, none⟩ := by
      first
        | exact World.cell?_setCell_other W ⟨g, s, none⟩ ⟨g, i, none⟩ (.int .i64 y) (by intro hh; simp only [Addr.mk.injEq] at hh; omega)
        | exact World.cell?_setCell_other W ⟨g, s, none⟩ (.int .i64 y) ⟨g, i, none⟩ (by intro hh; simp only [Addr.mk.injEq] at hh; omega)
        | exact World.cell?_setCell_other W ⟨g, s, none⟩ (.int .i64 y) (by intro hh; simp only [Addr.mk.injEq] at hh; omega)
        | exact World.cell?_setCell_other (by intro hh; simp only [Addr.mk.injEq] at hh; omega)
    rw [ho, hc i hi]
    simp [Ne.symm e]

/-- A list was drawn: it lies in new memory, the reader has gone on. -/
structure Dn (w w' : World) (R : Nat) (a : Option Addr) (n cap : Nat) (bs : List Int) (p q : Int) (a' : Option Addr) (n' : Nat) (zs : List Int) : Prop where
  t : Touch (fun x => x = R) w w'
  r : Rd w' R a n cap bs q
  i : Ints w' a' n' zs
  h4 : n' ≤ 4
  h1 : 1 ≤ n'
  lo : ∀ b o, a' = some ⟨b, o, none⟩ → w.heap.size ≤ b
  q0 : p ≤ q
  q1 : q ≤ p + 8
theorem Dn.hi {w w' : World} {R : Nat} {a : Option Addr} {n cap : Nat} {bs : List Int} {p q : Int} {a' : Option Addr} {n' : Nat} {zs : List Int} (h : Dn w w' R a n cap bs p q a' n' zs) : ∀ b o, a' = some ⟨b, o, none⟩ → b < w'.heap.size := fun b o e => by
  obtain ⟨b', o', e', hc⟩ := h.i.2 0 (by have := h.h1; omega)
  rw [e] at e'
  simp only [Option.some.injEq, Addr.mk.injEq, and_true] at e'
  have := block_lt hc
  omega
theorem J.setR {w W : World} {R : Nat} {a : Option Addr} {n cap : Nat} {bs : List Int} {p : Int} {v : Value} {xs : List Int} (j : J w R a n cap bs p v xs W) {g : Nat} (hg : w.heap.size ≤ g) (i : Nat) (x : Value) : Rd (W.setCell ⟨g, i, none⟩ x) R a n cap bs p := by
  have lR := j.lR
  have T : Touch (fun x => x = g) W (W.setCell ⟨g, i, none⟩ x) := Touch.setCell (S := fun x => x = g) (Touch.refl _ _) rfl _
  exact j.r.touch T (by omega) (fun h0 b o hab => by have := j.lb h0 b o hab; omega)

def tabV : List Int := [0, 1, 5, 20, -3, 60, 10000, -10000, 9996]

set_option maxHeartbeats 1600000 in
theorem vals_gen (R : Nat) (a : Option Addr) (n cap : Nat) (bs : List Int) (p N : Int) (w : World) (hR : Rd w R a n cap bs p) (hp : 0 ≤ p) (hp1 : p ≤ 9000000) (hN : 1 ≤ N) (hN1 : N ≤ 1000) (hlb : 0 < n → ∀ b o, a = some ⟨b, o, none⟩ → b < w.heap.size) :
    Calls Try.prog 30 #[.pointer (some ⟨R, 0, none⟩), .int .i64 N] w fun e w' => ∃ a' n' cap' zs q, e = .returned (.slice a' n' cap') ∧ Dn w w' R a n cap bs p q a' n' zs := by
  have lR := hR.c.lt
  obtain ⟨i0, hi, hz0, hz1, hz2⟩ := info_parts Try.infoInt
  go_enter Try.func30, Try.ntmps30
  go_wp2_with fail
  go_loopw [5, 6] (fun v i wr => ∃ k : Nat, k ≤ 3 ∧ i = .int .i64 k ∧ ∃ xs : List Int, xs.length = k ∧ J w R a n cap bs (p + k) v xs wr) (fun _ i _ => 3 - (intOf i).toNat)
  case atStart =>
    exact ⟨0, by omega, rfl, [], rfl, by rw [show p + ((0 : Nat) : Int) = p by omega]; exact ⟨Touch.of ((Below.refl _ _).alloc (Nat.le_refl _) _), hR.below ((Below.refl _ _).alloc (Nat.le_refl _) _), World.ownsRow_lit w #[] 0 (Nat.le_refl _) (by unfold maxLen; omega) rfl, lR, hlb⟩⟩
  case round =>
    obtain ⟨k, hk, rfl, xs, hxs, j⟩ := hrel
    have HX : Hid (xs.length = k) := hxs
    clear hxs
    by_cases hlt : k < 3
    · go_wp2_with fail
      refine (pick_any R a n cap bs (p + k) 9 _ (j.alloc _).r (by omega) (by omega) (by omega) (by omega)).mono ?_
      rintro e w1 ⟨r, r0, r9, rfl, t1, R1⟩
      have j1 := (j.alloc _).pick t1 R1
      have tb := (Cel.new wr _ _).touch t1 (by have := j.t.size; omega)
      obtain ⟨rn, rfl⟩ := Int.eq_ofNat_of_zero_le r0
      have ct : w1.cell? ⟨wr.heap.size, rn, none⟩ = some (.int .i64 (tabV[rn]?.getD 0)) := by
        rw [tb.cell rn]
        match rn, r9 with
        | 0, _ => rfl
        | 1, _ => rfl
        | 2, _ => rfl
        | 3, _ => rfl
        | 4, _ => rfl
        | 5, _ => rfl
        | 6, _ => rfl
        | 7, _ => rfl
        | 8, _ => rfl
        | (m + 9), h => omega
      have hw := j1.t.size
      clear t1 R1 tb j
      go_wp2_with (at_builtin; refine wpList_append_own _ rfl (.tmp 12) (.tmp 18) 26 rfl w.heap.size 3 i0 (.int .i64 0) 1 8 Try.underlying26 hi hz0 hz1 hz2 rfl (by decide) _ _ _ rfl (j1.alloc _).o ⟨w1.heap.size, 0, none⟩ 1 1 [.int .i64 (tabV[rn]?.getD 0)] rfl rfl ?c1 ?c2 ?c3 ?c4 ?c5 ?_)
      case c1 =>
        intro i u hu
        match i, hu with
        | 0, hu => simp at hu; subst hu; simp [Addr.add]
      case c2 => intro u hu; simp at hu; subst hu; rfl
      case c3 => rw [HX.out]; unfold maxLen; omega
      case c4 => rw [HX.out]; omega
      case c5 => simp; omega
      intro v' w2 hown' hgrow _
      have j2 : J w R a n cap bs (p + k + 1) v' (xs ++ [tabV[rn]?.getD 0]) w2 := (j1.alloc _).own (by simpa using hown') hgrow
      clear hown' hgrow j1
      go_wp2
      go_roundw
      case rel => exact ⟨k + 1, by omega, by go_num, xs ++ [tabV[rn]?.getD 0], by rw [List.length_append, HX.out]; rfl, by have h := j2; rw [show p + (k : Int) + 1 = p + ((k + 1 : Nat) : Int) by omega] at h; exact h⟩
      case measure => simp [intOf]; omega
    · obtain rfl : k = 3 := by omega
      clear hlb hR
      have wW := j.t.size
      go_wp2_with fail
      refine (pick_any R a n cap bs (p + ((3 : Nat) : Int)) N _ j.r (by omega) (by omega) (by omega) (by omega)).mono ?_
      rintro e w1 ⟨r, r0, r2, rfl, t1, R1⟩
      have j1 := j.pick t1 R1
      clear t1 R1 j
      by_cases hr : r = 0
      · subst hr
        go_wp2_with fail
        refine (pick_any R a n cap bs (p + ((3 : Nat) : Int) + 1) 3 _ j1.r (by omega) (by omega) (by omega) (by omega)).mono ?_
        rintro e w2 ⟨s, s0, s3, rfl, t2, R2⟩
        have j2 := j1.pick t2 R2
        clear t2 R2 j1
        obtain ⟨g, cap', hv, hcap, hg, hI, hfz⟩ := j2.ints (by rw [HX.out]; omega)
        rw [HX.out] at hv hcap hI
        subst hv
        rcases (show s = 0 ∨ s = 1 ∨ s = 2 from by omega) with rfl | rfl | rfl
        · go_wp2
          go_ret
          exact ⟨_, 2, cap', xs.take 2, _, rfl, j2.t, j2.r, ⟨by rw [List.length_take, HX.out]; rfl, fun i hi => by obtain ⟨b, o, h1, h2⟩ := hI.2 i (by omega); exact ⟨b, o, h1, by rw [h2]; simp [hi]⟩⟩, by omega, by first | omega | simp, fun b o e => by simp only [Option.some.injEq, Addr.mk.injEq] at e; omega, by omega, by omega⟩
        · go_wp2_with (at_builtin; refine wpList_append_own _ rfl (.tmp 41) (.tmp 42) 26 rfl w.heap.size 3 i0 (.int .i64 0) 1 8 Try.underlying26 hi hz0 hz1 hz2 rfl (by decide) _ _ _ rfl (j2.alloc _).o ⟨w2.heap.size, 0, none⟩ 1 1 [.int .i64 0] rfl rfl ?d1 ?d2 ?d3 ?d4 ?d5 ?_)
          case d1 =>
            intro i u hu
            match i, hu with
            | 0, hu => simp at hu; subst hu; simp [Addr.add]
          case d2 => intro u hu; simp at hu; subst hu; rfl
          case d3 => rw [HX.out]; unfold maxLen; omega
          case d4 => rw [HX.out]; omega
          case d5 => have := j2.t.size; simp; omega
          intro v' w3 hown' hgrow _
          have j3 : J w R a n cap bs (p + ((3 : Nat) : Int) + 1 + 1) v' (xs ++ [0]) w3 := (j2.alloc _).own (by simpa using hown') hgrow
          obtain ⟨g', cap2, hv', hcap2, hg', hI', hfz'⟩ := j3.ints (by rw [List.length_append]; simp)
          have hl : (xs ++ [0]).length = 4 := by rw [List.length_append, HX.out]; rfl
          rw [hl] at hv' hcap2 hI'
          subst hv'
          clear hown' hgrow j2 hI hfz
          go_wp2
          go_ret
          exact ⟨_, 4, cap2, _, _, rfl, j3.t, j3.r, hI', by omega, by first | omega | simp, fun b o e => by simp only [Option.some.injEq, Addr.mk.injEq] at e; omega, by omega, by omega⟩
        · go_wp2_with fail
          refine (pick_any R a n cap bs (p + ((3 : Nat) : Int) + 1 + 1) 3 _ j2.r (by omega) (by omega) (by omega) (by omega)).mono ?_
          rintro e w3 ⟨s, s0, s3, rfl, t3, R3⟩
          have j3 := j2.pick t3 R3
          obtain ⟨sn, rfl⟩ := Int.eq_ofNat_of_zero_le s0
          clear t3 R3 j2 hI hfz
          go_wp2_with fail
          refine (pick_any R a n cap bs (p + ((3 : Nat) : Int) + 1 + 1 + 1) 2 _ (j3.alloc _).r (by omega) (by omega) (by omega) (by omega)).mono ?_
          rintro e w4 ⟨u, u0, u2, rfl, t4, R4⟩
          have j4 := (j3.alloc _).pick t4 R4
          have tb := (Cel.new w3 _ _).touch t4 (by have := j3.t.size; omega)
          obtain ⟨un, rfl⟩ := Int.eq_ofNat_of_zero_le u0
          have ct : w4.cell? ⟨w3.heap.size, un, none⟩ = some (.int .i64 ([10001, -10001][un]?.getD 0)) := by
            rw [tb.cell un]
            match un, u2 with
            | 0, _ => rfl
            | 1, _ => rfl
            | (m + 2), h => omega
          obtain ⟨g2, cap2, hv2, hcap2, hg2, hI2, hfz2⟩ := j4.ints (by rw [HX.out]; omega)
          rw [HX.out] at hv2 hcap2 hI2
          simp only [Value.slice.injEq, Option.some.injEq, Addr.mk.injEq, and_true, true_and] at hv2
          obtain ⟨rfl, rfl⟩ := hv2
          have cg : w4.cell? ⟨g, sn, none⟩ = some (.int .i64 (xs[sn]?.getD 0)) := by
            obtain ⟨b, o, e1, hh⟩ := hI2.2 sn (by omega)
            simp only [Option.some.injEq, Addr.mk.injEq, and_true] at e1
            obtain ⟨rfl, rfl⟩ := e1
            simpa using hh
          have fg := hfz2 sn
          have IS := ints_set hI2 (s := sn) (by omega) ([10001, -10001][un]?.getD 0)
          have TS := j4.t.setNewD hg2 sn (.int .i64 ([10001, -10001][un]?.getD 0))
          have RS := j4.setR hg2 sn (.int .i64 ([10001, -10001][un]?.getD 0))
          clear t4 R4 j3 j4 tb hI2 hfz2
          go_wp2
          go_ret
          exact ⟨_, 3, cap', _, _, rfl, TS, RS, IS, by omega, by first | omega | simp, fun b o e => by simp only [Option.some.injEq, Addr.mk.injEq] at e; omega, by omega, by omega⟩
      · obtain ⟨g, cap', hv, hcap, hg, hI, hfz⟩ := j1.ints (by rw [HX.out]; omega)
        rw [HX.out] at hv hcap hI
        subst hv
        have hr' : (r == 0) = false := by simpa using hr
        go_wp2
        go_ret
        exact ⟨_, 3, cap', xs, _, rfl, j1.t, j1.r, hI, by omega, by first | omega | simp, fun b o e => by simp only [Option.some.injEq, Addr.mk.injEq] at e; omega, by omega, by omega⟩

theorem J.start {w : World} {R : Nat} {a : Option Addr} {n cap : Nat} {bs : List Int} {p : Int} (hR : Rd w R a n cap bs p) (hlb : 0 < n → ∀ b o, a = some ⟨b, o, none⟩ → b < w.heap.size) : J w R a n cap bs p (.slice none 0 0) [] w :=
  ⟨Touch.refl _ _, hR, World.ownsRow_nil _ _ _ _, hR.c.lt, hlb⟩
theorem J.lit {w W : World} {R : Nat} {a : Option Addr} {n cap : Nat} {bs : List Int} {p : Int} {v : Value} {xs : List Int} (j : J w R a n cap bs p v xs W) (x y : Int) : J w R a n cap bs p (.slice (some ⟨W.heap.size, 0, none⟩) 2 2) [x, y] (W.alloc (.cells #[.int .i64 x, .int .i64 y] 3)) :=
  ⟨(j.alloc _).t, (j.alloc _).r, World.ownsRow_lit W #[.int .i64 x, .int .i64 y] 2 j.t.size (by unfold maxLen; omega) rfl, j.lR, j.lb⟩

set_option maxHeartbeats 1600000 in
theorem args_gen (R : Nat) (a : Option Addr) (n cap : Nat) (bs : List Int) (p N : Int) (w : World) (hR : Rd w R a n cap bs p) (hp : 0 ≤ p) (hp1 : p ≤ 9000000) (hN : 1 ≤ N) (hN1 : N ≤ 1000) (hlb : 0 < n → ∀ b o, a = some ⟨b, o, none⟩ → b < w.heap.size) :
    Calls Try.prog 31 #[.pointer (some ⟨R, 0, none⟩), .int .i64 N] w fun e w' => ∃ a' n' cap' zs q, e = .returned (.slice a' n' cap') ∧ Dn w w' R a n cap bs p q a' n' zs := by
  have j := J.start hR hlb
  obtain ⟨i0, hi, hz0, hz1, hz2⟩ := info_parts Try.infoInt
  clear hR hlb
  go_enter Try.func31, Try.ntmps31
  go_wp2_with fail
  refine (pick_any R a n cap bs p 19 _ j.r (by omega) (by omega) (by omega) (by omega)).mono ?_
  rintro e w1 ⟨x, x0, x1, rfl, t1, R1⟩
  have j1 := j.pick t1 R1
  clear t1 R1 j
  go_wp2_with fail
  refine (pick_any R a n cap bs (p + 1) 19 _ j1.r (by omega) (by omega) (by omega) (by omega)).mono ?_
  rintro e w2 ⟨y, y0, y1, rfl, t2, R2⟩
  have j2 := (j1.pick t2 R2).lit (x - 9) (y - 9)
  have lw2 := (j1.pick t2 R2).t.size
  clear t2 R2 j1
  go_wp2_with fail
  refine (pick_any R a n cap bs (p + 1 + 1) N _ j2.r (by omega) (by omega) (by omega) (by omega)).mono ?_
  rintro e w3 ⟨r, r0, r2, rfl, t3, R3⟩
  have j3 := j2.pick t3 R3
  clear t3 R3 j2
  by_cases hr : r = 0
  · subst hr
    go_wp2_with fail
    refine (pick_any R a n cap bs (p + 1 + 1 + 1) 3 _ j3.r (by omega) (by omega) (by omega) (by omega)).mono ?_
    rintro e w4 ⟨s, s0, s3, rfl, t4, R4⟩
    have j4 := j3.pick t4 R4
    clear t4 R4 j3
    obtain ⟨g, cap', hv, hcap, hg, hI, hfz⟩ := j4.ints (by simp)
    simp only [Value.slice.injEq, Option.some.injEq, Addr.mk.injEq, and_true, true_and, List.length_cons, List.length_nil] at hv
    obtain ⟨rfl, _, rfl⟩ := hv
    rcases (show s = 0 ∨ s = 1 ∨ s = 2 from by omega) with rfl | rfl | rfl
    · go_wp2
      go_ret
      refine ⟨_, 1, 2, [x - 9], _, rfl, j4.t, j4.r, ⟨rfl, fun i hi => ?_⟩, by omega, by first | omega | simp, fun b o e => by simp only [Option.some.injEq, Addr.mk.injEq] at e; omega, by omega, by omega⟩
      obtain rfl : i = 0 := by omega
      obtain ⟨b, o, h1, h2⟩ := hI.2 0 (by simp)
      exact ⟨b, o, h1, h2⟩
    · go_wp2_with (at_builtin; refine wpList_append_own _ rfl (.tmp 34) (.tmp 35) 26 rfl w.heap.size 3 i0 (.int .i64 0) 1 8 Try.underlying26 hi hz0 hz1 hz2 rfl (by decide) _ _ _ rfl (j4.alloc _).o ⟨w4.heap.size, 0, none⟩ 1 1 [.int .i64 0] rfl rfl ?d1 ?d2 ?d3 ?d4 ?d5 ?_)
      case d1 =>
        intro i u hu
        match i, hu with
        | 0, hu => simp at hu; subst hu; simp [Addr.add]
      case d2 => intro u hu; simp at hu; subst hu; rfl
      case d3 => unfold maxLen; simp
      case d4 => simp
      case d5 => have := j4.t.size; simp; omega
      intro v' w5 hown' hgrow _
      have j5 : J w R a n cap bs (p + 1 + 1 + 1 + 1) v' ([x - 9, y - 9] ++ [0]) w5 := (j4.alloc _).own (by simpa using hown') hgrow
      obtain ⟨g', cap2, hv', hcap2, hg', hI', hfz'⟩ := j5.ints (by simp)
      subst hv'
      clear hown' hgrow j4 hI hfz
      go_wp2
      go_ret
      exact ⟨_, _, cap2, _, _, rfl, j5.t, j5.r, hI', by simp, by first | omega | simp, fun b o e => by simp only [Option.some.injEq, Addr.mk.injEq] at e; omega, by omega, by omega⟩
    · go_wp2_with fail
      refine (pick_any R a n cap bs (p + 1 + 1 + 1 + 1) 2 _ j4.r (by omega) (by omega) (by omega) (by omega)).mono ?_
      rintro e w5 ⟨s, s0, s3, rfl, t5, R5⟩
      have j5 := j4.pick t5 R5
      obtain ⟨sn, rfl⟩ := Int.eq_ofNat_of_zero_le s0
      clear t5 R5 j4 hI hfz
      go_wp2_with fail
      refine (pick_any R a n cap bs (p + 1 + 1 + 1 + 1 + 1) 2 _ (j5.alloc _).r (by omega) (by omega) (by omega) (by omega)).mono ?_
      rintro e w6 ⟨u, u0, u2, rfl, t6, R6⟩
      have j6 := (j5.alloc _).pick t6 R6
      have tb := (Cel.new w5 _ _).touch t6 (by have := j5.t.size; have := j5.lR; omega)
      obtain ⟨un, rfl⟩ := Int.eq_ofNat_of_zero_le u0
      have ct : w6.cell? ⟨w5.heap.size, un, none⟩ = some (.int .i64 ([10, -10][un]?.getD 0)) := by
        rw [tb.cell un]
        match un, u2 with
        | 0, _ => rfl
        | 1, _ => rfl
        | (m + 2), h => omega
      obtain ⟨g2, cap2, hv2, hcap2, hg2, hI2, hfz2⟩ := j6.ints (by simp)
      simp only [Value.slice.injEq, Option.some.injEq, Addr.mk.injEq, and_true, true_and, List.length_cons, List.length_nil] at hv2
      obtain ⟨rfl, _, rfl⟩ := hv2
      simp only [List.length_cons, List.length_nil] at hI2
      have cg : w6.cell? ⟨w2.heap.size, sn, none⟩ = some (.int .i64 ([x - 9, y - 9][sn]?.getD 0)) := by
        obtain ⟨b, o, e1, hh⟩ := hI2.2 sn (by omega)
        simp only [Option.some.injEq, Addr.mk.injEq, and_true] at e1
        obtain ⟨rfl, rfl⟩ := e1
        simpa using hh
      have fg := hfz2 sn
      have IS := ints_set hI2 (s := sn) (by omega) ([10, -10][un]?.getD 0)
      have TS := j6.t.setNewD hg2 sn (.int .i64 ([10, -10][un]?.getD 0))
      have RS := j6.setR hg2 sn (.int .i64 ([10, -10][un]?.getD 0))
      clear t6 R6 j5 j6 tb hI2 hfz2
      go_wp2
      go_ret
      exact ⟨_, _, 2, _, _, rfl, TS, RS, IS, by omega, by first | omega | simp, fun b o e => by simp only [Option.some.injEq, Addr.mk.injEq] at e; omega, by omega, by omega⟩
  · obtain ⟨g, cap', hv, hcap, hg, hI, hfz⟩ := j3.ints (by simp)
    simp only [Value.slice.injEq, Option.some.injEq, Addr.mk.injEq, and_true, true_and, List.length_cons, List.length_nil] at hv
    obtain ⟨rfl, _, rfl⟩ := hv
    have hr' : (r == 0) = false := by simpa using hr
    go_wp2
    go_ret
    exact ⟨_, _, 2, _, _, rfl, j3.t, j3.r, hI, by simp, by first | omega | simp, fun b o e => by simp only [Option.some.injEq, Addr.mk.injEq] at e; omega, by omega, by omega⟩

end Go.Proofs.Ytemcinobgdphnaa
namespace Go.Proofs.Ytemcinobgdphnaa
open Go.RowKit
set_option linter.unusedVariables false
set_option maxRecDepth 100000

/-- A form was drawn: its lists lie in new memory, the reader has gone on. -/
structure FmN (w w' : World) (R : Nat) (a : Option Addr) (n cap : Nat) (bs : List Int) (p q : Int) (B1 nC B2 nD : Nat) (C D : List Int) : Prop where
  t : Touch (fun x => x = R) w w'
  r : Rd w' R a n cap bs q
  c : Ints w' (some ⟨B1, 0, none⟩) nC C
  d : Ints w' (some ⟨B2, 0, none⟩) nD D
  c4 : nC ≤ 4
  d4 : nD ≤ 4
  c1 : 1 ≤ nC
  d1 : 1 ≤ nD
  b1 : w.heap.size ≤ B1
  b2 : w.heap.size ≤ B2
  q0 : p ≤ q
  q1 : q ≤ p + 20
theorem Blk.own {W : World} {B base n : Nat} {zs : List Int} (h : Blk W B zs) (hl : zs.length = n) (hb : base ≤ B) (hn : n ≤ 1000) : W.ownsRow base 3 1 (.slice (some ⟨B, 0, none⟩) n n) n (zs.map (Value.int .i64)) := by
  subst hl
  exact ⟨by simp, .inr ⟨B, zs.length, _, rfl, hb, h, Nat.le_refl _, by unfold maxLen; omega, by simp, by rw [List.take_of_length_le (by simp)]⟩⟩
theorem Ints.setFar {W : World} {a : Option Addr} {n B : Nat} {zs : List Int} (h : Ints W a n zs) (hB : ∀ b o, a = some ⟨b, o, none⟩ → b ≠ B) (i : Nat) (v : Value) : Ints (W.setCell ⟨B, i, none⟩ v) a n zs := by
  refine ⟨h.1, fun k hk => ?_⟩
  obtain ⟨b, off, e, hc⟩ := h.2 k hk
  exact ⟨b, off, e, (World.cell?_of_block (Below.heap_setCell W ⟨B, i, none⟩ v b (hB b off e))).trans hc⟩
theorem Ints.cut {W : World} {a : Option Addr} {n k : Nat} {zs : List Int} (h : Ints W a n zs) (hk : k ≤ n) : Ints W a k (zs.take k) := by
  refine ⟨by rw [List.length_take, h.1]; omega, fun i hi => ?_⟩
  obtain ⟨b, off, e, hc⟩ := h.2 i (by omega)
  exact ⟨b, off, e, by rw [hc]; simp [hi]⟩
theorem FmN.set {w W : World} {R : Nat} {a : Option Addr} {n cap : Nat} {bs : List Int} {p q : Int} {B1 nC B2 nD : Nat} {C D : List Int} (h : FmN w W R a n cap bs p q B1 nC B2 nD C D) {B : Nat} (hB : w.heap.size ≤ B) (h1 : B1 ≠ B) (h2 : B2 ≠ B) (hR : R < w.heap.size) (ha : 0 < n → ∀ b o, a = some ⟨b, o, none⟩ → b < w.heap.size) (i : Nat) (v : Value) : FmN w (W.setCell ⟨B, i, none⟩ v) R a n cap bs p q B1 nC B2 nD C D :=
  ⟨h.t.setNewF hB i v, h.r.setNew (by omega) (fun h0 b o e => by have := ha h0 b o e; omega) i v, h.c.setFar (fun b o e => by simp only [Option.some.injEq, Addr.mk.injEq] at e; omega) i v, h.d.setFar (fun b o e => by simp only [Option.some.injEq, Addr.mk.injEq] at e; omega) i v, h.c4, h.d4, h.c1, h.d1, h.b1, h.b2, h.q0, h.q1⟩
theorem bnd.up {M N : Int} {zs : List Int} (h : bnd M zs) (hM : M ≤ N) : bnd N zs := fun i => by have := h i; omega
theorem litF_4 (j : Nat) (hj : j < 4) : -10000001 ≤ ([10000000, -10000000, 1000, 77] : List Int)[j]?.getD 0 ∧ ([10000000, -10000000, 1000, 77] : List Int)[j]?.getD 0 ≤ 10000001 := by
  rcases j with _ | _ | _ | _ | j <;> first | omega | simp
theorem litF_2 (j : Nat) (hj : j < 2) : -10000001 ≤ ([10000001, -10000001] : List Int)[j]?.getD 0 ∧ ([10000001, -10000001] : List Int)[j]?.getD 0 ≤ 10000001 := by
  rcases j with _ | _ | _ | _ | j <;> first | omega | simp
theorem litF_3 (j : Nat) (hj : j < 3) : -10000001 ≤ ([10000001, -10000001, 10000000] : List Int)[j]?.getD 0 ∧ ([10000001, -10000001, 10000000] : List Int)[j]?.getD 0 ≤ 10000001 := by
  rcases j with _ | _ | _ | _ | j <;> first | omega | simp

set_option maxHeartbeats 12800000 in
theorem form_f (R : Nat) (a : Option Addr) (n cap : Nat) (bs : List Int) (p N : Int) (w : World) (hR : Rd w R a n cap bs p) (hp : 0 ≤ p) (hp1 : p ≤ 8000000) (hN : 1 ≤ N) (hN1 : N ≤ 1000) (ha : 0 < n → ∀ b o, a = some ⟨b, o, none⟩ → b < w.heap.size) :
    Calls Try.prog 60 #[.pointer (some ⟨R, 0, none⟩), .int .i64 N] w fun e w' => ∃ B1 nC cC B2 nD cD K C D q, e = .returned (formV (some ⟨B1, 0, none⟩) nC cC (some ⟨B2, 0, none⟩) nD cD K) ∧ FmN w w' R a n cap bs p q B1 nC B2 nD C D := by
  have hRl := hR.c.lt
  have bx := Cel.new w [.slice none 0 0, .slice none 0 0, .int .i64 0] 34
  have B0 := (Below.refl w.heap.size w).alloc (Nat.le_refl _) (.cells #[.slice none 0 0, .slice none 0 0, .int .i64 0] 34)
  obtain ⟨i0, hi, hz0, hz1, hz2⟩ := info_parts Try.infoInt
  go_enter Try.func60, Try.ntmps60
  go_wp2_with fail
  refine (small_f R a n cap bs p _ (hR.below B0) hp (by omega) (fun h0 b o e => by have := ha h0 b o e; have := B0.size; omega)).mono ?_
  rintro e w1 ⟨B1, B2, C, D, K, rfl, t1, R1, f1, s1, s2, s3, s4⟩
  have al := (Below.refl w1.heap.size w1).alloc (Nat.le_refl _) (.cells #[.slice (some ⟨B1, 0, none⟩) 3 3, .slice (some ⟨B2, 0, none⟩) 2 2, .int .i64 K] 34)
  have z1 := f1.b1
  have z2 := f1.b2
  have z3 := t1.size
  rw [World.size_alloc] at z1 z2 z3
  have lt1 := f1.k1.lt
  have lt2 := f1.k2.lt
  have s0 : SmI w (w1.alloc (.cells #[.slice (some ⟨B1, 0, none⟩) 3 3, .slice (some ⟨B2, 0, none⟩) 2 2, .int .i64 K] 34)) R a n cap bs (p + 6) w1.heap.size B1 B2 C D K 10000001 :=
    ⟨((Touch.of B0).trans t1).trans (Touch.of al), R1.below al, (f1.below al).mono (by rw [World.size_alloc]; omega), Cel.new w1 _ _, (bx.touch t1 (by omega)).below al, by omega, by omega, by omega, hRl, ha, s1.up (by omega), s2.up (by omega)⟩
  obtain ⟨fb, hfb⟩ : ∃ x, x = w1.heap.size := ⟨_, rfl⟩
  obtain ⟨W2, hW2⟩ : ∃ W, W = w1.alloc (.cells #[.slice (some ⟨B1, 0, none⟩) 3 3, .slice (some ⟨B2, 0, none⟩) 2 2, .int .i64 K] 34) := ⟨_, rfl⟩
  rw [← hfb, ← hW2] at s0
  go_wp2_with fail
  rw [← hfb, ← hW2]
  clear hfb hW2 hR bx B0 t1 R1 f1 al z1 z2 z3 lt1 lt2 s1 s2
  refine (pick_any R a n cap bs (p + 6) 4 _ s0.r (by omega) (by omega) (by omega) (by omega)).mono ?_
  rintro e w3 ⟨r, r0, r1, rfl, t3, R3⟩
  have s := s0.pick t3 R3
  clear s0 t3 R3
  go_upto_if 10 with fail
  go_cut [] (fun wx => ∃ C q, SmI w wx R a n cap bs q fb B1 B2 C D K 10000001 ∧ p ≤ q ∧ q ≤ p + 9)
  case first =>
    by_cases hr : r = 0
    · have hr' : (r == 0) = true := by simpa using hr
      go_upto_region 3 with fail
      clear hr hr' r0 r1
      refine wp_region_ends (fun X => X.cell? ⟨fb, 0, none⟩ = some (.slice (some ⟨B1, 0, none⟩) 3 3)) (fun _ => True) 10 (by kernel_rfl) ?_
      have sd := s.below ((Below.refl _ _).drew)
      obtain ⟨V0, hV0⟩ : ∃ V, V = w3.drew := ⟨_, rfl⟩
      rw [← hV0] at sd ⊢
      clear hV0 s
      have hS0 : (fun X : World => X.cell? ⟨fb, 0, none⟩ = some (.slice (some ⟨B1, 0, none⟩) 3 3)) V0 ∧ True := ⟨sd.cb.cell 0, trivial⟩
      refine tkL (i := 0) rfl hS0 ?_
      refine tkL (i := 1) rfl hS0 ?_
      refine tkL (i := 2) rfl hS0 ?_
      refine tkL (i := 5) rfl hS0 ?_
      clear hS0
      refine wpAnyE_two (i := 3) (j := 4) (by kernel_rfl) rfl rfl (fun Kn hK => ?_) (fun Kn hK => ?_)
      · go_simp
        refine (pick_any R a n cap bs _ 3 _ sd.r (by omega) (by omega) (by omega) (by omega)).mono ?_
        rintro e wA ⟨ri, r0, r1, rfl, t5, R5⟩
        obtain ⟨i, rfl⟩ := Int.eq_ofNat_of_zero_le r0
        have hi : i < 3 := by omega
        have hi' : (i : Int) < 3 := by omega
        clear r0 r1
        have sa := sd.pick t5 R5
        clear t5 R5
        dsimp only
        refine hK.out _ _ ⟨sa.cb.cell 0, fun _ => trivial⟩ ?_
        clear hK
        refine wpAnyE_two (i := 4) (j := 6) (by kernel_rfl) rfl rfl (fun Kn hK => ?_) (fun Kn hK => ?_)
        · go_simp
          have al := (Below.refl wA.heap.size wA).alloc (Nat.le_refl _) (.cells #[.int .i64 10000000, .int .i64 (-10000000), .int .i64 1000, .int .i64 77] 3)
          have lb := Cel.new wA [.int .i64 10000000, .int .i64 (-10000000), .int .i64 1000, .int .i64 77] 3
          have sb := sa.below al
          clear al
          refine hK.out _ _ ⟨sb.cb.cell 0, fun _ => trivial⟩ ?_
          clear hK
          refine wpAnyE_one (i := 6) (by kernel_rfl) rfl (fun Kn hK => ?_)
          go_simp
          refine (pick_any R a n cap bs _ 4 _ sb.r (by omega) (by omega) (by omega) (by omega)).mono ?_
          rintro e wB ⟨rj, r0, r1, rfl, t5, R5⟩
          obtain ⟨j, rfl⟩ := Int.eq_ofNat_of_zero_le r0
          have hj : j < 4 := by omega
          have hj' : (j : Int) < 4 := by omega
          clear r0 r1
          have sc := sb.pick t5 R5
          replace lb := lb.touch t5 (by have h1 := sa.hR; have h2 := sa.t.size; omega)
          clear t5 R5
          dsimp only
          refine hK.out _ _ ⟨sc.cb.cell 0, fun _ => trivial⟩ ?_
          clear hK
          have hS5 : (fun X : World => X.cell? ⟨fb, 0, none⟩ = some (.slice (some ⟨B1, 0, none⟩) 3 3)) wB ∧ True := ⟨sc.cb.cell 0, trivial⟩
          refine tkL (i := 7) rfl hS5 ?_
          have hc := lit_cell (xs := [10000000, -10000000, 1000, 77]) lb hj
          have hy := litF_4 j hj
          generalize ([10000000, -10000000, 1000, 77] : List Int)[j]?.getD 0 = y at hc hy
          refine wpAnyE_one (i := 8) (by kernel_rfl) rfl (fun Kn hK => ?_)
          go_simp
          refine hK.out _ _ ⟨sc.cb.cell 0, fun _ => trivial⟩ ?_
          clear hK
          refine tkL (i := 9) rfl hS5 ?_
          have s6 := sc.setC i hy.1 hy.2
          have kc := sc.f.k1.cell i (by rw [sc.f.l1]; omega)
          have kf := sc.f.k1.free i
          have kl := sc.f.k1.lt
          refine wpAnyE_one (i := 10) (by kernel_rfl) rfl (fun Kn hK => ?_)
          go_simp
          refine hK.out _ _ ⟨s6.cb.cell 0, fun _ => trivial⟩ ?_
          clear hK
          refine wpAnyE_done (by kernel_rfl) ?_ _
          clear hS5 hc kc kf lb
          go_wp2
          go_meet
          case rel => exact ⟨_, _, s6, by omega, by omega⟩
        · go_simp
          refine (pick_any R a n cap bs _ 4 _ sa.r (by omega) (by omega) (by omega) (by omega)).mono ?_
          rintro e wB ⟨rj, r0, r1, rfl, t5, R5⟩
          obtain ⟨j, rfl⟩ := Int.eq_ofNat_of_zero_le r0
          have hj : j < 4 := by omega
          have hj' : (j : Int) < 4 := by omega
          clear r0 r1
          have sb := sa.pick t5 R5
          clear t5 R5
          dsimp only
          refine hK.out _ _ ⟨sb.cb.cell 0, fun _ => trivial⟩ ?_
          clear hK
          refine wpAnyE_one (i := 4) (by kernel_rfl) rfl (fun Kn hK => ?_)
          go_simp
          have al := (Below.refl wB.heap.size wB).alloc (Nat.le_refl _) (.cells #[.int .i64 10000000, .int .i64 (-10000000), .int .i64 1000, .int .i64 77] 3)
          have lb := Cel.new wB [.int .i64 10000000, .int .i64 (-10000000), .int .i64 1000, .int .i64 77] 3
          have sc := sb.below al
          clear al
          refine hK.out _ _ ⟨sc.cb.cell 0, fun _ => trivial⟩ ?_
          clear hK
          have hS5 : (fun X : World => X.cell? ⟨fb, 0, none⟩ = some (.slice (some ⟨B1, 0, none⟩) 3 3)) (wB.alloc (.cells #[.int .i64 10000000, .int .i64 (-10000000), .int .i64 1000, .int .i64 77] 3)) ∧ True := ⟨sc.cb.cell 0, trivial⟩
          refine tkL (i := 7) rfl hS5 ?_
          have hc := lit_cell (xs := [10000000, -10000000, 1000, 77]) lb hj
          have hy := litF_4 j hj
          generalize ([10000000, -10000000, 1000, 77] : List Int)[j]?.getD 0 = y at hc hy
          refine wpAnyE_one (i := 8) (by kernel_rfl) rfl (fun Kn hK => ?_)
          go_simp
          refine hK.out _ _ ⟨sc.cb.cell 0, fun _ => trivial⟩ ?_
          clear hK
          refine tkL (i := 9) rfl hS5 ?_
          have s6 := sc.setC i hy.1 hy.2
          have kc := sc.f.k1.cell i (by rw [sc.f.l1]; omega)
          have kf := sc.f.k1.free i
          have kl := sc.f.k1.lt
          refine wpAnyE_one (i := 10) (by kernel_rfl) rfl (fun Kn hK => ?_)
          go_simp
          refine hK.out _ _ ⟨s6.cb.cell 0, fun _ => trivial⟩ ?_
          clear hK
          refine wpAnyE_done (by kernel_rfl) ?_ _
          clear hS5 hc kc kf lb
          go_wp2
          go_meet
          case rel => exact ⟨_, _, s6, by omega, by omega⟩
      · go_simp
        have al := (Below.refl V0.heap.size V0).alloc (Nat.le_refl _) (.cells #[.int .i64 10000000, .int .i64 (-10000000), .int .i64 1000, .int .i64 77] 3)
        have lb := Cel.new V0 [.int .i64 10000000, .int .i64 (-10000000), .int .i64 1000, .int .i64 77] 3
        have sa := sd.below al
        clear al
        refine hK.out _ _ ⟨sa.cb.cell 0, fun _ => trivial⟩ ?_
        clear hK
        refine wpAnyE_one (i := 3) (by kernel_rfl) rfl (fun Kn hK => ?_)
        go_simp
        refine (pick_any R a n cap bs _ 3 _ sa.r (by omega) (by omega) (by omega) (by omega)).mono ?_
        rintro e wA ⟨ri, r0, r1, rfl, t5, R5⟩
        obtain ⟨i, rfl⟩ := Int.eq_ofNat_of_zero_le r0
        have hi : i < 3 := by omega
        have hi' : (i : Int) < 3 := by omega
        clear r0 r1
        have sb := sa.pick t5 R5
        replace lb := lb.touch t5 (by have h1 := sd.hR; have h2 := sd.t.size; omega)
        clear t5 R5
        dsimp only
        refine hK.out _ _ ⟨sb.cb.cell 0, fun _ => trivial⟩ ?_
        clear hK
        refine wpAnyE_one (i := 6) (by kernel_rfl) rfl (fun Kn hK => ?_)
        go_simp
        refine (pick_any R a n cap bs _ 4 _ sb.r (by omega) (by omega) (by omega) (by omega)).mono ?_
        rintro e wB ⟨rj, r0, r1, rfl, t5, R5⟩
        obtain ⟨j, rfl⟩ := Int.eq_ofNat_of_zero_le r0
        have hj : j < 4 := by omega
        have hj' : (j : Int) < 4 := by omega
        clear r0 r1
        have sc := sb.pick t5 R5
        replace lb := lb.touch t5 (by have h1 := sd.hR; have h2 := sd.t.size; omega)
        clear t5 R5
        dsimp only
        refine hK.out _ _ ⟨sc.cb.cell 0, fun _ => trivial⟩ ?_
        clear hK
        have hS5 : (fun X : World => X.cell? ⟨fb, 0, none⟩ = some (.slice (some ⟨B1, 0, none⟩) 3 3)) wB ∧ True := ⟨sc.cb.cell 0, trivial⟩
        refine tkL (i := 7) rfl hS5 ?_
        have hc := lit_cell (xs := [10000000, -10000000, 1000, 77]) lb hj
        have hy := litF_4 j hj
        generalize ([10000000, -10000000, 1000, 77] : List Int)[j]?.getD 0 = y at hc hy
        refine wpAnyE_one (i := 8) (by kernel_rfl) rfl (fun Kn hK => ?_)
        go_simp
        refine hK.out _ _ ⟨sc.cb.cell 0, fun _ => trivial⟩ ?_
        clear hK
        refine tkL (i := 9) rfl hS5 ?_
        have s6 := sc.setC i hy.1 hy.2
        have kc := sc.f.k1.cell i (by rw [sc.f.l1]; omega)
        have kf := sc.f.k1.free i
        have kl := sc.f.k1.lt
        refine wpAnyE_one (i := 10) (by kernel_rfl) rfl (fun Kn hK => ?_)
        go_simp
        refine hK.out _ _ ⟨s6.cb.cell 0, fun _ => trivial⟩ ?_
        clear hK
        refine wpAnyE_done (by kernel_rfl) ?_ _
        clear hS5 hc kc kf lb
        go_wp2
        go_meet
        case rel => exact ⟨_, _, s6, by omega, by omega⟩
    · have hr' : (r == 0) = false := by simpa using hr
      go_wp2
      go_meet
      case rel => exact ⟨_, _, s, by omega, by omega⟩
  case rest =>
    clear s r0 r1
    obtain ⟨C, q, s0, q0, q1⟩ := hcut
    go_wp2_with fail
    refine (pick_any R a n cap bs q N _ s0.r (by omega) (by omega) (by omega) (by omega)).mono ?_
    rintro e w4 ⟨u, u0, u1, rfl, t4, R4⟩
    have s := s0.pick t4 R4
    clear s0 t4 R4
    by_cases hu : 0 < u
    · have c0 := s.cb.cell 0
      have c1 := s.cb.cell 1
      have c2 := s.cb.cell 2
      have g0 := s.rb.cell 0
      have g1 := s.rb.cell 1
      have g2 := s.rb.cell 2
      have h0 := s.rb.free 0
      have h1 := s.rb.free 1
      have h2 := s.rb.free 2
      simp only [List.getElem?_cons_zero, List.getElem?_cons_succ] at c0 c1 c2 g0 g1 g2
      have l1 := s.cb.lt
      have l2 := s.rb.lt
      have hf := s.hf
      have b1 := s.f.b1
      have b2 := s.f.b2
      have m1 : ¬ w.heap.size = fb := by omega
      have m2 : ¬ fb = w.heap.size := by omega
      go_wp2
      refine bodyPost_ret (v := formV (some ⟨B1, 0, none⟩) 3 3 (some ⟨B2, 0, none⟩) 2 2 K) (by simp [results, Try.results60, go_sem, g0, g1, g2]) rfl ⟨B1, 3, 3, B2, 2, 2, K, C, D, q + 1, rfl, ?_⟩
      exact (((FmN.mk s.t s.r (s.f.k1.ints' s.f.l1) (s.f.k2.ints' s.f.l2) (by omega) (by omega) (by omega) (by omega) (by omega) (by omega) (by omega) (by omega)).set (B := w.heap.size) (Nat.le_refl _) (by omega) (by omega) hRl ha 0 _).set (B := w.heap.size) (Nat.le_refl _) (by omega) (by omega) hRl ha 1 _).set (B := w.heap.size) (Nat.le_refl _) (by omega) (by omega) hRl ha 2 _
    · obtain rfl : u = 0 := by omega
      go_wp2_with fail
      refine (pick_any R a n cap bs (q + 1) 4 _ s.r (by omega) (by omega) (by omega) (by omega)).mono ?_
      rintro e w5 ⟨v, v0, v1, rfl, t5, R5⟩
      have s' := s.pick t5 R5
      clear s t5 R5
      have s := s'
      clear s' u0 u1 hu
      rcases (show v = 0 ∨ v = 1 ∨ v = 2 ∨ v = 3 from by omega) with rfl | rfl | rfl | rfl
      · have c0 := s.cb.cell 0
        have c1 := s.cb.cell 1
        have c2 := s.cb.cell 2
        have e0 := s.cb.free 0
        have g0 := s.rb.cell 0
        have g1 := s.rb.cell 1
        have g2 := s.rb.cell 2
        have h0 := s.rb.free 0
        have h1 := s.rb.free 1
        have h2 := s.rb.free 2
        simp only [List.getElem?_cons_zero, List.getElem?_cons_succ] at c0 c1 c2 g0 g1 g2
        have l1 := s.cb.lt
        have l2 := s.rb.lt
        have hf := s.hf
        have b1 := s.f.b1
        have b2 := s.f.b2
        have m1 : ¬ w.heap.size = fb := by omega
        have m2 : ¬ fb = w.heap.size := by omega
        go_wp2
        refine bodyPost_ret (v := formV (some ⟨B1, 0, none⟩) 2 3 (some ⟨B2, 0, none⟩) 2 2 K) (by simp [results, Try.results60, go_sem, g0, g1, g2]) rfl ⟨B1, 2, 3, B2, 2, 2, K, C.take 2, D, q + 1 + 1, rfl, ?_⟩
        exact ((((FmN.mk s.t s.r ((s.f.k1.ints' s.f.l1).cut (by omega)) (s.f.k2.ints' s.f.l2) (by omega) (by omega) (by omega) (by omega) (by omega) (by omega) (by omega) (by omega)).set (B := fb) (by omega) s.n1 s.n2 hRl ha 0 _).set (B := w.heap.size) (Nat.le_refl _) (by omega) (by omega) hRl ha 0 _).set (B := w.heap.size) (Nat.le_refl _) (by omega) (by omega) hRl ha 1 _).set (B := w.heap.size) (Nat.le_refl _) (by omega) (by omega) hRl ha 2 _
      · have al := (Below.refl w5.heap.size w5).alloc (Nat.le_refl _) (.cells #[.int .i64 0] 3)
        have sa := s.below al
        have oD := sa.f.k2.own (base := w.heap.size + 1) sa.f.l2 sa.f.b2 (by omega)
        have hsz := s.t.size
        have c1 := s.cb.cell 1
        simp only [List.getElem?_cons_zero, List.getElem?_cons_succ] at c1
        clear al s
        go_wp2_with (at_builtin; refine wpList_append_own _ rfl (.tmp 47) (.tmp 48) 26 rfl (w.heap.size + 1) 3 i0 (.int .i64 0) 1 8 Try.underlying26 hi hz0 hz1 hz2 rfl (by decide) _ _ _ rfl oD ⟨w5.heap.size, 0, none⟩ 1 1 [.int .i64 0] rfl rfl ?d1 ?d2 ?d3 ?d4 ?d5 ?_)
        case d1 =>
          intro i u hu
          match i, hu with
          | 0, hu => simp at hu; subst hu; simp [Addr.add]
        case d2 => intro u hu; simp at hu; subst hu; rfl
        case d3 => unfold maxLen; omega
        case d4 => omega
        case d5 => have := sa.hf; have := sa.cb.lt; omega
        intro v' w6 hown hgrow _
        rcases hown.2 with ⟨_, hh⟩ | ⟨g, cap', cur, rfl, hg, hh, hl, _, _, _⟩
        · omega
        have hI : Ints w6 (some ⟨g, 0, none⟩) 3 (D ++ [0]) := by
          refine ⟨by rw [List.length_append, sa.f.l2]; rfl, fun i hi => ⟨g, 0, rfl, ?_⟩⟩
          have := hown.cellAt i (by omega)
          rw [Nat.zero_add, this]
          have e2 : D.map (Value.int .i64) ++ [Value.int .i64 0] = (D ++ [0]).map (Value.int .i64) := by simp
          rw [e2, List.getElem?_map]
          have hl3 : i < (D ++ [0]).length := by rw [List.length_append, sa.f.l2]; exact hi
          rw [List.getElem?_eq_getElem hl3]
          simp [List.getElem?_eq_getElem hl3]
        have hgr : ∀ k, k < (w5.alloc (.cells #[.int .i64 0] 3)).heap.size → k ≠ B2 → w6.heap[k]? = (w5.alloc (.cells #[.int .i64 0] 3)).heap[k]? := fun k hk hne => hgrow.block k hk (fun e => hne (by simpa [Value.ownBlock] using e))
        have T6 : Touch (fun x => x = B2) (w5.alloc (.cells #[.int .i64 0] 3)) w6 := ⟨hgrow.os, hgrow.tape, hgrow.output, hgrow.size, fun k hk hs => hgr k hk hs⟩
        have b2 := sa.f.b2
        have b1 := sa.f.b1
        have t6 : Touch (fun x => x = R) w w6 := ⟨T6.os.trans sa.t.os, T6.tape.trans sa.t.tape, T6.output.trans sa.t.output, Nat.le_trans sa.t.size T6.size, fun k hk hs => (T6.block k (Nat.lt_of_lt_of_le hk sa.t.size) (by omega)).trans (sa.t.block k hk hs)⟩
        have r6 := sa.r.touch T6 (by omega) (fun h0 b o e => by have := ha h0 b o e; omega)
        have cb6 := sa.cb.touch T6 (fun e => sa.n2 e.symm)
        have rb6 := sa.rb.touch T6 (by omega)
        have C6 := (sa.f.k1.touchF T6 sa.f.ne).ints' sa.f.l1
        have hf := sa.hf
        have n1 := sa.n1
        have gfb : g ≠ fb := fun e => by
          have h1 : w6.heap[fb]? = _ := cb6
          rw [← e, hh] at h1
          simp at h1
        have gr : g ≠ w.heap.size := by omega
        have c0 := cb6.cell 0
        have c1' := cb6.cell 1
        have c2 := cb6.cell 2
        have e1 := cb6.free 1
        have r0 := rb6.cell 0
        have r1 := rb6.cell 1
        have r2 := rb6.cell 2
        have g0 := rb6.free 0
        have g1 := rb6.free 1
        have g2 := rb6.free 2
        simp only [List.getElem?_cons_zero, List.getElem?_cons_succ] at c0 c1' c2 r0 r1 r2
        have l1 := cb6.lt
        have l2 := rb6.lt
        have m1 : ¬ w.heap.size = fb := by omega
        have m2 : ¬ fb = w.heap.size := by omega
        have hq := FmN.mk (p := p) t6 r6 C6 hI (by omega) (by omega) (by omega) (by omega) (by omega) (by omega) (by omega) (by omega)
        clear hown hgrow hgr T6 oD sa c1 C6 hI r6 t6 cb6 rb6
        go_wp2
        refine bodyPost_ret (v := formV (some ⟨B1, 0, none⟩) 3 3 (some ⟨g, 0, none⟩) 3 cap' K) (by simp [results, Try.results60, go_sem, r0, r1, r2]) rfl ⟨B1, 3, 3, g, 3, cap', K, C, D ++ [0], q + 1 + 1, rfl, ?_⟩
        exact (((hq.set (B := fb) (by omega) n1 gfb hRl ha 1 _).set (B := w.heap.size) (Nat.le_refl _) (by omega) gr hRl ha 0 _).set (B := w.heap.size) (Nat.le_refl _) (by omega) gr hRl ha 1 _).set (B := w.heap.size) (Nat.le_refl _) (by omega) gr hRl ha 2 _
      · have al := (Below.refl w5.heap.size w5).alloc (Nat.le_refl _) (.cells #[.int .i64 10000001, .int .i64 (-10000001), .int .i64 10000000] 3)
        have lb0 := Cel.new w5 [.int .i64 10000001, .int .i64 (-10000001), .int .i64 10000000] 3
        have sa := s.below al
        have hRR := s.hR
        have hsz := s.t.size
        clear al s
        go_wp2_with fail
        refine (pick_any R a n cap bs _ 3 _ sa.r (by omega) (by omega) (by omega) (by omega)).mono ?_
        rintro e w6 ⟨r, r0, r1, rfl, t6, R6⟩
        obtain ⟨j, rfl⟩ := Int.eq_ofNat_of_zero_le r0
        have hj : j < 3 := by omega
        have hj' : (j : Int) < 3 := by omega
        have s := sa.pick t6 R6
        have lb := lb0.touch t6 (by omega)
        have hc := lit_cell (xs := [10000001, -10000001, 10000000]) lb hj
        generalize ([10000001, -10000001, 10000000] : List Int)[j]?.getD 0 = y at hc
        clear r0 r1 sa t6 R6 lb lb0
        have c0 := s.cb.cell 0
        have c1 := s.cb.cell 1
        have c2 := s.cb.cell 2
        have e2 := s.cb.free 2
        have g0 := s.rb.cell 0
        have g1 := s.rb.cell 1
        have g2 := s.rb.cell 2
        have h0 := s.rb.free 0
        have h1 := s.rb.free 1
        have h2 := s.rb.free 2
        simp only [List.getElem?_cons_zero, List.getElem?_cons_succ] at c0 c1 c2 g0 g1 g2
        have l1 := s.cb.lt
        have l2 := s.rb.lt
        have hf := s.hf
        have b1 := s.f.b1
        have b2 := s.f.b2
        have m1 : ¬ w.heap.size = fb := by omega
        have m2 : ¬ fb = w.heap.size := by omega
        go_wp2
        refine bodyPost_ret (v := formV (some ⟨B1, 0, none⟩) 3 3 (some ⟨B2, 0, none⟩) 2 2 y) (by simp [results, Try.results60, go_sem, g0, g1, g2]) rfl ⟨B1, 3, 3, B2, 2, 2, y, C, D, q + 1 + 1 + 1, rfl, ?_⟩
        exact ((((FmN.mk s.t s.r (s.f.k1.ints' s.f.l1) (s.f.k2.ints' s.f.l2) (by omega) (by omega) (by omega) (by omega) (by omega) (by omega) (by omega) (by omega)).set (B := fb) (by omega) s.n1 s.n2 hRl ha 2 _).set (B := w.heap.size) (Nat.le_refl _) (by omega) (by omega) hRl ha 0 _).set (B := w.heap.size) (Nat.le_refl _) (by omega) (by omega) hRl ha 1 _).set (B := w.heap.size) (Nat.le_refl _) (by omega) (by omega) hRl ha 2 _
      · go_upto_region 7 with fail
        refine wp_region_ends (fun X => X.cell? ⟨fb, 0, none⟩ = some (.slice (some ⟨B1, 0, none⟩) 3 3)) (fun _ => True) 10 (by kernel_rfl) ?_
        have sd := s.below ((Below.refl _ _).drew)
        obtain ⟨V0, hV0⟩ : ∃ V, V = w5.drew := ⟨_, rfl⟩
        rw [← hV0] at sd ⊢
        clear hV0 s
        have hS0 : (fun X : World => X.cell? ⟨fb, 0, none⟩ = some (.slice (some ⟨B1, 0, none⟩) 3 3)) V0 ∧ True := ⟨sd.cb.cell 0, trivial⟩
        refine tkL (i := 0) rfl hS0 ?_
        refine tkL (i := 1) rfl hS0 ?_
        refine tkL (i := 2) rfl hS0 ?_
        refine tkL (i := 5) rfl hS0 ?_
        clear hS0
        refine wpAnyE_two (i := 3) (j := 4) (by kernel_rfl) rfl rfl (fun Kn hK => ?_) (fun Kn hK => ?_)
        · go_simp
          refine (pick_any R a n cap bs _ 3 _ sd.r (by omega) (by omega) (by omega) (by omega)).mono ?_
          rintro e wA ⟨ri, r0, r1, rfl, t5, R5⟩
          obtain ⟨i, rfl⟩ := Int.eq_ofNat_of_zero_le r0
          have hi : i < 3 := by omega
          have hi' : (i : Int) < 3 := by omega
          clear r0 r1
          have sa := sd.pick t5 R5
          clear t5 R5
          dsimp only
          refine hK.out _ _ ⟨sa.cb.cell 0, fun _ => trivial⟩ ?_
          clear hK
          refine wpAnyE_two (i := 4) (j := 6) (by kernel_rfl) rfl rfl (fun Kn hK => ?_) (fun Kn hK => ?_)
          · go_simp
            have al := (Below.refl wA.heap.size wA).alloc (Nat.le_refl _) (.cells #[.int .i64 10000001, .int .i64 (-10000001)] 3)
            have lb := Cel.new wA [.int .i64 10000001, .int .i64 (-10000001)] 3
            have sb := sa.below al
            clear al
            refine hK.out _ _ ⟨sb.cb.cell 0, fun _ => trivial⟩ ?_
            clear hK
            refine wpAnyE_one (i := 6) (by kernel_rfl) rfl (fun Kn hK => ?_)
            go_simp
            refine (pick_any R a n cap bs _ 2 _ sb.r (by omega) (by omega) (by omega) (by omega)).mono ?_
            rintro e wB ⟨rj, r0, r1, rfl, t5, R5⟩
            obtain ⟨j, rfl⟩ := Int.eq_ofNat_of_zero_le r0
            have hj : j < 2 := by omega
            have hj' : (j : Int) < 2 := by omega
            clear r0 r1
            have sc := sb.pick t5 R5
            replace lb := lb.touch t5 (by have h1 := sa.hR; have h2 := sa.t.size; omega)
            clear t5 R5
            dsimp only
            refine hK.out _ _ ⟨sc.cb.cell 0, fun _ => trivial⟩ ?_
            clear hK
            have hS5 : (fun X : World => X.cell? ⟨fb, 0, none⟩ = some (.slice (some ⟨B1, 0, none⟩) 3 3)) wB ∧ True := ⟨sc.cb.cell 0, trivial⟩
            refine tkL (i := 7) rfl hS5 ?_
            have hc := lit_cell (xs := [10000001, -10000001]) lb hj
            have hy := litF_2 j hj
            generalize ([10000001, -10000001] : List Int)[j]?.getD 0 = y at hc hy
            refine wpAnyE_one (i := 8) (by kernel_rfl) rfl (fun Kn hK => ?_)
            go_simp
            refine hK.out _ _ ⟨sc.cb.cell 0, fun _ => trivial⟩ ?_
            clear hK
            refine tkL (i := 9) rfl hS5 ?_
            have s6 := sc.setC i hy.1 hy.2
            have kc := sc.f.k1.cell i (by rw [sc.f.l1]; omega)
            have kf := sc.f.k1.free i
            have kl := sc.f.k1.lt
            refine wpAnyE_one (i := 10) (by kernel_rfl) rfl (fun Kn hK => ?_)
            go_simp
            refine hK.out _ _ ⟨s6.cb.cell 0, fun _ => trivial⟩ ?_
            clear hK
            refine wpAnyE_done (by kernel_rfl) ?_ _
            clear hS5 hc kc kf lb
            have s := s6
            clear s6
            have c0 := s.cb.cell 0
            have c1 := s.cb.cell 1
            have c2 := s.cb.cell 2
            have g0 := s.rb.cell 0
            have g1 := s.rb.cell 1
            have g2 := s.rb.cell 2
            have h0 := s.rb.free 0
            have h1 := s.rb.free 1
            have h2 := s.rb.free 2
            simp only [List.getElem?_cons_zero, List.getElem?_cons_succ] at c0 c1 c2 g0 g1 g2
            have l1 := s.cb.lt
            have l2 := s.rb.lt
            have hf := s.hf
            have b1 := s.f.b1
            have b2 := s.f.b2
            have m1 : ¬ w.heap.size = fb := by omega
            have m2 : ¬ fb = w.heap.size := by omega
            go_wp2
            refine bodyPost_ret (v := formV (some ⟨B1, 0, none⟩) 3 3 (some ⟨B2, 0, none⟩) 2 2 K) (by simp [results, Try.results60, go_sem, g0, g1, g2]) rfl ⟨B1, 3, 3, B2, 2, 2, K, C.set i y, D, q + 1 + 1 + 1 + 1, rfl, ?_⟩
            exact (((FmN.mk s.t s.r (s.f.k1.ints' s.f.l1) (s.f.k2.ints' s.f.l2) (by omega) (by omega) (by omega) (by omega) (by omega) (by omega) (by omega) (by omega)).set (B := w.heap.size) (Nat.le_refl _) (by omega) (by omega) hRl ha 0 _).set (B := w.heap.size) (Nat.le_refl _) (by omega) (by omega) hRl ha 1 _).set (B := w.heap.size) (Nat.le_refl _) (by omega) (by omega) hRl ha 2 _
          · go_simp
            refine (pick_any R a n cap bs _ 2 _ sa.r (by omega) (by omega) (by omega) (by omega)).mono ?_
            rintro e wB ⟨rj, r0, r1, rfl, t5, R5⟩
            obtain ⟨j, rfl⟩ := Int.eq_ofNat_of_zero_le r0
            have hj : j < 2 := by omega
            have hj' : (j : Int) < 2 := by omega
            clear r0 r1
            have sb := sa.pick t5 R5
            clear t5 R5
            dsimp only
            refine hK.out _ _ ⟨sb.cb.cell 0, fun _ => trivial⟩ ?_
            clear hK
            refine wpAnyE_one (i := 4) (by kernel_rfl) rfl (fun Kn hK => ?_)
            go_simp
            have al := (Below.refl wB.heap.size wB).alloc (Nat.le_refl _) (.cells #[.int .i64 10000001, .int .i64 (-10000001)] 3)
            have lb := Cel.new wB [.int .i64 10000001, .int .i64 (-10000001)] 3
            have sc := sb.below al
            clear al
            refine hK.out _ _ ⟨sc.cb.cell 0, fun _ => trivial⟩ ?_
            clear hK
            have hS5 : (fun X : World => X.cell? ⟨fb, 0, none⟩ = some (.slice (some ⟨B1, 0, none⟩) 3 3)) (wB.alloc (.cells #[.int .i64 10000001, .int .i64 (-10000001)] 3)) ∧ True := ⟨sc.cb.cell 0, trivial⟩
            refine tkL (i := 7) rfl hS5 ?_
            have hc := lit_cell (xs := [10000001, -10000001]) lb hj
            have hy := litF_2 j hj
            generalize ([10000001, -10000001] : List Int)[j]?.getD 0 = y at hc hy
            refine wpAnyE_one (i := 8) (by kernel_rfl) rfl (fun Kn hK => ?_)
            go_simp
            refine hK.out _ _ ⟨sc.cb.cell 0, fun _ => trivial⟩ ?_
            clear hK
            refine tkL (i := 9) rfl hS5 ?_
            have s6 := sc.setC i hy.1 hy.2
            have kc := sc.f.k1.cell i (by rw [sc.f.l1]; omega)
            have kf := sc.f.k1.free i
            have kl := sc.f.k1.lt
            refine wpAnyE_one (i := 10) (by kernel_rfl) rfl (fun Kn hK => ?_)
            go_simp
            refine hK.out _ _ ⟨s6.cb.cell 0, fun _ => trivial⟩ ?_
            clear hK
            refine wpAnyE_done (by kernel_rfl) ?_ _
            clear hS5 hc kc kf lb
            have s := s6
            clear s6
            have c0 := s.cb.cell 0
            have c1 := s.cb.cell 1
            have c2 := s.cb.cell 2
            have g0 := s.rb.cell 0
            have g1 := s.rb.cell 1
            have g2 := s.rb.cell 2
            have h0 := s.rb.free 0
            have h1 := s.rb.free 1
            have h2 := s.rb.free 2
            simp only [List.getElem?_cons_zero, List.getElem?_cons_succ] at c0 c1 c2 g0 g1 g2
            have l1 := s.cb.lt
            have l2 := s.rb.lt
            have hf := s.hf
            have b1 := s.f.b1
            have b2 := s.f.b2
            have m1 : ¬ w.heap.size = fb := by omega
            have m2 : ¬ fb = w.heap.size := by omega
            go_wp2
            refine bodyPost_ret (v := formV (some ⟨B1, 0, none⟩) 3 3 (some ⟨B2, 0, none⟩) 2 2 K) (by simp [results, Try.results60, go_sem, g0, g1, g2]) rfl ⟨B1, 3, 3, B2, 2, 2, K, C.set i y, D, q + 1 + 1 + 1 + 1, rfl, ?_⟩
            exact (((FmN.mk s.t s.r (s.f.k1.ints' s.f.l1) (s.f.k2.ints' s.f.l2) (by omega) (by omega) (by omega) (by omega) (by omega) (by omega) (by omega) (by omega)).set (B := w.heap.size) (Nat.le_refl _) (by omega) (by omega) hRl ha 0 _).set (B := w.heap.size) (Nat.le_refl _) (by omega) (by omega) hRl ha 1 _).set (B := w.heap.size) (Nat.le_refl _) (by omega) (by omega) hRl ha 2 _
        · go_simp
          have al := (Below.refl V0.heap.size V0).alloc (Nat.le_refl _) (.cells #[.int .i64 10000001, .int .i64 (-10000001)] 3)
          have lb := Cel.new V0 [.int .i64 10000001, .int .i64 (-10000001)] 3
          have sa := sd.below al
          clear al
          refine hK.out _ _ ⟨sa.cb.cell 0, fun _ => trivial⟩ ?_
          clear hK
          refine wpAnyE_one (i := 3) (by kernel_rfl) rfl (fun Kn hK => ?_)
          go_simp
          refine (pick_any R a n cap bs _ 3 _ sa.r (by omega) (by omega) (by omega) (by omega)).mono ?_
          rintro e wA ⟨ri, r0, r1, rfl, t5, R5⟩
          obtain ⟨i, rfl⟩ := Int.eq_ofNat_of_zero_le r0
          have hi : i < 3 := by omega
          have hi' : (i : Int) < 3 := by omega
          clear r0 r1
          have sb := sa.pick t5 R5
          replace lb := lb.touch t5 (by have h1 := sd.hR; have h2 := sd.t.size; omega)
          clear t5 R5
          dsimp only
          refine hK.out _ _ ⟨sb.cb.cell 0, fun _ => trivial⟩ ?_
          clear hK
          refine wpAnyE_one (i := 6) (by kernel_rfl) rfl (fun Kn hK => ?_)
          go_simp
          refine (pick_any R a n cap bs _ 2 _ sb.r (by omega) (by omega) (by omega) (by omega)).mono ?_
          rintro e wB ⟨rj, r0, r1, rfl, t5, R5⟩
          obtain ⟨j, rfl⟩ := Int.eq_ofNat_of_zero_le r0
          have hj : j < 2 := by omega
          have hj' : (j : Int) < 2 := by omega
          clear r0 r1
          have sc := sb.pick t5 R5
          replace lb := lb.touch t5 (by have h1 := sd.hR; have h2 := sd.t.size; omega)
          clear t5 R5
          dsimp only
          refine hK.out _ _ ⟨sc.cb.cell 0, fun _ => trivial⟩ ?_
          clear hK
          have hS5 : (fun X : World => X.cell? ⟨fb, 0, none⟩ = some (.slice (some ⟨B1, 0, none⟩) 3 3)) wB ∧ True := ⟨sc.cb.cell 0, trivial⟩
          refine tkL (i := 7) rfl hS5 ?_
          have hc := lit_cell (xs := [10000001, -10000001]) lb hj
          have hy := litF_2 j hj
          generalize ([10000001, -10000001] : List Int)[j]?.getD 0 = y at hc hy
          refine wpAnyE_one (i := 8) (by kernel_rfl) rfl (fun Kn hK => ?_)
          go_simp
          refine hK.out _ _ ⟨sc.cb.cell 0, fun _ => trivial⟩ ?_
          clear hK
          refine tkL (i := 9) rfl hS5 ?_
          have s6 := sc.setC i hy.1 hy.2
          have kc := sc.f.k1.cell i (by rw [sc.f.l1]; omega)
          have kf := sc.f.k1.free i
          have kl := sc.f.k1.lt
          refine wpAnyE_one (i := 10) (by kernel_rfl) rfl (fun Kn hK => ?_)
          go_simp
          refine hK.out _ _ ⟨s6.cb.cell 0, fun _ => trivial⟩ ?_
          clear hK
          refine wpAnyE_done (by kernel_rfl) ?_ _
          clear hS5 hc kc kf lb
          have s := s6
          clear s6
          have c0 := s.cb.cell 0
          have c1 := s.cb.cell 1
          have c2 := s.cb.cell 2
          have g0 := s.rb.cell 0
          have g1 := s.rb.cell 1
          have g2 := s.rb.cell 2
          have h0 := s.rb.free 0
          have h1 := s.rb.free 1
          have h2 := s.rb.free 2
          simp only [List.getElem?_cons_zero, List.getElem?_cons_succ] at c0 c1 c2 g0 g1 g2
          have l1 := s.cb.lt
          have l2 := s.rb.lt
          have hf := s.hf
          have b1 := s.f.b1
          have b2 := s.f.b2
          have m1 : ¬ w.heap.size = fb := by omega
          have m2 : ¬ fb = w.heap.size := by omega
          go_wp2
          refine bodyPost_ret (v := formV (some ⟨B1, 0, none⟩) 3 3 (some ⟨B2, 0, none⟩) 2 2 K) (by simp [results, Try.results60, go_sem, g0, g1, g2]) rfl ⟨B1, 3, 3, B2, 2, 2, K, C.set i y, D, q + 1 + 1 + 1 + 1, rfl, ?_⟩
          exact (((FmN.mk s.t s.r (s.f.k1.ints' s.f.l1) (s.f.k2.ints' s.f.l2) (by omega) (by omega) (by omega) (by omega) (by omega) (by omega) (by omega) (by omega)).set (B := w.heap.size) (Nat.le_refl _) (by omega) (by omega) hRl ha 0 _).set (B := w.heap.size) (Nat.le_refl _) (by omega) (by omega) hRl ha 1 _).set (B := w.heap.size) (Nat.le_refl _) (by omega) (by omega) hRl ha 2 _

end Go.Proofs.Ytemcinobgdphnaa
namespace Go.Proofs.Ytemcinobgdphnaa
open Go.RowKit
set_option linter.unusedVariables false

/-- Both lists of a form lie in memory. -/
structure FA (w : World) (a : Option Addr) (n : Nat) (c : Option Addr) (m : Nat) (f : Frm) : Prop where
  C : Ints w a n f.1
  D : Ints w c m f.2.1
  hn : n ≤ 1048576
  hm : m ≤ 1048576
theorem FA.below {w w' : World} {a c : Option Addr} {n m : Nat} {f : Frm} (h : FA w a n c m f) (b : Below w.heap.size w w') : FA w' a n c m f := ⟨h.C.below b, h.D.below b, h.hn, h.hm⟩
/-- A call has made this form. -/
def Mk (w w' : World) (e : Ending) (f : Frm) : Prop := ∃ a n cap c m cap', e = .returned (formV a n cap c m cap' f.2.2) ∧ FA w' a n c m f ∧ Below w.heap.size w w'
theorem Mk.of {w w' : World} {e : Ending} {C D : List Int} {K : Int} (h : Res w w' e C D K) (h1 : C.length ≤ 1048576) (h2 : D.length ≤ 1048576) : Mk w w' e (C, D, K) := by
  obtain ⟨a, n, cap, c, m, cap', B1, B2, he, rfl, rfl, hb, o1, o2, _, _, _⟩ := h
  exact ⟨a, _, cap, c, _, cap', he, ⟨o1.ints, o2.ints, h1, h2⟩, hb⟩

def okP (f : Frm) : Bool := formB f.1.length f.2.1.length f.1 f.2.1 f.2.2
def vOk (V : List Int) : Bool := okN 3 10000 V.length V
def aOk (A : List Int) : Bool := okN 2 9 A.length A
def addB (f g : Frm) : Bool := addOk f.1.length f.2.1.length f.1 f.2.1 f.2.2 g.1.length g.2.1.length g.1 g.2.1 g.2.2
def addP (f g : Frm) : Frm := (keepL (addB f g) (lin f.1 g.1 1), keepL (addB f g) (lin f.2.1 g.2.1 1), keepK (addB f g) (f.2.2 + 1 * g.2.2))
def timB (f : Frm) (k : Int) : Bool := timOk f.1.length f.2.1.length f.1 f.2.1 f.2.2 k
def timP (f : Frm) (k : Int) : Frm := (keepL (timB f k) (mulL k f.1), keepL (timB f k) (mulL k f.2.1), keepK (timB f k) (k * f.2.2))
def atB (f : Frm) (V A : List Int) : Bool := atOk f.1.length f.2.1.length V.length A.length f.1 f.2.1 f.2.2 V A
def atP (f : Frm) (V A : List Int) : Int := atN f.1.length f.2.1.length V.length A.length f.1 f.2.1 f.2.2 V A
def potP (v : Int) : Frm := (potC v, potD v, 0)
def zeroP : Frm := ([0, 0, 0], [0, 0], 0)
def coP (f g : Frm) : Bool := eqF f.1 f.2.1 f.2.2 g.1 g.2.1 g.2.2
theorem coP_same (f : Frm) : coP f f = true := eqF_refl _ _ _
theorem coP_of {f g : Frm} (h : f = g) : coP f g = true := h ▸ coP_same f
theorem lin_le {xs ys : List Int} {n : Int} {N : Nat} (h : xs.length ≤ N) : (lin xs ys n).length ≤ N := by simp only [lin, List.length_zipWith]; omega

theorem pAdd (f g : Frm) (a : Option Addr) (n cap : Nat) (c : Option Addr) (m cap' : Nat) (a2 : Option Addr) (n2 cap2 : Nat) (c2 : Option Addr) (m2 cap2' : Nat) (w : World) (hf : FA w a n c m f) (hg : FA w a2 n2 c2 m2 g) :
    Calls Try.prog 108 #[formV a n cap c m cap' f.2.2, formV a2 n2 cap2 c2 m2 cap2' g.2.2] w fun e w' => Mk w w' e (addP f g) := by
  obtain rfl := hf.C.1
  obtain rfl := hf.D.1
  obtain rfl := hg.C.1
  obtain rfl := hg.D.1
  exact (iadd_any a _ cap c _ cap' f.2.2 f.1 f.2.1 a2 _ cap2 c2 _ cap2' g.2.2 g.1 g.2.1 w hf.C hf.D hg.C hg.D hf.hn hf.hm hg.hn hg.hm).mono fun e w' h => Mk.of h (keepL_len (lin_le hf.hn)) (keepL_len (lin_le hf.hm))

theorem pTim (f : Frm) (k : Int) (a : Option Addr) (n cap : Nat) (c : Option Addr) (m cap' : Nat) (w : World) (hf : FA w a n c m f) :
    Calls Try.prog 109 #[formV a n cap c m cap' f.2.2, .int .i64 k] w fun e w' => Mk w w' e (timP f k) := by
  obtain rfl := hf.C.1
  obtain rfl := hf.D.1
  exact (itim_any a _ cap c _ cap' f.2.2 f.1 f.2.1 k w hf.C hf.D hf.hn hf.hm).mono fun e w' h => Mk.of h (keepL_len (by rw [mulL_len]; exact hf.hn)) (keepL_len (by rw [mulL_len]; exact hf.hm))

theorem pAt (f : Frm) (V A : List Int) (a : Option Addr) (n cap : Nat) (c : Option Addr) (m cap' : Nat) (v : Option Addr) (p cv : Nat) (u : Option Addr) (q cu : Nat) (w : World) (hf : FA w a n c m f) (hV : Ints w v p V) (hA : Ints w u q A) (hp : p ≤ 1048576) (hq : q ≤ 1048576) :
    Calls Try.prog 10 #[formV a n cap c m cap' f.2.2, .slice v p cv, .slice u q cu] w fun e w' => e = .returned (.tuple #[.int .i64 (atP f V A), .bool (atB f V A)]) ∧ Below w.heap.size w w' := by
  obtain rfl := hf.C.1
  obtain rfl := hf.D.1
  obtain rfl := hV.1
  obtain rfl := hA.1
  exact ifat_any a _ cap c _ cap' f.2.2 f.1 f.2.1 v _ cv u _ cu V A w hf.C hf.D hV hA hf.hn hf.hm hp hq

theorem pZero (w : World) : Calls Try.prog 46 #[] w fun e w' => Mk w w' e zeroP := (izero_res w).mono fun e w' h => Mk.of h (by simp) (by simp)

theorem pPot (v : Int) (w : World) : Calls Try.prog 70 #[.int .i64 v] w fun e w' => Mk w w' e (potP v) := (ipot_any v w).mono fun e w' h => Mk.of h (potC_len v) (potD_len v)

theorem qPot (v : Int) (w : World) : Calls Try.prog 74 #[.int .i64 v] w fun e w' => Mk w w' e (potP v) := (spot_any v w).mono fun e w' h => Mk.of h (potC_len v) (potD_len v)

theorem qOk (f : Frm) (a : Option Addr) (n cap : Nat) (c : Option Addr) (m cap' : Nat) (w : World) (hf : FA w a n c m f) :
    Calls Try.prog 64 #[formV a n cap c m cap' f.2.2] w fun e w' => e = .returned (.bool (okP f)) ∧ Below w.heap.size w w' := by
  obtain rfl := hf.C.1
  obtain rfl := hf.D.1
  exact sok_any a _ cap c _ cap' f.2.2 f.1 f.2.1 w hf.C hf.D hf.hn hf.hm

theorem pOk (f : Frm) (a : Option Addr) (n cap : Nat) (c : Option Addr) (m cap' : Nat) (w : World) (hf : FA w a n c m f) :
    Calls Try.prog 45 #[formV a n cap c m cap' f.2.2] w fun e w' => e = .returned (.bool (okP f)) ∧ Below w.heap.size w w' := by
  obtain rfl := hf.C.1
  obtain rfl := hf.D.1
  go_enter Try.func45, Try.ntmps45
  go_wp2_with fail
  refine (iok_any a _ cap c _ cap' f.2.2 f.1 f.2.1 _ (hf.C.alloc _) (hf.D.alloc _) hf.hn hf.hm).mono ?_
  rintro e w1 ⟨rfl, b1⟩
  go_wp2
  go_ret
  exact ⟨rfl, ((Below.refl _ _).alloc (Nat.le_refl _) _).trans (b1.mono (by simp))⟩

set_option maxHeartbeats 400000 in
theorem coI_any (a c : Option Addr) (n m cap cap' : Nat) (xs ys : List Int) (w : World) (h : Ints w a n xs) (h' : Ints w c m ys) (hn : n ≤ 1048576) (hm : m ≤ 1048576) :
    Calls Try.prog 18 #[.slice a n cap, .slice c m cap'] w fun e w' => e = .returned (.bool (eqB xs ys)) ∧ Below w.heap.size w w' := by
  have hx := h.1
  have HX : Hid (xs.length = n) := hx
  have hy := h'.1
  have HY : Hid (ys.length = m) := hy
  clear hx hy
  by_cases hc : n = m
  · subst hc
    go_enter Try.func18, Try.ntmps18
    go_wp2_with fail
    go_loopw [5] (fun i wr => ∃ k : Nat, k ≤ n ∧ i = .int .i64 k ∧ Below w.heap.size w wr ∧ xs.take k = ys.take k) (fun i _ => n - (intOf i).toNat)
    case atStart => exact ⟨0, Nat.zero_le _, rfl, Below.refl _ _, rfl⟩
    case round =>
      obtain ⟨k, hk, rfl, hnx, hall⟩ := hrel
      have HA : Hid (xs.take k = ys.take k) := hall
      clear hall
      by_cases hlt : k < n
      · obtain ⟨b, off, rfl, hcell⟩ := (h.below hnx).pos (by omega)
        obtain ⟨b', off', rfl, hcell'⟩ := (h'.below hnx).pos (by omega)
        have hck := hcell k hlt
        have hck' := hcell' k hlt
        have hlt' : (k : Int) < (n : Int) := by omega
        clear hcell hcell' h h'
        go_wp2_with fail
        go_quiet (fail)
        cases he : (xs[k]?.getD 0 != ys[k]?.getD 0)
        · go_wp2
          go_roundw
          case rel => exact ⟨k + 1, by omega, by go_num, below_drewN hnx _, take_same_succ (by rw [HX.out]; exact hlt) (by rw [HY.out]; exact hlt) HA.out (by simpa using he)⟩
          case measure => simp [intOf]; omega
        · go_wp2
          go_ret
          exact ⟨ret_bool (by rw [eqB_false (k := k) (by simpa using he)]), below_drewN hnx _⟩
      · go_wp2
        go_ret
        exact ⟨ret_bool (by rw [eqB_true HX.out HY.out (by omega) HA.out]), hnx⟩
  · have hne : ((n : Int) != (m : Int)) = true := by simp; omega
    go_enter Try.func18, Try.ntmps18
    go_wp2
    go_ret
    exact ⟨ret_bool (by rw [eqB_len (by rw [HX.out, HY.out]; exact hc)]), Below.refl _ _⟩

/-- Zero is ok: what every program of this kind says. -/
theorem coHolds_any (w : World) : Calls Try.prog 19 #[] w fun e w' => e = .returned (.bool true) ∧ Below w.heap.size w w' := by
  go_enter Try.func19, Try.ntmps19
  go_wp2_with fail
  refine (pZero _).mono ?_
  rintro e w1 ⟨a, n, cap, c, m, cap', rfl, h1, b1⟩
  go_wp2_with fail
  refine (pOk zeroP _ _ _ _ _ _ _ h1).mono ?_
  rintro e w2 ⟨rfl, b2⟩
  have hz : okP zeroP = true := by decide
  rw [hz]
  go_wp2
  go_ret
  exact ⟨rfl, b1.trans (b2.mono b1.size)⟩

end Go.Proofs.Ytemcinobgdphnaa
namespace Go.Proofs.Ytemcinobgdphnaa
open Go.RowKit
set_option linter.unusedVariables false
set_option maxRecDepth 100000

theorem Rd.ha {w : World} {R : Nat} {a : Option Addr} {n cap : Nat} {bs : List Int} {p : Int} (h : Rd w R a n cap bs p) : 0 < n → ∀ b o, a = some ⟨b, o, none⟩ → b < w.heap.size := fun h0 b o hab => by
  obtain ⟨b', o', hab', hcc⟩ := h.b.2.1 0 h0
  rw [hab] at hab'
  simp only [Option.some.injEq, Addr.mk.injEq, and_true] at hab'
  have := block_lt hcc
  omega
theorem Ints.off {S : Nat → Prop} {w w' : World} {a : Option Addr} {n : Nat} {zs : List Int} (h : Ints w a n zs) (t : Touch S w w') (hS : ∀ b o, a = some ⟨b, o, none⟩ → ¬ S b) : Ints w' a n zs := by
  refine ⟨h.1, fun i hi => ?_⟩
  obtain ⟨b, off, hab, hc⟩ := h.2 i hi
  exact ⟨b, off, hab, (World.cell?_of_block (t.block b (block_lt hc) (hS b off hab))).trans hc⟩
theorem FA.off {S : Nat → Prop} {w w' : World} {a c : Option Addr} {n m : Nat} {f : Frm} (h : FA w a n c m f) (t : Touch S w w') (h1 : ∀ b o, a = some ⟨b, o, none⟩ → ¬ S b) (h2 : ∀ b o, c = some ⟨b, o, none⟩ → ¬ S b) : FA w' a n c m f := ⟨h.C.off t h1, h.D.off t h2, h.hn, h.hm⟩
theorem FmN.fa {w W : World} {R : Nat} {a : Option Addr} {n cap : Nat} {bs : List Int} {p q : Int} {B1 nC B2 nD : Nat} {C D : List Int} (h : FmN w W R a n cap bs p q B1 nC B2 nD C D) (K : Int) : FA W (some ⟨B1, 0, none⟩) nC (some ⟨B2, 0, none⟩) nD (C, D, K) := ⟨h.c, h.d, by have := h.c4; omega, by have := h.d4; omega⟩
/-- A form that lies past a place. -/
theorem FA.far {S : Nat → Prop} {w w' : World} {B1 B2 n m lo : Nat} {f : Frm} (h : FA w (some ⟨B1, 0, none⟩) n (some ⟨B2, 0, none⟩) m f) (t : Touch S w w') (hS : ∀ k, S k → k < lo) (h1 : lo ≤ B1) (h2 : lo ≤ B2) : FA w' (some ⟨B1, 0, none⟩) n (some ⟨B2, 0, none⟩) m f :=
  h.off t (fun b o e hs => by simp only [Option.some.injEq, Addr.mk.injEq] at e; have := hS b hs; omega) (fun b o e hs => by simp only [Option.some.injEq, Addr.mk.injEq] at e; have := hS b hs; omega)
theorem FA.setFar {w : World} {B1 B2 n m X : Nat} {f : Frm} (h : FA w (some ⟨B1, 0, none⟩) n (some ⟨B2, 0, none⟩) m f) (h1 : B1 ≠ X) (h2 : B2 ≠ X) (i : Nat) (v : Value) : FA (w.setCell ⟨X, i, none⟩ v) (some ⟨B1, 0, none⟩) n (some ⟨B2, 0, none⟩) m f :=
  ⟨h.C.setFar (fun b o e => by simp only [Option.some.injEq, Addr.mk.injEq] at e; omega) i v, h.D.setFar (fun b o e => by simp only [Option.some.injEq, Addr.mk.injEq] at e; omega) i v, h.hn, h.hm⟩

end Go.Proofs.Ytemcinobgdphnaa
namespace Go.Proofs.Ytemcinobgdphnaa
open Go.RowKit
set_option linter.unusedVariables false
set_option maxRecDepth 100000

/-- A line as a value. -/
abbrev lnV (l : LV) : Value := .agg #[.int .i64 l.kind, .int .i64 l.pot, .int .i64 l.skip, .slice l.f.a l.f.n l.f.cap, .slice l.f.c l.f.m l.f.cap', .int .i64 l.f.K]
theorem allB_of {m : Int} {zs : List Int} (h : bnd m zs) : allB m zs = true := by
  unfold allB
  rw [List.all_eq_true]
  intro x hx
  obtain ⟨i, hi, rfl⟩ := List.getElem_of_mem hx
  have := h i
  rw [List.getElem?_eq_getElem hi] at this
  exact inB_iff.2 this
theorem small_of {C D : List Int} {K : Int} (hC : bnd 2 C) (hD : bnd 2 D) (h1 : -20 ≤ K) (h2 : K ≤ 20) : smallB 3 2 C D K = true := by
  unfold smallB okN
  rw [allB_of hC, allB_of hD, inB_iff.2 ⟨h1, h2⟩]
  rfl
theorem lok1 {n m : Nat} {C D : List Int} {K skip : Int} (h : smallB n m C D K = true) (h1 : 1 ≤ skip) (h2 : skip ≤ 6) : lineB 1 0 skip n m C D K = true := by
  unfold lineB
  rw [if_pos rfl, h, inB_iff.2 ⟨h1, h2⟩]
  rfl
theorem lok2 {n m : Nat} {C D : List Int} {K pot : Int} (h : smallB n m C D K = true) (h1 : 0 ≤ pot) (h2 : pot ≤ 2) : lineB 2 pot 0 n m C D K = true := by
  unfold lineB
  rw [if_neg (by decide), if_pos rfl, h, inB_iff.2 ⟨h1, h2⟩]
  rfl
theorem lok3 {n m : Nat} {C D : List Int} {K : Int} (h : smallB n m C D K = true) : lineB 3 0 0 n m C D K = true := by
  unfold lineB
  rw [if_neg (by decide), if_neg (by decide), if_pos rfl, h]
  rfl
theorem Ints.blk {W : World} {B o n : Nat} {zs : List Int} (h : Ints W (some ⟨B, o, none⟩) n zs) (hn : 0 < n) : B < W.heap.size := by
  obtain ⟨b, off, e, hc⟩ := h.2 0 hn
  simp only [Option.some.injEq, Addr.mk.injEq] at e
  have := block_lt hc
  omega
/-- A line was drawn: it is ok, its lists lie in new memory, the reader has gone on. -/
structure LnN (w w' : World) (R : Nat) (a : Option Addr) (n cap : Nat) (bs : List Int) (p q : Int) (l : LV) : Prop where
  t : Touch (fun x => x = R) w w'
  r : Rd w' R a n cap bs q
  at' : l.f.At w'
  la : ∀ b o, l.f.a = some ⟨b, o, none⟩ → w.heap.size ≤ b ∧ b < w'.heap.size
  lc : ∀ b o, l.f.c = some ⟨b, o, none⟩ → w.heap.size ≤ b ∧ b < w'.heap.size
  ok : l.ok = true
  q0 : p ≤ q
  q1 : q ≤ p + 12

set_option maxHeartbeats 12800000 in
theorem line_f (R : Nat) (a : Option Addr) (n cap : Nat) (bs : List Int) (p : Int) (w : World) (rd : Rd w R a n cap bs p) (hp : 0 ≤ p) (hp1 : p ≤ 8000000) (ha : 0 < n → ∀ b o, a = some ⟨b, o, none⟩ → b < w.heap.size) :
    Calls Try.prog 85 #[.pointer (some ⟨R, 0, none⟩)] w fun e w' => ∃ l q, e = .returned (lnV l) ∧ LnN w w' R a n cap bs p q l := by
  have hRl := rd.c.lt
  have ha0 := ha
  have q0 := Cel.new w [.int .i64 0, .int .i64 0, .int .i64 0, .slice none 0 0, .slice none 0 0, .int .i64 0] 51
  have al := (Below.refl w.heap.size w).alloc (Nat.le_refl _) (.cells #[.int .i64 0, .int .i64 0, .int .i64 0, .slice none 0 0, .slice none 0 0, .int .i64 0] 51)
  have nq0 : w.heap.size ≠ R := by omega
  have TT : Touch (fun x => x = R) w (w.alloc (.cells #[.int .i64 0, .int .i64 0, .int .i64 0, .slice none 0 0, .slice none 0 0, .int .i64 0] 51)) := Touch.of al
  replace rd := rd.below al
  clear al
  go_enter Try.func85, Try.ntmps85
  go_wp2_with fail
  obtain ⟨W2, hW2⟩ : ∃ W, W = (w.alloc (.cells #[.int .i64 0, .int .i64 0, .int .i64 0, .slice none 0 0, .slice none 0 0, .int .i64 0] 51)) := ⟨_, rfl⟩
  rw [← hW2]
  rw [← hW2] at TT rd q0
  clear hW2
  refine (pick_any R a n cap bs (p) 7 _ rd (by omega) (by omega) (by omega) (by omega)).mono ?_
  rintro e w3 ⟨rj, hj0, hj1, rfl, t5, R5⟩
  obtain ⟨j, rfl⟩ := Int.eq_ofNat_of_zero_le hj0
  clear hj0
  replace q0 := q0.touch t5 nq0
  replace TT := TT.trans t5
  replace rd := R5
  clear t5 R5
  rcases (show j = 0 ∨ j = 1 ∨ j = 2 ∨ j = 3 ∨ j = 4 ∨ j = 5 ∨ j = 6 from by omega) with rfl | rfl | rfl | rfl | rfl | rfl | rfl
  · go_wp2_with fail
    refine (pick_any R a n cap bs (p + 1) 3 _ rd (by omega) (by omega) (by omega) (by omega)).mono ?_
    rintro e w4 ⟨ri, hi0, hi1, rfl, t5, R5⟩
    obtain ⟨i, rfl⟩ := Int.eq_ofNat_of_zero_le hi0
    clear hi0
    replace q0 := q0.touch t5 nq0
    replace TT := TT.trans t5
    replace rd := R5
    clear t5 R5
    go_wp2_with fail
    have xA := q0.lt
    refine (small_f R a n cap bs (p + 1 + 1) _ rd (by omega) (by omega) rd.ha).mono ?_
    rintro e w5 ⟨BA, DA, LCA, LDA, KA, rfl, t5, R5, f5, sCA, sDA, sKA1, sKA2⟩
    have zA1 : w.heap.size ≤ BA := Nat.le_trans TT.size f5.b1
    have zA2 : w.heap.size ≤ DA := Nat.le_trans TT.size f5.b2
    have lCA := f5.l1
    have lDA := f5.l2
    have GA : FA w5 (some ⟨BA, 0, none⟩) 3 (some ⟨DA, 0, none⟩) 2 (LCA, LDA, KA) := ⟨f5.k1.ints' f5.l1, f5.k2.ints' f5.l2, by omega, by omega⟩
    have ltCA := f5.k1.lt
    have ltDA := f5.k2.lt
    have nCDA := f5.ne
    have yA1 := f5.b1
    have yA2 := f5.b2
    clear f5
    replace q0 := q0.touch t5 nq0
    replace TT := TT.trans t5
    replace rd := R5
    clear t5 R5
    have gq0_0 := q0.cell 0
    have gq0_1 := q0.cell 1
    have gq0_2 := q0.cell 2
    have gq0_3 := q0.cell 3
    have gq0_4 := q0.cell 4
    have gq0_5 := q0.cell 5
    simp only [List.getElem?_cons_zero, List.getElem?_cons_succ] at gq0_0 gq0_1 gq0_2 gq0_3 gq0_4 gq0_5
    have fq0_0 := q0.free 0
    have fq0_1 := q0.free 1
    have fq0_2 := q0.free 2
    have fq0_3 := q0.free 3
    have fq0_4 := q0.free 4
    have fq0_5 := q0.free 5
    have lq0 := q0.lt
    go_wp2
    clear gq0_0 gq0_1 gq0_2 gq0_3 gq0_4 gq0_5 fq0_0 fq0_1 fq0_2 fq0_3 fq0_4 fq0_5 lq0
    have hwt := TT.size
    have hlq := q0.lt
    replace q0 := q0.set 0 (.int .i64 1)
    replace GA := GA.setFar (X := w.heap.size) (by omega) (by omega) 0 (.int .i64 1)
    replace rd := rd.setNew (B := w.heap.size) (by omega) (fun h0 b o e => by have := ha0 h0 b o e; omega) 0 (.int .i64 1)
    replace TT := TT.setNewF (B := w.heap.size) (by omega) 0 (.int .i64 1)
    replace q0 := q0.set 1 (.int .i64 0)
    replace GA := GA.setFar (X := w.heap.size) (by omega) (by omega) 1 (.int .i64 0)
    replace rd := rd.setNew (B := w.heap.size) (by omega) (fun h0 b o e => by have := ha0 h0 b o e; omega) 1 (.int .i64 0)
    replace TT := TT.setNewF (B := w.heap.size) (by omega) 1 (.int .i64 0)
    replace q0 := q0.set 2 (.int .i64 (1 + (i : Int)))
    replace GA := GA.setFar (X := w.heap.size) (by omega) (by omega) 2 (.int .i64 (1 + (i : Int)))
    replace rd := rd.setNew (B := w.heap.size) (by omega) (fun h0 b o e => by have := ha0 h0 b o e; omega) 2 (.int .i64 (1 + (i : Int)))
    replace TT := TT.setNewF (B := w.heap.size) (by omega) 2 (.int .i64 (1 + (i : Int)))
    replace q0 := q0.set 3 (.slice (some ⟨BA, 0, none⟩) 3 3)
    replace GA := GA.setFar (X := w.heap.size) (by omega) (by omega) 3 (.slice (some ⟨BA, 0, none⟩) 3 3)
    replace rd := rd.setNew (B := w.heap.size) (by omega) (fun h0 b o e => by have := ha0 h0 b o e; omega) 3 (.slice (some ⟨BA, 0, none⟩) 3 3)
    replace TT := TT.setNewF (B := w.heap.size) (by omega) 3 (.slice (some ⟨BA, 0, none⟩) 3 3)
    replace q0 := q0.set 4 (.slice (some ⟨DA, 0, none⟩) 2 2)
    replace GA := GA.setFar (X := w.heap.size) (by omega) (by omega) 4 (.slice (some ⟨DA, 0, none⟩) 2 2)
    replace rd := rd.setNew (B := w.heap.size) (by omega) (fun h0 b o e => by have := ha0 h0 b o e; omega) 4 (.slice (some ⟨DA, 0, none⟩) 2 2)
    replace TT := TT.setNewF (B := w.heap.size) (by omega) 4 (.slice (some ⟨DA, 0, none⟩) 2 2)
    replace q0 := q0.set 5 (.int .i64 KA)
    replace GA := GA.setFar (X := w.heap.size) (by omega) (by omega) 5 (.int .i64 KA)
    replace rd := rd.setNew (B := w.heap.size) (by omega) (fun h0 b o e => by have := ha0 h0 b o e; omega) 5 (.int .i64 KA)
    replace TT := TT.setNewF (B := w.heap.size) (by omega) 5 (.int .i64 KA)
    obtain ⟨W6, hW6⟩ : ∃ W, W = ((((((w5.setCell ⟨w.heap.size, 0, none⟩ (.int .i64 1)).setCell ⟨w.heap.size, 1, none⟩ (.int .i64 0)).setCell ⟨w.heap.size, 2, none⟩ (.int .i64 (1 + (i : Int)))).setCell ⟨w.heap.size, 3, none⟩ (.slice (some ⟨BA, 0, none⟩) 3 3)).setCell ⟨w.heap.size, 4, none⟩ (.slice (some ⟨DA, 0, none⟩) 2 2)).setCell ⟨w.heap.size, 5, none⟩ (.int .i64 KA)) := ⟨_, rfl⟩
    rw [← hW6]
    rw [← hW6] at TT rd q0 GA
    clear hW6
    have hws := TT.size
    have u0 : W6.cell? ⟨w.heap.size, 0, none⟩ = some (.int .i64 1) := q0.cell 0
    have u1 : W6.cell? ⟨w.heap.size, 1, none⟩ = some (.int .i64 0) := q0.cell 1
    have u2 : W6.cell? ⟨w.heap.size, 2, none⟩ = some (.int .i64 (1 + (i : Int))) := q0.cell 2
    have u3 : W6.cell? ⟨w.heap.size, 3, none⟩ = some (.slice (some ⟨BA, 0, none⟩) 3 3) := q0.cell 3
    have u4 : W6.cell? ⟨w.heap.size, 4, none⟩ = some (.slice (some ⟨DA, 0, none⟩) 2 2) := q0.cell 4
    have u5 : W6.cell? ⟨w.heap.size, 5, none⟩ = some (.int .i64 KA) := q0.cell 5
    refine bodyPost_ret (v := lnV ⟨1, 0, (1 + (i : Int)), ⟨some ⟨BA, 0, none⟩, 3, 3, some ⟨DA, 0, none⟩, 2, 2, KA, LCA, LDA⟩⟩) (by simp [results, Try.results85, go_sem, u0, u1, u2, u3, u4, u5]) rfl ⟨⟨1, 0, (1 + (i : Int)), ⟨some ⟨BA, 0, none⟩, 3, 3, some ⟨DA, 0, none⟩, 2, 2, KA, LCA, LDA⟩⟩, _, rfl, ⟨TT, rd, ⟨GA.C, GA.D, by simp only []; omega, by simp only []; omega⟩, fun b o e => by simp only [Option.some.injEq, Addr.mk.injEq] at e; have hb := GA.C.blk (by omega); omega, fun b o e => by simp only [Option.some.injEq, Addr.mk.injEq] at e; have hb := GA.D.blk (by omega); omega, lok1 (skip := 1 + (i : Int)) (small_of sCA sDA sKA1 sKA2) (by omega) (by omega), by omega, by omega⟩⟩
  · go_wp2_with fail
    refine (pick_any R a n cap bs (p + 1) 3 _ rd (by omega) (by omega) (by omega) (by omega)).mono ?_
    rintro e w4 ⟨ri, hi0, hi1, rfl, t5, R5⟩
    obtain ⟨i, rfl⟩ := Int.eq_ofNat_of_zero_le hi0
    clear hi0
    replace q0 := q0.touch t5 nq0
    replace TT := TT.trans t5
    replace rd := R5
    clear t5 R5
    go_wp2_with fail
    have xA := q0.lt
    refine (small_f R a n cap bs (p + 1 + 1) _ rd (by omega) (by omega) rd.ha).mono ?_
    rintro e w5 ⟨BA, DA, LCA, LDA, KA, rfl, t5, R5, f5, sCA, sDA, sKA1, sKA2⟩
    have zA1 : w.heap.size ≤ BA := Nat.le_trans TT.size f5.b1
    have zA2 : w.heap.size ≤ DA := Nat.le_trans TT.size f5.b2
    have lCA := f5.l1
    have lDA := f5.l2
    have GA : FA w5 (some ⟨BA, 0, none⟩) 3 (some ⟨DA, 0, none⟩) 2 (LCA, LDA, KA) := ⟨f5.k1.ints' f5.l1, f5.k2.ints' f5.l2, by omega, by omega⟩
    have ltCA := f5.k1.lt
    have ltDA := f5.k2.lt
    have nCDA := f5.ne
    have yA1 := f5.b1
    have yA2 := f5.b2
    clear f5
    replace q0 := q0.touch t5 nq0
    replace TT := TT.trans t5
    replace rd := R5
    clear t5 R5
    have gq0_0 := q0.cell 0
    have gq0_1 := q0.cell 1
    have gq0_2 := q0.cell 2
    have gq0_3 := q0.cell 3
    have gq0_4 := q0.cell 4
    have gq0_5 := q0.cell 5
    simp only [List.getElem?_cons_zero, List.getElem?_cons_succ] at gq0_0 gq0_1 gq0_2 gq0_3 gq0_4 gq0_5
    have fq0_0 := q0.free 0
    have fq0_1 := q0.free 1
    have fq0_2 := q0.free 2
    have fq0_3 := q0.free 3
    have fq0_4 := q0.free 4
    have fq0_5 := q0.free 5
    have lq0 := q0.lt
    go_wp2
    clear gq0_0 gq0_1 gq0_2 gq0_3 gq0_4 gq0_5 fq0_0 fq0_1 fq0_2 fq0_3 fq0_4 fq0_5 lq0
    have hwt := TT.size
    have hlq := q0.lt
    replace q0 := q0.set 0 (.int .i64 1)
    replace GA := GA.setFar (X := w.heap.size) (by omega) (by omega) 0 (.int .i64 1)
    replace rd := rd.setNew (B := w.heap.size) (by omega) (fun h0 b o e => by have := ha0 h0 b o e; omega) 0 (.int .i64 1)
    replace TT := TT.setNewF (B := w.heap.size) (by omega) 0 (.int .i64 1)
    replace q0 := q0.set 1 (.int .i64 0)
    replace GA := GA.setFar (X := w.heap.size) (by omega) (by omega) 1 (.int .i64 0)
    replace rd := rd.setNew (B := w.heap.size) (by omega) (fun h0 b o e => by have := ha0 h0 b o e; omega) 1 (.int .i64 0)
    replace TT := TT.setNewF (B := w.heap.size) (by omega) 1 (.int .i64 0)
    replace q0 := q0.set 2 (.int .i64 (1 + (i : Int)))
    replace GA := GA.setFar (X := w.heap.size) (by omega) (by omega) 2 (.int .i64 (1 + (i : Int)))
    replace rd := rd.setNew (B := w.heap.size) (by omega) (fun h0 b o e => by have := ha0 h0 b o e; omega) 2 (.int .i64 (1 + (i : Int)))
    replace TT := TT.setNewF (B := w.heap.size) (by omega) 2 (.int .i64 (1 + (i : Int)))
    replace q0 := q0.set 3 (.slice (some ⟨BA, 0, none⟩) 3 3)
    replace GA := GA.setFar (X := w.heap.size) (by omega) (by omega) 3 (.slice (some ⟨BA, 0, none⟩) 3 3)
    replace rd := rd.setNew (B := w.heap.size) (by omega) (fun h0 b o e => by have := ha0 h0 b o e; omega) 3 (.slice (some ⟨BA, 0, none⟩) 3 3)
    replace TT := TT.setNewF (B := w.heap.size) (by omega) 3 (.slice (some ⟨BA, 0, none⟩) 3 3)
    replace q0 := q0.set 4 (.slice (some ⟨DA, 0, none⟩) 2 2)
    replace GA := GA.setFar (X := w.heap.size) (by omega) (by omega) 4 (.slice (some ⟨DA, 0, none⟩) 2 2)
    replace rd := rd.setNew (B := w.heap.size) (by omega) (fun h0 b o e => by have := ha0 h0 b o e; omega) 4 (.slice (some ⟨DA, 0, none⟩) 2 2)
    replace TT := TT.setNewF (B := w.heap.size) (by omega) 4 (.slice (some ⟨DA, 0, none⟩) 2 2)
    replace q0 := q0.set 5 (.int .i64 KA)
    replace GA := GA.setFar (X := w.heap.size) (by omega) (by omega) 5 (.int .i64 KA)
    replace rd := rd.setNew (B := w.heap.size) (by omega) (fun h0 b o e => by have := ha0 h0 b o e; omega) 5 (.int .i64 KA)
    replace TT := TT.setNewF (B := w.heap.size) (by omega) 5 (.int .i64 KA)
    obtain ⟨W6, hW6⟩ : ∃ W, W = ((((((w5.setCell ⟨w.heap.size, 0, none⟩ (.int .i64 1)).setCell ⟨w.heap.size, 1, none⟩ (.int .i64 0)).setCell ⟨w.heap.size, 2, none⟩ (.int .i64 (1 + (i : Int)))).setCell ⟨w.heap.size, 3, none⟩ (.slice (some ⟨BA, 0, none⟩) 3 3)).setCell ⟨w.heap.size, 4, none⟩ (.slice (some ⟨DA, 0, none⟩) 2 2)).setCell ⟨w.heap.size, 5, none⟩ (.int .i64 KA)) := ⟨_, rfl⟩
    rw [← hW6]
    rw [← hW6] at TT rd q0 GA
    clear hW6
    have hws := TT.size
    have u0 : W6.cell? ⟨w.heap.size, 0, none⟩ = some (.int .i64 1) := q0.cell 0
    have u1 : W6.cell? ⟨w.heap.size, 1, none⟩ = some (.int .i64 0) := q0.cell 1
    have u2 : W6.cell? ⟨w.heap.size, 2, none⟩ = some (.int .i64 (1 + (i : Int))) := q0.cell 2
    have u3 : W6.cell? ⟨w.heap.size, 3, none⟩ = some (.slice (some ⟨BA, 0, none⟩) 3 3) := q0.cell 3
    have u4 : W6.cell? ⟨w.heap.size, 4, none⟩ = some (.slice (some ⟨DA, 0, none⟩) 2 2) := q0.cell 4
    have u5 : W6.cell? ⟨w.heap.size, 5, none⟩ = some (.int .i64 KA) := q0.cell 5
    refine bodyPost_ret (v := lnV ⟨1, 0, (1 + (i : Int)), ⟨some ⟨BA, 0, none⟩, 3, 3, some ⟨DA, 0, none⟩, 2, 2, KA, LCA, LDA⟩⟩) (by simp [results, Try.results85, go_sem, u0, u1, u2, u3, u4, u5]) rfl ⟨⟨1, 0, (1 + (i : Int)), ⟨some ⟨BA, 0, none⟩, 3, 3, some ⟨DA, 0, none⟩, 2, 2, KA, LCA, LDA⟩⟩, _, rfl, ⟨TT, rd, ⟨GA.C, GA.D, by simp only []; omega, by simp only []; omega⟩, fun b o e => by simp only [Option.some.injEq, Addr.mk.injEq] at e; have hb := GA.C.blk (by omega); omega, fun b o e => by simp only [Option.some.injEq, Addr.mk.injEq] at e; have hb := GA.D.blk (by omega); omega, lok1 (skip := 1 + (i : Int)) (small_of sCA sDA sKA1 sKA2) (by omega) (by omega), by omega, by omega⟩⟩
  · go_wp2_with fail
    have xA := q0.lt
    refine (small_f R a n cap bs (p + 1) _ rd (by omega) (by omega) rd.ha).mono ?_
    rintro e w4 ⟨BA, DA, LCA, LDA, KA, rfl, t5, R5, f5, sCA, sDA, sKA1, sKA2⟩
    have zA1 : w.heap.size ≤ BA := Nat.le_trans TT.size f5.b1
    have zA2 : w.heap.size ≤ DA := Nat.le_trans TT.size f5.b2
    have lCA := f5.l1
    have lDA := f5.l2
    have GA : FA w4 (some ⟨BA, 0, none⟩) 3 (some ⟨DA, 0, none⟩) 2 (LCA, LDA, KA) := ⟨f5.k1.ints' f5.l1, f5.k2.ints' f5.l2, by omega, by omega⟩
    have ltCA := f5.k1.lt
    have ltDA := f5.k2.lt
    have nCDA := f5.ne
    have yA1 := f5.b1
    have yA2 := f5.b2
    clear f5
    replace q0 := q0.touch t5 nq0
    replace TT := TT.trans t5
    replace rd := R5
    clear t5 R5
    have hwt := TT.size
    have hlq := q0.lt
    have al := (Below.refl w4.heap.size w4).alloc (Nat.le_refl _) (.cells #[.slice (some ⟨BA, 0, none⟩) 3 3, .slice (some ⟨DA, 0, none⟩) 2 2, .int .i64 KA] 34)
    have qf := Cel.new w4 [.slice (some ⟨BA, 0, none⟩) 3 3, .slice (some ⟨DA, 0, none⟩) 2 2, .int .i64 KA] 34
    replace q0 := q0.below al
    replace GA := GA.below al
    replace TT := TT.trans (Touch.of al)
    replace rd := rd.below al
    clear al
    go_wp2_with fail
    obtain ⟨W5, hW5⟩ : ∃ W, W = (w4.alloc (.cells #[.slice (some ⟨BA, 0, none⟩) 3 3, .slice (some ⟨DA, 0, none⟩) 2 2, .int .i64 KA] 34)) := ⟨_, rfl⟩
    rw [← hW5]
    rw [← hW5] at TT rd q0 GA qf
    clear hW5
    obtain ⟨XF, hXF⟩ : ∃ x, x = w4.heap.size := ⟨_, rfl⟩
    rw [← hXF]
    rw [← hXF] at qf hwt
    have nqf : XF ≠ R := by omega
    have hXw : w.heap.size < XF := by omega
    have nXB : BA ≠ XF := by omega
    have nXD : DA ≠ XF := by omega
    clear hXF
    refine (pick_any R a n cap bs (p + 1 + 6) 3 _ rd (by omega) (by omega) (by omega) (by omega)).mono ?_
    rintro e w6 ⟨rk, hk0, hk1, rfl, t5, R5⟩
    obtain ⟨k, rfl⟩ := Int.eq_ofNat_of_zero_le hk0
    clear hk0
    replace q0 := q0.touch t5 nq0
    replace GA := GA.far t5 (lo := w.heap.size) (fun k hk => by omega) zA1 zA2
    replace qf := qf.touch t5 nqf
    replace TT := TT.trans t5
    replace rd := R5
    clear t5 R5
    by_cases hk : (k : Int) = 0
    · have hk' : ¬ (0 : Int) < (k : Int) := by omega
      go_upto_region 11 with fail
      refine wp_region_ends (fun X => X.cell? ⟨XF, 0, none⟩ = some (.slice (some ⟨BA, 0, none⟩) 3 3) ∧ X.cell? ⟨XF, 1, none⟩ = some (.slice (some ⟨DA, 0, none⟩) 2 2) ∧ X.cell? ⟨XF, 2, none⟩ = some (.int .i64 KA)) (fun _ => True) 5 (by kernel_rfl) ?_
      have dr : Below w6.heap.size w6 w6.drew := (Below.refl _ _).drew
      replace q0 := q0.below dr
      replace GA := GA.below dr
      replace qf := qf.below dr
      replace TT := TT.trans (Touch.of dr)
      replace rd := rd.below dr
      clear dr
      obtain ⟨V7, hV7⟩ : ∃ W, W = w6.drew := ⟨_, rfl⟩
      rw [← hV7]
      rw [← hV7] at TT rd q0 GA qf
      clear hV7
      have hSS : (fun X : World => X.cell? ⟨XF, 0, none⟩ = some (.slice (some ⟨BA, 0, none⟩) 3 3) ∧ X.cell? ⟨XF, 1, none⟩ = some (.slice (some ⟨DA, 0, none⟩) 2 2) ∧ X.cell? ⟨XF, 2, none⟩ = some (.int .i64 KA)) V7 ∧ True := ⟨⟨qf.cell 0, qf.cell 1, qf.cell 2⟩, trivial⟩
      refine tkL (i := 0) rfl hSS ?_
      refine tkL (i := 2) rfl hSS ?_
      refine wpAnyE_one (i := 1) (by kernel_rfl) rfl (fun Kn hK => ?_)
      go_simp
      refine (pick_any R a n cap bs (p + 1 + 6 + 1) 3 _ rd (by omega) (by omega) (by omega) (by omega)).mono ?_
      rintro e w8 ⟨ri, hi0, hi1, rfl, t5, R5⟩
      obtain ⟨i, rfl⟩ := Int.eq_ofNat_of_zero_le hi0
      clear hi0
      replace q0 := q0.touch t5 nq0
      replace GA := GA.far t5 (lo := w.heap.size) (fun k hk => by omega) zA1 zA2
      replace qf := qf.touch t5 nqf
      replace TT := TT.trans t5
      replace rd := R5
      clear t5 R5
      dsimp only
      clear hSS
      have hSS : (fun X : World => X.cell? ⟨XF, 0, none⟩ = some (.slice (some ⟨BA, 0, none⟩) 3 3) ∧ X.cell? ⟨XF, 1, none⟩ = some (.slice (some ⟨DA, 0, none⟩) 2 2) ∧ X.cell? ⟨XF, 2, none⟩ = some (.int .i64 KA)) w8 ∧ True := ⟨⟨qf.cell 0, qf.cell 1, qf.cell 2⟩, trivial⟩
      refine hK.out _ _ ⟨hSS.1, fun _ => trivial⟩ ?_
      clear hK
      refine tkL (i := 3) rfl hSS ?_
      refine wpAnyE_one (i := 4) (by kernel_rfl) rfl (fun Kn hK => ?_)
      have gq0_0 := q0.cell 0
      have gq0_1 := q0.cell 1
      have gq0_2 := q0.cell 2
      have gq0_3 := q0.cell 3
      have gq0_4 := q0.cell 4
      have gq0_5 := q0.cell 5
      simp only [List.getElem?_cons_zero, List.getElem?_cons_succ] at gq0_0 gq0_1 gq0_2 gq0_3 gq0_4 gq0_5
      have fq0_0 := q0.free 0
      have fq0_1 := q0.free 1
      have fq0_2 := q0.free 2
      have fq0_3 := q0.free 3
      have fq0_4 := q0.free 4
      have fq0_5 := q0.free 5
      have lq0 := q0.lt
      go_simp
      clear gq0_0 gq0_1 gq0_2 gq0_3 gq0_4 gq0_5 fq0_0 fq0_1 fq0_2 fq0_3 fq0_4 fq0_5 lq0
      have hwt2 := TT.size
      have hlq2 := q0.lt
      replace q0 := q0.set 0 (.int .i64 2)
      replace GA := GA.setFar (X := w.heap.size) (by omega) (by omega) 0 (.int .i64 2)
      replace qf := qf.setOther (B' := w.heap.size) (by omega) 0 (.int .i64 2)
      replace rd := rd.setNew (B := w.heap.size) (by omega) (fun h0 b o e => by have := ha0 h0 b o e; omega) 0 (.int .i64 2)
      replace TT := TT.setNewF (B := w.heap.size) (by omega) 0 (.int .i64 2)
      replace q0 := q0.set 1 (.int .i64 (i : Int))
      replace GA := GA.setFar (X := w.heap.size) (by omega) (by omega) 1 (.int .i64 (i : Int))
      replace qf := qf.setOther (B' := w.heap.size) (by omega) 1 (.int .i64 (i : Int))
      replace rd := rd.setNew (B := w.heap.size) (by omega) (fun h0 b o e => by have := ha0 h0 b o e; omega) 1 (.int .i64 (i : Int))
      replace TT := TT.setNewF (B := w.heap.size) (by omega) 1 (.int .i64 (i : Int))
      replace q0 := q0.set 2 (.int .i64 0)
      replace GA := GA.setFar (X := w.heap.size) (by omega) (by omega) 2 (.int .i64 0)
      replace qf := qf.setOther (B' := w.heap.size) (by omega) 2 (.int .i64 0)
      replace rd := rd.setNew (B := w.heap.size) (by omega) (fun h0 b o e => by have := ha0 h0 b o e; omega) 2 (.int .i64 0)
      replace TT := TT.setNewF (B := w.heap.size) (by omega) 2 (.int .i64 0)
      replace q0 := q0.set 3 (.slice (some ⟨BA, 0, none⟩) 3 3)
      replace GA := GA.setFar (X := w.heap.size) (by omega) (by omega) 3 (.slice (some ⟨BA, 0, none⟩) 3 3)
      replace qf := qf.setOther (B' := w.heap.size) (by omega) 3 (.slice (some ⟨BA, 0, none⟩) 3 3)
      replace rd := rd.setNew (B := w.heap.size) (by omega) (fun h0 b o e => by have := ha0 h0 b o e; omega) 3 (.slice (some ⟨BA, 0, none⟩) 3 3)
      replace TT := TT.setNewF (B := w.heap.size) (by omega) 3 (.slice (some ⟨BA, 0, none⟩) 3 3)
      replace q0 := q0.set 4 (.slice (some ⟨DA, 0, none⟩) 2 2)
      replace GA := GA.setFar (X := w.heap.size) (by omega) (by omega) 4 (.slice (some ⟨DA, 0, none⟩) 2 2)
      replace qf := qf.setOther (B' := w.heap.size) (by omega) 4 (.slice (some ⟨DA, 0, none⟩) 2 2)
      replace rd := rd.setNew (B := w.heap.size) (by omega) (fun h0 b o e => by have := ha0 h0 b o e; omega) 4 (.slice (some ⟨DA, 0, none⟩) 2 2)
      replace TT := TT.setNewF (B := w.heap.size) (by omega) 4 (.slice (some ⟨DA, 0, none⟩) 2 2)
      replace q0 := q0.set 5 (.int .i64 KA)
      replace GA := GA.setFar (X := w.heap.size) (by omega) (by omega) 5 (.int .i64 KA)
      replace qf := qf.setOther (B' := w.heap.size) (by omega) 5 (.int .i64 KA)
      replace rd := rd.setNew (B := w.heap.size) (by omega) (fun h0 b o e => by have := ha0 h0 b o e; omega) 5 (.int .i64 KA)
      replace TT := TT.setNewF (B := w.heap.size) (by omega) 5 (.int .i64 KA)
      obtain ⟨W9, hW9⟩ : ∃ W, W = ((((((w8.setCell ⟨w.heap.size, 0, none⟩ (.int .i64 2)).setCell ⟨w.heap.size, 1, none⟩ (.int .i64 (i : Int))).setCell ⟨w.heap.size, 2, none⟩ (.int .i64 0)).setCell ⟨w.heap.size, 3, none⟩ (.slice (some ⟨BA, 0, none⟩) 3 3)).setCell ⟨w.heap.size, 4, none⟩ (.slice (some ⟨DA, 0, none⟩) 2 2)).setCell ⟨w.heap.size, 5, none⟩ (.int .i64 KA)) := ⟨_, rfl⟩
      rw [← hW9]
      rw [← hW9] at TT rd q0 GA qf
      clear hW9
      clear hSS
      have hSS : (fun X : World => X.cell? ⟨XF, 0, none⟩ = some (.slice (some ⟨BA, 0, none⟩) 3 3) ∧ X.cell? ⟨XF, 1, none⟩ = some (.slice (some ⟨DA, 0, none⟩) 2 2) ∧ X.cell? ⟨XF, 2, none⟩ = some (.int .i64 KA)) W9 ∧ True := ⟨⟨qf.cell 0, qf.cell 1, qf.cell 2⟩, trivial⟩
      refine hK.out _ _ ⟨hSS.1, fun _ => trivial⟩ ?_
      clear hK
      refine wpAnyE_done (by kernel_rfl) ?_ _
      clear hSS
      go_wp2
      have hws := TT.size
      have u0 : W9.cell? ⟨w.heap.size, 0, none⟩ = some (.int .i64 2) := q0.cell 0
      have u1 : W9.cell? ⟨w.heap.size, 1, none⟩ = some (.int .i64 (i : Int)) := q0.cell 1
      have u2 : W9.cell? ⟨w.heap.size, 2, none⟩ = some (.int .i64 0) := q0.cell 2
      have u3 : W9.cell? ⟨w.heap.size, 3, none⟩ = some (.slice (some ⟨BA, 0, none⟩) 3 3) := q0.cell 3
      have u4 : W9.cell? ⟨w.heap.size, 4, none⟩ = some (.slice (some ⟨DA, 0, none⟩) 2 2) := q0.cell 4
      have u5 : W9.cell? ⟨w.heap.size, 5, none⟩ = some (.int .i64 KA) := q0.cell 5
      refine bodyPost_ret (v := lnV ⟨2, (i : Int), 0, ⟨some ⟨BA, 0, none⟩, 3, 3, some ⟨DA, 0, none⟩, 2, 2, KA, LCA, LDA⟩⟩) (by simp [results, Try.results85, go_sem, u0, u1, u2, u3, u4, u5]) rfl ⟨⟨2, (i : Int), 0, ⟨some ⟨BA, 0, none⟩, 3, 3, some ⟨DA, 0, none⟩, 2, 2, KA, LCA, LDA⟩⟩, _, rfl, ⟨TT, rd, ⟨GA.C, GA.D, by simp only []; omega, by simp only []; omega⟩, fun b o e => by simp only [Option.some.injEq, Addr.mk.injEq] at e; have hb := GA.C.blk (by omega); omega, fun b o e => by simp only [Option.some.injEq, Addr.mk.injEq] at e; have hb := GA.D.blk (by omega); omega, lok2 (pot := (i : Int)) (small_of sCA sDA sKA1 sKA2) (by omega) (by omega), by omega, by omega⟩⟩
    · have hk' : (0 : Int) < (k : Int) := by omega
      have gqf_0 := qf.cell 0
      have gqf_1 := qf.cell 1
      have gqf_2 := qf.cell 2
      simp only [List.getElem?_cons_zero, List.getElem?_cons_succ] at gqf_0 gqf_1 gqf_2
      have fqf_0 := qf.free 0
      have fqf_1 := qf.free 1
      have fqf_2 := qf.free 2
      have lqf := qf.lt
      go_upto_region 11 with fail
      clear gqf_0 gqf_1 gqf_2 fqf_0 fqf_1 fqf_2 lqf
      have hwz := TT.size
      have ltF := qf.lt
      obtain ⟨BM, hBM⟩ : ∃ x, x = w6.heap.size := ⟨_, rfl⟩
      rw [← hBM]
      rw [← hBM] at hwz ltF
      have nXM : BM ≠ XF := by omega
      have nRM : BM ≠ R := by omega
      replace q0 := q0.setOther (B' := XF) (by omega) 0 (.slice (some ⟨BM, 0, none⟩) 3 3)
      replace GA := GA.setFar (X := XF) (by omega) (by omega) 0 (.slice (some ⟨BM, 0, none⟩) 3 3)
      replace qf := qf.set 0 (.slice (some ⟨BM, 0, none⟩) 3 3)
      replace rd := rd.setNew (B := XF) (by omega) (fun h0 b o e => by have := ha0 h0 b o e; omega) 0 (.slice (some ⟨BM, 0, none⟩) 3 3)
      replace TT := TT.setNewF (B := XF) (by omega) 0 (.slice (some ⟨BM, 0, none⟩) 3 3)
      have al := (Below.refl (w6.setCell ⟨XF, 0, none⟩ (.slice (some ⟨BM, 0, none⟩) 3 3)).heap.size (w6.setCell ⟨XF, 0, none⟩ (.slice (some ⟨BM, 0, none⟩) 3 3))).alloc (Nat.le_refl _) (.cells #[.int .i64 0, .int .i64 0, .int .i64 0] 3)
      have kz : Blk ((w6.setCell ⟨XF, 0, none⟩ (.slice (some ⟨BM, 0, none⟩) 3 3)).alloc (.cells #[.int .i64 0, .int .i64 0, .int .i64 0] 3)) (w6.setCell ⟨XF, 0, none⟩ (.slice (some ⟨BM, 0, none⟩) 3 3)).heap.size [0, 0, 0] := heap_alloc_new (w6.setCell ⟨XF, 0, none⟩ (.slice (some ⟨BM, 0, none⟩) 3 3)) _
      rw [show (w6.setCell ⟨XF, 0, none⟩ (.slice (some ⟨BM, 0, none⟩) 3 3)).heap.size = BM from by rw [size_setCell]; exact hBM.symm] at kz
      clear hBM
      replace q0 := q0.below al
      replace GA := GA.below al
      replace qf := qf.below al
      replace TT := TT.trans (Touch.of al)
      replace rd := rd.below al
      clear al
      have hzl := kz.lt
      have GM : FA ((w6.setCell ⟨XF, 0, none⟩ (.slice (some ⟨BM, 0, none⟩) 3 3)).alloc (.cells #[.int .i64 0, .int .i64 0, .int .i64 0] 3)) (some ⟨BM, 0, none⟩) 3 (some ⟨DA, 0, none⟩) 2 ([0, 0, 0], LDA, KA) := ⟨kz.ints' rfl, GA.D, by omega, by omega⟩
      clear kz GA
      have zM1 : w.heap.size ≤ BM := hwz
      have zM2 := zA2
      have hBMw : w.heap.size < BM := by omega
      obtain ⟨W7, hW7⟩ : ∃ W, W = ((w6.setCell ⟨XF, 0, none⟩ (.slice (some ⟨BM, 0, none⟩) 3 3)).alloc (.cells #[.int .i64 0, .int .i64 0, .int .i64 0] 3)) := ⟨_, rfl⟩
      rw [← hW7]
      rw [← hW7] at TT rd q0 qf GM
      clear hW7
      refine wp_region_ends (fun X => X.cell? ⟨XF, 0, none⟩ = some (.slice (some ⟨BM, 0, none⟩) 3 3) ∧ X.cell? ⟨XF, 1, none⟩ = some (.slice (some ⟨DA, 0, none⟩) 2 2) ∧ X.cell? ⟨XF, 2, none⟩ = some (.int .i64 KA)) (fun _ => True) 5 (by kernel_rfl) ?_
      have dr : Below W7.heap.size W7 W7.drew := (Below.refl _ _).drew
      replace q0 := q0.below dr
      replace qf := qf.below dr
      replace GM := GM.below dr
      replace TT := TT.trans (Touch.of dr)
      replace rd := rd.below dr
      clear dr
      obtain ⟨V8, hV8⟩ : ∃ W, W = W7.drew := ⟨_, rfl⟩
      rw [← hV8]
      rw [← hV8] at TT rd q0 qf GM
      clear hV8
      have hSS : (fun X : World => X.cell? ⟨XF, 0, none⟩ = some (.slice (some ⟨BM, 0, none⟩) 3 3) ∧ X.cell? ⟨XF, 1, none⟩ = some (.slice (some ⟨DA, 0, none⟩) 2 2) ∧ X.cell? ⟨XF, 2, none⟩ = some (.int .i64 KA)) V8 ∧ True := ⟨⟨qf.cell 0, qf.cell 1, qf.cell 2⟩, trivial⟩
      refine tkL (i := 0) rfl hSS ?_
      refine tkL (i := 2) rfl hSS ?_
      refine wpAnyE_one (i := 1) (by kernel_rfl) rfl (fun Kn hK => ?_)
      go_simp
      refine (pick_any R a n cap bs (p + 1 + 6 + 1) 3 _ rd (by omega) (by omega) (by omega) (by omega)).mono ?_
      rintro e w9 ⟨ri, hi0, hi1, rfl, t5, R5⟩
      obtain ⟨i, rfl⟩ := Int.eq_ofNat_of_zero_le hi0
      clear hi0
      replace q0 := q0.touch t5 nq0
      replace qf := qf.touch t5 nqf
      replace GM := GM.far t5 (lo := w.heap.size) (fun k hk => by omega) zM1 zM2
      replace TT := TT.trans t5
      replace rd := R5
      clear t5 R5
      dsimp only
      clear hSS
      have hSS : (fun X : World => X.cell? ⟨XF, 0, none⟩ = some (.slice (some ⟨BM, 0, none⟩) 3 3) ∧ X.cell? ⟨XF, 1, none⟩ = some (.slice (some ⟨DA, 0, none⟩) 2 2) ∧ X.cell? ⟨XF, 2, none⟩ = some (.int .i64 KA)) w9 ∧ True := ⟨⟨qf.cell 0, qf.cell 1, qf.cell 2⟩, trivial⟩
      refine hK.out _ _ ⟨hSS.1, fun _ => trivial⟩ ?_
      clear hK
      refine tkL (i := 3) rfl hSS ?_
      refine wpAnyE_one (i := 4) (by kernel_rfl) rfl (fun Kn hK => ?_)
      have gq0_0 := q0.cell 0
      have gq0_1 := q0.cell 1
      have gq0_2 := q0.cell 2
      have gq0_3 := q0.cell 3
      have gq0_4 := q0.cell 4
      have gq0_5 := q0.cell 5
      simp only [List.getElem?_cons_zero, List.getElem?_cons_succ] at gq0_0 gq0_1 gq0_2 gq0_3 gq0_4 gq0_5
      have fq0_0 := q0.free 0
      have fq0_1 := q0.free 1
      have fq0_2 := q0.free 2
      have fq0_3 := q0.free 3
      have fq0_4 := q0.free 4
      have fq0_5 := q0.free 5
      have lq0 := q0.lt
      go_simp
      clear gq0_0 gq0_1 gq0_2 gq0_3 gq0_4 gq0_5 fq0_0 fq0_1 fq0_2 fq0_3 fq0_4 fq0_5 lq0
      have hwt2 := TT.size
      have hlq2 := q0.lt
      replace q0 := q0.set 0 (.int .i64 2)
      replace qf := qf.setOther (B' := w.heap.size) (by omega) 0 (.int .i64 2)
      replace GM := GM.setFar (X := w.heap.size) (by omega) (by omega) 0 (.int .i64 2)
      replace rd := rd.setNew (B := w.heap.size) (by omega) (fun h0 b o e => by have := ha0 h0 b o e; omega) 0 (.int .i64 2)
      replace TT := TT.setNewF (B := w.heap.size) (by omega) 0 (.int .i64 2)
      replace q0 := q0.set 1 (.int .i64 (i : Int))
      replace qf := qf.setOther (B' := w.heap.size) (by omega) 1 (.int .i64 (i : Int))
      replace GM := GM.setFar (X := w.heap.size) (by omega) (by omega) 1 (.int .i64 (i : Int))
      replace rd := rd.setNew (B := w.heap.size) (by omega) (fun h0 b o e => by have := ha0 h0 b o e; omega) 1 (.int .i64 (i : Int))
      replace TT := TT.setNewF (B := w.heap.size) (by omega) 1 (.int .i64 (i : Int))
      replace q0 := q0.set 2 (.int .i64 0)
      replace qf := qf.setOther (B' := w.heap.size) (by omega) 2 (.int .i64 0)
      replace GM := GM.setFar (X := w.heap.size) (by omega) (by omega) 2 (.int .i64 0)
      replace rd := rd.setNew (B := w.heap.size) (by omega) (fun h0 b o e => by have := ha0 h0 b o e; omega) 2 (.int .i64 0)
      replace TT := TT.setNewF (B := w.heap.size) (by omega) 2 (.int .i64 0)
      replace q0 := q0.set 3 (.slice (some ⟨BM, 0, none⟩) 3 3)
      replace qf := qf.setOther (B' := w.heap.size) (by omega) 3 (.slice (some ⟨BM, 0, none⟩) 3 3)
      replace GM := GM.setFar (X := w.heap.size) (by omega) (by omega) 3 (.slice (some ⟨BM, 0, none⟩) 3 3)
      replace rd := rd.setNew (B := w.heap.size) (by omega) (fun h0 b o e => by have := ha0 h0 b o e; omega) 3 (.slice (some ⟨BM, 0, none⟩) 3 3)
      replace TT := TT.setNewF (B := w.heap.size) (by omega) 3 (.slice (some ⟨BM, 0, none⟩) 3 3)
      replace q0 := q0.set 4 (.slice (some ⟨DA, 0, none⟩) 2 2)
      replace qf := qf.setOther (B' := w.heap.size) (by omega) 4 (.slice (some ⟨DA, 0, none⟩) 2 2)
      replace GM := GM.setFar (X := w.heap.size) (by omega) (by omega) 4 (.slice (some ⟨DA, 0, none⟩) 2 2)
      replace rd := rd.setNew (B := w.heap.size) (by omega) (fun h0 b o e => by have := ha0 h0 b o e; omega) 4 (.slice (some ⟨DA, 0, none⟩) 2 2)
      replace TT := TT.setNewF (B := w.heap.size) (by omega) 4 (.slice (some ⟨DA, 0, none⟩) 2 2)
      replace q0 := q0.set 5 (.int .i64 KA)
      replace qf := qf.setOther (B' := w.heap.size) (by omega) 5 (.int .i64 KA)
      replace GM := GM.setFar (X := w.heap.size) (by omega) (by omega) 5 (.int .i64 KA)
      replace rd := rd.setNew (B := w.heap.size) (by omega) (fun h0 b o e => by have := ha0 h0 b o e; omega) 5 (.int .i64 KA)
      replace TT := TT.setNewF (B := w.heap.size) (by omega) 5 (.int .i64 KA)
      obtain ⟨W10, hW10⟩ : ∃ W, W = ((((((w9.setCell ⟨w.heap.size, 0, none⟩ (.int .i64 2)).setCell ⟨w.heap.size, 1, none⟩ (.int .i64 (i : Int))).setCell ⟨w.heap.size, 2, none⟩ (.int .i64 0)).setCell ⟨w.heap.size, 3, none⟩ (.slice (some ⟨BM, 0, none⟩) 3 3)).setCell ⟨w.heap.size, 4, none⟩ (.slice (some ⟨DA, 0, none⟩) 2 2)).setCell ⟨w.heap.size, 5, none⟩ (.int .i64 KA)) := ⟨_, rfl⟩
      rw [← hW10]
      rw [← hW10] at TT rd q0 qf GM
      clear hW10
      clear hSS
      have hSS : (fun X : World => X.cell? ⟨XF, 0, none⟩ = some (.slice (some ⟨BM, 0, none⟩) 3 3) ∧ X.cell? ⟨XF, 1, none⟩ = some (.slice (some ⟨DA, 0, none⟩) 2 2) ∧ X.cell? ⟨XF, 2, none⟩ = some (.int .i64 KA)) W10 ∧ True := ⟨⟨qf.cell 0, qf.cell 1, qf.cell 2⟩, trivial⟩
      refine hK.out _ _ ⟨hSS.1, fun _ => trivial⟩ ?_
      clear hK
      refine wpAnyE_done (by kernel_rfl) ?_ _
      clear hSS
      go_wp2
      have hws := TT.size
      have u0 : W10.cell? ⟨w.heap.size, 0, none⟩ = some (.int .i64 2) := q0.cell 0
      have u1 : W10.cell? ⟨w.heap.size, 1, none⟩ = some (.int .i64 (i : Int)) := q0.cell 1
      have u2 : W10.cell? ⟨w.heap.size, 2, none⟩ = some (.int .i64 0) := q0.cell 2
      have u3 : W10.cell? ⟨w.heap.size, 3, none⟩ = some (.slice (some ⟨BM, 0, none⟩) 3 3) := q0.cell 3
      have u4 : W10.cell? ⟨w.heap.size, 4, none⟩ = some (.slice (some ⟨DA, 0, none⟩) 2 2) := q0.cell 4
      have u5 : W10.cell? ⟨w.heap.size, 5, none⟩ = some (.int .i64 KA) := q0.cell 5
      refine bodyPost_ret (v := lnV ⟨2, (i : Int), 0, ⟨some ⟨BM, 0, none⟩, 3, 3, some ⟨DA, 0, none⟩, 2, 2, KA, [0, 0, 0], LDA⟩⟩) (by simp [results, Try.results85, go_sem, u0, u1, u2, u3, u4, u5]) rfl ⟨⟨2, (i : Int), 0, ⟨some ⟨BM, 0, none⟩, 3, 3, some ⟨DA, 0, none⟩, 2, 2, KA, [0, 0, 0], LDA⟩⟩, _, rfl, ⟨TT, rd, ⟨GM.C, GM.D, by simp only []; omega, by simp only []; omega⟩, fun b o e => by simp only [Option.some.injEq, Addr.mk.injEq] at e; have hb := GM.C.blk (by omega); omega, fun b o e => by simp only [Option.some.injEq, Addr.mk.injEq] at e; have hb := GM.D.blk (by omega); omega, lok2 (pot := (i : Int)) (small_of (fun i => by rcases i with _ | _ | _ | i <;> simp) sDA sKA1 sKA2) (by omega) (by omega), by omega, by omega⟩⟩
  · go_wp2_with fail
    have xA := q0.lt
    refine (small_f R a n cap bs (p + 1) _ rd (by omega) (by omega) rd.ha).mono ?_
    rintro e w4 ⟨BA, DA, LCA, LDA, KA, rfl, t5, R5, f5, sCA, sDA, sKA1, sKA2⟩
    have zA1 : w.heap.size ≤ BA := Nat.le_trans TT.size f5.b1
    have zA2 : w.heap.size ≤ DA := Nat.le_trans TT.size f5.b2
    have lCA := f5.l1
    have lDA := f5.l2
    have GA : FA w4 (some ⟨BA, 0, none⟩) 3 (some ⟨DA, 0, none⟩) 2 (LCA, LDA, KA) := ⟨f5.k1.ints' f5.l1, f5.k2.ints' f5.l2, by omega, by omega⟩
    have ltCA := f5.k1.lt
    have ltDA := f5.k2.lt
    have nCDA := f5.ne
    have yA1 := f5.b1
    have yA2 := f5.b2
    clear f5
    replace q0 := q0.touch t5 nq0
    replace TT := TT.trans t5
    replace rd := R5
    clear t5 R5
    have hwt := TT.size
    have hlq := q0.lt
    have al := (Below.refl w4.heap.size w4).alloc (Nat.le_refl _) (.cells #[.slice (some ⟨BA, 0, none⟩) 3 3, .slice (some ⟨DA, 0, none⟩) 2 2, .int .i64 KA] 34)
    have qf := Cel.new w4 [.slice (some ⟨BA, 0, none⟩) 3 3, .slice (some ⟨DA, 0, none⟩) 2 2, .int .i64 KA] 34
    replace q0 := q0.below al
    replace GA := GA.below al
    replace TT := TT.trans (Touch.of al)
    replace rd := rd.below al
    clear al
    go_wp2_with fail
    obtain ⟨W5, hW5⟩ : ∃ W, W = (w4.alloc (.cells #[.slice (some ⟨BA, 0, none⟩) 3 3, .slice (some ⟨DA, 0, none⟩) 2 2, .int .i64 KA] 34)) := ⟨_, rfl⟩
    rw [← hW5]
    rw [← hW5] at TT rd q0 GA qf
    clear hW5
    obtain ⟨XF, hXF⟩ : ∃ x, x = w4.heap.size := ⟨_, rfl⟩
    rw [← hXF]
    rw [← hXF] at qf hwt
    have nqf : XF ≠ R := by omega
    have hXw : w.heap.size < XF := by omega
    have nXB : BA ≠ XF := by omega
    have nXD : DA ≠ XF := by omega
    clear hXF
    refine (pick_any R a n cap bs (p + 1 + 6) 3 _ rd (by omega) (by omega) (by omega) (by omega)).mono ?_
    rintro e w6 ⟨rk, hk0, hk1, rfl, t5, R5⟩
    obtain ⟨k, rfl⟩ := Int.eq_ofNat_of_zero_le hk0
    clear hk0
    replace q0 := q0.touch t5 nq0
    replace GA := GA.far t5 (lo := w.heap.size) (fun k hk => by omega) zA1 zA2
    replace qf := qf.touch t5 nqf
    replace TT := TT.trans t5
    replace rd := R5
    clear t5 R5
    by_cases hk : (k : Int) = 0
    · have hk' : ¬ (0 : Int) < (k : Int) := by omega
      go_upto_region 11 with fail
      refine wp_region_ends (fun X => X.cell? ⟨XF, 0, none⟩ = some (.slice (some ⟨BA, 0, none⟩) 3 3) ∧ X.cell? ⟨XF, 1, none⟩ = some (.slice (some ⟨DA, 0, none⟩) 2 2) ∧ X.cell? ⟨XF, 2, none⟩ = some (.int .i64 KA)) (fun _ => True) 5 (by kernel_rfl) ?_
      have dr : Below w6.heap.size w6 w6.drew := (Below.refl _ _).drew
      replace q0 := q0.below dr
      replace GA := GA.below dr
      replace qf := qf.below dr
      replace TT := TT.trans (Touch.of dr)
      replace rd := rd.below dr
      clear dr
      obtain ⟨V7, hV7⟩ : ∃ W, W = w6.drew := ⟨_, rfl⟩
      rw [← hV7]
      rw [← hV7] at TT rd q0 GA qf
      clear hV7
      have hSS : (fun X : World => X.cell? ⟨XF, 0, none⟩ = some (.slice (some ⟨BA, 0, none⟩) 3 3) ∧ X.cell? ⟨XF, 1, none⟩ = some (.slice (some ⟨DA, 0, none⟩) 2 2) ∧ X.cell? ⟨XF, 2, none⟩ = some (.int .i64 KA)) V7 ∧ True := ⟨⟨qf.cell 0, qf.cell 1, qf.cell 2⟩, trivial⟩
      refine tkL (i := 0) rfl hSS ?_
      refine tkL (i := 2) rfl hSS ?_
      refine wpAnyE_one (i := 1) (by kernel_rfl) rfl (fun Kn hK => ?_)
      go_simp
      refine (pick_any R a n cap bs (p + 1 + 6 + 1) 3 _ rd (by omega) (by omega) (by omega) (by omega)).mono ?_
      rintro e w8 ⟨ri, hi0, hi1, rfl, t5, R5⟩
      obtain ⟨i, rfl⟩ := Int.eq_ofNat_of_zero_le hi0
      clear hi0
      replace q0 := q0.touch t5 nq0
      replace GA := GA.far t5 (lo := w.heap.size) (fun k hk => by omega) zA1 zA2
      replace qf := qf.touch t5 nqf
      replace TT := TT.trans t5
      replace rd := R5
      clear t5 R5
      dsimp only
      clear hSS
      have hSS : (fun X : World => X.cell? ⟨XF, 0, none⟩ = some (.slice (some ⟨BA, 0, none⟩) 3 3) ∧ X.cell? ⟨XF, 1, none⟩ = some (.slice (some ⟨DA, 0, none⟩) 2 2) ∧ X.cell? ⟨XF, 2, none⟩ = some (.int .i64 KA)) w8 ∧ True := ⟨⟨qf.cell 0, qf.cell 1, qf.cell 2⟩, trivial⟩
      refine hK.out _ _ ⟨hSS.1, fun _ => trivial⟩ ?_
      clear hK
      refine tkL (i := 3) rfl hSS ?_
      refine wpAnyE_one (i := 4) (by kernel_rfl) rfl (fun Kn hK => ?_)
      have gq0_0 := q0.cell 0
      have gq0_1 := q0.cell 1
      have gq0_2 := q0.cell 2
      have gq0_3 := q0.cell 3
      have gq0_4 := q0.cell 4
      have gq0_5 := q0.cell 5
      simp only [List.getElem?_cons_zero, List.getElem?_cons_succ] at gq0_0 gq0_1 gq0_2 gq0_3 gq0_4 gq0_5
      have fq0_0 := q0.free 0
      have fq0_1 := q0.free 1
      have fq0_2 := q0.free 2
      have fq0_3 := q0.free 3
      have fq0_4 := q0.free 4
      have fq0_5 := q0.free 5
      have lq0 := q0.lt
      go_simp
      clear gq0_0 gq0_1 gq0_2 gq0_3 gq0_4 gq0_5 fq0_0 fq0_1 fq0_2 fq0_3 fq0_4 fq0_5 lq0
      have hwt2 := TT.size
      have hlq2 := q0.lt
      replace q0 := q0.set 0 (.int .i64 2)
      replace GA := GA.setFar (X := w.heap.size) (by omega) (by omega) 0 (.int .i64 2)
      replace qf := qf.setOther (B' := w.heap.size) (by omega) 0 (.int .i64 2)
      replace rd := rd.setNew (B := w.heap.size) (by omega) (fun h0 b o e => by have := ha0 h0 b o e; omega) 0 (.int .i64 2)
      replace TT := TT.setNewF (B := w.heap.size) (by omega) 0 (.int .i64 2)
      replace q0 := q0.set 1 (.int .i64 (i : Int))
      replace GA := GA.setFar (X := w.heap.size) (by omega) (by omega) 1 (.int .i64 (i : Int))
      replace qf := qf.setOther (B' := w.heap.size) (by omega) 1 (.int .i64 (i : Int))
      replace rd := rd.setNew (B := w.heap.size) (by omega) (fun h0 b o e => by have := ha0 h0 b o e; omega) 1 (.int .i64 (i : Int))
      replace TT := TT.setNewF (B := w.heap.size) (by omega) 1 (.int .i64 (i : Int))
      replace q0 := q0.set 2 (.int .i64 0)
      replace GA := GA.setFar (X := w.heap.size) (by omega) (by omega) 2 (.int .i64 0)
      replace qf := qf.setOther (B' := w.heap.size) (by omega) 2 (.int .i64 0)
      replace rd := rd.setNew (B := w.heap.size) (by omega) (fun h0 b o e => by have := ha0 h0 b o e; omega) 2 (.int .i64 0)
      replace TT := TT.setNewF (B := w.heap.size) (by omega) 2 (.int .i64 0)
      replace q0 := q0.set 3 (.slice (some ⟨BA, 0, none⟩) 3 3)
      replace GA := GA.setFar (X := w.heap.size) (by omega) (by omega) 3 (.slice (some ⟨BA, 0, none⟩) 3 3)
      replace qf := qf.setOther (B' := w.heap.size) (by omega) 3 (.slice (some ⟨BA, 0, none⟩) 3 3)
      replace rd := rd.setNew (B := w.heap.size) (by omega) (fun h0 b o e => by have := ha0 h0 b o e; omega) 3 (.slice (some ⟨BA, 0, none⟩) 3 3)
      replace TT := TT.setNewF (B := w.heap.size) (by omega) 3 (.slice (some ⟨BA, 0, none⟩) 3 3)
      replace q0 := q0.set 4 (.slice (some ⟨DA, 0, none⟩) 2 2)
      replace GA := GA.setFar (X := w.heap.size) (by omega) (by omega) 4 (.slice (some ⟨DA, 0, none⟩) 2 2)
      replace qf := qf.setOther (B' := w.heap.size) (by omega) 4 (.slice (some ⟨DA, 0, none⟩) 2 2)
      replace rd := rd.setNew (B := w.heap.size) (by omega) (fun h0 b o e => by have := ha0 h0 b o e; omega) 4 (.slice (some ⟨DA, 0, none⟩) 2 2)
      replace TT := TT.setNewF (B := w.heap.size) (by omega) 4 (.slice (some ⟨DA, 0, none⟩) 2 2)
      replace q0 := q0.set 5 (.int .i64 KA)
      replace GA := GA.setFar (X := w.heap.size) (by omega) (by omega) 5 (.int .i64 KA)
      replace qf := qf.setOther (B' := w.heap.size) (by omega) 5 (.int .i64 KA)
      replace rd := rd.setNew (B := w.heap.size) (by omega) (fun h0 b o e => by have := ha0 h0 b o e; omega) 5 (.int .i64 KA)
      replace TT := TT.setNewF (B := w.heap.size) (by omega) 5 (.int .i64 KA)
      obtain ⟨W9, hW9⟩ : ∃ W, W = ((((((w8.setCell ⟨w.heap.size, 0, none⟩ (.int .i64 2)).setCell ⟨w.heap.size, 1, none⟩ (.int .i64 (i : Int))).setCell ⟨w.heap.size, 2, none⟩ (.int .i64 0)).setCell ⟨w.heap.size, 3, none⟩ (.slice (some ⟨BA, 0, none⟩) 3 3)).setCell ⟨w.heap.size, 4, none⟩ (.slice (some ⟨DA, 0, none⟩) 2 2)).setCell ⟨w.heap.size, 5, none⟩ (.int .i64 KA)) := ⟨_, rfl⟩
      rw [← hW9]
      rw [← hW9] at TT rd q0 GA qf
      clear hW9
      clear hSS
      have hSS : (fun X : World => X.cell? ⟨XF, 0, none⟩ = some (.slice (some ⟨BA, 0, none⟩) 3 3) ∧ X.cell? ⟨XF, 1, none⟩ = some (.slice (some ⟨DA, 0, none⟩) 2 2) ∧ X.cell? ⟨XF, 2, none⟩ = some (.int .i64 KA)) W9 ∧ True := ⟨⟨qf.cell 0, qf.cell 1, qf.cell 2⟩, trivial⟩
      refine hK.out _ _ ⟨hSS.1, fun _ => trivial⟩ ?_
      clear hK
      refine wpAnyE_done (by kernel_rfl) ?_ _
      clear hSS
      go_wp2
      have hws := TT.size
      have u0 : W9.cell? ⟨w.heap.size, 0, none⟩ = some (.int .i64 2) := q0.cell 0
      have u1 : W9.cell? ⟨w.heap.size, 1, none⟩ = some (.int .i64 (i : Int)) := q0.cell 1
      have u2 : W9.cell? ⟨w.heap.size, 2, none⟩ = some (.int .i64 0) := q0.cell 2
      have u3 : W9.cell? ⟨w.heap.size, 3, none⟩ = some (.slice (some ⟨BA, 0, none⟩) 3 3) := q0.cell 3
      have u4 : W9.cell? ⟨w.heap.size, 4, none⟩ = some (.slice (some ⟨DA, 0, none⟩) 2 2) := q0.cell 4
      have u5 : W9.cell? ⟨w.heap.size, 5, none⟩ = some (.int .i64 KA) := q0.cell 5
      refine bodyPost_ret (v := lnV ⟨2, (i : Int), 0, ⟨some ⟨BA, 0, none⟩, 3, 3, some ⟨DA, 0, none⟩, 2, 2, KA, LCA, LDA⟩⟩) (by simp [results, Try.results85, go_sem, u0, u1, u2, u3, u4, u5]) rfl ⟨⟨2, (i : Int), 0, ⟨some ⟨BA, 0, none⟩, 3, 3, some ⟨DA, 0, none⟩, 2, 2, KA, LCA, LDA⟩⟩, _, rfl, ⟨TT, rd, ⟨GA.C, GA.D, by simp only []; omega, by simp only []; omega⟩, fun b o e => by simp only [Option.some.injEq, Addr.mk.injEq] at e; have hb := GA.C.blk (by omega); omega, fun b o e => by simp only [Option.some.injEq, Addr.mk.injEq] at e; have hb := GA.D.blk (by omega); omega, lok2 (pot := (i : Int)) (small_of sCA sDA sKA1 sKA2) (by omega) (by omega), by omega, by omega⟩⟩
    · have hk' : (0 : Int) < (k : Int) := by omega
      have gqf_0 := qf.cell 0
      have gqf_1 := qf.cell 1
      have gqf_2 := qf.cell 2
      simp only [List.getElem?_cons_zero, List.getElem?_cons_succ] at gqf_0 gqf_1 gqf_2
      have fqf_0 := qf.free 0
      have fqf_1 := qf.free 1
      have fqf_2 := qf.free 2
      have lqf := qf.lt
      go_upto_region 11 with fail
      clear gqf_0 gqf_1 gqf_2 fqf_0 fqf_1 fqf_2 lqf
      have hwz := TT.size
      have ltF := qf.lt
      obtain ⟨BM, hBM⟩ : ∃ x, x = w6.heap.size := ⟨_, rfl⟩
      rw [← hBM]
      rw [← hBM] at hwz ltF
      have nXM : BM ≠ XF := by omega
      have nRM : BM ≠ R := by omega
      replace q0 := q0.setOther (B' := XF) (by omega) 0 (.slice (some ⟨BM, 0, none⟩) 3 3)
      replace GA := GA.setFar (X := XF) (by omega) (by omega) 0 (.slice (some ⟨BM, 0, none⟩) 3 3)
      replace qf := qf.set 0 (.slice (some ⟨BM, 0, none⟩) 3 3)
      replace rd := rd.setNew (B := XF) (by omega) (fun h0 b o e => by have := ha0 h0 b o e; omega) 0 (.slice (some ⟨BM, 0, none⟩) 3 3)
      replace TT := TT.setNewF (B := XF) (by omega) 0 (.slice (some ⟨BM, 0, none⟩) 3 3)
      have al := (Below.refl (w6.setCell ⟨XF, 0, none⟩ (.slice (some ⟨BM, 0, none⟩) 3 3)).heap.size (w6.setCell ⟨XF, 0, none⟩ (.slice (some ⟨BM, 0, none⟩) 3 3))).alloc (Nat.le_refl _) (.cells #[.int .i64 0, .int .i64 0, .int .i64 0] 3)
      have kz : Blk ((w6.setCell ⟨XF, 0, none⟩ (.slice (some ⟨BM, 0, none⟩) 3 3)).alloc (.cells #[.int .i64 0, .int .i64 0, .int .i64 0] 3)) (w6.setCell ⟨XF, 0, none⟩ (.slice (some ⟨BM, 0, none⟩) 3 3)).heap.size [0, 0, 0] := heap_alloc_new (w6.setCell ⟨XF, 0, none⟩ (.slice (some ⟨BM, 0, none⟩) 3 3)) _
      rw [show (w6.setCell ⟨XF, 0, none⟩ (.slice (some ⟨BM, 0, none⟩) 3 3)).heap.size = BM from by rw [size_setCell]; exact hBM.symm] at kz
      clear hBM
      replace q0 := q0.below al
      replace GA := GA.below al
      replace qf := qf.below al
      replace TT := TT.trans (Touch.of al)
      replace rd := rd.below al
      clear al
      have hzl := kz.lt
      have GM : FA ((w6.setCell ⟨XF, 0, none⟩ (.slice (some ⟨BM, 0, none⟩) 3 3)).alloc (.cells #[.int .i64 0, .int .i64 0, .int .i64 0] 3)) (some ⟨BM, 0, none⟩) 3 (some ⟨DA, 0, none⟩) 2 ([0, 0, 0], LDA, KA) := ⟨kz.ints' rfl, GA.D, by omega, by omega⟩
      clear kz GA
      have zM1 : w.heap.size ≤ BM := hwz
      have zM2 := zA2
      have hBMw : w.heap.size < BM := by omega
      obtain ⟨W7, hW7⟩ : ∃ W, W = ((w6.setCell ⟨XF, 0, none⟩ (.slice (some ⟨BM, 0, none⟩) 3 3)).alloc (.cells #[.int .i64 0, .int .i64 0, .int .i64 0] 3)) := ⟨_, rfl⟩
      rw [← hW7]
      rw [← hW7] at TT rd q0 qf GM
      clear hW7
      refine wp_region_ends (fun X => X.cell? ⟨XF, 0, none⟩ = some (.slice (some ⟨BM, 0, none⟩) 3 3) ∧ X.cell? ⟨XF, 1, none⟩ = some (.slice (some ⟨DA, 0, none⟩) 2 2) ∧ X.cell? ⟨XF, 2, none⟩ = some (.int .i64 KA)) (fun _ => True) 5 (by kernel_rfl) ?_
      have dr : Below W7.heap.size W7 W7.drew := (Below.refl _ _).drew
      replace q0 := q0.below dr
      replace qf := qf.below dr
      replace GM := GM.below dr
      replace TT := TT.trans (Touch.of dr)
      replace rd := rd.below dr
      clear dr
      obtain ⟨V8, hV8⟩ : ∃ W, W = W7.drew := ⟨_, rfl⟩
      rw [← hV8]
      rw [← hV8] at TT rd q0 qf GM
      clear hV8
      have hSS : (fun X : World => X.cell? ⟨XF, 0, none⟩ = some (.slice (some ⟨BM, 0, none⟩) 3 3) ∧ X.cell? ⟨XF, 1, none⟩ = some (.slice (some ⟨DA, 0, none⟩) 2 2) ∧ X.cell? ⟨XF, 2, none⟩ = some (.int .i64 KA)) V8 ∧ True := ⟨⟨qf.cell 0, qf.cell 1, qf.cell 2⟩, trivial⟩
      refine tkL (i := 0) rfl hSS ?_
      refine tkL (i := 2) rfl hSS ?_
      refine wpAnyE_one (i := 1) (by kernel_rfl) rfl (fun Kn hK => ?_)
      go_simp
      refine (pick_any R a n cap bs (p + 1 + 6 + 1) 3 _ rd (by omega) (by omega) (by omega) (by omega)).mono ?_
      rintro e w9 ⟨ri, hi0, hi1, rfl, t5, R5⟩
      obtain ⟨i, rfl⟩ := Int.eq_ofNat_of_zero_le hi0
      clear hi0
      replace q0 := q0.touch t5 nq0
      replace qf := qf.touch t5 nqf
      replace GM := GM.far t5 (lo := w.heap.size) (fun k hk => by omega) zM1 zM2
      replace TT := TT.trans t5
      replace rd := R5
      clear t5 R5
      dsimp only
      clear hSS
      have hSS : (fun X : World => X.cell? ⟨XF, 0, none⟩ = some (.slice (some ⟨BM, 0, none⟩) 3 3) ∧ X.cell? ⟨XF, 1, none⟩ = some (.slice (some ⟨DA, 0, none⟩) 2 2) ∧ X.cell? ⟨XF, 2, none⟩ = some (.int .i64 KA)) w9 ∧ True := ⟨⟨qf.cell 0, qf.cell 1, qf.cell 2⟩, trivial⟩
      refine hK.out _ _ ⟨hSS.1, fun _ => trivial⟩ ?_
      clear hK
      refine tkL (i := 3) rfl hSS ?_
      refine wpAnyE_one (i := 4) (by kernel_rfl) rfl (fun Kn hK => ?_)
      have gq0_0 := q0.cell 0
      have gq0_1 := q0.cell 1
      have gq0_2 := q0.cell 2
      have gq0_3 := q0.cell 3
      have gq0_4 := q0.cell 4
      have gq0_5 := q0.cell 5
      simp only [List.getElem?_cons_zero, List.getElem?_cons_succ] at gq0_0 gq0_1 gq0_2 gq0_3 gq0_4 gq0_5
      have fq0_0 := q0.free 0
      have fq0_1 := q0.free 1
      have fq0_2 := q0.free 2
      have fq0_3 := q0.free 3
      have fq0_4 := q0.free 4
      have fq0_5 := q0.free 5
      have lq0 := q0.lt
      go_simp
      clear gq0_0 gq0_1 gq0_2 gq0_3 gq0_4 gq0_5 fq0_0 fq0_1 fq0_2 fq0_3 fq0_4 fq0_5 lq0
      have hwt2 := TT.size
      have hlq2 := q0.lt
      replace q0 := q0.set 0 (.int .i64 2)
      replace qf := qf.setOther (B' := w.heap.size) (by omega) 0 (.int .i64 2)
      replace GM := GM.setFar (X := w.heap.size) (by omega) (by omega) 0 (.int .i64 2)
      replace rd := rd.setNew (B := w.heap.size) (by omega) (fun h0 b o e => by have := ha0 h0 b o e; omega) 0 (.int .i64 2)
      replace TT := TT.setNewF (B := w.heap.size) (by omega) 0 (.int .i64 2)
      replace q0 := q0.set 1 (.int .i64 (i : Int))
      replace qf := qf.setOther (B' := w.heap.size) (by omega) 1 (.int .i64 (i : Int))
      replace GM := GM.setFar (X := w.heap.size) (by omega) (by omega) 1 (.int .i64 (i : Int))
      replace rd := rd.setNew (B := w.heap.size) (by omega) (fun h0 b o e => by have := ha0 h0 b o e; omega) 1 (.int .i64 (i : Int))
      replace TT := TT.setNewF (B := w.heap.size) (by omega) 1 (.int .i64 (i : Int))
      replace q0 := q0.set 2 (.int .i64 0)
      replace qf := qf.setOther (B' := w.heap.size) (by omega) 2 (.int .i64 0)
      replace GM := GM.setFar (X := w.heap.size) (by omega) (by omega) 2 (.int .i64 0)
      replace rd := rd.setNew (B := w.heap.size) (by omega) (fun h0 b o e => by have := ha0 h0 b o e; omega) 2 (.int .i64 0)
      replace TT := TT.setNewF (B := w.heap.size) (by omega) 2 (.int .i64 0)
      replace q0 := q0.set 3 (.slice (some ⟨BM, 0, none⟩) 3 3)
      replace qf := qf.setOther (B' := w.heap.size) (by omega) 3 (.slice (some ⟨BM, 0, none⟩) 3 3)
      replace GM := GM.setFar (X := w.heap.size) (by omega) (by omega) 3 (.slice (some ⟨BM, 0, none⟩) 3 3)
      replace rd := rd.setNew (B := w.heap.size) (by omega) (fun h0 b o e => by have := ha0 h0 b o e; omega) 3 (.slice (some ⟨BM, 0, none⟩) 3 3)
      replace TT := TT.setNewF (B := w.heap.size) (by omega) 3 (.slice (some ⟨BM, 0, none⟩) 3 3)
      replace q0 := q0.set 4 (.slice (some ⟨DA, 0, none⟩) 2 2)
      replace qf := qf.setOther (B' := w.heap.size) (by omega) 4 (.slice (some ⟨DA, 0, none⟩) 2 2)
      replace GM := GM.setFar (X := w.heap.size) (by omega) (by omega) 4 (.slice (some ⟨DA, 0, none⟩) 2 2)
      replace rd := rd.setNew (B := w.heap.size) (by omega) (fun h0 b o e => by have := ha0 h0 b o e; omega) 4 (.slice (some ⟨DA, 0, none⟩) 2 2)
      replace TT := TT.setNewF (B := w.heap.size) (by omega) 4 (.slice (some ⟨DA, 0, none⟩) 2 2)
      replace q0 := q0.set 5 (.int .i64 KA)
      replace qf := qf.setOther (B' := w.heap.size) (by omega) 5 (.int .i64 KA)
      replace GM := GM.setFar (X := w.heap.size) (by omega) (by omega) 5 (.int .i64 KA)
      replace rd := rd.setNew (B := w.heap.size) (by omega) (fun h0 b o e => by have := ha0 h0 b o e; omega) 5 (.int .i64 KA)
      replace TT := TT.setNewF (B := w.heap.size) (by omega) 5 (.int .i64 KA)
      obtain ⟨W10, hW10⟩ : ∃ W, W = ((((((w9.setCell ⟨w.heap.size, 0, none⟩ (.int .i64 2)).setCell ⟨w.heap.size, 1, none⟩ (.int .i64 (i : Int))).setCell ⟨w.heap.size, 2, none⟩ (.int .i64 0)).setCell ⟨w.heap.size, 3, none⟩ (.slice (some ⟨BM, 0, none⟩) 3 3)).setCell ⟨w.heap.size, 4, none⟩ (.slice (some ⟨DA, 0, none⟩) 2 2)).setCell ⟨w.heap.size, 5, none⟩ (.int .i64 KA)) := ⟨_, rfl⟩
      rw [← hW10]
      rw [← hW10] at TT rd q0 qf GM
      clear hW10
      clear hSS
      have hSS : (fun X : World => X.cell? ⟨XF, 0, none⟩ = some (.slice (some ⟨BM, 0, none⟩) 3 3) ∧ X.cell? ⟨XF, 1, none⟩ = some (.slice (some ⟨DA, 0, none⟩) 2 2) ∧ X.cell? ⟨XF, 2, none⟩ = some (.int .i64 KA)) W10 ∧ True := ⟨⟨qf.cell 0, qf.cell 1, qf.cell 2⟩, trivial⟩
      refine hK.out _ _ ⟨hSS.1, fun _ => trivial⟩ ?_
      clear hK
      refine wpAnyE_done (by kernel_rfl) ?_ _
      clear hSS
      go_wp2
      have hws := TT.size
      have u0 : W10.cell? ⟨w.heap.size, 0, none⟩ = some (.int .i64 2) := q0.cell 0
      have u1 : W10.cell? ⟨w.heap.size, 1, none⟩ = some (.int .i64 (i : Int)) := q0.cell 1
      have u2 : W10.cell? ⟨w.heap.size, 2, none⟩ = some (.int .i64 0) := q0.cell 2
      have u3 : W10.cell? ⟨w.heap.size, 3, none⟩ = some (.slice (some ⟨BM, 0, none⟩) 3 3) := q0.cell 3
      have u4 : W10.cell? ⟨w.heap.size, 4, none⟩ = some (.slice (some ⟨DA, 0, none⟩) 2 2) := q0.cell 4
      have u5 : W10.cell? ⟨w.heap.size, 5, none⟩ = some (.int .i64 KA) := q0.cell 5
      refine bodyPost_ret (v := lnV ⟨2, (i : Int), 0, ⟨some ⟨BM, 0, none⟩, 3, 3, some ⟨DA, 0, none⟩, 2, 2, KA, [0, 0, 0], LDA⟩⟩) (by simp [results, Try.results85, go_sem, u0, u1, u2, u3, u4, u5]) rfl ⟨⟨2, (i : Int), 0, ⟨some ⟨BM, 0, none⟩, 3, 3, some ⟨DA, 0, none⟩, 2, 2, KA, [0, 0, 0], LDA⟩⟩, _, rfl, ⟨TT, rd, ⟨GM.C, GM.D, by simp only []; omega, by simp only []; omega⟩, fun b o e => by simp only [Option.some.injEq, Addr.mk.injEq] at e; have hb := GM.C.blk (by omega); omega, fun b o e => by simp only [Option.some.injEq, Addr.mk.injEq] at e; have hb := GM.D.blk (by omega); omega, lok2 (pot := (i : Int)) (small_of (fun i => by rcases i with _ | _ | _ | i <;> simp) sDA sKA1 sKA2) (by omega) (by omega), by omega, by omega⟩⟩
  · go_wp2_with fail
    have xA := q0.lt
    refine (small_f R a n cap bs (p + 1) _ rd (by omega) (by omega) rd.ha).mono ?_
    rintro e w4 ⟨BA, DA, LCA, LDA, KA, rfl, t5, R5, f5, sCA, sDA, sKA1, sKA2⟩
    have zA1 : w.heap.size ≤ BA := Nat.le_trans TT.size f5.b1
    have zA2 : w.heap.size ≤ DA := Nat.le_trans TT.size f5.b2
    have lCA := f5.l1
    have lDA := f5.l2
    have GA : FA w4 (some ⟨BA, 0, none⟩) 3 (some ⟨DA, 0, none⟩) 2 (LCA, LDA, KA) := ⟨f5.k1.ints' f5.l1, f5.k2.ints' f5.l2, by omega, by omega⟩
    have ltCA := f5.k1.lt
    have ltDA := f5.k2.lt
    have nCDA := f5.ne
    have yA1 := f5.b1
    have yA2 := f5.b2
    clear f5
    replace q0 := q0.touch t5 nq0
    replace TT := TT.trans t5
    replace rd := R5
    clear t5 R5
    have hwt := TT.size
    have hlq := q0.lt
    have al := (Below.refl w4.heap.size w4).alloc (Nat.le_refl _) (.cells #[.slice (some ⟨BA, 0, none⟩) 3 3, .slice (some ⟨DA, 0, none⟩) 2 2, .int .i64 KA] 34)
    have qf := Cel.new w4 [.slice (some ⟨BA, 0, none⟩) 3 3, .slice (some ⟨DA, 0, none⟩) 2 2, .int .i64 KA] 34
    replace q0 := q0.below al
    replace GA := GA.below al
    replace TT := TT.trans (Touch.of al)
    replace rd := rd.below al
    clear al
    go_wp2_with fail
    obtain ⟨W5, hW5⟩ : ∃ W, W = (w4.alloc (.cells #[.slice (some ⟨BA, 0, none⟩) 3 3, .slice (some ⟨DA, 0, none⟩) 2 2, .int .i64 KA] 34)) := ⟨_, rfl⟩
    rw [← hW5]
    rw [← hW5] at TT rd q0 GA qf
    clear hW5
    obtain ⟨XF, hXF⟩ : ∃ x, x = w4.heap.size := ⟨_, rfl⟩
    rw [← hXF]
    rw [← hXF] at qf hwt
    have nqf : XF ≠ R := by omega
    have hXw : w.heap.size < XF := by omega
    have nXB : BA ≠ XF := by omega
    have nXD : DA ≠ XF := by omega
    clear hXF
    refine (pick_any R a n cap bs (p + 1 + 6) 3 _ rd (by omega) (by omega) (by omega) (by omega)).mono ?_
    rintro e w6 ⟨rk, hk0, hk1, rfl, t5, R5⟩
    obtain ⟨k, rfl⟩ := Int.eq_ofNat_of_zero_le hk0
    clear hk0
    replace q0 := q0.touch t5 nq0
    replace GA := GA.far t5 (lo := w.heap.size) (fun k hk => by omega) zA1 zA2
    replace qf := qf.touch t5 nqf
    replace TT := TT.trans t5
    replace rd := R5
    clear t5 R5
    by_cases hk : (k : Int) = 0
    · have hk' : ¬ (0 : Int) < (k : Int) := by omega
      go_upto_region 11 with fail
      refine wp_region_ends (fun X => X.cell? ⟨XF, 0, none⟩ = some (.slice (some ⟨BA, 0, none⟩) 3 3) ∧ X.cell? ⟨XF, 1, none⟩ = some (.slice (some ⟨DA, 0, none⟩) 2 2) ∧ X.cell? ⟨XF, 2, none⟩ = some (.int .i64 KA)) (fun _ => True) 5 (by kernel_rfl) ?_
      have dr : Below w6.heap.size w6 w6.drew := (Below.refl _ _).drew
      replace q0 := q0.below dr
      replace GA := GA.below dr
      replace qf := qf.below dr
      replace TT := TT.trans (Touch.of dr)
      replace rd := rd.below dr
      clear dr
      obtain ⟨V7, hV7⟩ : ∃ W, W = w6.drew := ⟨_, rfl⟩
      rw [← hV7]
      rw [← hV7] at TT rd q0 GA qf
      clear hV7
      have hSS : (fun X : World => X.cell? ⟨XF, 0, none⟩ = some (.slice (some ⟨BA, 0, none⟩) 3 3) ∧ X.cell? ⟨XF, 1, none⟩ = some (.slice (some ⟨DA, 0, none⟩) 2 2) ∧ X.cell? ⟨XF, 2, none⟩ = some (.int .i64 KA)) V7 ∧ True := ⟨⟨qf.cell 0, qf.cell 1, qf.cell 2⟩, trivial⟩
      refine tkL (i := 0) rfl hSS ?_
      refine tkL (i := 2) rfl hSS ?_
      refine wpAnyE_one (i := 1) (by kernel_rfl) rfl (fun Kn hK => ?_)
      go_simp
      refine (pick_any R a n cap bs (p + 1 + 6 + 1) 3 _ rd (by omega) (by omega) (by omega) (by omega)).mono ?_
      rintro e w8 ⟨ri, hi0, hi1, rfl, t5, R5⟩
      obtain ⟨i, rfl⟩ := Int.eq_ofNat_of_zero_le hi0
      clear hi0
      replace q0 := q0.touch t5 nq0
      replace GA := GA.far t5 (lo := w.heap.size) (fun k hk => by omega) zA1 zA2
      replace qf := qf.touch t5 nqf
      replace TT := TT.trans t5
      replace rd := R5
      clear t5 R5
      dsimp only
      clear hSS
      have hSS : (fun X : World => X.cell? ⟨XF, 0, none⟩ = some (.slice (some ⟨BA, 0, none⟩) 3 3) ∧ X.cell? ⟨XF, 1, none⟩ = some (.slice (some ⟨DA, 0, none⟩) 2 2) ∧ X.cell? ⟨XF, 2, none⟩ = some (.int .i64 KA)) w8 ∧ True := ⟨⟨qf.cell 0, qf.cell 1, qf.cell 2⟩, trivial⟩
      refine hK.out _ _ ⟨hSS.1, fun _ => trivial⟩ ?_
      clear hK
      refine tkL (i := 3) rfl hSS ?_
      refine wpAnyE_one (i := 4) (by kernel_rfl) rfl (fun Kn hK => ?_)
      have gq0_0 := q0.cell 0
      have gq0_1 := q0.cell 1
      have gq0_2 := q0.cell 2
      have gq0_3 := q0.cell 3
      have gq0_4 := q0.cell 4
      have gq0_5 := q0.cell 5
      simp only [List.getElem?_cons_zero, List.getElem?_cons_succ] at gq0_0 gq0_1 gq0_2 gq0_3 gq0_4 gq0_5
      have fq0_0 := q0.free 0
      have fq0_1 := q0.free 1
      have fq0_2 := q0.free 2
      have fq0_3 := q0.free 3
      have fq0_4 := q0.free 4
      have fq0_5 := q0.free 5
      have lq0 := q0.lt
      go_simp
      clear gq0_0 gq0_1 gq0_2 gq0_3 gq0_4 gq0_5 fq0_0 fq0_1 fq0_2 fq0_3 fq0_4 fq0_5 lq0
      have hwt2 := TT.size
      have hlq2 := q0.lt
      replace q0 := q0.set 0 (.int .i64 2)
      replace GA := GA.setFar (X := w.heap.size) (by omega) (by omega) 0 (.int .i64 2)
      replace qf := qf.setOther (B' := w.heap.size) (by omega) 0 (.int .i64 2)
      replace rd := rd.setNew (B := w.heap.size) (by omega) (fun h0 b o e => by have := ha0 h0 b o e; omega) 0 (.int .i64 2)
      replace TT := TT.setNewF (B := w.heap.size) (by omega) 0 (.int .i64 2)
      replace q0 := q0.set 1 (.int .i64 (i : Int))
      replace GA := GA.setFar (X := w.heap.size) (by omega) (by omega) 1 (.int .i64 (i : Int))
      replace qf := qf.setOther (B' := w.heap.size) (by omega) 1 (.int .i64 (i : Int))
      replace rd := rd.setNew (B := w.heap.size) (by omega) (fun h0 b o e => by have := ha0 h0 b o e; omega) 1 (.int .i64 (i : Int))
      replace TT := TT.setNewF (B := w.heap.size) (by omega) 1 (.int .i64 (i : Int))
      replace q0 := q0.set 2 (.int .i64 0)
      replace GA := GA.setFar (X := w.heap.size) (by omega) (by omega) 2 (.int .i64 0)
      replace qf := qf.setOther (B' := w.heap.size) (by omega) 2 (.int .i64 0)
      replace rd := rd.setNew (B := w.heap.size) (by omega) (fun h0 b o e => by have := ha0 h0 b o e; omega) 2 (.int .i64 0)
      replace TT := TT.setNewF (B := w.heap.size) (by omega) 2 (.int .i64 0)
      replace q0 := q0.set 3 (.slice (some ⟨BA, 0, none⟩) 3 3)
      replace GA := GA.setFar (X := w.heap.size) (by omega) (by omega) 3 (.slice (some ⟨BA, 0, none⟩) 3 3)
      replace qf := qf.setOther (B' := w.heap.size) (by omega) 3 (.slice (some ⟨BA, 0, none⟩) 3 3)
      replace rd := rd.setNew (B := w.heap.size) (by omega) (fun h0 b o e => by have := ha0 h0 b o e; omega) 3 (.slice (some ⟨BA, 0, none⟩) 3 3)
      replace TT := TT.setNewF (B := w.heap.size) (by omega) 3 (.slice (some ⟨BA, 0, none⟩) 3 3)
      replace q0 := q0.set 4 (.slice (some ⟨DA, 0, none⟩) 2 2)
      replace GA := GA.setFar (X := w.heap.size) (by omega) (by omega) 4 (.slice (some ⟨DA, 0, none⟩) 2 2)
      replace qf := qf.setOther (B' := w.heap.size) (by omega) 4 (.slice (some ⟨DA, 0, none⟩) 2 2)
      replace rd := rd.setNew (B := w.heap.size) (by omega) (fun h0 b o e => by have := ha0 h0 b o e; omega) 4 (.slice (some ⟨DA, 0, none⟩) 2 2)
      replace TT := TT.setNewF (B := w.heap.size) (by omega) 4 (.slice (some ⟨DA, 0, none⟩) 2 2)
      replace q0 := q0.set 5 (.int .i64 KA)
      replace GA := GA.setFar (X := w.heap.size) (by omega) (by omega) 5 (.int .i64 KA)
      replace qf := qf.setOther (B' := w.heap.size) (by omega) 5 (.int .i64 KA)
      replace rd := rd.setNew (B := w.heap.size) (by omega) (fun h0 b o e => by have := ha0 h0 b o e; omega) 5 (.int .i64 KA)
      replace TT := TT.setNewF (B := w.heap.size) (by omega) 5 (.int .i64 KA)
      obtain ⟨W9, hW9⟩ : ∃ W, W = ((((((w8.setCell ⟨w.heap.size, 0, none⟩ (.int .i64 2)).setCell ⟨w.heap.size, 1, none⟩ (.int .i64 (i : Int))).setCell ⟨w.heap.size, 2, none⟩ (.int .i64 0)).setCell ⟨w.heap.size, 3, none⟩ (.slice (some ⟨BA, 0, none⟩) 3 3)).setCell ⟨w.heap.size, 4, none⟩ (.slice (some ⟨DA, 0, none⟩) 2 2)).setCell ⟨w.heap.size, 5, none⟩ (.int .i64 KA)) := ⟨_, rfl⟩
      rw [← hW9]
      rw [← hW9] at TT rd q0 GA qf
      clear hW9
      clear hSS
      have hSS : (fun X : World => X.cell? ⟨XF, 0, none⟩ = some (.slice (some ⟨BA, 0, none⟩) 3 3) ∧ X.cell? ⟨XF, 1, none⟩ = some (.slice (some ⟨DA, 0, none⟩) 2 2) ∧ X.cell? ⟨XF, 2, none⟩ = some (.int .i64 KA)) W9 ∧ True := ⟨⟨qf.cell 0, qf.cell 1, qf.cell 2⟩, trivial⟩
      refine hK.out _ _ ⟨hSS.1, fun _ => trivial⟩ ?_
      clear hK
      refine wpAnyE_done (by kernel_rfl) ?_ _
      clear hSS
      go_wp2
      have hws := TT.size
      have u0 : W9.cell? ⟨w.heap.size, 0, none⟩ = some (.int .i64 2) := q0.cell 0
      have u1 : W9.cell? ⟨w.heap.size, 1, none⟩ = some (.int .i64 (i : Int)) := q0.cell 1
      have u2 : W9.cell? ⟨w.heap.size, 2, none⟩ = some (.int .i64 0) := q0.cell 2
      have u3 : W9.cell? ⟨w.heap.size, 3, none⟩ = some (.slice (some ⟨BA, 0, none⟩) 3 3) := q0.cell 3
      have u4 : W9.cell? ⟨w.heap.size, 4, none⟩ = some (.slice (some ⟨DA, 0, none⟩) 2 2) := q0.cell 4
      have u5 : W9.cell? ⟨w.heap.size, 5, none⟩ = some (.int .i64 KA) := q0.cell 5
      refine bodyPost_ret (v := lnV ⟨2, (i : Int), 0, ⟨some ⟨BA, 0, none⟩, 3, 3, some ⟨DA, 0, none⟩, 2, 2, KA, LCA, LDA⟩⟩) (by simp [results, Try.results85, go_sem, u0, u1, u2, u3, u4, u5]) rfl ⟨⟨2, (i : Int), 0, ⟨some ⟨BA, 0, none⟩, 3, 3, some ⟨DA, 0, none⟩, 2, 2, KA, LCA, LDA⟩⟩, _, rfl, ⟨TT, rd, ⟨GA.C, GA.D, by simp only []; omega, by simp only []; omega⟩, fun b o e => by simp only [Option.some.injEq, Addr.mk.injEq] at e; have hb := GA.C.blk (by omega); omega, fun b o e => by simp only [Option.some.injEq, Addr.mk.injEq] at e; have hb := GA.D.blk (by omega); omega, lok2 (pot := (i : Int)) (small_of sCA sDA sKA1 sKA2) (by omega) (by omega), by omega, by omega⟩⟩
    · have hk' : (0 : Int) < (k : Int) := by omega
      have gqf_0 := qf.cell 0
      have gqf_1 := qf.cell 1
      have gqf_2 := qf.cell 2
      simp only [List.getElem?_cons_zero, List.getElem?_cons_succ] at gqf_0 gqf_1 gqf_2
      have fqf_0 := qf.free 0
      have fqf_1 := qf.free 1
      have fqf_2 := qf.free 2
      have lqf := qf.lt
      go_upto_region 11 with fail
      clear gqf_0 gqf_1 gqf_2 fqf_0 fqf_1 fqf_2 lqf
      have hwz := TT.size
      have ltF := qf.lt
      obtain ⟨BM, hBM⟩ : ∃ x, x = w6.heap.size := ⟨_, rfl⟩
      rw [← hBM]
      rw [← hBM] at hwz ltF
      have nXM : BM ≠ XF := by omega
      have nRM : BM ≠ R := by omega
      replace q0 := q0.setOther (B' := XF) (by omega) 0 (.slice (some ⟨BM, 0, none⟩) 3 3)
      replace GA := GA.setFar (X := XF) (by omega) (by omega) 0 (.slice (some ⟨BM, 0, none⟩) 3 3)
      replace qf := qf.set 0 (.slice (some ⟨BM, 0, none⟩) 3 3)
      replace rd := rd.setNew (B := XF) (by omega) (fun h0 b o e => by have := ha0 h0 b o e; omega) 0 (.slice (some ⟨BM, 0, none⟩) 3 3)
      replace TT := TT.setNewF (B := XF) (by omega) 0 (.slice (some ⟨BM, 0, none⟩) 3 3)
      have al := (Below.refl (w6.setCell ⟨XF, 0, none⟩ (.slice (some ⟨BM, 0, none⟩) 3 3)).heap.size (w6.setCell ⟨XF, 0, none⟩ (.slice (some ⟨BM, 0, none⟩) 3 3))).alloc (Nat.le_refl _) (.cells #[.int .i64 0, .int .i64 0, .int .i64 0] 3)
      have kz : Blk ((w6.setCell ⟨XF, 0, none⟩ (.slice (some ⟨BM, 0, none⟩) 3 3)).alloc (.cells #[.int .i64 0, .int .i64 0, .int .i64 0] 3)) (w6.setCell ⟨XF, 0, none⟩ (.slice (some ⟨BM, 0, none⟩) 3 3)).heap.size [0, 0, 0] := heap_alloc_new (w6.setCell ⟨XF, 0, none⟩ (.slice (some ⟨BM, 0, none⟩) 3 3)) _
      rw [show (w6.setCell ⟨XF, 0, none⟩ (.slice (some ⟨BM, 0, none⟩) 3 3)).heap.size = BM from by rw [size_setCell]; exact hBM.symm] at kz
      clear hBM
      replace q0 := q0.below al
      replace GA := GA.below al
      replace qf := qf.below al
      replace TT := TT.trans (Touch.of al)
      replace rd := rd.below al
      clear al
      have hzl := kz.lt
      have GM : FA ((w6.setCell ⟨XF, 0, none⟩ (.slice (some ⟨BM, 0, none⟩) 3 3)).alloc (.cells #[.int .i64 0, .int .i64 0, .int .i64 0] 3)) (some ⟨BM, 0, none⟩) 3 (some ⟨DA, 0, none⟩) 2 ([0, 0, 0], LDA, KA) := ⟨kz.ints' rfl, GA.D, by omega, by omega⟩
      clear kz GA
      have zM1 : w.heap.size ≤ BM := hwz
      have zM2 := zA2
      have hBMw : w.heap.size < BM := by omega
      obtain ⟨W7, hW7⟩ : ∃ W, W = ((w6.setCell ⟨XF, 0, none⟩ (.slice (some ⟨BM, 0, none⟩) 3 3)).alloc (.cells #[.int .i64 0, .int .i64 0, .int .i64 0] 3)) := ⟨_, rfl⟩
      rw [← hW7]
      rw [← hW7] at TT rd q0 qf GM
      clear hW7
      refine wp_region_ends (fun X => X.cell? ⟨XF, 0, none⟩ = some (.slice (some ⟨BM, 0, none⟩) 3 3) ∧ X.cell? ⟨XF, 1, none⟩ = some (.slice (some ⟨DA, 0, none⟩) 2 2) ∧ X.cell? ⟨XF, 2, none⟩ = some (.int .i64 KA)) (fun _ => True) 5 (by kernel_rfl) ?_
      have dr : Below W7.heap.size W7 W7.drew := (Below.refl _ _).drew
      replace q0 := q0.below dr
      replace qf := qf.below dr
      replace GM := GM.below dr
      replace TT := TT.trans (Touch.of dr)
      replace rd := rd.below dr
      clear dr
      obtain ⟨V8, hV8⟩ : ∃ W, W = W7.drew := ⟨_, rfl⟩
      rw [← hV8]
      rw [← hV8] at TT rd q0 qf GM
      clear hV8
      have hSS : (fun X : World => X.cell? ⟨XF, 0, none⟩ = some (.slice (some ⟨BM, 0, none⟩) 3 3) ∧ X.cell? ⟨XF, 1, none⟩ = some (.slice (some ⟨DA, 0, none⟩) 2 2) ∧ X.cell? ⟨XF, 2, none⟩ = some (.int .i64 KA)) V8 ∧ True := ⟨⟨qf.cell 0, qf.cell 1, qf.cell 2⟩, trivial⟩
      refine tkL (i := 0) rfl hSS ?_
      refine tkL (i := 2) rfl hSS ?_
      refine wpAnyE_one (i := 1) (by kernel_rfl) rfl (fun Kn hK => ?_)
      go_simp
      refine (pick_any R a n cap bs (p + 1 + 6 + 1) 3 _ rd (by omega) (by omega) (by omega) (by omega)).mono ?_
      rintro e w9 ⟨ri, hi0, hi1, rfl, t5, R5⟩
      obtain ⟨i, rfl⟩ := Int.eq_ofNat_of_zero_le hi0
      clear hi0
      replace q0 := q0.touch t5 nq0
      replace qf := qf.touch t5 nqf
      replace GM := GM.far t5 (lo := w.heap.size) (fun k hk => by omega) zM1 zM2
      replace TT := TT.trans t5
      replace rd := R5
      clear t5 R5
      dsimp only
      clear hSS
      have hSS : (fun X : World => X.cell? ⟨XF, 0, none⟩ = some (.slice (some ⟨BM, 0, none⟩) 3 3) ∧ X.cell? ⟨XF, 1, none⟩ = some (.slice (some ⟨DA, 0, none⟩) 2 2) ∧ X.cell? ⟨XF, 2, none⟩ = some (.int .i64 KA)) w9 ∧ True := ⟨⟨qf.cell 0, qf.cell 1, qf.cell 2⟩, trivial⟩
      refine hK.out _ _ ⟨hSS.1, fun _ => trivial⟩ ?_
      clear hK
      refine tkL (i := 3) rfl hSS ?_
      refine wpAnyE_one (i := 4) (by kernel_rfl) rfl (fun Kn hK => ?_)
      have gq0_0 := q0.cell 0
      have gq0_1 := q0.cell 1
      have gq0_2 := q0.cell 2
      have gq0_3 := q0.cell 3
      have gq0_4 := q0.cell 4
      have gq0_5 := q0.cell 5
      simp only [List.getElem?_cons_zero, List.getElem?_cons_succ] at gq0_0 gq0_1 gq0_2 gq0_3 gq0_4 gq0_5
      have fq0_0 := q0.free 0
      have fq0_1 := q0.free 1
      have fq0_2 := q0.free 2
      have fq0_3 := q0.free 3
      have fq0_4 := q0.free 4
      have fq0_5 := q0.free 5
      have lq0 := q0.lt
      go_simp
      clear gq0_0 gq0_1 gq0_2 gq0_3 gq0_4 gq0_5 fq0_0 fq0_1 fq0_2 fq0_3 fq0_4 fq0_5 lq0
      have hwt2 := TT.size
      have hlq2 := q0.lt
      replace q0 := q0.set 0 (.int .i64 2)
      replace qf := qf.setOther (B' := w.heap.size) (by omega) 0 (.int .i64 2)
      replace GM := GM.setFar (X := w.heap.size) (by omega) (by omega) 0 (.int .i64 2)
      replace rd := rd.setNew (B := w.heap.size) (by omega) (fun h0 b o e => by have := ha0 h0 b o e; omega) 0 (.int .i64 2)
      replace TT := TT.setNewF (B := w.heap.size) (by omega) 0 (.int .i64 2)
      replace q0 := q0.set 1 (.int .i64 (i : Int))
      replace qf := qf.setOther (B' := w.heap.size) (by omega) 1 (.int .i64 (i : Int))
      replace GM := GM.setFar (X := w.heap.size) (by omega) (by omega) 1 (.int .i64 (i : Int))
      replace rd := rd.setNew (B := w.heap.size) (by omega) (fun h0 b o e => by have := ha0 h0 b o e; omega) 1 (.int .i64 (i : Int))
      replace TT := TT.setNewF (B := w.heap.size) (by omega) 1 (.int .i64 (i : Int))
      replace q0 := q0.set 2 (.int .i64 0)
      replace qf := qf.setOther (B' := w.heap.size) (by omega) 2 (.int .i64 0)
      replace GM := GM.setFar (X := w.heap.size) (by omega) (by omega) 2 (.int .i64 0)
      replace rd := rd.setNew (B := w.heap.size) (by omega) (fun h0 b o e => by have := ha0 h0 b o e; omega) 2 (.int .i64 0)
      replace TT := TT.setNewF (B := w.heap.size) (by omega) 2 (.int .i64 0)
      replace q0 := q0.set 3 (.slice (some ⟨BM, 0, none⟩) 3 3)
      replace qf := qf.setOther (B' := w.heap.size) (by omega) 3 (.slice (some ⟨BM, 0, none⟩) 3 3)
      replace GM := GM.setFar (X := w.heap.size) (by omega) (by omega) 3 (.slice (some ⟨BM, 0, none⟩) 3 3)
      replace rd := rd.setNew (B := w.heap.size) (by omega) (fun h0 b o e => by have := ha0 h0 b o e; omega) 3 (.slice (some ⟨BM, 0, none⟩) 3 3)
      replace TT := TT.setNewF (B := w.heap.size) (by omega) 3 (.slice (some ⟨BM, 0, none⟩) 3 3)
      replace q0 := q0.set 4 (.slice (some ⟨DA, 0, none⟩) 2 2)
      replace qf := qf.setOther (B' := w.heap.size) (by omega) 4 (.slice (some ⟨DA, 0, none⟩) 2 2)
      replace GM := GM.setFar (X := w.heap.size) (by omega) (by omega) 4 (.slice (some ⟨DA, 0, none⟩) 2 2)
      replace rd := rd.setNew (B := w.heap.size) (by omega) (fun h0 b o e => by have := ha0 h0 b o e; omega) 4 (.slice (some ⟨DA, 0, none⟩) 2 2)
      replace TT := TT.setNewF (B := w.heap.size) (by omega) 4 (.slice (some ⟨DA, 0, none⟩) 2 2)
      replace q0 := q0.set 5 (.int .i64 KA)
      replace qf := qf.setOther (B' := w.heap.size) (by omega) 5 (.int .i64 KA)
      replace GM := GM.setFar (X := w.heap.size) (by omega) (by omega) 5 (.int .i64 KA)
      replace rd := rd.setNew (B := w.heap.size) (by omega) (fun h0 b o e => by have := ha0 h0 b o e; omega) 5 (.int .i64 KA)
      replace TT := TT.setNewF (B := w.heap.size) (by omega) 5 (.int .i64 KA)
      obtain ⟨W10, hW10⟩ : ∃ W, W = ((((((w9.setCell ⟨w.heap.size, 0, none⟩ (.int .i64 2)).setCell ⟨w.heap.size, 1, none⟩ (.int .i64 (i : Int))).setCell ⟨w.heap.size, 2, none⟩ (.int .i64 0)).setCell ⟨w.heap.size, 3, none⟩ (.slice (some ⟨BM, 0, none⟩) 3 3)).setCell ⟨w.heap.size, 4, none⟩ (.slice (some ⟨DA, 0, none⟩) 2 2)).setCell ⟨w.heap.size, 5, none⟩ (.int .i64 KA)) := ⟨_, rfl⟩
      rw [← hW10]
      rw [← hW10] at TT rd q0 qf GM
      clear hW10
      clear hSS
      have hSS : (fun X : World => X.cell? ⟨XF, 0, none⟩ = some (.slice (some ⟨BM, 0, none⟩) 3 3) ∧ X.cell? ⟨XF, 1, none⟩ = some (.slice (some ⟨DA, 0, none⟩) 2 2) ∧ X.cell? ⟨XF, 2, none⟩ = some (.int .i64 KA)) W10 ∧ True := ⟨⟨qf.cell 0, qf.cell 1, qf.cell 2⟩, trivial⟩
      refine hK.out _ _ ⟨hSS.1, fun _ => trivial⟩ ?_
      clear hK
      refine wpAnyE_done (by kernel_rfl) ?_ _
      clear hSS
      go_wp2
      have hws := TT.size
      have u0 : W10.cell? ⟨w.heap.size, 0, none⟩ = some (.int .i64 2) := q0.cell 0
      have u1 : W10.cell? ⟨w.heap.size, 1, none⟩ = some (.int .i64 (i : Int)) := q0.cell 1
      have u2 : W10.cell? ⟨w.heap.size, 2, none⟩ = some (.int .i64 0) := q0.cell 2
      have u3 : W10.cell? ⟨w.heap.size, 3, none⟩ = some (.slice (some ⟨BM, 0, none⟩) 3 3) := q0.cell 3
      have u4 : W10.cell? ⟨w.heap.size, 4, none⟩ = some (.slice (some ⟨DA, 0, none⟩) 2 2) := q0.cell 4
      have u5 : W10.cell? ⟨w.heap.size, 5, none⟩ = some (.int .i64 KA) := q0.cell 5
      refine bodyPost_ret (v := lnV ⟨2, (i : Int), 0, ⟨some ⟨BM, 0, none⟩, 3, 3, some ⟨DA, 0, none⟩, 2, 2, KA, [0, 0, 0], LDA⟩⟩) (by simp [results, Try.results85, go_sem, u0, u1, u2, u3, u4, u5]) rfl ⟨⟨2, (i : Int), 0, ⟨some ⟨BM, 0, none⟩, 3, 3, some ⟨DA, 0, none⟩, 2, 2, KA, [0, 0, 0], LDA⟩⟩, _, rfl, ⟨TT, rd, ⟨GM.C, GM.D, by simp only []; omega, by simp only []; omega⟩, fun b o e => by simp only [Option.some.injEq, Addr.mk.injEq] at e; have hb := GM.C.blk (by omega); omega, fun b o e => by simp only [Option.some.injEq, Addr.mk.injEq] at e; have hb := GM.D.blk (by omega); omega, lok2 (pot := (i : Int)) (small_of (fun i => by rcases i with _ | _ | _ | i <;> simp) sDA sKA1 sKA2) (by omega) (by omega), by omega, by omega⟩⟩
  · go_wp2_with fail
    have xA := q0.lt
    refine (small_f R a n cap bs (p + 1) _ rd (by omega) (by omega) rd.ha).mono ?_
    rintro e w4 ⟨BA, DA, LCA, LDA, KA, rfl, t5, R5, f5, sCA, sDA, sKA1, sKA2⟩
    have zA1 : w.heap.size ≤ BA := Nat.le_trans TT.size f5.b1
    have zA2 : w.heap.size ≤ DA := Nat.le_trans TT.size f5.b2
    have lCA := f5.l1
    have lDA := f5.l2
    have GA : FA w4 (some ⟨BA, 0, none⟩) 3 (some ⟨DA, 0, none⟩) 2 (LCA, LDA, KA) := ⟨f5.k1.ints' f5.l1, f5.k2.ints' f5.l2, by omega, by omega⟩
    have ltCA := f5.k1.lt
    have ltDA := f5.k2.lt
    have nCDA := f5.ne
    have yA1 := f5.b1
    have yA2 := f5.b2
    clear f5
    replace q0 := q0.touch t5 nq0
    replace TT := TT.trans t5
    replace rd := R5
    clear t5 R5
    have gq0_0 := q0.cell 0
    have gq0_1 := q0.cell 1
    have gq0_2 := q0.cell 2
    have gq0_3 := q0.cell 3
    have gq0_4 := q0.cell 4
    have gq0_5 := q0.cell 5
    simp only [List.getElem?_cons_zero, List.getElem?_cons_succ] at gq0_0 gq0_1 gq0_2 gq0_3 gq0_4 gq0_5
    have fq0_0 := q0.free 0
    have fq0_1 := q0.free 1
    have fq0_2 := q0.free 2
    have fq0_3 := q0.free 3
    have fq0_4 := q0.free 4
    have fq0_5 := q0.free 5
    have lq0 := q0.lt
    go_wp2
    clear gq0_0 gq0_1 gq0_2 gq0_3 gq0_4 gq0_5 fq0_0 fq0_1 fq0_2 fq0_3 fq0_4 fq0_5 lq0
    have hwt := TT.size
    have hlq := q0.lt
    replace q0 := q0.set 0 (.int .i64 3)
    replace GA := GA.setFar (X := w.heap.size) (by omega) (by omega) 0 (.int .i64 3)
    replace rd := rd.setNew (B := w.heap.size) (by omega) (fun h0 b o e => by have := ha0 h0 b o e; omega) 0 (.int .i64 3)
    replace TT := TT.setNewF (B := w.heap.size) (by omega) 0 (.int .i64 3)
    replace q0 := q0.set 1 (.int .i64 0)
    replace GA := GA.setFar (X := w.heap.size) (by omega) (by omega) 1 (.int .i64 0)
    replace rd := rd.setNew (B := w.heap.size) (by omega) (fun h0 b o e => by have := ha0 h0 b o e; omega) 1 (.int .i64 0)
    replace TT := TT.setNewF (B := w.heap.size) (by omega) 1 (.int .i64 0)
    replace q0 := q0.set 2 (.int .i64 0)
    replace GA := GA.setFar (X := w.heap.size) (by omega) (by omega) 2 (.int .i64 0)
    replace rd := rd.setNew (B := w.heap.size) (by omega) (fun h0 b o e => by have := ha0 h0 b o e; omega) 2 (.int .i64 0)
    replace TT := TT.setNewF (B := w.heap.size) (by omega) 2 (.int .i64 0)
    replace q0 := q0.set 3 (.slice (some ⟨BA, 0, none⟩) 3 3)
    replace GA := GA.setFar (X := w.heap.size) (by omega) (by omega) 3 (.slice (some ⟨BA, 0, none⟩) 3 3)
    replace rd := rd.setNew (B := w.heap.size) (by omega) (fun h0 b o e => by have := ha0 h0 b o e; omega) 3 (.slice (some ⟨BA, 0, none⟩) 3 3)
    replace TT := TT.setNewF (B := w.heap.size) (by omega) 3 (.slice (some ⟨BA, 0, none⟩) 3 3)
    replace q0 := q0.set 4 (.slice (some ⟨DA, 0, none⟩) 2 2)
    replace GA := GA.setFar (X := w.heap.size) (by omega) (by omega) 4 (.slice (some ⟨DA, 0, none⟩) 2 2)
    replace rd := rd.setNew (B := w.heap.size) (by omega) (fun h0 b o e => by have := ha0 h0 b o e; omega) 4 (.slice (some ⟨DA, 0, none⟩) 2 2)
    replace TT := TT.setNewF (B := w.heap.size) (by omega) 4 (.slice (some ⟨DA, 0, none⟩) 2 2)
    replace q0 := q0.set 5 (.int .i64 KA)
    replace GA := GA.setFar (X := w.heap.size) (by omega) (by omega) 5 (.int .i64 KA)
    replace rd := rd.setNew (B := w.heap.size) (by omega) (fun h0 b o e => by have := ha0 h0 b o e; omega) 5 (.int .i64 KA)
    replace TT := TT.setNewF (B := w.heap.size) (by omega) 5 (.int .i64 KA)
    obtain ⟨W5, hW5⟩ : ∃ W, W = ((((((w4.setCell ⟨w.heap.size, 0, none⟩ (.int .i64 3)).setCell ⟨w.heap.size, 1, none⟩ (.int .i64 0)).setCell ⟨w.heap.size, 2, none⟩ (.int .i64 0)).setCell ⟨w.heap.size, 3, none⟩ (.slice (some ⟨BA, 0, none⟩) 3 3)).setCell ⟨w.heap.size, 4, none⟩ (.slice (some ⟨DA, 0, none⟩) 2 2)).setCell ⟨w.heap.size, 5, none⟩ (.int .i64 KA)) := ⟨_, rfl⟩
    rw [← hW5]
    rw [← hW5] at TT rd q0 GA
    clear hW5
    have hws := TT.size
    have u0 : W5.cell? ⟨w.heap.size, 0, none⟩ = some (.int .i64 3) := q0.cell 0
    have u1 : W5.cell? ⟨w.heap.size, 1, none⟩ = some (.int .i64 0) := q0.cell 1
    have u2 : W5.cell? ⟨w.heap.size, 2, none⟩ = some (.int .i64 0) := q0.cell 2
    have u3 : W5.cell? ⟨w.heap.size, 3, none⟩ = some (.slice (some ⟨BA, 0, none⟩) 3 3) := q0.cell 3
    have u4 : W5.cell? ⟨w.heap.size, 4, none⟩ = some (.slice (some ⟨DA, 0, none⟩) 2 2) := q0.cell 4
    have u5 : W5.cell? ⟨w.heap.size, 5, none⟩ = some (.int .i64 KA) := q0.cell 5
    refine bodyPost_ret (v := lnV ⟨3, 0, 0, ⟨some ⟨BA, 0, none⟩, 3, 3, some ⟨DA, 0, none⟩, 2, 2, KA, LCA, LDA⟩⟩) (by simp [results, Try.results85, go_sem, u0, u1, u2, u3, u4, u5]) rfl ⟨⟨3, 0, 0, ⟨some ⟨BA, 0, none⟩, 3, 3, some ⟨DA, 0, none⟩, 2, 2, KA, LCA, LDA⟩⟩, _, rfl, ⟨TT, rd, ⟨GA.C, GA.D, by simp only []; omega, by simp only []; omega⟩, fun b o e => by simp only [Option.some.injEq, Addr.mk.injEq] at e; have hb := GA.C.blk (by omega); omega, fun b o e => by simp only [Option.some.injEq, Addr.mk.injEq] at e; have hb := GA.D.blk (by omega); omega, lok3 (small_of sCA sDA sKA1 sKA2), by omega, by omega⟩⟩
  · have gq0_0 := q0.cell 0
    have gq0_1 := q0.cell 1
    have gq0_2 := q0.cell 2
    have gq0_3 := q0.cell 3
    have gq0_4 := q0.cell 4
    have gq0_5 := q0.cell 5
    simp only [List.getElem?_cons_zero, List.getElem?_cons_succ] at gq0_0 gq0_1 gq0_2 gq0_3 gq0_4 gq0_5
    have fq0_0 := q0.free 0
    have fq0_1 := q0.free 1
    have fq0_2 := q0.free 2
    have fq0_3 := q0.free 3
    have fq0_4 := q0.free 4
    have fq0_5 := q0.free 5
    have lq0 := q0.lt
    go_wp2
    clear gq0_0 gq0_1 gq0_2 gq0_3 gq0_4 gq0_5 fq0_0 fq0_1 fq0_2 fq0_3 fq0_4 fq0_5 lq0
    have hwt := TT.size
    have hlq := q0.lt
    replace q0 := q0.set 0 (.int .i64 4)
    replace rd := rd.setNew (B := w.heap.size) (by omega) (fun h0 b o e => by have := ha0 h0 b o e; omega) 0 (.int .i64 4)
    replace TT := TT.setNewF (B := w.heap.size) (by omega) 0 (.int .i64 4)
    replace q0 := q0.set 1 (.int .i64 0)
    replace rd := rd.setNew (B := w.heap.size) (by omega) (fun h0 b o e => by have := ha0 h0 b o e; omega) 1 (.int .i64 0)
    replace TT := TT.setNewF (B := w.heap.size) (by omega) 1 (.int .i64 0)
    replace q0 := q0.set 2 (.int .i64 0)
    replace rd := rd.setNew (B := w.heap.size) (by omega) (fun h0 b o e => by have := ha0 h0 b o e; omega) 2 (.int .i64 0)
    replace TT := TT.setNewF (B := w.heap.size) (by omega) 2 (.int .i64 0)
    replace q0 := q0.set 3 (.slice none 0 0)
    replace rd := rd.setNew (B := w.heap.size) (by omega) (fun h0 b o e => by have := ha0 h0 b o e; omega) 3 (.slice none 0 0)
    replace TT := TT.setNewF (B := w.heap.size) (by omega) 3 (.slice none 0 0)
    replace q0 := q0.set 4 (.slice none 0 0)
    replace rd := rd.setNew (B := w.heap.size) (by omega) (fun h0 b o e => by have := ha0 h0 b o e; omega) 4 (.slice none 0 0)
    replace TT := TT.setNewF (B := w.heap.size) (by omega) 4 (.slice none 0 0)
    replace q0 := q0.set 5 (.int .i64 0)
    replace rd := rd.setNew (B := w.heap.size) (by omega) (fun h0 b o e => by have := ha0 h0 b o e; omega) 5 (.int .i64 0)
    replace TT := TT.setNewF (B := w.heap.size) (by omega) 5 (.int .i64 0)
    obtain ⟨W4, hW4⟩ : ∃ W, W = ((((((w3.setCell ⟨w.heap.size, 0, none⟩ (.int .i64 4)).setCell ⟨w.heap.size, 1, none⟩ (.int .i64 0)).setCell ⟨w.heap.size, 2, none⟩ (.int .i64 0)).setCell ⟨w.heap.size, 3, none⟩ (.slice none 0 0)).setCell ⟨w.heap.size, 4, none⟩ (.slice none 0 0)).setCell ⟨w.heap.size, 5, none⟩ (.int .i64 0)) := ⟨_, rfl⟩
    rw [← hW4]
    rw [← hW4] at TT rd q0
    clear hW4
    have hws := TT.size
    have u0 : W4.cell? ⟨w.heap.size, 0, none⟩ = some (.int .i64 4) := q0.cell 0
    have u1 : W4.cell? ⟨w.heap.size, 1, none⟩ = some (.int .i64 0) := q0.cell 1
    have u2 : W4.cell? ⟨w.heap.size, 2, none⟩ = some (.int .i64 0) := q0.cell 2
    have u3 : W4.cell? ⟨w.heap.size, 3, none⟩ = some (.slice none 0 0) := q0.cell 3
    have u4 : W4.cell? ⟨w.heap.size, 4, none⟩ = some (.slice none 0 0) := q0.cell 4
    have u5 : W4.cell? ⟨w.heap.size, 5, none⟩ = some (.int .i64 0) := q0.cell 5
    refine bodyPost_ret (v := lnV ⟨4, 0, 0, ⟨none, 0, 0, none, 0, 0, 0, [], []⟩⟩) (by simp [results, Try.results85, go_sem, u0, u1, u2, u3, u4, u5]) rfl ⟨⟨4, 0, 0, ⟨none, 0, 0, none, 0, 0, 0, [], []⟩⟩, _, rfl, ⟨TT, rd, ⟨⟨rfl, fun i hi => absurd hi (Nat.not_lt_zero _)⟩, ⟨rfl, fun i hi => absurd hi (Nat.not_lt_zero _)⟩, Nat.zero_le _, Nat.zero_le _⟩, (fun b o e => by cases e), (fun b o e => by cases e), by decide, by omega, by omega⟩⟩

end Go.Proofs.Ytemcinobgdphnaa
namespace Go.Proofs.Ytemcinobgdphnaa
open Go.RowKit
set_option linter.unusedVariables false
set_option maxRecDepth 100000

theorem flatL_at : ∀ (ls : List LV) (i : Nat), i < ls.length → ∀ r, r < 6 → (ls.flatMap LV.cs)[i * 6 + r]? = (ls[i]?.getD noLV).cs[r]? := by
  intro ls
  induction ls with
  | nil => intro i hi; simp at hi
  | cons g gs ih =>
    intro i hi r hr
    rcases i with _ | i
    · simp only [List.flatMap_cons, Nat.zero_mul, Nat.zero_add, List.getElem?_cons_zero, Option.getD_some]
      rw [List.getElem?_append_left (by simp [LV.cs]; omega)]
    · simp only [List.flatMap_cons, List.getElem?_cons_succ]
      rw [List.getElem?_append_right (by simp [LV.cs]; omega)]
      have e : (i + 1) * 6 + r - g.cs.length = i * 6 + r := by simp [LV.cs]; omega
      rw [e]
      exact ih i (by simpa using hi) r hr
theorem flatL_len (ls : List LV) : (ls.flatMap LV.cs).length = ls.length * 6 := by
  induction ls with
  | nil => rfl
  | cons g gs ih => rw [List.flatMap_cons, List.length_append, ih]; simp [LV.cs]; omega
theorem flatL_one (ls : List LV) : ∀ u ∈ ls.flatMap LV.cs, u.oneCell' = true := by
  intro u hu
  obtain ⟨l, _, h⟩ := List.mem_flatMap.1 hu
  simp only [LV.cs, List.mem_cons, List.not_mem_nil, or_false] at h
  rcases h with rfl | rfl | rfl | rfl | rfl | rfl <;> rfl
theorem linesG_own {W : World} {base N cap : Nat} {ad : Option Addr} {ls : List LV} (h : W.ownsRow base 51 6 (.slice ad N cap) N (ls.flatMap LV.cs)) (hl : ls.length = N) (ha : ∀ i, i < ls.length → (ls[i]?.getD noLV).f.At W) : LinesG W ad ls := by
  intro i hi
  rcases h.2 with ⟨hv, h0⟩ | ⟨g, cap', cur, hv, _⟩
  · omega
  · simp only [Value.slice.injEq, true_and] at hv
    obtain ⟨rfl, rfl⟩ := hv
    refine ⟨g, 0, rfl, fun r hr => ?_, ha i hi⟩
    have := h.cellAt (i * 6 + r) (by omega)
    rw [flatL_at ls i hi r hr] at this
    rw [← this, Nat.zero_add]

theorem own_slice {W : World} {base m s : Nat} {e : TypeId} {v : Value} {xs : List Value} (h : W.ownsRow base e s v m xs) : ∃ ad c, v = .slice ad m c := by
  rcases h.2 with ⟨hv, h0⟩ | ⟨g, cap, cur, hv, _⟩
  · exact ⟨none, 0, by rw [hv, h0]⟩
  · exact ⟨_, _, hv⟩
/-- An act that is being drawn. -/
structure JL (wL : World) (R : Nat) (a : Option Addr) (n cap : Nat) (bs : List Int) (q : Int) (v : Value) (ls : List LV) (W : World) : Prop where
  t : Touch (fun x => x = R) wL W
  r : Rd W R a n cap bs q
  o : W.ownsRow wL.heap.size 51 6 v ls.length (ls.flatMap LV.cs)
  at' : ∀ i, i < ls.length → (ls[i]?.getD noLV).f.At W
  na : ∀ i, i < ls.length → ∀ b o, (ls[i]?.getD noLV).f.a = some ⟨b, o, none⟩ → wL.heap.size ≤ b ∧ b < W.heap.size ∧ v.ownBlock ≠ some b
  nc : ∀ i, i < ls.length → ∀ b o, (ls[i]?.getD noLV).f.c = some ⟨b, o, none⟩ → wL.heap.size ≤ b ∧ b < W.heap.size ∧ v.ownBlock ≠ some b
  lR : R < wL.heap.size
  lb : 0 < n → ∀ b o, a = some ⟨b, o, none⟩ → b < wL.heap.size
section
variable {wL W W' : World} {R : Nat} {a : Option Addr} {n cap : Nat} {bs : List Int} {q : Int} {v : Value} {ls : List LV}
theorem own_belowL {base : Nat} {e : TypeId} {s : Nat} {m : Nat} {xs : List Value} (h : W.ownsRow base e s v m xs) (b : Below W.heap.size W W') : W'.ownsRow base e s v m xs := by
  obtain ⟨h1, h2⟩ := h
  refine ⟨h1, ?_⟩
  rcases h2 with h2 | ⟨g, cap, cur, hv, hg, hh, r⟩
  · exact Or.inl h2
  · exact Or.inr ⟨g, cap, cur, hv, hg, by rw [b.block g (lt_of_block hh)]; exact hh, r⟩
theorem JL.below (j : JL wL R a n cap bs q v ls W) (b : Below W.heap.size W W') : JL wL R a n cap bs q v ls W' :=
  ⟨j.t.trans (Touch.of b), j.r.below b, own_belowL j.o b, fun i hi => (j.at' i hi).below b, fun i hi x o e => by have h := j.na i hi x o e; have := b.size; exact ⟨h.1, by omega, h.2.2⟩, fun i hi x o e => by have h := j.nc i hi x o e; have := b.size; exact ⟨h.1, by omega, h.2.2⟩, j.lR, j.lb⟩
theorem FV.At.off {S : Nat → Prop} {f : FV} (h : f.At W) (t : Touch S W W') (h1 : ∀ b o, f.a = some ⟨b, o, none⟩ → ¬ S b) (h2 : ∀ b o, f.c = some ⟨b, o, none⟩ → ¬ S b) : f.At W' := ⟨h.C.off t h1, h.D.off t h2, h.hn, h.hm⟩
theorem JL.pick {q' : Int} (j : JL wL R a n cap bs q v ls W) (t : Touch (fun x => x = R) W W') (r : Rd W' R a n cap bs q') : JL wL R a n cap bs q' v ls W' := by
  have lR := j.lR
  exact ⟨j.t.trans t, r, ownsRow_touch j.o t (fun k h => by omega), fun i hi => (j.at' i hi).off t (fun b o e h => by have := (j.na i hi b o e).1; omega) (fun b o e h => by have := (j.nc i hi b o e).1; omega), fun i hi x o e => by have h := j.na i hi x o e; have := t.size; exact ⟨h.1, by omega, h.2.2⟩, fun i hi x o e => by have h := j.nc i hi x o e; have := t.size; exact ⟨h.1, by omega, h.2.2⟩, j.lR, j.lb⟩
theorem JL.g {ad : Option Addr} {N c : Nat} (j : JL wL R a n cap bs q (.slice ad N c) ls W) (hl : ls.length = N) : LinesG W ad ls := linesG_own (by have h := j.o; rw [hl] at h; exact h) hl j.at'
/-- A line is put behind the others. -/
theorem JL.app {l : LV} {g c k : Nat} {H : Nat} (j : JL wL R a n cap bs q v ls W) (hk : ls.length = k) (hl : l.f.At W) (la : ∀ b o, l.f.a = some ⟨b, o, none⟩ → wL.heap.size ≤ b ∧ b < H ∧ v.ownBlock ≠ some b) (lc : ∀ b o, l.f.c = some ⟨b, o, none⟩ → wL.heap.size ≤ b ∧ b < H ∧ v.ownBlock ≠ some b) (hH : H ≤ W.heap.size) (hsz : ∀ i, i < ls.length → (∀ b o, (ls[i]?.getD noLV).f.a = some ⟨b, o, none⟩ → b < H) ∧ (∀ b o, (ls[i]?.getD noLV).f.c = some ⟨b, o, none⟩ → b < H))
    (hown : W'.ownsRow wL.heap.size 51 6 (.slice (some ⟨g, 0, none⟩) (k + 1) c) (k + 1) (ls.flatMap LV.cs ++ l.cs)) (hg : W.grownBy W' v.ownBlock) (hat : v.ownBlock = some g ∨ H ≤ g) : JL wL R a n cap bs q (.slice (some ⟨g, 0, none⟩) (k + 1) c) (ls ++ [l]) W' := by
  have hr : ∀ x, v.ownBlock = some x → wL.heap.size ≤ x := fun x hx => (j.o.lt x hx).1
  have lR := j.lR
  have T : Touch (fun x => v.ownBlock = some x) W W' := ⟨hg.os, hg.tape, hg.output, hg.size, fun x hx hs => hg.block x hx (fun e => hs e.symm)⟩
  have hn : ∀ b, v.ownBlock ≠ some b → b < H → (Value.slice (some ⟨g, 0, none⟩) (k + 1) c).ownBlock ≠ some b := fun b h1 h2 e => by
    simp only [Value.ownBlock, Option.some.injEq] at e
    rcases hat with h | h
    · rw [h] at h1; exact h1 (by rw [e])
    · omega
  have key : ∀ i, i < (ls ++ [l]).length → (i < ls.length ∧ (ls ++ [l])[i]?.getD noLV = ls[i]?.getD noLV) ∨ (ls ++ [l])[i]?.getD noLV = l := fun i hi => by
    by_cases h : i < ls.length
    · left; exact ⟨h, by rw [List.getElem?_append_left h]⟩
    · right
      have : i = ls.length := by rw [List.length_append] at hi; simp at hi; omega
      subst this
      simp
  have hs := hg.size
  refine ⟨j.t.grown hg hr, j.r.touch T (fun e => by have := hr _ e; omega) (fun h0 b o hab e => by have := j.lb h0 b o hab; have := hr _ e; omega), ?_, fun i hi => ?_, fun i hi b o e => ?_, fun i hi b o e => ?_, j.lR, j.lb⟩
  · rw [List.length_append, hk, List.flatMap_append]
    simpa using hown
  · rcases key i hi with ⟨h, e⟩ | e
    · rw [e]; exact (j.at' i h).off T (fun b o e h' => (j.na i h b o e).2.2 h') (fun b o e h' => (j.nc i h b o e).2.2 h')
    · rw [e]; exact hl.off T (fun b o e h' => (la b o e).2.2 h') (fun b o e h' => (lc b o e).2.2 h')
  · rcases key i hi with ⟨h, e'⟩ | e'
    · rw [e'] at e; have h3 := j.na i h b o e; exact ⟨h3.1, by omega, hn b h3.2.2 ((hsz i h).1 b o e)⟩
    · rw [e'] at e; have h3 := la b o e; exact ⟨h3.1, by omega, hn b h3.2.2 h3.2.1⟩
  · rcases key i hi with ⟨h, e'⟩ | e'
    · rw [e'] at e; have h3 := j.nc i h b o e; exact ⟨h3.1, by omega, hn b h3.2.2 ((hsz i h).2 b o e)⟩
    · rw [e'] at e; have h3 := lc b o e; exact ⟨h3.1, by omega, hn b h3.2.2 h3.2.1⟩
end

theorem newsL {W : World} {base g cap k : Nat} {xs : List Value} (h : W.ownsRow base 51 6 (.slice (some ⟨g, 0, none⟩) k cap) k xs) : ∀ j u, xs[j]? = some u → W.cell? ((⟨g, 0, none⟩ : Addr).add j) = some u := fun j u hu => by
  have hj : j < k * 6 := by
    have h1 := h.1
    have : j < xs.length := by
      rcases Nat.lt_or_ge j xs.length with h | h
      · exact h
      · rw [List.getElem?_eq_none h] at hu; cases hu
    omega
  have := h.cellAt j hj
  rw [hu] at this
  have hadd : (⟨g, 0, none⟩ : Addr).add j = ⟨g, j, none⟩ := by
    by_cases h0 : j = 0
    · subst h0; simp [Addr.add]
    · simp [Addr.add, h0]
  rw [hadd]; exact this

theorem Try.infoLn : (Try.prog.info? 51).map (fun i => (i.zero, i.size, i.bytes)) = some (some (.agg #[.int .i64 0, .int .i64 0, .int .i64 0, .slice none 0 0, .slice none 0 0, .int .i64 0]), 6, 80) := by kernel_rfl

set_option maxHeartbeats 1600000 in
/-- Lines are copied behind an empty literal. -/
theorem wp_copyL {o : Oper} {a : Act} {K : Act → World → Prop} {Q : Exit → Act → World → Prop} {W : World} (s x : Operand) (ho : o.op = .call { callee := .builtin .append, args := #[s, x], argTypes := #[52, 52] }) (base base' L k : Nat) (ad : Option Addr) (cap : Nat) (ls : List LV)
    (hs : a.eval s = .slice (some ⟨L, 0, none⟩) 0 0) (hown : W.ownsRow base 51 6 (.slice (some ⟨L, 0, none⟩) 0 0) 0 []) (hx : a.eval x = .slice ad k cap) (hb : W.ownsRow base' 51 6 (.slice ad k cap) k (ls.flatMap LV.cs)) (hl : ls.length = k) (hn : k ≤ 1000) (hbase : base ≤ W.heap.size)
    (h : ∀ v' W1, Below base W W1 → Touch (fun z => z = L) W W1 → W1.ownsRow base 51 6 v' k (ls.flatMap LV.cs) → (∀ B, v'.ownBlock = some B → B = L ∨ W.heap.size ≤ B) → K (a.put o.dst v') W1) : o.wp Try.prog a W K Q := by
  by_cases h0 : 0 < k
  · obtain ⟨i0, hi, hz0, hz1, hz2⟩ := info_parts Try.infoLn
    rcases hb.2 with ⟨_, h1⟩ | ⟨g, cap', cur, hv, _⟩
    · omega
    simp only [Value.slice.injEq, true_and] at hv
    obtain ⟨rfl, rfl⟩ := hv
    refine wp_append_lies _ s x 52 ho base 51 i0 _ 6 80 Try.underlying52 hi hz0 hz1 hz2 rfl (by omega) _ 0 [] hs hown ⟨g, 0, none⟩ k cap (ls.flatMap LV.cs) hx (by rw [flatL_len, hl]) (newsL hb) (flatL_one ls) h0 (by unfold maxLen; omega) (by omega) hbase _ rfl ?_
    intro g' cp W1 ho1 hg hat hlt
    have hL : ∀ z, (Value.slice (some ⟨L, 0, none⟩) 0 0).ownBlock = some z → base ≤ z := fun z hz => (hown.lt z hz).1
    simp only [Nat.zero_add] at ho1 ⊢
    refine h _ W1 ((Below.refl base W).grown hg hbase hL) ⟨hg.os, hg.tape, hg.output, hg.size, fun z hz hn => hg.block z hz (fun e => hn (by simpa [Value.ownBlock] using e))⟩ (by simpa using ho1) (fun B hB => ?_)
    simp only [Value.ownBlock, Option.some.injEq] at hB hat
    omega
  · obtain rfl : k = 0 := by omega
    have hls : ls = [] := List.eq_nil_of_length_eq_zero hl
    subst hls
    obtain ⟨dst, op, ty, pos, after, guard⟩ := o
    dsimp only at ho
    subst ho
    unfold Oper.wp execOp
    simp only [resolve, invoke, builtin, Sem.run_bind, Sem.run_pure, Result.andThen_ok, List.map_toArray, List.map_cons, List.map_nil, hs, hx]
    cases ad
    · go_simp
      exact h _ W (Below.refl _ _) (Touch.refl _ _) hown (fun B hB => by simp only [Value.ownBlock, Option.some.injEq] at hB; omega)
    · go_simp
      exact h _ W (Below.refl _ _) (Touch.refl _ _) hown (fun B hB => by simp only [Value.ownBlock, Option.some.injEq] at hB; omega)

end Go.Proofs.Ytemcinobgdphnaa
namespace Go.Proofs.Ytemcinobgdphnaa
open Go.RowKit
set_option linter.unusedVariables false
set_option maxRecDepth 100000

theorem at_app {W : World} {ls : List LV} {l : LV} (h : ∀ i, i < ls.length → (ls[i]?.getD noLV).f.At W) (hl : l.f.At W) : ∀ i, i < (ls ++ [l]).length → ((ls ++ [l])[i]?.getD noLV).f.At W := fun i hi => by
  by_cases h1 : i < ls.length
  · rw [List.getElem?_append_left h1]; exact h i h1
  · have h9 : i = ls.length := by rw [List.length_append] at hi; simp at hi; omega
    subst h9
    simpa using hl

set_option maxHeartbeats 12800000 in
theorem act_f (R : Nat) (a : Option Addr) (n cap : Nat) (bs : List Int) (p : Int) (w : World) (rd : Rd w R a n cap bs p) (hp : 0 ≤ p) (hp1 : p ≤ 7000000) (ha : 0 < n → ∀ b o, a = some ⟨b, o, none⟩ → b < w.heap.size) :
    Calls Try.prog 58 #[.pointer (some ⟨R, 0, none⟩)] w fun e w' => ∃ ad N c ls q, e = .returned (.slice ad N c) ∧ JL w R a n cap bs q (.slice ad N c) ls w' ∧ ls.length = N ∧ actB N ls = true ∧ p ≤ q ∧ q ≤ p + 80 := by
  have hRl := rd.c.lt
  have TT : Touch (fun x => x = R) w w := Touch.refl _ _
  go_enter Try.func58, Try.ntmps58
  go_wp2_with fail
  refine (pick_any R a n cap bs (p) 2 _ rd (by omega) (by omega) (by omega) (by omega)).mono ?_
  rintro e w2 ⟨rv, hv0, hv1, rfl, t5, R5⟩
  obtain ⟨v, rfl⟩ := Int.eq_ofNat_of_zero_le hv0
  clear hv0
  replace TT := TT.trans t5
  replace rd := R5
  clear t5 R5
  go_wp2_with fail
  refine (pick_any R a n cap bs (p + 1) 8 _ rd (by omega) (by omega) (by omega) (by omega)).mono ?_
  rintro e w3 ⟨rj, hj0, hj1, rfl, t5, R5⟩
  obtain ⟨j, rfl⟩ := Int.eq_ofNat_of_zero_le hj0
  clear hj0
  replace TT := TT.trans t5
  replace rd := R5
  clear t5 R5
  rcases (show j = 0 ∨ j = 1 ∨ j = 2 ∨ j = 3 ∨ j = 4 ∨ j = 5 ∨ 6 ≤ j from by omega) with rfl | rfl | rfl | rfl | rfl | rfl | hj6
  · go_wp2_with fail
    have xA := TT.size
    refine (num_f (-1) 0 0 _).mono ?_
    rintro e w4 ⟨BA, DA, rfl, b5, f5⟩
    go_wp2_with fail
    refine (with_f BA DA v 1 0 _ _ _ _ f5 (by omega)).mono ?_
    rintro e w5 ⟨rfl, t6, f6⟩
    have lo6 := f5.b1
    replace b5 := b5.trans (t6.below (B := w3.heap.size) b5.size (fun z hz => by omega))
    clear f5 t6 lo6
    have f5 := f6
    clear f6
    have yA1 := f5.b1
    have yA2 := f5.b2
    have GA : FA w5 (some ⟨BA, 0, none⟩) 3 (some ⟨DA, 0, none⟩) 2 (([0, 0, 0]).set v 1, [-1, 0], 0) := ⟨f5.k1.ints' f5.l1, f5.k2.ints' f5.l2, by omega, by omega⟩
    clear f5
    replace TT := TT.trans (Touch.of b5)
    replace rd := rd.below b5
    clear b5
    have zA1 : w.heap.size ≤ BA := by omega
    have zA2 : w.heap.size ≤ DA := by omega
    go_wp2_with fail
    have xE := TT.size
    refine (num_f (-1) 0 0 _).mono ?_
    rintro e w6 ⟨BE, DE, rfl, b5, f5⟩
    have yE1 := f5.b1
    have yE2 := f5.b2
    have GE : FA w6 (some ⟨BE, 0, none⟩) 3 (some ⟨DE, 0, none⟩) 2 ([0, 0, 0], [-1, 0], 0) := ⟨f5.k1.ints' f5.l1, f5.k2.ints' f5.l2, by omega, by omega⟩
    clear f5
    replace GA := GA.below b5
    replace TT := TT.trans (Touch.of b5)
    replace rd := rd.below b5
    clear b5
    have zE1 : w.heap.size ≤ BE := by omega
    have zE2 : w.heap.size ≤ DE := by omega
    go_wp2_with fail
    have xF := TT.size
    refine (num_f 1 0 0 _).mono ?_
    rintro e w7 ⟨BF, DF, rfl, b5, f5⟩
    have yF1 := f5.b1
    have yF2 := f5.b2
    have GF : FA w7 (some ⟨BF, 0, none⟩) 3 (some ⟨DF, 0, none⟩) 2 ([0, 0, 0], [1, 0], 0) := ⟨f5.k1.ints' f5.l1, f5.k2.ints' f5.l2, by omega, by omega⟩
    clear f5
    replace GA := GA.below b5
    replace GE := GE.below b5
    replace TT := TT.trans (Touch.of b5)
    replace rd := rd.below b5
    clear b5
    have zF1 : w.heap.size ≤ BF := by omega
    have zF2 : w.heap.size ≤ DF := by omega
    go_wp2_with fail
    have xH := TT.size
    refine (num_f 1 0 (-9) _).mono ?_
    rintro e w8 ⟨BH, DH, rfl, b5, f5⟩
    have yH1 := f5.b1
    have yH2 := f5.b2
    have GH : FA w8 (some ⟨BH, 0, none⟩) 3 (some ⟨DH, 0, none⟩) 2 ([0, 0, 0], [1, 0], -9) := ⟨f5.k1.ints' f5.l1, f5.k2.ints' f5.l2, by omega, by omega⟩
    clear f5
    replace GA := GA.below b5
    replace GE := GE.below b5
    replace GF := GF.below b5
    replace TT := TT.trans (Touch.of b5)
    replace rd := rd.below b5
    clear b5
    have zH1 : w.heap.size ≤ BH := by omega
    have zH2 : w.heap.size ≤ DH := by omega
    have tA1 := GA.C.blk (by omega)
    have tA2 := GA.D.blk (by omega)
    have tE1 := GE.C.blk (by omega)
    have tE2 := GE.D.blk (by omega)
    have tF1 := GF.C.blk (by omega)
    have tF2 := GF.D.blk (by omega)
    have tH1 := GH.C.blk (by omega)
    have tH2 := GH.D.blk (by omega)
    have hsz := TT.size
    have al := (Below.refl w8.heap.size w8).alloc (Nat.le_refl _) (.cells #[.int .i64 1, .int .i64 0, .int .i64 2, .slice (some ⟨BA, 0, none⟩) 3 3, .slice (some ⟨DA, 0, none⟩) 2 2, .int .i64 0, .int .i64 2, .int .i64 (v : Int), .int .i64 0, .slice (some ⟨BE, 0, none⟩) 3 3, .slice (some ⟨DE, 0, none⟩) 2 2, .int .i64 0, .int .i64 3, .int .i64 0, .int .i64 0, .slice (some ⟨BF, 0, none⟩) 3 3, .slice (some ⟨DF, 0, none⟩) 2 2, .int .i64 0, .int .i64 1, .int .i64 0, .int .i64 1, .slice (some ⟨BH, 0, none⟩) 3 3, .slice (some ⟨DH, 0, none⟩) 2 2, .int .i64 (-9), .int .i64 4, .int .i64 0, .int .i64 0, .slice none 0 0, .slice none 0 0, .int .i64 0] 51)
    have o := World.ownsRow_lit (base := w.heap.size) (e := 51) (size := 6) w8 #[.int .i64 1, .int .i64 0, .int .i64 2, .slice (some ⟨BA, 0, none⟩) 3 3, .slice (some ⟨DA, 0, none⟩) 2 2, .int .i64 0, .int .i64 2, .int .i64 (v : Int), .int .i64 0, .slice (some ⟨BE, 0, none⟩) 3 3, .slice (some ⟨DE, 0, none⟩) 2 2, .int .i64 0, .int .i64 3, .int .i64 0, .int .i64 0, .slice (some ⟨BF, 0, none⟩) 3 3, .slice (some ⟨DF, 0, none⟩) 2 2, .int .i64 0, .int .i64 1, .int .i64 0, .int .i64 1, .slice (some ⟨BH, 0, none⟩) 3 3, .slice (some ⟨DH, 0, none⟩) 2 2, .int .i64 (-9), .int .i64 4, .int .i64 0, .int .i64 0, .slice none 0 0, .slice none 0 0, .int .i64 0] 5 hsz (by unfold maxLen; omega) rfl
    have hws := al.size
    replace GA := GA.below al
    replace GE := GE.below al
    replace GF := GF.below al
    replace GH := GH.below al
    replace TT := TT.trans (Touch.of al)
    replace rd := rd.below al
    clear al
    go_wp2
    go_ret
    refine ⟨_, 5, 5, [⟨1, 0, 2, ⟨some ⟨BA, 0, none⟩, 3, 3, some ⟨DA, 0, none⟩, 2, 2, 0, ([0, 0, 0]).set v 1, [-1, 0]⟩⟩, ⟨2, (v : Int), 0, ⟨some ⟨BE, 0, none⟩, 3, 3, some ⟨DE, 0, none⟩, 2, 2, 0, [0, 0, 0], [-1, 0]⟩⟩, ⟨3, 0, 0, ⟨some ⟨BF, 0, none⟩, 3, 3, some ⟨DF, 0, none⟩, 2, 2, 0, [0, 0, 0], [1, 0]⟩⟩, ⟨1, 0, 1, ⟨some ⟨BH, 0, none⟩, 3, 3, some ⟨DH, 0, none⟩, 2, 2, (-9), [0, 0, 0], [1, 0]⟩⟩, ⟨4, 0, 0, noFV⟩], _, rfl, ⟨TT, rd, o, fun i hi => ?_, fun i hi b o e => ?_, fun i hi b o e => ?_, hRl, ha⟩, rfl, by rcases v with _ | _ | v; rfl; rfl; omega, by omega, by omega⟩
    · rcases i with _ | _ | _ | _ | _ | i
      · exact ⟨GA.C, GA.D, show 3 ≤ 1048576 by omega, show 2 ≤ 1048576 by omega⟩
      · exact ⟨GE.C, GE.D, show 3 ≤ 1048576 by omega, show 2 ≤ 1048576 by omega⟩
      · exact ⟨GF.C, GF.D, show 3 ≤ 1048576 by omega, show 2 ≤ 1048576 by omega⟩
      · exact ⟨GH.C, GH.D, show 3 ≤ 1048576 by omega, show 2 ≤ 1048576 by omega⟩
      · exact ⟨⟨rfl, fun i hi => absurd hi (Nat.not_lt_zero _)⟩, ⟨rfl, fun i hi => absurd hi (Nat.not_lt_zero _)⟩, Nat.zero_le _, Nat.zero_le _⟩
      · simp only [List.length_cons, List.length_nil] at hi; omega
    · rcases i with _ | _ | _ | _ | _ | i
      · have e9 : (some ⟨BA, 0, none⟩ : Option Addr) = some ⟨b, o, none⟩ := e; simp only [Option.some.injEq, Addr.mk.injEq] at e9; exact ⟨by omega, by omega, by simp only [Value.ownBlock, ne_eq, Option.some.injEq]; omega⟩
      · have e9 : (some ⟨BE, 0, none⟩ : Option Addr) = some ⟨b, o, none⟩ := e; simp only [Option.some.injEq, Addr.mk.injEq] at e9; exact ⟨by omega, by omega, by simp only [Value.ownBlock, ne_eq, Option.some.injEq]; omega⟩
      · have e9 : (some ⟨BF, 0, none⟩ : Option Addr) = some ⟨b, o, none⟩ := e; simp only [Option.some.injEq, Addr.mk.injEq] at e9; exact ⟨by omega, by omega, by simp only [Value.ownBlock, ne_eq, Option.some.injEq]; omega⟩
      · have e9 : (some ⟨BH, 0, none⟩ : Option Addr) = some ⟨b, o, none⟩ := e; simp only [Option.some.injEq, Addr.mk.injEq] at e9; exact ⟨by omega, by omega, by simp only [Value.ownBlock, ne_eq, Option.some.injEq]; omega⟩
      · cases e
      · simp only [List.length_cons, List.length_nil] at hi; omega
    · rcases i with _ | _ | _ | _ | _ | i
      · have e9 : (some ⟨DA, 0, none⟩ : Option Addr) = some ⟨b, o, none⟩ := e; simp only [Option.some.injEq, Addr.mk.injEq] at e9; exact ⟨by omega, by omega, by simp only [Value.ownBlock, ne_eq, Option.some.injEq]; omega⟩
      · have e9 : (some ⟨DE, 0, none⟩ : Option Addr) = some ⟨b, o, none⟩ := e; simp only [Option.some.injEq, Addr.mk.injEq] at e9; exact ⟨by omega, by omega, by simp only [Value.ownBlock, ne_eq, Option.some.injEq]; omega⟩
      · have e9 : (some ⟨DF, 0, none⟩ : Option Addr) = some ⟨b, o, none⟩ := e; simp only [Option.some.injEq, Addr.mk.injEq] at e9; exact ⟨by omega, by omega, by simp only [Value.ownBlock, ne_eq, Option.some.injEq]; omega⟩
      · have e9 : (some ⟨DH, 0, none⟩ : Option Addr) = some ⟨b, o, none⟩ := e; simp only [Option.some.injEq, Addr.mk.injEq] at e9; exact ⟨by omega, by omega, by simp only [Value.ownBlock, ne_eq, Option.some.injEq]; omega⟩
      · cases e
      · simp only [List.length_cons, List.length_nil] at hi; omega
  · go_wp2_with fail
    have xA := TT.size
    refine (num_f (-1) 0 0 _).mono ?_
    rintro e w4 ⟨BA, DA, rfl, b5, f5⟩
    go_wp2_with fail
    refine (with_f BA DA v 1 0 _ _ _ _ f5 (by omega)).mono ?_
    rintro e w5 ⟨rfl, t6, f6⟩
    have lo6 := f5.b1
    replace b5 := b5.trans (t6.below (B := w3.heap.size) b5.size (fun z hz => by omega))
    clear f5 t6 lo6
    have f5 := f6
    clear f6
    have yA1 := f5.b1
    have yA2 := f5.b2
    have GA : FA w5 (some ⟨BA, 0, none⟩) 3 (some ⟨DA, 0, none⟩) 2 (([0, 0, 0]).set v 1, [-1, 0], 0) := ⟨f5.k1.ints' f5.l1, f5.k2.ints' f5.l2, by omega, by omega⟩
    clear f5
    replace TT := TT.trans (Touch.of b5)
    replace rd := rd.below b5
    clear b5
    have zA1 : w.heap.size ≤ BA := by omega
    have zA2 : w.heap.size ≤ DA := by omega
    go_wp2_with fail
    have xE := TT.size
    refine (num_f (-1) 0 0 _).mono ?_
    rintro e w6 ⟨BE, DE, rfl, b5, f5⟩
    have yE1 := f5.b1
    have yE2 := f5.b2
    have GE : FA w6 (some ⟨BE, 0, none⟩) 3 (some ⟨DE, 0, none⟩) 2 ([0, 0, 0], [-1, 0], 0) := ⟨f5.k1.ints' f5.l1, f5.k2.ints' f5.l2, by omega, by omega⟩
    clear f5
    replace GA := GA.below b5
    replace TT := TT.trans (Touch.of b5)
    replace rd := rd.below b5
    clear b5
    have zE1 : w.heap.size ≤ BE := by omega
    have zE2 : w.heap.size ≤ DE := by omega
    go_wp2_with fail
    have xF := TT.size
    refine (num_f 1 0 0 _).mono ?_
    rintro e w7 ⟨BF, DF, rfl, b5, f5⟩
    have yF1 := f5.b1
    have yF2 := f5.b2
    have GF : FA w7 (some ⟨BF, 0, none⟩) 3 (some ⟨DF, 0, none⟩) 2 ([0, 0, 0], [1, 0], 0) := ⟨f5.k1.ints' f5.l1, f5.k2.ints' f5.l2, by omega, by omega⟩
    clear f5
    replace GA := GA.below b5
    replace GE := GE.below b5
    replace TT := TT.trans (Touch.of b5)
    replace rd := rd.below b5
    clear b5
    have zF1 : w.heap.size ≤ BF := by omega
    have zF2 : w.heap.size ≤ DF := by omega
    go_wp2_with fail
    have xH := TT.size
    refine (num_f 1 0 (-9) _).mono ?_
    rintro e w8 ⟨BH, DH, rfl, b5, f5⟩
    have yH1 := f5.b1
    have yH2 := f5.b2
    have GH : FA w8 (some ⟨BH, 0, none⟩) 3 (some ⟨DH, 0, none⟩) 2 ([0, 0, 0], [1, 0], -9) := ⟨f5.k1.ints' f5.l1, f5.k2.ints' f5.l2, by omega, by omega⟩
    clear f5
    replace GA := GA.below b5
    replace GE := GE.below b5
    replace GF := GF.below b5
    replace TT := TT.trans (Touch.of b5)
    replace rd := rd.below b5
    clear b5
    have zH1 : w.heap.size ≤ BH := by omega
    have zH2 : w.heap.size ≤ DH := by omega
    have tA1 := GA.C.blk (by omega)
    have tA2 := GA.D.blk (by omega)
    have tE1 := GE.C.blk (by omega)
    have tE2 := GE.D.blk (by omega)
    have tF1 := GF.C.blk (by omega)
    have tF2 := GF.D.blk (by omega)
    have tH1 := GH.C.blk (by omega)
    have tH2 := GH.D.blk (by omega)
    have hsz := TT.size
    have al := (Below.refl w8.heap.size w8).alloc (Nat.le_refl _) (.cells #[.int .i64 1, .int .i64 0, .int .i64 2, .slice (some ⟨BA, 0, none⟩) 3 3, .slice (some ⟨DA, 0, none⟩) 2 2, .int .i64 0, .int .i64 2, .int .i64 (v : Int), .int .i64 0, .slice (some ⟨BE, 0, none⟩) 3 3, .slice (some ⟨DE, 0, none⟩) 2 2, .int .i64 0, .int .i64 3, .int .i64 0, .int .i64 0, .slice (some ⟨BF, 0, none⟩) 3 3, .slice (some ⟨DF, 0, none⟩) 2 2, .int .i64 0, .int .i64 1, .int .i64 0, .int .i64 1, .slice (some ⟨BH, 0, none⟩) 3 3, .slice (some ⟨DH, 0, none⟩) 2 2, .int .i64 (-9), .int .i64 4, .int .i64 0, .int .i64 0, .slice none 0 0, .slice none 0 0, .int .i64 0] 51)
    have o := World.ownsRow_lit (base := w.heap.size) (e := 51) (size := 6) w8 #[.int .i64 1, .int .i64 0, .int .i64 2, .slice (some ⟨BA, 0, none⟩) 3 3, .slice (some ⟨DA, 0, none⟩) 2 2, .int .i64 0, .int .i64 2, .int .i64 (v : Int), .int .i64 0, .slice (some ⟨BE, 0, none⟩) 3 3, .slice (some ⟨DE, 0, none⟩) 2 2, .int .i64 0, .int .i64 3, .int .i64 0, .int .i64 0, .slice (some ⟨BF, 0, none⟩) 3 3, .slice (some ⟨DF, 0, none⟩) 2 2, .int .i64 0, .int .i64 1, .int .i64 0, .int .i64 1, .slice (some ⟨BH, 0, none⟩) 3 3, .slice (some ⟨DH, 0, none⟩) 2 2, .int .i64 (-9), .int .i64 4, .int .i64 0, .int .i64 0, .slice none 0 0, .slice none 0 0, .int .i64 0] 5 hsz (by unfold maxLen; omega) rfl
    have hws := al.size
    replace GA := GA.below al
    replace GE := GE.below al
    replace GF := GF.below al
    replace GH := GH.below al
    replace TT := TT.trans (Touch.of al)
    replace rd := rd.below al
    clear al
    go_wp2
    go_ret
    refine ⟨_, 5, 5, [⟨1, 0, 2, ⟨some ⟨BA, 0, none⟩, 3, 3, some ⟨DA, 0, none⟩, 2, 2, 0, ([0, 0, 0]).set v 1, [-1, 0]⟩⟩, ⟨2, (v : Int), 0, ⟨some ⟨BE, 0, none⟩, 3, 3, some ⟨DE, 0, none⟩, 2, 2, 0, [0, 0, 0], [-1, 0]⟩⟩, ⟨3, 0, 0, ⟨some ⟨BF, 0, none⟩, 3, 3, some ⟨DF, 0, none⟩, 2, 2, 0, [0, 0, 0], [1, 0]⟩⟩, ⟨1, 0, 1, ⟨some ⟨BH, 0, none⟩, 3, 3, some ⟨DH, 0, none⟩, 2, 2, (-9), [0, 0, 0], [1, 0]⟩⟩, ⟨4, 0, 0, noFV⟩], _, rfl, ⟨TT, rd, o, fun i hi => ?_, fun i hi b o e => ?_, fun i hi b o e => ?_, hRl, ha⟩, rfl, by rcases v with _ | _ | v; rfl; rfl; omega, by omega, by omega⟩
    · rcases i with _ | _ | _ | _ | _ | i
      · exact ⟨GA.C, GA.D, show 3 ≤ 1048576 by omega, show 2 ≤ 1048576 by omega⟩
      · exact ⟨GE.C, GE.D, show 3 ≤ 1048576 by omega, show 2 ≤ 1048576 by omega⟩
      · exact ⟨GF.C, GF.D, show 3 ≤ 1048576 by omega, show 2 ≤ 1048576 by omega⟩
      · exact ⟨GH.C, GH.D, show 3 ≤ 1048576 by omega, show 2 ≤ 1048576 by omega⟩
      · exact ⟨⟨rfl, fun i hi => absurd hi (Nat.not_lt_zero _)⟩, ⟨rfl, fun i hi => absurd hi (Nat.not_lt_zero _)⟩, Nat.zero_le _, Nat.zero_le _⟩
      · simp only [List.length_cons, List.length_nil] at hi; omega
    · rcases i with _ | _ | _ | _ | _ | i
      · have e9 : (some ⟨BA, 0, none⟩ : Option Addr) = some ⟨b, o, none⟩ := e; simp only [Option.some.injEq, Addr.mk.injEq] at e9; exact ⟨by omega, by omega, by simp only [Value.ownBlock, ne_eq, Option.some.injEq]; omega⟩
      · have e9 : (some ⟨BE, 0, none⟩ : Option Addr) = some ⟨b, o, none⟩ := e; simp only [Option.some.injEq, Addr.mk.injEq] at e9; exact ⟨by omega, by omega, by simp only [Value.ownBlock, ne_eq, Option.some.injEq]; omega⟩
      · have e9 : (some ⟨BF, 0, none⟩ : Option Addr) = some ⟨b, o, none⟩ := e; simp only [Option.some.injEq, Addr.mk.injEq] at e9; exact ⟨by omega, by omega, by simp only [Value.ownBlock, ne_eq, Option.some.injEq]; omega⟩
      · have e9 : (some ⟨BH, 0, none⟩ : Option Addr) = some ⟨b, o, none⟩ := e; simp only [Option.some.injEq, Addr.mk.injEq] at e9; exact ⟨by omega, by omega, by simp only [Value.ownBlock, ne_eq, Option.some.injEq]; omega⟩
      · cases e
      · simp only [List.length_cons, List.length_nil] at hi; omega
    · rcases i with _ | _ | _ | _ | _ | i
      · have e9 : (some ⟨DA, 0, none⟩ : Option Addr) = some ⟨b, o, none⟩ := e; simp only [Option.some.injEq, Addr.mk.injEq] at e9; exact ⟨by omega, by omega, by simp only [Value.ownBlock, ne_eq, Option.some.injEq]; omega⟩
      · have e9 : (some ⟨DE, 0, none⟩ : Option Addr) = some ⟨b, o, none⟩ := e; simp only [Option.some.injEq, Addr.mk.injEq] at e9; exact ⟨by omega, by omega, by simp only [Value.ownBlock, ne_eq, Option.some.injEq]; omega⟩
      · have e9 : (some ⟨DF, 0, none⟩ : Option Addr) = some ⟨b, o, none⟩ := e; simp only [Option.some.injEq, Addr.mk.injEq] at e9; exact ⟨by omega, by omega, by simp only [Value.ownBlock, ne_eq, Option.some.injEq]; omega⟩
      · have e9 : (some ⟨DH, 0, none⟩ : Option Addr) = some ⟨b, o, none⟩ := e; simp only [Option.some.injEq, Addr.mk.injEq] at e9; exact ⟨by omega, by omega, by simp only [Value.ownBlock, ne_eq, Option.some.injEq]; omega⟩
      · cases e
      · simp only [List.length_cons, List.length_nil] at hi; omega
  · go_wp2_with fail
    have xA := TT.size
    refine (num_f 1 0 0 _).mono ?_
    rintro e w4 ⟨BA, DA, rfl, b5, f5⟩
    have yA1 := f5.b1
    have yA2 := f5.b2
    have GA : FA w4 (some ⟨BA, 0, none⟩) 3 (some ⟨DA, 0, none⟩) 2 ([0, 0, 0], [1, 0], 0) := ⟨f5.k1.ints' f5.l1, f5.k2.ints' f5.l2, by omega, by omega⟩
    clear f5
    replace TT := TT.trans (Touch.of b5)
    replace rd := rd.below b5
    clear b5
    have zA1 : w.heap.size ≤ BA := by omega
    have zA2 : w.heap.size ≤ DA := by omega
    have tA1 := GA.C.blk (by omega)
    have tA2 := GA.D.blk (by omega)
    have hsz := TT.size
    have al := (Below.refl w4.heap.size w4).alloc (Nat.le_refl _) (.cells #[.int .i64 2, .int .i64 (v : Int), .int .i64 0, .slice (some ⟨BA, 0, none⟩) 3 3, .slice (some ⟨DA, 0, none⟩) 2 2, .int .i64 0] 51)
    have o := World.ownsRow_lit (base := w.heap.size) (e := 51) (size := 6) w4 #[.int .i64 2, .int .i64 (v : Int), .int .i64 0, .slice (some ⟨BA, 0, none⟩) 3 3, .slice (some ⟨DA, 0, none⟩) 2 2, .int .i64 0] 1 hsz (by unfold maxLen; omega) rfl
    have hws := al.size
    replace GA := GA.below al
    replace TT := TT.trans (Touch.of al)
    replace rd := rd.below al
    clear al
    go_wp2
    go_ret
    refine ⟨_, 1, 1, [⟨2, (v : Int), 0, ⟨some ⟨BA, 0, none⟩, 3, 3, some ⟨DA, 0, none⟩, 2, 2, 0, [0, 0, 0], [1, 0]⟩⟩], _, rfl, ⟨TT, rd, o, fun i hi => ?_, fun i hi b o e => ?_, fun i hi b o e => ?_, hRl, ha⟩, rfl, by rcases v with _ | _ | v; rfl; rfl; omega, by omega, by omega⟩
    · rcases i with _ | i
      · exact ⟨GA.C, GA.D, show 3 ≤ 1048576 by omega, show 2 ≤ 1048576 by omega⟩
      · simp only [List.length_cons, List.length_nil] at hi; omega
    · rcases i with _ | i
      · have e9 : (some ⟨BA, 0, none⟩ : Option Addr) = some ⟨b, o, none⟩ := e; simp only [Option.some.injEq, Addr.mk.injEq] at e9; exact ⟨by omega, by omega, by simp only [Value.ownBlock, ne_eq, Option.some.injEq]; omega⟩
      · simp only [List.length_cons, List.length_nil] at hi; omega
    · rcases i with _ | i
      · have e9 : (some ⟨DA, 0, none⟩ : Option Addr) = some ⟨b, o, none⟩ := e; simp only [Option.some.injEq, Addr.mk.injEq] at e9; exact ⟨by omega, by omega, by simp only [Value.ownBlock, ne_eq, Option.some.injEq]; omega⟩
      · simp only [List.length_cons, List.length_nil] at hi; omega
  · go_wp2_with fail
    have xA := TT.size
    refine (num_f (-1) 0 0 _).mono ?_
    rintro e w4 ⟨BA, DA, rfl, b5, f5⟩
    go_wp2_with fail
    refine (with_f BA DA v 1 0 _ _ _ _ f5 (by omega)).mono ?_
    rintro e w5 ⟨rfl, t6, f6⟩
    have lo6 := f5.b1
    replace b5 := b5.trans (t6.below (B := w3.heap.size) b5.size (fun z hz => by omega))
    clear f5 t6 lo6
    have f5 := f6
    clear f6
    have yA1 := f5.b1
    have yA2 := f5.b2
    have GA : FA w5 (some ⟨BA, 0, none⟩) 3 (some ⟨DA, 0, none⟩) 2 (([0, 0, 0]).set v 1, [-1, 0], 0) := ⟨f5.k1.ints' f5.l1, f5.k2.ints' f5.l2, by omega, by omega⟩
    clear f5
    replace TT := TT.trans (Touch.of b5)
    replace rd := rd.below b5
    clear b5
    have zA1 : w.heap.size ≤ BA := by omega
    have zA2 : w.heap.size ≤ DA := by omega
    go_wp2_with fail
    have xE := TT.size
    refine (num_f (-1) 0 0 _).mono ?_
    rintro e w6 ⟨BE, DE, rfl, b5, f5⟩
    have yE1 := f5.b1
    have yE2 := f5.b2
    have GE : FA w6 (some ⟨BE, 0, none⟩) 3 (some ⟨DE, 0, none⟩) 2 ([0, 0, 0], [-1, 0], 0) := ⟨f5.k1.ints' f5.l1, f5.k2.ints' f5.l2, by omega, by omega⟩
    clear f5
    replace GA := GA.below b5
    replace TT := TT.trans (Touch.of b5)
    replace rd := rd.below b5
    clear b5
    have zE1 : w.heap.size ≤ BE := by omega
    have zE2 : w.heap.size ≤ DE := by omega
    go_wp2_with fail
    have xF := TT.size
    refine (num_f 1 0 0 _).mono ?_
    rintro e w7 ⟨BF, DF, rfl, b5, f5⟩
    have yF1 := f5.b1
    have yF2 := f5.b2
    have GF : FA w7 (some ⟨BF, 0, none⟩) 3 (some ⟨DF, 0, none⟩) 2 ([0, 0, 0], [1, 0], 0) := ⟨f5.k1.ints' f5.l1, f5.k2.ints' f5.l2, by omega, by omega⟩
    clear f5
    replace GA := GA.below b5
    replace GE := GE.below b5
    replace TT := TT.trans (Touch.of b5)
    replace rd := rd.below b5
    clear b5
    have zF1 : w.heap.size ≤ BF := by omega
    have zF2 : w.heap.size ≤ DF := by omega
    have tA1 := GA.C.blk (by omega)
    have tA2 := GA.D.blk (by omega)
    have tE1 := GE.C.blk (by omega)
    have tE2 := GE.D.blk (by omega)
    have tF1 := GF.C.blk (by omega)
    have tF2 := GF.D.blk (by omega)
    have hsz := TT.size
    have al := (Below.refl w7.heap.size w7).alloc (Nat.le_refl _) (.cells #[.int .i64 1, .int .i64 0, .int .i64 2, .slice (some ⟨BA, 0, none⟩) 3 3, .slice (some ⟨DA, 0, none⟩) 2 2, .int .i64 0, .int .i64 2, .int .i64 (v : Int), .int .i64 0, .slice (some ⟨BE, 0, none⟩) 3 3, .slice (some ⟨DE, 0, none⟩) 2 2, .int .i64 0, .int .i64 2, .int .i64 (1 - (v : Int)), .int .i64 0, .slice (some ⟨BF, 0, none⟩) 3 3, .slice (some ⟨DF, 0, none⟩) 2 2, .int .i64 0] 51)
    have o := World.ownsRow_lit (base := w.heap.size) (e := 51) (size := 6) w7 #[.int .i64 1, .int .i64 0, .int .i64 2, .slice (some ⟨BA, 0, none⟩) 3 3, .slice (some ⟨DA, 0, none⟩) 2 2, .int .i64 0, .int .i64 2, .int .i64 (v : Int), .int .i64 0, .slice (some ⟨BE, 0, none⟩) 3 3, .slice (some ⟨DE, 0, none⟩) 2 2, .int .i64 0, .int .i64 2, .int .i64 (1 - (v : Int)), .int .i64 0, .slice (some ⟨BF, 0, none⟩) 3 3, .slice (some ⟨DF, 0, none⟩) 2 2, .int .i64 0] 3 hsz (by unfold maxLen; omega) rfl
    have hws := al.size
    replace GA := GA.below al
    replace GE := GE.below al
    replace GF := GF.below al
    replace TT := TT.trans (Touch.of al)
    replace rd := rd.below al
    clear al
    go_wp2
    go_ret
    refine ⟨_, 3, 3, [⟨1, 0, 2, ⟨some ⟨BA, 0, none⟩, 3, 3, some ⟨DA, 0, none⟩, 2, 2, 0, ([0, 0, 0]).set v 1, [-1, 0]⟩⟩, ⟨2, (v : Int), 0, ⟨some ⟨BE, 0, none⟩, 3, 3, some ⟨DE, 0, none⟩, 2, 2, 0, [0, 0, 0], [-1, 0]⟩⟩, ⟨2, (1 - (v : Int)), 0, ⟨some ⟨BF, 0, none⟩, 3, 3, some ⟨DF, 0, none⟩, 2, 2, 0, [0, 0, 0], [1, 0]⟩⟩], _, rfl, ⟨TT, rd, o, fun i hi => ?_, fun i hi b o e => ?_, fun i hi b o e => ?_, hRl, ha⟩, rfl, by rcases v with _ | _ | v; rfl; rfl; omega, by omega, by omega⟩
    · rcases i with _ | _ | _ | i
      · exact ⟨GA.C, GA.D, show 3 ≤ 1048576 by omega, show 2 ≤ 1048576 by omega⟩
      · exact ⟨GE.C, GE.D, show 3 ≤ 1048576 by omega, show 2 ≤ 1048576 by omega⟩
      · exact ⟨GF.C, GF.D, show 3 ≤ 1048576 by omega, show 2 ≤ 1048576 by omega⟩
      · simp only [List.length_cons, List.length_nil] at hi; omega
    · rcases i with _ | _ | _ | i
      · have e9 : (some ⟨BA, 0, none⟩ : Option Addr) = some ⟨b, o, none⟩ := e; simp only [Option.some.injEq, Addr.mk.injEq] at e9; exact ⟨by omega, by omega, by simp only [Value.ownBlock, ne_eq, Option.some.injEq]; omega⟩
      · have e9 : (some ⟨BE, 0, none⟩ : Option Addr) = some ⟨b, o, none⟩ := e; simp only [Option.some.injEq, Addr.mk.injEq] at e9; exact ⟨by omega, by omega, by simp only [Value.ownBlock, ne_eq, Option.some.injEq]; omega⟩
      · have e9 : (some ⟨BF, 0, none⟩ : Option Addr) = some ⟨b, o, none⟩ := e; simp only [Option.some.injEq, Addr.mk.injEq] at e9; exact ⟨by omega, by omega, by simp only [Value.ownBlock, ne_eq, Option.some.injEq]; omega⟩
      · simp only [List.length_cons, List.length_nil] at hi; omega
    · rcases i with _ | _ | _ | i
      · have e9 : (some ⟨DA, 0, none⟩ : Option Addr) = some ⟨b, o, none⟩ := e; simp only [Option.some.injEq, Addr.mk.injEq] at e9; exact ⟨by omega, by omega, by simp only [Value.ownBlock, ne_eq, Option.some.injEq]; omega⟩
      · have e9 : (some ⟨DE, 0, none⟩ : Option Addr) = some ⟨b, o, none⟩ := e; simp only [Option.some.injEq, Addr.mk.injEq] at e9; exact ⟨by omega, by omega, by simp only [Value.ownBlock, ne_eq, Option.some.injEq]; omega⟩
      · have e9 : (some ⟨DF, 0, none⟩ : Option Addr) = some ⟨b, o, none⟩ := e; simp only [Option.some.injEq, Addr.mk.injEq] at e9; exact ⟨by omega, by omega, by simp only [Value.ownBlock, ne_eq, Option.some.injEq]; omega⟩
      · simp only [List.length_cons, List.length_nil] at hi; omega
  · go_wp2_with fail
    have xA := TT.size
    refine (num_f 0 0 0 _).mono ?_
    rintro e w4 ⟨BA, DA, rfl, b5, f5⟩
    go_wp2_with fail
    refine (with_f BA DA 2 1 0 _ _ _ _ f5 (by omega)).mono ?_
    rintro e w5 ⟨rfl, t6, f6⟩
    have lo6 := f5.b1
    replace b5 := b5.trans (t6.below (B := w3.heap.size) b5.size (fun z hz => by omega))
    clear f5 t6 lo6
    have f5 := f6
    clear f6
    have yA1 := f5.b1
    have yA2 := f5.b2
    have GA : FA w5 (some ⟨BA, 0, none⟩) 3 (some ⟨DA, 0, none⟩) 2 (([0, 0, 0]).set 2 1, [0, 0], 0) := ⟨f5.k1.ints' f5.l1, f5.k2.ints' f5.l2, by omega, by omega⟩
    clear f5
    replace TT := TT.trans (Touch.of b5)
    replace rd := rd.below b5
    clear b5
    have zA1 : w.heap.size ≤ BA := by omega
    have zA2 : w.heap.size ≤ DA := by omega
    have tA1 := GA.C.blk (by omega)
    have tA2 := GA.D.blk (by omega)
    have hsz := TT.size
    have al := (Below.refl w5.heap.size w5).alloc (Nat.le_refl _) (.cells #[.int .i64 3, .int .i64 0, .int .i64 0, .slice (some ⟨BA, 0, none⟩) 3 3, .slice (some ⟨DA, 0, none⟩) 2 2, .int .i64 0] 51)
    have o := World.ownsRow_lit (base := w.heap.size) (e := 51) (size := 6) w5 #[.int .i64 3, .int .i64 0, .int .i64 0, .slice (some ⟨BA, 0, none⟩) 3 3, .slice (some ⟨DA, 0, none⟩) 2 2, .int .i64 0] 1 hsz (by unfold maxLen; omega) rfl
    have hws := al.size
    replace GA := GA.below al
    replace TT := TT.trans (Touch.of al)
    replace rd := rd.below al
    clear al
    go_wp2
    go_ret
    refine ⟨_, 1, 1, [⟨3, 0, 0, ⟨some ⟨BA, 0, none⟩, 3, 3, some ⟨DA, 0, none⟩, 2, 2, 0, ([0, 0, 0]).set 2 1, [0, 0]⟩⟩], _, rfl, ⟨TT, rd, o, fun i hi => ?_, fun i hi b o e => ?_, fun i hi b o e => ?_, hRl, ha⟩, rfl, rfl, by omega, by omega⟩
    · rcases i with _ | i
      · exact ⟨GA.C, GA.D, show 3 ≤ 1048576 by omega, show 2 ≤ 1048576 by omega⟩
      · simp only [List.length_cons, List.length_nil] at hi; omega
    · rcases i with _ | i
      · have e9 : (some ⟨BA, 0, none⟩ : Option Addr) = some ⟨b, o, none⟩ := e; simp only [Option.some.injEq, Addr.mk.injEq] at e9; exact ⟨by omega, by omega, by simp only [Value.ownBlock, ne_eq, Option.some.injEq]; omega⟩
      · simp only [List.length_cons, List.length_nil] at hi; omega
    · rcases i with _ | i
      · have e9 : (some ⟨DA, 0, none⟩ : Option Addr) = some ⟨b, o, none⟩ := e; simp only [Option.some.injEq, Addr.mk.injEq] at e9; exact ⟨by omega, by omega, by simp only [Value.ownBlock, ne_eq, Option.some.injEq]; omega⟩
      · simp only [List.length_cons, List.length_nil] at hi; omega
  · go_wp2_with fail
    have xA := TT.size
    refine (num_f 0 1 5 _).mono ?_
    rintro e w4 ⟨BA, DA, rfl, b5, f5⟩
    go_wp2_with fail
    refine (with_f BA DA 0 1 5 _ _ _ _ f5 (by omega)).mono ?_
    rintro e w5 ⟨rfl, t6, f6⟩
    have lo6 := f5.b1
    replace b5 := b5.trans (t6.below (B := w3.heap.size) b5.size (fun z hz => by omega))
    clear f5 t6 lo6
    have f5 := f6
    clear f6
    go_wp2_with fail
    refine (with_f BA DA 1 (-1) 5 _ _ _ _ f5 (by omega)).mono ?_
    rintro e w6 ⟨rfl, t6, f6⟩
    have lo6 := f5.b1
    replace b5 := b5.trans (t6.below (B := w3.heap.size) b5.size (fun z hz => by omega))
    clear f5 t6 lo6
    have f5 := f6
    clear f6
    have yA1 := f5.b1
    have yA2 := f5.b2
    have GA : FA w6 (some ⟨BA, 0, none⟩) 3 (some ⟨DA, 0, none⟩) 2 ((([0, 0, 0]).set 0 1).set 1 (-1), [0, 1], 5) := ⟨f5.k1.ints' f5.l1, f5.k2.ints' f5.l2, by omega, by omega⟩
    clear f5
    replace TT := TT.trans (Touch.of b5)
    replace rd := rd.below b5
    clear b5
    have zA1 : w.heap.size ≤ BA := by omega
    have zA2 : w.heap.size ≤ DA := by omega
    go_wp2_with fail
    have xE := TT.size
    refine (num_f 0 0 1 _).mono ?_
    rintro e w7 ⟨BE, DE, rfl, b5, f5⟩
    have yE1 := f5.b1
    have yE2 := f5.b2
    have GE : FA w7 (some ⟨BE, 0, none⟩) 3 (some ⟨DE, 0, none⟩) 2 ([0, 0, 0], [0, 0], 1) := ⟨f5.k1.ints' f5.l1, f5.k2.ints' f5.l2, by omega, by omega⟩
    clear f5
    replace GA := GA.below b5
    replace TT := TT.trans (Touch.of b5)
    replace rd := rd.below b5
    clear b5
    have zE1 : w.heap.size ≤ BE := by omega
    have zE2 : w.heap.size ≤ DE := by omega
    have tA1 := GA.C.blk (by omega)
    have tA2 := GA.D.blk (by omega)
    have tE1 := GE.C.blk (by omega)
    have tE2 := GE.D.blk (by omega)
    have hsz := TT.size
    have al := (Below.refl w7.heap.size w7).alloc (Nat.le_refl _) (.cells #[.int .i64 1, .int .i64 0, .int .i64 1, .slice (some ⟨BA, 0, none⟩) 3 3, .slice (some ⟨DA, 0, none⟩) 2 2, .int .i64 5, .int .i64 2, .int .i64 2, .int .i64 0, .slice (some ⟨BE, 0, none⟩) 3 3, .slice (some ⟨DE, 0, none⟩) 2 2, .int .i64 1] 51)
    have o := World.ownsRow_lit (base := w.heap.size) (e := 51) (size := 6) w7 #[.int .i64 1, .int .i64 0, .int .i64 1, .slice (some ⟨BA, 0, none⟩) 3 3, .slice (some ⟨DA, 0, none⟩) 2 2, .int .i64 5, .int .i64 2, .int .i64 2, .int .i64 0, .slice (some ⟨BE, 0, none⟩) 3 3, .slice (some ⟨DE, 0, none⟩) 2 2, .int .i64 1] 2 hsz (by unfold maxLen; omega) rfl
    have hws := al.size
    replace GA := GA.below al
    replace GE := GE.below al
    replace TT := TT.trans (Touch.of al)
    replace rd := rd.below al
    clear al
    go_wp2
    go_ret
    refine ⟨_, 2, 2, [⟨1, 0, 1, ⟨some ⟨BA, 0, none⟩, 3, 3, some ⟨DA, 0, none⟩, 2, 2, 5, (([0, 0, 0]).set 0 1).set 1 (-1), [0, 1]⟩⟩, ⟨2, 2, 0, ⟨some ⟨BE, 0, none⟩, 3, 3, some ⟨DE, 0, none⟩, 2, 2, 1, [0, 0, 0], [0, 0]⟩⟩], _, rfl, ⟨TT, rd, o, fun i hi => ?_, fun i hi b o e => ?_, fun i hi b o e => ?_, hRl, ha⟩, rfl, rfl, by omega, by omega⟩
    · rcases i with _ | _ | i
      · exact ⟨GA.C, GA.D, show 3 ≤ 1048576 by omega, show 2 ≤ 1048576 by omega⟩
      · exact ⟨GE.C, GE.D, show 3 ≤ 1048576 by omega, show 2 ≤ 1048576 by omega⟩
      · simp only [List.length_cons, List.length_nil] at hi; omega
    · rcases i with _ | _ | i
      · have e9 : (some ⟨BA, 0, none⟩ : Option Addr) = some ⟨b, o, none⟩ := e; simp only [Option.some.injEq, Addr.mk.injEq] at e9; exact ⟨by omega, by omega, by simp only [Value.ownBlock, ne_eq, Option.some.injEq]; omega⟩
      · have e9 : (some ⟨BE, 0, none⟩ : Option Addr) = some ⟨b, o, none⟩ := e; simp only [Option.some.injEq, Addr.mk.injEq] at e9; exact ⟨by omega, by omega, by simp only [Value.ownBlock, ne_eq, Option.some.injEq]; omega⟩
      · simp only [List.length_cons, List.length_nil] at hi; omega
    · rcases i with _ | _ | i
      · have e9 : (some ⟨DA, 0, none⟩ : Option Addr) = some ⟨b, o, none⟩ := e; simp only [Option.some.injEq, Addr.mk.injEq] at e9; exact ⟨by omega, by omega, by simp only [Value.ownBlock, ne_eq, Option.some.injEq]; omega⟩
      · have e9 : (some ⟨DE, 0, none⟩ : Option Addr) = some ⟨b, o, none⟩ := e; simp only [Option.some.injEq, Addr.mk.injEq] at e9; exact ⟨by omega, by omega, by simp only [Value.ownBlock, ne_eq, Option.some.injEq]; omega⟩
      · simp only [List.length_cons, List.length_nil] at hi; omega
  · have h1 : ¬ j = 0 := by omega
    have h2 : ¬ j = 1 := by omega
    have h3 : ¬ j = 2 := by omega
    have h4 : ¬ j = 3 := by omega
    have h5 : ¬ j = 4 := by omega
    have h6 : ¬ j = 5 := by omega
    have e0 : ((j : Int) == 0) = false := by simp; omega
    have e1 : ((j : Int) == 1) = false := by simp; omega
    have e2 : ((j : Int) == 2) = false := by simp; omega
    have e3 : ((j : Int) == 3) = false := by simp; omega
    have e4 : ((j : Int) == 4) = false := by simp; omega
    have e5 : ((j : Int) == 5) = false := by simp; omega
    clear h1 h2 h3 h4 h5 h6
    have hsz := TT.size
    have al := (Below.refl w3.heap.size w3).alloc (Nat.le_refl _) (.cells #[] 51)
    have o0 := World.ownsRow_lit (base := w.heap.size) (e := 51) (size := 6) w3 #[] 0 hsz (by unfold maxLen; omega) rfl
    replace TT := TT.trans (Touch.of al)
    replace rd := rd.below al
    clear al
    have j0 : JL w R a n cap bs (p + 1 + 1) (.slice (some ⟨w3.heap.size, 0, none⟩) 0 0) [] (w3.alloc (.cells #[] 51)) := ⟨TT, rd, o0, fun i hi => by simp at hi, fun i hi => by simp at hi, fun i hi => by simp at hi, hRl, ha⟩
    clear o0 TT rd
    go_wp2_with fail
    refine (pick_any R a n cap bs (p + 1 + 1) 5 _ j0.r (by omega) (by omega) (by omega) (by omega)).mono ?_
    rintro e wS ⟨rk, k0, k1, rfl, t5, R5⟩
    obtain ⟨rk, rfl⟩ := Int.eq_ofNat_of_zero_le k0
    replace j0 := j0.pick t5 R5
    clear t5 R5 k0 hsz hj6
    obtain ⟨i0, hi, hz0, hz1, hz2⟩ := info_parts Try.infoLn
    go_wp2_with fail
    go_loopw [4, 5] (fun v i wr => ∃ (l : Nat) (ls : List LV) (q : Int), i = .int .i64 l ∧ ls.length + l ≤ 5 ∧ JL w R a n cap bs q v ls wr ∧ actB ls.length ls = true ∧ p ≤ q ∧ q + 12 * l ≤ p + 70) (fun _ i _ => (intOf i).toNat)
    case atStart => exact ⟨rk + 1, [], _, by go_num, by simp; omega, j0, rfl, by omega, by omega⟩
    case round =>
      clear j0
      obtain ⟨m, ls, q, rfl, hlm, j, hact, hq0, hq1⟩ := hrel
      by_cases hm : 0 < m
      · have hm' : (0 : Int) < (m : Int) := by omega
        obtain ⟨k, hk⟩ : ∃ k, k = ls.length := ⟨_, rfl⟩
        have HK : Hid (ls.length = k) := hk.symm
        have hlm' : k + m ≤ 5 := by omega
        obtain ⟨vad, vcap, rfl⟩ := own_slice j.o
        rw [← hk] at j
        rw [← hk]
        clear hk hlm
        have hvb := fun x hx => ((j.o.lt x hx).2 : x < wr.heap.size)
        have HAct : Hid (actB ls.length ls = true) := hact
        clear hact
        go_wp2_with fail
        refine (line_f R a n cap bs q _ j.r (by omega) (by omega) j.r.ha).mono ?_
        rintro e w5 ⟨l, q5, rfl, d5⟩
        have hszL := j.t.size
        replace j := j.pick d5.t d5.r
        have hl := d5.at'
        have la := d5.la
        have lc := d5.lc
        have v0 := d5.q0
        have v1 := d5.q1
        have hs5 := d5.t.size
        clear d5
        have al := (Below.refl w5.heap.size w5).alloc (Nat.le_refl _) (.cells #[.int .i64 l.kind, .int .i64 l.pot, .int .i64 l.skip, .slice l.f.a l.f.n l.f.cap, .slice l.f.c l.f.m l.f.cap', .int .i64 l.f.K] 51)
        have qb := Cel.new w5 [.int .i64 l.kind, .int .i64 l.pot, .int .i64 l.skip, .slice l.f.a l.f.n l.f.cap, .slice l.f.c l.f.m l.f.cap', .int .i64 l.f.K] 51
        replace j := j.below al
        replace hl := hl.below al
        have hs6 := al.size
        clear al
        go_upto_region 19 with fail
        obtain ⟨W6, hW6⟩ : ∃ W, W = w5.alloc (.cells #[.int .i64 l.kind, .int .i64 l.pot, .int .i64 l.skip, .slice l.f.a l.f.n l.f.cap, .slice l.f.c l.f.m l.f.cap', .int .i64 l.f.K] 51) := ⟨_, rfl⟩
        rw [← hW6]
        rw [← hW6] at j qb hl hs6
        clear hW6
        obtain ⟨XB, hXB⟩ : ∃ x, x = w5.heap.size := ⟨_, rfl⟩
        rw [← hXB]
        rw [← hXB] at qb
        clear hXB
        go_cut [78] (fun b wx => b = .bool (actB (k + 1) (ls ++ [l])) ∧ Below W6.heap.size W6 wx)
        case first =>
          refine wp_region_ends (fun X => X.cell? ⟨XB, 0, none⟩ = some (.int .i64 l.kind) ∧ X.cell? ⟨XB, 1, none⟩ = some (.int .i64 l.pot) ∧ X.cell? ⟨XB, 2, none⟩ = some (.int .i64 l.skip) ∧ X.cell? ⟨XB, 3, none⟩ = some (.slice l.f.a l.f.n l.f.cap) ∧ X.cell? ⟨XB, 4, none⟩ = some (.slice l.f.c l.f.m l.f.cap') ∧ X.cell? ⟨XB, 5, none⟩ = some (.int .i64 l.f.K)) (fun _ => True) 7 (by kernel_rfl) ?_
          have HV : Below W6.heap.size W6 W6.drew := (Below.refl _ _).drew
          replace j := j.below HV
          replace qb := qb.below HV
          replace hl := hl.below HV
          obtain ⟨V0, hV0⟩ : ∃ V, V = W6.drew := ⟨_, rfl⟩
          rw [← hV0]
          have hVW : Below W6.heap.size W6 V0 := by rw [hV0]; exact HV
          rw [← hV0] at j qb hl
          clear hV0 HV
          have HV := Below.refl V0.heap.size V0
          obtain ⟨Z0, hZ0⟩ : ∃ z, z = V0.heap.size := ⟨_, rfl⟩
          have HZ : Hid (Z0 = V0.heap.size) := hZ0
          clear hZ0
          have ATS : Hid (∀ i, i < (ls ++ [l]).length → ((ls ++ [l])[i]?.getD noLV).f.At V0) := fun i hi => at_app j.at' hl i hi
          have KP : Hid (∀ X, Below V0.heap.size V0 X → X.cell? ⟨XB, 0, none⟩ = some (.int .i64 l.kind) ∧ X.cell? ⟨XB, 1, none⟩ = some (.int .i64 l.pot) ∧ X.cell? ⟨XB, 2, none⟩ = some (.int .i64 l.skip) ∧ X.cell? ⟨XB, 3, none⟩ = some (.slice l.f.a l.f.n l.f.cap) ∧ X.cell? ⟨XB, 4, none⟩ = some (.slice l.f.c l.f.m l.f.cap') ∧ X.cell? ⟨XB, 5, none⟩ = some (.int .i64 l.f.K)) := fun X hX => by have h := qb.below hX; exact ⟨h.cell 0, h.cell 1, h.cell 2, h.cell 3, h.cell 4, h.cell 5⟩
          have hSS := And.intro (KP.out V0 HV) True.intro
          refine tkL (i := 1) rfl hSS ?_
          refine tkL (i := 3) rfl hSS ?_
          clear hSS
          refine wpAnyE_two (i := 0) (j := 4) (by kernel_rfl) rfl rfl (fun Kn hK => ?_) (fun Kn hK => ?_)
          · go_simp
            have al := (Below.refl V0.heap.size V0).alloc (Nat.le_refl _) (.cells #[] 51)
            have hsz := HV.size
            have o0 := World.ownsRow_lit (base := Z0) (e := 51) (size := 6) V0 #[] 0 (by rw [HZ.out]; exact hsz) (by unfold maxLen; omega) rfl
            replace HV := HV.trans (al.mono hsz)
            clear al
            obtain ⟨Y1, hY1⟩ : ∃ V, V = V0.alloc (.cells #[] 51) := ⟨_, rfl⟩
            rw [← hY1]
            rw [← hY1] at HV o0
            clear hY1
            obtain ⟨L0, hL0⟩ : ∃ x, x = V0.heap.size := ⟨_, rfl⟩
            rw [← hL0]
            rw [← hL0] at o0
            clear hL0 hsz
            have ltL0 : L0 < Y1.heap.size := (o0.lt L0 rfl).2
            refine hK.out _ _ ⟨KP.out _ HV, fun _ => trivial⟩ ?_
            clear hK
            refine wpAnyE_two (i := 2) (j := 4) (by kernel_rfl) rfl rfl (fun Kn hK => ?_) (fun Kn hK => ?_)
            · rw [if_pos (by rfl)]
              refine wp_copyL (.tmp 72) (.tmp 73) rfl Z0 w.heap.size L0 k vad vcap ls (by rfl) o0 (by rfl) (by have h := (j.below HV).o; rw [HK.out] at h; exact h) HK.out (by omega) (by rw [HZ.out]; exact HV.size) ?_
              intro v2 Y2 b2 t2 o2 _
              rw [HZ.out] at b2
              replace HV := HV.trans b2
              clear b2 t2 o0 ltL0
              refine hK.out _ _ ⟨KP.out _ HV, fun _ => trivial⟩ ?_
              clear hK
              refine wpAnyE_one (i := 4) (by kernel_rfl) rfl (fun Kn hK => ?_)
              go_simp
              have al := (Below.refl Y2.heap.size Y2).alloc (Nat.le_refl _) (.cells #[.int .i64 l.kind, .int .i64 l.pot, .int .i64 l.skip, .slice l.f.a l.f.n l.f.cap, .slice l.f.c l.f.m l.f.cap', .int .i64 l.f.K] 51)
              have hsz := HV.size
              have c4 := Cel.new Y2 [.int .i64 l.kind, .int .i64 l.pot, .int .i64 l.skip, .slice l.f.a l.f.n l.f.cap, .slice l.f.c l.f.m l.f.cap', .int .i64 l.f.K] 51
              replace o2 := own_belowL o2 al
              replace HV := HV.trans (al.mono hsz)
              clear al
              obtain ⟨Y3, hY3⟩ : ∃ V, V = Y2.alloc (.cells #[.int .i64 l.kind, .int .i64 l.pot, .int .i64 l.skip, .slice l.f.a l.f.n l.f.cap, .slice l.f.c l.f.m l.f.cap', .int .i64 l.f.K] 51) := ⟨_, rfl⟩
              rw [← hY3]
              rw [← hY3] at HV c4 o2
              clear hY3
              obtain ⟨L4, hL4⟩ : ∃ x, x = Y2.heap.size := ⟨_, rfl⟩
              rw [← hL4]
              rw [← hL4] at c4
              clear hL4 hsz
              have lt4 := c4.lt
              refine hK.out _ _ ⟨KP.out _ HV, fun _ => trivial⟩ ?_
              clear hK
              refine wpAnyE_one (i := 5) (by kernel_rfl) rfl (fun Kn hK => ?_)
              rw [if_pos (by rfl)]
              obtain ⟨a2, cp2, rfl⟩ := own_slice o2
              refine wp_append_lies _ (.tmp 74) (.tmp 76) 52 rfl Z0 51 i0 _ 6 80 Try.underlying52 hi hz0 hz1 hz2 rfl (by omega) (.slice a2 k cp2) k (ls.flatMap LV.cs) (by rfl) o2 ⟨L4, 0, none⟩ 1 1 l.cs (by rfl) (by rfl) (World.news_of_block (cs := #[.int .i64 l.kind, .int .i64 l.pot, .int .i64 l.skip, .slice l.f.a l.f.n l.f.cap, .slice l.f.c l.f.m l.f.cap', .int .i64 l.f.K]) (t := 51) (fr := (0, 0)) c4) (by have h := flatL_one [l]; simpa using h) (by omega) (by unfold maxLen; omega) (by omega) (by rw [HZ.out]; exact HV.size) _ rfl ?_
              intro g5 cp5 Y4 hown hgrow _ _
              replace HV := HV.trans ((Below.refl V0.heap.size Y3).grown hgrow HV.size (fun z hz => by have h := (o2.lt z hz).1; rw [HZ.out] at h; exact h))
              have g5G : LinesG Y4 (some ⟨g5, 0, none⟩) (ls ++ [l]) := linesG_own (base := Z0) (by rw [List.flatMap_append]; simpa using hown) (by rw [List.length_append, HK.out]; rfl) (fun i hi => (ATS.out i hi).below HV)
              clear hown hgrow o2 c4
              refine hK.out _ _ ⟨KP.out _ HV, fun _ => trivial⟩ ?_
              clear hK
              refine wpAnyE_one (i := 6) (by kernel_rfl) rfl (fun Kn hK => ?_)
              go_simp
              refine (sact_any _ (k + 1) cp5 (ls ++ [l]) _ (by rw [List.length_append, HK.out]; rfl) g5G (by omega)).mono ?_
              rintro e Y5 ⟨rfl, b6⟩
              replace HV := HV.trans (b6.mono HV.size)
              clear b6 g5G
              dsimp only
              refine hK.out _ _ ⟨KP.out _ HV, fun _ => trivial⟩ ?_
              clear hK
              refine wpAnyE_done (by kernel_rfl) ?_ _
              clear KP ATS
              go_wp2_with fail
              go_meet
              case rel => exact ⟨rfl, hVW.trans (HV.mono hVW.size)⟩
            · go_simp
              have al := (Below.refl Y1.heap.size Y1).alloc (Nat.le_refl _) (.cells #[.int .i64 l.kind, .int .i64 l.pot, .int .i64 l.skip, .slice l.f.a l.f.n l.f.cap, .slice l.f.c l.f.m l.f.cap', .int .i64 l.f.K] 51)
              have hsz := HV.size
              have c4 := Cel.new Y1 [.int .i64 l.kind, .int .i64 l.pot, .int .i64 l.skip, .slice l.f.a l.f.n l.f.cap, .slice l.f.c l.f.m l.f.cap', .int .i64 l.f.K] 51
              replace o0 := own_belowL o0 al
              replace HV := HV.trans (al.mono hsz)
              clear al
              obtain ⟨Y2, hY2⟩ : ∃ V, V = Y1.alloc (.cells #[.int .i64 l.kind, .int .i64 l.pot, .int .i64 l.skip, .slice l.f.a l.f.n l.f.cap, .slice l.f.c l.f.m l.f.cap', .int .i64 l.f.K] 51) := ⟨_, rfl⟩
              rw [← hY2]
              rw [← hY2] at HV c4 o0
              clear hY2
              obtain ⟨L4, hL4⟩ : ∃ x, x = Y1.heap.size := ⟨_, rfl⟩
              rw [← hL4]
              rw [← hL4] at c4
              have n04 : L4 ≠ L0 := by omega
              clear hL4 hsz
              have lt4 := c4.lt
              clear ltL0
              have ltL0 : L0 < Y2.heap.size := (o0.lt L0 rfl).2
              refine hK.out _ _ ⟨KP.out _ HV, fun _ => trivial⟩ ?_
              clear hK
              refine wpAnyE_one (i := 2) (by kernel_rfl) rfl (fun Kn hK => ?_)
              rw [if_pos (by rfl)]
              refine wp_copyL (.tmp 72) (.tmp 73) rfl Z0 w.heap.size L0 k vad vcap ls (by rfl) o0 (by rfl) (by have h := (j.below HV).o; rw [HK.out] at h; exact h) HK.out (by omega) (by rw [HZ.out]; exact HV.size) ?_
              intro v2 Y3 b2 t2 o2 _
              replace c4 := c4.touch t2 n04
              clear lt4
              rw [HZ.out] at b2
              replace HV := HV.trans b2
              clear b2 t2 o0 ltL0
              refine hK.out _ _ ⟨KP.out _ HV, fun _ => trivial⟩ ?_
              clear hK
              refine wpAnyE_one (i := 5) (by kernel_rfl) rfl (fun Kn hK => ?_)
              rw [if_pos (by rfl)]
              obtain ⟨a2, cp2, rfl⟩ := own_slice o2
              refine wp_append_lies _ (.tmp 74) (.tmp 76) 52 rfl Z0 51 i0 _ 6 80 Try.underlying52 hi hz0 hz1 hz2 rfl (by omega) (.slice a2 k cp2) k (ls.flatMap LV.cs) (by rfl) o2 ⟨L4, 0, none⟩ 1 1 l.cs (by rfl) (by rfl) (World.news_of_block (cs := #[.int .i64 l.kind, .int .i64 l.pot, .int .i64 l.skip, .slice l.f.a l.f.n l.f.cap, .slice l.f.c l.f.m l.f.cap', .int .i64 l.f.K]) (t := 51) (fr := (0, 0)) c4) (by have h := flatL_one [l]; simpa using h) (by omega) (by unfold maxLen; omega) (by omega) (by rw [HZ.out]; exact HV.size) _ rfl ?_
              intro g5 cp5 Y4 hown hgrow _ _
              replace HV := HV.trans ((Below.refl V0.heap.size Y3).grown hgrow HV.size (fun z hz => by have h := (o2.lt z hz).1; rw [HZ.out] at h; exact h))
              have g5G : LinesG Y4 (some ⟨g5, 0, none⟩) (ls ++ [l]) := linesG_own (base := Z0) (by rw [List.flatMap_append]; simpa using hown) (by rw [List.length_append, HK.out]; rfl) (fun i hi => (ATS.out i hi).below HV)
              clear hown hgrow o2 c4
              refine hK.out _ _ ⟨KP.out _ HV, fun _ => trivial⟩ ?_
              clear hK
              refine wpAnyE_one (i := 6) (by kernel_rfl) rfl (fun Kn hK => ?_)
              go_simp
              refine (sact_any _ (k + 1) cp5 (ls ++ [l]) _ (by rw [List.length_append, HK.out]; rfl) g5G (by omega)).mono ?_
              rintro e Y5 ⟨rfl, b6⟩
              replace HV := HV.trans (b6.mono HV.size)
              clear b6 g5G
              dsimp only
              refine hK.out _ _ ⟨KP.out _ HV, fun _ => trivial⟩ ?_
              clear hK
              refine wpAnyE_done (by kernel_rfl) ?_ _
              clear KP ATS
              go_wp2_with fail
              go_meet
              case rel => exact ⟨rfl, hVW.trans (HV.mono hVW.size)⟩
          · go_simp
            have al := (Below.refl V0.heap.size V0).alloc (Nat.le_refl _) (.cells #[.int .i64 l.kind, .int .i64 l.pot, .int .i64 l.skip, .slice l.f.a l.f.n l.f.cap, .slice l.f.c l.f.m l.f.cap', .int .i64 l.f.K] 51)
            have hsz := HV.size
            have c4 := Cel.new V0 [.int .i64 l.kind, .int .i64 l.pot, .int .i64 l.skip, .slice l.f.a l.f.n l.f.cap, .slice l.f.c l.f.m l.f.cap', .int .i64 l.f.K] 51
            replace HV := HV.trans (al.mono hsz)
            clear al
            obtain ⟨Y1, hY1⟩ : ∃ V, V = V0.alloc (.cells #[.int .i64 l.kind, .int .i64 l.pot, .int .i64 l.skip, .slice l.f.a l.f.n l.f.cap, .slice l.f.c l.f.m l.f.cap', .int .i64 l.f.K] 51) := ⟨_, rfl⟩
            rw [← hY1]
            rw [← hY1] at HV c4
            clear hY1
            obtain ⟨L4, hL4⟩ : ∃ x, x = V0.heap.size := ⟨_, rfl⟩
            rw [← hL4]
            rw [← hL4] at c4
            clear hL4 hsz
            have lt4 := c4.lt
            refine hK.out _ _ ⟨KP.out _ HV, fun _ => trivial⟩ ?_
            clear hK
            refine wpAnyE_one (i := 0) (by kernel_rfl) rfl (fun Kn hK => ?_)
            go_simp
            have al := (Below.refl Y1.heap.size Y1).alloc (Nat.le_refl _) (.cells #[] 51)
            have hsz := HV.size
            have o0 := World.ownsRow_lit (base := Z0) (e := 51) (size := 6) Y1 #[] 0 (by rw [HZ.out]; exact hsz) (by unfold maxLen; omega) rfl
            replace c4 := c4.below al
            replace HV := HV.trans (al.mono hsz)
            clear al
            obtain ⟨Y2, hY2⟩ : ∃ V, V = Y1.alloc (.cells #[] 51) := ⟨_, rfl⟩
            rw [← hY2]
            rw [← hY2] at HV o0 c4
            clear hY2
            obtain ⟨L0, hL0⟩ : ∃ x, x = Y1.heap.size := ⟨_, rfl⟩
            rw [← hL0]
            rw [← hL0] at o0
            have n04 : L4 ≠ L0 := by omega
            clear hL0 hsz
            have ltL0 : L0 < Y2.heap.size := (o0.lt L0 rfl).2
            clear lt4
            have lt4 := c4.lt
            refine hK.out _ _ ⟨KP.out _ HV, fun _ => trivial⟩ ?_
            clear hK
            refine wpAnyE_one (i := 2) (by kernel_rfl) rfl (fun Kn hK => ?_)
            rw [if_pos (by rfl)]
            refine wp_copyL (.tmp 72) (.tmp 73) rfl Z0 w.heap.size L0 k vad vcap ls (by rfl) o0 (by rfl) (by have h := (j.below HV).o; rw [HK.out] at h; exact h) HK.out (by omega) (by rw [HZ.out]; exact HV.size) ?_
            intro v2 Y3 b2 t2 o2 _
            replace c4 := c4.touch t2 n04
            clear lt4
            rw [HZ.out] at b2
            replace HV := HV.trans b2
            clear b2 t2 o0 ltL0
            refine hK.out _ _ ⟨KP.out _ HV, fun _ => trivial⟩ ?_
            clear hK
            refine wpAnyE_one (i := 5) (by kernel_rfl) rfl (fun Kn hK => ?_)
            rw [if_pos (by rfl)]
            obtain ⟨a2, cp2, rfl⟩ := own_slice o2
            refine wp_append_lies _ (.tmp 74) (.tmp 76) 52 rfl Z0 51 i0 _ 6 80 Try.underlying52 hi hz0 hz1 hz2 rfl (by omega) (.slice a2 k cp2) k (ls.flatMap LV.cs) (by rfl) o2 ⟨L4, 0, none⟩ 1 1 l.cs (by rfl) (by rfl) (World.news_of_block (cs := #[.int .i64 l.kind, .int .i64 l.pot, .int .i64 l.skip, .slice l.f.a l.f.n l.f.cap, .slice l.f.c l.f.m l.f.cap', .int .i64 l.f.K]) (t := 51) (fr := (0, 0)) c4) (by have h := flatL_one [l]; simpa using h) (by omega) (by unfold maxLen; omega) (by omega) (by rw [HZ.out]; exact HV.size) _ rfl ?_
            intro g5 cp5 Y4 hown hgrow _ _
            replace HV := HV.trans ((Below.refl V0.heap.size Y3).grown hgrow HV.size (fun z hz => by have h := (o2.lt z hz).1; rw [HZ.out] at h; exact h))
            have g5G : LinesG Y4 (some ⟨g5, 0, none⟩) (ls ++ [l]) := linesG_own (base := Z0) (by rw [List.flatMap_append]; simpa using hown) (by rw [List.length_append, HK.out]; rfl) (fun i hi => (ATS.out i hi).below HV)
            clear hown hgrow o2 c4
            refine hK.out _ _ ⟨KP.out _ HV, fun _ => trivial⟩ ?_
            clear hK
            refine wpAnyE_one (i := 6) (by kernel_rfl) rfl (fun Kn hK => ?_)
            go_simp
            refine (sact_any _ (k + 1) cp5 (ls ++ [l]) _ (by rw [List.length_append, HK.out]; rfl) g5G (by omega)).mono ?_
            rintro e Y5 ⟨rfl, b6⟩
            replace HV := HV.trans (b6.mono HV.size)
            clear b6 g5G
            dsimp only
            refine hK.out _ _ ⟨KP.out _ HV, fun _ => trivial⟩ ?_
            clear hK
            refine wpAnyE_done (by kernel_rfl) ?_ _
            clear KP ATS
            go_wp2_with fail
            go_meet
            case rel => exact ⟨rfl, hVW.trans (HV.mono hVW.size)⟩
        case rest =>
          obtain ⟨rfl, HV⟩ := hcut
          replace j := j.below HV
          replace qb := qb.below HV
          replace hl := hl.below HV
          have hs7 := HV.size
          clear HV
          cases h9 : actB (k + 1) (ls ++ [l])
          · go_wp2
            go_roundw
            case rel => exact ⟨m - 1, ls, q5, by go_num, by rw [HK.out]; omega, j, HAct.out, by omega, by omega⟩
            case measure => simp [intOf]; omega
          · have SZ : ∀ i, i < ls.length → (∀ b o, (ls[i]?.getD noLV).f.a = some ⟨b, o, none⟩ → b < wc.heap.size) ∧ (∀ b o, (ls[i]?.getD noLV).f.c = some ⟨b, o, none⟩ → b < wc.heap.size) := fun i hi => ⟨fun b o e => (j.na i hi b o e).2.1, fun b o e => (j.nc i hi b o e).2.1⟩
            have al := (Below.refl wc.heap.size wc).alloc (Nat.le_refl _) (.cells #[.int .i64 l.kind, .int .i64 l.pot, .int .i64 l.skip, .slice l.f.a l.f.n l.f.cap, .slice l.f.c l.f.m l.f.cap', .int .i64 l.f.K] 51)
            have ja := j.below al
            have hla := hl.below al
            have b0 := qb.cell 0
            have b1 := qb.cell 1
            have b2 := qb.cell 2
            have b3 := qb.cell 3
            have b4 := qb.cell 4
            have b5 := qb.cell 5
            simp only [List.getElem?_cons_zero, List.getElem?_cons_succ] at b0 b1 b2 b3 b4 b5
            have hszA := ja.t.size
            clear al j hl
            go_wp2_with (at_builtin; refine wpList_append_lies _ rfl (.tmp 79) (.tmp 81) 52 rfl w.heap.size 51 i0 _ 6 80 Try.underlying52 hi hz0 hz1 hz2 rfl (by omega) (.slice vad k vcap) k (ls.flatMap LV.cs) (by rfl) (by have h := ja.o; rw [HK.out] at h; exact h) ⟨wc.heap.size, 0, none⟩ 1 1 l.cs (by rfl) (by rfl) (World.news_of_block (cs := #[.int .i64 l.kind, .int .i64 l.pot, .int .i64 l.skip, .slice l.f.a l.f.n l.f.cap, .slice l.f.c l.f.m l.f.cap', .int .i64 l.f.K]) (t := 51) (fr := (0, 0)) (heap_alloc_new wc _)) (by have h := flatL_one [l]; simpa using h) (by omega) (by unfold maxLen; omega) (by omega) hszA (wc.heap.size + 1) (by rw [World.size_alloc]) ?_)
            intro g9 cp9 w9 hown hgrow hat _
            have jn := ja.app (H := wc.heap.size) HK.out hla (fun b o e => by (have h := la b o e; exact ⟨by omega, by omega, fun e2 => by have := hvb b e2; omega⟩)) (fun b o e => by (have h := lc b o e; exact ⟨by omega, by omega, fun e2 => by have := hvb b e2; omega⟩)) (by rw [World.size_alloc]; omega) SZ hown hgrow (by rcases hat with h | h; exact .inl h; exact .inr (by omega))
            clear hown hgrow ja hla b0 b1 b2 b3 b4 b5
            go_wp2
            go_roundw
            case rel => exact ⟨m - 1, ls ++ [l], q5, by go_num, by rw [List.length_append, HK.out]; simp; omega, jn, by rw [List.length_append, HK.out]; exact h9, by omega, by omega⟩
            case measure => simp [intOf]; omega
      · have hm' : ¬ (0 : Int) < (m : Int) := by omega
        obtain ⟨vad, vcap, rfl⟩ := own_slice j.o
        go_wp2
        go_ret
        exact ⟨vad, ls.length, vcap, rfl, by first | exact ⟨ls, ⟨q, j, by first | exact ⟨rfl, hact, by omega, by omega⟩ | omega⟩⟩ | (refine ⟨ls, ?_⟩; trace_state; simp [hact]; exact ⟨q, j, by omega, by omega⟩)⟩

end Go.Proofs.Ytemcinobgdphnaa
