/-
  What is drawn for pots and arguments, at any place of the bytes: some list of at most four numbers, in new memory.
-/
import Derived.Test.YtmdjcfplhmkocaaDoorDraw
namespace Go.Proofs.YtmdjcfplhmkocaaDoor
open Go.RowKit
set_option linter.unusedVariables false
set_option maxRecDepth 100000

theorem ownsRow_touch {S : Nat → Prop} {W W' : World} {base : Nat} {e : TypeId} {size : Nat} {v : Value} {n : Nat} {xs : List Value} (h : W.ownsRow base e size v n xs) (t : Touch S W W') (hS : ∀ k, S k → k < base) : W'.ownsRow base e size v n xs := by
  obtain ⟨h1, h2⟩ := h
  refine ⟨h1, ?_⟩
  rcases h2 with h2 | ⟨g, cap, cur, hv, hg, hh, r⟩
  · exact Or.inl h2
  · refine Or.inr ⟨g, cap, cur, hv, hg, ?_, r⟩
    rw [t.block g (lt_of_block hh) (fun hs => by have := hS g hs; omega)]; exact hh

theorem Touch.grown {S : Nat → Prop} {w W W' : World} {row : Option Nat} (h : Touch S w W) (g : W.grownBy W' row) (hr : ∀ k, row = some k → w.heap.size ≤ k) : Touch S w W' :=
  ⟨g.os.trans h.os, g.tape.trans h.tape, g.output.trans h.output, Nat.le_trans h.size g.size, fun k hk hs => (g.block k (Nat.lt_of_lt_of_le hk h.size) (fun e => by have := hr k e.symm; omega)).trans (h.block k hk hs)⟩

/-- What the drawing holds: the reader, the list so far, old memory. -/
structure J (w : World) (R : Nat) (a : Option Addr) (n cap : Nat) (bs : List Int) (p : Int) (v : Value) (xs : List Int) (W : World) : Prop where
  t : Touch (fun x => x = R) w W
  r : Rd W R a n cap bs p
  o : W.ownsRow w.heap.size 3 1 v xs.length (xs.map (Value.int .i64))
  lR : R < w.heap.size
  lb : 0 < n → ∀ b o, a = some ⟨b, o, none⟩ → b < w.heap.size
section
variable {w W W' : World} {R : Nat} {a : Option Addr} {n cap : Nat} {bs : List Int} {p : Int} {v : Value} {xs : List Int}
theorem J.alloc (j : J w R a n cap bs p v xs W) (o : Obj) : J w R a n cap bs p v xs (W.alloc o) :=
  ⟨j.t.trans (Touch.of ((Below.refl _ _).alloc (Nat.le_refl _) _)), j.r.below ((Below.refl _ _).alloc (Nat.le_refl _) _), j.o.alloc o, j.lR, j.lb⟩
theorem J.pick {q : Int} (j : J w R a n cap bs p v xs W) (t : Touch (fun x => x = R) W W') (r : Rd W' R a n cap bs q) : J w R a n cap bs q v xs W' :=
  ⟨j.t.trans t, r, ownsRow_touch j.o t (fun k h => by have := j.lR; omega), j.lR, j.lb⟩
theorem J.own {v' : Value} {ys : List Int} (j : J w R a n cap bs p v xs W) (o : W'.ownsRow w.heap.size 3 1 v' ys.length (ys.map (Value.int .i64))) (g : W.grownBy W' v.ownBlock) : J w R a n cap bs p v' ys W' := by
  have hr : ∀ k, v.ownBlock = some k → w.heap.size ≤ k := fun k hk => (j.o.lt k hk).1
  have lR := j.lR
  have T : Touch (fun x => w.heap.size ≤ x) W W' := ⟨g.os, g.tape, g.output, g.size, fun k hk hs => g.block k hk (fun e => hs (hr k e.symm))⟩
  exact ⟨j.t.grown g hr, j.r.touch T (by omega) (fun h0 b o hab => by have := j.lb h0 b o hab; omega), o, j.lR, j.lb⟩
theorem J.ints (j : J w R a n cap bs p v xs W) (h0 : 0 < xs.length) : ∃ g cap', v = .slice (some ⟨g, 0, none⟩) xs.length cap' ∧ xs.length ≤ cap' ∧ w.heap.size ≤ g ∧ Ints W (some ⟨g, 0, none⟩) xs.length xs ∧ ∀ i, W.frozen? ⟨g, i, none⟩ = false := by
  rcases j.o.2 with ⟨_, h⟩ | ⟨g, cap', cur, rfl, hg, hh, hl, _, _⟩
  · omega
  · refine ⟨g, cap', rfl, hl, hg, ⟨rfl, fun i hi => ⟨g, 0, rfl, ?_⟩⟩, fun i => j.o.frozenAt i⟩
    have := j.o.cellAt i (by omega)
    rw [Nat.zero_add, this]
    simp [hi]
end

theorem Touch.setNewD {S : Nat → Prop} {w W : World} (h : Touch S w W) {B : Nat} (hB : w.heap.size ≤ B) (i : Nat) (v : Value) : Touch S w (W.setCell ⟨B, i, none⟩ v) :=
  ⟨h.os, h.tape, h.output, by rw [size_setCell]; exact h.size, fun k hk hs => by rw [Below.heap_setCell _ _ _ _ (by simp only []; omega)]; exact h.block k hk hs⟩
theorem ints_set {W : World} {g n s : Nat} {xs : List Int} (h : Ints W (some ⟨g, 0, none⟩) n xs) (hs : s < n) (y : Int) : Ints (W.setCell ⟨g, s, none⟩ (.int .i64 y)) (some ⟨g, 0, none⟩) n (xs.set s y) := by
  refine ⟨by rw [List.length_set]; exact h.1, fun i hi => ⟨g, 0, rfl, ?_⟩⟩
  have hc : ∀ i, i < n → W.cell? ⟨g, i, none⟩ = some (.int .i64 (xs.getD i 0)) := fun i hi => by
    obtain ⟨b, o, e, hh⟩ := h.2 i hi
    simp only [Option.some.injEq, Addr.mk.injEq, and_true] at e
    obtain ⟨rfl, rfl⟩ := e
    simpa using hh
  rw [Nat.zero_add]
  by_cases e : i = s
  · subst e
    rw [World.cell?_setCell_same' W ⟨g, i, none⟩ _ (by rw [hc i hi]; rfl)]
    simp [h.1, hi]
  · have ho : (W.setCell ⟨g, s, none⟩ (.int .i64 y)).cell? ⟨g, i, none⟩ = W.cell? ⟨g, i, none⟩ := by
      first
        | exact World.cell?_setCell_other W ⟨g, s, none⟩ ⟨g, i, none⟩ (.int .i64 y) (by intro hh; simp only [Addr.mk.injEq] at hh; omega)
        | exact World.cell?_setCell_other W ⟨g, s, none⟩ (.int .i64 y) ⟨g, i, none⟩ (by intro hh; simp only [Addr.mk.injEq] at hh; omega)
        | exact World.cell?_setCell_other W ⟨g, s, none⟩ (.int .i64 y) (by intro hh; simp only [Addr.mk.injEq] at hh; omega)
        | exact World.cell?_setCell_other (by intro hh; simp only [Addr.mk.injEq] at hh; omega)
    rw [ho, hc i hi]
    simp [Ne.symm e]

/-- A list was drawn: it lies in new memory, the reader has gone on. -/
structure Dn (w w' : World) (R : Nat) (a : Option Addr) (n cap : Nat) (bs : List Int) (p q : Int) (a' : Option Addr) (n' : Nat) (zs : List Int) : Prop where
  t : Touch (fun x => x = R) w w'
  r : Rd w' R a n cap bs q
  i : Ints w' a' n' zs
  h4 : n' ≤ 4
  h1 : 1 ≤ n'
  lo : ∀ b o, a' = some ⟨b, o, none⟩ → w.heap.size ≤ b
  q0 : p ≤ q
  q1 : q ≤ p + 8
theorem Dn.hi {w w' : World} {R : Nat} {a : Option Addr} {n cap : Nat} {bs : List Int} {p q : Int} {a' : Option Addr} {n' : Nat} {zs : List Int} (h : Dn w w' R a n cap bs p q a' n' zs) : ∀ b o, a' = some ⟨b, o, none⟩ → b < w'.heap.size := fun b o e => by
  obtain ⟨b', o', e', hc⟩ := h.i.2 0 (by have := h.h1; omega)
  rw [e] at e'
  simp only [Option.some.injEq, Addr.mk.injEq, and_true] at e'
  have := block_lt hc
  omega
theorem J.setR {w W : World} {R : Nat} {a : Option Addr} {n cap : Nat} {bs : List Int} {p : Int} {v : Value} {xs : List Int} (j : J w R a n cap bs p v xs W) {g : Nat} (hg : w.heap.size ≤ g) (i : Nat) (x : Value) : Rd (W.setCell ⟨g, i, none⟩ x) R a n cap bs p := by
  have lR := j.lR
  have T : Touch (fun x => x = g) W (W.setCell ⟨g, i, none⟩ x) := Touch.setCell (S := fun x => x = g) (Touch.refl _ _) rfl _
  exact j.r.touch T (by omega) (fun h0 b o hab => by have := j.lb h0 b o hab; omega)

def tabV : List Int := [0, 1, 5, 20, -3, 60, 10000, -10000, 9996]

theorem J.start {w : World} {R : Nat} {a : Option Addr} {n cap : Nat} {bs : List Int} {p : Int} (hR : Rd w R a n cap bs p) (hlb : 0 < n → ∀ b o, a = some ⟨b, o, none⟩ → b < w.heap.size) : J w R a n cap bs p (.slice none 0 0) [] w :=
  ⟨Touch.refl _ _, hR, World.ownsRow_nil _ _ _ _, hR.c.lt, hlb⟩
theorem J.lit {w W : World} {R : Nat} {a : Option Addr} {n cap : Nat} {bs : List Int} {p : Int} {v : Value} {xs : List Int} (j : J w R a n cap bs p v xs W) (x y : Int) : J w R a n cap bs p (.slice (some ⟨W.heap.size, 0, none⟩) 2 2) [x, y] (W.alloc (.cells #[.int .i64 x, .int .i64 y] 3)) :=
  ⟨(j.alloc _).t, (j.alloc _).r, World.ownsRow_lit W #[.int .i64 x, .int .i64 y] 2 j.t.size (by unfold maxLen; omega) rfl, j.lR, j.lb⟩

end Go.Proofs.YtmdjcfplhmkocaaDoor
