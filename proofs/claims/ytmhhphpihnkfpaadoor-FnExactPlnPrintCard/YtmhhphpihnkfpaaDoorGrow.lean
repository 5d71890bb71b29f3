/-
  A list of ints that grows by append, and what it holds. No condition.
-/
import Derived.Test.YtmhhphpihnkfpaaDoorMarks
import Derived.Deep.AppendLies
namespace Go.Proofs.YtmhhphpihnkfpaaDoor
open Go.RowKit
set_option linter.unusedVariables false

/-- A list that has been made since w, and grows; old memory is as it was. -/
structure JA (w : World) (v : Value) (xs : List Int) (W : World) : Prop where
  b : Below w.heap.size w W
  o : W.ownsRow w.heap.size 3 1 v xs.length (xs.map (Value.int .i64))
theorem JA.nil (w : World) : JA w (.slice none 0 0) [] w := ⟨Below.refl _ _, World.ownsRow_nil w _ _ _⟩
theorem JA.lit (w : World) : JA w (.slice (some ⟨w.heap.size, 0, none⟩) 0 0) [] (w.alloc (.cells #[] 3)) :=
  ⟨(Below.refl _ _).alloc (Nat.le_refl _) _, World.ownsRow_lit w #[] 0 (Nat.le_refl _) (by unfold maxLen; omega) rfl⟩
theorem JA.alloc {w W : World} {v : Value} {xs : List Int} (j : JA w v xs W) (o : Obj) : JA w v xs (W.alloc o) := ⟨j.b.alloc j.b.size _, j.o.alloc o⟩
theorem JA.below {w W W' : World} {v : Value} {xs : List Int} (j : JA w v xs W) (h : Below W.heap.size W W') : JA w v xs W' := by
  refine ⟨j.b.trans (h.mono j.b.size), j.o.1, ?_⟩
  rcases j.o.2 with h2 | ⟨g, cap, cur, hv, hg, hh, r⟩
  · exact Or.inl h2
  · exact Or.inr ⟨g, cap, cur, hv, hg, by rw [h.block g (lt_of_block hh)]; exact hh, r⟩
theorem JA.own {w W W' : World} {v v' : Value} {xs ys : List Int} (j : JA w v xs W) (o : W'.ownsRow w.heap.size 3 1 v' ys.length (ys.map (Value.int .i64))) (g : W.grownBy W' v.ownBlock) : JA w v' ys W' :=
  ⟨j.b.grown g j.b.size (fun k hk => (j.o.lt k hk).1), o⟩
theorem JA.ints {w W : World} {v : Value} {xs : List Int} (j : JA w v xs W) : ∃ a cap, v = .slice a xs.length cap ∧ xs.length ≤ cap ∧ Ints W a xs.length xs ∧ (∀ b o, a = some ⟨b, o, none⟩ → w.heap.size ≤ b ∧ b < W.heap.size) := by
  rcases j.o.2 with ⟨hv, h⟩ | ⟨g, cap', cur, rfl, hg, hh, hl, _, _⟩
  · rw [h]
    have : xs = [] := List.eq_nil_of_length_eq_zero h
    subst this
    exact ⟨none, 0, hv, Nat.le_refl _, ⟨rfl, fun i hi => by omega⟩, fun b o e => by cases e⟩
  · refine ⟨some ⟨g, 0, none⟩, cap', rfl, hl, ⟨rfl, fun i hi => ⟨g, 0, rfl, ?_⟩⟩, fun b o e => ?_⟩
    · have := j.o.cellAt i (by omega)
      rw [Nat.zero_add, this]
      simp [hi]
    · simp only [Option.some.injEq, Addr.mk.injEq, and_true] at e
      obtain ⟨rfl, rfl⟩ := e
      exact ⟨hg, lt_of_block hh⟩

/-- One number, laid into a block of its own, to be appended. -/
theorem news1 (w : World) (x : Value) (t : TypeId) : ∀ j u, [x][j]? = some u → (w.alloc (.cells #[x] t)).cell? ((⟨w.heap.size, 0, none⟩ : Addr).add j) = some u := fun j u hu => by
  match j, hu with
  | 0, hu =>
    simp only [List.getElem?_cons_zero, Option.some.injEq] at hu
    subst hu
    simp [Addr.add]
theorem one1 (k : IntKind) (x : Int) : ∀ u ∈ [Value.int k x], u.oneCell' = true := fun u hu => by
  simp at hu; subst hu; rfl
theorem JA.app {w W W' : World} {v : Value} {xs : List Int} {y : Int} {g cap k : Nat} {o : Obj} (j : JA w v xs W) (hk : xs.length = k) (hown : W'.ownsRow w.heap.size 3 1 (.slice (some ⟨g, 0, none⟩) (k + 1) cap) (k + 1) (xs.map (Value.int .i64) ++ [.int .i64 y])) (hg : (W.alloc o).grownBy W' v.ownBlock) :
    JA w (.slice (some ⟨g, 0, none⟩) (k + 1) cap) (xs ++ [y]) W' := by
  refine (j.alloc o).own ?_ hg
  rw [List.length_append, hk, List.map_append]
  exact hown

end Go.Proofs.YtmhhphpihnkfpaaDoor
