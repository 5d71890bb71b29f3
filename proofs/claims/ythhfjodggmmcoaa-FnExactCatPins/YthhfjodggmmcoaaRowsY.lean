/-
  A range over a function whose body never leaves the loop, where what is handed to a round is known to lie in memory. No condition.
-/
import Derived.Test.YthhfjodggmmcoaaKeyI
import Derived.RangeFuncNested
import Derived.RangeFuncBound
import Derived.RangeFuncCalls
import Derived.RangeFuncLeaves
namespace Go.Proofs.Ythhfjodggmmcoaa
open Go.RowKit
set_option linter.unusedVariables false

section
variable {P : Program} {n : Nat} {α : Type}

/-- How a round is left: it goes on. -/
def roundOn (B : Nat) (Kp : World → World → Prop) (I : List α → World → Prop) (xs : List α) (W : World) : Exit → Act → World → Prop
  | .normal, _, W' => KeepsFrom B W W' ∧ Kp W W' ∧ I xs W'
  | _, _, _ => False

theorem wpIn_rows {g : Operand} {ps : Array Tmp} {assign body : Code} {Q : Exit → Act → World → Prop} {a : Act} {w : World} {gf : Nat} {lb : Array Value}
    (hg : a.eval g = .func (.func gf) #[] lb) (eg : ∀ args w, (callFunc gf args).run P w = .ok (.enter gf args) w)
    {encs : α → Array Value} (hps : ∀ x, (encs x).size = ps.size) (A : α → World → Prop) (Kp : World → World → Prop) (Sx : List α → Prop) (I : List α → World → Prop)
    (hI : ∀ pre X Y, I pre X → Below X.heap.size X Y → I pre Y) (hIb : ∀ pre X l r r', I pre X → X.heap[l]? = some (.loop r) → w.heap.size < l → I pre (X.putObj l (.loop r')))
    (hKb : ∀ X l r r', X.heap[l]? = some (.loop r) → Kp X (X.putObj l (.loop r'))) (hKt : ∀ X Y Z, Kp X Y → Kp Y Z → Kp X Z) (h0 : I [] w)
    (hseq : ∀ (l : Nat) (J : List α → World → Prop) (W : World), (∀ pre X Y, J pre X → Below X.heap.size X Y → J pre Y) → Below w.heap.size w W → J [] W →
      (∀ m pre x X, J pre X → A x X → YieldAt Fence.wide m P l (encs x) X fun e Y => e = .returned (.bool true) ∧ J (pre ++ [x]) Y ∧ Kp X Y) →
      CallsIn Fence.wide (n - 1) P gf (#[.func (.yield l) #[] #[]] ++ lb) W fun e Y => (∃ v, e = .returned v) ∧ ∃ xs, Sx xs ∧ J xs Y)
    (hround : ∀ (m l : Nat) (pre : List α) (x : α) (X : World) (r : Loop), I pre X → A x X → X.heap[l]? = some (.loop r) → w.heap.size < l →
      assign.wpIn (Fence.wide.inRound l) m P (Exit.then (fun a' Y => KeepsFrom w.heap.size X Y ∧ Kp X Y ∧ body.wpIn (Fence.wide.inRound l) m P (roundOn w.heap.size Kp I (pre ++ [x]) (Y.putObj l (.loop { r with state := .busy }))) a' (Y.putObj l (.loop { r with state := .busy }))) (fun _ _ _ => False))
        { tmps := (ps.zip (encs x)).foldl (fun t (p, v) => t.setIfInBounds p v) a.tmps, defers := [] } X)
    (hdone : ∀ (D : Nat) (xs : List α) (W : World), w.heap.size ≤ D → Sx xs → I xs W → W.heap[D]? = some (.deferred (some [])) → Q .normal { a with defers := { target := .collected D, args := #[] } :: a.defers } W) :
    (Code.rangeFunc g ps assign body).wpIn Fence.wide n P Q a w := by
  refine wpIn_rangeFunc ?_
  intro fn _
  obtain ⟨r0, hr0⟩ : ∃ r0 : Loop, r0 = { state := .ready, pending := none, fn, tmps := a.tmps, params := ps, assign, body, defers := w.heap.size } := ⟨_, rfl⟩
  obtain ⟨W1, hW1⟩ : ∃ W1, W1 = (w.alloc (.deferred (some []))).alloc (.loop r0) := ⟨_, rfl⟩
  have b1 : Below w.heap.size w W1 := by rw [hW1]; exact ((Below.refl _ w).alloc (Nat.le_refl _) _).alloc (by simp) _
  have hL : W1.heap[w.heap.size + 1]? = some (.loop r0) := by
    rw [hW1]; have := World.alloc_heap_new (w.alloc (.deferred (some []))) (.loop r0); rwa [World.size_alloc] at this
  have hD : W1.heap[w.heap.size]? = some (.deferred (some [])) := by
    rw [hW1]; exact (Below.heap_alloc _ _ _ (by simp)).trans (World.alloc_heap_new w _)
  refine ⟨w.heap.size + 1, [{ target := .collected w.heap.size, args := #[] }], W1, { target := .fn (.func gf) lb, args := #[.func (.yield (w.heap.size + 1)) #[] #[]] }, W1, gf, #[.func (.yield (w.heap.size + 1)) #[] #[]] ++ lb, W1, ?_, ?_, ?_, ?_, ?_, ?_⟩
  · rw [hW1, hr0]; exact run_enterLoop_outer _ _ _ _ _
  · simp only [resolve, hg]
    simp [go_sem]
  · intro f' _; trivial
  · simp [invoke, go_sem, eg]
  · intro h; simp [Fence.wide] at h
  · refine (hseq (w.heap.size + 1) (fun pre W => I pre W ∧ W.heap[w.heap.size + 1]? = some (.loop r0) ∧ W.heap[w.heap.size]? = some (.deferred (some []))) W1 ?_ b1 ⟨hI _ _ _ h0 b1, hL, hD⟩ ?_).mono ?_
    · rintro pre X Y ⟨i1, i2, i3⟩ hb
      exact ⟨hI _ _ _ i1 hb, (hb.block _ (Array.getElem?_eq_some_iff.1 i2).1).trans i2, (hb.block _ (Array.getElem?_eq_some_iff.1 i3).1).trans i3⟩
    · rintro m pre x X ⟨i1, i2, i3⟩ hA
      have hy := run_yield (P := P) (args := encs x) i2 (by rw [hr0]; exact hps x)
      rw [hr0] at hy
      refine ⟨fn, _, assign, body, hy, roundIn_of_wpIn trivial (wpIn_mono (hround m _ pre x X r0 i1 hA i2 (by omega)) ?_)⟩
      rintro e a' Y hp
      cases e with
      | normal =>
        obtain ⟨k1, k2, hb⟩ := hp
        have j2 := k1.same _ _ (by omega) i2 rfl
        have j3 := k1.same _ _ (Nat.le_refl _) i3 rfl
        refine ⟨_, run_beginRound j2 (by rw [hr0]), wpIn_mono hb ?_⟩
        rintro e a'' Z hq
        cases e with
        | normal =>
          obtain ⟨q1, q2, q3⟩ := hq
          have hl : w.heap.size + 1 < Y.heap.size := (Array.getElem?_eq_some_iff.1 j2).1
          have m2 := q1.same _ _ (by omega) (World.putObj_heap_same (o := .loop { r0 with state := .busy }) hl) rfl
          have m3 := q1.same _ _ (Nat.le_refl _) ((World.putObj_heap_other (by omega)).trans j3) rfl
          have hz : w.heap.size + 1 < Z.heap.size := (Array.getElem?_eq_some_iff.1 m2).1
          refine ⟨_, _, run_endRound none m2, rfl, ⟨hIb _ _ _ _ _ q3 m2 (by omega), ?_, (World.putObj_heap_other (by omega)).trans m3⟩, hKt _ _ _ (hKt _ _ _ (hKt _ _ _ k2 (hKb _ _ _ _ j2)) q2) (hKb _ _ _ _ m2)⟩
          rw [World.putObj_heap_same hz, hr0]
          rfl
        | ret => exact hq.elim
        | exit id => exact hq.elim
        | goto t => exact hq.elim
        | panic c => exact hq.elim
        | outgrown => exact hq.elim
      | ret => exact hp.elim
      | exit id => exact hp.elim
      | goto t => exact hp.elim
      | panic c => exact hp.elim
      | outgrown => exact hp.elim
    · rintro e W2 ⟨⟨v, rfl⟩, xs, hS, i1, i2, i3⟩
      exact ⟨none, _, by have := run_endLoop (P := P) i2 (by rw [hr0]; simp); rw [hr0] at this; rw [hr0] at i2; exact this, hdone _ xs _ (Nat.le_refl _) hS (hIb _ _ _ _ _ i1 i2 (by omega)) ((World.putObj_heap_other (by omega)).trans i3)⟩

end
end Go.Proofs.Ythhfjodggmmcoaa
