/-
  Lemmas that the claim's last text rests on: RowsY, WayK2, WayF, WayP, WayQ, WayS, WayZ, WayH, IReads, IntSS, Has, Zero, CatWS, KeyR, CatWI, CatVw.
-/
import Derived.Test.YtngfbcegcekbbaaJCatWritesB
import Derived.RangeFuncNested
import Derived.RangeFuncBound
import Derived.RangeFuncCalls
import Derived.RangeFuncLeaves
import Derived.Shelf.Abstract
import Derived.Shelf.RegionOpen
import Derived.WalkKit
import Derived.OwnWalkIn
import Derived.TacticsInMore
import Derived.LoopNIn
import Derived.LoopIn
import Derived.Test.YtngfbcegcekbbaaMarks
import Derived.Test.YtngfbcegcekbbaaOpenS
import Derived.Test.YtngfbcegcekbbaaJCatWritesA
namespace Go.Proofs.Ytngfbcegcekbbaa
open Go.RowKit
set_option linter.unusedVariables false

section
variable {P : Program} {n : Nat} {α : Type}

/-- How a round is left: it goes on. -/
def roundOn (B : Nat) (Kp : World → World → Prop) (I : List α → World → Prop) (xs : List α) (W : World) : Exit → Act → World → Prop
  | .normal, _, W' => KeepsFrom B W W' ∧ Kp W W' ∧ I xs W'
  | _, _, _ => False

theorem wpIn_rows {g : Operand} {ps : Array Tmp} {assign body : Code} {Q : Exit → Act → World → Prop} {a : Act} {w : World} {gf : Nat} {lb : Array Value}
    (hg : a.eval g = .func (.func gf) #[] lb) (eg : ∀ args w, (callFunc gf args).run P w = .ok (.enter gf args) w)
    {encs : α → Array Value} (hps : ∀ x, (encs x).size = ps.size) (A : List α → α → World → Prop) (Kp : World → World → Prop) (Sx : List α → Prop) (I : List α → World → Prop)
    (hI : ∀ pre X Y, I pre X → Below X.heap.size X Y → I pre Y) (hIb : ∀ pre X l r r', I pre X → X.heap[l]? = some (.loop r) → w.heap.size < l → I pre (X.putObj l (.loop r')))
    (hKb : ∀ X l r r', X.heap[l]? = some (.loop r) → Kp X (X.putObj l (.loop r'))) (hKt : ∀ X Y Z, Kp X Y → Kp Y Z → Kp X Z) (h0 : I [] w)
    (hseq : ∀ (l : Nat) (J : List α → World → Prop) (W : World), (∀ pre X Y, J pre X → Below X.heap.size X Y → J pre Y) → Below w.heap.size w W → J [] W →
      (∀ m pre x X, J pre X → A pre x X → YieldAt Fence.wide m P l (encs x) X fun e Y => e = .returned (.bool true) ∧ J (pre ++ [x]) Y ∧ Kp X Y) →
      CallsIn Fence.wide (n - 1) P gf (#[.func (.yield l) #[] #[]] ++ lb) W fun e Y => (∃ v, e = .returned v) ∧ ∃ xs, Sx xs ∧ J xs Y)
    (hround : ∀ (m l : Nat) (pre : List α) (x : α) (X : World) (r : Loop), I pre X → A pre x X → X.heap[l]? = some (.loop r) → w.heap.size < l →
      assign.wpIn (Fence.wide.inRound l) m P (Exit.then (fun a' Y => KeepsFrom w.heap.size X Y ∧ Kp X Y ∧ body.wpIn (Fence.wide.inRound l) m P (roundOn w.heap.size Kp I (pre ++ [x]) (Y.putObj l (.loop { r with state := .busy }))) a' (Y.putObj l (.loop { r with state := .busy }))) (fun _ _ _ => False))
        { tmps := (ps.zip (encs x)).foldl (fun t (p, v) => t.setIfInBounds p v) a.tmps, defers := [] } X)
    (hdone : ∀ (D : Nat) (xs : List α) (W : World), w.heap.size ≤ D → Sx xs → I xs W → W.heap[D]? = some (.deferred (some [])) → Q .normal { a with defers := { target := .collected D, args := #[] } :: a.defers } W) :
    (Code.rangeFunc g ps assign body).wpIn Fence.wide n P Q a w := by
  refine wpIn_rangeFunc ?_
  intro fn _
  obtain ⟨r0, hr0⟩ : ∃ r0 : Loop, r0 = { state := .ready, pending := none, fn, tmps := a.tmps, params := ps, assign, body, defers := w.heap.size } := ⟨_, rfl⟩
  obtain ⟨W1, hW1⟩ : ∃ W1, W1 = (w.alloc (.deferred (some []))).alloc (.loop r0) := ⟨_, rfl⟩
  have b1 : Below w.heap.size w W1 := by rw [hW1]; exact ((Below.refl _ w).alloc (Nat.le_refl _) _).alloc (by simp) _
  have hL : W1.heap[w.heap.size + 1]? = some (.loop r0) := by
    rw [hW1]; have := World.alloc_heap_new (w.alloc (.deferred (some []))) (.loop r0); rwa [World.size_alloc] at this
  have hD : W1.heap[w.heap.size]? = some (.deferred (some [])) := by
    rw [hW1]; exact (Below.heap_alloc _ _ _ (by simp)).trans (World.alloc_heap_new w _)
  refine ⟨w.heap.size + 1, [{ target := .collected w.heap.size, args := #[] }], W1, { target := .fn (.func gf) lb, args := #[.func (.yield (w.heap.size + 1)) #[] #[]] }, W1, gf, #[.func (.yield (w.heap.size + 1)) #[] #[]] ++ lb, W1, ?_, ?_, ?_, ?_, ?_, ?_⟩
  · rw [hW1, hr0]; exact run_enterLoop_outer _ _ _ _ _
  · simp only [resolve, hg]
    simp [go_sem]
  · intro f' _; trivial
  · simp [invoke, go_sem, eg]
  · intro h; simp [Fence.wide] at h
  · refine (hseq (w.heap.size + 1) (fun pre W => I pre W ∧ W.heap[w.heap.size + 1]? = some (.loop r0) ∧ W.heap[w.heap.size]? = some (.deferred (some []))) W1 ?_ b1 ⟨hI _ _ _ h0 b1, hL, hD⟩ ?_).mono ?_
    · rintro pre X Y ⟨i1, i2, i3⟩ hb
      exact ⟨hI _ _ _ i1 hb, (hb.block _ (Array.getElem?_eq_some_iff.1 i2).1).trans i2, (hb.block _ (Array.getElem?_eq_some_iff.1 i3).1).trans i3⟩
    · rintro m pre x X ⟨i1, i2, i3⟩ hA
      have hy := run_yield (P := P) (args := encs x) i2 (by rw [hr0]; exact hps x)
      rw [hr0] at hy
      refine ⟨fn, _, assign, body, hy, roundIn_of_wpIn trivial (wpIn_mono (hround m _ pre x X r0 i1 hA i2 (by omega)) ?_)⟩
      rintro e a' Y hp
      cases e with
      | normal =>
        obtain ⟨k1, k2, hb⟩ := hp
        have j2 := k1.same _ _ (by omega) i2 rfl
        have j3 := k1.same _ _ (Nat.le_refl _) i3 rfl
        refine ⟨_, run_beginRound j2 (by rw [hr0]), wpIn_mono hb ?_⟩
        rintro e a'' Z hq
        cases e with
        | normal =>
          obtain ⟨q1, q2, q3⟩ := hq
          have hl : w.heap.size + 1 < Y.heap.size := (Array.getElem?_eq_some_iff.1 j2).1
          have m2 := q1.same _ _ (by omega) (World.putObj_heap_same (o := .loop { r0 with state := .busy }) hl) rfl
          have m3 := q1.same _ _ (Nat.le_refl _) ((World.putObj_heap_other (by omega)).trans j3) rfl
          have hz : w.heap.size + 1 < Z.heap.size := (Array.getElem?_eq_some_iff.1 m2).1
          refine ⟨_, _, run_endRound none m2, rfl, ⟨hIb _ _ _ _ _ q3 m2 (by omega), ?_, (World.putObj_heap_other (by omega)).trans m3⟩, hKt _ _ _ (hKt _ _ _ (hKt _ _ _ k2 (hKb _ _ _ _ j2)) q2) (hKb _ _ _ _ m2)⟩
          rw [World.putObj_heap_same hz, hr0]
          rfl
        | ret => exact hq.elim
        | exit id => exact hq.elim
        | goto t => exact hq.elim
        | panic c => exact hq.elim
        | outgrown => exact hq.elim
      | ret => exact hp.elim
      | exit id => exact hp.elim
      | goto t => exact hp.elim
      | panic c => exact hp.elim
      | outgrown => exact hp.elim
    · rintro e W2 ⟨⟨v, rfl⟩, xs, hS, i1, i2, i3⟩
      exact ⟨none, _, by have := run_endLoop (P := P) i2 (by rw [hr0]; simp); rw [hr0] at this; rw [hr0] at i2; exact this, hdone _ xs _ (Nat.le_refl _) hS (hIb _ _ _ _ _ i1 i2 (by omega)) ((World.putObj_heap_other (by omega)).trans i3)⟩

end
end Go.Proofs.Ytngfbcegcekbbaa
namespace Go.Proofs.Ytngfbcegcekbbaa
open Go.RowKit Go.Deep
set_option linter.unusedVariables false
set_option maxRecDepth 100000

/-- A block that a round may touch: no cells, or bools or rows, and no numbers. -/
def Loose (o : Option Obj) : Prop := ∀ cs t fr, o = some (.cells cs t fr) → (t = 4 ∨ t = 38) ∧ ∀ (i : Nat) q, cs[i]? ≠ some (.int .i64 q)
/-- What a round leaves. -/
def KpR (X Y : World) : Prop := Touch (fun k => Loose X.heap[k]?) X Y
theorem KpR.refl (X : World) : KpR X X := Touch.refl _ _
theorem KpR.of {X Y : World} (h : Below X.heap.size X Y) : KpR X Y := Touch.of h
theorem KpR.trans {X Y Z : World} (h : KpR X Y) (k : KpR Y Z) : KpR X Z :=
  ⟨k.os.trans h.os, k.tape.trans h.tape, k.output.trans h.output, Nat.le_trans h.size k.size, fun i hi hn => by
    have e := h.block i hi hn
    rw [k.block i (Nat.lt_of_lt_of_le hi h.size) (fun hl => hn (by rw [e] at hl; exact hl))]
    exact e⟩
theorem KpR.loop (X : World) (l : Nat) (r r' : Loop) (h : X.heap[l]? = some (.loop r)) : KpR X (X.putObj l (.loop r')) := by
  refine ⟨rfl, rfl, rfl, by simp [World.putObj], fun k hk hn => ?_⟩
  by_cases e : k = l
  · subst e
    exact absurd (fun cs t fr hh => by rw [h] at hh; cases hh) hn
  · exact World.putObj_heap_other e
theorem not_loose {X : World} {b o : Nat} {q : Int} (h : X.cell? ⟨b, o, none⟩ = some (.int .i64 q)) : ¬ Loose X.heap[b]? := fun hl => by
  simp only [World.cell?] at h
  split at h
  · rename_i c t fr hh
    have := (hl _ _ _ hh).2 o q
    simp at h
    exact this (by simpa using h)
  · cases h
theorem Ints.keepR {X Y : World} {a : Option Addr} {n : Nat} {zs : List Int} (h : Ints X a n zs) (k : KpR X Y) : Ints Y a n zs := by
  refine ⟨h.1, fun i hi => ?_⟩
  obtain ⟨b, off, e, hc⟩ := h.2 i hi
  refine ⟨b, off, e, ?_⟩
  rw [World.cell?_of_block (k.block b (block_lt hc) (not_loose hc))]; exact hc
theorem FormsAt.keepR {X Y : World} {a : Option Addr} {fs : List Frm} (h : FormsAt X a fs) (k : KpR X Y) : FormsAt Y a fs := fun i hi => by
  obtain ⟨b, off, e, a', c', ca, cc, c0, c1, c2, iC, iD⟩ := h i hi
  have hb := k.block b (block_lt c0) (not_loose c2)
  exact ⟨b, off, e, a', c', ca, cc, by rw [World.cell?_of_block hb]; exact c0, by rw [World.cell?_of_block hb]; exact c1, by rw [World.cell?_of_block hb]; exact c2, iC.keepR k, iD.keepR k⟩
theorem Cel.keepR {X Y : World} {B : Nat} {vs : List Value} {t : TypeId} (h : Cel X B vs t) (k : KpR X Y) (h1 : t ≠ 4) (h2 : t ≠ 38) : Cel Y B vs t := by
  have hl := h.lt
  unfold Cel at *
  rw [k.block B hl (fun hl => by rcases (hl _ _ _ h).1 with e | e <;> contradiction)]; exact h

end Go.Proofs.Ytngfbcegcekbbaa
namespace Go.Proofs.Ytngfbcegcekbbaa
open Go.RowKit Go.Deep Go.Shelf
set_option linter.unusedVariables false
set_option maxRecDepth 100000
attribute [local go_sem] Oper.semAt_some

abbrev walkV (l : Nat) (sa : Option Addr) (N sc : Nat) : Value := .agg #[.slice sa N sc, .func (.yield l) #[] #[]]
/-- What a round answers, handed a row that lies in memory made since n₀. -/
def Rounds (l n₀ : Nat) (J : List RowM → World → Prop) (M : Nat) : Prop := ∀ (m : Nat) (pre : List RowM) (v : Value) (r : RowM) (X : World), J pre X → RowFit r → RowX X n₀ v r → pre.length < M → YieldAt Fence.wide m Try.prog l #[v] X fun e Y => e = .returned (.bool true) ∧ J (pre ++ [r]) Y ∧ KpR X Y

set_option maxHeartbeats 3200000 in
theorem from_end (l n₀ : Nat) (J : List RowM → World → Prop) (hJ : ∀ pre X Y, J pre X → Below X.heap.size X Y → J pre Y) (M : Nat) (hY : Rounds l n₀ J M) (sa : Option Addr) (N sc : Nat) (i0 : Nat) (hi : N ≤ i0) (hi1 : i0 ≤ 12) (y : Way) (pa : Option Addr) (cp : Nat) (ga : Option Addr) (ng gc : Nat) (ta : Option Addr) (nt tc : Nat) (st : Bool) (q : RowM) (pre : List RowM) (W : World) (n : Nat) (hn0 : n₀ ≤ W.heap.size) (h0 : J pre W) (hq : RowFit q) (hM : pre.length < M)
    (hrow : ∀ X, Below W.heap.size W X → Calls Try.prog 99 #[wayV ga ng gc pa cp ta nt tc st] X fun e X' => ∃ v, e = .returned v ∧ Below X.heap.size X X' ∧ RowX X' X.heap.size v q) :
    CallsIn Fence.wide n Try.prog 76 #[walkV l sa N sc, .int .i64 (i0 : Int), wayV ga ng gc pa cp ta nt tc st] W fun e W' => e = .returned (.bool true) ∧ J (pre ++ [q]) W' ∧ KpR W W' := by
  have hge : (N : Int) ≤ i0 := by omega
  have A : Below W.heap.size W ((W.alloc (.cells #[.slice sa N sc, .func (.yield l) #[] #[]] 108)).alloc (.cells #[.slice ga ng gc, .slice pa 3 cp, .slice ta nt tc, .bool st] 111)) := ((Below.refl _ _).alloc (Nat.le_refl _) _).alloc (by simp) _
  have x0 := (Cel.new W [.slice sa N sc, .func (.yield l) #[] #[]] 108).alloc (.cells #[.slice ga ng gc, .slice pa 3 cp, .slice ta nt tc, .bool st] 111)
  have y0 := Cel.new (W.alloc (.cells #[.slice sa N sc, .func (.yield l) #[] #[]] 108)) [.slice ga ng gc, .slice pa 3 cp, .slice ta nt tc, .bool st] 111
  rw [World.size_alloc] at y0
  refine callsIn_of_wp Try.func76 rfl trivial ?_ rfl
  simp only [Try.ntmps76, List.size_toArray, List.length_cons, List.length_nil, Nat.reduceAdd, Nat.reduceSub, Array.replicate_succ, Array.replicate_zero, List.push_toArray, List.append_toArray, List.nil_append, List.cons_append]
  gi_wp2_with fail
  obtain ⟨W0, hW0⟩ : ∃ W0, W0 = (W.alloc (.cells #[.slice sa N sc, .func (.yield l) #[] #[]] 108)).alloc (.cells #[.slice ga ng gc, .slice pa 3 cp, .slice ta nt tc, .bool st] 111) := ⟨_, rfl⟩
  rw [← hW0] at A x0 y0 ⊢
  clear hW0
  have KP : Hid (∀ X, KpR W0 X → ((X.cell? ⟨W.heap.size, 0, none⟩ = some (.slice sa N sc) ∧ X.cell? ⟨W.heap.size, 1, none⟩ = some (.func (.yield l) #[] #[])) ∧ (X.cell? ⟨W.heap.size + 1, 0, none⟩ = some (.slice ga ng gc) ∧ X.cell? ⟨W.heap.size + 1, 1, none⟩ = some (.slice pa 3 cp) ∧ X.cell? ⟨W.heap.size + 1, 2, none⟩ = some (.slice ta nt tc) ∧ X.cell? ⟨W.heap.size + 1, 3, none⟩ = some (.bool st)))) := fun X hX => by
    have a1 := x0.keepR hX (by decide) (by decide)
    have a2 := y0.keepR hX (by decide) (by decide)
    exact ⟨⟨a1.cell 0, a1.cell 1⟩, a2.four⟩
  have e0 : Below W0.heap.size W0 W0.drew := (Below.refl _ _).drew
  have hSS := KP.out _ (KpR.of e0)
  refine wpIn_region_S (fun w' => (w'.cell? ⟨W.heap.size, 0, none⟩ = some (.slice sa N sc) ∧ w'.cell? ⟨W.heap.size, 1, none⟩ = some (.func (.yield l) #[] #[])) ∧ (w'.cell? ⟨W.heap.size + 1, 0, none⟩ = some (.slice ga ng gc) ∧ w'.cell? ⟨W.heap.size + 1, 1, none⟩ = some (.slice pa 3 cp) ∧ w'.cell? ⟨W.heap.size + 1, 2, none⟩ = some (.slice ta nt tc) ∧ w'.cell? ⟨W.heap.size + 1, 3, none⟩ = some (.bool st))) (by kernel_rfl) ?_
  refine wpAnyS_take (i := 0) (v := ?v0) rfl rfl (by kernel_rfl) (by kernel_rfl) (by kernel_rfl) (fun _ _ _ h => h) (Or.inl ⟨by rfl, ?y0⟩) (fun _ => rfl) hSS ?_
  case y0 => (intro wz hSw; (try dsimp only at hSw); go_simp; try (with_reducible rfl))
  refine wpAnyS_take (i := 1) (v := ?v1) rfl rfl (by kernel_rfl) (by kernel_rfl) (by kernel_rfl) (fun _ _ _ h => h) (Or.inl ⟨by rfl, ?y1⟩) (fun _ => rfl) hSS ?_
  case y1 => (intro wz hSw; (try dsimp only at hSw); go_simp; try (with_reducible rfl))
  refine wpAnyS_take (i := 2) (v := ?v2) rfl rfl (by kernel_rfl) (by kernel_rfl) (by kernel_rfl) (fun _ _ _ h => h) (Or.inl ⟨by rfl, ?y2⟩) (fun _ => rfl) hSS ?_
  case y2 => (intro wz hSw; (try dsimp only at hSw); go_simp; try (with_reducible rfl))
  clear hSS
  refine wpAnyS_one (i := 3) (by kernel_rfl) rfl (fun K hK => ?_)
  go_simp
  refine ⟨trivial, fun h => by simp [Fence.wide] at h, (callsIn_wide.2 (hrow _ (A.trans (e0.mono A.size)))).mono ?_⟩
  rintro e w1 ⟨v, rfl, bd1, rx⟩
  have b1 : Below W0.heap.size W0 w1 := below_of_drew bd1
  have hS1 := KP.out _ (KpR.of b1)
  have J1 := hJ _ _ _ h0 (A.trans (b1.mono A.size))
  have sA := A.size
  have rx' : RowX w1 n₀ v q := by
    obtain ⟨ga', gc', aa, ac, ta', tc', e, f0, f1, f2⟩ := rx
    have hs : n₀ ≤ W0.drew.heap.size := by show n₀ ≤ W0.heap.size; omega
    exact ⟨ga', gc', aa, ac, ta', tc', e, f0.mono (fun k hk => by omega), f1.mono (fun k hk => by omega), f2.mono (fun k hk => by omega)⟩
  (try dsimp only)
  refine hK.out _ _ hS1 ?_
  clear hK K bd1 rx
  obtain ⟨fn, tmps, assign, body, hy, hR⟩ := hY (n - 1) pre v q w1 J1 hq rx' hM
  refine wpAnyS_one (i := 4) (by kernel_rfl) rfl (fun K hK => ?_)
  go_simp
  refine ⟨fun h => by simp [Fence.wide] at h, hR.mono ?_⟩
  rintro e w2 ⟨rfl, J2, k2⟩
  have K2 := (KpR.of b1).trans k2
  have hS2 := KP.out _ K2
  (try dsimp only)
  refine hK.out _ _ hS2 ?_
  clear hK K hR hy
  refine wpAnyS_one (i := 5) (by kernel_rfl) rfl (fun K hK => ?_)
  go_simp
  refine hK.out _ _ hS2 ?_
  clear hK K
  refine wpAnyS_done (by kernel_rfl) ?_ _
  have KK := (KpR.of A).trans K2
  clear KP hS1 hS2 x0 y0
  gi_wp2
  go_ret
  exact ⟨rfl, J2, KK⟩

end Go.Proofs.Ytngfbcegcekbbaa
namespace Go.Proofs.Ytngfbcegcekbbaa
open Go.RowKit Go.Deep Go.Shelf
set_option linter.unusedVariables false
set_option maxRecDepth 100000
attribute [local go_sem] Oper.semAt_some

abbrev goV (l : Nat) (sa : Option Addr) (N sc : Nat) : Value := .func (.func 76) #[walkV l sa N sc] #[]
/-- What comes of going on, from X on. -/
def GoesOn (l : Nat) (sa : Option Addr) (N sc : Nat) (i : Int) (v : Value) (J : World → Prop) (X : World) : Prop := ∀ m, CallsIn Fence.wide m Try.prog 76 #[walkV l sa N sc, .int .i64 i, v] X fun e Y => e = .returned (.bool true) ∧ J Y ∧ KpR X Y

theorem is_test_test (v : Value) (w : World) : (Instr.typeAssert (.iface 140 v) 122 140 true).run Try.prog w = .ok (.tuple #[v, .bool true]) w := by kernel_rfl
theorem is_test_add (v : Value) (w : World) : (Instr.typeAssert (.iface 140 v) 122 142 true).run Try.prog w = .ok (.tuple #[.agg #[.int .i64 0, .slice none 0 0, .slice none 0 0, .int .i64 0], .bool false]) w := by kernel_rfl
theorem is_test_print (v : Value) (w : World) : (Instr.typeAssert (.iface 140 v) 122 144 true).run Try.prog w = .ok (.tuple #[.agg #[.slice none 0 0, .slice none 0 0, .int .i64 0], .bool false]) w := by kernel_rfl
theorem is_add_test (v : Value) (w : World) : (Instr.typeAssert (.iface 142 v) 122 140 true).run Try.prog w = .ok (.tuple #[.agg #[.int .i64 0, .slice none 0 0, .slice none 0 0, .int .i64 0], .bool false]) w := by kernel_rfl
theorem is_add_add (v : Value) (w : World) : (Instr.typeAssert (.iface 142 v) 122 142 true).run Try.prog w = .ok (.tuple #[v, .bool true]) w := by kernel_rfl
theorem is_add_print (v : Value) (w : World) : (Instr.typeAssert (.iface 142 v) 122 144 true).run Try.prog w = .ok (.tuple #[.agg #[.slice none 0 0, .slice none 0 0, .int .i64 0], .bool false]) w := by kernel_rfl
theorem is_print_test (v : Value) (w : World) : (Instr.typeAssert (.iface 144 v) 122 140 true).run Try.prog w = .ok (.tuple #[.agg #[.int .i64 0, .slice none 0 0, .slice none 0 0, .int .i64 0], .bool false]) w := by kernel_rfl
theorem is_print_add (v : Value) (w : World) : (Instr.typeAssert (.iface 144 v) 122 142 true).run Try.prog w = .ok (.tuple #[.agg #[.int .i64 0, .slice none 0 0, .slice none 0 0, .int .i64 0], .bool false]) w := by kernel_rfl
theorem is_print_print (v : Value) (w : World) : (Instr.typeAssert (.iface 144 v) 122 144 true).run Try.prog w = .ok (.tuple #[v, .bool true]) w := by kernel_rfl
theorem is_stop_test (v : Value) (w : World) : (Instr.typeAssert (.iface 145 v) 122 140 true).run Try.prog w = .ok (.tuple #[.agg #[.int .i64 0, .slice none 0 0, .slice none 0 0, .int .i64 0], .bool false]) w := by kernel_rfl
theorem is_stop_add (v : Value) (w : World) : (Instr.typeAssert (.iface 145 v) 122 142 true).run Try.prog w = .ok (.tuple #[.agg #[.int .i64 0, .slice none 0 0, .slice none 0 0, .int .i64 0], .bool false]) w := by kernel_rfl
theorem is_stop_print (v : Value) (w : World) : (Instr.typeAssert (.iface 145 v) 122 144 true).run Try.prog w = .ok (.tuple #[.agg #[.slice none 0 0, .slice none 0 0, .int .i64 0], .bool false]) w := by kernel_rfl

set_option maxHeartbeats 3200000 in
theorem past_stop (l : Nat) (sa : Option Addr) (N sc : Nat) (nx : Int) (ga : Option Addr) (ng gc : Nat) (pa : Option Addr) (cp : Nat) (ta : Option Addr) (nt tc : Nat) (J : World → Prop) (W : World) (n : Nat)
    (hgo : ∀ X, Below W.heap.size W X → GoesOn l sa N sc 6 (wayV ga ng gc pa cp ta nt tc true) J X) :
    CallsIn Fence.wide n Try.prog 100 #[wayV ga ng gc pa cp ta nt tc false, .iface 145 (.agg #[]), .int .i64 nx, goV l sa N sc] W fun e Y => e = .returned (.bool true) ∧ J Y ∧ KpR W Y := by
  have hdd : ∀ k : Nat, (Fence.wide.depth.isSome = true → 1 ≤ k) := fun k h => by simp [Fence.wide] at h
  refine callsIn_of_wp Try.func100 rfl trivial ?_ rfl
  simp only [Try.ntmps100, List.size_toArray, List.length_cons, List.length_nil, Nat.reduceAdd, Nat.reduceSub, Array.replicate_succ, Array.replicate_zero, List.push_toArray, List.append_toArray, List.nil_append, List.cons_append]
  have t1 := is_stop_test
  have t2 := is_stop_add
  have t3 := is_stop_print
  have A : Below W.heap.size W (W.alloc (.cells #[.slice ga ng gc, .slice pa 3 cp, .slice ta nt tc, .bool true] 111)) := (Below.refl _ _).alloc (Nat.le_refl _) _
  have hc := hgo _ A
  gi_wp2_with fail
  refine ⟨trivial, hdd _, (hc _).mono ?_⟩
  rintro e w1 ⟨rfl, j1, k1⟩
  have kk := (KpR.of A).trans k1
  clear hc
  gi_wp2
  go_ret
  exact ⟨rfl, j1, kk⟩

set_option maxHeartbeats 6400000 in
theorem past_print (l : Nat) (sa : Option Addr) (N sc : Nat) (nx : Int) (i : Nat) (y : Way) (hy : WayOk i y) (h6 : i ≤ 5) (g : FV) (hs : smallB g.n g.m g.C g.D g.K = true) (ga : Option Addr) (ng gc : Nat) (pa : Option Addr) (cp : Nat) (ta : Option Addr) (nt tc : Nat) (J : World → Prop) (W : World) (n : Nat) (hA : g.At W) (hP : FormsAt W pa y.pots) (hT : FormsAt W ta y.tells) (htl : y.tells.length = nt)
    (hgo : ∀ X ta' tc', Below W.heap.size W X → FormsAt X ta' (y.tells ++ [intoX g y.pots]) → GoesOn l sa N sc nx (wayV ga ng gc pa cp ta' (nt + 1) tc' false) J X) :
    CallsIn Fence.wide n Try.prog 100 #[wayV ga ng gc pa cp ta nt tc false, .iface 144 (.agg #[.slice g.a g.n g.cap, .slice g.c g.m g.cap', .int .i64 g.K]), .int .i64 nx, goV l sa N sc] W fun e Y => e = .returned (.bool true) ∧ J Y ∧ KpR W Y := by
  have hdd : ∀ k : Nat, (Fence.wide.depth.isSome = true → 1 ≤ k) := fun k h => by simp [Fence.wide] at h
  obtain ⟨fit1, fit2, -⟩ := hy.into (by omega) (f := g) hs hA.D.1
  have HF1 : Hid _ := fit1
  have HF2 : Hid _ := fit2
  have HY : Hid (WayOk i y) := hy
  have HTL : Hid (y.tells.length = nt) := htl
  have nt1 : nt ≤ 100 := by have := hy.tl; omega
  obtain ⟨FX, hFX⟩ : ∃ FX, FX = intoX g y.pots := ⟨_, rfl⟩
  have HFX : Hid (intoX g y.pots = FX) := hFX.symm
  have lXC := fit2.c
  have lXD := fit2.d
  rw [← hFX] at lXC lXD
  clear fit1 fit2 hy htl hFX
  have A0 : Below W.heap.size W ((W.alloc (.cells #[.slice ga ng gc, .slice pa 3 cp, .slice ta nt tc, .bool false] 111)).alloc (.cells #[.slice g.a g.n g.cap, .slice g.c g.m g.cap', .int .i64 g.K] 144)) := ((Below.refl _ _).alloc (Nat.le_refl _) _).alloc (by simp) _
  have x0 := (Cel.new W [.slice ga ng gc, .slice pa 3 cp, .slice ta nt tc, .bool false] 111).alloc (.cells #[.slice g.a g.n g.cap, .slice g.c g.m g.cap', .int .i64 g.K] 144)
  have y0 := Cel.new (W.alloc (.cells #[.slice ga ng gc, .slice pa 3 cp, .slice ta nt tc, .bool false] 111)) [.slice g.a g.n g.cap, .slice g.c g.m g.cap', .int .i64 g.K] 144
  rw [World.size_alloc] at y0
  have t0 := is_print_test
  have t1 := is_print_add
  have t2 := is_print_print
  refine callsIn_of_wp Try.func100 rfl trivial ?_ rfl
  simp only [Try.ntmps100, List.size_toArray, List.length_cons, List.length_nil, Nat.reduceAdd, Nat.reduceSub, Array.replicate_succ, Array.replicate_zero, List.push_toArray, List.append_toArray, List.nil_append, List.cons_append]
  gi_wp2_with fail
  obtain ⟨W0, hW0⟩ : ∃ W0, W0 = (W.alloc (.cells #[.slice ga ng gc, .slice pa 3 cp, .slice ta nt tc, .bool false] 111)).alloc (.cells #[.slice g.a g.n g.cap, .slice g.c g.m g.cap', .int .i64 g.K] 144) := ⟨_, rfl⟩
  rw [← hW0] at A0 x0 y0 ⊢
  clear hW0
  have KA : Hid (∀ X, KpR W0 X → Cel X W.heap.size [.slice ga ng gc, .slice pa 3 cp, .slice ta nt tc, .bool false] 111) := fun X hX => x0.keepR hX (by decide) (by decide)
  have KB : Hid (∀ X, KpR W0 X → Cel X (W.heap.size + 1) [.slice g.a g.n g.cap, .slice g.c g.m g.cap', .int .i64 g.K] 144) := fun X hX => y0.keepR hX (by decide) (by decide)
  have KP : Hid (∀ X, KpR W0 X → ((X.cell? ⟨W.heap.size, 0, none⟩ = some (.slice ga ng gc) ∧ X.cell? ⟨W.heap.size, 1, none⟩ = some (.slice pa 3 cp) ∧ X.cell? ⟨W.heap.size, 2, none⟩ = some (.slice ta nt tc) ∧ X.cell? ⟨W.heap.size, 3, none⟩ = some (.bool false)) ∧ (X.cell? ⟨W.heap.size + 1, 0, none⟩ = some (.slice g.a g.n g.cap) ∧ X.cell? ⟨W.heap.size + 1, 1, none⟩ = some (.slice g.c g.m g.cap') ∧ X.cell? ⟨W.heap.size + 1, 2, none⟩ = some (.int .i64 g.K)))) := fun X hX => ⟨(KA.out X hX).four, (KB.out X hX).cell 0, (KB.out X hX).cell 1, (KB.out X hX).cell 2⟩
  have e0 : Below W0.heap.size W0 W0.drew := (Below.refl _ _).drew
  have hSS := KP.out _ (KpR.of e0)
  refine wpIn_region_S (fun w' => (w'.cell? ⟨W.heap.size, 0, none⟩ = some (.slice ga ng gc) ∧ w'.cell? ⟨W.heap.size, 1, none⟩ = some (.slice pa 3 cp) ∧ w'.cell? ⟨W.heap.size, 2, none⟩ = some (.slice ta nt tc) ∧ w'.cell? ⟨W.heap.size, 3, none⟩ = some (.bool false)) ∧ (w'.cell? ⟨W.heap.size + 1, 0, none⟩ = some (.slice g.a g.n g.cap) ∧ w'.cell? ⟨W.heap.size + 1, 1, none⟩ = some (.slice g.c g.m g.cap') ∧ w'.cell? ⟨W.heap.size + 1, 2, none⟩ = some (.int .i64 g.K))) (by kernel_rfl) ?_
  refine wpAnyS_take (i := 0) (v := ?v0) rfl rfl (by kernel_rfl) (by kernel_rfl) (by kernel_rfl) (fun _ _ _ h => h) (Or.inl ⟨by rfl, ?y0⟩) (fun _ => rfl) hSS ?_
  case y0 => (intro wz hSw; (try dsimp only at hSw); go_simp; try (with_reducible rfl))
  refine wpAnyS_take (i := 1) (v := ?v1) rfl rfl (by kernel_rfl) (by kernel_rfl) (by kernel_rfl) (fun _ _ _ h => h) (Or.inl ⟨by rfl, ?y1⟩) (fun _ => rfl) hSS ?_
  case y1 => (intro wz hSw; (try dsimp only at hSw); go_simp; try (with_reducible rfl))
  refine wpAnyS_take (i := 2) (v := ?v2) rfl rfl (by kernel_rfl) (by kernel_rfl) (by kernel_rfl) (fun _ _ _ h => h) (Or.inl ⟨by rfl, ?y2⟩) (fun _ => rfl) hSS ?_
  case y2 => (intro wz hSw; (try dsimp only at hSw); go_simp; try (with_reducible rfl))
  refine wpAnyS_take (i := 3) (v := ?v3) rfl rfl (by kernel_rfl) (by kernel_rfl) (by kernel_rfl) (fun _ _ _ h => h) (Or.inl ⟨by rfl, ?y3⟩) (fun _ => rfl) hSS ?_
  case y3 => (intro wz hSw; (try dsimp only at hSw); go_simp; try (with_reducible rfl))
  refine wpAnyS_take (i := 4) (v := ?v4) rfl rfl (by kernel_rfl) (by kernel_rfl) (by kernel_rfl) (fun _ _ _ h => h) (Or.inl ⟨by rfl, ?y4⟩) (fun _ => rfl) hSS ?_
  case y4 => (intro wz hSw; (try dsimp only at hSw); go_simp; try (with_reducible rfl))
  refine wpAnyS_take (i := 5) (v := ?v5) rfl rfl (by kernel_rfl) (by kernel_rfl) (by kernel_rfl) (fun _ _ _ h => h) (Or.inl ⟨by rfl, ?y5⟩) (fun _ => rfl) hSS ?_
  case y5 => (intro wz hSw; (try dsimp only at hSw); go_simp; try (with_reducible rfl))
  refine wpAnyS_take (i := 6) (v := ?v6) rfl rfl (by kernel_rfl) (by kernel_rfl) (by kernel_rfl) (fun _ _ _ h => h) (Or.inl ⟨by rfl, ?y6⟩) (fun _ => rfl) hSS ?_
  case y6 => (intro wz hSw; (try dsimp only at hSw); go_simp; try (with_reducible rfl))
  clear hSS
  refine wpAnyS_one (i := 7) (by kernel_rfl) rfl (fun K hK => ?_)
  go_simp
  refine ⟨trivial, hdd _, (callsIn_wide.2 (iintoW_any HY.out (by omega) g hs _ (hA.below (A0.trans (e0.mono A0.size))) _ _ (hP.keep (A0.trans (e0.mono A0.size))))).mono ?_⟩
  rintro e w1 ⟨B1, B2, c1, c2, rfl, bd1, y1, y2, y3, k1, k2⟩
  rw [HFX.out] at k1 k2 ⊢
  have b1 : Below W0.heap.size W0 w1 := below_of_drew bd1
  have E1 := A0.trans (b1.mono A0.size)
  clear bd1 y1 y2 y3
  (try dsimp only)
  refine hK.out _ _ (KP.out _ (KpR.of b1)) ?_
  clear hK K
  refine wpAnyS_one (i := 8) (by kernel_rfl) rfl (fun K hK => ?_)
  go_simp
  refine ⟨trivial, hdd _, (callsIn_wide.2 (itell_any FX y.tells _ _ _ _ _ _ _ _ _ _ _ _ _ _ HTL.out nt1 (hT.keep E1) (k1.ints' lXC) (k2.ints' lXD))).mono ?_⟩
  rintro e w2 ⟨G, cG, rfl, b2', F2⟩
  have b2 := b1.trans (b2'.mono b1.size)
  have E2 := A0.trans (b2.mono A0.size)
  have HG2 : Hid _ := hgo w2 _ cG E2 (by rw [HFX.out]; exact F2)
  clear k1 k2
  (try dsimp only)
  refine hK.out _ _ (KP.out _ (KpR.of b2)) ?_
  clear hK K
  refine wpAnyS_one (i := 9) (by kernel_rfl) rfl (fun K hK => ?_)
  go_simp
  refine ⟨trivial, hdd _, (HG2.out _).mono ?_⟩
  rintro e w3 ⟨rfl, j3, k3⟩
  have K3 := (KpR.of b2).trans k3
  have KK := (KpR.of A0).trans K3
  (try dsimp only)
  refine hK.out _ _ (KP.out _ K3) ?_
  clear hK K
  refine wpAnyS_one (i := 10) (by kernel_rfl) rfl (fun K hK => ?_)
  go_simp
  refine hK.out _ _ (KP.out _ K3) ?_
  clear hK K
  refine wpAnyS_done (by kernel_rfl) ?_ _
  clear KP KA KB x0 y0 HG2
  gi_wp2
  go_ret
  exact ⟨rfl, j3, KK⟩

set_option maxHeartbeats 6400000 in
theorem past_add (l : Nat) (sa : Option Addr) (N sc : Nat) (nx : Int) (i : Nat) (y : Way) (hy : WayOk i y) (h6 : i ≤ 5) (g : FV) (hs : smallB g.n g.m g.C g.D g.K = true) (ga : Option Addr) (ng gc : Nat) (pa : Option Addr) (cp : Nat) (ta : Option Addr) (nt tc : Nat) (J : World → Prop) (W : World) (n : Nat) (hA : g.At W) (hP : FormsAt W pa y.pots) (hT : FormsAt W ta y.tells) (htl : y.tells.length = nt)
    (p : Nat) (hp : p < 3) (hgo : ∀ X pa' cp', Below W.heap.size W X → FormsAt X pa' (y.add p (intoX g y.pots)).pots → GoesOn l sa N sc nx (wayV ga ng gc pa' cp' ta nt tc false) J X) :
    CallsIn Fence.wide n Try.prog 100 #[wayV ga ng gc pa cp ta nt tc false, .iface 142 (.agg #[.int .i64 (p : Int), .slice g.a g.n g.cap, .slice g.c g.m g.cap', .int .i64 g.K]), .int .i64 nx, goV l sa N sc] W fun e Y => e = .returned (.bool true) ∧ J Y ∧ KpR W Y := by
  have hdd : ∀ k : Nat, (Fence.wide.depth.isSome = true → 1 ≤ k) := fun k h => by simp [Fence.wide] at h
  obtain ⟨fit1, fit2, -⟩ := hy.into (by omega) (f := g) hs hA.D.1
  have HF1 : Hid _ := fit1
  have HF2 : Hid _ := fit2
  have HY : Hid (WayOk i y) := hy
  have HTL : Hid (y.tells.length = nt) := htl
  have nt1 : nt ≤ 100 := by have := hy.tl; omega
  obtain ⟨FX, hFX⟩ : ∃ FX, FX = intoX g y.pots := ⟨_, rfl⟩
  have HFX : Hid (intoX g y.pots = FX) := hFX.symm
  have lXC := fit2.c
  have lXD := fit2.d
  rw [← hFX] at lXC lXD
  have hw := wb_pos i
  have hw6 := wb_six (n := i) (by omega)
  have hq := hy.pf p hp
  rw [show min i 6 = i by omega] at hq
  have HQ1 : Hid (fitX 10000000 (y.pots[p]?.getD noX)) := hq.mono (by omega)
  have HQ3 : Hid (fitX 10000000 (plusX (y.pots[p]?.getD noX) (intoX g y.pots))) := (plusX_fit hq fit1 (by omega)).mono (by omega)
  clear fit1 fit2 hy htl hFX hq
  have A0 : Below W.heap.size W ((W.alloc (.cells #[.slice ga ng gc, .slice pa 3 cp, .slice ta nt tc, .bool false] 111)).alloc (.cells #[.int .i64 (p : Int), .slice g.a g.n g.cap, .slice g.c g.m g.cap', .int .i64 g.K] 142)) := ((Below.refl _ _).alloc (Nat.le_refl _) _).alloc (by simp) _
  have x0 := (Cel.new W [.slice ga ng gc, .slice pa 3 cp, .slice ta nt tc, .bool false] 111).alloc (.cells #[.int .i64 (p : Int), .slice g.a g.n g.cap, .slice g.c g.m g.cap', .int .i64 g.K] 142)
  have y0 := Cel.new (W.alloc (.cells #[.slice ga ng gc, .slice pa 3 cp, .slice ta nt tc, .bool false] 111)) [.int .i64 (p : Int), .slice g.a g.n g.cap, .slice g.c g.m g.cap', .int .i64 g.K] 142
  rw [World.size_alloc] at y0
  have t0 := is_add_test
  have t1 := is_add_add
  have t2 := is_add_print
  refine callsIn_of_wp Try.func100 rfl trivial ?_ rfl
  simp only [Try.ntmps100, List.size_toArray, List.length_cons, List.length_nil, Nat.reduceAdd, Nat.reduceSub, Array.replicate_succ, Array.replicate_zero, List.push_toArray, List.append_toArray, List.nil_append, List.cons_append]
  gi_wp2_with fail
  obtain ⟨W0, hW0⟩ : ∃ W0, W0 = (W.alloc (.cells #[.slice ga ng gc, .slice pa 3 cp, .slice ta nt tc, .bool false] 111)).alloc (.cells #[.int .i64 (p : Int), .slice g.a g.n g.cap, .slice g.c g.m g.cap', .int .i64 g.K] 142) := ⟨_, rfl⟩
  rw [← hW0] at A0 x0 y0 ⊢
  clear hW0
  have KA : Hid (∀ X, KpR W0 X → Cel X W.heap.size [.slice ga ng gc, .slice pa 3 cp, .slice ta nt tc, .bool false] 111) := fun X hX => x0.keepR hX (by decide) (by decide)
  have KB : Hid (∀ X, KpR W0 X → Cel X (W.heap.size + 1) [.int .i64 (p : Int), .slice g.a g.n g.cap, .slice g.c g.m g.cap', .int .i64 g.K] 142) := fun X hX => y0.keepR hX (by decide) (by decide)
  have KP : Hid (∀ X, KpR W0 X → ((X.cell? ⟨W.heap.size, 0, none⟩ = some (.slice ga ng gc) ∧ X.cell? ⟨W.heap.size, 1, none⟩ = some (.slice pa 3 cp) ∧ X.cell? ⟨W.heap.size, 2, none⟩ = some (.slice ta nt tc) ∧ X.cell? ⟨W.heap.size, 3, none⟩ = some (.bool false)) ∧ (X.cell? ⟨W.heap.size + 1, 0, none⟩ = some (.int .i64 (p : Int)) ∧ X.cell? ⟨W.heap.size + 1, 1, none⟩ = some (.slice g.a g.n g.cap) ∧ X.cell? ⟨W.heap.size + 1, 2, none⟩ = some (.slice g.c g.m g.cap') ∧ X.cell? ⟨W.heap.size + 1, 3, none⟩ = some (.int .i64 g.K)))) := fun X hX => ⟨(KA.out X hX).four, (KB.out X hX).cell 0, (KB.out X hX).cell 1, (KB.out X hX).cell 2, (KB.out X hX).cell 3⟩
  have e0 : Below W0.heap.size W0 W0.drew := (Below.refl _ _).drew
  have hSS := KP.out _ (KpR.of e0)
  refine wpIn_region_S (fun w' => (w'.cell? ⟨W.heap.size, 0, none⟩ = some (.slice ga ng gc) ∧ w'.cell? ⟨W.heap.size, 1, none⟩ = some (.slice pa 3 cp) ∧ w'.cell? ⟨W.heap.size, 2, none⟩ = some (.slice ta nt tc) ∧ w'.cell? ⟨W.heap.size, 3, none⟩ = some (.bool false)) ∧ (w'.cell? ⟨W.heap.size + 1, 0, none⟩ = some (.int .i64 (p : Int)) ∧ w'.cell? ⟨W.heap.size + 1, 1, none⟩ = some (.slice g.a g.n g.cap) ∧ w'.cell? ⟨W.heap.size + 1, 2, none⟩ = some (.slice g.c g.m g.cap') ∧ w'.cell? ⟨W.heap.size + 1, 3, none⟩ = some (.int .i64 g.K))) (by kernel_rfl) ?_
  refine wpAnyS_take (i := 0) (v := ?v0) rfl rfl (by kernel_rfl) (by kernel_rfl) (by kernel_rfl) (fun _ _ _ h => h) (Or.inl ⟨by rfl, ?y0⟩) (fun _ => rfl) hSS ?_
  case y0 => (intro wz hSw; (try dsimp only at hSw); go_simp; try (with_reducible rfl))
  refine wpAnyS_take (i := 1) (v := ?v1) rfl rfl (by kernel_rfl) (by kernel_rfl) (by kernel_rfl) (fun _ _ _ h => h) (Or.inl ⟨by rfl, ?y1⟩) (fun _ => rfl) hSS ?_
  case y1 => (intro wz hSw; (try dsimp only at hSw); go_simp; try (with_reducible rfl))
  refine wpAnyS_take (i := 2) (v := ?v2) rfl rfl (by kernel_rfl) (by kernel_rfl) (by kernel_rfl) (fun _ _ _ h => h) (Or.inl ⟨by rfl, ?y2⟩) (fun _ => rfl) hSS ?_
  case y2 => (intro wz hSw; (try dsimp only at hSw); go_simp; try (with_reducible rfl))
  refine wpAnyS_take (i := 3) (v := ?v3) rfl rfl (by kernel_rfl) (by kernel_rfl) (by kernel_rfl) (fun _ _ _ h => h) (Or.inl ⟨by rfl, ?y3⟩) (fun _ => rfl) hSS ?_
  case y3 => (intro wz hSw; (try dsimp only at hSw); go_simp; try (with_reducible rfl))
  refine wpAnyS_take (i := 4) (v := ?v4) rfl rfl (by kernel_rfl) (by kernel_rfl) (by kernel_rfl) (fun _ _ _ h => h) (Or.inl ⟨by rfl, ?y4⟩) (fun _ => rfl) hSS ?_
  case y4 => (intro wz hSw; (try dsimp only at hSw); go_simp; try (with_reducible rfl))
  refine wpAnyS_take (i := 5) (v := ?v5) rfl rfl (by kernel_rfl) (by kernel_rfl) (by kernel_rfl) (fun _ _ _ h => h) (Or.inl ⟨by rfl, ?y5⟩) (fun _ => rfl) hSS ?_
  case y5 => (intro wz hSw; (try dsimp only at hSw); go_simp; try (with_reducible rfl))
  refine wpAnyS_take (i := 6) (v := ?v6) rfl rfl (by kernel_rfl) (by kernel_rfl) (by kernel_rfl) (fun _ _ _ h => h) (Or.inl ⟨by rfl, ?y6⟩) (fun _ => rfl) hSS ?_
  case y6 => (intro wz hSw; (try dsimp only at hSw); go_simp; try (with_reducible rfl))
  refine wpAnyS_take (i := 7) (v := ?v7) rfl rfl (by kernel_rfl) (by kernel_rfl) (by kernel_rfl) (fun _ _ _ h => h) (Or.inl ⟨by rfl, ?y7⟩) (fun _ => rfl) hSS ?_
  case y7 => (intro wz hSw; (try dsimp only at hSw); go_simp; try (with_reducible rfl))
  refine wpAnyS_take (i := 8) (v := ?v8) rfl rfl (by kernel_rfl) (by kernel_rfl) (by kernel_rfl) (fun _ _ _ h => h) (Or.inl ⟨by rfl, ?y8⟩) (fun _ => rfl) hSS ?_
  case y8 => (intro wz hSw; (try dsimp only at hSw); go_simp; try (with_reducible rfl))
  clear hSS
  refine wpAnyS_one (i := 9) (by kernel_rfl) rfl (fun K hK => ?_)
  go_simp
  refine ⟨trivial, hdd _, (callsIn_wide.2 (iintoW_any HY.out (by omega) g hs _ (hA.below (A0.trans (e0.mono A0.size))) _ _ (hP.keep (A0.trans (e0.mono A0.size))))).mono ?_⟩
  rintro e w1 ⟨B1, B2, c1, c2, rfl, bd1, y1, y2, y3, k1, k2⟩
  rw [HFX.out] at k1 k2 ⊢
  have b1 : Below W0.heap.size W0 w1 := below_of_drew bd1
  have E1 := A0.trans (b1.mono A0.size)
  clear bd1 y1 y2 y3
  (try dsimp only)
  refine hK.out _ _ (KP.out _ (KpR.of b1)) ?_
  clear hK K
  refine wpAnyS_one (i := 10) (by kernel_rfl) rfl (fun K hK => ?_)
  go_simp
  refine ⟨trivial, hdd _, (callsIn_wide.2 (iadding_any y p hp FX _ _ _ _ _ _ _ _ _ _ _ _ _ _ HY.out.pl (hP.keep E1) (k1.ints' lXC) (k2.ints' lXD) HQ1.out (by rw [← HFX.out]; exact HF2.out) (by rw [← HFX.out]; exact HQ3.out))).mono ?_⟩
  rintro e w2 ⟨G, cG, rfl, b2', F2⟩
  have b2 := b1.trans (b2'.mono b1.size)
  have E2 := A0.trans (b2.mono A0.size)
  have HG2 : Hid _ := hgo w2 _ cG E2 (by rw [HFX.out]; exact F2)
  clear k1 k2
  (try dsimp only)
  refine hK.out _ _ (KP.out _ (KpR.of b2)) ?_
  clear hK K
  refine wpAnyS_one (i := 11) (by kernel_rfl) rfl (fun K hK => ?_)
  go_simp
  refine ⟨trivial, hdd _, (HG2.out _).mono ?_⟩
  rintro e w3 ⟨rfl, j3, k3⟩
  have K3 := (KpR.of b2).trans k3
  have KK := (KpR.of A0).trans K3
  (try dsimp only)
  refine hK.out _ _ (KP.out _ K3) ?_
  clear hK K
  refine wpAnyS_one (i := 12) (by kernel_rfl) rfl (fun K hK => ?_)
  go_simp
  refine hK.out _ _ (KP.out _ K3) ?_
  clear hK K
  refine wpAnyS_done (by kernel_rfl) ?_ _
  clear KP KA KB x0 y0 HG2
  gi_wp2
  go_ret
  exact ⟨rfl, j3, KK⟩

end Go.Proofs.Ytngfbcegcekbbaa
namespace Go.Proofs.Ytngfbcegcekbbaa
open Go.RowKit Go.Deep Go.Shelf
set_option linter.unusedVariables false
set_option maxRecDepth 100000
attribute [local go_sem] Oper.semAt_some

set_option maxHeartbeats 12800000 in
theorem past_test (l : Nat) (sa : Option Addr) (N sc : Nat) (nx sk : Int) (hnx : 0 ≤ nx ∧ nx ≤ 100) (hsk : 0 ≤ sk ∧ sk ≤ 100) (i : Nat) (y : Way) (hy : WayOk i y) (h6 : i ≤ 5) (g : FV) (hs : smallB g.n g.m g.C g.D g.K = true) (ga : Option Addr) (ng gc : Nat) (pa : Option Addr) (cp : Nat) (ta : Option Addr) (nt tc : Nat) (J1 J2 : World → Prop) (hJ1 : ∀ X Y, J1 X → Below X.heap.size X Y → J1 Y) (W : World) (n : Nat) (hA : g.At W) (hP : FormsAt W pa y.pots) (hG : FormsAt W ga y.guards) (hgl : y.guards.length = ng)
    (hgo1 : ∀ X ga' gc', Below W.heap.size W X → FormsAt X ga' (y.guards ++ [intoX g y.pots]) → GoesOn l sa N sc nx (wayV ga' (ng + 1) gc' pa cp ta nt tc false) J1 X)
    (hgo2 : ∀ X ga' gc', KpR W X → J1 X → FormsAt X ga' (y.guards ++ [minusX (intoX g y.pots)]) → GoesOn l sa N sc (nx + sk) (wayV ga' (ng + 1) gc' pa cp ta nt tc false) J2 X) :
    CallsIn Fence.wide n Try.prog 100 #[wayV ga ng gc pa cp ta nt tc false, .iface 140 (.agg #[.int .i64 sk, .slice g.a g.n g.cap, .slice g.c g.m g.cap', .int .i64 g.K]), .int .i64 nx, goV l sa N sc] W fun e Y => e = .returned (.bool true) ∧ J2 Y ∧ KpR W Y := by
  have hdd : ∀ k : Nat, (Fence.wide.depth.isSome = true → 1 ≤ k) := fun k h => by simp [Fence.wide] at h
  obtain ⟨hnx0, hnx1⟩ := hnx
  obtain ⟨hsk0, hsk1⟩ := hsk
  obtain ⟨-, fit2, fit3⟩ := hy.into (by omega) (f := g) hs hA.D.1
  have HY : Hid (WayOk i y) := hy
  have HGL : Hid (y.guards.length = ng) := hgl
  have ng1 : ng ≤ 100 := by have := hy.gl; omega
  obtain ⟨FX, hFX⟩ : ∃ FX, FX = intoX g y.pots := ⟨_, rfl⟩
  have HFX : Hid (intoX g y.pots = FX) := hFX.symm
  rw [← hFX] at fit2 fit3 hgo1 hgo2
  have lXC := fit2.c
  have lXD := fit2.d
  have bXC := fit2.bc
  have bXD := fit2.bd
  have bX1 := fit2.k1
  have bX2 := fit2.k2
  have HF3 : Hid (fitX 10000000 (minusX FX)) := fit3
  have hK3 : (minusX FX).2.2 = -FX.2.2 - 1 := by simp only [minusX]; omega
  have HK3 : Hid _ := hK3
  have hw : IntKind.i64.wrap (nx + sk) = nx + sk := wrap_id (by omega) (by omega)
  clear fit2 fit3 hy hgl hFX hK3
  have A0 : Below W.heap.size W ((W.alloc (.cells #[.slice ga ng gc, .slice pa 3 cp, .slice ta nt tc, .bool false] 111)).alloc (.cells #[.int .i64 sk, .slice g.a g.n g.cap, .slice g.c g.m g.cap', .int .i64 g.K] 140)) := ((Below.refl _ _).alloc (Nat.le_refl _) _).alloc (by simp) _
  have x0 := (Cel.new W [.slice ga ng gc, .slice pa 3 cp, .slice ta nt tc, .bool false] 111).alloc (.cells #[.int .i64 sk, .slice g.a g.n g.cap, .slice g.c g.m g.cap', .int .i64 g.K] 140)
  have y0 := Cel.new (W.alloc (.cells #[.slice ga ng gc, .slice pa 3 cp, .slice ta nt tc, .bool false] 111)) [.int .i64 sk, .slice g.a g.n g.cap, .slice g.c g.m g.cap', .int .i64 g.K] 140
  rw [World.size_alloc] at y0
  have t1 := is_test_test
  refine callsIn_of_wp Try.func100 rfl trivial ?_ rfl
  simp only [Try.ntmps100, List.size_toArray, List.length_cons, List.length_nil, Nat.reduceAdd, Nat.reduceSub, Array.replicate_succ, Array.replicate_zero, List.push_toArray, List.append_toArray, List.nil_append, List.cons_append]
  gi_wp2_with fail
  refine ⟨trivial, hdd _, (callsIn_wide.2 (iintoW_any HY.out (by omega) g hs _ (hA.below A0) _ _ (hP.keep A0))).mono ?_⟩
  rintro e w1 ⟨B1, B2, c1, c2, rfl, b1, y1, y2, y3, k1, k2⟩
  rw [HFX.out] at k1 k2 ⊢
  have E1 := A0.trans (b1.mono A0.size)
  have x1 := x0.below b1
  have y1' := y0.below b1
  have A1 : Below w1.heap.size w1 (w1.alloc (.cells #[.slice (some ⟨B1, 0, none⟩) 3 c1, .slice (some ⟨B2, 0, none⟩) 2 c2, .int .i64 FX.2.2] 32)) := (Below.refl _ _).alloc (Nat.le_refl _) _
  have x2 := x1.below A1
  have y2' := y1'.below A1
  have z2 := Cel.new w1 [.slice (some ⟨B1, 0, none⟩) 3 c1, .slice (some ⟨B2, 0, none⟩) 2 c2, .int .i64 FX.2.2] 32
  have E2 := E1.trans (A1.mono E1.size)
  have u1 := k1.below A1
  have u2 := k2.below A1
  clear x0 y0 x1 y1' A0 b1 y1 y2 y3 k1 k2 E1
  gi_wp2_with fail
  obtain ⟨W0, hW0⟩ : ∃ W0, W0 = w1.alloc (.cells #[.slice (some ⟨B1, 0, none⟩) 3 c1, .slice (some ⟨B2, 0, none⟩) 2 c2, .int .i64 FX.2.2] 32) := ⟨_, rfl⟩
  rw [← hW0] at x2 y2' z2 E2 u1 u2 ⊢
  clear hW0 A1
  have KP : Hid (∀ X, KpR W0 X → ((X.cell? ⟨W.heap.size, 0, none⟩ = some (.slice ga ng gc) ∧ X.cell? ⟨W.heap.size, 1, none⟩ = some (.slice pa 3 cp) ∧ X.cell? ⟨W.heap.size, 2, none⟩ = some (.slice ta nt tc) ∧ X.cell? ⟨W.heap.size, 3, none⟩ = some (.bool false)) ∧ (X.cell? ⟨W.heap.size + 1, 0, none⟩ = some (.int .i64 sk) ∧ X.cell? ⟨W.heap.size + 1, 1, none⟩ = some (.slice g.a g.n g.cap) ∧ X.cell? ⟨W.heap.size + 1, 2, none⟩ = some (.slice g.c g.m g.cap') ∧ X.cell? ⟨W.heap.size + 1, 3, none⟩ = some (.int .i64 g.K)) ∧ (X.cell? ⟨w1.heap.size, 0, none⟩ = some (.slice (some ⟨B1, 0, none⟩) 3 c1) ∧ X.cell? ⟨w1.heap.size, 1, none⟩ = some (.slice (some ⟨B2, 0, none⟩) 2 c2) ∧ X.cell? ⟨w1.heap.size, 2, none⟩ = some (.int .i64 FX.2.2)))) := fun X hX => by
    have q1 := x2.keepR hX (by decide) (by decide)
    have q2 := y2'.keepR hX (by decide) (by decide)
    have q3 := z2.keepR hX (by decide) (by decide)
    obtain ⟨m0, m1, m2, -, -, -⟩ := q3.trio
    exact ⟨q1.four, ⟨q2.cell 0, q2.cell 1, q2.cell 2, q2.cell 3⟩, m0, m1, m2⟩
  have e0 : Below W0.heap.size W0 W0.drew := (Below.refl _ _).drew
  have hSS := KP.out _ (KpR.of e0)
  have G0 := hG.keep E2
  clear x2 y2' z2
  refine wpIn_region_S (fun w' => (w'.cell? ⟨W.heap.size, 0, none⟩ = some (.slice ga ng gc) ∧ w'.cell? ⟨W.heap.size, 1, none⟩ = some (.slice pa 3 cp) ∧ w'.cell? ⟨W.heap.size, 2, none⟩ = some (.slice ta nt tc) ∧ w'.cell? ⟨W.heap.size, 3, none⟩ = some (.bool false)) ∧ (w'.cell? ⟨W.heap.size + 1, 0, none⟩ = some (.int .i64 sk) ∧ w'.cell? ⟨W.heap.size + 1, 1, none⟩ = some (.slice g.a g.n g.cap) ∧ w'.cell? ⟨W.heap.size + 1, 2, none⟩ = some (.slice g.c g.m g.cap') ∧ w'.cell? ⟨W.heap.size + 1, 3, none⟩ = some (.int .i64 g.K)) ∧ (w'.cell? ⟨w1.heap.size, 0, none⟩ = some (.slice (some ⟨B1, 0, none⟩) 3 c1) ∧ w'.cell? ⟨w1.heap.size, 1, none⟩ = some (.slice (some ⟨B2, 0, none⟩) 2 c2) ∧ w'.cell? ⟨w1.heap.size, 2, none⟩ = some (.int .i64 FX.2.2))) (by kernel_rfl) ?_
  refine wpAnyS_take (i := 0) (v := ?v0) rfl rfl (by kernel_rfl) (by kernel_rfl) (by kernel_rfl) (fun _ _ _ h => h) (Or.inl ⟨by rfl, ?y0⟩) (fun _ => rfl) hSS ?_
  case y0 => (intro wz hSw; (try dsimp only at hSw); go_simp; try (with_reducible rfl))
  refine wpAnyS_take (i := 1) (v := ?v1) rfl rfl (by kernel_rfl) (by kernel_rfl) (by kernel_rfl) (fun _ _ _ h => h) (Or.inl ⟨by rfl, ?y1⟩) (fun _ => rfl) hSS ?_
  case y1 => (intro wz hSw; (try dsimp only at hSw); go_simp; try (with_reducible rfl))
  refine wpAnyS_take (i := 2) (v := ?v2) rfl rfl (by kernel_rfl) (by kernel_rfl) (by kernel_rfl) (fun _ _ _ h => h) (Or.inl ⟨by rfl, ?y2⟩) (fun _ => rfl) hSS ?_
  case y2 => (intro wz hSw; (try dsimp only at hSw); go_simp; try (with_reducible rfl))
  refine wpAnyS_take (i := 3) (v := ?v3) rfl rfl (by kernel_rfl) (by kernel_rfl) (by kernel_rfl) (fun _ _ _ h => h) (Or.inl ⟨by rfl, ?y3⟩) (fun _ => rfl) hSS ?_
  case y3 => (intro wz hSw; (try dsimp only at hSw); go_simp; try (with_reducible rfl))
  clear hSS
  refine wpAnyS_one (i := 4) (by kernel_rfl) rfl (fun K hK => ?_)
  go_simp
  refine ⟨trivial, hdd _, (callsIn_wide.2 (iguard_any FX y.guards _ _ _ _ _ _ _ _ _ _ _ _ _ _ HGL.out ng1 (G0.keep e0) ((u1.below e0).ints' lXC) ((u2.below e0).ints' lXD))).mono ?_⟩
  rintro e w2 ⟨G, cG, rfl, bd2, F2⟩
  have b2 : Below W0.heap.size W0 w2 := below_of_drew bd2
  have HG1 : Hid _ := hgo1 w2 _ cG (E2.trans (b2.mono E2.size)) F2
  clear bd2 F2 e0
  (try dsimp only)
  refine hK.out _ _ (KP.out _ (KpR.of b2)) ?_
  clear hK K
  refine wpAnyS_one (i := 5) (by kernel_rfl) rfl (fun K hK => ?_)
  go_simp
  refine ⟨trivial, hdd _, (HG1.out _).mono ?_⟩
  rintro e w3 ⟨rfl, j3, k3⟩
  have K3 := (KpR.of b2).trans k3
  have hS3 := KP.out _ K3
  (try dsimp only)
  refine hK.out _ _ hS3 ?_
  clear hK K HG1 k3
  refine wpAnyS_one (i := 6) (by kernel_rfl) rfl (fun K hK => ?_)
  go_simp
  refine hK.out _ _ hS3 ?_
  clear hK K
  refine wpAnyS_take (i := 7) (v := ?dv7) rfl rfl (by kernel_rfl) (by kernel_rfl) (by kernel_rfl) (fun _ _ _ h => h) (Or.inl ⟨by kernel_rfl, ?dy7⟩) (fun _ => rfl) hS3 ?_
  case dy7 => (intro wz hSw; (try dsimp only at hSw); go_simp; try (with_reducible rfl))
  refine wpAnyS_take (i := 8) (v := ?dv8) rfl rfl (by kernel_rfl) (by kernel_rfl) (by kernel_rfl) (fun _ _ _ h => h) (Or.inl ⟨by kernel_rfl, ?dy8⟩) (fun _ => rfl) hS3 ?_
  case dy8 => (intro wz hSw; (try dsimp only at hSw); go_simp; try (with_reducible rfl))
  refine wpAnyS_take (i := 9) (v := ?dv9) rfl rfl (by kernel_rfl) (by kernel_rfl) (by kernel_rfl) (fun _ _ _ h => h) (Or.inl ⟨by kernel_rfl, ?dy9⟩) (fun _ => rfl) hS3 ?_
  case dy9 => (intro wz hSw; (try dsimp only at hSw); go_simp; try (with_reducible rfl))
  refine wpAnyS_take (i := 10) (v := ?dv10) rfl rfl (by kernel_rfl) (by kernel_rfl) (by kernel_rfl) (fun _ _ _ h => h) (Or.inl ⟨by kernel_rfl, ?dy10⟩) (fun _ => rfl) hS3 ?_
  case dy10 => (intro wz hSw; (try dsimp only at hSw); go_simp; try (with_reducible rfl))
  refine wpAnyS_take (i := 11) (v := ?dv11) rfl rfl (by kernel_rfl) (by kernel_rfl) (by kernel_rfl) (fun _ _ _ h => h) (Or.inl ⟨by kernel_rfl, ?dy11⟩) (fun _ => rfl) hS3 ?_
  case dy11 => (intro wz hSw; (try dsimp only at hSw); go_simp; try (with_reducible rfl))
  refine wpAnyS_take (i := 12) (v := ?dv12) rfl rfl (by kernel_rfl) (by kernel_rfl) (by kernel_rfl) (fun _ _ _ h => h) (Or.inl ⟨by kernel_rfl, ?dy12⟩) (fun _ => rfl) hS3 ?_
  case dy12 => (intro wz hSw; (try dsimp only at hSw); go_simp; try (with_reducible rfl))
  refine wpAnyS_take (i := 13) (v := ?dv13) rfl rfl (by kernel_rfl) (by kernel_rfl) (by kernel_rfl) (fun _ _ _ h => h) (Or.inl ⟨by kernel_rfl, ?dy13⟩) (fun _ => rfl) hS3 ?_
  case dy13 => (intro wz hSw; (try dsimp only at hSw); go_simp; try (with_reducible rfl))
  have v1 := (u1.ints' lXC).keepR K3
  have v2 := (u2.ints' lXD).keepR K3
  have G3 := G0.keepR K3
  clear hS3 u1 u2 G0 b2
  refine wpAnyS_one (i := 14) (by kernel_rfl) rfl (fun K hK => ?_)
  go_simp
  refine ⟨trivial, hdd _, (callsIn_wide.2 (ilack_any _ _ _ _ _ FX.1 FX.2.1 _ v1 v2 bXC bXD bX1 bX2 HF3.out)).mono ?_⟩
  rintro e w4 ⟨M1, M2, rfl, b4, -, -, -, m1, m2⟩
  have K4 := K3.trans (KpR.of b4)
  have j4 := hJ1 _ _ j3 b4
  (try dsimp only)
  refine hK.out _ _ (KP.out _ K4) ?_
  clear hK K j3 K3
  have hcall := iguard_any (minusX FX) y.guards ga ng gc pa cp ta nt tc false (some ⟨M1, 0, none⟩) 3 (some ⟨M2, 0, none⟩) 2 w4 HGL.out ng1 (G3.keep b4) (m1.ints' (by rw [mulL_len]; exact lXC)) (m2.ints' (by rw [mulL_len]; exact lXD))
  rw [HK3.out] at hcall
  refine wpAnyS_one (i := 15) (by kernel_rfl) rfl (fun K hK => ?_)
  go_simp
  refine ⟨trivial, hdd _, (callsIn_wide.2 hcall).mono ?_⟩
  rintro e w5 ⟨G5, c5, rfl, b5, F5⟩
  have K5 := K4.trans (KpR.of b5)
  have HG2 : Hid _ := hgo2 w5 _ c5 ((KpR.of E2).trans K5) (hJ1 _ _ j4 b5) F5
  (try dsimp only)
  refine hK.out _ _ (KP.out _ K5) ?_
  clear hK K hcall F5 j4 K4 m1 m2
  refine wpAnyS_one (i := 16) (by kernel_rfl) rfl (fun K hK => ?_)
  go_simp
  refine ⟨trivial, hdd _, (HG2.out _).mono ?_⟩
  rintro e w6 ⟨rfl, j6, k6⟩
  have K6 := K5.trans k6
  have KK := (KpR.of E2).trans K6
  (try dsimp only)
  refine hK.out _ _ (KP.out _ K6) ?_
  clear hK K HG2
  refine wpAnyS_one (i := 17) (by kernel_rfl) rfl (fun K hK => ?_)
  go_simp
  refine hK.out _ _ (KP.out _ K6) ?_
  clear hK K
  refine wpAnyS_one (i := 18) (by kernel_rfl) rfl (fun K hK => ?_)
  go_simp
  refine hK.out _ _ (KP.out _ K6) ?_
  clear hK K
  refine wpAnyS_done (by kernel_rfl) ?_ _
  clear KP
  gi_wp2
  go_ret
  exact ⟨rfl, j6, KK⟩

end Go.Proofs.Ytngfbcegcekbbaa
namespace Go.Proofs.Ytngfbcegcekbbaa
open Go.RowKit Go.Deep Go.Shelf
set_option linter.unusedVariables false
set_option maxRecDepth 100000
attribute [local go_sem] Oper.semAt_some

set_option maxHeartbeats 6400000 in
theorem from_step (l : Nat) (SG N sc i0 : Nat) (hlt : i0 < N) (hi1 : i0 ≤ 12) (ga : Option Addr) (ng gc : Nat) (pa : Option Addr) (cp : Nat) (ta : Option Addr) (nt tc : Nat) (ty : TypeId) (sv : Value) (cur : List Value) (J : World → Prop) (W : World) (n : Nat) (hC : Cel W SG cur 122) (hv : cur[i0]? = some (.iface ty sv))
    (hpast : ∀ X m, Below W.heap.size W X → CallsIn Fence.wide m Try.prog 100 #[wayV ga ng gc pa cp ta nt tc false, .iface ty sv, .int .i64 ((i0 : Int) + 1), goV l (some ⟨SG, 0, none⟩) N sc] X fun e Y => e = .returned (.bool true) ∧ J Y ∧ KpR X Y) :
    CallsIn Fence.wide n Try.prog 76 #[walkV l (some ⟨SG, 0, none⟩) N sc, .int .i64 (i0 : Int), wayV ga ng gc pa cp ta nt tc false] W fun e Y => e = .returned (.bool true) ∧ J Y ∧ KpR W Y := by
  have hdd : ∀ k : Nat, (Fence.wide.depth.isSome = true → 1 ≤ k) := fun k h => by simp [Fence.wide] at h
  have hge : ¬ ((N : Int) ≤ i0) := by omega
  have hlt' : (i0 : Int) < N := by omega
  have hw : IntKind.i64.wrap ((i0 : Int) + 1) = (i0 : Int) + 1 := wrap_id (by omega) (by omega)
  have A : Below W.heap.size W ((W.alloc (.cells #[.slice (some ⟨SG, 0, none⟩) N sc, .func (.yield l) #[] #[]] 108)).alloc (.cells #[.slice ga ng gc, .slice pa 3 cp, .slice ta nt tc, .bool false] 111)) := ((Below.refl _ _).alloc (Nat.le_refl _) _).alloc (by simp) _
  have x0 := (Cel.new W [.slice (some ⟨SG, 0, none⟩) N sc, .func (.yield l) #[] #[]] 108).alloc (.cells #[.slice ga ng gc, .slice pa 3 cp, .slice ta nt tc, .bool false] 111)
  have y0 := Cel.new (W.alloc (.cells #[.slice (some ⟨SG, 0, none⟩) N sc, .func (.yield l) #[] #[]] 108)) [.slice ga ng gc, .slice pa 3 cp, .slice ta nt tc, .bool false] 111
  rw [World.size_alloc] at y0
  have s0 := hC.below A
  refine callsIn_of_wp Try.func76 rfl trivial ?_ rfl
  simp only [Try.ntmps76, List.size_toArray, List.length_cons, List.length_nil, Nat.reduceAdd, Nat.reduceSub, Array.replicate_succ, Array.replicate_zero, List.push_toArray, List.append_toArray, List.nil_append, List.cons_append]
  gi_wp2_with fail
  obtain ⟨W0, hW0⟩ : ∃ W0, W0 = (W.alloc (.cells #[.slice (some ⟨SG, 0, none⟩) N sc, .func (.yield l) #[] #[]] 108)).alloc (.cells #[.slice ga ng gc, .slice pa 3 cp, .slice ta nt tc, .bool false] 111) := ⟨_, rfl⟩
  rw [← hW0] at A x0 y0 s0 ⊢
  clear hW0
  have KP : Hid (∀ X, KpR W0 X → ((X.cell? ⟨W.heap.size, 0, none⟩ = some (.slice (some ⟨SG, 0, none⟩) N sc) ∧ X.cell? ⟨W.heap.size, 1, none⟩ = some (.func (.yield l) #[] #[])) ∧ (X.cell? ⟨W.heap.size + 1, 0, none⟩ = some (.slice ga ng gc) ∧ X.cell? ⟨W.heap.size + 1, 1, none⟩ = some (.slice pa 3 cp) ∧ X.cell? ⟨W.heap.size + 1, 2, none⟩ = some (.slice ta nt tc) ∧ X.cell? ⟨W.heap.size + 1, 3, none⟩ = some (.bool false)) ∧ X.cell? ⟨SG, i0, none⟩ = some (.iface ty sv))) := fun X hX => by
    have a1 := x0.keepR hX (by decide) (by decide)
    have a2 := y0.keepR hX (by decide) (by decide)
    have a3 := s0.keepR hX (by decide) (by decide)
    exact ⟨⟨a1.cell 0, a1.cell 1⟩, a2.four, (a3.cell i0).trans hv⟩
  have e0 : Below W0.heap.size W0 W0.drew := (Below.refl _ _).drew
  have hSS := KP.out _ (KpR.of e0)
  have HP : Hid _ := hpast _ (n - 1) (A.trans (e0.mono A.size))
  clear x0 y0 s0 hpast
  refine wpIn_region_S (fun w' => (w'.cell? ⟨W.heap.size, 0, none⟩ = some (.slice (some ⟨SG, 0, none⟩) N sc) ∧ w'.cell? ⟨W.heap.size, 1, none⟩ = some (.func (.yield l) #[] #[])) ∧ (w'.cell? ⟨W.heap.size + 1, 0, none⟩ = some (.slice ga ng gc) ∧ w'.cell? ⟨W.heap.size + 1, 1, none⟩ = some (.slice pa 3 cp) ∧ w'.cell? ⟨W.heap.size + 1, 2, none⟩ = some (.slice ta nt tc) ∧ w'.cell? ⟨W.heap.size + 1, 3, none⟩ = some (.bool false)) ∧ w'.cell? ⟨SG, i0, none⟩ = some (.iface ty sv)) (by kernel_rfl) ?_
  refine wpAnyS_take (i := 0) (v := ?v0) rfl rfl (by kernel_rfl) (by kernel_rfl) (by kernel_rfl) (fun _ _ _ h => h) (Or.inl ⟨by rfl, ?y0⟩) (fun _ => rfl) hSS ?_
  case y0 => (intro wz hSw; (try dsimp only at hSw); go_simp; try (with_reducible rfl))
  refine wpAnyS_take (i := 1) (v := ?v1) rfl rfl (by kernel_rfl) (by kernel_rfl) (by kernel_rfl) (fun _ _ _ h => h) (Or.inl ⟨by rfl, ?y1⟩) (fun _ => rfl) hSS ?_
  case y1 => (intro wz hSw; (try dsimp only at hSw); go_simp; try (with_reducible rfl))
  refine wpAnyS_take (i := 2) (v := ?v2) rfl rfl (by kernel_rfl) (by kernel_rfl) (by kernel_rfl) (fun _ _ _ h => h) (Or.inl ⟨by rfl, ?y2⟩) (fun _ => rfl) hSS ?_
  case y2 => (intro wz hSw; (try dsimp only at hSw); go_simp; try (with_reducible rfl))
  refine wpAnyS_take (i := 3) (v := ?v3) rfl rfl (by kernel_rfl) (by kernel_rfl) (by kernel_rfl) (fun _ _ _ h => h) (Or.inl ⟨by rfl, ?y3⟩) (fun _ => rfl) hSS ?_
  case y3 => (intro wz hSw; (try dsimp only at hSw); go_simp; try (with_reducible rfl))
  refine wpAnyS_take (i := 4) (v := ?v4) rfl rfl (by kernel_rfl) (by kernel_rfl) (by kernel_rfl) (fun _ _ _ h => h) (Or.inl ⟨by rfl, ?y4⟩) (fun _ => rfl) hSS ?_
  case y4 => (intro wz hSw; (try dsimp only at hSw); go_simp; try (with_reducible rfl))
  refine wpAnyS_take (i := 5) (v := ?v5) rfl rfl (by kernel_rfl) (by kernel_rfl) (by kernel_rfl) (fun _ _ _ h => h) (Or.inl ⟨by rfl, ?y5⟩) (fun _ => rfl) hSS ?_
  case y5 => (intro wz hSw; (try dsimp only at hSw); go_simp; try (with_reducible rfl))
  refine wpAnyS_take (i := 6) (v := ?v6) rfl rfl (by kernel_rfl) (by kernel_rfl) (by kernel_rfl) (fun _ _ _ h => h) (Or.inl ⟨by rfl, ?y6⟩) (fun _ => rfl) hSS ?_
  case y6 => (intro wz hSw; (try dsimp only at hSw); go_simp; try (with_reducible rfl))
  refine wpAnyS_take (i := 7) (v := ?v7) rfl rfl (by kernel_rfl) (by kernel_rfl) (by kernel_rfl) (fun _ _ _ h => h) (Or.inl ⟨by rfl, ?y7⟩) (fun _ => rfl) hSS ?_
  case y7 => (intro wz hSw; (try dsimp only at hSw); go_simp; try (with_reducible rfl))
  refine wpAnyS_take (i := 8) (v := ?v8) rfl rfl (by kernel_rfl) (by kernel_rfl) (by kernel_rfl) (fun _ _ _ h => h) (Or.inl ⟨by rfl, ?y8⟩) (fun _ => rfl) hSS ?_
  case y8 => (intro wz hSw; (try dsimp only at hSw); go_simp; try (with_reducible rfl))
  refine wpAnyS_take (i := 9) (v := ?v9) rfl rfl (by kernel_rfl) (by kernel_rfl) (by kernel_rfl) (fun _ _ _ h => h) (Or.inl ⟨by rfl, ?y9⟩) (fun _ => rfl) hSS ?_
  case y9 => (intro wz hSw; (try dsimp only at hSw); go_simp; try (with_reducible rfl))
  clear hSS
  refine wpAnyS_one (i := 10) (by kernel_rfl) rfl (fun K hK => ?_)
  go_simp
  refine ⟨trivial, hdd _, CallsIn.mono HP.out ?_⟩
  rintro e w1 ⟨rfl, j1, k1⟩
  have K1 : KpR W0 w1 := (KpR.of e0).trans k1
  have KK := (KpR.of A).trans K1
  (try dsimp only)
  refine hK.out _ _ (KP.out _ K1) ?_
  clear hK K HP
  refine wpAnyS_one (i := 11) (by kernel_rfl) rfl (fun K hK => ?_)
  go_simp
  refine hK.out _ _ (KP.out _ K1) ?_
  clear hK K
  refine wpAnyS_done (by kernel_rfl) ?_ _
  clear KP
  gi_wp2
  go_ret
  exact ⟨rfl, j1, KK⟩

end Go.Proofs.Ytngfbcegcekbbaa
namespace Go.Proofs.Ytngfbcegcekbbaa
open Go.RowKit Go.Deep Go.Shelf
set_option linter.unusedVariables false
set_option maxRecDepth 100000

/-- Steps in memory; their forms can be read. -/
def Stp (W : World) (SG N : Nat) (ls : List LV) : Prop := ∃ cur, Cel W SG cur 122 ∧ ∀ j, j < N → cur[j]? = some (stepV (ls[j]?.getD noLV))
def LinesIn (W : World) (ls : List LV) : Prop := ∀ j, j < ls.length → (ls[j]?.getD noLV).f.At W
theorem FV.At.keepR {g : FV} {X Y : World} (h : g.At X) (k : KpR X Y) : g.At Y := ⟨h.C.keepR k, h.D.keepR k, h.hn, h.hm⟩
theorem Stp.keepR {X Y : World} {SG N : Nat} {ls : List LV} (h : Stp X SG N ls) (k : KpR X Y) : Stp Y SG N ls := by
  obtain ⟨cur, hc, hv⟩ := h
  exact ⟨cur, hc.keepR k (by decide) (by decide), hv⟩
theorem LinesIn.keepR {X Y : World} {ls : List LV} (h : LinesIn X ls) (k : KpR X Y) : LinesIn Y ls := fun j hj => (h j hj).keepR k

theorem from_any (l n₀ : Nat) (J : List RowM → World → Prop) (hJ : ∀ pre X Y, J pre X → Below X.heap.size X Y → J pre Y) (M : Nat) (hY : Rounds l n₀ J M) (SG N sc : Nat) (ls : List LV) (hN : ls.length = N) (h6 : N ≤ 6) (hall : ls.all LV.ok = true) (f : Nat) :
    ∀ (i0 : Nat) (y : Way) (pa : Option Addr) (cp : Nat) (ga : Option Addr) (ng gc : Nat) (ta : Option Addr) (nt tc : Nat) (pre : List RowM) (W : World) (n : Nat), f ≤ 7 → N ≤ i0 + f → i0 ≤ 12 → WayOk i0 y → y.guards.length = ng → y.tells.length = nt → Stp W SG N ls → LinesIn W ls → FormsAt W pa y.pots → FormsAt W ga y.guards → FormsAt W ta y.tells → n₀ ≤ W.heap.size → J pre W → pre.length + (goW ls f i0 y).length ≤ M →
    CallsIn Fence.wide n Try.prog 76 #[walkV l (some ⟨SG, 0, none⟩) N sc, .int .i64 (i0 : Int), wayV ga ng gc pa cp ta nt tc false] W fun e Y => e = .returned (.bool true) ∧ J (pre ++ goW ls f i0 y) Y ∧ KpR W Y := by
  have atEnd : ∀ (f i0 : Nat) (y : Way) (pa : Option Addr) (cp : Nat) (ga : Option Addr) (ng gc : Nat) (ta : Option Addr) (nt tc : Nat) (pre : List RowM) (W : World) (n : Nat), N ≤ i0 → i0 ≤ 12 → WayOk i0 y → y.guards.length = ng → y.tells.length = nt → FormsAt W pa y.pots → FormsAt W ga y.guards → FormsAt W ta y.tells → n₀ ≤ W.heap.size → J pre W → pre.length + (goW ls f i0 y).length ≤ M →
      CallsIn Fence.wide n Try.prog 76 #[walkV l (some ⟨SG, 0, none⟩) N sc, .int .i64 (i0 : Int), wayV ga ng gc pa cp ta nt tc false] W fun e Y => e = .returned (.bool true) ∧ J (pre ++ goW ls f i0 y) Y ∧ KpR W Y := by
    intro f i0 y pa cp ga ng gc ta nt tc pre W n hi hi1 hy hg ht hP hG hT hn0 h0
    rw [goW_end (by omega)]
    intro hM
    have hM' : pre.length < M := by simp only [List.length_cons, List.length_nil] at hM; omega
    have g1 := hy.gl
    have g2 := hy.tl
    exact from_end l n₀ J hJ M hY _ N sc i0 hi hi1 y pa cp ga ng gc ta nt tc false (endW y) pre W n hn0 h0 (endW_fit hy (by omega)) hM' (fun X hb => irow_end y ga ng gc pa cp ta nt tc X hy.pl hg ht (hP.keep hb) (hG.keep hb) (hT.keep hb) (fun k hk => (hy.pf k hk).mono (by have := wb_six (n := min i0 6) (by omega); omega)) (fun k hk => hy.gf k (by omega)) (fun k hk => hy.tf k (by omega)) (by omega) (by omega))
  induction f with
  | zero => intro i0 y pa cp ga ng gc ta nt tc pre W n _ hfu hi1 hy hg ht _ _ hP hG hT hn0 h0 hM; exact atEnd 0 i0 y pa cp ga ng gc ta nt tc pre W n (by omega) hi1 hy hg ht hP hG hT hn0 h0 hM
  | succ f ih =>
    intro i0 y pa cp ga ng gc ta nt tc pre W n hf7 hfu hi1 hy hg ht hS hLI hP hG hT hn0 h0 hM
    by_cases hlt : i0 < N
    · have hl : i0 < ls.length := by omega
      have hok : (ls[i0]?.getD noLV).ok = true := by
        rw [List.getElem?_eq_getElem hl]
        exact List.all_eq_true.1 hall _ (List.getElem_mem hl)
      obtain ⟨cur, hC, hv⟩ := hS
      have hv0 := hv i0 hlt
      have hA := hLI i0 hl
      have hS' : Stp W SG N ls := ⟨cur, hC, hv⟩
      rw [goW, if_pos hl] at hM ⊢
      generalize ls[i0]?.getD noLV = q at *
      have e1 : ((i0 + 1 : Nat) : Int) = (i0 : Int) + 1 := by omega
      by_cases hk4 : q.kind = 4
      · rw [if_neg (by omega), if_neg (by omega), if_neg (by omega)] at hM ⊢
        have hM' : pre.length < M := by simp only [List.length_cons, List.length_nil] at hM; omega
        have hst : stepV q = .iface 145 (.agg #[]) := by simp [stepV, hk4]
        rw [hst] at hv0
        have g1 := hy.gl
        refine from_step l SG N sc i0 hlt hi1 ga ng gc pa cp ta nt tc _ _ cur _ W n hC hv0 (fun X m hb => past_stop l _ N sc _ ga ng gc pa cp ta nt tc _ X m (fun X2 hb2 m2 => ?_))
        have hb' := hb.trans (hb2.mono hb.size)
        exact from_end l n₀ J hJ M hY _ N sc 6 h6 (by omega) y pa cp ga ng gc ta nt tc true (stopW y) pre X2 m2 (by have := hb'.size; omega) (hJ _ _ _ h0 hb') (stopW_fit hy (by omega)) hM' (fun X3 hb3 => irow_stop y ga ng gc pa cp ta nt tc X3 hg (hG.keep (hb'.trans (hb3.mono hb'.size))) (fun k hk => hy.gf k (by omega)) (by omega))
      · obtain ⟨hsm, hkk, hz, hp⟩ := lineW (show lineB q.kind q.pot q.skip q.f.n q.f.m q.f.C q.f.D q.f.K = true from hok) hk4
        obtain ⟨f1, f2, f3⟩ := hy.into (by omega) (f := q.f) hsm hA.D.1
        rcases hkk with e | e | e
        · rw [if_pos e] at hM ⊢
          rw [List.length_append] at hM
          obtain ⟨z1, z2⟩ := hz e
          have hst : stepV q = .iface 140 (.agg #[.int .i64 q.skip, .slice q.f.a q.f.n q.f.cap, .slice q.f.c q.f.m q.f.cap', .int .i64 q.f.K]) := by simp [stepV, e]
          rw [hst] at hv0
          have e2 : ((i0 + 1 + q.skip.toNat : Nat) : Int) = (i0 : Int) + 1 + q.skip := by omega
          refine from_step l SG N sc i0 hlt hi1 ga ng gc pa cp ta nt tc _ _ cur _ W n hC hv0 (fun X m hb => ?_)
          have kX : KpR W X := KpR.of hb
          refine past_test l _ N sc _ q.skip ⟨by omega, by omega⟩ ⟨by omega, by omega⟩ i0 y hy (by omega) q.f hsm ga ng gc pa cp ta nt tc (J (pre ++ goW ls f (i0 + 1) (y.guard (intoX q.f y.pots)))) _ (fun A B a b => hJ _ _ _ a b) X m (hA.keepR kX) (hP.keepR kX) (hG.keepR kX) hg (fun X2 ga' gc' hb2 F m2 => ?_) (fun X2 ga' gc' k2 j2 F m2 => ?_)
          · have k2 : KpR W X2 := kX.trans (KpR.of hb2)
            have := ih (i0 + 1) (y.guard (intoX q.f y.pots)) pa cp ga' (ng + 1) gc' ta nt tc pre X2 m2 (by omega) (by omega) (by omega) (hy.guard (by omega) f2) (by show (y.guards ++ [_]).length = ng + 1; rw [List.length_append, hg]; rfl) ht (hS'.keepR k2) (hLI.keepR k2) (hP.keepR k2) F (hT.keepR k2) (Nat.le_trans hn0 k2.size) (hJ _ _ _ (hJ _ _ _ h0 hb) hb2) (by omega)
            rw [e1] at this
            exact this
          · have k3 : KpR W X2 := kX.trans k2
            have := ih (i0 + 1 + q.skip.toNat) (y.guard (minusX (intoX q.f y.pots))) pa cp ga' (ng + 1) gc' ta nt tc _ X2 m2 (by omega) (by omega) (by omega) (hy.guard (by omega) f3) (by show (y.guards ++ [_]).length = ng + 1; rw [List.length_append, hg]; rfl) ht (hS'.keepR k3) (hLI.keepR k3) (hP.keepR k3) F (hT.keepR k3) (Nat.le_trans hn0 k3.size) j2 (by rw [List.length_append]; omega)
            rw [e2, List.append_assoc] at this
            exact this
        · rw [if_neg (by omega), if_pos e] at hM ⊢
          obtain ⟨z1, z2⟩ := hp e
          obtain ⟨p, hpq⟩ : ∃ p : Nat, q.pot = p := ⟨q.pot.toNat, by omega⟩
          have hpn : q.pot.toNat = p := by omega
          have hst : stepV q = .iface 142 (.agg #[.int .i64 (p : Int), .slice q.f.a q.f.n q.f.cap, .slice q.f.c q.f.m q.f.cap', .int .i64 q.f.K]) := by simp [stepV, e, hpq]
          rw [hst] at hv0
          rw [hpn] at hM ⊢
          refine from_step l SG N sc i0 hlt hi1 ga ng gc pa cp ta nt tc _ _ cur _ W n hC hv0 (fun X m hb => ?_)
          have kX : KpR W X := KpR.of hb
          refine past_add l _ N sc _ i0 y hy (by omega) q.f hsm ga ng gc pa cp ta nt tc _ X m (hA.keepR kX) (hP.keepR kX) (hT.keepR kX) ht p (by omega) (fun X2 pa' cp' hb2 F m2 => ?_)
          have k2 : KpR W X2 := kX.trans (KpR.of hb2)
          have := ih (i0 + 1) (y.add p (intoX q.f y.pots)) pa' cp' ga ng gc ta nt tc pre X2 m2 (by omega) (by omega) (by omega) (hy.add (by omega) (by omega) f1) hg ht (hS'.keepR k2) (hLI.keepR k2) F (hG.keepR k2) (hT.keepR k2) (Nat.le_trans hn0 k2.size) (hJ _ _ _ (hJ _ _ _ h0 hb) hb2) hM
          rw [e1] at this
          exact this
        · rw [if_neg (by omega), if_neg (by omega), if_pos e] at hM ⊢
          have hst : stepV q = .iface 144 (.agg #[.slice q.f.a q.f.n q.f.cap, .slice q.f.c q.f.m q.f.cap', .int .i64 q.f.K]) := by simp [stepV, e]
          rw [hst] at hv0
          refine from_step l SG N sc i0 hlt hi1 ga ng gc pa cp ta nt tc _ _ cur _ W n hC hv0 (fun X m hb => ?_)
          have kX : KpR W X := KpR.of hb
          refine past_print l _ N sc _ i0 y hy (by omega) q.f hsm ga ng gc pa cp ta nt tc _ X m (hA.keepR kX) (hP.keepR kX) (hT.keepR kX) ht (fun X2 ta' tc' hb2 F m2 => ?_)
          have k2 : KpR W X2 := kX.trans (KpR.of hb2)
          have := ih (i0 + 1) (y.tell (intoX q.f y.pots)) pa cp ga ng gc ta' (nt + 1) tc' pre X2 m2 (by omega) (by omega) (by omega) (hy.tell (by omega) f2) hg (by show (y.tells ++ [_]).length = nt + 1; rw [List.length_append, ht]; rfl) (hS'.keepR k2) (hLI.keepR k2) (hP.keepR k2) (hG.keepR k2) F (Nat.le_trans hn0 k2.size) (hJ _ _ _ (hJ _ _ _ h0 hb) hb2) hM
          rw [e1] at this
          exact this
    · exact atEnd (f + 1) i0 y pa cp ga ng gc ta nt tc pre W n (by omega) hi1 hy hg ht hP hG hT hn0 h0 hM

end Go.Proofs.Ytngfbcegcekbbaa
namespace Go.Proofs.Ytngfbcegcekbbaa
open Go.RowKit Go.Deep Go.Shelf
set_option linter.unusedVariables false
set_option maxRecDepth 100000
attribute [local go_sem] Oper.semAt_some

theorem LinesG.lin {W : World} {ad : Option Addr} {ls : List LV} (h : LinesG W ad ls) : LinesIn W ls := fun j hj => by
  obtain ⟨b, off, _, _, ha⟩ := h j hj
  exact ha
theorem JS.stp {w W : World} {v : Value} {ls : List LV} (j : JS w v (ls.map stepV) W) : ∃ sa sc, v = .slice sa ls.length sc ∧ (ls.length = 0 ∨ ∃ SG, sa = some ⟨SG, 0, none⟩ ∧ Stp W SG ls.length ls) := by
  rcases j.o.2 with ⟨e, h0⟩ | ⟨g, cap, cur, hv, hg, hh, hl, hc, hs, ht⟩
  · rw [List.length_map] at h0
    exact ⟨none, 0, by rw [h0]; exact e, Or.inl h0⟩
  · rw [List.length_map] at hv ht
    refine ⟨_, cap, hv, Or.inr ⟨g, rfl, cur.toList, hh, fun i hi => ?_⟩⟩
    rw [Nat.mul_one] at ht
    have : (cur.toList.take ls.length)[i]? = cur.toList[i]? := List.getElem?_take_of_lt hi
    rw [← this, ht, List.getElem?_map, List.getElem?_eq_getElem hi]
    rfl

theorem rs_func {P : Program} {w : World} {a : Addr} {m : Mode} (fn : Fn) (first captured : Array Value) : (store a (.func fn first captured) m).run P w = stored P w a (.func fn first captured) m := run_store P w a _ m rfl
attribute [local go_sem] rs_func

set_option maxHeartbeats 3200000 in
theorem through_any (l n₀ : Nat) (J : List RowM → World → Prop) (hJ : ∀ pre X Y, J pre X → Below X.heap.size X Y → J pre Y) (hY : Rounds l n₀ J 128) (aB : Nat) (ad : Option Addr) (N cap : Nat) (ls : List LV) (W : World) (n : Nat) (hN : ls.length = N) (hF : LinesG W ad ls) (hN1 : N ≤ 1048576) (hok : actB N ls = true) (hc : W.cell? ⟨aB, 0, none⟩ = some (.slice ad N cap)) (hn0 : n₀ ≤ W.heap.size) (h0 : J [] W) :
    CallsIn Fence.wide n Try.prog 75 #[.func (.yield l) #[] #[], .pointer (some ⟨aB, 0, none⟩)] W fun e Y => (∃ v, e = .returned v) ∧ J (rowsL ls) Y ∧ KpR W Y := by
  have hdd : ∀ k : Nat, (Fence.wide.depth.isSome = true → 1 ≤ k) := fun k h => by simp [Fence.wide] at h
  refine callsIn_of_wp Try.func75 rfl trivial ?_ rfl
  simp only [Try.ntmps75, List.size_toArray, List.length_cons, List.length_nil, Nat.reduceAdd, Nat.reduceSub, Array.replicate_succ, Array.replicate_zero, List.push_toArray, List.append_toArray, List.nil_append, List.cons_append]
  gi_wp2_with fail
  refine ⟨trivial, hdd _, (callsIn_wide.2 (isteps_any ad N cap ls _ hN hF hN1)).mono ?_⟩
  rintro e w1 ⟨sv, rfl, b1, js⟩
  rw [hok]
  have js := js hok
  obtain ⟨sa, sc, rfl, hst⟩ := js.stp
  rw [hN] at hst ⊢
  gi_wp2_with fail
  have bA : Below w1.heap.size w1 (w1.alloc (.cells #[.slice sa N sc, .func (.yield l) #[] #[]] 108)) := (Below.refl _ _).alloc (Nat.le_refl _) _
  have x0 := Cel.new w1 [.slice sa N sc, .func (.yield l) #[] #[]] 108
  obtain ⟨W0, hW0⟩ : ∃ W0, W0 = w1.alloc (.cells #[.slice sa N sc, .func (.yield l) #[] #[]] 108) := ⟨_, rfl⟩
  rw [← hW0] at bA x0 ⊢
  clear hW0
  have A : Below W.heap.size W W0 := b1.trans (bA.mono b1.size)
  have e0 : Below W0.heap.size W0 W0.drew := (Below.refl _ _).drew
  have KP : Hid (∀ X, KpR W0 X → (X.cell? ⟨w1.heap.size, 0, none⟩ = some (.slice sa N sc) ∧ X.cell? ⟨w1.heap.size, 1, none⟩ = some (.func (.yield l) #[] #[]))) := fun X hX => by
    have a1 := x0.keepR hX (by decide) (by decide)
    exact ⟨a1.cell 0, a1.cell 1⟩
  have hSS := KP.out _ (KpR.of e0)
  refine wpIn_region_S (fun w' => w'.cell? ⟨w1.heap.size, 0, none⟩ = some (.slice sa N sc) ∧ w'.cell? ⟨w1.heap.size, 1, none⟩ = some (.func (.yield l) #[] #[])) (by kernel_rfl) ?_
  refine wpAnyS_take (i := 0) (v := ?v0) rfl rfl (by kernel_rfl) (by kernel_rfl) (by kernel_rfl) (fun _ _ _ h => h) (Or.inl ⟨by rfl, ?y0⟩) (fun _ => rfl) hSS ?_
  case y0 => (intro wz hSw; (try dsimp only at hSw); go_simp; try (with_reducible rfl))
  clear hSS
  refine wpAnyS_one (i := 1) (by kernel_rfl) rfl (fun K hK => ?_)
  go_simp
  refine ⟨trivial, fun h => by simp [Fence.wide] at h, (callsIn_wide.2 (ipots_any _)).mono ?_⟩
  rintro e w2 ⟨v, xs, rfl, jv⟩
  obtain ⟨pa, cp, rfl, hP⟩ := jv.slice rfl
  have b2 : Below W0.heap.size W0 w2 := below_of_drew jv.b
  have hS2 := KP.out _ (KpR.of b2)
  have B2 : Below W.heap.size W w2 := A.trans (b2.mono A.size)
  have J2 := hJ _ _ _ h0 B2
  (try dsimp only)
  refine hK.out _ _ hS2 ?_
  clear hK K
  refine wpAnyS_take (i := 2) (v := ?v2) rfl rfl (by kernel_rfl) (by kernel_rfl) (by kernel_rfl) (fun _ _ _ h => h) (Or.inl ⟨by rfl, ?y2⟩) (fun _ => rfl) hS2 ?_
  case y2 => (intro wz hSw; (try dsimp only at hSw); go_simp; try (with_reducible rfl))
  have sB := B2.size
  have HC : Hid (CallsIn Fence.wide (n - 1) Try.prog 76 #[walkV l sa N sc, .int .i64 0, wayV none 0 0 pa cp none 0 0 false] w2 fun e Y => e = .returned (.bool true) ∧ J (rowsL ls) Y ∧ KpR w2 Y) := by
    obtain ⟨h6, hall⟩ := actB_parts hok
    have hy := WayOk.start
    have hG : ∀ X, FormsAt X none way0.guards := fun X i hi => by simp [way0] at hi
    have hT : ∀ X, FormsAt X none way0.tells := fun X i hi => by simp [way0] at hi
    rcases hst with hz | ⟨SG, rfl, hst⟩
    · have := from_end l n₀ J hJ 128 hY sa N sc 0 (by omega) (by omega) way0 pa cp none 0 0 none 0 0 false (endW way0) [] w2 (n - 1) (by omega) J2 (endW_fit hy (by omega)) (by simp) (fun X hb => irow_end way0 none 0 0 pa cp none 0 0 X hy.pl rfl rfl (hP.keep hb) (hG X) (hT X) (fun k hk => (hy.pf k hk).mono (by have := wb_six (n := min 0 6) (by omega); omega)) (fun k hk => hy.gf k (by omega)) (fun k hk => hy.tf k (by omega)) (by omega) (by omega))
      rw [rowsL, goW_end (by omega)]
      exact this
    · have k2 : KpR w1 w2 := (KpR.of bA).trans (KpR.of b2)
      exact from_any l n₀ J hJ 128 hY SG N sc ls hN h6 hall 7 0 way0 pa cp none 0 0 none 0 0 [] w2 (n - 1) (by omega) (by omega) (by omega) hy rfl rfl (hst.keepR k2) (hF.lin.keepR (KpR.of B2)) hP (hG _) (hT _) (by omega) J2 (by have := goW_128 (ls := ls) (f := 7) (i := 0) (y := way0) (by omega); simp only [List.length_nil]; omega)
  refine wpAnyS_one (i := 3) (by kernel_rfl) rfl (fun K hK => ?_)
  go_simp
  refine ⟨trivial, fun h => by simp [Fence.wide] at h, HC.out.mono ?_⟩
  rintro e w3 ⟨rfl, J3, k3⟩
  have hS3 := KP.out _ ((KpR.of b2).trans k3)
  (try dsimp only)
  refine hK.out _ _ hS3 ?_
  clear hK K
  refine wpAnyS_done (by kernel_rfl) ?_ _
  have KK := (KpR.of B2).trans k3
  clear KP HC
  gi_wp2
  go_end0
  exact ⟨⟨_, rfl⟩, J3, KK⟩

end Go.Proofs.Ytngfbcegcekbbaa
namespace Go.Proofs.Ytngfbcegcekbbaa
open Go.RowKit Go.Deep Go.Shelf
set_option linter.unusedVariables false
set_option maxRecDepth 100000
attribute [local go_sem] Oper.semAt_some

set_option maxHeartbeats 1600000 in
theorem ithrough_any (ad : Option Addr) (N cap : Nat) (w : World) :
    Calls Try.prog 39 #[.slice ad N cap] w fun e w' => ∃ B, e = .returned (.func (.func 75) #[] #[.pointer (some ⟨B, 0, none⟩)]) ∧ Below w.heap.size w w' ∧ Cel w' B [.slice ad N cap] 23 := by
  have b := (Below.refl w.heap.size w).alloc (Nat.le_refl _) (.cells #[.slice ad N cap] 23)
  have c := Cel.new w [.slice ad N cap] 23
  go_enter Try.func39, Try.ntmps39
  go_wp2
  go_ret
  exact ⟨_, rfl, b, c⟩

theorem Cel.loop {X : World} {B l : Nat} {vs : List Value} {t : TypeId} {r r' : Loop} (h : Cel X B vs t) (hl : X.heap[l]? = some (.loop r)) : Cel (X.putObj l (.loop r')) B vs t := by
  have hne : B ≠ l := fun e => by
    subst e
    unfold Cel at h
    rw [hl] at h
    cases h
  unfold Cel at *
  rw [World.putObj_heap_other hne]; exact h
theorem below_loop {w X : World} {n l : Nat} {r' : Loop} (h : Below n w X) (hl : n ≤ l) : Below n w (X.putObj l (.loop r')) :=
  ⟨h.os, h.tape, h.output, by simpa [World.putObj] using h.size, fun k hk => (World.putObj_heap_other (by omega)).trans (h.block k hk)⟩

theorem Cel.defer {X : World} {B l : Nat} {vs : List Value} {t : TypeId} {r : Option (List Deferred)} {o : Obj} (h : Cel X B vs t) (hl : X.heap[l]? = some (.deferred r)) : Cel (X.putObj l o) B vs t := by
  have hne : B ≠ l := fun e => by
    subst e
    unfold Cel at h
    rw [hl] at h
    cases h
  unfold Cel at *
  rw [World.putObj_heap_other hne]; exact h
theorem below_put {w X : World} {n l : Nat} {o : Obj} (h : Below n w X) (hl : n ≤ l) : Below n w (X.putObj l o) :=
  ⟨h.os, h.tape, h.output, by simpa [World.putObj] using h.size, fun k hk => (World.putObj_heap_other (by omega)).trans (h.block k hk)⟩
theorem cel_past {S : Nat → Prop} {X Y : World} {B : Nat} {vs : List Value} {t : TypeId} (h : Cel X B vs t) (k : Touch S X Y) (hn : ¬ S B) : Cel Y B vs t := by
  have hl := h.lt
  unfold Cel at *
  rw [k.block B hl hn]; exact h
theorem below_touch {w X Y : World} {G : Nat} (h : Below w.heap.size w X) (t : Touch (fun k => k = G) X Y) (hG : w.heap.size ≤ G) : Below w.heap.size w Y :=
  ⟨t.os.trans h.os, t.tape.trans h.tape, t.output.trans h.output, Nat.le_trans h.size t.size, fun k hk => (t.block k (Nat.lt_of_lt_of_le hk h.size) (by omega)).trans (h.block k hk)⟩
theorem OwnBB.loose {X : World} {G : Nat} {f : Nat → Bool} (h : OwnBB X G f) : Loose X.heap[G]? := fun cs t fr e => by
  unfold OwnBB Cel at h
  rw [h] at e
  cases e
  refine ⟨Or.inl rfl, fun i q => ?_⟩
  match i with
  | 0 => simp
  | 1 => simp
  | 2 => simp
  | i + 3 => simp
theorem OwnBB.kpR {X Y : World} {G : Nat} {f : Nat → Bool} (h : OwnBB X G f) (t : Touch (fun k => k = G) X Y) : KpR X Y := t.mono (fun k e => by subst e; exact h.loose)
theorem keeps_below {B : Nat} {X Y : World} (h : Below X.heap.size X Y) : KeepsFrom B X Y := ⟨h.size, fun k o _ hk _ => (h.block k (lt_of_block hk)).trans hk⟩
theorem keeps_touch {B G : Nat} {X Y : World} (t : Touch (fun k => k = G) X Y) (hG : G < B) : KeepsFrom B X Y := ⟨t.size, fun k o hB hk _ => (t.block k (lt_of_block hk) (by omega)).trans hk⟩

set_option maxHeartbeats 3200000 in
theorem icatreads_in (ad : Option Addr) (N cap : Nat) (ls : List LV) (w : World) (n : Nat) (hN : ls.length = N) (hF : LinesG w ad ls) (hN1 : N ≤ 1048576) :
    CallsIn Fence.wide n Try.prog 29 #[.slice ad N cap] w fun e w' => Below w.heap.size w w' ∧ ((actB N ls = false ∧ e = .returned (.slice none 0 0)) ∨ (actB N ls = true ∧ ∃ G cG, e = .returned (.slice (some ⟨G, 0, none⟩) 3 cG) ∧ w.heap.size ≤ G ∧ OwnBB w' G (readsR (rowsL ls)))) := by
  have hdd : ∀ k : Nat, (Fence.wide.depth.isSome = true → 1 ≤ k) := fun k h => by simp [Fence.wide] at h
  refine callsIn_of_wp_marks Try.func29 rfl trivial ?_ rfl
  simp only [Try.ntmps29, List.size_toArray, List.length_cons, List.length_nil, Nat.reduceAdd, Nat.reduceSub, Array.replicate_succ, Array.replicate_zero, List.push_toArray, List.append_toArray, List.nil_append, List.cons_append]
  gi_wp2_with fail
  refine ⟨trivial, hdd _, (callsIn_wide.2 (iact_any ad N cap ls _ hN hF hN1)).mono ?_⟩
  rintro e w1 ⟨rfl, b1⟩
  obtain ⟨u, hu⟩ : ∃ u, actB N ls = u := ⟨_, rfl⟩
  rw [hu]
  cases u with
  | false =>
    gi_wp2
    exact ⟨_, results_tmp rfl _ _ _, b1, Or.inl ⟨hu, rfl⟩⟩
  | true =>
    obtain ⟨i0, hi, hz0, hz1, hz2⟩ := info_parts Try.infoBool
    obtain ⟨w2, hrun, o2, g2⟩ := run_make_full (P := Try.prog) (w := w1) w1.heap.size 50 4 i0 (.bool false) 1 Try.underlying50 hi hz0 hz1 .i64 .i64 3 (by rw [hz2]; omega) (by unfold maxLen; omega) (Nat.le_refl _)
    have hrun' : (Instr.makeSlice 50 (.int .i64 3) (.int .i64 3)).run Try.prog w1 = .ok (.slice (some ⟨w1.heap.size, 0, none⟩) 3 3) w2 := hrun
    have b2 : Below w1.heap.size w1 w2 := (Below.refl _ _).grown g2 (Nat.le_refl _) (by simp)
    have O2 : OwnBB w2 w1.heap.size (fun _ => false) := by
      rcases o2.2 with ⟨e, _⟩ | ⟨g, cp, cur, hv, hg, hh, hl, hc, hs, ht⟩
      · cases e
      · cases hv
        have hl3 : cur.toList.length = 3 := by rw [Array.length_toList]; omega
        rw [List.take_of_length_le (by omega)] at ht
        have : cur = #[.bool false, .bool false, .bool false] := by
          apply Array.toList_inj.1
          rw [ht]; simpa [Value.cells] using toList_madeCells_one (.bool false) 3
        rw [this] at hh
        exact hh
    clear hrun o2 g2
    gi_wp2_with fail
    have bA : Below w2.heap.size w2 (w2.alloc (.cells #[.slice (some ⟨w1.heap.size, 0, none⟩) 3 3] 50)) := (Below.refl _ _).alloc (Nat.le_refl _) _
    have C3 := Cel.new w2 [.slice (some ⟨w1.heap.size, 0, none⟩) 3 3] 50
    have O3 := O2.below bA
    obtain ⟨w3, hw3⟩ : ∃ w3, w3 = w2.alloc (.cells #[.slice (some ⟨w1.heap.size, 0, none⟩) 3 3] 50) := ⟨_, rfl⟩
    rw [← hw3] at bA C3 O3 ⊢
    have lG := Cel.lt O2
    clear hw3 hrun' O2
    refine ⟨trivial, hdd _, (callsIn_wide.2 (ithrough_any ad N cap w3)).mono ?_⟩
    rintro e w4 ⟨B, rfl, b4, cB⟩
    have C4 := C3.below b4
    have O4 := O3.below b4
    have s2 := b2.size
    have sA := bA.size
    have s4 := b4.size
    have B4 : Below w.heap.size w w4 := ((b1.trans (b2.mono b1.size)).trans (bA.mono (Nat.le_trans b1.size s2))).trans (b4.mono (Nat.le_trans (Nat.le_trans b1.size s2) sA))
    have F4 := hF.below B4
    gi_wp2_with fail
    have s1 := b1.size
    refine wpIn_rows (α := Value × RowM) (gf := 75) (lb := #[.pointer (some ⟨B, 0, none⟩)]) rfl (enters_of Try.func75 (by kernel_rfl) rfl) (encs := fun x => #[x.1]) (fun _ => rfl)
      (fun _ x X => RowFit x.2 ∧ RowX X w4.heap.size x.1 x.2) KpR (fun xs => xs.map Prod.snd = rowsL ls)
      (fun pre X => OwnBB X w1.heap.size (readsR (pre.map Prod.snd)) ∧ Cel X w2.heap.size [.slice (some ⟨w1.heap.size, 0, none⟩) 3 3] 50 ∧ Below w.heap.size w X)
      (fun pre X Y h b => ⟨h.1.below b, h.2.1.below b, h.2.2.trans (b.mono h.2.2.size)⟩)
      (fun pre X l r r' h hl lt => ⟨Cel.loop h.1 hl, h.2.1.loop hl, below_loop h.2.2 (by have := B4.size; omega)⟩) KpR.loop (fun X Y Z => KpR.trans) ⟨O4, C4, B4⟩ ?seq ?round ?done
    case seq =>
      intro l J W hJ hb hJ0 hY
      have e0 : (#[.func (.yield l) #[] #[]] ++ #[.pointer (some ⟨B, 0, none⟩)] : Array Value) = #[.func (.yield l) #[] #[], .pointer (some ⟨B, 0, none⟩)] := rfl
      rw [e0]
      refine (through_any l w4.heap.size (fun rs X => ∃ xs : List (Value × RowM), xs.map Prod.snd = rs ∧ J xs X) (fun rs X Y h b => ?_) (fun m rs v r X h fit rx _ => ?_) B ad N cap ls W (n - 1) hN (F4.below hb) hN1 hu ((cB.below hb).cell 0) hb.size ⟨[], rfl, hJ0⟩).mono ?_
      · obtain ⟨xs, e, j⟩ := h
        exact ⟨xs, e, hJ _ _ _ j b⟩
      · obtain ⟨xs, e, j⟩ := h
        obtain ⟨fn, tmps, assign, body, hy, hR⟩ := hY m xs (v, r) X j ⟨fit, rx⟩
        refine ⟨fn, tmps, assign, body, hy, hR.mono ?_⟩
        rintro e' Y ⟨a, b, c⟩
        exact ⟨a, ⟨xs ++ [(v, r)], by simp [e], b⟩, c⟩
      · rintro e Y ⟨h1, ⟨xs, e1, j⟩, _⟩
        exact ⟨h1, xs, e1, j⟩
    case round =>
      rintro m l pre ⟨v, rm⟩ X r ⟨hO, hC, hB⟩ ⟨fit, rx⟩ hl hlt
      dsimp only at fit rx
      obtain ⟨ga, gc, aa, ac, ta, tc, rfl, f0, f1, f2⟩ := rx
      dsimp only
      gi_wp2_with fail
      have bx : Below X.heap.size X (X.alloc (.cells #[.slice ga rm.guards.length gc, .slice aa rm.adds.length ac, .slice ta rm.tells.length tc, .bool rm.stop] 38)) := (Below.refl _ _).alloc (Nat.le_refl _) _
      have cx := Cel.new X [.slice ga rm.guards.length gc, .slice aa rm.adds.length ac, .slice ta rm.tells.length tc, .bool rm.stop] 38
      have hl1 := (bx.block l (lt_of_block hl)).trans hl
      refine ⟨keeps_below bx, KpR.of bx, ?_⟩
      have O1 : OwnBB _ _ _ := Cel.loop (r' := { r with state := .busy }) (hO.below bx) hl1
      have C1 := Cel.loop (r' := { r with state := .busy }) (hC.below bx) hl1
      have X1 := Cel.loop (r' := { r with state := .busy }) cx hl1
      have k1 : KpR X _ := (KpR.of bx).trans (KpR.loop _ l r { r with state := .busy } hl1)
      have B1 := below_loop (r' := { r with state := .busy }) (hB.trans (bx.mono hB.size)) (l := l) (by have := B4.size; omega)
      obtain ⟨Y, hY⟩ : ∃ Y, Y = (X.alloc (.cells #[.slice ga rm.guards.length gc, .slice aa rm.adds.length ac, .slice ta rm.tells.length tc, .bool rm.stop] 38)).putObj l (.loop { r with state := .busy }) := ⟨_, rfl⟩
      rw [← hY] at O1 C1 X1 k1 B1 ⊢
      clear hY
      have FA := f1.at.keepR k1
      have FT := f2.at.keepR k1
      have hc := C1.cell 0
      have hx1 := X1.cell 1
      have lX := Cel.lt hO
      gi_wp2_with fail
      refine ⟨trivial, hdd _, CallsIn.mono (CallsIn.inRound l (callsIn_wide.2 (imarkpots_any _ _ _ _ _ _ rm.adds Y O1 rfl FA fit.a (by have := fit.la; omega)))) ?_⟩
      rintro e Y1 ⟨⟨v1, rfl⟩, t1, O2⟩
      have C2 := cel_past C1 t1 (by omega)
      have X2 := cel_past X1 t1 (by omega)
      have FT2 := FT.past2 O1.no t1
      have hc2 := C2.cell 0
      have hx2 := X2.cell 2
      clear hc hx1
      gi_wp2_with fail
      refine ⟨trivial, hdd _, CallsIn.mono (CallsIn.inRound l (callsIn_wide.2 (imarkpots_any _ _ _ _ _ _ rm.tells Y1 O2 rfl FT2 fit.t (by have := fit.lt; omega)))) ?_⟩
      rintro e Y2 ⟨⟨v2, rfl⟩, t2, O3⟩
      have C3' := cel_past C2 t2 (by omega)
      clear hc2 hx2
      gi_wp2_with fail
      refine ⟨(keeps_touch t1 (by omega)).trans (keeps_touch t2 (by omega)), (O1.kpR t1).trans (O2.kpR t2), O3.ext (fun v hv => ?_), C3', below_touch (below_touch B1 t1 (by omega)) t2 (by omega)⟩
      simp [readsF, readsR, Bool.or_assoc]
    case done =>
      rintro D xs W hD hS ⟨hO, hC, hB⟩ hK
      have hc := hC.cell 0
      gi_wp2
      refine ⟨by simp, .inl ⟨_, _, rfl, run_takeDeferred hK, ?_⟩⟩
      refine ⟨_, results_tmp rfl _ _ _, ?_⟩
      rw [hS] at hO
      exact ⟨below_put hB (by have := B4.size; omega), Or.inr ⟨hu, _, _, rfl, s1, Cel.defer hO hK⟩⟩

theorem icatreads_any (ad : Option Addr) (N cap : Nat) (ls : List LV) (w : World) (hN : ls.length = N) (hF : LinesG w ad ls) (hN1 : N ≤ 1048576) :
    Calls Try.prog 29 #[.slice ad N cap] w fun e w' => Below w.heap.size w w' ∧ ((actB N ls = false ∧ e = .returned (.slice none 0 0)) ∨ (actB N ls = true ∧ ∃ G cG, e = .returned (.slice (some ⟨G, 0, none⟩) 3 cG) ∧ w.heap.size ≤ G ∧ OwnBB w' G (readsR (rowsL ls)))) :=
  callsIn_wide.1 (icatreads_in ad N cap ls w 0 hN hF hN1)

end Go.Proofs.Ytngfbcegcekbbaa
namespace Go.Proofs.Ytngfbcegcekbbaa
open Go.ChangeShapes Go.WideShapes Go.ChangeAt Go.RowKit Go.Joins Go.Deep
set_option linter.unusedVariables false
set_option maxRecDepth 100000

/-- A slice, and what it holds. -/
structure IV where
  a : Option Addr
  n : Nat
  cap : Nat
  x : List Int
def noI : IV := ⟨none, 0, 0, []⟩
def IV.v (s : IV) : Value := .slice s.a s.n s.cap

theorem trod_len1 {H : Type} {enc : TypeId × Value → H} {W : World} {fuel : Nat} {t e : TypeId} {cs : List Value} {x : DataW H × List MemPlace} (hS : Try.prog.underlying t = some (.slice e)) (hf : DataW.trod enc Try.prog W 0 (fun _ => true) true fuel t cs = some x) : cs.length = 1 := by
  rcases open_slice hS hf with ⟨h, _⟩ | ⟨a, len, cap, m, n, D, Pl, h, _⟩ <;> rw [h] <;> rfl

def IM (w : World) (s : IV) : Prop := Ints w s.a s.n s.x ∧ s.n ≤ maxLen
def IG (w : World) (s : IV) : Prop := Ints w s.a s.n s.x ∧ s.n ≤ 1048576
def IS (s : IV) : Prop := s.n ≤ 1048576
def IK (w : World) (lo : Nat) (s : IV) : Prop := ∃ B, s.a = some ⟨B, 0, none⟩ ∧ lo ≤ B ∧ Blk w B s.x ∧ s.x.length = s.n ∧ s.n ≤ 1048576
def copiesI (s t : IV) : Prop := t.n = s.n ∧ t.x = s.x
def sameI (s t : IV) : Prop := s.x = t.x
theorem IM.below {w w' : World} {s : IV} (h : IM w s) (hb : Below w.heap.size w w') : IM w' s := ⟨h.1.below hb, h.2⟩
theorem IG.below {w w' : World} {s : IV} (h : IG w s) (hb : Below w.heap.size w w') : IG w' s := ⟨h.1.below hb, h.2⟩
theorem IM.g {w : World} {s : IV} (h : IM w s) (hs : IS s) : IG w s := ⟨h.1, hs⟩
theorem IK.below {w w' : World} {lo : Nat} {s : IV} (h : IK w lo s) (hb : Below w.heap.size w w') : IK w' lo s := by
  obtain ⟨B, h1, h2, h3, h4⟩ := h
  exact ⟨B, h1, h2, h3.below hb, h4⟩
theorem IK.touch {S : Nat → Prop} {w w' : World} {lo : Nat} {s : IV} (h : IK w lo s) (t : Touch S w w') (hs : ∀ k, S k → k < lo) : IK w' lo s := by
  obtain ⟨B, h1, h2, h3, h4⟩ := h
  refine ⟨B, h1, h2, ?_, h4⟩
  unfold Blk at *
  rw [t.block B (lt_of_block h3) (fun hh => by have := hs _ hh; omega)]; exact h3
theorem IK.mono {w : World} {lo lo' : Nat} {s : IV} (h : IK w lo s) (hl : lo' ≤ lo) : IK w lo' s := by
  obtain ⟨B, h1, h2, h3⟩ := h
  exact ⟨B, h1, by omega, h3⟩
theorem IK.g {w : World} {lo : Nat} {s : IV} (h : IK w lo s) : IG w s := by
  obtain ⟨B, h1, h2, h3, h4, h5⟩ := h
  refine ⟨?_, h5⟩
  rw [h1, ← h4]; exact h3.ints
theorem open_I1 {H : Type} {enc : TypeId × Value → H} {W : World} {fuel : Nat} {v : Value} {y : DataW H × List MemPlace}
    (hf : DataW.trod enc Try.prog W 0 (fun _ => true) true fuel 30 [v] = some y) : ∃ s : IV, v = s.v ∧ IM W s := by
  obtain ⟨a, n, cap, zs, rfl, h1, h2⟩ := open_row hf
  exact ⟨⟨a, n, cap, zs⟩, rfl, h1, h2⟩

/-- A slice of slices that came in. -/
def ISM (w : World) (ad : Option Addr) (ss : List IV) : Prop :=
  ∀ i, i < ss.length → ∃ b off, ad = some ⟨b, off, none⟩ ∧ w.cell? ⟨b, off + i, none⟩ = some (ss[i]?.getD noI).v ∧ IM w (ss[i]?.getD noI)
/-- One that may be copied. -/
def ISG (w : World) (ad : Option Addr) (ss : List IV) : Prop :=
  ∀ i, i < ss.length → ∃ b off, ad = some ⟨b, off, none⟩ ∧ w.cell? ⟨b, off + i, none⟩ = some (ss[i]?.getD noI).v ∧ IG w (ss[i]?.getD noI)
theorem ISM.below {w w' : World} {ad : Option Addr} {ss : List IV} (h : ISM w ad ss) (hb : Below w.heap.size w w') : ISM w' ad ss := fun i hi => by
  obtain ⟨b, off, e, hc, hr⟩ := h i hi
  exact ⟨b, off, e, by rw [hb.cell (p := ⟨b, off + i, none⟩) (block_lt hc)]; exact hc, hr.below hb⟩
theorem ISG.below {w w' : World} {ad : Option Addr} {ss : List IV} (h : ISG w ad ss) (hb : Below w.heap.size w w') : ISG w' ad ss := fun i hi => by
  obtain ⟨b, off, e, hc, hr⟩ := h i hi
  exact ⟨b, off, e, by rw [hb.cell (p := ⟨b, off + i, none⟩) (block_lt hc)]; exact hc, hr.below hb⟩
theorem ISM.g {w : World} {ad : Option Addr} {ss : List IV} (h : ISM w ad ss) (hs : ∀ i, i < ss.length → IS (ss[i]?.getD noI)) : ISG w ad ss := fun i hi => by
  obtain ⟨b, off, e, hc, hr⟩ := h i hi
  exact ⟨b, off, e, hc, hr.g (hs i hi)⟩

theorem open_IS {H : Type} {enc : TypeId × Value → H} {W : World} {r : Reach} {b0 : Nat} {v : Value} {d : DataW H} {p : List MemPlace}
    (hv : Value.okWide Try.prog W r b0 42 v) (h : DataW.Trod enc Try.prog W 0 (fun _ => true) true 42 v d p) :
    ∃ ad N cap ss, v = .slice ad N cap ∧ ss.length = N ∧ ISM W ad ss ∧ N ≤ maxLen := by
  obtain ⟨ad, N, cap, ss, hv, hl, hN, hall⟩ := open_sliceT noI (fun s => [IV.v s]) (fun s => IM W s) (c := 1) (by omega) Try.underlying42 (by kernel_rfl) (fun _ => rfl) (fun fuel cs x hx => by
    have hl : cs.length = 1 := (trod_len1 Try.underlying30 hx)
    match cs, hl with
    | [c], _ =>
      obtain ⟨s, hs, hr⟩ := open_I1 hx
      exact ⟨s, by rw [hs], hr⟩) hv h
  refine ⟨ad, N, cap, ss, hv, hl, fun i hi => ?_, hN⟩
  obtain ⟨b, off, e, hc, hr⟩ := hall i hi
  have h0 := hc 0 (by omega)
  simp only [Nat.mul_one, Nat.add_zero, List.getElem?_cons_zero] at h0
  exact ⟨b, off, e, h0, hr⟩

/-- Each holds what the other does. -/
def copiesIS (ss ts : List IV) : Prop := ∀ i, i < ts.length → copiesI (ss[i]?.getD noI) (ts[i]?.getD noI)

/-- Block B holds N slices, of which those of ts have been laid. -/
structure MI (W : World) (B N : Nat) (ts : List IV) : Prop where
  c : ∃ vs : List Value, Cel W B vs 30 ∧ vs.length = N ∧ ∀ i, i < ts.length → vs[i]? = some (ts[i]?.getD noI).v
  l : ∀ i, i < ts.length → IK W (B + 1) (ts[i]?.getD noI)
theorem MI.lt {W : World} {B N : Nat} {ts : List IV} (h : MI W B N ts) : B < W.heap.size := by
  obtain ⟨vs, h1, _⟩ := h.c
  exact h1.lt
theorem MI.below {W W' : World} {B N : Nat} {ts : List IV} (h : MI W B N ts) (b : Below W.heap.size W W') : MI W' B N ts := by
  obtain ⟨vs, h1, h2, h3⟩ := h.c
  exact ⟨⟨vs, h1.below b, h2, h3⟩, fun i hi => (h.l i hi).below b⟩
theorem MI.g {W : World} {B N : Nat} {ts : List IV} (h : MI W B N ts) : ISG W (some ⟨B, 0, none⟩) ts := fun i hi => by
  obtain ⟨vs, h1, h2, h3⟩ := h.c
  exact ⟨B, 0, rfl, by rw [Nat.zero_add, h1.cell i, h3 i hi], (h.l i hi).g⟩
theorem MI.step {W W1 : World} {B N k : Nat} {ts : List IV} {s : IV} (h : MI W B N ts) (hk : ts.length = k) (hkN : k < N) (b : Below W.heap.size W W1) (hs : IK W1 W.heap.size s) : MI (W1.setCell ⟨B, k, none⟩ s.v) B N (ts ++ [s]) := by
  have hB := h.lt
  obtain ⟨vs, h1, h2, h3⟩ := (h.below b).c
  have T : Touch (fun x => x = B) W1 (W1.setCell ⟨B, k, none⟩ s.v) := Touch.setCell (S := fun x => x = B) (Touch.refl _ _) rfl _
  refine ⟨⟨vs.set k s.v, h1.set _ _, by rw [List.length_set]; exact h2, fun i hi => ?_⟩, fun i hi => ?_⟩
  · rw [List.length_append, hk] at hi
    simp only [List.length_cons, List.length_nil] at hi
    by_cases e : i = k
    · subst e
      rw [List.getElem?_set_self (by omega), List.getElem?_append_right (by omega), hk]; simp
    · rw [List.getElem?_set_ne (by omega), List.getElem?_append_left (by omega)]
      exact h3 i (by omega)
  · rw [List.length_append, hk] at hi
    simp only [List.length_cons, List.length_nil] at hi
    by_cases e : i = k
    · subst e
      rw [List.getElem?_append_right (by omega), hk]
      simp only [Nat.sub_self, List.getElem?_cons_zero, Option.getD_some]
      exact (hs.mono (by omega)).touch T (fun x hx => by omega)
    · rw [List.getElem?_append_left (by omega)]
      exact (((h.l i (by omega)).below b)).touch T (fun x hx => by omega)

theorem Try.infoI : (Try.prog.info? 30).map (fun i => (i.zero, i.size, i.bytes)) = some (some (.slice none 0 0), 1, 24) := by kernel_rfl

end Go.Proofs.Ytngfbcegcekbbaa
namespace Go.Proofs.Ytngfbcegcekbbaa
open Go.RowKit
set_option linter.unusedVariables false

set_option maxHeartbeats 400000 in
theorem l4same_any (a c : Option Addr) (n m cap cap' : Nat) (xs ys : List Int) (w : World) (h : Ints w a n xs) (h' : Ints w c m ys) (hn : n ≤ 1048576) (hm : m ≤ 1048576) :
    Calls Try.prog 90 #[.slice a n cap, .slice c m cap'] w fun e w' => e = .returned (.bool (eqB xs ys)) ∧ Below w.heap.size w w' := by
  have hx := h.1
  have HX : Hid (xs.length = n) := hx
  have hy := h'.1
  have HY : Hid (ys.length = m) := hy
  clear hx hy
  by_cases hc : n = m
  · subst hc
    go_enter Try.func90, Try.ntmps90
    go_wp2_with fail
    go_loopw [5] (fun i wr => ∃ k : Nat, k ≤ n ∧ i = .int .i64 k ∧ Below w.heap.size w wr ∧ xs.take k = ys.take k) (fun i _ => n - (intOf i).toNat)
    case atStart => exact ⟨0, Nat.zero_le _, rfl, Below.refl _ _, rfl⟩
    case round =>
      obtain ⟨k, hk, rfl, hnx, hall⟩ := hrel
      have HA : Hid (xs.take k = ys.take k) := hall
      clear hall
      by_cases hlt : k < n
      · obtain ⟨b, off, rfl, hcell⟩ := (h.below hnx).pos (by omega)
        obtain ⟨b', off', rfl, hcell'⟩ := (h'.below hnx).pos (by omega)
        have hck := hcell k hlt
        have hck' := hcell' k hlt
        have hlt' : (k : Int) < (n : Int) := by omega
        clear hcell hcell' h h'
        go_wp2_with fail
        go_quiet (fail)
        cases he : (xs[k]?.getD 0 != ys[k]?.getD 0)
        · go_wp2
          go_roundw
          case rel => exact ⟨k + 1, by omega, by go_num, below_drewN hnx _, take_same_succ (by rw [HX.out]; exact hlt) (by rw [HY.out]; exact hlt) HA.out (by simpa using he)⟩
          case measure => simp [intOf]; omega
        · go_wp2
          go_ret
          exact ⟨ret_bool (by rw [eqB_false (k := k) (by simpa using he)]), below_drewN hnx _⟩
      · go_wp2
        go_ret
        exact ⟨ret_bool (by rw [eqB_true HX.out HY.out (by omega) HA.out]), hnx⟩
  · have hne : ((n : Int) != (m : Int)) = true := by simp; omega
    go_enter Try.func90, Try.ntmps90
    go_wp2
    go_ret
    exact ⟨ret_bool (by rw [eqB_len (by rw [HX.out, HY.out]; exact hc)]), Below.refl _ _⟩

set_option maxHeartbeats 400000 in
theorem equal_any (a c : Option Addr) (n m cap cap' : Nat) (xs ys : List Int) (w : World) (h : Ints w a n xs) (h' : Ints w c m ys) (hn : n ≤ 1048576) (hm : m ≤ 1048576) :
    Calls Try.prog 55 #[.slice a n cap, .slice c m cap'] w fun e w' => e = .returned (.bool (eqB xs ys)) ∧ Below w.heap.size w w' := by
  have hx := h.1
  have HX : Hid (xs.length = n) := hx
  have hy := h'.1
  have HY : Hid (ys.length = m) := hy
  clear hx hy
  by_cases hc : n = m
  · subst hc
    go_enter Try.func55, Try.ntmps55
    go_wp2_with fail
    go_loopw [5, 13] (fun _ i wr => ∃ k : Nat, k ≤ n ∧ i = .int .i64 k ∧ Below w.heap.size w wr ∧ xs.take k = ys.take k) (fun _ i _ => n - (intOf i).toNat)
    case atStart => exact ⟨0, Nat.zero_le _, rfl, Below.refl _ _, rfl⟩
    case round =>
      obtain ⟨k, hk, rfl, hnx, hall⟩ := hrel
      have HA : Hid (xs.take k = ys.take k) := hall
      clear hall
      by_cases hlt : k < n
      · obtain ⟨b, off, rfl, hcell⟩ := (h.below hnx).pos (by omega)
        obtain ⟨b', off', rfl, hcell'⟩ := (h'.below hnx).pos (by omega)
        have hck := hcell k hlt
        have hck' := hcell' k hlt
        have hlt' : (k : Int) < (n : Int) := by omega
        clear hcell hcell' h h'
        go_wp2_with fail
        go_quiet (fail)
        cases he : (xs[k]?.getD 0 != ys[k]?.getD 0)
        · go_wp2
          go_roundw
          case rel => exact ⟨k + 1, by omega, by go_num, below_drewN hnx _, take_same_succ (by rw [HX.out]; exact hlt) (by rw [HY.out]; exact hlt) HA.out (by simpa using he)⟩
          case measure => simp [intOf]; omega
        · go_wp2
          go_ret
          exact ⟨ret_bool (by rw [eqB_false (k := k) (by simpa using he)]), below_drewN hnx _⟩
      · go_wp2
        go_ret
        exact ⟨ret_bool (by rw [eqB_true HX.out HY.out (by omega) HA.out]), hnx⟩
  · have hne : ((n : Int) != (m : Int)) = true := by simp; omega
    go_enter Try.func55, Try.ntmps55
    go_wp2
    go_ret
    exact ⟨ret_bool (by rw [eqB_len (by rw [HX.out, HY.out]; exact hc)]), Below.refl _ _⟩

/-- The place of a part among others, from place k on. -/
def hasFrom (part : List Int) : Nat → List (List Int) → Int
  | _, [] => -1
  | k, x :: t => if eqB x part then k else hasFrom part (k + 1) t
def hasI (ss : List IV) (part : List Int) : Int := hasFrom part 0 (ss.map IV.x)
theorem has_drop {ss : List IV} {part : List Int} {k : Nat} (h : k < ss.length) : hasFrom part k ((ss.map IV.x).drop k) = if eqB (ss[k]?.getD noI).x part then (k : Int) else hasFrom part (k + 1) ((ss.map IV.x).drop (k + 1)) := by
  have hl : k < (ss.map IV.x).length := by simpa using h
  rw [List.drop_eq_getElem_cons hl, hasFrom, List.getElem?_eq_getElem h]
  simp
theorem has_end {ss : List IV} {part : List Int} {k : Nat} (h : ss.length ≤ k) : hasFrom part k ((ss.map IV.x).drop k) = -1 := by
  rw [List.drop_eq_nil_of_le (by simpa using h)]; rfl

set_option maxHeartbeats 800000 in
theorem shas_any (ad : Option Addr) (N cap : Nat) (ss : List IV) (c : Option Addr) (m cap' : Nat) (part : List Int) (w : World) (hN : ss.length = N) (hF : ISG w ad ss) (hN1 : N ≤ 1048576) (hP : Ints w c m part) (hm : m ≤ 1048576) :
    Calls Try.prog 89 #[.slice ad N cap, .slice c m cap'] w fun e w' => e = .returned (.int .i64 (hasI ss part)) ∧ Below w.heap.size w w' := by
  have HN : Hid (ss.length = N) := hN
  clear hN
  go_enter Try.func89, Try.ntmps89
  go_wp2_with fail
  go_loopw [5] (fun i wr => ∃ k : Nat, k ≤ N ∧ i = .int .i64 k ∧ Below w.heap.size w wr ∧ hasI ss part = hasFrom part k ((ss.map IV.x).drop k)) (fun i _ => N - (intOf i).toNat)
  case atStart => exact ⟨0, Nat.zero_le _, rfl, Below.refl _ _, rfl⟩
  case round =>
    obtain ⟨k, hk, rfl, hb, hall⟩ := hrel
    have HA : Hid _ := hall
    clear hall
    by_cases hlt : k < N
    · obtain ⟨b, off, rfl, hc, hr⟩ := (hF.below hb) k (by rw [HN.out]; exact hlt)
      have HD : Hid _ := has_drop (ss := ss) (part := part) (k := k) (by rw [HN.out]; exact hlt)
      generalize HG : ss[k]?.getD noI = g at *
      clear HG hF
      obtain ⟨ga, gn, gcap, gx⟩ := g
      have hc' : wr.cell? ⟨b, off + k, none⟩ = some (.slice ga gn gcap) := hc
      clear hc
      cases he : eqB gx part
      · go_wp2_with fail
        refine (l4same_any _ _ _ _ _ _ gx part _ hr.1 (hP.below hb) hr.2 hm).mono ?_
        rintro e w1 ⟨rfl, b1⟩
        rw [he]
        go_wp2
        go_roundw
        case rel => exact ⟨k + 1, by omega, by go_num, hb.trans (b1.mono hb.size), by rw [HA.out, HD.out]; simp only [he]; rfl⟩
        case measure => simp [intOf]; omega
      · go_wp2_with fail
        refine (l4same_any _ _ _ _ _ _ gx part _ hr.1 (hP.below hb) hr.2 hm).mono ?_
        rintro e w1 ⟨rfl, b1⟩
        rw [he]
        go_wp2
        go_ret
        exact ⟨ret_int (by rw [HA.out, HD.out]; simp only [he]; rfl), hb.trans (b1.mono hb.size)⟩
    · go_wp2
      go_ret
      exact ⟨ret_int (by rw [HA.out, has_end (by rw [HN.out]; omega)]), hb⟩

set_option maxHeartbeats 800000 in
theorem ihas_any (ad : Option Addr) (N cap : Nat) (ss : List IV) (c : Option Addr) (m cap' : Nat) (part : List Int) (w : World) (hN : ss.length = N) (hF : ISG w ad ss) (hN1 : N ≤ 1048576) (hP : Ints w c m part) (hm : m ≤ 1048576) :
    Calls Try.prog 21 #[.slice ad N cap, .slice c m cap'] w fun e w' => e = .returned (.int .i64 (hasI ss part)) ∧ Below w.heap.size w w' := by
  have HN : Hid (ss.length = N) := hN
  clear hN
  go_enter Try.func21, Try.ntmps21
  go_wp2_with fail
  go_loopw [5, 6, 9] (fun _ _ i wr => ∃ k : Nat, k ≤ N ∧ i = .int .i64 k ∧ Below w.heap.size w wr ∧ hasI ss part = hasFrom part k ((ss.map IV.x).drop k)) (fun _ _ i _ => N - (intOf i).toNat)
  case atStart => exact ⟨0, Nat.zero_le _, rfl, Below.refl _ _, rfl⟩
  case round =>
    obtain ⟨k, hk, rfl, hb, hall⟩ := hrel
    have HA : Hid _ := hall
    clear hall
    by_cases hlt : k < N
    · obtain ⟨b, off, rfl, hc, hr⟩ := (hF.below hb) k (by rw [HN.out]; exact hlt)
      have HD : Hid _ := has_drop (ss := ss) (part := part) (k := k) (by rw [HN.out]; exact hlt)
      generalize HG : ss[k]?.getD noI = g at *
      clear HG hF
      obtain ⟨ga, gn, gcap, gx⟩ := g
      have hc' : wr.cell? ⟨b, off + k, none⟩ = some (.slice ga gn gcap) := hc
      clear hc
      cases he : eqB gx part
      · go_wp2_with fail
        refine (equal_any _ _ _ _ _ _ gx part _ hr.1 (hP.below hb) hr.2 hm).mono ?_
        rintro e w1 ⟨rfl, b1⟩
        rw [he]
        go_wp2
        go_roundw
        case rel => exact ⟨k + 1, by omega, by go_num, hb.trans (b1.mono hb.size), by rw [HA.out, HD.out]; simp only [he]; rfl⟩
        case measure => simp [intOf]; omega
      · go_wp2_with fail
        refine (equal_any _ _ _ _ _ _ gx part _ hr.1 (hP.below hb) hr.2 hm).mono ?_
        rintro e w1 ⟨rfl, b1⟩
        rw [he]
        go_wp2
        go_ret
        exact ⟨ret_int (by rw [HA.out, HD.out]; simp only [he]; rfl), hb.trans (b1.mono hb.size)⟩
    · go_wp2
      go_ret
      exact ⟨ret_int (by rw [HA.out, has_end (by rw [HN.out]; omega)]), hb⟩

end Go.Proofs.Ytngfbcegcekbbaa
namespace Go.Proofs.Ytngfbcegcekbbaa
open Go.RowKit Go.Deep
set_option linter.unusedVariables false
set_option maxRecDepth 100000

def zeroB (C D : List Int) (K : Int) : Bool := allB 0 C && allB 0 D && (K == 0)
theorem not_true_of {b : Bool} (h : b = false) : ¬ b = true := fun e => by rw [h] at e; cases e
def zeroF (f : Frm) : Bool := zeroB f.1 f.2.1 f.2.2
theorem allB0 (zs : List Int) : allB 0 zs = decide (zs = List.replicate zs.length 0) := by
  induction zs with
  | nil => rfl
  | cons x xs ih =>
    simp only [allB, List.all_cons, List.length_cons, List.replicate_succ] at *
    rw [ih]
    by_cases hx : x = 0
    · subst hx; simp [inB]
    · have : inB x (-0) 0 = false := inB_not.2 (by omega)
      rw [this]; simp [hx]
theorem eqB0 {zs ys : List Int} (h : ys = List.replicate zs.length 0) : eqB zs ys = allB 0 zs := by rw [allB0, eqB, h]

set_option maxHeartbeats 1600000 in
theorem izero0_any (a : Option Addr) (cap : Nat) (c : Option Addr) (cap' : Nat) (K : Int) (C D : List Int) (w : World) (hC : Ints w a 3 C) (hD : Ints w c 2 D) :
    Calls Try.prog 68 #[formV a 3 cap c 2 cap' K] w fun e w' => e = .returned (.bool (zeroB C D K)) ∧ Below w.heap.size w w' := by
  have B0 : Below w.heap.size w (w.alloc (.cells #[.slice a 3 cap, .slice c 2 cap', .int .i64 K] 32)) := (Below.refl _ _).alloc (Nat.le_refl _) _
  cases h1 : allB 0 C
  · go_enter Try.func68, Try.ntmps68
    go_wp2_with fail
    refine (within_any _ _ _ C _ _ (hC.alloc _) (by omega) (by omega) (by omega)).mono ?_
    rintro e w1 ⟨rfl, rfl⟩
    rw [h1]
    go_wp2
    go_ret
    exact ⟨ret_bool (by simp [zeroB, h1]), B0⟩
  · cases h2 : allB 0 D
    · go_enter Try.func68, Try.ntmps68
      go_wp2_with fail
      refine (within_any _ _ _ C _ _ (hC.alloc _) (by omega) (by omega) (by omega)).mono ?_
      rintro e w1 ⟨rfl, rfl⟩
      rw [h1]
      go_wp2_with fail
      refine (within_any _ _ _ D _ _ (hD.alloc _) (by omega) (by omega) (by omega)).mono ?_
      rintro e w1 ⟨rfl, rfl⟩
      rw [h2]
      go_wp2
      go_ret
      exact ⟨ret_bool (by simp [zeroB, h1, h2]), B0⟩
    · go_enter Try.func68, Try.ntmps68
      go_wp2_with fail
      refine (within_any _ _ _ C _ _ (hC.alloc _) (by omega) (by omega) (by omega)).mono ?_
      rintro e w1 ⟨rfl, rfl⟩
      rw [h1]
      go_wp2_with fail
      refine (within_any _ _ _ D _ _ (hD.alloc _) (by omega) (by omega) (by omega)).mono ?_
      rintro e w1 ⟨rfl, rfl⟩
      rw [h2]
      go_wp2
      go_ret
      exact ⟨ret_bool (by simp [zeroB, h1, h2]), B0⟩

set_option maxHeartbeats 3200000 in
theorem szero0_any (a : Option Addr) (cap : Nat) (c : Option Addr) (cap' : Nat) (kz : Int) (C D : List Int) (w : World) (hC : Ints w a 3 C) (hD : Ints w c 2 D) :
    Calls Try.prog 69 #[formV a 3 cap c 2 cap' kz] w fun e w' => e = .returned (.bool (zeroB C D kz)) ∧ Below w.heap.size w w' := by
  obtain ⟨W0, hW0⟩ : ∃ W0, W0 = w.alloc (.cells #[.slice a 3 cap, .slice c 2 cap', .int .i64 kz] 32) := ⟨_, rfl⟩
  have B0 : Below w.heap.size w W0 := by rw [hW0]; exact (Below.refl _ _).alloc (Nat.le_refl _) _
  have n0 : Cel W0 w.heap.size [.slice a 3 cap, .slice c 2 cap', .int .i64 kz] 32 := by rw [hW0]; exact Cel.new w _ _
  have KP : Hid (∀ W, Below W0.heap.size W0 W → (W.cell? ⟨w.heap.size, 0, none⟩ = some (.slice a 3 cap) ∧ W.cell? ⟨w.heap.size, 1, none⟩ = some (.slice c 2 cap') ∧ W.cell? ⟨w.heap.size, 2, none⟩ = some (.int .i64 kz))) := fun W hW => ⟨(n0.below hW).cell 0, (n0.below hW).cell 1, (n0.below hW).cell 2⟩
  have C0 : Hid (Ints W0 a 3 C) := hC.below B0
  have D0 : Hid (Ints W0 c 2 D) := hD.below B0
  have e0 : Below W0.heap.size W0 W0.drew := (Below.refl _ _).drew
  have hSS := And.intro (KP.out _ e0) (True.intro)
  have EC : Hid (eqB C [0, 0, 0] = allB 0 C) := eqB0 (by rw [hC.1]; rfl)
  have ED : Hid (eqB D [0, 0] = allB 0 D) := eqB0 (by rw [hD.1]; rfl)
  clear hC hD
  go_enter Try.func69, Try.ntmps69
  go_upto_region 1 with fail
  rw [← hW0]
  clear hW0
  refine wp_region_ends (fun w' => w'.cell? ⟨w.heap.size, 0, none⟩ = some (.slice a 3 cap) ∧ w'.cell? ⟨w.heap.size, 1, none⟩ = some (.slice c 2 cap') ∧ w'.cell? ⟨w.heap.size, 2, none⟩ = some (.int .i64 kz)) (fun _ => True) 17 (by kernel_rfl) ?_
  refine wpAnyE_take0 (i := 0) (v := ?av0) rfl (by kernel_rfl) (by kernel_rfl) (by kernel_rfl) (by decide) (fun _ _ _ h => h) (Or.inl ⟨by rfl, ?ahy0⟩) hSS ?_
  case ahy0 => (intro wz hSw; (try dsimp only at hSw); go_simp; try (with_reducible rfl))
  refine wpAnyE_take0 (i := 1) (v := ?av1) rfl (by kernel_rfl) (by kernel_rfl) (by kernel_rfl) (by decide) (fun _ _ _ h => h) (Or.inl ⟨by rfl, ?ahy1⟩) hSS ?_
  case ahy1 => (intro wz hSw; (try dsimp only at hSw); go_simp; try (with_reducible rfl))
  refine wpAnyE_one (i := 2) (by kernel_rfl) rfl (fun K hK => ?_)
  go_simp
  refine (szero_any _).mono ?_
  rintro ee w1 ⟨B1, B2, rfl, bd1, y1, y12, y2, k1, k2⟩
  have b1 := below_of_drew bd1
  (try dsimp only)
  refine hK.out _ _ ⟨KP.out _ b1, fun _ => trivial⟩ ?_
  clear hK K
  refine wpAnyE_one (i := 3) (by kernel_rfl) rfl (fun K hK => ?_)
  go_simp
  refine hK.out _ _ ⟨KP.out _ b1, fun _ => trivial⟩ ?_
  clear hK K
  refine wpAnyE_one (i := 4) (by kernel_rfl) rfl (fun K hK => ?_)
  go_simp
  refine (l4same_any _ _ 3 3 _ _ C [0, 0, 0] _ (C0.out.below b1) (k1.ints' rfl) (by omega) (by omega)).mono ?_
  rintro ee w2 ⟨rfl, bd2⟩
  rw [EC.out]
  have b2 := b1.trans (bd2.mono b1.size)
  (try dsimp only)
  refine hK.out _ _ ⟨KP.out _ b2, fun _ => trivial⟩ ?_
  clear hK K hSS bd1 bd2 b1 k1 k2 y1 y2 y12
  cases h1 : allB 0 C
  · refine wpAnyE_one (i := 5) (by kernel_rfl) rfl (fun K hK => ?_)
    go_simp
    refine hK.out _ _ ⟨KP.out _ b2, fun _ => trivial⟩ ?_
    clear hK K
    have hS2 := And.intro (KP.out _ b2) (True.intro)
    refine wpAnyE_take0 (i := 6) (v := undef) rfl (by kernel_rfl) (by kernel_rfl) (by kernel_rfl) (by decide) (fun _ _ _ h => h) (Or.inr ⟨by kernel_rfl, rfl⟩) hS2 ?_
    refine wpAnyE_take0 (i := 7) (v := undef) rfl (by kernel_rfl) (by kernel_rfl) (by kernel_rfl) (by decide) (fun _ _ _ h => h) (Or.inr ⟨by kernel_rfl, rfl⟩) hS2 ?_
    clear hS2
    refine wpAnyE_one (i := 8) (by kernel_rfl) rfl (fun K hK => ?_)
    rw [if_neg (not_true_of (by kernel_rfl))]
    refine hK.out _ _ ⟨KP.out _ b2, fun _ => trivial⟩ ?_
    clear hK K
    refine wpAnyE_one (i := 9) (by kernel_rfl) rfl (fun K hK => ?_)
    rw [if_neg (not_true_of (by kernel_rfl))]
    refine hK.out _ _ ⟨KP.out _ b2, fun _ => trivial⟩ ?_
    clear hK K
    refine wpAnyE_one (i := 10) (by kernel_rfl) rfl (fun K hK => ?_)
    rw [if_neg (not_true_of (by kernel_rfl))]
    refine hK.out _ _ ⟨KP.out _ b2, fun _ => trivial⟩ ?_
    clear hK K
    refine wpAnyE_one (i := 11) (by kernel_rfl) rfl (fun K hK => ?_)
    go_simp
    refine hK.out _ _ ⟨KP.out _ b2, fun _ => trivial⟩ ?_
    clear hK K
    refine wpAnyE_one (i := 12) (by kernel_rfl) rfl (fun K hK => ?_)
    go_simp
    refine hK.out _ _ ⟨KP.out _ b2, fun _ => trivial⟩ ?_
    clear hK K
    refine wpAnyE_one (i := 13) (by kernel_rfl) rfl (fun K hK => ?_)
    rw [if_neg (not_true_of (by kernel_rfl))]
    refine hK.out _ _ ⟨KP.out _ b2, fun _ => trivial⟩ ?_
    clear hK K
    refine wpAnyE_one (i := 14) (by kernel_rfl) rfl (fun K hK => ?_)
    rw [if_neg (not_true_of (by kernel_rfl))]
    refine hK.out _ _ ⟨KP.out _ b2, fun _ => trivial⟩ ?_
    clear hK K
    refine wpAnyE_one (i := 15) (by kernel_rfl) rfl (fun K hK => ?_)
    rw [if_neg (not_true_of (by kernel_rfl))]
    refine hK.out _ _ ⟨KP.out _ b2, fun _ => trivial⟩ ?_
    clear hK K
    refine wpAnyE_one (i := 16) (by kernel_rfl) rfl (fun K hK => ?_)
    go_simp
    refine hK.out _ _ ⟨KP.out _ b2, fun _ => trivial⟩ ?_
    clear hK K
    refine wpAnyE_one (i := 17) (by kernel_rfl) rfl (fun K hK => ?_)
    go_simp
    refine hK.out _ _ ⟨KP.out _ b2, fun _ => trivial⟩ ?_
    clear hK K
    refine wpAnyE_done (by kernel_rfl) ?_ _
    go_wp2
    go_ret
    exact ⟨ret_bool (by simp [zeroB, h1]), B0.trans (b2.mono B0.size)⟩
  · refine wpAnyE_one (i := 5) (by kernel_rfl) rfl (fun K hK => ?_)
    go_simp
    refine hK.out _ _ ⟨KP.out _ b2, fun _ => trivial⟩ ?_
    clear hK K
    have hS2 := And.intro (KP.out _ b2) (True.intro)
    refine wpAnyE_take0 (i := 6) (v := ?bv6) rfl (by kernel_rfl) (by kernel_rfl) (by kernel_rfl) (by decide) (fun _ _ _ h => h) (Or.inl ⟨by kernel_rfl, ?bhy6⟩) hS2 ?_
    case bhy6 => (intro wz hSw; (try dsimp only at hSw); go_simp; try (with_reducible rfl))
    refine wpAnyE_take0 (i := 7) (v := ?bv7) rfl (by kernel_rfl) (by kernel_rfl) (by kernel_rfl) (by decide) (fun _ _ _ h => h) (Or.inl ⟨by kernel_rfl, ?bhy7⟩) hS2 ?_
    case bhy7 => (intro wz hSw; (try dsimp only at hSw); go_simp; try (with_reducible rfl))
    clear hS2
    refine wpAnyE_one (i := 8) (by kernel_rfl) rfl (fun K hK => ?_)
    rw [if_pos (by kernel_rfl)]
    go_simp
    refine (szero_any _).mono ?_
    rintro ee w3 ⟨B1, B2, rfl, bd3, y1, y12, y2, k1, k2⟩
    have b3 := b2.trans (bd3.mono b2.size)
    (try dsimp only)
    refine hK.out _ _ ⟨KP.out _ b3, fun _ => trivial⟩ ?_
    clear hK K
    refine wpAnyE_one (i := 9) (by kernel_rfl) rfl (fun K hK => ?_)
    rw [if_pos (by kernel_rfl)]
    go_simp
    refine hK.out _ _ ⟨KP.out _ b3, fun _ => trivial⟩ ?_
    clear hK K
    refine wpAnyE_one (i := 10) (by kernel_rfl) rfl (fun K hK => ?_)
    rw [if_pos (by kernel_rfl)]
    go_simp
    refine (l4same_any _ _ 2 2 _ _ D [0, 0] _ (D0.out.below b3) (k2.ints' rfl) (by omega) (by omega)).mono ?_
    rintro ee w4 ⟨rfl, bd4⟩
    rw [ED.out]
    have b4 := b3.trans (bd4.mono b3.size)
    (try dsimp only)
    refine hK.out _ _ ⟨KP.out _ b4, fun _ => trivial⟩ ?_
    clear hK K bd3 bd4 b3 k1 k2 y1 y2 y12
    cases h2 : allB 0 D
    · refine wpAnyE_one (i := 11) (by kernel_rfl) rfl (fun K hK => ?_)
      go_simp
      refine hK.out _ _ ⟨KP.out _ b4, fun _ => trivial⟩ ?_
      clear hK K
      refine wpAnyE_one (i := 12) (by kernel_rfl) rfl (fun K hK => ?_)
      go_simp
      refine hK.out _ _ ⟨KP.out _ b4, fun _ => trivial⟩ ?_
      clear hK K
      refine wpAnyE_one (i := 13) (by kernel_rfl) rfl (fun K hK => ?_)
      rw [if_neg (not_true_of (by kernel_rfl))]
      refine hK.out _ _ ⟨KP.out _ b4, fun _ => trivial⟩ ?_
      clear hK K
      refine wpAnyE_one (i := 14) (by kernel_rfl) rfl (fun K hK => ?_)
      rw [if_neg (not_true_of (by kernel_rfl))]
      refine hK.out _ _ ⟨KP.out _ b4, fun _ => trivial⟩ ?_
      clear hK K
      refine wpAnyE_one (i := 15) (by kernel_rfl) rfl (fun K hK => ?_)
      rw [if_neg (not_true_of (by kernel_rfl))]
      refine hK.out _ _ ⟨KP.out _ b4, fun _ => trivial⟩ ?_
      clear hK K
      refine wpAnyE_one (i := 16) (by kernel_rfl) rfl (fun K hK => ?_)
      go_simp
      refine hK.out _ _ ⟨KP.out _ b4, fun _ => trivial⟩ ?_
      clear hK K
      refine wpAnyE_one (i := 17) (by kernel_rfl) rfl (fun K hK => ?_)
      go_simp
      refine hK.out _ _ ⟨KP.out _ b4, fun _ => trivial⟩ ?_
      clear hK K
      refine wpAnyE_done (by kernel_rfl) ?_ _
      go_wp2
      go_ret
      exact ⟨ret_bool (by simp [zeroB, h1, h2]), B0.trans (b4.mono B0.size)⟩
    · refine wpAnyE_one (i := 11) (by kernel_rfl) rfl (fun K hK => ?_)
      go_simp
      refine hK.out _ _ ⟨KP.out _ b4, fun _ => trivial⟩ ?_
      clear hK K
      refine wpAnyE_one (i := 12) (by kernel_rfl) rfl (fun K hK => ?_)
      go_simp
      refine hK.out _ _ ⟨KP.out _ b4, fun _ => trivial⟩ ?_
      clear hK K
      refine wpAnyE_one (i := 13) (by kernel_rfl) rfl (fun K hK => ?_)
      rw [if_pos (by kernel_rfl)]
      go_simp
      refine hK.out _ _ ⟨KP.out _ b4, fun _ => trivial⟩ ?_
      clear hK K
      refine wpAnyE_one (i := 14) (by kernel_rfl) rfl (fun K hK => ?_)
      rw [if_pos (by kernel_rfl)]
      obtain ⟨g0, g1, g2⟩ := KP.out _ b4
      go_simp
      clear g0 g1 g2
      refine hK.out _ _ ⟨KP.out _ b4, fun _ => trivial⟩ ?_
      clear hK K
      refine wpAnyE_one (i := 15) (by kernel_rfl) rfl (fun K hK => ?_)
      rw [if_pos (by kernel_rfl)]
      go_simp
      refine hK.out _ _ ⟨KP.out _ b4, fun _ => trivial⟩ ?_
      clear hK K
      refine wpAnyE_one (i := 16) (by kernel_rfl) rfl (fun K hK => ?_)
      go_simp
      refine hK.out _ _ ⟨KP.out _ b4, fun _ => trivial⟩ ?_
      clear hK K
      refine wpAnyE_one (i := 17) (by kernel_rfl) rfl (fun K hK => ?_)
      go_simp
      refine hK.out _ _ ⟨KP.out _ b4, fun _ => trivial⟩ ?_
      clear hK K
      refine wpAnyE_done (by kernel_rfl) ?_ _
      go_wp2
      go_ret
      exact ⟨ret_bool (by simp [zeroB, h1, h2]), B0.trans (b4.mono B0.size)⟩
end Go.Proofs.Ytngfbcegcekbbaa
namespace Go.Proofs.Ytngfbcegcekbbaa
open Go.RowKit Go.Deep
set_option linter.unusedVariables false
set_option maxRecDepth 100000

/-- A way may turn a pot. -/
def wrF (r : RowM) (v : Nat) : Bool := decide (v < r.adds.length) && !zeroF (r.adds[v]?.getD ([], [], 0))
def writesR (rs : List RowM) (v : Nat) : Bool := rs.any fun r => wrF r v
theorem writesR_snoc (rs : List RowM) (k : Nat) (hk : k < rs.length) (v : Nat) : writesR (rs.take (k + 1)) v = (writesR (rs.take k) v || wrF (rs[k]?.getD noR) v) := by
  rw [writesR, List.take_succ_eq_append_getElem hk, List.any_append, List.getElem?_eq_getElem hk]
  simp [writesR]
/-- Rows in memory that was made since; what is older may change. -/
structure JRo (n0 G cap : Nat) (xs : List Value) (rs : List RowM) (W : World) : Prop where
  o : W.ownsRow n0 38 4 (.slice (some ⟨G, 0, none⟩) rs.length cap) rs.length xs
  r : RowsOk W (fun k => k < n0 ∨ k = G) xs rs
theorem JR.old {w W : World} {G cap : Nat} {xs : List Value} {rs : List RowM} (j : JR w G cap xs rs W) : JRo w.heap.size G cap xs rs W := ⟨j.o, j.r⟩
theorem JRo.lt {n0 : Nat} {W : World} {G cap : Nat} {xs : List Value} {rs : List RowM} (j : JRo n0 G cap xs rs W) : n0 ≤ G ∧ G < W.heap.size := by
  rcases j.o.2 with ⟨h, _⟩ | ⟨g, cap', cur, h, hg, hh, _⟩
  · cases h
  · simp only [Value.slice.injEq, Option.some.injEq, Addr.mk.injEq, and_true, true_and] at h
    obtain ⟨rfl, _⟩ := h
    exact ⟨hg, lt_of_block hh⟩
theorem JRo.touch {S : Nat → Prop} {n0 : Nat} {W W' : World} {G cap : Nat} {xs : List Value} {rs : List RowM} (j : JRo n0 G cap xs rs W) (t : Touch S W W') (hS : ∀ k, S k → k < n0) : JRo n0 G cap xs rs W' :=
  ⟨own_off j.o (fun g hg hs => by
    have h1 := hS _ hs
    have h2 := j.lt
    have : some G = some g := hg
    simp only [Option.some.injEq] at this
    omega) t, j.r.map (fun _ _ f => f.touch (t.mono (fun k hk => Or.inl (hS k hk))))⟩
theorem JRo.below {n0 : Nat} {W W' : World} {G cap : Nat} {xs : List Value} {rs : List RowM} (j : JRo n0 G cap xs rs W) (b : Below W.heap.size W W') : JRo n0 G cap xs rs W' := j.touch (S := fun _ => False) (Touch.of b) (fun _ h => h.elim)

set_option maxHeartbeats 6400000 in
theorem scatwrites_any (ad : Option Addr) (N cap : Nat) (ls : List LV) (w : World) (hN : ls.length = N) (hF : LinesG w ad ls) (hN1 : N ≤ 1048576) :
    Calls Try.prog 35 #[.slice ad N cap] w fun e w' => Below w.heap.size w w' ∧ ((actB N ls = false ∧ ∃ G, e = .returned (.slice (some ⟨G, 0, none⟩) 0 0)) ∨ (actB N ls = true ∧ ∃ G cG, e = .returned (.slice (some ⟨G, 0, none⟩) 3 cG) ∧ w.heap.size ≤ G ∧ OwnBB w' G (writesR (rowsL ls)))) := by
  have HN : Hid (ls.length = N) := hN
  clear hN
  obtain ⟨u, hu⟩ : ∃ u, actB N ls = u := ⟨_, rfl⟩
  have HU : Hid (actB N ls = u) := hu
  go_enter Try.func35, Try.ntmps35
  go_wp2_with fail
  refine (sact_any _ _ _ ls _ HN.out hF hN1).mono ?_
  rintro e w1 ⟨rfl, b1⟩
  rw [hu]
  clear hu
  cases u with
  | false =>
    have B2 := b1.alloc b1.size (.cells #[] 4)
    go_wp2
    go_ret
    exact ⟨B2, .inl ⟨HU.out, _, rfl⟩⟩
  | true =>
    obtain ⟨h6, hall⟩ := actB_parts HU.out
    have HFIT : Hid _ := rowsL_fit (by rw [HN.out]; exact h6) hall hF
    have HRB : Hid (rowsB N ls = rowsL ls) := by show _ = _; rw [rowsB, HU.out]; rfl
    have A : Below w1.heap.size w1 (w1.alloc (.cells #[.bool false, .bool false, .bool false] 4)) := (Below.refl _ _).alloc (Nat.le_refl _) _
    have o0 : OwnBB (w1.alloc (.cells #[.bool false, .bool false, .bool false] 4)) w1.heap.size (writesR ((rowsL ls).take 0)) := Cel.new w1 [.bool false, .bool false, .bool false] 4
    have B2 := b1.trans (A.mono b1.size)
    clear hall
    go_wp2_with fail
    refine (srows_any _ _ _ ls _ HN.out (hF.below B2) hN1).mono ?_
    rw [HRB.out]
    rintro ee w3 ⟨Gr, cr, xs, rfl, j3⟩
    have B3 := B2.trans (j3.b.mono B2.size)
    have o3 := o0.below j3.b
    have lG0 : w.heap.size ≤ w1.heap.size := b1.size
    have lG1 : w1.heap.size < (w1.alloc (.cells #[.bool false, .bool false, .bool false] 4)).heap.size := by rw [World.size_alloc]; omega
    have j4 := j3.old
    obtain ⟨R, hR⟩ : ∃ R, R = rowsL ls := ⟨_, rfl⟩
    have HR : Hid (R = rowsL ls) := hR
    have q1 : R.length ≤ 128 := by rw [hR]; exact goW_128 (by omega)
    rw [← hR] at o3 j4 HFIT ⊢
    generalize (w1.alloc (.cells #[.bool false, .bool false, .bool false] 4)).heap.size = n0 at *
    obtain ⟨G, hG⟩ : ∃ G, G = w1.heap.size := ⟨_, rfl⟩
    rw [← hG] at o3 lG0 lG1 ⊢
    clear o0 A hR B2 HRB j3 hG b1
    go_wp2_with fail
    go_loopw [5, 6] (fun i _ wr => ∃ k : Nat, k ≤ R.length ∧ i = .int .i64 k ∧ Below w.heap.size w wr ∧ OwnBB wr G (writesR (R.take k)) ∧ JRo n0 Gr cr xs R wr) (fun i _ _ => R.length - (intOf i).toNat)
    case atStart => exact ⟨0, Nat.zero_le _, rfl, B3, o3, j4⟩
    case round =>
      clear B3 o3 j4
      obtain ⟨k, hk, rfl, hb, o, j⟩ := hrel
      by_cases hlt : k < R.length
      · have hlt' : (k : Int) < R.length := by omega
        have HS : Hid (∀ v, writesR (R.take (k + 1)) v = (writesR (R.take k) v || wrF (R[k]?.getD noR) v)) := fun v => writesR_snoc R k hlt v
        have hfit : RowFit (R[k]?.getD noR) := HFIT.out _ (by rw [List.getElem?_eq_getElem hlt]; exact List.getElem_mem hlt)
        have la := hfit.la
        obtain ⟨A, hA⟩ : ∃ A, A = (R[k]?.getD noR).adds.length := ⟨_, rfl⟩
        have HA : Hid (A = (R[k]?.getD noR).adds.length) := hA
        rw [← hA] at la
        have o' : OwnBB wr G (fun v => if v < 0 then writesR (R.take (k + 1)) v else writesR (R.take k) v) := o.ext (fun v hv => by simp)
        have HO : Hid _ := o'
        have HJ : Hid _ := j
        have HB : Hid _ := hb
        clear o o' hfit hA j hb
        go_wp2_with fail
        go_loopw [6] (fun v w2 => ∃ u : Nat, u ≤ A ∧ v = .int .i64 u ∧ Below w.heap.size w w2 ∧ OwnBB w2 G (fun v => if v < u then writesR (R.take (k + 1)) v else writesR (R.take k) v) ∧ JRo n0 Gr cr xs R w2) (fun v _ => A - (intOf v).toNat)
        case atStart => exact ⟨0, by omega, rfl, HB.out, HO.out, HJ.out⟩
        case round =>
          clear HO HJ HB
          obtain ⟨u, hu, rfl, hb, o, j⟩ := hrel
          obtain ⟨ga, gc, aa, ac, ta, tc, x0, x1, x2, x3, f0, f1, f2⟩ := j.r k hlt
          have sl := j.o.1
          have n1 := (own_cell j.o (k * 4 + 1) (by omega)).trans x1
          rw [← HA.out] at n1
          have lGr := j.lt
          by_cases hu3 : u < A
          · have hu' : (u : Int) < A := by omega
            have hF1 := f1.at u (by rw [← HA.out]; exact hu3)
            obtain ⟨b, off, rfl, a', c', ca, cc, c0, c1, c2, iC, iD⟩ := hF1
            have HW : Hid (wrF (R[k]?.getD noR) u = !zeroB ((R[k]?.getD noR).adds[u]?.getD ([], [], 0)).1 ((R[k]?.getD noR).adds[u]?.getD ([], [], 0)).2.1 ((R[k]?.getD noR).adds[u]?.getD ([], [], 0)).2.2) := by
              show _ = _
              have hd : decide (u < (R[k]?.getD noR).adds.length) = true := by rw [← HA.out]; simp [hu3]
              rw [wrF, hd, Bool.true_and, zeroF]
            generalize ((R[k]?.getD noR).adds[u]?.getD ([], [], 0)).1 = C at *
            generalize ((R[k]?.getD noR).adds[u]?.getD ([], [], 0)).2.1 = D at *
            generalize ((R[k]?.getD noR).adds[u]?.getD ([], [], 0)).2.2 = kz at *
            clear f0 f1 f2 x0 x1 x2 x3
            go_wp2_with fail
            refine (szero0_any _ _ _ _ _ C D _ iC iD).mono ?_
            rintro ee w4 ⟨rfl, b4⟩
            have B4 := hb.trans (b4.mono hb.size)
            have O4 := o.below b4
            have J4 := j.below b4
            clear hb o j b4 c0 c1 c2 iC iD n1
            cases hz : zeroB C D kz
            · obtain ⟨g0, fz⟩ := O4.at (v := u) (by omega)
              have O5 : Hid (OwnBB (w4.setCell ⟨G, u, none⟩ (.bool true)) G (fun v => if v < u + 1 then writesR (R.take (k + 1)) v else writesR (R.take k) v)) := (O4.set (u := u) (by omega) true).ext (fun v hv => by
                by_cases e : v = u
                · subst e; simp only [if_true, Nat.lt_succ_self]; rw [HS.out, HW.out, hz]; simp
                · simp only [e, if_false]
                  by_cases e2 : v < u
                  · rw [if_pos e2, if_pos (by omega)]
                  · rw [if_neg e2, if_neg (by omega)])
              have J5 := J4.touch ((Touch.refl (fun x => x = G) w4).setCell (B := G) (i := u) rfl (.bool true)) (fun k hk => by omega)
              have B5 := B4.setCell (p := ⟨G, u, none⟩) lG0 (.bool true)
              clear O4 J4 B4 HW
              go_wp2
              go_roundw
              case rel => exact ⟨u + 1, by omega, by go_num, B5, O5.out, J5⟩
              case measure => simp [intOf]; omega
            · have O5 : Hid (OwnBB w4 G (fun v => if v < u + 1 then writesR (R.take (k + 1)) v else writesR (R.take k) v)) := O4.ext (fun v hv => by
                by_cases e : v = u
                · subst e; simp only [Nat.lt_irrefl, if_false, Nat.lt_succ_self, if_true]; rw [HS.out, HW.out, hz]; simp
                · by_cases e2 : v < u
                  · rw [if_pos e2, if_pos (by omega)]
                  · rw [if_neg e2, if_neg (by omega)])
              clear O4 HW
              go_wp2
              go_roundw
              case rel => exact ⟨u + 1, by omega, by go_num, B4, O5.out, J4⟩
              case measure => simp [intOf]; omega
          · obtain rfl : u = A := by omega
            have O3 : Hid (OwnBB wr G (writesR (R.take (k + 1)))) := o.ext (fun v hv => by
              by_cases e : v < u
              · rw [if_pos e]
              · rw [if_neg e, HS.out]
                have hd : decide (v < (R[k]?.getD noR).adds.length) = false := by rw [← HA.out]; simpa using e
                rw [wrF, hd]; simp)
            clear o f0 f1 f2 x0 x1 x2 x3
            go_wp2
            go_roundw
            case rel => exact ⟨k + 1, by omega, by go_num, hb, O3.out, j⟩
            case measure => simp [intOf]; omega
      · obtain rfl : k = R.length := by omega
        have O : OwnBB wr G (writesR R) := by
          have : R.take R.length = R := List.take_of_length_le (Nat.le_refl _)
          rw [this] at o; exact o
        go_wp2
        go_ret
        rw [← HR.out]
        exact ⟨hb, .inr ⟨HU.out, G, 3, rfl, lG0, O⟩⟩

end Go.Proofs.Ytngfbcegcekbbaa
namespace Go.Proofs.Ytngfbcegcekbbaa
open Go.RowKit
set_option linter.unusedVariables false

section
variable {F : Fence} {n : Nat} {P : Program} {ops : Array Oper} {Q : Exit → Act → World → Prop} {md : Region.Mode} {S : World → Prop}

/-- Nothing is put off in a region. -/
def noDefer (ops : Array Oper) : Bool := ops.toList.all fun o => match o.op with
  | .defer _ => false
  | _ => true
theorem noDefer_spec (h : noDefer ops = true) {i : Nat} {o : Oper} (hi : ops[i]? = some o) : ∀ c, o.op ≠ .defer c := fun c e => by
  have hm : o ∈ ops.toList := by
    rw [Array.mem_toList_iff]
    exact Array.mem_of_getElem? hi
  have := List.all_eq_true.1 h o hm
  simp [e] at this
theorem wpIn_round {o : Oper} (hd : ∀ c, o.op ≠ .defer c) (hro : F.round = none) (l : Nat) {a : Act} {w : World} {K : Act → World → Prop} (h : o.wpIn F n P a w K Q) : o.wpIn (F.inRound l) n P a w K Q := by
  unfold Oper.wpIn at *
  refine ⟨h.1, ?_⟩
  have h2 := h.2
  rw [hro, Oper.semAt_none] at h2
  rw [Fence.inRound_round, Oper.semAt_some l _ _ hd]
  exact h2
theorem wpOpIn_round (hd : noDefer ops = true) (hro : F.round = none) (l : Nat) {i : Nat} {a : Act} {w : World} {K : Act → World → Prop} (h : wpOpIn F n P ops Q i K a w) : wpOpIn (F.inRound l) n P ops Q i K a w := by
  unfold wpOpIn at *
  cases hi : ops[i]? with
  | none => simp only [hi] at h ⊢; exact h
  | some o =>
    simp only [hi] at h ⊢
    split
    · rename_i hw
      simp only [hw, if_true] at h
      exact wpIn_round (noDefer_spec hd hi) hro l h
    · rename_i hw
      simp only [hw] at h
      exact h
theorem wpAnyIn_round (hd : noDefer ops = true) (hro : F.round = none) (l : Nat) : ∀ (fuel : Nat) (listed : Array Bool) (a : Act) (w : World), wpAnyIn F n P md ops Q fuel listed a w → wpAnyIn (F.inRound l) n P md ops Q fuel listed a w
  | 0, _, _, _, h => h
  | fuel + 1, _, _, _, h => ⟨h.1, fun i hi => wpOpIn_mono (fun a' w' h' => wpAnyIn_round hd hro l fuel _ a' w' h') (wpOpIn_round hd hro l (h.2 i hi))⟩
theorem wpIn_region_R {id : Nat} {a : Act} {w : World} (S : World → Prop) (l : Nat) (hm : P.follows .mixedOrders = true) (hd : noDefer ops = true)
    (h : wpAnyS Fence.wide n P .any ops Q S ops.size (Array.replicate ops.size false) a w.drew) : (Code.region id ops true).wpIn (Fence.wide.inRound l) n P Q a w :=
  wpIn_region_any hm (wpAnyIn_round hd rfl l _ _ _ _ (wpAnyIn_of_S _ _ _ _ h))

end
end Go.Proofs.Ytngfbcegcekbbaa
namespace Go.Proofs.Ytngfbcegcekbbaa
open Go.RowKit Go.Deep Go.Shelf
set_option linter.unusedVariables false
set_option maxRecDepth 100000
attribute [local go_sem] Oper.semAt_some

set_option maxHeartbeats 3200000 in
theorem icatwrites_in (ad : Option Addr) (N cap : Nat) (ls : List LV) (w : World) (n : Nat) (hN : ls.length = N) (hF : LinesG w ad ls) (hN1 : N ≤ 1048576) :
    CallsIn Fence.wide n Try.prog 34 #[.slice ad N cap] w fun e w' => Below w.heap.size w w' ∧ ((actB N ls = false ∧ e = .returned (.slice none 0 0)) ∨ (actB N ls = true ∧ ∃ G cG, e = .returned (.slice (some ⟨G, 0, none⟩) 3 cG) ∧ w.heap.size ≤ G ∧ OwnBB w' G (writesR (rowsL ls)))) := by
  have hdd : ∀ k : Nat, (Fence.wide.depth.isSome = true → 1 ≤ k) := fun k h => by simp [Fence.wide] at h
  refine callsIn_of_wp_marks Try.func34 rfl trivial ?_ rfl
  simp only [Try.ntmps34, List.size_toArray, List.length_cons, List.length_nil, Nat.reduceAdd, Nat.reduceSub, Array.replicate_succ, Array.replicate_zero, List.push_toArray, List.append_toArray, List.nil_append, List.cons_append]
  gi_wp2_with fail
  refine ⟨trivial, hdd _, (callsIn_wide.2 (iact_any ad N cap ls _ hN hF hN1)).mono ?_⟩
  rintro e w1 ⟨rfl, b1⟩
  obtain ⟨u, hu⟩ : ∃ u, actB N ls = u := ⟨_, rfl⟩
  rw [hu]
  cases u with
  | false =>
    gi_wp2
    exact ⟨_, results_tmp rfl _ _ _, b1, Or.inl ⟨hu, rfl⟩⟩
  | true =>
    obtain ⟨i0, hi, hz0, hz1, hz2⟩ := info_parts Try.infoBool
    obtain ⟨w2, hrun, o2, g2⟩ := run_make_full (P := Try.prog) (w := w1) w1.heap.size 50 4 i0 (.bool false) 1 Try.underlying50 hi hz0 hz1 .i64 .i64 3 (by rw [hz2]; omega) (by unfold maxLen; omega) (Nat.le_refl _)
    have hrun' : (Instr.makeSlice 50 (.int .i64 3) (.int .i64 3)).run Try.prog w1 = .ok (.slice (some ⟨w1.heap.size, 0, none⟩) 3 3) w2 := hrun
    have b2 : Below w1.heap.size w1 w2 := (Below.refl _ _).grown g2 (Nat.le_refl _) (by simp)
    have O2 : OwnBB w2 w1.heap.size (fun _ => false) := by
      rcases o2.2 with ⟨e, _⟩ | ⟨g, cp, cur, hv, hg, hh, hl, hc, hs, ht⟩
      · cases e
      · cases hv
        have hl3 : cur.toList.length = 3 := by rw [Array.length_toList]; omega
        rw [List.take_of_length_le (by omega)] at ht
        have : cur = #[.bool false, .bool false, .bool false] := by
          apply Array.toList_inj.1
          rw [ht]; simpa [Value.cells] using toList_madeCells_one (.bool false) 3
        rw [this] at hh
        exact hh
    clear hrun o2 g2
    gi_wp2_with fail
    have bA : Below w2.heap.size w2 (w2.alloc (.cells #[.slice (some ⟨w1.heap.size, 0, none⟩) 3 3] 50)) := (Below.refl _ _).alloc (Nat.le_refl _) _
    have C3 := Cel.new w2 [.slice (some ⟨w1.heap.size, 0, none⟩) 3 3] 50
    have O3 := O2.below bA
    obtain ⟨w3, hw3⟩ : ∃ w3, w3 = w2.alloc (.cells #[.slice (some ⟨w1.heap.size, 0, none⟩) 3 3] 50) := ⟨_, rfl⟩
    rw [← hw3] at bA C3 O3 ⊢
    have lG := Cel.lt O2
    clear hw3 hrun' O2
    refine ⟨trivial, hdd _, (callsIn_wide.2 (ithrough_any ad N cap w3)).mono ?_⟩
    rintro e w4 ⟨B, rfl, b4, cB⟩
    have C4 := C3.below b4
    have O4 := O3.below b4
    have s2 := b2.size
    have sA := bA.size
    have s4 := b4.size
    have B4 : Below w.heap.size w w4 := ((b1.trans (b2.mono b1.size)).trans (bA.mono (Nat.le_trans b1.size s2))).trans (b4.mono (Nat.le_trans (Nat.le_trans b1.size s2) sA))
    have F4 := hF.below B4
    gi_wp2_with fail
    have s1 := b1.size
    refine wpIn_rows (α := Value × RowM) (gf := 75) (lb := #[.pointer (some ⟨B, 0, none⟩)]) rfl (enters_of Try.func75 (by kernel_rfl) rfl) (encs := fun x => #[x.1]) (fun _ => rfl)
      (fun _ x X => RowFit x.2 ∧ RowX X w4.heap.size x.1 x.2) KpR (fun xs => xs.map Prod.snd = rowsL ls)
      (fun pre X => OwnBB X w1.heap.size (writesR (pre.map Prod.snd)) ∧ Cel X w2.heap.size [.slice (some ⟨w1.heap.size, 0, none⟩) 3 3] 50 ∧ Below w.heap.size w X)
      (fun pre X Y h b => ⟨h.1.below b, h.2.1.below b, h.2.2.trans (b.mono h.2.2.size)⟩)
      (fun pre X l r r' h hl lt => ⟨Cel.loop h.1 hl, h.2.1.loop hl, below_loop h.2.2 (by have := B4.size; omega)⟩) KpR.loop (fun X Y Z => KpR.trans) ⟨O4, C4, B4⟩ ?seq ?round ?done
    case seq =>
      intro l J W hJ hb hJ0 hY
      have e0 : (#[.func (.yield l) #[] #[]] ++ #[.pointer (some ⟨B, 0, none⟩)] : Array Value) = #[.func (.yield l) #[] #[], .pointer (some ⟨B, 0, none⟩)] := rfl
      rw [e0]
      refine (through_any l w4.heap.size (fun rs X => ∃ xs : List (Value × RowM), xs.map Prod.snd = rs ∧ J xs X) (fun rs X Y h b => ?_) (fun m rs v r X h fit rx _ => ?_) B ad N cap ls W (n - 1) hN (F4.below hb) hN1 hu ((cB.below hb).cell 0) hb.size ⟨[], rfl, hJ0⟩).mono ?_
      · obtain ⟨xs, e, j⟩ := h
        exact ⟨xs, e, hJ _ _ _ j b⟩
      · obtain ⟨xs, e, j⟩ := h
        obtain ⟨fn, tmps, assign, body, hy, hR⟩ := hY m xs (v, r) X j ⟨fit, rx⟩
        refine ⟨fn, tmps, assign, body, hy, hR.mono ?_⟩
        rintro e' Y ⟨a, b, c⟩
        exact ⟨a, ⟨xs ++ [(v, r)], by simp [e], b⟩, c⟩
      · rintro e Y ⟨h1, ⟨xs, e1, j⟩, _⟩
        exact ⟨h1, xs, e1, j⟩
    case round =>
      rintro m l pre ⟨v, rm⟩ X r ⟨hO, hC, hB⟩ ⟨fit, rx⟩ hl hlt
      dsimp only at fit rx
      obtain ⟨ga, gc, aa, ac, ta, tc, rfl, f0, f1, f2⟩ := rx
      dsimp only
      gi_wp2_with fail
      have bx : Below X.heap.size X (X.alloc (.cells #[.slice ga rm.guards.length gc, .slice aa rm.adds.length ac, .slice ta rm.tells.length tc, .bool rm.stop] 38)) := (Below.refl _ _).alloc (Nat.le_refl _) _
      have cx := Cel.new X [.slice ga rm.guards.length gc, .slice aa rm.adds.length ac, .slice ta rm.tells.length tc, .bool rm.stop] 38
      have hl1 := (bx.block l (lt_of_block hl)).trans hl
      refine ⟨keeps_below bx, KpR.of bx, ?_⟩
      have O1 : OwnBB _ _ _ := Cel.loop (r' := { r with state := .busy }) (hO.below bx) hl1
      have C1 := Cel.loop (r' := { r with state := .busy }) (hC.below bx) hl1
      have X1 := Cel.loop (r' := { r with state := .busy }) cx hl1
      have k1 : KpR X _ := (KpR.of bx).trans (KpR.loop _ l r { r with state := .busy } hl1)
      have B1 := below_loop (r' := { r with state := .busy }) (hB.trans (bx.mono hB.size)) (l := l) (by have := B4.size; omega)
      obtain ⟨Y, hY⟩ : ∃ Y, Y = (X.alloc (.cells #[.slice ga rm.guards.length gc, .slice aa rm.adds.length ac, .slice ta rm.tells.length tc, .bool rm.stop] 38)).putObj l (.loop { r with state := .busy }) := ⟨_, rfl⟩
      rw [← hY] at O1 C1 X1 k1 B1 ⊢
      clear hY
      have FA : Hid (FormsAt Y aa rm.adds) := f1.at.keepR k1
      have hx1 := X1.cell 1
      have lX := Cel.lt hO
      have la := fit.la
      obtain ⟨A, hA⟩ : ∃ A, A = rm.adds.length := ⟨_, rfl⟩
      have HA : Hid (A = rm.adds.length) := hA
      rw [← hA] at la
      simp only [List.getElem?_cons_succ, List.getElem?_cons_zero] at hx1
      rw [← hA] at hx1
      obtain ⟨wO, hwO⟩ : ∃ wO, wO = writesR (pre.map Prod.snd) := ⟨_, rfl⟩
      have HO : Hid (wO = writesR (pre.map Prod.snd)) := hwO
      rw [← hwO] at O1
      have O1' : OwnBB Y w1.heap.size (fun v => if v < 0 then (wO v || wrF rm v) else wO v) := O1.ext (fun v hv => by simp)
      have lC := C1.lt
      clear O1 hO hC hB cx X1 f0 f1 f2 k1 bx hl1 hA hwO
      gi_wp2_with fail
      gi_loopw [5, 6, 17] (fun _ _ i wr => ∃ u : Nat, u ≤ A ∧ i = .int .i64 u ∧ KeepsFrom w4.heap.size Y wr ∧ KpR Y wr ∧ OwnBB wr w1.heap.size (fun v => if v < u then (wO v || wrF rm v) else wO v) ∧ Cel wr w2.heap.size [.slice (some ⟨w1.heap.size, 0, none⟩) 3 3] 50 ∧ Below w.heap.size w wr) (fun _ _ i _ => A - (intOf i).toNat)
      case atStart => exact ⟨0, Nat.zero_le _, rfl, ⟨Nat.le_refl _, fun k o _ h _ => h⟩, KpR.refl _, O1', C1, B1⟩
      case round =>
        clear O1' C1 B1 hx1
        obtain ⟨u, hu, rfl, kf, kp, o, c, hb⟩ := hrel
        by_cases hlt2 : u < A
        · have hu' : (u : Int) < A := by omega
          have hu3 : (u : Int) < 3 := by omega
          have hu0 : ¬ ((u : Int) < 0) := by omega
          have hF1 := (FA.out.keepR kp) u (by rw [← HA.out]; exact hlt2)
          obtain ⟨b, off, rfl, a', c', ca, cc, c0, c1, c2, iC, iD⟩ := hF1
          have HW : Hid (wrF rm u = !zeroB (rm.adds[u]?.getD ([], [], 0)).1 (rm.adds[u]?.getD ([], [], 0)).2.1 (rm.adds[u]?.getD ([], [], 0)).2.2) := by
            show _ = _
            have hd : decide (u < rm.adds.length) = true := by rw [← HA.out]; simp [hlt2]
            rw [wrF, hd, Bool.true_and, zeroF]
          generalize (rm.adds[u]?.getD ([], [], 0)).1 = C at *
          generalize (rm.adds[u]?.getD ([], [], 0)).2.1 = D at *
          generalize (rm.adds[u]?.getD ([], [], 0)).2.2 = kz at *
          have bz : Below wr.heap.size wr (wr.alloc (.cells #[.slice a' 3 ca, .slice c' 2 cc, .int .i64 kz] 32)) := (Below.refl _ _).alloc (Nat.le_refl _) _
          have fz := Cel.new wr [.slice a' 3 ca, .slice c' 2 cc, .int .i64 kz] 32
          gi_wp2_with fail
          obtain ⟨Z, hZ⟩ : ∃ Z, Z = wr.alloc (.cells #[.slice a' 3 ca, .slice c' 2 cc, .int .i64 kz] 32) := ⟨_, rfl⟩
          rw [← hZ] at bz fz ⊢
          clear hZ c0 c1 c2
          have e0 : Below Z.heap.size Z Z.drew := (Below.refl _ _).drew
          have bz0 : Below wr.heap.size wr Z.drew := bz.trans (e0.mono bz.size)
          have KP : Hid (∀ V, Below wr.heap.size wr V → V.cell? ⟨w2.heap.size, 0, none⟩ = some (.slice (some ⟨w1.heap.size, 0, none⟩) 3 3)) := fun V hV => (c.below hV).cell 0
          have hSS := KP.out _ bz0
          have g0 : Z.drew.cell? ⟨w1.heap.size, u, none⟩ = some (.bool (wO u)) := by
            have := ((o.below bz0).at (v := u) (by omega)).1
            simpa using this
          have q0 := (fz.below e0).cell 0
          have q1 := (fz.below e0).cell 1
          have q2 := (fz.below e0).cell 2
          have s1 := bz.size
          have s2 := kp.size
          refine wpIn_region_R (fun w' => w'.cell? ⟨w2.heap.size, 0, none⟩ = some (.slice (some ⟨w1.heap.size, 0, none⟩) 3 3)) l (by kernel_rfl) (by kernel_rfl) ?_
          cases hold : wO u
          · rw [hold] at g0
            refine wpAnyS_take (i := 0) (v := ?fv0) rfl rfl (by kernel_rfl) (by kernel_rfl) (by kernel_rfl) (fun _ _ _ h => h) (Or.inl ⟨by rfl, ?fy0⟩) (fun _ => rfl) hSS ?_
            case fy0 => (intro wz hSw; (try dsimp only at hSw); go_simp; try (with_reducible rfl))
            refine wpAnyS_take (i := 1) (v := ?fv1) rfl rfl (by kernel_rfl) (by kernel_rfl) (by kernel_rfl) (fun _ _ _ h => h) (Or.inl ⟨by rfl, ?fy1⟩) (fun _ => rfl) hSS ?_
            case fy1 => (intro wz hSw; (try dsimp only at hSw); go_simp; try (with_reducible rfl))
            refine wpAnyS_take (i := 2) (v := ?fv2) rfl rfl (by kernel_rfl) (by kernel_rfl) (by kernel_rfl) (fun _ _ _ h => h) (Or.inl ⟨by rfl, ?fy2⟩) (fun _ => rfl) hSS ?_
            case fy2 => (intro wz hSw; (try dsimp only at hSw); go_simp; try (with_reducible rfl))
            refine wpAnyS_take (i := 3) (v := ?fv3) rfl rfl (by kernel_rfl) (by kernel_rfl) (by kernel_rfl) (fun _ _ _ h => h) (Or.inl ⟨by rfl, ?fy3⟩) (fun _ => rfl) hSS ?_
            case fy3 => (intro wz hSw; (try dsimp only at hSw); go_simp; try (with_reducible rfl))
            refine wpAnyS_one (i := 4) (by kernel_rfl) rfl (fun K hK => ?_)
            go_simp
            refine hK.out _ _ hSS ?_
            clear hK K
            refine wpAnyS_one (i := 5) (by kernel_rfl) rfl (fun K hK => ?_)
            go_simp
            refine hK.out _ _ hSS ?_
            clear hK K
            refine wpAnyS_one (i := 6) (by kernel_rfl) rfl (fun K hK => ?_)
            go_simp
            refine hK.out _ _ hSS ?_
            clear hK K
            refine wpAnyS_one (i := 7) (by kernel_rfl) rfl (fun K hK => ?_)
            rw [if_pos (by kernel_rfl)]
            go_simp
            refine hK.out _ _ hSS ?_
            clear hK K
            refine wpAnyS_one (i := 8) (by kernel_rfl) rfl (fun K hK => ?_)
            rw [if_pos (by kernel_rfl)]
            go_simp
            refine ⟨trivial, hdd _, CallsIn.mono (callsIn_wide.2 (izero0_any _ _ _ _ _ C D _ (iC.below bz0) (iD.below bz0))) ?_⟩
            rintro e wE ⟨rfl, bdE⟩
            have bE : Below wr.heap.size wr wE := bz0.trans (bdE.mono bz0.size)
            (try dsimp only)
            refine hK.out _ _ (KP.out _ bE) ?_
            clear hK K
            refine wpAnyS_one (i := 9) (by kernel_rfl) rfl (fun K hK => ?_)
            rw [if_pos (by kernel_rfl)]
            go_simp
            refine hK.out _ _ (KP.out _ bE) ?_
            clear hK K
            refine wpAnyS_one (i := 10) (by kernel_rfl) rfl (fun K hK => ?_)
            go_simp
            refine hK.out _ _ (KP.out _ bE) ?_
            clear hK K
            refine wpAnyS_one (i := 11) (by kernel_rfl) rfl (fun K hK => ?_)
            go_simp
            refine hK.out _ _ (KP.out _ bE) ?_
            clear hK K
            have V1 : Touch (fun z => z = w1.heap.size) wE (wE.setCell ⟨w1.heap.size, u, none⟩ (.bool (!zeroB C D kz))) := Touch.setCell (S := fun z => z = w1.heap.size) (Touch.refl _ _) rfl _
            have O5 : Hid (OwnBB (wE.setCell ⟨w1.heap.size, u, none⟩ (.bool (!zeroB C D kz))) w1.heap.size (fun v => if v < u + 1 then (wO v || wrF rm v) else wO v)) := ((o.below bE).set (u := u) (by omega) (!zeroB C D kz)).ext (fun v hv => by
              by_cases e : v = u
              · subst e; simp only [if_true, Nat.lt_succ_self]; rw [hold, HW.out]; simp
              · simp only [e, if_false]
                by_cases e2 : v < u
                · rw [if_pos e2, if_pos (by omega)]
                · rw [if_neg e2, if_neg (by omega)])
            have C5 := cel_past (c.below bE) V1 (by omega)
            have KF := (kf.trans (keeps_below bE)).trans (keeps_touch (B := w4.heap.size) V1 (by omega))
            have KPP := (kp.trans (KpR.of bE)).trans ((o.below bE).kpR V1)
            have BB := below_touch (hb.trans (bE.mono hb.size)) V1 (by omega)
            have hS5 : (wE.setCell ⟨w1.heap.size, u, none⟩ (.bool (!zeroB C D kz))).cell? ⟨w2.heap.size, 0, none⟩ = some (.slice (some ⟨w1.heap.size, 0, none⟩) 3 3) := C5.cell 0
            obtain ⟨y0, y1⟩ := (o.below bE).at (v := u) (by omega)
            refine wpAnyS_one (i := 12) (by kernel_rfl) rfl (fun K hK => ?_)
            go_simp
            refine hK.out _ _ hS5 ?_
            clear hK K
            refine wpAnyS_done (by kernel_rfl) ?_ _
            clear g0 q0 q1 q2 y0 y1 hSS KP HW iC iD
            gi_wp2
            go_roundw
            case rel => exact ⟨u + 1, by omega, by go_num, KF, KPP, O5.out, C5, BB⟩
            case measure => simp [intOf]; omega
          · rw [hold] at g0
            refine wpAnyS_take (i := 0) (v := ?tv0) rfl rfl (by kernel_rfl) (by kernel_rfl) (by kernel_rfl) (fun _ _ _ h => h) (Or.inl ⟨by rfl, ?ty0⟩) (fun _ => rfl) hSS ?_
            case ty0 => (intro wz hSw; (try dsimp only at hSw); go_simp; try (with_reducible rfl))
            refine wpAnyS_take (i := 1) (v := ?tv1) rfl rfl (by kernel_rfl) (by kernel_rfl) (by kernel_rfl) (fun _ _ _ h => h) (Or.inl ⟨by rfl, ?ty1⟩) (fun _ => rfl) hSS ?_
            case ty1 => (intro wz hSw; (try dsimp only at hSw); go_simp; try (with_reducible rfl))
            refine wpAnyS_take (i := 2) (v := ?tv2) rfl rfl (by kernel_rfl) (by kernel_rfl) (by kernel_rfl) (fun _ _ _ h => h) (Or.inl ⟨by rfl, ?ty2⟩) (fun _ => rfl) hSS ?_
            case ty2 => (intro wz hSw; (try dsimp only at hSw); go_simp; try (with_reducible rfl))
            refine wpAnyS_take (i := 3) (v := ?tv3) rfl rfl (by kernel_rfl) (by kernel_rfl) (by kernel_rfl) (fun _ _ _ h => h) (Or.inl ⟨by rfl, ?ty3⟩) (fun _ => rfl) hSS ?_
            case ty3 => (intro wz hSw; (try dsimp only at hSw); go_simp; try (with_reducible rfl))
            refine wpAnyS_one (i := 4) (by kernel_rfl) rfl (fun K hK => ?_)
            go_simp
            refine hK.out _ _ hSS ?_
            clear hK K
            refine wpAnyS_one (i := 5) (by kernel_rfl) rfl (fun K hK => ?_)
            go_simp
            refine hK.out _ _ hSS ?_
            clear hK K
            refine wpAnyS_one (i := 6) (by kernel_rfl) rfl (fun K hK => ?_)
            go_simp
            refine hK.out _ _ hSS ?_
            clear hK K
            refine wpAnyS_one (i := 7) (by kernel_rfl) rfl (fun K hK => ?_)
            rw [if_neg (not_true_of (by kernel_rfl))]
            refine ⟨fun _ _ => trivial, hK.out _ _ hSS ?_⟩
            clear hK K
            refine wpAnyS_one (i := 8) (by kernel_rfl) rfl (fun K hK => ?_)
            rw [if_neg (not_true_of (by kernel_rfl))]
            refine ⟨fun _ _ => trivial, hK.out _ _ hSS ?_⟩
            clear hK K
            refine wpAnyS_one (i := 9) (by kernel_rfl) rfl (fun K hK => ?_)
            rw [if_neg (not_true_of (by kernel_rfl))]
            refine ⟨fun _ _ => trivial, hK.out _ _ hSS ?_⟩
            clear hK K
            refine wpAnyS_one (i := 10) (by kernel_rfl) rfl (fun K hK => ?_)
            go_simp
            refine hK.out _ _ hSS ?_
            clear hK K
            refine wpAnyS_one (i := 11) (by kernel_rfl) rfl (fun K hK => ?_)
            go_simp
            refine hK.out _ _ hSS ?_
            clear hK K
            obtain ⟨wE, hE⟩ : ∃ wE, wE = Z.drew := ⟨_, rfl⟩
            have bE : Below wr.heap.size wr wE := by rw [hE]; exact bz0
            rw [← hE]
            clear hE
            have V1 : Touch (fun z => z = w1.heap.size) wE (wE.setCell ⟨w1.heap.size, u, none⟩ (.bool true)) := Touch.setCell (S := fun z => z = w1.heap.size) (Touch.refl _ _) rfl _
            have O5 : Hid (OwnBB (wE.setCell ⟨w1.heap.size, u, none⟩ (.bool true)) w1.heap.size (fun v => if v < u + 1 then (wO v || wrF rm v) else wO v)) := ((o.below bE).set (u := u) (by omega) true).ext (fun v hv => by
              by_cases e : v = u
              · subst e; simp only [if_true, Nat.lt_succ_self]; rw [hold, HW.out]; simp
              · simp only [e, if_false]
                by_cases e2 : v < u
                · rw [if_pos e2, if_pos (by omega)]
                · rw [if_neg e2, if_neg (by omega)])
            have C5 := cel_past (c.below bE) V1 (by omega)
            have KF := (kf.trans (keeps_below bE)).trans (keeps_touch (B := w4.heap.size) V1 (by omega))
            have KPP := (kp.trans (KpR.of bE)).trans ((o.below bE).kpR V1)
            have BB := below_touch (hb.trans (bE.mono hb.size)) V1 (by omega)
            have hS5 : (wE.setCell ⟨w1.heap.size, u, none⟩ (.bool true)).cell? ⟨w2.heap.size, 0, none⟩ = some (.slice (some ⟨w1.heap.size, 0, none⟩) 3 3) := C5.cell 0
            obtain ⟨y0, y1⟩ := (o.below bE).at (v := u) (by omega)
            refine wpAnyS_one (i := 12) (by kernel_rfl) rfl (fun K hK => ?_)
            go_simp
            refine hK.out _ _ hS5 ?_
            clear hK K
            refine wpAnyS_done (by kernel_rfl) ?_ _
            clear g0 q0 q1 q2 y0 y1 hSS KP HW iC iD
            gi_wp2
            go_roundw
            case rel => exact ⟨u + 1, by omega, by go_num, KF, KPP, O5.out, C5, BB⟩
            case measure => simp [intOf]; omega
        · obtain rfl : u = A := by omega
          gi_wp2
          refine ⟨kf, kp, o.ext (fun v hv => ?_), c, hb⟩
          rw [HO.out, List.map_append, writesR, writesR, List.any_append]
          by_cases e : v < u
          · simp [e]
          · have hd : decide (v < rm.adds.length) = false := by rw [← HA.out]; simpa using e
            simp [e, wrF, hd]
    case done =>
      rintro D xs W hD hS ⟨hO, hC, hB⟩ hK
      have hc := hC.cell 0
      gi_wp2
      refine ⟨by simp, .inl ⟨_, _, rfl, run_takeDeferred hK, ?_⟩⟩
      refine ⟨_, results_tmp rfl _ _ _, ?_⟩
      rw [hS] at hO
      exact ⟨below_put hB (by have := B4.size; omega), Or.inr ⟨hu, _, _, rfl, s1, Cel.defer hO hK⟩⟩

theorem icatwrites_any (ad : Option Addr) (N cap : Nat) (ls : List LV) (w : World) (hN : ls.length = N) (hF : LinesG w ad ls) (hN1 : N ≤ 1048576) :
    Calls Try.prog 34 #[.slice ad N cap] w fun e w' => Below w.heap.size w w' ∧ ((actB N ls = false ∧ e = .returned (.slice none 0 0)) ∨ (actB N ls = true ∧ ∃ G cG, e = .returned (.slice (some ⟨G, 0, none⟩) 3 cG) ∧ w.heap.size ≤ G ∧ OwnBB w' G (writesR (rowsL ls)))) :=
  callsIn_wide.1 (icatwrites_in ad N cap ls w 0 hN hF hN1)

end Go.Proofs.Ytngfbcegcekbbaa
namespace Go.Proofs.Ytngfbcegcekbbaa
open Go.RowKit
set_option linter.unusedVariables false
set_option maxRecDepth 100000

theorem dot_zeros {xs : List Int} (h : ∀ i : Nat, xs[i]?.getD 0 = 0) (V : List Int) : ∀ k, dot xs V k = 0
  | 0 => rfl
  | k + 1 => by simp only [dot, dot_zeros h V k, h k]; omega
theorem allB0_get {xs : List Int} (h : allB 0 xs = true) (i : Nat) : xs[i]?.getD 0 = 0 := by
  rw [allB0] at h
  have h' := of_decide_eq_true h
  rw [h']
  by_cases hi : i < xs.length
  · rw [List.getElem?_replicate, if_pos hi]; rfl
  · rw [List.getElem?_replicate, if_neg hi]; rfl
theorem atX_zero {V U : List Int} {f : Frm} (h : zeroF f = true) : atX V U f = 0 := by
  unfold zeroF zeroB at h
  simp only [Bool.and_eq_true, beq_iff_eq] at h
  unfold atX atV
  rw [dot_zeros (allB0_get h.1.1), dot_zeros (allB0_get h.1.2), h.2]
  rfl
theorem wr_stays {V U : List Int} {r : RowM} {v : Nat} (h : wrF r v = false) : atX V U (r.adds[v]?.getD noX) = 0 := by
  unfold wrF at h
  by_cases hv : v < r.adds.length
  · rw [decide_eq_true hv, Bool.true_and] at h
    exact atX_zero (by simpa [noX] using h)
  · rw [List.getElem?_eq_none (by omega)]
    simp [noX, atX, atV, dot]
theorem rowEnd_at {V U : List Int} {r : RowM} {v : Nat} (hv : v < 3) : (rowEnd V U r)[v]?.getD 0 = V[v]?.getD 0 + atX V U (r.adds[v]?.getD noX) := by
  match v, hv with
  | 0, _ => rfl
  | 1, _ => rfl
  | 2, _ => rfl
theorem runB_three {N : Nat} {ls : List LV} {p : Nat} {V : List Int} {q : Nat} {U : List Int} (h : runB N ls p V q U = true) : p = 3 ∧ q = 2 ∧ ls.all LV.ok = true ∧ actB N ls = true := by
  unfold runB at h
  simp only [Bool.and_eq_true] at h
  have h1 := (okN_elim (by omega) h.1.2).1
  have h2 := (okN_elim (by omega) h.2).1
  exact ⟨by omega, by omega, (actB_six h.1.1).2, h.1.1⟩
theorem pots_three {N : Nat} {ls : List LV} {p : Nat} {V : List Int} {q : Nat} {U : List Int} (h : runB N ls p V q U = true) (hV : V.length = p) : (runPots N ls p V q U).length = 3 := by
  have h3 := (runB_three h).1
  have hg := (goL_len U ls 7 0 V []).1
  unfold runPots
  rw [if_pos h]
  split
  · omega
  · unfold endPots
    split
    · unfold runL; omega
    · omega
theorem writes_not {N : Nat} {ls : List LV} {p : Nat} {V : List Int} {q : Nat} {U : List Int} {v : Nat} (h : runB N ls p V q U = true) (hV : V.length = p) (hD : ∀ k, k < ls.length → (ls[k]?.getD noLV).f.D.length = (ls[k]?.getD noLV).f.m) (hv : v < 3) (hw : writesR (rowsL ls) v = false) : (runPots N ls p V q U)[v]?.getD 0 = V[v]?.getD 0 := by
  obtain ⟨h3, _, hall, _⟩ := runB_three h
  obtain ⟨r, hr, hf⟩ := runL_way (V := V) (U := U) (by omega) hall hD
  have hm : r ∈ rowsL ls := (List.mem_filter.1 (by rw [hr]; simp)).1
  have hwr : wrF r v = false := by
    unfold writesR at hw
    rw [List.any_eq_false] at hw
    simpa using hw r hm
  unfold runPots
  rw [if_pos h, hf.st]
  cases hs : r.stop
  · simp only [Bool.false_eq_true, if_false]
    rw [(hf.ad hs).1]
    unfold endPots
    split
    · rw [rowEnd_at hv, wr_stays hwr]; omega
    · rfl
  · rfl

/-- Truth values of pots, or none. -/
structure Bo (W : World) (a : Option Addr) (n : Nat) (f : Nat → Bool) : Prop where
  n3 : n ≤ 3
  c : 0 < n → ∃ G, a = some ⟨G, 0, none⟩ ∧ ∀ v, v < 3 → W.cell? ⟨G, v, none⟩ = some (.bool (f v))
theorem Bo.below {W W' : World} {a : Option Addr} {n : Nat} {f : Nat → Bool} (h : Bo W a n f) (b : Below W.heap.size W W') : Bo W' a n f := ⟨h.n3, fun h0 => by
  obtain ⟨G, e, hc⟩ := h.c h0
  exact ⟨G, e, fun v hv => by rw [b.cell (p := ⟨G, v, none⟩) (block_lt (hc v hv))]; exact hc v hv⟩⟩
set_option maxHeartbeats 1600000 in
theorem coB_any (a c : Option Addr) (n cap cap' : Nat) (f : Nat → Bool) (w : World) (h : Bo w a n f) (h' : Bo w c n f) :
    Calls Try.prog 27 #[.slice a n cap, .slice c n cap'] w fun e w' => e = .returned (.bool true) ∧ Below w.heap.size w w' := by
  have hn3 := h.n3
  go_enter Try.func27, Try.ntmps27
  go_wp2_with fail
  go_loopw [5] (fun i wr => ∃ k : Nat, k ≤ n ∧ i = .int .i64 k ∧ Below w.heap.size w wr) (fun i _ => n - (intOf i).toNat)
  case atStart => exact ⟨0, Nat.zero_le _, rfl, Below.refl _ _⟩
  case round =>
    obtain ⟨k, hk, rfl, hnx⟩ := hrel
    by_cases hlt : k < n
    · obtain ⟨G, rfl, hc⟩ := (h.below hnx).c (by omega)
      obtain ⟨G', rfl, hc'⟩ := (h'.below hnx).c (by omega)
      have hck := hc k (by omega)
      have hck' := hc' k (by omega)
      have hlt' : (k : Int) < (n : Int) := by omega
      clear hc hc' h h'
      generalize f k = x at hck hck'
      have hx : (x != x) = false := by cases x <;> rfl
      go_wp2_with fail
      go_quiet (fail)
      go_wp2
      go_roundw
      case rel => exact ⟨k + 1, by omega, by go_num, below_drewN hnx _⟩
      case measure => simp [intOf]; omega
    · have hlt' : ¬ (k : Int) < (n : Int) := by omega
      go_wp2
      go_ret
      exact ⟨rfl, hnx⟩
theorem OwnBB.bo {W : World} {G : Nat} {f : Nat → Bool} (h : OwnBB W G f) : Bo W (some ⟨G, 0, none⟩) 3 f := ⟨Nat.le_refl _, fun _ => ⟨G, rfl, fun v hv => (h.at hv).1⟩⟩
theorem Bo.none (W : World) (a : Option Addr) (f : Nat → Bool) : Bo W a 0 f := ⟨by omega, fun h => by omega⟩
def mulN (b : Bool) : Nat := if b then 3 else 0
/-- Both answers of CatWrites, said alike. -/
def BoM (w w' : World) (e : Ending) (t : Bool) (f : Nat → Bool) : Prop := ∃ a n c, e = .returned (.slice a n c) ∧ n = mulN t ∧ Bo w' a n f ∧ Below w.heap.size w w'
theorem qWrites (ad : Option Addr) (N cap : Nat) (ls : List LV) (w : World) (hN : ls.length = N) (hF : LinesG w ad ls) (hN1 : N ≤ 1048576) :
    Calls Try.prog 35 #[.slice ad N cap] w fun e w' => BoM w w' e (actB N ls) (writesR (rowsL ls)) :=
  (scatwrites_any ad N cap ls w hN hF hN1).mono fun e w' h => by
    obtain ⟨b, ⟨hA, G, he⟩ | ⟨hA, G, cG, he, _, ho⟩⟩ := h
    · exact ⟨_, _, _, he, by rw [hA]; rfl, Bo.none _ _ _, b⟩
    · exact ⟨_, _, _, he, by rw [hA]; rfl, ho.bo, b⟩

theorem pWrites (ad : Option Addr) (N cap : Nat) (ls : List LV) (w : World) (hN : ls.length = N) (hF : LinesG w ad ls) (hN1 : N ≤ 1048576) :
    Calls Try.prog 34 #[.slice ad N cap] w fun e w' => BoM w w' e (actB N ls) (writesR (rowsL ls)) :=
  (icatwrites_any ad N cap ls w hN hF hN1).mono fun e w' h => by
    obtain ⟨b, ⟨hA, he⟩ | ⟨hA, G, cG, he, _, ho⟩⟩ := h
    · exact ⟨_, _, _, he, by rw [hA]; rfl, Bo.none _ _ _, b⟩
    · exact ⟨_, _, _, he, by rw [hA]; rfl, ho.bo, b⟩

end Go.Proofs.Ytngfbcegcekbbaa
