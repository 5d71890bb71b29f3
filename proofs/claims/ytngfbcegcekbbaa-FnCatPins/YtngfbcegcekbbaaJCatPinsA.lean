/-
  Lemmas that the claim's last text rests on: RowDoI, RowDoS, MarkS2, ResL, RunL, RunS, Leave, Leave2, Stops, RunI, FvL, RunC, RunW, Copy, Minus, RowEnd, WalkL, IntoW, Put, Walk, RowsS.
-/
import Derived.Test.YtngfbcegcekbbaaDo
import Derived.Test.YtngfbcegcekbbaaSum5
import Derived.Test.YtngfbcegcekbbaaMade
import Derived.Test.YtngfbcegcekbbaaAct
import Derived.Test.YtngfbcegcekbbaaKeyed
import Derived.Deep.DeepCutAuto
import Derived.Deep.RegionHeld3
import Derived.Laws.Pointers
import Derived.Defers
import Derived.Recover
import Derived.Test.YtngfbcegcekbbaaFvC
import Derived.Test.YtngfbcegcekbbaaWays
import Derived.Test.YtngfbcegcekbbaaPots
namespace Go.Proofs.Ytngfbcegcekbbaa
open Go.RowKit
set_option linter.unusedVariables false
set_option maxRecDepth 100000

theorem BX.touch {S : Nat → Prop} {w W W' : World} {B : Nat} {la : List Value} {ty : TypeId} (h : BX w B la ty W) (t : Touch S W W') (hs : ∀ k, S k → w.heap.size ≤ k) (hn : ¬ S B) : BX w B la ty W' :=
  ⟨h.p.touch t hn, h.b.trans (t.below h.b.size hs)⟩

/-- All that is asked for is ok. -/
def doB (gs ls ts : List FV) (A T : Nat) (st : Bool) (p q : Nat) (V U : List Int) : Bool := rowB gs ls ts A T st && okN 3 10000 p V && okN 2 9 q U
/-- What the pots would have. -/
def doX (ls : List FV) (V U : List Int) : List Int := List.zipWith (· + ·) V (ls.map (atF V U))
def doCode (gs ls ts : List FV) (A T : Nat) (st : Bool) (p q : Nat) (V U : List Int) : Int := if doB gs ls ts A T st p q V U then (if st then 2 else endCode (doX ls V U)) else 0
def doTells (gs ls ts : List FV) (A T : Nat) (st : Bool) (p q : Nat) (V U : List Int) : List Int := if doB gs ls ts A T st p q V U then (if st then [] else endTells (doX ls V U) (ts.map (atF V U))) else []
def doPots (gs ls ts : List FV) (A T : Nat) (st : Bool) (p q : Nat) (V U : List Int) : List Int := if doB gs ls ts A T st p q V U then (if st then V else endPots V (doX ls V U)) else []
theorem do_no {gs ls ts : List FV} {A T : Nat} {st : Bool} {p q : Nat} {V U : List Int} (h : doB gs ls ts A T st p q V U = false) : doCode gs ls ts A T st p q V U = 0 ∧ doTells gs ls ts A T st p q V U = [] ∧ doPots gs ls ts A T st p q V U = [] := by
  simp [doCode, doTells, doPots, h]
theorem do_stop {gs ls ts : List FV} {A T : Nat} {p q : Nat} {V U : List Int} (h : doB gs ls ts A T true p q V U = true) : doCode gs ls ts A T true p q V U = 2 ∧ doTells gs ls ts A T true p q V U = [] ∧ doPots gs ls ts A T true p q V U = V := by
  simp [doCode, doTells, doPots, h]
theorem do_go {gs ls ts : List FV} {A T : Nat} {p q : Nat} {V U : List Int} (h : doB gs ls ts A T false p q V U = true) : doCode gs ls ts A T false p q V U = endCode (doX ls V U) ∧ doTells gs ls ts A T false p q V U = endTells (doX ls V U) (ts.map (atF V U)) ∧ doPots gs ls ts A T false p q V U = endPots V (doX ls V U) := by
  simp [doCode, doTells, doPots, h]
theorem rowB_three {gs ls ts : List FV} {A T : Nat} (h : rowB gs ls ts A T false = true) : A = 3 := by
  simp only [rowB, Bool.and_eq_true] at h
  have := h.2
  simp at this
  omega
theorem Cel.pair {w : World} {B : Nat} {x y : Value} {t : TypeId} (h : Cel w B [x, y] t) : w.cell? ⟨B, 0, none⟩ = some x ∧ w.cell? ⟨B, 1, none⟩ = some y ∧ w.frozen? ⟨B, 0, none⟩ = false ∧ w.frozen? ⟨B, 1, none⟩ = false := ⟨h.cell 0, h.cell 1, h.free 0, h.free 1⟩

end Go.Proofs.Ytngfbcegcekbbaa
namespace Go.Proofs.Ytngfbcegcekbbaa
open Go.RowKit
set_option linter.unusedVariables false
set_option maxRecDepth 100000

end Go.Proofs.Ytngfbcegcekbbaa
namespace Go.Proofs.Ytngfbcegcekbbaa
open Go.RowKit
set_option linter.unusedVariables false

/-- While they are marked: the block's slices stand; the lists from k on are as they were made. -/
structure MK2 (W : World) (B N s k : Nat) (gs : List FV) (p q : Nat → Nat) (wr : World) : Prop where
  c : ∃ cur : Array Value, wr.heap[B]? = some (.cells cur 32 (0, 0)) ∧ cur.size = N * 3 ∧ ∀ i, i < N → cur[i * 3]? = some (.slice (gs[i]?.getD noFV).a (gs[i]?.getD noFV).n (gs[i]?.getD noFV).cap) ∧ cur[i * 3 + 1]? = some (.slice (gs[i]?.getD noFV).c (gs[i]?.getD noFV).m (gs[i]?.getD noFV).cap')
  o : ∀ i, k ≤ i → i < N → Blk wr (p i) (gs[i]?.getD noFV).C ∧ Blk wr (q i) (gs[i]?.getD noFV).D
  t : Touch (fun x => B ≤ x ∧ x < s) W wr

end Go.Proofs.Ytngfbcegcekbbaa
namespace Go.Proofs.Ytngfbcegcekbbaa
open Go.RowKit
set_option linter.unusedVariables false
set_option maxRecDepth 100000

end Go.Proofs.Ytngfbcegcekbbaa
namespace Go.Proofs.Ytngfbcegcekbbaa
open Go.RowKit
set_option linter.unusedVariables false
set_option maxRecDepth 100000

set_option maxHeartbeats 800000 in
theorem iatG_any (a : Option Addr) (cap : Nat) (c : Option Addr) (cap' : Nat) (K : Int) (C D : List Int) (v : Option Addr) (cv : Nat) (u : Option Addr) (cu : Nat) (V A : List Int) (w : World)
    (hC : Ints w a 3 C) (hD : Ints w c 2 D) (hV : Ints w v 3 V) (hA : Ints w u 2 A) (P Q : Int) (p1 : bndP P C V) (p2 : bndP Q D A) (zP : 0 ≤ P) (zQ : 0 ≤ Q) (tP : P ≤ 100000000000) (tQ : Q ≤ 100000000000) (bK : -10000000 ≤ K ∧ K ≤ 10000000) :
    Calls Try.prog 67 #[formV a 3 cap c 2 cap' K, .slice v 3 cv, .slice u 2 cu] w fun e w' => e = .returned (.int .i64 (atV C D K V A)) ∧ Below w.heap.size w w' := by
  have d1 := dot_bnd p1 3
  have d2 := dot_bnd p2 2
  obtain ⟨K1, K2⟩ := bK
  have q1 : ∀ w' : World, Below w.heap.size w w' → Calls Try.prog 95 #[.slice a 3 cap, .slice v 3 cv] w' fun e w'' => e = .returned (.int .i64 (dot C V 3)) ∧ w'' = w' := fun w' hb => psum_any _ _ _ _ _ C V _ _ (hC.below hb) (hV.below hb) (by omega) p1 (by omega) (by omega)
  have q2 : ∀ w' : World, Below w.heap.size w w' → Calls Try.prog 95 #[.slice c 2 cap', .slice u 2 cu] w' fun e w'' => e = .returned (.int .i64 (dot D A 2)) ∧ w'' = w' := fun w' hb => psum_any _ _ _ _ _ D A _ _ (hD.below hb) (hA.below hb) (by omega) p2 (by omega) (by omega)
  have Q1 : Hid _ := q1
  have Q2 : Hid _ := q2
  obtain ⟨X, hX⟩ : ∃ X, X = dot C V 3 := ⟨_, rfl⟩
  obtain ⟨Y, hY⟩ : ∃ Y, Y = dot D A 2 := ⟨_, rfl⟩
  have e1 : -1000000000000 ≤ dot C V 3 := by omega
  have e2 : dot C V 3 ≤ 1000000000000 := by omega
  have e3 : -1000000000000 ≤ dot D A 2 := by omega
  have e4 : dot D A 2 ≤ 1000000000000 := by omega
  clear d1 d2 q1 q2 hX hY X Y p1 p2 zP zQ tP tQ hC hD hV hA
  go_enter Try.func67, Try.ntmps67
  go_wp2_with fail
  go_quiet (first | (go_at_call_of 95 (Value.slice a 3 cap); exact Calls.quiet_of_same (Q1.out _ (by repeat (first | exact (Below.refl _ _).alloc (Nat.le_refl _) _ | refine below_drewN ?_ _ | refine Below.drew ?_)))) | (go_at_call_of 95 (Value.slice c 2 cap'); exact Calls.quiet_of_same (Q2.out _ (by repeat (first | exact (Below.refl _ _).alloc (Nat.le_refl _) _ | refine below_drewN ?_ _ | refine Below.drew ?_)))))
  go_wp2
  go_ret
  exact ⟨rfl, below_drewN ((Below.refl _ _).alloc (Nat.le_refl _) _) _⟩

/-- How great a pot may be behind so many lines. -/
def bd : Nat → Int
  | 0 => 10000
  | n + 1 => 7 * bd n + 56
theorem bd_pos : ∀ n, 10000 ≤ bd n
  | 0 => by simp [bd]
  | n + 1 => by have := bd_pos n; simp only [bd]; omega
theorem bd_succ (n : Nat) : bd n ≤ bd (n + 1) := by have := bd_pos n; simp only [bd]; omega
theorem bd_mono {n m : Nat} (h : n ≤ m) : bd n ≤ bd m := by
  induction h with
  | refl => exact Int.le_refl _
  | step _ ih => exact Int.le_trans ih (bd_succ _)
theorem bd_six {n : Nat} (h : n ≤ 6) : bd n ≤ 2000000000 := Int.le_trans (bd_mono h) (by simp [bd])
theorem bnd_mono {M M' : Int} {zs : List Int} (h : bnd M zs) (hM : M ≤ M') : bnd M' zs := fun i => by have := h i; omega
theorem small_elim {n m : Nat} {C D : List Int} {K : Int} (h : smallB n m C D K = true) : n = 3 ∧ m = 2 ∧ bnd 2 C ∧ bnd 2 D ∧ -20 ≤ K ∧ K ≤ 20 := by
  simp only [smallB, Bool.and_eq_true] at h
  obtain ⟨⟨h1, h2⟩, h3⟩ := h
  obtain ⟨e1, b1⟩ := okN_elim (by omega) h1
  obtain ⟨e2, b2⟩ := okN_elim (by omega) h2
  have := inB_iff.1 h3
  exact ⟨by omega, by omega, b1, b2, this.1, this.2⟩
/-- A small form is not much greater than the pots are. -/
theorem small_at {C D V U : List Int} {K M : Int} (bC : bnd 2 C) (bD : bnd 2 D) (k1 : -20 ≤ K) (k2 : K ≤ 20) (bV : bnd M V) (bU : bnd 9 U) (hM : 0 ≤ M) : bndP (2 * M) C V ∧ bndP 18 D U ∧ -(6 * M + 56) ≤ atV C D K V U ∧ atV C D K V U ≤ 6 * M + 56 := by
  have p1 := bndP_of bC bV (by omega) hM
  have p2 := bndP_of bD bU (by omega) (by omega)
  have d1 := dot_bnd p1 3
  have d2 := dot_bnd p2 2
  refine ⟨p1, p2, ?_, ?_⟩ <;> unfold atV <;> omega
theorem bnd_set {M : Int} {x : List Int} {k : Nat} {v : Int} (h : bnd M x) (h1 : -M ≤ v) (h2 : v ≤ M) : bnd M (x.set k v) := fun i => by
  by_cases e : i = k
  · subst e
    by_cases hi : i < x.length
    · rw [List.getElem?_set_self hi]; simp; omega
    · rw [List.getElem?_eq_none (by simp; omega)]
      have := h i
      simp
      omega
  · rw [List.getElem?_set_ne (by omega)]; exact h i

/-- The run of an act: whether it stopped, the pots, what was told; i: the line, f: how many steps at most. -/
def goL (U : List Int) (ls : List LV) : Nat → Nat → List Int → List Int → Bool × List Int × List Int
  | 0, _, x, tl => (false, x, tl)
  | f + 1, i, x, tl =>
    if i < ls.length then
      if (ls[i]?.getD noLV).kind = 1 then goL U ls f (if atF x U (ls[i]?.getD noLV).f < 0 then i + 1 + (ls[i]?.getD noLV).skip.toNat else i + 1) x tl
      else if (ls[i]?.getD noLV).kind = 2 then goL U ls f (i + 1) (x.set (ls[i]?.getD noLV).pot.toNat (x[(ls[i]?.getD noLV).pot.toNat]?.getD 0 + atF x U (ls[i]?.getD noLV).f)) tl
      else if (ls[i]?.getD noLV).kind = 3 then goL U ls f (i + 1) x (tl ++ [atF x U (ls[i]?.getD noLV).f])
      else (true, x, tl)
    else (false, x, tl)
theorem goL_end {U : List Int} {ls : List LV} {f i : Nat} {x tl : List Int} (h : ls.length ≤ i) : goL U ls f i x tl = (false, x, tl) := by
  cases f with
  | zero => rfl
  | succ f => rw [goL, if_neg (by omega)]
theorem goL_one {U : List Int} {ls : List LV} {f i : Nat} {x tl : List Int} {g : LV} (h : i < ls.length) (hf : 0 < f) (hg : ls[i]?.getD noLV = g) : goL U ls f i x tl = (if g.kind = 1 then goL U ls (f - 1) (if atF x U g.f < 0 then i + 1 + g.skip.toNat else i + 1) x tl else if g.kind = 2 then goL U ls (f - 1) (i + 1) (x.set g.pot.toNat (x[g.pot.toNat]?.getD 0 + atF x U g.f)) tl else if g.kind = 3 then goL U ls (f - 1) (i + 1) x (tl ++ [atF x U g.f]) else (true, x, tl)) := by
  obtain ⟨n, rfl⟩ : ∃ n, f = n + 1 := ⟨f - 1, by omega⟩
  rw [goL, if_pos h, hg]; rfl
/-- The whole run. -/
def runL (U : List Int) (ls : List LV) (V : List Int) : Bool × List Int × List Int := goL U ls 7 0 V []
/-- Where a run stands. -/
structure At (U : List Int) (ls : List LV) (V : List Int) (i : Nat) (x tl : List Int) : Prop where
  r : ∃ f, 7 ≤ i + f ∧ runL U ls V = goL U ls f i x tl
  b : i ≤ 6 → bnd (bd i) x
  l : x.length = 3
  t : tl.length ≤ i
theorem At.start {U : List Int} {ls : List LV} {V : List Int} (h : bnd 10000 V) (hl : V.length = 3) : At U ls V 0 V [] := ⟨⟨7, by omega, rfl⟩, fun _ => h, hl, Nat.le_refl _⟩
theorem At.done {U : List Int} {ls : List LV} {V : List Int} {i : Nat} {x tl : List Int} (h : At U ls V i x tl) (hi : ls.length ≤ i) : runL U ls V = (false, x, tl) := by
  obtain ⟨f, _, e⟩ := h.r
  rw [e, goL_end hi]
theorem At.one {U : List Int} {ls : List LV} {V : List Int} {i : Nat} {x tl : List Int} {g : LV} (h : At U ls V i x tl) (hi : i < ls.length) (h6 : ls.length ≤ 6) (hg : ls[i]?.getD noLV = g) : ∃ f, 7 ≤ (i + 1) + f ∧ runL U ls V = (if g.kind = 1 then goL U ls f (if atF x U g.f < 0 then i + 1 + g.skip.toNat else i + 1) x tl else if g.kind = 2 then goL U ls f (i + 1) (x.set g.pot.toNat (x[g.pot.toNat]?.getD 0 + atF x U g.f)) tl else if g.kind = 3 then goL U ls f (i + 1) x (tl ++ [atF x U g.f]) else (true, x, tl)) := by
  obtain ⟨f, h1, e⟩ := h.r
  exact ⟨f - 1, by omega, by rw [e, goL_one hi (by omega) hg]⟩
theorem At.skip {U : List Int} {ls : List LV} {V : List Int} {i j : Nat} {x tl : List Int} {g : LV} (h : At U ls V i x tl) (hi : i < ls.length) (h6 : ls.length ≤ 6) (hg : ls[i]?.getD noLV = g) (hk : g.kind = 1) (hj : j = if atF x U g.f < 0 then i + 1 + g.skip.toNat else i + 1) : At U ls V j x tl := by
  obtain ⟨f, h1, e⟩ := h.one hi h6 hg
  rw [if_pos hk, ← hj] at e
  have hij : i + 1 ≤ j := by rw [hj]; split <;> omega
  have ht := h.t
  exact ⟨⟨f, by omega, e⟩, fun h => bnd_mono (‹At U ls V i x tl›.b (by omega)) (bd_mono (by omega)), h.l, by omega⟩
theorem At.add {U : List Int} {ls : List LV} {V : List Int} {i : Nat} {x tl : List Int} {g : LV} (h : At U ls V i x tl) (hi : i < ls.length) (h6 : ls.length ≤ 6) (hg : ls[i]?.getD noLV = g) (hk : g.kind = 2) (h1 : -(6 * bd i + 56) ≤ atF x U g.f) (h2 : atF x U g.f ≤ 6 * bd i + 56) : At U ls V (i + 1) (x.set g.pot.toNat (x[g.pot.toNat]?.getD 0 + atF x U g.f)) tl := by
  obtain ⟨f, h3, e⟩ := h.one hi h6 hg
  rw [if_neg (by omega), if_pos hk] at e
  have ht := h.t
  refine ⟨⟨f, by omega, e⟩, fun _ => ?_, by rw [List.length_set]; exact h.l, by omega⟩
  have hb := h.b (by omega)
  have := hb g.pot.toNat
  have hp := bd_pos i
  exact bnd_set (bnd_mono hb (bd_succ i)) (by simp only [bd]; omega) (by simp only [bd]; omega)
theorem At.tell {U : List Int} {ls : List LV} {V : List Int} {i : Nat} {x tl : List Int} {g : LV} (h : At U ls V i x tl) (hi : i < ls.length) (h6 : ls.length ≤ 6) (hg : ls[i]?.getD noLV = g) (hk : g.kind = 3) : At U ls V (i + 1) x (tl ++ [atF x U g.f]) := by
  obtain ⟨f, h3, e⟩ := h.one hi h6 hg
  rw [if_neg (by omega), if_neg (by omega), if_pos hk] at e
  have ht := h.t
  exact ⟨⟨f, by omega, e⟩, fun _ => bnd_mono (h.b (by omega)) (bd_succ i), h.l, by rw [List.length_append]; simp; omega⟩
theorem At.stop {U : List Int} {ls : List LV} {V : List Int} {i : Nat} {x tl : List Int} {g : LV} (h : At U ls V i x tl) (hi : i < ls.length) (h6 : ls.length ≤ 6) (hg : ls[i]?.getD noLV = g) (h1 : ¬ g.kind = 1) (h2 : ¬ g.kind = 2) (h3 : ¬ g.kind = 3) : (runL U ls V).1 = true := by
  obtain ⟨f, _, e⟩ := h.one hi h6 hg
  rw [if_neg h1, if_neg h2, if_neg h3] at e
  rw [e]

end Go.Proofs.Ytngfbcegcekbbaa
namespace Go.Proofs.Ytngfbcegcekbbaa
open Go.RowKit
set_option linter.unusedVariables false
set_option maxRecDepth 100000

/-- All that is asked for is ok. -/
def runB (N : Nat) (ls : List LV) (p : Nat) (V : List Int) (q : Nat) (U : List Int) : Bool := actB N ls && okN 3 10000 p V && okN 2 9 q U
def runCode (N : Nat) (ls : List LV) (p : Nat) (V : List Int) (q : Nat) (U : List Int) : Int := if runB N ls p V q U then (if (runL U ls V).1 then 2 else endCode (runL U ls V).2.1) else 0
def runTells (N : Nat) (ls : List LV) (p : Nat) (V : List Int) (q : Nat) (U : List Int) : List Int := if runB N ls p V q U then (if (runL U ls V).1 then [] else endTells (runL U ls V).2.1 (runL U ls V).2.2) else []
def runPots (N : Nat) (ls : List LV) (p : Nat) (V : List Int) (q : Nat) (U : List Int) : List Int := if runB N ls p V q U then (if (runL U ls V).1 then V else endPots V (runL U ls V).2.1) else []
theorem run_no {N : Nat} {ls : List LV} {p : Nat} {V : List Int} {q : Nat} {U : List Int} (h : runB N ls p V q U = false) : runCode N ls p V q U = 0 ∧ runTells N ls p V q U = [] ∧ runPots N ls p V q U = [] := by
  simp [runCode, runTells, runPots, h]
theorem run_stop {N : Nat} {ls : List LV} {p : Nat} {V : List Int} {q : Nat} {U : List Int} (h : runB N ls p V q U = true) (hs : (runL U ls V).1 = true) : runCode N ls p V q U = 2 ∧ runTells N ls p V q U = [] ∧ runPots N ls p V q U = V := by
  simp [runCode, runTells, runPots, h, hs]
theorem run_go {N : Nat} {ls : List LV} {p : Nat} {V : List Int} {q : Nat} {U : List Int} {x tl : List Int} (h : runB N ls p V q U = true) (hs : runL U ls V = (false, x, tl)) : runCode N ls p V q U = endCode x ∧ runTells N ls p V q U = endTells x tl ∧ runPots N ls p V q U = endPots V x := by
  simp [runCode, runTells, runPots, h, hs]
theorem actB_six {N : Nat} {ls : List LV} (h : actB N ls = true) : N ≤ 6 ∧ ls.all LV.ok = true := by
  simp only [actB, Bool.and_eq_true, decide_eq_true_eq] at h
  exact ⟨by omega, h.1.2⟩
theorem allL_at {ls : List LV} {k : Nat} (h : ls.all LV.ok = true) (hk : k < ls.length) : (ls[k]?.getD noLV).ok = true := by
  rw [List.getElem?_eq_getElem hk]
  exact List.all_eq_true.1 h _ (List.getElem_mem hk)
theorem line_one {pot skip : Int} {n m : Nat} {C D : List Int} {K : Int} (h : lineB 1 pot skip n m C D K = true) : 1 ≤ skip ∧ skip ≤ 6 ∧ smallB n m C D K = true := by
  simp [lineB] at h
  have := inB_iff.1 h.1.2
  exact ⟨this.1, this.2, h.2⟩
theorem line_two {pot skip : Int} {n m : Nat} {C D : List Int} {K : Int} (h : lineB 2 pot skip n m C D K = true) : 0 ≤ pot ∧ pot < 3 ∧ smallB n m C D K = true := by
  simp [lineB] at h
  have := inB_iff.1 h.1.1
  exact ⟨this.1, by omega, h.2⟩
theorem line_three {pot skip : Int} {n m : Nat} {C D : List Int} {K : Int} (h : lineB 3 pot skip n m C D K = true) : smallB n m C D K = true := by
  simp [lineB] at h
  exact h.2
theorem JA.rebase {w w1 W : World} {v : Value} {xs : List Int} (j : JA w1 v xs W) (b : Below w.heap.size w w1) : JA w v xs W := by
  refine ⟨b.trans (j.b.mono b.size), j.o.1, ?_⟩
  have := b.size
  rcases j.o.2 with h2 | ⟨g, cap, cur, hv, hg, r⟩
  · exact Or.inl h2
  · exact Or.inr ⟨g, cap, cur, hv, by omega, r⟩
theorem JA.set {w W : World} {v : Value} {xs : List Int} (j : JA w v xs W) {B : Nat} (hB : w.heap.size ≤ B) (ne : v.ownBlock ≠ some B) (i : Nat) (y : Value) : JA w v xs (W.setCell ⟨B, i, none⟩ y) := by
  refine ⟨j.b.setCell hB _, j.o.1, ?_⟩
  rcases j.o.2 with h2 | ⟨g, cap, cur, hv, hg, hh, r⟩
  · exact Or.inl h2
  · refine Or.inr ⟨g, cap, cur, hv, hg, ?_, r⟩
    have hne : g ≠ B := fun e => ne (by rw [hv, e]; rfl)
    rw [Below.heap_setCell _ _ _ _ hne]; exact hh
/-- x lies apart from a list that has been appended to. -/
theorem OwnX.grown {W W' : World} {a : Option Addr} {B n : Nat} {zs : List Int} {row : Option Nat} {o : Obj} (h : OwnX W a B n zs) (hg : (W.alloc o).grownBy W' row) (hne : row ≠ some B) : OwnX W' a B n zs := by
  refine ⟨h.1, ?_⟩
  rcases h.2 with h0 | ⟨e, cur, hc, hv⟩
  · exact .inl h0
  · refine .inr ⟨e, cur, ?_, hv⟩
    have hl := hc.lt
    have h1 : Cel (W.alloc o) B cur 3 := hc.alloc o
    unfold Cel at *
    rw [hg.block B (by rw [World.size_alloc]; omega) (fun e => hne e.symm)]; exact h1
theorem Cel.grown {W W' : World} {B : Nat} {vs : List Value} {t : TypeId} {row : Option Nat} {o : Obj} (h : Cel W B vs t) (hg : (W.alloc o).grownBy W' row) (hne : row ≠ some B) : Cel W' B vs t := by
  have hl := h.lt
  have h1 : Cel (W.alloc o) B vs t := h.alloc o
  unfold Cel at *
  rw [hg.block B (by rw [World.size_alloc]; omega) (fun e => hne e.symm)]; exact h1

end Go.Proofs.Ytngfbcegcekbbaa
namespace Go.Proofs.Ytngfbcegcekbbaa
open Go.RowKit
set_option linter.unusedVariables false
set_option maxRecDepth 100000

theorem as_testStep_testStep (v : Value) (w : World) : (Instr.typeAssert (.iface 140 v) 122 140 true).run Try.prog w = .ok (.tuple #[v, .bool true]) w := by kernel_rfl
theorem as_testStep_addStep (v : Value) (w : World) : (Instr.typeAssert (.iface 140 v) 122 142 true).run Try.prog w = .ok (.tuple #[.agg #[.int .i64 0, .slice none 0 0, .slice none 0 0, .int .i64 0], .bool false]) w := by kernel_rfl
theorem as_testStep_printStep (v : Value) (w : World) : (Instr.typeAssert (.iface 140 v) 122 144 true).run Try.prog w = .ok (.tuple #[.agg #[.slice none 0 0, .slice none 0 0, .int .i64 0], .bool false]) w := by kernel_rfl
theorem as_testStep_stopStep (v : Value) (w : World) : (Instr.typeAssert (.iface 140 v) 122 145 true).run Try.prog w = .ok (.tuple #[.agg #[], .bool false]) w := by kernel_rfl
theorem as_addStep_testStep (v : Value) (w : World) : (Instr.typeAssert (.iface 142 v) 122 140 true).run Try.prog w = .ok (.tuple #[.agg #[.int .i64 0, .slice none 0 0, .slice none 0 0, .int .i64 0], .bool false]) w := by kernel_rfl
theorem as_addStep_addStep (v : Value) (w : World) : (Instr.typeAssert (.iface 142 v) 122 142 true).run Try.prog w = .ok (.tuple #[v, .bool true]) w := by kernel_rfl
theorem as_addStep_printStep (v : Value) (w : World) : (Instr.typeAssert (.iface 142 v) 122 144 true).run Try.prog w = .ok (.tuple #[.agg #[.slice none 0 0, .slice none 0 0, .int .i64 0], .bool false]) w := by kernel_rfl
theorem as_addStep_stopStep (v : Value) (w : World) : (Instr.typeAssert (.iface 142 v) 122 145 true).run Try.prog w = .ok (.tuple #[.agg #[], .bool false]) w := by kernel_rfl
theorem as_printStep_testStep (v : Value) (w : World) : (Instr.typeAssert (.iface 144 v) 122 140 true).run Try.prog w = .ok (.tuple #[.agg #[.int .i64 0, .slice none 0 0, .slice none 0 0, .int .i64 0], .bool false]) w := by kernel_rfl
theorem as_printStep_addStep (v : Value) (w : World) : (Instr.typeAssert (.iface 144 v) 122 142 true).run Try.prog w = .ok (.tuple #[.agg #[.int .i64 0, .slice none 0 0, .slice none 0 0, .int .i64 0], .bool false]) w := by kernel_rfl
theorem as_printStep_printStep (v : Value) (w : World) : (Instr.typeAssert (.iface 144 v) 122 144 true).run Try.prog w = .ok (.tuple #[v, .bool true]) w := by kernel_rfl
theorem as_printStep_stopStep (v : Value) (w : World) : (Instr.typeAssert (.iface 144 v) 122 145 true).run Try.prog w = .ok (.tuple #[.agg #[], .bool false]) w := by kernel_rfl
theorem as_stopStep_testStep (v : Value) (w : World) : (Instr.typeAssert (.iface 145 v) 122 140 true).run Try.prog w = .ok (.tuple #[.agg #[.int .i64 0, .slice none 0 0, .slice none 0 0, .int .i64 0], .bool false]) w := by kernel_rfl
theorem as_stopStep_addStep (v : Value) (w : World) : (Instr.typeAssert (.iface 145 v) 122 142 true).run Try.prog w = .ok (.tuple #[.agg #[.int .i64 0, .slice none 0 0, .slice none 0 0, .int .i64 0], .bool false]) w := by kernel_rfl
theorem as_stopStep_printStep (v : Value) (w : World) : (Instr.typeAssert (.iface 145 v) 122 144 true).run Try.prog w = .ok (.tuple #[.agg #[.slice none 0 0, .slice none 0 0, .int .i64 0], .bool false]) w := by kernel_rfl
theorem as_stopStep_stopStep (v : Value) (w : World) : (Instr.typeAssert (.iface 145 v) 122 145 true).run Try.prog w = .ok (.tuple #[v, .bool true]) w := by kernel_rfl

set_option maxHeartbeats 800000 in
theorem leave_stop (Dd : Nat) (w : World) :
    Calls Try.prog 94 #[.pointer (some ⟨Dd, 0, none⟩), .iface 145 (.agg #[])] w fun e w' => e = .panicked [{ v := .iface 128 (.agg #[]), recovered := false }] ∧ Below w.heap.size w w' := by
  have h1 := as_stopStep_testStep
  have h2 := as_stopStep_addStep
  have h3 := as_stopStep_printStep
  have h4 := as_stopStep_stopStep
  go_enter Try.func94, Try.ntmps94
  go_wp2
  exact ⟨rfl, rfl, (Below.refl _ _).alloc (Nat.le_refl _) _⟩

/-- While the program runs an act: old memory, what it does it with, the pots, what was told. -/
structure DR (w1 : World) (Dd B cp : Nat) (ua : Option Addr) (cu : Nat) (v : Value) (x tl : List Int) (W : World) : Prop where
  b : Below w1.heap.size w1 W
  d : Cel W Dd [.slice (some ⟨B, 0, none⟩) 3 cp, .slice ua 2 cu, v] 96
  ox : OwnX W (some ⟨B, 0, none⟩) B 3 x
  j : JA w1 v tl W
  ne : v.ownBlock ≠ some B
  nd : v.ownBlock ≠ some Dd

section
variable {w1 W W' : World} {Dd B cp : Nat} {ua : Option Addr} {cu : Nat} {v : Value} {x tl : List Int}
theorem DR.below (s : DR w1 Dd B cp ua cu v x tl W) (h : Below W.heap.size W W') : DR w1 Dd B cp ua cu v x tl W' := ⟨s.b.trans (h.mono s.b.size), s.d.below h, s.ox.below h, s.j.below h, s.ne, s.nd⟩
theorem DR.alloc (s : DR w1 Dd B cp ua cu v x tl W) (o : Obj) : DR w1 Dd B cp ua cu v x tl (W.alloc o) := s.below ((Below.refl _ _).alloc (Nat.le_refl _) _)
theorem DR.set (s : DR w1 Dd B cp ua cu v x tl W) (hB : w1.heap.size ≤ B) (hDB : Dd ≠ B) {i : Nat} (hi : i < 3) (y : Int) : DR w1 Dd B cp ua cu v (x.set i y) tl (W.setCell ⟨B, i, none⟩ (.int .i64 y)) :=
  ⟨s.b.setCell hB _, s.d.setOther hDB _ _, s.ox.set hi y, s.j.set hB s.ne _ _, s.ne, s.nd⟩
theorem DR.app {y : Int} {g cap k H : Nat} {o : Obj} (s : DR w1 Dd B cp ua cu v x tl W) (hD : w1.heap.size ≤ Dd) (hDB : Dd ≠ B) (hk : tl.length = k) (hown : W'.ownsRow w1.heap.size 3 1 (.slice (some ⟨g, 0, none⟩) (k + 1) cap) (k + 1) (tl.map (Value.int .i64) ++ [.int .i64 y])) (hg : (W.alloc o).grownBy W' v.ownBlock) (hat : v.ownBlock = some g ∨ g = H) (hH : B < H) (hH2 : Dd < H) :
    DR w1 Dd B cp ua cu (.slice (some ⟨g, 0, none⟩) (k + 1) cap) x (tl ++ [y]) (W'.setCell ⟨Dd, 2, none⟩ (.slice (some ⟨g, 0, none⟩) (k + 1) cap)) := by
  have j' := s.j.app hk hown hg
  have nb : g ≠ B := fun e => by
    rcases hat with h | h
    · exact s.ne (by rw [h, e])
    · omega
  have nd : g ≠ Dd := fun e => by
    rcases hat with h | h
    · exact s.nd (by rw [h, e])
    · omega
  have nb' : Value.ownBlock (.slice (some ⟨g, 0, none⟩) (k + 1) cap) ≠ some B := by show some g ≠ some B; intro e; simp only [Option.some.injEq] at e; exact nb e
  have nd' : Value.ownBlock (.slice (some ⟨g, 0, none⟩) (k + 1) cap) ≠ some Dd := by show some g ≠ some Dd; intro e; simp only [Option.some.injEq] at e; exact nd e
  exact ⟨j'.b.setCell hD _, (s.d.grown hg s.nd).set 2 _, (s.ox.grown hg s.ne).setOther (fun _ => hDB) _ _, j'.set hD nd' _ _, nb', nd'⟩
end

set_option maxHeartbeats 1600000 in
theorem leave_test (w1 : World) (Dd B cp : Nat) (ua : Option Addr) (cu : Nat) (v : Value) (x tl : List Int) (skip : Int) (ga : Option Addr) (gcap : Nat) (gc : Option Addr) (gcap' : Nat) (K : Int) (C D U : List Int) (y P R : Int) (W : World) (s : DR w1 Dd B cp ua cu v x tl W) (iC : Ints W ga 3 C) (iD : Ints W gc 2 D) (iU : Ints W ua 2 U) (hy : atV C D K x U = y)
    (p1 : bndP P C x) (p2 : bndP R D U) (zP : 0 ≤ P) (zQ : 0 ≤ R) (tP : P ≤ 100000000000) (tQ : R ≤ 100000000000) (bK : -10000000 ≤ K ∧ K ≤ 10000000) :
    Calls Try.prog 94 #[.pointer (some ⟨Dd, 0, none⟩), .iface 140 (.agg #[.int .i64 skip, .slice ga 3 gcap, .slice gc 2 gcap', .int .i64 K])] W fun e w' => e = .returned (.int .i64 (if y < 0 then skip else 0)) ∧ Below W.heap.size W w' := by
  have h1 := as_testStep_testStep
  have HY : Hid (atV C D K x U = y) := hy
  clear hy
  have al : Below W.heap.size W (W.alloc (.cells #[.int .i64 skip, .slice ga 3 gcap, .slice gc 2 gcap', .int .i64 K] 140)) := (Below.refl _ _).alloc (Nat.le_refl _) _
  have bxa := Cel.new W [.int .i64 skip, .slice ga 3 gcap, .slice gc 2 gcap', .int .i64 K] 140
  have sa := s.below al
  have ia := iC.below al
  have ib := iD.below al
  have iu := iU.below al
  go_enter Try.func94, Try.ntmps94
  go_upto_region 4 with fail
  obtain ⟨Wa, hWa⟩ : ∃ Wa, Wa = W.alloc (.cells #[.int .i64 skip, .slice ga 3 gcap, .slice gc 2 gcap', .int .i64 K] 140) := ⟨_, rfl⟩
  rw [← hWa] at sa bxa ia ib iu al ⊢
  clear hWa s iC iD iU
  have hn : Wa.cell? ⟨Dd, 0, none⟩ = some (.slice (some ⟨B, 0, none⟩) 3 cp) ∧ Wa.cell? ⟨Dd, 1, none⟩ = some (.slice ua 2 cu) ∧ Wa.cell? ⟨W.heap.size, 1, none⟩ = some (.slice ga 3 gcap) ∧ Wa.cell? ⟨W.heap.size, 2, none⟩ = some (.slice gc 2 gcap') ∧ Wa.cell? ⟨W.heap.size, 3, none⟩ = some (.int .i64 K) := ⟨sa.d.cell 0, sa.d.cell 1, bxa.cell 1, bxa.cell 2, bxa.cell 3⟩
  go_region_held3 (fun w' => w'.cell? ⟨Dd, 0, none⟩ = some (.slice (some ⟨B, 0, none⟩) 3 cp) ∧ w'.cell? ⟨Dd, 1, none⟩ = some (.slice ua 2 cu) ∧ w'.cell? ⟨W.heap.size, 1, none⟩ = some (.slice ga 3 gcap) ∧ w'.cell? ⟨W.heap.size, 2, none⟩ = some (.slice gc 2 gcap') ∧ w'.cell? ⟨W.heap.size, 3, none⟩ = some (.int .i64 K)) (first | with_reducible assumption | exact hn)
    (first
      | (go_at_call 67
         refine (iatG_any _ _ _ _ _ C D _ _ _ _ x U _ (by exact ia.below (Below.refl _ _).drew) (by exact ib.below (Below.refl _ _).drew) (by exact sa.ox.ints.below (Below.refl _ _).drew) (by exact iu.below (Below.refl _ _).drew) P R p1 p2 zP zQ tP tQ bK).mono ?_
         rintro ee w3 ⟨rfl, b3⟩
         rw [HY.out]
         have b3' := below_of_drew b3
         have sd3 := sa.d.below b3'
         have bx3 := bxa.below b3'
         have hn3 : w3.cell? ⟨Dd, 0, none⟩ = some (.slice (some ⟨B, 0, none⟩) 3 cp) ∧ w3.cell? ⟨Dd, 1, none⟩ = some (.slice ua 2 cu) ∧ w3.cell? ⟨W.heap.size, 1, none⟩ = some (.slice ga 3 gcap) ∧ w3.cell? ⟨W.heap.size, 2, none⟩ = some (.slice gc 2 gcap') ∧ w3.cell? ⟨W.heap.size, 3, none⟩ = some (.int .i64 K) := ⟨sd3.cell 0, sd3.cell 1, bx3.cell 1, bx3.cell 2, bx3.cell 3⟩))
  have bb := al.trans (b3'.mono al.size)
  have k0 := bx3.cell 0
  simp only [List.getElem?_cons_zero] at k0
  by_cases hneg : y < 0
  · go_wp2
    go_ret
    exact ⟨rfl, bb⟩
  · go_wp2
    go_ret
    exact ⟨rfl, bb⟩

end Go.Proofs.Ytngfbcegcekbbaa
namespace Go.Proofs.Ytngfbcegcekbbaa
open Go.RowKit
set_option linter.unusedVariables false
set_option maxRecDepth 100000

theorem touch_grown {S : Nat → Prop} {w W W' : World} {row : Option Nat} (h : Touch S w W) (g : W.grownBy W' row) (hr : ∀ k, row = some k → S k) : Touch S w W' :=
  ⟨g.os.trans h.os, g.tape.trans h.tape, g.output.trans h.output, Nat.le_trans h.size g.size, fun k hk hs => (g.block k (Nat.lt_of_lt_of_le hk h.size) (fun e => hs (hr k e.symm))).trans (h.block k hk hs)⟩

set_option maxHeartbeats 3200000 in
theorem leave_add (w1 : World) (Dd B cp : Nat) (ua : Option Addr) (cu : Nat) (v : Value) (x tl : List Int) (pn : Nat) (xp : Int) (ga : Option Addr) (gcap : Nat) (gc : Option Addr) (gcap' : Nat) (K : Int) (C D U : List Int) (y P R : Int) (W : World) (s : DR w1 Dd B cp ua cu v x tl W) (iC : Ints W ga 3 C) (iD : Ints W gc 2 D) (iU : Ints W ua 2 U) (hy : atV C D K x U = y)
    (p1 : bndP P C x) (p2 : bndP R D U) (zP : 0 ≤ P) (zQ : 0 ≤ R) (tP : P ≤ 100000000000) (tQ : R ≤ 100000000000) (bK : -10000000 ≤ K ∧ K ≤ 10000000) (hpn : pn < 3) (hxp : x[pn]?.getD 0 = xp) (r1 : -10000000000 ≤ xp) (r2 : xp ≤ 10000000000) (r3 : -1000000000000 ≤ y) (r4 : y ≤ 1000000000000) (hB : w1.heap.size ≤ B) (hDB : Dd ≠ B) :
    Calls Try.prog 94 #[.pointer (some ⟨Dd, 0, none⟩), .iface 142 (.agg #[.int .i64 (pn : Int), .slice ga 3 gcap, .slice gc 2 gcap', .int .i64 K])] W fun e w' => e = .returned (.int .i64 0) ∧ DR w1 Dd B cp ua cu v (x.set pn (xp + y)) tl w' ∧ Touch (fun z => z = B) W w' := by
  have h1 := as_addStep_testStep
  have h2 := as_addStep_addStep
  have HY : Hid (atV C D K x U = y) := hy
  have HXP : Hid (x[pn]?.getD 0 = xp) := hxp
  clear hy hxp
  have hwr : IntKind.i64.wrap (xp + y) = xp + y := wrap_id (by omega) (by omega)
  have hpn' : (pn : Int) < 3 := by omega
  have al : Below W.heap.size W (W.alloc (.cells #[.int .i64 (pn : Int), .slice ga 3 gcap, .slice gc 2 gcap', .int .i64 K] 142)) := (Below.refl _ _).alloc (Nat.le_refl _) _
  have bxa := Cel.new W [.int .i64 (pn : Int), .slice ga 3 gcap, .slice gc 2 gcap', .int .i64 K] 142
  have sa := s.below al
  have ia := iC.below al
  have ib := iD.below al
  have iu := iU.below al
  have lB := s.ox.lt (by omega)
  have lD := s.d.lt
  have cellp : ∀ Z, OwnX Z (some ⟨B, 0, none⟩) B 3 x → Z.cell? ⟨B, pn, none⟩ = some (.int .i64 xp) ∧ Z.frozen? ⟨B, pn, none⟩ = false := fun Z hZ => by
    obtain ⟨_, h1, h2⟩ := hZ.pos (by omega)
    exact ⟨by rw [h1 pn hpn, HXP.out], h2 pn⟩
  have CP : Hid _ := cellp
  clear cellp
  go_enter Try.func94, Try.ntmps94
  go_upto_region 8 with fail
  obtain ⟨Wa, hWa⟩ : ∃ Wa, Wa = W.alloc (.cells #[.int .i64 (pn : Int), .slice ga 3 gcap, .slice gc 2 gcap', .int .i64 K] 142) := ⟨_, rfl⟩
  rw [← hWa] at sa bxa ia ib iu al ⊢
  clear hWa s iC iD iU
  have zal := al.size
  obtain ⟨ck, fk⟩ := CP.out Wa sa.ox
  have hSS : (Wa.drew.cell? ⟨Dd, 0, none⟩ = some (.slice (some ⟨B, 0, none⟩) 3 cp) ∧ Wa.drew.cell? ⟨Dd, 1, none⟩ = some (.slice ua 2 cu) ∧ Wa.drew.cell? ⟨W.heap.size, 0, none⟩ = some (.int .i64 (pn : Int)) ∧ Wa.drew.cell? ⟨W.heap.size, 1, none⟩ = some (.slice ga 3 gcap) ∧ Wa.drew.cell? ⟨W.heap.size, 2, none⟩ = some (.slice gc 2 gcap') ∧ Wa.drew.cell? ⟨W.heap.size, 3, none⟩ = some (.int .i64 K)) ∧ Wa.drew.cell? ⟨B, pn, none⟩ = some (.int .i64 xp) := ⟨⟨sa.d.cell 0, sa.d.cell 1, bxa.cell 0, bxa.cell 1, bxa.cell 2, bxa.cell 3⟩, ck⟩
  refine wp_region_ends (fun w' => w'.cell? ⟨Dd, 0, none⟩ = some (.slice (some ⟨B, 0, none⟩) 3 cp) ∧ w'.cell? ⟨Dd, 1, none⟩ = some (.slice ua 2 cu) ∧ w'.cell? ⟨W.heap.size, 0, none⟩ = some (.int .i64 (pn : Int)) ∧ w'.cell? ⟨W.heap.size, 1, none⟩ = some (.slice ga 3 gcap) ∧ w'.cell? ⟨W.heap.size, 2, none⟩ = some (.slice gc 2 gcap') ∧ w'.cell? ⟨W.heap.size, 3, none⟩ = some (.int .i64 K)) (fun w' => w'.cell? ⟨B, pn, none⟩ = some (.int .i64 xp)) 20 (by kernel_rfl) ?_
  refine wpAnyE_take0 (i := 0) (v := ?v0) rfl (by kernel_rfl) (by kernel_rfl) (by kernel_rfl) (by decide) (fun _ _ _ h => h) (Or.inl ⟨by rfl, ?hy0⟩) hSS ?_
  case hy0 => (intro wz hSw; (try dsimp only at hSw); go_simp; try (with_reducible rfl))
  refine wpAnyE_take0 (i := 1) (v := ?v1) rfl (by kernel_rfl) (by kernel_rfl) (by kernel_rfl) (by decide) (fun _ _ _ h => h) (Or.inl ⟨by rfl, ?hy1⟩) hSS ?_
  case hy1 => (intro wz hSw; (try dsimp only at hSw); go_simp; try (with_reducible rfl))
  refine wpAnyE_take0 (i := 2) (v := ?v2) rfl (by kernel_rfl) (by kernel_rfl) (by kernel_rfl) (by decide) (fun _ _ _ h => h) (Or.inl ⟨by rfl, ?hy2⟩) hSS ?_
  case hy2 => (intro wz hSw; (try dsimp only at hSw); go_simp; try (with_reducible rfl))
  refine wpAnyE_take0 (i := 3) (v := ?v3) rfl (by kernel_rfl) (by kernel_rfl) (by kernel_rfl) (by decide) (fun _ _ _ h => h) (Or.inl ⟨by rfl, ?hy3⟩) hSS ?_
  case hy3 => (intro wz hSw; (try dsimp only at hSw); go_simp; try (with_reducible rfl))
  refine wpAnyE_take0 (i := 4) (v := ?v4) rfl (by kernel_rfl) (by kernel_rfl) (by kernel_rfl) (by decide) (fun _ _ _ h => h) (Or.inl ⟨by rfl, ?hy4⟩) hSS ?_
  case hy4 => (intro wz hSw; (try dsimp only at hSw); go_simp; try (with_reducible rfl))
  refine wpAnyE_take0 (i := 5) (v := ?v5) rfl (by kernel_rfl) (by kernel_rfl) (by kernel_rfl) (by decide) (fun _ _ _ h => h) (Or.inl ⟨by rfl, ?hy5⟩) hSS ?_
  case hy5 => (intro wz hSw; (try dsimp only at hSw); go_simp; try (with_reducible rfl))
  refine wpAnyE_take0 (i := 6) (v := ?v6) rfl (by kernel_rfl) (by kernel_rfl) (by kernel_rfl) (by decide) (fun _ _ _ h => h) (Or.inl ⟨by rfl, ?hy6⟩) hSS ?_
  case hy6 => (intro wz hSw; (try dsimp only at hSw); go_simp; try (with_reducible rfl))
  refine wpAnyE_take1 (i := 7) (v := ?v7) rfl rfl (by kernel_rfl) (by kernel_rfl) (by kernel_rfl) (by decide) (by rfl) (by simp [Region.binds]) (fun _ _ _ h => h) (Or.inl ⟨by rfl, ?hy7⟩) hSS ?_
  case hy7 => (intro wz hSw; (try dsimp only at hSw); go_simp; try (with_reducible rfl))
  refine wpAnyE_take0 (i := 8) (v := ?v8) rfl (by kernel_rfl) (by kernel_rfl) (by kernel_rfl) (by decide) (fun _ _ _ h => h) (Or.inl ⟨by rfl, ?hy8⟩) hSS ?_
  case hy8 => (intro wz hSw; (try dsimp only at hSw); go_simp; try (with_reducible rfl))
  refine wpAnyE_take0 (i := 9) (v := ?v9) rfl (by kernel_rfl) (by kernel_rfl) (by kernel_rfl) (by decide) (fun _ _ _ h => h) (Or.inl ⟨by rfl, ?hy9⟩) hSS ?_
  case hy9 => (intro wz hSw; (try dsimp only at hSw); go_simp; try (with_reducible rfl))
  refine wpAnyE_take0 (i := 10) (v := ?v10) rfl (by kernel_rfl) (by kernel_rfl) (by kernel_rfl) (by decide) (fun _ _ _ h => h) (Or.inl ⟨by rfl, ?hy10⟩) hSS ?_
  case hy10 => (intro wz hSw; (try dsimp only at hSw); go_simp; try (with_reducible rfl))
  refine wpAnyE_take0 (i := 11) (v := ?v11) rfl (by kernel_rfl) (by kernel_rfl) (by kernel_rfl) (by decide) (fun _ _ _ h => h) (Or.inl ⟨by rfl, ?hy11⟩) hSS ?_
  case hy11 => (intro wz hSw; (try dsimp only at hSw); go_simp; try (with_reducible rfl))
  refine wpAnyE_take0 (i := 12) (v := ?v12) rfl (by kernel_rfl) (by kernel_rfl) (by kernel_rfl) (by decide) (fun _ _ _ h => h) (Or.inl ⟨by rfl, ?hy12⟩) hSS ?_
  case hy12 => (intro wz hSw; (try dsimp only at hSw); go_simp; try (with_reducible rfl))
  refine wpAnyE_take0 (i := 13) (v := ?v13) rfl (by kernel_rfl) (by kernel_rfl) (by kernel_rfl) (by decide) (fun _ _ _ h => h) (Or.inl ⟨by rfl, ?hy13⟩) hSS ?_
  case hy13 => (intro wz hSw; (try dsimp only at hSw); go_simp; try (with_reducible rfl))
  refine wpAnyE_take0 (i := 14) (v := ?v14) rfl (by kernel_rfl) (by kernel_rfl) (by kernel_rfl) (by decide) (fun _ _ _ h => h) (Or.inl ⟨by rfl, ?hy14⟩) hSS ?_
  case hy14 => (intro wz hSw; (try dsimp only at hSw); go_simp; try (with_reducible rfl))
  refine wpAnyE_take0 (i := 15) (v := ?v15) rfl (by kernel_rfl) (by kernel_rfl) (by kernel_rfl) (by decide) (fun _ _ _ h => h) (Or.inl ⟨by rfl, ?hy15⟩) hSS ?_
  case hy15 => (intro wz hSw; (try dsimp only at hSw); go_simp; try (with_reducible rfl))
  refine wpAnyE_take0 (i := 16) (v := ?v16) rfl (by kernel_rfl) (by kernel_rfl) (by kernel_rfl) (by decide) (fun _ _ _ h => h) (Or.inl ⟨by rfl, ?hy16⟩) hSS ?_
  case hy16 => (intro wz hSw; (try dsimp only at hSw); go_simp; try (with_reducible rfl))
  refine wpAnyE_take0 (i := 17) (v := ?v17) rfl (by kernel_rfl) (by kernel_rfl) (by kernel_rfl) (by decide) (fun _ _ _ h => h) (Or.inl ⟨by rfl, ?hy17⟩) hSS ?_
  case hy17 => (intro wz hSw; (try dsimp only at hSw); go_simp; try (with_reducible rfl))
  refine wpAnyE_one (i := 18) (by kernel_rfl) rfl (fun Kn hK => ?_)
  go_simp
  refine (iatG_any _ _ _ _ _ C D _ _ _ _ x U _ (ia.below (Below.refl _ _).drew) (ib.below (Below.refl _ _).drew) (sa.ox.ints.below (Below.refl _ _).drew) (iu.below (Below.refl _ _).drew) P R p1 p2 zP zQ tP tQ bK).mono ?_
  rintro ee w3 ⟨rfl, b3⟩
  rw [HY.out]
  have b3' := below_of_drew b3
  have z3 := b3'.size
  have s3 := sa.below b3'
  have bx3 := bxa.below b3'
  obtain ⟨ck3, fk3⟩ := CP.out w3 s3.ox
  have hSS3 : (w3.cell? ⟨Dd, 0, none⟩ = some (.slice (some ⟨B, 0, none⟩) 3 cp) ∧ w3.cell? ⟨Dd, 1, none⟩ = some (.slice ua 2 cu) ∧ w3.cell? ⟨W.heap.size, 0, none⟩ = some (.int .i64 (pn : Int)) ∧ w3.cell? ⟨W.heap.size, 1, none⟩ = some (.slice ga 3 gcap) ∧ w3.cell? ⟨W.heap.size, 2, none⟩ = some (.slice gc 2 gcap') ∧ w3.cell? ⟨W.heap.size, 3, none⟩ = some (.int .i64 K)) ∧ w3.cell? ⟨B, pn, none⟩ = some (.int .i64 xp) := ⟨⟨s3.d.cell 0, s3.d.cell 1, bx3.cell 0, bx3.cell 1, bx3.cell 2, bx3.cell 3⟩, ck3⟩
  have s4 := s3.set hB hDB hpn (xp + y)
  have bx4 := bx3.setOther (show W.heap.size ≠ B by omega) pn (.int .i64 (xp + y))
  have hSS4 : (w3.setCell ⟨B, pn, none⟩ (.int .i64 (xp + y))).cell? ⟨Dd, 0, none⟩ = some (.slice (some ⟨B, 0, none⟩) 3 cp) ∧ (w3.setCell ⟨B, pn, none⟩ (.int .i64 (xp + y))).cell? ⟨Dd, 1, none⟩ = some (.slice ua 2 cu) ∧ (w3.setCell ⟨B, pn, none⟩ (.int .i64 (xp + y))).cell? ⟨W.heap.size, 0, none⟩ = some (.int .i64 (pn : Int)) ∧ (w3.setCell ⟨B, pn, none⟩ (.int .i64 (xp + y))).cell? ⟨W.heap.size, 1, none⟩ = some (.slice ga 3 gcap) ∧ (w3.setCell ⟨B, pn, none⟩ (.int .i64 (xp + y))).cell? ⟨W.heap.size, 2, none⟩ = some (.slice gc 2 gcap') ∧ (w3.setCell ⟨B, pn, none⟩ (.int .i64 (xp + y))).cell? ⟨W.heap.size, 3, none⟩ = some (.int .i64 K) := ⟨s4.d.cell 0, s4.d.cell 1, bx4.cell 0, bx4.cell 1, bx4.cell 2, bx4.cell 3⟩
  dsimp only
  refine hK.out _ _ ⟨hSS3.1, fun _ => hSS3.2⟩ ?_
  clear hK hSS
  refine wpAnyE_take0 (i := 19) (v := ?v19) rfl (by kernel_rfl) (by kernel_rfl) (by kernel_rfl) (by decide) (fun _ _ _ h => h) (Or.inl ⟨by rfl, ?hy19⟩) hSS3 ?_
  case hy19 => (intro wz hSw; (try dsimp only at hSw); go_simp; try (with_reducible rfl))
  refine wpAnyE_one (i := 20) (by kernel_rfl) rfl (fun Kn hK => ?_)
  go_simp
  refine hK.out _ _ ⟨hSS3.1, fun _ => hSS3.2⟩ ?_
  clear hK
  refine wpAnyE_one (i := 21) (by kernel_rfl) rfl (fun Kn hK => ?_)
  go_simp
  refine hK.out _ _ ⟨hSS4, fun h => absurd (show true = false from h) (by decide)⟩ ?_
  clear hK
  refine wpAnyE_done (by kernel_rfl) ?_ _
  have zz : Touch (fun z => z = B) W (w3.setCell ⟨B, pn, none⟩ (.int .i64 (xp + y))) := Touch.setCell (S := fun z => z = B) ((Touch.of al).trans (Touch.of b3')) rfl _
  clear b3 b3' sa bxa ia ib iu bx3 bx4 hSS3 hSS4 ck fk ck3 fk3 s3 al
  go_wp2
  go_ret
  exact ⟨rfl, s4, zz⟩

set_option maxHeartbeats 3200000 in
theorem leave_tell (w1 : World) (Dd B cp : Nat) (ua : Option Addr) (cu : Nat) (v : Value) (x tl : List Int) (tn : Nat) (ga : Option Addr) (gcap : Nat) (gc : Option Addr) (gcap' : Nat) (K : Int) (C D U : List Int) (y P R : Int) (W : World) (s : DR w1 Dd B cp ua cu v x tl W) (iC : Ints W ga 3 C) (iD : Ints W gc 2 D) (iU : Ints W ua 2 U) (hy : atV C D K x U = y)
    (p1 : bndP P C x) (p2 : bndP R D U) (zP : 0 ≤ P) (zQ : 0 ≤ R) (tP : P ≤ 100000000000) (tQ : R ≤ 100000000000) (bK : -10000000 ≤ K ∧ K ≤ 10000000) (htn : tl.length = tn) (ht6 : tn ≤ 100) (hB : w1.heap.size ≤ B) (hD : w1.heap.size ≤ Dd) (hDB : Dd ≠ B) :
    Calls Try.prog 94 #[.pointer (some ⟨Dd, 0, none⟩), .iface 144 (.agg #[.slice ga 3 gcap, .slice gc 2 gcap', .int .i64 K])] W fun e w' => e = .returned (.int .i64 0) ∧ (∃ v', DR w1 Dd B cp ua cu v' x (tl ++ [y]) w' ∧ ∀ F, F < W.heap.size → v.ownBlock ≠ some F → v'.ownBlock ≠ some F) ∧ Touch (fun z => z = Dd ∨ v.ownBlock = some z) W w' := by
  have h1 := as_printStep_testStep
  have h2 := as_printStep_addStep
  have h3 := as_printStep_printStep
  obtain ⟨i0, hi, hz0, hz1, hz2⟩ := info_parts Try.infoInt
  have HY : Hid (atV C D K x U = y) := hy
  have HTN : Hid (tl.length = tn) := htn
  clear hy htn
  have al : Below W.heap.size W (W.alloc (.cells #[.slice ga 3 gcap, .slice gc 2 gcap', .int .i64 K] 144)) := (Below.refl _ _).alloc (Nat.le_refl _) _
  have bxa := Cel.new W [.slice ga 3 gcap, .slice gc 2 gcap', .int .i64 K] 144
  have sa := s.below al
  have ia := iC.below al
  have ib := iD.below al
  have iu := iU.below al
  have lB := s.ox.lt (by omega)
  have lD := s.d.lt
  have lv : ∀ z, v.ownBlock = some z → z < W.heap.size := fun z hz => (s.j.o.lt z hz).2
  have HLV : Hid _ := lv
  clear lv
  go_enter Try.func94, Try.ntmps94
  go_upto_region 11 with fail
  obtain ⟨Wa, hWa⟩ : ∃ Wa, Wa = W.alloc (.cells #[.slice ga 3 gcap, .slice gc 2 gcap', .int .i64 K] 144) := ⟨_, rfl⟩
  rw [← hWa] at sa bxa ia ib iu al ⊢
  clear hWa s iC iD iU
  have zal := al.size
  have hSS : (Wa.drew.cell? ⟨Dd, 0, none⟩ = some (.slice (some ⟨B, 0, none⟩) 3 cp) ∧ Wa.drew.cell? ⟨Dd, 1, none⟩ = some (.slice ua 2 cu) ∧ Wa.drew.cell? ⟨W.heap.size, 0, none⟩ = some (.slice ga 3 gcap) ∧ Wa.drew.cell? ⟨W.heap.size, 1, none⟩ = some (.slice gc 2 gcap') ∧ Wa.drew.cell? ⟨W.heap.size, 2, none⟩ = some (.int .i64 K)) ∧ Wa.drew.cell? ⟨Dd, 2, none⟩ = some v := ⟨⟨sa.d.cell 0, sa.d.cell 1, bxa.cell 0, bxa.cell 1, bxa.cell 2⟩, sa.d.cell 2⟩
  refine wp_region_ends (fun w' => w'.cell? ⟨Dd, 0, none⟩ = some (.slice (some ⟨B, 0, none⟩) 3 cp) ∧ w'.cell? ⟨Dd, 1, none⟩ = some (.slice ua 2 cu) ∧ w'.cell? ⟨W.heap.size, 0, none⟩ = some (.slice ga 3 gcap) ∧ w'.cell? ⟨W.heap.size, 1, none⟩ = some (.slice gc 2 gcap') ∧ w'.cell? ⟨W.heap.size, 2, none⟩ = some (.int .i64 K)) (fun w' => w'.cell? ⟨Dd, 2, none⟩ = some v) 18 (by kernel_rfl) ?_
  refine wpAnyE_take0 (i := 0) (v := ?v0) rfl (by kernel_rfl) (by kernel_rfl) (by kernel_rfl) (by decide) (fun _ _ _ h => h) (Or.inl ⟨by rfl, ?hy0⟩) hSS ?_
  case hy0 => (intro wz hSw; (try dsimp only at hSw); go_simp; try (with_reducible rfl))
  refine wpAnyE_take0 (i := 1) (v := ?v1) rfl (by kernel_rfl) (by kernel_rfl) (by kernel_rfl) (by decide) (fun _ _ _ h => h) (Or.inl ⟨by rfl, ?hy1⟩) hSS ?_
  case hy1 => (intro wz hSw; (try dsimp only at hSw); go_simp; try (with_reducible rfl))
  refine wpAnyE_take0 (i := 2) (v := ?v2) rfl (by kernel_rfl) (by kernel_rfl) (by kernel_rfl) (by decide) (fun _ _ _ h => h) (Or.inl ⟨by rfl, ?hy2⟩) hSS ?_
  case hy2 => (intro wz hSw; (try dsimp only at hSw); go_simp; try (with_reducible rfl))
  refine wpAnyE_take0 (i := 3) (v := ?v3) rfl (by kernel_rfl) (by kernel_rfl) (by kernel_rfl) (by decide) (fun _ _ _ h => h) (Or.inl ⟨by rfl, ?hy3⟩) hSS ?_
  case hy3 => (intro wz hSw; (try dsimp only at hSw); go_simp; try (with_reducible rfl))
  refine wpAnyE_take1 (i := 4) (v := ?v4) rfl rfl (by kernel_rfl) (by kernel_rfl) (by kernel_rfl) (by decide) (by rfl) (by simp [Region.binds]) (fun _ _ _ h => h) (Or.inl ⟨by rfl, ?hy4⟩) hSS ?_
  case hy4 => (intro wz hSw; (try dsimp only at hSw); go_simp; try (with_reducible rfl))
  refine wpAnyE_take0 (i := 5) (v := ?v5) rfl (by kernel_rfl) (by kernel_rfl) (by kernel_rfl) (by decide) (fun _ _ _ h => h) (Or.inl ⟨by rfl, ?hy5⟩) hSS ?_
  case hy5 => (intro wz hSw; (try dsimp only at hSw); go_simp; try (with_reducible rfl))
  refine wpAnyE_take0 (i := 6) (v := ?v6) rfl (by kernel_rfl) (by kernel_rfl) (by kernel_rfl) (by decide) (fun _ _ _ h => h) (Or.inl ⟨by rfl, ?hy6⟩) hSS ?_
  case hy6 => (intro wz hSw; (try dsimp only at hSw); go_simp; try (with_reducible rfl))
  refine wpAnyE_take0 (i := 7) (v := ?v7) rfl (by kernel_rfl) (by kernel_rfl) (by kernel_rfl) (by decide) (fun _ _ _ h => h) (Or.inl ⟨by rfl, ?hy7⟩) hSS ?_
  case hy7 => (intro wz hSw; (try dsimp only at hSw); go_simp; try (with_reducible rfl))
  refine wpAnyE_take0 (i := 8) (v := ?v8) rfl (by kernel_rfl) (by kernel_rfl) (by kernel_rfl) (by decide) (fun _ _ _ h => h) (Or.inl ⟨by rfl, ?hy8⟩) hSS ?_
  case hy8 => (intro wz hSw; (try dsimp only at hSw); go_simp; try (with_reducible rfl))
  refine wpAnyE_take0 (i := 9) (v := ?v9) rfl (by kernel_rfl) (by kernel_rfl) (by kernel_rfl) (by decide) (fun _ _ _ h => h) (Or.inl ⟨by rfl, ?hy9⟩) hSS ?_
  case hy9 => (intro wz hSw; (try dsimp only at hSw); go_simp; try (with_reducible rfl))
  refine wpAnyE_take0 (i := 10) (v := ?v10) rfl (by kernel_rfl) (by kernel_rfl) (by kernel_rfl) (by decide) (fun _ _ _ h => h) (Or.inl ⟨by rfl, ?hy10⟩) hSS ?_
  case hy10 => (intro wz hSw; (try dsimp only at hSw); go_simp; try (with_reducible rfl))
  refine wpAnyE_take0 (i := 11) (v := ?v11) rfl (by kernel_rfl) (by kernel_rfl) (by kernel_rfl) (by decide) (fun _ _ _ h => h) (Or.inl ⟨by rfl, ?hy11⟩) hSS ?_
  case hy11 => (intro wz hSw; (try dsimp only at hSw); go_simp; try (with_reducible rfl))
  refine wpAnyE_take0 (i := 12) (v := ?v12) rfl (by kernel_rfl) (by kernel_rfl) (by kernel_rfl) (by decide) (fun _ _ _ h => h) (Or.inl ⟨by rfl, ?hy12⟩) hSS ?_
  case hy12 => (intro wz hSw; (try dsimp only at hSw); go_simp; try (with_reducible rfl))
  refine wpAnyE_take0 (i := 13) (v := ?v13) rfl (by kernel_rfl) (by kernel_rfl) (by kernel_rfl) (by decide) (fun _ _ _ h => h) (Or.inl ⟨by rfl, ?hy13⟩) hSS ?_
  case hy13 => (intro wz hSw; (try dsimp only at hSw); go_simp; try (with_reducible rfl))
  refine wpAnyE_take0 (i := 14) (v := ?v14) rfl (by kernel_rfl) (by kernel_rfl) (by kernel_rfl) (by decide) (fun _ _ _ h => h) (Or.inl ⟨by rfl, ?hy14⟩) hSS ?_
  case hy14 => (intro wz hSw; (try dsimp only at hSw); go_simp; try (with_reducible rfl))
  refine wpAnyE_one (i := 15) (by kernel_rfl) rfl (fun Kn hK => ?_)
  go_simp
  refine (iatG_any _ _ _ _ _ C D _ _ _ _ x U _ (ia.below (Below.refl _ _).drew) (ib.below (Below.refl _ _).drew) (sa.ox.ints.below (Below.refl _ _).drew) (iu.below (Below.refl _ _).drew) P R p1 p2 zP zQ tP tQ bK).mono ?_
  rintro ee w3 ⟨rfl, b3⟩
  rw [HY.out]
  have b3' := below_of_drew b3
  have z3 := b3'.size
  have s3 := sa.below b3'
  have bx3 := bxa.below b3'
  have jo := s3.j.o
  rw [HTN.out] at jo
  have hjb := s3.j.b.size
  have s3a := s3.alloc (.cells #[.int .i64 y] 3)
  have bx3a := bx3.alloc (.cells #[.int .i64 y] 3)
  have hSS3 : (w3.cell? ⟨Dd, 0, none⟩ = some (.slice (some ⟨B, 0, none⟩) 3 cp) ∧ w3.cell? ⟨Dd, 1, none⟩ = some (.slice ua 2 cu) ∧ w3.cell? ⟨W.heap.size, 0, none⟩ = some (.slice ga 3 gcap) ∧ w3.cell? ⟨W.heap.size, 1, none⟩ = some (.slice gc 2 gcap') ∧ w3.cell? ⟨W.heap.size, 2, none⟩ = some (.int .i64 K)) ∧ w3.cell? ⟨Dd, 2, none⟩ = some v := ⟨⟨s3.d.cell 0, s3.d.cell 1, bx3.cell 0, bx3.cell 1, bx3.cell 2⟩, s3.d.cell 2⟩
  have hSS4 : ((w3.alloc (.cells #[.int .i64 y] 3)).cell? ⟨Dd, 0, none⟩ = some (.slice (some ⟨B, 0, none⟩) 3 cp) ∧ (w3.alloc (.cells #[.int .i64 y] 3)).cell? ⟨Dd, 1, none⟩ = some (.slice ua 2 cu) ∧ (w3.alloc (.cells #[.int .i64 y] 3)).cell? ⟨W.heap.size, 0, none⟩ = some (.slice ga 3 gcap) ∧ (w3.alloc (.cells #[.int .i64 y] 3)).cell? ⟨W.heap.size, 1, none⟩ = some (.slice gc 2 gcap') ∧ (w3.alloc (.cells #[.int .i64 y] 3)).cell? ⟨W.heap.size, 2, none⟩ = some (.int .i64 K)) ∧ (w3.alloc (.cells #[.int .i64 y] 3)).cell? ⟨Dd, 2, none⟩ = some v := ⟨⟨s3a.d.cell 0, s3a.d.cell 1, bx3a.cell 0, bx3a.cell 1, bx3a.cell 2⟩, s3a.d.cell 2⟩
  dsimp only
  refine hK.out _ _ ⟨hSS3.1, fun _ => hSS3.2⟩ ?_
  clear hK hSS
  refine wpAnyE_one (i := 16) (by kernel_rfl) rfl (fun Kn hK => ?_)
  go_simp
  refine hK.out _ _ ⟨hSS4.1, fun _ => hSS4.2⟩ ?_
  clear hK
  refine wpAnyE_one (i := 17) (by kernel_rfl) rfl (fun Kn hK => ?_)
  refine step_append_lies _ (by rfl) _ _ _ (by rfl) w1.heap.size 3 i0 (.int .i64 0) 1 8 Try.underlying30 hi hz0 hz1 hz2 rfl (by decide) v tn (tl.map (Value.int .i64)) (by rfl) (jo.alloc _) ⟨w3.heap.size, 0, none⟩ 1 1 [.int .i64 y] (by rfl) rfl (news1 _ _ _) (one1 _ _) (by omega) (by unfold maxLen; omega) (by omega) (by rw [World.size_alloc]; omega) _ rfl ?_
  intro g4 cp4 w4 hown hgrow hat hlt4
  have d4 := s3.d.grown hgrow s3.nd
  have bx4 := bx3.grown hgrow (fun e => by have := HLV.out _ e; omega)
  have fd4 := d4.free 2
  have cd4 := d4.cell 2
  simp only [List.getElem?_cons_zero, List.getElem?_cons_succ] at cd4
  have s5 := s3.app hD hDB HTN.out hown hgrow hat (by rw [World.size_alloc]; omega) (by rw [World.size_alloc]; omega)
  have bx5 := bx4.setOther (show W.heap.size ≠ Dd by omega) 2 (.slice (some ⟨g4, 0, none⟩) (tn + 1) cp4)
  have hSS5 : (w4.cell? ⟨Dd, 0, none⟩ = some (.slice (some ⟨B, 0, none⟩) 3 cp) ∧ w4.cell? ⟨Dd, 1, none⟩ = some (.slice ua 2 cu) ∧ w4.cell? ⟨W.heap.size, 0, none⟩ = some (.slice ga 3 gcap) ∧ w4.cell? ⟨W.heap.size, 1, none⟩ = some (.slice gc 2 gcap') ∧ w4.cell? ⟨W.heap.size, 2, none⟩ = some (.int .i64 K)) ∧ w4.cell? ⟨Dd, 2, none⟩ = some v := ⟨⟨d4.cell 0, d4.cell 1, bx4.cell 0, bx4.cell 1, bx4.cell 2⟩, cd4⟩
  have hSS6 : (w4.setCell ⟨Dd, 2, none⟩ (.slice (some ⟨g4, 0, none⟩) (tn + 1) cp4)).cell? ⟨Dd, 0, none⟩ = some (.slice (some ⟨B, 0, none⟩) 3 cp) ∧ (w4.setCell ⟨Dd, 2, none⟩ (.slice (some ⟨g4, 0, none⟩) (tn + 1) cp4)).cell? ⟨Dd, 1, none⟩ = some (.slice ua 2 cu) ∧ (w4.setCell ⟨Dd, 2, none⟩ (.slice (some ⟨g4, 0, none⟩) (tn + 1) cp4)).cell? ⟨W.heap.size, 0, none⟩ = some (.slice ga 3 gcap) ∧ (w4.setCell ⟨Dd, 2, none⟩ (.slice (some ⟨g4, 0, none⟩) (tn + 1) cp4)).cell? ⟨W.heap.size, 1, none⟩ = some (.slice gc 2 gcap') ∧ (w4.setCell ⟨Dd, 2, none⟩ (.slice (some ⟨g4, 0, none⟩) (tn + 1) cp4)).cell? ⟨W.heap.size, 2, none⟩ = some (.int .i64 K) := ⟨s5.d.cell 0, s5.d.cell 1, bx5.cell 0, bx5.cell 1, bx5.cell 2⟩
  have zz : Touch (fun z => z = Dd ∨ v.ownBlock = some z) W (w4.setCell ⟨Dd, 2, none⟩ (.slice (some ⟨g4, 0, none⟩) (tn + 1) cp4)) :=
    Touch.setCell (S := fun z => z = Dd ∨ v.ownBlock = some z) (touch_grown (((Touch.of al).trans (Touch.of b3')).trans (Touch.of ((Below.refl _ _).alloc (Nat.le_refl _) _))) hgrow (fun z hz => .inr hz)) (.inl rfl) _
  have nf : ∀ F, F < W.heap.size → v.ownBlock ≠ some F → Value.ownBlock (.slice (some ⟨g4, 0, none⟩) (tn + 1) cp4) ≠ some F := fun F hF hne e => by
    have e' : g4 = F := by
      have : some g4 = some F := e
      simpa using this
    rcases hat with h | h
    · exact hne (by rw [h, e'])
    · rw [World.size_alloc] at h; omega
  refine hK.out _ _ ⟨hSS5.1, fun _ => hSS5.2⟩ ?_
  clear hK
  refine wpAnyE_one (i := 18) (by kernel_rfl) rfl (fun Kn hK => ?_)
  go_simp
  refine hK.out _ _ ⟨hSS5.1, fun _ => hSS5.2⟩ ?_
  clear hK
  refine wpAnyE_one (i := 19) (by kernel_rfl) rfl (fun Kn hK => ?_)
  go_simp
  refine hK.out _ _ ⟨hSS5.1, fun _ => hSS5.2⟩ ?_
  clear hK
  refine wpAnyE_one (i := 20) (by kernel_rfl) rfl (fun Kn hK => ?_)
  go_simp
  refine hK.out _ _ ⟨hSS6, fun h => absurd (show true = false from h) (by decide)⟩ ?_
  clear hK
  refine wpAnyE_done (by kernel_rfl) ?_ _
  clear b3 b3' sa bxa ia ib iu bx3 bx4 bx5 hSS3 hSS4 hSS5 hSS6 s3 s3a bx3a al d4 fd4 cd4 hown hgrow jo
  go_wp2
  go_ret
  exact ⟨rfl, ⟨_, s5, nf⟩, zz⟩

end Go.Proofs.Ytngfbcegcekbbaa
namespace Go.Proofs.Ytngfbcegcekbbaa
open Go.RowKit
set_option linter.unusedVariables false
set_option maxRecDepth 100000

theorem as_nil_sign (w : World) : (Instr.typeAssert .nilIface 20 128 true).run Try.prog w = .ok (.tuple #[.agg #[], .bool false]) w := by kernel_rfl
theorem as_sign_sign (w : World) : (Instr.typeAssert (.iface 128 (.agg #[])) 20 128 true).run Try.prog w = .ok (.tuple #[.agg #[], .bool true]) w := by kernel_rfl
theorem ne_nil_nil (w : World) : (binOp .neq 20 .nilIface .nilIface).run Try.prog w = .ok (.bool false) w := by kernel_rfl
theorem ne_sign_nil (w : World) : (binOp .neq 20 (.iface 128 (.agg #[])) .nilIface).run Try.prog w = .ok (.bool true) w := by kernel_rfl

theorem catch_idle (F : Nat) (b : Bool) (w : World) (hc : w.cell? ⟨F, 0, none⟩ = some (.bool b)) (hz : w.frozen? ⟨F, 0, none⟩ = false) :
    CallsD Try.prog 93 #[.pointer (some ⟨F, 0, none⟩)] .returning w fun e u' w' => e = .returned (.tuple #[]) ∧ u' = .returning ∧ w' = w.setCell ⟨F, 0, none⟩ (.bool false) := by
  have h1 := as_nil_sign
  have h2 := ne_nil_nil
  refine callsD_of_wpS Try.func93 rfl fun c₀ cs hu => ?_
  apply wpS_seq
  apply wpS_region
  simp [wpOpsS, go_sem, recoverD, hu, Try.ntmps93, Exit.thenS]
  refine wpS_of_wp ?_
  go_wp2
  cases c₀
  simp_all [bodyPostS, results, Try.results93]

set_option maxHeartbeats 1600000 in
theorem catch_stop (F : Nat) (b : Bool) (older : List PanicEntry) (w : World) (hc : w.cell? ⟨F, 0, none⟩ = some (.bool b)) (hz : w.frozen? ⟨F, 0, none⟩ = false) :
    CallsD Try.prog 93 #[.pointer (some ⟨F, 0, none⟩)] (.panicking ({ v := .iface 128 (.agg #[]), recovered := false } :: older)) w fun e u' w' => e = .returned (.tuple #[]) ∧ u' = .panicking ({ v := .iface 128 (.agg #[]), recovered := true } :: older) ∧ w' = w.setCell ⟨F, 0, none⟩ (.bool true) := by
  have h1 := as_sign_sign
  have h2 := ne_sign_nil
  refine callsD_of_wpS Try.func93 rfl fun c₀ cs hu => ?_
  apply wpS_seq
  apply wpS_region
  simp [wpOpsS, go_sem, recoverD, hu, Try.ntmps93, Exit.thenS]
  refine wpS_of_wp ?_
  go_wp2
  simp [bodyPostS, results, Try.results93]

theorem DR.other {w1 W : World} {Dd B cp : Nat} {ua : Option Addr} {cu : Nat} {v : Value} {x tl : List Int} (s : DR w1 Dd B cp ua cu v x tl W) {F : Nat} (h1 : w1.heap.size ≤ F) (h2 : Dd ≠ F) (h3 : F ≠ B) (nF : v.ownBlock ≠ some F) (i : Nat) (y : Value) : DR w1 Dd B cp ua cu v x tl (W.setCell ⟨F, i, none⟩ y) :=
  ⟨s.b.setCell h1 _, s.d.setOther h2 _ _, s.ox.setOther (fun _ => h3) _ _, s.j.set h1 nF _ _, s.ne, s.nd⟩

set_option maxHeartbeats 6400000 in
theorem stops_any (w1 : World) (Dd B cp : Nat) (ua : Option Addr) (cu : Nat) (v : Value) (ad : Option Addr) (N : Nat) (ls : List LV) (V U : List Int) (sa : Option Addr) (scap G : Nat) (W : World)
    (hN : ls.length = N) (h6 : N ≤ 6) (hF : LinesG w1 ad ls) (hall : ls.all LV.ok = true) (hsa : 0 < N → sa = some ⟨G, 0, none⟩) (hst : ∀ i, i < N → w1.cell? ⟨G, i, none⟩ = some (stepV (ls[i]?.getD noLV))) (iU : Ints w1 ua 2 U) (bU : bnd 9 U) (bV : bnd 10000 V) (hVL : V.length = 3)
    (s0 : DR w1 Dd B cp ua cu v V [] W) (hB : w1.heap.size ≤ B) (hD : w1.heap.size ≤ Dd) (hDB : Dd ≠ B) :
    Calls Try.prog 65 #[.pointer (some ⟨Dd, 0, none⟩), .slice sa N scap] W fun e w' => e = .returned (.bool (runL U ls V).1) ∧ Below w1.heap.size w1 w' ∧ ((runL U ls V).1 = false → ∃ v' , DR w1 Dd B cp ua cu v' (runL U ls V).2.1 (runL U ls V).2.2 w' ∧ (runL U ls V).2.2.length ≤ 100) := by
  have HN : Hid (ls.length = N) := hN
  have HO : Hid (ls.all LV.ok = true) := hall
  have HST : Hid _ := hst
  have HSA : Hid _ := hsa
  clear hN hall hst hsa
  have hmf : ∀ (fn : Fn) (first cap : Array Value) (w : World), (Instr.makeFunc fn first cap).run Try.prog w = .ok (.func fn first cap) w := fun _ _ _ _ => rfl
  have sF := s0.alloc (.cells #[.bool false] 4)
  have cF := Cel.new W [.bool false] 4
  have nF : v.ownBlock ≠ some W.heap.size := fun e => by have := (s0.j.o.lt _ e).2; omega
  have lB := s0.ox.lt (by omega)
  have lD := s0.d.lt
  have HAT : Hid (At U ls V 0 V []) := At.start bV hVL
  clear s0
  go_enter_defers Try.func65, Try.ntmps65
  go_wp2_with fail
  go_loopw [5] (fun i wr => ∃ (k : Nat) (x tl : List Int) (v' : Value), k ≤ 12 ∧ i = .int .i64 k ∧ At U ls V k x tl ∧ DR w1 Dd B cp ua cu v' x tl wr ∧ Cel wr W.heap.size [.bool false] 4 ∧ v'.ownBlock ≠ some W.heap.size) (fun i _ => N - (intOf i).toNat)
  case atStart => exact ⟨0, V, [], v, by omega, rfl, HAT.out, sF, cF, nF⟩
  case round =>
    clear sF cF nF HAT
    obtain ⟨k, x, tl, v', hk12, rfl, hAt, s, cF, nF⟩ := hrel
    have HAT : Hid (At U ls V k x tl) := hAt
    clear hAt
    have c0 := cF.cell 0
    have f0 := cF.free 0
    simp only [List.getElem?_cons_zero] at c0
    have zw := s.b.size
    have z1 : w1.heap.size ≤ W.heap.size := by omega
    by_cases hlt : k < N
    · obtain ⟨b, off, rfl, hc, hAtL⟩ := (hF.below s.b) k (by rw [HN.out]; exact hlt)
      have hok := allL_at (k := k) HO.out (by rw [HN.out]; exact hlt)
      have hkl : Hid (k < ls.length) := by show k < ls.length; rw [HN.out]; exact hlt
      have h6l : Hid (ls.length ≤ 6) := by show ls.length ≤ 6; rw [HN.out]; exact h6
      have bX := HAT.out.b (by omega)
      have bd6 := bd_six (n := k) (by omega)
      have bdp := bd_pos k
      obtain rfl := HSA.out (by omega)
      have hstep : wr.cell? ⟨G, k, none⟩ = some (stepV (ls[k]?.getD noLV)) := by
        have h0 := HST.out k hlt
        rw [s.b.cell (p := ⟨G, k, none⟩) (block_lt h0)]; exact h0
      generalize HG : ls[k]?.getD noLV = g at *
      have HG' : Hid (ls[k]?.getD noLV = g) := HG
      clear HG hc
      obtain ⟨gk, gp, gz, ⟨ga, gn, gcap, gc, gm, gcap', gK, gC, gD⟩⟩ := g
      obtain ⟨iC, iD, hn, hm⟩ := hAtL
      simp only at iC iD hn hm
      have iUr := iU.below s.b
      have hok' : lineB gk gp gz gn gm gC gD gK = true := hok
      clear hok
      by_cases hk1 : gk = 1
      · subst hk1
        obtain ⟨z1', z2', hsm⟩ := line_one hok'
        obtain ⟨rfl, rfl, bC, bD, bK1, bK2⟩ := small_elim hsm
        obtain ⟨q1, q2, q3, q4⟩ := small_at bC bD bK1 bK2 bX bU (by omega)
        obtain ⟨y, hy⟩ : ∃ y, atV gC gD gK x U = y := ⟨_, rfl⟩
        have HY : Hid (atV gC gD gK x U = y) := hy
        have HS : Hid (∀ j, (j = if y < 0 then k + 1 + gz.toNat else k + 1) → At U ls V j x tl) := fun j hj => HAT.out.skip hkl.out h6l.out HG'.out rfl (by rw [hj, ← hy]; rfl)
        have hstep' : wr.cell? ⟨G, k, none⟩ = some (.iface 140 (.agg #[.int .i64 gz, .slice ga 3 gcap, .slice gc 2 gcap', .int .i64 gK])) := by rw [hstep]; rfl
        clear hy hok' hsm bX q3 q4 hstep
        by_cases hneg : y < 0
        · go_wp2_with fail
          refine (leave_test w1 Dd B cp ua cu v' x tl _ _ _ _ _ _ gC gD U y _ _ _ s iC iD iUr HY.out q1 q2 (by omega) (by omega) (by omega) (by omega) ⟨by omega, by omega⟩).mono ?_
          rintro e w3 ⟨rfl, b3⟩
          rw [if_pos hneg]
          have s3 := s.below b3
          have cF3 := cF.below b3
          clear b3 s iC iD iUr q1 q2 c0 f0 cF hstep'
          go_wp2
          go_roundw
          case rel => exact ⟨k + 1 + gz.toNat, x, tl, v', by omega, by go_num, HS.out _ (by rw [if_pos hneg]), s3, cF3, nF⟩
          case measure => simp [intOf]; omega
        · go_wp2_with fail
          refine (leave_test w1 Dd B cp ua cu v' x tl _ _ _ _ _ _ gC gD U y _ _ _ s iC iD iUr HY.out q1 q2 (by omega) (by omega) (by omega) (by omega) ⟨by omega, by omega⟩).mono ?_
          rintro e w3 ⟨rfl, b3⟩
          rw [if_neg (by omega)]
          have s3 := s.below b3
          have cF3 := cF.below b3
          clear b3 s iC iD iUr q1 q2 c0 f0 cF hstep'
          go_wp2
          go_roundw
          case rel => exact ⟨k + 1, x, tl, v', by omega, by go_num, HS.out _ (by rw [if_neg (by omega)]), s3, cF3, nF⟩
          case measure => simp [intOf]; omega
      by_cases hk2 : gk = 2
      · subst hk2
        obtain ⟨z1', z2', hsm⟩ := line_two hok'
        obtain ⟨rfl, rfl, bC, bD, bK1, bK2⟩ := small_elim hsm
        obtain ⟨q1, q2, q3, q4⟩ := small_at bC bD bK1 bK2 bX bU (by omega)
        obtain ⟨pn, rfl⟩ := Int.eq_ofNat_of_zero_le z1'
        have hpn : pn < 3 := by omega
        obtain ⟨xp, hxp⟩ : ∃ xp, x[pn]?.getD 0 = xp := ⟨_, rfl⟩
        have HXP : Hid (x[pn]?.getD 0 = xp) := hxp
        obtain ⟨r1, r2⟩ := bX pn
        rw [hxp] at r1 r2
        obtain ⟨y, hy⟩ : ∃ y, atV gC gD gK x U = y := ⟨_, rfl⟩
        have HY : Hid (atV gC gD gK x U = y) := hy
        rw [hy] at q3 q4
        have HS : Hid (At U ls V (k + 1) (x.set pn (xp + y)) tl) := by
          have := HAT.out.add hkl.out h6l.out HG'.out rfl (by show _ ≤ atV gC gD gK x U; rw [hy]; omega) (by show atV gC gD gK x U ≤ _; rw [hy]; omega)
          simp only [Int.toNat_natCast, hxp] at this
          rw [show atF x U ⟨ga, 3, gcap, gc, 2, gcap', gK, gC, gD⟩ = y from hy] at this
          exact this
        have hstep' : wr.cell? ⟨G, k, none⟩ = some (.iface 142 (.agg #[.int .i64 (pn : Int), .slice ga 3 gcap, .slice gc 2 gcap', .int .i64 gK])) := by rw [hstep]; rfl
        clear hy hxp hok' hsm bX hstep
        go_wp2_with fail
        refine (leave_add w1 Dd B cp ua cu v' x tl pn xp _ _ _ _ _ gC gD U y _ _ _ s iC iD iUr HY.out q1 q2 (by omega) (by omega) (by omega) (by omega) ⟨by omega, by omega⟩ hpn HXP.out (by omega) (by omega) (by omega) (by omega) hB hDB).mono ?_
        rintro e w3 ⟨rfl, s3, t3⟩
        have cF3 := cF.touch t3 (fun e => by omega)
        clear t3 s iC iD iUr q1 q2 c0 f0 cF hstep'
        go_wp2
        go_roundw
        case rel => exact ⟨k + 1, _, tl, v', by omega, by go_num, HS.out, s3, cF3, nF⟩
        case measure => simp [intOf]; omega
      by_cases hk3 : gk = 3
      · subst hk3
        have hsm := line_three hok'
        obtain ⟨rfl, rfl, bC, bD, bK1, bK2⟩ := small_elim hsm
        obtain ⟨q1, q2, q3, q4⟩ := small_at bC bD bK1 bK2 bX bU (by omega)
        obtain ⟨y, hy⟩ : ∃ y, atV gC gD gK x U = y := ⟨_, rfl⟩
        have HY : Hid (atV gC gD gK x U = y) := hy
        have HS : Hid (At U ls V (k + 1) x (tl ++ [y])) := by
          have := HAT.out.tell hkl.out h6l.out HG'.out rfl
          rw [show atF x U ⟨ga, 3, gcap, gc, 2, gcap', gK, gC, gD⟩ = y from hy] at this
          exact this
        have ht := HAT.out.t
        have hstep' : wr.cell? ⟨G, k, none⟩ = some (.iface 144 (.agg #[.slice ga 3 gcap, .slice gc 2 gcap', .int .i64 gK])) := by rw [hstep]; rfl
        have lF := cF.lt
        clear hy hok' hsm bX q3 q4 hstep
        go_wp2_with fail
        refine (leave_tell w1 Dd B cp ua cu v' x tl tl.length _ _ _ _ _ gC gD U y _ _ _ s iC iD iUr HY.out q1 q2 (by omega) (by omega) (by omega) (by omega) ⟨by omega, by omega⟩ rfl (by omega) hB hD hDB).mono ?_
        rintro e w3 ⟨rfl, ⟨v2, s3, nf⟩, t3⟩
        have cF3 := cF.touch t3 (fun e => by
          rcases e with e | e
          · omega
          · exact nF e)
        have nF3 := nf _ lF nF
        clear t3 s iC iD iUr q1 q2 c0 f0 cF hstep' nf
        go_wp2
        go_roundw
        case rel => exact ⟨k + 1, x, tl ++ [y], v2, by omega, by go_num, HS.out, s3, cF3, nF3⟩
        case measure => simp [intOf]; omega
      have hk4 : gk = 4 := by
        apply Classical.byContradiction
        intro h4
        simp [lineB, hk1, hk2, hk3, h4] at hok'
      subst hk4
      have hstop : (runL U ls V).1 = true := HAT.out.stop hkl.out h6l.out HG'.out hk1 hk2 hk3
      have HSTOP : Hid ((runL U ls V).1 = true) := hstop
      have hstep' : wr.cell? ⟨G, k, none⟩ = some (.iface 145 (.agg #[])) := by rw [hstep]; rfl
      clear hstop hstep hok' bX
      go_wp2_with fail
      refine (leave_stop _ _).mono ?_
      rintro e w3 ⟨rfl, b3⟩
      have s3 := s.below b3
      have cF3 := cF.below b3
      clear b3 s cF c0 f0
      go_wp2
      refine leaves_cons (f := 93) (args := #[.pointer (some ⟨W.heap.size, 0, none⟩)]) (by simp) (by simp [go_sem]) ?_
      refine (catch_stop W.heap.size false [] _ (cF3.cell 0) (cF3.free 0)).mono ?_
      rintro e u' w'' ⟨rfl, rfl, rfl⟩
      have cF4 := (cF3.set 0 (.bool true)).cell 0
      simp only [List.set_cons_zero, List.getElem?_cons_zero] at cF4
      have b4 : Below w1.heap.size w1 (w3.setCell ⟨W.heap.size, 0, none⟩ (.bool true)) := s3.b.setCell z1 _
      simp [Leaves, settle, results, Try.results65, go_sem, cF4]
      exact ⟨HSTOP.out, b4, fun h => by rw [HSTOP.out] at h; cases h⟩
    · have hd := HAT.out.done (by rw [HN.out]; omega)
      have HD : Hid (runL U ls V = (false, x, tl)) := hd
      have ht := HAT.out.t
      clear hd
      go_wp2
      have cF1 := cF.set 0 (.bool false)
      refine leaves_cons (f := 93) (args := #[.pointer (some ⟨W.heap.size, 0, none⟩)]) (by simp) (by simp [go_sem]) ?_
      refine (catch_idle W.heap.size false _ (cF1.cell 0) (cF1.free 0)).mono ?_
      rintro e u' w'' ⟨rfl, rfl, rfl⟩
      have cF2 := (cF1.set 0 (.bool false)).cell 0
      have s2 := (s.other (F := W.heap.size) z1 (by omega) (by omega) nF 0 (.bool false)).other (F := W.heap.size) z1 (by omega) (by omega) nF 0 (.bool false)
      simp only [List.set_cons_zero, List.getElem?_cons_zero] at cF2
      simp [Leaves, settle, results, Try.results65, go_sem, cF2]
      rw [HD.out]
      exact ⟨rfl, s2.b, fun _ => ⟨⟨v', s2⟩, by show tl.length ≤ 100; omega⟩⟩

end Go.Proofs.Ytngfbcegcekbbaa
namespace Go.Proofs.Ytngfbcegcekbbaa
open Go.RowKit
set_option linter.unusedVariables false
set_option maxRecDepth 100000

theorem JS.open {w W : World} {v : Value} {ls : List LV} {N : Nat} (j : JS w v (ls.map stepV) W) (hN : ls.length = N) : ∃ sa cap G, v = .slice sa N cap ∧ (0 < N → sa = some ⟨G, 0, none⟩) ∧ ∀ i, i < N → W.cell? ⟨G, i, none⟩ = some (stepV (ls[i]?.getD noLV)) := by
  have hl : (ls.map stepV).length = N := by rw [List.length_map, hN]
  rcases j.o.2 with ⟨hv, h⟩ | ⟨g, cap', cur, hv, hg, hh, hcl, _, hs, ht⟩
  · rw [hl] at h
    subst h
    exact ⟨none, 0, 0, hv, fun h => by omega, fun i h => by omega⟩
  · have o := j.o
    rw [hl] at hv o
    rw [hv] at o
    refine ⟨some ⟨g, 0, none⟩, cap', g, hv, fun _ => rfl, fun i hi => ?_⟩
    rw [o.cellAt i (by omega), List.getElem?_map, List.getElem?_eq_getElem (by omega)]
    rfl

set_option maxHeartbeats 6400000 in
theorem irun_any (ad : Option Addr) (N cap : Nat) (ls : List LV) (v : Option Addr) (p cv : Nat) (V : List Int) (u : Option Addr) (q cu : Nat) (U : List Int) (w : World) (hN : ls.length = N) (hF : LinesG w ad ls) (hN1 : N ≤ 1048576) (hV : Ints w v p V) (hU : Ints w u q U) (hp : p ≤ 1048576) (hq : q ≤ 1048576) :
    Calls Try.prog 32 #[.slice ad N cap, .slice v p cv, .slice u q cu] w fun e w' => ResD w w' e (runCode N ls p V q U) (runTells N ls p V q U) (runPots N ls p V q U) := by
  have rc0 := Cel.new w [.int .i64 0, .slice none 0 0] 57
  have B0 : Below w.heap.size w (w.alloc (.cells #[.int .i64 0, .slice none 0 0] 57)) := (Below.refl _ _).alloc (Nat.le_refl _) _
  have HN : Hid (ls.length = N) := hN
  clear hN
  obtain ⟨rb, hrb⟩ : ∃ rb, rb = actB N ls := ⟨_, rfl⟩
  obtain ⟨vb, hvb⟩ : ∃ vb, vb = okN 3 10000 p V := ⟨_, rfl⟩
  obtain ⟨ub, hub⟩ : ∃ ub, ub = okN 2 9 q U := ⟨_, rfl⟩
  have HR : Hid (rb = actB N ls) := hrb
  have HV : Hid (vb = okN 3 10000 p V) := hvb
  have HU : Hid (ub = okN 2 9 q U) := hub
  clear hrb hvb hub
  go_enter Try.func32, Try.ntmps32
  go_wp2_with fail
  refine (isteps_any _ _ _ ls _ HN.out (hF.below B0) hN1).mono ?_
  rintro e w1 ⟨sv, rfl, b1, hj⟩
  have rc1 := rc0.below b1
  have B1 := B0.trans (b1.mono B0.size)
  have hlt1 := rc1.lt
  rw [← HR.out] at hj ⊢
  clear b1 rc0 B0
  obtain ⟨d0, d1, f0, f1⟩ := rc1.pair
  cases rb
  · have E : Hid _ := run_no (p := p) (q := q) (V := V) (U := U) (show runB N ls p V q U = false by rw [runB, ← HR.out]; rfl)
    go_wp2
    refine bodyPost_ret (v := .tuple #[resV 0 none 0 0, .slice none 0 0]) (by simp [results, Try.results32, go_sem, d0, d1]) rfl ?_
    obtain ⟨e1, e2, e3⟩ := E.out
    rw [e1, e2, e3]
    exact ⟨none, 0, 0, 0, _, 0, 0, 0, rfl, rfl, rfl, (B1.setCell (by simp only []; omega) _).setCell (by simp only []; omega) _, OwnX.nil _ _ _, OwnX.nil _ _ _, fun h => by omega, fun h => by omega, fun h => by omega⟩
  have js : Hid _ := hj rfl
  clear hj
  go_wp2_with fail
  refine (ival_any _ _ _ V _ (hV.below B1) hp).mono ?_
  rintro e w2 ⟨rfl, hw2⟩
  rw [← HV.out, hw2]
  clear hw2
  cases vb
  · have E : Hid _ := run_no (p := p) (q := q) (V := V) (U := U) (show runB N ls p V q U = false by rw [runB, ← HR.out, ← HV.out]; rfl)
    go_wp2
    refine bodyPost_ret (v := .tuple #[resV 0 none 0 0, .slice none 0 0]) (by simp [results, Try.results32, go_sem, d0, d1]) rfl ?_
    obtain ⟨e1, e2, e3⟩ := E.out
    rw [e1, e2, e3]
    exact ⟨none, 0, 0, 0, _, 0, 0, 0, rfl, rfl, rfl, (B1.setCell (by simp only []; omega) _).setCell (by simp only []; omega) _, OwnX.nil _ _ _, OwnX.nil _ _ _, fun h => by omega, fun h => by omega, fun h => by omega⟩
  go_wp2_with fail
  refine (iarg_any _ _ _ U _ (hU.below B1) hq).mono ?_
  rintro e w2 ⟨rfl, hw2⟩
  rw [← HU.out, hw2]
  clear hw2
  cases ub
  · have E : Hid _ := run_no (p := p) (q := q) (V := V) (U := U) (show runB N ls p V q U = false by rw [runB, ← HR.out, ← HV.out, ← HU.out]; rfl)
    go_wp2
    refine bodyPost_ret (v := .tuple #[resV 0 none 0 0, .slice none 0 0]) (by simp [results, Try.results32, go_sem, d0, d1]) rfl ?_
    obtain ⟨e1, e2, e3⟩ := E.out
    rw [e1, e2, e3]
    exact ⟨none, 0, 0, 0, _, 0, 0, 0, rfl, rfl, rfl, (B1.setCell (by simp only []; omega) _).setCell (by simp only []; omega) _, OwnX.nil _ _ _, OwnX.nil _ _ _, fun h => by omega, fun h => by omega, fun h => by omega⟩
  have HB : Hid (runB N ls p V q U = true) := by show _ = _; rw [runB, ← HR.out, ← HV.out, ← HU.out]; rfl
  obtain ⟨h6, hall⟩ := actB_six HR.out.symm
  have HO : Hid (ls.all LV.ok = true) := hall
  obtain ⟨rfl, bV⟩ := okN_nat (c := 3) (by omega) HV.out.symm
  obtain ⟨rfl, bU⟩ := okN_nat (c := 2) (by omega) HU.out.symm
  have HVL : Hid (V.length = 3) := hV.1
  obtain ⟨sa, scap, G, rfl, hsa, hst⟩ := js.out.open HN.out
  have HSA : Hid _ := hsa
  have HST : Hid _ := hst
  clear hsa hst js hall
  go_wp2_with fail
  refine (clone_any _ _ _ V _ (hV.below B1) (by omega) (by omega)).mono ?_
  rintro e w2 ⟨r, rfl, j⟩
  have rc2 := rc1.below j.b
  have B2 := B1.trans (j.b.mono B1.size)
  have jb := j.b
  obtain ⟨x0, cx, B, rfl, hX, hB⟩ := j.ownx HVL.out
  have hB' := hB (by omega)
  obtain ⟨eB, _, _⟩ := hX.pos (by omega)
  subst eB
  have lB := hX.lt (by omega)
  have s0 : DR w1 w2.heap.size B cx u cu (.slice none 0 0) V [] (w2.alloc (.cells #[.slice (some ⟨B, 0, none⟩) 3 cx, .slice u 2 cu, .slice none 0 0] 96)) := by
    refine ⟨jb.alloc jb.size _, Cel.new w2 _ _, hX.alloc _, ⟨jb.alloc jb.size _, World.ownsRow_nil _ _ _ _⟩, ?_, ?_⟩ <;> (intro h; cases h)
  have rc2a := rc2.alloc (.cells #[.slice (some ⟨B, 0, none⟩) 3 cx, .slice u 2 cu, .slice none 0 0] 96)
  have rc1' : Hid (Cel w1 w.heap.size [.int .i64 0, .slice none 0 0] 57) := rc1
  clear d0 d1 f0 f1 rc1 j hB hX rc2
  have z2 := jb.size
  go_wp2_with fail
  refine (stops_any w1 w2.heap.size B cx u cu (.slice none 0 0) ad N ls V U sa scap G _ HN.out h6 (hF.below B1) HO.out HSA.out HST.out (hU.below B1) bU bV HVL.out s0 hB' z2 (by omega)).mono ?_
  rintro e w3 ⟨rfl, b3, hgo⟩
  have B3 : Below w.heap.size w w3 := B1.trans (b3.mono B1.size)
  obtain ⟨cw0, cw1⟩ : w1.heap.size ≤ w3.heap.size ∧ w.heap.size < w1.heap.size := ⟨b3.size, hlt1⟩
  have rc3 : Cel w3 w.heap.size [.int .i64 0, .slice none 0 0] 57 := by
    have := rc1'.out
    unfold Cel at *
    rw [b3.block _ hlt1]; exact this
  obtain ⟨⟨stp, x, tl⟩, hrun⟩ : ∃ r, runL U ls V = r := ⟨_, rfl⟩
  rw [hrun] at hgo ⊢
  have HRUN : Hid (runL U ls V = (stp, x, tl)) := hrun
  clear hrun s0 rc2a
  obtain ⟨d0, d1, f0, f1⟩ := rc3.pair
  cases stp
  case true =>
    have E : Hid _ := run_stop HB.out (by rw [HRUN.out])
    clear hgo
    go_wp2_with fail
    refine (clone_any _ _ _ V _ (hV.below B3) (by omega) (by omega)).mono ?_
    rintro e w4 ⟨r, rfl, j⟩
    have rc4 := rc3.below j.b
    obtain ⟨x4, cx4, B4, rfl, hX4, hB4⟩ := j.ownx HVL.out
    have bb := B3.trans (j.b.mono B3.size)
    clear d0 d1 f0 f1
    obtain ⟨d0, d1, f0, f1⟩ := rc4.pair
    have hlt4 := rc4.lt
    clear rc4 j rc3
    go_wp2
    refine bodyPost_ret (v := .tuple #[resV 2 none 0 0, .slice x4 3 cx4]) (by simp [results, Try.results32, go_sem, d0, d1]) rfl ?_
    obtain ⟨e1, e2, e3⟩ := E.out
    rw [e1, e2, e3]
    refine ⟨none, 0, 0, 0, x4, 3, cx4, B4, rfl, rfl, HVL.out, ?_, OwnX.nil _ _ _, ?_, fun h => by omega, fun h => by have := hB4 h; omega, fun h => by omega⟩
    · exact (bb.setCell (Nat.le_refl _) _).setCell (Nat.le_refl _) _
    · exact (hX4.setOther (fun h => by have := hB4 h; omega) _ _).setOther (fun h => by have := hB4 h; omega) _ _
  case false =>
    have E : Hid _ := run_go HB.out HRUN.out
    obtain ⟨v', s3, htl⟩ := hgo rfl
    clear hgo
    obtain ⟨tn, htn⟩ : ∃ tn, tl.length = tn := ⟨_, rfl⟩
    have HTN : Hid (tl.length = tn) := htn
    obtain ⟨ta, ctt, BT, hv, hT, hBT⟩ := s3.j.ownx HTN.out
    have hne : 0 < tn → BT ≠ B := fun h0 e => by
      obtain ⟨e1, _, _⟩ := hT.pos h0
      exact s3.ne (by rw [hv, e1, e]; rfl)
    have ox := s3.ox
    have c0 := s3.d.cell 0
    have c2 := s3.d.cell 2
    simp only [List.getElem?_cons_zero, List.getElem?_cons_succ] at c0 c2
    clear htn s3
    subst hv
    go_wp2_with fail
    refine (done_any _ _ _ _ B _ _ _ BT V x tl _ (hV.below B3) ox hT hne (w.heap.size + 1) (fun h => by have := hBT h; omega) (by omega) (by omega)).mono ?_
    rintro e w6 ⟨ra, rn, rcap, RB1, pb, pm, pcap, RB2, rfl, L1, L2, b6, O1, O2, y1, y2, y3⟩
    have rc6 := rc3.below b6
    have b66 := B3.trans (b6.mono B3.size)
    have hlt6 := rc6.lt
    clear d0 d1 f0 f1
    obtain ⟨d0, d1, f0, f1⟩ := rc6.pair
    clear rc6 rc3 ox hT c0 c2
    go_wp2
    refine bodyPost_ret (v := .tuple #[resV (endCode x) ra rn rcap, .slice pb pm pcap]) (by simp [results, Try.results32, go_sem, d0, d1]) rfl ?_
    obtain ⟨e1, e2, e3⟩ := E.out
    rw [e1, e2, e3]
    refine ⟨ra, rn, rcap, RB1, pb, pm, pcap, RB2, rfl, L1, L2, ?_, ?_, ?_, fun h => by have := y1 h; omega, fun h => by have := y2 h; omega, y3⟩
    · exact (b66.setCell (Nat.le_refl _) _).setCell (Nat.le_refl _) _
    · exact (O1.setOther (fun h => by have := y1 h; omega) _ _).setOther (fun h => by have := y1 h; omega) _ _
    · exact (O2.setOther (fun h => by have := y2 h; omega) _ _).setOther (fun h => by have := y2 h; omega) _ _

end Go.Proofs.Ytngfbcegcekbbaa
namespace Go.Proofs.Ytngfbcegcekbbaa
open Go.RowKit
set_option linter.unusedVariables false

theorem two_of {A : List Int} (h : A.length = 2) : ∃ x y, A = [x, y] := by
  match A, h with
  | [x, y], _ => exact ⟨x, y, rfl⟩
theorem three_of {A : List Int} (h : A.length = 3) : ∃ x y z, A = [x, y, z] := by
  match A, h with
  | [x, y, z], _ => exact ⟨x, y, z, rfl⟩
/-- Within what a form's numbers may be. -/
def inM (x : Int) : Prop := -10000000 ≤ x ∧ x ≤ 10000000
theorem okP_of {x y z s t K : Int} (hx : inM x) (hy : inM y) (hz : inM z) (hs : inM s) (ht : inM t) (hK : inM K) : okP ([x, y, z], [s, t], K) = true := by
  unfold inM at *
  simp [okP, formB, okN, allB, inB]
  omega
theorem okP_shape {f : Frm} (h : okP f = true) : ∃ x y z s t K, f = ([x, y, z], [s, t], K) ∧ inM x ∧ inM y ∧ inM z ∧ inM s ∧ inM t ∧ inM K := by
  obtain ⟨C, D, K⟩ := f
  obtain ⟨l1, l2, b1, b2, b3, b4⟩ := formB_elim h
  obtain ⟨x, y, z, rfl⟩ := three_of l1
  obtain ⟨s, t, rfl⟩ := two_of l2
  have c0 := b1 0
  have c1 := b1 1
  have c2 := b1 2
  have d0 := b2 0
  have d1 := b2 1
  simp only [List.getElem?_cons_zero, List.getElem?_cons_succ, Option.getD_some] at c0 c1 c2 d0 d1
  exact ⟨x, y, z, s, t, K, rfl, c0, c1, c2, d0, d1, ⟨b3, b4⟩⟩
theorem okP_no {x y z s t K : Int} (h : okP ([x, y, z], [s, t], K) = true) : inM x ∧ inM y ∧ inM z ∧ inM s ∧ inM t ∧ inM K := by
  obtain ⟨x', y', z', s', t', K', e, h⟩ := okP_shape h
  simp only [Prod.mk.injEq, List.cons.injEq, and_true] at e
  obtain ⟨⟨rfl, rfl, rfl⟩, ⟨rfl, rfl⟩, rfl⟩ := e
  exact h
theorem timP_no {f : Frm} {k : Int} (h : timB f k = false) : timP f k = ([], [], 0) := by unfold timP; rw [h]; rfl
theorem timP_yes {f : Frm} {k : Int} (h : timB f k = true) : timP f k = (mulL k f.1, mulL k f.2.1, k * f.2.2) := by unfold timP; rw [h]; rfl
theorem timB_ok {f : Frm} {k : Int} (h : timB f k = true) : okP f = true ∧ -10000000 ≤ k ∧ k ≤ 10000000 := by
  unfold timB timOk at h
  simp only [Bool.and_eq_true] at h
  exact ⟨h.1.1, inB_iff.1 h.1.2⟩
theorem timB_not {f : Frm} {k : Int} (h : okP f = false) : timB f k = false := by
  unfold okP at h
  unfold timB timOk
  rw [h]; rfl
theorem tim_shape {x y z s t K k : Int} (h : okP ([x, y, z], [s, t], K) = true) (h1 : -10000000 ≤ k) (h2 : k ≤ 10000000) (h3 : okP ([k * x, k * y, k * z], [k * s, k * t], k * K) = true) : timP ([x, y, z], [s, t], K) k = ([k * x, k * y, k * z], [k * s, k * t], k * K) := by
  have hb : timB ([x, y, z], [s, t], K) k = true := by
    unfold timB timOk
    unfold okP at h h3
    rw [h, inB_iff.2 ⟨h1, h2⟩]
    exact h3
  rw [timP_yes hb]
  rfl
theorem tim_one {f : Frm} (h : okP f = true) : timP f 1 = f := by
  obtain ⟨x, y, z, s, t, K, rfl, _⟩ := okP_shape h
  have e := tim_shape (k := 1) h (by omega) (by omega) (by simpa using h)
  simpa using e
theorem tim_nil {f : Frm} (h : okP f = true) : timP f 0 = zeroP := by
  obtain ⟨x, y, z, s, t, K, rfl, _⟩ := okP_shape h
  have e := tim_shape (k := 0) h (by omega) (by omega) (by simp; decide)
  simpa [zeroP] using e
theorem tim_neg {x y z s t K : Int} (h : okP ([x, y, z], [s, t], K) = true) : timP ([x, y, z], [s, t], K) (-1) = ([-x, -y, -z], [-s, -t], -K) ∧ okP ([-x, -y, -z], [-s, -t], -K) = true := by
  obtain ⟨a1, a2, a3, a4, a5, a6⟩ := okP_no h
  have h' : okP ([-x, -y, -z], [-s, -t], -K) = true := okP_of (by unfold inM at *; omega) (by unfold inM at *; omega) (by unfold inM at *; omega) (by unfold inM at *; omega) (by unfold inM at *; omega) (by unfold inM at *; omega)
  have e := tim_shape (k := -1) h (by omega) (by omega) (by simpa using h')
  exact ⟨by simpa using e, h'⟩
theorem tim_back {f : Frm} (h : okP f = true) : timP (timP f (-1)) (-1) = f := by
  obtain ⟨x, y, z, s, t, K, rfl, _⟩ := okP_shape h
  obtain ⟨e, h'⟩ := tim_neg h
  rw [e, (tim_neg h').1]
  simp
theorem add_neg {f : Frm} (h : okP f = true) : addP f (timP f (-1)) = zeroP := by
  obtain ⟨x, y, z, s, t, K, rfl, _⟩ := okP_shape h
  obtain ⟨e, h'⟩ := tim_neg h
  rw [e]
  have hb : addB ([x, y, z], [s, t], K) ([-x, -y, -z], [-s, -t], -K) = true := by
    unfold addB addOk
    unfold okP at h h'
    rw [h, h']
    simp [lin, formB, okN, allB, inB]
    omega
  unfold addP
  rw [hb]
  simp [keepL, keepK, lin, zeroP]
  omega
theorem dot_mul {xs V : List Int} {n : Int} {k : Nat} (h : xs.length = k) : ∀ j, j ≤ k → dot (mulL n xs) V j = n * dot xs V j
  | 0, _ => by simp [dot]
  | j + 1, hj => by
    have ih := dot_mul (V := V) (n := n) h j (by omega)
    have e := mulL_get (n := n) (zs := xs) (i := j) (by omega)
    simp only [dot, ih, e]
    rw [Int.mul_add, Int.mul_assoc]
theorem at_bnd {f : Frm} {V A : List Int} : -10000000000000 ≤ atP f V A ∧ atP f V A ≤ 10000000000000 := by
  unfold atP
  cases h : atOk f.1.length f.2.1.length V.length A.length f.1 f.2.1 f.2.2 V A
  · rw [atN_no h]; omega
  · rw [atN_yes h]
    unfold atOk at h
    simp only [Bool.and_eq_true] at h
    obtain ⟨⟨h1, h2⟩, h3⟩ := h
    obtain ⟨_, _, b1, b2, b3, b4⟩ := formB_elim h1
    have v1 := (okN_elim (by omega) h2).2
    have a1 := (okN_elim (by omega) h3).2
    have d1 := dot_bnd (bndP_of b1 v1 (by omega) (by omega)) 3
    have d2 := dot_bnd (bndP_of b2 a1 (by omega) (by omega)) 2
    unfold atV
    omega
theorem tim_at {f : Frm} {k : Int} {V A : List Int} (h : atB (timP f k) V A = true) : atB f V A = true ∧ atP (timP f k) V A = k * atP f V A := by
  have hb : timB f k = true := by
    cases hb : timB f k
    · rw [timP_no hb] at h
      unfold atB atOk at h
      simp [formB, okN] at h
    · rfl
  obtain ⟨h1, _, _⟩ := timB_ok hb
  have h' := h
  unfold atB atOk at h'
  simp only [Bool.and_eq_true] at h'
  obtain ⟨⟨_, hV⟩, hA⟩ := h'
  have t1 : atB f V A = true := by unfold okP at h1; unfold atB atOk; rw [h1, hV, hA]; rfl
  refine ⟨t1, ?_⟩
  have l1 := formB_elim h1
  unfold atP
  rw [atN_yes h, atN_yes t1, timP_yes hb]
  unfold atV
  rw [dot_mul l1.1 3 (by omega), dot_mul l1.2.1 2 (by omega)]
  dsimp only
  rw [Int.mul_add, Int.mul_add]

end Go.Proofs.Ytngfbcegcekbbaa
namespace Go.Proofs.Ytngfbcegcekbbaa
open Go.RowKit
set_option linter.unusedVariables false
set_option maxRecDepth 100000

theorem goL_len (U : List Int) (ls : List LV) : ∀ (f i : Nat) (x tl : List Int), (goL U ls f i x tl).2.1.length = x.length ∧ (goL U ls f i x tl).2.2.length ≤ tl.length + f
  | 0, i, x, tl => by simp [goL]
  | f + 1, i, x, tl => by
    unfold goL
    split
    · split
      · have h := goL_len U ls f (if atF x U (ls[i]?.getD noLV).f < 0 then i + 1 + (ls[i]?.getD noLV).skip.toNat else i + 1) x tl
        exact ⟨h.1, by omega⟩
      · split
        · have h := goL_len U ls f (i + 1) (x.set (ls[i]?.getD noLV).pot.toNat (x[(ls[i]?.getD noLV).pot.toNat]?.getD 0 + atF x U (ls[i]?.getD noLV).f)) tl
          exact ⟨by rw [h.1, List.length_set], by omega⟩
        · split
          · have h := goL_len U ls f (i + 1) x (tl ++ [atF x U (ls[i]?.getD noLV).f])
            rw [List.length_append] at h
            exact ⟨h.1, by simp only [List.length_cons, List.length_nil] at h; omega⟩
          · simp
    · simp
theorem goL_stop (U : List Int) (ls : List LV) (s : LV) (hs : s.kind = 4) : ∀ (f i : Nat) (x tl : List Int), (goL U (ls ++ [s]) f i x tl).1 = true ∨ (goL U (ls ++ [s]) f i x tl = goL U ls f i x tl ∧ (goL U ls f i x tl).1 = false)
  | 0, i, x, tl => by right; simp [goL]
  | f + 1, i, x, tl => by
    by_cases hi : i < ls.length
    · have e : (ls ++ [s])[i]?.getD noLV = ls[i]?.getD noLV := by rw [List.getElem?_append_left hi]
      unfold goL
      rw [if_pos hi, if_pos (by rw [List.length_append]; omega), e]
      split
      · exact goL_stop U ls s hs f _ x tl
      · split
        · exact goL_stop U ls s hs f _ _ tl
        · split
          · exact goL_stop U ls s hs f _ x _
          · left; rfl
    · by_cases hl : i = ls.length
      · left
        subst hl
        unfold goL
        rw [if_pos (by rw [List.length_append]; simp)]
        have e : (ls ++ [s])[ls.length]?.getD noLV = s := by simp
        rw [e, hs]
        rfl
      · right
        unfold goL
        rw [if_neg hi, if_neg (by rw [List.length_append]; simp; omega)]
        exact ⟨rfl, rfl⟩
theorem runTells_le (N : Nat) (ls : List LV) (p : Nat) (V : List Int) (q : Nat) (U : List Int) : (runTells N ls p V q U).length ≤ 7 := by
  have h := (goL_len U ls 7 0 V []).2
  unfold runTells
  split
  · split
    · simp
    · unfold endTells
      split
      · unfold runL; simpa using h
      · simp
  · simp
theorem runPots_le (N : Nat) (ls : List LV) (p : Nat) (V : List Int) (q : Nat) (U : List Int) : (runPots N ls p V q U).length ≤ V.length := by
  have h := (goL_len U ls 7 0 V []).1
  unfold runPots
  split
  · split
    · exact Nat.le_refl _
    · unfold endPots
      split
      · unfold runL; omega
      · exact Nat.le_refl _
  · simp
/-- A call has done an act: what came of it, and what the pots have. -/
def RunM (w w' : World) (e : Ending) (code : Int) (tl pl : List Int) : Prop := ∃ a n cap b m cap', e = .returned (.tuple #[resV code a n cap, .slice b m cap']) ∧ Ints w' a n tl ∧ Ints w' b m pl ∧ Below w.heap.size w w'
theorem RunM.of {w w' : World} {e : Ending} {code : Int} {tl pl : List Int} (h : ResD w w' e code tl pl) : RunM w w' e code tl pl := by
  obtain ⟨a, n, cap, B1, b, m, cap', B2, he, h1, h2, hb, o1, o2, _⟩ := h
  exact ⟨a, n, cap, b, m, cap', he, o1.ints, o2.ints, hb⟩

end Go.Proofs.Ytngfbcegcekbbaa
namespace Go.Proofs.Ytngfbcegcekbbaa
open Go.RowKit
set_option linter.unusedVariables false
set_option maxRecDepth 100000

/-- A form at pots and arguments. -/
def atX (V U : List Int) (f : Frm) : Int := atV f.1 f.2.1 f.2.2 V U
theorem dot_linN {xs ys V : List Int} {n : Int} {k : Nat} (h1 : xs.length = k) (h2 : ys.length = k) : ∀ j, j ≤ k → dot (lin xs ys n) V j = dot xs V j + n * dot ys V j
  | 0, _ => by simp [dot]
  | j + 1, hj => by
    have ih := dot_linN (V := V) (n := n) h1 h2 j (by omega)
    have e := lin_get (n := n) h1 h2 (show j < k by omega)
    simp only [dot, ih, e]
    rw [Int.add_mul, Int.mul_add, Int.mul_assoc]
    omega
/-- Three and two numbers. -/
def shX (f : Frm) : Prop := f.1.length = 3 ∧ f.2.1.length = 2
theorem atX_plus {V U : List Int} {f g : Frm} (hf : shX f) (hg : shX g) : atX V U (plusX f g) = atX V U f + atX V U g := by
  simp only [atX, plusX, atV]
  rw [dot_linN hf.1 hg.1 3 (by omega), dot_linN hf.2 hg.2 2 (by omega)]
  omega
theorem atX_minus {V U : List Int} {f : Frm} (hf : shX f) : atX V U (minusX f) = - atX V U f - 1 := by
  simp only [atX, minusX, atV]
  rw [dot_mul hf.1 3 (by omega), dot_mul hf.2 2 (by omega)]
  omega
theorem shX_plus {f g : Frm} (hf : shX f) (hg : shX g) : shX (plusX f g) := ⟨lin_len hf.1 hg.1, lin_len hf.2 hg.2⟩
theorem shX_minus {f : Frm} (hf : shX f) : shX (minusX f) := ⟨by simp only [minusX, mulL, List.length_map]; exact hf.1, by simp only [minusX, mulL, List.length_map]; exact hf.2⟩
theorem dot_pot {V : List Int} : ∀ v, v < 3 → dot ([0, 0, 0].set v 1) V 3 = V[v]?.getD 0
  | 0, _ => by simp [dot]
  | 1, _ => by simp [dot]
  | 2, _ => by simp [dot]
theorem dot_zero2 {V : List Int} : dot [0, 0] V 2 = 0 := by simp [dot]
theorem len_pot (v : Nat) : (([0, 0, 0] : List Int).set v 1).length = 3 := by simp
theorem atX_less {V U : List Int} {f : Frm} {v : Nat} (hf : shX f) (hv : v < 3) : atX V U (lessX f v) = atX V U f - V[v]?.getD 0 := by
  simp only [atX, lessX, atV]
  rw [dot_linN hf.1 (len_pot v) 3 (by omega), dot_linN hf.2 rfl 2 (by omega), dot_pot v hv, dot_zero2]
  omega
theorem atX_pot {V U : List Int} {v : Nat} (hv : v < 3) : atX V U (potX v) = V[v]?.getD 0 := by
  simp only [atX, potX, atV]
  rw [dot_pot v hv, dot_zero2]
  omega
theorem three_x {P : List Frm} (h : P.length = 3) : ∃ a b c, P = [a, b, c] := by
  match P, h with
  | [a, b, c], _ => exact ⟨a, b, c, rfl⟩
theorem shX_into {f : FV} {P : List Frm} (hD : f.D.length = 2) (hP : P.length = 3) (h : ∀ p ∈ P, shX p) : shX (intoX f P) := by
  obtain ⟨a, b, c, rfl⟩ := three_x hP
  have ha := h a (by simp)
  have hb := h b (by simp)
  have hc := h c (by simp)
  exact ⟨lin_len (lin_len (lin_len rfl ha.1) hb.1) hc.1, lin_len (lin_len (lin_len hD ha.2) hb.2) hc.2⟩
theorem atX_into {V U : List Int} {f : FV} {P : List Frm} (hD : f.D.length = 2) (hP : P.length = 3) (h : ∀ p ∈ P, shX p) : atX V U (intoX f P) = atF (P.map (atX V U)) U f := by
  obtain ⟨a, b, c, rfl⟩ := three_x hP
  have ha := h a (by simp)
  have hb := h b (by simp)
  have hc := h c (by simp)
  have e1 : dot (intoC f.C ([a, b, c].map toFV) 3) V 3 = f.C[0]?.getD 0 * dot a.1 V 3 + f.C[1]?.getD 0 * dot b.1 V 3 + f.C[2]?.getD 0 * dot c.1 V 3 := by
    show dot (lin (lin (lin [0, 0, 0] a.1 _) b.1 _) c.1 _) V 3 = _
    rw [dot_linN (k := 3) (lin_len (lin_len rfl ha.1) hb.1) hc.1 3 (by omega), dot_linN (k := 3) (lin_len rfl ha.1) hb.1 3 (by omega), dot_linN (k := 3) rfl ha.1 3 (by omega)]
    simp [dot]
  have e2 : dot (intoD f.C f.D ([a, b, c].map toFV) 3) U 2 = dot f.D U 2 + f.C[0]?.getD 0 * dot a.2.1 U 2 + f.C[1]?.getD 0 * dot b.2.1 U 2 + f.C[2]?.getD 0 * dot c.2.1 U 2 := by
    show dot (lin (lin (lin f.D a.2.1 _) b.2.1 _) c.2.1 _) U 2 = _
    rw [dot_linN (lin_len (lin_len hD ha.2) hb.2) hc.2 2 (by omega), dot_linN (lin_len hD ha.2) hb.2 2 (by omega), dot_linN hD ha.2 2 (by omega)]
  have e3 : intoK f.C f.K ([a, b, c].map toFV) 3 = f.K + f.C[0]?.getD 0 * a.2.2 + f.C[1]?.getD 0 * b.2.2 + f.C[2]?.getD 0 * c.2.2 := rfl
  simp only [atF, atX, intoX, atV]
  rw [e1, e2, e3]
  simp only [dot, List.map_cons, List.map_nil, List.getElem?_cons_zero, List.getElem?_cons_succ, Option.getD_some, atX, atV, Int.mul_add]
  omega

/-- A row's guards all hold. -/
def fitG (V U : List Int) (r : RowM) : Bool := r.guards.all fun g => decide (0 ≤ atX V U g)
def goodG (V U : List Int) (gs : List Frm) : Bool := gs.all fun g => decide (0 ≤ atX V U g)
/-- What going a row comes to. -/
def rowEnd (V U : List Int) (r : RowM) : List Int := (List.range 3).map fun v => V[v]?.getD 0 + atX V U (r.adds[v]?.getD noX)
structure Fits (V U : List Int) (o : Bool × List Int × List Int) (r : RowM) : Prop where
  st : o.1 = r.stop
  ad : r.stop = false → o.2.1 = rowEnd V U r ∧ o.2.2 = r.tells.map (atX V U)
structure WaySh (y : Way) : Prop where
  l : y.pots.length = 3
  s : ∀ p ∈ y.pots, shX p
theorem range3 (g : Nat → Int) : (List.range 3).map g = [g 0, g 1, g 2] := rfl
theorem endW_fits {V U : List Int} {y : Way} (h : WaySh y) : Fits V U (false, y.pots.map (atX V U), y.tells.map (atX V U)) (endW y) := by
  refine ⟨rfl, fun _ => ⟨?_, rfl⟩⟩
  obtain ⟨a, b, c, e⟩ := three_x h.l
  have hs := h.s
  rw [e] at hs
  have ha := hs a (by simp)
  have hb := hs b (by simp)
  have hc := hs c (by simp)
  show y.pots.map (atX V U) = (List.range 3).map _
  rw [range3, e]
  have r0 : (endW y).adds[0]?.getD noX = lessX a 0 := by simp [endW, e]
  have r1 : (endW y).adds[1]?.getD noX = lessX b 1 := by simp [endW, e]
  have r2 : (endW y).adds[2]?.getD noX = lessX c 2 := by simp [endW, e]
  rw [r0, r1, r2, atX_less ha (by omega), atX_less hb (by omega), atX_less hc (by omega)]
  simp only [List.map_cons, List.map_nil, List.cons.injEq, and_true]
  exact ⟨by omega, by omega, by omega⟩
theorem WaySh.add {y : Way} {p : Nat} {f : Frm} (h : WaySh y) (hp : p < 3) (hf : shX f) : WaySh (y.add p f) := by
  refine ⟨by simp only [Way.add, List.length_set]; exact h.l, fun q hq => ?_⟩
  simp only [Way.add] at hq
  rcases List.mem_or_eq_of_mem_set hq with hq | rfl
  · exact h.s q hq
  · refine shX_plus (h.s _ ?_) hf
    rw [List.getElem?_eq_getElem (by rw [h.l]; exact hp)]
    exact List.getElem_mem _
theorem map_add {V U : List Int} {y : Way} {p : Nat} {f : Frm} (h : WaySh y) (hp : p < 3) (hf : shX f) : (y.add p f).pots.map (atX V U) = (y.pots.map (atX V U)).set p ((y.pots.map (atX V U))[p]?.getD 0 + atX V U f) := by
  simp only [Way.add]
  have hl : p < y.pots.length := by rw [h.l]; exact hp
  rw [List.map_set, List.getElem?_map, List.getElem?_eq_getElem hl, Option.getD_some, atX_plus (h.s _ (List.getElem_mem hl)) hf]
  rfl
theorem fit_app (V U : List Int) (gs : List Frm) (g : Frm) : goodG V U (gs ++ [g]) = (goodG V U gs && decide (0 ≤ atX V U g)) := by simp [goodG]
theorem fit_one {V U : List Int} {r : RowM} {gs : List Frm} {o : Bool × List Int × List Int} (e : r.guards = gs) (h : Fits V U o r) : (goodG V U gs = true → ∃ r', [r].filter (fitG V U) = [r'] ∧ Fits V U o r') ∧ (goodG V U gs = false → [r].filter (fitG V U) = []) := by
  have e' : fitG V U r = goodG V U gs := by rw [← e]; rfl
  refine ⟨fun hg => ⟨r, ?_, h⟩, fun hg => ?_⟩
  · rw [List.filter_cons, e', hg]; rfl
  · rw [List.filter_cons, e', hg]; rfl

/-- Of all ways just one fits, and it comes to what the act comes to. -/
theorem run_way (V U : List Int) (ls : List LV) (hall : ls.all LV.ok = true) (hD : ∀ k, k < ls.length → (ls[k]?.getD noLV).f.D.length = (ls[k]?.getD noLV).f.m) : ∀ (f i : Nat) (y : Way), WaySh y →
    (goodG V U y.guards = true → ∃ r, (goW ls f i y).filter (fitG V U) = [r] ∧ Fits V U (goL U ls f i (y.pots.map (atX V U)) (y.tells.map (atX V U))) r) ∧ (goodG V U y.guards = false → (goW ls f i y).filter (fitG V U) = [])
  | 0, i, y, h => fit_one rfl (endW_fits h)
  | f + 1, i, y, h => by
    by_cases hi : i < ls.length
    · have hok : (ls[i]?.getD noLV).ok = true := by
        rw [List.getElem?_eq_getElem hi]
        exact List.all_eq_true.1 hall _ (List.getElem_mem hi)
      have hDD := hD i hi
      rw [goL, goW, if_pos hi, if_pos hi]
      generalize ls[i]?.getD noLV = l at *
      have hsm : ∀ {n m : Nat} {C D : List Int} {K : Int}, smallB n m C D K = true → m = 2 := fun hs => by
        simp only [smallB, Bool.and_eq_true] at hs
        have := (okN_elim (by omega) hs.1.2).1
        omega
      unfold LV.ok lineB at hok
      by_cases k1 : l.kind = 1
      · rw [if_pos k1] at hok
        simp only [Bool.and_eq_true] at hok
        have hD2 : l.f.D.length = 2 := by rw [hDD]; exact hsm hok.2
        have hs := shX_into hD2 h.l h.s
        have e := atX_into (V := V) (U := U) hD2 h.l h.s
        rw [if_pos k1, if_pos k1, List.filter_append]
        have A := run_way V U ls hall hD f (i + 1) (y.guard (intoX l.f y.pots)) ⟨h.l, h.s⟩
        have B := run_way V U ls hall hD f (i + 1 + l.skip.toNat) (y.guard (minusX (intoX l.f y.pots))) ⟨h.l, h.s⟩
        have gA : goodG V U (y.guard (intoX l.f y.pots)).guards = (goodG V U y.guards && decide (0 ≤ atX V U (intoX l.f y.pots))) := fit_app _ _ _ _
        have gB : goodG V U (y.guard (minusX (intoX l.f y.pots))).guards = (goodG V U y.guards && decide (0 ≤ atX V U (minusX (intoX l.f y.pots)))) := fit_app _ _ _ _
        rw [atX_minus hs] at gB
        refine ⟨fun hg => ?_, fun hg => ?_⟩
        · rw [hg, Bool.true_and] at gA gB
          by_cases hn : atF (y.pots.map (atX V U)) U l.f < 0
          · rw [if_pos hn, A.2 (by rw [gA]; exact decide_eq_false (by omega)), List.nil_append]
            exact B.1 (by rw [gB]; exact decide_eq_true (by omega))
          · rw [if_neg hn, B.2 (by rw [gB]; exact decide_eq_false (by omega)), List.append_nil]
            exact A.1 (by rw [gA]; exact decide_eq_true (by omega))
        · rw [hg, Bool.false_and] at gA gB
          rw [A.2 gA, B.2 gB]; rfl
      · rw [if_neg k1] at hok
        rw [if_neg k1, if_neg k1]
        by_cases k2 : l.kind = 2
        · rw [if_pos k2] at hok
          simp only [Bool.and_eq_true] at hok
          have hD2 : l.f.D.length = 2 := by rw [hDD]; exact hsm hok.2
          have hs := shX_into hD2 h.l h.s
          have e := atX_into (V := V) (U := U) hD2 h.l h.s
          have hp := inB_iff.1 hok.1.1
          have hp3 : l.pot.toNat < 3 := by omega
          rw [if_pos k2, if_pos k2]
          have A := run_way V U ls hall hD f (i + 1) (y.add l.pot.toNat (intoX l.f y.pots)) (h.add hp3 hs)
          rw [map_add h hp3 hs, e] at A
          exact A
        · rw [if_neg k2] at hok
          rw [if_neg k2, if_neg k2]
          by_cases k3 : l.kind = 3
          · rw [if_pos k3] at hok
            simp only [Bool.and_eq_true] at hok
            have hD2 : l.f.D.length = 2 := by rw [hDD]; exact hsm hok.2
            have e := atX_into (V := V) (U := U) hD2 h.l h.s
            rw [if_pos k3, if_pos k3]
            have A := run_way V U ls hall hD f (i + 1) (y.tell (intoX l.f y.pots)) ⟨h.l, h.s⟩
            have et : (y.tell (intoX l.f y.pots)).tells.map (atX V U) = y.tells.map (atX V U) ++ [atF (y.pots.map (atX V U)) U l.f] := by simp only [Way.tell, List.map_append, List.map_cons, List.map_nil]; rw [e]
            rw [et] at A
            exact A
          · rw [if_neg k3, if_neg k3]
            exact fit_one rfl ⟨rfl, fun h => by cases h⟩
    · rw [goW_end (by omega), goL_end (by omega)]
      exact fit_one rfl (endW_fits h)
theorem map_way0 {V U : List Int} (h : V.length = 3) : way0.pots.map (atX V U) = V := by
  match V, h with
  | [a, b, c], _ =>
    simp only [way0, List.map_cons, List.map_nil]
    rw [atX_pot (by omega), atX_pot (by omega), atX_pot (by omega)]
    rfl
theorem way0_sh : WaySh way0 := ⟨rfl, fun p hp => by
  simp only [way0, List.mem_cons, List.not_mem_nil, or_false] at hp
  rcases hp with rfl | rfl | rfl <;> exact ⟨rfl, rfl⟩⟩
theorem runL_way {V U : List Int} {ls : List LV} (hV : V.length = 3) (hall : ls.all LV.ok = true) (hD : ∀ k, k < ls.length → (ls[k]?.getD noLV).f.D.length = (ls[k]?.getD noLV).f.m) : ∃ r, (rowsL ls).filter (fitG V U) = [r] ∧ Fits V U (runL U ls V) r := by
  have h := (run_way V U ls hall hD 7 0 way0 way0_sh).1 rfl
  rw [map_way0 hV] at h
  exact h

end Go.Proofs.Ytngfbcegcekbbaa
namespace Go.Proofs.Ytngfbcegcekbbaa
open Go.RowKit Go.Deep
set_option linter.unusedVariables false
set_option maxRecDepth 100000

/-- No slice among these lies below B. -/
def Lo (B : Nat) (xs : List Value) : Prop := ∀ (i b o : Nat) (m c : Nat), xs[i]? = some (Value.slice (some ⟨b, o, none⟩) m c) → B ≤ b
theorem Lo.nil (B : Nat) : Lo B [] := fun i b o m c h => by simp at h
theorem Lo.app {B : Nat} {xs : List Value} (h : Lo B xs) {B1 B2 n1 n2 c1 c2 : Nat} {K : Int} (h1 : B ≤ B1) (h2 : B ≤ B2) : Lo B (xs ++ [.slice (some ⟨B1, 0, none⟩) n1 c1, .slice (some ⟨B2, 0, none⟩) n2 c2, .int .i64 K]) := fun i b o m c e => by
  by_cases hi : i < xs.length
  · rw [List.getElem?_append_left hi] at e; exact h i b o m c e
  · rw [List.getElem?_append_right (by omega)] at e
    generalize i - xs.length = j at e
    match j with
    | 0 => simp at e; omega
    | 1 => simp at e; omega
    | 2 => simp at e
    | j + 3 => simp at e
theorem Ints.offC {S : Nat → Prop} {W W' : World} {a : Option Addr} {n : Nat} {zs : List Int} (h : Ints W a n zs) (hb : ∀ b o, a = some ⟨b, o, none⟩ → ¬ S b) (t : Touch S W W') : Ints W' a n zs := by
  refine ⟨h.1, fun i hi => ?_⟩
  obtain ⟨b, off, e, hc⟩ := h.2 i hi
  refine ⟨b, off, e, ?_⟩
  have hl := block_lt hc
  simp only [World.cell?] at hc ⊢
  rw [t.block b hl (hb b off e)]; exact hc
theorem own_off {S : Nat → Prop} {W W' : World} {base : Nat} {e : TypeId} {s : Nat} {v : Value} {n : Nat} {xs : List Value} (h : W.ownsRow base e s v n xs) (hn : ∀ g, v.ownBlock = some g → ¬ S g) (t : Touch S W W') : W'.ownsRow base e s v n xs := by
  refine ⟨h.1, ?_⟩
  rcases h.2 with h2 | ⟨g, cap, cur, hv, hg, hh, r⟩
  · exact Or.inl h2
  · refine Or.inr ⟨g, cap, cur, hv, hg, ?_, r⟩
    rw [t.block g (lt_of_block hh) (hn g (by rw [hv]; rfl))]; exact hh
theorem TermsOk.off {S : Nat → Prop} {W W' : World} {G : Nat} {xs : List Value} {fs : List Frm} {n : Nat} (h : TermsOk W G xs fs n) {B : Nat} (hl : Lo B xs) (hS : ∀ k, S k → k < B) (t : Touch S W W') : TermsOk W' G xs fs n := fun i hi => by
  obtain ⟨a', c', ca, cc, e0, e1, e2, i1, i2, n1, n2⟩ := h i hi
  refine ⟨a', c', ca, cc, e0, e1, e2, i1.offC (fun b o e hs => ?_) t, i2.offC (fun b o e hs => ?_) t, n1, n2⟩
  · rw [e] at e0
    have := hl _ _ _ _ _ e0
    have := hS _ hs
    omega
  · rw [e] at e1
    have := hl _ _ _ _ _ e1
    have := hS _ hs
    omega

/-- A slice of the first n forms, in memory made since w. -/
structure JF (w : World) (G cap n : Nat) (xs : List Value) (fs : List Frm) (W : World) : Prop where
  b : Below w.heap.size w W
  o : W.ownsRow w.heap.size 32 3 (.slice (some ⟨G, 0, none⟩) n cap) n xs
  t : TermsOk W G xs fs n
  l : Lo w.heap.size xs
theorem JF.below {w W W' : World} {G cap n : Nat} {xs : List Value} {fs : List Frm} (j : JF w G cap n xs fs W) (h : Below W.heap.size W W') : JF w G cap n xs fs W' := ⟨j.b.trans (h.mono j.b.size), own_below j.o h, j.t.below h, j.l⟩
theorem JF.at {w W : World} {G cap n : Nat} {xs : List Value} {fs : List Frm} (j : JF w G cap n xs fs W) (hn : fs.length = n) : FormsAt W (some ⟨G, 0, none⟩) fs := j.t.forms hn j.o
theorem JF.lt {w W : World} {G cap n : Nat} {xs : List Value} {fs : List Frm} (j : JF w G cap n xs fs W) : w.heap.size ≤ G ∧ G < W.heap.size := by
  rcases j.o.2 with ⟨h, _⟩ | ⟨g, cap', cur, h, hg, hh, _⟩
  · cases h
  · simp only [Value.slice.injEq, Option.some.injEq, Addr.mk.injEq, and_true, true_and] at h
    obtain ⟨rfl, _⟩ := h
    exact ⟨hg, lt_of_block hh⟩
/-- Whatever becomes of elder memory, the forms read as they did. -/
theorem JF.off {w W W' : World} {G cap n : Nat} {xs : List Value} {fs : List Frm} (j : JF w G cap n xs fs W) (hn : fs.length = n) {S : Nat → Prop} (hS : ∀ k, S k → k < w.heap.size) (t : Touch S W W') : FormsAt W' (some ⟨G, 0, none⟩) fs := by
  have hG := j.lt
  have o' := own_off j.o (fun g hg hs => by
    have : some G = some g := hg
    simp only [Option.some.injEq] at this
    have := hS _ hs
    omega) t
  exact (j.t.off j.l hS t).forms hn o'
theorem lin3_one {xs : List Int} (h : xs.length = 3) : lin [0, 0, 0] xs 1 = xs := by
  match xs, h with
  | [x, y, z], _ => simp [lin]
theorem lin2_one {xs : List Int} (h : xs.length = 2) : lin [0, 0] xs 1 = xs := by
  match xs, h with
  | [x, y], _ => simp [lin]

set_option maxHeartbeats 6400000 in
theorem scopy_any (ad : Option Addr) (N cap : Nat) (fs : List Frm) (w : World) (hN : fs.length = N) (hF : FormsAt w ad fs) (hfit : ∀ k, k < N → fitX 10000000 (fs[k]?.getD ([], [], 0))) (hN1 : N ≤ 1048576) :
    Calls Try.prog 78 #[.slice ad N cap] w fun e w' => ∃ G cp xs, e = .returned (.slice (some ⟨G, 0, none⟩) N cp) ∧ JF w G cp N xs fs w' := by
  have HN : Hid (fs.length = N) := hN
  have HFT : Hid _ := hfit
  have HF : Hid (FormsAt w ad fs) := hF
  clear hN hfit hF
  obtain ⟨i0, hi, hz0, hz1, hz2⟩ := info_parts Try.infoForm
  have j0 : JF w w.heap.size 0 0 [] fs (w.alloc (.cells #[] 32)) :=
    ⟨(Below.refl _ _).alloc (Nat.le_refl _) _, World.ownsRow_lit w #[] 0 (Nat.le_refl _) (by unfold maxLen; omega) rfl, fun j hj => by omega, Lo.nil _⟩
  go_enter Try.func78, Try.ntmps78
  go_wp2_with fail
  go_loopw [3, 4] (fun r i wr => ∃ (k G cp : Nat) (xs : List Value), k ≤ N ∧ i = .int .i64 k ∧ r = .slice (some ⟨G, 0, none⟩) k cp ∧ JF w G cp k xs fs wr) (fun _ i _ => N - (intOf i).toNat)
  case atStart => exact ⟨0, _, _, _, Nat.zero_le _, rfl, rfl, j0⟩
  case round =>
    clear j0
    obtain ⟨k, G, cp, xs, hk, rfl, rfl, j⟩ := hrel
    by_cases hlt : k < N
    · obtain ⟨b, off, rfl, a', c', ca, cc, c0, c1, c2, iC, iD⟩ := HF.out k (by rw [HN.out]; exact hlt)
      have hfit := HFT.out k hlt
      have HK : Hid (fs[k]?.getD ([], [], 0) = fs[k]?.getD ([], [], 0)) := rfl
      generalize HG : fs[k]?.getD ([], [], 0) = f at *
      have HT : Hid (fs[k]?.getD ([], [], 0) = f) := HG
      clear HG HK
      obtain ⟨fC, fD, fK⟩ := f
      obtain ⟨lC, lD, bC, bD, k1, k2⟩ := hfit
      simp only at c2 iC iD lC lD bC bD k1 k2
      have keep : ∀ W : World, Below w.heap.size w W → (W.cell? ⟨b, off + k * 3, none⟩ = some (.slice a' 3 ca) ∧ W.cell? ⟨b, off + k * 3 + 1, none⟩ = some (.slice c' 2 cc) ∧ W.cell? ⟨b, off + k * 3 + 2, none⟩ = some (.int .i64 fK)) := fun W hW =>
        ⟨by rw [hW.cell (p := ⟨b, off + k * 3, none⟩) (block_lt c0)]; exact c0, by rw [hW.cell (p := ⟨b, off + k * 3 + 1, none⟩) (block_lt c1)]; exact c1, by rw [hW.cell (p := ⟨b, off + k * 3 + 2, none⟩) (block_lt c2)]; exact c2⟩
      have KP : Hid _ := keep
      clear keep
      have hSS := And.intro (KP.out _ j.b.drew) (True.intro)
      clear c0 c1 c2
      have hlt' : (k : Int) < N := by omega
      go_upto_region 5 with fail
      refine wp_region_ends (fun w' => w'.cell? ⟨b, off + k * 3, none⟩ = some (.slice a' 3 ca) ∧ w'.cell? ⟨b, off + k * 3 + 1, none⟩ = some (.slice c' 2 cc) ∧ w'.cell? ⟨b, off + k * 3 + 2, none⟩ = some (.int .i64 fK)) (fun _ => True) 9 (by kernel_rfl) ?_
      refine wpAnyE_take0 (i := 0) (v := ?v0) rfl (by kernel_rfl) (by kernel_rfl) (by kernel_rfl) (by decide) (fun _ _ _ h => h) (Or.inl ⟨by rfl, ?hy0⟩) hSS ?_
      case hy0 => (intro wz hSw; (try dsimp only at hSw); go_simp; try (with_reducible rfl))
      refine wpAnyE_take0 (i := 2) (v := ?v2) rfl (by kernel_rfl) (by kernel_rfl) (by kernel_rfl) (by decide) (fun _ _ _ h => h) (Or.inl ⟨by rfl, ?hy2⟩) hSS ?_
      case hy2 => (intro wz hSw; (try dsimp only at hSw); go_simp; try (with_reducible rfl))
      refine wpAnyE_take0 (i := 3) (v := ?v3) rfl (by kernel_rfl) (by kernel_rfl) (by kernel_rfl) (by decide) (fun _ _ _ h => h) (Or.inl ⟨by rfl, ?hy3⟩) hSS ?_
      case hy3 => (intro wz hSw; (try dsimp only at hSw); go_simp; try (with_reducible rfl))
      refine wpAnyE_take0 (i := 4) (v := ?v4) rfl (by kernel_rfl) (by kernel_rfl) (by kernel_rfl) (by decide) (fun _ _ _ h => h) (Or.inl ⟨by rfl, ?hy4⟩) hSS ?_
      case hy4 => (intro wz hSw; (try dsimp only at hSw); go_simp; try (with_reducible rfl))
      refine wpAnyE_take0 (i := 5) (v := ?v5) rfl (by kernel_rfl) (by kernel_rfl) (by kernel_rfl) (by decide) (fun _ _ _ h => h) (Or.inl ⟨by rfl, ?hy5⟩) hSS ?_
      case hy5 => (intro wz hSw; (try dsimp only at hSw); go_simp; try (with_reducible rfl))
      refine wpAnyE_one (i := 1) (by kernel_rfl) rfl (fun K hK => ?_)
      go_simp
      refine (szero_any _).mono ?_
      rintro ee w3 ⟨Z1, Z2, rfl, b3, y1, y2, y3, z1, z2⟩
      have j3 := j.below (below_of_drew b3)
      dsimp only
      refine hK.out _ _ ⟨KP.out _ j3.b, fun _ => trivial⟩ ?_
      clear hK K hSS j
      refine wpAnyE_one (i := 6) (by kernel_rfl) rfl (fun K hK => ?_)
      go_simp
      refine (l1sum_any _ _ _ _ _ [0, 0, 0] [0, 0] _ _ _ _ _ fC fD _ _ (z1.ints' rfl) (z2.ints' rfl) (iC.below j3.b) (iD.below j3.b) bnd_lit3 bnd_lit2 (by omega) (fun i => by have := bC i; omega) (fun i => by have := bD i; omega) (by omega)).mono ?_
      rintro ee w4 ⟨B1, B2, rfl, b4, g1, g2, g3, u1, u2⟩
      rw [lin3_one lC] at u1
      rw [lin2_one lD] at u2
      have e0 : (0 : Int) + 1 * fK = fK := by omega
      rw [e0]
      have j4 := j3.below b4
      have lG := j3.lt
      have hs3 := j3.b.size
      have l1 := u1.lt
      have l2 := u2.lt
      dsimp only
      refine hK.out _ _ ⟨KP.out _ j4.b, fun _ => trivial⟩ ?_
      clear hK K z1 z2 b3 b4 y1 y2 y3
      refine wpAnyE_one (i := 7) (by kernel_rfl) rfl (fun K hK => ?_)
      go_simp
      have A5 : Below w4.heap.size w4 (w4.alloc (.cells #[.slice (some ⟨B1, 0, none⟩) 3 3, .slice (some ⟨B2, 0, none⟩) 2 2, .int .i64 fK] 32)) := (Below.refl _ _).alloc (Nat.le_refl _) _
      have j5 := j4.below A5
      have hs5 := j5.b.size
      have v1 := u1.below A5
      have v2 := u2.below A5
      have s43 := A5.size
      have lG4 := j4.lt
      refine hK.out _ _ ⟨KP.out _ j5.b, fun _ => trivial⟩ ?_
      clear hK K A5 j3 j4
      refine wpAnyE_one (i := 8) (by kernel_rfl) rfl (fun K hK => ?_)
      rw [if_pos (by rfl)]
      refine wp_append_lies _ (.tmp 12) (.tmp 19) 36 rfl w.heap.size 32 i0 _ 3 56 Try.underlying36 hi hz0 hz1 hz2 rfl (by omega) (.slice (some ⟨G, 0, none⟩) k cp) k xs (by rfl) j5.o ⟨w4.heap.size, 0, none⟩ 1 1 [Value.slice (some ⟨B1, 0, none⟩) 3 3, Value.slice (some ⟨B2, 0, none⟩) 2 2, Value.int .i64 fK] (by rfl) (by rfl) (World.news_of_block (cs := #[Value.slice (some ⟨B1, 0, none⟩) 3 3, Value.slice (some ⟨B2, 0, none⟩) 2 2, Value.int .i64 fK]) (t := 32) (fr := (0, 0)) (heap_alloc_new w4 _)) (by simp [Value.oneCell']) (by omega) (by unfold maxLen; omega) (by omega) hs5 (w4.heap.size + 1) (by rw [World.size_alloc]) ?_
      intro g cp2 w6 hown hgrow hat hlt6
      have j6 : JF w g cp2 (k + 1) (xs ++ [Value.slice (some ⟨B1, 0, none⟩) 3 3, Value.slice (some ⟨B2, 0, none⟩) 2 2, Value.int .i64 fK]) fs w6 := by
        refine ⟨j5.b.grown hgrow hs5 (fun z hz => ?_), hown, j5.t.step j5.o.1 hgrow ?_ (v1.ints' lC) (v2.ints' lD) (by omega) (by omega) HT.out, j5.l.app (by omega) (by omega)⟩
        · have : some G = some z := hz
          simp only [Option.some.injEq] at this
          omega
        · rcases hat with h | h
          · have : some G = some g := h
            simp only [Option.some.injEq] at this
            exact Or.inl this.symm
          · exact Or.inr (by rw [World.size_alloc]; omega)
      refine hK.out _ _ ⟨KP.out _ j6.b, fun _ => trivial⟩ ?_
      clear hK K hown hgrow hat j5 v1 v2 u1 u2
      refine wpAnyE_one (i := 9) (by kernel_rfl) rfl (fun K hK => ?_)
      go_simp
      refine hK.out _ _ ⟨KP.out _ j6.b, fun _ => trivial⟩ ?_
      clear hK K
      refine wpAnyE_done (by kernel_rfl) ?_ _
      go_wp2
      go_roundw
      case rel => exact ⟨k + 1, g, cp2, _, by omega, by go_num, rfl, j6⟩
      case measure => simp [intOf]; omega
    · obtain rfl : k = N := by omega
      go_wp2
      go_ret
      exact ⟨G, cp, xs, rfl, j⟩

end Go.Proofs.Ytngfbcegcekbbaa
namespace Go.Proofs.Ytngfbcegcekbbaa
open Go.RowKit
set_option linter.unusedVariables false
set_option maxRecDepth 100000

set_option maxHeartbeats 6400000 in
theorem sminus_any (a : Option Addr) (cap : Nat) (c : Option Addr) (cap' : Nat) (K : Int) (C D : List Int) (w : World) (hC : Ints w a 3 C) (hD : Ints w c 2 D) (bC : bnd 10000000 C) (bD : bnd 10000000 D) (bK1 : -10000000 ≤ K) (bK2 : K ≤ 10000000) :
    Calls Try.prog 80 #[formV a 3 cap c 2 cap' K] w fun e w' => ∃ B1 B2, e = .returned (formV (some ⟨B1, 0, none⟩) 3 3 (some ⟨B2, 0, none⟩) 2 2 (-K - 1)) ∧ Below w.heap.size w w' ∧ w.heap.size ≤ B1 ∧ B1 ≠ B2 ∧ w.heap.size ≤ B2 ∧ Blk w' B1 (mulL (-1) C) ∧ Blk w' B2 (mulL (-1) D) := by
  obtain ⟨k, hk⟩ : ∃ k : Int, k = -1 := ⟨_, rfl⟩
  have tC : bndT 1000000000000000000 k C := by rw [hk]; exact fun i => by have := bC i; omega
  have tD : bndT 1000000000000000000 k D := by rw [hk]; exact fun i => by have := bD i; omega
  have tK : -1000000000000000000 ≤ k * K ∧ k * K ≤ 1000000000000000000 := by rw [hk]; omega
  have Z3 := lin_zero3 (k := k) hC.1
  have Z2 := lin_zero2 (k := k) hD.1
  have H1 : TimesH w a cap c cap' K ((w.alloc (Obj.cells #[Value.slice a 3 cap, Value.slice c 2 cap', Value.int IntKind.i64 K] 32)).alloc (Obj.cells #[Value.slice none 0 0, Value.slice none 0 0, Value.int IntKind.i64 0] 32)) :=
    ⟨(Cel.new w _ _).alloc _, by have := Cel.new (w.alloc (Obj.cells #[Value.slice a 3 cap, Value.slice c 2 cap', Value.int IntKind.i64 K] 32)) [.slice none 0 0, .slice none 0 0, .int .i64 0] 32; rw [World.size_alloc] at this; exact this, ((Below.refl _ _).alloc (Nat.le_refl _) _).alloc (by simp) _⟩
  have HK : Hid (k = -1) := hk
  subst hk
  go_enter Try.func80, Try.ntmps80
  go_upto_region 1 with fail
  obtain ⟨w2, hw2⟩ : ∃ w2, w2 = (w.alloc (Obj.cells #[Value.slice a 3 cap, Value.slice c 2 cap', Value.int IntKind.i64 K] 32)).alloc (Obj.cells #[Value.slice none 0 0, Value.slice none 0 0, Value.int IntKind.i64 0] 32) := ⟨_, rfl⟩
  rw [← hw2] at H1 ⊢
  clear hw2
  go_cut [3] (fun s wx => ∃ X B1 B2, s = .pointer (some ⟨X, 0, none⟩) ∧ TimesH w a cap c cap' K wx ∧ Cel wx X [.slice (some ⟨B1, 0, none⟩) 3 3, .slice (some ⟨B2, 0, none⟩) 2 2, .int .i64 (-K)] 32 ∧ Blk wx B1 (mulL (-1) C) ∧ Blk wx B2 (mulL (-1) D) ∧ w.heap.size + 1 < X ∧ w.heap.size + 1 < B1 ∧ w.heap.size + 1 < B2 ∧ B1 ≠ B2 ∧ B1 ≠ X ∧ B2 ≠ X)
  case first =>
    have l1 := H1.r.lt
    have G1 := H1.cells
    have N0 := World.new_ne w2 ⟨w.heap.size, 0, none⟩ G1.1
    have N1 := World.new_ne w2 ⟨w.heap.size, 1, none⟩ G1.2.1
    have N2 := World.new_ne w2 ⟨w.heap.size, 2, none⟩ G1.2.2
    have A1 := H1.b.size
    go_region_held3 (fun w' => w'.cell? ⟨w.heap.size, 0, none⟩ = some (.slice a 3 cap) ∧ w'.cell? ⟨w.heap.size, 1, none⟩ = some (.slice c 2 cap') ∧ w'.cell? ⟨w.heap.size, 2, none⟩ = some (.int .i64 K)) (first | assumption | go_keep)
      (first
        | (go_at_call 83; refine (szero_any _).mono ?_; rintro e w3 ⟨Z1, Z2', rfl, b3, y1, y2, y3, k1, k2⟩; have H3 := TimesH.below (w := w) (a := a) (c := c) (cap := cap) (cap' := cap') (K := K) (by first | exact H1.drew | exact (H1.alloc _).drew) b3; have G3 := H3.cells; have l3 := H3.r.lt; have A3 : w2.heap.size ≤ w3.heap.size := Nat.le_trans (by simp) b3.size; have N3 := World.new_ne w3 ⟨w.heap.size, 0, none⟩ G3.1; have N4 := World.new_ne w3 ⟨w.heap.size, 1, none⟩ G3.2.1; have N5 := World.new_ne w3 ⟨w.heap.size, 2, none⟩ G3.2.2; first | (have X3 := Cel.below (w := (w2.alloc (Obj.cells #[Value.slice none 0 0, Value.slice none 0 0, Value.int IntKind.i64 0] 32)).drew) (Cel.new w2 [Value.slice none 0 0, Value.slice none 0 0, Value.int IntKind.i64 0] 32) b3) | skip)
        | (go_at_call 81; refine (l1sum_any _ _ _ _ _ [0, 0, 0] [0, 0] _ _ _ _ _ C D _ _ (by first | exact k1.ints' rfl | exact (k1.alloc _).ints' rfl) (by first | exact k2.ints' rfl | exact (k2.alloc _).ints' rfl) (hC.below (TimesH.b (a := a) (c := c) (cap := cap) (cap' := cap') (K := K) (by first | exact H3 | exact H3.alloc _))) (hD.below (TimesH.b (a := a) (c := c) (cap := cap) (cap' := cap') (K := K) (by first | exact H3 | exact H3.alloc _))) bnd_lit3 bnd_lit2 (by omega) tC tD tK).mono ?_; rintro e w4 ⟨B1, B2, rfl, b4, g1, g2, g3, k3, k4⟩; have H4 := TimesH.below (w := w) (a := a) (c := c) (cap := cap) (cap' := cap') (K := K) (by first | exact H3 | exact H3.alloc _) b4; have G4 := H4.cells; have l4 := H4.r.lt; first | (have X4 := Cel.below (Cel.new w3 [Value.slice none 0 0, Value.slice none 0 0, Value.int IntKind.i64 0] 32) b4; have X5 := X4.trio; obtain ⟨u0, u1, u2, u3, u4, u5⟩ := X5) | (have X4 := X3.below b4; have X5 := X4.trio; obtain ⟨u0, u1, u2, u3, u4, u5⟩ := X5) | skip))
    all_goals
      rw [Z3] at k3
      rw [Z2] at k4
      try rw [World.size_alloc] at g1 g3
      have l13 := k3.lt
      have l14 := k4.lt
    · go_wp2_with fail
      go_meet
      case rel => exact ⟨_, B1, B2, rfl, H4.alloc _, Cel.new w4 _ _, k3.alloc _, k4.alloc _, by omega, by omega, by omega, g2, by omega, by omega⟩
    · go_wp2_with fail
      go_meet
      case rel => exact ⟨_, B1, B2, rfl, ((H4.set (by omega) _ _).set (by omega) _ _).set (by omega) _ _, ((X4.set 0 _).set 1 _).set 2 _, ((k3.setOther (by omega) _ _).setOther (by omega) _ _).setOther (by omega) _ _, ((k4.setOther (by omega) _ _).setOther (by omega) _ _).setOther (by omega) _ _, by omega, by omega, by omega, g2, by omega, by omega⟩
    · have x3 := X3.lt
      go_wp2_with fail
      go_meet
      case rel => exact ⟨_, B1, B2, rfl, ((H4.set (by omega) _ _).set (by omega) _ _).set (by omega) _ _, ((X4.set 0 _).set 1 _).set 2 _, ((k3.setOther (by omega) _ _).setOther (by omega) _ _).setOther (by omega) _ _, ((k4.setOther (by omega) _ _).setOther (by omega) _ _).setOther (by omega) _ _, by omega, by omega, by omega, g2, by omega, by omega⟩
  case rest =>
    obtain ⟨X, B1, B2, rfl, HX, hX, k1, k2, lX, lB1, lB2, hne, x1, x2⟩ := hcut
    clear H1 Z3 Z2 tC tD tK bC bD
    obtain ⟨c0, c1, c2, c3, c4, c5⟩ := hX.trio
    have hw : IntKind.i64.wrap (-K - 1) = -K - 1 := wrap_id (by omega) (by omega)
    have HY := HX.set (X := X) (by omega) 2 (.int .i64 (-K - 1))
    have hY := hX.set 2 (.int .i64 (-K - 1))
    obtain ⟨d0, d1, d2, d3, d4, d5⟩ := hY.trio
    obtain ⟨r0, r1, r2, r3, r4, r5⟩ := HY.room
    have k1' := k1.setOther x1 2 (.int .i64 (-K - 1))
    have k2' := k2.setOther x2 2 (.int .i64 (-K - 1))
    clear HX hX hY k1 k2
    go_wp2
    refine bodyPost_ret (v := formV (some ⟨B1, 0, none⟩) 3 3 (some ⟨B2, 0, none⟩) 2 2 (-K - 1)) (by simp [results, Try.results80, go_sem, r0, r1, r2]) rfl ?_
    refine ⟨B1, B2, rfl, ?_, by omega, hne, by omega, ?_, ?_⟩
    · exact ((HY.b.setCell (by simp only []; omega) _).setCell (by simp only []; omega) _).setCell (by simp only []; omega) _
    · exact ((k1'.setOther (by omega) _ _).setOther (by omega) _ _).setOther (by omega) _ _
    · exact ((k2'.setOther (by omega) _ _).setOther (by omega) _ _).setOther (by omega) _ _

end Go.Proofs.Ytngfbcegcekbbaa
namespace Go.Proofs.Ytngfbcegcekbbaa
open Go.RowKit Go.Deep
set_option linter.unusedVariables false
set_option maxRecDepth 100000

theorem grown_none {W W' : World} (h : W.grownBy W' none) (G : Nat) : W.grownBy W' (some G) :=
  ⟨h.os, h.tape, h.output, h.size, fun k hk _ => h.block k hk (by simp)⟩
theorem Cel.grew {W W' : World} {B : Nat} {vs : List Value} {t : TypeId} {row : Option Nat} (h : Cel W B vs t) (hg : W.grownBy W' row) (hne : row ≠ some B) : Cel W' B vs t := by
  have hl := h.lt
  unfold Cel at *
  rw [hg.block B hl (fun e => hne e.symm)]; exact h

/-- A slice of the first n forms, in memory made since w; it may be nil as yet. -/
structure JV (w : World) (v : Value) (n : Nat) (xs : List Value) (fs : List Frm) (W : World) : Prop where
  b : Below w.heap.size w W
  o : W.ownsRow w.heap.size 32 3 v n xs
  t : ∃ G, (v.ownBlock = some G ∨ (v.ownBlock = none ∧ n = 0)) ∧ TermsOk W G xs fs n
  l : Lo w.heap.size xs
theorem JV.nil (w : World) (fs : List Frm) : JV w (.slice none 0 0) 0 [] fs w := ⟨Below.refl _ _, World.ownsRow_nil w _ _ _, ⟨0, Or.inr ⟨rfl, rfl⟩, fun j hj => by omega⟩, Lo.nil _⟩
theorem JV.below {w W W' : World} {v : Value} {n : Nat} {xs : List Value} {fs : List Frm} (j : JV w v n xs fs W) (h : Below W.heap.size W W') : JV w v n xs fs W' := by
  obtain ⟨G, hG, ht⟩ := j.t
  exact ⟨j.b.trans (h.mono j.b.size), own_below j.o h, ⟨G, hG, ht.below h⟩, j.l⟩
theorem JV.own {w W : World} {v : Value} {n : Nat} {xs : List Value} {fs : List Frm} (j : JV w v n xs fs W) {G : Nat} (h : v.ownBlock = some G) : w.heap.size ≤ G ∧ G < W.heap.size := by
  rcases j.o.2 with ⟨e, _⟩ | ⟨g, cap', cur, e, hg, hh, _⟩
  · rw [e] at h; cases h
  · rw [e] at h
    have : some g = some G := h
    simp only [Option.some.injEq] at this
    subst this
    exact ⟨hg, lt_of_block hh⟩
theorem JV.isSlice {w W : World} {v : Value} {n : Nat} {xs : List Value} {fs : List Frm} (j : JV w v n xs fs W) : ∃ a c, v = .slice a n c := by
  rcases j.o.2 with ⟨e, h0⟩ | ⟨g, cap', cur, e, _⟩
  · subst h0; exact ⟨_, _, e⟩
  · exact ⟨_, _, e⟩
theorem JV.slice {w W : World} {v : Value} {n : Nat} {xs : List Value} {fs : List Frm} (j : JV w v n xs fs W) (hn : fs.length = n) : ∃ a cap, v = .slice a n cap ∧ FormsAt W a fs := by
  obtain ⟨G, hG, ht⟩ := j.t
  rcases j.o.2 with ⟨e, h0⟩ | ⟨g, cap', cur, e, hg, hh, _⟩
  · subst h0
    exact ⟨none, 0, e, fun i hi => by omega⟩
  · have o := j.o
    rw [e] at o
    rcases hG with hG | ⟨_, h0⟩
    · rw [e] at hG
      have : some g = some G := hG
      simp only [Option.some.injEq] at this
      subst this
      exact ⟨_, cap', e, ht.forms hn o⟩
    · subst h0
      exact ⟨_, cap', e, fun i hi => by omega⟩
theorem JV.app {w W W' : World} {v : Value} {n : Nat} {xs : List Value} {fs : List Frm} {g cap B1 B2 ca cc : Nat} {C D : List Int} {K : Int} (j : JV w v n xs fs W) (hown : W'.ownsRow w.heap.size 32 3 (.slice (some ⟨g, 0, none⟩) (n + 1) cap) (n + 1) (xs ++ [.slice (some ⟨B1, 0, none⟩) 3 ca, .slice (some ⟨B2, 0, none⟩) 2 cc, .int .i64 K])) (hgrow : W.grownBy W' v.ownBlock) {H : Nat} (hat : v.ownBlock = some g ∨ g = H) (hH : W.heap.size = H)
    (k1 : Ints W (some ⟨B1, 0, none⟩) 3 C) (k2 : Ints W (some ⟨B2, 0, none⟩) 2 D) (n1 : v.ownBlock ≠ some B1) (n2 : v.ownBlock ≠ some B2) (p1 : w.heap.size ≤ B1) (p2 : w.heap.size ≤ B2) (hT : fs[n]?.getD ([], [], 0) = (C, D, K)) :
    JV w (.slice (some ⟨g, 0, none⟩) (n + 1) cap) (n + 1) (xs ++ [.slice (some ⟨B1, 0, none⟩) 3 ca, .slice (some ⟨B2, 0, none⟩) 2 cc, .int .i64 K]) fs W' := by
  have hb : Below w.heap.size w W' := j.b.grown hgrow j.b.size (fun z hz => (j.own hz).1)
  have l1 := k1.blt (by omega) B1 0 rfl
  have l2 := k2.blt (by omega) B2 0 rfl
  obtain ⟨G, hG, ht⟩ := j.t
  refine ⟨hb, hown, ⟨g, Or.inl rfl, ?_⟩, j.l.app p1 p2⟩
  rcases hG with hG | ⟨hG, h0⟩
  · rw [hG] at hgrow hat n1 n2
    refine ht.step j.o.1 hgrow ?_ k1 k2 (fun e => n1 (by rw [e])) (fun e => n2 (by rw [e])) hT
    rcases hat with h | h
    · simp only [Option.some.injEq] at h; exact Or.inl h.symm
    · exact Or.inr (by omega)
  · rw [hG] at hgrow hat
    have ht' : TermsOk W (W.heap.size + 1) xs fs n := fun j hj => by omega
    refine ht'.step j.o.1 (grown_none hgrow _) ?_ k1 k2 (by omega) (by omega) hT
    rcases hat with h | h
    · cases h
    · exact Or.inr (by omega)

/-- Forms that read as they do, whatever becomes of the blocks of S. -/
def FOff (W : World) (S : Nat → Prop) (a : Option Addr) (fs : List Frm) : Prop := ∀ W', Touch S W W' → FormsAt W' a fs
theorem FOff.at {W : World} {S : Nat → Prop} {a : Option Addr} {fs : List Frm} (h : FOff W S a fs) : FormsAt W a fs := h W (Touch.refl _ _)
theorem FOff.touch {W W' : World} {S : Nat → Prop} {a : Option Addr} {fs : List Frm} (h : FOff W S a fs) (t : Touch S W W') : FOff W' S a fs := fun W'' t' => h W'' (t.trans t')
theorem FOff.below {W W' : World} {S : Nat → Prop} {a : Option Addr} {fs : List Frm} (h : FOff W S a fs) (b : Below W.heap.size W W') : FOff W' S a fs := h.touch (Touch.of b)
theorem FOff.mono {W : World} {S S' : Nat → Prop} {a : Option Addr} {fs : List Frm} (h : FOff W S a fs) (hs : ∀ k, S' k → S k) : FOff W S' a fs := fun W' t => h W' (t.mono hs)
/-- A block that is new. -/
theorem FOff.fresh {W : World} {S : Nat → Prop} {a : Option Addr} {fs : List Frm} (h : FOff W S a fs) (o : Obj) : FOff (W.alloc o) (fun k => S k ∨ k = W.heap.size) a fs := fun W' t => by
  have b : Below W.heap.size W (W.alloc o) := (Below.refl _ _).alloc (Nat.le_refl _) _
  refine h W' ⟨t.os.trans b.os, t.tape.trans b.tape, t.output.trans b.output, Nat.le_trans b.size t.size, fun k hk hn => ?_⟩
  rw [t.block k (Nat.lt_of_lt_of_le hk b.size) (fun e => by
    rcases e with e | e
    · exact hn e
    · omega)]
  exact b.block k hk
theorem JF.foff {w W : World} {G cap n : Nat} {xs : List Value} {fs : List Frm} (j : JF w G cap n xs fs W) (hn : fs.length = n) : FOff W (fun k => k < w.heap.size) (some ⟨G, 0, none⟩) fs := fun W' t => j.off hn (fun k h => h) t
theorem JV.foff {w W : World} {v : Value} {n : Nat} {xs : List Value} {fs : List Frm} (j : JV w v n xs fs W) (hn : fs.length = n) : ∃ a cap, v = .slice a n cap ∧ FOff W (fun k => k < w.heap.size) a fs := by
  obtain ⟨a, cap, hv⟩ := j.isSlice
  refine ⟨a, cap, hv, fun W' t => ?_⟩
  obtain ⟨G, hG, ht⟩ := j.t
  have o' := own_off j.o (fun g hg hs => by have := (j.own hg).1; omega) t
  have b' : Below w.heap.size W W' → True := fun _ => trivial
  have t' := ht.off j.l (fun k h => h) t
  rcases o'.2 with ⟨e, h0⟩ | ⟨g, cap', cur, e, _⟩
  · subst h0
    intro i hi
    omega
  · have o := o'
    rw [e] at o hv
    simp only [Value.slice.injEq, true_and] at hv
    obtain ⟨rfl, rfl⟩ := hv
    rcases hG with hG | ⟨hG, _⟩
    · rw [e] at hG
      have : some g = some G := hG
      simp only [Option.some.injEq] at this
      subst this
      exact t'.forms hn o
    · rw [e] at hG; cases hG

/-- A row that can be read, whatever becomes of memory below B. -/
def RowX (W : World) (B : Nat) (v : Value) (r : RowM) : Prop :=
  ∃ ga gc aa ac ta tc, v = .agg #[.slice ga r.guards.length gc, .slice aa r.adds.length ac, .slice ta r.tells.length tc, .bool r.stop] ∧ FOff W (fun k => k < B) ga r.guards ∧ FOff W (fun k => k < B) aa r.adds ∧ FOff W (fun k => k < B) ta r.tells
theorem FormsAt.keep {W W' : World} {a : Option Addr} {fs : List Frm} (h : FormsAt W a fs) (hb : Below W.heap.size W W') : FormsAt W' a fs := fun i hi => by
  obtain ⟨b, off, e, a', c', ca, cc, c0, c1, c2, iC, iD⟩ := h i hi
  refine ⟨b, off, e, a', c', ca, cc, ?_, ?_, ?_, iC.below hb, iD.below hb⟩
  · rw [hb.cell (p := ⟨b, off + i * 3, none⟩) (block_lt c0)]; exact c0
  · rw [hb.cell (p := ⟨b, off + i * 3 + 1, none⟩) (block_lt c1)]; exact c1
  · rw [hb.cell (p := ⟨b, off + i * 3 + 2, none⟩) (block_lt c2)]; exact c2

/-- Blocks that hold no number, and no slice of two or three, hold no part of a form. -/
theorem Ints.past {W W' : World} {X : Nat} {a : Option Addr} {n : Nat} {zs : List Int} (h : Ints W a n zs) (hx : ∀ o q, W.cell? ⟨X, o, none⟩ ≠ some (.int .i64 q)) (t : Touch (fun z => z = X) W W') : Ints W' a n zs := by
  refine ⟨h.1, fun i hi => ?_⟩
  obtain ⟨b, off, e, hc⟩ := h.2 i hi
  refine ⟨b, off, e, ?_⟩
  have hb := block_lt hc
  have hne : b ≠ X := fun e2 => by subst e2; exact hx _ _ hc
  simp only [World.cell?] at hc ⊢
  rw [t.block b hb hne]; exact hc
theorem FormsAt.past {W W' : World} {X : Nat} {a : Option Addr} {fs : List Frm} (h : FormsAt W a fs) (hx : ∀ o v, W.cell? ⟨X, o, none⟩ = some v → v = .slice none 0 0 ∨ v = .bool false) (t : Touch (fun z => z = X) W W') : FormsAt W' a fs := fun i hi => by
  obtain ⟨b, off, e, a', c', ca, cc, c0, c1, c2, iC, iD⟩ := h i hi
  have hi' : ∀ o q, W.cell? ⟨X, o, none⟩ ≠ some (.int .i64 q) := fun o q hq => by rcases hx o _ hq with h | h <;> cases h
  have hne : b ≠ X := fun e2 => by subst e2; rcases hx _ _ c0 with h | h <;> cases h
  have hb := block_lt c0
  refine ⟨b, off, e, a', c', ca, cc, ?_, ?_, ?_, iC.past hi' t, iD.past hi' t⟩
  · simp only [World.cell?] at c0 ⊢; rw [t.block b hb hne]; exact c0
  · simp only [World.cell?] at c1 ⊢; rw [t.block b hb hne]; exact c1
  · simp only [World.cell?] at c2 ⊢; rw [t.block b hb hne]; exact c2
theorem JV.past {w W W' : World} {X : Nat} {v : Value} {n : Nat} {xs : List Value} {fs : List Frm} (j : JV w v n xs fs W) (hX : w.heap.size ≤ X) (hx : ∀ o q, W.cell? ⟨X, o, none⟩ ≠ some (.int .i64 q)) (ne : v.ownBlock ≠ some X) (t : Touch (fun z => z = X) W W') : JV w v n xs fs W' := by
  obtain ⟨G, hG, ht⟩ := j.t
  refine ⟨j.b.trans (t.below j.b.size (fun k hk => by omega)), ⟨j.o.1, ?_⟩, ⟨G, hG, fun i hi => ?_⟩, j.l⟩
  · rcases j.o.2 with h2 | ⟨g, cap, cur, hv, hg, hh, r⟩
    · exact Or.inl h2
    · refine Or.inr ⟨g, cap, cur, hv, hg, ?_, r⟩
      have hne : g ≠ X := fun e => ne (by rw [hv, e]; rfl)
      rw [t.block g (lt_of_block hh) hne]; exact hh
  · obtain ⟨a', c', ca, cc, e0, e1, e2, i1, i2, n1, n2⟩ := ht i hi
    exact ⟨a', c', ca, cc, e0, e1, e2, i1.past hx t, i2.past hx t, n1, n2⟩

theorem Cel.four {w : World} {B : Nat} {x y z u : Value} {t : TypeId} (h : Cel w B [x, y, z, u] t) : w.cell? ⟨B, 0, none⟩ = some x ∧ w.cell? ⟨B, 1, none⟩ = some y ∧ w.cell? ⟨B, 2, none⟩ = some z ∧ w.cell? ⟨B, 3, none⟩ = some u := ⟨h.cell 0, h.cell 1, h.cell 2, h.cell 3⟩
theorem boxNo {W : World} {X : Nat} {a a' a'' : Option Addr} {n n' n'' c c' c'' : Nat} {bb : Bool} {t : TypeId} (h : Cel W X [.slice a n c, .slice a' n' c', .slice a'' n'' c'', .bool bb] t) : ∀ o q, W.cell? ⟨X, o, none⟩ ≠ some (.int .i64 q) := fun o q e => by
  have := h.cell o
  rw [e] at this
  match o with
  | 0 => simp at this
  | 1 => simp at this
  | 2 => simp at this
  | 3 => simp at this
  | o + 4 => simp at this
theorem boxNil {W : World} {X : Nat} {t : TypeId} (h : Cel W X [.slice none 0 0, .slice none 0 0, .slice none 0 0, .bool false] t) : ∀ o v, W.cell? ⟨X, o, none⟩ = some v → v = .slice none 0 0 ∨ v = .bool false := fun o v e => by
  have := h.cell o
  rw [e] at this
  match o with
  | 0 => simp at this; exact Or.inl this
  | 1 => simp at this; exact Or.inl this
  | 2 => simp at this; exact Or.inl this
  | 3 => simp at this; exact Or.inr this
  | o + 4 => simp at this
theorem pot_bnd {k : Nat} (hk : k < 3) : bndT 1000000000000000000 (-1) (([0, 0, 0] : List Int).set k 1) := fun i => by
  match k, hk, i with
  | 0, _, 0 => simp
  | 0, _, 1 => simp
  | 0, _, 2 => simp
  | 0, _, i + 3 => simp
  | 1, _, 0 => simp
  | 1, _, 1 => simp
  | 1, _, 2 => simp
  | 1, _, i + 3 => simp
  | 2, _, 0 => simp
  | 2, _, 1 => simp
  | 2, _, 2 => simp
  | 2, _, i + 3 => simp
theorem pot_bnd2 : bndT 1000000000000000000 (-1) ([0, 0] : List Int) := fun i => by
  match i with
  | 0 => simp
  | 1 => simp
  | i + 2 => simp

set_option maxHeartbeats 6400000 in
theorem srowend_any (y : Way) (pa : Option Addr) (cp : Nat) (ga : Option Addr) (ng gc : Nat) (ta : Option Addr) (nt tc : Nat) (w : World) (hp : y.pots.length = 3) (hg : y.guards.length = ng) (ht : y.tells.length = nt)
    (hP : FormsAt w pa y.pots) (hG : FormsAt w ga y.guards) (hT : FormsAt w ta y.tells) (fp : ∀ k, k < 3 → fitX 10000000 (y.pots[k]?.getD noX)) (fg : ∀ k, k < ng → fitX 10000000 (y.guards[k]?.getD ([], [], 0))) (ft : ∀ k, k < nt → fitX 10000000 (y.tells[k]?.getD ([], [], 0))) (hg1 : ng ≤ 1048576) (ht1 : nt ≤ 1048576) :
    Calls Try.prog 82 #[.slice pa 3 cp, .slice ga ng gc, .slice ta nt tc] w fun e w' => ∃ v, e = .returned v ∧ Below w.heap.size w w' ∧ RowX w' w.heap.size v (endW y) := by
  have HPL : Hid (y.pots.length = 3) := hp
  have HGL : Hid (y.guards.length = ng) := hg
  have HTL : Hid (y.tells.length = nt) := ht
  have HP : Hid (FormsAt w pa y.pots) := hP
  have HFP : Hid _ := fp
  have HFG : Hid _ := fg
  have HFT : Hid _ := ft
  clear hp hg ht fp fg ft hP
  obtain ⟨i0, hi, hz0, hz1, hz2⟩ := info_parts Try.infoForm
  have B0 : Below w.heap.size w (w.alloc (.cells #[.slice none 0 0, .slice none 0 0, .slice none 0 0, .bool false] 38)) := (Below.refl _ _).alloc (Nat.le_refl _) _
  have r0 := Cel.new w [.slice none 0 0, .slice none 0 0, .slice none 0 0, .bool false] 38
  go_enter Try.func82, Try.ntmps82
  go_wp2_with fail
  refine (scopy_any _ _ _ y.guards _ HGL.out (hG.keep B0) HFG.out hg1).mono ?_
  rintro e w1 ⟨G1, cp1, xs1, rfl, j1⟩
  have B1 := B0.trans (j1.b.mono B0.size)
  have r1 := r0.below j1.b
  have g1 := j1.foff HGL.out
  rw [World.size_alloc] at g1
  clear r0 B0 j1
  go_wp2_with fail
  refine (scopy_any _ _ _ y.tells _ HTL.out (hT.keep B1) HFT.out ht1).mono ?_
  rintro e w2 ⟨G2, cp2, xs2, rfl, j2⟩
  have B2 := B1.trans (j2.b.mono B1.size)
  have r2 := r1.below j2.b
  have g2 := g1.below j2.b
  have t2 := j2.foff HTL.out
  have z12 := r1.lt
  clear r1 B1 j2 g1
  go_wp2_with fail
  have lX := r2.lt
  have x0 := Cel.new w2 [.slice (some ⟨G1, 0, none⟩) ng cp1, .slice none 0 0, .slice (some ⟨G2, 0, none⟩) nt cp2, .bool false] 38
  have j0 : JV w2 (.slice none 0 0) 0 [] (endW y).adds (w2.alloc (.cells #[.slice (some ⟨G1, 0, none⟩) ng cp1, .slice none 0 0, .slice (some ⟨G2, 0, none⟩) nt cp2, .bool false] 38)) := (JV.nil w2 _).below ((Below.refl _ _).alloc (Nat.le_refl _) _)
  go_loopw [8] (fun i wr => ∃ (k : Nat) (v : Value) (xs : List Value), k ≤ 3 ∧ i = .int .i64 k ∧ Cel wr w2.heap.size [.slice (some ⟨G1, 0, none⟩) ng cp1, v, .slice (some ⟨G2, 0, none⟩) nt cp2, .bool false] 38 ∧ JV w2 v k xs (endW y).adds wr ∧ v.ownBlock ≠ some w2.heap.size) (fun i _ => 3 - (intOf i).toNat)
  case atStart => exact ⟨0, _, [], by omega, rfl, x0, j0, by intro h; cases h⟩
  case round =>
    clear x0 j0
    obtain ⟨k, v, xs, hk, rfl, xr, j, hne⟩ := hrel
    by_cases hlt : k < 3
    · obtain ⟨b, off, rfl, a', c', ca, cc, c0, c1, c2, iC, iD⟩ := HP.out k (by rw [HPL.out]; exact hlt)
      have hfit : fitX 10000000 (y.pots[k]?.getD ([], [], 0)) := HFP.out k hlt
      generalize HG : y.pots[k]?.getD ([], [], 0) = f at *
      have HT : Hid ((endW y).adds[k]?.getD ([], [], 0) = lessX f k) := by
        show _ = _
        rw [show (endW y).adds = (List.range 3).map (fun v => lessX (y.pots[v]?.getD noX) v) from rfl, List.getElem?_map, List.getElem?_range hlt]
        show lessX (y.pots[k]?.getD noX) k = _
        rw [show y.pots[k]?.getD noX = f from HG]
      clear HG
      obtain ⟨fC, fD, fK⟩ := f
      obtain ⟨lC, lD, bC, bD, q1, q2⟩ := hfit
      simp only at c2 iC iD lC lD bC bD q1 q2
      obtain ⟨va, vc, rfl⟩ := j.isSlice
      have keep : ∀ W : World, Below w.heap.size w W → (W.cell? ⟨b, off + k * 3, none⟩ = some (.slice a' 3 ca) ∧ W.cell? ⟨b, off + k * 3 + 1, none⟩ = some (.slice c' 2 cc) ∧ W.cell? ⟨b, off + k * 3 + 2, none⟩ = some (.int .i64 fK)) := fun W hW =>
        ⟨by rw [hW.cell (p := ⟨b, off + k * 3, none⟩) (block_lt c0)]; exact c0, by rw [hW.cell (p := ⟨b, off + k * 3 + 1, none⟩) (block_lt c1)]; exact c1, by rw [hW.cell (p := ⟨b, off + k * 3 + 2, none⟩) (block_lt c2)]; exact c2⟩
      have KP : Hid (∀ W : World, Below w2.heap.size w2 W → _) := fun W hW => keep W (B2.trans (hW.mono B2.size))
      clear keep c0 c1 c2
      have xd : Cel wr.drew w2.heap.size [.slice (some ⟨G1, 0, none⟩) ng cp1, .slice va k vc, .slice (some ⟨G2, 0, none⟩) nt cp2, .bool false] 38 := xr
      have hSS := And.intro (KP.out _ j.b.drew) (xd.cell 1)
      simp only [List.getElem?_cons_zero, List.getElem?_cons_succ] at hSS
      have bw : ∀ W, Below wr.heap.size wr W → Below w.heap.size w W := fun W hW => B2.trans ((j.b.trans (hW.mono j.b.size)).mono B2.size)
      have lx := xr.lt
      have hlt' : (k : Int) < 3 := by omega
      go_upto_region 5 with fail
      refine wp_region_ends (fun w' => w'.cell? ⟨b, off + k * 3, none⟩ = some (.slice a' 3 ca) ∧ w'.cell? ⟨b, off + k * 3 + 1, none⟩ = some (.slice c' 2 cc) ∧ w'.cell? ⟨b, off + k * 3 + 2, none⟩ = some (.int .i64 fK)) (fun w' => w'.cell? ⟨w2.heap.size, 1, none⟩ = some (.slice va k vc)) 11 (by kernel_rfl) ?_
      refine wpAnyE_take0 (i := 0) (v := ?v0) rfl (by kernel_rfl) (by kernel_rfl) (by kernel_rfl) (by decide) (fun _ _ _ h => h) (Or.inl ⟨by rfl, ?hy0⟩) hSS ?_
      case hy0 => (intro wz hSw; (try dsimp only at hSw); go_simp; try (with_reducible rfl))
      refine wpAnyE_take1 (i := 1) (v := ?v1) rfl rfl (by kernel_rfl) (by kernel_rfl) (by kernel_rfl) (by decide) (by rfl) (by simp [Region.binds]) (fun _ _ _ h => h) (Or.inl ⟨by rfl, ?hy1⟩) hSS ?_
      case hy1 => (intro wz hSw; (try dsimp only at hSw); go_simp; try (with_reducible rfl))
      refine wpAnyE_take0 (i := 2) (v := ?v2) rfl (by kernel_rfl) (by kernel_rfl) (by kernel_rfl) (by decide) (fun _ _ _ h => h) (Or.inl ⟨by rfl, ?hy2⟩) hSS ?_
      case hy2 => (intro wz hSw; (try dsimp only at hSw); go_simp; try (with_reducible rfl))
      refine wpAnyE_take0 (i := 3) (v := ?v3) rfl (by kernel_rfl) (by kernel_rfl) (by kernel_rfl) (by decide) (fun _ _ _ h => h) (Or.inl ⟨by rfl, ?hy3⟩) hSS ?_
      case hy3 => (intro wz hSw; (try dsimp only at hSw); go_simp; try (with_reducible rfl))
      refine wpAnyE_take0 (i := 4) (v := ?v4) rfl (by kernel_rfl) (by kernel_rfl) (by kernel_rfl) (by decide) (fun _ _ _ h => h) (Or.inl ⟨by rfl, ?hy4⟩) hSS ?_
      case hy4 => (intro wz hSw; (try dsimp only at hSw); go_simp; try (with_reducible rfl))
      refine wpAnyE_take0 (i := 5) (v := ?v5) rfl (by kernel_rfl) (by kernel_rfl) (by kernel_rfl) (by decide) (fun _ _ _ h => h) (Or.inl ⟨by rfl, ?hy5⟩) hSS ?_
      case hy5 => (intro wz hSw; (try dsimp only at hSw); go_simp; try (with_reducible rfl))
      refine wpAnyE_take0 (i := 6) (v := ?v6) rfl (by kernel_rfl) (by kernel_rfl) (by kernel_rfl) (by decide) (fun _ _ _ h => h) (Or.inl ⟨by rfl, ?hy6⟩) hSS ?_
      case hy6 => (intro wz hSw; (try dsimp only at hSw); go_simp; try (with_reducible rfl))
      refine wpAnyE_one (i := 7) (by kernel_rfl) rfl (fun K hK => ?_)
      go_simp
      refine (spot_any _ _).mono ?_
      rintro ee w3 ⟨za, zn, zcap, zc, zm, zcap', Z1, Z2, rfl, L1, L2, b3, o1, o2, -, -, -⟩
      rw [potC_in (k : Int) k rfl (by omega)] at L1 o1
      rw [potD_in (k : Int) (by omega) (by omega)] at L2 o2
      obtain rfl : zn = 3 := by rw [← L1]; simp
      obtain rfl : zm = 2 := by rw [← L2]; simp
      have z1 := o1.ints
      have z2 := o2.ints
      rw [L1] at z1
      rw [L2] at z2
      have b3' := below_of_drew b3
      have j3 := j.below b3'
      have x3 := xr.below b3'
      have i1 := iC.below (bw _ b3')
      have i2 := iD.below (bw _ b3')
      have hS3 := And.intro (KP.out _ j3.b) (x3.cell 1)
      simp only [List.getElem?_cons_zero, List.getElem?_cons_succ] at hS3
      dsimp only
      refine hK.out _ _ ⟨hS3.1, fun _ => hS3.2⟩ ?_
      have s3 := b3'.size
      clear hK K hSS hS3 j o1 o2 b3 b3' L1 L2 iC iD bw xd xr
      refine wpAnyE_one (i := 8) (by kernel_rfl) rfl (fun K hK => ?_)
      go_simp
      refine (l1sum_any _ _ _ _ _ fC fD _ _ _ _ _ _ _ _ _ i1 i2 z1 z2 (fun i => by have := bC i; omega) (fun i => by have := bD i; omega) (by omega) (pot_bnd hlt) pot_bnd2 (by omega)).mono ?_
      rintro ee w4 ⟨D1, D2, rfl, b4, g1, g3, g4, u1, u2⟩
      have e0 : fK + -1 * (0 : Int) = fK := by omega
      rw [e0]
      have hs3 := j3.b.size
      have j4 := j3.below b4
      have x4 := x3.below b4
      have hS4 := And.intro (KP.out _ j4.b) (x4.cell 1)
      simp only [List.getElem?_cons_zero, List.getElem?_cons_succ] at hS4
      have m1 : (Value.slice va k vc).ownBlock ≠ some D1 := fun e => by have := (j3.own e).2; omega
      have m2 : (Value.slice va k vc).ownBlock ≠ some D2 := fun e => by have := (j3.own e).2; omega
      have s4 := b4.size
      dsimp only
      refine hK.out _ _ ⟨hS4.1, fun _ => hS4.2⟩ ?_
      clear hK K hS4 b4 z1 z2 i1 i2 j3 x3
      refine wpAnyE_one (i := 9) (by kernel_rfl) rfl (fun K hK => ?_)
      go_simp
      have A5 : Below w4.heap.size w4 (w4.alloc (.cells #[.slice (some ⟨D1, 0, none⟩) 3 3, .slice (some ⟨D2, 0, none⟩) 2 2, .int .i64 fK] 32)) := (Below.refl _ _).alloc (Nat.le_refl _) _
      have j5 := j4.below A5
      have x5 := x4.below A5
      have hs5 := j5.b.size
      have v1 := u1.below A5
      have v2 := u2.below A5
      have hS5 := And.intro (KP.out _ j5.b) (x5.cell 1)
      simp only [List.getElem?_cons_zero, List.getElem?_cons_succ] at hS5
      refine hK.out _ _ ⟨hS5.1, fun _ => hS5.2⟩ ?_
      clear hK K hS5 A5 j4 x4 u1 u2
      refine wpAnyE_one (i := 10) (by kernel_rfl) rfl (fun K hK => ?_)
      rw [if_pos (by rfl)]
      refine wp_append_lies _ (.tmp 19) (.tmp 27) 36 rfl w2.heap.size 32 i0 _ 3 56 Try.underlying36 hi hz0 hz1 hz2 rfl (by omega) (.slice va k vc) k xs (by rfl) j5.o ⟨w4.heap.size, 0, none⟩ 1 1 [Value.slice (some ⟨D1, 0, none⟩) 3 3, Value.slice (some ⟨D2, 0, none⟩) 2 2, Value.int .i64 fK] (by rfl) (by rfl) (World.news_of_block (cs := #[Value.slice (some ⟨D1, 0, none⟩) 3 3, Value.slice (some ⟨D2, 0, none⟩) 2 2, Value.int .i64 fK]) (t := 32) (fr := (0, 0)) (heap_alloc_new w4 _)) (by simp [Value.oneCell']) (by omega) (by unfold maxLen; omega) (by omega) hs5 (w4.heap.size + 1) (by rw [World.size_alloc]) ?_
      intro g cp6 w6 hown hgrow hat hlt6
      have j6 := j5.app hown hgrow hat (by rw [World.size_alloc]) (v1.ints' (lin_len lC (by simp))) (v2.ints' (lin_len lD rfl)) m1 m2 (by omega) (by omega) (by rw [HT.out]; show (lin fC _ (-1), lin fD _ (-1), fK + -1 * 0) = _; rw [e0])
      have x6 := x5.grew hgrow hne
      have ne6 : some g ≠ some w2.heap.size := fun e => by
        rcases hat with h | h
        · exact hne (h.trans e)
        · simp only [Option.some.injEq] at e; omega
      have hS6 := And.intro (KP.out _ j6.b) (x6.cell 1)
      simp only [List.getElem?_cons_zero, List.getElem?_cons_succ] at hS6
      refine hK.out _ _ ⟨hS6.1, fun _ => hS6.2⟩ ?_
      have f6 := x6.free 1
      clear hK K hown hgrow hat j5 x5 v1 v2 m1 m2
      refine wpAnyE_one (i := 11) (by kernel_rfl) rfl (fun K hK => ?_)
      go_simp
      refine hK.out _ _ ⟨hS6.1, fun h => absurd (show true = false from h) (by decide)⟩ ?_
      clear hK K
      have T7 : Touch (fun z => z = w2.heap.size) w6 (w6.setCell ⟨w2.heap.size, 1, none⟩ (.slice (some ⟨g, 0, none⟩) (k + 1) cp6)) := Touch.setCell (S := fun z => z = w2.heap.size) (Touch.refl _ _) rfl _
      have j7 := j6.past (Nat.le_refl _) (boxNo x6) ne6 T7
      have x7 := x6.set 1 (.slice (some ⟨g, 0, none⟩) (k + 1) cp6)
      have c61 := hS6.2
      refine wpAnyE_one (i := 12) (by kernel_rfl) rfl (fun K hK => ?_)
      go_simp
      refine hK.out _ _ ⟨KP.out _ j7.b, fun h => absurd (show true = false from h) (by decide)⟩ ?_
      clear hK K
      refine wpAnyE_done (by kernel_rfl) ?_ _
      clear j6 x6 T7 hS6 f6 c61
      go_wp2
      go_roundw
      case rel => exact ⟨k + 1, _, _, by omega, by go_num, x7, j7, ne6⟩
      case measure => simp [intOf]; omega
    · obtain rfl : k = 3 := by omega
      obtain ⟨aa, ac, rfl, hA⟩ := j.foff rfl
      obtain ⟨d0, d1, d2, d3⟩ := xr.four
      have r6 := r2.below j.b
      obtain ⟨e0, e1, e2, e3⟩ := r6.four
      have f0 := r6.free 0
      have f1 := r6.free 1
      have f2 := r6.free 2
      have f3 := r6.free 3
      have bb := B2.trans (j.b.mono B2.size)
      have gA := g2.below j.b
      have tA := t2.below j.b
      go_wp2
      have T6 : Touch (fun z => z = w.heap.size) wr ((((wr.setCell ⟨w.heap.size, 0, none⟩ (.slice (some ⟨G1, 0, none⟩) ng cp1)).setCell ⟨w.heap.size, 1, none⟩ (.slice aa 3 ac)).setCell ⟨w.heap.size, 2, none⟩ (.slice (some ⟨G2, 0, none⟩) nt cp2)).setCell ⟨w.heap.size, 3, none⟩ (.bool false)) :=
        Touch.setCell (Touch.setCell (Touch.setCell (Touch.setCell (S := fun z => z = w.heap.size) (Touch.refl _ _) rfl _) rfl _) rfl _) rfl _
      refine bodyPost_ret (v := .agg #[.slice (some ⟨G1, 0, none⟩) ng cp1, .slice aa 3 ac, .slice (some ⟨G2, 0, none⟩) nt cp2, .bool false]) (by simp [results, Try.results82, go_sem, e0, e1, e2, e3]) rfl ?_
      refine ⟨_, rfl, ?_, some ⟨G1, 0, none⟩, cp1, aa, ac, some ⟨G2, 0, none⟩, cp2, ?_, (gA.touch (T6.mono (fun k hk => by omega))).mono (fun k hk => by omega), (hA.touch (T6.mono (fun k hk => by omega))).mono (fun k hk => by omega), (tA.touch (T6.mono (fun k hk => by omega))).mono (fun k hk => by omega)⟩
      · exact bb.trans (T6.below bb.size (fun k hk => by omega))
      · show _ = Value.agg #[.slice _ y.guards.length _, .slice _ 3 _, .slice _ y.tells.length _, .bool false]
        rw [HGL.out, HTL.out]

end Go.Proofs.Ytngfbcegcekbbaa
namespace Go.Proofs.Ytngfbcegcekbbaa
open Go.RowKit Go.Deep
set_option linter.unusedVariables false
set_option maxRecDepth 100000

theorem goW_ne {ls : List LV} (f : Nat) : ∀ (i : Nat) (y : Way), 0 < (goW ls f i y).length := by
  induction f with
  | zero => intro i y; simp [goW]
  | succ f ih =>
    intro i y
    rw [goW]
    split
    · split
      · rw [List.length_append]; have := ih (i + 1) (y.guard (intoX (ls[i]?.getD noLV).f y.pots)); omega
      · split
        · exact ih _ _
        · split
          · exact ih _ _
          · simp
    · simp
theorem goW_len {ls : List LV} (f : Nat) : ∀ (i : Nat) (y : Way), (goW ls f i y).length ≤ 2 ^ f := by
  induction f with
  | zero => intro i y; simp [goW]
  | succ f ih =>
    intro i y
    have hp : 1 ≤ 2 ^ f := Nat.one_le_two_pow
    have h2 : 2 ^ (f + 1) = 2 ^ f + 2 ^ f := by rw [Nat.pow_succ]; omega
    rw [goW]
    split
    · split
      · rw [List.length_append]
        have h3 := ih (i + 1) (y.guard (intoX (ls[i]?.getD noLV).f y.pots))
        have h4 := ih (i + 1 + (ls[i]?.getD noLV).skip.toNat) (y.guard (minusX (intoX (ls[i]?.getD noLV).f y.pots)))
        omega
      · split
        · have := ih (i + 1) (y.add (ls[i]?.getD noLV).pot.toNat (intoX (ls[i]?.getD noLV).f y.pots)); omega
        · split
          · have := ih (i + 1) (y.tell (intoX (ls[i]?.getD noLV).f y.pots)); omega
          · simp; omega
    · simp; omega
theorem goW_128 {ls : List LV} {f i : Nat} {y : Way} (hf : f ≤ 7) : (goW ls f i y).length ≤ 128 :=
  Nat.le_trans (goW_len f i y) (Nat.le_trans (Nat.pow_le_pow_right (by omega) hf) (by decide))

theorem FOff.grown {W W' : World} {B G g : Nat} {a : Option Addr} {fs : List Frm} (h : FOff W (fun k => k < B ∨ k = G) a fs) (hg : W.grownBy W' (some G)) (hat : g = G ∨ W.heap.size ≤ g) : FOff W' (fun k => k < B ∨ k = g) a fs := fun W'' t => by
  refine h W'' ⟨t.os.trans hg.os, t.tape.trans hg.tape, t.output.trans hg.output, Nat.le_trans hg.size t.size, fun k hk hn => ?_⟩
  have hk1 : ¬ k < B := fun e => hn (Or.inl e)
  have hk2 : k ≠ G := fun e => hn (Or.inr e)
  rw [t.block k (Nat.lt_of_lt_of_le hk hg.size) (fun e => by omega)]
  exact hg.block k hk (fun e => by simp only [Option.some.injEq] at e; omega)

def noR : RowM := ⟨[], [], [], false⟩
/-- Rows in cells; they read on whatever becomes of the blocks of S. -/
def RowsOk (W : World) (S : Nat → Prop) (xs : List Value) (rs : List RowM) : Prop :=
  ∀ j, j < rs.length → ∃ ga gc aa ac ta tc, xs[j * 4]? = some (.slice ga (rs[j]?.getD noR).guards.length gc) ∧ xs[j * 4 + 1]? = some (.slice aa (rs[j]?.getD noR).adds.length ac) ∧ xs[j * 4 + 2]? = some (.slice ta (rs[j]?.getD noR).tells.length tc) ∧ xs[j * 4 + 3]? = some (.bool (rs[j]?.getD noR).stop) ∧
    FOff W S ga (rs[j]?.getD noR).guards ∧ FOff W S aa (rs[j]?.getD noR).adds ∧ FOff W S ta (rs[j]?.getD noR).tells
theorem RowsOk.map {W W' : World} {S S' : Nat → Prop} {xs : List Value} {rs : List RowM} (h : RowsOk W S xs rs) (hf : ∀ a fs, FOff W S a fs → FOff W' S' a fs) : RowsOk W' S' xs rs := fun j hj => by
  obtain ⟨ga, gc, aa, ac, ta, tc, e0, e1, e2, e3, f0, f1, f2⟩ := h j hj
  exact ⟨ga, gc, aa, ac, ta, tc, e0, e1, e2, e3, hf _ _ f0, hf _ _ f1, hf _ _ f2⟩
theorem RowsOk.join {W : World} {S : Nat → Prop} {xs ys : List Value} {rs ss : List RowM} (h1 : RowsOk W S xs rs) (h2 : RowsOk W S ys ss) (hl : xs.length = rs.length * 4) : RowsOk W S (xs ++ ys) (rs ++ ss) := fun j hj => by
  rw [List.length_append] at hj
  by_cases hjr : j < rs.length
  · rw [List.getElem?_append_left (l₁ := rs) hjr, List.getElem?_append_left (by omega), List.getElem?_append_left (by omega), List.getElem?_append_left (by omega), List.getElem?_append_left (by omega)]
    exact h1 j hjr
  · rw [List.getElem?_append_right (l₁ := rs) (by omega), List.getElem?_append_right (by omega), List.getElem?_append_right (by omega), List.getElem?_append_right (by omega), List.getElem?_append_right (by omega), hl]
    have := h2 (j - rs.length) (by omega)
    rw [show j * 4 - rs.length * 4 = (j - rs.length) * 4 by omega, show j * 4 + 1 - rs.length * 4 = (j - rs.length) * 4 + 1 by omega, show j * 4 + 2 - rs.length * 4 = (j - rs.length) * 4 + 2 by omega, show j * 4 + 3 - rs.length * 4 = (j - rs.length) * 4 + 3 by omega]
    exact this

/-- A slice of rows, in memory made since w. -/
structure JR (w : World) (G cap : Nat) (xs : List Value) (rs : List RowM) (W : World) : Prop where
  b : Below w.heap.size w W
  o : W.ownsRow w.heap.size 38 4 (.slice (some ⟨G, 0, none⟩) rs.length cap) rs.length xs
  r : RowsOk W (fun k => k < w.heap.size ∨ k = G) xs rs
theorem JR.below {w W W' : World} {G cap : Nat} {xs : List Value} {rs : List RowM} (j : JR w G cap xs rs W) (h : Below W.heap.size W W') : JR w G cap xs rs W' := ⟨j.b.trans (h.mono j.b.size), own_below j.o h, j.r.map (fun _ _ f => f.below h)⟩
theorem JR.lt {w W : World} {G cap : Nat} {xs : List Value} {rs : List RowM} (j : JR w G cap xs rs W) : w.heap.size ≤ G ∧ G < W.heap.size := by
  rcases j.o.2 with ⟨h, _⟩ | ⟨g, cap', cur, h, hg, hh, _⟩
  · cases h
  · simp only [Value.slice.injEq, Option.some.injEq, Addr.mk.injEq, and_true, true_and] at h
    obtain ⟨rfl, _⟩ := h
    exact ⟨hg, lt_of_block hh⟩
/-- Two slices joined: the second was made behind the first. -/
theorem JR.join {w w1 W W' : World} {G cap G2 cap2 g cp n1 n2 : Nat} {xs ys : List Value} {rs ss : List RowM} (j : JR w G cap xs rs W) (j2 : JR w1 G2 cap2 ys ss W) (hb : w.heap.size ≤ w1.heap.size) (hG : G < w1.heap.size) (hn1 : rs.length = n1) (hn2 : ss.length = n2)
    (hown : W'.ownsRow w.heap.size 38 4 (.slice (some ⟨g, 0, none⟩) (n1 + n2) cp) (n1 + n2) (xs ++ ys)) (hg : W.grownBy W' (some G)) {H : Nat} (hat : some G = some g ∨ g = H) (hH : W.heap.size = H) : JR w g cp (xs ++ ys) (rs ++ ss) W' := by
  subst hn1 hn2
  have hat' : g = G ∨ W.heap.size ≤ g := by
    rcases hat with h | h
    · simp only [Option.some.injEq] at h; exact Or.inl h.symm
    · exact Or.inr (by omega)
  have r2 : RowsOk W (fun k => k < w.heap.size ∨ k = G) ys ss := j2.r.map (fun _ _ f => f.mono (fun k hk => by omega))
  refine ⟨j.b.grown hg j.b.size (fun z hz => by simp only [Option.some.injEq] at hz; have := j.lt; omega), by rw [List.length_append]; exact hown, ?_⟩
  exact (j.r.join r2 j.o.1).map (fun _ _ f => f.grown hg hat')

end Go.Proofs.Ytngfbcegcekbbaa
namespace Go.Proofs.Ytngfbcegcekbbaa
open Go.RowKit Go.Deep
set_option linter.unusedVariables false
set_option maxRecDepth 100000

theorem allB_ofW {M : Int} {zs : List Int} (h : bnd M zs) : allB M zs = true := by
  unfold allB
  rw [List.all_eq_true]
  intro z hz
  obtain ⟨i, hi, rfl⟩ := List.getElem_of_mem hz
  have := h i
  rw [List.getElem?_eq_getElem hi] at this
  simp only [Option.getD_some] at this
  exact inB_iff.2 this
theorem fit_ok {f : Frm} (h : fitX 10000000 f) : formB 3 2 f.1 f.2.1 f.2.2 = true := by
  simp only [formB, okN, Bool.and_eq_true, decide_eq_true_eq]
  exact ⟨⟨⟨rfl, allB_ofW h.bc⟩, rfl, allB_ofW h.bd⟩, inB_iff.2 ⟨h.k1, h.k2⟩⟩
/-- Forms that can be read, with where they lie. -/
theorem FormsAt.fv {w : World} {a : Option Addr} {P : List Frm} (h : FormsAt w a P) (hl : P.length = 3) : ∃ fs : List FV, fs.length = 3 ∧ FormsG w a fs ∧ ∀ k, k < 3 → (fs[k]?.getD noFV).n = 3 ∧ (fs[k]?.getD noFV).m = 2 ∧ (fs[k]?.getD noFV).C = (P[k]?.getD noX).1 ∧ (fs[k]?.getD noFV).D = (P[k]?.getD noX).2.1 ∧ (fs[k]?.getD noFV).K = (P[k]?.getD noX).2.2 := by
  obtain ⟨b, off, e, a0, c0, p0, q0, x0, x1, x2, i0, j0⟩ := h 0 (by omega)
  obtain ⟨b1, off1, e1, a1, c1, p1, q1, y0, y1, y2, i1, j1⟩ := h 1 (by omega)
  obtain ⟨b2, off2, e2, a2, c2, p2, q2, z0, z1, z2, i2, j2⟩ := h 2 (by omega)
  refine ⟨[⟨a0, 3, p0, c0, 2, q0, (P[0]?.getD noX).2.2, (P[0]?.getD noX).1, (P[0]?.getD noX).2.1⟩, ⟨a1, 3, p1, c1, 2, q1, (P[1]?.getD noX).2.2, (P[1]?.getD noX).1, (P[1]?.getD noX).2.1⟩, ⟨a2, 3, p2, c2, 2, q2, (P[2]?.getD noX).2.2, (P[2]?.getD noX).1, (P[2]?.getD noX).2.1⟩], rfl, fun i hi => ?_, fun k hk => ?_⟩
  · match i, hi with
    | 0, _ => exact ⟨b, off, e, x0, x1, x2, ⟨i0, j0, by show (3 : Nat) ≤ _; omega, by show (2 : Nat) ≤ _; omega⟩⟩
    | 1, _ => exact ⟨b1, off1, e1, y0, y1, y2, ⟨i1, j1, by show (3 : Nat) ≤ _; omega, by show (2 : Nat) ≤ _; omega⟩⟩
    | 2, _ => exact ⟨b2, off2, e2, z0, z1, z2, ⟨i2, j2, by show (3 : Nat) ≤ _; omega, by show (2 : Nat) ≤ _; omega⟩⟩
  · match k, hk with
    | 0, _ => exact ⟨rfl, rfl, rfl, rfl, rfl⟩
    | 1, _ => exact ⟨rfl, rfl, rfl, rfl, rfl⟩
    | 2, _ => exact ⟨rfl, rfl, rfl, rfl, rfl⟩

theorem into_eq {g : FV} {P : List Frm} {fs : List FV} (hP : P.length = 3) (h : ∀ k, k < 3 → (fs[k]?.getD noFV).C = (P[k]?.getD noX).1 ∧ (fs[k]?.getD noFV).D = (P[k]?.getD noX).2.1 ∧ (fs[k]?.getD noFV).K = (P[k]?.getD noX).2.2) : intoC g.C fs 3 = (intoX g P).1 ∧ intoD g.C g.D fs 3 = (intoX g P).2.1 ∧ intoK g.C g.K fs 3 = (intoX g P).2.2 := by
  obtain ⟨x0, x1, x2⟩ := h 0 (by omega)
  obtain ⟨y0, y1, y2⟩ := h 1 (by omega)
  obtain ⟨z0, z1, z2⟩ := h 2 (by omega)
  have t0 := toFV_at (P := P) (k := 0) (by omega)
  have t1 := toFV_at (P := P) (k := 1) (by omega)
  have t2 := toFV_at (P := P) (k := 2) (by omega)
  simp only [intoX, intoC, intoD, intoK, x0, x1, x2, y0, y1, y2, z0, z1, z2, t0, t1, t2, toFV]
  exact ⟨trivial, trivial, trivial⟩

/-- What a call of either FrmInto leaves, where no number is too great. -/
theorem into_done {i : Nat} {y : Way} (hy : WayOk i y) (h6 : i ≤ 6) (g : FV) (hs : smallB g.n g.m g.C g.D g.K = true) (w : World) (hA : g.At w) (pa : Option Addr) (cp : Nat) (hP : FormsAt w pa y.pots) (fn : Nat)
    (call : ∀ fs : List FV, fs.length = 3 → FormsG w pa fs → Calls Try.prog fn #[formV g.a g.n g.cap g.c g.m g.cap' g.K, .slice pa 3 cp] w fun e w' => Res w w' e (keepL (intoOk g.n g.m g.C g.D g.K 3 fs) (intoC g.C fs 3)) (keepL (intoOk g.n g.m g.C g.D g.K 3 fs) (intoD g.C g.D fs 3)) (keepK (intoOk g.n g.m g.C g.D g.K 3 fs) (intoK g.C g.K fs 3))) :
    Calls Try.prog fn #[formV g.a g.n g.cap g.c g.m g.cap' g.K, .slice pa 3 cp] w fun e w' => ∃ B1 B2 c1 c2, e = .returned (formV (some ⟨B1, 0, none⟩) 3 c1 (some ⟨B2, 0, none⟩) 2 c2 (intoX g y.pots).2.2) ∧ Below w.heap.size w w' ∧ w.heap.size ≤ B1 ∧ B1 ≠ B2 ∧ w.heap.size ≤ B2 ∧ Blk w' B1 (intoX g y.pots).1 ∧ Blk w' B2 (intoX g y.pots).2.1 := by
  obtain ⟨fs, hl, hG, hv⟩ := hP.fv hy.pl
  have hw6 := wb_six h6
  obtain ⟨q1, q2, q3⟩ := into_eq (g := g) hy.pl (fun k hk => ⟨(hv k hk).2.2.1, (hv k hk).2.2.2.1, (hv k hk).2.2.2.2⟩)
  obtain ⟨f1, f2, f3⟩ := hy.into h6 hs hA.D.1
  have hok : fs.all FV.ok = true := by
    rw [List.all_eq_true]
    intro x hx
    obtain ⟨k, hk, rfl⟩ := List.getElem_of_mem hx
    obtain ⟨e1, e2, e3, e4, e5⟩ := hv k (by omega)
    rw [List.getElem?_eq_getElem hk] at e1 e2 e3 e4 e5
    simp only [Option.getD_some] at e1 e2 e3 e4 e5
    have hf := fit_ok ((hy.pf k (by omega)).mono (show wb (min i 6) ≤ 10000000 by have := wb_six (n := min i 6) (by omega); omega))
    unfold FV.ok
    rw [e1, e2, e3, e4, e5]; exact hf
  have hio : intoOk g.n g.m g.C g.D g.K 3 fs = true := by
    unfold intoOk
    rw [small_ok hs, hok, q1, q2, q3, fit_ok f2]; rfl
  refine (call fs hl hG).mono ?_
  rintro e w' ⟨a, n, cap, c, m, cap', B1, B2, rfl, L1, L2, b, o1, o2, g1, g2, g3⟩
  rw [hio] at L1 L2 o1 o2 ⊢
  simp only [keepL, keepK, if_true] at L1 L2 o1 o2 ⊢
  rw [q1] at L1 o1
  rw [q2] at L2 o2
  rw [q3]
  have hc := f2.c
  have hd := f2.d
  obtain rfl : n = 3 := by omega
  obtain rfl : m = 2 := by omega
  rcases o1 with h | ⟨rfl, k1⟩
  · rw [h] at hc; cases hc
  rcases o2 with h | ⟨rfl, k2⟩
  · rw [h] at hd; cases hd
  exact ⟨B1, B2, cap, cap', rfl, b, g1 (by omega), g3 (by omega) (by omega), g2 (by omega), k1, k2⟩

theorem sintoW_any {i : Nat} {y : Way} (hy : WayOk i y) (h6 : i ≤ 6) (g : FV) (hs : smallB g.n g.m g.C g.D g.K = true) (w : World) (hA : g.At w) (pa : Option Addr) (cp : Nat) (hP : FormsAt w pa y.pots) :
    Calls Try.prog 79 #[formV g.a g.n g.cap g.c g.m g.cap' g.K, .slice pa 3 cp] w fun e w' => ∃ B1 B2 c1 c2, e = .returned (formV (some ⟨B1, 0, none⟩) 3 c1 (some ⟨B2, 0, none⟩) 2 c2 (intoX g y.pots).2.2) ∧ Below w.heap.size w w' ∧ w.heap.size ≤ B1 ∧ B1 ≠ B2 ∧ w.heap.size ≤ B2 ∧ Blk w' B1 (intoX g y.pots).1 ∧ Blk w' B2 (intoX g y.pots).2.1 :=
  into_done hy h6 g hs w hA pa cp hP _ (fun fs hl hG => sinto_any _ _ _ _ _ _ _ g.C g.D _ _ _ fs _ hA.C hA.D hA.hn hA.hm hl hG (by omega))

theorem iintoW_any {i : Nat} {y : Way} (hy : WayOk i y) (h6 : i ≤ 6) (g : FV) (hs : smallB g.n g.m g.C g.D g.K = true) (w : World) (hA : g.At w) (pa : Option Addr) (cp : Nat) (hP : FormsAt w pa y.pots) :
    Calls Try.prog 110 #[formV g.a g.n g.cap g.c g.m g.cap' g.K, .slice pa 3 cp] w fun e w' => ∃ B1 B2 c1 c2, e = .returned (formV (some ⟨B1, 0, none⟩) 3 c1 (some ⟨B2, 0, none⟩) 2 c2 (intoX g y.pots).2.2) ∧ Below w.heap.size w w' ∧ w.heap.size ≤ B1 ∧ B1 ≠ B2 ∧ w.heap.size ≤ B2 ∧ Blk w' B1 (intoX g y.pots).1 ∧ Blk w' B2 (intoX g y.pots).2.1 :=
  into_done hy h6 g hs w hA pa cp hP _ (fun fs hl hG => iinto_any _ _ _ _ _ _ _ g.C g.D _ _ _ fs _ hA.C hA.D hA.hn hA.hm hl hG (by omega))

end Go.Proofs.Ytngfbcegcekbbaa
namespace Go.Proofs.Ytngfbcegcekbbaa
open Go.RowKit
set_option linter.unusedVariables false

theorem Ints.by {W W' : World} {G : Nat} {a : Option Addr} {n : Nat} {zs : List Int} (h : Ints W a n zs) (t : Touch (fun x => x = G) W W') (hne : ∀ b o, a = some ⟨b, o, none⟩ → b ≠ G) : Ints W' a n zs := by
  refine ⟨h.1, fun i hi => ?_⟩
  obtain ⟨b, off, e, hc⟩ := h.2 i hi
  refine ⟨b, off, e, ?_⟩
  rw [World.cell?_of_block (t.block b (block_lt hc) (hne b off e))]
  exact hc

theorem JF.put {base W : World} {G cp : Nat} {xs : List Value} {fs : List Frm} (j : JF base G cp 3 xs fs W) (hn : fs.length = 3) {p : Nat} (hp : p < 3) {B1 B2 ca cc : Nat} {C D : List Int} {K : Int} (k1 : Blk W B1 C) (l1 : C.length = 3) (k2 : Blk W B2 D) (l2 : D.length = 2) (n1 : B1 ≠ G) (n2 : B2 ≠ G) :
    FormsAt (((W.setCell ⟨G, p * 3, none⟩ (.slice (some ⟨B1, 0, none⟩) 3 ca)).setCell ⟨G, p * 3 + 1, none⟩ (.slice (some ⟨B2, 0, none⟩) 2 cc)).setCell ⟨G, p * 3 + 2, none⟩ (.int .i64 K)) (some ⟨G, 0, none⟩) (fs.set p (C, D, K)) := by
  have hT := j.t
  have hx := j.o.1
  rcases j.o.2 with ⟨h, _⟩ | ⟨g, cap', cur, h, hg, hh, hl, _, hcs, ht⟩
  · cases h
  simp only [Value.slice.injEq, Option.some.injEq, Addr.mk.injEq, and_true, true_and] at h
  obtain ⟨rfl, rfl⟩ := h
  have cel : Cel W G cur.toList 32 := by unfold Cel; simpa using hh
  have hlen : 9 ≤ cur.toList.length := by
    have := congrArg List.length ht
    rw [List.length_take, hx] at this
    omega
  have hat : ∀ i, i < 9 → cur.toList[i]? = xs[i]? := fun i hi => by
    rw [← ht, List.getElem?_take, if_pos (by omega)]
  have c3 := ((cel.set (p * 3) (.slice (some ⟨B1, 0, none⟩) 3 ca)).set (p * 3 + 1) (.slice (some ⟨B2, 0, none⟩) 2 cc)).set (p * 3 + 2) (.int .i64 K)
  have tt : Touch (fun x => x = G) W (((W.setCell ⟨G, p * 3, none⟩ (.slice (some ⟨B1, 0, none⟩) 3 ca)).setCell ⟨G, p * 3 + 1, none⟩ (.slice (some ⟨B2, 0, none⟩) 2 cc)).setCell ⟨G, p * 3 + 2, none⟩ (.int .i64 K)) := (((Touch.refl (fun x => x = G) W).setCell rfl _).setCell rfl _).setCell rfl _
  have m1 := (k1.ints' l1).by tt (fun b o e => by simp only [Option.some.injEq, Addr.mk.injEq, and_true] at e; omega)
  have m2 := (k2.ints' l2).by tt (fun b o e => by simp only [Option.some.injEq, Addr.mk.injEq, and_true] at e; omega)
  intro i hi
  rw [List.length_set, hn] at hi
  by_cases e : p = i
  · subst e
    rw [List.getElem?_set_self (by omega)]
    refine ⟨G, 0, rfl, _, _, ca, cc, ?_, ?_, ?_, m1, m2⟩
    · rw [Nat.zero_add, c3.cell, List.getElem?_set_ne (by omega), List.getElem?_set_ne (by omega), List.getElem?_set_self (by omega)]
    · rw [Nat.zero_add, c3.cell, List.getElem?_set_ne (by omega), List.getElem?_set_self (by rw [List.length_set]; omega)]
    · rw [Nat.zero_add, c3.cell, List.getElem?_set_self (by rw [List.length_set, List.length_set]; omega)]; rfl
  · rw [List.getElem?_set_ne e]
    obtain ⟨a', c', x, y, e0, e1, e2, i1, i2, q1, q2⟩ := hT i hi
    refine ⟨G, 0, rfl, a', c', x, y, ?_, ?_, ?_, i1.by tt q1, i2.by tt q2⟩
    · rw [Nat.zero_add, c3.cell, List.getElem?_set_ne (by omega), List.getElem?_set_ne (by omega), List.getElem?_set_ne (by omega), hat _ (by omega)]; exact e0
    · rw [Nat.zero_add, c3.cell, List.getElem?_set_ne (by omega), List.getElem?_set_ne (by omega), List.getElem?_set_ne (by omega), hat _ (by omega)]; exact e1
    · rw [Nat.zero_add, c3.cell, List.getElem?_set_ne (by omega), List.getElem?_set_ne (by omega), List.getElem?_set_ne (by omega), hat _ (by omega)]; exact e2

end Go.Proofs.Ytngfbcegcekbbaa
namespace Go.Proofs.Ytngfbcegcekbbaa
open Go.RowKit Go.Deep
set_option linter.unusedVariables false
set_option maxRecDepth 100000

theorem goW_stop {ls : List LV} {f i : Nat} {y : Way} {g : LV} (hi : i < ls.length) (hf : 0 < f) (hg : ls[i]?.getD noLV = g) (h1 : ¬ g.kind = 1) (h2 : ¬ g.kind = 2) (h3 : ¬ g.kind = 3) : goW ls f i y = [stopW y] := by
  obtain ⟨f, rfl⟩ : ∃ f', f = f' + 1 := ⟨f - 1, by omega⟩
  rw [goW, if_pos hi, hg, if_neg h1, if_neg h2, if_neg h3]
theorem FOff.noForms {W : World} {S : Nat → Prop} {a : Option Addr} : FOff W S a [] := fun W' t i hi => by simp at hi
theorem lineW {k p z : Int} {n m : Nat} {C D : List Int} {K : Int} (h : lineB k p z n m C D K = true) (h4 : ¬ k = 4) : smallB n m C D K = true ∧ (k = 1 ∨ k = 2 ∨ k = 3) ∧ (k = 1 → 1 ≤ z ∧ z ≤ 6) ∧ (k = 2 → 0 ≤ p ∧ p < 3) := by
  by_cases h1 : k = 1
  · subst h1
    simp [lineB] at h
    have := inB_iff.1 h.1.2
    exact ⟨h.2, Or.inl rfl, fun _ => this, fun e => by omega⟩
  by_cases h2 : k = 2
  · subst h2
    simp [lineB] at h
    have := inB_iff.1 h.1.1
    exact ⟨h.2, Or.inr (Or.inl rfl), fun e => by omega, fun _ => ⟨this.1, by omega⟩⟩
  by_cases h3 : k = 3
  · subst h3
    simp [lineB] at h
    exact ⟨h.2, Or.inr (Or.inr rfl), fun e => by omega, fun e => by omega⟩
  simp [lineB, h1, h2, h3, h4] at h
theorem TermsOk.ext {W : World} {G : Nat} {xs : List Value} {T T' : List Frm} {n : Nat} (h : TermsOk W G xs T n) (e : ∀ j, j < n → T'[j]?.getD ([], [], 0) = T[j]?.getD ([], [], 0)) : TermsOk W G xs T' n := fun j hj => by
  obtain ⟨a', c', ca, cc, e0, e1, e2, i1, i2, n1, n2⟩ := h j hj
  rw [e j hj]
  exact ⟨a', c', ca, cc, e0, e1, e2, i1, i2, n1, n2⟩
/-- One form more, at the end of a copy. -/
theorem JF.snoc {w W W' : World} {G cap n : Nat} {xs : List Value} {fs : List Frm} {g cp B1 B2 ca cc : Nat} {C D : List Int} {K : Int} (j : JF w G cap n xs fs W) (hn : fs.length = n) (hown : W'.ownsRow w.heap.size 32 3 (.slice (some ⟨g, 0, none⟩) (n + 1) cp) (n + 1) (xs ++ [.slice (some ⟨B1, 0, none⟩) 3 ca, .slice (some ⟨B2, 0, none⟩) 2 cc, .int .i64 K])) (hgrow : W.grownBy W' (some G)) {H : Nat} (hat : some G = some g ∨ g = H) (hH : W.heap.size = H)
    (k1 : Ints W (some ⟨B1, 0, none⟩) 3 C) (k2 : Ints W (some ⟨B2, 0, none⟩) 2 D) (n1 : B1 ≠ G) (n2 : B2 ≠ G) : Below w.heap.size w W' ∧ FormsAt W' (some ⟨g, 0, none⟩) (fs ++ [(C, D, K)]) := by
  have hG := j.lt
  have hat' : g = G ∨ W.heap.size ≤ g := by
    rcases hat with h | h
    · simp only [Option.some.injEq] at h; exact Or.inl h.symm
    · exact Or.inr (by omega)
  have t1 : TermsOk W G xs (fs ++ [(C, D, K)]) n := j.t.ext (fun i hi => by rw [List.getElem?_append_left (by omega)])
  have t2 := t1.step j.o.1 hgrow hat' (ca := ca) (cc := cc) (K := K) k1 k2 n1 n2 (by rw [List.getElem?_append_right (by omega), hn, Nat.sub_self]; rfl)
  exact ⟨j.b.grown hgrow j.b.size (fun z hz => by simp only [Option.some.injEq] at hz; omega), t2.forms (by rw [List.length_append, hn]; rfl) hown⟩
/-- One row alone. -/
theorem JR.one {w W : World} {r : RowM} {ga aa ta : Option Addr} {gc ac tc : Nat} (hb : Below w.heap.size w W) (f0 : FOff W (fun k => k < w.heap.size) ga r.guards) (f1 : FOff W (fun k => k < w.heap.size) aa r.adds) (f2 : FOff W (fun k => k < w.heap.size) ta r.tells) :
    JR w W.heap.size 1 [.slice ga r.guards.length gc, .slice aa r.adds.length ac, .slice ta r.tells.length tc, .bool r.stop] [r] (W.alloc (.cells #[.slice ga r.guards.length gc, .slice aa r.adds.length ac, .slice ta r.tells.length tc, .bool r.stop] 38)) := by
  refine ⟨hb.alloc hb.size _, World.ownsRow_lit W #[.slice ga r.guards.length gc, .slice aa r.adds.length ac, .slice ta r.tells.length tc, .bool r.stop] 1 hb.size (by unfold maxLen; omega) rfl, fun j hj => ?_⟩
  simp only [List.length_cons, List.length_nil] at hj
  obtain rfl : j = 0 := by omega
  exact ⟨ga, gc, aa, ac, ta, tc, rfl, rfl, rfl, rfl, f0.fresh _, f1.fresh _, f2.fresh _⟩

theorem JR.mono {w w1 W : World} {G cap : Nat} {xs : List Value} {rs : List RowM} (j : JR w1 G cap xs rs W) (h : Below w.heap.size w w1) : JR w G cap xs rs W := by
  refine ⟨h.trans (j.b.mono h.size), ⟨j.o.1, ?_⟩, j.r.map (fun _ _ f => f.mono (fun k hk => by have := h.size; omega))⟩
  rcases j.o.2 with h2 | ⟨g, cp, cur, hv, hg, r⟩
  · exact .inl h2
  · exact .inr ⟨g, cp, cur, hv, Nat.le_trans h.size hg, r⟩
theorem JR.news {w W : World} {G cap : Nat} {xs : List Value} {rs : List RowM} (j : JR w G cap xs rs W) : ∀ i u, xs[i]? = some u → W.cell? ((⟨G, 0, none⟩ : Addr).add i) = some u := fun i u hu => by
  have hl : i < xs.length := (List.getElem?_eq_some_iff.1 hu).1
  have hadd : (⟨G, 0, none⟩ : Addr).add i = ⟨G, i, none⟩ := by
    by_cases h0 : i = 0
    · subst h0; simp [Addr.add]
    · simp [Addr.add, h0]
  rw [hadd, own_cell j.o i (by have := j.o.1; omega), hu]
theorem JR.ones {w W : World} {G cap : Nat} {xs : List Value} {rs : List RowM} (j : JR w G cap xs rs W) : ∀ u ∈ xs, u.oneCell' = true := fun u hu => by
  obtain ⟨i, hx⟩ := List.mem_iff_getElem?.1 hu
  have hi : i < xs.length := (List.getElem?_eq_some_iff.1 hx).1
  have hlen := j.o.1
  obtain ⟨ga, gc, aa, ac, ta, tc, e0, e1, e2, e3, _⟩ := j.r (i / 4) (by omega)
  have hm : i = i / 4 * 4 + i % 4 := by omega
  have h4 : i % 4 < 4 := Nat.mod_lt _ (by omega)
  rw [hm] at hx
  generalize i % 4 = r at *
  generalize i / 4 = d at *
  match r, h4 with
  | 0, _ => rw [Nat.add_zero, e0] at hx; simp only [Option.some.injEq] at hx; rw [← hx]; rfl
  | 1, _ => rw [e1] at hx; simp only [Option.some.injEq] at hx; rw [← hx]; rfl
  | 2, _ => rw [e2] at hx; simp only [Option.some.injEq] at hx; rw [← hx]; rfl
  | 3, _ => rw [e3] at hx; simp only [Option.some.injEq] at hx; rw [← hx]; rfl
theorem JF.frz {w W : World} {G cap n : Nat} {xs : List Value} {fs : List Frm} (j : JF w G cap n xs fs W) (i : Nat) : W.frozen? ⟨G, i, none⟩ = false := by
  rcases j.o.2 with ⟨h, _⟩ | ⟨g, cap', cur, h, hg, hh, _⟩
  · cases h
  · simp only [Value.slice.injEq, Option.some.injEq, Addr.mk.injEq, and_true, true_and] at h
    obtain ⟨rfl, _⟩ := h
    have : Cel W G cur.toList 32 := by unfold Cel; simpa using hh
    exact this.free i
theorem Try.infoRow : (Try.prog.info? 38).map (fun i => (i.zero, i.size, i.bytes)) = some (some (.agg #[.slice none 0 0, .slice none 0 0, .slice none 0 0, .bool false]), 4, 80) := by kernel_rfl
set_option maxHeartbeats 25600000 in
theorem swalk_any (ad : Option Addr) (N cap : Nat) (ls : List LV) (hN : ls.length = N) (h6 : N ≤ 6) (hall : ls.all LV.ok = true) (f : Nat) :
    ∀ (i0 : Nat) (y : Way) (pa : Option Addr) (cp : Nat) (ga : Option Addr) (ng gc : Nat) (ta : Option Addr) (nt tc : Nat) (w : World), f ≤ 7 → N ≤ i0 + f → i0 ≤ 12 → WayOk i0 y → y.guards.length = ng → y.tells.length = nt → LinesG w ad ls → FormsAt w pa y.pots → FormsAt w ga y.guards → FormsAt w ta y.tells →
    Calls Try.prog 41 #[.slice ad N cap, .int .i64 (i0 : Int), .slice pa 3 cp, .slice ga ng gc, .slice ta nt tc] w fun e w' => ∃ G cp' xs, e = .returned (.slice (some ⟨G, 0, none⟩) (goW ls f i0 y).length cp') ∧ JR w G cp' xs (goW ls f i0 y) w' := by
  induction f using Nat.strongRecOn with
  | _ f ih =>
  intro i0 y pa cp ga ng gc ta nt tc w hf hfu hi0 hy hg ht hF hP hG hT
  have IH : Hid _ := ih
  have HN : Hid (ls.length = N) := hN
  have HO : Hid (ls.all LV.ok = true) := hall
  have HY : Hid (WayOk i0 y) := hy
  have HGL : Hid (y.guards.length = ng) := hg
  have HTL : Hid (y.tells.length = nt) := ht
  clear ih hN hall hy hg ht
  obtain ⟨zi, hi, hz0, hz1, hz2⟩ := info_parts Try.infoForm
  go_enter Try.func41, Try.ntmps41
  go_wp2_with fail
  go_loopw [2, 4, 11, 12, 13] (fun p t i _ _ wr => ∃ (k g : Nat) (z : Way) (pa : Option Addr) (cp : Nat) (ta : Option Addr) (nt tc : Nat), k ≤ 12 ∧ i = .int .i64 k ∧ p = .slice pa 3 cp ∧ t = .slice ta nt tc ∧ z.tells.length = nt ∧ z.guards = y.guards ∧ g ≤ f ∧ N ≤ k + g ∧ goW ls f i0 y = goW ls g k z ∧ WayOk k z ∧ Below w.heap.size w wr ∧ FormsAt wr pa z.pots ∧ FormsAt wr ta z.tells) (fun _ _ i _ _ _ => 13 - (intOf i).toNat)
  case atStart => exact ⟨i0, f, y, pa, cp, ta, nt, tc, by omega, rfl, rfl, rfl, HTL.out, rfl, Nat.le_refl _, hfu, rfl, HY.out, Below.refl _ _, hP, hT⟩
  case round =>
    obtain ⟨k, g, z, pa, cp, ta, nt, tc, hk, rfl, rfl, rfl, hzt, hzg, hgf, hkg, heq, hz, hb, hPz, hTz⟩ := hrel
    have HZT : Hid (z.tells.length = nt) := hzt
    have HZG : Hid (z.guards = y.guards) := hzg
    have HEQ : Hid (goW ls f i0 y = goW ls g k z) := heq
    have HZ : Hid (WayOk k z) := hz
    have hGz := hG.keep hb
    have tl12 : nt ≤ 12 := by have := hz.tl; omega
    have gl12 : ng ≤ 12 := by have := HY.out.gl; rw [HGL.out] at this; omega
    have HGF : Hid _ := HY.out.gf
    clear hzt hzg heq hz
    by_cases hlt : k < N
    · obtain ⟨b, off, rfl, hc, hAtL⟩ := (hF.below hb) k (by rw [HN.out]; exact hlt)
      have hok : (ls[k]?.getD noLV).ok = true := by
        have hl : k < ls.length := by rw [HN.out]; exact hlt
        rw [List.getElem?_eq_getElem hl]
        exact List.all_eq_true.1 HO.out _ (List.getElem_mem hl)
      have hkl : Hid (k < ls.length) := by show k < ls.length; rw [HN.out]; exact hlt
      generalize HG : ls[k]?.getD noLV = q at *
      have HG' : Hid (ls[k]?.getD noLV = q) := HG
      clear HG
      obtain ⟨e0, e1, e2, e3, e4, e5⟩ := six_of hc
      clear hc
      obtain ⟨qk, qp, qz, ⟨qa, qn, qcap, qc, qm, qcap', qK, qC, qD⟩⟩ := q
      simp only at e0 e1 e2 e3 e4 e5
      have hok' : lineB qk qp qz qn qm qC qD qK = true := hok
      clear hok
      have B1 : Below w.heap.size w (wr.alloc (.cells #[.int .i64 qk, .int .i64 qp, .int .i64 qz, .slice qa qn qcap, .slice qc qm qcap', .int .i64 qK] 34)) := hb.alloc hb.size _
      have bx := Cel.new wr [.int .i64 qk, .int .i64 qp, .int .i64 qz, .slice qa qn qcap, .slice qc qm qcap', .int .i64 qK] 34
      have A1 : Below wr.heap.size wr (wr.alloc (.cells #[.int .i64 qk, .int .i64 qp, .int .i64 qz, .slice qa qn qcap, .slice qc qm qcap', .int .i64 qK] 34)) := (Below.refl _ _).alloc (Nat.le_refl _) _
      have P1 := hPz.keep A1
      have G1 := hGz.keep A1
      have T1 := hTz.keep A1
      have F1 := hAtL.below A1
      have z1 : w.heap.size ≤ wr.heap.size := hb.size
      clear A1 hPz hGz hTz hAtL
      by_cases hk4 : qk = 4
      · subst hk4
        have hrow : Hid (goW ls g k z = [stopW z]) := goW_stop hkl.out (by have := hkl.out; rw [HN.out] at this; omega) HG'.out (show ¬ (4 : Int) = 1 by decide) (show ¬ (4 : Int) = 2 by decide) (show ¬ (4 : Int) = 3 by decide)
        have FG : Hid (∀ j, j < ng → fitX 10000000 (y.guards[j]?.getD ([], [], 0))) := fun j hj => HY.out.gf j (by rw [HGL.out]; exact hj)
        go_wp2_with fail
        refine (scopy_any _ _ _ y.guards _ HGL.out G1 FG.out (by omega)).mono ?_
        rintro e w3 ⟨G3, cp3, xs3, rfl, j3⟩
        have hb3 := B1.trans (j3.b.mono B1.size)
        have f0 := j3.foff HGL.out
        rw [World.size_alloc] at f0
        have J := JR.one (w := w) (r := stopW y) (gc := cp3) (aa := none) (ac := 0) (ta := none) (tc := 0) hb3 (f0.mono (fun k hk => by omega)) FOff.noForms FOff.noForms
        rw [show (stopW y).guards.length = ng from HGL.out] at J
        clear j3 f0 e0 e1 e2 e3 e4 e5
        go_wp2
        go_ret
        rw [HEQ.out, hrow.out, show stopW z = stopW y by simp only [stopW, HZG.out]]
        exact ⟨_, _, _, rfl, J⟩
      · obtain ⟨hsm, hkk, hz16, hp3⟩ := lineW hok' hk4
        have hk4' : (qk == 4) = false := by simp [hk4]
        obtain ⟨⟨XC, XD, XK⟩, hFX⟩ : ∃ FX, FX = intoX ⟨qa, qn, qcap, qc, qm, qcap', qK, qC, qD⟩ z.pots := ⟨_, rfl⟩
        obtain ⟨fit1, fit2, fit3⟩ := HZ.out.into (by omega) (f := ⟨qa, qn, qcap, qc, qm, qcap', qK, qC, qD⟩) hsm F1.D.1
        rw [← hFX] at fit1 fit2 fit3
        have HFX : Hid (intoX ⟨qa, qn, qcap, qc, qm, qcap', qK, qC, qD⟩ z.pots = (XC, XD, XK)) := hFX.symm
        clear hFX
        have lXC : XC.length = 3 := fit2.c
        have lXD : XD.length = 2 := fit2.d
        have hg0 : 0 < g := by omega
        go_wp2_with fail
        refine (sintoW_any HZ.out (by omega) ⟨qa, qn, qcap, qc, qm, qcap', qK, qC, qD⟩ hsm _ F1 _ _ P1).mono ?_
        rintro e w3 ⟨D1, D2, d1, d2, rfl, b3, y1, y2, y3, u1, u2⟩
        rw [World.size_alloc] at y1 y3
        rw [show (intoX ⟨qa, qn, qcap, qc, qm, qcap', qK, qC, qD⟩ z.pots).1 = XC by rw [HFX.out]] at u1
        rw [show (intoX ⟨qa, qn, qcap, qc, qm, qcap', qK, qC, qD⟩ z.pots).2.1 = XD by rw [HFX.out]] at u2
        rw [show (intoX ⟨qa, qn, qcap, qc, qm, qcap', qK, qC, qD⟩ z.pots).2.2 = XK by rw [HFX.out]]
        have bx3 := bx.below b3
        have B3 := B1.trans (b3.mono B1.size)
        have P3 := P1.keep b3
        have T3 := T1.keep b3
        have G3 := G1.keep b3
        have l1 := u1.lt
        have l2 := u2.lt
        have s3 := b3.size
        rw [World.size_alloc] at s3
        clear b3 P1 T1 G1 bx F1 e0 e1 e2 e3 e4 e5 hok' hsm
        have fb := Cel.new w3 [.slice (some ⟨D1, 0, none⟩) 3 d1, .slice (some ⟨D2, 0, none⟩) 2 d2, .int .i64 XK] 32
        have A4 : Below w3.heap.size w3 (w3.alloc (.cells #[.slice (some ⟨D1, 0, none⟩) 3 d1, .slice (some ⟨D2, 0, none⟩) 2 d2, .int .i64 XK] 32)) := (Below.refl _ _).alloc (Nat.le_refl _) _
        have B4 := B3.trans (A4.mono B3.size)
        have P4 := P3.keep A4
        have T4 := T3.keep A4
        have G4 := G3.keep A4
        have v1 := u1.below A4
        have v2 := u2.below A4
        have bx4 := bx3.below A4
        clear A4 B3 P3 T3 G3 u1 u2 bx3
        obtain ⟨m0, m1, m2, m3, m4, m5⟩ := bx4.six
        rcases hkk with rfl | rfl | rfl
        · obtain ⟨hs1, hs6⟩ := hz16 rfl
          obtain ⟨sk, rfl⟩ : ∃ sk : Nat, qz = sk := ⟨qz.toNat, by omega⟩
          have hgo : Hid (goW ls g k z = goW ls (g - 1) (k + 1) (z.guard (XC, XD, XK)) ++ goW ls (g - 1) (k + 1 + sk) (z.guard (minusX (XC, XD, XK)))) := by
            obtain ⟨g', rfl⟩ : ∃ g', g = g' + 1 := ⟨g - 1, by omega⟩
            show goW ls (g' + 1) k z = _
            rw [goW, if_pos hkl.out, HG'.out]
            simp only [HFX.out]
            rfl
          have HW1 : Hid (WayOk (k + 1) (z.guard (XC, XD, XK))) := HZ.out.guard (by omega) fit2
          have HW2 : Hid (WayOk (k + 1 + sk) (z.guard (minusX (XC, XD, XK)))) := HZ.out.guard (by omega) fit3
          have FP : Hid (∀ j, j < 3 → fitX 10000000 (z.pots[j]?.getD ([], [], 0))) := fun j hj => (HZ.out.pf j hj).mono (by have := wb_six (n := min k 6) (by omega); omega)
          have FG : Hid (∀ j, j < ng → fitX 10000000 (y.guards[j]?.getD ([], [], 0))) := fun j hj => HY.out.gf j (by rw [HGL.out]; exact hj)
          have FT : Hid (∀ j, j < nt → fitX 10000000 (z.tells[j]?.getD ([], [], 0))) := fun j hj => HZ.out.tf j (by rw [HZT.out]; exact hj)
          have HL1 : Hid ((z.guard (XC, XD, XK)).guards.length = ng + 1) := by show (z.guards ++ [_]).length = _; rw [List.length_append, HZG.out, HGL.out]; rfl
          have HL2 : Hid ((z.guard (minusX (XC, XD, XK))).guards.length = ng + 1) := by show (z.guards ++ [_]).length = _; rw [List.length_append, HZG.out, HGL.out]; rfl
          have bXC : bnd 10000000 XC := fit2.bc
          have bXD : bnd 10000000 XD := fit2.bd
          have bX1 : -10000000 ≤ XK := fit2.k1
          have bX2 : XK ≤ 10000000 := fit2.k2
          obtain ⟨R1, hR1⟩ : ∃ R, R = goW ls (g - 1) (k + 1) (z.guard (XC, XD, XK)) := ⟨_, rfl⟩
          obtain ⟨R2, hR2⟩ : ∃ R, R = goW ls (g - 1) (k + 1 + sk) (z.guard (minusX (XC, XD, XK))) := ⟨_, rfl⟩
          have q1 : R1.length ≤ 128 := by rw [hR1]; exact goW_128 (by omega)
          have q2 : R2.length ≤ 128 := by rw [hR2]; exact goW_128 (by omega)
          have q3 : 0 < R2.length := by rw [hR2]; exact goW_ne _ _ _
          have HR1 : Hid _ := hR1
          have HR2 : Hid _ := hR2
          have HGO : Hid (goW ls f i0 y = R1 ++ R2) := by show _ = _; rw [HEQ.out, hgo.out, hR1, hR2]
          have C1 : Hid (∀ (pa' : Option Addr) (cp' : Nat) (ga' : Option Addr) (gc' : Nat) (ta' : Option Addr) (tc' : Nat) (W : World), LinesG W (some ⟨b, off, none⟩) ls → FormsAt W pa' z.pots → FormsAt W ga' (y.guards ++ [(XC, XD, XK)]) → FormsAt W ta' z.tells → Calls Try.prog 41 #[.slice (some ⟨b, off, none⟩) N cap, .int .i64 ((k : Int) + 1), .slice pa' 3 cp', .slice ga' (ng + 1) gc', .slice ta' nt tc'] W fun e w' => ∃ G cp' xs, e = .returned (.slice (some ⟨G, 0, none⟩) R1.length cp') ∧ JR W G cp' xs R1 w') := fun pa' cp' ga' gc' ta' tc' W h1 h2 h3 h4 => by
            have := IH.out (g - 1) (by omega) (k + 1) (z.guard (XC, XD, XK)) pa' cp' ga' (ng + 1) gc' ta' nt tc' W (by omega) (by omega) (by omega) HW1.out HL1.out HZT.out h1 h2 (by show FormsAt W ga' (z.guards ++ [_]); rw [HZG.out]; exact h3) h4
            rw [← hR1, show ((k + 1 : Nat) : Int) = (k : Int) + 1 by omega] at this; exact this
          have C2 : Hid (∀ (pa' : Option Addr) (cp' : Nat) (ga' : Option Addr) (gc' : Nat) (ta' : Option Addr) (tc' : Nat) (W : World), LinesG W (some ⟨b, off, none⟩) ls → FormsAt W pa' z.pots → FormsAt W ga' (y.guards ++ [minusX (XC, XD, XK)]) → FormsAt W ta' z.tells → Calls Try.prog 41 #[.slice (some ⟨b, off, none⟩) N cap, .int .i64 ((k : Int) + 1 + sk), .slice pa' 3 cp', .slice ga' (ng + 1) gc', .slice ta' nt tc'] W fun e w' => ∃ G cp' xs, e = .returned (.slice (some ⟨G, 0, none⟩) R2.length cp') ∧ JR W G cp' xs R2 w') := fun pa' cp' ga' gc' ta' tc' W h1 h2 h3 h4 => by
            have := IH.out (g - 1) (by omega) (k + 1 + sk) (z.guard (minusX (XC, XD, XK))) pa' cp' ga' (ng + 1) gc' ta' nt tc' W (by omega) (by omega) (by omega) HW2.out HL2.out HZT.out h1 h2 (by show FormsAt W ga' (z.guards ++ [_]); rw [HZG.out]; exact h3) h4
            rw [← hR2, show ((k + 1 + sk : Nat) : Int) = (k : Int) + 1 + sk by omega] at this; exact this
          clear hR1 hR2 IH fit1 fit2 fit3
          have hw1 : IntKind.i64.wrap ((k : Int) + 1) = (k : Int) + 1 := wrap_id (by omega) (by omega)
          have hw2 : IntKind.i64.wrap ((k : Int) + 1 + sk) = (k : Int) + 1 + sk := wrap_id (by omega) (by omega)
          go_upto_region 11 with fail
          obtain ⟨W4, hW4⟩ : ∃ W4, W4 = w3.alloc (.cells #[.slice (some ⟨D1, 0, none⟩) 3 d1, .slice (some ⟨D2, 0, none⟩) 2 d2, .int .i64 XK] 32) := ⟨_, rfl⟩
          have z4 : W4.heap.size = w3.heap.size + 1 := by rw [hW4, World.size_alloc]
          rw [← hW4] at fb B4 P4 T4 G4 v1 v2 bx4 m0 m1 m2 m3 m4 m5 ⊢
          clear hW4 m0 m1 m2 m3 m4 m5
          have KP : Hid (∀ W, Below W4.heap.size W4 W → (W.cell? ⟨w3.heap.size, 0, none⟩ = some (.slice (some ⟨D1, 0, none⟩) 3 d1) ∧ W.cell? ⟨w3.heap.size, 1, none⟩ = some (.slice (some ⟨D2, 0, none⟩) 2 d2) ∧ W.cell? ⟨w3.heap.size, 2, none⟩ = some (.int .i64 XK))) := fun W hW => by
            obtain ⟨n0, n1, n2, _, _, _⟩ := (fb.below hW).trio
            exact ⟨n0, n1, n2⟩
          have KQ : Hid (∀ W, Below W4.heap.size W4 W → (W.cell? ⟨wr.heap.size, 2, none⟩ = some (.int .i64 (sk : Int)) ∧ W.cell? ⟨w3.heap.size, 0, none⟩ = some (.slice (some ⟨D1, 0, none⟩) 3 d1) ∧ W.cell? ⟨w3.heap.size, 1, none⟩ = some (.slice (some ⟨D2, 0, none⟩) 2 d2) ∧ W.cell? ⟨w3.heap.size, 2, none⟩ = some (.int .i64 XK))) := fun W hW => by
            obtain ⟨n0, n1, n2, _, _, _⟩ := (fb.below hW).trio
            obtain ⟨_, _, o2, _, _, _⟩ := (bx4.below hW).six
            exact ⟨o2, n0, n1, n2⟩
          have z4a : w3.heap.size + 1 ≤ W4.heap.size := by omega
          clear z4 bx4 fb
          go_cut [14] from 17 to 94 (fun yv wx => ∃ G cp' xs, yv = .slice (some ⟨G, 0, none⟩) R1.length cp' ∧ JR w G cp' xs R1 wx ∧ Below W4.heap.size W4 wx)
          case first =>
            have c0 : Below W4.heap.size W4 W4.drew := (Below.refl _ _).drew
            have hSS : (W4.drew.cell? ⟨w3.heap.size, 0, none⟩ = some (.slice (some ⟨D1, 0, none⟩) 3 d1) ∧ W4.drew.cell? ⟨w3.heap.size, 1, none⟩ = some (.slice (some ⟨D2, 0, none⟩) 2 d2) ∧ W4.drew.cell? ⟨w3.heap.size, 2, none⟩ = some (.int .i64 XK)) ∧ True := ⟨KP.out _ c0, trivial⟩
            refine wp_region_ends (fun w' => w'.cell? ⟨w3.heap.size, 0, none⟩ = some (.slice (some ⟨D1, 0, none⟩) 3 d1) ∧ w'.cell? ⟨w3.heap.size, 1, none⟩ = some (.slice (some ⟨D2, 0, none⟩) 2 d2) ∧ w'.cell? ⟨w3.heap.size, 2, none⟩ = some (.int .i64 XK)) (fun _ => True) 13 (by kernel_rfl) ?_
            refine wpAnyE_take0 (i := 0) (v := ?av0) rfl (by kernel_rfl) (by kernel_rfl) (by kernel_rfl) (by decide) (fun _ _ _ h => h) (Or.inl ⟨by rfl, ?ay0⟩) hSS ?_
            case ay0 => (intro wz hSw; (try dsimp only at hSw); go_simp; try (with_reducible rfl))
            refine wpAnyE_take0 (i := 1) (v := ?av1) rfl (by kernel_rfl) (by kernel_rfl) (by kernel_rfl) (by decide) (fun _ _ _ h => h) (Or.inl ⟨by rfl, ?ay1⟩) hSS ?_
            case ay1 => (intro wz hSw; (try dsimp only at hSw); go_simp; try (with_reducible rfl))
            refine wpAnyE_take0 (i := 2) (v := ?av2) rfl (by kernel_rfl) (by kernel_rfl) (by kernel_rfl) (by decide) (fun _ _ _ h => h) (Or.inl ⟨by rfl, ?ay2⟩) hSS ?_
            case ay2 => (intro wz hSw; (try dsimp only at hSw); go_simp; try (with_reducible rfl))
            refine wpAnyE_take0 (i := 3) (v := ?av3) rfl (by kernel_rfl) (by kernel_rfl) (by kernel_rfl) (by decide) (fun _ _ _ h => h) (Or.inl ⟨by rfl, ?ay3⟩) hSS ?_
            case ay3 => (intro wz hSw; (try dsimp only at hSw); go_simp; try (with_reducible rfl))
            refine wpAnyE_take0 (i := 5) (v := ?av5) rfl (by kernel_rfl) (by kernel_rfl) (by kernel_rfl) (by decide) (fun _ _ _ h => h) (Or.inl ⟨by rfl, ?ay5⟩) hSS ?_
            case ay5 => (intro wz hSw; (try dsimp only at hSw); go_simp; try (with_reducible rfl))
            refine wpAnyE_take0 (i := 7) (v := ?av7) rfl (by kernel_rfl) (by kernel_rfl) (by kernel_rfl) (by decide) (fun _ _ _ h => h) (Or.inl ⟨by rfl, ?ay7⟩) hSS ?_
            case ay7 => (intro wz hSw; (try dsimp only at hSw); go_simp; try (with_reducible rfl))
            refine wpAnyE_take0 (i := 10) (v := ?av10) rfl (by kernel_rfl) (by kernel_rfl) (by kernel_rfl) (by decide) (fun _ _ _ h => h) (Or.inl ⟨by rfl, ?ay10⟩) hSS ?_
            case ay10 => (intro wz hSw; (try dsimp only at hSw); go_simp; try (with_reducible rfl))
            clear hSS
            generalize W4.drew = Wd at *
            have zc := c0.size
            refine wpAnyE_two (i := 4) (j := 8) (by kernel_rfl) rfl rfl (fun K hK => ?_) (fun K hK => ?_)
            · go_simp
              refine (scopy_any _ _ _ z.pots _ HZ.out.pl (P4.keep c0) FP.out (by omega)).mono ?_
              rintro ee x1 ⟨Gp, cpP, xsP, rfl, jP⟩
              have fP := jP.at HZ.out.pl
              have e1 := jP.b
              have c1 := c0.trans (e1.mono c0.size)
              clear jP
              have sz1 := e1.size
              (try dsimp only)
              refine hK.out _ _ ⟨KP.out _ c1, fun _ => trivial⟩ ?_
              clear hK K
              refine wpAnyE_two (i := 6) (j := 8) (by kernel_rfl) rfl rfl (fun K hK => ?_) (fun K hK => ?_)
              · have fPB := fP
                go_simp
                refine (scopy_any _ _ _ y.guards _ HGL.out (G4.keep c1) FG.out (by omega)).mono ?_
                rintro ee x2 ⟨Gg, cpG, xsG, rfl, jG⟩
                have e2 := jG.b
                have lG := jG.lt
                have c2 := c1.trans (e2.mono c1.size)
                have fP := fP.keep e2
                have sz2 := e2.size
                have gB := jG.b.size
                (try dsimp only)
                refine hK.out _ _ ⟨KP.out _ c2, fun _ => trivial⟩ ?_
                clear hK K
                refine wpAnyE_one (i := 8) (by kernel_rfl) rfl (fun K hK => ?_)
                go_simp
                obtain ⟨x3, hx3⟩ : ∃ W, W = x2.alloc (.cells #[Value.slice (some ⟨D1, 0, none⟩) 3 d1, Value.slice (some ⟨D2, 0, none⟩) 2 d2, Value.int .i64 XK] 32) := ⟨_, rfl⟩
                have nb := Cel.new x2 [Value.slice (some ⟨D1, 0, none⟩) 3 d1, Value.slice (some ⟨D2, 0, none⟩) 2 d2, Value.int .i64 XK] 32
                have e3 : Below x2.heap.size x2 x3 := by rw [hx3]; exact (Below.refl _ _).alloc (Nat.le_refl _) _
                rw [← hx3] at nb ⊢
                clear hx3
                have c3 := c2.trans (e3.mono c2.size)
                have fP := fP.keep e3
                have jG := jG.below e3
                have sz3 := e3.size
                (try dsimp only)
                refine hK.out _ _ ⟨KP.out _ c3, fun _ => trivial⟩ ?_
                clear hK K
                refine wpAnyE_one (i := 9) (by kernel_rfl) rfl (fun K hK => ?_)
                rw [if_pos (by rfl)]
                refine wp_append_lies _ (.tmp 53) (.tmp 55) 36 rfl _ 32 zi _ 3 56 Try.underlying36 hi hz0 hz1 hz2 rfl (by omega) (.slice (some ⟨Gg, 0, none⟩) ng cpG) ng xsG (by rfl) jG.o ⟨x2.heap.size, 0, none⟩ 1 1 [Value.slice (some ⟨D1, 0, none⟩) 3 d1, Value.slice (some ⟨D2, 0, none⟩) 2 d2, Value.int .i64 XK] (by rfl) (by rfl) (World.news_of_block (cs := #[Value.slice (some ⟨D1, 0, none⟩) 3 d1, Value.slice (some ⟨D2, 0, none⟩) 2 d2, Value.int .i64 XK]) (t := 32) (fr := (0, 0)) nb) (by simp [Value.oneCell']) (by omega) (by unfold maxLen; omega) (by omega) jG.b.size _ rfl ?_
                intro gg cpg x7 hown hgrow hatg hltg
                obtain ⟨b7, fG⟩ := jG.snoc HGL.out hown hgrow hatg rfl ((v1.below c3).ints' lXC) ((v2.below c3).ints' lXD) (by have := lG.1; omega) (by have := lG.1; omega)
                have c7 := c1.trans (b7.mono c1.size)
                have fP := fPB.keep b7
                clear hown hgrow hatg nb jG
                (try dsimp only)
                refine hK.out _ _ ⟨KP.out _ c7, fun _ => trivial⟩ ?_
                clear hK K
                refine wpAnyE_one (i := 11) (by kernel_rfl) rfl (fun K hK => ?_)
                go_simp
                refine (scopy_any _ _ _ z.tells _ HZT.out (T4.keep c7) FT.out (by omega)).mono ?_
                rintro ee x8 ⟨Gt, cpT, xsT, rfl, jT⟩
                have fT := jT.at HZT.out
                have e8 := jT.b
                have c8 := c7.trans (e8.mono c7.size)
                clear jT
                have fP := fP.keep e8
                have fG := fG.keep e8
                (try dsimp only)
                refine hK.out _ _ ⟨KP.out _ c8, fun _ => trivial⟩ ?_
                clear hK K
                refine wpAnyE_one (i := 12) (by kernel_rfl) rfl (fun K hK => ?_)
                go_simp
                refine (C1.out _ _ _ _ _ _ _ (hF.below (B4.trans (c8.mono B4.size))) fP fG fT).mono ?_
                rintro ee x9 ⟨Gy, cpy, xsy, rfl, jY⟩
                have e9 := jY.b
                have c9 := c8.trans (e9.mono c8.size)
                have jY' := jY.mono (B4.trans (c8.mono B4.size))
                clear jY
                (try dsimp only)
                refine hK.out _ _ ⟨KP.out _ c9, fun _ => trivial⟩ ?_
                clear hK K
                refine wpAnyE_one (i := 13) (by kernel_rfl) rfl (fun K hK => ?_)
                go_simp
                (try dsimp only)
                refine hK.out _ _ ⟨KP.out _ c9, fun _ => trivial⟩ ?_
                clear hK K
                refine wpAnyE_done (by kernel_rfl) ?_ _
                clear fP fG fT fPB
                go_wp2_with fail
                go_meet
                case rel => exact ⟨Gy, cpy, xsy, rfl, jY', c9⟩
              · go_simp
                obtain ⟨x2, hx2⟩ : ∃ W, W = x1.alloc (.cells #[Value.slice (some ⟨D1, 0, none⟩) 3 d1, Value.slice (some ⟨D2, 0, none⟩) 2 d2, Value.int .i64 XK] 32) := ⟨_, rfl⟩
                have nb := Cel.new x1 [Value.slice (some ⟨D1, 0, none⟩) 3 d1, Value.slice (some ⟨D2, 0, none⟩) 2 d2, Value.int .i64 XK] 32
                have e2 : Below x1.heap.size x1 x2 := by rw [hx2]; exact (Below.refl _ _).alloc (Nat.le_refl _) _
                rw [← hx2] at nb ⊢
                clear hx2
                have c2 := c1.trans (e2.mono c1.size)
                have fP := fP.keep e2
                have sz2 := e2.size
                (try dsimp only)
                refine hK.out _ _ ⟨KP.out _ c2, fun _ => trivial⟩ ?_
                clear hK K
                refine wpAnyE_one (i := 6) (by kernel_rfl) rfl (fun K hK => ?_)
                have fPB := fP
                go_simp
                refine (scopy_any _ _ _ y.guards _ HGL.out (G4.keep c2) FG.out (by omega)).mono ?_
                rintro ee x3 ⟨Gg, cpG, xsG, rfl, jG⟩
                have e3 := jG.b
                have lG := jG.lt
                have c3 := c2.trans (e3.mono c2.size)
                have fP := fP.keep e3
                have nb := nb.below e3
                have sz3 := e3.size
                have gB := jG.b.size
                (try dsimp only)
                refine hK.out _ _ ⟨KP.out _ c3, fun _ => trivial⟩ ?_
                clear hK K
                refine wpAnyE_one (i := 9) (by kernel_rfl) rfl (fun K hK => ?_)
                rw [if_pos (by rfl)]
                refine wp_append_lies _ (.tmp 53) (.tmp 55) 36 rfl _ 32 zi _ 3 56 Try.underlying36 hi hz0 hz1 hz2 rfl (by omega) (.slice (some ⟨Gg, 0, none⟩) ng cpG) ng xsG (by rfl) jG.o ⟨x1.heap.size, 0, none⟩ 1 1 [Value.slice (some ⟨D1, 0, none⟩) 3 d1, Value.slice (some ⟨D2, 0, none⟩) 2 d2, Value.int .i64 XK] (by rfl) (by rfl) (World.news_of_block (cs := #[Value.slice (some ⟨D1, 0, none⟩) 3 d1, Value.slice (some ⟨D2, 0, none⟩) 2 d2, Value.int .i64 XK]) (t := 32) (fr := (0, 0)) nb) (by simp [Value.oneCell']) (by omega) (by unfold maxLen; omega) (by omega) jG.b.size _ rfl ?_
                intro gg cpg x7 hown hgrow hatg hltg
                obtain ⟨b7, fG⟩ := jG.snoc HGL.out hown hgrow hatg rfl ((v1.below c3).ints' lXC) ((v2.below c3).ints' lXD) (by have := lG.1; omega) (by have := lG.1; omega)
                have c7 := c2.trans (b7.mono c2.size)
                have fP := fPB.keep b7
                clear hown hgrow hatg nb jG
                (try dsimp only)
                refine hK.out _ _ ⟨KP.out _ c7, fun _ => trivial⟩ ?_
                clear hK K
                refine wpAnyE_one (i := 11) (by kernel_rfl) rfl (fun K hK => ?_)
                go_simp
                refine (scopy_any _ _ _ z.tells _ HZT.out (T4.keep c7) FT.out (by omega)).mono ?_
                rintro ee x8 ⟨Gt, cpT, xsT, rfl, jT⟩
                have fT := jT.at HZT.out
                have e8 := jT.b
                have c8 := c7.trans (e8.mono c7.size)
                clear jT
                have fP := fP.keep e8
                have fG := fG.keep e8
                (try dsimp only)
                refine hK.out _ _ ⟨KP.out _ c8, fun _ => trivial⟩ ?_
                clear hK K
                refine wpAnyE_one (i := 12) (by kernel_rfl) rfl (fun K hK => ?_)
                go_simp
                refine (C1.out _ _ _ _ _ _ _ (hF.below (B4.trans (c8.mono B4.size))) fP fG fT).mono ?_
                rintro ee x9 ⟨Gy, cpy, xsy, rfl, jY⟩
                have e9 := jY.b
                have c9 := c8.trans (e9.mono c8.size)
                have jY' := jY.mono (B4.trans (c8.mono B4.size))
                clear jY
                (try dsimp only)
                refine hK.out _ _ ⟨KP.out _ c9, fun _ => trivial⟩ ?_
                clear hK K
                refine wpAnyE_one (i := 13) (by kernel_rfl) rfl (fun K hK => ?_)
                go_simp
                (try dsimp only)
                refine hK.out _ _ ⟨KP.out _ c9, fun _ => trivial⟩ ?_
                clear hK K
                refine wpAnyE_done (by kernel_rfl) ?_ _
                clear fP fG fT fPB
                go_wp2_with fail
                go_meet
                case rel => exact ⟨Gy, cpy, xsy, rfl, jY', c9⟩
            · go_simp
              obtain ⟨x1, hx1⟩ : ∃ W, W = Wd.alloc (.cells #[Value.slice (some ⟨D1, 0, none⟩) 3 d1, Value.slice (some ⟨D2, 0, none⟩) 2 d2, Value.int .i64 XK] 32) := ⟨_, rfl⟩
              have nb := Cel.new Wd [Value.slice (some ⟨D1, 0, none⟩) 3 d1, Value.slice (some ⟨D2, 0, none⟩) 2 d2, Value.int .i64 XK] 32
              have e1 : Below Wd.heap.size Wd x1 := by rw [hx1]; exact (Below.refl _ _).alloc (Nat.le_refl _) _
              rw [← hx1] at nb ⊢
              clear hx1
              have c1 := c0.trans (e1.mono c0.size)
              have sz1 := e1.size
              (try dsimp only)
              refine hK.out _ _ ⟨KP.out _ c1, fun _ => trivial⟩ ?_
              clear hK K
              refine wpAnyE_one (i := 4) (by kernel_rfl) rfl (fun K hK => ?_)
              go_simp
              refine (scopy_any _ _ _ z.pots _ HZ.out.pl (P4.keep c1) FP.out (by omega)).mono ?_
              rintro ee x2 ⟨Gp, cpP, xsP, rfl, jP⟩
              have fP := jP.at HZ.out.pl
              have e2 := jP.b
              have c2 := c1.trans (e2.mono c1.size)
              clear jP
              have nb := nb.below e2
              have sz2 := e2.size
              (try dsimp only)
              refine hK.out _ _ ⟨KP.out _ c2, fun _ => trivial⟩ ?_
              clear hK K
              refine wpAnyE_one (i := 6) (by kernel_rfl) rfl (fun K hK => ?_)
              have fPB := fP
              go_simp
              refine (scopy_any _ _ _ y.guards _ HGL.out (G4.keep c2) FG.out (by omega)).mono ?_
              rintro ee x3 ⟨Gg, cpG, xsG, rfl, jG⟩
              have e3 := jG.b
              have lG := jG.lt
              have c3 := c2.trans (e3.mono c2.size)
              have fP := fP.keep e3
              have nb := nb.below e3
              have sz3 := e3.size
              have gB := jG.b.size
              (try dsimp only)
              refine hK.out _ _ ⟨KP.out _ c3, fun _ => trivial⟩ ?_
              clear hK K
              refine wpAnyE_one (i := 9) (by kernel_rfl) rfl (fun K hK => ?_)
              rw [if_pos (by rfl)]
              refine wp_append_lies _ (.tmp 53) (.tmp 55) 36 rfl _ 32 zi _ 3 56 Try.underlying36 hi hz0 hz1 hz2 rfl (by omega) (.slice (some ⟨Gg, 0, none⟩) ng cpG) ng xsG (by rfl) jG.o ⟨Wd.heap.size, 0, none⟩ 1 1 [Value.slice (some ⟨D1, 0, none⟩) 3 d1, Value.slice (some ⟨D2, 0, none⟩) 2 d2, Value.int .i64 XK] (by rfl) (by rfl) (World.news_of_block (cs := #[Value.slice (some ⟨D1, 0, none⟩) 3 d1, Value.slice (some ⟨D2, 0, none⟩) 2 d2, Value.int .i64 XK]) (t := 32) (fr := (0, 0)) nb) (by simp [Value.oneCell']) (by omega) (by unfold maxLen; omega) (by omega) jG.b.size _ rfl ?_
              intro gg cpg x7 hown hgrow hatg hltg
              obtain ⟨b7, fG⟩ := jG.snoc HGL.out hown hgrow hatg rfl ((v1.below c3).ints' lXC) ((v2.below c3).ints' lXD) (by have := lG.1; omega) (by have := lG.1; omega)
              have c7 := c2.trans (b7.mono c2.size)
              have fP := fPB.keep b7
              clear hown hgrow hatg nb jG
              (try dsimp only)
              refine hK.out _ _ ⟨KP.out _ c7, fun _ => trivial⟩ ?_
              clear hK K
              refine wpAnyE_one (i := 11) (by kernel_rfl) rfl (fun K hK => ?_)
              go_simp
              refine (scopy_any _ _ _ z.tells _ HZT.out (T4.keep c7) FT.out (by omega)).mono ?_
              rintro ee x8 ⟨Gt, cpT, xsT, rfl, jT⟩
              have fT := jT.at HZT.out
              have e8 := jT.b
              have c8 := c7.trans (e8.mono c7.size)
              clear jT
              have fP := fP.keep e8
              have fG := fG.keep e8
              (try dsimp only)
              refine hK.out _ _ ⟨KP.out _ c8, fun _ => trivial⟩ ?_
              clear hK K
              refine wpAnyE_one (i := 12) (by kernel_rfl) rfl (fun K hK => ?_)
              go_simp
              refine (C1.out _ _ _ _ _ _ _ (hF.below (B4.trans (c8.mono B4.size))) fP fG fT).mono ?_
              rintro ee x9 ⟨Gy, cpy, xsy, rfl, jY⟩
              have e9 := jY.b
              have c9 := c8.trans (e9.mono c8.size)
              have jY' := jY.mono (B4.trans (c8.mono B4.size))
              clear jY
              (try dsimp only)
              refine hK.out _ _ ⟨KP.out _ c9, fun _ => trivial⟩ ?_
              clear hK K
              refine wpAnyE_one (i := 13) (by kernel_rfl) rfl (fun K hK => ?_)
              go_simp
              (try dsimp only)
              refine hK.out _ _ ⟨KP.out _ c9, fun _ => trivial⟩ ?_
              clear hK K
              refine wpAnyE_done (by kernel_rfl) ?_ _
              clear fP fG fT fPB
              go_wp2_with fail
              go_meet
              case rel => exact ⟨Gy, cpy, xsy, rfl, jY', c9⟩
          case rest =>
            obtain ⟨Gy, cpy, xsy, rfl, jY, cc⟩ := hcut
            go_upto_region 12 with fail
            have c0 : Below W4.heap.size W4 wc.drew := cc.drew
            have hSS : (wc.drew.cell? ⟨wr.heap.size, 2, none⟩ = some (.int .i64 (sk : Int)) ∧ wc.drew.cell? ⟨w3.heap.size, 0, none⟩ = some (.slice (some ⟨D1, 0, none⟩) 3 d1) ∧ wc.drew.cell? ⟨w3.heap.size, 1, none⟩ = some (.slice (some ⟨D2, 0, none⟩) 2 d2) ∧ wc.drew.cell? ⟨w3.heap.size, 2, none⟩ = some (.int .i64 XK)) ∧ True := ⟨KQ.out _ c0, trivial⟩
            refine wp_region_ends (fun w' => w'.cell? ⟨wr.heap.size, 2, none⟩ = some (.int .i64 (sk : Int)) ∧ w'.cell? ⟨w3.heap.size, 0, none⟩ = some (.slice (some ⟨D1, 0, none⟩) 3 d1) ∧ w'.cell? ⟨w3.heap.size, 1, none⟩ = some (.slice (some ⟨D2, 0, none⟩) 2 d2) ∧ w'.cell? ⟨w3.heap.size, 2, none⟩ = some (.int .i64 XK)) (fun _ => True) 17 (by kernel_rfl) ?_
            refine wpAnyE_take0 (i := 0) (v := ?bv0) rfl (by kernel_rfl) (by kernel_rfl) (by kernel_rfl) (by decide) (fun _ _ _ h => h) (Or.inl ⟨by rfl, ?by0⟩) hSS ?_
            case by0 => (intro wz hSw; (try dsimp only at hSw); go_simp; try (with_reducible rfl))
            refine wpAnyE_take0 (i := 1) (v := ?bv1) rfl (by kernel_rfl) (by kernel_rfl) (by kernel_rfl) (by decide) (fun _ _ _ h => h) (Or.inl ⟨by rfl, ?by1⟩) hSS ?_
            case by1 => (intro wz hSw; (try dsimp only at hSw); go_simp; try (with_reducible rfl))
            refine wpAnyE_take0 (i := 2) (v := ?bv2) rfl (by kernel_rfl) (by kernel_rfl) (by kernel_rfl) (by decide) (fun _ _ _ h => h) (Or.inl ⟨by rfl, ?by2⟩) hSS ?_
            case by2 => (intro wz hSw; (try dsimp only at hSw); go_simp; try (with_reducible rfl))
            refine wpAnyE_take0 (i := 3) (v := ?bv3) rfl (by kernel_rfl) (by kernel_rfl) (by kernel_rfl) (by decide) (fun _ _ _ h => h) (Or.inl ⟨by rfl, ?by3⟩) hSS ?_
            case by3 => (intro wz hSw; (try dsimp only at hSw); go_simp; try (with_reducible rfl))
            refine wpAnyE_take0 (i := 4) (v := ?bv4) rfl (by kernel_rfl) (by kernel_rfl) (by kernel_rfl) (by decide) (fun _ _ _ h => h) (Or.inl ⟨by rfl, ?by4⟩) hSS ?_
            case by4 => (intro wz hSw; (try dsimp only at hSw); go_simp; try (with_reducible rfl))
            refine wpAnyE_take0 (i := 5) (v := ?bv5) rfl (by kernel_rfl) (by kernel_rfl) (by kernel_rfl) (by decide) (fun _ _ _ h => h) (Or.inl ⟨by rfl, ?by5⟩) hSS ?_
            case by5 => (intro wz hSw; (try dsimp only at hSw); go_simp; try (with_reducible rfl))
            refine wpAnyE_take0 (i := 6) (v := ?bv6) rfl (by kernel_rfl) (by kernel_rfl) (by kernel_rfl) (by decide) (fun _ _ _ h => h) (Or.inl ⟨by rfl, ?by6⟩) hSS ?_
            case by6 => (intro wz hSw; (try dsimp only at hSw); go_simp; try (with_reducible rfl))
            refine wpAnyE_take0 (i := 8) (v := ?bv8) rfl (by kernel_rfl) (by kernel_rfl) (by kernel_rfl) (by decide) (fun _ _ _ h => h) (Or.inl ⟨by rfl, ?by8⟩) hSS ?_
            case by8 => (intro wz hSw; (try dsimp only at hSw); go_simp; try (with_reducible rfl))
            refine wpAnyE_take0 (i := 10) (v := ?bv10) rfl (by kernel_rfl) (by kernel_rfl) (by kernel_rfl) (by decide) (fun _ _ _ h => h) (Or.inl ⟨by rfl, ?by10⟩) hSS ?_
            case by10 => (intro wz hSw; (try dsimp only at hSw); go_simp; try (with_reducible rfl))
            refine wpAnyE_take0 (i := 14) (v := ?bv14) rfl (by kernel_rfl) (by kernel_rfl) (by kernel_rfl) (by decide) (fun _ _ _ h => h) (Or.inl ⟨by rfl, ?by14⟩) hSS ?_
            case by14 => (intro wz hSw; (try dsimp only at hSw); go_simp; try (with_reducible rfl))
            clear hSS
            have jY := jY.below (Below.refl _ _).drew
            generalize wc.drew = Wd at *
            have lY := jY.lt
            refine wpAnyE_one (i := 7) (by kernel_rfl) rfl (fun K hK => ?_)
            go_simp
            refine (scopy_any _ _ _ z.pots _ HZ.out.pl (P4.keep c0) FP.out (by omega)).mono ?_
            rintro ee x1 ⟨Gp, cpP, xsP, rfl, jP⟩
            have fP := jP.at HZ.out.pl
            have e1 := jP.b
            have c1 := c0.trans (e1.mono c0.size)
            clear jP
            have jY := jY.below e1
            have sz1 := e1.size
            (try dsimp only)
            refine hK.out _ _ ⟨KQ.out _ c1, fun _ => trivial⟩ ?_
            clear hK K
            refine wpAnyE_one (i := 9) (by kernel_rfl) rfl (fun K hK => ?_)
            have fPB := fP
            have jYB := jY
            go_simp
            refine (scopy_any _ _ _ y.guards _ HGL.out (G4.keep c1) FG.out (by omega)).mono ?_
            rintro ee x2 ⟨Gg, cpG, xsG, rfl, jG⟩
            have e2 := jG.b
            have lG := jG.lt
            have c2 := c1.trans (e2.mono c1.size)
            have jY := jY.below e2
            have sz2 := e2.size
            have gB := jG.b.size
            (try dsimp only)
            refine hK.out _ _ ⟨KQ.out _ c2, fun _ => trivial⟩ ?_
            clear hK K
            refine wpAnyE_one (i := 11) (by kernel_rfl) rfl (fun K hK => ?_)
            go_simp
            refine (sminus_any _ _ _ _ _ XC XD _ ((v1.below c2).ints' lXC) ((v2.below c2).ints' lXD) bXC bXD bX1 bX2).mono ?_
            rintro ee x3 ⟨M1, M2, rfl, e3, y1', y2', y3', n1, n2⟩
            have c3 := c2.trans (e3.mono c2.size)
            have jG := jG.below e3
            have jY := jY.below e3
            have sz3 := e3.size
            have ln1 := n1.lt
            have ln2 := n2.lt
            (try dsimp only)
            refine hK.out _ _ ⟨KQ.out _ c3, fun _ => trivial⟩ ?_
            clear hK K
            refine wpAnyE_one (i := 12) (by kernel_rfl) rfl (fun K hK => ?_)
            go_simp
            obtain ⟨x4, hx4⟩ : ∃ W, W = x3.alloc (.cells #[Value.slice (some ⟨M1, 0, none⟩) 3 3, Value.slice (some ⟨M2, 0, none⟩) 2 2, Value.int .i64 (-XK - 1)] 32) := ⟨_, rfl⟩
            have nb := Cel.new x3 [Value.slice (some ⟨M1, 0, none⟩) 3 3, Value.slice (some ⟨M2, 0, none⟩) 2 2, Value.int .i64 (-XK - 1)] 32
            have e4 : Below x3.heap.size x3 x4 := by rw [hx4]; exact (Below.refl _ _).alloc (Nat.le_refl _) _
            rw [← hx4] at nb ⊢
            clear hx4
            have c4 := c3.trans (e4.mono c3.size)
            have jG := jG.below e4
            have jY := jY.below e4
            have n1 := n1.below e4
            have n2 := n2.below e4
            have sz4 := e4.size
            (try dsimp only)
            refine hK.out _ _ ⟨KQ.out _ c4, fun _ => trivial⟩ ?_
            clear hK K
            refine wpAnyE_one (i := 13) (by kernel_rfl) rfl (fun K hK => ?_)
            rw [if_pos (by rfl)]
            refine wp_append_lies _ (.tmp 69) (.tmp 72) 36 rfl _ 32 zi _ 3 56 Try.underlying36 hi hz0 hz1 hz2 rfl (by omega) (.slice (some ⟨Gg, 0, none⟩) ng cpG) ng xsG (by rfl) jG.o ⟨x3.heap.size, 0, none⟩ 1 1 [Value.slice (some ⟨M1, 0, none⟩) 3 3, Value.slice (some ⟨M2, 0, none⟩) 2 2, Value.int .i64 (-XK - 1)] (by rfl) (by rfl) (World.news_of_block (cs := #[Value.slice (some ⟨M1, 0, none⟩) 3 3, Value.slice (some ⟨M2, 0, none⟩) 2 2, Value.int .i64 (-XK - 1)]) (t := 32) (fr := (0, 0)) nb) (by simp [Value.oneCell']) (by omega) (by unfold maxLen; omega) (by omega) jG.b.size _ rfl ?_
            intro gg cpg x7 hown hgrow hatg hltg
            obtain ⟨b7, fG'⟩ := jG.snoc HGL.out hown hgrow hatg rfl (n1.ints' (by simp [mulL, lXC])) (n2.ints' (by simp [mulL, lXD])) (by have := lG.2; omega) (by have := lG.2; omega)
            have fG : FormsAt x7 (some ⟨gg, 0, none⟩) (y.guards ++ [minusX (XC, XD, XK)]) := by
              have hm : minusX (XC, XD, XK) = (mulL (-1) XC, mulL (-1) XD, -XK - 1) := by simp only [minusX]; rw [show -1 * XK - 1 = -XK - 1 by omega]
              rw [hm]; exact fG'
            have c7 := c1.trans (b7.mono c1.size)
            have fP := fPB.keep b7
            have jY := jYB.below b7
            have sz7 := b7.size
            clear hown hgrow hatg nb jG fG'
            (try dsimp only)
            refine hK.out _ _ ⟨KQ.out _ c7, fun _ => trivial⟩ ?_
            clear hK K
            refine wpAnyE_one (i := 15) (by kernel_rfl) rfl (fun K hK => ?_)
            go_simp
            refine (scopy_any _ _ _ z.tells _ HZT.out (T4.keep c7) FT.out (by omega)).mono ?_
            rintro ee x8 ⟨Gt, cpT, xsT, rfl, jT⟩
            have fT := jT.at HZT.out
            have e8 := jT.b
            have c8 := c7.trans (e8.mono c7.size)
            clear jT
            have fP := fP.keep e8
            have fG := fG.keep e8
            have jY := jY.below e8
            have sz8 := e8.size
            (try dsimp only)
            refine hK.out _ _ ⟨KQ.out _ c8, fun _ => trivial⟩ ?_
            clear hK K
            refine wpAnyE_one (i := 16) (by kernel_rfl) rfl (fun K hK => ?_)
            go_simp
            refine (C2.out _ _ _ _ _ _ _ (hF.below (B4.trans (c8.mono B4.size))) fP fG fT).mono ?_
            rintro ee x9 ⟨Gn, cpn, xsn, rfl, jN⟩
            have e9 := jN.b
            have c9 := c8.trans (e9.mono c8.size)
            have jY := jY.below e9
            (try dsimp only)
            refine hK.out _ _ ⟨KQ.out _ c9, fun _ => trivial⟩ ?_
            clear hK K
            refine wpAnyE_one (i := 17) (by kernel_rfl) rfl (fun K hK => ?_)
            go_simp
            (try dsimp only)
            refine hK.out _ _ ⟨KQ.out _ c9, fun _ => trivial⟩ ?_
            clear hK K
            refine wpAnyE_done (by kernel_rfl) ?_ _
            clear fP fG fT fPB P4 T4 G4 KP KQ C1 C2
            obtain ⟨zr, hir, hr0, hr1, hr2⟩ := info_parts Try.infoRow
            have sY := jY.o.1
            have sN := jN.o.1
            have hB9 := (B4.trans (c9.mono B4.size)).size
            have lYx : Gy < x8.heap.size := by omega
            obtain ⟨HNW⟩ : Nonempty (∀ j u, xsn[j]? = some u → x9.cell? ((⟨Gn, 0, none⟩ : Addr).add j) = some u) := ⟨jN.news⟩
            have HNW' : Hid _ := HNW
            clear HNW
            have HON : Hid (∀ u ∈ xsn, u.oneCell' = true) := jN.ones
            go_wp2_with (at_builtin; go_must (refine wpList_append_lies _ rfl (.tmp 77) (.tmp 78) 25 rfl w.heap.size 38 zr _ 4 80 Try.underlying25 hir hr0 hr1 hr2 rfl (by decide) (.slice (some ⟨Gy, 0, none⟩) R1.length cpy) R1.length xsy rfl jY.o ⟨Gn, 0, none⟩ R2.length cpn xsn rfl sN HNW'.out HON.out q3 (by unfold maxLen; omega) (by omega) hB9 _ rfl ?_); intro gj cpj x10 hown hgrow hatj hltj)
            have JJ := jY.join jN (by omega) lYx rfl rfl hown hgrow hatj rfl
            clear jY jN hown hgrow
            go_wp2
            go_ret
            rw [HGO.out, List.length_append]
            exact ⟨_, _, _, rfl, JJ⟩
        · obtain ⟨hp0, hp1⟩ := hp3 rfl
          obtain ⟨p, rfl⟩ : ∃ p : Nat, qp = p := ⟨qp.toNat, by omega⟩
          have hp : p < 3 := by omega
          have hgo : Hid (goW ls g k z = goW ls (g - 1) (k + 1) (z.add p (XC, XD, XK))) := by
            obtain ⟨g', rfl⟩ : ∃ g', g = g' + 1 := ⟨g - 1, by omega⟩
            show goW ls (g' + 1) k z = _
            rw [goW, if_pos hkl.out, HG'.out]
            simp only [HFX.out]
            rfl
          have HW2 : Hid (WayOk (k + 1) (z.add p (XC, XD, XK))) := HZ.out.add (by omega) hp fit1
          have FP : Hid (∀ j, j < 3 → fitX 10000000 (z.pots[j]?.getD ([], [], 0))) := fun j hj => (HZ.out.pf j hj).mono (by have := wb_six (n := min k 6) (by omega); omega)
          go_wp2_with fail
          refine (scopy_any _ _ _ z.pots _ HZ.out.pl P4 FP.out (by omega)).mono ?_
          rintro e w5 ⟨G5, cp5, xs5, rfl, j5⟩
          have lG5 := j5.lt
          have T4x := T4
          rw [World.size_alloc] at lG5
          have fb5 := fb.below j5.b
          have bx5 := bx4.below j5.b
          have T5 := T4.keep j5.b
          have B5 := B4.trans (j5.b.mono B4.size)
          have v15 := v1.below j5.b
          have v25 := v2.below j5.b
          obtain ⟨b0, off0, eb, pa', pc', pca, pcc, c0, c1, c2, iC, iD⟩ := j5.at HZ.out.pl p (by rw [HZ.out.pl]; exact hp)
          simp only [Option.some.injEq, Addr.mk.injEq, and_true] at eb
          obtain ⟨rfl, rfl⟩ := eb
          rw [Nat.zero_add] at c0 c1 c2
          have hfp := FP.out p hp
          have HPP : Hid (plusX (z.pots[p]?.getD ([], [], 0)) (XC, XD, XK) = plusX (z.pots[p]?.getD noX) (XC, XD, XK)) := rfl
          generalize HGP : z.pots[p]?.getD ([], [], 0) = PX at *
          have HGP' : Hid _ := HGP
          clear HGP
          obtain ⟨PC, PD, PK⟩ := PX
          have lPC : PC.length = 3 := hfp.c
          have lPD : PD.length = 2 := hfp.d
          have bPC : bnd 10000000 PC := hfp.bc
          have bPD : bnd 10000000 PD := hfp.bd
          have bK1 : -10000000 ≤ PK := hfp.k1
          have bK2 : PK ≤ 10000000 := hfp.k2
          have bXC : bnd 10000000 XC := fit2.bc
          have bXD : bnd 10000000 XD := fit2.bd
          have bX1 : -10000000 ≤ XK := fit2.k1
          have bX2 : XK ≤ 10000000 := fit2.k2
          have hc0 : w5.cell? ⟨G5, p * 3, none⟩ = some (.slice pa' 3 pca) := c0
          have hc1 : w5.cell? ⟨G5, p * 3 + 1, none⟩ = some (.slice pc' 2 pcc) := c1
          have hc2 : w5.cell? ⟨G5, p * 3 + 2, none⟩ = some (.int .i64 PK) := c2
          clear c0 c1 c2 P4 T4 G4 B4 bx4 fb v1 v2 m0 m1 m2 m3 m4 m5
          obtain ⟨m0, m1, m2, m3, m4, m5⟩ := bx5.six
          obtain ⟨f0, f1, f2, f3, f4, f5⟩ := fb5.trio
          have hpI : (p : Int) < 3 := by omega
          go_upto_region 16 with fail
          have hSS : (w5.drew.cell? ⟨wr.heap.size, 1, none⟩ = some (.int .i64 (p : Int)) ∧ w5.drew.cell? ⟨w3.heap.size, 0, none⟩ = some (.slice (some ⟨D1, 0, none⟩) 3 d1) ∧ w5.drew.cell? ⟨w3.heap.size, 1, none⟩ = some (.slice (some ⟨D2, 0, none⟩) 2 d2) ∧ w5.drew.cell? ⟨w3.heap.size, 2, none⟩ = some (.int .i64 XK)) ∧ (w5.drew.cell? ⟨G5, p * 3, none⟩ = some (.slice pa' 3 pca) ∧ w5.drew.cell? ⟨G5, p * 3 + 1, none⟩ = some (.slice pc' 2 pcc) ∧ w5.drew.cell? ⟨G5, p * 3 + 2, none⟩ = some (.int .i64 PK)) := ⟨⟨m1, f0, f1, f2⟩, hc0, hc1, hc2⟩
          refine wp_region_ends (fun w' => w'.cell? ⟨wr.heap.size, 1, none⟩ = some (.int .i64 (p : Int)) ∧ w'.cell? ⟨w3.heap.size, 0, none⟩ = some (.slice (some ⟨D1, 0, none⟩) 3 d1) ∧ w'.cell? ⟨w3.heap.size, 1, none⟩ = some (.slice (some ⟨D2, 0, none⟩) 2 d2) ∧ w'.cell? ⟨w3.heap.size, 2, none⟩ = some (.int .i64 XK)) (fun w' => w'.cell? ⟨G5, p * 3, none⟩ = some (.slice pa' 3 pca) ∧ w'.cell? ⟨G5, p * 3 + 1, none⟩ = some (.slice pc' 2 pcc) ∧ w'.cell? ⟨G5, p * 3 + 2, none⟩ = some (.int .i64 PK)) 10 (by kernel_rfl) ?_
          refine wpAnyE_take0 (i := 0) (v := ?cv0) rfl (by kernel_rfl) (by kernel_rfl) (by kernel_rfl) (by decide) (fun _ _ _ h => h) (Or.inl ⟨by rfl, ?chy0⟩) hSS ?_
          case chy0 => (intro wz hSw; (try dsimp only at hSw); go_simp; try (with_reducible rfl))
          refine wpAnyE_take0 (i := 1) (v := ?cv1) rfl (by kernel_rfl) (by kernel_rfl) (by kernel_rfl) (by decide) (fun _ _ _ h => h) (Or.inl ⟨by rfl, ?chy1⟩) hSS ?_
          case chy1 => (intro wz hSw; (try dsimp only at hSw); go_simp; try (with_reducible rfl))
          refine wpAnyE_take0 (i := 2) (v := ?cv2) rfl (by kernel_rfl) (by kernel_rfl) (by kernel_rfl) (by decide) (fun _ _ _ h => h) (Or.inl ⟨by rfl, ?chy2⟩) hSS ?_
          case chy2 => (intro wz hSw; (try dsimp only at hSw); go_simp; try (with_reducible rfl))
          refine wpAnyE_take0 (i := 3) (v := ?cv3) rfl (by kernel_rfl) (by kernel_rfl) (by kernel_rfl) (by decide) (fun _ _ _ h => h) (Or.inl ⟨by rfl, ?chy3⟩) hSS ?_
          case chy3 => (intro wz hSw; (try dsimp only at hSw); go_simp; try (with_reducible rfl))
          refine wpAnyE_take0 (i := 4) (v := ?cv4) rfl (by kernel_rfl) (by kernel_rfl) (by kernel_rfl) (by decide) (fun _ _ _ h => h) (Or.inl ⟨by rfl, ?chy4⟩) hSS ?_
          case chy4 => (intro wz hSw; (try dsimp only at hSw); go_simp; try (with_reducible rfl))
          refine wpAnyE_take0 (i := 5) (v := ?cv5) rfl (by kernel_rfl) (by kernel_rfl) (by kernel_rfl) (by decide) (fun _ _ _ h => h) (Or.inl ⟨by rfl, ?chy5⟩) hSS ?_
          case chy5 => (intro wz hSw; (try dsimp only at hSw); go_simp; try (with_reducible rfl))
          refine wpAnyE_take0 (i := 6) (v := ?cv6) rfl (by kernel_rfl) (by kernel_rfl) (by kernel_rfl) (by decide) (fun _ _ _ h => h) (Or.inl ⟨by rfl, ?chy6⟩) hSS ?_
          case chy6 => (intro wz hSw; (try dsimp only at hSw); go_simp; try (with_reducible rfl))
          refine wpAnyE_take1 (i := 7) (v := ?cv7) rfl rfl (by kernel_rfl) (by kernel_rfl) (by kernel_rfl) (by decide) (by rfl) (by simp [Region.binds]) (fun _ _ _ h => h) (Or.inl ⟨by rfl, ?chy7⟩) hSS ?_
          case chy7 => (intro wz hSw; (try dsimp only at hSw); go_simp; try (with_reducible rfl))
          refine wpAnyE_take0 (i := 8) (v := ?cv8) rfl (by kernel_rfl) (by kernel_rfl) (by kernel_rfl) (by decide) (fun _ _ _ h => h) (Or.inl ⟨by rfl, ?chy8⟩) hSS ?_
          case chy8 => (intro wz hSw; (try dsimp only at hSw); go_simp; try (with_reducible rfl))
          refine wpAnyE_one (i := 9) (by kernel_rfl) rfl (fun K hK => ?_)
          go_simp
          refine (l1sum_any _ _ _ _ _ PC PD _ _ _ _ _ XC XD _ _ (iC.below (Below.refl _ _).drew) (iD.below (Below.refl _ _).drew) ((v15.below (Below.refl _ _).drew).ints' lXC) ((v25.below (Below.refl _ _).drew).ints' lXD) (fun i => by have := bPC i; omega) (fun i => by have := bPD i; omega) (by omega) (fun i => by have := bXC i; omega) (fun i => by have := bXD i; omega) (by omega)).mono ?_
          rintro ee w6 ⟨E1, E2, rfl, bd6, y1', y2', y3', u1, u2⟩
          rw [show PK + 1 * XK = PK + XK by omega]
          have b6 := below_of_drew bd6
          have j6 := j5.below b6
          have s6 := b6.size
          have lu1 := u1.lt
          have lu2 := u2.lt
          have bx6 := bx5.below b6
          have fb6 := fb5.below b6
          obtain ⟨n0, n1, n2, n3, n4, n5⟩ := bx6.six
          obtain ⟨x0, x1, x2, x3, x4, x5⟩ := fb6.trio
          have hS6 : (w6.cell? ⟨wr.heap.size, 1, none⟩ = some (.int .i64 (p : Int)) ∧ w6.cell? ⟨w3.heap.size, 0, none⟩ = some (.slice (some ⟨D1, 0, none⟩) 3 d1) ∧ w6.cell? ⟨w3.heap.size, 1, none⟩ = some (.slice (some ⟨D2, 0, none⟩) 2 d2) ∧ w6.cell? ⟨w3.heap.size, 2, none⟩ = some (.int .i64 XK)) ∧ (w6.cell? ⟨G5, p * 3, none⟩ = some (.slice pa' 3 pca) ∧ w6.cell? ⟨G5, p * 3 + 1, none⟩ = some (.slice pc' 2 pcc) ∧ w6.cell? ⟨G5, p * 3 + 2, none⟩ = some (.int .i64 PK)) :=
            ⟨⟨n1, x0, x1, x2⟩, (b6.cell (p := ⟨G5, p * 3, none⟩) lG5.2).trans hc0, (b6.cell (p := ⟨G5, p * 3 + 1, none⟩) lG5.2).trans hc1, (b6.cell (p := ⟨G5, p * 3 + 2, none⟩) lG5.2).trans hc2⟩
          dsimp only
          refine hK.out _ _ ⟨hS6.1, fun _ => hS6.2⟩ ?_
          clear hK K hSS
          refine wpAnyE_one (i := 10) (by kernel_rfl) rfl (fun K hK => ?_)
          go_simp
          refine hK.out _ _ ⟨hS6.1, fun h => absurd (show true = false from h) (by decide)⟩ ?_
          clear hK K
          have y1x : w5.heap.size ≤ E1 := y1'
          have y3x : w5.heap.size ≤ E2 := y3'
          have FPN := j6.put HZ.out.pl hp (ca := 3) (cc := 2) (K := PK + XK) u1 (lin_len lPC lXC) u2 (lin_len lPD lXD) (by omega) (by omega)
          have f60 := j6.frz (p * 3) 
          have f61 := j6.frz (p * 3 + 1)
          have f62 := j6.frz (p * 3 + 2)
          obtain ⟨h0', h1', h2'⟩ := hS6.2
          have TT : Touch (fun q => q = G5) w6 (((w6.setCell ⟨G5, p * 3, none⟩ (.slice (some ⟨E1, 0, none⟩) 3 3)).setCell ⟨G5, p * 3 + 1, none⟩ (.slice (some ⟨E2, 0, none⟩) 2 2)).setCell ⟨G5, p * 3 + 2, none⟩ (.int .i64 (PK + XK))) := (((Touch.refl (fun q => q = G5) w6).setCell rfl _).setCell rfl _).setCell rfl _
          have bx7 := bx6.touch TT (fun h => by have := h; omega)
          have fb7 := fb6.touch TT (fun h => by have := h; omega)
          have B7 := (B5.trans (b6.mono B5.size)).trans (TT.below (by have := B5.size; omega) (fun q hq => by omega))
          have T7 := T4x.keep ((j5.b.trans (b6.mono j5.b.size)).trans (TT.below (by rw [World.size_alloc]; omega) (fun q hq => by rw [World.size_alloc]; omega)))
          obtain ⟨n0, n1, n2, n3, n4, n5⟩ := bx7.six
          obtain ⟨x0, x1, x2, x3, x4, x5⟩ := fb7.trio
          refine wpAnyE_one (i := 11) (by kernel_rfl) rfl (fun K hK => ?_)
          go_simp
          refine hK.out _ _ ⟨⟨n1, x0, x1, x2⟩, fun h => absurd (show true = false from h) (by decide)⟩ ?_
          clear hK K
          refine wpAnyE_done (by kernel_rfl) ?_ _
          have eAdd : (z.add p (XC, XD, XK)).pots = z.pots.set p (lin PC XC 1, lin PD XD 1, PK + XK) := by
            show z.pots.set p (plusX (z.pots[p]?.getD noX) (XC, XD, XK)) = _
            rw [show z.pots[p]?.getD noX = (PC, PD, PK) from HGP'.out]; show z.pots.set p (lin PC XC 1, lin PD XD 1, PK + 1 * XK) = _; rw [show PK + 1 * XK = PK + XK by omega]
          rw [← eAdd] at FPN
          have FPN' := FPN
          clear eAdd
          clear hS6 h0' h1' h2' f60 f61 f62 TT bx7 fb7 bx6 fb6 j6 j5 B5 b6 T4x FPN
          go_wp2
          go_roundw
          case rel => exact ⟨k + 1, g - 1, z.add p (XC, XD, XK), some ⟨G5, 0, none⟩, cp5, ta, nt, tc, by omega, by go_num, rfl, rfl, HZT.out, HZG.out, by omega, by omega, HEQ.out.trans hgo.out, HW2.out, B7, FPN', T7⟩
          case measure => simp [intOf]; omega
        · have hgo : Hid (goW ls g k z = goW ls (g - 1) (k + 1) (z.tell (XC, XD, XK))) := by
            obtain ⟨g', rfl⟩ : ∃ g', g = g' + 1 := ⟨g - 1, by omega⟩
            show goW ls (g' + 1) k z = _
            rw [goW, if_pos hkl.out, HG'.out]
            simp only [HFX.out]
            rfl
          have FT : Hid (∀ j, j < nt → fitX 10000000 (z.tells[j]?.getD ([], [], 0))) := fun j hj => HZ.out.tf j (by rw [HZT.out]; exact hj)
          have HW2 : Hid (WayOk (k + 1) (z.tell (XC, XD, XK))) := HZ.out.tell (by omega) fit2
          go_upto_region 9 with fail
          obtain ⟨W4, hW4⟩ : ∃ W4, W4 = w3.alloc (.cells #[.slice (some ⟨D1, 0, none⟩) 3 d1, .slice (some ⟨D2, 0, none⟩) 2 d2, .int .i64 XK] 32) := ⟨_, rfl⟩
          have z4 : W4.heap.size = w3.heap.size + 1 := by rw [hW4, World.size_alloc]
          rw [← hW4] at fb B4 P4 T4 G4 v1 v2 bx4 m0 m1 m2 m3 m4 m5 ⊢
          clear hW4
          obtain ⟨n0, n1, n2, n3, n4, n5⟩ := fb.trio
          have hSS : (W4.drew.cell? ⟨w3.heap.size, 0, none⟩ = some (.slice (some ⟨D1, 0, none⟩) 3 d1) ∧ W4.drew.cell? ⟨w3.heap.size, 1, none⟩ = some (.slice (some ⟨D2, 0, none⟩) 2 d2) ∧ W4.drew.cell? ⟨w3.heap.size, 2, none⟩ = some (.int .i64 XK)) ∧ True := ⟨⟨n0, n1, n2⟩, trivial⟩
          have KP : Hid (∀ W, Below W4.heap.size W4 W → (W.cell? ⟨w3.heap.size, 0, none⟩ = some (.slice (some ⟨D1, 0, none⟩) 3 d1) ∧ W.cell? ⟨w3.heap.size, 1, none⟩ = some (.slice (some ⟨D2, 0, none⟩) 2 d2) ∧ W.cell? ⟨w3.heap.size, 2, none⟩ = some (.int .i64 XK))) := fun W hW => by
            obtain ⟨n0, n1, n2, _, _, _⟩ := (fb.below hW).trio
            exact ⟨n0, n1, n2⟩
          refine wp_region_ends (fun w' => w'.cell? ⟨w3.heap.size, 0, none⟩ = some (.slice (some ⟨D1, 0, none⟩) 3 d1) ∧ w'.cell? ⟨w3.heap.size, 1, none⟩ = some (.slice (some ⟨D2, 0, none⟩) 2 d2) ∧ w'.cell? ⟨w3.heap.size, 2, none⟩ = some (.int .i64 XK)) (fun _ => True) 5 (by kernel_rfl) ?_
          refine wpAnyE_take0 (i := 0) (v := ?v0) rfl (by kernel_rfl) (by kernel_rfl) (by kernel_rfl) (by decide) (fun _ _ _ h => h) (Or.inl ⟨by rfl, ?hy0⟩) hSS ?_
          case hy0 => (intro wz hSw; (try dsimp only at hSw); go_simp; try (with_reducible rfl))
          refine wpAnyE_take0 (i := 2) (v := ?v2) rfl (by kernel_rfl) (by kernel_rfl) (by kernel_rfl) (by decide) (fun _ _ _ h => h) (Or.inl ⟨by rfl, ?hy2⟩) hSS ?_
          case hy2 => (intro wz hSw; (try dsimp only at hSw); go_simp; try (with_reducible rfl))
          refine wpAnyE_two (i := 1) (j := 3) (by kernel_rfl) rfl rfl (fun K hK => ?_) (fun K hK => ?_)
          · go_simp
            refine (scopy_any _ _ _ z.tells _ HZT.out (T4.keep (Below.refl _ _).drew) FT.out (by omega)).mono ?_
            rintro ee w5 ⟨G5, cp5, xs5, rfl, j5⟩
            have b5 : Below W4.heap.size W4 w5 := below_of_drew j5.b
            dsimp only
            refine hK.out _ _ ⟨KP.out _ b5, fun _ => trivial⟩ ?_
            clear hK K hSS
            refine wpAnyE_one (i := 3) (by kernel_rfl) rfl (fun K hK => ?_)
            go_simp
            have A6 : Below w5.heap.size w5 (w5.alloc (.cells #[Value.slice (some ⟨D1, 0, none⟩) 3 d1, Value.slice (some ⟨D2, 0, none⟩) 2 d2, Value.int .i64 XK] 32)) := (Below.refl _ _).alloc (Nat.le_refl _) _
            have nb6 := Cel.new w5 [Value.slice (some ⟨D1, 0, none⟩) 3 d1, Value.slice (some ⟨D2, 0, none⟩) 2 d2, Value.int .i64 XK] 32
            have lG5 := j5.lt
            have j6 := j5.below A6
            have v16 := (v1.below b5).below A6
            have v26 := (v2.below b5).below A6
            have b6 := b5.trans (A6.mono b5.size)
            have lG5' : W4.heap.size ≤ G5 := lG5.1
            refine hK.out _ _ ⟨KP.out _ b6, fun _ => trivial⟩ ?_
            clear hK K A6 j5
            refine wpAnyE_one (i := 4) (by kernel_rfl) rfl (fun K hK => ?_)
            rw [if_pos (by rfl)]
            refine wp_append_lies _ (.tmp 41) (.tmp 43) 36 rfl _ 32 zi _ 3 56 Try.underlying36 hi hz0 hz1 hz2 rfl (by omega) (.slice (some ⟨G5, 0, none⟩) nt cp5) nt xs5 (by rfl) j6.o ⟨w5.heap.size, 0, none⟩ 1 1 [Value.slice (some ⟨D1, 0, none⟩) 3 d1, Value.slice (some ⟨D2, 0, none⟩) 2 d2, Value.int .i64 XK] (by rfl) (by rfl) (World.news_of_block (cs := #[Value.slice (some ⟨D1, 0, none⟩) 3 d1, Value.slice (some ⟨D2, 0, none⟩) 2 d2, Value.int .i64 XK]) (t := 32) (fr := (0, 0)) nb6) (by simp [Value.oneCell']) (by omega) (by unfold maxLen; omega) (by omega) j6.b.size _ rfl ?_
            intro gg cpg w7 hown hgrow hatg hltg
            obtain ⟨b7, F7⟩ := j6.snoc HZT.out hown hgrow hatg rfl (v16.ints' lXC) (v26.ints' lXD) (by omega) (by omega)
            have b47 : Below W4.heap.size W4 w7 := below_of_drew b7
            refine hK.out _ _ ⟨KP.out _ b47, fun _ => trivial⟩ ?_
            clear hK K hown hgrow hatg nb6 v16 v26 j6
            refine wpAnyE_one (i := 5) (by kernel_rfl) rfl (fun K hK => ?_)
            go_simp
            refine hK.out _ _ ⟨KP.out _ b47, fun _ => trivial⟩ ?_
            clear hK K
            refine wpAnyE_done (by kernel_rfl) ?_ _
            have P7 := P4.keep b47
            have B7 := B4.trans (b47.mono B4.size)
            clear b47 b7 P4 T4 G4 B4
            go_wp2
            go_roundw
            case rel => exact ⟨k + 1, g - 1, z.tell (XC, XD, XK), pa, cp, some ⟨gg, 0, none⟩, nt + 1, cpg, by omega, by go_num, rfl, rfl, by simp only [Way.tell, List.length_append, List.length_cons, List.length_nil, HZT.out], HZG.out, by omega, by omega, HEQ.out.trans hgo.out, HW2.out, B7, P7, F7⟩
            case measure => simp [intOf]; omega
          · go_simp
            obtain ⟨Wb, hWb⟩ : ∃ Wb, Wb = (W4.alloc (.cells #[Value.slice (some ⟨D1, 0, none⟩) 3 d1, Value.slice (some ⟨D2, 0, none⟩) 2 d2, Value.int .i64 XK] 32)).drew := ⟨_, rfl⟩
            have A5 : Below W4.heap.size W4 Wb := by rw [hWb]; exact ((Below.refl _ _).alloc (Nat.le_refl _) _).drew
            have nb5 : Cel Wb W4.heap.size [Value.slice (some ⟨D1, 0, none⟩) 3 d1, Value.slice (some ⟨D2, 0, none⟩) 2 d2, Value.int .i64 XK] 32 := by rw [hWb]; exact Cel.new W4 [Value.slice (some ⟨D1, 0, none⟩) 3 d1, Value.slice (some ⟨D2, 0, none⟩) 2 d2, Value.int .i64 XK] 32
            have zb : W4.heap.size + 1 = Wb.heap.size := by rw [hWb]; show _ = (W4.alloc _).heap.size; rw [World.size_alloc]
            rw [← hWb]
            clear hWb
            refine hK.out _ _ ⟨KP.out _ A5, fun _ => trivial⟩ ?_
            clear hK K hSS
            refine wpAnyE_one (i := 1) (by kernel_rfl) rfl (fun K hK => ?_)
            go_simp
            refine (scopy_any _ _ _ z.tells _ HZT.out (T4.keep A5) FT.out (by omega)).mono ?_
            rintro ee w5 ⟨G5, cp5, xs5, rfl, j6⟩
            have b5 := A5.trans (j6.b.mono A5.size)
            have nb6 := nb5.below j6.b
            rw [z4] at nb6
            have v16 := v1.below b5
            have v26 := v2.below b5
            have lG5' := j6.lt.1
            dsimp only
            refine hK.out _ _ ⟨KP.out _ b5, fun _ => trivial⟩ ?_
            clear hK K nb5
            refine wpAnyE_one (i := 4) (by kernel_rfl) rfl (fun K hK => ?_)
            rw [if_pos (by rfl)]
            refine wp_append_lies _ (.tmp 41) (.tmp 43) 36 rfl _ 32 zi _ 3 56 Try.underlying36 hi hz0 hz1 hz2 rfl (by omega) (.slice (some ⟨G5, 0, none⟩) nt cp5) nt xs5 (by rfl) j6.o ⟨w3.heap.size + 1, 0, none⟩ 1 1 [Value.slice (some ⟨D1, 0, none⟩) 3 d1, Value.slice (some ⟨D2, 0, none⟩) 2 d2, Value.int .i64 XK] (by rfl) (by rfl) (World.news_of_block (cs := #[Value.slice (some ⟨D1, 0, none⟩) 3 d1, Value.slice (some ⟨D2, 0, none⟩) 2 d2, Value.int .i64 XK]) (t := 32) (fr := (0, 0)) nb6) (by simp [Value.oneCell']) (by omega) (by unfold maxLen; omega) (by omega) j6.b.size _ rfl ?_
            intro gg cpg w7 hown hgrow hatg hltg
            obtain ⟨b7, F7⟩ := j6.snoc HZT.out hown hgrow hatg rfl (v16.ints' lXC) (v26.ints' lXD) (by omega) (by omega)
            have b47 : Below W4.heap.size W4 w7 := A5.trans (b7.mono A5.size)
            refine hK.out _ _ ⟨KP.out _ b47, fun _ => trivial⟩ ?_
            clear hK K hown hgrow hatg nb6 v16 v26 j6
            refine wpAnyE_one (i := 5) (by kernel_rfl) rfl (fun K hK => ?_)
            go_simp
            refine hK.out _ _ ⟨KP.out _ b47, fun _ => trivial⟩ ?_
            clear hK K
            refine wpAnyE_done (by kernel_rfl) ?_ _
            have P7 := P4.keep b47
            have B7 := B4.trans (b47.mono B4.size)
            clear b47 b7 P4 T4 G4 B4
            go_wp2
            go_roundw
            case rel => exact ⟨k + 1, g - 1, z.tell (XC, XD, XK), pa, cp, some ⟨gg, 0, none⟩, nt + 1, cpg, by omega, by go_num, rfl, rfl, by simp only [Way.tell, List.length_append, List.length_cons, List.length_nil, HZT.out], HZG.out, by omega, by omega, HEQ.out.trans hgo.out, HW2.out, B7, P7, F7⟩
            case measure => simp [intOf]; omega
    · have hrow : Hid (goW ls g k z = [endW z]) := goW_end (by rw [HN.out]; omega)
      have HPF : Hid (∀ j, j < 3 → fitX 10000000 (z.pots[j]?.getD noX)) := fun j hj => (HZ.out.pf j hj).mono (by have := wb_six (n := min k 6) (by omega); omega)
      have HGL2 : Hid (z.guards.length = ng) := by show z.guards.length = ng; rw [HZG.out]; exact HGL.out
      have hGz2 : FormsAt wr ga z.guards := by rw [HZG.out]; exact hGz
      have FG : Hid (∀ j, j < ng → fitX 10000000 (z.guards[j]?.getD ([], [], 0))) := fun j hj => HZ.out.gf j (by rw [HGL2.out]; exact hj)
      have FT : Hid (∀ j, j < nt → fitX 10000000 (z.tells[j]?.getD ([], [], 0))) := fun j hj => HZ.out.tf j (by rw [HZT.out]; exact hj)
      go_wp2_with fail
      refine (srowend_any z _ _ _ _ _ _ _ _ _ HZ.out.pl HGL2.out HZT.out hPz hGz2 hTz HPF.out FG.out FT.out (by omega) (by omega)).mono ?_
      rintro e w3 ⟨v, rfl, b3, hX⟩
      obtain ⟨xa, xc, ya, yc, za, zc, rfl, f0, f1, f2⟩ := hX
      have hb3 := hb.trans (b3.mono hb.size)
      have zb := hb.size
      have J := JR.one (w := w) (gc := xc) (ac := yc) (tc := zc) hb3 (f0.mono (fun k hk => by omega)) (f1.mono (fun k hk => by omega)) (f2.mono (fun k hk => by omega))
      clear b3 f0 f1 f2
      go_wp2
      go_ret
      rw [HEQ.out, hrow.out]
      exact ⟨_, _, _, rfl, J⟩

end Go.Proofs.Ytngfbcegcekbbaa
namespace Go.Proofs.Ytngfbcegcekbbaa
open Go.RowKit Go.Deep
set_option linter.unusedVariables false
set_option maxRecDepth 100000

/-- All ways through an act; none, if it is not ok. -/
def rowsB (N : Nat) (ls : List LV) : List RowM := if actB N ls then rowsL ls else []
theorem JR.noRows (w : World) : JR w w.heap.size 0 [] [] (w.alloc (.cells #[] 38)) :=
  ⟨(Below.refl _ _).alloc (Nat.le_refl _) _, World.ownsRow_lit w #[] 0 (Nat.le_refl _) (by unfold maxLen; omega) rfl, fun j hj => by simp at hj⟩
theorem actB_parts {N : Nat} {ls : List LV} (h : actB N ls = true) : N ≤ 6 ∧ ls.all LV.ok = true := by
  simp only [actB, Bool.and_eq_true, decide_eq_true_eq] at h
  exact ⟨by omega, h.1.2⟩
/-- The three pots of the beginning, laid in a row. -/
theorem way0_at {W : World} {B : Nat} {a0 a1 a2 c0 c1 c2 : Option Addr} {x0 x1 x2 y0 y1 y2 : Nat} (h : Cel W B [.slice a0 3 x0, .slice c0 2 y0, .int .i64 0, .slice a1 3 x1, .slice c1 2 y1, .int .i64 0, .slice a2 3 x2, .slice c2 2 y2, .int .i64 0] 32)
    (i0 : Ints W a0 3 ([0, 0, 0].set 0 1)) (j0 : Ints W c0 2 [0, 0]) (i1 : Ints W a1 3 ([0, 0, 0].set 1 1)) (j1 : Ints W c1 2 [0, 0]) (i2 : Ints W a2 3 ([0, 0, 0].set 2 1)) (j2 : Ints W c2 2 [0, 0]) : FormsAt W (some ⟨B, 0, none⟩) way0.pots := fun i hi => by
  have hi' : i < 3 := hi
  match i, hi' with
  | 0, _ => exact ⟨B, 0, rfl, a0, c0, x0, y0, h.cell 0, h.cell 1, h.cell 2, i0, j0⟩
  | 1, _ => exact ⟨B, 0, rfl, a1, c1, x1, y1, h.cell 3, h.cell 4, h.cell 5, i1, j1⟩
  | 2, _ => exact ⟨B, 0, rfl, a2, c2, x2, y2, h.cell 6, h.cell 7, h.cell 8, i2, j2⟩
theorem FormsAt.noForms {W : World} {a : Option Addr} : FormsAt W a [] := fun i hi => by simp at hi

set_option maxHeartbeats 3200000 in
theorem srows_any (ad : Option Addr) (N cap : Nat) (ls : List LV) (w : World) (hN : ls.length = N) (hF : LinesG w ad ls) (hN1 : N ≤ 1048576) :
    Calls Try.prog 11 #[.slice ad N cap] w fun e w' => ∃ G cp xs, e = .returned (.slice (some ⟨G, 0, none⟩) (rowsB N ls).length cp) ∧ JR w G cp xs (rowsB N ls) w' := by
  have HN : Hid (ls.length = N) := hN
  clear hN
  obtain ⟨u, hu⟩ : ∃ u, actB N ls = u := ⟨_, rfl⟩
  have HU : Hid (actB N ls = u) := hu
  go_enter Try.func11, Try.ntmps11
  go_wp2_with fail
  refine (sact_any _ _ _ ls _ HN.out hF hN1).mono ?_
  rintro e w1 ⟨rfl, b1⟩
  rw [hu]
  clear hu
  cases u with
  | false =>
    have J := (JR.noRows w1).mono b1
    go_wp2
    go_ret
    rw [rowsB, HU.out]
    exact ⟨_, _, _, rfl, J⟩
  | true =>
    obtain ⟨h6, hall⟩ := actB_parts HU.out
    have HA : Hid (ls.all LV.ok = true) := hall
    clear hall
    go_wp2_with fail
    refine (spot_any _ _).mono ?_
    rintro ee w2 ⟨a0, n0, x0, c0, m0, y0, Z1, Z2, rfl, L1, L2, b2, o1, o2, -, -, -⟩
    rw [potC_in (0 : Int) 0 rfl (by omega)] at L1 o1
    rw [potD_in (0 : Int) (by omega) (by omega)] at L2 o2
    obtain rfl : n0 = 3 := by rw [← L1]; simp
    obtain rfl : m0 = 2 := by rw [← L2]; simp
    have i0 := o1.ints
    have j0 := o2.ints
    rw [L1] at i0
    rw [L2] at j0
    clear o1 o2 L1 L2 Z1 Z2
    go_wp2_with fail
    refine (spot_any _ _).mono ?_
    rintro ee w3 ⟨a1, n1, x1, c1, m1, y1, Z1, Z2, rfl, L1, L2, b3, o1, o2, -, -, -⟩
    rw [potC_in (1 : Int) 1 rfl (by omega)] at L1 o1
    rw [potD_in (1 : Int) (by omega) (by omega)] at L2 o2
    obtain rfl : n1 = 3 := by rw [← L1]; simp
    obtain rfl : m1 = 2 := by rw [← L2]; simp
    have i1 := o1.ints
    have j1 := o2.ints
    rw [L1] at i1
    rw [L2] at j1
    clear o1 o2 L1 L2 Z1 Z2
    go_wp2_with fail
    refine (spot_any _ _).mono ?_
    rintro ee w4 ⟨a2, n2, x2, c2, m2, y2, Z1, Z2, rfl, L1, L2, b4, o1, o2, -, -, -⟩
    rw [potC_in (2 : Int) 2 rfl (by omega)] at L1 o1
    rw [potD_in (2 : Int) (by omega) (by omega)] at L2 o2
    obtain rfl : n2 = 3 := by rw [← L1]; simp
    obtain rfl : m2 = 2 := by rw [← L2]; simp
    have i2 := o1.ints
    have j2 := o2.ints
    rw [L1] at i2
    rw [L2] at j2
    clear o1 o2 L1 L2 Z1 Z2
    have B2 := b1.trans (b2.mono b1.size)
    have B3 := B2.trans (b3.mono B2.size)
    have B4 := B3.trans (b4.mono B3.size)
    have A1 : Below w4.heap.size w4 (w4.alloc (.cells #[.slice a0 3 x0, .slice c0 2 y0, .int .i64 0, .slice a1 3 x1, .slice c1 2 y1, .int .i64 0, .slice a2 3 x2, .slice c2 2 y2, .int .i64 0] 32)) := (Below.refl _ _).alloc (Nat.le_refl _) _
    have A2 := (A1.alloc A1.size (.cells #[] 32))
    have A3 := (A2.alloc A2.size (.cells #[] 32))
    have i0' := ((i0.below b3).below b4).below A3
    have j0' := ((j0.below b3).below b4).below A3
    have i1' := (i1.below b4).below A3
    have j1' := (j1.below b4).below A3
    have i2' := i2.below A3
    have j2' := j2.below A3
    have nb := ((Cel.new w4 [.slice a0 3 x0, .slice c0 2 y0, .int .i64 0, .slice a1 3 x1, .slice c1 2 y1, .int .i64 0, .slice a2 3 x2, .slice c2 2 y2, .int .i64 0] 32).alloc (.cells #[] 32)).alloc (.cells #[] 32)
    have FP := way0_at nb i0' j0' i1' j1' i2' j2'
    have BA := B4.trans (A3.mono B4.size)
    clear i0 j0 i1 j1 i2 j2 i0' j0' i1' j1' i2' j2' nb B2 B3 b2 b3 b4
    go_wp2_with fail
    refine (swalk_any ad N cap ls HN.out h6 HA.out 7 0 way0 _ _ _ _ _ _ _ _ _ (by omega) (by omega) (by omega) WayOk.start rfl rfl (hF.below BA) FP FormsAt.noForms FormsAt.noForms).mono ?_
    rintro ee w5 ⟨G, cp, xs, rfl, J⟩
    have J' := J.mono BA
    clear J FP
    go_wp2
    go_ret
    rw [rowsB, HU.out]
    exact ⟨G, cp, xs, rfl, J'⟩

end Go.Proofs.Ytngfbcegcekbbaa
