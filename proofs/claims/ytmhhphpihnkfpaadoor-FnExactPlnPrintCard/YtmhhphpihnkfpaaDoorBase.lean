/-
  What a slice of ints is in memory, what a block of ints is, and how they outlast a call that leaves old memory as it was. No condition.
-/
import Derived.Test.YtmhhphpihnkfpaaDoorRows
import Derived.WalkKit
import Derived.ProofKit
import Derived.OpenShut
import Derived.ShutString
import Derived.ChangeOld
import Derived.Below
import Derived.BigQuiet
import Derived.Deep.QuietTactic
import Derived.Deep.RegionWith
import Derived.WalkLawsBesides
import Derived.WalkSpells
namespace Go.Proofs.YtmhhphpihnkfpaaDoor
open Go.RowKit
set_option linter.unusedVariables false

/-- A slice's first n cells hold zs (from address a on, if there is one). -/
def Ints (w : World) (a : Option Addr) (n : Nat) (zs : List Int) : Prop :=
  zs.length = n ∧ ∀ i, i < n → ∃ b off, a = some ⟨b, off, none⟩ ∧ w.cell? ⟨b, off + i, none⟩ = some (.int .i64 (zs.getD i 0))

/-- A block that holds just zs, free to be written. -/
def Blk (w : World) (B : Nat) (zs : List Int) : Prop := w.heap[B]? = some (.cells (zs.map (Value.int .i64)).toArray 3 (0, 0))

theorem Ints.pos {w : World} {a : Option Addr} {n : Nat} {zs : List Int} (h : Ints w a n zs) (hn : 0 < n) :
    ∃ b off, a = some ⟨b, off, none⟩ ∧ ∀ i, i < n → w.cell? ⟨b, off + i, none⟩ = some (.int .i64 (zs.getD i 0)) := by
  obtain ⟨b, off, hab, _⟩ := h.2 0 hn
  refine ⟨b, off, hab, fun i hi => ?_⟩
  obtain ⟨b', off', hab', hc⟩ := h.2 i hi
  rw [hab] at hab'
  simp only [Option.some.injEq, Addr.mk.injEq, and_true] at hab'
  obtain ⟨rfl, rfl⟩ := hab'
  exact hc

theorem block_lt {w : World} {b off : Nat} {v : Value} (h : w.cell? ⟨b, off, none⟩ = some v) : b < w.heap.size := by
  apply Classical.byContradiction
  intro hn
  have : w.heap[b]? = none := by simp; omega
  simp [World.cell?, this] at h

theorem Ints.below {w w' : World} {a : Option Addr} {n : Nat} {zs : List Int} (h : Ints w a n zs) (hb : Below w.heap.size w w') : Ints w' a n zs := by
  refine ⟨h.1, fun i hi => ?_⟩
  obtain ⟨b, off, hab, hc⟩ := h.2 i hi
  exact ⟨b, off, hab, by rw [hb.cell (p := ⟨b, off + i, none⟩) (block_lt hc)]; exact hc⟩

theorem Blk.lt {w : World} {B : Nat} {zs : List Int} (h : Blk w B zs) : B < w.heap.size := lt_of_block h

theorem Blk.cell {w : World} {B : Nat} {zs : List Int} (h : Blk w B zs) (i : Nat) (hi : i < zs.length) : w.cell? ⟨B, i, none⟩ = some (.int .i64 (zs.getD i 0)) := by
  unfold Blk at h
  simp [World.cell?, h, hi]

theorem Blk.free {w : World} {B : Nat} {zs : List Int} (h : Blk w B zs) (i : Nat) : w.frozen? ⟨B, i, none⟩ = false := by
  unfold Blk at h
  simp [World.frozen?, h]

theorem Blk.ints {w : World} {B : Nat} {zs : List Int} (h : Blk w B zs) : Ints w (some ⟨B, 0, none⟩) zs.length zs :=
  ⟨rfl, fun i hi => ⟨B, 0, rfl, by simpa using h.cell i hi⟩⟩

theorem Blk.ints' {w : World} {B n : Nat} {zs : List Int} (h : Blk w B zs) (hn : zs.length = n) : Ints w (some ⟨B, 0, none⟩) n zs := hn ▸ h.ints

theorem Blk.below {w w' : World} {B : Nat} {zs : List Int} (h : Blk w B zs) (hb : Below w.heap.size w w') : Blk w' B zs := by
  unfold Blk at *
  rw [hb.block B (lt_of_block h)]; exact h

theorem Blk.set {w : World} {B : Nat} {zs : List Int} (h : Blk w B zs) (i : Nat) (x : Int) : Blk (w.setCell ⟨B, i, none⟩ (.int .i64 x)) B (zs.set i x) := by
  unfold Blk at *
  have := heap_setCell_same w B i _ _ (.int .i64 x) h
  rw [this]
  simp [List.map_set]

theorem Blk.setOther {w : World} {B B' : Nat} {zs : List Int} (h : Blk w B zs) (hne : B ≠ B') (i : Nat) (x : Value) : Blk (w.setCell ⟨B', i, none⟩ x) B zs := by
  unfold Blk at *
  rw [Below.heap_setCell _ _ _ _ hne]; exact h

theorem Blk.made (w : World) (n : Nat) (o : World) (h : o.ownsRow w.heap.size 3 1 (.slice (some ⟨w.heap.size, 0, none⟩) n n) n (madeCells (Value.cells (.int .i64 0)) (n * 1)).toList) : Blk o w.heap.size (List.replicate n 0) := by
  rcases h.2 with ⟨h', _⟩ | ⟨g', cap', cur, h', _, hg, _, _, hcs, htake⟩
  · simp at h'
  · simp only [Value.slice.injEq, Option.some.injEq, Addr.mk.injEq, and_true, true_and] at h'
    obtain ⟨rfl, rfl⟩ := h'
    unfold Blk
    rw [hg]
    have hcur : cur.toList = (List.replicate n (Value.int .i64 0)) := by
      rw [List.take_of_length_le (by simp [hcs])] at htake
      rw [htake]
      simpa [Value.cells] using toList_madeCells_one (.int .i64 0) n
    have : cur = (List.replicate n (Value.int .i64 0)).toArray := by
      rw [← hcur]
    rw [this]
    simp

/-- Within bounds. -/
def inB (n lo hi : Int) : Bool := decide (lo ≤ n ∧ n ≤ hi)
theorem inB_iff {n lo hi : Int} : inB n lo hi = true ↔ lo ≤ n ∧ n ≤ hi := by simp [inB]
theorem inB_not {n lo hi : Int} : inB n lo hi = false ↔ ¬ (lo ≤ n ∧ n ≤ hi) := by rw [← inB_iff]; simp

/-- All within a bound. -/
def allB (m : Int) (zs : List Int) : Bool := zs.all fun n => inB n (-m) m

/-- As many as must be, and all within a bound. -/
def okN (c m : Int) (n : Nat) (zs : List Int) : Bool := decide ((n : Int) = c) && allB m zs
theorem okN_not {c m : Int} {n : Nat} {zs : List Int} (h : ¬ (n : Int) = c) : okN c m n zs = false := by simp [okN, h]
theorem okN_is {c m : Int} {n : Nat} {zs : List Int} (h : (n : Int) = c) : okN c m n zs = allB m zs := by simp [okN, h]

theorem allB_nil (m : Int) : allB m [] = true := rfl

theorem allB_take_succ (m : Int) (zs : List Int) (k : Nat) (h : k < zs.length) : allB m (zs.take (k + 1)) = (allB m (zs.take k) && inB (zs[k]?.getD 0) (-m) m) := by
  unfold allB
  rw [List.take_succ_eq_append_getElem h, List.all_append]
  rw [List.getElem?_eq_getElem h]
  simp only [List.all_cons, List.all_nil, Bool.and_true, Option.getD_some]

theorem allB_step {m : Int} {zs : List Int} {k : Nat} (h : k < zs.length) (h1 : allB m (zs.take k) = true) (h2 : inB (zs[k]?.getD 0) (-m) m = true) : allB m (zs.take (k + 1)) = true := by
  rw [allB_take_succ m zs k h, h1, h2]; rfl

theorem allB_end {m : Int} {zs : List Int} {k : Nat} (h : zs.length ≤ k) (h1 : allB m (zs.take k) = true) : allB m zs = true := by
  rwa [List.take_of_length_le h] at h1

theorem allB_false {m : Int} {zs : List Int} {k : Nat} (h : k < zs.length) (hn : inB (zs[k]?.getD 0) (-m) m = false) : allB m zs = false := by
  unfold allB
  rw [List.all_eq_false]
  refine ⟨zs[k], List.getElem_mem h, ?_⟩
  rw [List.getElem?_eq_getElem h] at hn
  simpa using hn

/-- One list is the other. -/
def eqB (xs ys : List Int) : Bool := decide (xs = ys)
theorem eqB_refl (xs : List Int) : eqB xs xs = true := by simp [eqB]

theorem take_same_succ {xs ys : List Int} {k : Nat} (h1 : k < xs.length) (h2 : k < ys.length) (h : xs.take k = ys.take k) (he : xs[k]?.getD 0 = ys[k]?.getD 0) : xs.take (k + 1) = ys.take (k + 1) := by
  rw [List.take_succ_eq_append_getElem h1, List.take_succ_eq_append_getElem h2, h]
  rw [List.getElem?_eq_getElem h1, List.getElem?_eq_getElem h2] at he
  simp only [Option.getD_some] at he
  rw [he]

theorem eqB_true {xs ys : List Int} {k n : Nat} (h1 : xs.length = n) (h2 : ys.length = n) (hk : n ≤ k) (h : xs.take k = ys.take k) : eqB xs ys = true := by
  rw [List.take_of_length_le (by omega), List.take_of_length_le (by omega)] at h
  simp [eqB, h]

theorem eqB_false {xs ys : List Int} {k : Nat} (he : xs[k]?.getD 0 ≠ ys[k]?.getD 0) : eqB xs ys = false := by
  simp only [eqB, decide_eq_false_iff_not]
  intro h
  exact he (by rw [h])

theorem eqB_len {xs ys : List Int} (h : xs.length ≠ ys.length) : eqB xs ys = false := by
  simp only [eqB, decide_eq_false_iff_not]
  intro e
  exact h (by rw [e])

/-- A copy that has come as far as k. -/
def upTo (zs : List Int) (n k : Nat) : List Int := zs.take k ++ List.replicate (n - k) 0
theorem upTo_zero (zs : List Int) (n : Nat) : upTo zs n 0 = List.replicate n 0 := by simp [upTo]
theorem upTo_len {zs : List Int} {n k : Nat} (h : zs.length = n) (hk : k ≤ n) : (upTo zs n k).length = n := by simp [upTo]; omega
theorem upTo_end {zs : List Int} {n k : Nat} (h : zs.length = n) (hk : n ≤ k) : upTo zs n k = zs := by
  unfold upTo
  rw [List.take_of_length_le (by omega), Nat.sub_eq_zero_of_le hk]; simp
theorem upTo_succ {zs : List Int} {n k : Nat} (h : zs.length = n) (hk : k < n) : (upTo zs n k).set k (zs[k]?.getD 0) = upTo zs n (k + 1) := by
  unfold upTo
  have hl : (zs.take k).length = k := by simp; omega
  rw [List.set_append_right _ _ (by omega), hl, Nat.sub_self]
  rw [List.take_succ_eq_append_getElem (by omega), List.getElem?_eq_getElem (by omega)]
  have : n - k = (n - (k + 1)) + 1 := by omega
  rw [this, List.replicate_succ]
  simp only [List.set_cons_zero, Option.getD_some, List.append_assoc, List.cons_append, List.nil_append]

theorem ret_bool {a b : Bool} (h : a = b) : Ending.returned (.bool a) = .returned (.bool b) := by rw [h]
theorem ret_two {k : IntKind} {x y : Int} {a b : Bool} (h : x = y) (h' : a = b) : Ending.returned (.tuple #[.int k x, .bool a]) = .returned (.tuple #[.int k y, .bool b]) := by rw [h, h']
theorem ret_int {k : IntKind} {a b : Int} (h : a = b) : Ending.returned (.int k a) = .returned (.int k b) := by rw [h]

theorem own : ownKnob Tryd.prog.godebug = none := by kernel_rfl
theorem laidOut : laidOutB Tryd.prog = true := by kernel_rfl

/-- A slice of ints that came in: nil, or a row of 'cap' cells that hold zs, each fitting its kind. -/
def IsRow (k : IntKind) (w : World) (a : Option Addr) (len cap : Nat) (zs : List Int) : Prop :=
  (a = none ∧ len = 0 ∧ cap = 0 ∧ zs = []) ∨
  ∃ x, a = some x ∧ len ≤ cap ∧ cap ≤ maxLen ∧ zs.length = cap ∧ (∀ i, i < zs.length → w.cell? (x.add i) = some (.int k (zs.getD i 0))) ∧ ∀ n ∈ zs, (Lit.int k n).wf = true

theorem IsRow.ints {w : World} {a : Option Addr} {len cap : Nat} {zs : List Int} (h : IsRow .i64 w a len cap zs) : Ints w a len (zs.take len) := by
  rcases h with ⟨rfl, rfl, rfl, rfl⟩ | ⟨x, rfl, hl, hm, hz, hcell, hwz⟩
  · exact ⟨rfl, fun i hi => by omega⟩
  · refine ⟨by simp; omega, fun i hi => ?_⟩
    obtain ⟨b, off, spot⟩ := x
    have hc0 := hcell 0 (by omega)
    have hspot : spot = none := by simpa [Addr.add] using World.cell?_spot hc0
    subst hspot
    refine ⟨b, off, rfl, ?_⟩
    have hc := hcell i (by omega)
    have : w.cell? ⟨b, off + i, none⟩ = some (.int .i64 (zs.getD i 0)) := by
      by_cases h0 : i = 0
      · subst h0; simpa [Addr.add] using hc
      · simpa [Addr.add, h0] using hc
    rw [this]
    simp [hi]

theorem Ints.alloc {w : World} {a : Option Addr} {n : Nat} {zs : List Int} (h : Ints w a n zs) (o : Obj) : Ints (w.alloc o) a n zs := h.below ((Below.refl _ _).alloc (Nat.le_refl _) _)

/-- All old cells, and all old marks, read as before. -/
theorem bcell {W w1 : World} (hb : Below W.heap.size W w1) : (∀ b o, b < W.heap.size → w1.cell? ⟨b, o, none⟩ = W.cell? ⟨b, o, none⟩) ∧ (∀ b o, b < W.heap.size → w1.frozen? ⟨b, o, none⟩ = W.frozen? ⟨b, o, none⟩) :=
  ⟨fun b o h => hb.cell (p := ⟨b, o, none⟩) h, fun b o h => hb.frozen (p := ⟨b, o, none⟩) h⟩

/-- A form is ok: so many times each pot and argument, and a number, within bounds. -/
def formB (n m : Nat) (C D : List Int) (K : Int) : Bool := okN 3 10000000 n C && okN 2 10000000 m D && inB K (-10000000) 10000000

/-- One form is the other. -/
def eqF (C D : List Int) (K : Int) (C' D' : List Int) (K' : Int) : Bool := eqB C C' && eqB D D' && decide (K = K')
theorem eqF_refl (C D : List Int) (K : Int) : eqF C D K C D K = true := by simp [eqF, eqB]

/-- What is left of l behind n. -/
def leftOf (l : Int) (n : Nat) : Int := if l < 0 then -1 else if l < n then -1 else l - n
theorem leftOf_neg {l : Int} {n : Nat} (h : l < n) : leftOf l n = -1 := by unfold leftOf; by_cases h0 : l < 0 <;> simp [h0, h]
theorem leftOf_pos {l : Int} {n : Nat} (h : (n : Int) ≤ l) : leftOf l n = l - n := by unfold leftOf; rw [if_neg (by omega), if_neg (by omega)]
theorem leftOf_below {l : Int} {n : Nat} (h : l < 0) : leftOf l n = -1 := by unfold leftOf; rw [if_pos h]
theorem leftOf_ge (l : Int) (n : Nat) : -1 ≤ leftOf l n := by unfold leftOf; split <;> (try split) <;> omega
theorem leftOf_le {l : Int} {n : Nat} (h : 0 ≤ leftOf l n) : (n : Int) ≤ l ∧ leftOf l n ≤ l := by
  unfold leftOf at *; split at h <;> (try split at h) <;> simp_all <;> omega

/-- A form as a value. -/
abbrev formV (a : Option Addr) (n cap : Nat) (c : Option Addr) (m cap' : Nat) (K : Int) : Value := .agg #[.slice a n cap, .slice c m cap', .int .i64 K]

theorem allB_one (m x : Int) : allB m [x] = inB x (-m) m := by simp [allB]

theorem below_of_drew {B : Nat} {w w' : World} (h : Below B w.drew w') : Below B w w' := ⟨h.os, h.tape, h.output, h.size, h.block⟩
theorem below_of_drewN {B k : Nat} {w w' : World} (h : Below B (w.drewN k) w') : Below B w w' := (below_drewN (Below.refl _ _) k).trans h

theorem size_setCell (w : World) (a : Addr) (v : Value) : (w.setCell a v).heap.size = w.heap.size := by simp [World.setCell]

/-- A block that holds just these cells, free to be written. -/
def Cel (w : World) (B : Nat) (vs : List Value) (t : TypeId) : Prop := w.heap[B]? = some (.cells vs.toArray t (0, 0))
theorem Cel.lt {w : World} {B : Nat} {vs : List Value} {t : TypeId} (h : Cel w B vs t) : B < w.heap.size := lt_of_block h
theorem Cel.cell {w : World} {B : Nat} {vs : List Value} {t : TypeId} (h : Cel w B vs t) (i : Nat) : w.cell? ⟨B, i, none⟩ = vs[i]? := by
  unfold Cel at h
  simp [World.cell?, h]
theorem Cel.free {w : World} {B : Nat} {vs : List Value} {t : TypeId} (h : Cel w B vs t) (i : Nat) : w.frozen? ⟨B, i, none⟩ = false := by
  unfold Cel at h
  simp [World.frozen?, h]
theorem Cel.below {w w' : World} {B : Nat} {vs : List Value} {t : TypeId} (h : Cel w B vs t) (hb : Below w.heap.size w w') : Cel w' B vs t := by
  unfold Cel at *
  rw [hb.block B (lt_of_block h)]; exact h
theorem Cel.set {w : World} {B : Nat} {vs : List Value} {t : TypeId} (h : Cel w B vs t) (i : Nat) (x : Value) : Cel (w.setCell ⟨B, i, none⟩ x) B (vs.set i x) t := by
  unfold Cel at *
  rw [heap_setCell_same w B i _ _ x h]
  simp
theorem Cel.setOther {w : World} {B B' : Nat} {vs : List Value} {t : TypeId} (h : Cel w B vs t) (hne : B ≠ B') (i : Nat) (x : Value) : Cel (w.setCell ⟨B', i, none⟩ x) B vs t := by
  unfold Cel at *
  rw [Below.heap_setCell _ _ _ _ hne]; exact h
theorem Cel.new (w : World) (vs : List Value) (t : TypeId) : Cel (w.alloc (.cells vs.toArray t)) w.heap.size vs t := heap_alloc_new w _
theorem Cel.alloc {w : World} {B : Nat} {vs : List Value} {t : TypeId} (h : Cel w B vs t) (o : Obj) : Cel (w.alloc o) B vs t := h.below ((Below.refl _ _).alloc (Nat.le_refl _) _)
theorem Blk.alloc {w : World} {B : Nat} {zs : List Int} (h : Blk w B zs) (o : Obj) : Blk (w.alloc o) B zs := h.below ((Below.refl _ _).alloc (Nat.le_refl _) _)

end Go.Proofs.YtmhhphpihnkfpaaDoor
