/-
  Sums of forms: each list added to another, many forms added up.
-/
import Derived.Test.YtmhhphpihnkfpaaDoorMarks
import Derived.Deep.DeepCutAuto
namespace Go.Proofs.YtmhhphpihnkfpaaDoor
open Go.RowKit
set_option linter.unusedVariables false

/-- Each number lies within a bound. -/
def bnd (M : Int) (zs : List Int) : Prop := ∀ i : Nat, -M ≤ zs[i]?.getD 0 ∧ zs[i]?.getD 0 ≤ M

/-- Added as far as k. -/
def added (xs ys : List Int) (k : Nat) : List Int := (List.zipWith (· + ·) (xs.take k) (ys.take k)) ++ xs.drop k
theorem added_zero (xs ys : List Int) : added xs ys 0 = xs := by simp [added]
theorem added_end (xs ys : List Int) (k : Nat) (h : xs.length ≤ k) (h' : ys.length ≤ k) : added xs ys k = List.zipWith (· + ·) xs ys := by
  unfold added
  rw [List.take_of_length_le h, List.take_of_length_le h', List.drop_eq_nil_of_le h, List.append_nil]
theorem added_len (xs ys : List Int) (k : Nat) (h : xs.length = ys.length) : (added xs ys k).length = xs.length := by simp [added]; omega
theorem added_get (xs ys : List Int) (k : Nat) (h : xs.length = ys.length) (hk : k < xs.length) : (added xs ys k)[k]?.getD 0 = xs[k]?.getD 0 := by
  unfold added
  have hl : (List.zipWith (· + ·) (xs.take k) (ys.take k)).length = k := by simp; omega
  rw [List.getElem?_append_right (by omega), hl, Nat.sub_self, List.getElem?_drop]
  simp
theorem added_succ (xs ys : List Int) (k : Nat) (h : xs.length = ys.length) (hk : k < xs.length) : (added xs ys k).set k (xs[k]?.getD 0 + ys[k]?.getD 0) = added xs ys (k + 1) := by
  unfold added
  have hl : (List.zipWith (· + ·) (xs.take k) (ys.take k)).length = k := by simp; omega
  rw [List.set_append_right _ _ (by omega), hl, Nat.sub_self, List.drop_eq_getElem_cons hk, List.set_cons_zero]
  rw [List.take_succ_eq_append_getElem hk, List.take_succ_eq_append_getElem (by omega), List.zipWith_append (by simp; omega)]
  simp only [List.zipWith_cons_cons, List.zipWith_nil_left, List.append_assoc, List.cons_append, List.nil_append]
  rw [List.getElem?_eq_getElem hk, List.getElem?_eq_getElem (by omega)]
  rfl

theorem make3 (w : World) : (Instr.makeSlice 23 (.int .i64 3) (.int .i64 3)).run Tryd.prog w = .ok (.slice (some ⟨w.heap.size, 0, none⟩) 3 3) (w.alloc (.cells #[.int .i64 0, .int .i64 0, .int .i64 0] 3)) := by kernel_rfl
theorem make2 (w : World) : (Instr.makeSlice 23 (.int .i64 2) (.int .i64 2)).run Tryd.prog w = .ok (.slice (some ⟨w.heap.size, 0, none⟩) 2 2) (w.alloc (.cells #[.int .i64 0, .int .i64 0] 3)) := by kernel_rfl

theorem Blk.new3 (w : World) : Blk (w.alloc (.cells #[.int .i64 0, .int .i64 0, .int .i64 0] 3)) w.heap.size [0, 0, 0] := heap_alloc_new w _
theorem Blk.new2 (w : World) : Blk (w.alloc (.cells #[.int .i64 0, .int .i64 0] 3)) w.heap.size [0, 0] := heap_alloc_new w _

/-- Four new blocks. -/
theorem four0 (w : World) (o0 o1 o2 o3 : Obj) : ((((w.alloc o0).alloc o1).alloc o2).alloc o3).drew.heap[w.heap.size]? = some o0 := by
  show ((((w.heap.push o0).push o1).push o2).push o3)[w.heap.size]? = some o0
  simp only [Array.getElem?_push, Array.size_push]
  repeat (first | rw [if_pos trivial] | rw [if_neg (by omega)])
theorem four1 (w : World) (o0 o1 o2 o3 : Obj) : ((((w.alloc o0).alloc o1).alloc o2).alloc o3).drew.heap[w.heap.size + 1]? = some o1 := by
  show ((((w.heap.push o0).push o1).push o2).push o3)[w.heap.size + 1]? = some o1
  simp only [Array.getElem?_push, Array.size_push]
  repeat (first | rw [if_pos trivial] | rw [if_neg (by omega)])
theorem four2 (w : World) (o0 o1 o2 o3 : Obj) : ((((w.alloc o0).alloc o1).alloc o2).alloc o3).drew.heap[w.heap.size + 1 + 1]? = some o2 := by
  show ((((w.heap.push o0).push o1).push o2).push o3)[w.heap.size + 1 + 1]? = some o2
  simp only [Array.getElem?_push, Array.size_push]
  repeat (first | rw [if_pos trivial] | rw [if_neg (by omega)])
theorem four3 (w : World) (o0 o1 o2 o3 : Obj) : ((((w.alloc o0).alloc o1).alloc o2).alloc o3).drew.heap[w.heap.size + 1 + 1 + 1]? = some o3 := by
  show ((((w.heap.push o0).push o1).push o2).push o3)[w.heap.size + 1 + 1 + 1]? = some o3
  simp only [Array.getElem?_push, Array.size_push]
  repeat (first | rw [if_pos trivial] | rw [if_neg (by omega)])
theorem fourB (w : World) (o0 o1 o2 o3 : Obj) : Below w.heap.size w ((((w.alloc o0).alloc o1).alloc o2).alloc o3).drew :=
  (((((Below.refl _ _).alloc (Nat.le_refl _) _).alloc (by simp) _).alloc (by simp; omega) _).alloc (by simp; omega) _).drew

theorem three1 (w : World) (o0 o1 o2 : Obj) : (((w.alloc o0).alloc o1).alloc o2).heap[w.heap.size + 1]? = some o1 := by
  show (((w.heap.push o0).push o1).push o2)[w.heap.size + 1]? = some o1
  simp only [Array.getElem?_push, Array.size_push]
  repeat (first | rw [if_pos trivial] | rw [if_neg (by omega)])
theorem three2 (w : World) (o0 o1 o2 : Obj) : (((w.alloc o0).alloc o1).alloc o2).heap[w.heap.size + 1 + 1]? = some o2 := by
  show (((w.heap.push o0).push o1).push o2)[w.heap.size + 1 + 1]? = some o2
  simp only [Array.getElem?_push, Array.size_push]
  repeat (first | rw [if_pos trivial] | rw [if_neg (by omega)])

/-- Many forms: how many times each pot, each argument, and a number. -/
abbrev Frm := List Int × List Int × Int
def sumC (fs : List Frm) : Nat → List Int
  | 0 => [0, 0, 0]
  | k + 1 => List.zipWith (· + ·) (sumC fs k) (fs[k]?.getD ([], [], 0)).1
def sumD (fs : List Frm) : Nat → List Int
  | 0 => [0, 0]
  | k + 1 => List.zipWith (· + ·) (sumD fs k) (fs[k]?.getD ([], [], 0)).2.1
def sumK (fs : List Frm) : Nat → Int
  | 0 => 0
  | k + 1 => sumK fs k + (fs[k]?.getD ([], [], 0)).2.2

/-- Each form has as many of both as it must, all within a bound. -/
def fits (M : Int) (f : Frm) : Prop := f.1.length = 3 ∧ f.2.1.length = 2 ∧ bnd M f.1 ∧ bnd M f.2.1 ∧ -M ≤ f.2.2 ∧ f.2.2 ≤ M

theorem zip_get (xs ys : List Int) (h : xs.length = ys.length) (i : Nat) : (List.zipWith (· + ·) xs ys)[i]?.getD 0 = xs[i]?.getD 0 + ys[i]?.getD 0 := by
  by_cases hi : i < xs.length
  · have hy : i < ys.length := by omega
    have hz : i < (List.zipWith (· + ·) xs ys).length := by simp; omega
    rw [List.getElem?_eq_getElem hi, List.getElem?_eq_getElem hy, List.getElem?_eq_getElem hz]
    simp
  · have hy : ys.length ≤ i := by omega
    have hx : xs.length ≤ i := by omega
    have hz : (List.zipWith (· + ·) xs ys).length ≤ i := by simp; omega
    rw [List.getElem?_eq_none hx, List.getElem?_eq_none hy, List.getElem?_eq_none hz]
    rfl
theorem bnd_zip {M M' : Int} {xs ys : List Int} (h : xs.length = ys.length) (hx : bnd M xs) (hy : bnd M' ys) : bnd (M + M') (List.zipWith (· + ·) xs ys) := by
  intro i
  rw [zip_get xs ys h]
  have := hx i
  have := hy i
  omega
theorem sumC_len {fs : List Frm} {M : Int} (h : ∀ i, i < fs.length → fits M (fs[i]?.getD ([], [], 0))) : ∀ k, k ≤ fs.length → (sumC fs k).length = 3
  | 0, _ => rfl
  | k + 1, hk => by
    have ih := sumC_len h k (by omega)
    have := (h k (by omega)).1
    simp [sumC, ih, this]
theorem sumD_len {fs : List Frm} {M : Int} (h : ∀ i, i < fs.length → fits M (fs[i]?.getD ([], [], 0))) : ∀ k, k ≤ fs.length → (sumD fs k).length = 2
  | 0, _ => rfl
  | k + 1, hk => by
    have ih := sumD_len h k (by omega)
    have := (h k (by omega)).2.1
    simp [sumD, ih, this]
theorem bnd_zeros (n : Nat) : bnd 0 (List.replicate n 0) := by
  intro i
  by_cases hi : i < n <;> simp [hi]
theorem sumC_bnd {fs : List Frm} {M : Int} (h : ∀ i, i < fs.length → fits M (fs[i]?.getD ([], [], 0))) : ∀ k : Nat, k ≤ fs.length → bnd (k * M) (sumC fs k)
  | 0, _ => by simpa [sumC] using bnd_zeros 3
  | k + 1, hk => by
    have hf := h k (by omega)
    have ih := sumC_bnd h k (by omega)
    have := bnd_zip (by rw [sumC_len h k (by omega), hf.1]) ih hf.2.2.1
    have e : ((k + 1 : Nat) : Int) * M = k * M + M := by rw [Int.natCast_add, Int.add_mul]; simp
    rw [e]; exact this
theorem sumD_bnd {fs : List Frm} {M : Int} (h : ∀ i, i < fs.length → fits M (fs[i]?.getD ([], [], 0))) : ∀ k : Nat, k ≤ fs.length → bnd (k * M) (sumD fs k)
  | 0, _ => by simpa [sumD] using bnd_zeros 2
  | k + 1, hk => by
    have hf := h k (by omega)
    have ih := sumD_bnd h k (by omega)
    have := bnd_zip (by rw [sumD_len h k (by omega), hf.2.1]) ih hf.2.2.2.1
    have e : ((k + 1 : Nat) : Int) * M = k * M + M := by rw [Int.natCast_add, Int.add_mul]; simp
    rw [e]; exact this
theorem sumK_bnd {fs : List Frm} {M : Int} (h : ∀ i, i < fs.length → fits M (fs[i]?.getD ([], [], 0))) : ∀ k : Nat, k ≤ fs.length → -(k * M) ≤ sumK fs k ∧ sumK fs k ≤ k * M
  | 0, _ => by simp [sumK]
  | k + 1, hk => by
    have hf := (h k (by omega)).2.2.2.2
    have ih := sumK_bnd h k (by omega)
    have e : ((k + 1 : Nat) : Int) * M = k * M + M := by rw [Int.natCast_add, Int.add_mul]; simp
    rw [e]
    simp only [sumK]
    omega

/-- A slice of N forms in memory. -/
def FormsAt (w : World) (a : Option Addr) (fs : List Frm) : Prop :=
  ∀ i, i < fs.length → ∃ b off, a = some ⟨b, off, none⟩ ∧ ∃ a' c' cap cap', w.cell? ⟨b, off + i * 3, none⟩ = some (.slice a' 3 cap) ∧ w.cell? ⟨b, off + i * 3 + 1, none⟩ = some (.slice c' 2 cap') ∧ w.cell? ⟨b, off + i * 3 + 2, none⟩ = some (.int .i64 (fs[i]?.getD ([], [], 0)).2.2) ∧
    Ints w a' 3 (fs[i]?.getD ([], [], 0)).1 ∧ Ints w c' 2 (fs[i]?.getD ([], [], 0)).2.1

end Go.Proofs.YtmhhphpihnkfpaaDoor
