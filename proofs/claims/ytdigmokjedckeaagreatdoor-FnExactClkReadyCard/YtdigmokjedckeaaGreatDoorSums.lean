/-
  Sums of forms: each list added to another, many forms added up.
-/
import Derived.Test.YtdigmokjedckeaaGreatDoorMarks
import Derived.Deep.DeepCutAuto
namespace Go.Proofs.YtdigmokjedckeaaGreatDoor
open Go.RowKit
set_option linter.unusedVariables false

/-- Each number lies within a bound. -/
def bnd (M : Int) (zs : List Int) : Prop := ∀ i : Nat, -M ≤ zs[i]?.getD 0 ∧ zs[i]?.getD 0 ≤ M

/-- Added as far as k. -/
def added (xs ys : List Int) (k : Nat) : List Int := (List.zipWith (· + ·) (xs.take k) (ys.take k)) ++ xs.drop k
theorem added_zero (xs ys : List Int) : added xs ys 0 = xs := by simp [added]
theorem added_end (xs ys : List Int) (k : Nat) (h : xs.length ≤ k) (h' : ys.length ≤ k) : added xs ys k = List.zipWith (· + ·) xs ys := by
  unfold added
  rw [List.take_of_length_le h, List.take_of_length_le h', List.drop_eq_nil_of_le h, List.append_nil]
theorem added_len (xs ys : List Int) (k : Nat) (h : xs.length = ys.length) : (added xs ys k).length = xs.length := by simp [added]; omega
theorem added_get (xs ys : List Int) (k : Nat) (h : xs.length = ys.length) (hk : k < xs.length) : (added xs ys k)[k]?.getD 0 = xs[k]?.getD 0 := by
  unfold added
  have hl : (List.zipWith (· + ·) (xs.take k) (ys.take k)).length = k := by simp; omega
  rw [List.getElem?_append_right (by omega), hl, Nat.sub_self, List.getElem?_drop]
  simp
theorem added_succ (xs ys : List Int) (k : Nat) (h : xs.length = ys.length) (hk : k < xs.length) : (added xs ys k).set k (xs[k]?.getD 0 + ys[k]?.getD 0) = added xs ys (k + 1) := by
  unfold added
  have hl : (List.zipWith (· + ·) (xs.take k) (ys.take k)).length = k := by simp; omega
  rw [List.set_append_right _ _ (by omega), hl, Nat.sub_self, List.drop_eq_getElem_cons hk, List.set_cons_zero]
  rw [List.take_succ_eq_append_getElem hk, List.take_succ_eq_append_getElem (by omega), List.zipWith_append (by simp; omega)]
  simp only [List.zipWith_cons_cons, List.zipWith_nil_left, List.append_assoc, List.cons_append, List.nil_append]
  rw [List.getElem?_eq_getElem hk, List.getElem?_eq_getElem (by omega)]
  rfl

set_option maxHeartbeats 400000 in
theorem addEach_any (n cap B : Nat) (a c : Option Addr) (cap' : Nat) (xs ys : List Int) (M M' : Int) (w : World) (h : OwnAt w a B xs) (h' : Ints w c n ys) (hne : ∀ b o, c = some ⟨b, o, none⟩ → b ≠ B)
    (hz : xs.length = n) (hn : n ≤ 1048576) (hM : bnd M xs) (hM' : bnd M' ys) (hb : M ≤ 2000000000000000000) (hb' : M' ≤ 2000000000000000000) :
    Calls Tryz.prog 172 #[.slice a n cap, .slice c n cap'] w fun e w' => e = .returned (.tuple #[]) ∧ Touch (fun x => x = B ∧ 0 < n) w w' ∧ OwnAt w' a B (List.zipWith (· + ·) xs ys) := by
  have HX : Hid (xs.length = n) := hz
  have HY : Hid (ys.length = n) := h'.1
  clear hz
  go_enter Tryz.func172, Tryz.ntmps172
  go_wp2_with fail
  go_loopw [4, 5, 8] (fun _ _ i wr => ∃ j : Nat, j ≤ n ∧ i = .int .i64 j ∧ Touch (fun x => x = B ∧ 0 < n) w wr ∧ OwnAt wr a B (added xs ys j)) (fun _ _ i _ => n - (intOf i).toNat)
  case atStart => exact ⟨0, Nat.zero_le _, rfl, Touch.refl _ _, by rw [added_zero]; exact h⟩
  case round =>
    obtain ⟨j, hj, rfl, ht, ho⟩ := hrel
    by_cases hlt : j < n
    · rcases ho with ho | ⟨rfl, hbk⟩
      · have := added_len xs ys j (by rw [HX.out, HY.out])
        rw [ho, HX.out] at this
        simp at this
        omega
      · obtain ⟨b, off, rfl, hcell⟩ := h'.pos (by omega)
        have hck : wr.cell? ⟨b, off + j, none⟩ = some (.int .i64 (ys[j]?.getD 0)) := by
          have h0 := hcell j hlt
          have : wr.cell? ⟨b, off + j, none⟩ = w.cell? ⟨b, off + j, none⟩ := World.cell?_of_block (ht.block b (block_lt h0) (fun e => hne b off rfl e.1))
          rw [this, h0]; simp
        have hco : wr.cell? ⟨B, j, none⟩ = some (.int .i64 (xs[j]?.getD 0)) := by
          have := hbk.cell j (by rw [added_len xs ys j (by rw [HX.out, HY.out]), HX.out]; exact hlt)
          rw [this]
          have := added_get xs ys j (by rw [HX.out, HY.out]) (by rw [HX.out]; exact hlt)
          simp [this]
        have hf := hbk.free j
        obtain ⟨m1, m2⟩ := hM j
        obtain ⟨m3, m4⟩ := hM' j
        have R : Blk (wr.setCell ⟨B, j, none⟩ (.int .i64 (xs[j]?.getD 0 + ys[j]?.getD 0))) B (added xs ys (j + 1)) := by
          have := hbk.set j (xs[j]?.getD 0 + ys[j]?.getD 0)
          rwa [added_succ xs ys j (by rw [HX.out, HY.out]) (by rw [HX.out]; exact hlt)] at this
        have R2 : Touch (fun x => x = B ∧ 0 < n) w (wr.setCell ⟨B, j, none⟩ (.int .i64 (xs[j]?.getD 0 + ys[j]?.getD 0))) := ht.setCell ⟨rfl, by omega⟩ _
        clear h hbk hcell h' hM hM' hne
        go_wp2
        go_roundw
        case rel => exact ⟨j + 1, by omega, by go_num, R2, .inr ⟨rfl, R⟩⟩
        case measure => simp [intOf]; omega
    · go_wp2
      go_end0
      obtain rfl : j = n := by omega
      exact ⟨rfl, ht, by rw [added_end xs ys j (by rw [HX.out]; exact Nat.le_refl _) (by rw [HY.out]; exact Nat.le_refl _)] at ho; exact ho⟩

theorem make3 (w : World) : (Instr.makeSlice 23 (.int .i64 3) (.int .i64 3)).run Tryz.prog w = .ok (.slice (some ⟨w.heap.size, 0, none⟩) 3 3) (w.alloc (.cells #[.int .i64 0, .int .i64 0, .int .i64 0] 3)) := by kernel_rfl
theorem make2 (w : World) : (Instr.makeSlice 23 (.int .i64 2) (.int .i64 2)).run Tryz.prog w = .ok (.slice (some ⟨w.heap.size, 0, none⟩) 2 2) (w.alloc (.cells #[.int .i64 0, .int .i64 0] 3)) := by kernel_rfl

theorem Blk.new3 (w : World) : Blk (w.alloc (.cells #[.int .i64 0, .int .i64 0, .int .i64 0] 3)) w.heap.size [0, 0, 0] := heap_alloc_new w _
theorem Blk.new2 (w : World) : Blk (w.alloc (.cells #[.int .i64 0, .int .i64 0] 3)) w.heap.size [0, 0] := heap_alloc_new w _

/-- Four new blocks. -/
theorem four0 (w : World) (o0 o1 o2 o3 : Obj) : ((((w.alloc o0).alloc o1).alloc o2).alloc o3).drew.heap[w.heap.size]? = some o0 := by
  show ((((w.heap.push o0).push o1).push o2).push o3)[w.heap.size]? = some o0
  simp only [Array.getElem?_push, Array.size_push]
  repeat (first | rw [if_pos trivial] | rw [if_neg (by omega)])
theorem four1 (w : World) (o0 o1 o2 o3 : Obj) : ((((w.alloc o0).alloc o1).alloc o2).alloc o3).drew.heap[w.heap.size + 1]? = some o1 := by
  show ((((w.heap.push o0).push o1).push o2).push o3)[w.heap.size + 1]? = some o1
  simp only [Array.getElem?_push, Array.size_push]
  repeat (first | rw [if_pos trivial] | rw [if_neg (by omega)])
theorem four2 (w : World) (o0 o1 o2 o3 : Obj) : ((((w.alloc o0).alloc o1).alloc o2).alloc o3).drew.heap[w.heap.size + 1 + 1]? = some o2 := by
  show ((((w.heap.push o0).push o1).push o2).push o3)[w.heap.size + 1 + 1]? = some o2
  simp only [Array.getElem?_push, Array.size_push]
  repeat (first | rw [if_pos trivial] | rw [if_neg (by omega)])
theorem four3 (w : World) (o0 o1 o2 o3 : Obj) : ((((w.alloc o0).alloc o1).alloc o2).alloc o3).drew.heap[w.heap.size + 1 + 1 + 1]? = some o3 := by
  show ((((w.heap.push o0).push o1).push o2).push o3)[w.heap.size + 1 + 1 + 1]? = some o3
  simp only [Array.getElem?_push, Array.size_push]
  repeat (first | rw [if_pos trivial] | rw [if_neg (by omega)])
theorem fourB (w : World) (o0 o1 o2 o3 : Obj) : Below w.heap.size w ((((w.alloc o0).alloc o1).alloc o2).alloc o3).drew :=
  (((((Below.refl _ _).alloc (Nat.le_refl _) _).alloc (by simp) _).alloc (by simp; omega) _).alloc (by simp; omega) _).drew

theorem three1 (w : World) (o0 o1 o2 : Obj) : (((w.alloc o0).alloc o1).alloc o2).heap[w.heap.size + 1]? = some o1 := by
  show (((w.heap.push o0).push o1).push o2)[w.heap.size + 1]? = some o1
  simp only [Array.getElem?_push, Array.size_push]
  repeat (first | rw [if_pos trivial] | rw [if_neg (by omega)])
theorem three2 (w : World) (o0 o1 o2 : Obj) : (((w.alloc o0).alloc o1).alloc o2).heap[w.heap.size + 1 + 1]? = some o2 := by
  show (((w.heap.push o0).push o1).push o2)[w.heap.size + 1 + 1]? = some o2
  simp only [Array.getElem?_push, Array.size_push]
  repeat (first | rw [if_pos trivial] | rw [if_neg (by omega)])

theorem szero_any (w : World) :
    Calls Tryz.prog 62 #[] w fun e w' => ∃ B1 B2, e = .returned (formV (some ⟨B1, 0, none⟩) 3 3 (some ⟨B2, 0, none⟩) 2 2 0) ∧ Below w.heap.size w w' ∧ w.heap.size ≤ B1 ∧ B1 ≠ B2 ∧ w.heap.size ≤ B2 ∧ Blk w' B1 [0, 0, 0] ∧ Blk w' B2 [0, 0] := by
  go_enter Tryz.func62, Tryz.ntmps62
  go_wp2
  exact bodyPost_ret (v := formV (some ⟨w.heap.size + 1, 0, none⟩) 3 3 (some ⟨w.heap.size + 1 + 1, 0, none⟩) 2 2 0) (by simp [results, Tryz.results62, go_sem]) rfl ⟨_, _, rfl, (((Below.refl _ _).alloc (Nat.le_refl _) _).alloc (by simp) _).alloc (by simp; omega) _, by omega, by omega, by omega, three1 w _ _ _, three2 w _ _ _⟩

/-- Many forms: how many times each pot, each argument, and a number. -/
abbrev Frm := List Int × List Int × Int
def sumC (fs : List Frm) : Nat → List Int
  | 0 => [0, 0, 0]
  | k + 1 => List.zipWith (· + ·) (sumC fs k) (fs[k]?.getD ([], [], 0)).1
def sumD (fs : List Frm) : Nat → List Int
  | 0 => [0, 0]
  | k + 1 => List.zipWith (· + ·) (sumD fs k) (fs[k]?.getD ([], [], 0)).2.1
def sumK (fs : List Frm) : Nat → Int
  | 0 => 0
  | k + 1 => sumK fs k + (fs[k]?.getD ([], [], 0)).2.2

/-- Each form has as many of both as it must, all within a bound. -/
def fits (M : Int) (f : Frm) : Prop := f.1.length = 3 ∧ f.2.1.length = 2 ∧ bnd M f.1 ∧ bnd M f.2.1 ∧ -M ≤ f.2.2 ∧ f.2.2 ≤ M

theorem zip_get (xs ys : List Int) (h : xs.length = ys.length) (i : Nat) : (List.zipWith (· + ·) xs ys)[i]?.getD 0 = xs[i]?.getD 0 + ys[i]?.getD 0 := by
  by_cases hi : i < xs.length
  · have hy : i < ys.length := by omega
    have hz : i < (List.zipWith (· + ·) xs ys).length := by simp; omega
    rw [List.getElem?_eq_getElem hi, List.getElem?_eq_getElem hy, List.getElem?_eq_getElem hz]
    simp
  · have hy : ys.length ≤ i := by omega
    have hx : xs.length ≤ i := by omega
    have hz : (List.zipWith (· + ·) xs ys).length ≤ i := by simp; omega
    rw [List.getElem?_eq_none hx, List.getElem?_eq_none hy, List.getElem?_eq_none hz]
    rfl
theorem bnd_zip {M M' : Int} {xs ys : List Int} (h : xs.length = ys.length) (hx : bnd M xs) (hy : bnd M' ys) : bnd (M + M') (List.zipWith (· + ·) xs ys) := by
  intro i
  rw [zip_get xs ys h]
  have := hx i
  have := hy i
  omega
theorem sumC_len {fs : List Frm} {M : Int} (h : ∀ i, i < fs.length → fits M (fs[i]?.getD ([], [], 0))) : ∀ k, k ≤ fs.length → (sumC fs k).length = 3
  | 0, _ => rfl
  | k + 1, hk => by
    have ih := sumC_len h k (by omega)
    have := (h k (by omega)).1
    simp [sumC, ih, this]
theorem sumD_len {fs : List Frm} {M : Int} (h : ∀ i, i < fs.length → fits M (fs[i]?.getD ([], [], 0))) : ∀ k, k ≤ fs.length → (sumD fs k).length = 2
  | 0, _ => rfl
  | k + 1, hk => by
    have ih := sumD_len h k (by omega)
    have := (h k (by omega)).2.1
    simp [sumD, ih, this]
theorem bnd_zeros (n : Nat) : bnd 0 (List.replicate n 0) := by
  intro i
  by_cases hi : i < n <;> simp [hi]
theorem sumC_bnd {fs : List Frm} {M : Int} (h : ∀ i, i < fs.length → fits M (fs[i]?.getD ([], [], 0))) : ∀ k : Nat, k ≤ fs.length → bnd (k * M) (sumC fs k)
  | 0, _ => by simpa [sumC] using bnd_zeros 3
  | k + 1, hk => by
    have hf := h k (by omega)
    have ih := sumC_bnd h k (by omega)
    have := bnd_zip (by rw [sumC_len h k (by omega), hf.1]) ih hf.2.2.1
    have e : ((k + 1 : Nat) : Int) * M = k * M + M := by rw [Int.natCast_add, Int.add_mul]; simp
    rw [e]; exact this
theorem sumD_bnd {fs : List Frm} {M : Int} (h : ∀ i, i < fs.length → fits M (fs[i]?.getD ([], [], 0))) : ∀ k : Nat, k ≤ fs.length → bnd (k * M) (sumD fs k)
  | 0, _ => by simpa [sumD] using bnd_zeros 2
  | k + 1, hk => by
    have hf := h k (by omega)
    have ih := sumD_bnd h k (by omega)
    have := bnd_zip (by rw [sumD_len h k (by omega), hf.2.1]) ih hf.2.2.2.1
    have e : ((k + 1 : Nat) : Int) * M = k * M + M := by rw [Int.natCast_add, Int.add_mul]; simp
    rw [e]; exact this
theorem sumK_bnd {fs : List Frm} {M : Int} (h : ∀ i, i < fs.length → fits M (fs[i]?.getD ([], [], 0))) : ∀ k : Nat, k ≤ fs.length → -(k * M) ≤ sumK fs k ∧ sumK fs k ≤ k * M
  | 0, _ => by simp [sumK]
  | k + 1, hk => by
    have hf := (h k (by omega)).2.2.2.2
    have ih := sumK_bnd h k (by omega)
    have e : ((k + 1 : Nat) : Int) * M = k * M + M := by rw [Int.natCast_add, Int.add_mul]; simp
    rw [e]
    simp only [sumK]
    omega

/-- A slice of N forms in memory. -/
def FormsAt (w : World) (a : Option Addr) (fs : List Frm) : Prop :=
  ∀ i, i < fs.length → ∃ b off, a = some ⟨b, off, none⟩ ∧ ∃ a' c' cap cap', w.cell? ⟨b, off + i * 3, none⟩ = some (.slice a' 3 cap) ∧ w.cell? ⟨b, off + i * 3 + 1, none⟩ = some (.slice c' 2 cap') ∧ w.cell? ⟨b, off + i * 3 + 2, none⟩ = some (.int .i64 (fs[i]?.getD ([], [], 0)).2.2) ∧
    Ints w a' 3 (fs[i]?.getD ([], [], 0)).1 ∧ Ints w c' 2 (fs[i]?.getD ([], [], 0)).2.1

set_option maxHeartbeats 1600000 in
theorem sum_any (a : Option Addr) (N cap : Nat) (fs : List Frm) (M : Int) (w : World) (hN : fs.length = N) (hF : FormsAt w a fs) (hfit : ∀ i, i < fs.length → fits M (fs[i]?.getD ([], [], 0))) (hM0 : 0 ≤ M) (hN1 : N ≤ 1000) (hM : M ≤ 1000000000000000) :
    Calls Tryz.prog 160 #[.slice a N cap] w fun e w' => ∃ B1 B2, e = .returned (formV (some ⟨B1, 0, none⟩) 3 3 (some ⟨B2, 0, none⟩) 2 2 (sumK fs N)) ∧ Below w.heap.size w w' ∧ w.heap.size ≤ B1 ∧ B1 ≠ B2 ∧ w.heap.size ≤ B2 ∧ Blk w' B1 (sumC fs N) ∧ Blk w' B2 (sumD fs N) := by
  have HN : Hid (fs.length = N) := hN
  clear hN
  have hm3 := make3
  have hm2 := make2
  go_enter Tryz.func160, Tryz.ntmps160
  go_upto_region 1 with fail
  go_cut [2, 3] (fun r s wx => r = .pointer (some ⟨w.heap.size, 0, none⟩) ∧ ∃ S A B, s = .pointer (some ⟨S, 0, none⟩) ∧ Cel wx S [.slice (some ⟨A, 0, none⟩) 3 3, .slice (some ⟨B, 0, none⟩) 2 2, .int .i64 0] 98 ∧ Blk wx A [0, 0, 0] ∧ Blk wx B [0, 0] ∧ Cel wx w.heap.size [.slice none 0 0, .slice none 0 0, .int .i64 0] 98 ∧ Below w.heap.size w wx ∧ w.heap.size < A ∧ w.heap.size < B ∧ w.heap.size < S ∧ A ≠ B ∧ A ≠ S ∧ B ≠ S)
  case first =>
    go_region
    all_goals
      go_wp2_with fail
      go_meet
      case rel =>
        exact ⟨rfl, _, _, _, rfl, (by first | exact four1 w _ _ _ _ | exact four2 w _ _ _ _ | exact four3 w _ _ _ _), (by first | exact four1 w _ _ _ _ | exact four2 w _ _ _ _ | exact four3 w _ _ _ _), (by first | exact four1 w _ _ _ _ | exact four2 w _ _ _ _ | exact four3 w _ _ _ _), four0 w _ _ _ _, fourB w _ _ _ _, by omega, by omega, by omega, by omega, by omega, by omega⟩
  case rest =>
    obtain ⟨rfl, S, A, B, rfl, hS, hA, hB, hR, hb, hlA, hlB, hlS, hAB, hAS, hBS⟩ := hcut
    clear hm3 hm2
    go_wp2_with fail
    go_loopw [5, 11] (fun _ i wr => ∃ k : Nat, k ≤ N ∧ i = .int .i64 k ∧ Cel wr S [.slice (some ⟨A, 0, none⟩) 3 3, .slice (some ⟨B, 0, none⟩) 2 2, .int .i64 (sumK fs k)] 98 ∧ Blk wr A (sumC fs k) ∧ Blk wr B (sumD fs k) ∧ Cel wr w.heap.size [.slice none 0 0, .slice none 0 0, .int .i64 0] 98 ∧ Below w.heap.size w wr) (fun _ i _ => N - (intOf i).toNat)
    case atStart => exact ⟨0, Nat.zero_le _, rfl, hS, hA, hB, hR, hb⟩
    case round =>
      clear hS hA hB hR hb
      obtain ⟨k, hk, rfl, hS, hA, hB, hR, hb⟩ := hrel
      by_cases hlt : k < N
      · obtain ⟨b, off, rfl, a', c', cp, cp', e0, e1, e2, iC, iD⟩ := hF k (by rw [HN.out]; exact hlt)
        have hfk := hfit k (by rw [HN.out]; exact hlt)
        have lC := sumC_len hfit k (by rw [HN.out]; exact hk)
        have lD := sumD_len hfit k (by rw [HN.out]; exact hk)
        have bC := sumC_bnd hfit k (by rw [HN.out]; exact hk)
        have bD := sumD_bnd hfit k (by rw [HN.out]; exact hk)
        have bK := sumK_bnd hfit k (by rw [HN.out]; exact hk)
        have kM : (k : Int) * M ≤ 1000000000000000000 := by
          have h1 : (k : Int) * M ≤ 1000 * M := Int.mul_le_mul_of_nonneg_right (by omega) hM0
          omega
        have f0 : wr.cell? ⟨b, off + k * 3, none⟩ = some (.slice a' 3 cp) := (hb.cell (p := ⟨b, off + k * 3, none⟩) (block_lt e0)).trans e0
        have f1 : wr.cell? ⟨b, off + k * 3 + 1, none⟩ = some (.slice c' 2 cp') := (hb.cell (p := ⟨b, off + k * 3 + 1, none⟩) (block_lt e0)).trans e1
        have f2 := (hb.cell (p := ⟨b, off + k * 3 + 2, none⟩) (block_lt e0)).trans e2
        generalize HK : sumK fs k = sk at *
        have HK' : Hid (sumK fs k = sk) := HK
        clear HK
        generalize HF : (fs[k]?.getD ([], [], 0)) = g at *
        have HF' : Hid ((fs[k]?.getD ([], [], 0)) = g) := HF
        clear HF
        obtain ⟨gC, gD, gK⟩ := g
        obtain ⟨l1, l2, b1, b2, b3, b4⟩ := hfk
        simp only at l1 l2 b1 b2 b3 b4 f2 iC iD e2
        have hbl := block_lt e0
        have hSl := hS.lt
        have hAl := hA.lt
        have hBl := hB.lt
        have s0 := hS.cell 0
        simp only [List.getElem?_cons_zero] at s0
        have nC : ∀ b o, a' = some ⟨b, o, none⟩ → b ≠ A := fun b o h => by
          obtain ⟨b', o', h', hc⟩ := iC.2 0 (by omega)
          rw [h] at h'
          simp only [Option.some.injEq, Addr.mk.injEq, and_true] at h'
          have := block_lt hc
          omega
        have nD : ∀ b o, c' = some ⟨b, o, none⟩ → b ≠ B := fun b o h => by
          obtain ⟨b', o', h', hc⟩ := iD.2 0 (by omega)
          rw [h] at h'
          simp only [Option.some.injEq, Addr.mk.injEq, and_true] at h'
          have := block_lt hc
          omega
        have lAC : ∀ b o, c' = some ⟨b, o, none⟩ → b < w.heap.size := fun b o h => by
          obtain ⟨b', o', h', hc⟩ := iD.2 0 (by omega)
          rw [h] at h'
          simp only [Option.some.injEq, Addr.mk.injEq, and_true] at h'
          have := block_lt hc
          omega
        go_wp2_with fail
        refine (addEach_any 3 _ A _ _ _ (sumC fs k) gC (k * M) M _ (.inr ⟨rfl, hA.alloc _⟩) ((iC.below hb).alloc _) nC lC (by omega) bC b1 (by omega) (by omega)).mono ?_
        rintro e w1 ⟨rfl, t1, o1⟩
        have hF1 := (Cel.new wr _ _).touch t1 (by omega)
        have hS1 := (hS.alloc _).touch t1 (by omega)
        have hR1 := (hR.alloc _).touch t1 (by omega)
        have hB1 : OwnAt w1 (some ⟨B, 0, none⟩) B (sumD fs k) := OwnAt.touch (.inr ⟨rfl, hB.alloc _⟩) t1 (by omega)
        have hb1 : Below w.heap.size w w1 := (hb.alloc hb.size _).trans (t1.below (by have := hb.size; simp; omega) (by intro k h; omega))
        have iD1 : Ints w1 c' 2 gD := iD.below hb1
        clear s0 f0 f1 f2 hS hR hA hB hb t1
        have z1 : wr.heap.size < w1.heap.size := hF1.lt
        have s1 := hS1.cell 1
        have s2 := hF1.cell 1
        simp only [List.getElem?_cons_zero, List.getElem?_cons_succ] at s1 s2
        go_wp2_with fail
        refine (addEach_any 2 _ B _ _ _ (sumD fs k) gD (k * M) M _ hB1 iD1 nD lD (by omega) bD b2 (by omega) (by omega)).mono ?_
        rintro e w2 ⟨rfl, t2, o2⟩
        have hF2 := hF1.touch t2 (by omega)
        have hS2 := hS1.touch t2 (by omega)
        have hR2 := hR1.touch t2 (by omega)
        have o1' := o1.touch t2 (by omega)
        have hb2 : Below w.heap.size w w2 := hb1.trans (t2.below (by have := hb1.size; omega) (by intro k h; omega))
        clear s1 s2 hS1 hR1 hF1 hB1 hb1 t2 o1
        have s1 := hS2.cell 2
        have s2 := hF2.cell 2
        have s3 := hS2.free 2
        simp only [List.getElem?_cons_zero, List.getElem?_cons_succ] at s1 s2
        obtain ⟨bK1, bK2⟩ := bK
        have bK3 : -1000000000000000000 ≤ sk := by omega
        have bK4 : sk ≤ 1000000000000000000 := by omega
        have hS3 := hS2.set 2 (.int .i64 (sk + gK))
        have hR3 := hR2.setOther (B' := S) (by omega) 2 (.int .i64 (sk + gK))
        have hb3 := hb2.setCell (p := ⟨S, 2, none⟩) (by show w.heap.size ≤ S; omega) (.int .i64 (sk + gK))
        have RA : Blk (w2.setCell ⟨S, 2, none⟩ (.int .i64 (sk + gK))) A (sumC fs (k + 1)) := by
          rcases o1' with h0 | ⟨_, h0⟩
          · have := congrArg List.length h0; simp [lC, l1] at this
          · have := h0.setOther (B' := S) hAS 2 (.int .i64 (sk + gK))
            simp only [sumC]; rw [HF'.out]; exact this
        have RB : Blk (w2.setCell ⟨S, 2, none⟩ (.int .i64 (sk + gK))) B (sumD fs (k + 1)) := by
          rcases o2 with h0 | ⟨_, h0⟩
          · have := congrArg List.length h0; simp [lD, l2] at this
          · have := h0.setOther (B' := S) hBS 2 (.int .i64 (sk + gK))
            simp only [sumD]; rw [HF'.out]; exact this
        have RS : Cel (w2.setCell ⟨S, 2, none⟩ (.int .i64 (sk + gK))) S [.slice (some ⟨A, 0, none⟩) 3 3, .slice (some ⟨B, 0, none⟩) 2 2, .int .i64 (sumK fs (k + 1))] 98 := by
          simp only [List.set_cons_succ, List.set_cons_zero] at hS3
          simp only [sumK]; rw [HF'.out, HK'.out]; exact hS3
        clear bK1 bK2 hS3 o1' o2 hS2 hR2 hb2 hF2 bC bD lC lD b1 b2 nC nD lAC iC iD iD1 hF hfit e0 e1 e2
        go_wp2
        go_roundw
        case rel => exact ⟨k + 1, by omega, by go_num, RS, RA, RB, hR3, hb3⟩
        case measure => simp [intOf]; omega
      · obtain rfl : k = N := by omega
        have s0 := hS.cell 0
        have s1 := hS.cell 1
        have s2 := hS.cell 2
        have r0 := hR.cell 0
        have r1 := hR.cell 1
        have r2 := hR.cell 2
        have r3 := hR.free 0
        have r4 := hR.free 1
        have r5 := hR.free 2
        simp only [List.getElem?_cons_zero, List.getElem?_cons_succ] at s0 s1 s2 r0 r1 r2
        go_wp2
        refine bodyPost_ret (v := formV (some ⟨A, 0, none⟩) 3 3 (some ⟨B, 0, none⟩) 2 2 (sumK fs k)) (by simp [results, Tryz.results160, go_sem, r0, r1, r2]) rfl ⟨A, B, rfl, ?_, by omega, hAB, by omega, ?_, ?_⟩
        · exact ((hb.setCell (Nat.le_refl _) _).setCell (Nat.le_refl _) _).setCell (Nat.le_refl _) _
        · exact ((hA.setOther (by omega) _ _).setOther (by omega) _ _).setOther (by omega) _ _
        · exact ((hB.setOther (by omega) _ _).setOther (by omega) _ _).setOther (by omega) _ _

end Go.Proofs.YtdigmokjedckeaaGreatDoor
