/-
  Lemmas that the claim's last text rests on.
-/
import Derived.Deep.DeepCutAuto
import Derived.Test.YtfmpcihghlnlnaaGreatDoorQB
namespace Go.Proofs.YtfmpcihghlnlnaaGreatDoor
open Go.RowKit
open Option.some renaming injEq → qA
open Addr.mk renaming injEq → qB
open List renaming getElem?_eq_getElem → qC, getElem?_cons_zero → qD, getElem?_cons_succ → qE
open Nat renaming le_refl → qF, zero_le → qG
set_option linter.unusedVariables false
set_option maxRecDepth 100000
set_option maxHeartbeats 25600000
variable {K M : Int} {a c : Option Addr} {cap cap' n : Nat} {xs ys : List Int}
def bnd (M : Int) (zs : List Int) : Prop := ∀ i : Nat, -M <= zs[i]?.getD 0 /\ zs[i]?.getD 0 <= M
def added (xs ys : List Int) (k : Nat) : List Int := (List.zipWith (· + ·) (xs.take k) (ys.take k)) ++ xs.drop k
theorem added_zero (xs ys : List Int) : added xs ys 0 = xs := by simp [added]
theorem added_end (xs ys : List Int) (k : Nat) (h : xs.length <= k) (h' : ys.length <= k) : added xs ys k = List.zipWith (· + ·) xs ys := by
 unfold added;rw [List.take_of_length_le h, List.take_of_length_le h', List.drop_eq_nil_of_le h, List.append_nil]
theorem added_len (xs ys : List Int) (k : Nat) (h : xs.length = ys.length) : (added xs ys k).length = xs.length := by simp [added]; omega
theorem added_get (xs ys : List Int) (k : Nat) (h : xs.length = ys.length) (hk : k < xs.length) : (added xs ys k)[k]?.getD 0 = xs[k]?.getD 0 := by
 unfold added;have hl : (List.zipWith (· + ·) (xs.take k) (ys.take k)).length = k := by simp; omega
 rw [List.getElem?_append_right (by omega), hl, Nat.sub_self, List.getElem?_drop];simp
theorem added_succ (xs ys : List Int) (k : Nat) (h : xs.length = ys.length) (hk : k < xs.length) : (added xs ys k).set k (xs[k]?.getD 0 + ys[k]?.getD 0) = added xs ys (k + 1) := by
 unfold added;have hl : (List.zipWith (· + ·) (xs.take k) (ys.take k)).length = k := by simp; omega
 rw [List.set_append_right _ _ (by omega), hl, Nat.sub_self, List.drop_eq_getElem_cons hk, List.set_cons_zero];rw [List.take_succ_eq_append_getElem hk, List.take_succ_eq_append_getElem (by omega), List.zipWith_append (by simp; omega)];simp only [List.zipWith_cons_cons, List.zipWith_nil_left, List.append_assoc, List.cons_append, List.nil_append];rw [qC hk, qC (by omega)]
 rfl
theorem addEach_any (n : Nat) {cap : Nat} (B : Nat) {a c : Option Addr} {cap' : Nat} (xs ys : List Int) (M M' : Int) {w : World} (h : OwnAt w a B xs) (h' : Ints w c n ys) (hne : ∀ b o, c = some ⟨b, o, none⟩ -> b ≠ B)
  (hz : xs.length = n) (hn : n <= 1048576) (hM : bnd M xs) (hM' : bnd M' ys) (hb : M <= 2000000000000000000 := by omega) (hb' : M' <= 2000000000000000000 := by omega) :
  Calls Tryz.prog 151 #[.slice a n cap, .slice c n cap'] w fun e w' => e = .returned (.tuple #[]) /\ Touch (fun x => x = B /\ 0 < n) w w' /\ OwnAt w' a B (List.zipWith (· + ·) xs ys) := by
 have HX : Hid (xs.length = n) := hz;have HY : Hid (ys.length = n) := h'.1;clear hz
 go_enter Tryz.func151, Tryz.ntmps151
 go_wp2_with fail
 go_loopw [4, 5, 8] (fun _ _ i wr => ∃ j : Nat, j <= n /\ i = .int .i64 j /\ Touch (fun x => x = B /\ 0 < n) w wr /\ OwnAt wr a B (added xs ys j)) (fun _ _ i _ => n - (intOf i).toNat)
 case atStart => exact ⟨0, qG _, rfl, Touch.refl _ _, by rw [added_zero]; exact h⟩
 case round =>
  obtain ⟨j, hj, rfl, ht, ho⟩ := hrel
  by_cases hlt : j < n
  ·rcases ho with ho | ⟨rfl, hbk⟩
   ·have := added_len xs ys j (by rw [HX.out, HY.out]);rw [ho, HX.out] at this;simp at this
    omega
   obtain ⟨b, off, rfl, hcell⟩ := h'.pos (by omega)
   have hck : wr.cell? ⟨b, off + j, none⟩ = some (.int .i64 (ys[j]?.getD 0)) := by
    have h0 := hcell j hlt;have : wr.cell? ⟨b, off + j, none⟩ = w.cell? ⟨b, off + j, none⟩ := World.cell?_of_block (ht.block b (block_lt h0) (fun e => hne b off rfl e.1));rw [this, h0]; simp
   have hco : wr.cell? ⟨B, j, none⟩ = some (.int .i64 (xs[j]?.getD 0)) := by
    have := hbk.cell j (by rw [added_len xs ys j (by rw [HX.out, HY.out]), HX.out]; exact hlt);rw [this];have := added_get xs ys j (by rw [HX.out, HY.out]) (by rw [HX.out]; exact hlt);simp [this]
   have hf := hbk.free j;obtain ⟨m1, m2⟩ := hM j;obtain ⟨m3, m4⟩ := hM' j
   have R : Blk (wr.setCell ⟨B, j, none⟩ (.int .i64 (xs[j]?.getD 0 + ys[j]?.getD 0))) B (added xs ys (j + 1)) := by
    have := hbk.set j (xs[j]?.getD 0 + ys[j]?.getD 0);rwa [added_succ xs ys j (by rw [HX.out, HY.out]) (by rw [HX.out]; exact hlt)] at this
   have R2 : Touch (fun x => x = B /\ 0 < n) w (wr.setCell ⟨B, j, none⟩ (.int .i64 (xs[j]?.getD 0 + ys[j]?.getD 0))) := ht.setCell ⟨rfl, by omega⟩ _;clear h hbk hcell h' hM hM' hne
   go_wp2
   go_roundw
   case rel => exact ⟨j + 1, by omega, by go_num, R2, .inr ⟨rfl, R⟩⟩
   case measure => simp [intOf]; omega
  go_wp2
  go_end0
  obtain rfl : j = n := by omega
  exact ⟨rfl, ht, by rw [added_end xs ys j (by rw [HX.out]; exact qF _) (by rw [HY.out]; exact qF _)] at ho; exact ho⟩
theorem make3 (w : World) : (Instr.makeSlice 23 (.int .i64 3) (.int .i64 3)).run Tryz.prog w = .ok (.slice (some ⟨w.heap.size, 0, none⟩) 3 3) (w.alloc (.cells #[.int .i64 0, .int .i64 0, .int .i64 0] 3)) := by kernel_rfl
theorem make2 (w : World) : (Instr.makeSlice 23 (.int .i64 2) (.int .i64 2)).run Tryz.prog w = .ok (.slice (some ⟨w.heap.size, 0, none⟩) 2 2) (w.alloc (.cells #[.int .i64 0, .int .i64 0] 3)) := by kernel_rfl
theorem Blk.new3 (w : World) : Blk (w.alloc (.cells #[.int .i64 0, .int .i64 0, .int .i64 0] 3)) w.heap.size [0, 0, 0] := heap_alloc_new w _
theorem four0 (w : World) {o0 o1 o2 o3 : Obj} : ((((w.alloc o0).alloc o1).alloc o2).alloc o3).drew.heap[w.heap.size]? = some o0 := by
 show ((((w.heap.push o0).push o1).push o2).push o3)[w.heap.size]? = some o0
 simp only [Array.getElem?_push, Array.size_push]
 repeat (first | rw [if_pos trivial] | rw [if_neg (by omega)])
theorem four1 (w : World) {o0 o1 o2 o3 : Obj} : ((((w.alloc o0).alloc o1).alloc o2).alloc o3).drew.heap[w.heap.size + 1]? = some o1 := by
 show ((((w.heap.push o0).push o1).push o2).push o3)[w.heap.size + 1]? = some o1
 simp only [Array.getElem?_push, Array.size_push]
 repeat (first | rw [if_pos trivial] | rw [if_neg (by omega)])
theorem four2 (w : World) {o0 o1 o2 o3 : Obj} : ((((w.alloc o0).alloc o1).alloc o2).alloc o3).drew.heap[w.heap.size + 1 + 1]? = some o2 := by
 show ((((w.heap.push o0).push o1).push o2).push o3)[w.heap.size + 1 + 1]? = some o2
 simp only [Array.getElem?_push, Array.size_push]
 repeat (first | rw [if_pos trivial] | rw [if_neg (by omega)])
theorem four3 (w : World) {o0 o1 o2 o3 : Obj} : ((((w.alloc o0).alloc o1).alloc o2).alloc o3).drew.heap[w.heap.size + 1 + 1 + 1]? = some o3 := by
 show ((((w.heap.push o0).push o1).push o2).push o3)[w.heap.size + 1 + 1 + 1]? = some o3
 simp only [Array.getElem?_push, Array.size_push]
 repeat (first | rw [if_pos trivial] | rw [if_neg (by omega)])
theorem fourB (w : World) {o0 o1 o2 o3 : Obj} : Below w.heap.size w ((((w.alloc o0).alloc o1).alloc o2).alloc o3).drew :=
 ((((bal).alloc (by simp) _).alloc (by simp; omega) _).alloc (by simp; omega) _).drew
theorem three1 (w : World) {o0 o1 o2 : Obj} : (((w.alloc o0).alloc o1).alloc o2).heap[w.heap.size + 1]? = some o1 := by
 show (((w.heap.push o0).push o1).push o2)[w.heap.size + 1]? = some o1
 simp only [Array.getElem?_push, Array.size_push]
 repeat (first | rw [if_pos trivial] | rw [if_neg (by omega)])
theorem three2 (w : World) {o0 o1 o2 : Obj} : (((w.alloc o0).alloc o1).alloc o2).heap[w.heap.size + 1 + 1]? = some o2 := by
 show (((w.heap.push o0).push o1).push o2)[w.heap.size + 1 + 1]? = some o2
 simp only [Array.getElem?_push, Array.size_push]
 repeat (first | rw [if_pos trivial] | rw [if_neg (by omega)])
theorem szero_any {w : World} :
  Calls Tryz.prog 64 #[] w fun e w' => ∃ B1 B2, e = .returned (formV (some ⟨B1, 0, none⟩) 3 3 (some ⟨B2, 0, none⟩) 2 2 0) /\ Below w.heap.size w w' /\ w.heap.size <= B1 /\ B1 ≠ B2 /\ w.heap.size <= B2 /\ Blk w' B1 [0, 0, 0] /\ Blk w' B2 [0, 0] := by
 go_enter Tryz.func64, Tryz.ntmps64
 go_wp2
 exact bodyPost_ret (v := formV (some ⟨w.heap.size + 1, 0, none⟩) 3 3 (some ⟨w.heap.size + 1 + 1, 0, none⟩) 2 2 0) (by simp [results, Tryz.results64, go_sem]) rfl ⟨_, _, rfl, ((bal).alloc (by simp) _).alloc (by simp; omega) _, by omega, by omega, by omega, three1 w, three2 w⟩
abbrev Frm := List Int × List Int × Int
def sumC (fs : List Frm) : Nat -> List Int
 | 0 => [0, 0, 0]
 | k + 1 => List.zipWith (· + ·) (sumC fs k) (fs[k]?.getD ([], [], 0)).1
def sumD (fs : List Frm) : Nat -> List Int
 | 0 => [0, 0]
 | k + 1 => List.zipWith (· + ·) (sumD fs k) (fs[k]?.getD ([], [], 0)).2.1
def sumK (fs : List Frm) : Nat -> Int
 | 0 => 0
 | k + 1 => sumK fs k + (fs[k]?.getD ([], [], 0)).2.2
def fits (M : Int) (f : Frm) : Prop := f.1.length = 3 /\ f.2.1.length = 2 /\ bnd M f.1 /\ bnd M f.2.1 /\ -M <= f.2.2 /\ f.2.2 <= M
theorem zip_get (xs ys : List Int) (h : xs.length = ys.length) (i : Nat) : (List.zipWith (· + ·) xs ys)[i]?.getD 0 = xs[i]?.getD 0 + ys[i]?.getD 0 := by
 by_cases hi : i < xs.length
 ·have hy : i < ys.length := by omega
  have hz : i < (List.zipWith (· + ·) xs ys).length := by simp; omega
  rw [qC hi, qC hy, qC hz];simp
 have hy : ys.length <= i := by omega
 have hx : xs.length <= i := by omega
 have hz : (List.zipWith (· + ·) xs ys).length <= i := by simp; omega
 rw [List.getElem?_eq_none hx, List.getElem?_eq_none hy, List.getElem?_eq_none hz]
 rfl
theorem bnd_zip {M' : Int} (h : xs.length = ys.length) (hx : bnd M xs) (hy : bnd M' ys) : bnd (M + M') (List.zipWith (· + ·) xs ys) := by
 intro i;rw [zip_get xs ys h];have := hx i;have := hy i
 omega
theorem sumC_len {fs : List Frm} (h : ∀ i, i < fs.length -> fits M (fs[i]?.getD ([], [], 0))) : ∀ k, k <= fs.length -> (sumC fs k).length = 3
 | 0, _ => rfl
 | k + 1, hk => by
  have ih := sumC_len h k (by omega);have := (h k (by omega)).1;simp [sumC, ih, this]
theorem sumD_len {fs : List Frm} (h : ∀ i, i < fs.length -> fits M (fs[i]?.getD ([], [], 0))) : ∀ k, k <= fs.length -> (sumD fs k).length = 2
 | 0, _ => rfl
 | k + 1, hk => by
  have ih := sumD_len h k (by omega);have := (h k (by omega)).2.1;simp [sumD, ih, this]
theorem bnd_zeros (n : Nat) : bnd 0 (List.replicate n 0) := by
 intro i
 by_cases hi : i < n <;> simp [hi]
theorem sumC_bnd {fs : List Frm} (h : ∀ i, i < fs.length -> fits M (fs[i]?.getD ([], [], 0))) : ∀ k : Nat, k <= fs.length -> bnd (k * M) (sumC fs k)
 | 0, _ => by simpa [sumC] using bnd_zeros 3
 | k + 1, hk => by
  have hf := h k (by omega);have ih := sumC_bnd h k (by omega);have := bnd_zip (by rw [sumC_len h k (by omega), hf.1]) ih hf.2.2.1;have e : ((k + 1 : Nat) : Int) * M = k * M + M := by rw [Int.natCast_add, Int.add_mul]; simp
  rw [e]; exact this
theorem sumD_bnd {fs : List Frm} (h : ∀ i, i < fs.length -> fits M (fs[i]?.getD ([], [], 0))) : ∀ k : Nat, k <= fs.length -> bnd (k * M) (sumD fs k)
 | 0, _ => by simpa [sumD] using bnd_zeros 2
 | k + 1, hk => by
  have hf := h k (by omega);have ih := sumD_bnd h k (by omega);have := bnd_zip (by rw [sumD_len h k (by omega), hf.2.1]) ih hf.2.2.2.1;have e : ((k + 1 : Nat) : Int) * M = k * M + M := by rw [Int.natCast_add, Int.add_mul]; simp
  rw [e]; exact this
theorem sumK_bnd {fs : List Frm} (h : ∀ i, i < fs.length -> fits M (fs[i]?.getD ([], [], 0))) : ∀ k : Nat, k <= fs.length -> -(k * M) <= sumK fs k /\ sumK fs k <= k * M
 | 0, _ => by simp [sumK]
 | k + 1, hk => by
  have hf := (h k (by omega)).2.2.2.2;have ih := sumK_bnd h k (by omega);have e : ((k + 1 : Nat) : Int) * M = k * M + M := by rw [Int.natCast_add, Int.add_mul]; simp
  rw [e];simp only [sumK]
  omega
def FormsAt (w : World) (a : Option Addr) (fs : List Frm) : Prop :=
 ∀ i, i < fs.length -> ∃ b off, a = some ⟨b, off, none⟩ /\ ∃ a' c' cap cap', w.cell? ⟨b, off + i * 3, none⟩ = some (.slice a' 3 cap) /\ w.cell? ⟨b, off + i * 3 + 1, none⟩ = some (.slice c' 2 cap') /\ w.cell? ⟨b, off + i * 3 + 2, none⟩ = some (.int .i64 (fs[i]?.getD ([], [], 0)).2.2) /\
  Ints w a' 3 (fs[i]?.getD ([], [], 0)).1 /\ Ints w c' 2 (fs[i]?.getD ([], [], 0)).2.1
theorem sum_any (a : Option Addr) (N cap : Nat) (fs : List Frm) (M : Int) {w : World} (hN : fs.length = N) (hF : FormsAt w a fs) (hfit : ∀ i, i < fs.length -> fits M (fs[i]?.getD ([], [], 0))) (hM0 : 0 <= M := by omega) (hN1 : N <= 1000 := by omega) (hM : M <= 1000000000000000 := by omega) :
  Calls Tryz.prog 165 #[.slice a N cap] w fun e w' => ∃ B1 B2, e = .returned (formV (some ⟨B1, 0, none⟩) 3 3 (some ⟨B2, 0, none⟩) 2 2 (sumK fs N)) /\ Below w.heap.size w w' /\ w.heap.size <= B1 /\ B1 ≠ B2 /\ w.heap.size <= B2 /\ Blk w' B1 (sumC fs N) /\ Blk w' B2 (sumD fs N) := by
 have HN : Hid (fs.length = N) := hN;clear hN;have hm3 := make3;have hm2 := make2
 go_enter Tryz.func165, Tryz.ntmps165
 go_upto_region 1 with fail
 go_cut [2, 3] (fun r s wx => r = .pointer (some ⟨w.heap.size, 0, none⟩) /\ ∃ S A B, s = .pointer (some ⟨S, 0, none⟩) /\ Cel wx S [.slice (some ⟨A, 0, none⟩) 3 3, .slice (some ⟨B, 0, none⟩) 2 2, .int .i64 0] 106 /\ Blk wx A [0, 0, 0] /\ Blk wx B [0, 0] /\ Cel wx w.heap.size [.slice none 0 0, .slice none 0 0, .int .i64 0] 106 /\ Below w.heap.size w wx /\ w.heap.size < A /\ w.heap.size < B /\ w.heap.size < S /\ A ≠ B /\ A ≠ S /\ B ≠ S)
 case first =>
  go_region
  all_goals
   go_wp2_with fail
   go_meet
   case rel =>
    exact ⟨rfl, _, _, _, rfl, (by first | exact four1 w | exact four2 w | exact four3 w), (by first | exact four1 w | exact four2 w | exact four3 w), (by first | exact four1 w | exact four2 w | exact four3 w), four0 w, fourB w, by omega, by omega, by omega, by omega, by omega, by omega⟩
 case rest =>
  obtain ⟨rfl, S, A, B, rfl, hS, hA, hB, hR, hb, hlA, hlB, hlS, hAB, hAS, hBS⟩ := hcut;clear hm3 hm2
  go_wp2_with fail
  go_loopw [5, 11] (fun _ i wr => ∃ k : Nat, k <= N /\ i = .int .i64 k /\ Cel wr S [.slice (some ⟨A, 0, none⟩) 3 3, .slice (some ⟨B, 0, none⟩) 2 2, .int .i64 (sumK fs k)] 106 /\ Blk wr A (sumC fs k) /\ Blk wr B (sumD fs k) /\ Cel wr w.heap.size [.slice none 0 0, .slice none 0 0, .int .i64 0] 106 /\ Below w.heap.size w wr) (fun _ i _ => N - (intOf i).toNat)
  case atStart => exact ⟨0, qG _, rfl, hS, hA, hB, hR, hb⟩
  case round =>
   clear hS hA hB hR hb;obtain ⟨k, hk, rfl, hS, hA, hB, hR, hb⟩ := hrel
   by_cases hlt : k < N
   ·obtain ⟨b, off, rfl, a', c', cp, cp', e0, e1, e2, iC, iD⟩ := hF k (by rw [HN.out]; exact hlt);have hfk := hfit k (by rw [HN.out]; exact hlt);have lC := sumC_len hfit k (by rw [HN.out]; exact hk);have lD := sumD_len hfit k (by rw [HN.out]; exact hk);have bC := sumC_bnd hfit k (by rw [HN.out]; exact hk);have bD := sumD_bnd hfit k (by rw [HN.out]; exact hk);have bK := sumK_bnd hfit k (by rw [HN.out]; exact hk)
    have kM : (k : Int) * M <= 1000000000000000000 := by
     have h1 : (k : Int) * M <= 1000 * M := Int.mul_le_mul_of_nonneg_right (by omega) hM0
     omega
    have f0 : wr.cell? ⟨b, off + k * 3, none⟩ = some (.slice a' 3 cp) := (hb.cell (p := ⟨b, off + k * 3, none⟩) (block_lt e0)).trans e0;have f1 : wr.cell? ⟨b, off + k * 3 + 1, none⟩ = some (.slice c' 2 cp') := (hb.cell (p := ⟨b, off + k * 3 + 1, none⟩) (block_lt e0)).trans e1;have f2 := (hb.cell (p := ⟨b, off + k * 3 + 2, none⟩) (block_lt e0)).trans e2;generalize HK : sumK fs k = sk at *;have HK' : Hid (sumK fs k = sk) := HK;clear HK;generalize HF : (fs[k]?.getD ([], [], 0)) = g at *;have HF' : Hid ((fs[k]?.getD ([], [], 0)) = g) := HF;clear HF;obtain ⟨gC, gD, gK⟩ := g;obtain ⟨l1, l2, b1, b2, b3, b4⟩ := hfk;simp only at l1 l2 b1 b2 b3 b4 f2 iC iD e2;have hbl := block_lt e0;have hSl := hS.lt;have hAl := hA.lt;have hBl := hB.lt;have s0 := hS.cell 0;simp only [qD] at s0
    have nC : ∀ b o, a' = some ⟨b, o, none⟩ -> b ≠ A := fun b o h => by
     obtain ⟨b', o', h', hc⟩ := iC.2 0 (by omega);rw [h] at h';simp only [qA, qB, and_true] at h';have := block_lt hc
     omega
    have nD : ∀ b o, c' = some ⟨b, o, none⟩ -> b ≠ B := fun b o h => by
     obtain ⟨b', o', h', hc⟩ := iD.2 0 (by omega);rw [h] at h';simp only [qA, qB, and_true] at h';have := block_lt hc
     omega
    have lAC : ∀ b o, c' = some ⟨b, o, none⟩ -> b < w.heap.size := fun b o h => by
     obtain ⟨b', o', h', hc⟩ := iD.2 0 (by omega);rw [h] at h';simp only [qA, qB, and_true] at h';have := block_lt hc
     omega
    go_wp2_with fail
    refine (addEach_any 3 A (sumC fs k) gC (k * M) M (.inr ⟨rfl, hA.alloc _⟩) ((iC.below hb).alloc _) nC lC (by omega) bC b1).mono ?_;rintro e w1 ⟨rfl, t1, o1⟩;have hF1 := (Cel.new wr _ _).touch t1 (by omega);have hS1 := (hS.alloc _).touch t1 (by omega);have hR1 := (hR.alloc _).touch t1 (by omega);have hB1 : OwnAt w1 (some ⟨B, 0, none⟩) B (sumD fs k) := OwnAt.touch (.inr ⟨rfl, hB.alloc _⟩) t1 (by omega);have hb1 : Below w.heap.size w w1 := (hb.alloc hb.size _).trans (t1.below (by have := hb.size; simp; omega) (by intro k h; omega));have iD1 : Ints w1 c' 2 gD := iD.below hb1;clear s0 f0 f1 f2 hS hR hA hB hb t1;have z1 : wr.heap.size < w1.heap.size := hF1.lt;have s1 := hS1.cell 1;have s2 := hF1.cell 1;simp only [qD, qE] at s1 s2
    go_wp2_with fail
    refine (addEach_any 2 B (sumD fs k) gD (k * M) M hB1 iD1 nD lD (by omega) bD b2).mono ?_;rintro e w2 ⟨rfl, t2, o2⟩;have hF2 := hF1.touch t2 (by omega);have hS2 := hS1.touch t2 (by omega);have hR2 := hR1.touch t2 (by omega);have o1' := o1.touch t2 (by omega);have hb2 : Below w.heap.size w w2 := hb1.trans (t2.below (by have := hb1.size; omega) (by intro k h; omega));clear s1 s2 hS1 hR1 hF1 hB1 hb1 t2 o1;have s1 := hS2.cell 2;have s2 := hF2.cell 2;have s3 := hS2.free 2;simp only [qD, qE] at s1 s2;obtain ⟨bK1, bK2⟩ := bK;have bK3 : -1000000000000000000 <= sk := by omega
    have bK4 : sk <= 1000000000000000000 := by omega
    have hS3 := hS2.set 2 (.int .i64 (sk + gK));have hR3 := hR2.setOther (B' := S) (by omega) 2 (.int .i64 (sk + gK));have hb3 := hb2.setCell (p := ⟨S, 2, none⟩) (by show w.heap.size <= S; omega) (.int .i64 (sk + gK))
    have RA : Blk (w2.setCell ⟨S, 2, none⟩ (.int .i64 (sk + gK))) A (sumC fs (k + 1)) := by
     rcases o1' with h0 | ⟨_, h0⟩
     ·have := congrArg List.length h0; simp [lC, l1] at this
     have := h0.setOther (B' := S) hAS 2 (.int .i64 (sk + gK));simp only [sumC]; rw [HF'.out]; exact this
    have RB : Blk (w2.setCell ⟨S, 2, none⟩ (.int .i64 (sk + gK))) B (sumD fs (k + 1)) := by
     rcases o2 with h0 | ⟨_, h0⟩
     ·have := congrArg List.length h0; simp [lD, l2] at this
     have := h0.setOther (B' := S) hBS 2 (.int .i64 (sk + gK));simp only [sumD]; rw [HF'.out]; exact this
    have RS : Cel (w2.setCell ⟨S, 2, none⟩ (.int .i64 (sk + gK))) S [.slice (some ⟨A, 0, none⟩) 3 3, .slice (some ⟨B, 0, none⟩) 2 2, .int .i64 (sumK fs (k + 1))] 106 := by
     simp only [List.set_cons_succ, List.set_cons_zero] at hS3;simp only [sumK]; rw [HF'.out, HK'.out]; exact hS3
    clear bK1 bK2 hS3 o1' o2 hS2 hR2 hb2 hF2 bC bD lC lD b1 b2 nC nD lAC iC iD iD1 hF hfit e0 e1 e2
    go_wp2
    go_roundw
    case rel => exact ⟨k + 1, by omega, by go_num, RS, RA, RB, hR3, hb3⟩
    case measure => simp [intOf]; omega
   obtain rfl : k = N := by omega
   have s0 := hS.cell 0;have s1 := hS.cell 1;have s2 := hS.cell 2;have r0 := hR.cell 0;have r1 := hR.cell 1;have r2 := hR.cell 2;have r3 := hR.free 0;have r4 := hR.free 1;have r5 := hR.free 2;simp only [qD, qE] at s0 s1 s2 r0 r1 r2
   go_wp2
   refine bodyPost_ret (v := formV (some ⟨A, 0, none⟩) 3 3 (some ⟨B, 0, none⟩) 2 2 (sumK fs k)) (by simp [results, Tryz.results165, go_sem, r0, r1, r2]) rfl ⟨A, B, rfl, ?_, by omega, hAB, by omega, ?_, ?_⟩
   ·exact ((hb.setCell (qF _) _).setCell (qF _) _).setCell (qF _) _
   ·exact ((hA.so).so).so
   exact ((hB.so).so).so
def dot (xs ys : List Int) : Nat -> Int
 | 0 => 0
 | k + 1 => dot xs ys k + xs[k]?.getD 0 * ys[k]?.getD 0
def bndP (P : Int) (xs ys : List Int) : Prop := ∀ i : Nat, -P <= xs[i]?.getD 0 * ys[i]?.getD 0 /\ xs[i]?.getD 0 * ys[i]?.getD 0 <= P
theorem dot_bnd {P : Int} (h : bndP P xs ys) : ∀ k : Nat, -(k * P) <= dot xs ys k /\ dot xs ys k <= k * P
 | 0 => by simp [dot]
 | k + 1 => by
  have ih := dot_bnd h k;have hk := h k;have e : ((k + 1 : Nat) : Int) * P = k * P + P := by rw [Int.natCast_add, Int.add_mul]; simp
  rw [e];simp only [dot]
  omega
theorem bndP_of {M' : Int} (hx : bnd M xs) (hy : bnd M' ys) (h0 : 0 <= M := by omega) (h1 : 0 <= M' := by omega) : bndP (M * M') xs ys := by
 intro i;obtain ⟨a1, a2⟩ := hx i;obtain ⟨b1, b2⟩ := hy i;generalize xs[i]?.getD 0 = x at *;generalize ys[i]?.getD 0 = y at *;have hx' : x.natAbs <= M.toNat := by omega
 have hy' : y.natAbs <= M'.toNat := by omega
 have hm : (x * y).natAbs <= M.toNat * M'.toNat := by rw [Int.natAbs_mul]; exact Nat.mul_le_mul hx' hy'
 have e : ((M.toNat * M'.toNat : Nat) : Int) = M * M' := by rw [Int.natCast_mul, Int.toNat_of_nonneg h0, Int.toNat_of_nonneg h1]
 omega
theorem allB_bnd {m : Int} {zs : List Int} (hm : 0 <= m) (h : allB m zs = true) : bnd m zs := by
 intro i
 by_cases hi : i < zs.length
 ·unfold allB at h;rw [List.all_eq_true] at h;have := inB_iff.1 (h zs[i] (List.getElem_mem hi));rw [qC hi];simpa using this
 rw [List.getElem?_eq_none (by omega)];simp; omega
theorem okN_elim {c m : Int} {zs : List Int} (hm : 0 <= m) (h : okN c m n zs = true) : (n : Int) = c /\ bnd m zs := by
 simp only [okN, Bool.and_eq_true, decide_eq_true_eq] at h
 exact ⟨h.1, allB_bnd hm h.2⟩
theorem formB_elim {m : Nat} {C D : List Int} (h : formB n m C D K = true) : n = 3 /\ m = 2 /\ bnd 10000000 C /\ bnd 10000000 D /\ -10000000 <= K /\ K <= 10000000 := by
 simp only [formB, Bool.and_eq_true] at h;obtain ⟨⟨h1, h2⟩, h3⟩ := h;have a := okN_elim (by omega) h1;have b := okN_elim (by omega) h2;have c := inB_iff.1 h3
 exact ⟨by omega, by omega, a.2, b.2, c.1, c.2⟩
theorem psum_any (xs ys : List Int) {P : Int} {w : World} (h : Ints w a n xs) (h' : Ints w c n ys) (hn : n <= 1000) (hP : bndP P xs ys) (h0 : 0 <= P := by omega) (hb : P <= 1000000000000 := by omega) :
  Calls Tryz.prog 119 #[.slice a n cap, .slice c n cap'] w fun e w' => e = .returned (.int .i64 (dot xs ys n)) /\ w' = w := by
 go_enter Tryz.func119, Tryz.ntmps119
 go_wp2_with fail
 go_loop [5, 6, 7, 10] (fun s _ _ i => ∃ k : Nat, k <= n /\ i = .int .i64 k /\ s = .int .i64 (dot xs ys k)) (fun _ _ _ i => n - (intOf i).toNat)
 case atStart => exact ⟨0, qG _, rfl, rfl⟩
 case round =>
  obtain ⟨k, hk, rfl, rfl⟩ := hrel
  by_cases hlt : k < n
  ·obtain ⟨b, off, rfl, hcell⟩ := h.pos (by omega);obtain ⟨b', off', rfl, hcell'⟩ := h'.pos (by omega);have hck := hcell k hlt;have hck' := hcell' k hlt;have hlt' : (k : Int) < (n : Int) := by omega
   obtain ⟨p1, p2⟩ := hP k;have d := dot_bnd hP k;have kP : (k : Int) * P <= 1000 * P := Int.mul_le_mul_of_nonneg_right (by omega) h0;have d1 : -1000000000000000 <= dot xs ys k := by omega
   have d2 : dot xs ys k <= 1000000000000000 := by omega
   have d3 : -1000000000000 <= xs[k]?.getD 0 * ys[k]?.getD 0 := by omega
   have d4 : xs[k]?.getD 0 * ys[k]?.getD 0 <= 1000000000000 := by omega
   clear hcell hcell' h h' d kP p1 p2 hP hb h0
   go_wp2
   go_round
   case rel => exact ⟨k + 1, by omega, by go_num, by simp only [dot]⟩
   case measure => simp [intOf]; omega
  go_wp2
  go_ret
  obtain rfl : k = n := by omega
  exact ⟨rfl, rfl⟩
def atV (C D : List Int) (K : Int) (V A : List Int) : Int := dot C V 3 + dot D A 2 + K
theorem iat30_any (a : Option Addr) (cap : Nat) (c : Option Addr) (cap' : Nat) (K : Int) (C D : List Int) (v : Option Addr) (cv : Nat) (u : Option Addr) (cu : Nat) (V A : List Int) (w : World)
  (hC : Ints w a 3 C) (hD : Ints w c 2 D) (hV : Ints w v 3 V) (hA : Ints w u 2 A) (bC : bnd 10000000 C) (bD : bnd 10000000 D) (bK : -10000000 <= K /\ K <= 10000000) (bV : bnd 30000 V) (bA : bnd 9 A) :
  Calls Tryz.prog 148 #[formV a 3 cap c 2 cap' K, .slice v 3 cv, .slice u 2 cu] w fun e w' => e = .returned (.int .i64 (atV C D K V A)) /\ Below w.heap.size w w' := by
 have p1 := bndP_of bC bV;have p2 := bndP_of bD bA;have d1 := dot_bnd p1 3;have d2 := dot_bnd p2 2;obtain ⟨K1, K2⟩ := bK;have q1 : ∀ w' : World, Below w.heap.size w w' -> Calls Tryz.prog 119 #[.slice a 3 cap, .slice v 3 cv] w' fun e w'' => e = .returned (.int .i64 (dot C V 3)) /\ w'' = w' := fun w' hb => psum_any C V (hC.below hb) (hV.below hb) (by omega) p1;have q2 : ∀ w' : World, Below w.heap.size w w' -> Calls Tryz.prog 119 #[.slice c 2 cap', .slice u 2 cu] w' fun e w'' => e = .returned (.int .i64 (dot D A 2)) /\ w'' = w' := fun w' hb => psum_any D A (hD.below hb) (hA.below hb) (by omega) p2;have Q1 : Hid _ := q1;have Q2 : Hid _ := q2;obtain ⟨X, hX⟩ : ∃ X, X = dot C V 3 := ⟨_, rfl⟩
 obtain ⟨Y, hY⟩ : ∃ Y, Y = dot D A 2 := ⟨_, rfl⟩
 have e1 : -1000000000000 <= dot C V 3 := by omega
 have e2 : dot C V 3 <= 1000000000000 := by omega
 have e3 : -1000000000000 <= dot D A 2 := by omega
 have e4 : dot D A 2 <= 1000000000000 := by omega
 clear d1 d2 p1 p2 q1 q2 hX hY X Y hC hD hV hA bC bD bV bA
 go_enter Tryz.func148, Tryz.ntmps148
 go_wp2_with fail
 go_quiet (first | (go_at_call_of 119 (Value.slice a 3 cap); exact Calls.quiet_of_same (Q1.out _ (by repeat (first | exact bal | refine below_drewN ?_ _ | refine Below.drew ?_)))) | (go_at_call_of 119 (Value.slice c 2 cap'); exact Calls.quiet_of_same (Q2.out _ (by repeat (first | exact bal | refine below_drewN ?_ _ | refine Below.drew ?_)))))
 go_wp2
 go_ret
 exact ⟨rfl, below_drewN (bal) _⟩
theorem iat_any (C D : List Int) {v : Option Addr} {cv : Nat} {u : Option Addr} {cu : Nat} (V A : List Int) {w : World}
  (hC : Ints w a 3 C) (hD : Ints w c 2 D) (hV : Ints w v 3 V) (hA : Ints w u 2 A) (bC : bnd 10000000 C) (bD : bnd 10000000 D) (bK : -10000000 <= K /\ K <= 10000000) (bV : bnd 10000 V) (bA : bnd 9 A) :
  Calls Tryz.prog 148 #[formV a 3 cap c 2 cap' K, .slice v 3 cv, .slice u 2 cu] w fun e w' => e = .returned (.int .i64 (atV C D K V A)) /\ Below w.heap.size w w' :=
 iat30_any a cap c cap' K C D v cv u cu V A w hC hD hV hA bC bD bK (fun i => by have := bV i; omega) bA
theorem sat30_any (a : Option Addr) (cap : Nat) (c : Option Addr) (cap' : Nat) (K : Int) (C D : List Int) (v : Option Addr) (cv : Nat) (u : Option Addr) (cu : Nat) (V A : List Int) (w : World)
  (hC : Ints w a 3 C) (hD : Ints w c 2 D) (hV : Ints w v 3 V) (hA : Ints w u 2 A) (bC : bnd 10000000 C) (bD : bnd 10000000 D) (bK : -10000000 <= K /\ K <= 10000000) (bV : bnd 30000 V) (bA : bnd 9 A) :
  Calls Tryz.prog 102 #[formV a 3 cap c 2 cap' K, .slice v 3 cv, .slice u 2 cu] w fun e w' => e = .returned (.int .i64 (atV C D K V A)) /\ Below w.heap.size w w' := by
 have p1 := bndP_of bC bV;have p2 := bndP_of bD bA;obtain ⟨K1, K2⟩ := bK;have P1 : Hid (bndP (10000000 * 30000) C V) := p1;have P2 : Hid (bndP (10000000 * 9) D A) := p2;clear p1 p2 bC bD bV bA
 go_enter Tryz.func102, Tryz.ntmps102
 go_wp2_with fail
 go_loopw [7, 8] (fun s i wr => ∃ k : Nat, k <= 3 /\ i = .int .i64 k /\ s = .int .i64 (K + dot C V k) /\ Below w.heap.size w wr /\ Cel wr w.heap.size [.slice a 3 cap, .slice c 2 cap', .int .i64 K] 106) (fun _ i _ => 3 - (intOf i).toNat)
 case atStart => exact ⟨0, by omega, rfl, by simp [dot], bal, Cel.new w _ _⟩
 case round =>
  obtain ⟨k, hk, rfl, rfl, hb, hS⟩ := hrel
  by_cases hlt : k < 3
  ·obtain ⟨b, off, rfl, hcell⟩ := (hC.below hb).pos (by omega);obtain ⟨b', off', rfl, hcell'⟩ := (hV.below hb).pos (by omega);have hck := hcell k hlt;have hck' := hcell' k hlt;have hlt' : (k : Int) < 3 := by omega
   have s0 := hS.cell 0;simp only [qD] at s0;obtain ⟨d3, d4⟩ := P1.out k;have d := dot_bnd P1.out k;have kP : (k : Int) * (10000000 * 30000) <= 3 * (10000000 * 30000) := Int.mul_le_mul_of_nonneg_right (by omega) (by omega);have d1 : -1000000000000000 <= dot C V k := by omega
   have d2 : dot C V k <= 1000000000000000 := by omega
   clear hcell hcell' hC hD hV hA d kP
   go_wp2_with fail
   go_quiet (fail)
   go_wp2
   go_roundw
   case rel => exact ⟨k + 1, by omega, by go_num, congrArg (Value.int IntKind.i64) (by simp only [dot]; omega), below_drewN hb _, hS⟩
   case measure => simp [intOf]; omega
  obtain rfl : k = 3 := by omega
  have d := dot_bnd P1.out 3;have d1 : -1000000000000000 <= dot C V 3 := by omega
  have d2 : dot C V 3 <= 1000000000000000 := by omega
  clear d hC hV
  go_wp2_with fail
  go_loopw [7, 9] (fun s i wx => ∃ k : Nat, k <= 2 /\ i = .int .i64 k /\ s = .int .i64 (K + dot C V 3 + dot D A k) /\ Below w.heap.size w wx /\ Cel wx w.heap.size [.slice a 3 cap, .slice c 2 cap', .int .i64 K] 106) (fun _ i _ => 2 - (intOf i).toNat)
  case atStart => exact ⟨0, by omega, rfl, by simp [dot], hb, hS⟩
  case round =>
   clear hb hS;obtain ⟨j, hj, rfl, rfl, hb, hS⟩ := hrel
   by_cases hlt : j < 2
   ·obtain ⟨b, off, rfl, hcell⟩ := (hD.below hb).pos (by omega);obtain ⟨b', off', rfl, hcell'⟩ := (hA.below hb).pos (by omega);have hck := hcell j hlt;have hck' := hcell' j hlt;have hlt' : (j : Int) < 2 := by omega
    have s0 := hS.cell 1;simp only [qD, qE] at s0;obtain ⟨d5, d6⟩ := P2.out j;have d := dot_bnd P2.out j;have kP : (j : Int) * (10000000 * 9) <= 2 * (10000000 * 9) := Int.mul_le_mul_of_nonneg_right (by omega) (by omega);have d3 : -1000000000000000 <= dot D A j := by omega
    have d4 : dot D A j <= 1000000000000000 := by omega
    clear hcell hcell' hD hA d kP
    go_wp2_with fail
    go_quiet (fail)
    go_wp2
    go_roundw
    case rel => exact ⟨j + 1, by omega, by go_num, congrArg (Value.int IntKind.i64) (by simp only [dot]; omega), below_drewN hb _, hS⟩
    case measure => simp [intOf]; omega
   obtain rfl : j = 2 := by omega
   go_wp2
   go_ret
   exact ⟨ret_int (by unfold atV; omega), hb⟩
theorem sat_any (C D : List Int) {v : Option Addr} {cv : Nat} {u : Option Addr} {cu : Nat} (V A : List Int) {w : World}
  (hC : Ints w a 3 C) (hD : Ints w c 2 D) (hV : Ints w v 3 V) (hA : Ints w u 2 A) (bC : bnd 10000000 C) (bD : bnd 10000000 D) (bK : -10000000 <= K /\ K <= 10000000) (bV : bnd 10000 V) (bA : bnd 9 A) :
  Calls Tryz.prog 102 #[formV a 3 cap c 2 cap' K, .slice v 3 cv, .slice u 2 cu] w fun e w' => e = .returned (.int .i64 (atV C D K V A)) /\ Below w.heap.size w w' :=
 sat30_any a cap c cap' K C D v cv u cu V A w hC hD hV hA bC bD bK (fun i => by have := bV i; omega) bA
end Go.Proofs.YtfmpcihghlnlnaaGreatDoor
