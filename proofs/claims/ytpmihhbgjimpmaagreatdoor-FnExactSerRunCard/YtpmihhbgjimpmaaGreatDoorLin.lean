/-
  One form and so many times another one; so many times a form; nothing, if what comes is not ok.
-/
import Derived.Test.YtpmihhbgjimpmaaGreatDoorAt
import Derived.BigRegion
import Derived.Deep.RegionHeld3
namespace Go.Proofs.YtpmihhbgjimpmaaGreatDoor
open Go.RowKit
set_option linter.unusedVariables false

/-- Each of one list, and so many times the other's. -/
def lin (xs ys : List Int) (n : Int) : List Int := List.zipWith (fun x y => x + n * y) xs ys
theorem lin_len {xs ys : List Int} {n : Int} {k : Nat} (hx : xs.length = k) (hy : ys.length = k) : (lin xs ys n).length = k := by simp [lin, hx, hy]
theorem lin_get {xs ys : List Int} {n : Int} {k i : Nat} (hx : xs.length = k) (hy : ys.length = k) (hi : i < k) : (lin xs ys n)[i]?.getD 0 = xs[i]?.getD 0 + n * ys[i]?.getD 0 := by
  have h1 : i < xs.length := by omega
  have h2 : i < ys.length := by omega
  have h3 : i < (lin xs ys n).length := by rw [lin_len hx hy]; exact hi
  rw [List.getElem?_eq_getElem h1, List.getElem?_eq_getElem h2, List.getElem?_eq_getElem h3]
  simp [lin]

/-- So many times each lies within a bound. -/
def bndT (P n : Int) (ys : List Int) : Prop := ∀ i : Nat, -P ≤ n * ys[i]?.getD 0 ∧ n * ys[i]?.getD 0 ≤ P
theorem bndT_of {M N n : Int} {ys : List Int} (hy : bnd M ys) (h1 : -N ≤ n) (h2 : n ≤ N) (h0 : 0 ≤ M) (h3 : 0 ≤ N) : bndT (N * M) n ys := by
  intro i
  obtain ⟨b1, b2⟩ := hy i
  generalize ys[i]?.getD 0 = y at *
  have hx' : n.natAbs ≤ N.toNat := by omega
  have hy' : y.natAbs ≤ M.toNat := by omega
  have hm : (n * y).natAbs ≤ N.toNat * M.toNat := by rw [Int.natAbs_mul]; exact Nat.mul_le_mul hx' hy'
  have e : ((N.toNat * M.toNat : Nat) : Int) = N * M := by rw [Int.natCast_mul, Int.toNat_of_nonneg h3, Int.toNat_of_nonneg h0]
  omega

/-- So many times each of a list. -/
def mulL (n : Int) (zs : List Int) : List Int := zs.map fun z => n * z
theorem mulL_get {n : Int} {zs : List Int} {i : Nat} (h : i < zs.length) : (mulL n zs)[i]?.getD 0 = n * zs[i]?.getD 0 := by
  simp [mulL, h]

set_option maxHeartbeats 400000 in
theorem timesEach_any (a : Option Addr) (l cap : Nat) (zs : List Int) (n : Int) (w : World) (h : Ints w a l zs) (hl : l ≤ 1048576) (ht : bndT 1000000000000000000 n zs) :
    Calls Tryz.prog 173 #[.slice a l cap, .int .i64 n] w fun e w' => e = .returned (.slice (some ⟨w.heap.size, 0, none⟩) l l) ∧ Below w.heap.size w w' ∧ Blk w' w.heap.size (mulL n zs) := by
  have HZ : Hid (zs.length = l) := h.1
  have HM : Hid ((mulL n zs).length = l) := by show (mulL n zs).length = l; simp [mulL, h.1]
  obtain ⟨i0, hi, hz0, hz1, hz2⟩ := info_parts Tryz.infoInt
  go_enter Tryz.func173, Tryz.ntmps173
  go_wp2_with (at_make; refine wpList_make_full _ rfl (.tmp 9) (.tmp 9) 24 rfl w.heap.size 3 i0 (.int .i64 0) 1 Tryz.underlying24 hi hz0 hz1 .i64 .i64 _ _ l rfl rfl rfl rfl (by rw [hz2]; omega) (by unfold maxLen; omega) (Nat.le_refl _) ?_; intro w1 hown hgrow)
  have hb1 := Blk.made w l w1 hown
  have HB : Below w.heap.size w w1 := (Below.refl _ _).grown hgrow (Nat.le_refl _) (by simp)
  clear hown hgrow hi hz0 hz1 hz2
  go_loopw [6, 7, 13] (fun _ _ i wr => ∃ k : Nat, k ≤ l ∧ i = .int .i64 k ∧ Below w.heap.size w wr ∧ Blk wr w.heap.size (upTo (mulL n zs) l k)) (fun _ _ i _ => l - (intOf i).toNat)
  case atStart => exact ⟨0, Nat.zero_le _, rfl, HB, by rw [upTo_zero]; exact hb1⟩
  case round =>
    obtain ⟨k, hk, rfl, hnx, hblk⟩ := hrel
    by_cases hlt : k < l
    · obtain ⟨b, off, rfl, hcell⟩ := (h.below hnx).pos (by omega)
      have hck := hcell k hlt
      have hco := hblk.cell k (by rw [upTo_len HM.out hk]; exact hlt)
      have hfo := hblk.free k
      obtain ⟨d1, d2⟩ := ht k
      have R := hblk.set k ((mulL n zs)[k]?.getD 0)
      rw [upTo_succ HM.out hlt, mulL_get (by rw [HZ.out]; exact hlt)] at R
      have R2 := hnx.setCell (p := ⟨w.heap.size, k, none⟩) (Nat.le_refl _) (.int .i64 (n * zs[k]?.getD 0))
      clear hcell hb1 HB h ht hblk hnx
      go_wp2
      go_roundw
      case rel => exact ⟨k + 1, by omega, by go_num, R2, R⟩
      case measure => simp [intOf]; omega
    · go_wp2
      go_ret
      exact ⟨rfl, hnx, by rw [upTo_end HM.out (by omega)] at hblk; exact hblk⟩

end Go.Proofs.YtpmihhbgjimpmaaGreatDoor
