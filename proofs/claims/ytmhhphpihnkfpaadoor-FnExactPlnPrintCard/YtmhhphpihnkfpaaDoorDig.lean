/-
  A number's digits, as the specification writes them. At most 10^18.
-/
import Derived.Test.YtmhhphpihnkfpaaDoorBase
import Derived.Lib.ItoaNum
import Derived.Lib.ItoaLen
import Derived.Laws.IdiomStrings
namespace Go.Proofs.YtmhhphpihnkfpaaDoor
open Go.RowKit
set_option linter.unusedVariables false

theorem dec_step {k : Nat} (h : ¬ k < 10) : Lib.decDigits k = Lib.decDigits (k / 10) ++ [UInt8.ofNat (48 + k % 10)] := by
  rw [Lib.decDigits, dif_neg h]
theorem dec_one {k : Nat} (h : k < 10) : Lib.decDigits k = [UInt8.ofNat (48 + k)] := by
  rw [Lib.decDigits, dif_pos h]

/-- Two strings together. -/
theorem cat_str (a b : List UInt8) : ((⟨a.toArray⟩ : ByteArray) ++ (⟨b.toArray⟩ : ByteArray)) = ⟨(a ++ b).toArray⟩ := by
  apply ByteArray.ext
  simp
theorem cat_one (x : UInt8) (b : List UInt8) : ((⟨#[x]⟩ : ByteArray) ++ (⟨b.toArray⟩ : ByteArray)) = ⟨(x :: b).toArray⟩ := cat_str [x] b
theorem u8_add (m : Nat) (h : m < 10) : (48 : UInt8) + UInt8.ofNat m = UInt8.ofNat (48 + m) := by
  simp

set_option maxRecDepth 100000 in
set_option maxHeartbeats 800000 in
theorem digits_pos (N : Nat) (w : World) (hN : N ≤ 1000000000000000000) :
    Calls Tryd.prog 16 #[.int .i64 N] w fun e w' => e = .returned (.string ⟨(Lib.decDigits N).toArray⟩) ∧ Below w.heap.size w w' := by
  go_enter Tryd.func16, Tryd.ntmps16
  go_wp2_with fail
  go_loopw [0, 3] (fun n s wr => ∃ (k : Nat) (l : List UInt8), n = .int .i64 k ∧ s = .string ⟨l.toArray⟩ ∧ k + l.length ≤ N ∧ Lib.decDigits N = Lib.decDigits k ++ l ∧ Below w.heap.size w wr) (fun n _ _ => (intOf n).toNat)
  case atStart => exact ⟨N, [], rfl, rfl, Nat.le_refl _, by simp, Below.refl _ _⟩
  case round =>
    obtain ⟨k, l, rfl, rfl, hk, hd, hb⟩ := hrel
    have HD : Hid _ := hd
    clear hd
    have hll : l.length ≤ 1000000000000000000 := by omega
    have hkk : k ≤ 1000000000000000000 := by omega
    by_cases h9 : 9 < k
    · have hcv : (convert 63 9 (.slice (some ⟨wr.heap.size, 0, none⟩) 1 1)).run Tryd.prog (wr.alloc (.cells #[.int .u8 (48 + (k : Int) % 10)] 5)) = .ok (.string ⟨#[UInt8.ofNat (48 + k % 10)]⟩) (wr.alloc (.cells #[.int .u8 (48 + (k : Int) % 10)] 5)) := run_convert_bytes_back (P := Tryd.prog) (wr.alloc (.cells #[.int .u8 (48 + (k : Int) % 10)] 5)) 63 9 5 ⟨wr.heap.size, 0, none⟩ 1 [UInt8.ofNat (48 + k % 10)] Tryd.underlying63 Tryd.underlying5 Tryd.underlying9 (fun j hj => by
        have : j = 0 := by simpa using hj
        subst this
        have hm : 48 + k % 10 < 256 := by omega
        simp [go_sem, Addr.add, Nat.mod_eq_of_lt hm])
      go_wp2
      go_roundw
      case rel => exact ⟨k / 10, UInt8.ofNat (48 + k % 10) :: l, by go_num, by rw [u8_add _ (by omega), cat_one], by rw [List.length_cons]; omega, by rw [HD.out, dec_step (by omega), List.append_assoc]; rfl, hb.alloc hb.size _⟩
      case measure => simp [intOf]; omega
    · have hcv : (convert 63 9 (.slice (some ⟨wr.heap.size, 0, none⟩) 1 1)).run Tryd.prog (wr.alloc (.cells #[.int .u8 (48 + (k : Int))] 5)) = .ok (.string ⟨#[UInt8.ofNat (48 + k)]⟩) (wr.alloc (.cells #[.int .u8 (48 + (k : Int))] 5)) := run_convert_bytes_back (P := Tryd.prog) (wr.alloc (.cells #[.int .u8 (48 + (k : Int))] 5)) 63 9 5 ⟨wr.heap.size, 0, none⟩ 1 [UInt8.ofNat (48 + k)] Tryd.underlying63 Tryd.underlying5 Tryd.underlying9 (fun j hj => by
        have : j = 0 := by simpa using hj
        subst this
        have hm : 48 + k < 256 := by omega
        simp [go_sem, Addr.add, Nat.mod_eq_of_lt hm])
      go_wp2
      go_ret
      exact ⟨by rw [u8_add _ (by omega), cat_one, HD.out, dec_one (by omega)]; rfl, hb.alloc hb.size _⟩

set_option maxRecDepth 100000 in
set_option maxHeartbeats 800000 in
theorem digits_any (n : Int) (w : World) (h0 : -1000000000000000000 ≤ n) (h1 : n ≤ 1000000000000000000) :
    Calls Tryd.prog 16 #[.int .i64 n] w fun e w' => e = .returned (.string ⟨(Lib.itoa n).toArray⟩) ∧ Below w.heap.size w w' := by
  by_cases hn : n < 0
  · have e : Lib.itoa n = 45 :: Lib.decDigits n.natAbs := by rw [Lib.itoa, if_pos hn]
    have hl : (Lib.decDigits n.natAbs).length ≤ 21 := by
      have := Lib.itoa_length_le n (by omega) (by omega)
      rw [e, List.length_cons] at this
      omega
    have HE : Hid _ := e
    clear e
    go_enter Tryd.func16, Tryd.ntmps16
    go_wp2_with fail
    refine (show Calls Tryd.prog 16 #[.int .i64 (-n)] w _ from (by have := digits_pos n.natAbs w (by omega); rw [show ((n.natAbs : Nat) : Int) = -n by omega] at this; exact this)).mono ?_
    rintro e w1 ⟨rfl, b1⟩
    go_wp2
    go_ret
    exact ⟨by rw [HE.out]; exact congrArg (fun x => Ending.returned (.string x)) (cat_one _ _), b1⟩
  · have e : Lib.itoa n = Lib.decDigits n.toNat := by rw [Lib.itoa, if_neg hn]
    rw [e]
    have := digits_pos n.toNat w (by omega)
    rwa [show ((n.toNat : Nat) : Int) = n by omega] at this

end Go.Proofs.YtmhhphpihnkfpaaDoor
