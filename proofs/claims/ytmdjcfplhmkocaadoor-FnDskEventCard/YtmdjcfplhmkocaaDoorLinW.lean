/-
  Numbers behind a word, as the specification writes them (l12Line). At most 20 numbers of at most twelve digits; a word of at most 100 letters.
-/
import Derived.Test.YtmdjcfplhmkocaaDoorTxt
namespace Go.Proofs.YtmdjcfplhmkocaaDoor
open Go.RowKit
set_option linter.unusedVariables false
set_option maxRecDepth 100000

set_option maxHeartbeats 1600000 in
theorem sline_any (x : List UInt8) (a : Option Addr) (n cap : Nat) (zs : List Int) (w : World) (h : Ints w a n zs) (hx : x.length ≤ 100) (hn : n ≤ 20) (hz : ∀ i : Nat, -999999999999 ≤ zs[i]?.getD 0 ∧ zs[i]?.getD 0 ≤ 999999999999) :
    Calls Tryd.prog 26 #[.string ⟨x.toArray⟩, .slice a n cap] w fun e w' => e = .returned (.string ⟨(x ++ tailL zs).toArray⟩) ∧ (x ++ tailL zs).length ≤ 100 + 22 * n ∧ Below w.heap.size w w' := by
  have HL : Hid (zs.length = n) := h.1
  have BZ : Hid _ := hz
  clear hz
  go_enter Tryd.func26, Tryd.ntmps26
  go_wp2_with fail
  go_loopw [0, 5] (fun s i wr => ∃ (k : Nat) (L : List UInt8), k ≤ n ∧ i = .int .i64 k ∧ s = .string ⟨L.toArray⟩ ∧ L = x ++ tailL (zs.take k) ∧ L.length ≤ 100 + 22 * k ∧ Below w.heap.size w wr) (fun _ i _ => n - (intOf i).toNat)
  case atStart => exact ⟨0, x, Nat.zero_le _, rfl, rfl, by simp [tail_nil], by omega, Below.refl _ _⟩
  case round =>
    obtain ⟨k, L, hk, rfl, rfl, hL, hlen, hb⟩ := hrel
    have HLL : Hid _ := hL
    clear hL
    have hlen' : L.length ≤ 1000 := by omega
    by_cases hlt : k < n
    · obtain ⟨b, off, rfl, hcell⟩ := (h.below hb).pos (by omega)
      have hck : wr.cell? ⟨b, off + k, none⟩ = some (.int .i64 (zs[k]?.getD 0)) := by rw [hcell k hlt]; simp
      have HT : Hid _ := tail_step (zs := zs) (k := k) (by rw [HL.out]; exact hlt)
      have hz := BZ.out k
      generalize HG : zs[k]?.getD 0 = z at *
      clear HG hcell
      obtain ⟨z1, z2⟩ := hz
      have hI := Lib.itoa_length_le z (by omega) (by omega)
      generalize HGI : Lib.itoa z = I at *
      have HGI' : Hid _ := HGI
      clear HGI
      go_wp2_with fail
      refine (digits_any z _ (by omega) (by omega)).mono ?_
      rintro e w2 ⟨rfl, b2⟩
      rw [HGI'.out]
      go_wp2
      go_roundw
      case rel => exact ⟨k + 1, L ++ [32] ++ I, by omega, by go_num, by rw [show (⟨#[32]⟩ : ByteArray) = ⟨[32].toArray⟩ from rfl, cat_str, cat_str], by rw [HT.out, HLL.out, List.append_assoc, List.append_assoc], by rw [List.length_append, List.length_append, List.length_cons, List.length_nil]; omega, hb.trans (b2.mono hb.size)⟩
      case measure => simp [intOf]; omega
    · have hkn : k = n := by omega
      go_wp2
      go_ret
      have e : L = x ++ tailL zs := by rw [HLL.out, tail_end (by rw [HL.out]; omega)]
      exact ⟨by rw [e]; rfl, by rw [← e]; omega, hb⟩

end Go.Proofs.YtmdjcfplhmkocaaDoor
