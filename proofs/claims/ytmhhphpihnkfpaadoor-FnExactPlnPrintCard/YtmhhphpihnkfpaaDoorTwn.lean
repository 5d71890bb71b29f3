/-
  A text with numbers behind it, as the program writes it (impl.textWithNumbers). At most 1000 numbers; the library's table of powers of ten is as its text lays it.
-/
import Derived.Test.YtmhhphpihnkfpaaDoorTxtI
namespace Go.Proofs.YtmhhphpihnkfpaaDoor
open Go.RowKit
set_option linter.unusedVariables false
set_option maxRecDepth 100000

def wordsT (l : List UInt8) (zs : List Int) : List ByteArray := ⟨l.toArray⟩ :: zs.map fun z => ⟨(Lib.itoa z).toArray⟩
theorem wordsT_join (l : List UInt8) (zs : List Int) : Lib.join ((wordsT l zs).map (·.data.toList)) [32] = l ++ tailL zs := by
  rw [wordsT, List.map_cons, Lib.join_cons, tailL, List.map_map]
  rfl
theorem wordsT_step {l : List UInt8} {zs : List Int} {k : Nat} (h : k < zs.length) : wordsT l (zs.take (k + 1)) = wordsT l (zs.take k) ++ [⟨(Lib.itoa (zs[k]?.getD 0)).toArray⟩] := by
  rw [wordsT, wordsT, List.take_succ_eq_append_getElem h, List.getElem?_eq_getElem h, List.map_append]
  rfl
set_option maxHeartbeats 3200000 in
theorem itwn_any (l : List UInt8) (a : Option Addr) (n cap : Nat) (zs : List Int) (w : World) (hC : Ints w a n zs) (hn : n ≤ 1000) (hl : l.length ≤ 1000) (hz : ∀ i : Nat, -999999999999 ≤ zs[i]?.getD 0 ∧ zs[i]?.getD 0 ≤ 999999999999) (hT : Lib.TabBelow Tryd.prog w.heap.size w "internal/strconv.uint64pow10" .u64 Lib.pow10Tab) :
    Calls Tryd.prog 22 #[.string ⟨l.toArray⟩, .slice a n cap] w fun e w' => e = .returned (.string ⟨(l ++ tailL zs).toArray⟩) ∧ Below w.heap.size w w' := by
  have HL : Hid (zs.length = n) := hC.1
  have HTB : Hid _ := hT
  have BZ : Hid (∀ i : Nat, -999999999999 ≤ zs[i]?.getD 0 ∧ zs[i]?.getD 0 ≤ 999999999999) := hz
  have HLL : Hid (l.length ≤ 1000) := hl
  clear hT hz hl
  obtain ⟨i0, hi, hz0, hz1, hz2⟩ := info_parts Tryd.infoStr
  obtain ⟨S, hS⟩ : ∃ S : ByteArray, S = ⟨l.toArray⟩ := ⟨_, rfl⟩
  have HS0 : Hid (S = ⟨l.toArray⟩) := hS
  rw [← hS]
  clear hS
  go_enter Tryd.func22, Tryd.ntmps22
  go_wp2_with fail
  go_loopw [5, 7, 12] (fun v _ i wr => ∃ (k : Nat) (xs : List ByteArray), k ≤ n ∧ i = .int .i64 k ∧ xs.length = k + 1 ∧ xs = wordsT l (zs.take k) ∧ JT w v xs wr) (fun _ _ i _ => n - (intOf i).toNat)
  case atStart => exact ⟨0, _, Nat.zero_le _, rfl, rfl, by rw [HS0.out]; rfl, JT.one w S⟩
  case round =>
    obtain ⟨k, xs, hk, rfl, hxl, hxs, j⟩ := hrel
    have HXL : Hid _ := hxl
    have HXS : Hid _ := hxs
    clear hxl hxs
    have hjb := j.b.size
    by_cases hlt : k < n
    · obtain ⟨b, off, rfl, hcell⟩ := (hC.below j.b).pos (by omega)
      have hck : wr.cell? ⟨b, off + k, none⟩ = some (.int .i64 (zs[k]?.getD 0)) := by rw [hcell k hlt]; simp
      have HS : Hid _ := wordsT_step (l := l) (zs := zs) (k := k) (by rw [HL.out]; exact hlt)
      have hz := BZ.out k
      generalize HG : zs[k]?.getD 0 = z at hck HS hz
      clear HG hcell
      obtain ⟨z1, z2⟩ := hz
      have tab : Lib.TabIs Tryd.prog wr "internal/strconv.uint64pow10" .u64 Lib.pow10Tab := HTB.out wr j.b
      go_wp2_with fail
      refine (Tryd.strconv_Itoa z (by omega) (by omega) _ tab).mono ?_
      rintro e w2 ⟨rfl, q, os, hw2⟩
      have b2 : Below wr.heap.size wr w2 := by rw [hw2]; exact Lib.below_grow _ _ (Nat.le_refl _) _ _
      clear hw2 tab
      have j2 := j.below b2
      have jo := j2.o
      rw [HXL.out] at jo
      have hjb2 := j2.b.size
      clear b2 j
      obtain ⟨I, hI⟩ : ∃ I : ByteArray, I = ⟨(Lib.itoa z).toArray⟩ := ⟨_, rfl⟩
      rw [← hI]
      have HI : Hid _ := hI
      clear hI
      go_wp2_with (at_builtin; go_must (refine wpList_append_lies _ rfl (.tmp 16) (.tmp 19) 27 rfl w.heap.size 9 i0 (.string ⟨#[]⟩) 1 16 Tryd.underlying27 hi hz0 hz1 hz2 rfl (by decide) _ _ _ rfl (jo.alloc _) ⟨w2.heap.size, 0, none⟩ 1 1 [.string I] rfl rfl (newsS _ _ _) (oneS _) (by omega) (by unfold maxLen; omega) (by omega) (by rw [World.size_alloc]; omega) _ rfl ?_); intro g cp w3 hown hgrow hat hlt1)
      have j3 := j2.app HXL.out hown hgrow
      clear hown hgrow jo j2 hat
      go_wp2
      go_roundw
      case rel => exact ⟨k + 1, _, by omega, by go_num, by rw [List.length_append, HXL.out]; rfl, by rw [HS.out, HXS.out, HI.out], j3⟩
      case measure => simp [intOf]; omega
    · obtain rfl : k = n := by omega
      obtain ⟨g, gc, rfl, hcap, hg, hcs⟩ := j.cells HXL.out (by omega)
      have HJ := Tryd.strings_Join g 0 gc xs ⟨#[32]⟩ wr hcs hg (by rw [HXL.out]; omega) (by rw [HXL.out]; exact hcap) (by
        rw [HXS.out, List.take_of_length_le (by rw [HL.out]; exact Nat.le_refl _)]
        have := wordsT_join l zs
        rw [show (⟨#[32]⟩ : ByteArray).data.toList = [32] from rfl, this, List.length_append]
        have := tail_len BZ.out zs.length (Nat.le_refl _)
        rw [List.take_length] at this
        have := HLL.out
        have := HL.out
        omega)
      rw [HXL.out] at HJ
      have jb := j.b
      clear hcs hcap hg j
      go_wp2_with fail
      refine HJ.mono ?_
      rintro e w2 ⟨rfl, b2⟩
      have B2 := jb.trans (b2.mono (by omega))
      go_wp2
      go_ret
      refine ⟨?_, B2⟩
      rw [← wordsT_join l zs, HXS.out, List.take_of_length_le (by rw [HL.out]; exact Nat.le_refl _)]
      rfl

end Go.Proofs.YtmhhphpihnkfpaaDoor
