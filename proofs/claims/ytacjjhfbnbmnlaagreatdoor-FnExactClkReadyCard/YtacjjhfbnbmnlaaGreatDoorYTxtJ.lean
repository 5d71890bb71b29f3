/-
  The text of a result, as the program writes it: the same. Lengths at most 1048576; the library's table of powers of ten is as its text lays it.
-/
import Derived.Test.YtacjjhfbnbmnlaaGreatDoorYTxtI
namespace Go.Proofs.YtacjjhfbnbmnlaaGreatDoor
open Go.RowKit
set_option linter.unusedVariables false
set_option maxRecDepth 100000

set_option maxHeartbeats 3200000 in
theorem itext_any (c : Int) (a : Option Addr) (n cap : Nat) (zs : List Int) (w : World) (hC : Ints w a n zs) (hn : n ≤ 1048576) (hT : Lib.TabBelow Tryz.prog w.heap.size w "internal/strconv.uint64pow10" .u64 Lib.pow10Tab) :
    Calls Tryz.prog 191 #[resP c a n cap] w fun e w' => e = .returned (.string ⟨(resText c n zs).toArray⟩) ∧ Below w.heap.size w w' := by
  have HL : Hid (zs.length = n) := hC.1
  have HTB : Hid _ := hT
  clear hT
  have B0 := (Below.refl w.heap.size w).alloc (Nat.le_refl _) (.cells #[.int .i64 c, .slice a n cap] 98)
  obtain ⟨i0, hi, hz0, hz1, hz2⟩ := info_parts Tryz.infoStr
  cases h1 : inB c 1 3
  · have HR : Hid _ := resText_no (c := c) (n := n) (zs := zs) (by simp [resOkB, h1])
    have c13 := inB_not.1 h1
    have hw : (⟨(wordL c).toArray⟩ : ByteArray) = ⟨#[]⟩ := by rw [wordL, if_neg (by omega), if_neg (by omega), if_neg (by omega)]
    have HW : Hid _ := hw
    clear hw h1
    go_enter Tryz.func191, Tryz.ntmps191
    go_wp2_with fail
    refine (word_any _ _).mono ?_
    rintro e w1 ⟨rfl, rfl⟩
    rw [HW.out]
    go_wp2
    go_ret
    exact ⟨by rw [HR.out]; rfl, B0⟩
  have c13 := inB_iff.1 h1
  by_cases h2 : c = 1 ∨ n = 0
  · by_cases h3 : n ≤ 6
    · cases h4 : allB 999999999999 zs
      · have HR : Hid _ := resText_no (c := c) (n := n) (zs := zs) (by simp [resOkB, h4])
        rcases h2 with rfl | rfl
        · go_enter Tryz.func191, Tryz.ntmps191
          go_wp2_with fail
          refine (word_any _ _).mono ?_
          rintro e w1 ⟨rfl, rfl⟩
          rw [show (⟨(wordL 1).toArray⟩ : ByteArray) = ⟨#[100, 111, 110, 101]⟩ from rfl]
          go_wp2_with fail
          refine (within_any _ _ _ zs _ _ (hC.below B0) hn (by omega) (by omega)).mono ?_
          rintro e w1 ⟨rfl, rfl⟩
          rw [h4]
          go_wp2
          go_ret
          exact ⟨by rw [HR.out]; rfl, B0⟩
        · exfalso
          have : zs = [] := List.eq_nil_of_length_eq_zero HL.out
          subst this
          cases h4
      · have H4 : Hid (allB 999999999999 zs = true) := h4
        have HR : Hid _ := resText_yes (c := c) (n := n) (zs := zs) (by simp [resOkB, h1, h2, h3, h4])
        have BZ : Hid (∀ i : Nat, -999999999999 ≤ zs[i]?.getD 0 ∧ zs[i]?.getD 0 ≤ 999999999999) := allB_bnd' (by omega) h4
        clear h1 h4
        by_cases e1 : c = 1
        · subst e1
          clear h2
          go_enter Tryz.func191, Tryz.ntmps191
          go_wp2_with fail
          refine (word_any _ _).mono ?_
          rintro e w1 ⟨rfl, rfl⟩
          rw [show (⟨(wordL 1).toArray⟩ : ByteArray) = ⟨#[100, 111, 110, 101]⟩ from rfl]
          go_wp2_with fail
          refine (within_any _ _ _ zs _ _ (hC.below B0) hn (by omega) (by omega)).mono ?_
          rintro e w1 ⟨rfl, rfl⟩
          rw [H4.out]
          obtain ⟨W, hW⟩ : ∃ W, W = w.alloc (.cells #[.int .i64 1, .slice a n cap] 98) := ⟨_, rfl⟩
          have bx : Cel W w.heap.size [.int .i64 1, .slice a n cap] 98 := by rw [hW]; exact Cel.new w _ _
          have zW : W.heap.size = w.heap.size + 1 := by rw [hW, World.size_alloc]
          have HZ : Hid _ := zW
          rw [← hW] at B0 ⊢
          clear hW zW
          have hltW := bx.lt
          have k1 := bx.cell 1
          simp only [List.getElem?_cons_zero, List.getElem?_cons_succ] at k1
          have hCW := hC.below B0
          clear hC
          go_wp2_with fail
          go_loopw [5, 7, 43] (fun v _ i wr => ∃ (k : Nat) (xs : List ByteArray), k ≤ n ∧ i = .int .i64 k ∧ xs.length = k + 1 ∧ xs = wordsL 1 (zs.take k) ∧ JT W v xs wr) (fun _ _ i _ => n - (intOf i).toNat)
          case atStart => exact ⟨0, _, Nat.zero_le _, rfl, rfl, rfl, JT.one W ⟨#[100, 111, 110, 101]⟩⟩
          case round =>
            obtain ⟨k, xs, hk, rfl, hxl, hxs, j⟩ := hrel
            have HXL : Hid _ := hxl
            have HXS : Hid _ := hxs
            clear hxl hxs
            have hjb := j.b.size
            by_cases hlt : k < n
            · obtain ⟨b, off, rfl, hcell⟩ := (hCW.below j.b).pos (by omega)
              have hck : wr.cell? ⟨b, off + k, none⟩ = some (.int .i64 (zs[k]?.getD 0)) := by rw [hcell k hlt]; simp
              have HS : Hid _ := words_step (c := 1) (zs := zs) (k := k) (by rw [HL.out]; exact hlt)
              have hz := BZ.out k
              generalize HG : zs[k]?.getD 0 = z at *
              clear HG hcell
              obtain ⟨z1, z2⟩ := hz
              have tab : Lib.TabIs Tryz.prog wr "internal/strconv.uint64pow10" .u64 Lib.pow10Tab := HTB.out wr (B0.trans (j.b.mono B0.size))
              go_wp2_with fail
              refine (Tryz.strconv_Itoa z (by omega) (by omega) _ tab).mono ?_
              rintro e w2 ⟨rfl, q, os, hw2⟩
              have b2 : Below wr.heap.size wr w2 := by rw [hw2]; exact Lib.below_grow _ _ (Nat.le_refl _) _ _
              clear hw2 tab
              have j2 := j.below b2
              have jo := j2.o
              rw [HXL.out] at jo
              have hjb2 := j2.b.size
              clear b2 j
              obtain ⟨I, hI⟩ : ∃ I : ByteArray, I = ⟨(Lib.itoa z).toArray⟩ := ⟨_, rfl⟩
              rw [← hI]
              have HI : Hid _ := hI
              clear hI
              go_wp2_with (at_builtin; go_must (refine wpList_append_lies _ rfl (.tmp 47) (.tmp 50) 250 rfl W.heap.size 9 i0 (.string ⟨#[]⟩) 1 16 Tryz.underlying250 hi hz0 hz1 hz2 rfl (by decide) _ _ _ rfl (jo.alloc _) ⟨w2.heap.size, 0, none⟩ 1 1 [.string I] rfl rfl (newsS _ _ _) (oneS _) (by omega) (by unfold maxLen; omega) (by omega) (by rw [World.size_alloc]; omega) _ rfl ?_); intro g cp w3 hown hgrow hat hlt1)
              have j3 := j2.app HXL.out hown hgrow
              clear hown hgrow jo j2 hat
              go_wp2
              go_roundw
              case rel => exact ⟨k + 1, _, by omega, by go_num, by rw [List.length_append, HXL.out]; rfl, by rw [HS.out, HXS.out, HI.out], j3⟩
              case measure => simp [intOf]; omega
            · obtain rfl : k = n := by omega
              obtain ⟨g, gc, rfl, hcap, hg, hcs⟩ := j.cells HXL.out (by omega)
              have HJ := Tryz.strings_Join g 0 gc xs ⟨#[32]⟩ wr hcs hg (by rw [HXL.out]; omega) (by rw [HXL.out]; exact hcap) (by
                rw [HXS.out, List.take_of_length_le (by rw [HL.out]; exact Nat.le_refl _)]
                have := words_join 1 zs
                rw [show (⟨#[32]⟩ : ByteArray).data.toList = [32] from rfl, this, List.length_append]
                have := tail_len BZ.out zs.length (Nat.le_refl _)
                rw [List.take_length] at this
                have := word_len 1
                have := HL.out
                omega)
              rw [HXL.out] at HJ
              have jb := j.b
              clear hcs hcap hg j
              go_wp2_with fail
              refine HJ.mono ?_
              rintro e w2 ⟨rfl, b2⟩
              have B2 := (B0.trans (jb.mono B0.size)).trans (b2.mono (by omega))
              go_wp2
              go_ret
              refine ⟨?_, B2⟩
              rw [HR.out, ← words_join 1 zs, HXS.out, List.take_of_length_le (by rw [HL.out]; exact Nat.le_refl _)]
              rfl
        · have hn0 : n ≤ 0 := by omega
          have hn0' : ((n : Int) == 0) = true := by simp; omega
          clear h2
          by_cases e2 : c = 2
          · subst e2
            go_enter Tryz.func191, Tryz.ntmps191
            go_wp2_with fail
            refine (word_any _ _).mono ?_
            rintro e w1 ⟨rfl, rfl⟩
            rw [show (⟨(wordL 2).toArray⟩ : ByteArray) = ⟨#[115, 116, 111, 112, 112, 101, 100]⟩ from rfl]
            go_wp2_with fail
            refine (within_any _ _ _ zs _ _ (hC.below B0) hn (by omega) (by omega)).mono ?_
            rintro e w1 ⟨rfl, rfl⟩
            rw [H4.out]
            obtain ⟨W, hW⟩ : ∃ W, W = w.alloc (.cells #[.int .i64 2, .slice a n cap] 98) := ⟨_, rfl⟩
            have bx : Cel W w.heap.size [.int .i64 2, .slice a n cap] 98 := by rw [hW]; exact Cel.new w _ _
            have zW : W.heap.size = w.heap.size + 1 := by rw [hW, World.size_alloc]
            have HZ : Hid _ := zW
            rw [← hW] at B0 ⊢
            clear hW zW
            have hltW := bx.lt
            have k1 := bx.cell 1
            simp only [List.getElem?_cons_zero, List.getElem?_cons_succ] at k1
            have hCW := hC.below B0
            clear hC
            go_wp2_with fail
            go_loopw [5, 7, 43] (fun v _ i wr => ∃ (k : Nat) (xs : List ByteArray), k ≤ n ∧ i = .int .i64 k ∧ xs.length = k + 1 ∧ xs = wordsL 2 (zs.take k) ∧ JT W v xs wr) (fun _ _ i _ => n - (intOf i).toNat)
            case atStart => exact ⟨0, _, Nat.zero_le _, rfl, rfl, rfl, JT.one W ⟨#[115, 116, 111, 112, 112, 101, 100]⟩⟩
            case round =>
              obtain ⟨k, xs, hk, rfl, hxl, hxs, j⟩ := hrel
              have HXL : Hid _ := hxl
              have HXS : Hid _ := hxs
              clear hxl hxs
              have hjb := j.b.size
              by_cases hlt : k < n
              · exfalso; omega
              · obtain rfl : k = n := by omega
                obtain ⟨g, gc, rfl, hcap, hg, hcs⟩ := j.cells HXL.out (by omega)
                have HJ := Tryz.strings_Join g 0 gc xs ⟨#[32]⟩ wr hcs hg (by rw [HXL.out]; omega) (by rw [HXL.out]; exact hcap) (by
                  rw [HXS.out, List.take_of_length_le (by rw [HL.out]; exact Nat.le_refl _)]
                  have := words_join 2 zs
                  rw [show (⟨#[32]⟩ : ByteArray).data.toList = [32] from rfl, this, List.length_append]
                  have := tail_len BZ.out zs.length (Nat.le_refl _)
                  rw [List.take_length] at this
                  have := word_len 2
                  have := HL.out
                  omega)
                rw [HXL.out] at HJ
                have jb := j.b
                clear hcs hcap hg j
                go_wp2_with fail
                refine HJ.mono ?_
                rintro e w2 ⟨rfl, b2⟩
                have B2 := (B0.trans (jb.mono B0.size)).trans (b2.mono (by omega))
                go_wp2
                go_ret
                refine ⟨?_, B2⟩
                rw [HR.out, ← words_join 2 zs, HXS.out, List.take_of_length_le (by rw [HL.out]; exact Nat.le_refl _)]
                rfl
          · obtain rfl : c = 3 := by omega
            go_enter Tryz.func191, Tryz.ntmps191
            go_wp2_with fail
            refine (word_any _ _).mono ?_
            rintro e w1 ⟨rfl, rfl⟩
            rw [show (⟨(wordL 3).toArray⟩ : ByteArray) = ⟨#[111, 118, 101, 114]⟩ from rfl]
            go_wp2_with fail
            refine (within_any _ _ _ zs _ _ (hC.below B0) hn (by omega) (by omega)).mono ?_
            rintro e w1 ⟨rfl, rfl⟩
            rw [H4.out]
            obtain ⟨W, hW⟩ : ∃ W, W = w.alloc (.cells #[.int .i64 3, .slice a n cap] 98) := ⟨_, rfl⟩
            have bx : Cel W w.heap.size [.int .i64 3, .slice a n cap] 98 := by rw [hW]; exact Cel.new w _ _
            have zW : W.heap.size = w.heap.size + 1 := by rw [hW, World.size_alloc]
            have HZ : Hid _ := zW
            rw [← hW] at B0 ⊢
            clear hW zW
            have hltW := bx.lt
            have k1 := bx.cell 1
            simp only [List.getElem?_cons_zero, List.getElem?_cons_succ] at k1
            have hCW := hC.below B0
            clear hC
            go_wp2_with fail
            go_loopw [5, 7, 43] (fun v _ i wr => ∃ (k : Nat) (xs : List ByteArray), k ≤ n ∧ i = .int .i64 k ∧ xs.length = k + 1 ∧ xs = wordsL 3 (zs.take k) ∧ JT W v xs wr) (fun _ _ i _ => n - (intOf i).toNat)
            case atStart => exact ⟨0, _, Nat.zero_le _, rfl, rfl, rfl, JT.one W ⟨#[111, 118, 101, 114]⟩⟩
            case round =>
              obtain ⟨k, xs, hk, rfl, hxl, hxs, j⟩ := hrel
              have HXL : Hid _ := hxl
              have HXS : Hid _ := hxs
              clear hxl hxs
              have hjb := j.b.size
              by_cases hlt : k < n
              · exfalso; omega
              · obtain rfl : k = n := by omega
                obtain ⟨g, gc, rfl, hcap, hg, hcs⟩ := j.cells HXL.out (by omega)
                have HJ := Tryz.strings_Join g 0 gc xs ⟨#[32]⟩ wr hcs hg (by rw [HXL.out]; omega) (by rw [HXL.out]; exact hcap) (by
                  rw [HXS.out, List.take_of_length_le (by rw [HL.out]; exact Nat.le_refl _)]
                  have := words_join 3 zs
                  rw [show (⟨#[32]⟩ : ByteArray).data.toList = [32] from rfl, this, List.length_append]
                  have := tail_len BZ.out zs.length (Nat.le_refl _)
                  rw [List.take_length] at this
                  have := word_len 3
                  have := HL.out
                  omega)
                rw [HXL.out] at HJ
                have jb := j.b
                clear hcs hcap hg j
                go_wp2_with fail
                refine HJ.mono ?_
                rintro e w2 ⟨rfl, b2⟩
                have B2 := (B0.trans (jb.mono B0.size)).trans (b2.mono (by omega))
                go_wp2
                go_ret
                refine ⟨?_, B2⟩
                rw [HR.out, ← words_join 3 zs, HXS.out, List.take_of_length_le (by rw [HL.out]; exact Nat.le_refl _)]
                rfl
    · have HR : Hid _ := resText_no (c := c) (n := n) (zs := zs) (by simp [resOkB, h3])
      obtain rfl : c = 1 := by omega
      go_enter Tryz.func191, Tryz.ntmps191
      go_wp2_with fail
      refine (word_any _ _).mono ?_
      rintro e w1 ⟨rfl, rfl⟩
      rw [show (⟨(wordL 1).toArray⟩ : ByteArray) = ⟨#[100, 111, 110, 101]⟩ from rfl]
      go_wp2
      go_ret
      exact ⟨by rw [HR.out]; rfl, B0⟩
  · have HR : Hid _ := resText_no (c := c) (n := n) (zs := zs) (by simp [resOkB, h2])
    have hn0 : ((n : Int) == 0) = false := by simp; omega
    clear h1
    by_cases e2 : c = 2
    · subst e2
      go_enter Tryz.func191, Tryz.ntmps191
      go_wp2_with fail
      refine (word_any _ _).mono ?_
      rintro e w1 ⟨rfl, rfl⟩
      rw [show (⟨(wordL 2).toArray⟩ : ByteArray) = ⟨#[115, 116, 111, 112, 112, 101, 100]⟩ from rfl]
      go_wp2
      go_ret
      exact ⟨by rw [HR.out]; rfl, B0⟩
    · obtain rfl : c = 3 := by omega
      go_enter Tryz.func191, Tryz.ntmps191
      go_wp2_with fail
      refine (word_any _ _).mono ?_
      rintro e w1 ⟨rfl, rfl⟩
      rw [show (⟨(wordL 3).toArray⟩ : ByteArray) = ⟨#[111, 118, 101, 114]⟩ from rfl]
      go_wp2
      go_ret
      exact ⟨by rw [HR.out]; rfl, B0⟩

end Go.Proofs.YtacjjhfbnbmnlaaGreatDoor
