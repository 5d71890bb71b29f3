/-
  The text of a result, as the program writes it: the same. Lengths at most 1048576; the library's table of powers of ten is as its text lays it.
-/
import Derived.Test.YtejeffnonddfhaaDoorTwn
namespace Go.Proofs.YtejeffnonddfhaaDoor
open Go.RowKit
set_option linter.unusedVariables false
set_option maxRecDepth 100000

set_option maxHeartbeats 3200000 in
theorem itext_any (c : Int) (a : Option Addr) (n cap : Nat) (zs : List Int) (w : World) (hC : Ints w a n zs) (hn : n ≤ 1048576) (hT : Lib.TabBelow Tryd.prog w.heap.size w "internal/strconv.uint64pow10" .u64 Lib.pow10Tab) :
    Calls Tryd.prog 11 #[resP c a n cap] w fun e w' => e = .returned (.string ⟨(resText c n zs).toArray⟩) ∧ Below w.heap.size w w' := by
  have HL : Hid (zs.length = n) := hC.1
  have HTB : Hid _ := hT
  clear hT
  have B0 := (Below.refl w.heap.size w).alloc (Nat.le_refl _) (.cells #[.int .i64 c, .slice a n cap] 27)
  obtain ⟨i0, hi, hz0, hz1, hz2⟩ := info_parts Tryd.infoStr
  cases h1 : inB c 1 3
  · have HR : Hid _ := resText_no (c := c) (n := n) (zs := zs) (by simp [resOkB, h1])
    have c13 := inB_not.1 h1
    have hw : (⟨(wordL c).toArray⟩ : ByteArray) = ⟨#[]⟩ := by rw [wordL, if_neg (by omega), if_neg (by omega), if_neg (by omega)]
    have HW : Hid _ := hw
    clear hw h1
    go_enter Tryd.func11, Tryd.ntmps11
    go_wp2_with fail
    refine (word_any _ _).mono ?_
    rintro e w1 ⟨rfl, rfl⟩
    rw [HW.out]
    go_wp2
    go_ret
    exact ⟨by rw [HR.out]; rfl, B0⟩
  have c13 := inB_iff.1 h1
  by_cases h2 : c = 1 ∨ n = 0
  · by_cases h3 : n ≤ 6
    · cases h4 : allB 999999999999 zs
      · have HR : Hid _ := resText_no (c := c) (n := n) (zs := zs) (by simp [resOkB, h4])
        rcases h2 with rfl | rfl
        · go_enter Tryd.func11, Tryd.ntmps11
          go_wp2_with fail
          refine (word_any _ _).mono ?_
          rintro e w1 ⟨rfl, rfl⟩
          rw [show (⟨(wordL 1).toArray⟩ : ByteArray) = ⟨#[100, 111, 110, 101]⟩ from rfl]
          go_wp2_with fail
          refine (within_any _ _ _ zs _ _ (hC.below B0) hn (by omega) (by omega)).mono ?_
          rintro e w1 ⟨rfl, rfl⟩
          rw [h4]
          go_wp2
          go_ret
          exact ⟨by rw [HR.out]; rfl, B0⟩
        · exfalso
          have : zs = [] := List.eq_nil_of_length_eq_zero HL.out
          subst this
          cases h4
      · have H4 : Hid (allB 999999999999 zs = true) := h4
        have HR : Hid _ := resText_yes (c := c) (n := n) (zs := zs) (by simp [resOkB, h1, h2, h3, h4])
        have BZ : Hid (∀ i : Nat, -999999999999 ≤ zs[i]?.getD 0 ∧ zs[i]?.getD 0 ≤ 999999999999) := allB_bnd' (by omega) h4
        clear h1 h4
        by_cases e1 : c = 1
        · subst e1
          clear h2
          go_enter Tryd.func11, Tryd.ntmps11
          go_wp2_with fail
          refine (word_any _ _).mono ?_
          rintro e w1 ⟨rfl, rfl⟩
          rw [show (⟨(wordL 1).toArray⟩ : ByteArray) = ⟨#[100, 111, 110, 101]⟩ from rfl]
          go_wp2_with fail
          refine (within_any _ _ _ zs _ _ (hC.below B0) hn (by omega) (by omega)).mono ?_
          rintro e w1 ⟨rfl, rfl⟩
          rw [H4.out]
          obtain ⟨W, hW⟩ : ∃ W, W = w.alloc (.cells #[.int .i64 1, .slice a n cap] 27) := ⟨_, rfl⟩
          have bx : Cel W w.heap.size [.int .i64 1, .slice a n cap] 27 := by rw [hW]; exact Cel.new w _ _
          rw [← hW] at B0 ⊢
          clear hW
          have k1 := bx.cell 1
          simp only [List.getElem?_cons_zero, List.getElem?_cons_succ] at k1
          have hCW := hC.below B0
          clear hC
          go_wp2_with fail
          refine (itwn_any (wordL 1) a n cap zs W hCW (by omega) (by have := word_len 1; omega) BZ.out (fun X hX => HTB.out X (B0.trans (hX.mono B0.size)))).mono ?_
          rintro e w2 ⟨rfl, b2⟩
          have B2 := B0.trans (b2.mono B0.size)
          obtain ⟨Z, hZ⟩ : ∃ Z : ByteArray, Z = ⟨(wordL 1 ++ tailL zs).toArray⟩ := ⟨_, rfl⟩
          have HZ : Hid (Z = ⟨(wordL 1 ++ tailL zs).toArray⟩) := hZ
          rw [← hZ]
          clear hZ k1 bx hCW
          go_wp2
          go_ret
          exact ⟨by rw [HR.out, HZ.out]; rfl, B2⟩
        · have hn0 : n ≤ 0 := by omega
          have hn0' : ((n : Int) == 0) = true := by simp; omega
          clear h2
          by_cases e2 : c = 2
          · subst e2
            go_enter Tryd.func11, Tryd.ntmps11
            go_wp2_with fail
            refine (word_any _ _).mono ?_
            rintro e w1 ⟨rfl, rfl⟩
            rw [show (⟨(wordL 2).toArray⟩ : ByteArray) = ⟨#[115, 116, 111, 112, 112, 101, 100]⟩ from rfl]
            go_wp2_with fail
            refine (within_any _ _ _ zs _ _ (hC.below B0) hn (by omega) (by omega)).mono ?_
            rintro e w1 ⟨rfl, rfl⟩
            rw [H4.out]
            obtain ⟨W, hW⟩ : ∃ W, W = w.alloc (.cells #[.int .i64 2, .slice a n cap] 27) := ⟨_, rfl⟩
            have bx : Cel W w.heap.size [.int .i64 2, .slice a n cap] 27 := by rw [hW]; exact Cel.new w _ _
            rw [← hW] at B0 ⊢
            clear hW
            have k1 := bx.cell 1
            simp only [List.getElem?_cons_zero, List.getElem?_cons_succ] at k1
            have hCW := hC.below B0
            clear hC
            go_wp2_with fail
            refine (itwn_any (wordL 2) a n cap zs W hCW (by omega) (by have := word_len 2; omega) BZ.out (fun X hX => HTB.out X (B0.trans (hX.mono B0.size)))).mono ?_
            rintro e w2 ⟨rfl, b2⟩
            have B2 := B0.trans (b2.mono B0.size)
            obtain ⟨Z, hZ⟩ : ∃ Z : ByteArray, Z = ⟨(wordL 2 ++ tailL zs).toArray⟩ := ⟨_, rfl⟩
            have HZ : Hid (Z = ⟨(wordL 2 ++ tailL zs).toArray⟩) := hZ
            rw [← hZ]
            clear hZ k1 bx hCW
            go_wp2
            go_ret
            exact ⟨by rw [HR.out, HZ.out]; rfl, B2⟩
          · obtain rfl : c = 3 := by omega
            go_enter Tryd.func11, Tryd.ntmps11
            go_wp2_with fail
            refine (word_any _ _).mono ?_
            rintro e w1 ⟨rfl, rfl⟩
            rw [show (⟨(wordL 3).toArray⟩ : ByteArray) = ⟨#[111, 118, 101, 114]⟩ from rfl]
            go_wp2_with fail
            refine (within_any _ _ _ zs _ _ (hC.below B0) hn (by omega) (by omega)).mono ?_
            rintro e w1 ⟨rfl, rfl⟩
            rw [H4.out]
            obtain ⟨W, hW⟩ : ∃ W, W = w.alloc (.cells #[.int .i64 3, .slice a n cap] 27) := ⟨_, rfl⟩
            have bx : Cel W w.heap.size [.int .i64 3, .slice a n cap] 27 := by rw [hW]; exact Cel.new w _ _
            rw [← hW] at B0 ⊢
            clear hW
            have k1 := bx.cell 1
            simp only [List.getElem?_cons_zero, List.getElem?_cons_succ] at k1
            have hCW := hC.below B0
            clear hC
            go_wp2_with fail
            refine (itwn_any (wordL 3) a n cap zs W hCW (by omega) (by have := word_len 3; omega) BZ.out (fun X hX => HTB.out X (B0.trans (hX.mono B0.size)))).mono ?_
            rintro e w2 ⟨rfl, b2⟩
            have B2 := B0.trans (b2.mono B0.size)
            obtain ⟨Z, hZ⟩ : ∃ Z : ByteArray, Z = ⟨(wordL 3 ++ tailL zs).toArray⟩ := ⟨_, rfl⟩
            have HZ : Hid (Z = ⟨(wordL 3 ++ tailL zs).toArray⟩) := hZ
            rw [← hZ]
            clear hZ k1 bx hCW
            go_wp2
            go_ret
            exact ⟨by rw [HR.out, HZ.out]; rfl, B2⟩
    · have HR : Hid _ := resText_no (c := c) (n := n) (zs := zs) (by simp [resOkB, h3])
      obtain rfl : c = 1 := by omega
      go_enter Tryd.func11, Tryd.ntmps11
      go_wp2_with fail
      refine (word_any _ _).mono ?_
      rintro e w1 ⟨rfl, rfl⟩
      rw [show (⟨(wordL 1).toArray⟩ : ByteArray) = ⟨#[100, 111, 110, 101]⟩ from rfl]
      go_wp2
      go_ret
      exact ⟨by rw [HR.out]; rfl, B0⟩
  · have HR : Hid _ := resText_no (c := c) (n := n) (zs := zs) (by simp [resOkB, h2])
    have hn0 : ((n : Int) == 0) = false := by simp; omega
    clear h1
    by_cases e2 : c = 2
    · subst e2
      go_enter Tryd.func11, Tryd.ntmps11
      go_wp2_with fail
      refine (word_any _ _).mono ?_
      rintro e w1 ⟨rfl, rfl⟩
      rw [show (⟨(wordL 2).toArray⟩ : ByteArray) = ⟨#[115, 116, 111, 112, 112, 101, 100]⟩ from rfl]
      go_wp2
      go_ret
      exact ⟨by rw [HR.out]; rfl, B0⟩
    · obtain rfl : c = 3 := by omega
      go_enter Tryd.func11, Tryd.ntmps11
      go_wp2_with fail
      refine (word_any _ _).mono ?_
      rintro e w1 ⟨rfl, rfl⟩
      rw [show (⟨(wordL 3).toArray⟩ : ByteArray) = ⟨#[111, 118, 101, 114]⟩ from rfl]
      go_wp2
      go_ret
      exact ⟨by rw [HR.out]; rfl, B0⟩

end Go.Proofs.YtejeffnonddfhaaDoor
