/-
  A form, as the program reads it. The library's strconv.Atoi, strings.Split and strings.Cut are taken by what they answer (ReadsN, Splits, Cuts); its table of powers of ten is as its text lays it.
-/
import Derived.Test.YtfkcfjkojfnfnaaDoorRfT
import Derived.Test.YtfkcfjkojfnfnaaDoorFrmTextI
namespace Go.Proofs.YtfkcfjkojfnfnaaDoor
open Go.RowKit
set_option linter.unusedVariables false
set_option maxRecDepth 100000

/-- What a text is read as, of whatever length. -/
def rfF (l : List UInt8) : FR × Bool := if l.length ≤ 120 then rfI l else noF
theorem rfF_no {l : List UInt8} (h : goR l = none) : rfF l = noF := by
  rw [rfF]
  split
  · rw [rfI, h]
  · rfl
theorem rfF_yes {l : List UInt8} {C D : List Int} {K : Int} (hl : l.length ≤ 120) (h : goR l = some (C, D, K)) (h3 : C.length = 3) (h2 : D.length = 2) : rfF l = if formText 3 2 C D K = l then ((C, D, K), true) else noF := by
  rw [rfF, if_pos hl, rfI, h]
  show (if formText C.length D.length C D K = l then _ else _) = _
  rw [h3, h2]

set_option maxHeartbeats 6400000 in
theorem ifread_any (l : List UInt8) (w : World) (hl : l.length ≤ 1048576) (hA : ReadsN w) (hSp : Splits w) (hC : Cuts w) (hT : Lib.TabBelow Tryd.prog w.heap.size w "internal/strconv.uint64pow10" .u64 Lib.pow10Tab) :
    Calls Tryd.prog 10 #[.string ⟨l.toArray⟩] w fun e w' =>
      (∃ C D K B1 B2, rfF l = ((C, D, K), true) ∧ e = .returned (.tuple #[formV (some ⟨B1, 0, none⟩) 3 3 (some ⟨B2, 0, none⟩) 2 2 K, .bool true]) ∧ C.length = 3 ∧ D.length = 2 ∧ Below w.heap.size w w' ∧ w.heap.size ≤ B1 ∧ B1 ≠ B2 ∧ w.heap.size ≤ B2 ∧ Blk w' B1 C ∧ Blk w' B2 D) ∨
      (rfF l = noF ∧ e = .returned (.tuple #[formV none 0 0 none 0 0 0, .bool false]) ∧ Below w.heap.size w w') := by
  have HA : Hid _ := hA
  have HP : Hid _ := hSp
  have HC : Hid _ := hC
  have HT : Hid _ := hT
  clear hA hSp hT hC
  have bx := Cel.new w [.slice none 0 0, .slice none 0 0, .int .i64 0] 25
  have B0 := (Below.refl w.heap.size w).alloc (Nat.le_refl _) (.cells #[.slice none 0 0, .slice none 0 0, .int .i64 0] 25)
  by_cases h120 : l.length ≤ 120
  · have hi : ¬ (120 : Int) < (l.length : Int) := by omega
    obtain ⟨ws, last, hws, hd, hlst⟩ : ∃ ws last, wordsOf l = ws ++ [last] ∧ (wordsOf l).dropLast = ws ∧ (wordsOf l).getLastD [] = last := by
      have hne := words_ne l
      refine ⟨(wordsOf l).dropLast, (wordsOf l).getLastD [], ?_, rfl, rfl⟩
      rw [List.getLastD_eq_getLast?, List.getLast?_eq_some_getLast hne, Option.getD_some, List.dropLast_concat_getLast]
    have HG : Hid (goR l = goW ws last) := by show _ = _; rw [goR, hd, hlst]; rfl
    have HWS : Hid _ := hws
    obtain ⟨n, hn⟩ : ∃ n, ws.length = n := ⟨_, rfl⟩
    have HN : Hid _ := hn
    have hlen : (wordsOf l).length = n + 1 := by rw [hws, List.length_append, hn]; rfl
    have HLEN : Hid _ := hlen
    have hn121 : n ≤ 121 := by have := wordsF_len l []; rw [show wordsF [] l = wordsOf l from rfl, hlen] at this; omega
    have HS : Hid (∀ x ∈ ws ++ [last], x.length ≤ 120) := fun x hx => by
      have := wordsF_short l [] x (by rw [show wordsF [] l = wordsOf l from rfl, hws]; exact hx)
      simp at this
      omega
    clear hws hn hlen hd hlst
    go_enter Tryd.func10, Tryd.ntmps10
    go_wp2_with fail
    refine (HP.out _ B0 l h120).mono ?_
    rintro e w1 ⟨rfl, hg, hcs, b1⟩
    rw [HLEN.out]
    have bx1 := bx.below b1
    have B1 := B0.trans (b1.mono B0.size)
    rw [World.size_alloc] at hg hcs ⊢
    have lt1 := bx1.lt
    have HCS : Hid (∀ (i : Nat) (x : List UInt8), (ws ++ [last])[i]? = some x → w1.cell? ⟨w.heap.size + 1, i, none⟩ = some (.string ⟨x.toArray⟩)) := fun i x hx => hcs i x (by rw [HWS.out]; exact hx)
    clear hcs bx b1
    go_wp2_with fail
    refine (iform_any ws last _ n _ _ HN.out hn121 (Nat.le_refl _) hg HCS.out HS.out (ReadsN.below HA.out B1) (Cuts.below HC.out B1)).mono ?_
    rintro e w2 hcase
    rcases hcase with ⟨C, D, K, A1, A2, hgo, rfl, l1, l2, b2, o1, o12, o2, k1, k2⟩ | ⟨hgo, rfl, b2⟩
    · have B2 := B1.trans (b2.mono B1.size)
      have bx2 := bx1.below b2
      have HR : Hid _ := rfF_yes h120 (HG.out.trans hgo) l1 l2
      have HL : Hid (C.length = 3 ∧ D.length = 2) := ⟨l1, l2⟩
      have HO : Hid (w1.heap.size ≤ A1 ∧ A1 ≠ A2 ∧ w1.heap.size ≤ A2) := ⟨o1, o12, o2⟩
      have r0 := bx2.cell 0
      have r1 := bx2.cell 1
      have r2 := bx2.cell 2
      have lt2 := bx2.lt
      simp only [List.getElem?_cons_zero, List.getElem?_cons_succ] at r0 r1 r2
      clear hgo l1 l2 b2 o1 o12 o2 bx1
      go_wp2_with fail
      obtain ⟨W3, hW3⟩ : ∃ W3, W3 = w2.alloc (.cells #[.slice (some ⟨A1, 0, none⟩) 3 3, .slice (some ⟨A2, 0, none⟩) 2 2, .int .i64 K] 25) := ⟨_, rfl⟩
      have K1 : Blk W3 A1 C := by rw [hW3]; exact k1.below ((Below.refl _ _).alloc (Nat.le_refl _) _)
      have K2 : Blk W3 A2 D := by rw [hW3]; exact k2.below ((Below.refl _ _).alloc (Nat.le_refl _) _)
      have bn : Cel W3 w2.heap.size [.slice (some ⟨A1, 0, none⟩) 3 3, .slice (some ⟨A2, 0, none⟩) 2 2, .int .i64 K] 25 := by rw [hW3]; exact Cel.new w2 _ _
      have bx3 : Cel W3 w.heap.size [.slice none 0 0, .slice none 0 0, .int .i64 0] 25 := by rw [hW3]; exact bx2.below ((Below.refl _ _).alloc (Nat.le_refl _) _)
      have B3 : Below w.heap.size w W3 := by rw [hW3]; exact B2.alloc B2.size _
      rw [← hW3]
      clear hW3 bx2 r0 r1 r2 B2 k1 k2
      have i1 : Ints W3 (some ⟨A1, 0, none⟩) 3 C := K1.ints' HL.out.1
      have i2 : Ints W3 (some ⟨A2, 0, none⟩) 2 D := K2.ints' HL.out.2
      refine (fnExactFrmText.iftext_any _ _ _ _ _ _ K C D W3 i1 i2 (by omega) (by omega) (fun w' h' => HT.out w' (B3.trans (h'.mono B3.size)))).mono ?_
      rintro e w4 ⟨rfl, b4⟩
      obtain ⟨T, hTx⟩ : ∃ T, formText 3 2 C D K = T := ⟨_, rfl⟩
      rw [hTx]
      have HTX : Hid _ := hTx
      clear hTx i1 i2
      have K14 := K1.below b4
      have K24 := K2.below b4
      have B4 := B3.trans (b4.mono B3.size)
      have bx4 := bx3.below b4
      have bn4 := bn.below b4
      have r0 := bx4.cell 0
      have r1 := bx4.cell 1
      have r2 := bx4.cell 2
      have f0 := bx4.free 0
      have f1 := bx4.free 1
      have f2 := bx4.free 2
      have n0 := bn4.cell 0
      have n1 := bn4.cell 1
      have n2 := bn4.cell 2
      have lt4 := bx4.lt
      have lt5 := bn4.lt
      simp only [List.getElem?_cons_zero, List.getElem?_cons_succ] at r0 r1 r2 n0 n1 n2
      clear K1 K2 bn bx3 B3 bx4 bn4 b4
      by_cases he : T = l
      · have hE : (T == l) = true := by rw [he]; simp
        have hE2 : (T != l) = false := by rw [he]; simp
        have HR2 : Hid (rfF l = ((C, D, K), true)) := by show _ = _; rw [HR.out, if_pos (by rw [HTX.out]; exact he)]
        clear he HR
        go_wp2
        have hA1 : A1 ≠ w.heap.size := by have := HO.out; omega
        have hA2 : A2 ≠ w.heap.size := by have := HO.out; omega
        exact bodyPost_ret (v := .tuple #[formV (some ⟨A1, 0, none⟩) 3 3 (some ⟨A2, 0, none⟩) 2 2 K, .bool true]) (by simp [results, Tryd.results10, go_sem, r0, r1, r2]) rfl (Or.inl ⟨C, D, K, A1, A2, HR2.out, rfl, HL.out.1, HL.out.2, ((B4.setCell (Nat.le_refl _) _).setCell (Nat.le_refl _) _).setCell (Nat.le_refl _) _, by have := HO.out; have := B1.size; omega, HO.out.2.1, by have := HO.out; have := B1.size; omega, ((K14.setOther hA1 _ _).setOther hA1 _ _).setOther hA1 _ _, ((K24.setOther hA2 _ _).setOther hA2 _ _).setOther hA2 _ _⟩)
      · have hE : (T == l) = false := by simpa using he
        have hE2 : (T != l) = true := by simpa using he
        have HR2 : Hid (rfF l = noF) := by show _ = _; rw [HR.out, if_neg (by rw [HTX.out]; exact he)]
        clear he HR
        go_wp2
        exact bodyPost_ret (v := .tuple #[formV none 0 0 none 0 0 0, .bool false]) (by simp [results, Tryd.results10, go_sem, r0, r1, r2]) rfl (Or.inr ⟨HR2.out, rfl, ((B4.setCell (Nat.le_refl _) _).setCell (Nat.le_refl _) _).setCell (Nat.le_refl _) _⟩)
    · have HR : Hid _ := rfF_no (HG.out.trans hgo)
      have B2 := B1.trans (b2.mono B1.size)
      have bx2 := bx1.below b2
      have r0 := bx2.cell 0
      have r1 := bx2.cell 1
      have r2 := bx2.cell 2
      have f0 := bx2.free 0
      have f1 := bx2.free 1
      have f2 := bx2.free 2
      have lt2 := bx2.lt
      simp only [List.getElem?_cons_zero, List.getElem?_cons_succ] at r0 r1 r2
      have d := (((bx2.set 0 (.slice none 0 0)).set 1 (.slice none 0 0)).set 2 (.int .i64 0)).below ((Below.refl _ _).alloc (Nat.le_refl _) (.cells #[.slice none 0 0, .slice none 0 0, .int .i64 0] 25))
      have d0 := d.cell 0
      have d1 := d.cell 1
      have d2 := d.cell 2
      simp only [List.set_cons_zero, List.set_cons_succ, List.getElem?_cons_zero, List.getElem?_cons_succ] at d0 d1 d2
      have BE := (((B2.setCell (p := ⟨w.heap.size, 0, none⟩) (Nat.le_refl _) (.slice none 0 0)).setCell (p := ⟨w.heap.size, 1, none⟩) (Nat.le_refl _) (.slice none 0 0)).setCell (p := ⟨w.heap.size, 2, none⟩) (Nat.le_refl _) (.int .i64 0))
      have BF := BE.alloc BE.size (.cells #[.slice none 0 0, .slice none 0 0, .int .i64 0] 25)
      clear hgo b2 bx1 bx2 d BE
      go_wp2
      exact bodyPost_ret (v := .tuple #[formV none 0 0 none 0 0 0, .bool false]) (by simp [results, Tryd.results10, go_sem, d0, d1, d2]) rfl (Or.inr ⟨HR.out, rfl, BF⟩)
  · have hi : (120 : Int) < (l.length : Int) := by omega
    have r0 := bx.cell 0
    have r1 := bx.cell 1
    have r2 := bx.cell 2
    have f0 := bx.free 0
    have f1 := bx.free 1
    have f2 := bx.free 2
    simp only [List.getElem?_cons_zero, List.getElem?_cons_succ] at r0 r1 r2
    have HR : Hid (rfF l = noF) := by show _ = _; rw [rfF, if_neg h120]
    go_enter Tryd.func10, Tryd.ntmps10
    go_wp2
    exact bodyPost_ret (v := .tuple #[formV none 0 0 none 0 0 0, .bool false]) (by simp [results, Tryd.results10, go_sem]) rfl (Or.inr ⟨HR.out, rfl, B0⟩)

end Go.Proofs.YtfkcfjkojfnfnaaDoor
