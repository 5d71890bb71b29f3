/-
  A form and a number that are drawn.
-/
import Derived.Test.YtjhbapgpeimlhaaDrL
namespace Go.Proofs.Ytjhbapgpeimlhaa
open Go.RowKit
set_option linter.unusedVariables false
set_option maxRecDepth 100000

set_option maxHeartbeats 12800000 in
theorem dTimes (a : Option Addr) (n cap : Nat) (bs : List Int) (w : World) (h : BInts w a n bs) (hn : n ≤ cap) (hn1 : n ≤ 1048576) (hc : cap ≤ maxLen) :
    Calls Try.prog 19 #[.slice a n cap] w fun e w' => ∃ a1 n1 c1 a2 n2 c2 f k, e = .returned (.tuple #[formV a1 n1 c1 a2 n2 c2 f.2.2, .int .i64 k]) ∧ Below w.heap.size w w' ∧ FA w' a1 n1 a2 n2 f := by
  have q0 := Cel.new w [.slice none 0 0, .slice none 0 0, .int .i64 0] 25
  have al := (Below.refl w.heap.size w).alloc (Nat.le_refl _) (.cells #[.slice none 0 0, .slice none 0 0, .int .i64 0] 25)
  go_enter Try.func19, Try.ntmps19
  go_wp2_with fail
  refine (open_any _ _ _ bs _ (h.below al) hn hn1 hc).mono ?_
  rintro e w1 ⟨R, n', cap2, bs', rfl, b1, hR, rd⟩
  have hle := b1.size
  rw [World.size_alloc] at hR hle
  have BB := al.trans (b1.mono al.size)
  replace q0 := q0.below b1
  clear al b1 h
  have nq0 : w.heap.size ≠ R := by omega
  have TT : Touch (fun x => x = R) w1 w1 := Touch.refl _ _
  have hRl := rd.c.lt
  have ha0 := rd.ha
  clear hn hn1 hc
  generalize n' = n at rd ha0
  generalize cap2 = cap at rd
  generalize bs' = bs at rd
  go_upto_region 2 with fail
  refine wp_region_ends (fun X => True) (fun _ => True) 9 (by kernel_rfl) ?_
  have dr : Below w1.heap.size w1 w1.drew := (Below.refl _ _).drew
  replace q0 := q0.below dr
  replace TT := TT.trans (Touch.of dr)
  replace rd := rd.below dr
  clear dr
  obtain ⟨V1, hV1⟩ : ∃ W, W = w1.drew := ⟨_, rfl⟩
  rw [← hV1]
  rw [← hV1] at TT rd q0
  clear hV1
  have hSS : (fun X : World => True) V1 ∧ True := ⟨trivial, trivial⟩
  refine tkL (i := 0) rfl hSS ?_
  refine tkL (i := 3) rfl hSS ?_
  refine wpAnyE_two (i := 1) (j := 2) (by kernel_rfl) rfl rfl (fun Kn hK => ?_) (fun Kn hK => ?_)
  · go_simp
    refine (form_f R a n cap bs (0) 12 _ rd (by omega) (by omega) (by omega) (by omega) rd.ha).mono ?_
    rintro e w2 ⟨BA, nCA, cCA, DA, nDA, cDA, KA, LCA, LDA, qA, rfl, fm⟩
    have hqA0 := fm.q0
    have hqA1 := fm.q1
    have zA1 : w1.heap.size ≤ BA := Nat.le_trans TT.size fm.b1
    have zA2 : w1.heap.size ≤ DA := Nat.le_trans TT.size fm.b2
    have GA := fm.fa KA
    have t5 := fm.t
    have R5 := fm.r
    clear fm
    replace q0 := q0.touch t5 nq0
    replace TT := TT.trans t5
    replace rd := R5
    clear t5 R5
    dsimp only
    clear hSS
    have hSS : (fun X : World => True) w2 ∧ True := ⟨trivial, trivial⟩
    refine hK.out _ _ ⟨hSS.1, fun _ => trivial⟩ ?_
    clear hK
    refine wpAnyE_two (i := 2) (j := 4) (by kernel_rfl) rfl rfl (fun Kn hK => ?_) (fun Kn hK => ?_)
    · go_simp
      have al := (Below.refl w2.heap.size w2).alloc (Nat.le_refl _) (.cells #[.int .i64 0, .int .i64 1, .int .i64 (-1), .int .i64 2, .int .i64 7, .int .i64 10000000, .int .i64 10000001, .int .i64 (-9223372036854775808)] 3)
      have mlb := TT.size
      have nlb : w2.heap.size ≠ R := by omega
      have lb := Cel.new w2 [.int .i64 0, .int .i64 1, .int .i64 (-1), .int .i64 2, .int .i64 7, .int .i64 10000000, .int .i64 10000001, .int .i64 (-9223372036854775808)] 3
      replace q0 := q0.below al
      replace GA := GA.below al
      replace TT := TT.trans (Touch.of al)
      replace rd := rd.below al
      clear al
      obtain ⟨V3, hV3⟩ : ∃ V, V = (w2.alloc (.cells #[.int .i64 0, .int .i64 1, .int .i64 (-1), .int .i64 2, .int .i64 7, .int .i64 10000000, .int .i64 10000001, .int .i64 (-9223372036854775808)] 3)) := ⟨_, rfl⟩
      rw [← hV3]
      rw [← hV3] at TT rd q0 GA lb
      clear hV3
      clear hSS
      have hSS : (fun X : World => True) V3 ∧ True := ⟨trivial, trivial⟩
      refine hK.out _ _ ⟨hSS.1, fun _ => trivial⟩ ?_
      clear hK
      refine wpAnyE_one (i := 4) (by kernel_rfl) rfl (fun Kn hK => ?_)
      go_simp
      refine (pick_any R a n cap bs (qA) 8 _ rd (by omega) (by omega) (by omega) (by omega)).mono ?_
      rintro e w4 ⟨rj, hj0, hj1, rfl, t5, R5⟩
      obtain ⟨j, rfl⟩ := Int.eq_ofNat_of_zero_le hj0
      clear hj0
      replace q0 := q0.touch t5 nq0
      replace GA := GA.far t5 (lo := w1.heap.size) (fun k hk => by omega) zA1 zA2
      replace lb := lb.touch t5 nlb
      replace TT := TT.trans t5
      replace rd := R5
      clear t5 R5
      dsimp only
      clear hSS
      have hj' : (j : Int) < 8 := by omega
      have hSS : (fun X : World => True) w4 ∧ True := ⟨trivial, trivial⟩
      refine hK.out _ _ ⟨hSS.1, fun _ => trivial⟩ ?_
      clear hK
      refine tkL (i := 5) rfl hSS ?_
      refine wpAnyE_two (i := 6) (j := 7) (by kernel_rfl) rfl rfl (fun Kn hK => ?_) (fun Kn hK => ?_)
      · have hc := lit_cell (xs := [0, 1, -1, 2, 7, 10000000, 10000001, -9223372036854775808]) lb (j := j) (by simp only [List.length_cons, List.length_nil]; omega)
        generalize ([0, 1, -1, 2, 7, 10000000, 10000001, -9223372036854775808] : List Int)[j]?.getD 0 = y at hc
        go_simp
        clear hc
        clear hSS
        have hSS : (fun X : World => True) w4 ∧ True := ⟨trivial, trivial⟩
        refine hK.out _ _ ⟨hSS.1, fun _ => trivial⟩ ?_
        clear hK
        refine wpAnyE_one (i := 7) (by kernel_rfl) rfl (fun Kn hK => ?_)
        have gq0_0 := q0.cell 0
        have gq0_1 := q0.cell 1
        have gq0_2 := q0.cell 2
        simp only [List.getElem?_cons_zero, List.getElem?_cons_succ] at gq0_0 gq0_1 gq0_2
        have fq0_0 := q0.free 0
        have fq0_1 := q0.free 1
        have fq0_2 := q0.free 2
        have lq0 := q0.lt
        have lt1 := TT.size
        go_simp
        clear gq0_0 gq0_1 gq0_2 fq0_0 fq0_1 fq0_2 lq0
        have BZ := BB.trans (TT.below (B := w.heap.size) (by omega) (fun k hk => by omega))
        clear TT rd
        replace q0 := q0.set 0 (.slice (some ⟨BA, 0, none⟩) nCA cCA)
        replace GA := GA.setFar (X := w.heap.size) (by omega) (by omega) 0 (.slice (some ⟨BA, 0, none⟩) nCA cCA)
        replace lb := lb.setOther (B' := w.heap.size) (by omega) 0 (.slice (some ⟨BA, 0, none⟩) nCA cCA)
        replace BZ := BZ.setCell (p := ⟨w.heap.size, 0, none⟩) (by simp only []; omega) (.slice (some ⟨BA, 0, none⟩) nCA cCA)
        replace q0 := q0.set 1 (.slice (some ⟨DA, 0, none⟩) nDA cDA)
        replace GA := GA.setFar (X := w.heap.size) (by omega) (by omega) 1 (.slice (some ⟨DA, 0, none⟩) nDA cDA)
        replace lb := lb.setOther (B' := w.heap.size) (by omega) 1 (.slice (some ⟨DA, 0, none⟩) nDA cDA)
        replace BZ := BZ.setCell (p := ⟨w.heap.size, 1, none⟩) (by simp only []; omega) (.slice (some ⟨DA, 0, none⟩) nDA cDA)
        replace q0 := q0.set 2 (.int .i64 KA)
        replace GA := GA.setFar (X := w.heap.size) (by omega) (by omega) 2 (.int .i64 KA)
        replace lb := lb.setOther (B' := w.heap.size) (by omega) 2 (.int .i64 KA)
        replace BZ := BZ.setCell (p := ⟨w.heap.size, 2, none⟩) (by simp only []; omega) (.int .i64 KA)
        obtain ⟨W5, hW5⟩ : ∃ W, W = (((w4.setCell ⟨w.heap.size, 0, none⟩ (.slice (some ⟨BA, 0, none⟩) nCA cCA)).setCell ⟨w.heap.size, 1, none⟩ (.slice (some ⟨DA, 0, none⟩) nDA cDA)).setCell ⟨w.heap.size, 2, none⟩ (.int .i64 KA)) := ⟨_, rfl⟩
        rw [← hW5]
        rw [← hW5] at BZ q0 GA lb
        clear hW5
        clear hSS
        have hSS : (fun X : World => True) W5 ∧ True := ⟨trivial, trivial⟩
        refine hK.out _ _ ⟨hSS.1, fun _ => trivial⟩ ?_
        clear hK
        refine tkL (i := 8) rfl hSS ?_
        refine wpAnyE_done (by kernel_rfl) ?_ _
        clear hSS
        go_wp2
        obtain ⟨g0, g1, g2, _, _, _⟩ := q0.trio
        exact bodyPost_ret (v := .tuple #[formV (some ⟨BA, 0, none⟩) nCA cCA (some ⟨DA, 0, none⟩) nDA cDA KA, .int .i64 y]) (by simp [results, Try.results19, go_sem, g0, g1, g2]) rfl ⟨_, nCA, cCA, _, nDA, cDA, (LCA, LDA, KA), y, rfl, BZ, GA⟩
      · have gq0_0 := q0.cell 0
        have gq0_1 := q0.cell 1
        have gq0_2 := q0.cell 2
        simp only [List.getElem?_cons_zero, List.getElem?_cons_succ] at gq0_0 gq0_1 gq0_2
        have fq0_0 := q0.free 0
        have fq0_1 := q0.free 1
        have fq0_2 := q0.free 2
        have lq0 := q0.lt
        have lt1 := TT.size
        go_simp
        clear gq0_0 gq0_1 gq0_2 fq0_0 fq0_1 fq0_2 lq0
        have BZ := BB.trans (TT.below (B := w.heap.size) (by omega) (fun k hk => by omega))
        clear TT rd
        replace q0 := q0.set 0 (.slice (some ⟨BA, 0, none⟩) nCA cCA)
        replace GA := GA.setFar (X := w.heap.size) (by omega) (by omega) 0 (.slice (some ⟨BA, 0, none⟩) nCA cCA)
        replace lb := lb.setOther (B' := w.heap.size) (by omega) 0 (.slice (some ⟨BA, 0, none⟩) nCA cCA)
        replace BZ := BZ.setCell (p := ⟨w.heap.size, 0, none⟩) (by simp only []; omega) (.slice (some ⟨BA, 0, none⟩) nCA cCA)
        replace q0 := q0.set 1 (.slice (some ⟨DA, 0, none⟩) nDA cDA)
        replace GA := GA.setFar (X := w.heap.size) (by omega) (by omega) 1 (.slice (some ⟨DA, 0, none⟩) nDA cDA)
        replace lb := lb.setOther (B' := w.heap.size) (by omega) 1 (.slice (some ⟨DA, 0, none⟩) nDA cDA)
        replace BZ := BZ.setCell (p := ⟨w.heap.size, 1, none⟩) (by simp only []; omega) (.slice (some ⟨DA, 0, none⟩) nDA cDA)
        replace q0 := q0.set 2 (.int .i64 KA)
        replace GA := GA.setFar (X := w.heap.size) (by omega) (by omega) 2 (.int .i64 KA)
        replace lb := lb.setOther (B' := w.heap.size) (by omega) 2 (.int .i64 KA)
        replace BZ := BZ.setCell (p := ⟨w.heap.size, 2, none⟩) (by simp only []; omega) (.int .i64 KA)
        obtain ⟨W5, hW5⟩ : ∃ W, W = (((w4.setCell ⟨w.heap.size, 0, none⟩ (.slice (some ⟨BA, 0, none⟩) nCA cCA)).setCell ⟨w.heap.size, 1, none⟩ (.slice (some ⟨DA, 0, none⟩) nDA cDA)).setCell ⟨w.heap.size, 2, none⟩ (.int .i64 KA)) := ⟨_, rfl⟩
        rw [← hW5]
        rw [← hW5] at BZ q0 GA lb
        clear hW5
        clear hSS
        have hSS : (fun X : World => True) W5 ∧ True := ⟨trivial, trivial⟩
        refine hK.out _ _ ⟨hSS.1, fun _ => trivial⟩ ?_
        clear hK
        refine wpAnyE_one (i := 6) (by kernel_rfl) rfl (fun Kn hK => ?_)
        have hc := lit_cell (xs := [0, 1, -1, 2, 7, 10000000, 10000001, -9223372036854775808]) lb (j := j) (by simp only [List.length_cons, List.length_nil]; omega)
        generalize ([0, 1, -1, 2, 7, 10000000, 10000001, -9223372036854775808] : List Int)[j]?.getD 0 = y at hc
        go_simp
        clear hc
        clear hSS
        have hSS : (fun X : World => True) W5 ∧ True := ⟨trivial, trivial⟩
        refine hK.out _ _ ⟨hSS.1, fun _ => trivial⟩ ?_
        clear hK
        refine tkL (i := 8) rfl hSS ?_
        refine wpAnyE_done (by kernel_rfl) ?_ _
        clear hSS
        go_wp2
        obtain ⟨g0, g1, g2, _, _, _⟩ := q0.trio
        exact bodyPost_ret (v := .tuple #[formV (some ⟨BA, 0, none⟩) nCA cCA (some ⟨DA, 0, none⟩) nDA cDA KA, .int .i64 y]) (by simp [results, Try.results19, go_sem, g0, g1, g2]) rfl ⟨_, nCA, cCA, _, nDA, cDA, (LCA, LDA, KA), y, rfl, BZ, GA⟩
    · go_simp
      refine (pick_any R a n cap bs (qA) 8 _ rd (by omega) (by omega) (by omega) (by omega)).mono ?_
      rintro e w3 ⟨rj, hj0, hj1, rfl, t5, R5⟩
      obtain ⟨j, rfl⟩ := Int.eq_ofNat_of_zero_le hj0
      clear hj0
      replace q0 := q0.touch t5 nq0
      replace GA := GA.far t5 (lo := w1.heap.size) (fun k hk => by omega) zA1 zA2
      replace TT := TT.trans t5
      replace rd := R5
      clear t5 R5
      dsimp only
      clear hSS
      have hj' : (j : Int) < 8 := by omega
      have hSS : (fun X : World => True) w3 ∧ True := ⟨trivial, trivial⟩
      refine hK.out _ _ ⟨hSS.1, fun _ => trivial⟩ ?_
      clear hK
      refine wpAnyE_two (i := 2) (j := 7) (by kernel_rfl) rfl rfl (fun Kn hK => ?_) (fun Kn hK => ?_)
      · go_simp
        have al := (Below.refl w3.heap.size w3).alloc (Nat.le_refl _) (.cells #[.int .i64 0, .int .i64 1, .int .i64 (-1), .int .i64 2, .int .i64 7, .int .i64 10000000, .int .i64 10000001, .int .i64 (-9223372036854775808)] 3)
        have mlb := TT.size
        have nlb : w3.heap.size ≠ R := by omega
        have lb := Cel.new w3 [.int .i64 0, .int .i64 1, .int .i64 (-1), .int .i64 2, .int .i64 7, .int .i64 10000000, .int .i64 10000001, .int .i64 (-9223372036854775808)] 3
        replace q0 := q0.below al
        replace GA := GA.below al
        replace TT := TT.trans (Touch.of al)
        replace rd := rd.below al
        clear al
        obtain ⟨V4, hV4⟩ : ∃ V, V = (w3.alloc (.cells #[.int .i64 0, .int .i64 1, .int .i64 (-1), .int .i64 2, .int .i64 7, .int .i64 10000000, .int .i64 10000001, .int .i64 (-9223372036854775808)] 3)) := ⟨_, rfl⟩
        rw [← hV4]
        rw [← hV4] at TT rd q0 GA lb
        clear hV4
        clear hSS
        have hSS : (fun X : World => True) V4 ∧ True := ⟨trivial, trivial⟩
        refine hK.out _ _ ⟨hSS.1, fun _ => trivial⟩ ?_
        clear hK
        refine tkL (i := 5) rfl hSS ?_
        refine wpAnyE_two (i := 6) (j := 7) (by kernel_rfl) rfl rfl (fun Kn hK => ?_) (fun Kn hK => ?_)
        · have hc := lit_cell (xs := [0, 1, -1, 2, 7, 10000000, 10000001, -9223372036854775808]) lb (j := j) (by simp only [List.length_cons, List.length_nil]; omega)
          generalize ([0, 1, -1, 2, 7, 10000000, 10000001, -9223372036854775808] : List Int)[j]?.getD 0 = y at hc
          go_simp
          clear hc
          clear hSS
          have hSS : (fun X : World => True) V4 ∧ True := ⟨trivial, trivial⟩
          refine hK.out _ _ ⟨hSS.1, fun _ => trivial⟩ ?_
          clear hK
          refine wpAnyE_one (i := 7) (by kernel_rfl) rfl (fun Kn hK => ?_)
          have gq0_0 := q0.cell 0
          have gq0_1 := q0.cell 1
          have gq0_2 := q0.cell 2
          simp only [List.getElem?_cons_zero, List.getElem?_cons_succ] at gq0_0 gq0_1 gq0_2
          have fq0_0 := q0.free 0
          have fq0_1 := q0.free 1
          have fq0_2 := q0.free 2
          have lq0 := q0.lt
          have lt1 := TT.size
          go_simp
          clear gq0_0 gq0_1 gq0_2 fq0_0 fq0_1 fq0_2 lq0
          have BZ := BB.trans (TT.below (B := w.heap.size) (by omega) (fun k hk => by omega))
          clear TT rd
          replace q0 := q0.set 0 (.slice (some ⟨BA, 0, none⟩) nCA cCA)
          replace GA := GA.setFar (X := w.heap.size) (by omega) (by omega) 0 (.slice (some ⟨BA, 0, none⟩) nCA cCA)
          replace lb := lb.setOther (B' := w.heap.size) (by omega) 0 (.slice (some ⟨BA, 0, none⟩) nCA cCA)
          replace BZ := BZ.setCell (p := ⟨w.heap.size, 0, none⟩) (by simp only []; omega) (.slice (some ⟨BA, 0, none⟩) nCA cCA)
          replace q0 := q0.set 1 (.slice (some ⟨DA, 0, none⟩) nDA cDA)
          replace GA := GA.setFar (X := w.heap.size) (by omega) (by omega) 1 (.slice (some ⟨DA, 0, none⟩) nDA cDA)
          replace lb := lb.setOther (B' := w.heap.size) (by omega) 1 (.slice (some ⟨DA, 0, none⟩) nDA cDA)
          replace BZ := BZ.setCell (p := ⟨w.heap.size, 1, none⟩) (by simp only []; omega) (.slice (some ⟨DA, 0, none⟩) nDA cDA)
          replace q0 := q0.set 2 (.int .i64 KA)
          replace GA := GA.setFar (X := w.heap.size) (by omega) (by omega) 2 (.int .i64 KA)
          replace lb := lb.setOther (B' := w.heap.size) (by omega) 2 (.int .i64 KA)
          replace BZ := BZ.setCell (p := ⟨w.heap.size, 2, none⟩) (by simp only []; omega) (.int .i64 KA)
          obtain ⟨W5, hW5⟩ : ∃ W, W = (((V4.setCell ⟨w.heap.size, 0, none⟩ (.slice (some ⟨BA, 0, none⟩) nCA cCA)).setCell ⟨w.heap.size, 1, none⟩ (.slice (some ⟨DA, 0, none⟩) nDA cDA)).setCell ⟨w.heap.size, 2, none⟩ (.int .i64 KA)) := ⟨_, rfl⟩
          rw [← hW5]
          rw [← hW5] at BZ q0 GA lb
          clear hW5
          clear hSS
          have hSS : (fun X : World => True) W5 ∧ True := ⟨trivial, trivial⟩
          refine hK.out _ _ ⟨hSS.1, fun _ => trivial⟩ ?_
          clear hK
          refine tkL (i := 8) rfl hSS ?_
          refine wpAnyE_done (by kernel_rfl) ?_ _
          clear hSS
          go_wp2
          obtain ⟨g0, g1, g2, _, _, _⟩ := q0.trio
          exact bodyPost_ret (v := .tuple #[formV (some ⟨BA, 0, none⟩) nCA cCA (some ⟨DA, 0, none⟩) nDA cDA KA, .int .i64 y]) (by simp [results, Try.results19, go_sem, g0, g1, g2]) rfl ⟨_, nCA, cCA, _, nDA, cDA, (LCA, LDA, KA), y, rfl, BZ, GA⟩
        · have gq0_0 := q0.cell 0
          have gq0_1 := q0.cell 1
          have gq0_2 := q0.cell 2
          simp only [List.getElem?_cons_zero, List.getElem?_cons_succ] at gq0_0 gq0_1 gq0_2
          have fq0_0 := q0.free 0
          have fq0_1 := q0.free 1
          have fq0_2 := q0.free 2
          have lq0 := q0.lt
          have lt1 := TT.size
          go_simp
          clear gq0_0 gq0_1 gq0_2 fq0_0 fq0_1 fq0_2 lq0
          have BZ := BB.trans (TT.below (B := w.heap.size) (by omega) (fun k hk => by omega))
          clear TT rd
          replace q0 := q0.set 0 (.slice (some ⟨BA, 0, none⟩) nCA cCA)
          replace GA := GA.setFar (X := w.heap.size) (by omega) (by omega) 0 (.slice (some ⟨BA, 0, none⟩) nCA cCA)
          replace lb := lb.setOther (B' := w.heap.size) (by omega) 0 (.slice (some ⟨BA, 0, none⟩) nCA cCA)
          replace BZ := BZ.setCell (p := ⟨w.heap.size, 0, none⟩) (by simp only []; omega) (.slice (some ⟨BA, 0, none⟩) nCA cCA)
          replace q0 := q0.set 1 (.slice (some ⟨DA, 0, none⟩) nDA cDA)
          replace GA := GA.setFar (X := w.heap.size) (by omega) (by omega) 1 (.slice (some ⟨DA, 0, none⟩) nDA cDA)
          replace lb := lb.setOther (B' := w.heap.size) (by omega) 1 (.slice (some ⟨DA, 0, none⟩) nDA cDA)
          replace BZ := BZ.setCell (p := ⟨w.heap.size, 1, none⟩) (by simp only []; omega) (.slice (some ⟨DA, 0, none⟩) nDA cDA)
          replace q0 := q0.set 2 (.int .i64 KA)
          replace GA := GA.setFar (X := w.heap.size) (by omega) (by omega) 2 (.int .i64 KA)
          replace lb := lb.setOther (B' := w.heap.size) (by omega) 2 (.int .i64 KA)
          replace BZ := BZ.setCell (p := ⟨w.heap.size, 2, none⟩) (by simp only []; omega) (.int .i64 KA)
          obtain ⟨W5, hW5⟩ : ∃ W, W = (((V4.setCell ⟨w.heap.size, 0, none⟩ (.slice (some ⟨BA, 0, none⟩) nCA cCA)).setCell ⟨w.heap.size, 1, none⟩ (.slice (some ⟨DA, 0, none⟩) nDA cDA)).setCell ⟨w.heap.size, 2, none⟩ (.int .i64 KA)) := ⟨_, rfl⟩
          rw [← hW5]
          rw [← hW5] at BZ q0 GA lb
          clear hW5
          clear hSS
          have hSS : (fun X : World => True) W5 ∧ True := ⟨trivial, trivial⟩
          refine hK.out _ _ ⟨hSS.1, fun _ => trivial⟩ ?_
          clear hK
          refine wpAnyE_one (i := 6) (by kernel_rfl) rfl (fun Kn hK => ?_)
          have hc := lit_cell (xs := [0, 1, -1, 2, 7, 10000000, 10000001, -9223372036854775808]) lb (j := j) (by simp only [List.length_cons, List.length_nil]; omega)
          generalize ([0, 1, -1, 2, 7, 10000000, 10000001, -9223372036854775808] : List Int)[j]?.getD 0 = y at hc
          go_simp
          clear hc
          clear hSS
          have hSS : (fun X : World => True) W5 ∧ True := ⟨trivial, trivial⟩
          refine hK.out _ _ ⟨hSS.1, fun _ => trivial⟩ ?_
          clear hK
          refine tkL (i := 8) rfl hSS ?_
          refine wpAnyE_done (by kernel_rfl) ?_ _
          clear hSS
          go_wp2
          obtain ⟨g0, g1, g2, _, _, _⟩ := q0.trio
          exact bodyPost_ret (v := .tuple #[formV (some ⟨BA, 0, none⟩) nCA cCA (some ⟨DA, 0, none⟩) nDA cDA KA, .int .i64 y]) (by simp [results, Try.results19, go_sem, g0, g1, g2]) rfl ⟨_, nCA, cCA, _, nDA, cDA, (LCA, LDA, KA), y, rfl, BZ, GA⟩
      · have gq0_0 := q0.cell 0
        have gq0_1 := q0.cell 1
        have gq0_2 := q0.cell 2
        simp only [List.getElem?_cons_zero, List.getElem?_cons_succ] at gq0_0 gq0_1 gq0_2
        have fq0_0 := q0.free 0
        have fq0_1 := q0.free 1
        have fq0_2 := q0.free 2
        have lq0 := q0.lt
        have lt1 := TT.size
        go_simp
        clear gq0_0 gq0_1 gq0_2 fq0_0 fq0_1 fq0_2 lq0
        have BZ := BB.trans (TT.below (B := w.heap.size) (by omega) (fun k hk => by omega))
        clear TT rd
        replace q0 := q0.set 0 (.slice (some ⟨BA, 0, none⟩) nCA cCA)
        replace GA := GA.setFar (X := w.heap.size) (by omega) (by omega) 0 (.slice (some ⟨BA, 0, none⟩) nCA cCA)
        replace BZ := BZ.setCell (p := ⟨w.heap.size, 0, none⟩) (by simp only []; omega) (.slice (some ⟨BA, 0, none⟩) nCA cCA)
        replace q0 := q0.set 1 (.slice (some ⟨DA, 0, none⟩) nDA cDA)
        replace GA := GA.setFar (X := w.heap.size) (by omega) (by omega) 1 (.slice (some ⟨DA, 0, none⟩) nDA cDA)
        replace BZ := BZ.setCell (p := ⟨w.heap.size, 1, none⟩) (by simp only []; omega) (.slice (some ⟨DA, 0, none⟩) nDA cDA)
        replace q0 := q0.set 2 (.int .i64 KA)
        replace GA := GA.setFar (X := w.heap.size) (by omega) (by omega) 2 (.int .i64 KA)
        replace BZ := BZ.setCell (p := ⟨w.heap.size, 2, none⟩) (by simp only []; omega) (.int .i64 KA)
        obtain ⟨W4, hW4⟩ : ∃ W, W = (((w3.setCell ⟨w.heap.size, 0, none⟩ (.slice (some ⟨BA, 0, none⟩) nCA cCA)).setCell ⟨w.heap.size, 1, none⟩ (.slice (some ⟨DA, 0, none⟩) nDA cDA)).setCell ⟨w.heap.size, 2, none⟩ (.int .i64 KA)) := ⟨_, rfl⟩
        rw [← hW4]
        rw [← hW4] at BZ q0 GA
        clear hW4
        clear hSS
        have hSS : (fun X : World => True) W4 ∧ True := ⟨trivial, trivial⟩
        refine hK.out _ _ ⟨hSS.1, fun _ => trivial⟩ ?_
        clear hK
        refine wpAnyE_one (i := 2) (by kernel_rfl) rfl (fun Kn hK => ?_)
        go_simp
        have al := (Below.refl W4.heap.size W4).alloc (Nat.le_refl _) (.cells #[.int .i64 0, .int .i64 1, .int .i64 (-1), .int .i64 2, .int .i64 7, .int .i64 10000000, .int .i64 10000001, .int .i64 (-9223372036854775808)] 3)
        have mlb := BZ.size
        skip
        have lb := Cel.new W4 [.int .i64 0, .int .i64 1, .int .i64 (-1), .int .i64 2, .int .i64 7, .int .i64 10000000, .int .i64 10000001, .int .i64 (-9223372036854775808)] 3
        replace q0 := q0.below al
        replace GA := GA.below al
        replace BZ := BZ.trans (al.mono BZ.size)
        clear al
        obtain ⟨V5, hV5⟩ : ∃ V, V = (W4.alloc (.cells #[.int .i64 0, .int .i64 1, .int .i64 (-1), .int .i64 2, .int .i64 7, .int .i64 10000000, .int .i64 10000001, .int .i64 (-9223372036854775808)] 3)) := ⟨_, rfl⟩
        rw [← hV5]
        rw [← hV5] at BZ q0 GA lb
        clear hV5
        clear hSS
        have hSS : (fun X : World => True) V5 ∧ True := ⟨trivial, trivial⟩
        refine hK.out _ _ ⟨hSS.1, fun _ => trivial⟩ ?_
        clear hK
        refine tkL (i := 5) rfl hSS ?_
        refine wpAnyE_one (i := 6) (by kernel_rfl) rfl (fun Kn hK => ?_)
        have hc := lit_cell (xs := [0, 1, -1, 2, 7, 10000000, 10000001, -9223372036854775808]) lb (j := j) (by simp only [List.length_cons, List.length_nil]; omega)
        generalize ([0, 1, -1, 2, 7, 10000000, 10000001, -9223372036854775808] : List Int)[j]?.getD 0 = y at hc
        go_simp
        clear hc
        clear hSS
        have hSS : (fun X : World => True) V5 ∧ True := ⟨trivial, trivial⟩
        refine hK.out _ _ ⟨hSS.1, fun _ => trivial⟩ ?_
        clear hK
        refine tkL (i := 8) rfl hSS ?_
        refine wpAnyE_done (by kernel_rfl) ?_ _
        clear hSS
        go_wp2
        obtain ⟨g0, g1, g2, _, _, _⟩ := q0.trio
        exact bodyPost_ret (v := .tuple #[formV (some ⟨BA, 0, none⟩) nCA cCA (some ⟨DA, 0, none⟩) nDA cDA KA, .int .i64 y]) (by simp [results, Try.results19, go_sem, g0, g1, g2]) rfl ⟨_, nCA, cCA, _, nDA, cDA, (LCA, LDA, KA), y, rfl, BZ, GA⟩
  · go_simp
    have al := (Below.refl V1.heap.size V1).alloc (Nat.le_refl _) (.cells #[.int .i64 0, .int .i64 1, .int .i64 (-1), .int .i64 2, .int .i64 7, .int .i64 10000000, .int .i64 10000001, .int .i64 (-9223372036854775808)] 3)
    have mlb := TT.size
    have nlb : V1.heap.size ≠ R := by omega
    have lb := Cel.new V1 [.int .i64 0, .int .i64 1, .int .i64 (-1), .int .i64 2, .int .i64 7, .int .i64 10000000, .int .i64 10000001, .int .i64 (-9223372036854775808)] 3
    replace q0 := q0.below al
    replace TT := TT.trans (Touch.of al)
    replace rd := rd.below al
    clear al
    obtain ⟨V2, hV2⟩ : ∃ V, V = (V1.alloc (.cells #[.int .i64 0, .int .i64 1, .int .i64 (-1), .int .i64 2, .int .i64 7, .int .i64 10000000, .int .i64 10000001, .int .i64 (-9223372036854775808)] 3)) := ⟨_, rfl⟩
    rw [← hV2]
    rw [← hV2] at TT rd q0 lb
    clear hV2
    clear hSS
    have hSS : (fun X : World => True) V2 ∧ True := ⟨trivial, trivial⟩
    refine hK.out _ _ ⟨hSS.1, fun _ => trivial⟩ ?_
    clear hK
    refine wpAnyE_one (i := 1) (by kernel_rfl) rfl (fun Kn hK => ?_)
    go_simp
    refine (form_f R a n cap bs (0) 12 _ rd (by omega) (by omega) (by omega) (by omega) rd.ha).mono ?_
    rintro e w3 ⟨BA, nCA, cCA, DA, nDA, cDA, KA, LCA, LDA, qA, rfl, fm⟩
    have hqA0 := fm.q0
    have hqA1 := fm.q1
    have zA1 : w1.heap.size ≤ BA := Nat.le_trans TT.size fm.b1
    have zA2 : w1.heap.size ≤ DA := Nat.le_trans TT.size fm.b2
    have GA := fm.fa KA
    have t5 := fm.t
    have R5 := fm.r
    clear fm
    replace q0 := q0.touch t5 nq0
    replace lb := lb.touch t5 nlb
    replace TT := TT.trans t5
    replace rd := R5
    clear t5 R5
    dsimp only
    clear hSS
    have hSS : (fun X : World => True) w3 ∧ True := ⟨trivial, trivial⟩
    refine hK.out _ _ ⟨hSS.1, fun _ => trivial⟩ ?_
    clear hK
    refine wpAnyE_one (i := 4) (by kernel_rfl) rfl (fun Kn hK => ?_)
    go_simp
    refine (pick_any R a n cap bs (qA) 8 _ rd (by omega) (by omega) (by omega) (by omega)).mono ?_
    rintro e w4 ⟨rj, hj0, hj1, rfl, t5, R5⟩
    obtain ⟨j, rfl⟩ := Int.eq_ofNat_of_zero_le hj0
    clear hj0
    replace q0 := q0.touch t5 nq0
    replace lb := lb.touch t5 nlb
    replace GA := GA.far t5 (lo := w1.heap.size) (fun k hk => by omega) zA1 zA2
    replace TT := TT.trans t5
    replace rd := R5
    clear t5 R5
    dsimp only
    clear hSS
    have hj' : (j : Int) < 8 := by omega
    have hSS : (fun X : World => True) w4 ∧ True := ⟨trivial, trivial⟩
    refine hK.out _ _ ⟨hSS.1, fun _ => trivial⟩ ?_
    clear hK
    refine tkL (i := 5) rfl hSS ?_
    refine wpAnyE_two (i := 6) (j := 7) (by kernel_rfl) rfl rfl (fun Kn hK => ?_) (fun Kn hK => ?_)
    · have hc := lit_cell (xs := [0, 1, -1, 2, 7, 10000000, 10000001, -9223372036854775808]) lb (j := j) (by simp only [List.length_cons, List.length_nil]; omega)
      generalize ([0, 1, -1, 2, 7, 10000000, 10000001, -9223372036854775808] : List Int)[j]?.getD 0 = y at hc
      go_simp
      clear hc
      clear hSS
      have hSS : (fun X : World => True) w4 ∧ True := ⟨trivial, trivial⟩
      refine hK.out _ _ ⟨hSS.1, fun _ => trivial⟩ ?_
      clear hK
      refine wpAnyE_one (i := 7) (by kernel_rfl) rfl (fun Kn hK => ?_)
      have gq0_0 := q0.cell 0
      have gq0_1 := q0.cell 1
      have gq0_2 := q0.cell 2
      simp only [List.getElem?_cons_zero, List.getElem?_cons_succ] at gq0_0 gq0_1 gq0_2
      have fq0_0 := q0.free 0
      have fq0_1 := q0.free 1
      have fq0_2 := q0.free 2
      have lq0 := q0.lt
      have lt1 := TT.size
      go_simp
      clear gq0_0 gq0_1 gq0_2 fq0_0 fq0_1 fq0_2 lq0
      have BZ := BB.trans (TT.below (B := w.heap.size) (by omega) (fun k hk => by omega))
      clear TT rd
      replace q0 := q0.set 0 (.slice (some ⟨BA, 0, none⟩) nCA cCA)
      replace lb := lb.setOther (B' := w.heap.size) (by omega) 0 (.slice (some ⟨BA, 0, none⟩) nCA cCA)
      replace GA := GA.setFar (X := w.heap.size) (by omega) (by omega) 0 (.slice (some ⟨BA, 0, none⟩) nCA cCA)
      replace BZ := BZ.setCell (p := ⟨w.heap.size, 0, none⟩) (by simp only []; omega) (.slice (some ⟨BA, 0, none⟩) nCA cCA)
      replace q0 := q0.set 1 (.slice (some ⟨DA, 0, none⟩) nDA cDA)
      replace lb := lb.setOther (B' := w.heap.size) (by omega) 1 (.slice (some ⟨DA, 0, none⟩) nDA cDA)
      replace GA := GA.setFar (X := w.heap.size) (by omega) (by omega) 1 (.slice (some ⟨DA, 0, none⟩) nDA cDA)
      replace BZ := BZ.setCell (p := ⟨w.heap.size, 1, none⟩) (by simp only []; omega) (.slice (some ⟨DA, 0, none⟩) nDA cDA)
      replace q0 := q0.set 2 (.int .i64 KA)
      replace lb := lb.setOther (B' := w.heap.size) (by omega) 2 (.int .i64 KA)
      replace GA := GA.setFar (X := w.heap.size) (by omega) (by omega) 2 (.int .i64 KA)
      replace BZ := BZ.setCell (p := ⟨w.heap.size, 2, none⟩) (by simp only []; omega) (.int .i64 KA)
      obtain ⟨W5, hW5⟩ : ∃ W, W = (((w4.setCell ⟨w.heap.size, 0, none⟩ (.slice (some ⟨BA, 0, none⟩) nCA cCA)).setCell ⟨w.heap.size, 1, none⟩ (.slice (some ⟨DA, 0, none⟩) nDA cDA)).setCell ⟨w.heap.size, 2, none⟩ (.int .i64 KA)) := ⟨_, rfl⟩
      rw [← hW5]
      rw [← hW5] at BZ q0 lb GA
      clear hW5
      clear hSS
      have hSS : (fun X : World => True) W5 ∧ True := ⟨trivial, trivial⟩
      refine hK.out _ _ ⟨hSS.1, fun _ => trivial⟩ ?_
      clear hK
      refine tkL (i := 8) rfl hSS ?_
      refine wpAnyE_done (by kernel_rfl) ?_ _
      clear hSS
      go_wp2
      obtain ⟨g0, g1, g2, _, _, _⟩ := q0.trio
      exact bodyPost_ret (v := .tuple #[formV (some ⟨BA, 0, none⟩) nCA cCA (some ⟨DA, 0, none⟩) nDA cDA KA, .int .i64 y]) (by simp [results, Try.results19, go_sem, g0, g1, g2]) rfl ⟨_, nCA, cCA, _, nDA, cDA, (LCA, LDA, KA), y, rfl, BZ, GA⟩
    · have gq0_0 := q0.cell 0
      have gq0_1 := q0.cell 1
      have gq0_2 := q0.cell 2
      simp only [List.getElem?_cons_zero, List.getElem?_cons_succ] at gq0_0 gq0_1 gq0_2
      have fq0_0 := q0.free 0
      have fq0_1 := q0.free 1
      have fq0_2 := q0.free 2
      have lq0 := q0.lt
      have lt1 := TT.size
      go_simp
      clear gq0_0 gq0_1 gq0_2 fq0_0 fq0_1 fq0_2 lq0
      have BZ := BB.trans (TT.below (B := w.heap.size) (by omega) (fun k hk => by omega))
      clear TT rd
      replace q0 := q0.set 0 (.slice (some ⟨BA, 0, none⟩) nCA cCA)
      replace lb := lb.setOther (B' := w.heap.size) (by omega) 0 (.slice (some ⟨BA, 0, none⟩) nCA cCA)
      replace GA := GA.setFar (X := w.heap.size) (by omega) (by omega) 0 (.slice (some ⟨BA, 0, none⟩) nCA cCA)
      replace BZ := BZ.setCell (p := ⟨w.heap.size, 0, none⟩) (by simp only []; omega) (.slice (some ⟨BA, 0, none⟩) nCA cCA)
      replace q0 := q0.set 1 (.slice (some ⟨DA, 0, none⟩) nDA cDA)
      replace lb := lb.setOther (B' := w.heap.size) (by omega) 1 (.slice (some ⟨DA, 0, none⟩) nDA cDA)
      replace GA := GA.setFar (X := w.heap.size) (by omega) (by omega) 1 (.slice (some ⟨DA, 0, none⟩) nDA cDA)
      replace BZ := BZ.setCell (p := ⟨w.heap.size, 1, none⟩) (by simp only []; omega) (.slice (some ⟨DA, 0, none⟩) nDA cDA)
      replace q0 := q0.set 2 (.int .i64 KA)
      replace lb := lb.setOther (B' := w.heap.size) (by omega) 2 (.int .i64 KA)
      replace GA := GA.setFar (X := w.heap.size) (by omega) (by omega) 2 (.int .i64 KA)
      replace BZ := BZ.setCell (p := ⟨w.heap.size, 2, none⟩) (by simp only []; omega) (.int .i64 KA)
      obtain ⟨W5, hW5⟩ : ∃ W, W = (((w4.setCell ⟨w.heap.size, 0, none⟩ (.slice (some ⟨BA, 0, none⟩) nCA cCA)).setCell ⟨w.heap.size, 1, none⟩ (.slice (some ⟨DA, 0, none⟩) nDA cDA)).setCell ⟨w.heap.size, 2, none⟩ (.int .i64 KA)) := ⟨_, rfl⟩
      rw [← hW5]
      rw [← hW5] at BZ q0 lb GA
      clear hW5
      clear hSS
      have hSS : (fun X : World => True) W5 ∧ True := ⟨trivial, trivial⟩
      refine hK.out _ _ ⟨hSS.1, fun _ => trivial⟩ ?_
      clear hK
      refine wpAnyE_one (i := 6) (by kernel_rfl) rfl (fun Kn hK => ?_)
      have hc := lit_cell (xs := [0, 1, -1, 2, 7, 10000000, 10000001, -9223372036854775808]) lb (j := j) (by simp only [List.length_cons, List.length_nil]; omega)
      generalize ([0, 1, -1, 2, 7, 10000000, 10000001, -9223372036854775808] : List Int)[j]?.getD 0 = y at hc
      go_simp
      clear hc
      clear hSS
      have hSS : (fun X : World => True) W5 ∧ True := ⟨trivial, trivial⟩
      refine hK.out _ _ ⟨hSS.1, fun _ => trivial⟩ ?_
      clear hK
      refine tkL (i := 8) rfl hSS ?_
      refine wpAnyE_done (by kernel_rfl) ?_ _
      clear hSS
      go_wp2
      obtain ⟨g0, g1, g2, _, _, _⟩ := q0.trio
      exact bodyPost_ret (v := .tuple #[formV (some ⟨BA, 0, none⟩) nCA cCA (some ⟨DA, 0, none⟩) nDA cDA KA, .int .i64 y]) (by simp [results, Try.results19, go_sem, g0, g1, g2]) rfl ⟨_, nCA, cCA, _, nDA, cDA, (LCA, LDA, KA), y, rfl, BZ, GA⟩

end Go.Proofs.Ytjhbapgpeimlhaa
