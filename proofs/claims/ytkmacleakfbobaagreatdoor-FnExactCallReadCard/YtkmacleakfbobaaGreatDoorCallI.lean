/-
  The text of a call, as the program writes it: the same. Lengths at most 1048576; the library's table of powers of ten is as its text lays it.
-/
import Derived.Test.YtkmacleakfbobaaGreatDoorCallT
import Derived.Test.YtkmacleakfbobaaGreatDoorTxtI
namespace Go.Proofs.YtkmacleakfbobaaGreatDoor
open Go.RowKit
set_option linter.unusedVariables false
set_option maxRecDepth 100000

theorem one_intsC (w : World) (x : Int) (t : TypeId) : Ints (w.alloc (.cells #[.int .i64 x] t)) (some ⟨w.heap.size, 0, none⟩) 1 [x] :=
  ⟨rfl, fun i hi => ⟨w.heap.size, 0, rfl, by
    obtain rfl : i = 0 := by omega
    simp [go_sem]⟩⟩
theorem bet_oneC (x lo hi : Int) : betB lo hi [x] = inB x lo hi := by simp [betB]

/-- The words of a call. -/
def cwordsL (t1 t2 t3 : ByteArray) (zs : List Int) : List ByteArray := [⟨wClient.toArray⟩, t1, ⟨wCall.toArray⟩, t2, ⟨wAct.toArray⟩, t3, ⟨wWith.toArray⟩] ++ zs.map fun z => ⟨(Lib.itoa z).toArray⟩
theorem cwords_step {t1 t2 t3 : ByteArray} {zs : List Int} {k : Nat} (h : k < zs.length) : cwordsL t1 t2 t3 (zs.take (k + 1)) = cwordsL t1 t2 t3 (zs.take k) ++ [⟨(Lib.itoa (zs[k]?.getD 0)).toArray⟩] := by
  rw [cwordsL, cwordsL, List.take_succ_eq_append_getElem h, List.getElem?_eq_getElem h, List.map_append, List.append_assoc]
  rfl
theorem cwords_join (cl sq ac : Int) (zs : List Int) : Lib.join ((cwordsL ⟨(Lib.itoa cl).toArray⟩ ⟨(Lib.itoa sq).toArray⟩ ⟨(Lib.itoa ac).toArray⟩ zs).map (·.data.toList)) [32] = callL cl sq ac zs := by
  rw [cwordsL, List.cons_append, List.map_cons, Lib.join_cons, callL, tailL]
  simp [Lib.joinTail, List.map_map, Function.comp_def]
theorem JT.lit7 (w : World) (x1 x2 x3 x4 x5 x6 x7 : ByteArray) : JT w (.slice (some ⟨w.heap.size, 0, none⟩) 7 7) [x1, x2, x3, x4, x5, x6, x7] (w.alloc (.cells #[.string x1, .string x2, .string x3, .string x4, .string x5, .string x6, .string x7] 9)) :=
  ⟨(Below.refl _ _).alloc (Nat.le_refl _) _, World.ownsRow_lit w #[.string x1, .string x2, .string x3, .string x4, .string x5, .string x6, .string x7] 7 (Nat.le_refl _) (by unfold maxLen; omega) rfl⟩

set_option maxHeartbeats 6400000 in
theorem ictext_any (cl sq ac : Int) (a : Option Addr) (n cap : Nat) (zs : List Int) (w : World) (hC : Ints w a n zs) (hn : n ≤ 1048576) (hT : Lib.TabBelow Tryz.prog w.heap.size w "internal/strconv.uint64pow10" .u64 Lib.pow10Tab) :
    Calls Tryz.prog 23 #[clV cl sq ac a n cap] w fun e w' => e = .returned (.string ⟨(callText cl sq ac n zs).toArray⟩) ∧ Below w.heap.size w w' := by
  have HTB : Hid _ := hT
  clear hT
  have q_0 := Cel.new w [.int .i64 cl, .int .i64 sq, .int .i64 ac, .slice a n cap] 24
  have B_0 := (Below.refl w.heap.size w).alloc (Nat.le_refl _) (.cells #[.int .i64 cl, .int .i64 sq, .int .i64 ac, .slice a n cap] 24)
  have q_s := q_0.alloc (.cells #[.int .i64 sq] 3)
  have B_s := B_0.alloc B_0.size (.cells #[.int .i64 sq] 3)
  have i_s := one_intsC (w.alloc (.cells #[.int .i64 cl, .int .i64 sq, .int .i64 ac, .slice a n cap] 24)) sq 3
  rw [World.size_alloc] at i_s
  obtain ⟨i0, hi, hz0, hz1, hz2⟩ := info_parts Tryz.infoStr
  obtain ⟨x1, hx1⟩ : ∃ x, x = decide (0 ≤ cl ∧ cl < 4) := ⟨_, rfl⟩
  obtain ⟨x2, hx2⟩ : ∃ x, x = betB 1 300 [sq] := ⟨_, rfl⟩
  obtain ⟨x3, hx3⟩ : ∃ x, x = decide (0 ≤ ac ∧ ac < 4) := ⟨_, rfl⟩
  obtain ⟨x4, hx4⟩ : ∃ x, x = okN 2 9 n zs := ⟨_, rfl⟩
  have pl : ∀ z : Int, decide (0 ≤ z ∧ z < 4) = inB z 0 3 := fun z => by
    cases h : inB z 0 3
    · have := inB_not.1 h; simp; omega
    · have := inB_iff.1 h; simp; omega
  have HB : Hid (callOkB cl sq ac n zs = (x1 && (x2 && (x3 && x4)))) := by show _ = _; rw [callOkB, hx1, hx2, hx3, hx4, bet_oneC, pl, pl]
  have H1 : Hid _ := hx1
  have H2 : Hid _ := hx2
  have H3 : Hid _ := hx3
  have H4 : Hid _ := hx4
  clear hx1 hx2 hx3 hx4 pl
  go_enter Tryz.func23, Tryz.ntmps23
  go_wp2_with fail
  refine (place_any _ _ _).mono ?_
  rintro e w1 ⟨rfl, rfl⟩
  rw [← H1.out]
  cases x1
  · go_wp2
    go_ret
    exact ⟨ret_str (callText_no (by rw [HB.out]; rfl)).symm, B_0⟩
  go_wp2_with fail
  refine (between_any _ _ _ [sq] _ _ _ i_s (by omega)).mono ?_
  rintro e w1 ⟨rfl, rfl⟩
  rw [← H2.out]
  clear i_s q_0
  cases x2
  · go_wp2
    go_ret
    exact ⟨ret_str (callText_no (by rw [HB.out]; rfl)).symm, B_s⟩
  go_wp2_with fail
  refine (place_any _ _ _).mono ?_
  rintro e w1 ⟨rfl, rfl⟩
  rw [← H3.out]
  cases x3
  · go_wp2
    go_ret
    exact ⟨ret_str (callText_no (by rw [HB.out]; rfl)).symm, B_s⟩
  go_wp2_with fail
  refine (iarg_any _ _ _ zs _ (hC.below B_s) hn).mono ?_
  rintro e w1 ⟨rfl, rfl⟩
  rw [← H4.out]
  cases x4
  · go_wp2
    go_ret
    exact ⟨ret_str (callText_no (by rw [HB.out]; rfl)).symm, B_s⟩
  have b1 := of_decide_eq_true H1.out.symm
  have b2 := inB_iff.1 ((bet_oneC sq 1 300).symm.trans H2.out.symm)
  have b3 := of_decide_eq_true H3.out.symm
  have hn2 : (n : Int) = 2 := by
    by_cases h : (n : Int) = 2
    · exact h
    · have := H4.out; rw [okN_not h] at this; cases this
  have hal : allB 9 zs = true := by have := H4.out; rw [okN_is hn2] at this; exact this.symm
  obtain rfl : n = 2 := by omega
  have BZ : Hid (∀ i : Nat, -9 ≤ zs[i]?.getD 0 ∧ zs[i]?.getD 0 ≤ 9) := allB_bnd' (by omega) hal
  have HL : Hid (zs.length = 2) := hC.1
  have HT : Hid (callText cl sq ac 2 zs = callL cl sq ac zs) := callText_yes (by rw [HB.out]; rfl)
  clear hal hn2 HB H1 H2 H3 H4 B_0
  obtain ⟨b, off, rfl, _⟩ := hC.pos (by omega)
  have l1 := Lib.itoa_length_le cl (by omega) (by omega)
  obtain ⟨T1, e1⟩ : ∃ T : ByteArray, T = ⟨(Lib.itoa cl).toArray⟩ := ⟨_, rfl⟩
  have E1 : Hid _ := e1
  have L1 : Hid _ := l1
  clear l1 e1
  have l2 := Lib.itoa_length_le sq (by omega) (by omega)
  obtain ⟨T2, e2⟩ : ∃ T : ByteArray, T = ⟨(Lib.itoa sq).toArray⟩ := ⟨_, rfl⟩
  have E2 : Hid _ := e2
  have L2 : Hid _ := l2
  clear l2 e2
  have l3 := Lib.itoa_length_le ac (by omega) (by omega)
  obtain ⟨T3, e3⟩ : ∃ T : ByteArray, T = ⟨(Lib.itoa ac).toArray⟩ := ⟨_, rfl⟩
  have E3 : Hid _ := e3
  have L3 : Hid _ := l3
  clear l3 e3
  obtain ⟨W, hW⟩ : ∃ W, W = (w.alloc (.cells #[.int .i64 cl, .int .i64 sq, .int .i64 ac, .slice (some ⟨b, off, none⟩) 2 cap] 24)).alloc (.cells #[.int .i64 sq] 3) := ⟨_, rfl⟩
  have CC : Hid (∀ X : World, Cel X w.heap.size [.int .i64 cl, .int .i64 sq, .int .i64 ac, .slice (some ⟨b, off, none⟩) 2 cap] 24 → X.cell? ⟨w.heap.size, 0, none⟩ = some (.int .i64 cl) ∧ X.cell? ⟨w.heap.size, 1, none⟩ = some (.int .i64 sq) ∧ X.cell? ⟨w.heap.size, 2, none⟩ = some (.int .i64 ac)) := fun X hq => ⟨hq.cell 0, hq.cell 1, hq.cell 2⟩
  rw [← hW] at q_s B_s ⊢
  clear hW
  go_upto_region 3 with fail
  have hS0 : (W.drew.cell? ⟨w.heap.size, 0, none⟩ = some (.int .i64 cl) ∧ W.drew.cell? ⟨w.heap.size, 1, none⟩ = some (.int .i64 sq) ∧ W.drew.cell? ⟨w.heap.size, 2, none⟩ = some (.int .i64 ac)) ∧ True := ⟨CC.out W q_s, trivial⟩
  refine wp_region_ends (fun X => X.cell? ⟨w.heap.size, 0, none⟩ = some (.int .i64 cl) ∧ X.cell? ⟨w.heap.size, 1, none⟩ = some (.int .i64 sq) ∧ X.cell? ⟨w.heap.size, 2, none⟩ = some (.int .i64 ac)) (fun _ => True) 10 (by kernel_rfl) ?_
  refine wpAnyE_take0 (i := 0) (v := ?v0) rfl (by kernel_rfl) (by kernel_rfl) (by kernel_rfl) (by decide) (fun _ _ _ h => h) (Or.inl ⟨by rfl, ?hy0⟩) hS0 ?_
  case hy0 => (intro wz hSw; (try dsimp only at hSw); go_simp; try (with_reducible rfl))
  refine wpAnyE_take0 (i := 1) (v := ?v1) rfl (by kernel_rfl) (by kernel_rfl) (by kernel_rfl) (by decide) (fun _ _ _ h => h) (Or.inl ⟨by rfl, ?hy1⟩) hS0 ?_
  case hy1 => (intro wz hSw; (try dsimp only at hSw); go_simp; try (with_reducible rfl))
  refine wpAnyE_take0 (i := 3) (v := ?v3) rfl (by kernel_rfl) (by kernel_rfl) (by kernel_rfl) (by decide) (fun _ _ _ h => h) (Or.inl ⟨by rfl, ?hy3⟩) hS0 ?_
  case hy3 => (intro wz hSw; (try dsimp only at hSw); go_simp; try (with_reducible rfl))
  refine wpAnyE_take0 (i := 4) (v := ?v4) rfl (by kernel_rfl) (by kernel_rfl) (by kernel_rfl) (by decide) (fun _ _ _ h => h) (Or.inl ⟨by rfl, ?hy4⟩) hS0 ?_
  case hy4 => (intro wz hSw; (try dsimp only at hSw); go_simp; try (with_reducible rfl))
  refine wpAnyE_take0 (i := 6) (v := ?v6) rfl (by kernel_rfl) (by kernel_rfl) (by kernel_rfl) (by decide) (fun _ _ _ h => h) (Or.inl ⟨by rfl, ?hy6⟩) hS0 ?_
  case hy6 => (intro wz hSw; (try dsimp only at hSw); go_simp; try (with_reducible rfl))
  refine wpAnyE_take0 (i := 7) (v := ?v7) rfl (by kernel_rfl) (by kernel_rfl) (by kernel_rfl) (by decide) (fun _ _ _ h => h) (Or.inl ⟨by rfl, ?hy7⟩) hS0 ?_
  case hy7 => (intro wz hSw; (try dsimp only at hSw); go_simp; try (with_reducible rfl))
  refine wpAnyE_one (i := 2) (by kernel_rfl) rfl (fun Kn hK => ?_)
  go_simp
  refine (Tryz.strconv_Itoa cl (by omega) (by omega) _ (HTB.out _ (by exact Below.drew B_s))).mono ?_
  rintro ee w1 ⟨rfl, qq, os, hw1⟩
  rw [← E1.out]
  have bd_1 : Below W.drew.heap.size W.drew w1 := by rw [hw1]; exact Lib.below_grow _ _ (Nat.le_refl _) _ _
  clear hw1
  have b_1 := below_of_drew bd_1
  have B_1 := B_s.trans (b_1.mono B_s.size)
  have q_1 := q_s.below b_1
  have hS1 : (w1.cell? ⟨w.heap.size, 0, none⟩ = some (.int .i64 cl) ∧ w1.cell? ⟨w.heap.size, 1, none⟩ = some (.int .i64 sq) ∧ w1.cell? ⟨w.heap.size, 2, none⟩ = some (.int .i64 ac)) ∧ True := ⟨CC.out w1 q_1, trivial⟩
  dsimp only
  refine hK.out _ _ ⟨hS1.1, fun _ => trivial⟩ ?_
  clear hK hS0 B_s q_s b_1 bd_1
  refine wpAnyE_one (i := 5) (by kernel_rfl) rfl (fun Kn hK => ?_)
  go_simp
  refine (Tryz.strconv_Itoa sq (by omega) (by omega) _ (HTB.out _ (by exact B_1))).mono ?_
  rintro ee w2 ⟨rfl, qq, os, hw2⟩
  rw [← E2.out]
  have bd_2 : Below w1.heap.size w1 w2 := by rw [hw2]; exact Lib.below_grow _ _ (Nat.le_refl _) _ _
  clear hw2
  have b_2 := bd_2
  have B_2 := B_1.trans (b_2.mono B_1.size)
  have q_2 := q_1.below b_2
  have hS2 : (w2.cell? ⟨w.heap.size, 0, none⟩ = some (.int .i64 cl) ∧ w2.cell? ⟨w.heap.size, 1, none⟩ = some (.int .i64 sq) ∧ w2.cell? ⟨w.heap.size, 2, none⟩ = some (.int .i64 ac)) ∧ True := ⟨CC.out w2 q_2, trivial⟩
  dsimp only
  refine hK.out _ _ ⟨hS2.1, fun _ => trivial⟩ ?_
  clear hK hS1 B_1 q_1 b_2 bd_2
  refine wpAnyE_one (i := 8) (by kernel_rfl) rfl (fun Kn hK => ?_)
  go_simp
  refine (Tryz.strconv_Itoa ac (by omega) (by omega) _ (HTB.out _ (by exact B_2))).mono ?_
  rintro ee w3 ⟨rfl, qq, os, hw3⟩
  rw [← E3.out]
  have bd_3 : Below w2.heap.size w2 w3 := by rw [hw3]; exact Lib.below_grow _ _ (Nat.le_refl _) _ _
  clear hw3
  have b_3 := bd_3
  have B_3 := B_2.trans (b_3.mono B_2.size)
  have q_3 := q_2.below b_3
  have hS3 : (w3.cell? ⟨w.heap.size, 0, none⟩ = some (.int .i64 cl) ∧ w3.cell? ⟨w.heap.size, 1, none⟩ = some (.int .i64 sq) ∧ w3.cell? ⟨w.heap.size, 2, none⟩ = some (.int .i64 ac)) ∧ True := ⟨CC.out w3 q_3, trivial⟩
  dsimp only
  refine hK.out _ _ ⟨hS3.1, fun _ => trivial⟩ ?_
  clear hK hS2 B_2 q_2 b_3 bd_3
  refine wpAnyE_one (i := 9) (by kernel_rfl) rfl (fun Kn hK => ?_)
  go_simp
  have J0 := JT.lit7 w3 ⟨#[99, 108, 105, 101, 110, 116]⟩ T1 ⟨#[99, 97, 108, 108]⟩ T2 ⟨#[97, 99, 116]⟩ T3 ⟨#[119, 105, 116, 104]⟩
  have q_4 := q_3.below J0.b
  refine hK.out _ _ ⟨CC.out _ q_4, fun _ => trivial⟩ ?_
  clear hK hS3
  refine wpAnyE_one (i := 10) (by kernel_rfl) rfl (fun Kn hK => ?_)
  go_simp
  refine hK.out _ _ ⟨CC.out _ q_4, fun _ => trivial⟩ ?_
  clear hK
  refine wpAnyE_done (by kernel_rfl) ?_ _
  have d3 := q_4.cell 3
  simp only [List.getElem?_cons_zero, List.getElem?_cons_succ] at d3
  have hCW := (hC.below B_3)
  clear hC q_4
  have hltW := q_3.lt
  go_wp2_with fail
  go_loopw [3, 5, 42] (fun v _ i wr => ∃ (k : Nat) (xs : List ByteArray), k ≤ 2 ∧ i = .int .i64 k ∧ xs.length = 7 + k ∧ xs = cwordsL T1 T2 T3 (zs.take k) ∧ JT w3 v xs wr) (fun _ _ i _ => 2 - (intOf i).toNat)
  case atStart => exact ⟨0, _, Nat.zero_le _, rfl, rfl, rfl, J0⟩
  case round =>
    obtain ⟨k, xs, hk, rfl, hxl, hxs, j⟩ := hrel
    have HXL : Hid _ := hxl
    have HXS : Hid _ := hxs
    clear hxl hxs
    have hjb := j.b.size
    by_cases hlt : k < 2
    · obtain ⟨b', off', hbo, hcell⟩ := (hCW.below j.b).pos (by omega)
      obtain ⟨rfl, rfl⟩ : b = b' ∧ off = off' := by simpa using hbo
      have hck : wr.cell? ⟨b, off + k, none⟩ = some (.int .i64 (zs[k]?.getD 0)) := by rw [hcell k hlt]; simp
      have HS : Hid _ := cwords_step (t1 := T1) (t2 := T2) (t3 := T3) (zs := zs) (k := k) (by rw [HL.out]; exact hlt)
      have hz := BZ.out k
      generalize HG : zs[k]?.getD 0 = z at *
      clear HG hcell hbo
      obtain ⟨z1, z2⟩ := hz
      have tab : Lib.TabIs Tryz.prog wr "internal/strconv.uint64pow10" .u64 Lib.pow10Tab := HTB.out wr (B_3.trans (j.b.mono B_3.size))
      go_wp2_with fail
      refine (Tryz.strconv_Itoa z (by omega) (by omega) _ tab).mono ?_
      rintro e w2 ⟨rfl, q, os, hw2⟩
      have b2 : Below wr.heap.size wr w2 := by rw [hw2]; exact Lib.below_grow _ _ (Nat.le_refl _) _ _
      clear hw2 tab
      have j2 := j.below b2
      have jo := j2.o
      rw [HXL.out] at jo
      have hjb2 := j2.b.size
      clear b2 j
      obtain ⟨I, hI⟩ : ∃ I : ByteArray, I = ⟨(Lib.itoa z).toArray⟩ := ⟨_, rfl⟩
      rw [← hI]
      have HI : Hid _ := hI
      clear hI
      go_wp2_with (at_builtin; go_must (refine wpList_append_lies _ rfl (.tmp 46) (.tmp 49) 30 rfl w3.heap.size 9 i0 (.string ⟨#[]⟩) 1 16 Tryz.underlying30 hi hz0 hz1 hz2 rfl (by decide) _ _ _ rfl (jo.alloc _) ⟨w2.heap.size, 0, none⟩ 1 1 [.string I] rfl rfl (newsS _ _ _) (oneS _) (by omega) (by unfold maxLen; omega) (by omega) (by rw [World.size_alloc]; omega) _ rfl ?_); intro g cp w4 hown hgrow hat hlt1)
      have j3 := j2.app HXL.out hown hgrow
      clear hown hgrow jo j2 hat
      go_wp2
      go_roundw
      case rel => exact ⟨k + 1, _, by omega, by go_num, by rw [List.length_append, HXL.out]; simp; omega, by rw [HS.out, HXS.out, HI.out], j3⟩
      case measure => simp [intOf]; omega
    · obtain rfl : k = 2 := by omega
      obtain ⟨g, gc, rfl, hcap, hg, hcs⟩ := j.cells HXL.out (by omega)
      have HXE : Hid (xs = cwordsL T1 T2 T3 zs) := by show xs = _; rw [HXS.out, List.take_of_length_le (by rw [HL.out]; exact Nat.le_refl _)]
      have HJE : Hid (Lib.join (xs.map (·.data.toList)) [32] = callL cl sq ac zs) := by show _ = _; rw [HXE.out, E1.out, E2.out, E3.out]; exact cwords_join cl sq ac zs
      have HJ := Tryz.strings_Join g 0 gc xs ⟨#[32]⟩ wr hcs hg (by rw [HXL.out]; omega) (by rw [HXL.out]; exact hcap) (by
        rw [show (⟨#[32]⟩ : ByteArray).data.toList = [32] from rfl, HJE.out, callL]
        have t1 := tail_len (zs := zs) (fun i => by have := BZ.out i; omega) zs.length (Nat.le_refl _)
        rw [List.take_length, HL.out] at t1
        have u1 := L1.out
        have u2 := L2.out
        have u3 := L3.out
        simp only [List.length_append, List.length_cons, List.length_nil, wClient, wCall, wAct, wWith]
        omega)
      rw [HXL.out] at HJ
      have jb := j.b
      clear hcs hcap hg j
      go_wp2_with fail
      refine HJ.mono ?_
      rintro e w2 ⟨rfl, b2⟩
      have B2 := (B_3.trans (jb.mono B_3.size)).trans (b2.mono (by omega))
      go_wp2
      go_ret
      refine ⟨?_, B2⟩
      rw [HT.out, ← HJE.out]
      rfl

end Go.Proofs.YtkmacleakfbobaaGreatDoor
