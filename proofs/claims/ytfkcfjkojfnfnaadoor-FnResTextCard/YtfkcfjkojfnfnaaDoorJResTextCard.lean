/-
  For all bytes FnResText returns true, and what came in reads behind the call as it did. The library's variables that are listed are as its text lays them; no other condition. (the text of what came of an act there and back)
-/
import Derived.Test.YtfkcfjkojfnfnaaDoorDrRs
import Derived.Test.YtfkcfjkojfnfnaaDoorDrBe
import Derived.Test.YtfkcfjkojfnfnaaDoorRdM
import Derived.Test.YtfkcfjkojfnfnaaDoorRdL
import Derived.Test.YtfkcfjkojfnfnaaDoorResOkW
import Derived.Test.YtfkcfjkojfnfnaaDoorJResTextCardB
import Derived.Test.YtfkcfjkojfnfnaaDoorFvC
import Derived.Test.YtfkcfjkojfnfnaaDoorOpen
import Derived.Test.YtfkcfjkojfnfnaaDoorTie
import Derived.Test.YtfkcfjkojfnfnaaDoorCards
import Derived.Stop.LaidErr
import Derived.Lib.LaidTab
import Derived.LaidMore
import Derived.Lay
import Derived.SevenTiedAt
import Derived.Stop.Joined
import Derived.HandedShaped
import Derived.ChangeMaps5
namespace Go.Proofs.YtfkcfjkojfnfnaaDoor.fnResText
open Go.ChangeShapes Go.WideShapes Go.ChangeAt Go.RowKit Go.Deep
set_option linter.unusedVariables false
set_option maxRecDepth 100000

theorem open_bytesT {H : Type} {enc : TypeId × Value → H} {W : World} {r : Reach} {b0 : Nat} {v : Value} {d : DataW H} {p : List MemPlace}
    (hv : Value.okWide Tryd.prog W r b0 22 v) (h : DataW.Trod enc Tryd.prog W 0 (fun _ => true) true 22 v d p) : ∃ a n cap zs, v = .slice a n cap ∧ BInts W a n zs ∧ (n ≤ cap ∧ cap ≤ maxLen) := by
  obtain ⟨a0, len0, cap0, rfl⟩ := okWide_slice Tryd.underlying22 hv
  obtain ⟨fuel, hf⟩ := h
  rcases open_ints Tryd.underlying22 Tryd.underlying5 (by kernel_rfl) hf with ⟨hcs, _⟩ | ⟨x, l, c, zs, hcs, _, hl, hm, hz, _, hcell, hwz⟩
  · simp [Value.cells] at hcs
    obtain ⟨rfl, rfl, rfl⟩ := hcs
    exact ⟨none, 0, 0, [], rfl, ⟨rfl, fun i hi => by omega, fun i => by simp⟩, by omega, by unfold maxLen; omega⟩
  · simp [Value.cells] at hcs
    obtain ⟨rfl, rfl, rfl⟩ := hcs
    have hz' : zs.length = cap0 := by simpa using hz
    refine ⟨some x, len0, cap0, zs.take len0, rfl, ⟨by rw [List.length_take]; omega, fun i hi => ?_, fun i => ?_⟩, hl, hm⟩
    · obtain ⟨b, off, spot⟩ := x
      have hc0 := hcell 0 (by omega)
      have hspot : spot = none := by simpa [Addr.add] using World.cell?_spot hc0
      subst hspot
      refine ⟨b, off, rfl, ?_⟩
      have hc := hcell i (by omega)
      have : W.cell? ⟨b, off + i, none⟩ = some (.int .u8 (zs.getD i 0)) := by
        by_cases h0 : i = 0
        · subst h0; simpa [Addr.add] using hc
        · simpa [Addr.add, h0] using hc
      rw [this]
      simp [hi]
    · by_cases hi : i < (zs.take len0).length
      · rw [List.getElem?_eq_getElem hi]
        have := hwz _ (List.mem_of_mem_take (List.getElem_mem hi))
        simpa [Lit.wf, IntKind.min, IntKind.max, IntKind.signed, IntKind.bits] using this
      · rw [List.getElem?_eq_none (by omega)]
        simp

theorem ba_ne (S : ByteArray) : (S != S) = false := by
  have h : (S == S) = true := by
    cases S with | mk d => show (d == d) = true; simp
  simp [bne, h]
theorem itoa13 (z : Int) (h : -999999999999 ≤ z ∧ z ≤ 999999999999) : (Lib.itoa z).length ≤ 13 := by
  rw [Lib.itoa]
  split
  · rw [List.length_cons]
    have := dec_len 11 _ (show z.natAbs < 10 ^ 12 by omega)
    have e : (-z).toNat = z.natAbs := by omega
    first | omega | (rw [e]; omega)
  · have := dec_len 11 z.toNat (by omega)
    omega
theorem tail14 {zs : List Int} (hb : ∀ i : Nat, -999999999999 ≤ zs[i]?.getD 0 ∧ zs[i]?.getD 0 ≤ 999999999999) : ∀ k, k ≤ zs.length → (tailL (zs.take k)).length ≤ 14 * k
  | 0, _ => by simp [tailL, Lib.joinTail]
  | k + 1, h => by
    have ih := tail14 hb k (by omega)
    have := itoa13 (zs[k]?.getD 0) (hb k)
    rw [tail_step (by omega), List.length_append, List.length_append]
    simp only [List.length_cons, List.length_nil]
    omega
theorem text_len {c : Int} {n : Nat} {zs : List Int} (hn : zs.length = n) : (resText c n zs).length ≤ 120 := by
  cases h : resOkB c n zs
  · rw [resText_no h]; simp
  · have hb := ok_bound h
    rw [resText_yes h, List.length_append]
    have h7 := word_len c
    have h6 : n ≤ 6 := by
      unfold resOkB at h
      simp only [Bool.and_eq_true, decide_eq_true_eq] at h
      exact h.2.2.1
    have ht := tail14 (zs := zs) (fun i => by
      by_cases hi : i < zs.length
      · rw [List.getElem?_eq_getElem hi]; exact hb.2 _ (List.getElem_mem hi)
      · rw [List.getElem?_eq_none (by omega)]; simp) zs.length (Nat.le_refl _)
    rw [List.take_length] at ht
    omega
theorem rdF_text {l : List UInt8} {c : Int} {xs : List Int} (h : rdF l = (c, xs, true)) : resText c xs.length xs = l := by
  rw [rdF] at h
  split at h
  · rw [rdI] at h
    cases e : atoiS (wordsOf l).tail with
    | none => rw [e] at h; simp at h
    | some ys =>
      rw [e] at h
      simp only at h
      split at h
      · rename_i hc
        simp only [Prod.mk.injEq] at h
        obtain ⟨rfl, rfl, _⟩ := h
        exact hc.2
      · simp at h
  · simp at h
theorem rdF_back {c : Int} {n : Nat} {zs : List Int} (hn : zs.length = n) (h : resOkB c n zs = true) : rdF (resText c n zs) = (c, zs, true) := by
  subst hn
  have hb := ok_bound h
  have hw := text_words h
  rw [rdF, if_pos (text_len rfl), rdI, hw]
  have ha := atoiS_back zs hb.2
  have hc : codeTo (wordL c) 4 = c := by
    rcases (show c = 1 ∨ c = 2 ∨ c = 3 from by omega) with rfl | rfl | rfl <;> decide
  show (match atoiS (zs.map Lib.itoa) with | none => _ | some xs => _) = _
  rw [ha]
  show (if codeTo (wordL c) 4 ≠ 0 ∧ resText (codeTo (wordL c) 4) zs.length zs = resText c zs.length zs then (codeTo (wordL c) 4, zs, true) else (0, [], false)) = _
  rw [hc, if_pos ⟨by omega, rfl⟩]
theorem empty_is {l : List UInt8} : (⟨l.toArray⟩ : ByteArray).toList.isEmpty = l.isEmpty := by simp [ByteArray.toList_mk]
theorem text_no {c : Int} {n : Nat} {zs : List Int} (h : resText c n zs = []) : fullB (resText c n zs) = false := by rw [h]; simp [fullB, ByteArray.toList_mk]
theorem text_yes {c : Int} {n : Nat} {zs : List Int} (h : resText c n zs ≠ []) : fullB (resText c n zs) = true := by
  cases e : resText c n zs with
  | nil => exact absurd e h
  | cons x l => simp [fullB, ByteArray.toList_mk]
set_option maxHeartbeats 1600000 in
theorem dResText (a : Option Addr) (n cap : Nat) (bs : List Int) (w : World) (h : BInts w a n bs) (hn : n ≤ cap) (hn1 : n ≤ 1048576) (hc : cap ≤ maxLen) :
    Calls Tryd.prog 16 #[.slice a n cap] w fun e w' => ∃ c ta tn tc T, e = .returned (resP c ta tn tc) ∧ Below w.heap.size w w' ∧ Ints w' ta tn T ∧ tn ≤ 7 := by
  have q0 := Cel.new w [.int .i64 0, .slice none 0 0] 36
  have al := (Below.refl w.heap.size w).alloc (Nat.le_refl _) (.cells #[.int .i64 0, .slice none 0 0] 36)
  go_enter Tryd.func16, Tryd.ntmps16
  go_wp2_with fail
  refine (open_any _ _ _ bs _ (h.below al) hn hn1 hc).mono ?_
  rintro e w1 ⟨R, n', cap2, bs', rfl, b1, hR, r1⟩
  rw [World.size_alloc] at hR
  have hRl := r1.c.lt
  have hw := (q0.below b1).lt
  go_wp2_with fail
  refine (res_f R a n' cap2 bs' 0 3 _ r1 (by omega) (by omega) (by omega) (by omega) r1.ha).mono ?_
  rintro e w2 ⟨c, ta, tn, tc, T, q, rfl, d⟩
  have lo := d.lo
  have n7 := d.n7
  have iT := d.i
  have q2 := (q0.below b1).touch d.t (by omega)
  have BB : Below w.heap.size w w2 := (al.trans (b1.mono al.size)).trans (d.t.below (by omega) (fun k hk => by omega))
  have g0 := q2.cell 0
  have g1 := q2.cell 1
  have f0 := q2.free 0
  have f1 := q2.free 1
  have ll := q2.lt
  simp only [List.getElem?_cons_zero, List.getElem?_cons_succ] at g0 g1
  clear r1 b1 al q0 d
  go_wp2
  exact bodyPost_ret (v := resP c ta tn tc) (by simp [results, Tryd.results16, go_sem, g0, g1]) rfl ⟨c, ta, tn, tc, T, rfl, (BB.setCell (Nat.le_refl _) _).setCell (Nat.le_refl _) _, (iT.setFar (fun b o e => by have := lo b o e; omega) 0 _).setFar (fun b o e => by have := lo b o e; omega) 1 _, n7⟩
set_option maxHeartbeats 1600000 in
theorem dResRead (a : Option Addr) (n cap : Nat) (bs : List Int) (w : World) (h : BInts w a n bs) (hn : n ≤ cap) (hn1 : n ≤ 1048576) (hc : cap ≤ maxLen) :
    Calls Tryd.prog 18 #[.slice a n cap] w fun e w' => ∃ l : List UInt8, e = .returned (.string ⟨l.toArray⟩) ∧ Below w.heap.size w w' ∧ l.length ≤ 1000 := by
  go_enter Tryd.func18, Tryd.ntmps18
  go_wp2_with fail
  refine (open_any _ _ _ bs _ h hn hn1 hc).mono ?_
  rintro e w1 ⟨R, n', cap2, bs', rfl, b1, hR, r1⟩
  have hRl := r1.c.lt
  go_wp2_with fail
  refine (res_f R a n' cap2 bs' 0 99 _ r1 (by omega) (by omega) (by omega) (by omega) r1.ha).mono ?_
  rintro e w2 ⟨c, ta, tn, tc, T, q, rfl, d⟩
  have n7 := d.n7
  have q0 := d.q0
  have q1 := d.q1
  have iT := d.i
  have t2 := d.t
  have r2 := d.r
  have z2 := t2.size
  clear d r1
  go_wp2_with fail
  refine (stext_any c ta tn tc T _ iT (by omega)).mono ?_
  rintro e w3 ⟨rfl, b3⟩
  have HS : Hid ((⟨(resText c tn T).toArray⟩ : ByteArray).size ≤ 120) := by
    show _ ≤ _
    have := text_len (c := c) iT.1
    simpa [ByteArray.size] using this
  obtain ⟨S, hS⟩ : ∃ S : ByteArray, S = ⟨(resText c tn T).toArray⟩ := ⟨_, rfl⟩
  rw [← hS] at HS ⊢
  have hS1 := HS.out
  have r3 := r2.below b3
  clear hS iT r2
  go_wp2_with fail
  refine (maybe_f R a n' cap2 bs' q S _ r3 (by omega) (by omega) (by omega) r3.ha).mono ?_
  rintro e w4 ⟨S2, q4, rfl, s4, t4, r4, x0, x1⟩
  have BB : Below w.heap.size w w4 := b1.trans (((t2.trans (Touch.of b3)).trans t4).below (by have := b1.size; omega) (fun k hk => by omega))
  obtain ⟨l, rfl, hl⟩ := bytes_ex S2
  clear r3 r4
  go_wp2
  go_ret
  exact ⟨l, rfl, BB, by omega⟩

set_option maxHeartbeats 6400000 in
theorem walk (w : World) (a : Option Addr) (n cap : Nat) (A0 : List Int) (hA0 : BInts w a n A0) (hn : n ≤ cap ∧ cap ≤ maxLen) (c : Option Addr) (m cap' : Nat) (B0 : List Int) (hB0 : BInts w c m B0) (hm : m ≤ cap' ∧ cap' ≤ maxLen) (hA : ReadsN w) (hP : Splits w) (hT : Lib.TabBelow Tryd.prog w.heap.size w "internal/strconv.uint64pow10" .u64 Lib.pow10Tab) :
    Calls Tryd.prog 4 #[.slice a n cap, .slice c m cap'] w fun e w' => e = .returned (.bool true) ∧ Below w.heap.size w w' := by
  obtain ⟨hn2, hn3⟩ := hn
  obtain ⟨hm2, hm3⟩ := hm
  by_cases hn1 : n ≤ 1048576
  · by_cases hm1 : m ≤ 1048576
    · have HTB : Hid _ := hT
      have HA : Hid _ := hA
      have HP : Hid _ := hP
      clear hT hA hP
      go_enter Tryd.func4, Tryd.ntmps4
      go_wp2_with fail
      refine (dResText _ _ _ A0 _ hA0 hn2 hn1 hn3).mono ?_
      rintro ee w1 ⟨c, ta, tn, tc, T, rfl, b1, hT, hn7⟩
      have BB := b1
      replace hB0 := hB0.below b1
      clear b1
      have HN : Hid (T.length = tn) := hT.1
      have al := (Below.refl (w1).heap.size (w1)).alloc (Nat.le_refl _) (.cells #[.int .i64 c, .slice ta tn tc] 36)
      replace BB := BB.trans (al.mono BB.size)
      replace hB0 := hB0.below al
      replace hT := hT.below al
      clear al
      have q5 := Cel.new (w1) [.int .i64 c, .slice ta tn tc] 36
      have g5_0 := q5.cell 0
      have g5_1 := q5.cell 1
      simp only [List.getElem?_cons_zero, List.getElem?_cons_succ] at g5_0 g5_1
      go_wp2_with fail
      obtain ⟨W2, hW2⟩ : ∃ W, W = (w1).alloc (.cells #[.int .i64 c, .slice ta tn tc] 36) := ⟨_, rfl⟩
      rw [← hW2]
      rw [← hW2] at hB0 hT q5 BB g5_0 g5_1
      clear hW2
      obtain ⟨X5, hX5⟩ : ∃ x, x = w1.heap.size := ⟨_, rfl⟩
      rw [← hX5]
      rw [← hX5] at q5 g5_0 g5_1
      clear hX5
      refine (itext_any c ta tn tc T _ hT (by omega) (fun X hX => HTB.out X (BB.trans (hX.mono BB.size)))).mono ?_
      rintro ee w3 ⟨rfl, b2⟩
      clear g5_0 g5_1
      replace BB := BB.trans (b2.mono BB.size)
      replace hB0 := hB0.below b2
      replace hT := hT.below b2
      replace q5 := q5.below b2
      clear b2
      obtain ⟨S, hS⟩ : ∃ S : ByteArray, S = ⟨(resText c tn T).toArray⟩ := ⟨_, rfl⟩
      have HS : Hid (S = ⟨(resText c tn T).toArray⟩) := hS
      rw [← hS]
      clear hS
      have g5_0 := q5.cell 0
      have g5_1 := q5.cell 1
      simp only [List.getElem?_cons_zero, List.getElem?_cons_succ] at g5_0 g5_1
      go_wp2_with fail
      refine (dResRead _ _ _ B0 _ hB0 hm2 hm1 hm3).mono ?_
      rintro ee w4 ⟨l, rfl, b3, hl⟩
      clear g5_0 g5_1
      replace BB := BB.trans (b3.mono BB.size)
      replace hB0 := hB0.below b3
      replace hT := hT.below b3
      replace q5 := q5.below b3
      clear b3
      clear hB0
      obtain ⟨⟨d, xs, ok⟩, hF⟩ : ∃ r, rdF l = r := ⟨_, rfl⟩
      have HF : Hid (rdF l = (d, xs, ok)) := hF
      obtain ⟨m2, hm4⟩ : ∃ n, xs.length = n := ⟨_, rfl⟩
      have HM : Hid (xs.length = m2) := hm4
      have hm6 : m2 ≤ 6 := by rw [← hm4]; exact rdF_small hF
      clear hF hm4
      obtain ⟨L, hL⟩ : ∃ L : ByteArray, L = ⟨l.toArray⟩ := ⟨_, rfl⟩
      have HL : Hid (L = ⟨l.toArray⟩) := hL
      have hl0 : l.length ≤ 1048576 := by omega
      have g5_0 := q5.cell 0
      have g5_1 := q5.cell 1
      simp only [List.getElem?_cons_zero, List.getElem?_cons_succ] at g5_0 g5_1
      go_wp2_with fail
      clear hL
      refine (iread_at HF.out HM.out _ hl0 (ReadsN.below HA.out BB) (Splits.below HP.out BB) (fun X hX => HTB.out X (BB.trans (hX.mono BB.size)))).mono ?_
      rintro ee w5 ⟨a1, c1, B1, rfl, b4, o1, _⟩
      clear g5_0 g5_1
      replace BB := BB.trans (b4.mono BB.size)
      replace hT := hT.below b4
      replace q5 := q5.below b4
      clear b4
      have hg := o1.ints
      clear o1
      rw [← HL.out]
      have al := (Below.refl (w5).heap.size (w5)).alloc (Nat.le_refl _) (.cells #[.int .i64 d, .slice a1 m2 c1] 36)
      replace BB := BB.trans (al.mono BB.size)
      replace hT := hT.below al
      replace hg := hg.below al
      replace q5 := q5.below al
      clear al
      have q8 := Cel.new (w5) [.int .i64 d, .slice a1 m2 c1] 36
      have g5_0 := q5.cell 0
      have g5_1 := q5.cell 1
      have g8_0 := q8.cell 0
      have g8_1 := q8.cell 1
      simp only [List.getElem?_cons_zero, List.getElem?_cons_succ] at g5_0 g5_1 g8_0 g8_1
      go_wp2_with fail
      obtain ⟨W6, hW6⟩ : ∃ W, W = (w5).alloc (.cells #[.int .i64 d, .slice a1 m2 c1] 36) := ⟨_, rfl⟩
      rw [← hW6]
      rw [← hW6] at hT hg q5 q8 BB g5_0 g5_1 g8_0 g8_1
      clear hW6
      obtain ⟨X8, hX8⟩ : ∃ x, x = w5.heap.size := ⟨_, rfl⟩
      rw [← hX8]
      rw [← hX8] at q8 g8_0 g8_1
      clear hX8
      rw [HL.out]
      refine (sread_at HF.out HM.out _).mono ?_
      rintro ee w7 ⟨a2, c2, rfl, b5, hw⟩
      clear g5_0 g5_1 g8_0 g8_1
      replace BB := BB.trans (b5.mono BB.size)
      replace hT := hT.below b5
      replace hg := hg.below b5
      replace q5 := q5.below b5
      replace q8 := q8.below b5
      clear b5
      rw [← HL.out]
      have al := (Below.refl (w7).heap.size (w7)).alloc (Nat.le_refl _) (.cells #[.int .i64 d, .slice a2 m2 c2] 36)
      replace BB := BB.trans (al.mono BB.size)
      replace hT := hT.below al
      replace hg := hg.below al
      replace hw := hw.below al
      replace q5 := q5.below al
      replace q8 := q8.below al
      clear al
      have q10 := Cel.new (w7) [.int .i64 d, .slice a2 m2 c2] 36
      have g5_0 := q5.cell 0
      have g5_1 := q5.cell 1
      have g8_0 := q8.cell 0
      have g8_1 := q8.cell 1
      have g10_0 := q10.cell 0
      have g10_1 := q10.cell 1
      simp only [List.getElem?_cons_zero, List.getElem?_cons_succ] at g5_0 g5_1 g8_0 g8_1 g10_0 g10_1
      go_wp2_with fail
      obtain ⟨W8, hW8⟩ : ∃ W, W = (w7).alloc (.cells #[.int .i64 d, .slice a2 m2 c2] 36) := ⟨_, rfl⟩
      rw [← hW8]
      rw [← hW8] at hT hg hw q5 q8 q10 BB g5_0 g5_1 g8_0 g8_1 g10_0 g10_1
      clear hW8
      obtain ⟨X10, hX10⟩ : ∃ x, x = w7.heap.size := ⟨_, rfl⟩
      rw [← hX10]
      rw [← hX10] at q10 g10_0 g10_1
      clear hX10
      refine (stext_any c ta tn tc T _ hT (by omega)).mono ?_
      rintro ee w9 ⟨rfl, b6⟩
      rw [← HS.out]
      have hSS1 : (S != S) = false := ba_ne S
      clear g5_0 g5_1 g8_0 g8_1 g10_0 g10_1
      replace BB := BB.trans (b6.mono BB.size)
      replace hT := hT.below b6
      replace hg := hg.below b6
      replace hw := hw.below b6
      replace q5 := q5.below b6
      replace q8 := q8.below b6
      replace q10 := q10.below b6
      clear b6
      have g5_0 := q5.cell 0
      have g5_1 := q5.cell 1
      have g8_0 := q8.cell 0
      have g8_1 := q8.cell 1
      have g10_0 := q10.cell 0
      have g10_1 := q10.cell 1
      simp only [List.getElem?_cons_zero, List.getElem?_cons_succ] at g5_0 g5_1 g8_0 g8_1 g10_0 g10_1
      go_wp2_with fail
      refine (coR_any d d _ _ _ _ _ _ xs xs _ hg hw (by omega) (by omega)).mono ?_
      rintro ee w10 ⟨rfl, b7⟩
      rw [coRB_same]
      have hok : (ok != ok) = false := by cases ok <;> rfl
      clear g5_0 g5_1 g8_0 g8_1 g10_0 g10_1
      replace BB := BB.trans (b7.mono BB.size)
      replace hT := hT.below b7
      replace hg := hg.below b7
      replace hw := hw.below b7
      replace q5 := q5.below b7
      replace q8 := q8.below b7
      replace q10 := q10.below b7
      clear b7
      clear hw q10
      cases ok
      · clear HF
        have g5_0 := q5.cell 0
        have g5_1 := q5.cell 1
        have g8_0 := q8.cell 0
        have g8_1 := q8.cell 1
        simp only [List.getElem?_cons_zero, List.getElem?_cons_succ] at g5_0 g5_1 g8_0 g8_1
        go_wp2_with fail
        refine (iresok_any c ta tn tc T _ hT (by omega) (fun X hX => HTB.out X (BB.trans (hX.mono BB.size)))).mono ?_
        rintro ee w11 ⟨rfl, b9⟩
        clear g5_0 g5_1 g8_0 g8_1
        replace BB := BB.trans (b9.mono BB.size)
        replace hT := hT.below b9
        replace hg := hg.below b9
        replace q5 := q5.below b9
        replace q8 := q8.below b9
        clear b9
        by_cases he : resText c tn T = []
        · have HE : Hid (S.toList.isEmpty = true) := by (show _ = _; rw [HS.out, empty_is, he]; rfl)
          rw [text_no he]
          have hE := HE.out
          clear he HS hT
          have hR2 : (⟨(resText 2 0 []).toArray⟩ : ByteArray) = ⟨#[115, 116, 111, 112, 112, 101, 100]⟩ := by decide
          have g5_0 := q5.cell 0
          have g5_1 := q5.cell 1
          have g8_0 := q8.cell 0
          have g8_1 := q8.cell 1
          simp only [List.getElem?_cons_zero, List.getElem?_cons_succ] at g5_0 g5_1 g8_0 g8_1
          go_wp2_with fail
          refine (itext_any 2 none 0 0 [] _ ⟨rfl, fun i hi => by omega⟩ (by omega) (fun X hX => HTB.out X (BB.trans (hX.mono BB.size)))).mono ?_
          rintro ee w12 ⟨rfl, bx⟩
          rw [hR2]
          clear g5_0 g5_1 g8_0 g8_1
          replace BB := BB.trans (bx.mono BB.size)
          replace hg := hg.below bx
          replace q5 := q5.below bx
          replace q8 := q8.below bx
          clear bx
          go_wp2
          go_ret
          exact ⟨rfl, BB⟩
        · have HE : Hid (S.toList.isEmpty = false) := by (show _ = _; rw [HS.out, empty_is]; simpa using he)
          rw [text_yes he]
          have hE := HE.out
          have HO : Hid (resOkB c tn T = true) := text_ok he
          clear he
          have g5_0 := q5.cell 0
          have g5_1 := q5.cell 1
          have g8_0 := q8.cell 0
          have g8_1 := q8.cell 1
          simp only [List.getElem?_cons_zero, List.getElem?_cons_succ] at g5_0 g5_1 g8_0 g8_1
          go_wp2_with fail
          rw [HS.out]
          refine (iread_at (rdF_back HN.out HO.out) HN.out _ (by have := text_len (c := c) HN.out; omega) (ReadsN.below HA.out BB) (Splits.below HP.out BB) (fun X hX => HTB.out X (BB.trans (hX.mono BB.size)))).mono ?_
          rintro ee w12 ⟨a3, c3, B3, rfl, by1, o3, _⟩
          clear g5_0 g5_1 g8_0 g8_1
          replace BB := BB.trans (by1.mono BB.size)
          replace hT := hT.below by1
          replace hg := hg.below by1
          replace q5 := q5.below by1
          replace q8 := q8.below by1
          clear by1
          have hk := o3.ints
          clear o3
          have al := (Below.refl (w12).heap.size (w12)).alloc (Nat.le_refl _) (.cells #[.int .i64 c, .slice a3 tn c3] 36)
          replace BB := BB.trans (al.mono BB.size)
          replace hT := hT.below al
          replace hg := hg.below al
          replace hk := hk.below al
          replace q5 := q5.below al
          replace q8 := q8.below al
          clear al
          have q12 := Cel.new (w12) [.int .i64 c, .slice a3 tn c3] 36
          have g5_0 := q5.cell 0
          have g5_1 := q5.cell 1
          have g8_0 := q8.cell 0
          have g8_1 := q8.cell 1
          have g12_0 := q12.cell 0
          have g12_1 := q12.cell 1
          simp only [List.getElem?_cons_zero, List.getElem?_cons_succ] at g5_0 g5_1 g8_0 g8_1 g12_0 g12_1
          go_wp2_with fail
          obtain ⟨W13, hW13⟩ : ∃ W, W = (w12).alloc (.cells #[.int .i64 c, .slice a3 tn c3] 36) := ⟨_, rfl⟩
          rw [← hW13]
          rw [← hW13] at hT hg hk q5 q8 q12 BB g5_0 g5_1 g8_0 g8_1 g12_0 g12_1
          clear hW13
          obtain ⟨X12, hX12⟩ : ∃ x, x = w12.heap.size := ⟨_, rfl⟩
          rw [← hX12]
          rw [← hX12] at q12 g12_0 g12_1
          clear hX12
          refine (coR_any c c _ _ _ _ _ _ T T _ hk hT (by omega) (by omega)).mono ?_
          rintro ee w14 ⟨rfl, by2⟩
          rw [coRB_same]
          clear g5_0 g5_1 g8_0 g8_1 g12_0 g12_1
          replace BB := BB.trans (by2.mono BB.size)
          replace hT := hT.below by2
          replace hg := hg.below by2
          replace hk := hk.below by2
          replace q5 := q5.below by2
          replace q8 := q8.below by2
          replace q12 := q12.below by2
          clear by2
          clear hT hg hk q5 q8 q12
          go_wp2
          go_ret
          exact ⟨rfl, BB⟩
      · have hTX : (⟨(resText d m2 xs).toArray⟩ : ByteArray) = L := by rw [HL.out, ← HM.out, rdF_text HF.out]
        have HTX : Hid _ := hTX
        clear hTX
        have g5_0 := q5.cell 0
        have g5_1 := q5.cell 1
        have g8_0 := q8.cell 0
        have g8_1 := q8.cell 1
        simp only [List.getElem?_cons_zero, List.getElem?_cons_succ] at g5_0 g5_1 g8_0 g8_1
        go_wp2_with fail
        refine (itext_any d a1 m2 c1 xs _ hg (by omega) (fun X hX => HTB.out X (BB.trans (hX.mono BB.size)))).mono ?_
        rintro ee w11 ⟨rfl, b8⟩
        rw [HTX.out]
        have hLL : (L != L) = false := ba_ne L
        clear g5_0 g5_1 g8_0 g8_1
        replace BB := BB.trans (b8.mono BB.size)
        replace hT := hT.below b8
        replace hg := hg.below b8
        replace q5 := q5.below b8
        replace q8 := q8.below b8
        clear b8
        clear HF
        have g5_0 := q5.cell 0
        have g5_1 := q5.cell 1
        have g8_0 := q8.cell 0
        have g8_1 := q8.cell 1
        simp only [List.getElem?_cons_zero, List.getElem?_cons_succ] at g5_0 g5_1 g8_0 g8_1
        go_wp2_with fail
        refine (iresok_any c ta tn tc T _ hT (by omega) (fun X hX => HTB.out X (BB.trans (hX.mono BB.size)))).mono ?_
        rintro ee w12 ⟨rfl, b9⟩
        clear g5_0 g5_1 g8_0 g8_1
        replace BB := BB.trans (b9.mono BB.size)
        replace hT := hT.below b9
        replace hg := hg.below b9
        replace q5 := q5.below b9
        replace q8 := q8.below b9
        clear b9
        by_cases he : resText c tn T = []
        · have HE : Hid (S.toList.isEmpty = true) := by (show _ = _; rw [HS.out, empty_is, he]; rfl)
          rw [text_no he]
          have hE := HE.out
          clear he HS hT
          have hR2 : (⟨(resText 2 0 []).toArray⟩ : ByteArray) = ⟨#[115, 116, 111, 112, 112, 101, 100]⟩ := by decide
          have g5_0 := q5.cell 0
          have g5_1 := q5.cell 1
          have g8_0 := q8.cell 0
          have g8_1 := q8.cell 1
          simp only [List.getElem?_cons_zero, List.getElem?_cons_succ] at g5_0 g5_1 g8_0 g8_1
          go_wp2_with fail
          refine (itext_any 2 none 0 0 [] _ ⟨rfl, fun i hi => by omega⟩ (by omega) (fun X hX => HTB.out X (BB.trans (hX.mono BB.size)))).mono ?_
          rintro ee w13 ⟨rfl, bx⟩
          rw [hR2]
          clear g5_0 g5_1 g8_0 g8_1
          replace BB := BB.trans (bx.mono BB.size)
          replace hg := hg.below bx
          replace q5 := q5.below bx
          replace q8 := q8.below bx
          clear bx
          go_wp2
          go_ret
          exact ⟨rfl, BB⟩
        · have HE : Hid (S.toList.isEmpty = false) := by (show _ = _; rw [HS.out, empty_is]; simpa using he)
          rw [text_yes he]
          have hE := HE.out
          have HO : Hid (resOkB c tn T = true) := text_ok he
          clear he
          have g5_0 := q5.cell 0
          have g5_1 := q5.cell 1
          have g8_0 := q8.cell 0
          have g8_1 := q8.cell 1
          simp only [List.getElem?_cons_zero, List.getElem?_cons_succ] at g5_0 g5_1 g8_0 g8_1
          go_wp2_with fail
          rw [HS.out]
          refine (iread_at (rdF_back HN.out HO.out) HN.out _ (by have := text_len (c := c) HN.out; omega) (ReadsN.below HA.out BB) (Splits.below HP.out BB) (fun X hX => HTB.out X (BB.trans (hX.mono BB.size)))).mono ?_
          rintro ee w13 ⟨a3, c3, B3, rfl, by1, o3, _⟩
          clear g5_0 g5_1 g8_0 g8_1
          replace BB := BB.trans (by1.mono BB.size)
          replace hT := hT.below by1
          replace hg := hg.below by1
          replace q5 := q5.below by1
          replace q8 := q8.below by1
          clear by1
          have hk := o3.ints
          clear o3
          have al := (Below.refl (w13).heap.size (w13)).alloc (Nat.le_refl _) (.cells #[.int .i64 c, .slice a3 tn c3] 36)
          replace BB := BB.trans (al.mono BB.size)
          replace hT := hT.below al
          replace hg := hg.below al
          replace hk := hk.below al
          replace q5 := q5.below al
          replace q8 := q8.below al
          clear al
          have q12 := Cel.new (w13) [.int .i64 c, .slice a3 tn c3] 36
          have g5_0 := q5.cell 0
          have g5_1 := q5.cell 1
          have g8_0 := q8.cell 0
          have g8_1 := q8.cell 1
          have g12_0 := q12.cell 0
          have g12_1 := q12.cell 1
          simp only [List.getElem?_cons_zero, List.getElem?_cons_succ] at g5_0 g5_1 g8_0 g8_1 g12_0 g12_1
          go_wp2_with fail
          obtain ⟨W14, hW14⟩ : ∃ W, W = (w13).alloc (.cells #[.int .i64 c, .slice a3 tn c3] 36) := ⟨_, rfl⟩
          rw [← hW14]
          rw [← hW14] at hT hg hk q5 q8 q12 BB g5_0 g5_1 g8_0 g8_1 g12_0 g12_1
          clear hW14
          obtain ⟨X12, hX12⟩ : ∃ x, x = w13.heap.size := ⟨_, rfl⟩
          rw [← hX12]
          rw [← hX12] at q12 g12_0 g12_1
          clear hX12
          refine (coR_any c c _ _ _ _ _ _ T T _ hk hT (by omega) (by omega)).mono ?_
          rintro ee w15 ⟨rfl, by2⟩
          rw [coRB_same]
          clear g5_0 g5_1 g8_0 g8_1 g12_0 g12_1
          replace BB := BB.trans (by2.mono BB.size)
          replace hT := hT.below by2
          replace hg := hg.below by2
          replace hk := hk.below by2
          replace q5 := q5.below by2
          replace q8 := q8.below by2
          replace q12 := q12.below by2
          clear by2
          clear hT hg hk q5 q8 q12
          go_wp2
          go_ret
          exact ⟨rfl, BB⟩
    · go_enter Tryd.func4, Tryd.ntmps4
      go_wp2
      go_ret
      exact ⟨rfl, Below.refl _ _⟩
  · go_enter Tryd.func4, Tryd.ntmps4
    go_wp2
    go_ret
    exact ⟨rfl, Below.refl _ _⟩

/-! ### The row's step -/
theorem star : "*" ++ "errors.errorString" = "*errors.errorString" := by decide
theorem rowErr (u : TypeId) (h : Tryd.prog.typeName? 3 u = some "*errors.errorString") : u = 191 :=
  typeName_ptr_named (nm := "errors.errorString") (by rw [star]; kernel_rfl) (by kernel_rfl) (by decide) u (by rw [star]; exact h)
theorem tab_of {W : World} (h : laidMetH Tryd.prog Rows.fnResTextRow.laid W) : Lib.TabIs Tryd.prog W "internal/strconv.uint64pow10" .u64 Lib.pow10Tab := by
  rw [MakeChecks.laidMetH_plain _ _ _ (by kernel_rfl)] at h
  have h2 : laidMet Tryd.prog (("internal/strconv.uint64pow10", Lib.tabData .u64 Lib.pow10Tab) :: Rows.fnResTextRow.laid.tail.tail.tail) W := h.tail.tail
  exact Lib.tabIs_of_head (g := 3) (t := 184) (e := 171) (n := 20) (by kernel_rfl) (by kernel_rfl) Tryd.underlying184 Tryd.underlying171 (by kernel_rfl) (by kernel_rfl) h2
theorem reads_laid {W : World} (h : laidMetH Tryd.prog Rows.fnResTextRow.laid W) : ReadsN W := by
  rw [MakeChecks.laidMetH_plain _ _ _ (by kernel_rfl)] at h
  have hR := h.tail.tail.tail.tail
  obtain ⟨a1, s1, hv1, -, -, -⟩ := laid_sentinel hR (g := 1) (by kernel_rfl) (by kernel_rfl) Tryd.underlying113 rowErr Tryd.underlying191 Tryd.underlying193 rfl rfl Tryd.underlying9 (by kernel_rfl) (by kernel_rfl)
  obtain ⟨a0, s0, hv0, -, -, -⟩ := laid_sentinel hR.tail (g := 0) (by kernel_rfl) (by kernel_rfl) Tryd.underlying113 rowErr Tryd.underlying191 Tryd.underlying193 rfl rfl Tryd.underlying9 (by kernel_rfl) (by kernel_rfl)
  exact reads_of W _ _ _ _ hv0 hv1

set_option maxRecDepth 100000 in
theorem step {H : Type} {enc : TypeId × Value → H} (W : World) (base : Nat) (args : Array Value) (ds gs : List (DataW H)) (before : List MemPlace)
    (hval0 : ∀ (j : Nat) t v, Tryd.f4.params[j]? = some t → args[j]? = some v → Value.okWide Tryd.prog W .any base t v)
    (hW : DataW.Whole enc Tryd.prog Tryd.f4.params.toList Rows.fnResTextSpec.vars false W args.toList ds gs before)
    (hL : laidMetH Tryd.prog Rows.fnResTextRow.laid W) (hsh : W.ShapedOpen Tryd.prog) :
    Calls Tryd.prog 4 args W fun e W' => ∃ v, e = .returned v ∧ Rows.fnResTextSpec.post enc Tryd.prog Tryd.f4 false true false false W args v W' := by
  have hval : ∀ (j : Nat) t v, Tryd.f4.params[j]? = some t → args[j]? = some v → Value.okWide Tryd.prog W .any base t v := hval0
  have hW' := hW
  obtain ⟨p, q, hA0, hV, rfl, hfz, hnd⟩ := hW
  have hA : DataW.TrodAll enc Tryd.prog W 0 (fun _ => true) true Tryd.f4.params.toList args.toList ds p := hA0
  rw [Tryd.params4] at hA hval
  obtain ⟨v0, vs0, d0, ds0, p0, q0, hargs, rfl, rfl, h0, r0⟩ := trodAll_cons hA
  obtain ⟨v1, vs1, d1, ds1, p1, q1, rfl, rfl, rfl, h1, r1⟩ := trodAll_cons r0
  obtain ⟨rfl, rfl, rfl⟩ := trodAll_nil r1
  obtain rfl : args = #[v0, v1] := by cases args; simp_all
  obtain ⟨rfl, rfl⟩ := trodVars_none hV
  have k0 := h0
  have lt0 : ∀ x ∈ p0, x.block < W.heap.size := by obtain ⟨m, hm⟩ := k0; exact DataW.trod_lt m _ _ _ hm
  obtain ⟨a0, n0, cap0, C0, rfl, hC0, hn0⟩ := open_bytesT (hval 0 22 v0 rfl rfl) h0
  have k1 := h1
  have lt1 : ∀ x ∈ p1, x.block < W.heap.size := by obtain ⟨m, hm⟩ := k1; exact DataW.trod_lt m _ _ _ hm
  obtain ⟨a1, n1, cap1, C1, rfl, hC1, hn1⟩ := open_bytesT (hval 1 22 v1 rfl rfl) h1
  obtain ⟨m, hm⟩ := Tryd.laysM146.s1_3 W hsh
  clear hA0 hval0
  refine (walk W a0 n0 cap0 C0 hC0 hn0 a1 n1 cap1 C1 hC1 hn1 (reads_laid hL) (splits_of W m hm) (Lib.tabBelow_of_tabIs (tab_of hL))).mono fun e W' ⟨he, bel⟩ => ?_
  subst he
  exact ⟨_, rfl, _, _, _, [], _, [], hW', trodAll_mk1 (shut_bool Tryd.underlying4 _), (trodAll_cons_mk (Below.trod laidOut (by kernel_rfl) (of_decide_eq_true (by kernel_rfl)) k0 bel lt0) (trodAll_cons_mk (Below.trod laidOut (by kernel_rfl) (of_decide_eq_true (by kernel_rfl)) k1 bel lt1) trodAll_mk0)), rfl, bel.frame _, fun h => by cases h⟩

set_option maxRecDepth 100000 in
theorem lifted (os : Os) (started : os.Started) (H : Type) (enc : TypeId × Value → H) :
    ReturnsInHanded {} Tryd.checked os 4 .any (fun w args => (Rows.fnResTextSpec.pre enc Tryd.prog Tryd.f4 Rows.fnResTextRow.domain false w args ∧ laidMetH Tryd.prog Rows.fnResTextRow.laid w) ∧ sizedMet enc Tryd.prog Tryd.f4 (OpenSpec.ofChange Rows.fnResTextSpec) false w args) (Rows.fnResTextSpec.post enc Tryd.prog Tryd.f4 false true false false) := by
  refine returnsInHanded_of_calls own started (by kernel_rfl)
    (ChangeSpec.witness_shaped (enc := enc) (C := Tryd.checked) (os := os) (X := fun w _ => laidMetH Tryd.prog Rows.fnResTextRow.laid w) false (World.laidAll Tryd.prog os Rows.fnResTextRow.laid) #[.slice none 0 0, .slice none 0 0] 8 (World.laidAll_os _ _ _)
      (World.shaped_of_ZipB (by kernel_rfl) (by kernel_rfl)) (by kernel_rfl) (by kernel_rfl) (by kernel_rfl)
      (by rw [MakeChecks.laidMetH_plain _ _ _ (by kernel_rfl)]; exact laidMet_laidAll _ (by kernel_rfl) (by kernel_rfl))) ?_
  intro w0 tape i _ hsh _ hok hpre _
  obtain ⟨_, _, _, fn', hfn', _, _, _, _, hval⟩ := hok
  obtain rfl : fn' = Tryd.f4 := Option.some.inj (hfn'.symm.trans Tryd.func4)
  obtain ⟨⟨⟨ds, gs, before, hw, -⟩, hx⟩, -⟩ := hpre
  have hL : laidMetH Tryd.prog Rows.fnResTextRow.laid (w0.forCall tape i) := hx.of_heap (by rfl)
  refine (step (w0.forCall tape i) w0.heap.size i.args ds gs before hval (DataW.Whole.of_heap (w' := w0.forCall tape i) (by rfl) hw) hL hsh).mono ?_
  rintro e W' ⟨v, rfl, hp⟩
  exact ChangeSpec.post_blind hp

theorem over : Rows.fnResTextRow.holds Tryd.pinned (OpenSpec.ofChange Rows.fnResTextSpec) :=
  OpenClaim.holds_of_wide 4 Tryd.f4 rfl rfl rfl rfl rfl rfl rfl ⟨rfl, rfl, rfl, rfl, rfl⟩ rfl rfl rfl rfl rfl (by kernel_rfl) Tryd.func4 (by kernel_rfl)
    (of_decide_eq_true (by kernel_rfl)) (by unfold Func.isWrapper; first | (rw [if_pos (by decide +kernel)]; kernel_rfl) | (rw [if_neg (by decide +kernel)]; exact ⟨rfl, rfl⟩))
    (fun os started H enc _ => lifted os started H enc)

end Go.Proofs.YtfkcfjkojfnfnaaDoor.fnResText
namespace Go.Proofs.YtfkcfjkojfnfnaaDoor
/-- The statement. -/
theorem fnResText_holds : Rows.FnResTextCardSaid :=
  Claim7.holds_tied_plain_at .later [] [.data, .data, .data, .data, .sentinel, .sentinel, .pinned] true Rows.fnResTextCard.stood.harness Rows.fnResTextCard.stood.looks fnResText.over (fun _ h => by cases h) (by kernel_rfl) (fun _ h => by cases h) fnResText_row_tie rfl ⟨rfl, rfl⟩ (by kernel_rfl) rfl
    (fun f fn hf hfn => by
      obtain rfl : f = 4 := Option.some.inj ((show Tryd.prog.funcNamed Rows.fnResTextRow.func = some 4 by kernel_rfl).symm.trans hf) |>.symm
      obtain rfl : fn = Tryd.f4 := (Option.some.inj (Tryd.func4.symm.trans hfn)).symm
      exact ⟨by kernel_rfl, fun j t ht => by
        rw [Tryd.params4] at ht
        have hm : t ∈ [22, 22] := by simpa using Array.mem_of_getElem? ht
        have hall : ([22, 22].all fun u => !Tryd.prog.wantsStandIn u) = true := by kernel_rfl
        exact (show Tryd.prog.wantsStandIn t = false by simpa using List.all_eq_true.1 hall t hm)⟩)
    (by kernel_rfl)
#print axioms fnResText_holds
end Go.Proofs.YtfkcfjkojfnfnaaDoor
