/-
  For all bytes FnFrmText returns true, and what came in reads behind the call as it did. The library's variables that are listed are as its text lays them; no other condition. (a form's text there and back)
-/
import Derived.Test.YtfkcfjkojfnfnaaDoorDrBe
import Derived.Test.YtfkcfjkojfnfnaaDoorJFrmTextCardA
import Derived.Test.YtfkcfjkojfnfnaaDoorFrmTextI
import Derived.Test.YtfkcfjkojfnfnaaDoorDrL
import Derived.Test.YtfkcfjkojfnfnaaDoorFvC
import Derived.Test.YtfkcfjkojfnfnaaDoorOpen
import Derived.Test.YtfkcfjkojfnfnaaDoorTie
import Derived.Test.YtfkcfjkojfnfnaaDoorCards
import Derived.Stop.LaidErr
import Derived.Lib.LaidTab
import Derived.LaidMore
import Derived.Lay
import Derived.SevenTiedAt
import Derived.Stop.Joined
import Derived.HandedShaped
import Derived.ChangeMaps5
namespace Go.Proofs.YtfkcfjkojfnfnaaDoor.fnFrmText
open Go.ChangeShapes Go.WideShapes Go.ChangeAt Go.RowKit Go.Deep
set_option linter.unusedVariables false
set_option maxRecDepth 100000

theorem open_bytesT {H : Type} {enc : TypeId × Value → H} {W : World} {r : Reach} {b0 : Nat} {v : Value} {d : DataW H} {p : List MemPlace}
    (hv : Value.okWide Tryd.prog W r b0 22 v) (h : DataW.Trod enc Tryd.prog W 0 (fun _ => true) true 22 v d p) : ∃ a n cap zs, v = .slice a n cap ∧ BInts W a n zs ∧ (n ≤ cap ∧ cap ≤ maxLen) := by
  obtain ⟨a0, len0, cap0, rfl⟩ := okWide_slice Tryd.underlying22 hv
  obtain ⟨fuel, hf⟩ := h
  rcases open_ints Tryd.underlying22 Tryd.underlying5 (by kernel_rfl) hf with ⟨hcs, _⟩ | ⟨x, l, c, zs, hcs, _, hl, hm, hz, _, hcell, hwz⟩
  · simp [Value.cells] at hcs
    obtain ⟨rfl, rfl, rfl⟩ := hcs
    exact ⟨none, 0, 0, [], rfl, ⟨rfl, fun i hi => by omega, fun i => by simp⟩, by omega, by unfold maxLen; omega⟩
  · simp [Value.cells] at hcs
    obtain ⟨rfl, rfl, rfl⟩ := hcs
    have hz' : zs.length = cap0 := by simpa using hz
    refine ⟨some x, len0, cap0, zs.take len0, rfl, ⟨by rw [List.length_take]; omega, fun i hi => ?_, fun i => ?_⟩, hl, hm⟩
    · obtain ⟨b, off, spot⟩ := x
      have hc0 := hcell 0 (by omega)
      have hspot : spot = none := by simpa [Addr.add] using World.cell?_spot hc0
      subst hspot
      refine ⟨b, off, rfl, ?_⟩
      have hc := hcell i (by omega)
      have : W.cell? ⟨b, off + i, none⟩ = some (.int .u8 (zs.getD i 0)) := by
        by_cases h0 : i = 0
        · subst h0; simpa [Addr.add] using hc
        · simpa [Addr.add, h0] using hc
      rw [this]
      simp [hi]
    · by_cases hi : i < (zs.take len0).length
      · rw [List.getElem?_eq_getElem hi]
        have := hwz _ (List.mem_of_mem_take (List.getElem_mem hi))
        simpa [Lit.wf, IntKind.min, IntKind.max, IntKind.signed, IntKind.bits] using this
      · rw [List.getElem?_eq_none (by omega)]
        simp

theorem ba_ne (S : ByteArray) : (S != S) = false := by
  have h : (S == S) = true := by
    cases S with | mk d => show (d == d) = true; simp
  simp [bne, h]
theorem itoa9 (z : Int) (h : -10000000 ≤ z ∧ z ≤ 10000000) : (Lib.itoa z).length ≤ 9 := by
  rw [Lib.itoa]
  split
  · rw [List.length_cons]
    have := dec_len 7 _ (show z.natAbs < 10 ^ 8 by omega)
    have e : (-z).toNat = z.natAbs := by omega
    first | omega | (rw [e]; omega)
  · have := dec_len 7 z.toNat (by omega)
    omega
theorem times12 {x : UInt8} {zs : List Int} (hb : ∀ i : Nat, -10000000 ≤ zs[i]?.getD 0 ∧ zs[i]?.getD 0 ≤ 10000000) : ∀ k, k ≤ 9 → (spaced (timesL x zs k)).length ≤ 12 * k
  | 0, _ => by simp [timesL, spaced]
  | k + 1, h => by
    have ih := times12 (x := x) hb k (by omega)
    by_cases h0 : zs[k]?.getD 0 = 0
    · rw [times_zero h0]; omega
    · rw [times_more h0, spaced_snoc]
      have a := itoa9 (zs[k]?.getD 0) (hb k)
      have b : (Lib.itoa (k : Int)).length = 1 := by rw [itoa_small (by omega)]; rfl
      simp only [List.length_append, List.length_cons, List.length_nil]
      omega
theorem bnd_at {zs : List Int} {M : Int} (h : bnd M zs) : ∀ i : Nat, -M ≤ zs[i]?.getD 0 ∧ zs[i]?.getD 0 ≤ M := h
theorem ftext_len {n m : Nat} {C D : List Int} {K : Int} : (formText n m C D K).length ≤ 120 := by
  cases h : formB n m C D K
  · rw [formText_no h]; simp
  · obtain ⟨_, _, bC, bD, k1, k2⟩ := formB_elim h
    rw [formText_yes h, spaced_append, List.length_append, List.length_append]
    have a := times12 (x := 120) (bnd_at bC) 3 (by omega)
    have b := times12 (x := 97) (bnd_at bD) 2 (by omega)
    have c := itoa9 K ⟨k1, k2⟩
    omega
theorem ftext_ne {n m : Nat} {C D : List Int} {K : Int} (h : formB n m C D K = true) : formText n m C D K ≠ [] := fun e => by
  rw [formText_yes h] at e
  have h1 := congrArg List.length e
  have h2 := itoa_pos K
  rw [List.length_append, List.length_nil] at h1
  omega
theorem rfF_text {l : List UInt8} {C D : List Int} {K : Int} (h : rfF l = ((C, D, K), true)) : formText C.length D.length C D K = l := by
  rw [rfF_spec] at h
  split at h
  · rename_i hb
    have e : preW l = (C, D, K) := congrArg Prod.fst h
    rw [e] at hb
    exact hb.2
  · have := congrArg Prod.snd h
    simp [noF] at this
theorem rfF_back {n m : Nat} {C D : List Int} {K : Int} (hn : C.length = n) (hm : D.length = m) (h : formB n m C D K = true) : rfF (formText n m C D K) = ((C, D, K), true) := by
  obtain ⟨n3, m2, _⟩ := formB_elim h
  subst n3
  subst m2
  have ht : textF (C, D, K) = formText 3 2 C D K := by show formText C.length D.length C D K = _; rw [hn, hm]
  obtain ⟨_, hg⟩ := form_back (ftext_ne h) ht
  rw [rfF_yes ftext_len hg hn hm, if_pos rfl]
theorem ftext_zero : formText 3 2 [0, 0, 0] [0, 0] 0 = [48] := by
  rw [formText_yes (by decide), times3, times2]
  have h : Lib.itoa 0 = [48] := itoa_small (k := 0) (by omega)
  rw [h]
  simp [spaced]
theorem empty_is {l : List UInt8} : (⟨l.toArray⟩ : ByteArray).toList.isEmpty = l.isEmpty := by simp [ByteArray.toList_mk]
theorem okP_form {n m : Nat} {f : Frm} (hn : f.1.length = n) (hm : f.2.1.length = m) : okP f = formB n m f.1 f.2.1 f.2.2 := by subst hn; subst hm; rfl
theorem own_ints {w : World} {a : Option Addr} {B n : Nat} {zs : List Int} (h : OwnAt w a B zs) (hn : zs.length = n) : Ints w a n zs := by
  subst hn
  exact h.ints
set_option maxHeartbeats 1600000 in
theorem dFrmText (a : Option Addr) (n cap : Nat) (bs : List Int) (w : World) (h : BInts w a n bs) (hn : n ≤ cap) (hn1 : n ≤ 1048576) (hc : cap ≤ maxLen) :
    Calls Tryd.prog 7 #[.slice a n cap] w fun e w' => ∃ B1 nC cC B2 nD cD f, e = .returned (formV (some ⟨B1, 0, none⟩) nC cC (some ⟨B2, 0, none⟩) nD cD f.2.2) ∧ Below w.heap.size w w' ∧ FA w' (some ⟨B1, 0, none⟩) nC (some ⟨B2, 0, none⟩) nD f := by
  have q0 := Cel.new w [.slice none 0 0, .slice none 0 0, .int .i64 0] 25
  have al := (Below.refl w.heap.size w).alloc (Nat.le_refl _) (.cells #[.slice none 0 0, .slice none 0 0, .int .i64 0] 25)
  go_enter Tryd.func7, Tryd.ntmps7
  go_wp2_with fail
  refine (open_any _ _ _ bs _ (h.below al) hn hn1 hc).mono ?_
  rintro e w1 ⟨R, n', cap2, bs', rfl, b1, hR, r1⟩
  rw [World.size_alloc] at hR
  go_wp2_with fail
  refine (form_f R a n' cap2 bs' 0 4 _ r1 (by omega) (by omega) (by omega) (by omega) r1.ha).mono ?_
  rintro e w2 ⟨B1, nC, cC, B2, nD, cD, K, C, D, q, rfl, f2⟩
  have q2 := (q0.below b1).touch f2.t (by omega)
  have hw := (q0.below b1).lt
  have z1 := f2.b1
  have z2 := f2.b2
  have B2' : Below w.heap.size w w2 := (al.trans (b1.mono al.size)).trans (f2.t.below (by omega) (fun k hk => by omega))
  obtain ⟨g0, g1, g2, h0, h1, h2⟩ := q2.trio
  have F2 := f2.fa K
  clear r1 b1 al q0 f2
  go_wp2
  refine bodyPost_ret (v := formV (some ⟨B1, 0, none⟩) nC cC (some ⟨B2, 0, none⟩) nD cD K) (by simp [results, Tryd.results7, go_sem, g0, g1, g2]) rfl ⟨B1, nC, cC, B2, nD, cD, (C, D, K), rfl, ((B2'.setCell (Nat.le_refl _) _).setCell (Nat.le_refl _) _).setCell (Nat.le_refl _) _, ?_⟩
  exact ((F2.setFar (by omega) (by omega) 0 _).setFar (by omega) (by omega) 1 _).setFar (by omega) (by omega) 2 _

set_option maxHeartbeats 1600000 in
theorem dFrmRead (a : Option Addr) (n cap : Nat) (bs : List Int) (w : World) (h : BInts w a n bs) (hn : n ≤ cap) (hn1 : n ≤ 1048576) (hc : cap ≤ maxLen) :
    Calls Tryd.prog 9 #[.slice a n cap] w fun e w' => ∃ l : List UInt8, e = .returned (.string ⟨l.toArray⟩) ∧ Below w.heap.size w w' ∧ l.length ≤ 1000 := by
  go_enter Tryd.func9, Tryd.ntmps9
  go_wp2_with fail
  refine (open_any _ _ _ bs _ h hn hn1 hc).mono ?_
  rintro e w1 ⟨R, n', cap2, bs', rfl, b1, hR, r1⟩
  have hRl := r1.c.lt
  go_wp2_with fail
  refine (form_f R a n' cap2 bs' 0 99 _ r1 (by omega) (by omega) (by omega) (by omega) r1.ha).mono ?_
  rintro e w2 ⟨B1, nC, cC, B2, nD, cD, K, C, D, q, rfl, f2⟩
  have q0 := f2.q0
  have q1 := f2.q1
  have t2 := f2.t
  have r2 := f2.r
  have F2 := f2.fa K
  have z2 := t2.size
  clear f2 r1
  go_wp2_with fail
  refine (sftext_any _ nC _ _ nD _ K C D _ F2.C F2.D F2.hn F2.hm).mono ?_
  rintro e w3 ⟨rfl, b3⟩
  have HS : Hid ((⟨(formText nC nD C D K).toArray⟩ : ByteArray).size ≤ 120) := by
    show _ ≤ _
    have := ftext_len (n := nC) (m := nD) (C := C) (D := D) (K := K)
    simpa [ByteArray.size] using this
  obtain ⟨S, hS⟩ : ∃ S : ByteArray, S = ⟨(formText nC nD C D K).toArray⟩ := ⟨_, rfl⟩
  rw [← hS] at HS ⊢
  have hS1 := HS.out
  have r3 := r2.below b3
  clear hS F2 r2
  go_wp2_with fail
  refine (maybe_f R a n' cap2 bs' q S _ r3 (by omega) (by omega) (by omega) r3.ha).mono ?_
  rintro e w4 ⟨S2, q4, rfl, s4, t4, r4, x0, x1⟩
  have BB : Below w.heap.size w w4 := b1.trans (((t2.trans (Touch.of b3)).trans t4).below (by have := b1.size; omega) (fun k hk => by omega))
  obtain ⟨l, rfl, hl⟩ := bytes_ex S2
  clear r3 r4
  go_wp2
  go_ret
  exact ⟨l, rfl, BB, by omega⟩

set_option maxHeartbeats 6400000 in
theorem walk (w : World) (a : Option Addr) (n cap : Nat) (A0 : List Int) (hA0 : BInts w a n A0) (hn : n ≤ cap ∧ cap ≤ maxLen) (c : Option Addr) (m cap' : Nat) (B0 : List Int) (hB0 : BInts w c m B0) (hm : m ≤ cap' ∧ cap' ≤ maxLen) (hA : ReadsN w) (hP : Splits w) (hU : Cuts w) (hT : Lib.TabBelow Tryd.prog w.heap.size w "internal/strconv.uint64pow10" .u64 Lib.pow10Tab) :
    Calls Tryd.prog 3 #[.slice a n cap, .slice c m cap'] w fun e w' => e = .returned (.bool true) ∧ Below w.heap.size w w' := by
  obtain ⟨hn2, hn3⟩ := hn
  obtain ⟨hm2, hm3⟩ := hm
  by_cases hn1 : n ≤ 1048576
  · by_cases hm1 : m ≤ 1048576
    · have HTB : Hid _ := hT
      have HA : Hid _ := hA
      have HP : Hid _ := hP
      have HU : Hid _ := hU
      clear hT hA hP hU
      go_enter Tryd.func3, Tryd.ntmps3
      go_wp2_with fail
      refine (dFrmText _ _ _ A0 _ hA0 hn2 hn1 hn3).mono ?_
      rintro ee w1 ⟨fB, fn, fc, gB, fm, fd, F, rfl, b1, hF⟩
      have BB := b1
      replace hB0 := hB0.below b1
      clear b1
      have HN : Hid (F.1.length = fn ∧ F.2.1.length = fm) := ⟨hF.C.1, hF.D.1⟩
      have al := (Below.refl (w1).heap.size (w1)).alloc (Nat.le_refl _) (.cells #[.slice (some ⟨fB, 0, none⟩) fn fc, .slice (some ⟨gB, 0, none⟩) fm fd, .int .i64 F.2.2] 25)
      replace BB := BB.trans (al.mono BB.size)
      replace hB0 := hB0.below al
      replace hF := hF.below al
      clear al
      have q5 := Cel.new (w1) [.slice (some ⟨fB, 0, none⟩) fn fc, .slice (some ⟨gB, 0, none⟩) fm fd, .int .i64 F.2.2] 25
      have g5_0 := q5.cell 0
      have g5_1 := q5.cell 1
      have g5_2 := q5.cell 2
      simp only [List.getElem?_cons_zero, List.getElem?_cons_succ] at g5_0 g5_1 g5_2
      go_wp2_with fail
      obtain ⟨W2, hW2⟩ : ∃ W, W = (w1).alloc (.cells #[.slice (some ⟨fB, 0, none⟩) fn fc, .slice (some ⟨gB, 0, none⟩) fm fd, .int .i64 F.2.2] 25) := ⟨_, rfl⟩
      rw [← hW2]
      rw [← hW2] at hB0 hF q5 BB g5_0 g5_1 g5_2
      clear hW2
      obtain ⟨X5, hX5⟩ : ∃ x, x = w1.heap.size := ⟨_, rfl⟩
      rw [← hX5]
      rw [← hX5] at q5 g5_0 g5_1 g5_2
      clear hX5
      refine (fnExactFrmText.iftext_any _ fn _ _ fm _ F.2.2 F.1 F.2.1 _ hF.C hF.D hF.hn hF.hm (fun X hX => HTB.out X (BB.trans (hX.mono BB.size)))).mono ?_
      rintro ee w3 ⟨rfl, b2⟩
      clear g5_0 g5_1 g5_2
      replace BB := BB.trans (b2.mono BB.size)
      replace hB0 := hB0.below b2
      replace hF := hF.below b2
      replace q5 := q5.below b2
      clear b2
      obtain ⟨S, hS⟩ : ∃ S : ByteArray, S = ⟨(formText fn fm F.1 F.2.1 F.2.2).toArray⟩ := ⟨_, rfl⟩
      have HS : Hid (S = ⟨(formText fn fm F.1 F.2.1 F.2.2).toArray⟩) := hS
      rw [← hS]
      clear hS
      have g5_0 := q5.cell 0
      have g5_1 := q5.cell 1
      have g5_2 := q5.cell 2
      simp only [List.getElem?_cons_zero, List.getElem?_cons_succ] at g5_0 g5_1 g5_2
      go_wp2_with fail
      refine (dFrmRead _ _ _ B0 _ hB0 hm2 hm1 hm3).mono ?_
      rintro ee w4 ⟨l, rfl, b3, hl⟩
      clear g5_0 g5_1 g5_2
      replace BB := BB.trans (b3.mono BB.size)
      replace hB0 := hB0.below b3
      replace hF := hF.below b3
      replace q5 := q5.below b3
      clear b3
      clear hB0
      obtain ⟨⟨⟨C, D, K⟩, ok⟩, hR⟩ : ∃ r, rfF l = r := ⟨_, rfl⟩
      have HF : Hid (rfF l = ((C, D, K), ok)) := hR
      obtain ⟨n2, hn4⟩ : ∃ n, C.length = n := ⟨_, rfl⟩
      obtain ⟨m2, hm4⟩ : ∃ n, D.length = n := ⟨_, rfl⟩
      have HM : Hid (C.length = n2 ∧ D.length = m2) := ⟨hn4, hm4⟩
      have hsm := rfF_small hR
      rw [hn4, hm4] at hsm
      obtain ⟨hs1, hs2⟩ := hsm
      clear hR hn4 hm4
      obtain ⟨L, hL⟩ : ∃ L : ByteArray, L = ⟨l.toArray⟩ := ⟨_, rfl⟩
      have HL : Hid (L = ⟨l.toArray⟩) := hL
      have hl0 : l.length ≤ 1048576 := by omega
      have g5_0 := q5.cell 0
      have g5_1 := q5.cell 1
      have g5_2 := q5.cell 2
      simp only [List.getElem?_cons_zero, List.getElem?_cons_succ] at g5_0 g5_1 g5_2
      go_wp2_with fail
      clear hL
      refine (ifread_at HF.out HM.out.1 HM.out.2 _ hl0 (ReadsN.below HA.out BB) (fun W hW => HP.out W (BB.trans (hW.mono BB.size))) (Cuts.below HU.out BB) (fun X hX => HTB.out X (BB.trans (hX.mono BB.size)))).mono ?_
      rintro ee w5 ⟨a1, c1, a2, c2, B1, B2, rfl, b4, o1, o2, _, _, _⟩
      clear g5_0 g5_1 g5_2
      replace BB := BB.trans (b4.mono BB.size)
      replace hF := hF.below b4
      replace q5 := q5.below b4
      clear b4
      have hg : FA w5 a1 n2 a2 m2 (C, D, K) := ⟨own_ints o1 HM.out.1, own_ints o2 HM.out.2, by omega, by omega⟩
      clear o1 o2
      rw [← HL.out]
      have al := (Below.refl (w5).heap.size (w5)).alloc (Nat.le_refl _) (.cells #[.slice a1 n2 c1, .slice a2 m2 c2, .int .i64 K] 25)
      replace BB := BB.trans (al.mono BB.size)
      replace hF := hF.below al
      replace hg := hg.below al
      replace q5 := q5.below al
      clear al
      have q8 := Cel.new (w5) [.slice a1 n2 c1, .slice a2 m2 c2, .int .i64 K] 25
      have g5_0 := q5.cell 0
      have g5_1 := q5.cell 1
      have g5_2 := q5.cell 2
      have g8_0 := q8.cell 0
      have g8_1 := q8.cell 1
      have g8_2 := q8.cell 2
      simp only [List.getElem?_cons_zero, List.getElem?_cons_succ] at g5_0 g5_1 g5_2 g8_0 g8_1 g8_2
      go_wp2_with fail
      obtain ⟨W6, hW6⟩ : ∃ W, W = (w5).alloc (.cells #[.slice a1 n2 c1, .slice a2 m2 c2, .int .i64 K] 25) := ⟨_, rfl⟩
      rw [← hW6]
      rw [← hW6] at hF hg q5 q8 BB g5_0 g5_1 g5_2 g8_0 g8_1 g8_2
      clear hW6
      obtain ⟨X8, hX8⟩ : ∃ x, x = w5.heap.size := ⟨_, rfl⟩
      rw [← hX8]
      rw [← hX8] at q8 g8_0 g8_1 g8_2
      clear hX8
      rw [HL.out]
      refine (sfread_at HF.out HM.out.1 HM.out.2 _).mono ?_
      rintro ee w7 ⟨a3, c3, a4, c4, rfl, b5, i3, i4⟩
      clear g5_0 g5_1 g5_2 g8_0 g8_1 g8_2
      replace BB := BB.trans (b5.mono BB.size)
      replace hF := hF.below b5
      replace hg := hg.below b5
      replace q5 := q5.below b5
      replace q8 := q8.below b5
      clear b5
      have hw : FA w7 a3 n2 a4 m2 (C, D, K) := ⟨i3, i4, by omega, by omega⟩
      clear i3 i4
      rw [← HL.out]
      have al := (Below.refl (w7).heap.size (w7)).alloc (Nat.le_refl _) (.cells #[.slice a3 n2 c3, .slice a4 m2 c4, .int .i64 K] 25)
      replace BB := BB.trans (al.mono BB.size)
      replace hF := hF.below al
      replace hg := hg.below al
      replace hw := hw.below al
      replace q5 := q5.below al
      replace q8 := q8.below al
      clear al
      have q10 := Cel.new (w7) [.slice a3 n2 c3, .slice a4 m2 c4, .int .i64 K] 25
      have g5_0 := q5.cell 0
      have g5_1 := q5.cell 1
      have g5_2 := q5.cell 2
      have g8_0 := q8.cell 0
      have g8_1 := q8.cell 1
      have g8_2 := q8.cell 2
      have g10_0 := q10.cell 0
      have g10_1 := q10.cell 1
      have g10_2 := q10.cell 2
      simp only [List.getElem?_cons_zero, List.getElem?_cons_succ] at g5_0 g5_1 g5_2 g8_0 g8_1 g8_2 g10_0 g10_1 g10_2
      go_wp2_with fail
      obtain ⟨W8, hW8⟩ : ∃ W, W = (w7).alloc (.cells #[.slice a3 n2 c3, .slice a4 m2 c4, .int .i64 K] 25) := ⟨_, rfl⟩
      rw [← hW8]
      rw [← hW8] at hF hg hw q5 q8 q10 BB g5_0 g5_1 g5_2 g8_0 g8_1 g8_2 g10_0 g10_1 g10_2
      clear hW8
      obtain ⟨X10, hX10⟩ : ∃ x, x = w7.heap.size := ⟨_, rfl⟩
      rw [← hX10]
      rw [← hX10] at q10 g10_0 g10_1 g10_2
      clear hX10
      refine (sftext_any _ fn _ _ fm _ F.2.2 F.1 F.2.1 _ hF.C hF.D hF.hn hF.hm).mono ?_
      rintro ee w9 ⟨rfl, b6⟩
      rw [← HS.out]
      have hSS1 : (S != S) = false := ba_ne S
      clear g5_0 g5_1 g5_2 g8_0 g8_1 g8_2 g10_0 g10_1 g10_2
      replace BB := BB.trans (b6.mono BB.size)
      replace hF := hF.below b6
      replace hg := hg.below b6
      replace hw := hw.below b6
      replace q5 := q5.below b6
      replace q8 := q8.below b6
      replace q10 := q10.below b6
      clear b6
      have g5_0 := q5.cell 0
      have g5_1 := q5.cell 1
      have g5_2 := q5.cell 2
      have g8_0 := q8.cell 0
      have g8_1 := q8.cell 1
      have g8_2 := q8.cell 2
      have g10_0 := q10.cell 0
      have g10_1 := q10.cell 1
      have g10_2 := q10.cell 2
      simp only [List.getElem?_cons_zero, List.getElem?_cons_succ] at g5_0 g5_1 g5_2 g8_0 g8_1 g8_2 g10_0 g10_1 g10_2
      go_wp2_with fail
      refine (coF_any (C, D, K) (C, D, K) _ _ _ _ _ _ _ _ _ _ _ _ _ hg hw).mono ?_
      rintro ee w10 ⟨rfl, b7⟩
      rw [coP_same]
      have hok : (ok != ok) = false := by cases ok <;> rfl
      clear g5_0 g5_1 g5_2 g8_0 g8_1 g8_2 g10_0 g10_1 g10_2
      replace BB := BB.trans (b7.mono BB.size)
      replace hF := hF.below b7
      replace hg := hg.below b7
      replace hw := hw.below b7
      replace q5 := q5.below b7
      replace q8 := q8.below b7
      replace q10 := q10.below b7
      clear b7
      clear hw q10
      cases ok
      · clear HF
        cases he : formB fn fm F.1 F.2.1 F.2.2
        · have HE : Hid (S.toList.isEmpty = true) := by (show _ = _; rw [HS.out, empty_is, formText_no he]; rfl)
          have hE := HE.out
          have g5_0 := q5.cell 0
          have g5_1 := q5.cell 1
          have g5_2 := q5.cell 2
          have g8_0 := q8.cell 0
          have g8_1 := q8.cell 1
          have g8_2 := q8.cell 2
          simp only [List.getElem?_cons_zero, List.getElem?_cons_succ] at g5_0 g5_1 g5_2 g8_0 g8_1 g8_2
          go_wp2_with fail
          refine (pOk F _ _ _ _ _ _ _ hF).mono ?_
          rintro ee w11 ⟨rfl, b9⟩
          rw [okP_form HN.out.1 HN.out.2, he]
          clear g5_0 g5_1 g5_2 g8_0 g8_1 g8_2
          replace BB := BB.trans (b9.mono BB.size)
          replace hF := hF.below b9
          replace hg := hg.below b9
          replace q5 := q5.below b9
          replace q8 := q8.below b9
          clear b9
          clear he HS hF hg
          have g5_0 := q5.cell 0
          have g5_1 := q5.cell 1
          have g5_2 := q5.cell 2
          have g8_0 := q8.cell 0
          have g8_1 := q8.cell 1
          have g8_2 := q8.cell 2
          simp only [List.getElem?_cons_zero, List.getElem?_cons_succ] at g5_0 g5_1 g5_2 g8_0 g8_1 g8_2
          go_wp2_with fail
          refine (pZero _).mono ?_
          rintro ee w12 ⟨za, zn, zc, zb, zm, zd, rfl, hz, bz⟩
          clear g5_0 g5_1 g5_2 g8_0 g8_1 g8_2
          replace BB := BB.trans (bz.mono BB.size)
          replace q5 := q5.below bz
          replace q8 := q8.below bz
          clear bz
          obtain rfl : zn = 3 := hz.C.1.symm
          obtain rfl : zm = 2 := hz.D.1.symm
          have g5_0 := q5.cell 0
          have g5_1 := q5.cell 1
          have g5_2 := q5.cell 2
          have g8_0 := q8.cell 0
          have g8_1 := q8.cell 1
          have g8_2 := q8.cell 2
          simp only [List.getElem?_cons_zero, List.getElem?_cons_succ] at g5_0 g5_1 g5_2 g8_0 g8_1 g8_2
          go_wp2_with fail
          refine (fnExactFrmText.iftext_any _ 3 _ _ 2 _ 0 [0, 0, 0] [0, 0] _ hz.C hz.D (by omega) (by omega) (fun X hX => HTB.out X (BB.trans (hX.mono BB.size)))).mono ?_
          rintro ee w13 ⟨rfl, bx⟩
          have hR2 : (⟨(formText 3 2 [0, 0, 0] [0, 0] 0).toArray⟩ : ByteArray) = ⟨#[48]⟩ := by rw [ftext_zero]
          rw [hR2]
          clear g5_0 g5_1 g5_2 g8_0 g8_1 g8_2
          replace BB := BB.trans (bx.mono BB.size)
          replace hz := hz.below bx
          replace q5 := q5.below bx
          replace q8 := q8.below bx
          clear bx
          go_wp2
          go_ret
          exact ⟨rfl, BB⟩
        · have HE : Hid (S.toList.isEmpty = false) := by
            show _ = _
            rw [HS.out, empty_is]
            have h := ftext_ne he
            simpa using h
          have hE := HE.out
          have g5_0 := q5.cell 0
          have g5_1 := q5.cell 1
          have g5_2 := q5.cell 2
          have g8_0 := q8.cell 0
          have g8_1 := q8.cell 1
          have g8_2 := q8.cell 2
          simp only [List.getElem?_cons_zero, List.getElem?_cons_succ] at g5_0 g5_1 g5_2 g8_0 g8_1 g8_2
          go_wp2_with fail
          refine (pOk F _ _ _ _ _ _ _ hF).mono ?_
          rintro ee w11 ⟨rfl, b9⟩
          rw [okP_form HN.out.1 HN.out.2, he]
          clear g5_0 g5_1 g5_2 g8_0 g8_1 g8_2
          replace BB := BB.trans (b9.mono BB.size)
          replace hF := hF.below b9
          replace hg := hg.below b9
          replace q5 := q5.below b9
          replace q8 := q8.below b9
          clear b9
          have HO : Hid (formB fn fm F.1 F.2.1 F.2.2 = true) := he
          clear he
          have g5_0 := q5.cell 0
          have g5_1 := q5.cell 1
          have g5_2 := q5.cell 2
          have g8_0 := q8.cell 0
          have g8_1 := q8.cell 1
          have g8_2 := q8.cell 2
          simp only [List.getElem?_cons_zero, List.getElem?_cons_succ] at g5_0 g5_1 g5_2 g8_0 g8_1 g8_2
          go_wp2_with fail
          rw [HS.out]
          refine (ifread_at (rfF_back HN.out.1 HN.out.2 HO.out) HN.out.1 HN.out.2 _ (by have := ftext_len (n := fn) (m := fm) (C := F.1) (D := F.2.1) (K := F.2.2); omega) (ReadsN.below HA.out BB) (fun W hW => HP.out W (BB.trans (hW.mono BB.size))) (Cuts.below HU.out BB) (fun X hX => HTB.out X (BB.trans (hX.mono BB.size)))).mono ?_
          rintro ee w12 ⟨a5, c5, a6, c6, B5, B6, rfl, by1, o5, o6, _, _, _⟩
          clear g5_0 g5_1 g5_2 g8_0 g8_1 g8_2
          replace BB := BB.trans (by1.mono BB.size)
          replace hF := hF.below by1
          replace hg := hg.below by1
          replace q5 := q5.below by1
          replace q8 := q8.below by1
          clear by1
          have hk : FA w12 a5 fn a6 fm F := ⟨own_ints o5 HN.out.1, own_ints o6 HN.out.2, hF.hn, hF.hm⟩
          clear o5 o6
          have al := (Below.refl (w12).heap.size (w12)).alloc (Nat.le_refl _) (.cells #[.slice a5 fn c5, .slice a6 fm c6, .int .i64 F.2.2] 25)
          replace BB := BB.trans (al.mono BB.size)
          replace hF := hF.below al
          replace hg := hg.below al
          replace hk := hk.below al
          replace q5 := q5.below al
          replace q8 := q8.below al
          clear al
          have q12 := Cel.new (w12) [.slice a5 fn c5, .slice a6 fm c6, .int .i64 F.2.2] 25
          have g5_0 := q5.cell 0
          have g5_1 := q5.cell 1
          have g5_2 := q5.cell 2
          have g8_0 := q8.cell 0
          have g8_1 := q8.cell 1
          have g8_2 := q8.cell 2
          have g12_0 := q12.cell 0
          have g12_1 := q12.cell 1
          have g12_2 := q12.cell 2
          simp only [List.getElem?_cons_zero, List.getElem?_cons_succ] at g5_0 g5_1 g5_2 g8_0 g8_1 g8_2 g12_0 g12_1 g12_2
          go_wp2_with fail
          obtain ⟨W13, hW13⟩ : ∃ W, W = (w12).alloc (.cells #[.slice a5 fn c5, .slice a6 fm c6, .int .i64 F.2.2] 25) := ⟨_, rfl⟩
          rw [← hW13]
          rw [← hW13] at hF hg hk q5 q8 q12 BB g5_0 g5_1 g5_2 g8_0 g8_1 g8_2 g12_0 g12_1 g12_2
          clear hW13
          obtain ⟨X12, hX12⟩ : ∃ x, x = w12.heap.size := ⟨_, rfl⟩
          rw [← hX12]
          rw [← hX12] at q12 g12_0 g12_1 g12_2
          clear hX12
          refine (coF_any F F _ _ _ _ _ _ _ _ _ _ _ _ _ hk hF).mono ?_
          rintro ee w14 ⟨rfl, by2⟩
          rw [coP_same]
          clear g5_0 g5_1 g5_2 g8_0 g8_1 g8_2 g12_0 g12_1 g12_2
          replace BB := BB.trans (by2.mono BB.size)
          replace hF := hF.below by2
          replace hg := hg.below by2
          replace hk := hk.below by2
          replace q5 := q5.below by2
          replace q8 := q8.below by2
          replace q12 := q12.below by2
          clear by2
          clear hF hg hk q5 q8 q12
          go_wp2
          go_ret
          exact ⟨rfl, BB⟩
      · have hTX : (⟨(formText n2 m2 C D K).toArray⟩ : ByteArray) = L := by rw [HL.out, ← HM.out.1, ← HM.out.2, rfF_text HF.out]
        have HTX : Hid _ := hTX
        clear hTX
        have g5_0 := q5.cell 0
        have g5_1 := q5.cell 1
        have g5_2 := q5.cell 2
        have g8_0 := q8.cell 0
        have g8_1 := q8.cell 1
        have g8_2 := q8.cell 2
        simp only [List.getElem?_cons_zero, List.getElem?_cons_succ] at g5_0 g5_1 g5_2 g8_0 g8_1 g8_2
        go_wp2_with fail
        refine (fnExactFrmText.iftext_any _ n2 _ _ m2 _ K C D _ hg.C hg.D (by omega) (by omega) (fun X hX => HTB.out X (BB.trans (hX.mono BB.size)))).mono ?_
        rintro ee w11 ⟨rfl, b8⟩
        rw [HTX.out]
        have hLL : (L != L) = false := ba_ne L
        clear g5_0 g5_1 g5_2 g8_0 g8_1 g8_2
        replace BB := BB.trans (b8.mono BB.size)
        replace hF := hF.below b8
        replace hg := hg.below b8
        replace q5 := q5.below b8
        replace q8 := q8.below b8
        clear b8
        clear HF
        cases he : formB fn fm F.1 F.2.1 F.2.2
        · have HE : Hid (S.toList.isEmpty = true) := by (show _ = _; rw [HS.out, empty_is, formText_no he]; rfl)
          have hE := HE.out
          have g5_0 := q5.cell 0
          have g5_1 := q5.cell 1
          have g5_2 := q5.cell 2
          have g8_0 := q8.cell 0
          have g8_1 := q8.cell 1
          have g8_2 := q8.cell 2
          simp only [List.getElem?_cons_zero, List.getElem?_cons_succ] at g5_0 g5_1 g5_2 g8_0 g8_1 g8_2
          go_wp2_with fail
          refine (pOk F _ _ _ _ _ _ _ hF).mono ?_
          rintro ee w12 ⟨rfl, b9⟩
          rw [okP_form HN.out.1 HN.out.2, he]
          clear g5_0 g5_1 g5_2 g8_0 g8_1 g8_2
          replace BB := BB.trans (b9.mono BB.size)
          replace hF := hF.below b9
          replace hg := hg.below b9
          replace q5 := q5.below b9
          replace q8 := q8.below b9
          clear b9
          clear he HS hF hg
          have g5_0 := q5.cell 0
          have g5_1 := q5.cell 1
          have g5_2 := q5.cell 2
          have g8_0 := q8.cell 0
          have g8_1 := q8.cell 1
          have g8_2 := q8.cell 2
          simp only [List.getElem?_cons_zero, List.getElem?_cons_succ] at g5_0 g5_1 g5_2 g8_0 g8_1 g8_2
          go_wp2_with fail
          refine (pZero _).mono ?_
          rintro ee w13 ⟨za, zn, zc, zb, zm, zd, rfl, hz, bz⟩
          clear g5_0 g5_1 g5_2 g8_0 g8_1 g8_2
          replace BB := BB.trans (bz.mono BB.size)
          replace q5 := q5.below bz
          replace q8 := q8.below bz
          clear bz
          obtain rfl : zn = 3 := hz.C.1.symm
          obtain rfl : zm = 2 := hz.D.1.symm
          have g5_0 := q5.cell 0
          have g5_1 := q5.cell 1
          have g5_2 := q5.cell 2
          have g8_0 := q8.cell 0
          have g8_1 := q8.cell 1
          have g8_2 := q8.cell 2
          simp only [List.getElem?_cons_zero, List.getElem?_cons_succ] at g5_0 g5_1 g5_2 g8_0 g8_1 g8_2
          go_wp2_with fail
          refine (fnExactFrmText.iftext_any _ 3 _ _ 2 _ 0 [0, 0, 0] [0, 0] _ hz.C hz.D (by omega) (by omega) (fun X hX => HTB.out X (BB.trans (hX.mono BB.size)))).mono ?_
          rintro ee w14 ⟨rfl, bx⟩
          have hR2 : (⟨(formText 3 2 [0, 0, 0] [0, 0] 0).toArray⟩ : ByteArray) = ⟨#[48]⟩ := by rw [ftext_zero]
          rw [hR2]
          clear g5_0 g5_1 g5_2 g8_0 g8_1 g8_2
          replace BB := BB.trans (bx.mono BB.size)
          replace hz := hz.below bx
          replace q5 := q5.below bx
          replace q8 := q8.below bx
          clear bx
          go_wp2
          go_ret
          exact ⟨rfl, BB⟩
        · have HE : Hid (S.toList.isEmpty = false) := by
            show _ = _
            rw [HS.out, empty_is]
            have h := ftext_ne he
            simpa using h
          have hE := HE.out
          have g5_0 := q5.cell 0
          have g5_1 := q5.cell 1
          have g5_2 := q5.cell 2
          have g8_0 := q8.cell 0
          have g8_1 := q8.cell 1
          have g8_2 := q8.cell 2
          simp only [List.getElem?_cons_zero, List.getElem?_cons_succ] at g5_0 g5_1 g5_2 g8_0 g8_1 g8_2
          go_wp2_with fail
          refine (pOk F _ _ _ _ _ _ _ hF).mono ?_
          rintro ee w12 ⟨rfl, b9⟩
          rw [okP_form HN.out.1 HN.out.2, he]
          clear g5_0 g5_1 g5_2 g8_0 g8_1 g8_2
          replace BB := BB.trans (b9.mono BB.size)
          replace hF := hF.below b9
          replace hg := hg.below b9
          replace q5 := q5.below b9
          replace q8 := q8.below b9
          clear b9
          have HO : Hid (formB fn fm F.1 F.2.1 F.2.2 = true) := he
          clear he
          have g5_0 := q5.cell 0
          have g5_1 := q5.cell 1
          have g5_2 := q5.cell 2
          have g8_0 := q8.cell 0
          have g8_1 := q8.cell 1
          have g8_2 := q8.cell 2
          simp only [List.getElem?_cons_zero, List.getElem?_cons_succ] at g5_0 g5_1 g5_2 g8_0 g8_1 g8_2
          go_wp2_with fail
          rw [HS.out]
          refine (ifread_at (rfF_back HN.out.1 HN.out.2 HO.out) HN.out.1 HN.out.2 _ (by have := ftext_len (n := fn) (m := fm) (C := F.1) (D := F.2.1) (K := F.2.2); omega) (ReadsN.below HA.out BB) (fun W hW => HP.out W (BB.trans (hW.mono BB.size))) (Cuts.below HU.out BB) (fun X hX => HTB.out X (BB.trans (hX.mono BB.size)))).mono ?_
          rintro ee w13 ⟨a5, c5, a6, c6, B5, B6, rfl, by1, o5, o6, _, _, _⟩
          clear g5_0 g5_1 g5_2 g8_0 g8_1 g8_2
          replace BB := BB.trans (by1.mono BB.size)
          replace hF := hF.below by1
          replace hg := hg.below by1
          replace q5 := q5.below by1
          replace q8 := q8.below by1
          clear by1
          have hk : FA w13 a5 fn a6 fm F := ⟨own_ints o5 HN.out.1, own_ints o6 HN.out.2, hF.hn, hF.hm⟩
          clear o5 o6
          have al := (Below.refl (w13).heap.size (w13)).alloc (Nat.le_refl _) (.cells #[.slice a5 fn c5, .slice a6 fm c6, .int .i64 F.2.2] 25)
          replace BB := BB.trans (al.mono BB.size)
          replace hF := hF.below al
          replace hg := hg.below al
          replace hk := hk.below al
          replace q5 := q5.below al
          replace q8 := q8.below al
          clear al
          have q12 := Cel.new (w13) [.slice a5 fn c5, .slice a6 fm c6, .int .i64 F.2.2] 25
          have g5_0 := q5.cell 0
          have g5_1 := q5.cell 1
          have g5_2 := q5.cell 2
          have g8_0 := q8.cell 0
          have g8_1 := q8.cell 1
          have g8_2 := q8.cell 2
          have g12_0 := q12.cell 0
          have g12_1 := q12.cell 1
          have g12_2 := q12.cell 2
          simp only [List.getElem?_cons_zero, List.getElem?_cons_succ] at g5_0 g5_1 g5_2 g8_0 g8_1 g8_2 g12_0 g12_1 g12_2
          go_wp2_with fail
          obtain ⟨W14, hW14⟩ : ∃ W, W = (w13).alloc (.cells #[.slice a5 fn c5, .slice a6 fm c6, .int .i64 F.2.2] 25) := ⟨_, rfl⟩
          rw [← hW14]
          rw [← hW14] at hF hg hk q5 q8 q12 BB g5_0 g5_1 g5_2 g8_0 g8_1 g8_2 g12_0 g12_1 g12_2
          clear hW14
          obtain ⟨X12, hX12⟩ : ∃ x, x = w13.heap.size := ⟨_, rfl⟩
          rw [← hX12]
          rw [← hX12] at q12 g12_0 g12_1 g12_2
          clear hX12
          refine (coF_any F F _ _ _ _ _ _ _ _ _ _ _ _ _ hk hF).mono ?_
          rintro ee w15 ⟨rfl, by2⟩
          rw [coP_same]
          clear g5_0 g5_1 g5_2 g8_0 g8_1 g8_2 g12_0 g12_1 g12_2
          replace BB := BB.trans (by2.mono BB.size)
          replace hF := hF.below by2
          replace hg := hg.below by2
          replace hk := hk.below by2
          replace q5 := q5.below by2
          replace q8 := q8.below by2
          replace q12 := q12.below by2
          clear by2
          clear hF hg hk q5 q8 q12
          go_wp2
          go_ret
          exact ⟨rfl, BB⟩
    · go_enter Tryd.func3, Tryd.ntmps3
      go_wp2
      go_ret
      exact ⟨rfl, Below.refl _ _⟩
  · go_enter Tryd.func3, Tryd.ntmps3
    go_wp2
    go_ret
    exact ⟨rfl, Below.refl _ _⟩

/-! ### The row's step -/
theorem star : "*" ++ "errors.errorString" = "*errors.errorString" := by decide
theorem rowErr (u : TypeId) (h : Tryd.prog.typeName? 3 u = some "*errors.errorString") : u = 191 :=
  typeName_ptr_named (nm := "errors.errorString") (by rw [star]; kernel_rfl) (by kernel_rfl) (by decide) u (by rw [star]; exact h)
theorem tab_of {W : World} (h : laidMetH Tryd.prog Rows.fnFrmTextRow.laid W) : Lib.TabIs Tryd.prog W "internal/strconv.uint64pow10" .u64 Lib.pow10Tab := by
  rw [MakeChecks.laidMetH_plain _ _ _ (by kernel_rfl)] at h
  have h2 : laidMet Tryd.prog (("internal/strconv.uint64pow10", Lib.tabData .u64 Lib.pow10Tab) :: Rows.fnFrmTextRow.laid.tail.tail.tail) W := h.tail.tail
  exact Lib.tabIs_of_head (g := 3) (t := 184) (e := 171) (n := 20) (by kernel_rfl) (by kernel_rfl) Tryd.underlying184 Tryd.underlying171 (by kernel_rfl) (by kernel_rfl) h2
theorem reads_laid {W : World} (h : laidMetH Tryd.prog Rows.fnFrmTextRow.laid W) : ReadsN W := by
  rw [MakeChecks.laidMetH_plain _ _ _ (by kernel_rfl)] at h
  have hR := h.tail.tail.tail.tail
  obtain ⟨a1, s1, hv1, -, -, -⟩ := laid_sentinel hR (g := 1) (by kernel_rfl) (by kernel_rfl) Tryd.underlying113 rowErr Tryd.underlying191 Tryd.underlying193 rfl rfl Tryd.underlying9 (by kernel_rfl) (by kernel_rfl)
  obtain ⟨a0, s0, hv0, -, -, -⟩ := laid_sentinel hR.tail (g := 0) (by kernel_rfl) (by kernel_rfl) Tryd.underlying113 rowErr Tryd.underlying191 Tryd.underlying193 rfl rfl Tryd.underlying9 (by kernel_rfl) (by kernel_rfl)
  exact reads_of W _ _ _ _ hv0 hv1

set_option maxRecDepth 100000 in
theorem step {H : Type} {enc : TypeId × Value → H} (W : World) (base : Nat) (args : Array Value) (ds gs : List (DataW H)) (before : List MemPlace)
    (hval0 : ∀ (j : Nat) t v, Tryd.f3.params[j]? = some t → args[j]? = some v → Value.okWide Tryd.prog W .any base t v)
    (hW : DataW.Whole enc Tryd.prog Tryd.f3.params.toList Rows.fnFrmTextSpec.vars false W args.toList ds gs before)
    (hL : laidMetH Tryd.prog Rows.fnFrmTextRow.laid W) (hsh : W.ShapedOpen Tryd.prog) :
    Calls Tryd.prog 3 args W fun e W' => ∃ v, e = .returned v ∧ Rows.fnFrmTextSpec.post enc Tryd.prog Tryd.f3 false true false false W args v W' := by
  have hval : ∀ (j : Nat) t v, Tryd.f3.params[j]? = some t → args[j]? = some v → Value.okWide Tryd.prog W .any base t v := hval0
  have hW' := hW
  obtain ⟨p, q, hA0, hV, rfl, hfz, hnd⟩ := hW
  have hA : DataW.TrodAll enc Tryd.prog W 0 (fun _ => true) true Tryd.f3.params.toList args.toList ds p := hA0
  rw [Tryd.params3] at hA hval
  obtain ⟨v0, vs0, d0, ds0, p0, q0, hargs, rfl, rfl, h0, r0⟩ := trodAll_cons hA
  obtain ⟨v1, vs1, d1, ds1, p1, q1, rfl, rfl, rfl, h1, r1⟩ := trodAll_cons r0
  obtain ⟨rfl, rfl, rfl⟩ := trodAll_nil r1
  obtain rfl : args = #[v0, v1] := by cases args; simp_all
  obtain ⟨rfl, rfl⟩ := trodVars_none hV
  have k0 := h0
  have lt0 : ∀ x ∈ p0, x.block < W.heap.size := by obtain ⟨m, hm⟩ := k0; exact DataW.trod_lt m _ _ _ hm
  obtain ⟨a0, n0, cap0, C0, rfl, hC0, hn0⟩ := open_bytesT (hval 0 22 v0 rfl rfl) h0
  have k1 := h1
  have lt1 : ∀ x ∈ p1, x.block < W.heap.size := by obtain ⟨m, hm⟩ := k1; exact DataW.trod_lt m _ _ _ hm
  obtain ⟨a1, n1, cap1, C1, rfl, hC1, hn1⟩ := open_bytesT (hval 1 22 v1 rfl rfl) h1
  obtain ⟨m, hm⟩ := Tryd.laysM146.s1_3 W hsh
  clear hA0 hval0
  refine (walk W a0 n0 cap0 C0 hC0 hn0 a1 n1 cap1 C1 hC1 hn1 (reads_laid hL) (splits_of W m hm) (cuts_of W m hm) (Lib.tabBelow_of_tabIs (tab_of hL))).mono fun e W' ⟨he, bel⟩ => ?_
  subst he
  exact ⟨_, rfl, _, _, _, [], _, [], hW', trodAll_mk1 (shut_bool Tryd.underlying4 _), (trodAll_cons_mk (Below.trod laidOut (by kernel_rfl) (of_decide_eq_true (by kernel_rfl)) k0 bel lt0) (trodAll_cons_mk (Below.trod laidOut (by kernel_rfl) (of_decide_eq_true (by kernel_rfl)) k1 bel lt1) trodAll_mk0)), rfl, bel.frame _, fun h => by cases h⟩

set_option maxRecDepth 100000 in
theorem lifted (os : Os) (started : os.Started) (H : Type) (enc : TypeId × Value → H) :
    ReturnsInHanded {} Tryd.checked os 3 .any (fun w args => (Rows.fnFrmTextSpec.pre enc Tryd.prog Tryd.f3 Rows.fnFrmTextRow.domain false w args ∧ laidMetH Tryd.prog Rows.fnFrmTextRow.laid w) ∧ sizedMet enc Tryd.prog Tryd.f3 (OpenSpec.ofChange Rows.fnFrmTextSpec) false w args) (Rows.fnFrmTextSpec.post enc Tryd.prog Tryd.f3 false true false false) := by
  refine returnsInHanded_of_calls own started (by kernel_rfl)
    (ChangeSpec.witness_shaped (enc := enc) (C := Tryd.checked) (os := os) (X := fun w _ => laidMetH Tryd.prog Rows.fnFrmTextRow.laid w) false (World.laidAll Tryd.prog os Rows.fnFrmTextRow.laid) #[.slice none 0 0, .slice none 0 0] 8 (World.laidAll_os _ _ _)
      (World.shaped_of_ZipB (by kernel_rfl) (by kernel_rfl)) (by kernel_rfl) (by kernel_rfl) (by kernel_rfl)
      (by rw [MakeChecks.laidMetH_plain _ _ _ (by kernel_rfl)]; exact laidMet_laidAll _ (by kernel_rfl) (by kernel_rfl))) ?_
  intro w0 tape i _ hsh _ hok hpre _
  obtain ⟨_, _, _, fn', hfn', _, _, _, _, hval⟩ := hok
  obtain rfl : fn' = Tryd.f3 := Option.some.inj (hfn'.symm.trans Tryd.func3)
  obtain ⟨⟨⟨ds, gs, before, hw, -⟩, hx⟩, -⟩ := hpre
  have hL : laidMetH Tryd.prog Rows.fnFrmTextRow.laid (w0.forCall tape i) := hx.of_heap (by rfl)
  refine (step (w0.forCall tape i) w0.heap.size i.args ds gs before hval (DataW.Whole.of_heap (w' := w0.forCall tape i) (by rfl) hw) hL hsh).mono ?_
  rintro e W' ⟨v, rfl, hp⟩
  exact ChangeSpec.post_blind hp

theorem over : Rows.fnFrmTextRow.holds Tryd.pinned (OpenSpec.ofChange Rows.fnFrmTextSpec) :=
  OpenClaim.holds_of_wide 3 Tryd.f3 rfl rfl rfl rfl rfl rfl rfl ⟨rfl, rfl, rfl, rfl, rfl⟩ rfl rfl rfl rfl rfl (by kernel_rfl) Tryd.func3 (by kernel_rfl)
    (of_decide_eq_true (by kernel_rfl)) (by unfold Func.isWrapper; first | (rw [if_pos (by decide +kernel)]; kernel_rfl) | (rw [if_neg (by decide +kernel)]; exact ⟨rfl, rfl⟩))
    (fun os started H enc _ => lifted os started H enc)

end Go.Proofs.YtfkcfjkojfnfnaaDoor.fnFrmText
namespace Go.Proofs.YtfkcfjkojfnfnaaDoor
/-- The statement. -/
theorem fnFrmText_holds : Rows.FnFrmTextCardSaid :=
  Claim7.holds_tied_plain_at .later [] [.data, .data, .data, .data, .sentinel, .sentinel, .pinned] true Rows.fnFrmTextCard.stood.harness Rows.fnFrmTextCard.stood.looks fnFrmText.over (fun _ h => by cases h) (by kernel_rfl) (fun _ h => by cases h) fnFrmText_row_tie rfl ⟨rfl, rfl⟩ (by kernel_rfl) rfl
    (fun f fn hf hfn => by
      obtain rfl : f = 3 := Option.some.inj ((show Tryd.prog.funcNamed Rows.fnFrmTextRow.func = some 3 by kernel_rfl).symm.trans hf) |>.symm
      obtain rfl : fn = Tryd.f3 := (Option.some.inj (Tryd.func3.symm.trans hfn)).symm
      exact ⟨by kernel_rfl, fun j t ht => by
        rw [Tryd.params3] at ht
        have hm : t ∈ [22, 22] := by simpa using Array.mem_of_getElem? ht
        have hall : ([22, 22].all fun u => !Tryd.prog.wantsStandIn u) = true := by kernel_rfl
        exact (show Tryd.prog.wantsStandIn t = false by simpa using List.all_eq_true.1 hall t hm)⟩)
    (by kernel_rfl)
#print axioms fnFrmText_holds
end Go.Proofs.YtfkcfjkojfnfnaaDoor
