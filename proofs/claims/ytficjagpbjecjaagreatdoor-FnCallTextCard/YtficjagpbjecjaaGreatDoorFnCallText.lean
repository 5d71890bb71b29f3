/-
  For all bytes FnCallText returns true, and what came in reads behind the call as it did. The library's variables that are listed are as its text lays them; no other condition. (a call's text there and back)
-/
import Derived.Test.YtficjagpbjecjaaGreatDoorDrCl
import Derived.Test.YtficjagpbjecjaaGreatDoorDrBe
import Derived.Test.YtficjagpbjecjaaGreatDoorCaM
import Derived.Test.YtficjagpbjecjaaGreatDoorFvC
import Derived.Test.YtficjagpbjecjaaGreatDoorOpen
import Derived.Test.YtficjagpbjecjaaGreatDoorTie
import Derived.Test.YtficjagpbjecjaaGreatDoorCards
import Derived.Stop.LaidErr
import Derived.Lib.LaidTab
import Derived.LaidMore
import Derived.Lay
import Derived.SevenTiedAt
import Derived.Stop.Joined
import Derived.HandedShaped
import Derived.LaidHandle
import Derived.ChangeMaps5
namespace Go.Proofs.YtficjagpbjecjaaGreatDoor.fnCallText
open Go.ChangeShapes Go.WideShapes Go.ChangeAt Go.RowKit Go.Deep
set_option linter.unusedVariables false
set_option maxRecDepth 100000

theorem open_bytesT {H : Type} {enc : TypeId × Value → H} {W : World} {r : Reach} {b0 : Nat} {v : Value} {d : DataW H} {p : List MemPlace}
    (hv : Value.okWide Tryz.prog W r b0 22 v) (h : DataW.Trod enc Tryz.prog W 0 (fun _ => true) true 22 v d p) : ∃ a n cap zs, v = .slice a n cap ∧ BInts W a n zs ∧ (n ≤ cap ∧ cap ≤ maxLen) := by
  obtain ⟨a0, len0, cap0, rfl⟩ := okWide_slice Tryz.underlying22 hv
  obtain ⟨fuel, hf⟩ := h
  rcases open_ints Tryz.underlying22 Tryz.underlying5 (by kernel_rfl) hf with ⟨hcs, _⟩ | ⟨x, l, c, zs, hcs, _, hl, hm, hz, _, hcell, hwz⟩
  · simp [Value.cells] at hcs
    obtain ⟨rfl, rfl, rfl⟩ := hcs
    exact ⟨none, 0, 0, [], rfl, ⟨rfl, fun i hi => by omega, fun i => by simp⟩, by omega, by unfold maxLen; omega⟩
  · simp [Value.cells] at hcs
    obtain ⟨rfl, rfl, rfl⟩ := hcs
    have hz' : zs.length = cap0 := by simpa using hz
    refine ⟨some x, len0, cap0, zs.take len0, rfl, ⟨by rw [List.length_take]; omega, fun i hi => ?_, fun i => ?_⟩, hl, hm⟩
    · obtain ⟨b, off, spot⟩ := x
      have hc0 := hcell 0 (by omega)
      have hspot : spot = none := by simpa [Addr.add] using World.cell?_spot hc0
      subst hspot
      refine ⟨b, off, rfl, ?_⟩
      have hc := hcell i (by omega)
      have : W.cell? ⟨b, off + i, none⟩ = some (.int .u8 (zs.getD i 0)) := by
        by_cases h0 : i = 0
        · subst h0; simpa [Addr.add] using hc
        · simpa [Addr.add, h0] using hc
      rw [this]
      simp [hi]
    · by_cases hi : i < (zs.take len0).length
      · rw [List.getElem?_eq_getElem hi]
        have := hwz _ (List.mem_of_mem_take (List.getElem_mem hi))
        simpa [Lit.wf, IntKind.min, IntKind.max, IntKind.signed, IntKind.bits] using this
      · rw [List.getElem?_eq_none (by omega)]
        simp

theorem ba_ne (S : ByteArray) : (S != S) = false := by
  have h : (S == S) = true := by
    cases S with | mk d => show (d == d) = true; simp
  simp [bne, h]
theorem caF_can {l : List UInt8} {c : CallD} (h : caF l = (c, true)) : Can l c := by
  by_cases e : ∃ d, Can l d
  · obtain ⟨d, hd⟩ := e
    rw [caF_yes hd] at h
    obtain rfl : d = c := congrArg Prod.fst h
    exact hd
  · rw [caF_no (fun c hc => e ⟨c, hc⟩)] at h
    have := congrArg Prod.snd h
    simp at this
theorem caF_text {l : List UInt8} {x s k : Int} {xs : List Int} {n : Nat} (hn : xs.length = n) (h : caF l = ((x, s, k, xs), true)) : callText x s k n xs = l := by
  obtain ⟨h1, h2, h3⟩ := caF_can h
  dsimp only at h1 h2 h3
  obtain rfl : n = 2 := by omega
  rw [callText_yes h1, h3]
theorem call_ok {x s k : Int} {n : Nat} {U : List Int} (h : callText x s k n U ≠ []) : callOkB x s k n U = true := by
  cases e : callOkB x s k n U with
  | true => rfl
  | false => exact absurd (callText_no e) h
theorem caF_back {x s k : Int} {n : Nat} {U : List Int} (hn : U.length = n) (h : callOkB x s k n U = true) : caF (callText x s k n U) = ((x, s, k, U), true) := by
  have h2 : n = 2 := by
    have h' := h
    simp only [callOkB, Bool.and_eq_true] at h'
    have := okN_elim (by omega) h'.2.2.2
    omega
  subst h2
  exact caF_yes ⟨h, hn, callText_yes h⟩
theorem ctext_len {x s k : Int} {n : Nat} {U : List Int} (hn : U.length = n) : (callText x s k n U).length ≤ 120 := by
  cases h : callOkB x s k n U
  · rw [callText_no h]; simp
  · have h2 : n = 2 := by
      have h' := h
      simp only [callOkB, Bool.and_eq_true] at h'
      have := okN_elim (by omega) h'.2.2.2
      omega
    subst h2
    rw [callText_yes h]
    exact call_len h hn
theorem empty_is {l : List UInt8} : (⟨l.toArray⟩ : ByteArray).toList.isEmpty = l.isEmpty := by simp [ByteArray.toList_mk]
theorem itoa_one {k : Nat} (hk : k < 10) : Lib.itoa (k : Int) = [UInt8.ofNat (48 + k)] := by
  rw [Lib.itoa, if_neg (by omega)]
  have e : (k : Int).toNat = k := by omega
  rw [e]
  exact dec_one hk
theorem sample : callText 0 1 0 2 [2, -3] = [99, 108, 105, 101, 110, 116, 32, 48, 32, 99, 97, 108, 108, 32, 49, 32, 97, 99, 116, 32, 48, 32, 119, 105, 116, 104, 32, 50, 32, 45, 51] := by
  have a0 : Lib.itoa 0 = [48] := itoa_one (k := 0) (by omega)
  have a1 : Lib.itoa 1 = [49] := itoa_one (k := 1) (by omega)
  have a2 : Lib.itoa 2 = [50] := itoa_one (k := 2) (by omega)
  have a3 : Lib.itoa (-3) = [45, 51] := by
    rw [Lib.itoa, if_pos (by omega)]
    have e : Lib.decDigits 3 = [51] := dec_one (k := 3) (by omega)
    have e2 : ((- (-3 : Int)).toNat) = 3 := by decide
    first | (rw [e2, e]) | (simp [e])
  rw [callText_yes (by decide), callL, tail_two, a0, a1, a2, a3]
  rfl
set_option maxHeartbeats 1600000 in
theorem coCl_any (x s k : Int) (a : Option Addr) (n cap : Nat) (b : Option Addr) (m cap' : Nat) (U : List Int) (w : World) (h : Ints w a n U) (h' : Ints w b m U) (hn : n ≤ 1048576) (hm : m ≤ 1048576) :
    Calls Tryz.prog 11 #[clV x s k a n cap, clV x s k b m cap'] w fun e w' => e = .returned (.bool true) ∧ Below w.heap.size w w' := by
  have k1 : (x == x) = true := by simp
  have k2 : (s == s) = true := by simp
  have k3 : (k == k) = true := by simp
  go_enter Tryz.func11, Tryz.ntmps11
  have al := (Below.refl (w).heap.size (w)).alloc (Nat.le_refl _) (.cells #[.int .i64 x, .int .i64 s, .int .i64 k, .slice a n cap] 25)
  have BB := al
  replace h := h.below al
  replace h' := h'.below al
  clear al
  have q2 := Cel.new (w) [.int .i64 x, .int .i64 s, .int .i64 k, .slice a n cap] 25
  have al := (Below.refl ((w).alloc (.cells #[.int .i64 x, .int .i64 s, .int .i64 k, .slice a n cap] 25)).heap.size ((w).alloc (.cells #[.int .i64 x, .int .i64 s, .int .i64 k, .slice a n cap] 25))).alloc (Nat.le_refl _) (.cells #[.int .i64 x, .int .i64 s, .int .i64 k, .slice b m cap'] 25)
  replace BB := BB.trans (al.mono BB.size)
  replace h := h.below al
  replace h' := h'.below al
  replace q2 := q2.below al
  clear al
  have q3 := Cel.new ((w).alloc (.cells #[.int .i64 x, .int .i64 s, .int .i64 k, .slice a n cap] 25)) [.int .i64 x, .int .i64 s, .int .i64 k, .slice b m cap'] 25
  simp only [World.size_alloc] at q3
  have g2_0 := q2.cell 0
  have g2_1 := q2.cell 1
  have g2_2 := q2.cell 2
  have g2_3 := q2.cell 3
  have g3_0 := q3.cell 0
  have g3_1 := q3.cell 1
  have g3_2 := q3.cell 2
  have g3_3 := q3.cell 3
  simp only [List.getElem?_cons_zero, List.getElem?_cons_succ] at g2_0 g2_1 g2_2 g2_3 g3_0 g3_1 g3_2 g3_3
  go_wp2_with fail
  obtain ⟨W1, hW1⟩ : ∃ W, W = ((w).alloc (.cells #[.int .i64 x, .int .i64 s, .int .i64 k, .slice a n cap] 25)).alloc (.cells #[.int .i64 x, .int .i64 s, .int .i64 k, .slice b m cap'] 25) := ⟨_, rfl⟩
  rw [← hW1]
  rw [← hW1] at h h' q2 q3 BB g2_0 g2_1 g2_2 g2_3 g3_0 g3_1 g3_2 g3_3
  clear hW1
  obtain ⟨X3, hX3⟩ : ∃ x, x = w.heap.size + 1 := ⟨_, rfl⟩
  rw [← hX3]
  rw [← hX3] at q3 g3_0 g3_1 g3_2 g3_3
  clear hX3
  obtain ⟨X2, hX2⟩ : ∃ x, x = w.heap.size := ⟨_, rfl⟩
  rw [← hX2]
  rw [← hX2] at q2 g2_0 g2_1 g2_2 g2_3
  clear hX2
  refine (coI_any _ _ _ _ _ _ U U _ h h' hn hm).mono ?_
  rintro ee w2 ⟨rfl, b1⟩
  rw [eqB_refl]
  clear g2_0 g2_1 g2_2 g2_3 g3_0 g3_1 g3_2 g3_3
  replace BB := BB.trans (b1.mono BB.size)
  replace h := h.below b1
  replace h' := h'.below b1
  replace q2 := q2.below b1
  replace q3 := q3.below b1
  clear b1
  go_wp2
  go_ret
  exact ⟨rfl, BB⟩
set_option maxHeartbeats 1600000 in
theorem dCallText (a : Option Addr) (n cap : Nat) (bs : List Int) (w : World) (h : BInts w a n bs) (hn : n ≤ cap) (hn1 : n ≤ 1048576) (hc : cap ≤ maxLen) :
    Calls Tryz.prog 5 #[.slice a n cap] w fun e w' => ∃ x s k ua un uc U, e = .returned (clV x s k ua un uc) ∧ Below w.heap.size w w' ∧ Ints w' ua un U ∧ un ≤ 4 := by
  have q0 := Cel.new w [.int .i64 0, .int .i64 0, .int .i64 0, .slice none 0 0] 25
  have al := (Below.refl w.heap.size w).alloc (Nat.le_refl _) (.cells #[.int .i64 0, .int .i64 0, .int .i64 0, .slice none 0 0] 25)
  go_enter Tryz.func5, Tryz.ntmps5
  go_wp2_with fail
  refine (open_any _ _ _ bs _ (h.below al) hn hn1 hc).mono ?_
  rintro e w1 ⟨R, n', cap2, bs', rfl, b1, hR, r1⟩
  rw [World.size_alloc] at hR
  have hRl := r1.c.lt
  have hw := (q0.below b1).lt
  go_wp2_with fail
  refine (call_f R a n' cap2 bs' 0 3 0 none 0 0 (.slice none 0 0) (.slice none 0 0) _ r1 (by omega) (by omega) (by omega) (by omega) (by omega) ⟨_, _, _, rfl⟩ ⟨_, _, _, rfl⟩ r1.ha).mono ?_
  rintro e w2 ⟨x, s, k, ua, un, uc, U, q, rfl, d⟩
  have lo := d.lo
  have u4 := d.u4
  have iT := d.i
  have q2 := (q0.below b1).touch d.t (by omega)
  have BB : Below w.heap.size w w2 := (al.trans (b1.mono al.size)).trans (d.t.below (by omega) (fun k hk => by omega))
  have g0 := q2.cell 0
  have g1 := q2.cell 1
  have g2 := q2.cell 2
  have g3 := q2.cell 3
  have f0 := q2.free 0
  have f1 := q2.free 1
  have f2 := q2.free 2
  have f3 := q2.free 3
  have ll := q2.lt
  simp only [List.getElem?_cons_zero, List.getElem?_cons_succ] at g0 g1 g2 g3
  clear r1 b1 al q0 d
  go_wp2
  have F : ∀ b o, ua = some ⟨b, o, none⟩ → b ≠ w.heap.size := fun b o e => by have := lo b o e; omega
  exact bodyPost_ret (v := clV x s k ua un uc) (by simp [results, Tryz.results5, go_sem, g0, g1, g2, g3]) rfl ⟨x, s, k, ua, un, uc, U, rfl, (((BB.setCell (Nat.le_refl _) _).setCell (Nat.le_refl _) _).setCell (Nat.le_refl _) _).setCell (Nat.le_refl _) _, (((iT.setFar F 0 _).setFar F 1 _).setFar F 2 _).setFar F 3 _, u4⟩
set_option maxHeartbeats 1600000 in
theorem dCallRead (a : Option Addr) (n cap : Nat) (bs : List Int) (w : World) (h : BInts w a n bs) (hn : n ≤ cap) (hn1 : n ≤ 1048576) (hc : cap ≤ maxLen) :
    Calls Tryz.prog 7 #[.slice a n cap] w fun e w' => ∃ l : List UInt8, e = .returned (.string ⟨l.toArray⟩) ∧ Below w.heap.size w w' ∧ l.length ≤ 1000 := by
  go_enter Tryz.func7, Tryz.ntmps7
  go_wp2_with fail
  refine (open_any _ _ _ bs _ h hn hn1 hc).mono ?_
  rintro e w1 ⟨R, n', cap2, bs', rfl, b1, hR, r1⟩
  have hRl := r1.c.lt
  go_wp2_with fail
  refine (call_f R a n' cap2 bs' 0 99 0 none 0 0 (.slice none 0 0) (.slice none 0 0) _ r1 (by omega) (by omega) (by omega) (by omega) (by omega) ⟨_, _, _, rfl⟩ ⟨_, _, _, rfl⟩ r1.ha).mono ?_
  rintro e w2 ⟨x, s, k, ua, un, uc, U, q, rfl, d⟩
  have u4 := d.u4
  have q0 := d.q0
  have q1 := d.q1
  have iT := d.i
  have t2 := d.t
  have r2 := d.r
  have z2 := t2.size
  clear d r1
  go_wp2_with fail
  refine (sctext_any x s k ua un uc U _ iT (by omega)).mono ?_
  rintro e w3 ⟨rfl, b3⟩
  obtain ⟨S, hS⟩ : ∃ S : ByteArray, S = ⟨(callText x s k un U).toArray⟩ := ⟨_, rfl⟩
  have hS1 : S.size ≤ 120 := by
    rw [hS]
    have := ctext_len (x := x) (s := s) (k := k) iT.1
    simpa [ByteArray.size] using this
  rw [← hS]
  have r3 := r2.below b3
  clear hS iT r2
  go_wp2_with fail
  refine (maybe_f R a n' cap2 bs' q S _ r3 (by omega) (by omega) (by omega) r3.ha).mono ?_
  rintro e w4 ⟨S2, q4, rfl, s4, t4, r4, x0, x1⟩
  have BB : Below w.heap.size w w4 := b1.trans (((t2.trans (Touch.of b3)).trans t4).below (by have := b1.size; omega) (fun k hk => by omega))
  obtain ⟨l, rfl, hl⟩ := bytes_ex S2
  clear r3 r4
  go_wp2
  go_ret
  exact ⟨l, rfl, BB, by omega⟩

set_option maxHeartbeats 6400000 in
theorem walk (w : World) (a : Option Addr) (n cap : Nat) (A0 : List Int) (hA0 : BInts w a n A0) (hn : n ≤ cap ∧ cap ≤ maxLen) (c : Option Addr) (m cap' : Nat) (B0 : List Int) (hB0 : BInts w c m B0) (hm : m ≤ cap' ∧ cap' ≤ maxLen) (hA : ReadsN w) (hP : Splits w) (hE0 : ErrT w) (hT : Lib.TabBelow Tryz.prog w.heap.size w "internal/strconv.uint64pow10" .u64 Lib.pow10Tab) :
    Calls Tryz.prog 3 #[.slice a n cap, .slice c m cap'] w fun e w' => e = .returned (.bool true) ∧ Below w.heap.size w w' := by
  obtain ⟨hn2, hn3⟩ := hn
  obtain ⟨hm2, hm3⟩ := hm
  by_cases hn1 : n ≤ 1048576
  · by_cases hm1 : m ≤ 1048576
    · have HTB : Hid _ := hT
      have HA : Hid _ := hA
      have HP : Hid _ := hP
      have HE0 : Hid _ := hE0
      clear hT hA hP hE0
      go_enter Tryz.func3, Tryz.ntmps3
      go_wp2_with fail
      refine (dCallText _ _ _ A0 _ hA0 hn2 hn1 hn3).mono ?_
      rintro ee w1 ⟨x, s, k, ua, un, uc, U, rfl, b1, hT, hu4⟩
      have BB := b1
      replace hB0 := hB0.below b1
      clear b1
      have HN : Hid (U.length = un) := hT.1
      have al := (Below.refl (w1).heap.size (w1)).alloc (Nat.le_refl _) (.cells #[.int .i64 x, .int .i64 s, .int .i64 k, .slice ua un uc] 25)
      replace BB := BB.trans (al.mono BB.size)
      replace hB0 := hB0.below al
      replace hT := hT.below al
      clear al
      have q5 := Cel.new (w1) [.int .i64 x, .int .i64 s, .int .i64 k, .slice ua un uc] 25
      have g5_0 := q5.cell 0
      have g5_1 := q5.cell 1
      have g5_2 := q5.cell 2
      have g5_3 := q5.cell 3
      simp only [List.getElem?_cons_zero, List.getElem?_cons_succ] at g5_0 g5_1 g5_2 g5_3
      go_wp2_with fail
      obtain ⟨W2, hW2⟩ : ∃ W, W = (w1).alloc (.cells #[.int .i64 x, .int .i64 s, .int .i64 k, .slice ua un uc] 25) := ⟨_, rfl⟩
      rw [← hW2]
      rw [← hW2] at hB0 hT q5 BB g5_0 g5_1 g5_2 g5_3
      clear hW2
      obtain ⟨X5, hX5⟩ : ∃ x, x = w1.heap.size := ⟨_, rfl⟩
      rw [← hX5]
      rw [← hX5] at q5 g5_0 g5_1 g5_2 g5_3
      clear hX5
      refine (ictext_any x s k ua un uc U _ hT (by omega) (fun X hX => HTB.out X (BB.trans (hX.mono BB.size)))).mono ?_
      rintro ee w3 ⟨rfl, b2⟩
      clear g5_0 g5_1 g5_2 g5_3
      replace BB := BB.trans (b2.mono BB.size)
      replace hB0 := hB0.below b2
      replace hT := hT.below b2
      replace q5 := q5.below b2
      clear b2
      obtain ⟨S, hS⟩ : ∃ S : ByteArray, S = ⟨(callText x s k un U).toArray⟩ := ⟨_, rfl⟩
      have HS : Hid (S = ⟨(callText x s k un U).toArray⟩) := hS
      rw [← hS]
      clear hS
      have g5_0 := q5.cell 0
      have g5_1 := q5.cell 1
      have g5_2 := q5.cell 2
      have g5_3 := q5.cell 3
      simp only [List.getElem?_cons_zero, List.getElem?_cons_succ] at g5_0 g5_1 g5_2 g5_3
      go_wp2_with fail
      refine (dCallRead _ _ _ B0 _ hB0 hm2 hm1 hm3).mono ?_
      rintro ee w4 ⟨l, rfl, b3, hl⟩
      clear g5_0 g5_1 g5_2 g5_3
      replace BB := BB.trans (b3.mono BB.size)
      replace hB0 := hB0.below b3
      replace hT := hT.below b3
      replace q5 := q5.below b3
      clear b3
      clear hB0
      obtain ⟨⟨⟨gx, gs, gk, xs⟩, ok⟩, hF⟩ : ∃ r, caF l = r := ⟨_, rfl⟩
      have HF : Hid (caF l = ((gx, gs, gk, xs), ok)) := hF
      obtain ⟨m2, hm4⟩ : ∃ n, xs.length = n := ⟨_, rfl⟩
      have HM : Hid (xs.length = m2) := hm4
      have hm6 : m2 ≤ 2 := by rw [← hm4]; exact caF_small hF
      clear hF hm4
      obtain ⟨L, hL⟩ : ∃ L : ByteArray, L = ⟨l.toArray⟩ := ⟨_, rfl⟩
      have HL : Hid (L = ⟨l.toArray⟩) := hL
      have hl0 : l.length ≤ 1048576 := by omega
      have g5_0 := q5.cell 0
      have g5_1 := q5.cell 1
      have g5_2 := q5.cell 2
      have g5_3 := q5.cell 3
      simp only [List.getElem?_cons_zero, List.getElem?_cons_succ] at g5_0 g5_1 g5_2 g5_3
      go_wp2_with fail
      clear hL
      refine (icread_at HF.out HM.out _ hl0 (ReadsN.below HA.out BB) (Splits.below HP.out BB) (ErrT.below HE0.out BB) (fun X hX => HTB.out X (BB.trans (hX.mono BB.size)))).mono ?_
      rintro ee w5 ⟨a1, c1, B1, rfl, b4, o1, _⟩
      clear g5_0 g5_1 g5_2 g5_3
      replace BB := BB.trans (b4.mono BB.size)
      replace hT := hT.below b4
      replace q5 := q5.below b4
      clear b4
      have hg := o1.ints
      clear o1
      rw [← HL.out]
      have al := (Below.refl (w5).heap.size (w5)).alloc (Nat.le_refl _) (.cells #[.int .i64 gx, .int .i64 gs, .int .i64 gk, .slice a1 m2 c1] 25)
      replace BB := BB.trans (al.mono BB.size)
      replace hT := hT.below al
      replace hg := hg.below al
      replace q5 := q5.below al
      clear al
      have q8 := Cel.new (w5) [.int .i64 gx, .int .i64 gs, .int .i64 gk, .slice a1 m2 c1] 25
      have g5_0 := q5.cell 0
      have g5_1 := q5.cell 1
      have g5_2 := q5.cell 2
      have g5_3 := q5.cell 3
      have g8_0 := q8.cell 0
      have g8_1 := q8.cell 1
      have g8_2 := q8.cell 2
      have g8_3 := q8.cell 3
      simp only [List.getElem?_cons_zero, List.getElem?_cons_succ] at g5_0 g5_1 g5_2 g5_3 g8_0 g8_1 g8_2 g8_3
      go_wp2_with fail
      obtain ⟨W6, hW6⟩ : ∃ W, W = (w5).alloc (.cells #[.int .i64 gx, .int .i64 gs, .int .i64 gk, .slice a1 m2 c1] 25) := ⟨_, rfl⟩
      rw [← hW6]
      rw [← hW6] at hT hg q5 q8 BB g5_0 g5_1 g5_2 g5_3 g8_0 g8_1 g8_2 g8_3
      clear hW6
      obtain ⟨X8, hX8⟩ : ∃ x, x = w5.heap.size := ⟨_, rfl⟩
      rw [← hX8]
      rw [← hX8] at q8 g8_0 g8_1 g8_2 g8_3
      clear hX8
      rw [HL.out]
      refine (scread_at HF.out HM.out _).mono ?_
      rintro ee w7 ⟨a2, c2, rfl, b5, hw⟩
      clear g5_0 g5_1 g5_2 g5_3 g8_0 g8_1 g8_2 g8_3
      replace BB := BB.trans (b5.mono BB.size)
      replace hT := hT.below b5
      replace hg := hg.below b5
      replace q5 := q5.below b5
      replace q8 := q8.below b5
      clear b5
      rw [← HL.out]
      have al := (Below.refl (w7).heap.size (w7)).alloc (Nat.le_refl _) (.cells #[.int .i64 gx, .int .i64 gs, .int .i64 gk, .slice a2 m2 c2] 25)
      replace BB := BB.trans (al.mono BB.size)
      replace hT := hT.below al
      replace hg := hg.below al
      replace hw := hw.below al
      replace q5 := q5.below al
      replace q8 := q8.below al
      clear al
      have q10 := Cel.new (w7) [.int .i64 gx, .int .i64 gs, .int .i64 gk, .slice a2 m2 c2] 25
      have g5_0 := q5.cell 0
      have g5_1 := q5.cell 1
      have g5_2 := q5.cell 2
      have g5_3 := q5.cell 3
      have g8_0 := q8.cell 0
      have g8_1 := q8.cell 1
      have g8_2 := q8.cell 2
      have g8_3 := q8.cell 3
      have g10_0 := q10.cell 0
      have g10_1 := q10.cell 1
      have g10_2 := q10.cell 2
      have g10_3 := q10.cell 3
      simp only [List.getElem?_cons_zero, List.getElem?_cons_succ] at g5_0 g5_1 g5_2 g5_3 g8_0 g8_1 g8_2 g8_3 g10_0 g10_1 g10_2 g10_3
      go_wp2_with fail
      obtain ⟨W8, hW8⟩ : ∃ W, W = (w7).alloc (.cells #[.int .i64 gx, .int .i64 gs, .int .i64 gk, .slice a2 m2 c2] 25) := ⟨_, rfl⟩
      rw [← hW8]
      rw [← hW8] at hT hg hw q5 q8 q10 BB g5_0 g5_1 g5_2 g5_3 g8_0 g8_1 g8_2 g8_3 g10_0 g10_1 g10_2 g10_3
      clear hW8
      obtain ⟨X10, hX10⟩ : ∃ x, x = w7.heap.size := ⟨_, rfl⟩
      rw [← hX10]
      rw [← hX10] at q10 g10_0 g10_1 g10_2 g10_3
      clear hX10
      refine (sctext_any x s k ua un uc U _ hT (by omega)).mono ?_
      rintro ee w9 ⟨rfl, b6⟩
      rw [← HS.out]
      have hSS1 : (S != S) = false := ba_ne S
      clear g5_0 g5_1 g5_2 g5_3 g8_0 g8_1 g8_2 g8_3 g10_0 g10_1 g10_2 g10_3
      replace BB := BB.trans (b6.mono BB.size)
      replace hT := hT.below b6
      replace hg := hg.below b6
      replace hw := hw.below b6
      replace q5 := q5.below b6
      replace q8 := q8.below b6
      replace q10 := q10.below b6
      clear b6
      have g5_0 := q5.cell 0
      have g5_1 := q5.cell 1
      have g5_2 := q5.cell 2
      have g5_3 := q5.cell 3
      have g8_0 := q8.cell 0
      have g8_1 := q8.cell 1
      have g8_2 := q8.cell 2
      have g8_3 := q8.cell 3
      have g10_0 := q10.cell 0
      have g10_1 := q10.cell 1
      have g10_2 := q10.cell 2
      have g10_3 := q10.cell 3
      simp only [List.getElem?_cons_zero, List.getElem?_cons_succ] at g5_0 g5_1 g5_2 g5_3 g8_0 g8_1 g8_2 g8_3 g10_0 g10_1 g10_2 g10_3
      go_wp2_with fail
      refine (coCl_any gx gs gk _ _ _ _ _ _ xs _ hg hw (by omega) (by omega)).mono ?_
      rintro ee w10 ⟨rfl, b7⟩
      have hok : (ok != ok) = false := by cases ok <;> rfl
      clear g5_0 g5_1 g5_2 g5_3 g8_0 g8_1 g8_2 g8_3 g10_0 g10_1 g10_2 g10_3
      replace BB := BB.trans (b7.mono BB.size)
      replace hT := hT.below b7
      replace hg := hg.below b7
      replace hw := hw.below b7
      replace q5 := q5.below b7
      replace q8 := q8.below b7
      replace q10 := q10.below b7
      clear b7
      clear hw q10
      cases ok
      · clear HF
        by_cases he : callText x s k un U = []
        · have HE : Hid (S.toList.isEmpty = true) := by (show _ = _; rw [HS.out, empty_is, he]; rfl)
          have hE := HE.out
          clear he HS hT hg
          have al := (Below.refl w10.heap.size w10).alloc (Nat.le_refl _) (.cells #[.int .i64 2, .int .i64 (-3)] 3)
          have hz : Ints (w10.alloc (.cells #[.int .i64 2, .int .i64 (-3)] 3)) (some ⟨w10.heap.size, 0, none⟩) 2 [2, -3] := by
            have cc := Cel.new w10 [.int .i64 2, .int .i64 (-3)] 3
            refine ⟨rfl, fun i hi => ⟨_, 0, rfl, ?_⟩⟩
            rw [Nat.zero_add, cc.cell i]
            match i, hi with
            | 0, _ => rfl
            | 1, _ => rfl
          replace BB := BB.trans (al.mono BB.size)
          replace q5 := q5.below al
          replace q8 := q8.below al
          clear al
          go_wp2_with fail
          refine (ictext_any 0 1 0 _ 2 _ [2, -3] _ hz (by omega) (fun X hX => HTB.out X (BB.trans (hX.mono BB.size)))).mono ?_
          rintro ee w11 ⟨rfl, bx⟩
          rw [sample]
          replace BB := BB.trans (bx.mono BB.size)
          replace hz := hz.below bx
          replace q5 := q5.below bx
          replace q8 := q8.below bx
          clear bx
          go_wp2
          go_ret
          exact ⟨rfl, BB⟩
        · have HE : Hid (S.toList.isEmpty = false) := by
            show _ = _
            rw [HS.out, empty_is]
            simpa using he
          have hE := HE.out
          have HO : Hid (callOkB x s k un U = true) := call_ok he
          clear he
          have g5_0 := q5.cell 0
          have g5_1 := q5.cell 1
          have g5_2 := q5.cell 2
          have g5_3 := q5.cell 3
          have g8_0 := q8.cell 0
          have g8_1 := q8.cell 1
          have g8_2 := q8.cell 2
          have g8_3 := q8.cell 3
          simp only [List.getElem?_cons_zero, List.getElem?_cons_succ] at g5_0 g5_1 g5_2 g5_3 g8_0 g8_1 g8_2 g8_3
          go_wp2_with fail
          rw [HS.out]
          refine (icread_at (caF_back HN.out HO.out) HN.out _ (by have := ctext_len (x := x) (s := s) (k := k) HN.out; omega) (ReadsN.below HA.out BB) (Splits.below HP.out BB) (ErrT.below HE0.out BB) (fun X hX => HTB.out X (BB.trans (hX.mono BB.size)))).mono ?_
          rintro ee w11 ⟨a3, c3, B3, rfl, by1, o3, _⟩
          clear g5_0 g5_1 g5_2 g5_3 g8_0 g8_1 g8_2 g8_3
          replace BB := BB.trans (by1.mono BB.size)
          replace hT := hT.below by1
          replace hg := hg.below by1
          replace q5 := q5.below by1
          replace q8 := q8.below by1
          clear by1
          have hk := o3.ints
          clear o3
          have al := (Below.refl (w11).heap.size (w11)).alloc (Nat.le_refl _) (.cells #[.int .i64 x, .int .i64 s, .int .i64 k, .slice a3 un c3] 25)
          replace BB := BB.trans (al.mono BB.size)
          replace hT := hT.below al
          replace hg := hg.below al
          replace hk := hk.below al
          replace q5 := q5.below al
          replace q8 := q8.below al
          clear al
          have q12 := Cel.new (w11) [.int .i64 x, .int .i64 s, .int .i64 k, .slice a3 un c3] 25
          have g5_0 := q5.cell 0
          have g5_1 := q5.cell 1
          have g5_2 := q5.cell 2
          have g5_3 := q5.cell 3
          have g8_0 := q8.cell 0
          have g8_1 := q8.cell 1
          have g8_2 := q8.cell 2
          have g8_3 := q8.cell 3
          have g12_0 := q12.cell 0
          have g12_1 := q12.cell 1
          have g12_2 := q12.cell 2
          have g12_3 := q12.cell 3
          simp only [List.getElem?_cons_zero, List.getElem?_cons_succ] at g5_0 g5_1 g5_2 g5_3 g8_0 g8_1 g8_2 g8_3 g12_0 g12_1 g12_2 g12_3
          go_wp2_with fail
          obtain ⟨W12, hW12⟩ : ∃ W, W = (w11).alloc (.cells #[.int .i64 x, .int .i64 s, .int .i64 k, .slice a3 un c3] 25) := ⟨_, rfl⟩
          rw [← hW12]
          rw [← hW12] at hT hg hk q5 q8 q12 BB g5_0 g5_1 g5_2 g5_3 g8_0 g8_1 g8_2 g8_3 g12_0 g12_1 g12_2 g12_3
          clear hW12
          obtain ⟨X12, hX12⟩ : ∃ x, x = w11.heap.size := ⟨_, rfl⟩
          rw [← hX12]
          rw [← hX12] at q12 g12_0 g12_1 g12_2 g12_3
          clear hX12
          refine (coCl_any x s k _ _ _ _ _ _ U _ hk hT (by omega) (by omega)).mono ?_
          rintro ee w13 ⟨rfl, by2⟩
          clear g5_0 g5_1 g5_2 g5_3 g8_0 g8_1 g8_2 g8_3 g12_0 g12_1 g12_2 g12_3
          replace BB := BB.trans (by2.mono BB.size)
          replace hT := hT.below by2
          replace hg := hg.below by2
          replace hk := hk.below by2
          replace q5 := q5.below by2
          replace q8 := q8.below by2
          replace q12 := q12.below by2
          clear by2
          clear hT hg hk q5 q8 q12
          go_wp2
          go_ret
          exact ⟨rfl, BB⟩
      · have hTX : (⟨(callText gx gs gk m2 xs).toArray⟩ : ByteArray) = L := by rw [HL.out, caF_text HM.out HF.out]
        have HTX : Hid _ := hTX
        clear hTX
        have g5_0 := q5.cell 0
        have g5_1 := q5.cell 1
        have g5_2 := q5.cell 2
        have g5_3 := q5.cell 3
        have g8_0 := q8.cell 0
        have g8_1 := q8.cell 1
        have g8_2 := q8.cell 2
        have g8_3 := q8.cell 3
        simp only [List.getElem?_cons_zero, List.getElem?_cons_succ] at g5_0 g5_1 g5_2 g5_3 g8_0 g8_1 g8_2 g8_3
        go_wp2_with fail
        refine (ictext_any gx gs gk a1 m2 c1 xs _ hg (by omega) (fun X hX => HTB.out X (BB.trans (hX.mono BB.size)))).mono ?_
        rintro ee w11 ⟨rfl, b8⟩
        rw [HTX.out]
        have hLL : (L != L) = false := ba_ne L
        clear g5_0 g5_1 g5_2 g5_3 g8_0 g8_1 g8_2 g8_3
        replace BB := BB.trans (b8.mono BB.size)
        replace hT := hT.below b8
        replace hg := hg.below b8
        replace q5 := q5.below b8
        replace q8 := q8.below b8
        clear b8
        clear HF
        by_cases he : callText x s k un U = []
        · have HE : Hid (S.toList.isEmpty = true) := by (show _ = _; rw [HS.out, empty_is, he]; rfl)
          have hE := HE.out
          clear he HS hT hg
          have al := (Below.refl w11.heap.size w11).alloc (Nat.le_refl _) (.cells #[.int .i64 2, .int .i64 (-3)] 3)
          have hz : Ints (w11.alloc (.cells #[.int .i64 2, .int .i64 (-3)] 3)) (some ⟨w11.heap.size, 0, none⟩) 2 [2, -3] := by
            have cc := Cel.new w11 [.int .i64 2, .int .i64 (-3)] 3
            refine ⟨rfl, fun i hi => ⟨_, 0, rfl, ?_⟩⟩
            rw [Nat.zero_add, cc.cell i]
            match i, hi with
            | 0, _ => rfl
            | 1, _ => rfl
          replace BB := BB.trans (al.mono BB.size)
          replace q5 := q5.below al
          replace q8 := q8.below al
          clear al
          go_wp2_with fail
          refine (ictext_any 0 1 0 _ 2 _ [2, -3] _ hz (by omega) (fun X hX => HTB.out X (BB.trans (hX.mono BB.size)))).mono ?_
          rintro ee w12 ⟨rfl, bx⟩
          rw [sample]
          replace BB := BB.trans (bx.mono BB.size)
          replace hz := hz.below bx
          replace q5 := q5.below bx
          replace q8 := q8.below bx
          clear bx
          go_wp2
          go_ret
          exact ⟨rfl, BB⟩
        · have HE : Hid (S.toList.isEmpty = false) := by
            show _ = _
            rw [HS.out, empty_is]
            simpa using he
          have hE := HE.out
          have HO : Hid (callOkB x s k un U = true) := call_ok he
          clear he
          have g5_0 := q5.cell 0
          have g5_1 := q5.cell 1
          have g5_2 := q5.cell 2
          have g5_3 := q5.cell 3
          have g8_0 := q8.cell 0
          have g8_1 := q8.cell 1
          have g8_2 := q8.cell 2
          have g8_3 := q8.cell 3
          simp only [List.getElem?_cons_zero, List.getElem?_cons_succ] at g5_0 g5_1 g5_2 g5_3 g8_0 g8_1 g8_2 g8_3
          go_wp2_with fail
          rw [HS.out]
          refine (icread_at (caF_back HN.out HO.out) HN.out _ (by have := ctext_len (x := x) (s := s) (k := k) HN.out; omega) (ReadsN.below HA.out BB) (Splits.below HP.out BB) (ErrT.below HE0.out BB) (fun X hX => HTB.out X (BB.trans (hX.mono BB.size)))).mono ?_
          rintro ee w12 ⟨a3, c3, B3, rfl, by1, o3, _⟩
          clear g5_0 g5_1 g5_2 g5_3 g8_0 g8_1 g8_2 g8_3
          replace BB := BB.trans (by1.mono BB.size)
          replace hT := hT.below by1
          replace hg := hg.below by1
          replace q5 := q5.below by1
          replace q8 := q8.below by1
          clear by1
          have hk := o3.ints
          clear o3
          have al := (Below.refl (w12).heap.size (w12)).alloc (Nat.le_refl _) (.cells #[.int .i64 x, .int .i64 s, .int .i64 k, .slice a3 un c3] 25)
          replace BB := BB.trans (al.mono BB.size)
          replace hT := hT.below al
          replace hg := hg.below al
          replace hk := hk.below al
          replace q5 := q5.below al
          replace q8 := q8.below al
          clear al
          have q12 := Cel.new (w12) [.int .i64 x, .int .i64 s, .int .i64 k, .slice a3 un c3] 25
          have g5_0 := q5.cell 0
          have g5_1 := q5.cell 1
          have g5_2 := q5.cell 2
          have g5_3 := q5.cell 3
          have g8_0 := q8.cell 0
          have g8_1 := q8.cell 1
          have g8_2 := q8.cell 2
          have g8_3 := q8.cell 3
          have g12_0 := q12.cell 0
          have g12_1 := q12.cell 1
          have g12_2 := q12.cell 2
          have g12_3 := q12.cell 3
          simp only [List.getElem?_cons_zero, List.getElem?_cons_succ] at g5_0 g5_1 g5_2 g5_3 g8_0 g8_1 g8_2 g8_3 g12_0 g12_1 g12_2 g12_3
          go_wp2_with fail
          obtain ⟨W13, hW13⟩ : ∃ W, W = (w12).alloc (.cells #[.int .i64 x, .int .i64 s, .int .i64 k, .slice a3 un c3] 25) := ⟨_, rfl⟩
          rw [← hW13]
          rw [← hW13] at hT hg hk q5 q8 q12 BB g5_0 g5_1 g5_2 g5_3 g8_0 g8_1 g8_2 g8_3 g12_0 g12_1 g12_2 g12_3
          clear hW13
          obtain ⟨X12, hX12⟩ : ∃ x, x = w12.heap.size := ⟨_, rfl⟩
          rw [← hX12]
          rw [← hX12] at q12 g12_0 g12_1 g12_2 g12_3
          clear hX12
          refine (coCl_any x s k _ _ _ _ _ _ U _ hk hT (by omega) (by omega)).mono ?_
          rintro ee w14 ⟨rfl, by2⟩
          clear g5_0 g5_1 g5_2 g5_3 g8_0 g8_1 g8_2 g8_3 g12_0 g12_1 g12_2 g12_3
          replace BB := BB.trans (by2.mono BB.size)
          replace hT := hT.below by2
          replace hg := hg.below by2
          replace hk := hk.below by2
          replace q5 := q5.below by2
          replace q8 := q8.below by2
          replace q12 := q12.below by2
          clear by2
          clear hT hg hk q5 q8 q12
          go_wp2
          go_ret
          exact ⟨rfl, BB⟩
    · go_enter Tryz.func3, Tryz.ntmps3
      go_wp2
      go_ret
      exact ⟨rfl, Below.refl _ _⟩
  · go_enter Tryz.func3, Tryz.ntmps3
    go_wp2
    go_ret
    exact ⟨rfl, Below.refl _ _⟩

/-! ### The row's step -/
theorem star : "*" ++ "errors.errorString" = "*errors.errorString" := by decide
theorem rowErr (u : TypeId) (h : Tryz.prog.typeName? 3 u = some "*errors.errorString") : u = 153 :=
  typeName_ptr_named (nm := "errors.errorString") (by rw [star]; kernel_rfl) (by kernel_rfl) (by decide) u (by rw [star]; exact h)
theorem parts_of {W : World} (h : laidMetH Tryz.prog Rows.fnCallTextRow.laid W) : laidMet Tryz.prog (("math/bits.deBruijn32tab", Rows.laid_math_bits_deBruijn32tab) :: ("math/bits.deBruijn64tab", Rows.laid_math_bits_deBruijn64tab) :: ("internal/strconv.uint64pow10", Lib.tabData .u64 Lib.pow10Tab) :: ("unicode/utf8.acceptRanges", Rows.laid_unicode_utf8_acceptRanges) :: ("strconv.ErrRange", Rows.laid_strconv_ErrRange) :: ("strconv.ErrSyntax", Rows.laid_strconv_ErrSyntax) :: [("unicode/utf8.first", Rows.laid_unicode_utf8_first)]) W ∧ handlesMet Tryz.prog [("errors.errorType", Rows.laid_errors_errorType)] W := h
theorem tab_of {W : World} (h : laidMetH Tryz.prog Rows.fnCallTextRow.laid W) : Lib.TabIs Tryz.prog W "internal/strconv.uint64pow10" .u64 Lib.pow10Tab := by
  have h2 := (parts_of h).1.tail.tail
  exact Lib.tabIs_of_head (g := 2) (t := 133) (e := 117) (n := 20) (by kernel_rfl) (by kernel_rfl) Tryz.underlying133 Tryz.underlying117 (by kernel_rfl) (by kernel_rfl) h2
theorem et : Tryz.prog.globalNamed "errors.errorType" = some 0 := by kernel_rfl
theorem rt : (Tryz.prog.cutTypes.find? (·.1 == "internal/reflectlite.rtype")).map (·.2) = some 103 := by kernel_rfl
theorem oneRow : ((List.range 192).filter fun t => Tryz.prog.rowNamed t [101, 114, 114, 111, 114]) = [50] := by kernel_rfl
theorem sizeT : Tryz.prog.types.size = 192 := by kernel_rfl
theorem errT_of {W : World} (h : laidMetH Tryz.prog Rows.fnCallTextRow.laid W) : ErrT W := by
  obtain ⟨name, u, ty, e1, e2, e3, e4, e5⟩ := (parts_of h).2 _ (List.mem_singleton.2 rfl)
  have en : name = [101, 114, 114, 111, 114] := (Option.some.inj e1).symm
  subst en
  obtain rfl := Option.some.inj (rt.symm.trans e2)
  have hm : ty ∈ (List.range 192).filter fun t => Tryz.prog.rowNamed t [101, 114, 114, 111, 114] := List.mem_filter.2 ⟨List.mem_range.2 (by rw [← sizeT]; exact e3), e4⟩
  rw [oneRow] at hm
  obtain rfl := List.mem_singleton.1 hm
  have hh : typeHandle Tryz.prog 50 = hnd 50 := by kernel_rfl
  rw [hh] at e5
  simpa [ErrT] using World.var?_cell et e5 0
noncomputable def W0 (os : Os) : World :=
  let w0 := World.holding Tryz.prog os ⟨#[], #[], []⟩
  { w0 with heap := w0.heap.modify 0 fun
      | .cells _ t frozen => .cells #[.iface 103 (.agg #[hnd 50])] t frozen
      | o => o }
noncomputable def WL (os : Os) : World := (W0 os).layVars Tryz.prog (Rows.fnCallTextRow.laid.filter fun x => x.2.handleName?.isNone)
theorem WL_os (os : Os) : (WL os).os = os := World.layVars_os _ _ _
theorem WL_met (os : Os) (args : Array Value) : laidMetH Tryz.prog Rows.fnCallTextRow.laid ((WL os).forCall (fun _ _ => 0) ⟨#[], args, []⟩).memory := by
  have e1 : ((Rows.fnCallTextRow.laid.filter fun x => x.2.handleName?.isNone).filter fun x => ((Rows.fnCallTextRow.laid.filter fun x => x.2.handleName?.isNone).map (·.1)).contains x.1) = (Rows.fnCallTextRow.laid.filter fun x => x.2.handleName?.isNone) := List.filter_eq_self.2 fun x hx => List.contains_iff_mem.2 (List.mem_map.2 ⟨x, hx, rfl⟩)
  have e2 : ((Rows.fnCallTextRow.laid.filter fun x => x.2.handleName?.isNone).filter fun x => !((Rows.fnCallTextRow.laid.filter fun x => x.2.handleName?.isNone).map (·.1)).contains x.1) = [] := List.filter_eq_nil_iff.2 fun x hx => by rw [List.contains_iff_mem.2 (List.mem_map.2 ⟨x, hx, rfl⟩)]; simp
  have h : laidMet Tryz.prog (Rows.fnCallTextRow.laid.filter fun x => x.2.handleName?.isNone) (WL os) := laidMet_layVars (w0 := W0 os) ((Rows.fnCallTextRow.laid.filter fun x => x.2.handleName?.isNone).map (·.1)) [] (by rw [e1]; rfl) (by rw [e1]; kernel_rfl) (by rw [e1]; kernel_rfl) (by rw [e2]; exact LaidIn.none)
  exact laidMetH_of_parts (h.of_heap (by simp [World.memory, World.forCall, Input.heap])) (by kernel_rfl)
theorem reads_laid {W : World} (h : laidMetH Tryz.prog Rows.fnCallTextRow.laid W) : ReadsN W := by
  have hR := (parts_of h).1.tail.tail.tail.tail
  obtain ⟨a1, s1, hv1, -, -, -⟩ := laid_sentinel hR (g := 4) (by kernel_rfl) (by kernel_rfl) Tryz.underlying50 rowErr Tryz.underlying153 Tryz.underlying155 rfl rfl Tryz.underlying9 (by kernel_rfl) (by kernel_rfl)
  obtain ⟨a0, s0, hv0, -, -, -⟩ := laid_sentinel hR.tail (g := 3) (by kernel_rfl) (by kernel_rfl) Tryz.underlying50 rowErr Tryz.underlying153 Tryz.underlying155 rfl rfl Tryz.underlying9 (by kernel_rfl) (by kernel_rfl)
  exact reads_of W _ _ _ _ hv0 hv1

set_option maxRecDepth 100000 in
theorem step {H : Type} {enc : TypeId × Value → H} (W : World) (base : Nat) (args : Array Value) (ds gs : List (DataW H)) (before : List MemPlace)
    (hval0 : ∀ (j : Nat) t v, Tryz.f3.params[j]? = some t → args[j]? = some v → Value.okWide Tryz.prog W .any base t v)
    (hW : DataW.Whole enc Tryz.prog Tryz.f3.params.toList Rows.fnCallTextSpec.vars false W args.toList ds gs before)
    (hL : laidMetH Tryz.prog Rows.fnCallTextRow.laid W) (hsh : W.ShapedOpen Tryz.prog) :
    Calls Tryz.prog 3 args W fun e W' => ∃ v, e = .returned v ∧ Rows.fnCallTextSpec.post enc Tryz.prog Tryz.f3 false true false false W args v W' := by
  have hval : ∀ (j : Nat) t v, Tryz.f3.params[j]? = some t → args[j]? = some v → Value.okWide Tryz.prog W .any base t v := hval0
  have hW' := hW
  obtain ⟨p, q, hA0, hV, rfl, hfz, hnd⟩ := hW
  have hA : DataW.TrodAll enc Tryz.prog W 0 (fun _ => true) true Tryz.f3.params.toList args.toList ds p := hA0
  rw [Tryz.params3] at hA hval
  obtain ⟨v0, vs0, d0, ds0, p0, q0, hargs, rfl, rfl, h0, r0⟩ := trodAll_cons hA
  obtain ⟨v1, vs1, d1, ds1, p1, q1, rfl, rfl, rfl, h1, r1⟩ := trodAll_cons r0
  obtain ⟨rfl, rfl, rfl⟩ := trodAll_nil r1
  obtain rfl : args = #[v0, v1] := by cases args; simp_all
  obtain ⟨rfl, rfl⟩ := trodVars_none hV
  have k0 := h0
  have lt0 : ∀ x ∈ p0, x.block < W.heap.size := by obtain ⟨m, hm⟩ := k0; exact DataW.trod_lt m _ _ _ hm
  obtain ⟨a0, n0, cap0, C0, rfl, hC0, hn0⟩ := open_bytesT (hval 0 22 v0 rfl rfl) h0
  have k1 := h1
  have lt1 : ∀ x ∈ p1, x.block < W.heap.size := by obtain ⟨m, hm⟩ := k1; exact DataW.trod_lt m _ _ _ hm
  obtain ⟨a1, n1, cap1, C1, rfl, hC1, hn1⟩ := open_bytesT (hval 1 22 v1 rfl rfl) h1
  obtain ⟨m, hm⟩ := Tryz.laysM146.s1_3 W hsh
  clear hA0 hval0
  refine (walk W a0 n0 cap0 C0 hC0 hn0 a1 n1 cap1 C1 hC1 hn1 (reads_laid hL) (splits_of W m hm) (errT_of hL) (Lib.tabBelow_of_tabIs (tab_of hL))).mono fun e W' ⟨he, bel⟩ => ?_
  subst he
  exact ⟨_, rfl, _, _, _, [], _, [], hW', trodAll_mk1 (shut_bool Tryz.underlying4 _), (trodAll_cons_mk (Below.trod laidOut (by kernel_rfl) (of_decide_eq_true (by kernel_rfl)) k0 bel lt0) (trodAll_cons_mk (Below.trod laidOut (by kernel_rfl) (of_decide_eq_true (by kernel_rfl)) k1 bel lt1) trodAll_mk0)), rfl, bel.frame _, fun h => by cases h⟩

set_option maxRecDepth 100000 in
theorem lifted (os : Os) (started : os.Started) (H : Type) (enc : TypeId × Value → H) :
    ReturnsInHanded {} Tryz.checked os 3 .any (fun w args => (Rows.fnCallTextSpec.pre enc Tryz.prog Tryz.f3 Rows.fnCallTextRow.domain false w args ∧ laidMetH Tryz.prog Rows.fnCallTextRow.laid w) ∧ sizedMet enc Tryz.prog Tryz.f3 (OpenSpec.ofChange Rows.fnCallTextSpec) false w args) (Rows.fnCallTextSpec.post enc Tryz.prog Tryz.f3 false true false false) := by
  refine returnsInHanded_of_calls own started (by kernel_rfl)
    (ChangeSpec.witness_shaped (enc := enc) (C := Tryz.checked) (os := os) (X := fun w _ => laidMetH Tryz.prog Rows.fnCallTextRow.laid w) false (WL os) #[.slice none 0 0, .slice none 0 0] 8 (WL_os os)
      (World.shaped_of_ZipB (by kernel_rfl) (by kernel_rfl)) (by kernel_rfl) (by kernel_rfl) (by kernel_rfl)
      (WL_met os _)) ?_
  intro w0 tape i _ hsh _ hok hpre _
  obtain ⟨_, _, _, fn', hfn', _, _, _, _, hval⟩ := hok
  obtain rfl : fn' = Tryz.f3 := Option.some.inj (hfn'.symm.trans Tryz.func3)
  obtain ⟨⟨⟨ds, gs, before, hw, -⟩, hx⟩, -⟩ := hpre
  have hL : laidMetH Tryz.prog Rows.fnCallTextRow.laid (w0.forCall tape i) := hx.of_heap (by rfl)
  refine (step (w0.forCall tape i) w0.heap.size i.args ds gs before hval (DataW.Whole.of_heap (w' := w0.forCall tape i) (by rfl) hw) hL hsh).mono ?_
  rintro e W' ⟨v, rfl, hp⟩
  exact ChangeSpec.post_blind hp

theorem over : Rows.fnCallTextRow.holds Tryz.pinned (OpenSpec.ofChange Rows.fnCallTextSpec) :=
  OpenClaim.holds_of_wide 3 Tryz.f3 rfl rfl rfl rfl rfl rfl rfl ⟨rfl, rfl, rfl, rfl, rfl⟩ rfl rfl rfl rfl rfl (by kernel_rfl) Tryz.func3 (by kernel_rfl)
    (of_decide_eq_true (by kernel_rfl)) (by unfold Func.isWrapper; first | (rw [if_pos (by decide +kernel)]; kernel_rfl) | (rw [if_neg (by decide +kernel)]; exact ⟨rfl, rfl⟩))
    (fun os started H enc _ => lifted os started H enc)

end Go.Proofs.YtficjagpbjecjaaGreatDoor.fnCallText
namespace Go.Proofs.YtficjagpbjecjaaGreatDoor
/-- The statement. -/
theorem fnCallText_holds : Rows.FnCallTextCardSaid :=
  Claim7.holds_tied_plain_at .later [] [.data, .data, .data, .data, .handle, .sentinel, .sentinel, .pinned] true Rows.fnCallTextCard.stood.harness Rows.fnCallTextCard.stood.looks fnCallText.over (fun _ h => by cases h) (by kernel_rfl) (fun _ h => by cases h) fnCallText_row_tie rfl ⟨rfl, rfl⟩ (by kernel_rfl) rfl
    (fun f fn hf hfn => by
      obtain rfl : f = 3 := Option.some.inj ((show Tryz.prog.funcNamed Rows.fnCallTextRow.func = some 3 by kernel_rfl).symm.trans hf) |>.symm
      obtain rfl : fn = Tryz.f3 := (Option.some.inj (Tryz.func3.symm.trans hfn)).symm
      exact ⟨by kernel_rfl, fun j t ht => by
        rw [Tryz.params3] at ht
        have hm : t ∈ [22, 22] := by simpa using Array.mem_of_getElem? ht
        have hall : ([22, 22].all fun u => !Tryz.prog.wantsStandIn u) = true := by kernel_rfl
        exact (show Tryz.prog.wantsStandIn t = false by simpa using List.all_eq_true.1 hall t hm)⟩)
    (by kernel_rfl)
#print axioms fnCallText_holds
end Go.Proofs.YtficjagpbjecjaaGreatDoor
