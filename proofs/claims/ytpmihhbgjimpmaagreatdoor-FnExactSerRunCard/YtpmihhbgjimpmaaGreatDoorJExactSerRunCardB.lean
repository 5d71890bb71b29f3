/-
  Lemmas that the claim's last text rests on: PlanW, Dig, Txt, CallT, Shelf, TxtI, Twn, Tk, CallI, CallOkW, TxtJ, ResOkW, LogW, AppC, AppG.
-/
import Derived.Test.YtpmihhbgjimpmaaGreatDoorJExactSerRunCardA
import Derived.Test.YtpmihhbgjimpmaaGreatDoorBase
import Derived.Lib.ItoaNum
import Derived.Lib.ItoaLen
import Derived.Laws.IdiomStrings
import Derived.Test.YtpmihhbgjimpmaaGreatDoorResP
import Derived.Lib.Join
import Derived.Test.YtpmihhbgjimpmaaGreatDoorCallP
import Derived.Test.YtpmihhbgjimpmaaGreatDoorKeyed
import Derived.Deep.DeepCutAuto
import Derived.Shelf.Strings.OnBuilder
import Derived.Shelf.LaysM
import Derived.Shelf.Strconv.Itoa3
import Derived.Test.YtpmihhbgjimpmaaGreatDoorProg
import Derived.Deep.AppendLies
import Derived.Lib.AppendIntMem
import Derived.Test.YtpmihhbgjimpmaaGreatDoorLogS
import Derived.Test.YtpmihhbgjimpmaaGreatDoorOwn
namespace Go.Proofs.YtpmihhbgjimpmaaGreatDoor
open Go.RowKit
set_option linter.unusedVariables false
set_option maxRecDepth 100000

theorem one_ints (w : World) (x : Int) (t : TypeId) : Ints (w.alloc (.cells #[.int .i64 x] t)) (some ⟨w.heap.size, 0, none⟩) 1 [x] :=
  ⟨rfl, fun i hi => ⟨w.heap.size, 0, rfl, by
    obtain rfl : i = 0 := by omega
    simp [go_sem]⟩⟩

theorem PlAt.drewP {w : World} {ad : Option Addr} {N : Nat} {ss : List L2V} {ga : Option Addr} {gn : Nat} {G : List Int} {sa : Option Addr} {sn : Nat} {S : List Int} (h : PlAt w ad N ss ga gn G sa sn S) : PlAt w.drew ad N ss ga gn G sa sn S := h.below (Below.refl _ _).drew

theorem bet_one (x lo hi : Int) : betB lo hi [x] = inB x lo hi := by simp [betB]
theorem pln_same {cl : Int} {N : Nat} {ss : List L2V} {gn : Nat} {G : List Int} {sn : Nat} {S : List Int} : (betB 1 4 [cl] && (catB N ss && (allB 1000 S && trtB sn gn S G))) = plnB cl N ss gn G sn S := by
  rw [plnB, bet_one]
  by_cases h : (sn : Int) = 3
  · rw [okN_is h]
  · rw [trtB, okN_not h, okN_not h]
    simp

set_option maxHeartbeats 1600000 in
theorem splnok_any (cl : Int) (ad : Option Addr) (N cap : Nat) (ss : List L2V) (ga : Option Addr) (gn gc : Nat) (G : List Int) (sa : Option Addr) (sn sc : Nat) (S : List Int) (w : World) (h : PlAt w ad N ss ga gn G sa sn S) :
    Calls Tryz.prog 13 #[plV cl ad N cap ga gn gc sa sn sc] w fun e w' => e = .returned (.bool (plnB cl N ss gn G sn S)) ∧ Below w.heap.size w w' := by
  have n0 := BP.new w [.int .i64 cl, .slice ad N cap, .slice ga gn gc, .slice sa sn sc] 26
  obtain ⟨x1, hx1⟩ : ∃ x, x = inB cl 1 4 := ⟨_, rfl⟩
  obtain ⟨x2, hx2⟩ : ∃ x, x = catB N ss := ⟨_, rfl⟩
  obtain ⟨x3, hx3⟩ : ∃ x, x = okN 3 1000 sn S := ⟨_, rfl⟩
  obtain ⟨x4, hx4⟩ : ∃ x, x = trtB sn gn S G := ⟨_, rfl⟩
  have HB : Hid (plnB cl N ss gn G sn S = (x1 && (x2 && (x3 && x4)))) := by show _ = _; rw [plnB, hx1, hx2, hx3, hx4]
  have H1 : Hid _ := hx1
  have H2 : Hid _ := hx2
  have H3 : Hid _ := hx3
  have H4 : Hid _ := hx4
  clear hx1 hx2 hx3 hx4
  go_enter Tryz.func13, Tryz.ntmps13
  go_wp2_with fail
  refine (in_any _ _ _ _).mono ?_
  rintro e w1 ⟨rfl, rfl⟩
  rw [← H1.out]
  cases x1
  · go_wp2
    go_ret
    exact ⟨ret_bool (by rw [HB.out]; rfl), n0.b⟩
  go_wp2_with fail
  refine (scat_any _ _ _ ss _ h.ha (h.alloc _).a h.za).mono ?_
  rintro e w1 ⟨rfl, b1⟩
  rw [← H2.out]
  have n1 := n0.below b1
  obtain ⟨c0, c1, c2, c3⟩ := n1.p.quadP
  clear b1 n0
  cases x2
  · go_wp2
    go_ret
    exact ⟨ret_bool (by rw [HB.out]; rfl), n1.b⟩
  go_wp2_with fail
  refine (all_any _ _ _ S _ _ _ (h.below n1.b).s h.zs (by omega) (by omega)).mono ?_
  rintro e w2 ⟨rfl, rfl⟩
  rw [← H3.out]
  cases x3
  · go_wp2
    go_ret
    exact ⟨ret_bool (by rw [HB.out]; rfl), n1.b⟩
  go_wp2_with fail
  refine (strt_any _ _ _ _ _ _ S G _ (h.below n1.b).s (h.below n1.b).g h.zs h.zg).mono ?_
  rintro e w2 ⟨rfl, b2⟩
  rw [← H4.out]
  have n2 := n1.below b2
  go_wp2
  go_ret
  exact ⟨ret_bool (by rw [HB.out]; rfl), n2.b⟩

set_option maxHeartbeats 1600000 in
theorem iplnok_any (cl : Int) (ad : Option Addr) (N cap : Nat) (ss : List L2V) (ga : Option Addr) (gn gc : Nat) (G : List Int) (sa : Option Addr) (sn sc : Nat) (S : List Int) (w : World) (h : PlAt w ad N ss ga gn G sa sn S) :
    Calls Tryz.prog 42 #[plV cl ad N cap ga gn gc sa sn sc] w fun e w' => e = .returned (.bool (plnB cl N ss gn G sn S)) ∧ Below w.heap.size w w' := by
  have n0 := (BP.new w [.int .i64 cl, .slice ad N cap, .slice ga gn gc, .slice sa sn sc] 26).alloc (.cells #[.int .i64 cl] 3)
  obtain ⟨x1, hx1⟩ : ∃ x, x = betB 1 4 [cl] := ⟨_, rfl⟩
  obtain ⟨x2, hx2⟩ : ∃ x, x = catB N ss := ⟨_, rfl⟩
  obtain ⟨x3, hx3⟩ : ∃ x, x = allB 1000 S := ⟨_, rfl⟩
  obtain ⟨x4, hx4⟩ : ∃ x, x = trtB sn gn S G := ⟨_, rfl⟩
  have HB : Hid (plnB cl N ss gn G sn S = (x1 && (x2 && (x3 && x4)))) := by show _ = _; rw [← pln_same, hx1, hx2, hx3, hx4]
  have H1 : Hid _ := hx1
  have H2 : Hid _ := hx2
  have H3 : Hid _ := hx3
  have H4 : Hid _ := hx4
  clear hx1 hx2 hx3 hx4
  go_enter Tryz.func42, Tryz.ntmps42
  go_wp2_with fail
  refine (between_any _ _ _ [cl] _ _ _ (by have := one_ints (w.alloc (.cells #[.int .i64 cl, .slice ad N cap, .slice ga gn gc, .slice sa sn sc] 26)) cl 3; rw [World.size_alloc] at this; exact this) (by omega)).mono ?_
  rintro e w1 ⟨rfl, rfl⟩
  rw [← H1.out]
  cases x1
  · go_wp2
    go_ret
    exact ⟨ret_bool (by rw [HB.out]; rfl), n0.b⟩
  go_wp2_with fail
  refine (icat_any _ _ _ ss _ h.ha ((h.alloc _).alloc _).a h.za).mono ?_
  rintro e w1 ⟨rfl, b1⟩
  rw [← H2.out]
  have n1 := n0.below b1
  obtain ⟨c0, c1, c2, c3⟩ := n1.p.quadP
  clear b1 n0
  cases x2
  · go_wp2
    go_ret
    exact ⟨ret_bool (by rw [HB.out]; rfl), n1.b⟩
  go_wp2_with fail
  refine (within_any _ _ _ S _ _ (h.below n1.b).s h.zs (by omega) (by omega)).mono ?_
  rintro e w2 ⟨rfl, rfl⟩
  rw [← H3.out]
  cases x3
  · go_wp2
    go_ret
    exact ⟨ret_bool (by rw [HB.out]; rfl), n1.b⟩
  go_wp2_with fail
  refine (itrt_any _ _ _ _ _ _ S G _ (h.below n1.b).s (h.below n1.b).g h.zs h.zg).mono ?_
  rintro e w2 ⟨rfl, b2⟩
  rw [← H4.out]
  have n2 := n1.below b2
  go_wp2
  go_ret
  exact ⟨ret_bool (by rw [HB.out]; rfl), n2.b⟩

/-- Where a client is at home. -/
def homeN (ok : Bool) (cl x : Int) (gn : Nat) : Int := if ok = true ∧ 0 ≤ x ∧ x < cl then x % gn else -1
theorem pln_parts {cl : Int} {N : Nat} {ss : List L2V} {gn : Nat} {G : List Int} {sn : Nat} {S : List Int} (h : plnB cl N ss gn G sn S = true) : (1 ≤ cl ∧ cl ≤ 4) ∧ (1 ≤ gn ∧ gn ≤ 3) := by
  simp only [plnB, trtB, Bool.and_eq_true] at h
  have h1 := inB_iff.1 h.1
  have h2 := inB_iff.1 h.2.2.2.2.1
  omega

end Go.Proofs.YtpmihhbgjimpmaaGreatDoor
namespace Go.Proofs.YtpmihhbgjimpmaaGreatDoor
open Go.RowKit
set_option linter.unusedVariables false

theorem dec_step {k : Nat} (h : ¬ k < 10) : Lib.decDigits k = Lib.decDigits (k / 10) ++ [UInt8.ofNat (48 + k % 10)] := by
  rw [Lib.decDigits, dif_neg h]
theorem dec_one {k : Nat} (h : k < 10) : Lib.decDigits k = [UInt8.ofNat (48 + k)] := by
  rw [Lib.decDigits, dif_pos h]

/-- Two strings together. -/
theorem cat_str (a b : List UInt8) : ((⟨a.toArray⟩ : ByteArray) ++ (⟨b.toArray⟩ : ByteArray)) = ⟨(a ++ b).toArray⟩ := by
  apply ByteArray.ext
  simp
theorem cat_one (x : UInt8) (b : List UInt8) : ((⟨#[x]⟩ : ByteArray) ++ (⟨b.toArray⟩ : ByteArray)) = ⟨(x :: b).toArray⟩ := cat_str [x] b
theorem u8_add (m : Nat) (h : m < 10) : (48 : UInt8) + UInt8.ofNat m = UInt8.ofNat (48 + m) := by
  simp

set_option maxRecDepth 100000 in
set_option maxHeartbeats 800000 in
theorem digits_pos (N : Nat) (w : World) (hN : N ≤ 1000000000000000000) :
    Calls Tryz.prog 165 #[.int .i64 N] w fun e w' => e = .returned (.string ⟨(Lib.decDigits N).toArray⟩) ∧ Below w.heap.size w w' := by
  go_enter Tryz.func165, Tryz.ntmps165
  go_wp2_with fail
  go_loopw [0, 3] (fun n s wr => ∃ (k : Nat) (l : List UInt8), n = .int .i64 k ∧ s = .string ⟨l.toArray⟩ ∧ k + l.length ≤ N ∧ Lib.decDigits N = Lib.decDigits k ++ l ∧ Below w.heap.size w wr) (fun n _ _ => (intOf n).toNat)
  case atStart => exact ⟨N, [], rfl, rfl, Nat.le_refl _, by simp, Below.refl _ _⟩
  case round =>
    obtain ⟨k, l, rfl, rfl, hk, hd, hb⟩ := hrel
    have HD : Hid _ := hd
    clear hd
    have hll : l.length ≤ 1000000000000000000 := by omega
    have hkk : k ≤ 1000000000000000000 := by omega
    by_cases h9 : 9 < k
    · have hcv : (convert 22 9 (.slice (some ⟨wr.heap.size, 0, none⟩) 1 1)).run Tryz.prog (wr.alloc (.cells #[.int .u8 (48 + (k : Int) % 10)] 5)) = .ok (.string ⟨#[UInt8.ofNat (48 + k % 10)]⟩) (wr.alloc (.cells #[.int .u8 (48 + (k : Int) % 10)] 5)) := run_convert_bytes_back (P := Tryz.prog) (wr.alloc (.cells #[.int .u8 (48 + (k : Int) % 10)] 5)) 22 9 5 ⟨wr.heap.size, 0, none⟩ 1 [UInt8.ofNat (48 + k % 10)] Tryz.underlying22 Tryz.underlying5 Tryz.underlying9 (fun j hj => by
        have : j = 0 := by simpa using hj
        subst this
        have hm : 48 + k % 10 < 256 := by omega
        simp [go_sem, Addr.add, Nat.mod_eq_of_lt hm])
      go_wp2
      go_roundw
      case rel => exact ⟨k / 10, UInt8.ofNat (48 + k % 10) :: l, by go_num, by rw [u8_add _ (by omega), cat_one], by rw [List.length_cons]; omega, by rw [HD.out, dec_step (by omega), List.append_assoc]; rfl, hb.alloc hb.size _⟩
      case measure => simp [intOf]; omega
    · have hcv : (convert 22 9 (.slice (some ⟨wr.heap.size, 0, none⟩) 1 1)).run Tryz.prog (wr.alloc (.cells #[.int .u8 (48 + (k : Int))] 5)) = .ok (.string ⟨#[UInt8.ofNat (48 + k)]⟩) (wr.alloc (.cells #[.int .u8 (48 + (k : Int))] 5)) := run_convert_bytes_back (P := Tryz.prog) (wr.alloc (.cells #[.int .u8 (48 + (k : Int))] 5)) 22 9 5 ⟨wr.heap.size, 0, none⟩ 1 [UInt8.ofNat (48 + k)] Tryz.underlying22 Tryz.underlying5 Tryz.underlying9 (fun j hj => by
        have : j = 0 := by simpa using hj
        subst this
        have hm : 48 + k < 256 := by omega
        simp [go_sem, Addr.add, Nat.mod_eq_of_lt hm])
      go_wp2
      go_ret
      exact ⟨by rw [u8_add _ (by omega), cat_one, HD.out, dec_one (by omega)]; rfl, hb.alloc hb.size _⟩

set_option maxRecDepth 100000 in
set_option maxHeartbeats 800000 in
theorem digits_any (n : Int) (w : World) (h0 : -1000000000000000000 ≤ n) (h1 : n ≤ 1000000000000000000) :
    Calls Tryz.prog 165 #[.int .i64 n] w fun e w' => e = .returned (.string ⟨(Lib.itoa n).toArray⟩) ∧ Below w.heap.size w w' := by
  by_cases hn : n < 0
  · have e : Lib.itoa n = 45 :: Lib.decDigits n.natAbs := by rw [Lib.itoa, if_pos hn]
    have hl : (Lib.decDigits n.natAbs).length ≤ 21 := by
      have := Lib.itoa_length_le n (by omega) (by omega)
      rw [e, List.length_cons] at this
      omega
    have HE : Hid _ := e
    clear e
    go_enter Tryz.func165, Tryz.ntmps165
    go_wp2_with fail
    refine (show Calls Tryz.prog 165 #[.int .i64 (-n)] w _ from (by have := digits_pos n.natAbs w (by omega); rw [show ((n.natAbs : Nat) : Int) = -n by omega] at this; exact this)).mono ?_
    rintro e w1 ⟨rfl, b1⟩
    go_wp2
    go_ret
    exact ⟨by rw [HE.out]; exact congrArg (fun x => Ending.returned (.string x)) (cat_one _ _), b1⟩
  · have e : Lib.itoa n = Lib.decDigits n.toNat := by rw [Lib.itoa, if_neg hn]
    rw [e]
    have := digits_pos n.toNat w (by omega)
    rwa [show ((n.toNat : Nat) : Int) = n by omega] at this

end Go.Proofs.YtpmihhbgjimpmaaGreatDoor
namespace Go.Proofs.YtpmihhbgjimpmaaGreatDoor
open Go.RowKit
set_option linter.unusedVariables false
set_option maxRecDepth 100000

def wordL (c : Int) : List UInt8 := if c = 1 then [100, 111, 110, 101] else if c = 2 then [115, 116, 111, 112, 112, 101, 100] else if c = 3 then [111, 118, 101, 114] else []
def tailL (zs : List Int) : List UInt8 := Lib.joinTail [32] (zs.map Lib.itoa)
def resOkB (c : Int) (n : Nat) (zs : List Int) : Bool := inB c 1 3 && (decide (c = 1 ∨ n = 0) && (decide (n ≤ 6) && allB 999999999999 zs))
def resText (c : Int) (n : Nat) (zs : List Int) : List UInt8 := if resOkB c n zs = true then wordL c ++ tailL zs else []
theorem tail_step {zs : List Int} {k : Nat} (h : k < zs.length) : tailL (zs.take (k + 1)) = tailL (zs.take k) ++ ([32] ++ Lib.itoa (zs[k]?.getD 0)) := by
  unfold tailL Lib.joinTail
  rw [List.take_succ_eq_append_getElem h, List.getElem?_eq_getElem h, List.map_append, List.map_append, List.flatten_append]
  simp only [List.map_cons, List.map_nil, List.flatten_cons, List.flatten_nil, List.append_nil, Option.getD_some]
theorem tail_nil : tailL [] = [] := rfl
theorem tail_end {zs : List Int} {k : Nat} (h : zs.length ≤ k) : tailL (zs.take k) = tailL zs := by rw [List.take_of_length_le h]
theorem resText_no {c : Int} {n : Nat} {zs : List Int} (h : resOkB c n zs = false) : resText c n zs = [] := by rw [resText, h]; rfl
theorem resText_yes {c : Int} {n : Nat} {zs : List Int} (h : resOkB c n zs = true) : resText c n zs = wordL c ++ tailL zs := by rw [resText, if_pos h]
theorem word_len (c : Int) : (wordL c).length ≤ 7 := by
  unfold wordL
  split
  · decide
  · split
    · decide
    · split <;> decide

theorem allB_bnd' {m : Int} {zs : List Int} (hm : 0 ≤ m) (h : allB m zs = true) : ∀ i : Nat, -m ≤ zs[i]?.getD 0 ∧ zs[i]?.getD 0 ≤ m := by
  intro i
  by_cases hi : i < zs.length
  · unfold allB at h
    rw [List.all_eq_true] at h
    have := inB_iff.1 (h zs[i] (List.getElem_mem hi))
    rw [List.getElem?_eq_getElem hi]
    simpa using this
  · rw [List.getElem?_eq_none (by omega)]
    simp; omega

theorem ret_str {a b : List UInt8} (h : a = b) : Ending.returned (.string ⟨a.toArray⟩) = .returned (.string ⟨b.toArray⟩) := by rw [h]

set_option maxHeartbeats 1600000 in
theorem stext_any (c : Int) (a : Option Addr) (n cap : Nat) (zs : List Int) (w : World) (hC : Ints w a n zs) (hn : n ≤ 1048576) :
    Calls Tryz.prog 142 #[resP c a n cap] w fun e w' => e = .returned (.string ⟨(resText c n zs).toArray⟩) ∧ Below w.heap.size w w' := by
  have HL : Hid (zs.length = n) := hC.1
  have B0 := ((Below.refl w.heap.size w).alloc (Nat.le_refl _) (.cells #[.int .i64 c, .slice a n cap] 54)).alloc (by simp) (.cells #[.string ⟨#[]⟩, .string ⟨#[100, 111, 110, 101]⟩, .string ⟨#[115, 116, 111, 112, 112, 101, 100]⟩, .string ⟨#[111, 118, 101, 114]⟩] 9)
  cases h1 : inB c 1 3
  · have HR : Hid _ := resText_no (c := c) (n := n) (zs := zs) (by simp [resOkB, h1])
    go_enter Tryz.func142, Tryz.ntmps142
    go_wp2_with fail
    refine (in_any _ _ _ _).mono ?_
    rintro e w1 ⟨rfl, rfl⟩
    rw [h1]
    go_wp2
    go_ret
    exact ⟨by rw [HR.out]; rfl, B0⟩
  have c13 := inB_iff.1 h1
  have H1 : Hid _ := h1
  by_cases h2 : c = 1 ∨ n = 0
  · by_cases h3 : n ≤ 6
    · cases h4 : allB 999999999999 zs
      · have h4' : okN (n : Int) 999999999999 n zs = false := by rw [okN_is rfl, h4]
        have HR : Hid _ := resText_no (c := c) (n := n) (zs := zs) (by simp [resOkB, h4])
        rcases h2 with rfl | rfl
        · go_enter Tryz.func142, Tryz.ntmps142
          go_wp2_with fail
          refine (in_any _ _ _ _).mono ?_
          rintro e w1 ⟨rfl, rfl⟩
          rw [h1]
          go_wp2_with fail
          refine (all_any _ _ _ zs _ _ _ (hC.below B0) hn (by omega) (by omega)).mono ?_
          rintro e w1 ⟨rfl, rfl⟩
          rw [h4']
          go_wp2
          go_ret
          exact ⟨by rw [HR.out]; rfl, B0⟩
        · exfalso
          have : zs = [] := List.eq_nil_of_length_eq_zero HL.out
          subst this
          cases h4
      · have H4 : Hid (okN (n : Int) 999999999999 n zs = true) := by show _ = _; rw [okN_is rfl, h4]
        have HR : Hid _ := resText_yes (c := c) (n := n) (zs := zs) (by simp [resOkB, h1, h2, h3, h4])
        have BZ : Hid (∀ i : Nat, -999999999999 ≤ zs[i]?.getD 0 ∧ zs[i]?.getD 0 ≤ 999999999999) := allB_bnd' (by omega) h4
        clear h1 h4
        by_cases e1 : c = 1
        · subst e1
          clear h2
          go_enter Tryz.func142, Tryz.ntmps142
          go_wp2_with fail
          refine (in_any _ _ _ _).mono ?_
          rintro e w1 ⟨rfl, rfl⟩
          rw [H1.out]
          go_wp2_with fail
          refine (all_any _ _ _ zs _ _ _ (hC.below B0) hn (by omega) (by omega)).mono ?_
          rintro e w1 ⟨rfl, rfl⟩
          rw [H4.out]
          obtain ⟨W, hW⟩ : ∃ W, W = (w.alloc (.cells #[.int .i64 1, .slice a n cap] 54)).alloc (.cells #[.string ⟨#[]⟩, .string ⟨#[100, 111, 110, 101]⟩, .string ⟨#[115, 116, 111, 112, 112, 101, 100]⟩, .string ⟨#[111, 118, 101, 114]⟩] 9) := ⟨_, rfl⟩
          have bx : Cel W w.heap.size [.int .i64 1, .slice a n cap] 54 := by rw [hW]; exact (Cel.new w _ _).alloc _
          have wd : Cel W (w.heap.size + 1) [.string ⟨#[]⟩, .string ⟨#[100, 111, 110, 101]⟩, .string ⟨#[115, 116, 111, 112, 112, 101, 100]⟩, .string ⟨#[111, 118, 101, 114]⟩] 9 := by rw [hW]; have := Cel.new (w.alloc (.cells #[.int .i64 1, .slice a n cap] 54)) [.string ⟨#[]⟩, .string ⟨#[100, 111, 110, 101]⟩, .string ⟨#[115, 116, 111, 112, 112, 101, 100]⟩, .string ⟨#[111, 118, 101, 114]⟩] 9; rwa [World.size_alloc] at this
          rw [← hW] at B0 ⊢
          clear hW
          have k0 := bx.cell 0
          have k1 := bx.cell 1
          have k2 := wd.cell 1
          simp only [List.getElem?_cons_zero, List.getElem?_cons_succ] at k0 k1 k2
          have hW := hC.below B0
          clear hC wd
          go_wp2_with fail
          go_loopw [4, 5] (fun s i wr => ∃ (k : Nat) (L : List UInt8), k ≤ n ∧ i = .int .i64 k ∧ s = .string ⟨L.toArray⟩ ∧ L = wordL 1 ++ tailL (zs.take k) ∧ L.length ≤ 7 + 22 * k ∧ Below W.heap.size W wr) (fun _ i _ => n - (intOf i).toNat)
          case atStart => exact ⟨0, wordL 1, Nat.zero_le _, rfl, rfl, by simp [tail_nil], by decide, Below.refl _ _⟩
          case round =>
            obtain ⟨k, L, hk, rfl, rfl, hL, hlen, hb⟩ := hrel
            have HLL : Hid _ := hL
            clear hL
            have hlen' : L.length ≤ 1000 := by omega
            have kk1 := (bx.below hb).cell 1
            simp only [List.getElem?_cons_zero, List.getElem?_cons_succ] at kk1
            by_cases hlt : k < n
            · obtain ⟨b, off, rfl, hcell⟩ := (hW.below hb).pos (by omega)
              have hck : wr.cell? ⟨b, off + k, none⟩ = some (.int .i64 (zs[k]?.getD 0)) := by rw [hcell k hlt]; simp
              have HT : Hid _ := tail_step (zs := zs) (k := k) (by rw [HL.out]; exact hlt)
              have hz := BZ.out k
              generalize HG : zs[k]?.getD 0 = z at *
              clear HG hcell
              obtain ⟨z1, z2⟩ := hz
              have hI := Lib.itoa_length_le z (by omega) (by omega)
              generalize HGI : Lib.itoa z = I at *
              have HGI' : Hid _ := HGI
              clear HGI
              go_wp2_with fail
              refine (digits_any z _ (by omega) (by omega)).mono ?_
              rintro e w2 ⟨rfl, b2⟩
              rw [HGI'.out]
              go_wp2
              go_roundw
              case rel => exact ⟨k + 1, L ++ [32] ++ I, by omega, by go_num, by rw [show (⟨#[32]⟩ : ByteArray) = ⟨[32].toArray⟩ from rfl, cat_str, cat_str], by rw [HT.out, HLL.out, List.append_assoc, List.append_assoc], by rw [List.length_append, List.length_append, List.length_cons, List.length_nil]; omega, hb.trans (b2.mono hb.size)⟩
              case measure => simp [intOf]; omega
            · go_wp2
              go_ret
              exact ⟨by rw [HR.out, HLL.out, tail_end (by rw [HL.out]; omega)]; rfl, B0.trans (hb.mono B0.size)⟩
        · have hn0 : n ≤ 0 := by omega
          clear h2
          by_cases e2 : c = 2
          · subst e2
            go_enter Tryz.func142, Tryz.ntmps142
            go_wp2_with fail
            refine (in_any _ _ _ _).mono ?_
            rintro e w1 ⟨rfl, rfl⟩
            rw [H1.out]
            go_wp2_with fail
            refine (all_any _ _ _ zs _ _ _ (hC.below B0) hn (by omega) (by omega)).mono ?_
            rintro e w1 ⟨rfl, rfl⟩
            rw [H4.out]
            obtain ⟨W, hW⟩ : ∃ W, W = (w.alloc (.cells #[.int .i64 2, .slice a n cap] 54)).alloc (.cells #[.string ⟨#[]⟩, .string ⟨#[100, 111, 110, 101]⟩, .string ⟨#[115, 116, 111, 112, 112, 101, 100]⟩, .string ⟨#[111, 118, 101, 114]⟩] 9) := ⟨_, rfl⟩
            have bx : Cel W w.heap.size [.int .i64 2, .slice a n cap] 54 := by rw [hW]; exact (Cel.new w _ _).alloc _
            have wd : Cel W (w.heap.size + 1) [.string ⟨#[]⟩, .string ⟨#[100, 111, 110, 101]⟩, .string ⟨#[115, 116, 111, 112, 112, 101, 100]⟩, .string ⟨#[111, 118, 101, 114]⟩] 9 := by rw [hW]; have := Cel.new (w.alloc (.cells #[.int .i64 2, .slice a n cap] 54)) [.string ⟨#[]⟩, .string ⟨#[100, 111, 110, 101]⟩, .string ⟨#[115, 116, 111, 112, 112, 101, 100]⟩, .string ⟨#[111, 118, 101, 114]⟩] 9; rwa [World.size_alloc] at this
            rw [← hW] at B0 ⊢
            clear hW
            have k0 := bx.cell 0
            have k1 := bx.cell 1
            have k2 := wd.cell 2
            simp only [List.getElem?_cons_zero, List.getElem?_cons_succ] at k0 k1 k2
            have hW := hC.below B0
            clear hC wd
            go_wp2_with fail
            go_loopw [4, 5] (fun s i wr => ∃ (k : Nat) (L : List UInt8), k ≤ n ∧ i = .int .i64 k ∧ s = .string ⟨L.toArray⟩ ∧ L = wordL 2 ++ tailL (zs.take k) ∧ L.length ≤ 7 + 22 * k ∧ Below W.heap.size W wr) (fun _ i _ => n - (intOf i).toNat)
            case atStart => exact ⟨0, wordL 2, Nat.zero_le _, rfl, rfl, by simp [tail_nil], by decide, Below.refl _ _⟩
            case round =>
              obtain ⟨k, L, hk, rfl, rfl, hL, hlen, hb⟩ := hrel
              have HLL : Hid _ := hL
              clear hL
              have hlen' : L.length ≤ 1000 := by omega
              have kk1 := (bx.below hb).cell 1
              simp only [List.getElem?_cons_zero, List.getElem?_cons_succ] at kk1
              by_cases hlt : k < n
              · exfalso; omega
              · go_wp2
                go_ret
                exact ⟨by rw [HR.out, HLL.out, tail_end (by rw [HL.out]; omega)]; rfl, B0.trans (hb.mono B0.size)⟩
          · obtain rfl : c = 3 := by omega
            go_enter Tryz.func142, Tryz.ntmps142
            go_wp2_with fail
            refine (in_any _ _ _ _).mono ?_
            rintro e w1 ⟨rfl, rfl⟩
            rw [H1.out]
            go_wp2_with fail
            refine (all_any _ _ _ zs _ _ _ (hC.below B0) hn (by omega) (by omega)).mono ?_
            rintro e w1 ⟨rfl, rfl⟩
            rw [H4.out]
            obtain ⟨W, hW⟩ : ∃ W, W = (w.alloc (.cells #[.int .i64 3, .slice a n cap] 54)).alloc (.cells #[.string ⟨#[]⟩, .string ⟨#[100, 111, 110, 101]⟩, .string ⟨#[115, 116, 111, 112, 112, 101, 100]⟩, .string ⟨#[111, 118, 101, 114]⟩] 9) := ⟨_, rfl⟩
            have bx : Cel W w.heap.size [.int .i64 3, .slice a n cap] 54 := by rw [hW]; exact (Cel.new w _ _).alloc _
            have wd : Cel W (w.heap.size + 1) [.string ⟨#[]⟩, .string ⟨#[100, 111, 110, 101]⟩, .string ⟨#[115, 116, 111, 112, 112, 101, 100]⟩, .string ⟨#[111, 118, 101, 114]⟩] 9 := by rw [hW]; have := Cel.new (w.alloc (.cells #[.int .i64 3, .slice a n cap] 54)) [.string ⟨#[]⟩, .string ⟨#[100, 111, 110, 101]⟩, .string ⟨#[115, 116, 111, 112, 112, 101, 100]⟩, .string ⟨#[111, 118, 101, 114]⟩] 9; rwa [World.size_alloc] at this
            rw [← hW] at B0 ⊢
            clear hW
            have k0 := bx.cell 0
            have k1 := bx.cell 1
            have k2 := wd.cell 3
            simp only [List.getElem?_cons_zero, List.getElem?_cons_succ] at k0 k1 k2
            have hW := hC.below B0
            clear hC wd
            go_wp2_with fail
            go_loopw [4, 5] (fun s i wr => ∃ (k : Nat) (L : List UInt8), k ≤ n ∧ i = .int .i64 k ∧ s = .string ⟨L.toArray⟩ ∧ L = wordL 3 ++ tailL (zs.take k) ∧ L.length ≤ 7 + 22 * k ∧ Below W.heap.size W wr) (fun _ i _ => n - (intOf i).toNat)
            case atStart => exact ⟨0, wordL 3, Nat.zero_le _, rfl, rfl, by simp [tail_nil], by decide, Below.refl _ _⟩
            case round =>
              obtain ⟨k, L, hk, rfl, rfl, hL, hlen, hb⟩ := hrel
              have HLL : Hid _ := hL
              clear hL
              have hlen' : L.length ≤ 1000 := by omega
              have kk1 := (bx.below hb).cell 1
              simp only [List.getElem?_cons_zero, List.getElem?_cons_succ] at kk1
              by_cases hlt : k < n
              · exfalso; omega
              · go_wp2
                go_ret
                exact ⟨by rw [HR.out, HLL.out, tail_end (by rw [HL.out]; omega)]; rfl, B0.trans (hb.mono B0.size)⟩
    · have HR : Hid _ := resText_no (c := c) (n := n) (zs := zs) (by simp [resOkB, h3])
      obtain rfl : c = 1 := by omega
      go_enter Tryz.func142, Tryz.ntmps142
      go_wp2_with fail
      refine (in_any _ _ _ _).mono ?_
      rintro e w1 ⟨rfl, rfl⟩
      rw [h1]
      go_wp2
      go_ret
      exact ⟨by rw [HR.out]; rfl, B0⟩
  · have HR : Hid _ := resText_no (c := c) (n := n) (zs := zs) (by simp [resOkB, h2])
    have hc1 : (c != 1) = true := by simp; omega
    have hn0 : (0 : Int) < n := by omega
    go_enter Tryz.func142, Tryz.ntmps142
    go_wp2_with fail
    refine (in_any _ _ _ _).mono ?_
    rintro e w1 ⟨rfl, rfl⟩
    rw [h1]
    go_wp2
    go_ret
    exact ⟨by rw [HR.out]; rfl, B0⟩

end Go.Proofs.YtpmihhbgjimpmaaGreatDoor
namespace Go.Proofs.YtpmihhbgjimpmaaGreatDoor
open Go.RowKit Go.Deep
set_option linter.unusedVariables false
set_option maxRecDepth 100000

def callOkB (cl sq ac : Int) (n : Nat) (zs : List Int) : Bool := inB cl 0 3 && (inB sq 1 300 && (inB ac 0 3 && okN 2 9 n zs))
def wClient : List UInt8 := [99, 108, 105, 101, 110, 116]
def wCall : List UInt8 := [99, 97, 108, 108]
def wAct : List UInt8 := [97, 99, 116]
def wWith : List UInt8 := [119, 105, 116, 104]
def callL (cl sq ac : Int) (zs : List Int) : List UInt8 := wClient ++ ([32] ++ (Lib.itoa cl ++ ([32] ++ (wCall ++ ([32] ++ (Lib.itoa sq ++ ([32] ++ (wAct ++ ([32] ++ (Lib.itoa ac ++ ([32] ++ (wWith ++ tailL zs))))))))))))
def callText (cl sq ac : Int) (n : Nat) (zs : List Int) : List UInt8 := if callOkB cl sq ac n zs = true then callL cl sq ac zs else []
theorem callText_no {cl sq ac : Int} {n : Nat} {zs : List Int} (h : callOkB cl sq ac n zs = false) : callText cl sq ac n zs = [] := by rw [callText, h]; rfl
theorem callText_yes {cl sq ac : Int} {n : Nat} {zs : List Int} (h : callOkB cl sq ac n zs = true) : callText cl sq ac n zs = callL cl sq ac zs := by rw [callText, if_pos h]
theorem two_of {zs : List Int} (h : zs.length = 2) : zs = [zs[0]?.getD 0, zs[1]?.getD 0] := by
  match zs, h with
  | [x, y], _ => rfl
theorem tail_two (x y : Int) : tailL [x, y] = [32] ++ (Lib.itoa x ++ ([32] ++ Lib.itoa y)) := by
  simp [tailL, Lib.joinTail]

end Go.Proofs.YtpmihhbgjimpmaaGreatDoor
namespace Go.Proofs
open Go.Shelf
def Tryz.lays156_ren : Go.Shelf.Ren := ⟨fun | 156 => 163 | 165 => 177 | 166 => 178 | 169 => 179 | 240 => 188 | 241 => 189 | 276 => 200 | 277 => 201 | n => n, fun | 31 => 227 | 9 => 9 | 3 => 3 | 4 => 4 | 0 => 0 | 20 => 20 | 72 => 241 | 76 => 245 | 70 => 239 | 37 => 22 | 75 => 244 | 127 => 251 | 164 => 259 | 5 => 5 | 80 => 225 | n => n, fun | n => n⟩
theorem Tryz.lays156 : Go.Proofs.Lays.n156 Tryz.prog Tryz.lays156_ren := {
  mixed := by kernel_rfl
  f156 := Tryz.func163.trans (congrArg some (by kernel_rfl))
  f165 := Tryz.func177.trans (congrArg some (by kernel_rfl))
  f166 := Tryz.func178.trans (congrArg some (by kernel_rfl))
  f169 := Tryz.func179.trans (congrArg some (by kernel_rfl))
  f240 := Tryz.func188.trans (congrArg some (by kernel_rfl))
  f241 := Tryz.func189.trans (congrArg some (by kernel_rfl))
  f276 := Tryz.func200.trans (congrArg some (by kernel_rfl))
  f277 := Tryz.func201.trans (congrArg some (by kernel_rfl))
  t0 := Tryz.underlying0
  a0 := Tryz.isAgg0
  z0 := Tryz.sizeOf0
  v0 := Tryz.zeroValue0
  t3 := Tryz.underlying3
  a3 := Tryz.isAgg3
  z3 := Tryz.sizeOf3
  v3 := Tryz.zeroValue3
  t4 := Tryz.underlying4
  a4 := Tryz.isAgg4
  z4 := Tryz.sizeOf4
  v4 := Tryz.zeroValue4
  t9 := Tryz.underlying9
  a9 := Tryz.isAgg9
  z9 := Tryz.sizeOf9
  v9 := Tryz.zeroValue9
  t20 := Tryz.underlying20
  a20 := Tryz.isAgg20
  z20 := Tryz.sizeOf20
  v20 := Tryz.zeroValue20
  t31 := Tryz.underlying227
  a31 := Tryz.isAgg227
  z31 := Tryz.sizeOf227
  v31 := Tryz.zeroValue227
  t37 := Tryz.underlying22
  a37 := Tryz.isAgg22
  z37 := Tryz.sizeOf22
  v37 := Tryz.zeroValue22
  t70 := Tryz.underlying239
  a70 := Tryz.isAgg239
  z70 := Tryz.sizeOf239
  v70 := Tryz.zeroValue239
  t72 := Tryz.underlying241
  a72 := Tryz.isAgg241
  z72 := Tryz.sizeOf241
  v72 := Tryz.zeroValue241
  t75 := Tryz.underlying244
  a75 := Tryz.isAgg244
  z75 := Tryz.sizeOf244
  v75 := Tryz.zeroValue244
  t76 := Tryz.underlying245
  a76 := Tryz.isAgg245
  z76 := Tryz.sizeOf245
  v76 := Tryz.zeroValue245
  t127 := Tryz.underlying251
  a127 := Tryz.isAgg251
  z127 := Tryz.sizeOf251
  v127 := Tryz.zeroValue251
  t164 := Tryz.underlying259
  a164 := Tryz.isAgg259
  z164 := Tryz.sizeOf259
  v164 := Tryz.zeroValue259 }
theorem Tryz.Builder_Extra_156 : Builder.Extra Tryz.prog Tryz.lays156_ren := {
  sizeBuilder := by kernel_rfl
  liesBuilder := by kernel_rfl
  t5 := Tryz.underlying5
  a5 := Tryz.isAgg5
  z5 := Tryz.sizeOf5
  v5 := Tryz.zeroValue5
  infoByte := by kernel_rfl
  cellsByte := by kernel_rfl
  sizeByte := by kernel_rfl
  neB5 := by decide }
open Go.RowKit in
theorem Tryz.strings_Join_none (a : Option Addr) (c : Nat) (sep : ByteArray) (w : World) :
    Calls Tryz.prog 163 #[.slice a 0 c, .string sep] w fun e w' => e = .returned (.string ⟨#[]⟩) ∧ w' = w := Any.strings_Join_none Tryz.lays156 Tryz.Builder_Extra_156 a c sep w
open Go.RowKit in
theorem Tryz.strings_Join (bk o c : Nat) (xs : List ByteArray) (sep : ByteArray) (w : World) (hcells : ∀ (j : Nat) x, xs[j]? = some x → w.cell? ⟨bk, o + j, none⟩ = some (.string x)) (hbk : bk < w.heap.size) (hN : xs.length ≤ 140737488355328) (hcap : xs.length ≤ c) (hlen : (Lib.join (xs.map (·.data.toList)) sep.data.toList).length ≤ 140737488355328) :
    Calls Tryz.prog 163 #[.slice (some ⟨bk, o, none⟩) xs.length c, .string sep] w fun e w' => e = .returned (.string ⟨(Lib.join (xs.map (·.data.toList)) sep.data.toList).toArray⟩) ∧ Below w.heap.size w w' := Any.strings_Join Tryz.lays156 Tryz.Builder_Extra_156 bk o c xs sep w hcells hbk hN hcap hlen
def Tryz.laysM171_ren : Go.Shelf.Ren := ⟨fun | 171 => 176 | 243 => 187 | 246 => 199 | 283 => 203 | 284 => 204 | 285 => 205 | 286 => 206 | 129 => 208 | 317 => 207 | 318 => 209 | 319 => 210 | 320 => 211 | 337 => 212 | 338 => 213 | n => n, fun | 3 => 3 | 9 => 9 | 2 => 2 | 4 => 4 | 171 => 264 | 0 => 0 | 53 => 265 | 37 => 22 | 5 => 5 | 173 => 268 | 212 => 271 | 51 => 272 | 20 => 20 | 213 => 273 | 46 => 274 | 232 => 277 | 233 => 278 | n => n, fun | 17 => 1 | 18 => 2 | 19 => 3 | n => n⟩
theorem Tryz.laysM171 : Go.Proofs.LaysM.n171 Tryz.prog Tryz.laysM171_ren := {
  mixed := by kernel_rfl
  f129 := Tryz.func208.trans (congrArg some (by kernel_rfl))
  f171 := Tryz.func176.trans (congrArg some (by kernel_rfl))
  f243 := Tryz.func187.trans (congrArg some (by kernel_rfl))
  f246 := Tryz.func199.trans (congrArg some (by kernel_rfl))
  f283 := Tryz.func203.trans (congrArg some (by kernel_rfl))
  f284 := Tryz.func204.trans (congrArg some (by kernel_rfl))
  f285 := Tryz.func205.trans (congrArg some (by kernel_rfl))
  f286 := Tryz.func206.trans (congrArg some (by kernel_rfl))
  f317 := Tryz.func207.trans (congrArg some (by kernel_rfl))
  f318 := Tryz.func209.trans (congrArg some (by kernel_rfl))
  f319 := Tryz.func210.trans (congrArg some (by kernel_rfl))
  f320 := Tryz.func211.trans (congrArg some (by kernel_rfl))
  f337 := Tryz.func212.trans (congrArg some (by kernel_rfl))
  f338 := Tryz.func213.trans (congrArg some (by kernel_rfl))
  t0 := Tryz.underlying0
  a0 := Tryz.isAgg0
  z0 := Tryz.sizeOf0
  v0 := Tryz.zeroValue0
  t2 := Tryz.underlying2
  a2 := Tryz.isAgg2
  z2 := Tryz.sizeOf2
  v2 := Tryz.zeroValue2
  t3 := Tryz.underlying3
  a3 := Tryz.isAgg3
  z3 := Tryz.sizeOf3
  v3 := Tryz.zeroValue3
  t4 := Tryz.underlying4
  a4 := Tryz.isAgg4
  z4 := Tryz.sizeOf4
  v4 := Tryz.zeroValue4
  t5 := Tryz.underlying5
  a5 := Tryz.isAgg5
  z5 := Tryz.sizeOf5
  v5 := Tryz.zeroValue5
  t9 := Tryz.underlying9
  a9 := Tryz.isAgg9
  z9 := Tryz.sizeOf9
  v9 := Tryz.zeroValue9
  t20 := Tryz.underlying20
  a20 := Tryz.isAgg20
  z20 := Tryz.sizeOf20
  v20 := Tryz.zeroValue20
  t37 := Tryz.underlying22
  a37 := Tryz.isAgg22
  z37 := Tryz.sizeOf22
  v37 := Tryz.zeroValue22
  t46 := Tryz.underlying274
  a46 := Tryz.isAgg274
  z46 := Tryz.sizeOf274
  v46 := Tryz.zeroValue274
  t51 := Tryz.underlying272
  a51 := Tryz.isAgg272
  z51 := Tryz.sizeOf272
  v51 := Tryz.zeroValue272
  t53 := Tryz.underlying265
  a53 := Tryz.isAgg265
  z53 := Tryz.sizeOf265
  v53 := Tryz.zeroValue265
  t171 := Tryz.underlying264
  a171 := Tryz.isAgg264
  z171 := Tryz.sizeOf264
  v171 := Tryz.zeroValue264
  t173 := Tryz.underlying268
  a173 := Tryz.isAgg268
  z173 := Tryz.sizeOf268
  v173 := Tryz.zeroValue268
  t212 := Tryz.underlying271
  a212 := Tryz.isAgg271
  z212 := Tryz.sizeOf271
  v212 := Tryz.zeroValue271
  t213 := Tryz.underlying273
  a213 := Tryz.isAgg273
  z213 := Tryz.sizeOf273
  t232 := Tryz.underlying277
  a232 := Tryz.isAgg277
  z232 := Tryz.sizeOf277
  v232 := Tryz.zeroValue277
  t233 := Tryz.underlying278
  a233 := Tryz.isAgg278
  z233 := Tryz.sizeOf278
  v233 := Tryz.zeroValue278
  g17 := by kernel_rfl
  g18 := by kernel_rfl
  g19 := by kernel_rfl
  i0 := by kernel_rfl
  i2 := by kernel_rfl
  i3 := by kernel_rfl
  i4 := by kernel_rfl
  i5 := by kernel_rfl
  i9 := by kernel_rfl
  i20 := by kernel_rfl
  i37 := by kernel_rfl
  i46 := by kernel_rfl
  i51 := by kernel_rfl
  i53 := by kernel_rfl
  i171 := by kernel_rfl
  i173 := by kernel_rfl
  i212 := by kernel_rfl
  i232 := by kernel_rfl
  i233 := by kernel_rfl
  m17 := by kernel_rfl
  m18 := by kernel_rfl
  m19 := by kernel_rfl }
open Go.RowKit Go.Sort Go.Lib in
theorem Tryz.strconv_Itoa (n : Int) (h0 : -9223372036854775808 ≤ n) (h1 : n ≤ 9223372036854775807) (w : World) (htab : Lib.TabIs Tryz.prog w "internal/strconv.uint64pow10" .u64 Lib.pow10Tab) :
    Calls Tryz.prog 176 #[.int .i64 n] w fun e w' => e = .returned (.string ⟨(Lib.itoa n).toArray⟩) ∧ ∃ k os, w' = grow (w.drewN k) os := Any.strconv_Itoa Tryz.laysM171 n h0 h1 w htab
end Go.Proofs
namespace Go.Proofs.YtpmihhbgjimpmaaGreatDoor
open Go.RowKit
set_option linter.unusedVariables false
set_option maxRecDepth 100000

/-- A list of strings that has been made since w, and grows; old memory is as it was. -/
structure JT (w : World) (v : Value) (xs : List ByteArray) (W : World) : Prop where
  b : Below w.heap.size w W
  o : W.ownsRow w.heap.size 9 1 v xs.length (xs.map Value.string)
theorem JT.one (w : World) (x : ByteArray) : JT w (.slice (some ⟨w.heap.size, 0, none⟩) 1 1) [x] (w.alloc (.cells #[.string x] 9)) :=
  ⟨(Below.refl _ _).alloc (Nat.le_refl _) _, World.ownsRow_lit w #[.string x] 1 (Nat.le_refl _) (by unfold maxLen; omega) rfl⟩
theorem JT.alloc {w W : World} {v : Value} {xs : List ByteArray} (j : JT w v xs W) (o : Obj) : JT w v xs (W.alloc o) := ⟨j.b.alloc j.b.size _, j.o.alloc o⟩
theorem JT.below {w W W' : World} {v : Value} {xs : List ByteArray} (j : JT w v xs W) (h : Below W.heap.size W W') : JT w v xs W' := by
  refine ⟨j.b.trans (h.mono j.b.size), j.o.1, ?_⟩
  rcases j.o.2 with h2 | ⟨g, cap, cur, hv, hg, hh, r⟩
  · exact Or.inl h2
  · exact Or.inr ⟨g, cap, cur, hv, hg, by rw [h.block g (lt_of_block hh)]; exact hh, r⟩
theorem JT.app {w W W' : World} {v : Value} {xs : List ByteArray} {y : ByteArray} {g cap k : Nat} {o : Obj} (j : JT w v xs W) (hk : xs.length = k) (hown : W'.ownsRow w.heap.size 9 1 (.slice (some ⟨g, 0, none⟩) (k + 1) cap) (k + 1) (xs.map Value.string ++ [.string y])) (hg : (W.alloc o).grownBy W' v.ownBlock) :
    JT w (.slice (some ⟨g, 0, none⟩) (k + 1) cap) (xs ++ [y]) W' := by
  refine ⟨(j.alloc o).b.grown hg (j.alloc o).b.size (fun k hk => ((j.alloc o).o.lt k hk).1), ?_⟩
  rw [List.length_append, hk, List.map_append]
  exact hown
theorem JT.cells {w W : World} {v : Value} {xs : List ByteArray} {k : Nat} (j : JT w v xs W) (hk : xs.length = k) (h0 : 0 < k) : ∃ g cap, v = .slice (some ⟨g, 0, none⟩) k cap ∧ k ≤ cap ∧ g < W.heap.size ∧ ∀ (i : Nat) x, xs[i]? = some x → W.cell? ⟨g, 0 + i, none⟩ = some (.string x) := by
  subst hk
  rcases j.o.2 with ⟨hv, h⟩ | ⟨g, cap', cur, rfl, hg, hh, hl, _, _⟩
  · omega
  · refine ⟨g, cap', rfl, hl, lt_of_block hh, fun i x hx => ?_⟩
    have hi := (List.getElem?_eq_some_iff.1 hx).1
    have := j.o.cellAt i (by omega)
    rw [Nat.zero_add, this]
    simp [hx]

theorem newsS (w : World) (x : Value) (t : TypeId) : ∀ j u, [x][j]? = some u → (w.alloc (.cells #[x] t)).cell? ((⟨w.heap.size, 0, none⟩ : Addr).add j) = some u := fun j u hu => by
  match j, hu with
  | 0, hu =>
    simp only [List.getElem?_cons_zero, Option.some.injEq] at hu
    subst hu
    simp [Addr.add]
theorem oneS (x : ByteArray) : ∀ u ∈ [Value.string x], u.oneCell' = true := fun u hu => by
  simp at hu; subst hu; rfl
theorem Tryz.infoStr : (Tryz.prog.info? 9).map (fun i => (i.zero, i.size, i.bytes)) = some (some (.string ⟨#[]⟩), 1, 16) := by kernel_rfl

theorem word_any (c : Int) (w : World) : Calls Tryz.prog 164 #[.int .i64 c] w fun e w' => e = .returned (.string ⟨(wordL c).toArray⟩) ∧ w' = w := by
  by_cases h1 : c = 1
  · subst h1
    go_enter Tryz.func164, Tryz.ntmps164
    go_wp2
    go_ret
    exact ⟨rfl, rfl⟩
  have h1' : (c == 1) = false := by simp [h1]
  by_cases h2 : c = 2
  · subst h2
    go_enter Tryz.func164, Tryz.ntmps164
    go_wp2
    go_ret
    exact ⟨rfl, rfl⟩
  have h2' : (c == 2) = false := by simp [h2]
  by_cases h3 : c = 3
  · subst h3
    go_enter Tryz.func164, Tryz.ntmps164
    go_wp2
    go_ret
    exact ⟨rfl, rfl⟩
  have h3' : (c == 3) = false := by simp [h3]
  have e : wordL c = [] := by rw [wordL, if_neg h1, if_neg h2, if_neg h3]
  rw [e]
  go_enter Tryz.func164, Tryz.ntmps164
  go_wp2
  go_ret
  exact ⟨rfl, rfl⟩

/-- The words of a result. -/
def wordsL (c : Int) (zs : List Int) : List ByteArray := ⟨(wordL c).toArray⟩ :: zs.map fun z => ⟨(Lib.itoa z).toArray⟩
theorem words_join (c : Int) (zs : List Int) : Lib.join ((wordsL c zs).map (·.data.toList)) [32] = wordL c ++ tailL zs := by
  rw [wordsL, List.map_cons, Lib.join_cons, tailL, List.map_map]
  rfl
theorem words_step {c : Int} {zs : List Int} {k : Nat} (h : k < zs.length) : wordsL c (zs.take (k + 1)) = wordsL c (zs.take k) ++ [⟨(Lib.itoa (zs[k]?.getD 0)).toArray⟩] := by
  rw [wordsL, wordsL, List.take_succ_eq_append_getElem h, List.getElem?_eq_getElem h, List.map_append]
  rfl
theorem words_len (c : Int) (zs : List Int) : (wordsL c zs).length = zs.length + 1 := by simp [wordsL]
theorem tail_len {zs : List Int} (hb : ∀ i : Nat, -999999999999 ≤ zs[i]?.getD 0 ∧ zs[i]?.getD 0 ≤ 999999999999) : ∀ k, k ≤ zs.length → (tailL (zs.take k)).length ≤ 22 * k
  | 0, _ => by simp [tailL, Lib.joinTail]
  | k + 1, h => by
    have ih := tail_len hb k (by omega)
    have hz := hb k
    have := Lib.itoa_length_le (zs[k]?.getD 0) (by omega) (by omega)
    rw [tail_step (by omega), List.length_append, List.length_append]
    simp only [List.length_cons, List.length_nil]
    omega

end Go.Proofs.YtpmihhbgjimpmaaGreatDoor
namespace Go.Proofs.YtpmihhbgjimpmaaGreatDoor
open Go.RowKit
set_option linter.unusedVariables false
set_option maxRecDepth 100000

def wordsT (l : List UInt8) (zs : List Int) : List ByteArray := ⟨l.toArray⟩ :: zs.map fun z => ⟨(Lib.itoa z).toArray⟩
theorem wordsT_join (l : List UInt8) (zs : List Int) : Lib.join ((wordsT l zs).map (·.data.toList)) [32] = l ++ tailL zs := by
  rw [wordsT, List.map_cons, Lib.join_cons, tailL, List.map_map]
  rfl
theorem wordsT_step {l : List UInt8} {zs : List Int} {k : Nat} (h : k < zs.length) : wordsT l (zs.take (k + 1)) = wordsT l (zs.take k) ++ [⟨(Lib.itoa (zs[k]?.getD 0)).toArray⟩] := by
  rw [wordsT, wordsT, List.take_succ_eq_append_getElem h, List.getElem?_eq_getElem h, List.map_append]
  rfl
set_option maxHeartbeats 3200000 in
theorem itwn_any (l : List UInt8) (a : Option Addr) (n cap : Nat) (zs : List Int) (w : World) (hC : Ints w a n zs) (hn : n ≤ 1000) (hl : l.length ≤ 1000) (hz : ∀ i : Nat, -999999999999 ≤ zs[i]?.getD 0 ∧ zs[i]?.getD 0 ≤ 999999999999) (hT : Lib.TabBelow Tryz.prog w.heap.size w "internal/strconv.uint64pow10" .u64 Lib.pow10Tab) :
    Calls Tryz.prog 162 #[.string ⟨l.toArray⟩, .slice a n cap] w fun e w' => e = .returned (.string ⟨(l ++ tailL zs).toArray⟩) ∧ Below w.heap.size w w' := by
  have HL : Hid (zs.length = n) := hC.1
  have HTB : Hid _ := hT
  have BZ : Hid (∀ i : Nat, -999999999999 ≤ zs[i]?.getD 0 ∧ zs[i]?.getD 0 ≤ 999999999999) := hz
  have HLL : Hid (l.length ≤ 1000) := hl
  clear hT hz hl
  obtain ⟨i0, hi, hz0, hz1, hz2⟩ := info_parts Tryz.infoStr
  obtain ⟨S, hS⟩ : ∃ S : ByteArray, S = ⟨l.toArray⟩ := ⟨_, rfl⟩
  have HS0 : Hid (S = ⟨l.toArray⟩) := hS
  rw [← hS]
  clear hS
  go_enter Tryz.func162, Tryz.ntmps162
  go_wp2_with fail
  go_loopw [5, 7, 12] (fun v _ i wr => ∃ (k : Nat) (xs : List ByteArray), k ≤ n ∧ i = .int .i64 k ∧ xs.length = k + 1 ∧ xs = wordsT l (zs.take k) ∧ JT w v xs wr) (fun _ _ i _ => n - (intOf i).toNat)
  case atStart => exact ⟨0, _, Nat.zero_le _, rfl, rfl, by rw [HS0.out]; rfl, JT.one w S⟩
  case round =>
    obtain ⟨k, xs, hk, rfl, hxl, hxs, j⟩ := hrel
    have HXL : Hid _ := hxl
    have HXS : Hid _ := hxs
    clear hxl hxs
    have hjb := j.b.size
    by_cases hlt : k < n
    · obtain ⟨b, off, rfl, hcell⟩ := (hC.below j.b).pos (by omega)
      have hck : wr.cell? ⟨b, off + k, none⟩ = some (.int .i64 (zs[k]?.getD 0)) := by rw [hcell k hlt]; simp
      have HS : Hid _ := wordsT_step (l := l) (zs := zs) (k := k) (by rw [HL.out]; exact hlt)
      have hz := BZ.out k
      generalize HG : zs[k]?.getD 0 = z at hck HS hz
      clear HG hcell
      obtain ⟨z1, z2⟩ := hz
      have tab : Lib.TabIs Tryz.prog wr "internal/strconv.uint64pow10" .u64 Lib.pow10Tab := HTB.out wr j.b
      go_wp2_with fail
      refine (Tryz.strconv_Itoa z (by omega) (by omega) _ tab).mono ?_
      rintro e w2 ⟨rfl, q, os, hw2⟩
      have b2 : Below wr.heap.size wr w2 := by rw [hw2]; exact Lib.below_grow _ _ (Nat.le_refl _) _ _
      clear hw2 tab
      have j2 := j.below b2
      have jo := j2.o
      rw [HXL.out] at jo
      have hjb2 := j2.b.size
      clear b2 j
      obtain ⟨I, hI⟩ : ∃ I : ByteArray, I = ⟨(Lib.itoa z).toArray⟩ := ⟨_, rfl⟩
      rw [← hI]
      have HI : Hid _ := hI
      clear hI
      go_wp2_with (at_builtin; go_must (refine wpList_append_lies _ rfl (.tmp 16) (.tmp 19) 227 rfl w.heap.size 9 i0 (.string ⟨#[]⟩) 1 16 Tryz.underlying227 hi hz0 hz1 hz2 rfl (by decide) _ _ _ rfl (jo.alloc _) ⟨w2.heap.size, 0, none⟩ 1 1 [.string I] rfl rfl (newsS _ _ _) (oneS _) (by omega) (by unfold maxLen; omega) (by omega) (by rw [World.size_alloc]; omega) _ rfl ?_); intro g cp w3 hown hgrow hat hlt1)
      have j3 := j2.app HXL.out hown hgrow
      clear hown hgrow jo j2 hat
      go_wp2
      go_roundw
      case rel => exact ⟨k + 1, _, by omega, by go_num, by rw [List.length_append, HXL.out]; rfl, by rw [HS.out, HXS.out, HI.out], j3⟩
      case measure => simp [intOf]; omega
    · obtain rfl : k = n := by omega
      obtain ⟨g, gc, rfl, hcap, hg, hcs⟩ := j.cells HXL.out (by omega)
      have HJ := Tryz.strings_Join g 0 gc xs ⟨#[32]⟩ wr hcs hg (by rw [HXL.out]; omega) (by rw [HXL.out]; exact hcap) (by
        rw [HXS.out, List.take_of_length_le (by rw [HL.out]; exact Nat.le_refl _)]
        have := wordsT_join l zs
        rw [show (⟨#[32]⟩ : ByteArray).data.toList = [32] from rfl, this, List.length_append]
        have := tail_len BZ.out zs.length (Nat.le_refl _)
        rw [List.take_length] at this
        have := HLL.out
        have := HL.out
        omega)
      rw [HXL.out] at HJ
      have jb := j.b
      clear hcs hcap hg j
      go_wp2_with fail
      refine HJ.mono ?_
      rintro e w2 ⟨rfl, b2⟩
      have B2 := jb.trans (b2.mono (by omega))
      go_wp2
      go_ret
      refine ⟨?_, B2⟩
      rw [← wordsT_join l zs, HXS.out, List.take_of_length_le (by rw [HL.out]; exact Nat.le_refl _)]
      rfl

end Go.Proofs.YtpmihhbgjimpmaaGreatDoor
namespace Go.Proofs.YtpmihhbgjimpmaaGreatDoor
open Go.RowKit
section
variable {P : Program} {ops : Array Oper} {Q : Exit → Act → World → Prop} {md : Region.Mode} {S0 S : World → Prop} {s : Nat}
theorem tkE {i : Nat} {oi : Oper} {v : Value} {fuel : Nat} {listed : Array Bool} {a : Act} {w : World} (hi : ops[i]? = some oi) (hy : YieldsIf P ops S0 oi v a) (hS : S0 w ∧ S w)
    (h : wpAnyE P md ops Q S0 S s fuel (listed.setIfInBounds i true) (a.put oi.dst v) w)
    (hs : Region.noSelect ops = true := by kernel_rfl) (hf : Region.free md ops listed i = true := by kernel_rfl) (hr : (Region.ready md ops listed).contains i = true := by kernel_rfl) (his : i ≠ s := by decide)
    (hQ : ∀ c a w, Q (.panic c) (a.put oi.dst v) w → Q (.panic c) a w := by exact fun _ _ _ h => h) : wpAnyE P md ops Q S0 S s (fuel + 1) listed a w :=
  wpAnyE_take0 hi hs hf hr his hQ hy hS h
theorem tkL {i : Nat} {oi : Oper} {v : Value} {fuel : Nat} {listed : Array Bool} {a : Act} {w : World} (hi : ops[i]? = some oi) (hS : S0 w ∧ S w)
    (h : wpAnyE P md ops Q S0 S s fuel (listed.setIfInBounds i true) (a.put oi.dst v) w)
    (hw : Region.wanted oi (yielded ops a.tmps) = true := by rfl)
    (hy : ∀ w, S0 w → (execOp a.eval oi).run P w = .ok (.value v) w := by (intro wz hSw; (try dsimp only at hSw); go_simp; try (with_reducible rfl)))
    (hs : Region.noSelect ops = true := by kernel_rfl) (hf : Region.free md ops listed i = true := by kernel_rfl) (hr : (Region.ready md ops listed).contains i = true := by kernel_rfl) (his : i ≠ s := by decide)
    (hQ : ∀ c a w, Q (.panic c) (a.put oi.dst v) w → Q (.panic c) a w := by exact fun _ _ _ h => h) : wpAnyE P md ops Q S0 S s (fuel + 1) listed a w :=
  wpAnyE_take0 hi hs hf hr his hQ (Or.inl ⟨hw, hy⟩) hS h
theorem tkU {i : Nat} {oi : Oper} {fuel : Nat} {listed : Array Bool} {a : Act} {w : World} (hi : ops[i]? = some oi) (hS : S0 w ∧ S w)
    (h : wpAnyE P md ops Q S0 S s fuel (listed.setIfInBounds i true) (a.put oi.dst undef) w)
    (hw : Region.wanted oi (yielded ops a.tmps) = false := by kernel_rfl)
    (hs : Region.noSelect ops = true := by kernel_rfl) (hf : Region.free md ops listed i = true := by kernel_rfl) (hr : (Region.ready md ops listed).contains i = true := by kernel_rfl) (his : i ≠ s := by decide)
    (hQ : ∀ c a w, Q (.panic c) (a.put oi.dst undef) w → Q (.panic c) a w := by exact fun _ _ _ h => h) : wpAnyE P md ops Q S0 S s (fuel + 1) listed a w :=
  wpAnyE_take0 hi hs hf hr his hQ (Or.inr ⟨hw, rfl⟩) hS h
theorem tkM {i : Nat} {oi os : Oper} {v : Value} {fuel : Nat} {listed : Array Bool} {a : Act} {w : World} (hi : ops[i]? = some oi) (hos : ops[s]? = some os) (hS : S0 w ∧ S w)
    (h : wpAnyE P md ops Q S0 S s fuel (listed.setIfInBounds i true) (a.put oi.dst v) w)
    (hw : Region.wanted oi (yielded ops a.tmps) = true := by rfl)
    (hy : ∀ w, S w → (execOp a.eval oi).run P w = .ok (.value v) w := by (intro wz hSw; (try dsimp only at hSw); go_simp; try (with_reducible rfl)))
    (hs : Region.noSelect ops = true := by kernel_rfl) (hf : Region.free md ops listed i = true := by kernel_rfl) (hr : (Region.ready md ops listed).contains i = true := by kernel_rfl) (his : i ≠ s := by decide)
    (hls : listed.getD s true = false := by rfl) (hb : ∃ e ∈ os.after, Region.binds md e = true ∧ e.on = i := by simp [Region.binds])
    (hQ : ∀ c a w, Q (.panic c) (a.put oi.dst v) w → Q (.panic c) a w := by exact fun _ _ _ h => h) : wpAnyE P md ops Q S0 S s (fuel + 1) listed a w :=
  wpAnyE_take1 hi hos hs hf hr his hls hb hQ (Or.inl ⟨hw, hy⟩) hS h
end
end Go.Proofs.YtpmihhbgjimpmaaGreatDoor
namespace Go.Proofs.YtpmihhbgjimpmaaGreatDoor
open Go.RowKit
set_option linter.unusedVariables false
set_option maxRecDepth 100000

theorem one_intsC (w : World) (x : Int) (t : TypeId) : Ints (w.alloc (.cells #[.int .i64 x] t)) (some ⟨w.heap.size, 0, none⟩) 1 [x] :=
  ⟨rfl, fun i hi => ⟨w.heap.size, 0, rfl, by
    obtain rfl : i = 0 := by omega
    simp [go_sem]⟩⟩
theorem bet_oneC (x lo hi : Int) : betB lo hi [x] = inB x lo hi := by simp [betB]

theorem tail_one (x : Int) : tailL [x] = [32] ++ Lib.itoa x := by simp [tailL, Lib.joinTail]
def casL (cl sq : Int) : List UInt8 := wClient ++ ([32] ++ Lib.itoa cl) ++ [32] ++ (wCall ++ ([32] ++ Lib.itoa sq))
theorem ba_app (x y : List UInt8) : (⟨x.toArray⟩ : ByteArray) ++ (⟨y.toArray⟩ : ByteArray) = ⟨(x ++ y).toArray⟩ := by
  apply ByteArray.ext
  simp
theorem ba_len (x : List UInt8) : (⟨x.toArray⟩ : ByteArray).size = x.length := by simp [ByteArray.size]
theorem run_add (X : World) (x y : List UInt8) (h : x.length + y.length ≤ 100000) : (Op.stringOp .add (⟨x.toArray⟩ : ByteArray) (⟨y.toArray⟩ : ByteArray)).run Tryz.prog X = .ok (.string ⟨(x ++ y).toArray⟩) X := by
  have h2 : (⟨x.toArray⟩ : ByteArray).size + (⟨y.toArray⟩ : ByteArray).size ≤ maxLen := by rw [ba_len, ba_len]; unfold maxLen; omega
  rw [run_string_add_sum X _ _ h2, ba_app]
set_option maxHeartbeats 6400000 in
theorem icas_any (cl sq ac : Int) (a : Option Addr) (n cap : Nat) (w : World) (h1 : 0 ≤ cl ∧ cl < 4) (h2 : 1 ≤ sq ∧ sq ≤ 300) (hT : Lib.TabBelow Tryz.prog w.heap.size w "internal/strconv.uint64pow10" .u64 Lib.pow10Tab) :
    Calls Tryz.prog 161 #[clV cl sq ac a n cap] w fun e w' => e = .returned (.string ⟨(casL cl sq).toArray⟩) ∧ Below w.heap.size w w' := by
  have HTB : Hid _ := hT
  clear hT
  have q0 := Cel.new w [.int .i64 cl, .int .i64 sq, .int .i64 ac, .slice a n cap] 59
  have BZ := (Below.refl w.heap.size w).alloc (Nat.le_refl _) (.cells #[.int .i64 cl, .int .i64 sq, .int .i64 ac, .slice a n cap] 59)
  have l1 := Lib.itoa_length_le cl (by omega) (by omega)
  have l2 := Lib.itoa_length_le sq (by omega) (by omega)
  obtain ⟨T1, e1⟩ : ∃ T : ByteArray, (⟨(wClient ++ tailL [cl]).toArray⟩ : ByteArray) = T := ⟨_, rfl⟩
  obtain ⟨T2, e2⟩ : ∃ T : ByteArray, (⟨(wClient ++ tailL [cl] ++ [32]).toArray⟩ : ByteArray) = T := ⟨_, rfl⟩
  obtain ⟨T3, e3⟩ : ∃ T : ByteArray, (⟨(wCall ++ tailL [sq]).toArray⟩ : ByteArray) = T := ⟨_, rfl⟩
  obtain ⟨T4, e4⟩ : ∃ T : ByteArray, (⟨(casL cl sq).toArray⟩ : ByteArray) = T := ⟨_, rfl⟩
  have A1 : ∀ X : World, (Op.stringOp .add (T1 : ByteArray) (⟨#[32]⟩ : ByteArray)).run Tryz.prog X = .ok (.string T2) X := fun X => by
    rw [← e1, ← e2]
    exact run_add X _ [32] (by rw [tail_one]; simp only [List.length_append, List.length_cons, List.length_nil, wClient]; omega)
  have A2 : ∀ X : World, (Op.stringOp .add (T2 : ByteArray) (T3 : ByteArray)).run Tryz.prog X = .ok (.string T4) X := fun X => by
    rw [← e2, ← e3, ← e4]
    rw [run_add X _ _ (by rw [tail_one, tail_one]; simp only [List.length_append, List.length_cons, List.length_nil, wClient, wCall]; omega)]
    rw [tail_one, tail_one, casL]
  have E1 : Hid _ := e1
  have E3 : Hid _ := e3
  rw [e4]
  clear e1 e2 e3 e4 l1 l2
  go_enter Tryz.func161, Tryz.ntmps161
  go_upto_region 1 with fail
  obtain ⟨W, hW⟩ : ∃ W, W = w.alloc (.cells #[.int .i64 cl, .int .i64 sq, .int .i64 ac, .slice a n cap] 59) := ⟨_, rfl⟩
  obtain ⟨Q, hQ⟩ : ∃ Q, Q = w.heap.size := ⟨_, rfl⟩
  rw [← hQ, ← hW]
  rw [← hW] at q0 BZ
  rw [← hQ] at q0
  clear hW hQ
  refine wp_region_ends (fun X => X.cell? ⟨Q, 0, none⟩ = some (.int .i64 cl) ∧ X.cell? ⟨Q, 1, none⟩ = some (.int .i64 sq)) (fun _ => True) 10 (by kernel_rfl) ?_
  have dr : Below W.heap.size W W.drew := (Below.refl _ _).drew
  replace BZ := BZ.trans (dr.mono BZ.size)
  replace q0 := q0.below dr
  clear dr
  obtain ⟨V, hV⟩ : ∃ V, V = W.drew := ⟨_, rfl⟩
  rw [← hV]
  rw [← hV] at BZ q0
  clear hV
  have hSS : (fun X : World => X.cell? ⟨Q, 0, none⟩ = some (.int .i64 cl) ∧ X.cell? ⟨Q, 1, none⟩ = some (.int .i64 sq)) V ∧ True := ⟨⟨q0.cell 0, q0.cell 1⟩, trivial⟩
  refine tkL (i := 0) rfl hSS ?_
  refine tkL (i := 1) rfl hSS ?_
  refine tkL (i := 5) rfl hSS ?_
  refine tkL (i := 6) rfl hSS ?_
  simp only [Act.put, List.setIfInBounds_toArray, List.set_cons_succ, List.set_cons_zero, List.getElem_toArray, List.getElem_cons_succ, List.getElem_cons_zero]
  refine wpAnyE_two (i := 2) (j := 7) (by kernel_rfl) rfl rfl (fun Kn hK => ?_) (fun Kn hK => ?_)
  · go_simp
    have al := (Below.refl V.heap.size V).alloc (Nat.le_refl _) (.cells #[.int .i64 cl] 3)
    have ia := one_intsC V cl 3
    replace BZ := BZ.trans (al.mono BZ.size)
    replace q0 := q0.below al
    clear al
    obtain ⟨Y1, hY1⟩ : ∃ W, W = V.alloc (.cells #[.int .i64 cl] 3) := ⟨_, rfl⟩
    rw [← hY1]
    rw [← hY1] at BZ q0 ia
    clear hY1
    clear hSS
    have hSS : (fun X : World => X.cell? ⟨Q, 0, none⟩ = some (.int .i64 cl) ∧ X.cell? ⟨Q, 1, none⟩ = some (.int .i64 sq)) Y1 ∧ True := ⟨⟨q0.cell 0, q0.cell 1⟩, trivial⟩
    refine hK.out _ _ ⟨hSS.1, fun _ => trivial⟩ ?_
    clear hK
    refine wpAnyE_two (i := 3) (j := 7) (by kernel_rfl) rfl rfl (fun Kn hK => ?_) (fun Kn hK => ?_)
    · go_simp
      refine (itwn_any wClient _ _ _ [cl] _ ia (by omega) (by decide) (fun i => by match i with | 0 => (simp only [List.getElem?_cons_zero, Option.getD_some]; omega) | i + 1 => simp) (fun X hX => HTB.out X (BZ.trans (hX.mono BZ.size)))).mono ?_
      rintro ee w2 ⟨rfl, b9⟩
      rw [E1.out]
      replace BZ := BZ.trans (b9.mono BZ.size)
      replace q0 := q0.below b9
      replace ia := ia.below b9
      clear b9
      dsimp only
      clear hSS
      have hSS : (fun X : World => X.cell? ⟨Q, 0, none⟩ = some (.int .i64 cl) ∧ X.cell? ⟨Q, 1, none⟩ = some (.int .i64 sq)) w2 ∧ True := ⟨⟨q0.cell 0, q0.cell 1⟩, trivial⟩
      refine hK.out _ _ ⟨hSS.1, fun _ => trivial⟩ ?_
      clear hK
      refine wpAnyE_two (i := 4) (j := 7) (by kernel_rfl) rfl rfl (fun Kn hK => ?_) (fun Kn hK => ?_)
      · go_simp
        clear hSS
        have hSS : (fun X : World => X.cell? ⟨Q, 0, none⟩ = some (.int .i64 cl) ∧ X.cell? ⟨Q, 1, none⟩ = some (.int .i64 sq)) w2 ∧ True := ⟨⟨q0.cell 0, q0.cell 1⟩, trivial⟩
        refine hK.out _ _ ⟨hSS.1, fun _ => trivial⟩ ?_
        clear hK
        refine wpAnyE_one (i := 7) (by kernel_rfl) rfl (fun Kn hK => ?_)
        go_simp
        have al := (Below.refl w2.heap.size w2).alloc (Nat.le_refl _) (.cells #[.int .i64 sq] 3)
        have ib := one_intsC w2 sq 3
        replace BZ := BZ.trans (al.mono BZ.size)
        replace q0 := q0.below al
        replace ia := ia.below al
        clear al
        obtain ⟨Y3, hY3⟩ : ∃ W, W = w2.alloc (.cells #[.int .i64 sq] 3) := ⟨_, rfl⟩
        rw [← hY3]
        rw [← hY3] at BZ q0 ia ib
        clear hY3
        clear hSS
        have hSS : (fun X : World => X.cell? ⟨Q, 0, none⟩ = some (.int .i64 cl) ∧ X.cell? ⟨Q, 1, none⟩ = some (.int .i64 sq)) Y3 ∧ True := ⟨⟨q0.cell 0, q0.cell 1⟩, trivial⟩
        refine hK.out _ _ ⟨hSS.1, fun _ => trivial⟩ ?_
        clear hK
        refine wpAnyE_one (i := 8) (by kernel_rfl) rfl (fun Kn hK => ?_)
        go_simp
        refine (itwn_any wCall _ _ _ [sq] _ ib (by omega) (by decide) (fun i => by match i with | 0 => (simp only [List.getElem?_cons_zero, Option.getD_some]; omega) | i + 1 => simp) (fun X hX => HTB.out X (BZ.trans (hX.mono BZ.size)))).mono ?_
        rintro ee w4 ⟨rfl, b9⟩
        rw [E3.out]
        replace BZ := BZ.trans (b9.mono BZ.size)
        replace q0 := q0.below b9
        replace ia := ia.below b9
        replace ib := ib.below b9
        clear b9
        dsimp only
        clear hSS
        have hSS : (fun X : World => X.cell? ⟨Q, 0, none⟩ = some (.int .i64 cl) ∧ X.cell? ⟨Q, 1, none⟩ = some (.int .i64 sq)) w4 ∧ True := ⟨⟨q0.cell 0, q0.cell 1⟩, trivial⟩
        refine hK.out _ _ ⟨hSS.1, fun _ => trivial⟩ ?_
        clear hK
        refine wpAnyE_one (i := 9) (by kernel_rfl) rfl (fun Kn hK => ?_)
        go_simp
        clear hSS
        have hSS : (fun X : World => X.cell? ⟨Q, 0, none⟩ = some (.int .i64 cl) ∧ X.cell? ⟨Q, 1, none⟩ = some (.int .i64 sq)) w4 ∧ True := ⟨⟨q0.cell 0, q0.cell 1⟩, trivial⟩
        refine hK.out _ _ ⟨hSS.1, fun _ => trivial⟩ ?_
        clear hK
        refine wpAnyE_one (i := 10) (by kernel_rfl) rfl (fun Kn hK => ?_)
        go_simp
        clear hSS
        have hSS : (fun X : World => X.cell? ⟨Q, 0, none⟩ = some (.int .i64 cl) ∧ X.cell? ⟨Q, 1, none⟩ = some (.int .i64 sq)) w4 ∧ True := ⟨⟨q0.cell 0, q0.cell 1⟩, trivial⟩
        refine hK.out _ _ ⟨hSS.1, fun _ => trivial⟩ ?_
        clear hK
        refine wpAnyE_done (by kernel_rfl) ?_ _
        clear hSS
        clear q0 A1 A2
        go_wp2
        go_ret
        exact ⟨rfl, BZ⟩
      · go_simp
        have al := (Below.refl w2.heap.size w2).alloc (Nat.le_refl _) (.cells #[.int .i64 sq] 3)
        have ib := one_intsC w2 sq 3
        replace BZ := BZ.trans (al.mono BZ.size)
        replace q0 := q0.below al
        replace ia := ia.below al
        clear al
        obtain ⟨Y3, hY3⟩ : ∃ W, W = w2.alloc (.cells #[.int .i64 sq] 3) := ⟨_, rfl⟩
        rw [← hY3]
        rw [← hY3] at BZ q0 ia ib
        clear hY3
        clear hSS
        have hSS : (fun X : World => X.cell? ⟨Q, 0, none⟩ = some (.int .i64 cl) ∧ X.cell? ⟨Q, 1, none⟩ = some (.int .i64 sq)) Y3 ∧ True := ⟨⟨q0.cell 0, q0.cell 1⟩, trivial⟩
        refine hK.out _ _ ⟨hSS.1, fun _ => trivial⟩ ?_
        clear hK
        refine wpAnyE_two (i := 4) (j := 8) (by kernel_rfl) rfl rfl (fun Kn hK => ?_) (fun Kn hK => ?_)
        · go_simp
          clear hSS
          have hSS : (fun X : World => X.cell? ⟨Q, 0, none⟩ = some (.int .i64 cl) ∧ X.cell? ⟨Q, 1, none⟩ = some (.int .i64 sq)) Y3 ∧ True := ⟨⟨q0.cell 0, q0.cell 1⟩, trivial⟩
          refine hK.out _ _ ⟨hSS.1, fun _ => trivial⟩ ?_
          clear hK
          refine wpAnyE_one (i := 8) (by kernel_rfl) rfl (fun Kn hK => ?_)
          go_simp
          refine (itwn_any wCall _ _ _ [sq] _ ib (by omega) (by decide) (fun i => by match i with | 0 => (simp only [List.getElem?_cons_zero, Option.getD_some]; omega) | i + 1 => simp) (fun X hX => HTB.out X (BZ.trans (hX.mono BZ.size)))).mono ?_
          rintro ee w4 ⟨rfl, b9⟩
          rw [E3.out]
          replace BZ := BZ.trans (b9.mono BZ.size)
          replace q0 := q0.below b9
          replace ia := ia.below b9
          replace ib := ib.below b9
          clear b9
          dsimp only
          clear hSS
          have hSS : (fun X : World => X.cell? ⟨Q, 0, none⟩ = some (.int .i64 cl) ∧ X.cell? ⟨Q, 1, none⟩ = some (.int .i64 sq)) w4 ∧ True := ⟨⟨q0.cell 0, q0.cell 1⟩, trivial⟩
          refine hK.out _ _ ⟨hSS.1, fun _ => trivial⟩ ?_
          clear hK
          refine wpAnyE_one (i := 9) (by kernel_rfl) rfl (fun Kn hK => ?_)
          go_simp
          clear hSS
          have hSS : (fun X : World => X.cell? ⟨Q, 0, none⟩ = some (.int .i64 cl) ∧ X.cell? ⟨Q, 1, none⟩ = some (.int .i64 sq)) w4 ∧ True := ⟨⟨q0.cell 0, q0.cell 1⟩, trivial⟩
          refine hK.out _ _ ⟨hSS.1, fun _ => trivial⟩ ?_
          clear hK
          refine wpAnyE_one (i := 10) (by kernel_rfl) rfl (fun Kn hK => ?_)
          go_simp
          clear hSS
          have hSS : (fun X : World => X.cell? ⟨Q, 0, none⟩ = some (.int .i64 cl) ∧ X.cell? ⟨Q, 1, none⟩ = some (.int .i64 sq)) w4 ∧ True := ⟨⟨q0.cell 0, q0.cell 1⟩, trivial⟩
          refine hK.out _ _ ⟨hSS.1, fun _ => trivial⟩ ?_
          clear hK
          refine wpAnyE_done (by kernel_rfl) ?_ _
          clear hSS
          clear q0 A1 A2
          go_wp2
          go_ret
          exact ⟨rfl, BZ⟩
        · go_simp
          refine (itwn_any wCall _ _ _ [sq] _ ib (by omega) (by decide) (fun i => by match i with | 0 => (simp only [List.getElem?_cons_zero, Option.getD_some]; omega) | i + 1 => simp) (fun X hX => HTB.out X (BZ.trans (hX.mono BZ.size)))).mono ?_
          rintro ee w4 ⟨rfl, b9⟩
          rw [E3.out]
          replace BZ := BZ.trans (b9.mono BZ.size)
          replace q0 := q0.below b9
          replace ia := ia.below b9
          replace ib := ib.below b9
          clear b9
          dsimp only
          clear hSS
          have hSS : (fun X : World => X.cell? ⟨Q, 0, none⟩ = some (.int .i64 cl) ∧ X.cell? ⟨Q, 1, none⟩ = some (.int .i64 sq)) w4 ∧ True := ⟨⟨q0.cell 0, q0.cell 1⟩, trivial⟩
          refine hK.out _ _ ⟨hSS.1, fun _ => trivial⟩ ?_
          clear hK
          refine wpAnyE_one (i := 4) (by kernel_rfl) rfl (fun Kn hK => ?_)
          go_simp
          clear hSS
          have hSS : (fun X : World => X.cell? ⟨Q, 0, none⟩ = some (.int .i64 cl) ∧ X.cell? ⟨Q, 1, none⟩ = some (.int .i64 sq)) w4 ∧ True := ⟨⟨q0.cell 0, q0.cell 1⟩, trivial⟩
          refine hK.out _ _ ⟨hSS.1, fun _ => trivial⟩ ?_
          clear hK
          refine wpAnyE_one (i := 9) (by kernel_rfl) rfl (fun Kn hK => ?_)
          go_simp
          clear hSS
          have hSS : (fun X : World => X.cell? ⟨Q, 0, none⟩ = some (.int .i64 cl) ∧ X.cell? ⟨Q, 1, none⟩ = some (.int .i64 sq)) w4 ∧ True := ⟨⟨q0.cell 0, q0.cell 1⟩, trivial⟩
          refine hK.out _ _ ⟨hSS.1, fun _ => trivial⟩ ?_
          clear hK
          refine wpAnyE_one (i := 10) (by kernel_rfl) rfl (fun Kn hK => ?_)
          go_simp
          clear hSS
          have hSS : (fun X : World => X.cell? ⟨Q, 0, none⟩ = some (.int .i64 cl) ∧ X.cell? ⟨Q, 1, none⟩ = some (.int .i64 sq)) w4 ∧ True := ⟨⟨q0.cell 0, q0.cell 1⟩, trivial⟩
          refine hK.out _ _ ⟨hSS.1, fun _ => trivial⟩ ?_
          clear hK
          refine wpAnyE_done (by kernel_rfl) ?_ _
          clear hSS
          clear q0 A1 A2
          go_wp2
          go_ret
          exact ⟨rfl, BZ⟩
    · go_simp
      have al := (Below.refl Y1.heap.size Y1).alloc (Nat.le_refl _) (.cells #[.int .i64 sq] 3)
      have ib := one_intsC Y1 sq 3
      replace BZ := BZ.trans (al.mono BZ.size)
      replace q0 := q0.below al
      replace ia := ia.below al
      clear al
      obtain ⟨Y2, hY2⟩ : ∃ W, W = Y1.alloc (.cells #[.int .i64 sq] 3) := ⟨_, rfl⟩
      rw [← hY2]
      rw [← hY2] at BZ q0 ia ib
      clear hY2
      clear hSS
      have hSS : (fun X : World => X.cell? ⟨Q, 0, none⟩ = some (.int .i64 cl) ∧ X.cell? ⟨Q, 1, none⟩ = some (.int .i64 sq)) Y2 ∧ True := ⟨⟨q0.cell 0, q0.cell 1⟩, trivial⟩
      refine hK.out _ _ ⟨hSS.1, fun _ => trivial⟩ ?_
      clear hK
      refine wpAnyE_one (i := 3) (by kernel_rfl) rfl (fun Kn hK => ?_)
      go_simp
      refine (itwn_any wClient _ _ _ [cl] _ ia (by omega) (by decide) (fun i => by match i with | 0 => (simp only [List.getElem?_cons_zero, Option.getD_some]; omega) | i + 1 => simp) (fun X hX => HTB.out X (BZ.trans (hX.mono BZ.size)))).mono ?_
      rintro ee w3 ⟨rfl, b9⟩
      rw [E1.out]
      replace BZ := BZ.trans (b9.mono BZ.size)
      replace q0 := q0.below b9
      replace ia := ia.below b9
      replace ib := ib.below b9
      clear b9
      dsimp only
      clear hSS
      have hSS : (fun X : World => X.cell? ⟨Q, 0, none⟩ = some (.int .i64 cl) ∧ X.cell? ⟨Q, 1, none⟩ = some (.int .i64 sq)) w3 ∧ True := ⟨⟨q0.cell 0, q0.cell 1⟩, trivial⟩
      refine hK.out _ _ ⟨hSS.1, fun _ => trivial⟩ ?_
      clear hK
      refine wpAnyE_two (i := 4) (j := 8) (by kernel_rfl) rfl rfl (fun Kn hK => ?_) (fun Kn hK => ?_)
      · go_simp
        clear hSS
        have hSS : (fun X : World => X.cell? ⟨Q, 0, none⟩ = some (.int .i64 cl) ∧ X.cell? ⟨Q, 1, none⟩ = some (.int .i64 sq)) w3 ∧ True := ⟨⟨q0.cell 0, q0.cell 1⟩, trivial⟩
        refine hK.out _ _ ⟨hSS.1, fun _ => trivial⟩ ?_
        clear hK
        refine wpAnyE_one (i := 8) (by kernel_rfl) rfl (fun Kn hK => ?_)
        go_simp
        refine (itwn_any wCall _ _ _ [sq] _ ib (by omega) (by decide) (fun i => by match i with | 0 => (simp only [List.getElem?_cons_zero, Option.getD_some]; omega) | i + 1 => simp) (fun X hX => HTB.out X (BZ.trans (hX.mono BZ.size)))).mono ?_
        rintro ee w4 ⟨rfl, b9⟩
        rw [E3.out]
        replace BZ := BZ.trans (b9.mono BZ.size)
        replace q0 := q0.below b9
        replace ia := ia.below b9
        replace ib := ib.below b9
        clear b9
        dsimp only
        clear hSS
        have hSS : (fun X : World => X.cell? ⟨Q, 0, none⟩ = some (.int .i64 cl) ∧ X.cell? ⟨Q, 1, none⟩ = some (.int .i64 sq)) w4 ∧ True := ⟨⟨q0.cell 0, q0.cell 1⟩, trivial⟩
        refine hK.out _ _ ⟨hSS.1, fun _ => trivial⟩ ?_
        clear hK
        refine wpAnyE_one (i := 9) (by kernel_rfl) rfl (fun Kn hK => ?_)
        go_simp
        clear hSS
        have hSS : (fun X : World => X.cell? ⟨Q, 0, none⟩ = some (.int .i64 cl) ∧ X.cell? ⟨Q, 1, none⟩ = some (.int .i64 sq)) w4 ∧ True := ⟨⟨q0.cell 0, q0.cell 1⟩, trivial⟩
        refine hK.out _ _ ⟨hSS.1, fun _ => trivial⟩ ?_
        clear hK
        refine wpAnyE_one (i := 10) (by kernel_rfl) rfl (fun Kn hK => ?_)
        go_simp
        clear hSS
        have hSS : (fun X : World => X.cell? ⟨Q, 0, none⟩ = some (.int .i64 cl) ∧ X.cell? ⟨Q, 1, none⟩ = some (.int .i64 sq)) w4 ∧ True := ⟨⟨q0.cell 0, q0.cell 1⟩, trivial⟩
        refine hK.out _ _ ⟨hSS.1, fun _ => trivial⟩ ?_
        clear hK
        refine wpAnyE_done (by kernel_rfl) ?_ _
        clear hSS
        clear q0 A1 A2
        go_wp2
        go_ret
        exact ⟨rfl, BZ⟩
      · go_simp
        refine (itwn_any wCall _ _ _ [sq] _ ib (by omega) (by decide) (fun i => by match i with | 0 => (simp only [List.getElem?_cons_zero, Option.getD_some]; omega) | i + 1 => simp) (fun X hX => HTB.out X (BZ.trans (hX.mono BZ.size)))).mono ?_
        rintro ee w4 ⟨rfl, b9⟩
        rw [E3.out]
        replace BZ := BZ.trans (b9.mono BZ.size)
        replace q0 := q0.below b9
        replace ia := ia.below b9
        replace ib := ib.below b9
        clear b9
        dsimp only
        clear hSS
        have hSS : (fun X : World => X.cell? ⟨Q, 0, none⟩ = some (.int .i64 cl) ∧ X.cell? ⟨Q, 1, none⟩ = some (.int .i64 sq)) w4 ∧ True := ⟨⟨q0.cell 0, q0.cell 1⟩, trivial⟩
        refine hK.out _ _ ⟨hSS.1, fun _ => trivial⟩ ?_
        clear hK
        refine wpAnyE_one (i := 4) (by kernel_rfl) rfl (fun Kn hK => ?_)
        go_simp
        clear hSS
        have hSS : (fun X : World => X.cell? ⟨Q, 0, none⟩ = some (.int .i64 cl) ∧ X.cell? ⟨Q, 1, none⟩ = some (.int .i64 sq)) w4 ∧ True := ⟨⟨q0.cell 0, q0.cell 1⟩, trivial⟩
        refine hK.out _ _ ⟨hSS.1, fun _ => trivial⟩ ?_
        clear hK
        refine wpAnyE_one (i := 9) (by kernel_rfl) rfl (fun Kn hK => ?_)
        go_simp
        clear hSS
        have hSS : (fun X : World => X.cell? ⟨Q, 0, none⟩ = some (.int .i64 cl) ∧ X.cell? ⟨Q, 1, none⟩ = some (.int .i64 sq)) w4 ∧ True := ⟨⟨q0.cell 0, q0.cell 1⟩, trivial⟩
        refine hK.out _ _ ⟨hSS.1, fun _ => trivial⟩ ?_
        clear hK
        refine wpAnyE_one (i := 10) (by kernel_rfl) rfl (fun Kn hK => ?_)
        go_simp
        clear hSS
        have hSS : (fun X : World => X.cell? ⟨Q, 0, none⟩ = some (.int .i64 cl) ∧ X.cell? ⟨Q, 1, none⟩ = some (.int .i64 sq)) w4 ∧ True := ⟨⟨q0.cell 0, q0.cell 1⟩, trivial⟩
        refine hK.out _ _ ⟨hSS.1, fun _ => trivial⟩ ?_
        clear hK
        refine wpAnyE_done (by kernel_rfl) ?_ _
        clear hSS
        clear q0 A1 A2
        go_wp2
        go_ret
        exact ⟨rfl, BZ⟩
  · go_simp
    have al := (Below.refl V.heap.size V).alloc (Nat.le_refl _) (.cells #[.int .i64 sq] 3)
    have ib := one_intsC V sq 3
    replace BZ := BZ.trans (al.mono BZ.size)
    replace q0 := q0.below al
    clear al
    obtain ⟨Y1, hY1⟩ : ∃ W, W = V.alloc (.cells #[.int .i64 sq] 3) := ⟨_, rfl⟩
    rw [← hY1]
    rw [← hY1] at BZ q0 ib
    clear hY1
    clear hSS
    have hSS : (fun X : World => X.cell? ⟨Q, 0, none⟩ = some (.int .i64 cl) ∧ X.cell? ⟨Q, 1, none⟩ = some (.int .i64 sq)) Y1 ∧ True := ⟨⟨q0.cell 0, q0.cell 1⟩, trivial⟩
    refine hK.out _ _ ⟨hSS.1, fun _ => trivial⟩ ?_
    clear hK
    refine wpAnyE_one (i := 2) (by kernel_rfl) rfl (fun Kn hK => ?_)
    go_simp
    have al := (Below.refl Y1.heap.size Y1).alloc (Nat.le_refl _) (.cells #[.int .i64 cl] 3)
    have ia := one_intsC Y1 cl 3
    replace BZ := BZ.trans (al.mono BZ.size)
    replace q0 := q0.below al
    replace ib := ib.below al
    clear al
    obtain ⟨Y2, hY2⟩ : ∃ W, W = Y1.alloc (.cells #[.int .i64 cl] 3) := ⟨_, rfl⟩
    rw [← hY2]
    rw [← hY2] at BZ q0 ib ia
    clear hY2
    clear hSS
    have hSS : (fun X : World => X.cell? ⟨Q, 0, none⟩ = some (.int .i64 cl) ∧ X.cell? ⟨Q, 1, none⟩ = some (.int .i64 sq)) Y2 ∧ True := ⟨⟨q0.cell 0, q0.cell 1⟩, trivial⟩
    refine hK.out _ _ ⟨hSS.1, fun _ => trivial⟩ ?_
    clear hK
    refine wpAnyE_one (i := 3) (by kernel_rfl) rfl (fun Kn hK => ?_)
    go_simp
    refine (itwn_any wClient _ _ _ [cl] _ ia (by omega) (by decide) (fun i => by match i with | 0 => (simp only [List.getElem?_cons_zero, Option.getD_some]; omega) | i + 1 => simp) (fun X hX => HTB.out X (BZ.trans (hX.mono BZ.size)))).mono ?_
    rintro ee w3 ⟨rfl, b9⟩
    rw [E1.out]
    replace BZ := BZ.trans (b9.mono BZ.size)
    replace q0 := q0.below b9
    replace ib := ib.below b9
    replace ia := ia.below b9
    clear b9
    dsimp only
    clear hSS
    have hSS : (fun X : World => X.cell? ⟨Q, 0, none⟩ = some (.int .i64 cl) ∧ X.cell? ⟨Q, 1, none⟩ = some (.int .i64 sq)) w3 ∧ True := ⟨⟨q0.cell 0, q0.cell 1⟩, trivial⟩
    refine hK.out _ _ ⟨hSS.1, fun _ => trivial⟩ ?_
    clear hK
    refine wpAnyE_two (i := 4) (j := 8) (by kernel_rfl) rfl rfl (fun Kn hK => ?_) (fun Kn hK => ?_)
    · go_simp
      clear hSS
      have hSS : (fun X : World => X.cell? ⟨Q, 0, none⟩ = some (.int .i64 cl) ∧ X.cell? ⟨Q, 1, none⟩ = some (.int .i64 sq)) w3 ∧ True := ⟨⟨q0.cell 0, q0.cell 1⟩, trivial⟩
      refine hK.out _ _ ⟨hSS.1, fun _ => trivial⟩ ?_
      clear hK
      refine wpAnyE_one (i := 8) (by kernel_rfl) rfl (fun Kn hK => ?_)
      go_simp
      refine (itwn_any wCall _ _ _ [sq] _ ib (by omega) (by decide) (fun i => by match i with | 0 => (simp only [List.getElem?_cons_zero, Option.getD_some]; omega) | i + 1 => simp) (fun X hX => HTB.out X (BZ.trans (hX.mono BZ.size)))).mono ?_
      rintro ee w4 ⟨rfl, b9⟩
      rw [E3.out]
      replace BZ := BZ.trans (b9.mono BZ.size)
      replace q0 := q0.below b9
      replace ib := ib.below b9
      replace ia := ia.below b9
      clear b9
      dsimp only
      clear hSS
      have hSS : (fun X : World => X.cell? ⟨Q, 0, none⟩ = some (.int .i64 cl) ∧ X.cell? ⟨Q, 1, none⟩ = some (.int .i64 sq)) w4 ∧ True := ⟨⟨q0.cell 0, q0.cell 1⟩, trivial⟩
      refine hK.out _ _ ⟨hSS.1, fun _ => trivial⟩ ?_
      clear hK
      refine wpAnyE_one (i := 9) (by kernel_rfl) rfl (fun Kn hK => ?_)
      go_simp
      clear hSS
      have hSS : (fun X : World => X.cell? ⟨Q, 0, none⟩ = some (.int .i64 cl) ∧ X.cell? ⟨Q, 1, none⟩ = some (.int .i64 sq)) w4 ∧ True := ⟨⟨q0.cell 0, q0.cell 1⟩, trivial⟩
      refine hK.out _ _ ⟨hSS.1, fun _ => trivial⟩ ?_
      clear hK
      refine wpAnyE_one (i := 10) (by kernel_rfl) rfl (fun Kn hK => ?_)
      go_simp
      clear hSS
      have hSS : (fun X : World => X.cell? ⟨Q, 0, none⟩ = some (.int .i64 cl) ∧ X.cell? ⟨Q, 1, none⟩ = some (.int .i64 sq)) w4 ∧ True := ⟨⟨q0.cell 0, q0.cell 1⟩, trivial⟩
      refine hK.out _ _ ⟨hSS.1, fun _ => trivial⟩ ?_
      clear hK
      refine wpAnyE_done (by kernel_rfl) ?_ _
      clear hSS
      clear q0 A1 A2
      go_wp2
      go_ret
      exact ⟨rfl, BZ⟩
    · go_simp
      refine (itwn_any wCall _ _ _ [sq] _ ib (by omega) (by decide) (fun i => by match i with | 0 => (simp only [List.getElem?_cons_zero, Option.getD_some]; omega) | i + 1 => simp) (fun X hX => HTB.out X (BZ.trans (hX.mono BZ.size)))).mono ?_
      rintro ee w4 ⟨rfl, b9⟩
      rw [E3.out]
      replace BZ := BZ.trans (b9.mono BZ.size)
      replace q0 := q0.below b9
      replace ib := ib.below b9
      replace ia := ia.below b9
      clear b9
      dsimp only
      clear hSS
      have hSS : (fun X : World => X.cell? ⟨Q, 0, none⟩ = some (.int .i64 cl) ∧ X.cell? ⟨Q, 1, none⟩ = some (.int .i64 sq)) w4 ∧ True := ⟨⟨q0.cell 0, q0.cell 1⟩, trivial⟩
      refine hK.out _ _ ⟨hSS.1, fun _ => trivial⟩ ?_
      clear hK
      refine wpAnyE_one (i := 4) (by kernel_rfl) rfl (fun Kn hK => ?_)
      go_simp
      clear hSS
      have hSS : (fun X : World => X.cell? ⟨Q, 0, none⟩ = some (.int .i64 cl) ∧ X.cell? ⟨Q, 1, none⟩ = some (.int .i64 sq)) w4 ∧ True := ⟨⟨q0.cell 0, q0.cell 1⟩, trivial⟩
      refine hK.out _ _ ⟨hSS.1, fun _ => trivial⟩ ?_
      clear hK
      refine wpAnyE_one (i := 9) (by kernel_rfl) rfl (fun Kn hK => ?_)
      go_simp
      clear hSS
      have hSS : (fun X : World => X.cell? ⟨Q, 0, none⟩ = some (.int .i64 cl) ∧ X.cell? ⟨Q, 1, none⟩ = some (.int .i64 sq)) w4 ∧ True := ⟨⟨q0.cell 0, q0.cell 1⟩, trivial⟩
      refine hK.out _ _ ⟨hSS.1, fun _ => trivial⟩ ?_
      clear hK
      refine wpAnyE_one (i := 10) (by kernel_rfl) rfl (fun Kn hK => ?_)
      go_simp
      clear hSS
      have hSS : (fun X : World => X.cell? ⟨Q, 0, none⟩ = some (.int .i64 cl) ∧ X.cell? ⟨Q, 1, none⟩ = some (.int .i64 sq)) w4 ∧ True := ⟨⟨q0.cell 0, q0.cell 1⟩, trivial⟩
      refine hK.out _ _ ⟨hSS.1, fun _ => trivial⟩ ?_
      clear hK
      refine wpAnyE_done (by kernel_rfl) ?_ _
      clear hSS
      clear q0 A1 A2
      go_wp2
      go_ret
      exact ⟨rfl, BZ⟩
theorem JT.lit3 (w : World) (x1 x2 x3 : ByteArray) : JT w (.slice (some ⟨w.heap.size, 0, none⟩) 3 3) [x1, x2, x3] (w.alloc (.cells #[.string x1, .string x2, .string x3] 9)) :=
  ⟨(Below.refl _ _).alloc (Nat.le_refl _) _, World.ownsRow_lit w #[.string x1, .string x2, .string x3] 3 (Nat.le_refl _) (by unfold maxLen; omega) rfl⟩
theorem cjoin (cl sq ac : Int) (zs : List Int) : Lib.join ([(⟨(casL cl sq).toArray⟩ : ByteArray), ⟨(wAct ++ tailL [ac]).toArray⟩, ⟨(wWith ++ tailL zs).toArray⟩].map (·.data.toList)) [32] = callL cl sq ac zs := by
  rw [List.map_cons, Lib.join_cons, callL, casL, tail_one]
  simp [Lib.joinTail]
set_option maxHeartbeats 6400000 in
theorem ictext_any (cl sq ac : Int) (a : Option Addr) (n cap : Nat) (zs : List Int) (w : World) (hC : Ints w a n zs) (hn : n ≤ 1048576) (hT : Lib.TabBelow Tryz.prog w.heap.size w "internal/strconv.uint64pow10" .u64 Lib.pow10Tab) :
    Calls Tryz.prog 139 #[clV cl sq ac a n cap] w fun e w' => e = .returned (.string ⟨(callText cl sq ac n zs).toArray⟩) ∧ Below w.heap.size w w' := by
  have HTB : Hid _ := hT
  clear hT
  have q_0 := Cel.new w [.int .i64 cl, .int .i64 sq, .int .i64 ac, .slice a n cap] 59
  have B_0 := (Below.refl w.heap.size w).alloc (Nat.le_refl _) (.cells #[.int .i64 cl, .int .i64 sq, .int .i64 ac, .slice a n cap] 59)
  have q_s := q_0.alloc (.cells #[.int .i64 sq] 3)
  have B_s := B_0.alloc B_0.size (.cells #[.int .i64 sq] 3)
  have i_s := one_intsC (w.alloc (.cells #[.int .i64 cl, .int .i64 sq, .int .i64 ac, .slice a n cap] 59)) sq 3
  rw [World.size_alloc] at i_s
  obtain ⟨i0, hi, hz0, hz1, hz2⟩ := info_parts Tryz.infoStr
  obtain ⟨x1, hx1⟩ : ∃ x, x = decide (0 ≤ cl ∧ cl < 4) := ⟨_, rfl⟩
  obtain ⟨x2, hx2⟩ : ∃ x, x = betB 1 300 [sq] := ⟨_, rfl⟩
  obtain ⟨x3, hx3⟩ : ∃ x, x = decide (0 ≤ ac ∧ ac < 4) := ⟨_, rfl⟩
  obtain ⟨x4, hx4⟩ : ∃ x, x = okN 2 9 n zs := ⟨_, rfl⟩
  have pl : ∀ z : Int, decide (0 ≤ z ∧ z < 4) = inB z 0 3 := fun z => by
    cases h : inB z 0 3
    · have := inB_not.1 h; simp; omega
    · have := inB_iff.1 h; simp; omega
  have HB : Hid (callOkB cl sq ac n zs = (x1 && (x2 && (x3 && x4)))) := by show _ = _; rw [callOkB, hx1, hx2, hx3, hx4, bet_oneC, pl, pl]
  have H1 : Hid _ := hx1
  have H2 : Hid _ := hx2
  have H3 : Hid _ := hx3
  have H4 : Hid _ := hx4
  clear hx1 hx2 hx3 hx4 pl
  go_enter Tryz.func139, Tryz.ntmps139
  go_wp2_with fail
  refine (place_any _ _ _).mono ?_
  rintro e w1 ⟨rfl, rfl⟩
  rw [← H1.out]
  cases x1
  · go_wp2
    go_ret
    exact ⟨ret_str (callText_no (by rw [HB.out]; rfl)).symm, B_0⟩
  go_wp2_with fail
  refine (between_any _ _ _ [sq] _ _ _ i_s (by omega)).mono ?_
  rintro e w1 ⟨rfl, rfl⟩
  rw [← H2.out]
  clear i_s q_0
  cases x2
  · go_wp2
    go_ret
    exact ⟨ret_str (callText_no (by rw [HB.out]; rfl)).symm, B_s⟩
  go_wp2_with fail
  refine (place_any _ _ _).mono ?_
  rintro e w1 ⟨rfl, rfl⟩
  rw [← H3.out]
  cases x3
  · go_wp2
    go_ret
    exact ⟨ret_str (callText_no (by rw [HB.out]; rfl)).symm, B_s⟩
  go_wp2_with fail
  refine (iarg_any _ _ _ zs _ (hC.below B_s) hn).mono ?_
  rintro e w1 ⟨rfl, rfl⟩
  rw [← H4.out]
  cases x4
  · go_wp2
    go_ret
    exact ⟨ret_str (callText_no (by rw [HB.out]; rfl)).symm, B_s⟩
  have b1 := of_decide_eq_true H1.out.symm
  have b2 := inB_iff.1 ((bet_oneC sq 1 300).symm.trans H2.out.symm)
  have b3 := of_decide_eq_true H3.out.symm
  have hn2 : (n : Int) = 2 := by
    by_cases h : (n : Int) = 2
    · exact h
    · have := H4.out; rw [okN_not h] at this; cases this
  have hal : allB 9 zs = true := by have := H4.out; rw [okN_is hn2] at this; exact this.symm
  obtain rfl : n = 2 := by omega
  have BZ : Hid (∀ i : Nat, -9 ≤ zs[i]?.getD 0 ∧ zs[i]?.getD 0 ≤ 9) := allB_bnd' (by omega) hal
  have HL : Hid (zs.length = 2) := hC.1
  have HT : Hid (callText cl sq ac 2 zs = callL cl sq ac zs) := callText_yes (by rw [HB.out]; rfl)
  clear hal hn2 HB H1 H2 H3 H4 B_0
  obtain ⟨T1, e1⟩ : ∃ T : ByteArray, (⟨(casL cl sq).toArray⟩ : ByteArray) = T := ⟨_, rfl⟩
  obtain ⟨T2, e2⟩ : ∃ T : ByteArray, (⟨(wAct ++ tailL [ac]).toArray⟩ : ByteArray) = T := ⟨_, rfl⟩
  obtain ⟨T3, e3⟩ : ∃ T : ByteArray, (⟨(wWith ++ tailL zs).toArray⟩ : ByteArray) = T := ⟨_, rfl⟩
  have HJE : Hid (Lib.join ([T1, T2, T3].map (·.data.toList)) [32] = callL cl sq ac zs) := by show _ = _; rw [← e1, ← e2, ← e3]; exact cjoin cl sq ac zs
  have HLE : Hid ((callL cl sq ac zs).length ≤ 1000) := by
    show _ ≤ _
    have t1 := tail_len (zs := zs) (fun i => by have := BZ.out i; omega) zs.length (Nat.le_refl _)
    rw [List.take_length, HL.out] at t1
    have u1 := Lib.itoa_length_le cl (by omega) (by omega)
    have u2 := Lib.itoa_length_le sq (by omega) (by omega)
    have u3 := Lib.itoa_length_le ac (by omega) (by omega)
    rw [callL]
    simp only [List.length_append, List.length_cons, List.length_nil, wClient, wCall, wAct, wWith]
    omega
  have E1 : Hid _ := e1
  have E2 : Hid _ := e2
  have E3 : Hid _ := e3
  have HZ : Hid (∀ i : Nat, -9 ≤ zs[i]?.getD 0 ∧ zs[i]?.getD 0 ≤ 9) := BZ.out
  clear e1 e2 e3 BZ
  have hCs := hC.below B_s
  clear hC
  go_upto_region 3 with fail
  obtain ⟨W, hW⟩ : ∃ W, W = (w.alloc (.cells #[.int .i64 cl, .int .i64 sq, .int .i64 ac, .slice a 2 cap] 59)).alloc (.cells #[.int .i64 sq] 3) := ⟨_, rfl⟩
  obtain ⟨Q, hQ⟩ : ∃ Q, Q = w.heap.size := ⟨_, rfl⟩
  rw [← hQ, ← hW]
  rw [← hW] at q_s B_s hCs
  rw [← hQ] at q_s
  clear hW hQ
  have BZ := B_s
  clear B_s
  refine wp_region_ends (fun X => X.cell? ⟨Q, 0, none⟩ = some (.int .i64 cl) ∧ X.cell? ⟨Q, 1, none⟩ = some (.int .i64 sq) ∧ X.cell? ⟨Q, 2, none⟩ = some (.int .i64 ac) ∧ X.cell? ⟨Q, 3, none⟩ = some (.slice a 2 cap)) (fun _ => True) 10 (by kernel_rfl) ?_
  have dr : Below W.heap.size W W.drew := (Below.refl _ _).drew
  replace BZ := BZ.trans (dr.mono BZ.size)
  replace q_s := q_s.below dr
  replace hCs := hCs.below dr
  clear dr
  obtain ⟨V, hV⟩ : ∃ V, V = W.drew := ⟨_, rfl⟩
  rw [← hV]
  rw [← hV] at BZ q_s hCs
  clear hV
  have hSS : (fun X : World => X.cell? ⟨Q, 0, none⟩ = some (.int .i64 cl) ∧ X.cell? ⟨Q, 1, none⟩ = some (.int .i64 sq) ∧ X.cell? ⟨Q, 2, none⟩ = some (.int .i64 ac) ∧ X.cell? ⟨Q, 3, none⟩ = some (.slice a 2 cap)) V ∧ True := ⟨⟨q_s.cell 0, q_s.cell 1, q_s.cell 2, q_s.cell 3⟩, trivial⟩
  refine tkL (i := 0) rfl hSS ?_
  refine tkL (i := 2) rfl hSS ?_
  refine tkL (i := 3) rfl hSS ?_
  refine tkL (i := 6) rfl hSS ?_
  simp only [Act.put, List.setIfInBounds_toArray, List.set_cons_succ, List.set_cons_zero, List.getElem_toArray, List.getElem_cons_succ, List.getElem_cons_zero]
  refine tkL (i := 7) rfl hSS ?_
  refine wpAnyE_two (i := 1) (j := 4) (by kernel_rfl) rfl rfl (fun Kn hK => ?_) (fun Kn hK => ?_)
  · go_simp
    refine (icas_any cl sq ac a 2 cap _ b1 b2 (fun X hX => HTB.out X (BZ.trans (hX.mono BZ.size)))).mono ?_
    rintro ee w1 ⟨rfl, b9⟩
    rw [E1.out]
    replace BZ := BZ.trans (b9.mono BZ.size)
    replace q_s := q_s.below b9
    replace hCs := hCs.below b9
    clear b9
    dsimp only
    clear hSS
    have hSS : (fun X : World => X.cell? ⟨Q, 0, none⟩ = some (.int .i64 cl) ∧ X.cell? ⟨Q, 1, none⟩ = some (.int .i64 sq) ∧ X.cell? ⟨Q, 2, none⟩ = some (.int .i64 ac) ∧ X.cell? ⟨Q, 3, none⟩ = some (.slice a 2 cap)) w1 ∧ True := ⟨⟨q_s.cell 0, q_s.cell 1, q_s.cell 2, q_s.cell 3⟩, trivial⟩
    refine hK.out _ _ ⟨hSS.1, fun _ => trivial⟩ ?_
    clear hK
    refine wpAnyE_one (i := 4) (by kernel_rfl) rfl (fun Kn hK => ?_)
    go_simp
    have al := (Below.refl w1.heap.size w1).alloc (Nat.le_refl _) (.cells #[.int .i64 ac] 3)
    have ia := one_intsC w1 ac 3
    replace BZ := BZ.trans (al.mono BZ.size)
    replace q_s := q_s.below al
    replace hCs := hCs.below al
    clear al
    obtain ⟨Y2, hY2⟩ : ∃ W, W = w1.alloc (.cells #[.int .i64 ac] 3) := ⟨_, rfl⟩
    rw [← hY2]
    rw [← hY2] at BZ q_s hCs ia
    clear hY2
    clear hSS
    have hSS : (fun X : World => X.cell? ⟨Q, 0, none⟩ = some (.int .i64 cl) ∧ X.cell? ⟨Q, 1, none⟩ = some (.int .i64 sq) ∧ X.cell? ⟨Q, 2, none⟩ = some (.int .i64 ac) ∧ X.cell? ⟨Q, 3, none⟩ = some (.slice a 2 cap)) Y2 ∧ True := ⟨⟨q_s.cell 0, q_s.cell 1, q_s.cell 2, q_s.cell 3⟩, trivial⟩
    refine hK.out _ _ ⟨hSS.1, fun _ => trivial⟩ ?_
    clear hK
    refine wpAnyE_one (i := 5) (by kernel_rfl) rfl (fun Kn hK => ?_)
    go_simp
    refine (itwn_any wAct _ _ _ [ac] _ ia (by omega) (by decide) (fun i => by match i with | 0 => (simp only [List.getElem?_cons_zero, Option.getD_some]; omega) | i + 1 => simp) (fun X hX => HTB.out X (BZ.trans (hX.mono BZ.size)))).mono ?_
    rintro ee w3 ⟨rfl, b9⟩
    rw [E2.out]
    replace BZ := BZ.trans (b9.mono BZ.size)
    replace q_s := q_s.below b9
    replace hCs := hCs.below b9
    replace ia := ia.below b9
    clear b9
    dsimp only
    clear hSS
    have hSS : (fun X : World => X.cell? ⟨Q, 0, none⟩ = some (.int .i64 cl) ∧ X.cell? ⟨Q, 1, none⟩ = some (.int .i64 sq) ∧ X.cell? ⟨Q, 2, none⟩ = some (.int .i64 ac) ∧ X.cell? ⟨Q, 3, none⟩ = some (.slice a 2 cap)) w3 ∧ True := ⟨⟨q_s.cell 0, q_s.cell 1, q_s.cell 2, q_s.cell 3⟩, trivial⟩
    refine hK.out _ _ ⟨hSS.1, fun _ => trivial⟩ ?_
    clear hK
    refine wpAnyE_one (i := 8) (by kernel_rfl) rfl (fun Kn hK => ?_)
    go_simp
    refine (itwn_any wWith _ _ _ zs _ hCs (by omega) (by decide) (fun i => by have := HZ.out i; omega) (fun X hX => HTB.out X (BZ.trans (hX.mono BZ.size)))).mono ?_
    rintro ee w4 ⟨rfl, b9⟩
    rw [E3.out]
    replace BZ := BZ.trans (b9.mono BZ.size)
    replace q_s := q_s.below b9
    replace hCs := hCs.below b9
    replace ia := ia.below b9
    clear b9
    dsimp only
    clear hSS
    have hSS : (fun X : World => X.cell? ⟨Q, 0, none⟩ = some (.int .i64 cl) ∧ X.cell? ⟨Q, 1, none⟩ = some (.int .i64 sq) ∧ X.cell? ⟨Q, 2, none⟩ = some (.int .i64 ac) ∧ X.cell? ⟨Q, 3, none⟩ = some (.slice a 2 cap)) w4 ∧ True := ⟨⟨q_s.cell 0, q_s.cell 1, q_s.cell 2, q_s.cell 3⟩, trivial⟩
    refine hK.out _ _ ⟨hSS.1, fun _ => trivial⟩ ?_
    clear hK
    refine wpAnyE_one (i := 9) (by kernel_rfl) rfl (fun Kn hK => ?_)
    go_simp
    have J0 := JT.lit3 w4 T1 T2 T3
    have al := J0.b
    have jo := J0
    replace BZ := BZ.trans (al.mono BZ.size)
    replace q_s := q_s.below al
    replace hCs := hCs.below al
    replace ia := ia.below al
    clear al
    obtain ⟨Y5, hY5⟩ : ∃ W, W = w4.alloc (.cells #[.string T1, .string T2, .string T3] 9) := ⟨_, rfl⟩
    rw [← hY5]
    rw [← hY5] at BZ J0 jo q_s hCs ia
    clear hY5
    clear hSS
    have hSS : (fun X : World => X.cell? ⟨Q, 0, none⟩ = some (.int .i64 cl) ∧ X.cell? ⟨Q, 1, none⟩ = some (.int .i64 sq) ∧ X.cell? ⟨Q, 2, none⟩ = some (.int .i64 ac) ∧ X.cell? ⟨Q, 3, none⟩ = some (.slice a 2 cap)) Y5 ∧ True := ⟨⟨q_s.cell 0, q_s.cell 1, q_s.cell 2, q_s.cell 3⟩, trivial⟩
    refine hK.out _ _ ⟨hSS.1, fun _ => trivial⟩ ?_
    clear hK
    refine wpAnyE_one (i := 10) (by kernel_rfl) rfl (fun Kn hK => ?_)
    go_simp
    clear hSS
    have hSS : (fun X : World => X.cell? ⟨Q, 0, none⟩ = some (.int .i64 cl) ∧ X.cell? ⟨Q, 1, none⟩ = some (.int .i64 sq) ∧ X.cell? ⟨Q, 2, none⟩ = some (.int .i64 ac) ∧ X.cell? ⟨Q, 3, none⟩ = some (.slice a 2 cap)) Y5 ∧ True := ⟨⟨q_s.cell 0, q_s.cell 1, q_s.cell 2, q_s.cell 3⟩, trivial⟩
    refine hK.out _ _ ⟨hSS.1, fun _ => trivial⟩ ?_
    clear hK
    refine wpAnyE_done (by kernel_rfl) ?_ _
    clear hSS
    clear q_s hCs
    obtain ⟨g, gc, eg, hcap, hg, hcs⟩ := J0.cells (k := 3) rfl (by omega)
    rw [eg]
    clear eg
    have HJ := Tryz.strings_Join g 0 gc [T1, T2, T3] ⟨#[32]⟩ Y5 hcs hg (by simp) (by simpa using hcap) (by
      rw [show (⟨#[32]⟩ : ByteArray).data.toList = [32] from rfl, HJE.out]
      have := HLE.out
      omega)
    clear hcs hcap hg J0 jo
    go_wp2_with fail
    refine HJ.mono ?_
    rintro e wE ⟨rfl, b9⟩
    have B2 := BZ.trans (b9.mono BZ.size)
    rw [HJE.out, ← HT.out]
    obtain ⟨ZZ, hZZ⟩ : ∃ Z : ByteArray, (⟨(callText cl sq ac 2 zs).toArray⟩ : ByteArray) = Z := ⟨_, rfl⟩
    rw [hZZ]
    have HZZ : Hid _ := hZZ
    clear hZZ HJ
    go_wp2
    go_ret
    exact ⟨by rw [HZZ.out]; rfl, B2⟩
  · go_simp
    have al := (Below.refl V.heap.size V).alloc (Nat.le_refl _) (.cells #[.int .i64 ac] 3)
    have ia := one_intsC V ac 3
    replace BZ := BZ.trans (al.mono BZ.size)
    replace q_s := q_s.below al
    replace hCs := hCs.below al
    clear al
    obtain ⟨Y1, hY1⟩ : ∃ W, W = V.alloc (.cells #[.int .i64 ac] 3) := ⟨_, rfl⟩
    rw [← hY1]
    rw [← hY1] at BZ q_s hCs ia
    clear hY1
    clear hSS
    have hSS : (fun X : World => X.cell? ⟨Q, 0, none⟩ = some (.int .i64 cl) ∧ X.cell? ⟨Q, 1, none⟩ = some (.int .i64 sq) ∧ X.cell? ⟨Q, 2, none⟩ = some (.int .i64 ac) ∧ X.cell? ⟨Q, 3, none⟩ = some (.slice a 2 cap)) Y1 ∧ True := ⟨⟨q_s.cell 0, q_s.cell 1, q_s.cell 2, q_s.cell 3⟩, trivial⟩
    refine hK.out _ _ ⟨hSS.1, fun _ => trivial⟩ ?_
    clear hK
    refine wpAnyE_one (i := 1) (by kernel_rfl) rfl (fun Kn hK => ?_)
    go_simp
    refine (icas_any cl sq ac a 2 cap _ b1 b2 (fun X hX => HTB.out X (BZ.trans (hX.mono BZ.size)))).mono ?_
    rintro ee w2 ⟨rfl, b9⟩
    rw [E1.out]
    replace BZ := BZ.trans (b9.mono BZ.size)
    replace q_s := q_s.below b9
    replace hCs := hCs.below b9
    replace ia := ia.below b9
    clear b9
    dsimp only
    clear hSS
    have hSS : (fun X : World => X.cell? ⟨Q, 0, none⟩ = some (.int .i64 cl) ∧ X.cell? ⟨Q, 1, none⟩ = some (.int .i64 sq) ∧ X.cell? ⟨Q, 2, none⟩ = some (.int .i64 ac) ∧ X.cell? ⟨Q, 3, none⟩ = some (.slice a 2 cap)) w2 ∧ True := ⟨⟨q_s.cell 0, q_s.cell 1, q_s.cell 2, q_s.cell 3⟩, trivial⟩
    refine hK.out _ _ ⟨hSS.1, fun _ => trivial⟩ ?_
    clear hK
    refine wpAnyE_one (i := 5) (by kernel_rfl) rfl (fun Kn hK => ?_)
    go_simp
    refine (itwn_any wAct _ _ _ [ac] _ ia (by omega) (by decide) (fun i => by match i with | 0 => (simp only [List.getElem?_cons_zero, Option.getD_some]; omega) | i + 1 => simp) (fun X hX => HTB.out X (BZ.trans (hX.mono BZ.size)))).mono ?_
    rintro ee w3 ⟨rfl, b9⟩
    rw [E2.out]
    replace BZ := BZ.trans (b9.mono BZ.size)
    replace q_s := q_s.below b9
    replace hCs := hCs.below b9
    replace ia := ia.below b9
    clear b9
    dsimp only
    clear hSS
    have hSS : (fun X : World => X.cell? ⟨Q, 0, none⟩ = some (.int .i64 cl) ∧ X.cell? ⟨Q, 1, none⟩ = some (.int .i64 sq) ∧ X.cell? ⟨Q, 2, none⟩ = some (.int .i64 ac) ∧ X.cell? ⟨Q, 3, none⟩ = some (.slice a 2 cap)) w3 ∧ True := ⟨⟨q_s.cell 0, q_s.cell 1, q_s.cell 2, q_s.cell 3⟩, trivial⟩
    refine hK.out _ _ ⟨hSS.1, fun _ => trivial⟩ ?_
    clear hK
    refine wpAnyE_one (i := 8) (by kernel_rfl) rfl (fun Kn hK => ?_)
    go_simp
    refine (itwn_any wWith _ _ _ zs _ hCs (by omega) (by decide) (fun i => by have := HZ.out i; omega) (fun X hX => HTB.out X (BZ.trans (hX.mono BZ.size)))).mono ?_
    rintro ee w4 ⟨rfl, b9⟩
    rw [E3.out]
    replace BZ := BZ.trans (b9.mono BZ.size)
    replace q_s := q_s.below b9
    replace hCs := hCs.below b9
    replace ia := ia.below b9
    clear b9
    dsimp only
    clear hSS
    have hSS : (fun X : World => X.cell? ⟨Q, 0, none⟩ = some (.int .i64 cl) ∧ X.cell? ⟨Q, 1, none⟩ = some (.int .i64 sq) ∧ X.cell? ⟨Q, 2, none⟩ = some (.int .i64 ac) ∧ X.cell? ⟨Q, 3, none⟩ = some (.slice a 2 cap)) w4 ∧ True := ⟨⟨q_s.cell 0, q_s.cell 1, q_s.cell 2, q_s.cell 3⟩, trivial⟩
    refine hK.out _ _ ⟨hSS.1, fun _ => trivial⟩ ?_
    clear hK
    refine wpAnyE_one (i := 9) (by kernel_rfl) rfl (fun Kn hK => ?_)
    go_simp
    have J0 := JT.lit3 w4 T1 T2 T3
    have al := J0.b
    have jo := J0
    replace BZ := BZ.trans (al.mono BZ.size)
    replace q_s := q_s.below al
    replace hCs := hCs.below al
    replace ia := ia.below al
    clear al
    obtain ⟨Y5, hY5⟩ : ∃ W, W = w4.alloc (.cells #[.string T1, .string T2, .string T3] 9) := ⟨_, rfl⟩
    rw [← hY5]
    rw [← hY5] at BZ J0 jo q_s hCs ia
    clear hY5
    clear hSS
    have hSS : (fun X : World => X.cell? ⟨Q, 0, none⟩ = some (.int .i64 cl) ∧ X.cell? ⟨Q, 1, none⟩ = some (.int .i64 sq) ∧ X.cell? ⟨Q, 2, none⟩ = some (.int .i64 ac) ∧ X.cell? ⟨Q, 3, none⟩ = some (.slice a 2 cap)) Y5 ∧ True := ⟨⟨q_s.cell 0, q_s.cell 1, q_s.cell 2, q_s.cell 3⟩, trivial⟩
    refine hK.out _ _ ⟨hSS.1, fun _ => trivial⟩ ?_
    clear hK
    refine wpAnyE_one (i := 10) (by kernel_rfl) rfl (fun Kn hK => ?_)
    go_simp
    clear hSS
    have hSS : (fun X : World => X.cell? ⟨Q, 0, none⟩ = some (.int .i64 cl) ∧ X.cell? ⟨Q, 1, none⟩ = some (.int .i64 sq) ∧ X.cell? ⟨Q, 2, none⟩ = some (.int .i64 ac) ∧ X.cell? ⟨Q, 3, none⟩ = some (.slice a 2 cap)) Y5 ∧ True := ⟨⟨q_s.cell 0, q_s.cell 1, q_s.cell 2, q_s.cell 3⟩, trivial⟩
    refine hK.out _ _ ⟨hSS.1, fun _ => trivial⟩ ?_
    clear hK
    refine wpAnyE_done (by kernel_rfl) ?_ _
    clear hSS
    clear q_s hCs
    obtain ⟨g, gc, eg, hcap, hg, hcs⟩ := J0.cells (k := 3) rfl (by omega)
    rw [eg]
    clear eg
    have HJ := Tryz.strings_Join g 0 gc [T1, T2, T3] ⟨#[32]⟩ Y5 hcs hg (by simp) (by simpa using hcap) (by
      rw [show (⟨#[32]⟩ : ByteArray).data.toList = [32] from rfl, HJE.out]
      have := HLE.out
      omega)
    clear hcs hcap hg J0 jo
    go_wp2_with fail
    refine HJ.mono ?_
    rintro e wE ⟨rfl, b9⟩
    have B2 := BZ.trans (b9.mono BZ.size)
    rw [HJE.out, ← HT.out]
    obtain ⟨ZZ, hZZ⟩ : ∃ Z : ByteArray, (⟨(callText cl sq ac 2 zs).toArray⟩ : ByteArray) = Z := ⟨_, rfl⟩
    rw [hZZ]
    have HZZ : Hid _ := hZZ
    clear hZZ HJ
    go_wp2
    go_ret
    exact ⟨by rw [HZZ.out]; rfl, B2⟩

end Go.Proofs.YtpmihhbgjimpmaaGreatDoor
namespace Go.Proofs.YtpmihhbgjimpmaaGreatDoor
open Go.RowKit
set_option linter.unusedVariables false
set_option maxRecDepth 100000

/-- A text is not empty. -/
def fullC (l : List UInt8) : Bool := !(⟨l.toArray⟩ : ByteArray).toList.isEmpty
theorem full_call (x sq ac : Int) (n : Nat) (zs : List Int) : fullC (callText x sq ac n zs) = callOkB x sq ac n zs := by
  cases h : callOkB x sq ac n zs
  · rw [callText_no h, fullC, ByteArray.toList_mk]; rfl
  · rw [callText_yes h, fullC, ByteArray.toList_mk, callL]; rfl
/-- A call is ok in a plan that is. -/
def inCallB (cl : Int) (N : Nat) (x sq ac : Int) (n : Nat) (zs : List Int) : Bool := inB x 0 (cl - 1) && (inB sq 1 300 && (inB ac 0 (N - 1) && okN 2 9 n zs))
theorem pln_acts {cl : Int} {N : Nat} {ss : List L2V} {gn : Nat} {G : List Int} {sn : Nat} {S : List Int} (h : plnB cl N ss gn G sn S = true) : 1 ≤ N ∧ N ≤ 4 := by
  simp only [plnB, catB, Bool.and_eq_true] at h
  have h1 := inB_iff.1 h.2.1.1
  omega
theorem inCall_same {cl : Int} {N : Nat} {x sq ac : Int} {n : Nat} {zs : List Int} (h1 : cl ≤ 4) (h2 : N ≤ 4) : (decide (0 ≤ x ∧ x < cl) && (decide (0 ≤ ac ∧ ac < (N : Int)) && fullC (callText x sq ac n zs))) = inCallB cl N x sq ac n zs := by
  rw [full_call, callOkB, inCallB]
  have e1 : decide (0 ≤ x ∧ x < cl) = inB x 0 (cl - 1) := by
    cases h : inB x 0 (cl - 1)
    · have := inB_not.1 h; simp; omega
    · have := inB_iff.1 h; simp; omega
  have e2 : decide (0 ≤ ac ∧ ac < (N : Int)) = inB ac 0 (N - 1) := by
    cases h : inB ac 0 (N - 1)
    · have := inB_not.1 h; simp; omega
    · have := inB_iff.1 h; simp; omega
  rw [e1, e2]
  cases h : inB x 0 (cl - 1)
  · simp
  · have g1 := inB_iff.1 h
    rw [inB_iff.2 (show 0 ≤ x ∧ x ≤ 3 by omega)]
    cases h' : inB ac 0 (N - 1)
    · simp
    · have g2 := inB_iff.1 h'
      rw [inB_iff.2 (show 0 ≤ ac ∧ ac ≤ 3 by omega)]
      simp

set_option maxHeartbeats 1600000 in
theorem l6call_any (cl : Int) (ad : Option Addr) (N cap : Nat) (ga : Option Addr) (gn gc : Nat) (sa : Option Addr) (sn sc : Nat) (x sq ac : Int) (a : Option Addr) (n cc : Nat) (zs : List Int) (w : World) (hC : Ints w a n zs) (hn : n ≤ 1048576) (h1 : 1 ≤ cl ∧ cl ≤ 4) (h2 : 1 ≤ N ∧ N ≤ 4) :
    Calls Tryz.prog 108 #[plV cl ad N cap ga gn gc sa sn sc, clV x sq ac a n cc] w fun e w' => e = .returned (.bool (inCallB cl N x sq ac n zs)) ∧ Below w.heap.size w w' := by
  have B_0 := ((Below.refl w.heap.size w).alloc (Nat.le_refl _) (.cells #[.int .i64 cl, .slice ad N cap, .slice ga gn gc, .slice sa sn sc] 26)).alloc (by simp) (.cells #[.int .i64 x, .int .i64 sq, .int .i64 ac, .slice a n cc] 59)
  obtain ⟨x1, hx1⟩ : ∃ y, y = inB x 0 (cl - 1) := ⟨_, rfl⟩
  obtain ⟨x2, hx2⟩ : ∃ y, y = inB sq 1 300 := ⟨_, rfl⟩
  obtain ⟨x3, hx3⟩ : ∃ y, y = inB ac 0 ((N : Int) - 1) := ⟨_, rfl⟩
  obtain ⟨x4, hx4⟩ : ∃ y, y = okN 2 9 n zs := ⟨_, rfl⟩
  have HB : Hid (inCallB cl N x sq ac n zs = (x1 && (x2 && (x3 && x4)))) := by show _ = _; rw [inCallB, hx1, hx2, hx3, hx4]
  have H1 : Hid _ := hx1
  have H2 : Hid _ := hx2
  have H3 : Hid _ := hx3
  have H4 : Hid _ := hx4
  clear hx1 hx2 hx3 hx4
  obtain ⟨c1, c2⟩ := h1
  obtain ⟨d1, d2⟩ := h2
  go_enter Tryz.func108, Tryz.ntmps108
  go_wp2_with fail
  refine (in_any _ _ _ _).mono ?_
  rintro e w1 ⟨rfl, rfl⟩
  rw [← H1.out]
  cases x1
  · go_wp2
    go_ret
    exact ⟨ret_bool (by rw [HB.out]; rfl), B_0⟩
  go_wp2_with fail
  refine (in_any _ _ _ _).mono ?_
  rintro e w1 ⟨rfl, rfl⟩
  rw [← H2.out]
  cases x2
  · go_wp2
    go_ret
    exact ⟨ret_bool (by rw [HB.out]; rfl), B_0⟩
  go_wp2_with fail
  refine (in_any _ _ _ _).mono ?_
  rintro e w1 ⟨rfl, rfl⟩
  rw [← H3.out]
  cases x3
  · go_wp2
    go_ret
    exact ⟨ret_bool (by rw [HB.out]; rfl), B_0⟩
  go_wp2_with fail
  refine (sarg_any _ _ _ zs _ (hC.below B_0) hn).mono ?_
  rintro e w1 ⟨rfl, rfl⟩
  rw [← H4.out]
  go_wp2
  go_ret
  exact ⟨ret_bool (by rw [HB.out]; rfl), B_0⟩

set_option maxHeartbeats 1600000 in
theorem icallok_any (cl : Int) (ad : Option Addr) (N cap : Nat) (ss : List L2V) (ga : Option Addr) (gn gc : Nat) (G : List Int) (sa : Option Addr) (sn sc : Nat) (S : List Int) (x sq ac : Int) (a : Option Addr) (n cc : Nat) (zs : List Int) (w : World) (h : PlAt w ad N ss ga gn G sa sn S) (hC : Ints w a n zs) (hn : n ≤ 1048576) (hT : Lib.TabBelow Tryz.prog w.heap.size w "internal/strconv.uint64pow10" .u64 Lib.pow10Tab) :
    Calls Tryz.prog 98 #[plV cl ad N cap ga gn gc sa sn sc, clV x sq ac a n cc] w fun e w' => e = .returned (.bool (plnB cl N ss gn G sn S && inCallB cl N x sq ac n zs)) ∧ Below w.heap.size w w' := by
  have HTB : Hid _ := hT
  clear hT
  have q_0 := (BP.new w [.int .i64 cl, .slice ad N cap, .slice ga gn gc, .slice sa sn sc] 26).alloc (.cells #[.int .i64 x, .int .i64 sq, .int .i64 ac, .slice a n cc] 59)
  have y_0 := Cel.new (w.alloc (.cells #[.int .i64 cl, .slice ad N cap, .slice ga gn gc, .slice sa sn sc] 26)) [.int .i64 x, .int .i64 sq, .int .i64 ac, .slice a n cc] 59
  rw [World.size_alloc] at y_0
  cases hp : plnB cl N ss gn G sn S
  · have HP : Hid _ := hp
    clear hp
    go_enter Tryz.func98, Tryz.ntmps98
    go_wp2_with fail
    refine (iplnok_any _ _ _ _ ss _ _ _ G _ _ _ S _ ((h.alloc _).alloc _)).mono ?_
    rintro e w1 ⟨rfl, b1⟩
    rw [HP.out]
    have q_1 := q_0.below b1
    go_wp2
    go_ret
    exact ⟨ret_bool (by simp), q_1.b⟩
  have pp := (pln_parts hp).1
  have pa := pln_acts hp
  have HP : Hid _ := hp
  clear hp
  obtain ⟨x1, hx1⟩ : ∃ y, y = decide (0 ≤ x ∧ x < cl) := ⟨_, rfl⟩
  obtain ⟨x2, hx2⟩ : ∃ y, y = decide (0 ≤ ac ∧ ac < (N : Int)) := ⟨_, rfl⟩
  obtain ⟨T, hx3⟩ : ∃ y : ByteArray, y = ⟨(callText x sq ac n zs).toArray⟩ := ⟨_, rfl⟩
  have HB : Hid (inCallB cl N x sq ac n zs = (x1 && (x2 && !T.toList.isEmpty))) := by show _ = _; rw [← inCall_same pp.2 pa.2, hx1, hx2, hx3]; rfl
  have H1 : Hid _ := hx1
  have H2 : Hid _ := hx2
  have H3 : Hid _ := hx3
  clear hx1 hx2 hx3
  go_enter Tryz.func98, Tryz.ntmps98
  go_wp2_with fail
  refine (iplnok_any _ _ _ _ ss _ _ _ G _ _ _ S _ ((h.alloc _).alloc _)).mono ?_
  rintro e w1 ⟨rfl, b1⟩
  rw [HP.out]
  have q_1 := q_0.below b1
  have y_1 := y_0.below b1
  clear q_0 y_0 b1
  obtain ⟨c0, c1, c2, c3⟩ := q_1.p.quadP
  obtain ⟨d0, d1, d2, d3⟩ := y_1.quadC
  go_wp2_with fail
  refine (place_any _ _ _).mono ?_
  rintro e w2 ⟨rfl, rfl⟩
  rw [← H1.out]
  cases x1
  · go_wp2
    go_ret
    exact ⟨ret_bool (by rw [HB.out]; rfl), q_1.b⟩
  go_wp2_with fail
  refine (place_any _ _ _).mono ?_
  rintro e w2 ⟨rfl, rfl⟩
  rw [← H2.out]
  cases x2
  · go_wp2
    go_ret
    exact ⟨ret_bool (by rw [HB.out]; rfl), q_1.b⟩
  have B_1 := q_1.b
  go_wp2_with fail
  refine (ictext_any _ _ _ _ _ _ zs _ (hC.below q_1.b) hn (fun w' h' => HTB.out w' (B_1.trans (h'.mono B_1.size)))).mono ?_
  rintro e w2 ⟨rfl, b2⟩
  rw [← H3.out]
  have q_2 := q_1.below b2
  clear c0 c1 c2 c3 d0 d1 d2 d3 q_1 y_1 B_1 b2
  go_wp2
  go_ret
  exact ⟨ret_bool (by rw [HB.out]; rfl), q_2.b⟩

end Go.Proofs.YtpmihhbgjimpmaaGreatDoor
namespace Go.Proofs.YtpmihhbgjimpmaaGreatDoor
open Go.RowKit
set_option linter.unusedVariables false
set_option maxRecDepth 100000

set_option maxHeartbeats 3200000 in
theorem itext_any (c : Int) (a : Option Addr) (n cap : Nat) (zs : List Int) (w : World) (hC : Ints w a n zs) (hn : n ≤ 1048576) (hT : Lib.TabBelow Tryz.prog w.heap.size w "internal/strconv.uint64pow10" .u64 Lib.pow10Tab) :
    Calls Tryz.prog 141 #[resP c a n cap] w fun e w' => e = .returned (.string ⟨(resText c n zs).toArray⟩) ∧ Below w.heap.size w w' := by
  have HL : Hid (zs.length = n) := hC.1
  have HTB : Hid _ := hT
  clear hT
  have B0 := (Below.refl w.heap.size w).alloc (Nat.le_refl _) (.cells #[.int .i64 c, .slice a n cap] 54)
  obtain ⟨i0, hi, hz0, hz1, hz2⟩ := info_parts Tryz.infoStr
  cases h1 : inB c 1 3
  · have HR : Hid _ := resText_no (c := c) (n := n) (zs := zs) (by simp [resOkB, h1])
    have c13 := inB_not.1 h1
    have hw : (⟨(wordL c).toArray⟩ : ByteArray) = ⟨#[]⟩ := by rw [wordL, if_neg (by omega), if_neg (by omega), if_neg (by omega)]
    have HW : Hid _ := hw
    clear hw h1
    go_enter Tryz.func141, Tryz.ntmps141
    go_wp2_with fail
    refine (word_any _ _).mono ?_
    rintro e w1 ⟨rfl, rfl⟩
    rw [HW.out]
    go_wp2
    go_ret
    exact ⟨by rw [HR.out]; rfl, B0⟩
  have c13 := inB_iff.1 h1
  by_cases h2 : c = 1 ∨ n = 0
  · by_cases h3 : n ≤ 6
    · cases h4 : allB 999999999999 zs
      · have HR : Hid _ := resText_no (c := c) (n := n) (zs := zs) (by simp [resOkB, h4])
        rcases h2 with rfl | rfl
        · go_enter Tryz.func141, Tryz.ntmps141
          go_wp2_with fail
          refine (word_any _ _).mono ?_
          rintro e w1 ⟨rfl, rfl⟩
          rw [show (⟨(wordL 1).toArray⟩ : ByteArray) = ⟨#[100, 111, 110, 101]⟩ from rfl]
          go_wp2_with fail
          refine (within_any _ _ _ zs _ _ (hC.below B0) hn (by omega) (by omega)).mono ?_
          rintro e w1 ⟨rfl, rfl⟩
          rw [h4]
          go_wp2
          go_ret
          exact ⟨by rw [HR.out]; rfl, B0⟩
        · exfalso
          have : zs = [] := List.eq_nil_of_length_eq_zero HL.out
          subst this
          cases h4
      · have H4 : Hid (allB 999999999999 zs = true) := h4
        have HR : Hid _ := resText_yes (c := c) (n := n) (zs := zs) (by simp [resOkB, h1, h2, h3, h4])
        have BZ : Hid (∀ i : Nat, -999999999999 ≤ zs[i]?.getD 0 ∧ zs[i]?.getD 0 ≤ 999999999999) := allB_bnd' (by omega) h4
        clear h1 h4
        by_cases e1 : c = 1
        · subst e1
          clear h2
          go_enter Tryz.func141, Tryz.ntmps141
          go_wp2_with fail
          refine (word_any _ _).mono ?_
          rintro e w1 ⟨rfl, rfl⟩
          rw [show (⟨(wordL 1).toArray⟩ : ByteArray) = ⟨#[100, 111, 110, 101]⟩ from rfl]
          go_wp2_with fail
          refine (within_any _ _ _ zs _ _ (hC.below B0) hn (by omega) (by omega)).mono ?_
          rintro e w1 ⟨rfl, rfl⟩
          rw [H4.out]
          obtain ⟨W, hW⟩ : ∃ W, W = w.alloc (.cells #[.int .i64 1, .slice a n cap] 54) := ⟨_, rfl⟩
          have bx : Cel W w.heap.size [.int .i64 1, .slice a n cap] 54 := by rw [hW]; exact Cel.new w _ _
          rw [← hW] at B0 ⊢
          clear hW
          have k1 := bx.cell 1
          simp only [List.getElem?_cons_zero, List.getElem?_cons_succ] at k1
          have hCW := hC.below B0
          clear hC
          go_wp2_with fail
          refine (itwn_any (wordL 1) a n cap zs W hCW (by omega) (by have := word_len 1; omega) BZ.out (fun X hX => HTB.out X (B0.trans (hX.mono B0.size)))).mono ?_
          rintro e w2 ⟨rfl, b2⟩
          have B2 := B0.trans (b2.mono B0.size)
          obtain ⟨Z, hZ⟩ : ∃ Z : ByteArray, Z = ⟨(wordL 1 ++ tailL zs).toArray⟩ := ⟨_, rfl⟩
          have HZ : Hid (Z = ⟨(wordL 1 ++ tailL zs).toArray⟩) := hZ
          rw [← hZ]
          clear hZ k1 bx hCW
          go_wp2
          go_ret
          exact ⟨by rw [HR.out, HZ.out]; rfl, B2⟩
        · have hn0 : n ≤ 0 := by omega
          have hn0' : ((n : Int) == 0) = true := by simp; omega
          clear h2
          by_cases e2 : c = 2
          · subst e2
            go_enter Tryz.func141, Tryz.ntmps141
            go_wp2_with fail
            refine (word_any _ _).mono ?_
            rintro e w1 ⟨rfl, rfl⟩
            rw [show (⟨(wordL 2).toArray⟩ : ByteArray) = ⟨#[115, 116, 111, 112, 112, 101, 100]⟩ from rfl]
            go_wp2_with fail
            refine (within_any _ _ _ zs _ _ (hC.below B0) hn (by omega) (by omega)).mono ?_
            rintro e w1 ⟨rfl, rfl⟩
            rw [H4.out]
            obtain ⟨W, hW⟩ : ∃ W, W = w.alloc (.cells #[.int .i64 2, .slice a n cap] 54) := ⟨_, rfl⟩
            have bx : Cel W w.heap.size [.int .i64 2, .slice a n cap] 54 := by rw [hW]; exact Cel.new w _ _
            rw [← hW] at B0 ⊢
            clear hW
            have k1 := bx.cell 1
            simp only [List.getElem?_cons_zero, List.getElem?_cons_succ] at k1
            have hCW := hC.below B0
            clear hC
            go_wp2_with fail
            refine (itwn_any (wordL 2) a n cap zs W hCW (by omega) (by have := word_len 2; omega) BZ.out (fun X hX => HTB.out X (B0.trans (hX.mono B0.size)))).mono ?_
            rintro e w2 ⟨rfl, b2⟩
            have B2 := B0.trans (b2.mono B0.size)
            obtain ⟨Z, hZ⟩ : ∃ Z : ByteArray, Z = ⟨(wordL 2 ++ tailL zs).toArray⟩ := ⟨_, rfl⟩
            have HZ : Hid (Z = ⟨(wordL 2 ++ tailL zs).toArray⟩) := hZ
            rw [← hZ]
            clear hZ k1 bx hCW
            go_wp2
            go_ret
            exact ⟨by rw [HR.out, HZ.out]; rfl, B2⟩
          · obtain rfl : c = 3 := by omega
            go_enter Tryz.func141, Tryz.ntmps141
            go_wp2_with fail
            refine (word_any _ _).mono ?_
            rintro e w1 ⟨rfl, rfl⟩
            rw [show (⟨(wordL 3).toArray⟩ : ByteArray) = ⟨#[111, 118, 101, 114]⟩ from rfl]
            go_wp2_with fail
            refine (within_any _ _ _ zs _ _ (hC.below B0) hn (by omega) (by omega)).mono ?_
            rintro e w1 ⟨rfl, rfl⟩
            rw [H4.out]
            obtain ⟨W, hW⟩ : ∃ W, W = w.alloc (.cells #[.int .i64 3, .slice a n cap] 54) := ⟨_, rfl⟩
            have bx : Cel W w.heap.size [.int .i64 3, .slice a n cap] 54 := by rw [hW]; exact Cel.new w _ _
            rw [← hW] at B0 ⊢
            clear hW
            have k1 := bx.cell 1
            simp only [List.getElem?_cons_zero, List.getElem?_cons_succ] at k1
            have hCW := hC.below B0
            clear hC
            go_wp2_with fail
            refine (itwn_any (wordL 3) a n cap zs W hCW (by omega) (by have := word_len 3; omega) BZ.out (fun X hX => HTB.out X (B0.trans (hX.mono B0.size)))).mono ?_
            rintro e w2 ⟨rfl, b2⟩
            have B2 := B0.trans (b2.mono B0.size)
            obtain ⟨Z, hZ⟩ : ∃ Z : ByteArray, Z = ⟨(wordL 3 ++ tailL zs).toArray⟩ := ⟨_, rfl⟩
            have HZ : Hid (Z = ⟨(wordL 3 ++ tailL zs).toArray⟩) := hZ
            rw [← hZ]
            clear hZ k1 bx hCW
            go_wp2
            go_ret
            exact ⟨by rw [HR.out, HZ.out]; rfl, B2⟩
    · have HR : Hid _ := resText_no (c := c) (n := n) (zs := zs) (by simp [resOkB, h3])
      obtain rfl : c = 1 := by omega
      go_enter Tryz.func141, Tryz.ntmps141
      go_wp2_with fail
      refine (word_any _ _).mono ?_
      rintro e w1 ⟨rfl, rfl⟩
      rw [show (⟨(wordL 1).toArray⟩ : ByteArray) = ⟨#[100, 111, 110, 101]⟩ from rfl]
      go_wp2
      go_ret
      exact ⟨by rw [HR.out]; rfl, B0⟩
  · have HR : Hid _ := resText_no (c := c) (n := n) (zs := zs) (by simp [resOkB, h2])
    have hn0 : ((n : Int) == 0) = false := by simp; omega
    clear h1
    by_cases e2 : c = 2
    · subst e2
      go_enter Tryz.func141, Tryz.ntmps141
      go_wp2_with fail
      refine (word_any _ _).mono ?_
      rintro e w1 ⟨rfl, rfl⟩
      rw [show (⟨(wordL 2).toArray⟩ : ByteArray) = ⟨#[115, 116, 111, 112, 112, 101, 100]⟩ from rfl]
      go_wp2
      go_ret
      exact ⟨by rw [HR.out]; rfl, B0⟩
    · obtain rfl : c = 3 := by omega
      go_enter Tryz.func141, Tryz.ntmps141
      go_wp2_with fail
      refine (word_any _ _).mono ?_
      rintro e w1 ⟨rfl, rfl⟩
      rw [show (⟨(wordL 3).toArray⟩ : ByteArray) = ⟨#[111, 118, 101, 114]⟩ from rfl]
      go_wp2
      go_ret
      exact ⟨by rw [HR.out]; rfl, B0⟩

end Go.Proofs.YtpmihhbgjimpmaaGreatDoor
namespace Go.Proofs.YtpmihhbgjimpmaaGreatDoor
open Go.RowKit
set_option linter.unusedVariables false
set_option maxRecDepth 100000

/-- A text is not empty. -/
def fullB (l : List UInt8) : Bool := !(⟨l.toArray⟩ : ByteArray).toList.isEmpty

set_option maxHeartbeats 800000 in
theorem sresok_any (c : Int) (a : Option Addr) (n cap : Nat) (zs : List Int) (w : World) (hC : Ints w a n zs) (hn : n ≤ 1048576) :
    Calls Tryz.prog 109 #[resP c a n cap] w fun e w' => e = .returned (.bool (fullB (resText c n zs))) ∧ Below w.heap.size w w' := by
  obtain ⟨T, hTx⟩ : ∃ T : ByteArray, T = ⟨(resText c n zs).toArray⟩ := ⟨_, rfl⟩
  have HTX : Hid _ := hTx
  clear hTx
  have B0 := (Below.refl w.heap.size w).alloc (Nat.le_refl _) (.cells #[.int .i64 c, .slice a n cap] 54)
  go_enter Tryz.func109, Tryz.ntmps109
  go_wp2_with fail
  refine (stext_any _ _ _ _ zs _ (hC.alloc _) hn).mono ?_
  rintro e w1 ⟨rfl, b1⟩
  rw [← HTX.out]
  go_wp2
  go_ret
  exact ⟨by rw [fullB, ← HTX.out]; rfl, B0.trans (b1.mono B0.size)⟩

set_option maxHeartbeats 800000 in
theorem iresok_any (c : Int) (a : Option Addr) (n cap : Nat) (zs : List Int) (w : World) (hC : Ints w a n zs) (hn : n ≤ 1048576) (hT : Lib.TabBelow Tryz.prog w.heap.size w "internal/strconv.uint64pow10" .u64 Lib.pow10Tab) :
    Calls Tryz.prog 106 #[resP c a n cap] w fun e w' => e = .returned (.bool (fullB (resText c n zs))) ∧ Below w.heap.size w w' := by
  obtain ⟨T, hTx⟩ : ∃ T : ByteArray, T = ⟨(resText c n zs).toArray⟩ := ⟨_, rfl⟩
  have HTX : Hid _ := hTx
  have HT : Hid _ := hT
  clear hTx hT
  have B0 := (Below.refl w.heap.size w).alloc (Nat.le_refl _) (.cells #[.int .i64 c, .slice a n cap] 54)
  go_enter Tryz.func106, Tryz.ntmps106
  go_wp2_with fail
  refine (itext_any _ _ _ _ zs _ (hC.alloc _) hn (fun w' h' => HT.out w' (B0.trans (h'.mono B0.size)))).mono ?_
  rintro e w1 ⟨rfl, b1⟩
  rw [← HTX.out]
  go_wp2
  go_ret
  exact ⟨by rw [fullB, ← HTX.out]; rfl, B0.trans (b1.mono B0.size)⟩

end Go.Proofs.YtpmihhbgjimpmaaGreatDoor
namespace Go.Proofs.YtpmihhbgjimpmaaGreatDoor
open Go.RowKit Go.Deep
set_option linter.unusedVariables false
set_option maxRecDepth 100000

theorem not_true_ofL {b : Bool} (h : b = false) : ¬ b = true := fun e => by rw [h] at e; cases e
/-- One of them is ok, of a plan that is. -/
def lgOk (cl : Int) (N : Nat) (f : LgV) : Bool := inCallB cl N f.x f.q f.c f.t.n f.t.x && fullB (resText f.e f.u.n f.u.x)
/-- What was done is ok. -/
def logB (cl : Int) (N ln : Nat) (fs : List LgV) : Bool := decide (ln ≤ 100) && fs.all (lgOk cl N)
theorem lgs_step {p : LgV → Bool} {fs : List LgV} {k : Nat} (hk : k < fs.length) (h : (fs.take k).all p = true) (h2 : p (fs[k]?.getD noLg) = true) : (fs.take (k + 1)).all p = true := by
  rw [List.take_add_one, List.all_append, h, List.getElem?_eq_getElem hk]
  rw [List.getElem?_eq_getElem hk] at h2
  simpa using h2
theorem lgs_no {p : LgV → Bool} {fs : List LgV} {k : Nat} (hk : k < fs.length) (h : p (fs[k]?.getD noLg) = false) : fs.all p = false := by
  rw [List.getElem?_eq_getElem hk] at h
  rw [List.all_eq_false]
  exact ⟨fs[k], List.getElem_mem hk, by simpa using h⟩

set_option maxHeartbeats 12800000 in
theorem slog_any (cl : Int) (ad : Option Addr) (N cap : Nat) (ga : Option Addr) (gn gc : Nat) (sa : Option Addr) (sn sc : Nat) (la : Option Addr) (ln lc : Nat) (fs : List LgV) (w : World) (hN : fs.length = ln) (hF : LgSG w la fs) (hz : ln ≤ 1048576) (h1 : 1 ≤ cl ∧ cl ≤ 4) (h2 : 1 ≤ N ∧ N ≤ 4) :
    Calls Tryz.prog 66 #[plV cl ad N cap ga gn gc sa sn sc, .slice la ln lc] w fun e w' => e = .returned (.bool (logB cl N ln fs)) ∧ Below w.heap.size w w' := by
  have HN : Hid (fs.length = ln) := hN
  have H1 : Hid _ := h1
  have H2 : Hid _ := h2
  clear hN h1 h2
  have q0 := Cel.new w [.int .i64 cl, .slice ad N cap, .slice ga gn gc, .slice sa sn sc] 26
  have B0 := (Below.refl w.heap.size w).alloc (Nat.le_refl _) (.cells #[.int .i64 cl, .slice ad N cap, .slice ga gn gc, .slice sa sn sc] 26)
  by_cases hc : ln ≤ 100
  · have hc' : decide (100 < (ln : Int)) = false := by simp; omega
    have HC : Hid (logB cl N ln fs = fs.all (lgOk cl N)) := by show _ = _; simp [logB, hc]
    go_enter Tryz.func66, Tryz.ntmps66
    go_wp2_with fail
    obtain ⟨W0, hW0⟩ : ∃ W, W = w.alloc (.cells #[.int .i64 cl, .slice ad N cap, .slice ga gn gc, .slice sa sn sc] 26) := ⟨_, rfl⟩
    rw [← hW0] at B0 q0 ⊢
    clear hW0
    go_loopw [5] (fun i wr => ∃ k : Nat, k ≤ ln ∧ i = .int .i64 k ∧ Below W0.heap.size W0 wr ∧ Hid ((fs.take k).all (lgOk cl N) = true)) (fun i _ => ln - (intOf i).toNat)
    case atStart => exact ⟨0, Nat.zero_le _, rfl, Below.refl _ _, rfl⟩
    case round =>
      obtain ⟨k, hk, rfl, hb0, HA⟩ := hrel
      have hb := B0.trans (hb0.mono B0.size)
      by_cases hlt : k < ln
      · obtain ⟨b, off, rfl, hc, hr⟩ := (hF.below hb) k (by rw [HN.out]; exact hlt)
        generalize HG : fs[k]?.getD noLg = g at *
        have HG' : Hid (fs[k]?.getD noLg = g) := HG
        clear HG hF
        obtain ⟨e0, e1, e2, e3, e4, e5⟩ := cellsLg hc
        obtain ⟨gx, gq, gc', ⟨gta, gtn, gtc, gtx⟩, ge, ⟨gua, gun, guc, gux⟩⟩ := g
        have hIt : Ints wr gta gtn gtx := hr.1.1
        have hzt : gtn ≤ 1048576 := hr.1.2
        have hIu : Ints wr gua gun gux := hr.2.1.1
        have hzu : gun ≤ 1048576 := hr.2.1.2
        have hlt' : (k : Int) < (ln : Int) := by omega
        have q1 := q0.below hb0
        have KP : Hid (∀ W, Below wr.heap.size wr W → (W.cell? ⟨w.heap.size, 0, none⟩ = some (.int .i64 cl) ∧ W.cell? ⟨w.heap.size, 1, none⟩ = some (.slice ad N cap) ∧ W.cell? ⟨w.heap.size, 2, none⟩ = some (.slice ga gn gc) ∧ W.cell? ⟨w.heap.size, 3, none⟩ = some (.slice sa sn sc)) ∧ W.cell? ⟨b, off + k * 6, none⟩ = some (.int .i64 gx) ∧ W.cell? ⟨b, off + k * 6 + 1, none⟩ = some (.int .i64 gq) ∧ W.cell? ⟨b, off + k * 6 + 2, none⟩ = some (.int .i64 gc') ∧ W.cell? ⟨b, off + k * 6 + 3, none⟩ = some (.slice gta gtn gtc) ∧ W.cell? ⟨b, off + k * 6 + 4, none⟩ = some (.int .i64 ge) ∧ W.cell? ⟨b, off + k * 6 + 5, none⟩ = some (.slice gua gun guc)) := fun W hW => ⟨(q1.below hW).quadC, (hW.cell (p := ⟨b, off + k * 6, none⟩) (block_lt e0)).trans e0, (hW.cell (p := ⟨b, off + k * 6 + 1, none⟩) (block_lt e1)).trans e1, (hW.cell (p := ⟨b, off + k * 6 + 2, none⟩) (block_lt e2)).trans e2, (hW.cell (p := ⟨b, off + k * 6 + 3, none⟩) (block_lt e3)).trans e3, (hW.cell (p := ⟨b, off + k * 6 + 4, none⟩) (block_lt e4)).trans e4, (hW.cell (p := ⟨b, off + k * 6 + 5, none⟩) (block_lt e5)).trans e5⟩
        have OK : Hid (lgOk cl N (fs[k]?.getD noLg) = (inCallB cl N gx gq gc' gtn gtx && fullB (resText ge gun gux))) := by show _ = _; rw [HG'.out]; rfl
        have NO : Hid ((inCallB cl N gx gq gc' gtn gtx && fullB (resText ge gun gux)) = false → logB cl N ln fs = false) := fun hd => by rw [HC.out, lgs_no (by rw [HN.out]; exact hlt) (by rw [OK.out]; exact hd)]
        have YES : Hid ((inCallB cl N gx gq gc' gtn gtx && fullB (resText ge gun gux)) = true → (fs.take (k + 1)).all (lgOk cl N) = true) := fun hd => lgs_step (by rw [HN.out]; exact hlt) HA.out (by rw [OK.out]; exact hd)
        have hSS := And.intro (KP.out _ (Below.refl _ _).drew) True.intro
        obtain ⟨x, hx⟩ : ∃ x, x = inCallB cl N gx gq gc' gtn gtx := ⟨_, rfl⟩
        obtain ⟨y, hy⟩ : ∃ y, y = fullB (resText ge gun gux) := ⟨_, rfl⟩
        have HX : Hid _ := hx
        have HY : Hid _ := hy
        rw [← hx, ← hy] at NO YES
        clear hx hy e0 e1 e2 e3 e4 e5 hc hr OK
        go_upto_region 6 with fail
        refine wp_region_ends (fun w' => (w'.cell? ⟨w.heap.size, 0, none⟩ = some (.int .i64 cl) ∧ w'.cell? ⟨w.heap.size, 1, none⟩ = some (.slice ad N cap) ∧ w'.cell? ⟨w.heap.size, 2, none⟩ = some (.slice ga gn gc) ∧ w'.cell? ⟨w.heap.size, 3, none⟩ = some (.slice sa sn sc)) ∧ w'.cell? ⟨b, off + k * 6, none⟩ = some (.int .i64 gx) ∧ w'.cell? ⟨b, off + k * 6 + 1, none⟩ = some (.int .i64 gq) ∧ w'.cell? ⟨b, off + k * 6 + 2, none⟩ = some (.int .i64 gc') ∧ w'.cell? ⟨b, off + k * 6 + 3, none⟩ = some (.slice gta gtn gtc) ∧ w'.cell? ⟨b, off + k * 6 + 4, none⟩ = some (.int .i64 ge) ∧ w'.cell? ⟨b, off + k * 6 + 5, none⟩ = some (.slice gua gun guc)) (fun _ => True) 16 (by kernel_rfl) ?_
        cases x
        · skip
          refine wpAnyE_take0 (i := 0) (v := ?av0) rfl (by kernel_rfl) (by kernel_rfl) (by kernel_rfl) (by decide) (fun _ _ _ h => h) (Or.inl ⟨by rfl, ?ahy0⟩) hSS ?_
          case ahy0 => (intro wz hSw; (try dsimp only at hSw); go_simp; try (with_reducible rfl))
          refine wpAnyE_take0 (i := 1) (v := ?av1) rfl (by kernel_rfl) (by kernel_rfl) (by kernel_rfl) (by decide) (fun _ _ _ h => h) (Or.inl ⟨by rfl, ?ahy1⟩) hSS ?_
          case ahy1 => (intro wz hSw; (try dsimp only at hSw); go_simp; try (with_reducible rfl))
          refine wpAnyE_take0 (i := 2) (v := ?av2) rfl (by kernel_rfl) (by kernel_rfl) (by kernel_rfl) (by decide) (fun _ _ _ h => h) (Or.inl ⟨by rfl, ?ahy2⟩) hSS ?_
          case ahy2 => (intro wz hSw; (try dsimp only at hSw); go_simp; try (with_reducible rfl))
          refine wpAnyE_take0 (i := 3) (v := ?av3) rfl (by kernel_rfl) (by kernel_rfl) (by kernel_rfl) (by decide) (fun _ _ _ h => h) (Or.inl ⟨by rfl, ?ahy3⟩) hSS ?_
          case ahy3 => (intro wz hSw; (try dsimp only at hSw); go_simp; try (with_reducible rfl))
          simp only [Act.put, List.setIfInBounds_toArray, List.set_cons_succ, List.set_cons_zero, List.getElem_toArray, List.getElem_cons_succ, List.getElem_cons_zero]
          refine wpAnyE_take0 (i := 4) (v := ?av4) rfl (by kernel_rfl) (by kernel_rfl) (by kernel_rfl) (by decide) (fun _ _ _ h => h) (Or.inl ⟨by rfl, ?ahy4⟩) hSS ?_
          case ahy4 => (intro wz hSw; (try dsimp only at hSw); go_simp; try (with_reducible rfl))
          refine wpAnyE_take0 (i := 5) (v := ?av5) rfl (by kernel_rfl) (by kernel_rfl) (by kernel_rfl) (by decide) (fun _ _ _ h => h) (Or.inl ⟨by rfl, ?ahy5⟩) hSS ?_
          case ahy5 => (intro wz hSw; (try dsimp only at hSw); go_simp; try (with_reducible rfl))
          refine wpAnyE_one (i := 6) (by kernel_rfl) rfl (fun K hK => ?_)
          go_simp
          refine (l6call_any _ _ _ _ _ _ _ _ _ _ _ _ _ _ _ _ gtx _ (hIt.below (Below.refl _ _).drew) hzt H1.out H2.out).mono ?_
          rintro ee w1 ⟨rfl, bd1⟩
          rw [← HX.out]
          have b1 := below_of_drew bd1
          (try dsimp only)
          replace hSS := And.intro (KP.out w1 b1) True.intro
          refine hK.out _ _ ⟨hSS.1, fun _ => trivial⟩ ?_
          clear hK K
          refine wpAnyE_take0 (i := 7) (v := ?av7) rfl (by kernel_rfl) (by kernel_rfl) (by kernel_rfl) (by decide) (fun _ _ _ h => h) (Or.inl ⟨by rfl, ?ahy7⟩) hSS ?_
          case ahy7 => (intro wz hSw; (try dsimp only at hSw); go_simp; try (with_reducible rfl))
          refine wpAnyE_take0 (i := 8) (v := ?av8) rfl (by kernel_rfl) (by kernel_rfl) (by kernel_rfl) (by decide) (fun _ _ _ h => h) (Or.inl ⟨by rfl, ?ahy8⟩) hSS ?_
          case ahy8 => (intro wz hSw; (try dsimp only at hSw); go_simp; try (with_reducible rfl))
          refine wpAnyE_take0 (i := 9) (v := undef) rfl (by kernel_rfl) (by kernel_rfl) (by kernel_rfl) (by decide) (fun _ _ _ h => h) (Or.inr ⟨by kernel_rfl, rfl⟩) hSS ?_
          refine wpAnyE_take0 (i := 10) (v := undef) rfl (by kernel_rfl) (by kernel_rfl) (by kernel_rfl) (by decide) (fun _ _ _ h => h) (Or.inr ⟨by kernel_rfl, rfl⟩) hSS ?_
          simp only [Act.put, List.setIfInBounds_toArray, List.set_cons_succ, List.set_cons_zero, List.getElem_toArray, List.getElem_cons_succ, List.getElem_cons_zero]
          refine wpAnyE_take0 (i := 11) (v := undef) rfl (by kernel_rfl) (by kernel_rfl) (by kernel_rfl) (by decide) (fun _ _ _ h => h) (Or.inr ⟨by kernel_rfl, rfl⟩) hSS ?_
          refine wpAnyE_take0 (i := 12) (v := undef) rfl (by kernel_rfl) (by kernel_rfl) (by kernel_rfl) (by decide) (fun _ _ _ h => h) (Or.inr ⟨by kernel_rfl, rfl⟩) hSS ?_
          refine wpAnyE_take0 (i := 13) (v := undef) rfl (by kernel_rfl) (by kernel_rfl) (by kernel_rfl) (by decide) (fun _ _ _ h => h) (Or.inr ⟨by kernel_rfl, rfl⟩) hSS ?_
          refine wpAnyE_take0 (i := 14) (v := undef) rfl (by kernel_rfl) (by kernel_rfl) (by kernel_rfl) (by decide) (fun _ _ _ h => h) (Or.inr ⟨by kernel_rfl, rfl⟩) hSS ?_
          simp only [Act.put, List.setIfInBounds_toArray, List.set_cons_succ, List.set_cons_zero, List.getElem_toArray, List.getElem_cons_succ, List.getElem_cons_zero]
          refine wpAnyE_take0 (i := 15) (v := undef) rfl (by kernel_rfl) (by kernel_rfl) (by kernel_rfl) (by decide) (fun _ _ _ h => h) (Or.inr ⟨by kernel_rfl, rfl⟩) hSS ?_
          refine wpAnyE_one (i := 16) (by kernel_rfl) rfl (fun K hK => ?_)
          go_simp
          refine hK.out _ _ ⟨hSS.1, fun _ => trivial⟩ ?_
          clear hK K
          refine wpAnyE_done (by kernel_rfl) ?_ _
          clear hSS
          go_wp2
          go_ret
          exact ⟨ret_bool (by rw [NO.out rfl]), hb.trans (b1.mono hb.size)⟩
        · skip
          refine wpAnyE_take0 (i := 0) (v := ?bv0) rfl (by kernel_rfl) (by kernel_rfl) (by kernel_rfl) (by decide) (fun _ _ _ h => h) (Or.inl ⟨by rfl, ?bhy0⟩) hSS ?_
          case bhy0 => (intro wz hSw; (try dsimp only at hSw); go_simp; try (with_reducible rfl))
          refine wpAnyE_take0 (i := 1) (v := ?bv1) rfl (by kernel_rfl) (by kernel_rfl) (by kernel_rfl) (by decide) (fun _ _ _ h => h) (Or.inl ⟨by rfl, ?bhy1⟩) hSS ?_
          case bhy1 => (intro wz hSw; (try dsimp only at hSw); go_simp; try (with_reducible rfl))
          refine wpAnyE_take0 (i := 2) (v := ?bv2) rfl (by kernel_rfl) (by kernel_rfl) (by kernel_rfl) (by decide) (fun _ _ _ h => h) (Or.inl ⟨by rfl, ?bhy2⟩) hSS ?_
          case bhy2 => (intro wz hSw; (try dsimp only at hSw); go_simp; try (with_reducible rfl))
          refine wpAnyE_take0 (i := 3) (v := ?bv3) rfl (by kernel_rfl) (by kernel_rfl) (by kernel_rfl) (by decide) (fun _ _ _ h => h) (Or.inl ⟨by rfl, ?bhy3⟩) hSS ?_
          case bhy3 => (intro wz hSw; (try dsimp only at hSw); go_simp; try (with_reducible rfl))
          simp only [Act.put, List.setIfInBounds_toArray, List.set_cons_succ, List.set_cons_zero, List.getElem_toArray, List.getElem_cons_succ, List.getElem_cons_zero]
          refine wpAnyE_take0 (i := 4) (v := ?bv4) rfl (by kernel_rfl) (by kernel_rfl) (by kernel_rfl) (by decide) (fun _ _ _ h => h) (Or.inl ⟨by rfl, ?bhy4⟩) hSS ?_
          case bhy4 => (intro wz hSw; (try dsimp only at hSw); go_simp; try (with_reducible rfl))
          refine wpAnyE_take0 (i := 5) (v := ?bv5) rfl (by kernel_rfl) (by kernel_rfl) (by kernel_rfl) (by decide) (fun _ _ _ h => h) (Or.inl ⟨by rfl, ?bhy5⟩) hSS ?_
          case bhy5 => (intro wz hSw; (try dsimp only at hSw); go_simp; try (with_reducible rfl))
          refine wpAnyE_one (i := 6) (by kernel_rfl) rfl (fun K hK => ?_)
          go_simp
          refine (l6call_any _ _ _ _ _ _ _ _ _ _ _ _ _ _ _ _ gtx _ (hIt.below (Below.refl _ _).drew) hzt H1.out H2.out).mono ?_
          rintro ee w1 ⟨rfl, bd1⟩
          rw [← HX.out]
          have b1 := below_of_drew bd1
          (try dsimp only)
          replace hSS := And.intro (KP.out w1 b1) True.intro
          refine hK.out _ _ ⟨hSS.1, fun _ => trivial⟩ ?_
          clear hK K
          refine wpAnyE_take0 (i := 7) (v := ?bv7) rfl (by kernel_rfl) (by kernel_rfl) (by kernel_rfl) (by decide) (fun _ _ _ h => h) (Or.inl ⟨by rfl, ?bhy7⟩) hSS ?_
          case bhy7 => (intro wz hSw; (try dsimp only at hSw); go_simp; try (with_reducible rfl))
          refine wpAnyE_take0 (i := 8) (v := ?bv8) rfl (by kernel_rfl) (by kernel_rfl) (by kernel_rfl) (by decide) (fun _ _ _ h => h) (Or.inl ⟨by rfl, ?bhy8⟩) hSS ?_
          case bhy8 => (intro wz hSw; (try dsimp only at hSw); go_simp; try (with_reducible rfl))
          refine wpAnyE_take0 (i := 9) (v := ?bv9) rfl (by kernel_rfl) (by kernel_rfl) (by kernel_rfl) (by decide) (fun _ _ _ h => h) (Or.inl ⟨by rfl, ?bhy9⟩) hSS ?_
          case bhy9 => (intro wz hSw; (try dsimp only at hSw); go_simp; try (with_reducible rfl))
          refine wpAnyE_take0 (i := 10) (v := ?bv10) rfl (by kernel_rfl) (by kernel_rfl) (by kernel_rfl) (by decide) (fun _ _ _ h => h) (Or.inl ⟨by rfl, ?bhy10⟩) hSS ?_
          case bhy10 => (intro wz hSw; (try dsimp only at hSw); go_simp; try (with_reducible rfl))
          simp only [Act.put, List.setIfInBounds_toArray, List.set_cons_succ, List.set_cons_zero, List.getElem_toArray, List.getElem_cons_succ, List.getElem_cons_zero]
          refine wpAnyE_take0 (i := 11) (v := ?bv11) rfl (by kernel_rfl) (by kernel_rfl) (by kernel_rfl) (by decide) (fun _ _ _ h => h) (Or.inl ⟨by rfl, ?bhy11⟩) hSS ?_
          case bhy11 => (intro wz hSw; (try dsimp only at hSw); go_simp; try (with_reducible rfl))
          refine wpAnyE_take0 (i := 12) (v := ?bv12) rfl (by kernel_rfl) (by kernel_rfl) (by kernel_rfl) (by decide) (fun _ _ _ h => h) (Or.inl ⟨by rfl, ?bhy12⟩) hSS ?_
          case bhy12 => (intro wz hSw; (try dsimp only at hSw); go_simp; try (with_reducible rfl))
          refine wpAnyE_take0 (i := 13) (v := ?bv13) rfl (by kernel_rfl) (by kernel_rfl) (by kernel_rfl) (by decide) (fun _ _ _ h => h) (Or.inl ⟨by rfl, ?bhy13⟩) hSS ?_
          case bhy13 => (intro wz hSw; (try dsimp only at hSw); go_simp; try (with_reducible rfl))
          refine wpAnyE_one (i := 14) (by kernel_rfl) rfl (fun K hK => ?_)
          go_simp
          refine (sresok_any _ _ _ _ gux _ (hIu.below b1) hzu).mono ?_
          rintro ee w2 ⟨rfl, b2⟩
          rw [← HY.out]
          have b2' := b1.trans (b2.mono b1.size)
          (try dsimp only)
          replace hSS := And.intro (KP.out w2 b2') True.intro
          refine hK.out _ _ ⟨hSS.1, fun _ => trivial⟩ ?_
          clear hK K
          refine wpAnyE_take0 (i := 15) (v := ?bv15) rfl (by kernel_rfl) (by kernel_rfl) (by kernel_rfl) (by decide) (fun _ _ _ h => h) (Or.inl ⟨by rfl, ?bhy15⟩) hSS ?_
          case bhy15 => (intro wz hSw; (try dsimp only at hSw); go_simp; try (with_reducible rfl))
          refine wpAnyE_one (i := 16) (by kernel_rfl) rfl (fun K hK => ?_)
          go_simp
          refine hK.out _ _ ⟨hSS.1, fun _ => trivial⟩ ?_
          clear hK K
          refine wpAnyE_done (by kernel_rfl) ?_ _
          clear hSS
          cases y
          · go_wp2
            go_ret
            exact ⟨ret_bool (by rw [NO.out rfl]), hb.trans (b2'.mono hb.size)⟩
          · go_wp2
            go_roundw
            case rel => exact ⟨k + 1, by omega, by go_num, hb0.trans (b2'.mono hb0.size), YES.out rfl⟩
            case measure => simp [intOf]; omega
      · obtain rfl : k = ln := by omega
        have HE : Hid (logB cl N k fs = true) := by
          show _ = _
          have h := HA.out
          rw [List.take_of_length_le (by rw [HN.out]; exact Nat.le_refl _)] at h
          rw [HC.out, h]
        go_wp2
        go_ret
        exact ⟨ret_bool (by rw [HE.out]), hb⟩
  · have hc' : decide (100 < (ln : Int)) = true := by simp; omega
    have HC : Hid (logB cl N ln fs = false) := by show _ = _; simp [logB, hc]
    go_enter Tryz.func66, Tryz.ntmps66
    go_wp2
    go_ret
    exact ⟨ret_bool (by rw [HC.out]), B0⟩

set_option maxHeartbeats 6400000 in
theorem ilogf_any (cl : Int) (ad : Option Addr) (N cap : Nat) (ga : Option Addr) (gn gc : Nat) (sa : Option Addr) (sn sc : Nat) (ss : List L2V) (G S : List Int) (P : Nat) (i x q c : Int) (ta : Option Addr) (tn tc : Nat) (tx : List Int) (e : Int) (ua : Option Addr) (un uc : Nat) (ux : List Int) (w : World) (hP : Cel w P [.int .i64 cl, .slice ad N cap, .slice ga gn gc, .slice sa sn sc] 26) (hA : PlAt w ad N ss ga gn G sa sn S) (hI : Ints w ta tn tx) (hz : tn ≤ 1048576) (hI' : Ints w ua un ux) (hz' : un ≤ 1048576) (hT : Lib.TabBelow Tryz.prog w.heap.size w "internal/strconv.uint64pow10" .u64 Lib.pow10Tab) :
    Calls Tryz.prog 105 #[.int .i64 i, lgV x q c ta tn tc e ua un uc, .pointer (some ⟨P, 0, none⟩)] w fun r w' => r = .returned (.bool ((plnB cl N ss gn G sn S && inCallB cl N x q c tn tx) && fullB (resText e un ux))) ∧ Below w.heap.size w w' := by
  have HT : Hid _ := hT
  clear hT
  have n0 := Cel.new w [.int .i64 x, .int .i64 q, .int .i64 c, .slice ta tn tc, .int .i64 e, .slice ua un uc] 61
  have B0 := (Below.refl w.heap.size w).alloc (Nat.le_refl _) (.cells #[.int .i64 x, .int .i64 q, .int .i64 c, .slice ta tn tc, .int .i64 e, .slice ua un uc] 61)
  obtain ⟨X, hx⟩ : ∃ X, X = (plnB cl N ss gn G sn S && inCallB cl N x q c tn tx) := ⟨_, rfl⟩
  obtain ⟨Y, hy⟩ : ∃ Y, Y = fullB (resText e un ux) := ⟨_, rfl⟩
  have HX : Hid _ := hx
  have HY : Hid _ := hy
  rw [← hx, ← hy]
  clear hx hy
  have hP0 := hP.below B0
  have hA0 := hA.below B0
  have hI0 := hI.below B0
  have hJ0 := hI'.below B0
  clear hP hA hI hI'
  go_enter Tryz.func105, Tryz.ntmps105
  go_upto_region 1 with fail
  obtain ⟨W0, hW0⟩ : ∃ W, W = w.alloc (.cells #[.int .i64 x, .int .i64 q, .int .i64 c, .slice ta tn tc, .int .i64 e, .slice ua un uc] 61) := ⟨_, rfl⟩
  rw [← hW0] at n0 B0 hP0 hA0 hI0 hJ0 ⊢
  clear hW0
  obtain ⟨p0, p1, p2, p3⟩ := hP0.quadC
  obtain ⟨c0, c1, c2, c3, c4, c5⟩ := n0.sixL
  go_wp2_with fail
  refine (icallok_any _ _ _ _ ss _ _ _ G _ _ _ S _ _ _ _ _ _ tx _ hA0 hI0 hz (fun w' h' => HT.out w' (B0.trans (h'.mono B0.size)))).mono ?_
  rintro ee w1 ⟨rfl, b1⟩
  rw [← HX.out]
  have n1 := n0.below b1
  have B1 := B0.trans (b1.mono B0.size)
  clear p0 p1 p2 p3 c0 c1 c2 c3 c4 c5
  cases X
  · go_wp2
    go_ret
    exact ⟨ret_bool rfl, B1⟩
  · obtain ⟨c0, c1, c2, c3, c4, c5⟩ := n1.sixL
    go_wp2_with fail
    refine (iresok_any _ _ _ _ ux _ (hJ0.below b1) hz' (fun w' h' => HT.out w' (B1.trans (h'.mono B1.size)))).mono ?_
    rintro ee w2 ⟨rfl, b2⟩
    rw [← HY.out]
    have B2 := B1.trans (b2.mono B1.size)
    clear c0 c1 c2 c3 c4 c5
    cases Y
    · go_wp2
      go_ret
      exact ⟨ret_bool rfl, B2⟩
    · go_wp2
      go_ret
      exact ⟨ret_bool rfl, B2⟩

set_option maxHeartbeats 6400000 in
theorem iallLg_any (cl : Int) (ad : Option Addr) (N cap : Nat) (ga : Option Addr) (gn gc : Nat) (sa : Option Addr) (sn sc : Nat) (ss : List L2V) (G S : List Int) (P : Nat) (la : Option Addr) (ln lc : Nat) (fs : List LgV) (w : World) (hP : Cel w P [.int .i64 cl, .slice ad N cap, .slice ga gn gc, .slice sa sn sc] 26) (hA : PlAt w ad N ss ga gn G sa sn S) (hN : fs.length = ln) (hF : LgSG w la fs) (hz : ln ≤ 1048576) (hT : Lib.TabBelow Tryz.prog w.heap.size w "internal/strconv.uint64pow10" .u64 Lib.pow10Tab) (hp : plnB cl N ss gn G sn S = true) :
    Calls Tryz.prog 104 #[.slice la ln lc, .func (.func 105) #[] #[.pointer (some ⟨P, 0, none⟩)]] w fun r w' => r = .returned (.bool (fs.all (lgOk cl N))) ∧ Below w.heap.size w w' := by
  have HT : Hid _ := hT
  have HN : Hid (fs.length = ln) := hN
  have HP : Hid _ := hp
  have HPC : Hid (Cel w P [.int .i64 cl, .slice ad N cap, .slice ga gn gc, .slice sa sn sc] 26) := hP
  have HPA : Hid _ := hA
  clear hT hN hp hP hA
  go_enter Tryz.func104, Tryz.ntmps104
  go_wp2_with fail
  go_loopw [5, 6, 9] (fun _ _ i wr => ∃ k : Nat, k ≤ ln ∧ i = .int .i64 k ∧ Below w.heap.size w wr ∧ Hid ((fs.take k).all (lgOk cl N) = true)) (fun _ _ i _ => ln - (intOf i).toNat)
  case atStart => exact ⟨0, Nat.zero_le _, rfl, Below.refl _ _, rfl⟩
  case round =>
    obtain ⟨k, hk, rfl, hb, HA⟩ := hrel
    by_cases hlt : k < ln
    · obtain ⟨b, off, rfl, hc, hr⟩ := (hF.below hb) k (by rw [HN.out]; exact hlt)
      generalize HG : fs[k]?.getD noLg = g at *
      have HG' : Hid (fs[k]?.getD noLg = g) := HG
      clear HG hF
      obtain ⟨e0, e1, e2, e3, e4, e5⟩ := cellsLg hc
      obtain ⟨gx, gq, gc', ⟨gta, gtn, gtc, gtx⟩, ge, ⟨gua, gun, guc, gux⟩⟩ := g
      have e0' : wr.cell? ⟨b, off + k * 6, none⟩ = some (.int .i64 gx) := e0
      have e1' : wr.cell? ⟨b, off + k * 6 + 1, none⟩ = some (.int .i64 gq) := e1
      have e2' : wr.cell? ⟨b, off + k * 6 + 2, none⟩ = some (.int .i64 gc') := e2
      have e3' : wr.cell? ⟨b, off + k * 6 + 3, none⟩ = some (.slice gta gtn gtc) := e3
      have e4' : wr.cell? ⟨b, off + k * 6 + 4, none⟩ = some (.int .i64 ge) := e4
      have e5' : wr.cell? ⟨b, off + k * 6 + 5, none⟩ = some (.slice gua gun guc) := e5
      have hIt : Ints wr gta gtn gtx := hr.1.1
      have hzt : gtn ≤ 1048576 := hr.1.2
      have hIu : Ints wr gua gun gux := hr.2.1.1
      have hzu : gun ≤ 1048576 := hr.2.1.2
      have hlt' : (k : Int) < (ln : Int) := by omega
      have OK : Hid (lgOk cl N (fs[k]?.getD noLg) = (inCallB cl N gx gq gc' gtn gtx && fullB (resText ge gun gux))) := by show _ = _; rw [HG'.out]; rfl
      have NO : Hid ((inCallB cl N gx gq gc' gtn gtx && fullB (resText ge gun gux)) = false → fs.all (lgOk cl N) = false) := fun hd => lgs_no (by rw [HN.out]; exact hlt) (by rw [OK.out]; exact hd)
      have YES : Hid ((inCallB cl N gx gq gc' gtn gtx && fullB (resText ge gun gux)) = true → (fs.take (k + 1)).all (lgOk cl N) = true) := fun hd => lgs_step (by rw [HN.out]; exact hlt) HA.out (by rw [OK.out]; exact hd)
      obtain ⟨y, hy⟩ : ∃ y, y = (inCallB cl N gx gq gc' gtn gtx && fullB (resText ge gun gux)) := ⟨_, rfl⟩
      have HY : Hid (y = (inCallB cl N gx gq gc' gtn gtx && fullB (resText ge gun gux))) := hy
      rw [← hy] at NO YES
      obtain ⟨WA, hWA⟩ : ∃ W, W = wr.alloc (.cells #[.int .i64 gx, .int .i64 gq, .int .i64 gc', .slice gta gtn gtc, .int .i64 ge, .slice gua gun guc] 61) := ⟨_, rfl⟩
      have A1 : Below wr.heap.size wr WA := by rw [hWA]; exact (Below.refl _ _).alloc (Nat.le_refl _) _
      have pA : Cel WA wr.heap.size [.int .i64 gx, .int .i64 gq, .int .i64 gc', .slice gta gtn gtc, .int .i64 ge, .slice gua gun guc] 61 := by rw [hWA]; exact Cel.new wr _ _
      have bA := hb.trans (A1.mono hb.size)
      clear hy e0 e1 e2 e3 e4 e5 hc hr OK
      go_upto_region 4 with fail
      rw [← hWA]
      obtain ⟨q0, q1, q2, q3, q4, q5⟩ := pA.sixL
      clear hWA e0' e1' e2' e3' e4' e5'
      go_wp2_with fail
      refine (ilogf_any _ _ _ _ _ _ _ _ _ _ ss G S _ _ _ _ _ _ _ _ gtx _ _ _ _ gux _ (HPC.out.below bA) (HPA.out.below bA) (hIt.below A1) hzt (hIu.below A1) hzu (fun w' h' => HT.out w' (bA.trans (h'.mono bA.size)))).mono ?_
      rintro ee w1 ⟨rfl, b1⟩
      rw [HP.out, Bool.true_and, ← HY.out]
      have hb1 := bA.trans (b1.mono bA.size)
      clear q0 q1 q2 q3 q4 q5
      cases y
      · go_wp2
        go_ret
        exact ⟨ret_bool (by rw [NO.out (by trivial)]), hb1⟩
      · go_wp2
        go_roundw
        case rel => exact ⟨k + 1, by omega, by go_num, hb1, YES.out (by trivial)⟩
        case measure => simp [intOf]; omega
    · obtain rfl : k = ln := by omega
      have HE : Hid (fs.all (lgOk cl N) = true) := by
        show _ = _
        have h := HA.out
        rw [List.take_of_length_le (by rw [HN.out]; exact Nat.le_refl _)] at h
        exact h
      go_wp2
      go_ret
      exact ⟨ret_bool (by rw [HE.out]), hb⟩

set_option maxHeartbeats 3200000 in
theorem ilog_any (cl : Int) (ad : Option Addr) (N cap : Nat) (ga : Option Addr) (gn gc : Nat) (sa : Option Addr) (sn sc : Nat) (ss : List L2V) (G S : List Int) (la : Option Addr) (ln lc : Nat) (fs : List LgV) (w : World) (hA : PlAt w ad N ss ga gn G sa sn S) (hN : fs.length = ln) (hF : LgSG w la fs) (hz : ln ≤ 1048576) (hT : Lib.TabBelow Tryz.prog w.heap.size w "internal/strconv.uint64pow10" .u64 Lib.pow10Tab) (hp : plnB cl N ss gn G sn S = true) :
    Calls Tryz.prog 64 #[plV cl ad N cap ga gn gc sa sn sc, .slice la ln lc] w fun r w' => r = .returned (.bool (logB cl N ln fs)) ∧ Below w.heap.size w w' := by
  have HT : Hid _ := hT
  have HN : Hid (fs.length = ln) := hN
  have HP : Hid _ := hp
  clear hT hN hp
  have q0 := Cel.new w [.int .i64 cl, .slice ad N cap, .slice ga gn gc, .slice sa sn sc] 26
  have B0 := (Below.refl w.heap.size w).alloc (Nat.le_refl _) (.cells #[.int .i64 cl, .slice ad N cap, .slice ga gn gc, .slice sa sn sc] 26)
  by_cases hc : ln ≤ 100
  · have hc' : decide ((ln : Int) ≤ 100) = true := by simp; omega
    have HC : Hid (logB cl N ln fs = fs.all (lgOk cl N)) := by show _ = _; simp [logB, hc]
    go_enter Tryz.func64, Tryz.ntmps64
    go_wp2_with fail
    refine (iallLg_any _ _ _ _ _ _ _ _ _ _ ss G S _ _ _ _ fs _ q0 (hA.below B0) HN.out (hF.below B0) hz (fun w' h' => HT.out w' (B0.trans (h'.mono B0.size))) HP.out).mono ?_
    rintro ee w1 ⟨rfl, b1⟩
    have B1 := B0.trans (b1.mono B0.size)
    go_wp2
    go_ret
    exact ⟨ret_bool (by rw [HC.out]), B1⟩
  · have hc' : decide ((ln : Int) ≤ 100) = false := by simp; omega
    have HC : Hid (logB cl N ln fs = false) := by show _ = _; simp [logB, hc]
    go_enter Tryz.func64, Tryz.ntmps64
    go_wp2
    go_ret
    exact ⟨ret_bool (by rw [HC.out]), B0⟩

end Go.Proofs.YtpmihhbgjimpmaaGreatDoor
namespace Go.Proofs.YtpmihhbgjimpmaaGreatDoor
open Go.RowKit
set_option linter.unusedVariables false
set_option maxRecDepth 100000

theorem Touch.ofB {B : Nat} {w w' : World} (h : Below B w w') (hs : w.heap.size ≤ w'.heap.size) : Touch (fun x => B ≤ x) w w' := ⟨h.os, h.tape, h.output, hs, fun k hk hn => h.block k (by omega)⟩

set_option maxHeartbeats 1600000 in
theorem wp_copyI {o : Oper} {a : Act} {K : Act → World → Prop} {Q : Exit → Act → World → Prop} {W : World} (s x : Operand) (ho : o.op = .call { callee := .builtin .append, args := #[s, x], argTypes := #[24, 24] }) (base L B n cap : Nat) (zs : List Int)
    (hs : a.eval s = .slice (some ⟨L, 0, none⟩) 0 0) (hown : W.ownsRow base 3 1 (.slice (some ⟨L, 0, none⟩) 0 0) 0 []) (hx : a.eval x = .slice (some ⟨B, 0, none⟩) n cap) (hb : Blk W B zs) (hl : zs.length = n) (hn : n ≤ 1048576) (hbase : base ≤ W.heap.size) (hL : base ≤ L)
    (h : ∀ a' cap' B' W1, Below base W W1 → Touch (fun z => z = L) W W1 → OwnX W1 a' B' n zs → (0 < n → base ≤ B' ∧ (B' = L ∨ W.heap.size ≤ B')) → K (a.put o.dst (.slice a' n cap')) W1) : o.wp Tryz.prog a W K Q := by
  by_cases h0 : 0 < n
  · obtain ⟨i0, hi, hz0, hz1, hz2⟩ := info_parts Tryz.infoInt
    have hcl : ∀ i, i < n → W.cell? ⟨B, 0 + i, none⟩ = some (.int .i64 (zs.getD i 0)) := fun i hi => by rw [Nat.zero_add]; exact hb.cell i (by omega)
    refine wp_append_lies _ s x 24 ho base 3 i0 (.int .i64 0) 1 8 Tryz.underlying24 hi hz0 hz1 hz2 rfl (by omega) _ 0 [] hs hown ⟨B, 0, none⟩ n cap (zs.map (Value.int .i64)) hx (by rw [List.length_map, hl, Nat.mul_one]) (newsI hcl hl) (oneI _) h0 (by unfold maxLen; omega) (by omega) hbase _ rfl ?_
    intro g cp W1 ho1 hg hat hlt
    have hB : Below base W W1 := (Below.refl base W).grown hg hbase (fun z hz => by simp only [Value.ownBlock, Option.some.injEq] at hz; omega)
    simp only [Nat.zero_add]
    have hgb : base ≤ g ∧ (g = L ∨ W.heap.size ≤ g) := by
      rcases hat with e | e
      · simp only [Value.ownBlock, Option.some.injEq] at e; omega
      · omega
    refine h _ _ g W1 hB ⟨hB.os, hB.tape, hB.output, hB.size, fun C hC hne => ?_⟩ ?_ (fun _ => hgb)
    · rw [hg.block C hC (by simp only [Value.ownBlock]; intro e; simp only [Option.some.injEq] at e; exact hne e)]
    · rcases ho1.2 with ⟨hv, _⟩ | ⟨g', cap', cur, hv, hg', hh, hl', _, hs', ht⟩
      · simp at hv
      · simp only [Value.slice.injEq, Option.some.injEq, Addr.mk.injEq, and_true, true_and] at hv
        obtain ⟨rfl, rfl⟩ := hv
        refine ⟨hl, .inr ⟨rfl, cur.toList, by unfold Cel; simpa using hh, fun i hi => ?_⟩⟩
        have h1 : (cur.toList.take ((0 + n) * 1))[i]? = (zs.map (Value.int .i64))[i]? := by rw [ht]; rfl
        rw [List.getElem?_take, if_pos (by omega)] at h1
        rw [h1]
        have hi2 : i < zs.length := by omega
        simp [hi2]
  · obtain rfl : n = 0 := by omega
    have hzs : zs = [] := List.eq_nil_of_length_eq_zero hl
    subst hzs
    obtain ⟨dst, op, ty, pos, after, guard⟩ := o
    dsimp only at ho
    subst ho
    unfold Oper.wp execOp
    simp only [resolve, invoke, builtin, Sem.run_bind, Sem.run_pure, Result.andThen_ok, List.map_toArray, List.map_cons, List.map_nil, hs, hx]
    go_simp
    exact h _ _ 0 W (Below.refl _ _) (Touch.refl _ _) (OwnX.nil _ _ _) (fun h => absurd h (Nat.lt_irrefl _))

end Go.Proofs.YtpmihhbgjimpmaaGreatDoor
namespace Go.Proofs.YtpmihhbgjimpmaaGreatDoor
open Go.RowKit
set_option linter.unusedVariables false
set_option maxRecDepth 100000

set_option maxHeartbeats 1600000 in
theorem wp_copyN {o : Oper} {a : Act} {K : Act → World → Prop} {Q : Exit → Act → World → Prop} {W : World} (s x : Operand) (ho : o.op = .call { callee := .builtin .append, args := #[s, x], argTypes := #[24, 24] }) (base L : Nat) (ad : Option Addr) (n cap : Nat) (zs : List Int)
    (hs : a.eval s = .slice (some ⟨L, 0, none⟩) 0 0) (hown : W.ownsRow base 3 1 (.slice (some ⟨L, 0, none⟩) 0 0) 0 []) (hx : a.eval x = .slice ad n cap) (hb : Ints W ad n zs) (h0 : 0 < n) (hn : n ≤ 1048576) (hbase : base ≤ W.heap.size) (hL : base ≤ L)
    (h : ∀ cap' B' W1, Below base W W1 → Touch (fun z => z = L) W W1 → OwnX W1 (some ⟨B', 0, none⟩) B' n zs → base ≤ B' → (B' = L ∨ W.heap.size ≤ B') → K (a.put o.dst (.slice (some ⟨B', 0, none⟩) n cap')) W1) : o.wp Tryz.prog a W K Q := by
  obtain ⟨i0, hi, hz0, hz1, hz2⟩ := info_parts Tryz.infoInt
  obtain ⟨B, off, rfl, hcell⟩ := hb.pos h0
  have hl := hb.1
  have hcl : ∀ i, i < n → W.cell? ⟨B, off + i, none⟩ = some (.int .i64 (zs.getD i 0)) := fun i hi => by rw [hcell i hi]
  refine wp_append_lies _ s x 24 ho base 3 i0 (.int .i64 0) 1 8 Tryz.underlying24 hi hz0 hz1 hz2 rfl (by omega) _ 0 [] hs hown ⟨B, off, none⟩ n cap (zs.map (Value.int .i64)) hx (by rw [List.length_map, hl, Nat.mul_one]) (newsI hcl hl) (oneI _) h0 (by unfold maxLen; omega) (by omega) hbase _ rfl ?_
  intro g cp W1 ho1 hg hat hlt
  have hB : Below base W W1 := (Below.refl base W).grown hg hbase (fun z hz => by simp only [Value.ownBlock, Option.some.injEq] at hz; omega)
  simp only [Nat.zero_add]
  have hgb : base ≤ g ∧ (g = L ∨ W.heap.size ≤ g) := by
    rcases hat with e | e
    · simp only [Value.ownBlock, Option.some.injEq] at e; omega
    · omega
  refine h _ g W1 hB ⟨hB.os, hB.tape, hB.output, hB.size, fun C hC hne => ?_⟩ ?_ hgb.1 hgb.2
  · rw [hg.block C hC (by simp only [Value.ownBlock]; intro e; simp only [Option.some.injEq] at e; exact hne e)]
  · rcases ho1.2 with ⟨hv, _⟩ | ⟨g', cap', cur, hv, hg', hh, hl', _, hs', ht⟩
    · simp at hv
    · simp only [Value.slice.injEq, Option.some.injEq, Addr.mk.injEq, and_true, true_and] at hv
      obtain ⟨rfl, rfl⟩ := hv
      refine ⟨hl, .inr ⟨rfl, cur.toList, by unfold Cel; simpa using hh, fun i hi => ?_⟩⟩
      have h1 : (cur.toList.take ((0 + n) * 1))[i]? = (zs.map (Value.int .i64))[i]? := by rw [ht]; rfl
      rw [List.getElem?_take, if_pos (by omega)] at h1
      rw [h1]
      have hi2 : i < zs.length := by omega
      simp [hi2]

end Go.Proofs.YtpmihhbgjimpmaaGreatDoor
