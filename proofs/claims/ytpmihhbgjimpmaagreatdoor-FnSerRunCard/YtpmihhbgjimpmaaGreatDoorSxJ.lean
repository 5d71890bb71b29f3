/-
  Lemmas that the claim's last text rests on.
-/
import Derived.Lib.ItoaNum
import Derived.Lib.ItoaLen
import Derived.Laws.IdiomStrings
import Derived.Lib.Join
import Derived.Shelf.Strings.OnBuilder
import Derived.Shelf.LaysM
import Derived.Shelf.Strconv.Itoa3
import Derived.Test.YtpmihhbgjimpmaaGreatDoorProg
import Derived.Lib.AppendIntMem
import Derived.Test.YtpmihhbgjimpmaaGreatDoorSxI
namespace Go.Proofs.YtpmihhbgjimpmaaGreatDoor
open Go.RowKit Go.Deep Go.Shelf
open World renaming size_alloc → qA
open List renaming getElem?_eq_getElem → qB, getElem?_cons_zero → qC, getElem?_cons_succ → qD, length_append → qE, take_of_length_le → qF, length_cons → qG
open Nat renaming le_refl → qH, zero_le → qI
set_option linter.unusedVariables false
set_option maxRecDepth 100000
set_option maxHeartbeats 25600000
variable {W w : World} {c cl : Int} {k n : Nat} {v : Value} {xs : List ByteArray} {zs : List Int}
theorem one_ints (w : World) (x : Int) (t : TypeId) : Ints (w.alloc (.cells #[.int .i64 x] t)) (some ⟨w.heap.size, 0, none⟩) 1 [x] :=
 ⟨rfl, fun i hi => ⟨w.heap.size, 0, rfl, by
  obtain rfl : i = 0 := by omega
  simp [go_sem]⟩⟩
theorem bet_one (x lo hi : Int) : betB lo hi [x] = inB x lo hi := by simp [betB]
theorem pln_same {N : Nat} {ss : List L2V} {gn : Nat} {G : List Int} {sn : Nat} {S : List Int} : (betB 1 4 [cl] && (catB N ss && (allB 1000 S && trtB sn gn S G))) = plnB cl N ss gn G sn S := by
 rw [plnB, bet_one]
 by_cases h : (sn : Int) = 3
 ·rw [okN_is h]
 rw [trtB, okN_not h, okN_not h];simp
theorem splnok_any (cl : Int) (ad : Option Addr) (N cap : Nat) (ss : List L2V) (ga : Option Addr) (gn gc : Nat) (G : List Int) (sa : Option Addr) (sn sc : Nat) (S : List Int) {w : World} (h : PlAt w ad N ss ga gn G sa sn S) :
  Calls Tryz.prog 13 #[plV cl ad N cap ga gn gc sa sn sc] w fun e w' => e = .returned (.bool (plnB cl N ss gn G sn S)) /\ Below w.heap.size w w' := by
 have n0 := BP.new w [.int .i64 cl, .slice ad N cap, .slice ga gn gc, .slice sa sn sc] 26;obtain ⟨x1, hx1⟩ : ∃ x, x = inB cl 1 4 := ⟨_, rfl⟩
 obtain ⟨x2, hx2⟩ : ∃ x, x = catB N ss := ⟨_, rfl⟩
 obtain ⟨x3, hx3⟩ : ∃ x, x = okN 3 1000 sn S := ⟨_, rfl⟩
 obtain ⟨x4, hx4⟩ : ∃ x, x = trtB sn gn S G := ⟨_, rfl⟩
 have HB : Hid (plnB cl N ss gn G sn S = (x1 && (x2 && (x3 && x4)))) := by show _ = _; rw [plnB, hx1, hx2, hx3, hx4]
 have H1 : Hid _ := hx1;have H2 : Hid _ := hx2;have H3 : Hid _ := hx3;have H4 : Hid _ := hx4;clear hx1 hx2 hx3 hx4
 go_enter Tryz.func13, Tryz.ntmps13
 go_wp2_with fail
 refine (in_any).mono ?_;rintro e w1 ⟨rfl, rfl⟩;rw [<- H1.out]
 cases x1
 ·go_wp2
  go_ret
  exact ⟨ret_bool (by rw [HB.out]; rfl), n0.b⟩
 go_wp2_with fail
 refine (scat_any ss h.ha (h.alloc _).a h.za).mono ?_;rintro e w1 ⟨rfl, b1⟩;rw [<- H2.out];have n1 := n0.below b1;obtain ⟨c0, c1, c2, c3⟩ := n1.p.quadP;clear b1 n0
 cases x2
 ·go_wp2
  go_ret
  exact ⟨ret_bool (by rw [HB.out]; rfl), n1.b⟩
 go_wp2_with fail
 refine (all_any S (h.below n1.b).s h.zs).mono ?_;rintro e w2 ⟨rfl, rfl⟩;rw [<- H3.out]
 cases x3
 ·go_wp2
  go_ret
  exact ⟨ret_bool (by rw [HB.out]; rfl), n1.b⟩
 go_wp2_with fail
 refine (strt_any S G (h.below n1.b).s (h.below n1.b).g h.zs h.zg).mono ?_;rintro e w2 ⟨rfl, b2⟩;rw [<- H4.out];have n2 := n1.below b2
 go_wp2
 go_ret
 exact ⟨ret_bool (by rw [HB.out]; rfl), n2.b⟩
theorem iplnok_any (cl : Int) (ad : Option Addr) (N cap : Nat) (ss : List L2V) (ga : Option Addr) (gn gc : Nat) (G : List Int) (sa : Option Addr) (sn sc : Nat) (S : List Int) {w : World} (h : PlAt w ad N ss ga gn G sa sn S) :
  Calls Tryz.prog 42 #[plV cl ad N cap ga gn gc sa sn sc] w fun e w' => e = .returned (.bool (plnB cl N ss gn G sn S)) /\ Below w.heap.size w w' := by
 have n0 := (BP.new w [.int .i64 cl, .slice ad N cap, .slice ga gn gc, .slice sa sn sc] 26).alloc (.cells #[.int .i64 cl] 3);obtain ⟨x1, hx1⟩ : ∃ x, x = betB 1 4 [cl] := ⟨_, rfl⟩
 obtain ⟨x2, hx2⟩ : ∃ x, x = catB N ss := ⟨_, rfl⟩
 obtain ⟨x3, hx3⟩ : ∃ x, x = allB 1000 S := ⟨_, rfl⟩
 obtain ⟨x4, hx4⟩ : ∃ x, x = trtB sn gn S G := ⟨_, rfl⟩
 have HB : Hid (plnB cl N ss gn G sn S = (x1 && (x2 && (x3 && x4)))) := by show _ = _; rw [<- pln_same, hx1, hx2, hx3, hx4]
 have H1 : Hid _ := hx1;have H2 : Hid _ := hx2;have H3 : Hid _ := hx3;have H4 : Hid _ := hx4;clear hx1 hx2 hx3 hx4
 go_enter Tryz.func42, Tryz.ntmps42
 go_wp2_with fail
 refine (between_any [cl] _ _ (by have := one_ints (w.alloc (.cells #[.int .i64 cl, .slice ad N cap, .slice ga gn gc, .slice sa sn sc] 26)) cl 3; rw [qA] at this; exact this) (by omega)).mono ?_;rintro e w1 ⟨rfl, rfl⟩;rw [<- H1.out]
 cases x1
 ·go_wp2
  go_ret
  exact ⟨ret_bool (by rw [HB.out]; rfl), n0.b⟩
 go_wp2_with fail
 refine (icat_any ss h.ha ((h.alloc _).alloc _).a h.za).mono ?_;rintro e w1 ⟨rfl, b1⟩;rw [<- H2.out];have n1 := n0.below b1;obtain ⟨c0, c1, c2, c3⟩ := n1.p.quadP;clear b1 n0
 cases x2
 ·go_wp2
  go_ret
  exact ⟨ret_bool (by rw [HB.out]; rfl), n1.b⟩
 go_wp2_with fail
 refine (within_any _ _ _ S (h.below n1.b).s h.zs).mono ?_;rintro e w2 ⟨rfl, rfl⟩;rw [<- H3.out]
 cases x3
 ·go_wp2
  go_ret
  exact ⟨ret_bool (by rw [HB.out]; rfl), n1.b⟩
 go_wp2_with fail
 refine (itrt_any S G (h.below n1.b).s (h.below n1.b).g h.zs h.zg).mono ?_;rintro e w2 ⟨rfl, b2⟩;rw [<- H4.out];have n2 := n1.below b2
 go_wp2
 go_ret
 exact ⟨ret_bool (by rw [HB.out]; rfl), n2.b⟩
theorem pln_parts {N : Nat} {ss : List L2V} {gn : Nat} {G : List Int} {sn : Nat} {S : List Int} (h : plnB cl N ss gn G sn S = true) : (1 <= cl /\ cl <= 4) /\ (1 <= gn /\ gn <= 3) := by
 simp only [plnB, trtB, Bool.and_eq_true] at h;have h1 := inB_iff.1 h.1;have h2 := inB_iff.1 h.2.2.2.2.1
 omega
theorem dec_step (h : ¬ k < 10) : Lib.decDigits k = Lib.decDigits (k / 10) ++ [UInt8.ofNat (48 + k % 10)] := by
 rw [Lib.decDigits, dif_neg h]
theorem dec_one (h : k < 10) : Lib.decDigits k = [UInt8.ofNat (48 + k)] := by
 rw [Lib.decDigits, dif_pos h]
theorem cat_str (a b : List UInt8) : ((⟨a.toArray⟩ : ByteArray) ++ (⟨b.toArray⟩ : ByteArray)) = ⟨(a ++ b).toArray⟩ := by
 apply ByteArray.ext
 simp
theorem cat_one (x : UInt8) (b : List UInt8) : ((⟨#[x]⟩ : ByteArray) ++ (⟨b.toArray⟩ : ByteArray)) = ⟨(x :: b).toArray⟩ := cat_str [x] b
theorem u8_add {m : Nat} (h : m < 10 := by omega) : (48 : UInt8) + UInt8.ofNat m = UInt8.ofNat (48 + m) := by
 simp
theorem digits_pos (N : Nat) (w : World) (hN : N <= 1000000000000000000 := by omega) :
  Calls Tryz.prog 165 #[.int .i64 N] w fun e w' => e = .returned (.string ⟨(Lib.decDigits N).toArray⟩) /\ Below w.heap.size w w' := by
 go_enter Tryz.func165, Tryz.ntmps165
 go_wp2_with fail
 go_loopw [0, 3] (fun n s wr => ∃ (k : Nat) (l : List UInt8), n = .int .i64 k /\ s = .string ⟨l.toArray⟩ /\ k + l.length <= N /\ Lib.decDigits N = Lib.decDigits k ++ l /\ Below w.heap.size w wr) (fun n _ _ => (intOf n).toNat)
 case atStart => exact ⟨N, [], rfl, rfl, qH _, by simp, Below.refl _ _⟩
 case round =>
  obtain ⟨k, l, rfl, rfl, hk, hd, hb⟩ := hrel;have HD : Hid _ := hd;clear hd;have hll : l.length <= 1000000000000000000 := by omega
  have hkk : k <= 1000000000000000000 := by omega
  by_cases h9 : 9 < k
  ·have hcv : (convert 22 9 (.slice (some ⟨wr.heap.size, 0, none⟩) 1 1)).run Tryz.prog (wr.alloc (.cells #[.int .u8 (48 + (k : Int) % 10)] 5)) = .ok (.string ⟨#[UInt8.ofNat (48 + k % 10)]⟩) (wr.alloc (.cells #[.int .u8 (48 + (k : Int) % 10)] 5)) := run_convert_bytes_back (P := Tryz.prog) (wr.alloc (.cells #[.int .u8 (48 + (k : Int) % 10)] 5)) 22 9 5 ⟨wr.heap.size, 0, none⟩ 1 [UInt8.ofNat (48 + k % 10)] Tryz.underlying22 Tryz.underlying5 Tryz.underlying9 (fun j hj => by
    have : j = 0 := by simpa using hj
    subst this;have hm : 48 + k % 10 < 256 := by omega
    simp [go_sem, Addr.add, Nat.mod_eq_of_lt hm])
   go_wp2
   go_roundw
   case rel => exact ⟨k / 10, UInt8.ofNat (48 + k % 10) :: l, by go_num, by rw [u8_add, cat_one], by rw [qG]; omega, by rw [HD.out, dec_step (by omega), List.append_assoc]; rfl, hb.alloc hb.size _⟩
   case measure => simp [intOf]; omega
  have hcv : (convert 22 9 (.slice (some ⟨wr.heap.size, 0, none⟩) 1 1)).run Tryz.prog (wr.alloc (.cells #[.int .u8 (48 + (k : Int))] 5)) = .ok (.string ⟨#[UInt8.ofNat (48 + k)]⟩) (wr.alloc (.cells #[.int .u8 (48 + (k : Int))] 5)) := run_convert_bytes_back (P := Tryz.prog) (wr.alloc (.cells #[.int .u8 (48 + (k : Int))] 5)) 22 9 5 ⟨wr.heap.size, 0, none⟩ 1 [UInt8.ofNat (48 + k)] Tryz.underlying22 Tryz.underlying5 Tryz.underlying9 (fun j hj => by
   have : j = 0 := by simpa using hj
   subst this;have hm : 48 + k < 256 := by omega
   simp [go_sem, Addr.add, Nat.mod_eq_of_lt hm])
  go_wp2
  go_ret
  exact ⟨by rw [u8_add, cat_one, HD.out, dec_one (by omega)]; rfl, hb.alloc hb.size _⟩
theorem digits_any (n : Int) {w : World} (h0 : -1000000000000000000 <= n) (h1 : n <= 1000000000000000000) :
  Calls Tryz.prog 165 #[.int .i64 n] w fun e w' => e = .returned (.string ⟨(Lib.itoa n).toArray⟩) /\ Below w.heap.size w w' := by
 by_cases hn : n < 0
 ·have e : Lib.itoa n = 45 :: Lib.decDigits n.natAbs := by rw [Lib.itoa, if_pos hn]
  have hl : (Lib.decDigits n.natAbs).length <= 21 := by
   have := Lib.itoa_length_le n (by omega) (by omega);rw [e, qG] at this
   omega
  have HE : Hid _ := e;clear e
  go_enter Tryz.func165, Tryz.ntmps165
  go_wp2_with fail
  refine (show Calls Tryz.prog 165 #[.int .i64 (-n)] w _ from (by have := digits_pos n.natAbs w; rw [show ((n.natAbs : Nat) : Int) = -n by omega] at this; exact this)).mono ?_;rintro e w1 ⟨rfl, b1⟩
  go_wp2
  go_ret
  exact ⟨by rw [HE.out]; exact congrArg (fun x => Ending.returned (.string x)) (cat_one _ _), b1⟩
 have e : Lib.itoa n = Lib.decDigits n.toNat := by rw [Lib.itoa, if_neg hn]
 rw [e];have := digits_pos n.toNat w;rwa [show ((n.toNat : Nat) : Int) = n by omega] at this
def wordL (c : Int) : List UInt8 := if c = 1 then [100, 111, 110, 101] else if c = 2 then [115, 116, 111, 112, 112, 101, 100] else if c = 3 then [111, 118, 101, 114] else []
def tailL (zs : List Int) : List UInt8 := Lib.joinTail [32] (zs.map Lib.itoa)
def resOkB (c : Int) (n : Nat) (zs : List Int) : Bool := inB c 1 3 && (decide (c = 1 \/ n = 0) && (decide (n <= 6) && allB 999999999999 zs))
def resText (c : Int) (n : Nat) (zs : List Int) : List UInt8 := if resOkB c n zs = true then wordL c ++ tailL zs else []
theorem tail_step (h : k < zs.length) : tailL (zs.take (k + 1)) = tailL (zs.take k) ++ ([32] ++ Lib.itoa (zs[k]?.getD 0)) := by
 unfold tailL Lib.joinTail;rw [List.take_succ_eq_append_getElem h, qB h, List.map_append, List.map_append, List.flatten_append];simp only [List.map_cons, List.map_nil, List.flatten_cons, List.flatten_nil, List.append_nil, Option.getD_some]
theorem tail_nil : tailL [] = [] := rfl
theorem tail_end (h : zs.length <= k) : tailL (zs.take k) = tailL zs := by rw [qF h]
theorem resText_no (h : resOkB c n zs = false) : resText c n zs = [] := by rw [resText, h]; rfl
theorem resText_yes (h : resOkB c n zs = true) : resText c n zs = wordL c ++ tailL zs := by rw [resText, if_pos h]
theorem word_len (c : Int) : (wordL c).length <= 7 := by
 unfold wordL
 split
 ·decide
 split
 ·decide
 split <;> decide
theorem allB_bnd' {m : Int} (hm : 0 <= m) (h : allB m zs = true) : ∀ i : Nat, -m <= zs[i]?.getD 0 /\ zs[i]?.getD 0 <= m := by
 intro i
 by_cases hi : i < zs.length
 ·unfold allB at h;rw [List.all_eq_true] at h;have := inB_iff.1 (h zs[i] (List.getElem_mem hi));rw [qB hi];simpa using this
 rw [List.getElem?_eq_none (by omega)];simp; omega
theorem ret_str {a b : List UInt8} (h : a = b) : Ending.returned (.string ⟨a.toArray⟩) = .returned (.string ⟨b.toArray⟩) := by rw [h]
theorem stext_any {a : Option Addr} {cap : Nat} (zs : List Int) {w : World} (hC : Ints w a n zs) (hn : n <= 1048576) :
  Calls Tryz.prog 142 #[resP c a n cap] w fun e w' => e = .returned (.string ⟨(resText c n zs).toArray⟩) /\ Below w.heap.size w w' := by
 have HL : Hid (zs.length = n) := hC.1;have B0 := ((Below.refl w.heap.size w).alloc (qH _) (.cells #[.int .i64 c, .slice a n cap] 54)).alloc (by simp) (.cells #[.string ⟨#[]⟩, .string ⟨#[100, 111, 110, 101]⟩, .string ⟨#[115, 116, 111, 112, 112, 101, 100]⟩, .string ⟨#[111, 118, 101, 114]⟩] 9)
 cases h1 : inB c 1 3
 ·have HR : Hid _ := resText_no (c := c) (n := n) (zs := zs) (by simp [resOkB, h1])
  go_enter Tryz.func142, Tryz.ntmps142
  go_wp2_with fail
  refine (in_any).mono ?_;rintro e w1 ⟨rfl, rfl⟩;rw [h1]
  go_wp2
  go_ret
  exact ⟨by rw [HR.out]; rfl, B0⟩
 have c13 := inB_iff.1 h1;have H1 : Hid _ := h1
 by_cases h2 : c = 1 \/ n = 0
 ·by_cases h3 : n <= 6
  ·cases h4 : allB 999999999999 zs
   ·have h4' : okN (n : Int) 999999999999 n zs = false := by rw [okN_is rfl, h4]
    have HR : Hid _ := resText_no (c := c) (n := n) (zs := zs) (by simp [resOkB, h4])
    rcases h2 with rfl | rfl
    ·go_enter Tryz.func142, Tryz.ntmps142
     go_wp2_with fail
     refine (in_any).mono ?_;rintro e w1 ⟨rfl, rfl⟩;rw [h1]
     go_wp2_with fail
     refine (all_any zs (hC.below B0) hn).mono ?_;rintro e w1 ⟨rfl, rfl⟩;rw [h4']
     go_wp2
     go_ret
     exact ⟨by rw [HR.out]; rfl, B0⟩
    exfalso
    have : zs = [] := List.eq_nil_of_length_eq_zero HL.out;subst this
    cases h4
   have H4 : Hid (okN (n : Int) 999999999999 n zs = true) := by show _ = _; rw [okN_is rfl, h4]
   have HR : Hid _ := resText_yes (c := c) (n := n) (zs := zs) (by simp [resOkB, h1, h2, h3, h4]);have BZ : Hid (∀ i : Nat, -999999999999 <= zs[i]?.getD 0 /\ zs[i]?.getD 0 <= 999999999999) := allB_bnd' (by omega) h4;clear h1 h4
   by_cases e1 : c = 1
   ·subst e1;clear h2
    go_enter Tryz.func142, Tryz.ntmps142
    go_wp2_with fail
    refine (in_any).mono ?_;rintro e w1 ⟨rfl, rfl⟩;rw [H1.out]
    go_wp2_with fail
    refine (all_any zs (hC.below B0) hn).mono ?_;rintro e w1 ⟨rfl, rfl⟩;rw [H4.out];obtain ⟨W, hW⟩ : ∃ W, W = (w.alloc (.cells #[.int .i64 1, .slice a n cap] 54)).alloc (.cells #[.string ⟨#[]⟩, .string ⟨#[100, 111, 110, 101]⟩, .string ⟨#[115, 116, 111, 112, 112, 101, 100]⟩, .string ⟨#[111, 118, 101, 114]⟩] 9) := ⟨_, rfl⟩
    have bx : Cel W w.heap.size [.int .i64 1, .slice a n cap] 54 := by rw [hW]; exact (Cel.new w _ _).alloc _
    have wd : Cel W (w.heap.size + 1) [.string ⟨#[]⟩, .string ⟨#[100, 111, 110, 101]⟩, .string ⟨#[115, 116, 111, 112, 112, 101, 100]⟩, .string ⟨#[111, 118, 101, 114]⟩] 9 := by rw [hW]; have := Cel.new (w.alloc (.cells #[.int .i64 1, .slice a n cap] 54)) [.string ⟨#[]⟩, .string ⟨#[100, 111, 110, 101]⟩, .string ⟨#[115, 116, 111, 112, 112, 101, 100]⟩, .string ⟨#[111, 118, 101, 114]⟩] 9; rwa [qA] at this
    rw [<- hW] at B0 ⊢;clear hW;have k0 := bx.cell 0;have k1 := bx.cell 1;have k2 := wd.cell 1;simp only [qC, qD] at k0 k1 k2;have hW := hC.below B0;clear hC wd
    go_wp2_with fail
    go_loopw [4, 5] (fun s i wr => ∃ (k : Nat) (L : List UInt8), k <= n /\ i = .int .i64 k /\ s = .string ⟨L.toArray⟩ /\ L = wordL 1 ++ tailL (zs.take k) /\ L.length <= 7 + 22 * k /\ Below W.heap.size W wr) (fun _ i _ => n - (intOf i).toNat)
    case atStart => exact ⟨0, wordL 1, qI _, rfl, rfl, by simp [tail_nil], by decide, Below.refl _ _⟩
    case round =>
     obtain ⟨k, L, hk, rfl, rfl, hL, hlen, hb⟩ := hrel;have HLL : Hid _ := hL;clear hL;have hlen' : L.length <= 1000 := by omega
     have kk1 := (bx.below hb).cell 1;simp only [qC, qD] at kk1
     by_cases hlt : k < n
     ·obtain ⟨b, off, rfl, hcell⟩ := (hW.below hb).pos (by omega);have hck : wr.cell? ⟨b, off + k, none⟩ = some (.int .i64 (zs[k]?.getD 0)) := by rw [hcell k hlt]; simp
      have HT : Hid _ := tail_step (zs := zs) (k := k) (by rw [HL.out]; exact hlt);have hz := BZ.out k;generalize HG : zs[k]?.getD 0 = z at *;clear HG hcell;obtain ⟨z1, z2⟩ := hz;have hI := Lib.itoa_length_le z (by omega) (by omega);generalize HGI : Lib.itoa z = I at *;have HGI' : Hid _ := HGI;clear HGI
      go_wp2_with fail
      refine (digits_any z (by omega) (by omega)).mono ?_;rintro e w2 ⟨rfl, b2⟩;rw [HGI'.out]
      go_wp2
      go_roundw
      case rel => exact ⟨k + 1, L ++ [32] ++ I, by omega, by go_num, by rw [show (⟨#[32]⟩ : ByteArray) = ⟨[32].toArray⟩ from rfl, cat_str, cat_str], by rw [HT.out, HLL.out, List.append_assoc, List.append_assoc], by rw [qE, qE, qG, List.length_nil]; omega, btr hb b2⟩
      case measure => simp [intOf]; omega
     go_wp2
     go_ret
     exact ⟨by rw [HR.out, HLL.out, tail_end (by rw [HL.out]; omega)]; rfl, btr B0 hb⟩
   have hn0 : n <= 0 := by omega
   clear h2
   by_cases e2 : c = 2
   ·subst e2
    go_enter Tryz.func142, Tryz.ntmps142
    go_wp2_with fail
    refine (in_any).mono ?_;rintro e w1 ⟨rfl, rfl⟩;rw [H1.out]
    go_wp2_with fail
    refine (all_any zs (hC.below B0) hn).mono ?_;rintro e w1 ⟨rfl, rfl⟩;rw [H4.out];obtain ⟨W, hW⟩ : ∃ W, W = (w.alloc (.cells #[.int .i64 2, .slice a n cap] 54)).alloc (.cells #[.string ⟨#[]⟩, .string ⟨#[100, 111, 110, 101]⟩, .string ⟨#[115, 116, 111, 112, 112, 101, 100]⟩, .string ⟨#[111, 118, 101, 114]⟩] 9) := ⟨_, rfl⟩
    have bx : Cel W w.heap.size [.int .i64 2, .slice a n cap] 54 := by rw [hW]; exact (Cel.new w _ _).alloc _
    have wd : Cel W (w.heap.size + 1) [.string ⟨#[]⟩, .string ⟨#[100, 111, 110, 101]⟩, .string ⟨#[115, 116, 111, 112, 112, 101, 100]⟩, .string ⟨#[111, 118, 101, 114]⟩] 9 := by rw [hW]; have := Cel.new (w.alloc (.cells #[.int .i64 2, .slice a n cap] 54)) [.string ⟨#[]⟩, .string ⟨#[100, 111, 110, 101]⟩, .string ⟨#[115, 116, 111, 112, 112, 101, 100]⟩, .string ⟨#[111, 118, 101, 114]⟩] 9; rwa [qA] at this
    rw [<- hW] at B0 ⊢;clear hW;have k0 := bx.cell 0;have k1 := bx.cell 1;have k2 := wd.cell 2;simp only [qC, qD] at k0 k1 k2;have hW := hC.below B0;clear hC wd
    go_wp2_with fail
    go_loopw [4, 5] (fun s i wr => ∃ (k : Nat) (L : List UInt8), k <= n /\ i = .int .i64 k /\ s = .string ⟨L.toArray⟩ /\ L = wordL 2 ++ tailL (zs.take k) /\ L.length <= 7 + 22 * k /\ Below W.heap.size W wr) (fun _ i _ => n - (intOf i).toNat)
    case atStart => exact ⟨0, wordL 2, qI _, rfl, rfl, by simp [tail_nil], by decide, Below.refl _ _⟩
    case round =>
     obtain ⟨k, L, hk, rfl, rfl, hL, hlen, hb⟩ := hrel;have HLL : Hid _ := hL;clear hL;have hlen' : L.length <= 1000 := by omega
     have kk1 := (bx.below hb).cell 1;simp only [qC, qD] at kk1
     by_cases hlt : k < n
     ·exfalso; omega
     go_wp2
     go_ret
     exact ⟨by rw [HR.out, HLL.out, tail_end (by rw [HL.out]; omega)]; rfl, btr B0 hb⟩
   obtain rfl : c = 3 := by omega
   go_enter Tryz.func142, Tryz.ntmps142
   go_wp2_with fail
   refine (in_any).mono ?_;rintro e w1 ⟨rfl, rfl⟩;rw [H1.out]
   go_wp2_with fail
   refine (all_any zs (hC.below B0) hn).mono ?_;rintro e w1 ⟨rfl, rfl⟩;rw [H4.out];obtain ⟨W, hW⟩ : ∃ W, W = (w.alloc (.cells #[.int .i64 3, .slice a n cap] 54)).alloc (.cells #[.string ⟨#[]⟩, .string ⟨#[100, 111, 110, 101]⟩, .string ⟨#[115, 116, 111, 112, 112, 101, 100]⟩, .string ⟨#[111, 118, 101, 114]⟩] 9) := ⟨_, rfl⟩
   have bx : Cel W w.heap.size [.int .i64 3, .slice a n cap] 54 := by rw [hW]; exact (Cel.new w _ _).alloc _
   have wd : Cel W (w.heap.size + 1) [.string ⟨#[]⟩, .string ⟨#[100, 111, 110, 101]⟩, .string ⟨#[115, 116, 111, 112, 112, 101, 100]⟩, .string ⟨#[111, 118, 101, 114]⟩] 9 := by rw [hW]; have := Cel.new (w.alloc (.cells #[.int .i64 3, .slice a n cap] 54)) [.string ⟨#[]⟩, .string ⟨#[100, 111, 110, 101]⟩, .string ⟨#[115, 116, 111, 112, 112, 101, 100]⟩, .string ⟨#[111, 118, 101, 114]⟩] 9; rwa [qA] at this
   rw [<- hW] at B0 ⊢;clear hW;have k0 := bx.cell 0;have k1 := bx.cell 1;have k2 := wd.cell 3;simp only [qC, qD] at k0 k1 k2;have hW := hC.below B0;clear hC wd
   go_wp2_with fail
   go_loopw [4, 5] (fun s i wr => ∃ (k : Nat) (L : List UInt8), k <= n /\ i = .int .i64 k /\ s = .string ⟨L.toArray⟩ /\ L = wordL 3 ++ tailL (zs.take k) /\ L.length <= 7 + 22 * k /\ Below W.heap.size W wr) (fun _ i _ => n - (intOf i).toNat)
   case atStart => exact ⟨0, wordL 3, qI _, rfl, rfl, by simp [tail_nil], by decide, Below.refl _ _⟩
   case round =>
    obtain ⟨k, L, hk, rfl, rfl, hL, hlen, hb⟩ := hrel;have HLL : Hid _ := hL;clear hL;have hlen' : L.length <= 1000 := by omega
    have kk1 := (bx.below hb).cell 1;simp only [qC, qD] at kk1
    by_cases hlt : k < n
    ·exfalso; omega
    go_wp2
    go_ret
    exact ⟨by rw [HR.out, HLL.out, tail_end (by rw [HL.out]; omega)]; rfl, btr B0 hb⟩
  have HR : Hid _ := resText_no (c := c) (n := n) (zs := zs) (by simp [resOkB, h3]);obtain rfl : c = 1 := by omega
  go_enter Tryz.func142, Tryz.ntmps142
  go_wp2_with fail
  refine (in_any).mono ?_;rintro e w1 ⟨rfl, rfl⟩;rw [h1]
  go_wp2
  go_ret
  exact ⟨by rw [HR.out]; rfl, B0⟩
 have HR : Hid _ := resText_no (c := c) (n := n) (zs := zs) (by simp [resOkB, h2]);have hc1 : (c != 1) = true := by simp; omega
 have hn0 : (0 : Int) < n := by omega
 go_enter Tryz.func142, Tryz.ntmps142
 go_wp2_with fail
 refine (in_any).mono ?_;rintro e w1 ⟨rfl, rfl⟩;rw [h1]
 go_wp2
 go_ret
 exact ⟨by rw [HR.out]; rfl, B0⟩
def callOkB (cl sq ac : Int) (n : Nat) (zs : List Int) : Bool := inB cl 0 3 && (inB sq 1 300 && (inB ac 0 3 && okN 2 9 n zs))
def wClient : List UInt8 := [99, 108, 105, 101, 110, 116]
def wCall : List UInt8 := [99, 97, 108, 108]
def wAct : List UInt8 := [97, 99, 116]
def wWith : List UInt8 := [119, 105, 116, 104]
def callL (cl sq ac : Int) (zs : List Int) : List UInt8 := wClient ++ ([32] ++ (Lib.itoa cl ++ ([32] ++ (wCall ++ ([32] ++ (Lib.itoa sq ++ ([32] ++ (wAct ++ ([32] ++ (Lib.itoa ac ++ ([32] ++ (wWith ++ tailL zs))))))))))))
def callText (cl sq ac : Int) (n : Nat) (zs : List Int) : List UInt8 := if callOkB cl sq ac n zs = true then callL cl sq ac zs else []
theorem callText_no {sq ac : Int} (h : callOkB cl sq ac n zs = false) : callText cl sq ac n zs = [] := by rw [callText, h]; rfl
theorem callText_yes {sq ac : Int} (h : callOkB cl sq ac n zs = true) : callText cl sq ac n zs = callL cl sq ac zs := by rw [callText, if_pos h]
def Tryz.lays156_ren : Go.Shelf.Ren := ⟨fun | 156 => 163 | 165 => 177 | 166 => 178 | 169 => 179 | 240 => 188 | 241 => 189 | 276 => 200 | 277 => 201 | n => n, fun | 31 => 227 | 9 => 9 | 3 => 3 | 4 => 4 | 0 => 0 | 20 => 20 | 72 => 241 | 76 => 245 | 70 => 239 | 37 => 22 | 75 => 244 | 127 => 251 | 164 => 259 | 5 => 5 | 80 => 225 | n => n, fun | n => n⟩
theorem Tryz.lays156 : Go.Proofs.Lays.n156 Tryz.prog Tryz.lays156_ren := {
 mixed := by kernel_rfl
 f156 := Tryz.func163.trans (congrArg some (by kernel_rfl))
 f165 := Tryz.func177.trans (congrArg some (by kernel_rfl))
 f166 := Tryz.func178.trans (congrArg some (by kernel_rfl))
 f169 := Tryz.func179.trans (congrArg some (by kernel_rfl))
 f240 := Tryz.func188.trans (congrArg some (by kernel_rfl))
 f241 := Tryz.func189.trans (congrArg some (by kernel_rfl))
 f276 := Tryz.func200.trans (congrArg some (by kernel_rfl))
 f277 := Tryz.func201.trans (congrArg some (by kernel_rfl))
 t0 := Tryz.underlying0
 a0 := Tryz.isAgg0
 z0 := Tryz.sizeOf0
 v0 := Tryz.zeroValue0
 t3 := Tryz.underlying3
 a3 := Tryz.isAgg3
 z3 := Tryz.sizeOf3
 v3 := Tryz.zeroValue3
 t4 := Tryz.underlying4
 a4 := Tryz.isAgg4
 z4 := Tryz.sizeOf4
 v4 := Tryz.zeroValue4
 t9 := Tryz.underlying9
 a9 := Tryz.isAgg9
 z9 := Tryz.sizeOf9
 v9 := Tryz.zeroValue9
 t20 := Tryz.underlying20
 a20 := Tryz.isAgg20
 z20 := Tryz.sizeOf20
 v20 := Tryz.zeroValue20
 t31 := Tryz.underlying227
 a31 := Tryz.isAgg227
 z31 := Tryz.sizeOf227
 v31 := Tryz.zeroValue227
 t37 := Tryz.underlying22
 a37 := Tryz.isAgg22
 z37 := Tryz.sizeOf22
 v37 := Tryz.zeroValue22
 t70 := Tryz.underlying239
 a70 := Tryz.isAgg239
 z70 := Tryz.sizeOf239
 v70 := Tryz.zeroValue239
 t72 := Tryz.underlying241
 a72 := Tryz.isAgg241
 z72 := Tryz.sizeOf241
 v72 := Tryz.zeroValue241
 t75 := Tryz.underlying244
 a75 := Tryz.isAgg244
 z75 := Tryz.sizeOf244
 v75 := Tryz.zeroValue244
 t76 := Tryz.underlying245
 a76 := Tryz.isAgg245
 z76 := Tryz.sizeOf245
 v76 := Tryz.zeroValue245
 t127 := Tryz.underlying251
 a127 := Tryz.isAgg251
 z127 := Tryz.sizeOf251
 v127 := Tryz.zeroValue251
 t164 := Tryz.underlying259
 a164 := Tryz.isAgg259
 z164 := Tryz.sizeOf259
 v164 := Tryz.zeroValue259 }
theorem Tryz.Builder_Extra_156 : Builder.Extra Tryz.prog Tryz.lays156_ren := {
 sizeBuilder := by kernel_rfl
 liesBuilder := by kernel_rfl
 t5 := Tryz.underlying5
 a5 := Tryz.isAgg5
 z5 := Tryz.sizeOf5
 v5 := Tryz.zeroValue5
 infoByte := by kernel_rfl
 cellsByte := by kernel_rfl
 sizeByte := by kernel_rfl
 neB5 := by decide }
open Go.RowKit in
theorem Tryz.strings_Join_none (a : Option Addr) (c : Nat) (sep : ByteArray) (w : World) :
  Calls Tryz.prog 163 #[.slice a 0 c, .string sep] w fun e w' => e = .returned (.string ⟨#[]⟩) /\ w' = w := Any.strings_Join_none Tryz.lays156 Tryz.Builder_Extra_156 a c sep w
open Go.RowKit in
theorem Tryz.strings_Join (bk o c : Nat) (xs : List ByteArray) (sep : ByteArray) (w : World) (hcells : ∀ (j : Nat) x, xs[j]? = some x -> w.cell? ⟨bk, o + j, none⟩ = some (.string x)) (hbk : bk < w.heap.size) (hN : xs.length <= 140737488355328) (hcap : xs.length <= c) (hlen : (Lib.join (xs.map (·.data.toList)) sep.data.toList).length <= 140737488355328) :
  Calls Tryz.prog 163 #[.slice (some ⟨bk, o, none⟩) xs.length c, .string sep] w fun e w' => e = .returned (.string ⟨(Lib.join (xs.map (·.data.toList)) sep.data.toList).toArray⟩) /\ Below w.heap.size w w' := Any.strings_Join Tryz.lays156 Tryz.Builder_Extra_156 bk o c xs sep w hcells hbk hN hcap hlen
def Tryz.laysM171_ren : Go.Shelf.Ren := ⟨fun | 171 => 176 | 243 => 187 | 246 => 199 | 283 => 203 | 284 => 204 | 285 => 205 | 286 => 206 | 129 => 208 | 317 => 207 | 318 => 209 | 319 => 210 | 320 => 211 | 337 => 212 | 338 => 213 | n => n, fun | 3 => 3 | 9 => 9 | 2 => 2 | 4 => 4 | 171 => 264 | 0 => 0 | 53 => 265 | 37 => 22 | 5 => 5 | 173 => 268 | 212 => 271 | 51 => 272 | 20 => 20 | 213 => 273 | 46 => 274 | 232 => 277 | 233 => 278 | n => n, fun | 17 => 1 | 18 => 2 | 19 => 3 | n => n⟩
theorem Tryz.laysM171 : Go.Proofs.LaysM.n171 Tryz.prog Tryz.laysM171_ren := {
 mixed := by kernel_rfl
 f129 := Tryz.func208.trans (congrArg some (by kernel_rfl))
 f171 := Tryz.func176.trans (congrArg some (by kernel_rfl))
 f243 := Tryz.func187.trans (congrArg some (by kernel_rfl))
 f246 := Tryz.func199.trans (congrArg some (by kernel_rfl))
 f283 := Tryz.func203.trans (congrArg some (by kernel_rfl))
 f284 := Tryz.func204.trans (congrArg some (by kernel_rfl))
 f285 := Tryz.func205.trans (congrArg some (by kernel_rfl))
 f286 := Tryz.func206.trans (congrArg some (by kernel_rfl))
 f317 := Tryz.func207.trans (congrArg some (by kernel_rfl))
 f318 := Tryz.func209.trans (congrArg some (by kernel_rfl))
 f319 := Tryz.func210.trans (congrArg some (by kernel_rfl))
 f320 := Tryz.func211.trans (congrArg some (by kernel_rfl))
 f337 := Tryz.func212.trans (congrArg some (by kernel_rfl))
 f338 := Tryz.func213.trans (congrArg some (by kernel_rfl))
 t0 := Tryz.underlying0
 a0 := Tryz.isAgg0
 z0 := Tryz.sizeOf0
 v0 := Tryz.zeroValue0
 t2 := Tryz.underlying2
 a2 := Tryz.isAgg2
 z2 := Tryz.sizeOf2
 v2 := Tryz.zeroValue2
 t3 := Tryz.underlying3
 a3 := Tryz.isAgg3
 z3 := Tryz.sizeOf3
 v3 := Tryz.zeroValue3
 t4 := Tryz.underlying4
 a4 := Tryz.isAgg4
 z4 := Tryz.sizeOf4
 v4 := Tryz.zeroValue4
 t5 := Tryz.underlying5
 a5 := Tryz.isAgg5
 z5 := Tryz.sizeOf5
 v5 := Tryz.zeroValue5
 t9 := Tryz.underlying9
 a9 := Tryz.isAgg9
 z9 := Tryz.sizeOf9
 v9 := Tryz.zeroValue9
 t20 := Tryz.underlying20
 a20 := Tryz.isAgg20
 z20 := Tryz.sizeOf20
 v20 := Tryz.zeroValue20
 t37 := Tryz.underlying22
 a37 := Tryz.isAgg22
 z37 := Tryz.sizeOf22
 v37 := Tryz.zeroValue22
 t46 := Tryz.underlying274
 a46 := Tryz.isAgg274
 z46 := Tryz.sizeOf274
 v46 := Tryz.zeroValue274
 t51 := Tryz.underlying272
 a51 := Tryz.isAgg272
 z51 := Tryz.sizeOf272
 v51 := Tryz.zeroValue272
 t53 := Tryz.underlying265
 a53 := Tryz.isAgg265
 z53 := Tryz.sizeOf265
 v53 := Tryz.zeroValue265
 t171 := Tryz.underlying264
 a171 := Tryz.isAgg264
 z171 := Tryz.sizeOf264
 v171 := Tryz.zeroValue264
 t173 := Tryz.underlying268
 a173 := Tryz.isAgg268
 z173 := Tryz.sizeOf268
 v173 := Tryz.zeroValue268
 t212 := Tryz.underlying271
 a212 := Tryz.isAgg271
 z212 := Tryz.sizeOf271
 v212 := Tryz.zeroValue271
 t213 := Tryz.underlying273
 a213 := Tryz.isAgg273
 z213 := Tryz.sizeOf273
 t232 := Tryz.underlying277
 a232 := Tryz.isAgg277
 z232 := Tryz.sizeOf277
 v232 := Tryz.zeroValue277
 t233 := Tryz.underlying278
 a233 := Tryz.isAgg278
 z233 := Tryz.sizeOf278
 v233 := Tryz.zeroValue278
 g17 := by kernel_rfl
 g18 := by kernel_rfl
 g19 := by kernel_rfl
 i0 := by kernel_rfl
 i2 := by kernel_rfl
 i3 := by kernel_rfl
 i4 := by kernel_rfl
 i5 := by kernel_rfl
 i9 := by kernel_rfl
 i20 := by kernel_rfl
 i37 := by kernel_rfl
 i46 := by kernel_rfl
 i51 := by kernel_rfl
 i53 := by kernel_rfl
 i171 := by kernel_rfl
 i173 := by kernel_rfl
 i212 := by kernel_rfl
 i232 := by kernel_rfl
 i233 := by kernel_rfl
 m17 := by kernel_rfl
 m18 := by kernel_rfl
 m19 := by kernel_rfl }
open Go.RowKit Go.Sort Go.Lib in
theorem Tryz.strconv_Itoa (n : Int) (h0 : -9223372036854775808 <= n) (h1 : n <= 9223372036854775807) (w : World) (htab : Lib.TabIs Tryz.prog w "internal/strconv.uint64pow10" .u64 Lib.pow10Tab) :
  Calls Tryz.prog 176 #[.int .i64 n] w fun e w' => e = .returned (.string ⟨(Lib.itoa n).toArray⟩) /\ ∃ k os, w' = grow (w.drewN k) os := Any.strconv_Itoa Tryz.laysM171 n h0 h1 w htab
structure JT (w : World) (v : Value) (xs : List ByteArray) (W : World) : Prop where
 b : Below w.heap.size w W
 o : W.ownsRow w.heap.size 9 1 v xs.length (xs.map Value.string)
theorem JT.one (w : World) (x : ByteArray) : JT w (.slice (some ⟨w.heap.size, 0, none⟩) 1 1) [x] (w.alloc (.cells #[.string x] 9)) :=
 ⟨bal, World.ownsRow_lit w #[.string x] 1 (qH _) (by unfold maxLen; omega) rfl⟩
theorem JT.alloc (j : JT w v xs W) (o : Obj) : JT w v xs (W.alloc o) := ⟨j.b.alloc j.b.size _, j.o.alloc o⟩
theorem JT.below {W' : World} (j : JT w v xs W) (h : Below W.heap.size W W') : JT w v xs W' := by
 refine ⟨j.b.trans (h.mono j.b.size), j.o.1, ?_⟩
 rcases j.o.2 with h2 | ⟨g, cap, cur, hv, hg, hh, r⟩
 ·exact Or.inl h2
 exact Or.inr ⟨g, cap, cur, hv, hg, by rw [h.block g (lt_of_block hh)]; exact hh, r⟩
theorem JT.app {W' : World} {y : ByteArray} {g cap : Nat} {o : Obj} (j : JT w v xs W) (hk : xs.length = k) (hown : W'.ownsRow w.heap.size 9 1 (.slice (some ⟨g, 0, none⟩) (k + 1) cap) (k + 1) (xs.map Value.string ++ [.string y])) (hg : (W.alloc o).grownBy W' v.ownBlock) :
  JT w (.slice (some ⟨g, 0, none⟩) (k + 1) cap) (xs ++ [y]) W' := by
 refine ⟨(j.alloc o).b.grown hg (j.alloc o).b.size (fun k hk => ((j.alloc o).o.lt k hk).1), ?_⟩;rw [qE, hk, List.map_append]
 exact hown
theorem JT.cells (j : JT w v xs W) (hk : xs.length = k) (h0 : 0 < k) : ∃ g cap, v = .slice (some ⟨g, 0, none⟩) k cap /\ k <= cap /\ g < W.heap.size /\ ∀ (i : Nat) x, xs[i]? = some x -> W.cell? ⟨g, 0 + i, none⟩ = some (.string x) := by
 subst hk
 rcases j.o.2 with ⟨hv, h⟩ | ⟨g, cap', cur, rfl, hg, hh, hl, _, _⟩
 ·omega
 refine ⟨g, cap', rfl, hl, lt_of_block hh, fun i x hx => ?_⟩;have hi := (List.getElem?_eq_some_iff.1 hx).1;have := j.o.cellAt i (by omega);rw [Nat.zero_add, this];simp [hx]
theorem newsS {x : Value} {t : TypeId} : ∀ j u, [x][j]? = some u -> (w.alloc (.cells #[x] t)).cell? ((⟨w.heap.size, 0, none⟩ : Addr).add j) = some u := fun j u hu => by
 match j, hu with
 | 0, hu =>
  simp only [qC, Option.some.injEq] at hu;subst hu;simp [Addr.add]
theorem oneS {x : ByteArray} : ∀ u ∈ [Value.string x], u.oneCell' = true := fun u hu => by
 simp at hu; subst hu; rfl
theorem Tryz.infoStr : (Tryz.prog.info? 9).map (fun i => (i.zero, i.size, i.bytes)) = some (some (.string ⟨#[]⟩), 1, 16) := by kernel_rfl
theorem word_any : Calls Tryz.prog 164 #[.int .i64 c] w fun e w' => e = .returned (.string ⟨(wordL c).toArray⟩) /\ w' = w := by
 by_cases h1 : c = 1
 ·subst h1
  go_enter Tryz.func164, Tryz.ntmps164
  go_wp2
  go_ret
  exact ⟨rfl, rfl⟩
 have h1' : (c == 1) = false := by simp [h1]
 by_cases h2 : c = 2
 ·subst h2
  go_enter Tryz.func164, Tryz.ntmps164
  go_wp2
  go_ret
  exact ⟨rfl, rfl⟩
 have h2' : (c == 2) = false := by simp [h2]
 by_cases h3 : c = 3
 ·subst h3
  go_enter Tryz.func164, Tryz.ntmps164
  go_wp2
  go_ret
  exact ⟨rfl, rfl⟩
 have h3' : (c == 3) = false := by simp [h3]
 have e : wordL c = [] := by rw [wordL, if_neg h1, if_neg h2, if_neg h3]
 rw [e]
 go_enter Tryz.func164, Tryz.ntmps164
 go_wp2
 go_ret
 exact ⟨rfl, rfl⟩
theorem tail_len (hb : ∀ i : Nat, -999999999999 <= zs[i]?.getD 0 /\ zs[i]?.getD 0 <= 999999999999) : ∀ k, k <= zs.length -> (tailL (zs.take k)).length <= 22 * k
 | 0, _ => by simp [tailL, Lib.joinTail]
 | k + 1, h => by
  have ih := tail_len hb k (by omega);have hz := hb k;have := Lib.itoa_length_le (zs[k]?.getD 0) (by omega) (by omega);rw [tail_step (by omega), qE, qE];simp only [qG, List.length_nil]
  omega
def wordsT (l : List UInt8) (zs : List Int) : List ByteArray := ⟨l.toArray⟩ :: zs.map fun z => ⟨(Lib.itoa z).toArray⟩
theorem wordsT_join (l : List UInt8) (zs : List Int) : Lib.join ((wordsT l zs).map (·.data.toList)) [32] = l ++ tailL zs := by
 rw [wordsT, List.map_cons, Lib.join_cons, tailL, List.map_map]
 rfl
theorem wordsT_step {l : List UInt8} (h : k < zs.length) : wordsT l (zs.take (k + 1)) = wordsT l (zs.take k) ++ [⟨(Lib.itoa (zs[k]?.getD 0)).toArray⟩] := by
 rw [wordsT, wordsT, List.take_succ_eq_append_getElem h, qB h, List.map_append]
 rfl
theorem itwn_any (l : List UInt8) (a : Option Addr) (n cap : Nat) (zs : List Int) (w : World) (hC : Ints w a n zs) (hn : n <= 1000) (hl : l.length <= 1000) (hz : ∀ i : Nat, -999999999999 <= zs[i]?.getD 0 /\ zs[i]?.getD 0 <= 999999999999) (hT : Lib.TabBelow Tryz.prog w.heap.size w "internal/strconv.uint64pow10" .u64 Lib.pow10Tab) :
  Calls Tryz.prog 162 #[.string ⟨l.toArray⟩, .slice a n cap] w fun e w' => e = .returned (.string ⟨(l ++ tailL zs).toArray⟩) /\ Below w.heap.size w w' := by
 have HL : Hid (zs.length = n) := hC.1;have HTB : Hid _ := hT;have BZ : Hid (∀ i : Nat, -999999999999 <= zs[i]?.getD 0 /\ zs[i]?.getD 0 <= 999999999999) := hz;have HLL : Hid (l.length <= 1000) := hl;clear hT hz hl;obtain ⟨i0, hi, hz0, hz1, hz2⟩ := info_parts Tryz.infoStr;obtain ⟨S, hS⟩ : ∃ S : ByteArray, S = ⟨l.toArray⟩ := ⟨_, rfl⟩
 have HS0 : Hid (S = ⟨l.toArray⟩) := hS;rw [<- hS];clear hS
 go_enter Tryz.func162, Tryz.ntmps162
 go_wp2_with fail
 go_loopw [5, 7, 12] (fun v _ i wr => ∃ (k : Nat) (xs : List ByteArray), k <= n /\ i = .int .i64 k /\ xs.length = k + 1 /\ xs = wordsT l (zs.take k) /\ JT w v xs wr) (fun _ _ i _ => n - (intOf i).toNat)
 case atStart => exact ⟨0, _, qI _, rfl, rfl, by rw [HS0.out]; rfl, JT.one w S⟩
 case round =>
  obtain ⟨k, xs, hk, rfl, hxl, hxs, j⟩ := hrel;have HXL : Hid _ := hxl;have HXS : Hid _ := hxs;clear hxl hxs;have hjb := j.b.size
  by_cases hlt : k < n
  ·obtain ⟨b, off, rfl, hcell⟩ := (hC.below j.b).pos (by omega);have hck : wr.cell? ⟨b, off + k, none⟩ = some (.int .i64 (zs[k]?.getD 0)) := by rw [hcell k hlt]; simp
   have HS : Hid _ := wordsT_step (l := l) (zs := zs) (k := k) (by rw [HL.out]; exact hlt);have hz := BZ.out k;generalize HG : zs[k]?.getD 0 = z at hck HS hz;clear HG hcell;obtain ⟨z1, z2⟩ := hz;have tab : Lib.TabIs Tryz.prog wr "internal/strconv.uint64pow10" .u64 Lib.pow10Tab := HTB.out wr j.b
   go_wp2_with fail
   refine (Tryz.strconv_Itoa z (by omega) (by omega) _ tab).mono ?_;rintro e w2 ⟨rfl, q, os, hw2⟩;have b2 : Below wr.heap.size wr w2 := by rw [hw2]; exact Lib.below_grow _ _ (qH _) _ _
   clear hw2 tab;have j2 := j.below b2;have jo := j2.o;rw [HXL.out] at jo;have hjb2 := j2.b.size;clear b2 j;obtain ⟨I, hI⟩ : ∃ I : ByteArray, I = ⟨(Lib.itoa z).toArray⟩ := ⟨_, rfl⟩
   rw [<- hI];have HI : Hid _ := hI;clear hI
   go_wp2_with (at_builtin; go_must (refine wpList_append_lies _ rfl (.tmp 16) (.tmp 19) 227 rfl w.heap.size 9 i0 (.string ⟨#[]⟩) 1 16 Tryz.underlying227 hi hz0 hz1 hz2 rfl (by decide) _ _ _ rfl (jo.alloc _) ⟨w2.heap.size, 0, none⟩ 1 1 [.string I] rfl rfl (newsS) (oneS) (by omega) (by unfold maxLen; omega) (by omega) (by rw [qA]; omega) _ rfl ?_); intro g cp w3 hown hgrow hat hlt1)
   have j3 := j2.app HXL.out hown hgrow;clear hown hgrow jo j2 hat
   go_wp2
   go_roundw
   case rel => exact ⟨k + 1, _, by omega, by go_num, by rw [qE, HXL.out]; rfl, by rw [HS.out, HXS.out, HI.out], j3⟩
   case measure => simp [intOf]; omega
  obtain rfl : k = n := by omega
  obtain ⟨g, gc, rfl, hcap, hg, hcs⟩ := j.cells HXL.out (by omega)
  have HJ := Tryz.strings_Join g 0 gc xs ⟨#[32]⟩ wr hcs hg (by rw [HXL.out]; omega) (by rw [HXL.out]; exact hcap) (by
   rw [HXS.out, qF (by rw [HL.out]; exact qH _)];have := wordsT_join l zs;rw [show (⟨#[32]⟩ : ByteArray).data.toList = [32] from rfl, this, qE];have := tail_len BZ.out zs.length (qH _);rw [List.take_length] at this;have := HLL.out;have := HL.out
   omega)
  rw [HXL.out] at HJ;have jb := j.b;clear hcs hcap hg j
  go_wp2_with fail
  refine HJ.mono ?_;rintro e w2 ⟨rfl, b2⟩;have B2 := jb.trans (b2.mono (by omega))
  go_wp2
  go_ret
  refine ⟨?_, B2⟩;rw [<- wordsT_join l zs, HXS.out, qF (by rw [HL.out]; exact qH _)]
  rfl
end Go.Proofs.YtpmihhbgjimpmaaGreatDoor
