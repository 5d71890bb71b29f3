/-
  Lemmas that the claim's last text rests on.
-/
import Derived.Lib.ItoaNum
import Derived.Lib.ItoaLen
import Derived.Laws.IdiomStrings
import Derived.Lib.Join
import Derived.Lib.AppendIntMem
import Derived.Test.YtacfoeekmcnpjaaGreatDoorQShelf
import Derived.Test.YtacfoeekmcnpjaaGreatDoorQK
namespace Go.Proofs.YtacfoeekmcnpjaaGreatDoor
open Go.RowKit Go.Deep
open List renaming setIfInBounds_toArray → qA, set_cons_zero → qB, set_cons_succ → qC, getElem?_eq_getElem → qD, getElem_cons_zero → qE, getElem_cons_succ → qF, getElem?_cons_zero → qG, getElem?_cons_succ → qH, getElem_toArray → qI, length_append → qJ, take_of_length_le → qK, take_succ_eq_append_getElem → qL, length_cons → qM
open Nat renaming le_refl → qN, zero_le → qO
set_option linter.unusedVariables false
set_option maxRecDepth 100000
set_option maxHeartbeats 25600000
variable {N cap gc gn k n sc sn : Nat} {W w : World} {a ad ga sa : Option Addr} {c cl : Int} {fs : List DV} {v : Value} {xs : List ByteArray} {zs : List Int}
theorem dec_step (h : ¬ k < 10) : Lib.decDigits k = Lib.decDigits (k / 10) ++ [UInt8.ofNat (48 + k % 10)] := by
 rw [Lib.decDigits, dif_neg h]
theorem dec_one (h : k < 10) : Lib.decDigits k = [UInt8.ofNat (48 + k)] := by
 rw [Lib.decDigits, dif_pos h]
theorem cat_str (a b : List UInt8) : ((⟨a.toArray⟩ : ByteArray) ++ (⟨b.toArray⟩ : ByteArray)) = ⟨(a ++ b).toArray⟩ := by
 apply ByteArray.ext
 simp
theorem cat_one (x : UInt8) (b : List UInt8) : ((⟨#[x]⟩ : ByteArray) ++ (⟨b.toArray⟩ : ByteArray)) = ⟨(x :: b).toArray⟩ := cat_str [x] b
theorem u8_add {m : Nat} (h : m < 10) : (48 : UInt8) + UInt8.ofNat m = UInt8.ofNat (48 + m) := by
 simp
theorem digits_pos (N : Nat) (w : World) (hN : N <= 1000000000000000000) :
  Calls Tryz.prog 157 #[.int .i64 N] w fun e w' => e = .returned (.string ⟨(Lib.decDigits N).toArray⟩) /\ Below w.heap.size w w' := by
 go_enter Tryz.func157, Tryz.ntmps157
 go_wp2_with fail
 go_loopw [0, 3] (fun n s wr => ∃ (k : Nat) (l : List UInt8), n = .int .i64 k /\ s = .string ⟨l.toArray⟩ /\ k + l.length <= N /\ Lib.decDigits N = Lib.decDigits k ++ l /\ Below w.heap.size w wr) (fun n _ _ => (intOf n).toNat)
 case atStart => exact ⟨N, [], rfl, rfl, qN _, by simp, Below.refl _ _⟩
 case round =>
  obtain ⟨k, l, rfl, rfl, hk, hd, hb⟩ := hrel
  have HD : Hid _ := hd
  clear hd
  have hll : l.length <= 1000000000000000000 := by omega
  have hkk : k <= 1000000000000000000 := by omega
  by_cases h9 : 9 < k
  ·have hcv : (convert 260 9 (.slice (some ⟨wr.heap.size, 0, none⟩) 1 1)).run Tryz.prog (wr.alloc (.cells #[.int .u8 (48 + (k : Int) % 10)] 5)) = .ok (.string ⟨#[UInt8.ofNat (48 + k % 10)]⟩) (wr.alloc (.cells #[.int .u8 (48 + (k : Int) % 10)] 5)) := run_convert_bytes_back (P := Tryz.prog) (wr.alloc (.cells #[.int .u8 (48 + (k : Int) % 10)] 5)) 260 9 5 ⟨wr.heap.size, 0, none⟩ 1 [UInt8.ofNat (48 + k % 10)] Tryz.underlying260 Tryz.underlying5 Tryz.underlying9 (fun j hj => by
    have : j = 0 := by simpa using hj
    subst this
    have hm : 48 + k % 10 < 256 := by omega
    simp [go_sem, Addr.add, Nat.mod_eq_of_lt hm])
   go_wp2
   go_roundw
   case rel => exact ⟨k / 10, UInt8.ofNat (48 + k % 10) :: l, by go_num, by rw [u8_add (by omega), cat_one], by rw [qM]; omega, by rw [HD.out, dec_step (by omega), List.append_assoc]; rfl, hb.alloc hb.size _⟩
   case measure => simp [intOf]; omega
  ·have hcv : (convert 260 9 (.slice (some ⟨wr.heap.size, 0, none⟩) 1 1)).run Tryz.prog (wr.alloc (.cells #[.int .u8 (48 + (k : Int))] 5)) = .ok (.string ⟨#[UInt8.ofNat (48 + k)]⟩) (wr.alloc (.cells #[.int .u8 (48 + (k : Int))] 5)) := run_convert_bytes_back (P := Tryz.prog) (wr.alloc (.cells #[.int .u8 (48 + (k : Int))] 5)) 260 9 5 ⟨wr.heap.size, 0, none⟩ 1 [UInt8.ofNat (48 + k)] Tryz.underlying260 Tryz.underlying5 Tryz.underlying9 (fun j hj => by
    have : j = 0 := by simpa using hj
    subst this
    have hm : 48 + k < 256 := by omega
    simp [go_sem, Addr.add, Nat.mod_eq_of_lt hm])
   go_wp2
   go_ret
   exact ⟨by rw [u8_add (by omega), cat_one, HD.out, dec_one (by omega)]; rfl, hb.alloc hb.size _⟩
theorem digits_any (n : Int) {w : World} (h0 : -1000000000000000000 <= n) (h1 : n <= 1000000000000000000) :
  Calls Tryz.prog 157 #[.int .i64 n] w fun e w' => e = .returned (.string ⟨(Lib.itoa n).toArray⟩) /\ Below w.heap.size w w' := by
 by_cases hn : n < 0
 ·have e : Lib.itoa n = 45 :: Lib.decDigits n.natAbs := by rw [Lib.itoa, if_pos hn]
  have hl : (Lib.decDigits n.natAbs).length <= 21 := by
   have := Lib.itoa_length_le n (by omega) (by omega)
   rw [e, qM] at this
   omega
  have HE : Hid _ := e
  clear e
  go_enter Tryz.func157, Tryz.ntmps157
  go_wp2_with fail
  refine (show Calls Tryz.prog 157 #[.int .i64 (-n)] w _ from (by have := digits_pos n.natAbs w (by omega); rw [show ((n.natAbs : Nat) : Int) = -n by omega] at this; exact this)).mono ?_
  rintro e w1 ⟨rfl, b1⟩
  go_wp2
  go_ret
  exact ⟨by rw [HE.out]; exact congrArg (fun x => Ending.returned (.string x)) (cat_one _ _), b1⟩
 ·have e : Lib.itoa n = Lib.decDigits n.toNat := by rw [Lib.itoa, if_neg hn]
  rw [e]
  have := digits_pos n.toNat w (by omega)
  rwa [show ((n.toNat : Nat) : Int) = n by omega] at this
def wordL (c : Int) : List UInt8 := if c = 1 then [100, 111, 110, 101] else if c = 2 then [115, 116, 111, 112, 112, 101, 100] else if c = 3 then [111, 118, 101, 114] else []
def tailL (zs : List Int) : List UInt8 := Lib.joinTail [32] (zs.map Lib.itoa)
def resOkB (c : Int) (n : Nat) (zs : List Int) : Bool := inB c 1 3 && (decide (c = 1 \/ n = 0) && (decide (n <= 6) && allB 999999999999 zs))
def resText (c : Int) (n : Nat) (zs : List Int) : List UInt8 := if resOkB c n zs = true then wordL c ++ tailL zs else []
theorem tail_step (h : k < zs.length) : tailL (zs.take (k + 1)) = tailL (zs.take k) ++ ([32] ++ Lib.itoa (zs[k]?.getD 0)) := by
 unfold tailL Lib.joinTail
 rw [qL h, qD h, List.map_append, List.map_append, List.flatten_append]
 simp only [List.map_cons, List.map_nil, List.flatten_cons, List.flatten_nil, List.append_nil, Option.getD_some]
theorem tail_nil : tailL [] = [] := rfl
theorem tail_end (h : zs.length <= k) : tailL (zs.take k) = tailL zs := by rw [qK h]
theorem resText_no (h : resOkB c n zs = false) : resText c n zs = [] := by rw [resText, h]; rfl
theorem resText_yes (h : resOkB c n zs = true) : resText c n zs = wordL c ++ tailL zs := by rw [resText, if_pos h]
theorem word_len (c : Int) : (wordL c).length <= 7 := by
 unfold wordL
 split
 ·decide
 ·split
  ·decide
  ·split <;> decide
theorem allB_bnd' {m : Int} (hm : 0 <= m) (h : allB m zs = true) : ∀ i : Nat, -m <= zs[i]?.getD 0 /\ zs[i]?.getD 0 <= m := by
 intro i
 by_cases hi : i < zs.length
 ·unfold allB at h
  rw [List.all_eq_true] at h
  have := inB_iff.1 (h zs[i] (List.getElem_mem hi))
  rw [qD hi]
  simpa using this
 ·rw [List.getElem?_eq_none (by omega)]
  simp; omega
theorem ret_str {a b : List UInt8} (h : a = b) : Ending.returned (.string ⟨a.toArray⟩) = .returned (.string ⟨b.toArray⟩) := by rw [h]
theorem stext_any (zs : List Int) {w : World} (hC : Ints w a n zs) (hn : n <= 1048576) :
  Calls Tryz.prog 69 #[resP c a n cap] w fun e w' => e = .returned (.string ⟨(resText c n zs).toArray⟩) /\ Below w.heap.size w w' := by
 have HL : Hid (zs.length = n) := hC.1
 have B0 := ((Below.refl w.heap.size w).alloc (qN _) (.cells #[.int .i64 c, .slice a n cap] 104)).alloc (by simp) (.cells #[.string ⟨#[]⟩, .string ⟨#[100, 111, 110, 101]⟩, .string ⟨#[115, 116, 111, 112, 112, 101, 100]⟩, .string ⟨#[111, 118, 101, 114]⟩] 9)
 cases h1 : inB c 1 3
 ·have HR : Hid _ := resText_no (c := c) (n := n) (zs := zs) (by simp [resOkB, h1])
  go_enter Tryz.func69, Tryz.ntmps69
  go_wp2_with fail
  refine (in_any).mono ?_
  rintro e w1 ⟨rfl, rfl⟩
  rw [h1]
  go_wp2
  go_ret
  exact ⟨by rw [HR.out]; rfl, B0⟩
 have c13 := inB_iff.1 h1
 have H1 : Hid _ := h1
 by_cases h2 : c = 1 \/ n = 0
 ·by_cases h3 : n <= 6
  ·cases h4 : allB 999999999999 zs
   ·have h4' : okN (n : Int) 999999999999 n zs = false := by rw [okN_is rfl, h4]
    have HR : Hid _ := resText_no (c := c) (n := n) (zs := zs) (by simp [resOkB, h4])
    rcases h2 with rfl | rfl
    ·go_enter Tryz.func69, Tryz.ntmps69
     go_wp2_with fail
     refine (in_any).mono ?_
     rintro e w1 ⟨rfl, rfl⟩
     rw [h1]
     go_wp2_with fail
     refine (all_any zs (hC.below B0) hn (by omega) (by omega)).mono ?_
     rintro e w1 ⟨rfl, rfl⟩
     rw [h4']
     go_wp2
     go_ret
     exact ⟨by rw [HR.out]; rfl, B0⟩
    ·exfalso
     have : zs = [] := List.eq_nil_of_length_eq_zero HL.out
     subst this
     cases h4
   ·have H4 : Hid (okN (n : Int) 999999999999 n zs = true) := by show _ = _; rw [okN_is rfl, h4]
    have HR : Hid _ := resText_yes (c := c) (n := n) (zs := zs) (by simp [resOkB, h1, h2, h3, h4])
    have BZ : Hid (∀ i : Nat, -999999999999 <= zs[i]?.getD 0 /\ zs[i]?.getD 0 <= 999999999999) := allB_bnd' (by omega) h4
    clear h1 h4
    by_cases e1 : c = 1
    ·subst e1
     clear h2
     go_enter Tryz.func69, Tryz.ntmps69
     go_wp2_with fail
     refine (in_any).mono ?_
     rintro e w1 ⟨rfl, rfl⟩
     rw [H1.out]
     go_wp2_with fail
     refine (all_any zs (hC.below B0) hn (by omega) (by omega)).mono ?_
     rintro e w1 ⟨rfl, rfl⟩
     rw [H4.out]
     obtain ⟨W, hW⟩ : ∃ W, W = (w.alloc (.cells #[.int .i64 1, .slice a n cap] 104)).alloc (.cells #[.string ⟨#[]⟩, .string ⟨#[100, 111, 110, 101]⟩, .string ⟨#[115, 116, 111, 112, 112, 101, 100]⟩, .string ⟨#[111, 118, 101, 114]⟩] 9) := ⟨_, rfl⟩
     have bx : Cel W w.heap.size [.int .i64 1, .slice a n cap] 104 := by rw [hW]; exact (Cel.new w _ _).alloc _
     have wd : Cel W (w.heap.size + 1) [.string ⟨#[]⟩, .string ⟨#[100, 111, 110, 101]⟩, .string ⟨#[115, 116, 111, 112, 112, 101, 100]⟩, .string ⟨#[111, 118, 101, 114]⟩] 9 := by rw [hW]; have := Cel.new (w.alloc (.cells #[.int .i64 1, .slice a n cap] 104)) [.string ⟨#[]⟩, .string ⟨#[100, 111, 110, 101]⟩, .string ⟨#[115, 116, 111, 112, 112, 101, 100]⟩, .string ⟨#[111, 118, 101, 114]⟩] 9; rwa [World.size_alloc] at this
     rw [<- hW] at B0 ⊢
     clear hW
     have k0 := bx.cell 0
     have k1 := bx.cell 1
     have k2 := wd.cell 1
     simp only [qG, qH] at k0 k1 k2
     have hW := hC.below B0
     clear hC wd
     go_wp2_with fail
     go_loopw [4, 5] (fun s i wr => ∃ (k : Nat) (L : List UInt8), k <= n /\ i = .int .i64 k /\ s = .string ⟨L.toArray⟩ /\ L = wordL 1 ++ tailL (zs.take k) /\ L.length <= 7 + 22 * k /\ Below W.heap.size W wr) (fun _ i _ => n - (intOf i).toNat)
     case atStart => exact ⟨0, wordL 1, qO _, rfl, rfl, by simp [tail_nil], by decide, Below.refl _ _⟩
     case round =>
      obtain ⟨k, L, hk, rfl, rfl, hL, hlen, hb⟩ := hrel
      have HLL : Hid _ := hL
      clear hL
      have hlen' : L.length <= 1000 := by omega
      have kk1 := (bx.below hb).cell 1
      simp only [qG, qH] at kk1
      by_cases hlt : k < n
      ·obtain ⟨b, off, rfl, hcell⟩ := (hW.below hb).pos (by omega)
       have hck : wr.cell? ⟨b, off + k, none⟩ = some (.int .i64 (zs[k]?.getD 0)) := by rw [hcell k hlt]; simp
       have HT : Hid _ := tail_step (zs := zs) (k := k) (by rw [HL.out]; exact hlt)
       have hz := BZ.out k
       generalize HG : zs[k]?.getD 0 = z at *
       clear HG hcell
       obtain ⟨z1, z2⟩ := hz
       have hI := Lib.itoa_length_le z (by omega) (by omega)
       generalize HGI : Lib.itoa z = I at *
       have HGI' : Hid _ := HGI
       clear HGI
       go_wp2_with fail
       refine (digits_any z (by omega) (by omega)).mono ?_
       rintro e w2 ⟨rfl, b2⟩
       rw [HGI'.out]
       go_wp2
       go_roundw
       case rel => exact ⟨k + 1, L ++ [32] ++ I, by omega, by go_num, by rw [show (⟨#[32]⟩ : ByteArray) = ⟨[32].toArray⟩ from rfl, cat_str, cat_str], by rw [HT.out, HLL.out, List.append_assoc, List.append_assoc], by rw [qJ, qJ, qM, List.length_nil]; omega, btq hb b2⟩
       case measure => simp [intOf]; omega
      ·go_wp2
       go_ret
       exact ⟨by rw [HR.out, HLL.out, tail_end (by rw [HL.out]; omega)]; rfl, btq B0 hb⟩
    ·have hn0 : n <= 0 := by omega
     clear h2
     by_cases e2 : c = 2
     ·subst e2
      go_enter Tryz.func69, Tryz.ntmps69
      go_wp2_with fail
      refine (in_any).mono ?_
      rintro e w1 ⟨rfl, rfl⟩
      rw [H1.out]
      go_wp2_with fail
      refine (all_any zs (hC.below B0) hn (by omega) (by omega)).mono ?_
      rintro e w1 ⟨rfl, rfl⟩
      rw [H4.out]
      obtain ⟨W, hW⟩ : ∃ W, W = (w.alloc (.cells #[.int .i64 2, .slice a n cap] 104)).alloc (.cells #[.string ⟨#[]⟩, .string ⟨#[100, 111, 110, 101]⟩, .string ⟨#[115, 116, 111, 112, 112, 101, 100]⟩, .string ⟨#[111, 118, 101, 114]⟩] 9) := ⟨_, rfl⟩
      have bx : Cel W w.heap.size [.int .i64 2, .slice a n cap] 104 := by rw [hW]; exact (Cel.new w _ _).alloc _
      have wd : Cel W (w.heap.size + 1) [.string ⟨#[]⟩, .string ⟨#[100, 111, 110, 101]⟩, .string ⟨#[115, 116, 111, 112, 112, 101, 100]⟩, .string ⟨#[111, 118, 101, 114]⟩] 9 := by rw [hW]; have := Cel.new (w.alloc (.cells #[.int .i64 2, .slice a n cap] 104)) [.string ⟨#[]⟩, .string ⟨#[100, 111, 110, 101]⟩, .string ⟨#[115, 116, 111, 112, 112, 101, 100]⟩, .string ⟨#[111, 118, 101, 114]⟩] 9; rwa [World.size_alloc] at this
      rw [<- hW] at B0 ⊢
      clear hW
      have k0 := bx.cell 0
      have k1 := bx.cell 1
      have k2 := wd.cell 2
      simp only [qG, qH] at k0 k1 k2
      have hW := hC.below B0
      clear hC wd
      go_wp2_with fail
      go_loopw [4, 5] (fun s i wr => ∃ (k : Nat) (L : List UInt8), k <= n /\ i = .int .i64 k /\ s = .string ⟨L.toArray⟩ /\ L = wordL 2 ++ tailL (zs.take k) /\ L.length <= 7 + 22 * k /\ Below W.heap.size W wr) (fun _ i _ => n - (intOf i).toNat)
      case atStart => exact ⟨0, wordL 2, qO _, rfl, rfl, by simp [tail_nil], by decide, Below.refl _ _⟩
      case round =>
       obtain ⟨k, L, hk, rfl, rfl, hL, hlen, hb⟩ := hrel
       have HLL : Hid _ := hL
       clear hL
       have hlen' : L.length <= 1000 := by omega
       have kk1 := (bx.below hb).cell 1
       simp only [qG, qH] at kk1
       by_cases hlt : k < n
       ·exfalso; omega
       ·go_wp2
        go_ret
        exact ⟨by rw [HR.out, HLL.out, tail_end (by rw [HL.out]; omega)]; rfl, btq B0 hb⟩
     ·obtain rfl : c = 3 := by omega
      go_enter Tryz.func69, Tryz.ntmps69
      go_wp2_with fail
      refine (in_any).mono ?_
      rintro e w1 ⟨rfl, rfl⟩
      rw [H1.out]
      go_wp2_with fail
      refine (all_any zs (hC.below B0) hn (by omega) (by omega)).mono ?_
      rintro e w1 ⟨rfl, rfl⟩
      rw [H4.out]
      obtain ⟨W, hW⟩ : ∃ W, W = (w.alloc (.cells #[.int .i64 3, .slice a n cap] 104)).alloc (.cells #[.string ⟨#[]⟩, .string ⟨#[100, 111, 110, 101]⟩, .string ⟨#[115, 116, 111, 112, 112, 101, 100]⟩, .string ⟨#[111, 118, 101, 114]⟩] 9) := ⟨_, rfl⟩
      have bx : Cel W w.heap.size [.int .i64 3, .slice a n cap] 104 := by rw [hW]; exact (Cel.new w _ _).alloc _
      have wd : Cel W (w.heap.size + 1) [.string ⟨#[]⟩, .string ⟨#[100, 111, 110, 101]⟩, .string ⟨#[115, 116, 111, 112, 112, 101, 100]⟩, .string ⟨#[111, 118, 101, 114]⟩] 9 := by rw [hW]; have := Cel.new (w.alloc (.cells #[.int .i64 3, .slice a n cap] 104)) [.string ⟨#[]⟩, .string ⟨#[100, 111, 110, 101]⟩, .string ⟨#[115, 116, 111, 112, 112, 101, 100]⟩, .string ⟨#[111, 118, 101, 114]⟩] 9; rwa [World.size_alloc] at this
      rw [<- hW] at B0 ⊢
      clear hW
      have k0 := bx.cell 0
      have k1 := bx.cell 1
      have k2 := wd.cell 3
      simp only [qG, qH] at k0 k1 k2
      have hW := hC.below B0
      clear hC wd
      go_wp2_with fail
      go_loopw [4, 5] (fun s i wr => ∃ (k : Nat) (L : List UInt8), k <= n /\ i = .int .i64 k /\ s = .string ⟨L.toArray⟩ /\ L = wordL 3 ++ tailL (zs.take k) /\ L.length <= 7 + 22 * k /\ Below W.heap.size W wr) (fun _ i _ => n - (intOf i).toNat)
      case atStart => exact ⟨0, wordL 3, qO _, rfl, rfl, by simp [tail_nil], by decide, Below.refl _ _⟩
      case round =>
       obtain ⟨k, L, hk, rfl, rfl, hL, hlen, hb⟩ := hrel
       have HLL : Hid _ := hL
       clear hL
       have hlen' : L.length <= 1000 := by omega
       have kk1 := (bx.below hb).cell 1
       simp only [qG, qH] at kk1
       by_cases hlt : k < n
       ·exfalso; omega
       ·go_wp2
        go_ret
        exact ⟨by rw [HR.out, HLL.out, tail_end (by rw [HL.out]; omega)]; rfl, btq B0 hb⟩
  ·have HR : Hid _ := resText_no (c := c) (n := n) (zs := zs) (by simp [resOkB, h3])
   obtain rfl : c = 1 := by omega
   go_enter Tryz.func69, Tryz.ntmps69
   go_wp2_with fail
   refine (in_any).mono ?_
   rintro e w1 ⟨rfl, rfl⟩
   rw [h1]
   go_wp2
   go_ret
   exact ⟨by rw [HR.out]; rfl, B0⟩
 ·have HR : Hid _ := resText_no (c := c) (n := n) (zs := zs) (by simp [resOkB, h2])
  have hc1 : (c != 1) = true := by simp; omega
  have hn0 : (0 : Int) < n := by omega
  go_enter Tryz.func69, Tryz.ntmps69
  go_wp2_with fail
  refine (in_any).mono ?_
  rintro e w1 ⟨rfl, rfl⟩
  rw [h1]
  go_wp2
  go_ret
  exact ⟨by rw [HR.out]; rfl, B0⟩
structure JT (w : World) (v : Value) (xs : List ByteArray) (W : World) : Prop where
 b : Below w.heap.size w W
 o : W.ownsRow w.heap.size 9 1 v xs.length (xs.map Value.string)
theorem JT.one (w : World) (x : ByteArray) : JT w (.slice (some ⟨w.heap.size, 0, none⟩) 1 1) [x] (w.alloc (.cells #[.string x] 9)) :=
 ⟨bal, World.ownsRow_lit w #[.string x] 1 (qN _) (by unfold maxLen; omega) rfl⟩
theorem JT.alloc (j : JT w v xs W) (o : Obj) : JT w v xs (W.alloc o) := ⟨j.b.alloc j.b.size _, j.o.alloc o⟩
theorem JT.below {W' : World} (j : JT w v xs W) (h : Below W.heap.size W W') : JT w v xs W' := by
 refine ⟨j.b.trans (h.mono j.b.size), j.o.1, ?_⟩
 rcases j.o.2 with h2 | ⟨g, cap, cur, hv, hg, hh, r⟩
 ·exact Or.inl h2
 ·exact Or.inr ⟨g, cap, cur, hv, hg, by rw [h.block g (lt_of_block hh)]; exact hh, r⟩
theorem JT.app {W' : World} {y : ByteArray} {g : Nat} {o : Obj} (j : JT w v xs W) (hk : xs.length = k) (hown : W'.ownsRow w.heap.size 9 1 (.slice (some ⟨g, 0, none⟩) (k + 1) cap) (k + 1) (xs.map Value.string ++ [.string y])) (hg : (W.alloc o).grownBy W' v.ownBlock) :
  JT w (.slice (some ⟨g, 0, none⟩) (k + 1) cap) (xs ++ [y]) W' := by
 refine ⟨(j.alloc o).b.grown hg (j.alloc o).b.size (fun k hk => ((j.alloc o).o.lt k hk).1), ?_⟩
 rw [qJ, hk, List.map_append]
 exact hown
theorem JT.cells (j : JT w v xs W) (hk : xs.length = k) (h0 : 0 < k) : ∃ g cap, v = .slice (some ⟨g, 0, none⟩) k cap /\ k <= cap /\ g < W.heap.size /\ ∀ (i : Nat) x, xs[i]? = some x -> W.cell? ⟨g, 0 + i, none⟩ = some (.string x) := by
 subst hk
 rcases j.o.2 with ⟨hv, h⟩ | ⟨g, cap', cur, rfl, hg, hh, hl, _, _⟩
 ·omega
 ·refine ⟨g, cap', rfl, hl, lt_of_block hh, fun i x hx => ?_⟩
  have hi := (List.getElem?_eq_some_iff.1 hx).1
  have := j.o.cellAt i (by omega)
  rw [Nat.zero_add, this]
  simp [hx]
theorem newsS {x : Value} {t : TypeId} : ∀ j u, [x][j]? = some u -> (w.alloc (.cells #[x] t)).cell? ((⟨w.heap.size, 0, none⟩ : Addr).add j) = some u := fun j u hu => by
 match j, hu with
 | 0, hu =>
  simp only [qG, Option.some.injEq] at hu
  subst hu
  simp [Addr.add]
theorem oneS {x : ByteArray} : ∀ u ∈ [Value.string x], u.oneCell' = true := fun u hu => by
 simp at hu; subst hu; rfl
theorem Tryz.infoStr : (Tryz.prog.info? 9).map (fun i => (i.zero, i.size, i.bytes)) = some (some (.string ⟨#[]⟩), 1, 16) := by kernel_rfl
theorem word_any : Calls Tryz.prog 243 #[.int .i64 c] w fun e w' => e = .returned (.string ⟨(wordL c).toArray⟩) /\ w' = w := by
 by_cases h1 : c = 1
 ·subst h1
  go_enter Tryz.func243, Tryz.ntmps243
  go_wp2
  go_ret
  exact ⟨rfl, rfl⟩
 have h1' : (c == 1) = false := by simp [h1]
 by_cases h2 : c = 2
 ·subst h2
  go_enter Tryz.func243, Tryz.ntmps243
  go_wp2
  go_ret
  exact ⟨rfl, rfl⟩
 have h2' : (c == 2) = false := by simp [h2]
 by_cases h3 : c = 3
 ·subst h3
  go_enter Tryz.func243, Tryz.ntmps243
  go_wp2
  go_ret
  exact ⟨rfl, rfl⟩
 have h3' : (c == 3) = false := by simp [h3]
 have e : wordL c = [] := by rw [wordL, if_neg h1, if_neg h2, if_neg h3]
 rw [e]
 go_enter Tryz.func243, Tryz.ntmps243
 go_wp2
 go_ret
 exact ⟨rfl, rfl⟩
def wordsL (c : Int) (zs : List Int) : List ByteArray := ⟨(wordL c).toArray⟩ :: zs.map fun z => ⟨(Lib.itoa z).toArray⟩
theorem words_join (c : Int) (zs : List Int) : Lib.join ((wordsL c zs).map (·.data.toList)) [32] = wordL c ++ tailL zs := by
 rw [wordsL, List.map_cons, Lib.join_cons, tailL, List.map_map]
 rfl
theorem words_step (h : k < zs.length) : wordsL c (zs.take (k + 1)) = wordsL c (zs.take k) ++ [⟨(Lib.itoa (zs[k]?.getD 0)).toArray⟩] := by
 rw [wordsL, wordsL, qL h, qD h, List.map_append]
 rfl
theorem tail_len (hb : ∀ i : Nat, -999999999999 <= zs[i]?.getD 0 /\ zs[i]?.getD 0 <= 999999999999) : ∀ k, k <= zs.length -> (tailL (zs.take k)).length <= 22 * k
 | 0, _ => by simp [tailL, Lib.joinTail]
 | k + 1, h => by
  have ih := tail_len hb k (by omega)
  have hz := hb k
  have := Lib.itoa_length_le (zs[k]?.getD 0) (by omega) (by omega)
  rw [tail_step (by omega), qJ, qJ]
  simp only [qM, List.length_nil]
  omega
theorem itext_any (zs : List Int) {w : World} (hC : Ints w a n zs) (hn : n <= 1048576) (hT : Lib.TabBelow Tryz.prog w.heap.size w "internal/strconv.uint64pow10" .u64 Lib.pow10Tab) :
  Calls Tryz.prog 209 #[resP c a n cap] w fun e w' => e = .returned (.string ⟨(resText c n zs).toArray⟩) /\ Below w.heap.size w w' := by
 have HL : Hid (zs.length = n) := hC.1
 have HTB : Hid _ := hT
 clear hT
 have B0 := (Below.refl w.heap.size w).alloc (qN _) (.cells #[.int .i64 c, .slice a n cap] 104)
 obtain ⟨i0, hi, hz0, hz1, hz2⟩ := info_parts Tryz.infoStr
 cases h1 : inB c 1 3
 ·have HR : Hid _ := resText_no (c := c) (n := n) (zs := zs) (by simp [resOkB, h1])
  have c13 := inB_not.1 h1
  have hw : (⟨(wordL c).toArray⟩ : ByteArray) = ⟨#[]⟩ := by rw [wordL, if_neg (by omega), if_neg (by omega), if_neg (by omega)]
  have HW : Hid _ := hw
  clear hw h1
  go_enter Tryz.func209, Tryz.ntmps209
  go_wp2_with fail
  refine (word_any).mono ?_
  rintro e w1 ⟨rfl, rfl⟩
  rw [HW.out]
  go_wp2
  go_ret
  exact ⟨by rw [HR.out]; rfl, B0⟩
 have c13 := inB_iff.1 h1
 by_cases h2 : c = 1 \/ n = 0
 ·by_cases h3 : n <= 6
  ·cases h4 : allB 999999999999 zs
   ·have HR : Hid _ := resText_no (c := c) (n := n) (zs := zs) (by simp [resOkB, h4])
    rcases h2 with rfl | rfl
    ·go_enter Tryz.func209, Tryz.ntmps209
     go_wp2_with fail
     refine (word_any).mono ?_
     rintro e w1 ⟨rfl, rfl⟩
     rw [show (⟨(wordL 1).toArray⟩ : ByteArray) = ⟨#[100, 111, 110, 101]⟩ from rfl]
     go_wp2_with fail
     refine (within_any _ _ _ zs (hC.below B0) hn (by omega) (by omega)).mono ?_
     rintro e w1 ⟨rfl, rfl⟩
     rw [h4]
     go_wp2
     go_ret
     exact ⟨by rw [HR.out]; rfl, B0⟩
    ·exfalso
     have : zs = [] := List.eq_nil_of_length_eq_zero HL.out
     subst this
     cases h4
   ·have H4 : Hid (allB 999999999999 zs = true) := h4
    have HR : Hid _ := resText_yes (c := c) (n := n) (zs := zs) (by simp [resOkB, h1, h2, h3, h4])
    have BZ : Hid (∀ i : Nat, -999999999999 <= zs[i]?.getD 0 /\ zs[i]?.getD 0 <= 999999999999) := allB_bnd' (by omega) h4
    clear h1 h4
    by_cases e1 : c = 1
    ·subst e1
     clear h2
     go_enter Tryz.func209, Tryz.ntmps209
     go_wp2_with fail
     refine (word_any).mono ?_
     rintro e w1 ⟨rfl, rfl⟩
     rw [show (⟨(wordL 1).toArray⟩ : ByteArray) = ⟨#[100, 111, 110, 101]⟩ from rfl]
     go_wp2_with fail
     refine (within_any _ _ _ zs (hC.below B0) hn (by omega) (by omega)).mono ?_
     rintro e w1 ⟨rfl, rfl⟩
     rw [H4.out]
     obtain ⟨W, hW⟩ : ∃ W, W = w.alloc (.cells #[.int .i64 1, .slice a n cap] 104) := ⟨_, rfl⟩
     have bx : Cel W w.heap.size [.int .i64 1, .slice a n cap] 104 := by rw [hW]; exact Cel.new w _ _
     have zW : W.heap.size = w.heap.size + 1 := by rw [hW, World.size_alloc]
     have HZ : Hid _ := zW
     rw [<- hW] at B0 ⊢
     clear hW zW
     have hltW := bx.lt
     have k1 := bx.cell 1
     simp only [qG, qH] at k1
     have hCW := hC.below B0
     clear hC
     go_wp2_with fail
     go_loopw [5, 7, 43] (fun v _ i wr => ∃ (k : Nat) (xs : List ByteArray), k <= n /\ i = .int .i64 k /\ xs.length = k + 1 /\ xs = wordsL 1 (zs.take k) /\ JT W v xs wr) (fun _ _ i _ => n - (intOf i).toNat)
     case atStart => exact ⟨0, _, qO _, rfl, rfl, rfl, JT.one W ⟨#[100, 111, 110, 101]⟩⟩
     case round =>
      obtain ⟨k, xs, hk, rfl, hxl, hxs, j⟩ := hrel
      have HXL : Hid _ := hxl
      have HXS : Hid _ := hxs
      clear hxl hxs
      have hjb := j.b.size
      by_cases hlt : k < n
      ·obtain ⟨b, off, rfl, hcell⟩ := (hCW.below j.b).pos (by omega)
       have hck : wr.cell? ⟨b, off + k, none⟩ = some (.int .i64 (zs[k]?.getD 0)) := by rw [hcell k hlt]; simp
       have HS : Hid _ := words_step (c := 1) (zs := zs) (k := k) (by rw [HL.out]; exact hlt)
       have hz := BZ.out k
       generalize HG : zs[k]?.getD 0 = z at *
       clear HG hcell
       obtain ⟨z1, z2⟩ := hz
       have tab : Lib.TabIs Tryz.prog wr "internal/strconv.uint64pow10" .u64 Lib.pow10Tab := HTB.out wr (btq B0 j.b)
       go_wp2_with fail
       refine (Tryz.strconv_Itoa z (by omega) (by omega) _ tab).mono ?_
       rintro e w2 ⟨rfl, q, os, hw2⟩
       have b2 : Below wr.heap.size wr w2 := by rw [hw2]; exact Lib.below_grow _ _ (qN _) _ _
       clear hw2 tab
       have j2 := j.below b2
       have jo := j2.o
       rw [HXL.out] at jo
       have hjb2 := j2.b.size
       clear b2 j
       obtain ⟨I, hI⟩ : ∃ I : ByteArray, I = ⟨(Lib.itoa z).toArray⟩ := ⟨_, rfl⟩
       rw [<- hI]
       have HI : Hid _ := hI
       clear hI
       go_wp2_with (at_builtin; go_must (refine wpList_append_lies _ rfl (.tmp 47) (.tmp 50) 201 rfl W.heap.size 9 i0 (.string ⟨#[]⟩) 1 16 Tryz.underlying201 hi hz0 hz1 hz2 rfl (by decide) _ _ _ rfl (jo.alloc _) ⟨w2.heap.size, 0, none⟩ 1 1 [.string I] rfl rfl (newsS) (oneS) (by omega) (by unfold maxLen; omega) (by omega) (by rw [World.size_alloc]; omega) _ rfl ?_); intro g cp w3 hown hgrow hat hlt1)
       have j3 := j2.app HXL.out hown hgrow
       clear hown hgrow jo j2 hat
       go_wp2
       go_roundw
       case rel => exact ⟨k + 1, _, by omega, by go_num, by rw [qJ, HXL.out]; rfl, by rw [HS.out, HXS.out, HI.out], j3⟩
       case measure => simp [intOf]; omega
      ·obtain rfl : k = n := by omega
       obtain ⟨g, gc, rfl, hcap, hg, hcs⟩ := j.cells HXL.out (by omega)
       have HJ := Tryz.strings_Join g 0 gc xs ⟨#[32]⟩ wr hcs hg (by rw [HXL.out]; omega) (by rw [HXL.out]; exact hcap) (by
        rw [HXS.out, qK (by rw [HL.out]; exact qN _)]
        have := words_join 1 zs
        rw [show (⟨#[32]⟩ : ByteArray).data.toList = [32] from rfl, this, qJ]
        have := tail_len BZ.out zs.length (qN _)
        rw [List.take_length] at this
        have := word_len 1
        have := HL.out
        omega)
       rw [HXL.out] at HJ
       have jb := j.b
       clear hcs hcap hg j
       go_wp2_with fail
       refine HJ.mono ?_
       rintro e w2 ⟨rfl, b2⟩
       have B2 := (btq B0 jb).trans (b2.mono (by omega))
       go_wp2
       go_ret
       refine ⟨?_, B2⟩
       rw [HR.out, <- words_join 1 zs, HXS.out, qK (by rw [HL.out]; exact qN _)]
       rfl
    ·have hn0 : n <= 0 := by omega
     have hn0' : ((n : Int) == 0) = true := by simp; omega
     clear h2
     by_cases e2 : c = 2
     ·subst e2
      go_enter Tryz.func209, Tryz.ntmps209
      go_wp2_with fail
      refine (word_any).mono ?_
      rintro e w1 ⟨rfl, rfl⟩
      rw [show (⟨(wordL 2).toArray⟩ : ByteArray) = ⟨#[115, 116, 111, 112, 112, 101, 100]⟩ from rfl]
      go_wp2_with fail
      refine (within_any _ _ _ zs (hC.below B0) hn (by omega) (by omega)).mono ?_
      rintro e w1 ⟨rfl, rfl⟩
      rw [H4.out]
      obtain ⟨W, hW⟩ : ∃ W, W = w.alloc (.cells #[.int .i64 2, .slice a n cap] 104) := ⟨_, rfl⟩
      have bx : Cel W w.heap.size [.int .i64 2, .slice a n cap] 104 := by rw [hW]; exact Cel.new w _ _
      have zW : W.heap.size = w.heap.size + 1 := by rw [hW, World.size_alloc]
      have HZ : Hid _ := zW
      rw [<- hW] at B0 ⊢
      clear hW zW
      have hltW := bx.lt
      have k1 := bx.cell 1
      simp only [qG, qH] at k1
      have hCW := hC.below B0
      clear hC
      go_wp2_with fail
      go_loopw [5, 7, 43] (fun v _ i wr => ∃ (k : Nat) (xs : List ByteArray), k <= n /\ i = .int .i64 k /\ xs.length = k + 1 /\ xs = wordsL 2 (zs.take k) /\ JT W v xs wr) (fun _ _ i _ => n - (intOf i).toNat)
      case atStart => exact ⟨0, _, qO _, rfl, rfl, rfl, JT.one W ⟨#[115, 116, 111, 112, 112, 101, 100]⟩⟩
      case round =>
       obtain ⟨k, xs, hk, rfl, hxl, hxs, j⟩ := hrel
       have HXL : Hid _ := hxl
       have HXS : Hid _ := hxs
       clear hxl hxs
       have hjb := j.b.size
       by_cases hlt : k < n
       ·exfalso; omega
       ·obtain rfl : k = n := by omega
        obtain ⟨g, gc, rfl, hcap, hg, hcs⟩ := j.cells HXL.out (by omega)
        have HJ := Tryz.strings_Join g 0 gc xs ⟨#[32]⟩ wr hcs hg (by rw [HXL.out]; omega) (by rw [HXL.out]; exact hcap) (by
         rw [HXS.out, qK (by rw [HL.out]; exact qN _)]
         have := words_join 2 zs
         rw [show (⟨#[32]⟩ : ByteArray).data.toList = [32] from rfl, this, qJ]
         have := tail_len BZ.out zs.length (qN _)
         rw [List.take_length] at this
         have := word_len 2
         have := HL.out
         omega)
        rw [HXL.out] at HJ
        have jb := j.b
        clear hcs hcap hg j
        go_wp2_with fail
        refine HJ.mono ?_
        rintro e w2 ⟨rfl, b2⟩
        have B2 := (btq B0 jb).trans (b2.mono (by omega))
        go_wp2
        go_ret
        refine ⟨?_, B2⟩
        rw [HR.out, <- words_join 2 zs, HXS.out, qK (by rw [HL.out]; exact qN _)]
        rfl
     ·obtain rfl : c = 3 := by omega
      go_enter Tryz.func209, Tryz.ntmps209
      go_wp2_with fail
      refine (word_any).mono ?_
      rintro e w1 ⟨rfl, rfl⟩
      rw [show (⟨(wordL 3).toArray⟩ : ByteArray) = ⟨#[111, 118, 101, 114]⟩ from rfl]
      go_wp2_with fail
      refine (within_any _ _ _ zs (hC.below B0) hn (by omega) (by omega)).mono ?_
      rintro e w1 ⟨rfl, rfl⟩
      rw [H4.out]
      obtain ⟨W, hW⟩ : ∃ W, W = w.alloc (.cells #[.int .i64 3, .slice a n cap] 104) := ⟨_, rfl⟩
      have bx : Cel W w.heap.size [.int .i64 3, .slice a n cap] 104 := by rw [hW]; exact Cel.new w _ _
      have zW : W.heap.size = w.heap.size + 1 := by rw [hW, World.size_alloc]
      have HZ : Hid _ := zW
      rw [<- hW] at B0 ⊢
      clear hW zW
      have hltW := bx.lt
      have k1 := bx.cell 1
      simp only [qG, qH] at k1
      have hCW := hC.below B0
      clear hC
      go_wp2_with fail
      go_loopw [5, 7, 43] (fun v _ i wr => ∃ (k : Nat) (xs : List ByteArray), k <= n /\ i = .int .i64 k /\ xs.length = k + 1 /\ xs = wordsL 3 (zs.take k) /\ JT W v xs wr) (fun _ _ i _ => n - (intOf i).toNat)
      case atStart => exact ⟨0, _, qO _, rfl, rfl, rfl, JT.one W ⟨#[111, 118, 101, 114]⟩⟩
      case round =>
       obtain ⟨k, xs, hk, rfl, hxl, hxs, j⟩ := hrel
       have HXL : Hid _ := hxl
       have HXS : Hid _ := hxs
       clear hxl hxs
       have hjb := j.b.size
       by_cases hlt : k < n
       ·exfalso; omega
       ·obtain rfl : k = n := by omega
        obtain ⟨g, gc, rfl, hcap, hg, hcs⟩ := j.cells HXL.out (by omega)
        have HJ := Tryz.strings_Join g 0 gc xs ⟨#[32]⟩ wr hcs hg (by rw [HXL.out]; omega) (by rw [HXL.out]; exact hcap) (by
         rw [HXS.out, qK (by rw [HL.out]; exact qN _)]
         have := words_join 3 zs
         rw [show (⟨#[32]⟩ : ByteArray).data.toList = [32] from rfl, this, qJ]
         have := tail_len BZ.out zs.length (qN _)
         rw [List.take_length] at this
         have := word_len 3
         have := HL.out
         omega)
        rw [HXL.out] at HJ
        have jb := j.b
        clear hcs hcap hg j
        go_wp2_with fail
        refine HJ.mono ?_
        rintro e w2 ⟨rfl, b2⟩
        have B2 := (btq B0 jb).trans (b2.mono (by omega))
        go_wp2
        go_ret
        refine ⟨?_, B2⟩
        rw [HR.out, <- words_join 3 zs, HXS.out, qK (by rw [HL.out]; exact qN _)]
        rfl
  ·have HR : Hid _ := resText_no (c := c) (n := n) (zs := zs) (by simp [resOkB, h3])
   obtain rfl : c = 1 := by omega
   go_enter Tryz.func209, Tryz.ntmps209
   go_wp2_with fail
   refine (word_any).mono ?_
   rintro e w1 ⟨rfl, rfl⟩
   rw [show (⟨(wordL 1).toArray⟩ : ByteArray) = ⟨#[100, 111, 110, 101]⟩ from rfl]
   go_wp2
   go_ret
   exact ⟨by rw [HR.out]; rfl, B0⟩
 ·have HR : Hid _ := resText_no (c := c) (n := n) (zs := zs) (by simp [resOkB, h2])
  have hn0 : ((n : Int) == 0) = false := by simp; omega
  clear h1
  by_cases e2 : c = 2
  ·subst e2
   go_enter Tryz.func209, Tryz.ntmps209
   go_wp2_with fail
   refine (word_any).mono ?_
   rintro e w1 ⟨rfl, rfl⟩
   rw [show (⟨(wordL 2).toArray⟩ : ByteArray) = ⟨#[115, 116, 111, 112, 112, 101, 100]⟩ from rfl]
   go_wp2
   go_ret
   exact ⟨by rw [HR.out]; rfl, B0⟩
  ·obtain rfl : c = 3 := by omega
   go_enter Tryz.func209, Tryz.ntmps209
   go_wp2_with fail
   refine (word_any).mono ?_
   rintro e w1 ⟨rfl, rfl⟩
   rw [show (⟨(wordL 3).toArray⟩ : ByteArray) = ⟨#[111, 118, 101, 114]⟩ from rfl]
   go_wp2
   go_ret
   exact ⟨by rw [HR.out]; rfl, B0⟩
def fullB (l : List UInt8) : Bool := !(⟨l.toArray⟩ : ByteArray).toList.isEmpty
theorem sresok_any (zs : List Int) {w : World} (hC : Ints w a n zs) (hn : n <= 1048576) :
  Calls Tryz.prog 182 #[resP c a n cap] w fun e w' => e = .returned (.bool (fullB (resText c n zs))) /\ Below w.heap.size w w' := by
 obtain ⟨T, hTx⟩ : ∃ T : ByteArray, T = ⟨(resText c n zs).toArray⟩ := ⟨_, rfl⟩
 have HTX : Hid _ := hTx
 clear hTx
 have B0 := (Below.refl w.heap.size w).alloc (qN _) (.cells #[.int .i64 c, .slice a n cap] 104)
 go_enter Tryz.func182, Tryz.ntmps182
 go_wp2_with fail
 refine (stext_any zs (hC.alloc _) hn).mono ?_
 rintro e w1 ⟨rfl, b1⟩
 rw [<- HTX.out]
 go_wp2
 go_ret
 exact ⟨by rw [fullB, <- HTX.out]; rfl, btq B0 b1⟩
theorem iresok_any (zs : List Int) {w : World} (hC : Ints w a n zs) (hn : n <= 1048576) (hT : Lib.TabBelow Tryz.prog w.heap.size w "internal/strconv.uint64pow10" .u64 Lib.pow10Tab) :
  Calls Tryz.prog 145 #[resP c a n cap] w fun e w' => e = .returned (.bool (fullB (resText c n zs))) /\ Below w.heap.size w w' := by
 obtain ⟨T, hTx⟩ : ∃ T : ByteArray, T = ⟨(resText c n zs).toArray⟩ := ⟨_, rfl⟩
 have HTX : Hid _ := hTx
 have HT : Hid _ := hT
 clear hTx hT
 have B0 := (Below.refl w.heap.size w).alloc (qN _) (.cells #[.int .i64 c, .slice a n cap] 104)
 go_enter Tryz.func145, Tryz.ntmps145
 go_wp2_with fail
 refine (itext_any zs (hC.alloc _) hn (fun w' h' => HT.out w' (btq B0 h'))).mono ?_
 rintro e w1 ⟨rfl, b1⟩
 rw [<- HTX.out]
 go_wp2
 go_ret
 exact ⟨by rw [fullB, <- HTX.out]; rfl, btq B0 b1⟩
def dnOk (s c : Int) (n : Nat) (zs : List Int) : Bool := if s = 0 then decide (c = 0) && decide (n = 0) else inB s 1 300 && fullB (resText c n zs)
def DV.ok (f : DV) : Bool := dnOk f.q f.c f.t.n f.t.x
def donesB (cl : Int) (N : Nat) (fs : List DV) : Bool := decide ((N : Int) = cl) && fs.all DV.ok
theorem full_code (h : fullB (resText c n zs) = true) : c ≠ 0 := fun e => by
 subst e
 rw [resText_no (by simp [resOkB, inB])] at h
 simp [fullB, ByteArray.toList_mk] at h
theorem dn_zero : dnOk 0 c n zs = (decide (c = 0) && decide (n = 0)) := by rw [dnOk, if_pos rfl]
theorem dn_some {s : Int} (h : s ≠ 0) : dnOk s c n zs = (inB s 1 300 && fullB (resText c n zs)) := by rw [dnOk, if_neg h]
theorem dones_not (h : ¬ (N : Int) = cl) : donesB cl N fs = false := by simp [donesB, h]
theorem dones_is (h : (N : Int) = cl) : donesB cl N fs = fs.all DV.ok := by simp [donesB, h]
theorem dones_step (h : k < fs.length) (h1 : (fs.take k).all DV.ok = true) (h2 : (fs[k]?.getD noD).ok = true) : (fs.take (k + 1)).all DV.ok = true := by
 rw [qL h, List.all_append, h1]
 rw [qD h] at h2
 simpa using h2
theorem dones_no (h : k < fs.length) (h2 : (fs[k]?.getD noD).ok = false) : fs.all DV.ok = false := by
 rw [List.all_eq_false]
 refine ⟨fs[k], List.getElem_mem h, ?_⟩
 rw [qD h] at h2
 simpa using h2
theorem dones_end (h : fs.length <= k) (h1 : (fs.take k).all DV.ok = true) : fs.all DV.ok = true := by rwa [qK h] at h1
theorem dones_copy {gs : List DV} (hl : gs.length = fs.length) (h : copiesDS fs gs) : donesB cl N gs = donesB cl N fs := by
 have : gs.map DV.ok = fs.map DV.ok := by
  apply List.ext_getElem?
  intro i
  by_cases hi : i < gs.length
  ·obtain ⟨e1, e2, ⟨e3, e4⟩, -⟩ := h i hi
   have e : (gs[i]?.getD noD).ok = (fs[i]?.getD noD).ok := by rw [DV.ok, DV.ok, e1, e2, e3, e4]
   rw [qD hi, qD (by omega)] at e
   simp only [Option.getD_some] at e
   rw [List.getElem?_map, List.getElem?_map, qD hi, qD (by omega)]
   simp [e]
  ·rw [List.getElem?_eq_none (by simp; omega), List.getElem?_eq_none (by simp; omega)]
 have e1 : ∀ xs : List DV, xs.all DV.ok = (xs.map DV.ok).all id := fun xs => by simp [List.all_map]
 rw [donesB, donesB, e1, e1, this]
theorem same_copyD {gs hs : List DV} (h1 : gs.length = N) (h2 : hs.length = N) (c1 : copiesDS fs gs) (c2 : copiesDS fs hs) : ∀ i, i < N -> sameD (gs[i]?.getD noD) (hs[i]?.getD noD) := fun i hi => by
 obtain ⟨a1, a2, a3, -⟩ := c1 i (by omega)
 obtain ⟨b1, b2, b3, -⟩ := c2 i (by omega)
 exact ⟨by rw [a1, b1], by rw [a2, b2], by show _ = _; rw [a3.2, b3.2], trivial⟩
theorem inothing_any :
  Calls Tryz.prog 238 #[resP c a n cap] w fun e w' => e = .returned (.bool (decide (c = 0) && decide (n = 0))) /\ Below w.heap.size w w' := by
 have B0 := (Below.refl w.heap.size w).alloc (qN _) (.cells #[.int .i64 c, .slice a n cap] 104)
 by_cases h : c = 0
 ·subst h
  have e2 : ((n : Int) == 0) = decide (n = 0) := by by_cases hn : n = 0 <;> simp [hn]
  go_enter Tryz.func238, Tryz.ntmps238
  go_wp2
  go_ret
  exact ⟨ret_bool (by simp), B0⟩
 ·have h' : (c == 0) = false := by simpa using h
  go_enter Tryz.func238, Tryz.ntmps238
  go_wp2
  go_ret
  exact ⟨ret_bool (by simp [h]), B0⟩
theorem idone_any {s : Int} (zs : List Int) {w : World} (hC : Ints w a n zs) (hn : n <= 1048576) (hT : Lib.TabBelow Tryz.prog w.heap.size w "internal/strconv.uint64pow10" .u64 Lib.pow10Tab) :
  Calls Tryz.prog 194 #[doV s c a n cap] w fun e w' => e = .returned (.bool (dnOk s c n zs)) /\ Below w.heap.size w w' := by
 have HT : Hid _ := hT
 clear hT
 have n0 := Cel.new w [.int .i64 s, .int .i64 c, .slice a n cap] 219
 have B0 := (Below.refl w.heap.size w).alloc (qN _) (.cells #[.int .i64 s, .int .i64 c, .slice a n cap] 219)
 by_cases h : s = 0
 ·subst h
  go_enter Tryz.func194, Tryz.ntmps194
  go_wp2_with fail
  refine (inothing_any).mono ?_
  rintro e w1 ⟨rfl, b1⟩
  go_wp2
  go_ret
  exact ⟨ret_bool (by rw [dn_zero]), btq B0 b1⟩
 ·have h' : (s == 0) = false := by simpa using h
  have HS : Hid (s ≠ 0) := h
  clear h
  obtain ⟨x1, hx1⟩ : ∃ y, y = betB 1 300 [s] := ⟨_, rfl⟩
  have H1 : Hid _ := hx1
  clear hx1
  have HB : Hid (dnOk s c n zs = (x1 && fullB (resText c n zs))) := by show _ = _; rw [dn_some HS.out, H1.out, bet_one]
  have B1 := B0.alloc B0.size (.cells #[.int .i64 s] 3)
  go_enter Tryz.func194, Tryz.ntmps194
  go_wp2_with fail
  refine (between_any [s] _ _ (by have := one_ints (w.alloc (.cells #[.int .i64 s, .int .i64 c, .slice a n cap] 219)) s 3; rw [World.size_alloc] at this; exact this) (by omega)).mono ?_
  rintro e w1 ⟨rfl, rfl⟩
  rw [<- H1.out]
  cases x1
  ·go_wp2
   go_ret
   exact ⟨ret_bool (by rw [HB.out]; rfl), B1⟩
  go_wp2_with fail
  refine (iresok_any zs (hC.below B1) hn (fun w' h' => HT.out w' (btq B1 h'))).mono ?_
  rintro e w1 ⟨rfl, b1⟩
  go_wp2
  go_ret
  exact ⟨ret_bool (by rw [HB.out]; rfl), btq B1 b1⟩
theorem idones_any {da : Option Addr} {dn dc : Nat} (fs : List DV) {w : World} (hN : fs.length = dn) (hF : DSG w da fs) (hz : dn <= 1048576) (hT : Lib.TabBelow Tryz.prog w.heap.size w "internal/strconv.uint64pow10" .u64 Lib.pow10Tab) :
  Calls Tryz.prog 132 #[plV cl ad N cap ga gn gc sa sn sc, .slice da dn dc] w fun e w' => e = .returned (.bool (donesB cl dn fs)) /\ Below w.heap.size w w' := by
 have HT : Hid _ := hT
 have HN : Hid (fs.length = dn) := hN
 clear hT hN
 have B0 := (Below.refl w.heap.size w).alloc (qN _) (.cells #[.int .i64 cl, .slice ad N cap, .slice ga gn gc, .slice sa sn sc] 41)
 by_cases hc : (dn : Int) = cl
 ·have hc' : ((dn : Int) != cl) = false := by simpa using hc
  have HC : Hid _ := hc
  clear hc
  go_enter Tryz.func132, Tryz.ntmps132
  go_wp2_with fail
  obtain ⟨W0, hW0⟩ : ∃ W, W = w.alloc (.cells #[.int .i64 cl, .slice ad N cap, .slice ga gn gc, .slice sa sn sc] 41) := ⟨_, rfl⟩
  rw [<- hW0] at B0 ⊢
  clear hW0
  go_loopw [6, 14] (fun _ i wr => ∃ k : Nat, k <= dn /\ i = .int .i64 k /\ Below w.heap.size w wr /\ (fs.take k).all DV.ok = true) (fun _ i _ => dn - (intOf i).toNat)
  case atStart => exact ⟨0, qO _, rfl, B0, rfl⟩
  case round =>
   obtain ⟨k, hk, rfl, hb, hall⟩ := hrel
   have HA : Hid _ := hall
   clear hall
   by_cases hlt : k < dn
   ·obtain ⟨b, off, rfl, hc, hr⟩ := (hF.below hb) k (by rw [HN.out]; exact hlt)
    generalize HG : fs[k]?.getD noD = g at *
    have HG' : Hid (fs[k]?.getD noD = g) := HG
    clear HG hF
    obtain ⟨e0, e1, e2⟩ := cellsD hc
    obtain ⟨gs, gc, ⟨gta, gtn, gtc, gtx⟩⟩ := g
    have e0' : wr.cell? ⟨b, off + k * 3, none⟩ = some (.int .i64 gs) := e0
    have e1' : wr.cell? ⟨b, off + k * 3 + 1, none⟩ = some (.int .i64 gc) := e1
    have e2' : wr.cell? ⟨b, off + k * 3 + 2, none⟩ = some (.slice gta gtn gtc) := e2
    have hI : Ints wr gta gtn gtx := hr.1.1
    have hz' : gtn <= 1048576 := hr.1.2
    clear e0 e1 e2 hc hr
    have hlt' : (k : Int) < (dn : Int) := by omega
    have bA := hb.alloc hb.size (.cells #[.int .i64 gs, .int .i64 gc, .slice gta gtn gtc] 219)
    go_wp2_with fail
    refine (idone_any gtx (hI.alloc _) hz' (fun w' h' => HT.out w' (btq bA h'))).mono ?_
    rintro e w1 ⟨rfl, b1⟩
    have hb1 := btq bA b1
    cases hd : dnOk gs gc gtn gtx
    ·go_wp2
     go_ret
     exact ⟨ret_bool (by rw [dones_is HC.out, dones_no (by rw [HN.out]; exact hlt) (by rw [HG'.out]; exact hd)]), hb1⟩
    ·go_wp2
     go_roundw
     case rel => exact ⟨k + 1, by omega, by go_num, hb1, dones_step (by rw [HN.out]; exact hlt) HA.out (by rw [HG'.out]; exact hd)⟩
     case measure => simp [intOf]; omega
   ·go_wp2
    go_ret
    exact ⟨ret_bool (by rw [dones_is HC.out, dones_end (by rw [HN.out]; omega) HA.out]), hb⟩
 ·have hc' : ((dn : Int) != cl) = true := by simpa using hc
  go_enter Tryz.func132, Tryz.ntmps132
  go_wp2
  go_ret
  exact ⟨ret_bool (by rw [dones_not hc]), B0⟩
theorem sdones_any {da : Option Addr} {dn dc : Nat} (fs : List DV) {w : World} (hN : fs.length = dn) (hF : DSG w da fs) (hz : dn <= 1048576) :
  Calls Tryz.prog 186 #[plV cl ad N cap ga gn gc sa sn sc, .slice da dn dc] w fun e w' => e = .returned (.bool (donesB cl dn fs)) /\ Below w.heap.size w w' := by
 have HN : Hid (fs.length = dn) := hN
 clear hN
 have B0 := (Below.refl w.heap.size w).alloc (qN _) (.cells #[.int .i64 cl, .slice ad N cap, .slice ga gn gc, .slice sa sn sc] 41)
 by_cases hc : (dn : Int) = cl
 ·have hc' : ((dn : Int) != cl) = false := by simpa using hc
  have HC : Hid _ := hc
  clear hc
  go_enter Tryz.func186, Tryz.ntmps186
  go_wp2_with fail
  obtain ⟨W0, hW0⟩ : ∃ W, W = w.alloc (.cells #[.int .i64 cl, .slice ad N cap, .slice ga gn gc, .slice sa sn sc] 41) := ⟨_, rfl⟩
  rw [<- hW0] at B0 ⊢
  clear hW0
  go_loopw [5] (fun i wr => ∃ k : Nat, k <= dn /\ i = .int .i64 k /\ Below w.heap.size w wr /\ (fs.take k).all DV.ok = true) (fun i _ => dn - (intOf i).toNat)
  case atStart => exact ⟨0, qO _, rfl, B0, rfl⟩
  case round =>
   obtain ⟨k, hk, rfl, hb, hall⟩ := hrel
   have HA : Hid _ := hall
   clear hall
   by_cases hlt : k < dn
   ·obtain ⟨b, off, rfl, hc, hr⟩ := (hF.below hb) k (by rw [HN.out]; exact hlt)
    generalize HG : fs[k]?.getD noD = g at *
    have HG' : Hid (fs[k]?.getD noD = g) := HG
    clear HG hF
    obtain ⟨e0, e1, e2⟩ := cellsD hc
    obtain ⟨gs, gc, ⟨gta, gtn, gtc, gtx⟩⟩ := g
    have e0' : wr.cell? ⟨b, off + k * 3, none⟩ = some (.int .i64 gs) := e0
    have e1' : wr.cell? ⟨b, off + k * 3 + 1, none⟩ = some (.int .i64 gc) := e1
    have e2' : wr.cell? ⟨b, off + k * 3 + 2, none⟩ = some (.slice gta gtn gtc) := e2
    have hI : Ints wr gta gtn gtx := hr.1.1
    have hz' : gtn <= 1048576 := hr.1.2
    clear e0 e1 e2 hc hr
    have hlt' : (k : Int) < (dn : Int) := by omega
    have OK : Hid ((fs[k]?.getD noD).ok = dnOk gs gc gtn gtx) := by show _ = _; rw [HG'.out]; rfl
    have NO : Hid (dnOk gs gc gtn gtx = false -> donesB cl dn fs = false) := fun hd => by rw [dones_is HC.out, dones_no (by rw [HN.out]; exact hlt) (by rw [OK.out]; exact hd)]
    have YES : Hid (dnOk gs gc gtn gtx = true -> (fs.take (k + 1)).all DV.ok = true) := fun hd => dones_step (by rw [HN.out]; exact hlt) HA.out (by rw [OK.out]; exact hd)
    cases h1 : inB gs 0 300
    ·have h1' := inB_not.1 h1
     have ND : Hid (dnOk gs gc gtn gtx = false) := by show _ = _; rw [dn_some (by omega), inB_not.2 (by omega)]; rfl
     clear h1'
     have KP : Hid (∀ W, Below wr.heap.size wr W -> W.cell? ⟨b, off + k * 3, none⟩ = some (.int .i64 gs) /\ W.cell? ⟨b, off + k * 3 + 1, none⟩ = some (.int .i64 gc) /\ W.cell? ⟨b, off + k * 3 + 2, none⟩ = some (.slice gta gtn gtc)) := fun W hW => ⟨(hW.cell (p := ⟨b, off + k * 3, none⟩) (block_lt e0')).trans e0', (hW.cell (p := ⟨b, off + k * 3 + 1, none⟩) (block_lt e1')).trans e1', (hW.cell (p := ⟨b, off + k * 3 + 2, none⟩) (block_lt e2')).trans e2'⟩
     have hSS := And.intro (KP.out _ (Below.refl _ _).drew) True.intro
     clear e0' e1' e2'
     go_upto_region 6 with fail
     refine wp_region_ends (fun w' => w'.cell? ⟨b, off + k * 3, none⟩ = some (.int .i64 gs) /\ w'.cell? ⟨b, off + k * 3 + 1, none⟩ = some (.int .i64 gc) /\ w'.cell? ⟨b, off + k * 3 + 2, none⟩ = some (.slice gta gtn gtc)) (fun _ => True) 57 (by kernel_rfl) ?_
     refine tkl 0 rfl hSS ?_
     refine tkl 1 rfl hSS ?_
     refine tkl 2 rfl hSS ?_
     refine tkl 3 rfl hSS ?_
     simp only [Act.put, qA, qC, qB, qI, qF, qE]
     refine tkl 4 rfl hSS ?_
     refine wo1 5 rfl fun K hK => ?_
     go_simp
     refine (in_any).mono ?_
     rintro ee wq ⟨rfl, rfl⟩
     rw [h1]
     (try dsimp only)
     refine kk0 hK (hSS.1) ?_
     refine tkl 6 rfl hSS ?_
     refine tkl 7 rfl hSS ?_
     refine tku 8 rfl hSS ?_
     refine tku 9 rfl hSS ?_
     simp only [Act.put, qA, qC, qB, qI, qF, qE]
     refine tku 10 rfl hSS ?_
     refine tku 11 rfl hSS ?_
     refine tku 12 rfl hSS ?_
     refine tku 13 rfl hSS ?_
     simp only [Act.put, qA, qC, qB, qI, qF, qE]
     refine tku 14 rfl hSS ?_
     refine tku 15 rfl hSS ?_
     refine tku 16 rfl hSS ?_
     refine tku 17 rfl hSS ?_
     simp only [Act.put, qA, qC, qB, qI, qF, qE]
     refine tku 18 rfl hSS ?_
     refine tku 19 rfl hSS ?_
     refine tku 20 rfl hSS ?_
     refine tku 21 rfl hSS ?_
     simp only [Act.put, qA, qC, qB, qI, qF, qE]
     refine tkl 22 rfl hSS ?_
     refine tkl 23 rfl hSS ?_
     refine tku 24 rfl hSS ?_
     refine tku 25 rfl hSS ?_
     simp only [Act.put, qA, qC, qB, qI, qF, qE]
     refine tku 26 rfl hSS ?_
     refine tku 27 rfl hSS ?_
     refine tku 28 rfl hSS ?_
     refine tku 29 rfl hSS ?_
     simp only [Act.put, qA, qC, qB, qI, qF, qE]
     refine tku 30 rfl hSS ?_
     refine tku 31 rfl hSS ?_
     refine tku 32 rfl hSS ?_
     refine tku 33 rfl hSS ?_
     simp only [Act.put, qA, qC, qB, qI, qF, qE]
     refine tku 34 rfl hSS ?_
     refine tku 35 rfl hSS ?_
     refine tku 36 rfl hSS ?_
     refine tku 37 rfl hSS ?_
     simp only [Act.put, qA, qC, qB, qI, qF, qE]
     refine tku 38 rfl hSS ?_
     refine tku 39 rfl hSS ?_
     refine tkl 40 rfl hSS ?_
     refine tkl 41 rfl hSS ?_
     simp only [Act.put, qA, qC, qB, qI, qF, qE]
     refine tku 42 rfl hSS ?_
     refine tku 43 rfl hSS ?_
     refine tku 44 rfl hSS ?_
     refine tku 45 rfl hSS ?_
     simp only [Act.put, qA, qC, qB, qI, qF, qE]
     refine tku 46 rfl hSS ?_
     refine tku 47 rfl hSS ?_
     refine tku 48 rfl hSS ?_
     refine tku 49 rfl hSS ?_
     simp only [Act.put, qA, qC, qB, qI, qF, qE]
     refine tku 50 rfl hSS ?_
     refine tku 51 rfl hSS ?_
     refine tku 52 rfl hSS ?_
     refine tku 53 rfl hSS ?_
     simp only [Act.put, qA, qC, qB, qI, qF, qE]
     refine tku 54 rfl hSS ?_
     refine tku 55 rfl hSS ?_
     refine tku 56 rfl hSS ?_
     refine wo1 57 rfl fun K hK => ?_
     go_simp
     refine kk0 hK (hSS.1) ?_
     refine wod ?_ _
     clear hSS
     go_wp2
     go_ret
     exact ⟨ret_bool (by rw [NO.out ND.out]), hb.drew⟩
    ·have h1' := inB_iff.1 h1
     by_cases hs : gs = 0
     ·subst hs
      by_cases hcd : gc = 0
      ·subst hcd
       by_cases hn : gtn = 0
       ·have ND : Hid (dnOk 0 0 gtn gtx = true) := by show _ = _; rw [dn_zero]; simp [hn]
        have hn3 : decide (0 < gtn) = false := by simp [hn]
        have hn4 : decide ((0 : Int) < (gtn : Int)) = false := by simp [hn]
        clear hn
        have KP : Hid (∀ W, Below wr.heap.size wr W -> W.cell? ⟨b, off + k * 3, none⟩ = some (.int .i64 0) /\ W.cell? ⟨b, off + k * 3 + 1, none⟩ = some (.int .i64 0) /\ W.cell? ⟨b, off + k * 3 + 2, none⟩ = some (.slice gta gtn gtc)) := fun W hW => ⟨(hW.cell (p := ⟨b, off + k * 3, none⟩) (block_lt e0')).trans e0', (hW.cell (p := ⟨b, off + k * 3 + 1, none⟩) (block_lt e1')).trans e1', (hW.cell (p := ⟨b, off + k * 3 + 2, none⟩) (block_lt e2')).trans e2'⟩
        have hSS := And.intro (KP.out _ (Below.refl _ _).drew) True.intro
        clear e0' e1' e2'
        go_upto_region 6 with fail
        refine wp_region_ends (fun w' => w'.cell? ⟨b, off + k * 3, none⟩ = some (.int .i64 0) /\ w'.cell? ⟨b, off + k * 3 + 1, none⟩ = some (.int .i64 0) /\ w'.cell? ⟨b, off + k * 3 + 2, none⟩ = some (.slice gta gtn gtc)) (fun _ => True) 57 (by kernel_rfl) ?_
        refine tkl 0 rfl hSS ?_
        refine tkl 1 rfl hSS ?_
        refine tkl 2 rfl hSS ?_
        refine tkl 3 rfl hSS ?_
        simp only [Act.put, qA, qC, qB, qI, qF, qE]
        refine tkl 4 rfl hSS ?_
        refine wo1 5 rfl fun K hK => ?_
        go_simp
        refine (in_any).mono ?_
        rintro ee wq ⟨rfl, rfl⟩
        rw [h1]
        (try dsimp only)
        refine kk0 hK (hSS.1) ?_
        refine tkl 6 rfl hSS ?_
        refine tkl 7 rfl hSS ?_
        refine tkl 8 rfl hSS ?_
        refine tkl 9 rfl hSS ?_
        simp only [Act.put, qA, qC, qB, qI, qF, qE]
        refine tkl 10 rfl hSS ?_
        refine tkl 11 rfl hSS ?_
        refine tkl 12 rfl hSS ?_
        refine tkl 13 rfl hSS ?_
        simp only [Act.put, qA, qC, qB, qI, qF, qE]
        refine tkl 14 rfl hSS ?_
        refine tkl 15 rfl hSS ?_
        refine tkl 16 rfl hSS ?_
        refine tkl 17 rfl hSS ?_
        simp only [Act.put, qA, qC, qB, qI, qF, qE]
        refine tkl 18 rfl hSS ?_
        refine tkl 19 rfl hSS ?_
        refine tkl 20 rfl hSS ?_
        refine tkl 21 rfl hSS ?_
        simp only [Act.put, qA, qC, qB, qI, qF, qE]
        refine tkl 22 rfl hSS ?_
        refine tkl 23 rfl hSS ?_
        refine tkl 24 rfl hSS ?_
        refine tkl 25 rfl hSS ?_
        simp only [Act.put, qA, qC, qB, qI, qF, qE]
        refine tkl 26 rfl hSS ?_
        refine tkl 27 rfl hSS ?_
        refine tkl 28 rfl hSS ?_
        refine tkl 29 rfl hSS ?_
        simp only [Act.put, qA, qC, qB, qI, qF, qE]
        refine tkl 30 rfl hSS ?_
        refine tkl 31 rfl hSS ?_
        refine tkl 32 rfl hSS ?_
        refine tkl 33 rfl hSS ?_
        simp only [Act.put, qA, qC, qB, qI, qF, qE]
        refine tkl 34 rfl hSS ?_
        refine tkl 35 rfl hSS ?_
        refine tkl 36 rfl hSS ?_
        refine wo1 37 rfl fun K hK => ?_
        go_simp
        refine kk0 hK (hSS.1) ?_
        refine tkl 38 rfl hSS ?_
        refine tkl 39 rfl hSS ?_
        refine tkl 40 rfl hSS ?_
        refine tkl 41 rfl hSS ?_
        simp only [Act.put, qA, qC, qB, qI, qF, qE]
        refine tkl 42 rfl hSS ?_
        refine tkl 43 rfl hSS ?_
        refine tkl 44 rfl hSS ?_
        refine tkl 45 rfl hSS ?_
        simp only [Act.put, qA, qC, qB, qI, qF, qE]
        refine tkl 46 rfl hSS ?_
        refine tkl 47 rfl hSS ?_
        refine tkl 48 rfl hSS ?_
        refine tku 49 rfl hSS ?_
        simp only [Act.put, qA, qC, qB, qI, qF, qE]
        refine tku 50 rfl hSS ?_
        refine tku 51 rfl hSS ?_
        refine tku 52 rfl hSS ?_
        refine tku 53 rfl hSS ?_
        simp only [Act.put, qA, qC, qB, qI, qF, qE]
        refine tku 54 rfl hSS ?_
        refine tku 55 rfl hSS ?_
        refine tkl 56 rfl hSS ?_
        refine wo1 57 rfl fun K hK => ?_
        go_simp
        refine kk0 hK (hSS.1) ?_
        refine wod ?_ _
        clear hSS
        go_wp2
        go_roundw
        case rel => exact ⟨k + 1, by omega, by go_num, hb.drew, YES.out ND.out⟩
        case measure => simp [intOf]; omega
       ·have ND : Hid (dnOk 0 0 gtn gtx = false) := by show _ = _; rw [dn_zero]; simp [hn]
        have hn3 : decide (0 < gtn) = true := by simp; omega
        have hn4 : decide ((0 : Int) < (gtn : Int)) = true := by simp; omega
        clear hn
        have KP : Hid (∀ W, Below wr.heap.size wr W -> W.cell? ⟨b, off + k * 3, none⟩ = some (.int .i64 0) /\ W.cell? ⟨b, off + k * 3 + 1, none⟩ = some (.int .i64 0) /\ W.cell? ⟨b, off + k * 3 + 2, none⟩ = some (.slice gta gtn gtc)) := fun W hW => ⟨(hW.cell (p := ⟨b, off + k * 3, none⟩) (block_lt e0')).trans e0', (hW.cell (p := ⟨b, off + k * 3 + 1, none⟩) (block_lt e1')).trans e1', (hW.cell (p := ⟨b, off + k * 3 + 2, none⟩) (block_lt e2')).trans e2'⟩
        have hSS := And.intro (KP.out _ (Below.refl _ _).drew) True.intro
        clear e0' e1' e2'
        go_upto_region 6 with fail
        refine wp_region_ends (fun w' => w'.cell? ⟨b, off + k * 3, none⟩ = some (.int .i64 0) /\ w'.cell? ⟨b, off + k * 3 + 1, none⟩ = some (.int .i64 0) /\ w'.cell? ⟨b, off + k * 3 + 2, none⟩ = some (.slice gta gtn gtc)) (fun _ => True) 57 (by kernel_rfl) ?_
        refine tkl 0 rfl hSS ?_
        refine tkl 1 rfl hSS ?_
        refine tkl 2 rfl hSS ?_
        refine tkl 3 rfl hSS ?_
        simp only [Act.put, qA, qC, qB, qI, qF, qE]
        refine tkl 4 rfl hSS ?_
        refine wo1 5 rfl fun K hK => ?_
        go_simp
        refine (in_any).mono ?_
        rintro ee wq ⟨rfl, rfl⟩
        rw [h1]
        (try dsimp only)
        refine kk0 hK (hSS.1) ?_
        refine tkl 6 rfl hSS ?_
        refine tkl 7 rfl hSS ?_
        refine tkl 8 rfl hSS ?_
        refine tkl 9 rfl hSS ?_
        simp only [Act.put, qA, qC, qB, qI, qF, qE]
        refine tkl 10 rfl hSS ?_
        refine tkl 11 rfl hSS ?_
        refine tkl 12 rfl hSS ?_
        refine tkl 13 rfl hSS ?_
        simp only [Act.put, qA, qC, qB, qI, qF, qE]
        refine tkl 14 rfl hSS ?_
        refine tkl 15 rfl hSS ?_
        refine tkl 16 rfl hSS ?_
        refine tkl 17 rfl hSS ?_
        simp only [Act.put, qA, qC, qB, qI, qF, qE]
        refine tkl 18 rfl hSS ?_
        refine tkl 19 rfl hSS ?_
        refine tkl 20 rfl hSS ?_
        refine tkl 21 rfl hSS ?_
        simp only [Act.put, qA, qC, qB, qI, qF, qE]
        refine tkl 22 rfl hSS ?_
        refine tkl 23 rfl hSS ?_
        refine tkl 24 rfl hSS ?_
        refine tkl 25 rfl hSS ?_
        simp only [Act.put, qA, qC, qB, qI, qF, qE]
        refine tkl 26 rfl hSS ?_
        refine tkl 27 rfl hSS ?_
        refine tkl 28 rfl hSS ?_
        refine tkl 29 rfl hSS ?_
        simp only [Act.put, qA, qC, qB, qI, qF, qE]
        refine tkl 30 rfl hSS ?_
        refine tkl 31 rfl hSS ?_
        refine tkl 32 rfl hSS ?_
        refine tkl 33 rfl hSS ?_
        simp only [Act.put, qA, qC, qB, qI, qF, qE]
        refine tkl 34 rfl hSS ?_
        refine tkl 35 rfl hSS ?_
        refine tkl 36 rfl hSS ?_
        refine wo1 37 rfl fun K hK => ?_
        go_simp
        refine kk0 hK (hSS.1) ?_
        refine tkl 38 rfl hSS ?_
        refine tkl 39 rfl hSS ?_
        refine tkl 40 rfl hSS ?_
        refine tkl 41 rfl hSS ?_
        simp only [Act.put, qA, qC, qB, qI, qF, qE]
        refine tku 42 rfl hSS ?_
        refine tku 43 rfl hSS ?_
        refine tku 44 rfl hSS ?_
        refine tku 45 rfl hSS ?_
        simp only [Act.put, qA, qC, qB, qI, qF, qE]
        refine tku 46 rfl hSS ?_
        refine tku 47 rfl hSS ?_
        refine tku 48 rfl hSS ?_
        refine tku 49 rfl hSS ?_
        simp only [Act.put, qA, qC, qB, qI, qF, qE]
        refine tku 50 rfl hSS ?_
        refine tku 51 rfl hSS ?_
        refine tku 52 rfl hSS ?_
        refine tku 53 rfl hSS ?_
        simp only [Act.put, qA, qC, qB, qI, qF, qE]
        refine tku 54 rfl hSS ?_
        refine tku 55 rfl hSS ?_
        refine tku 56 rfl hSS ?_
        refine wo1 57 rfl fun K hK => ?_
        go_simp
        refine kk0 hK (hSS.1) ?_
        refine wod ?_ _
        clear hSS
        go_wp2
        go_ret
        exact ⟨ret_bool (by rw [NO.out ND.out]), hb.drew⟩
      ·have ND : Hid (dnOk 0 gc gtn gtx = false) := by show _ = _; rw [dn_zero]; simp [hcd]
       have hcd' : (gc == 0) = false := by simpa using hcd
       have KP : Hid (∀ W, Below wr.heap.size wr W -> W.cell? ⟨b, off + k * 3, none⟩ = some (.int .i64 0) /\ W.cell? ⟨b, off + k * 3 + 1, none⟩ = some (.int .i64 gc) /\ W.cell? ⟨b, off + k * 3 + 2, none⟩ = some (.slice gta gtn gtc)) := fun W hW => ⟨(hW.cell (p := ⟨b, off + k * 3, none⟩) (block_lt e0')).trans e0', (hW.cell (p := ⟨b, off + k * 3 + 1, none⟩) (block_lt e1')).trans e1', (hW.cell (p := ⟨b, off + k * 3 + 2, none⟩) (block_lt e2')).trans e2'⟩
       have hSS := And.intro (KP.out _ (Below.refl _ _).drew) True.intro
       clear e0' e1' e2'
       go_upto_region 6 with fail
       refine wp_region_ends (fun w' => w'.cell? ⟨b, off + k * 3, none⟩ = some (.int .i64 0) /\ w'.cell? ⟨b, off + k * 3 + 1, none⟩ = some (.int .i64 gc) /\ w'.cell? ⟨b, off + k * 3 + 2, none⟩ = some (.slice gta gtn gtc)) (fun _ => True) 57 (by kernel_rfl) ?_
       refine tkl 0 rfl hSS ?_
       refine tkl 1 rfl hSS ?_
       refine tkl 2 rfl hSS ?_
       refine tkl 3 rfl hSS ?_
       simp only [Act.put, qA, qC, qB, qI, qF, qE]
       refine tkl 4 rfl hSS ?_
       refine wo1 5 rfl fun K hK => ?_
       go_simp
       refine (in_any).mono ?_
       rintro ee wq ⟨rfl, rfl⟩
       rw [h1]
       (try dsimp only)
       refine kk0 hK (hSS.1) ?_
       refine tkl 6 rfl hSS ?_
       refine tkl 7 rfl hSS ?_
       refine tkl 8 rfl hSS ?_
       refine tkl 9 rfl hSS ?_
       simp only [Act.put, qA, qC, qB, qI, qF, qE]
       refine tkl 10 rfl hSS ?_
       refine tkl 11 rfl hSS ?_
       refine tkl 12 rfl hSS ?_
       refine tkl 13 rfl hSS ?_
       simp only [Act.put, qA, qC, qB, qI, qF, qE]
       refine tkl 14 rfl hSS ?_
       refine tkl 15 rfl hSS ?_
       refine tkl 16 rfl hSS ?_
       refine tkl 17 rfl hSS ?_
       simp only [Act.put, qA, qC, qB, qI, qF, qE]
       refine tkl 18 rfl hSS ?_
       refine tkl 19 rfl hSS ?_
       refine tkl 20 rfl hSS ?_
       refine tkl 21 rfl hSS ?_
       simp only [Act.put, qA, qC, qB, qI, qF, qE]
       refine tkl 22 rfl hSS ?_
       refine tkl 23 rfl hSS ?_
       refine tku 24 rfl hSS ?_
       refine tku 25 rfl hSS ?_
       simp only [Act.put, qA, qC, qB, qI, qF, qE]
       refine tku 26 rfl hSS ?_
       refine tku 27 rfl hSS ?_
       refine tku 28 rfl hSS ?_
       refine tku 29 rfl hSS ?_
       simp only [Act.put, qA, qC, qB, qI, qF, qE]
       refine tku 30 rfl hSS ?_
       refine tku 31 rfl hSS ?_
       refine tku 32 rfl hSS ?_
       refine tku 33 rfl hSS ?_
       simp only [Act.put, qA, qC, qB, qI, qF, qE]
       refine tku 34 rfl hSS ?_
       refine tku 35 rfl hSS ?_
       refine tku 36 rfl hSS ?_
       refine tku 37 rfl hSS ?_
       simp only [Act.put, qA, qC, qB, qI, qF, qE]
       refine tku 38 rfl hSS ?_
       refine tku 39 rfl hSS ?_
       refine tkl 40 rfl hSS ?_
       refine tkl 41 rfl hSS ?_
       simp only [Act.put, qA, qC, qB, qI, qF, qE]
       refine tku 42 rfl hSS ?_
       refine tku 43 rfl hSS ?_
       refine tku 44 rfl hSS ?_
       refine tku 45 rfl hSS ?_
       simp only [Act.put, qA, qC, qB, qI, qF, qE]
       refine tku 46 rfl hSS ?_
       refine tku 47 rfl hSS ?_
       refine tku 48 rfl hSS ?_
       refine tku 49 rfl hSS ?_
       simp only [Act.put, qA, qC, qB, qI, qF, qE]
       refine tku 50 rfl hSS ?_
       refine tku 51 rfl hSS ?_
       refine tku 52 rfl hSS ?_
       refine tku 53 rfl hSS ?_
       simp only [Act.put, qA, qC, qB, qI, qF, qE]
       refine tku 54 rfl hSS ?_
       refine tku 55 rfl hSS ?_
       refine tku 56 rfl hSS ?_
       refine wo1 57 rfl fun K hK => ?_
       go_simp
       refine kk0 hK (hSS.1) ?_
       refine wod ?_ _
       clear hSS
       go_wp2
       go_ret
       exact ⟨ret_bool (by rw [NO.out ND.out]), hb.drew⟩
     ·have hs' : (gs == 0) = false := by simpa using hs
      have hp : decide (0 < gs) = true := by simp; omega
      have ND : Hid (dnOk gs gc gtn gtx = fullB (resText gc gtn gtx)) := by show _ = _; rw [dn_some hs, inB_iff.2 (by omega)]; rfl
      clear hs h1'
      by_cases hcd : gc = 0
      ·subst hcd
       have ND2 : Hid (dnOk gs 0 gtn gtx = false) := by
        show _ = _
        rw [ND.out]
        cases hf : fullB (resText 0 gtn gtx)
        ·rfl
        ·exact absurd rfl (full_code hf)
       have KP : Hid (∀ W, Below wr.heap.size wr W -> W.cell? ⟨b, off + k * 3, none⟩ = some (.int .i64 gs) /\ W.cell? ⟨b, off + k * 3 + 1, none⟩ = some (.int .i64 0) /\ W.cell? ⟨b, off + k * 3 + 2, none⟩ = some (.slice gta gtn gtc)) := fun W hW => ⟨(hW.cell (p := ⟨b, off + k * 3, none⟩) (block_lt e0')).trans e0', (hW.cell (p := ⟨b, off + k * 3 + 1, none⟩) (block_lt e1')).trans e1', (hW.cell (p := ⟨b, off + k * 3 + 2, none⟩) (block_lt e2')).trans e2'⟩
       have hSS := And.intro (KP.out _ (Below.refl _ _).drew) True.intro
       clear e0' e1' e2'
       go_upto_region 6 with fail
       refine wp_region_ends (fun w' => w'.cell? ⟨b, off + k * 3, none⟩ = some (.int .i64 gs) /\ w'.cell? ⟨b, off + k * 3 + 1, none⟩ = some (.int .i64 0) /\ w'.cell? ⟨b, off + k * 3 + 2, none⟩ = some (.slice gta gtn gtc)) (fun _ => True) 57 (by kernel_rfl) ?_
       refine tkl 0 rfl hSS ?_
       refine tkl 1 rfl hSS ?_
       refine tkl 2 rfl hSS ?_
       refine tkl 3 rfl hSS ?_
       simp only [Act.put, qA, qC, qB, qI, qF, qE]
       refine tkl 4 rfl hSS ?_
       refine wo1 5 rfl fun K hK => ?_
       go_simp
       refine (in_any).mono ?_
       rintro ee wq ⟨rfl, rfl⟩
       rw [h1]
       (try dsimp only)
       refine kk0 hK (hSS.1) ?_
       refine tkl 6 rfl hSS ?_
       refine tkl 7 rfl hSS ?_
       refine tkl 8 rfl hSS ?_
       refine tkl 9 rfl hSS ?_
       simp only [Act.put, qA, qC, qB, qI, qF, qE]
       refine tkl 10 rfl hSS ?_
       refine tkl 11 rfl hSS ?_
       refine tkl 12 rfl hSS ?_
       refine tkl 13 rfl hSS ?_
       simp only [Act.put, qA, qC, qB, qI, qF, qE]
       refine tkl 14 rfl hSS ?_
       refine tkl 15 rfl hSS ?_
       refine tkl 16 rfl hSS ?_
       refine tkl 17 rfl hSS ?_
       simp only [Act.put, qA, qC, qB, qI, qF, qE]
       refine tkl 18 rfl hSS ?_
       refine tkl 19 rfl hSS ?_
       refine tkl 20 rfl hSS ?_
       refine tkl 21 rfl hSS ?_
       simp only [Act.put, qA, qC, qB, qI, qF, qE]
       refine tkl 22 rfl hSS ?_
       refine tkl 23 rfl hSS ?_
       refine tku 24 rfl hSS ?_
       refine tku 25 rfl hSS ?_
       simp only [Act.put, qA, qC, qB, qI, qF, qE]
       refine tku 26 rfl hSS ?_
       refine tku 27 rfl hSS ?_
       refine tku 28 rfl hSS ?_
       refine tku 29 rfl hSS ?_
       simp only [Act.put, qA, qC, qB, qI, qF, qE]
       refine tku 30 rfl hSS ?_
       refine tku 31 rfl hSS ?_
       refine tku 32 rfl hSS ?_
       refine tku 33 rfl hSS ?_
       simp only [Act.put, qA, qC, qB, qI, qF, qE]
       refine tku 34 rfl hSS ?_
       refine tku 35 rfl hSS ?_
       refine tku 36 rfl hSS ?_
       refine tku 37 rfl hSS ?_
       simp only [Act.put, qA, qC, qB, qI, qF, qE]
       refine tku 38 rfl hSS ?_
       refine tku 39 rfl hSS ?_
       refine tkl 40 rfl hSS ?_
       refine tkl 41 rfl hSS ?_
       simp only [Act.put, qA, qC, qB, qI, qF, qE]
       refine tku 42 rfl hSS ?_
       refine tku 43 rfl hSS ?_
       refine tku 44 rfl hSS ?_
       refine tku 45 rfl hSS ?_
       simp only [Act.put, qA, qC, qB, qI, qF, qE]
       refine tku 46 rfl hSS ?_
       refine tku 47 rfl hSS ?_
       refine tku 48 rfl hSS ?_
       refine tku 49 rfl hSS ?_
       simp only [Act.put, qA, qC, qB, qI, qF, qE]
       refine tku 50 rfl hSS ?_
       refine tku 51 rfl hSS ?_
       refine tku 52 rfl hSS ?_
       refine tku 53 rfl hSS ?_
       simp only [Act.put, qA, qC, qB, qI, qF, qE]
       refine tku 54 rfl hSS ?_
       refine tku 55 rfl hSS ?_
       refine tku 56 rfl hSS ?_
       refine wo1 57 rfl fun K hK => ?_
       go_simp
       refine kk0 hK (hSS.1) ?_
       refine wod ?_ _
       clear hSS
       go_wp2
       go_ret
       exact ⟨ret_bool (by rw [NO.out ND2.out]), hb.drew⟩
      ·have hcd' : (gc == 0) = false := by simpa using hcd
       obtain ⟨x, hx⟩ : ∃ x, x = fullB (resText gc gtn gtx) := ⟨_, rfl⟩
       have HX : Hid _ := hx
       clear hx hcd
       have KP : Hid (∀ W, Below wr.heap.size wr W -> W.cell? ⟨b, off + k * 3, none⟩ = some (.int .i64 gs) /\ W.cell? ⟨b, off + k * 3 + 1, none⟩ = some (.int .i64 gc) /\ W.cell? ⟨b, off + k * 3 + 2, none⟩ = some (.slice gta gtn gtc)) := fun W hW => ⟨(hW.cell (p := ⟨b, off + k * 3, none⟩) (block_lt e0')).trans e0', (hW.cell (p := ⟨b, off + k * 3 + 1, none⟩) (block_lt e1')).trans e1', (hW.cell (p := ⟨b, off + k * 3 + 2, none⟩) (block_lt e2')).trans e2'⟩
       have hSS := And.intro (KP.out _ (Below.refl _ _).drew) True.intro
       clear e0' e1' e2'
       go_upto_region 6 with fail
       refine wp_region_ends (fun w' => w'.cell? ⟨b, off + k * 3, none⟩ = some (.int .i64 gs) /\ w'.cell? ⟨b, off + k * 3 + 1, none⟩ = some (.int .i64 gc) /\ w'.cell? ⟨b, off + k * 3 + 2, none⟩ = some (.slice gta gtn gtc)) (fun _ => True) 57 (by kernel_rfl) ?_
       refine tkl 0 rfl hSS ?_
       refine tkl 1 rfl hSS ?_
       refine tkl 2 rfl hSS ?_
       refine tkl 3 rfl hSS ?_
       simp only [Act.put, qA, qC, qB, qI, qF, qE]
       refine tkl 4 rfl hSS ?_
       refine wo1 5 rfl fun K hK => ?_
       go_simp
       refine (in_any).mono ?_
       rintro ee wq ⟨rfl, rfl⟩
       rw [h1]
       (try dsimp only)
       refine kk0 hK (hSS.1) ?_
       refine tkl 6 rfl hSS ?_
       refine tkl 7 rfl hSS ?_
       refine tkl 8 rfl hSS ?_
       refine tkl 9 rfl hSS ?_
       simp only [Act.put, qA, qC, qB, qI, qF, qE]
       refine tkl 10 rfl hSS ?_
       refine tkl 11 rfl hSS ?_
       refine tkl 12 rfl hSS ?_
       refine tkl 13 rfl hSS ?_
       simp only [Act.put, qA, qC, qB, qI, qF, qE]
       refine tkl 14 rfl hSS ?_
       refine tkl 15 rfl hSS ?_
       refine tkl 16 rfl hSS ?_
       refine tkl 17 rfl hSS ?_
       simp only [Act.put, qA, qC, qB, qI, qF, qE]
       refine tkl 18 rfl hSS ?_
       refine tkl 19 rfl hSS ?_
       refine tkl 20 rfl hSS ?_
       refine tkl 21 rfl hSS ?_
       simp only [Act.put, qA, qC, qB, qI, qF, qE]
       refine tkl 22 rfl hSS ?_
       refine tkl 23 rfl hSS ?_
       refine tkl 24 rfl hSS ?_
       refine tkl 25 rfl hSS ?_
       simp only [Act.put, qA, qC, qB, qI, qF, qE]
       refine tkl 26 rfl hSS ?_
       refine tkl 27 rfl hSS ?_
       refine tkl 28 rfl hSS ?_
       refine tkl 29 rfl hSS ?_
       simp only [Act.put, qA, qC, qB, qI, qF, qE]
       refine tkl 30 rfl hSS ?_
       refine tku 31 rfl hSS ?_
       refine tku 32 rfl hSS ?_
       refine tku 33 rfl hSS ?_
       simp only [Act.put, qA, qC, qB, qI, qF, qE]
       refine tku 34 rfl hSS ?_
       refine tku 35 rfl hSS ?_
       refine tku 36 rfl hSS ?_
       refine tku 37 rfl hSS ?_
       simp only [Act.put, qA, qC, qB, qI, qF, qE]
       refine tku 38 rfl hSS ?_
       refine tkl 39 rfl hSS ?_
       refine tkl 40 rfl hSS ?_
       refine tkl 41 rfl hSS ?_
       simp only [Act.put, qA, qC, qB, qI, qF, qE]
       refine tkl 42 rfl hSS ?_
       refine tkl 43 rfl hSS ?_
       refine tkl 44 rfl hSS ?_
       refine tkl 45 rfl hSS ?_
       simp only [Act.put, qA, qC, qB, qI, qF, qE]
       refine tkl 46 rfl hSS ?_
       refine tkl 47 rfl hSS ?_
       refine tkl 48 rfl hSS ?_
       refine tkl 49 rfl hSS ?_
       simp only [Act.put, qA, qC, qB, qI, qF, qE]
       refine tkl 50 rfl hSS ?_
       refine tkl 51 rfl hSS ?_
       refine tkl 52 rfl hSS ?_
       refine tkl 53 rfl hSS ?_
       simp only [Act.put, qA, qC, qB, qI, qF, qE]
       refine wo1 54 rfl fun K hK => ?_
       go_simp
       refine (sresok_any gtx (hI.below (Below.refl _ _).drew) hz').mono ?_
       rintro ee w1 ⟨rfl, bd1⟩
       rw [<- HX.out]
       have b1 := below_of_drew bd1
       have hb1 := btq hb b1
       (try dsimp only)
       replace hSS := And.intro (KP.out w1 b1) True.intro
       refine kk0 hK (hSS.1) ?_
       refine tkl 55 rfl hSS ?_
       refine tkl 56 rfl hSS ?_
       refine wo1 57 rfl fun K hK => ?_
       go_simp
       refine kk0 hK (hSS.1) ?_
       refine wod ?_ _
       clear hSS
       cases x
       ·go_wp2
        go_ret
        exact ⟨ret_bool (by rw [NO.out (by rw [ND.out, <- HX.out])]), hb1⟩
       ·go_wp2
        go_roundw
        case rel => exact ⟨k + 1, by omega, by go_num, hb1, YES.out (by rw [ND.out, <- HX.out])⟩
        case measure => simp [intOf]; omega
   ·go_wp2
    go_ret
    exact ⟨ret_bool (by rw [dones_is HC.out, dones_end (by rw [HN.out]; omega) HA.out]), hb⟩
 ·have hc' : ((dn : Int) != cl) = true := by simpa using hc
  go_enter Tryz.func186, Tryz.ntmps186
  go_wp2
  go_ret
  exact ⟨ret_bool (by rw [dones_not hc]), B0⟩
theorem pins_ba {lo : Nat} {R : Nat -> Bool} (h : true = false \/ (true = true /\ ∃ G, a = some ⟨G, 0, none⟩ /\ lo <= G /\ OwnBB W G R)) : BA W a 3 R := by
 rcases h with h | ⟨-, G, rfl, -, o⟩
 ·cases h
 ·exact o.ba
theorem ikeeps_any (ss : List L2V) (G S : List Int) {ba : Option Addr} {bn bc : Nat} (bx : List Int) {s : Int} {aa : Option Addr} {an ac : Nat} (ax : List Int) {w : World} (hp : PlAt w ad N ss ga gn G sa sn S) (hc : catB N ss = true) (hb : Ints w ba bn bx) (zb : bn <= 1048576) (ha : Ints w aa an ax) (za : an <= 1048576) :
  Calls Tryz.prog 193 #[plV cl ad N cap ga gn gc sa sn sc, .slice ba bn bc, .int .i64 s, .slice aa an ac] w fun e w' => e = .returned (.bool (keepT bn gn bx G (catP ss) s an ax && stillB (pinsA ss) ax)) /\ Below w.heap.size w w' := by
 have q0 := Cel.new w [.int .i64 cl, .slice ad N cap, .slice ga gn gc, .slice sa sn sc] 41
 have B0 := (Below.refl w.heap.size w).alloc (qN _) (.cells #[.int .i64 cl, .slice ad N cap, .slice ga gn gc, .slice sa sn sc] 41)
 obtain ⟨W0, hW0⟩ : ∃ W, W = w.alloc (.cells #[.int .i64 cl, .slice ad N cap, .slice ga gn gc, .slice sa sn sc] 41) := ⟨_, rfl⟩
 rw [<- hW0] at q0 B0
 have HC : Hid (catB N ss = true) := hc
 have HCT : Hid (catT (catB N ss) (catP ss) = catP ss) := by show _ = _; rw [hc]; rfl
 have HLN : Hid ((catP ss).length <= 600000) := catP_len (by have := (catB_parts hc).1; rw [hp.ha]; exact this)
 clear hc
 obtain ⟨V, hV⟩ : ∃ V, V = (keepT bn gn bx G (catP ss) s an ax && stillB (pinsA ss) ax) := ⟨_, rfl⟩
 rw [<- hV]
 have HW : Hid (V = (keepT bn gn bx G (catP ss) s an ax && stillB (pinsA ss) ax)) := hV
 clear hV
 cases h3 : keepT bn gn bx G (catP ss) s an ax
 ·have HV : Hid (false = V) := by show _ = _; rw [HW.out, h3]; rfl
  have KP : Hid (∀ W, Below W0.heap.size W0 W -> W.cell? ⟨w.heap.size, 0, none⟩ = some (.int .i64 cl) /\ W.cell? ⟨w.heap.size, 1, none⟩ = some (.slice ad N cap) /\ W.cell? ⟨w.heap.size, 2, none⟩ = some (.slice ga gn gc) /\ W.cell? ⟨w.heap.size, 3, none⟩ = some (.slice sa sn sc)) := fun W hW => (q0.below hW).quadP
  have hSS := And.intro (KP.out _ (Below.refl _ _).drew) True.intro
  go_enter Tryz.func193, Tryz.ntmps193
  go_upto_region 1 with fail
  rw [<- hW0]
  clear hW0 q0
  refine wp_region_ends (fun w' => w'.cell? ⟨w.heap.size, 0, none⟩ = some (.int .i64 cl) /\ w'.cell? ⟨w.heap.size, 1, none⟩ = some (.slice ad N cap) /\ w'.cell? ⟨w.heap.size, 2, none⟩ = some (.slice ga gn gc) /\ w'.cell? ⟨w.heap.size, 3, none⟩ = some (.slice sa sn sc)) (fun _ => True) 18 (by kernel_rfl) ?_
  refine tkl 0 rfl hSS ?_
  refine tkl 1 rfl hSS ?_
  refine tkl 2 rfl hSS ?_
  refine tkl 3 rfl hSS ?_
  simp only [Act.put, qA, qC, qB, qI, qF, qE]
  refine tkl 4 rfl hSS ?_
  refine tkl 5 rfl hSS ?_
  refine tkl 7 rfl hSS ?_
  refine tkl 8 rfl hSS ?_
  simp only [Act.put, qA, qC, qB, qI, qF, qE]
  refine wo1 6 rfl fun K hK => ?_
  go_simp
  refine (icatforms_at (catP ss) ss hp.ha (hp.below B0.drew).a hp.za HCT.out).mono ?_
  rintro ee w1 ⟨fa, fc, rfl, bd1, uf⟩
  have b1 := below_of_drew bd1
  have B1 := btq B0 b1
  obtain ⟨ts, hts, hx⟩ := uf.isg
  have HX : Hid _ := hx
  clear uf hx bd1
  (try dsimp only)
  replace hSS := And.intro (KP.out w1 b1) True.intro
  refine kk0 hK (hSS.1) ?_
  refine wo1 9 rfl fun K hK => ?_
  go_simp
  refine (ikeep_any bx G ax ts (hb.below B1) (hp.below B1).g (ha.below B1) (map_len HX.out) hts zb hp.zg za (Nat.le_trans HLN.out (by omega))).mono ?_
  rintro ee w2 ⟨rfl, b2⟩
  rw [keep_of hts HX.out, h3]
  have b12 := btq b1 b2
  have B2 := btq B1 b2
  (try dsimp only)
  replace hSS := And.intro (KP.out w2 b12) True.intro
  refine kk0 hK (hSS.1) ?_
  refine tkl 10 rfl hSS ?_
  refine tku 11 rfl hSS ?_
  refine tku 12 rfl hSS ?_
  refine tku 14 rfl hSS ?_
  simp only [Act.put, qA, qC, qB, qI, qF, qE]
  refine tku 13 rfl hSS ?_
  refine tku 15 rfl hSS ?_
  refine tku 16 rfl hSS ?_
  refine tkl 17 rfl hSS ?_
  simp only [Act.put, qA, qC, qB, qI, qF, qE]
  refine wo1 18 rfl fun K hK => ?_
  go_simp
  refine kk0 hK (hSS.1) ?_
  refine wod ?_ _
  clear hSS
  go_wp2
  go_ret
  exact ⟨ret_bool HV.out, B2⟩
 obtain rfl : an = 3 := (keepT_elim h3).2.2
 obtain ⟨x4, h4⟩ : ∃ x, x = !stillB (pinsA ss) ax := ⟨_, rfl⟩
 have HST : Hid (x4 = !stillB (pinsA ss) ax) := h4
 clear h4
 have KP : Hid (∀ W, Below W0.heap.size W0 W -> W.cell? ⟨w.heap.size, 0, none⟩ = some (.int .i64 cl) /\ W.cell? ⟨w.heap.size, 1, none⟩ = some (.slice ad N cap) /\ W.cell? ⟨w.heap.size, 2, none⟩ = some (.slice ga gn gc) /\ W.cell? ⟨w.heap.size, 3, none⟩ = some (.slice sa sn sc)) := fun W hW => (q0.below hW).quadP
 have hSS := And.intro (KP.out _ (Below.refl _ _).drew) True.intro
 go_enter Tryz.func193, Tryz.ntmps193
 go_upto_region 1 with fail
 rw [<- hW0]
 clear hW0 q0
 refine wp_region_ends (fun w' => w'.cell? ⟨w.heap.size, 0, none⟩ = some (.int .i64 cl) /\ w'.cell? ⟨w.heap.size, 1, none⟩ = some (.slice ad N cap) /\ w'.cell? ⟨w.heap.size, 2, none⟩ = some (.slice ga gn gc) /\ w'.cell? ⟨w.heap.size, 3, none⟩ = some (.slice sa sn sc)) (fun _ => True) 18 (by kernel_rfl) ?_
 refine tkl 0 rfl hSS ?_
 refine tkl 1 rfl hSS ?_
 refine tkl 2 rfl hSS ?_
 refine tkl 3 rfl hSS ?_
 simp only [Act.put, qA, qC, qB, qI, qF, qE]
 refine tkl 4 rfl hSS ?_
 refine tkl 5 rfl hSS ?_
 refine tkl 7 rfl hSS ?_
 refine tkl 8 rfl hSS ?_
 simp only [Act.put, qA, qC, qB, qI, qF, qE]
 refine wo1 6 rfl fun K hK => ?_
 go_simp
 refine (icatforms_at (catP ss) ss hp.ha (hp.below B0.drew).a hp.za HCT.out).mono ?_
 rintro ee w1 ⟨fa, fc, rfl, bd1, uf⟩
 have b1 := below_of_drew bd1
 have B1 := btq B0 b1
 obtain ⟨ts, hts, hx⟩ := uf.isg
 have HX : Hid _ := hx
 clear uf hx bd1
 (try dsimp only)
 replace hSS := And.intro (KP.out w1 b1) True.intro
 refine kk0 hK (hSS.1) ?_
 refine wo1 9 rfl fun K hK => ?_
 go_simp
 refine (ikeep_any bx G ax ts (hb.below B1) (hp.below B1).g (ha.below B1) (map_len HX.out) hts zb hp.zg za (Nat.le_trans HLN.out (by omega))).mono ?_
 rintro ee w2 ⟨rfl, b2⟩
 rw [keep_of hts HX.out, h3]
 have b12 := btq b1 b2
 have B2 := btq B1 b2
 (try dsimp only)
 replace hSS := And.intro (KP.out w2 b12) True.intro
 refine kk0 hK (hSS.1) ?_
 refine tkl 10 rfl hSS ?_
 refine tkl 11 rfl hSS ?_
 refine tkl 12 rfl hSS ?_
 refine tkl 14 rfl hSS ?_
 simp only [Act.put, qA, qC, qB, qI, qF, qE]
 refine wo1 13 rfl fun K hK => ?_
 go_simp
 refine (icatpins_at true (pinsA ss) ss hp.ha (hp.below B2).a hp.za HC.out rfl).mono ?_
 rintro ee w3 ⟨na, nc, rfl, b3, on⟩
 have b123 := btq b12 b3
 have B3 := btq B2 b3
 have hR := pins_ba on
 rw [show lenB true = 3 from rfl]
 clear on
 (try dsimp only)
 replace hSS := And.intro (KP.out w3 b123) True.intro
 refine kk0 hK (hSS.1) ?_
 refine wo1 15 rfl fun K hK => ?_
 go_simp
 refine (ipinned_any (pinsA ss) ax hR (ha.below B3)).mono ?_
 rintro ee wq ⟨rfl, rfl⟩
 rw [<- HST.out]
 (try dsimp only)
 refine kk0 hK (hSS.1) ?_
 refine tkl 16 rfl hSS ?_
 refine tkl 17 rfl hSS ?_
 refine wo1 18 rfl fun K hK => ?_
 go_simp
 refine kk0 hK (hSS.1) ?_
 refine wod ?_ _
 clear hSS
 go_wp2
 go_ret
 exact ⟨ret_bool (by rw [HW.out, h3, HST.out]; simp), B3⟩
def callOkB (cl sq ac : Int) (n : Nat) (zs : List Int) : Bool := inB cl 0 3 && (inB sq 1 300 && (inB ac 0 3 && okN 2 9 n zs))
def wClient : List UInt8 := [99, 108, 105, 101, 110, 116]
def wCall : List UInt8 := [99, 97, 108, 108]
def wAct : List UInt8 := [97, 99, 116]
def wWith : List UInt8 := [119, 105, 116, 104]
def callL (cl sq ac : Int) (zs : List Int) : List UInt8 := wClient ++ ([32] ++ (Lib.itoa cl ++ ([32] ++ (wCall ++ ([32] ++ (Lib.itoa sq ++ ([32] ++ (wAct ++ ([32] ++ (Lib.itoa ac ++ ([32] ++ (wWith ++ tailL zs))))))))))))
def callText (cl sq ac : Int) (n : Nat) (zs : List Int) : List UInt8 := if callOkB cl sq ac n zs = true then callL cl sq ac zs else []
theorem callText_no {sq ac : Int} (h : callOkB cl sq ac n zs = false) : callText cl sq ac n zs = [] := by rw [callText, h]; rfl
theorem callText_yes {sq ac : Int} (h : callOkB cl sq ac n zs = true) : callText cl sq ac n zs = callL cl sq ac zs := by rw [callText, if_pos h]
end Go.Proofs.YtacfoeekmcnpjaaGreatDoor
