/-
  Lemmas that the claim's last text rests on.
-/
import Derived.Test.YtfmpcihghlnlnaaGreatDoorQQ
namespace Go.Proofs.YtfmpcihghlnlnaaGreatDoor
open Go.RowKit Go.ChangeShapes Go.WideShapes Go.ChangeAt Go.Joins Go.Deep
open Option.some renaming injEq → qA
open Addr.mk renaming injEq → qB
open World renaming size_alloc → qC
open List renaming getElem?_eq_getElem → qD, getElem?_cons_zero → qE, length_append → qF, getElem?_append_right → qG, getElem?_append_left → qH, length_cons → qI, length_nil → qJ
open Nat renaming le_refl → qK, zero_le → qL
set_option linter.unusedVariables false
set_option maxRecDepth 100000
set_option maxHeartbeats 25600000
variable {B N cap k lo n : Nat} {C : List Int} {W w w' : World} {a ad : Option Addr}
def sgn1 (c : Int) : Int := if 0 < c then 1 else if c < 0 then -1 else 0
theorem sgn1_vals (c : Int) : sgn1 c = 0 \/ sgn1 c = 1 \/ sgn1 c = -1 := by
 unfold sgn1
 split
 ·simp
 split <;> simp
def sgn : List Int -> Int
 | [] => 0
 | c :: t => if sgn1 c = 0 then sgn t else sgn1 c
theorem sgn_append (xs ys : List Int) : sgn (xs ++ ys) = if sgn xs = 0 then sgn ys else sgn xs := by
 induction xs with
 | nil => simp [sgn]
 | cons c t ih =>
  simp only [List.cons_append, sgn]
  by_cases h : sgn1 c = 0
  ·simp only [h, if_true]; exact ih
  simp only [h, if_false]
theorem sgn_one (c : Int) : sgn [c] = sgn1 c := by
 simp only [sgn]
 split
 ·next h => exact h.symm
 rfl
theorem sgn_take_succ (h : k < C.length) : sgn (C.take (k + 1)) = if sgn (C.take k) = 0 then sgn1 (C[k]?.getD 0) else sgn (C.take k) := by
 rw [List.take_succ_eq_append_getElem h, sgn_append, qD h, sgn_one]
 rfl
theorem sgn_whole (h : sgn (C.take k) ≠ 0) : sgn C = sgn (C.take k) := by
 have := sgn_append (C.take k) (C.drop k);rw [List.take_append_drop, if_neg h] at this
 exact this
theorem sgn_end (hn : C.length = n) (h : n <= k) : sgn (C.take k) = sgn C := by rw [List.take_of_length_le (by omega)]
def sg (C : List Int) : Int := if sgn C < 0 then -1 else 1
def mulW (n : Int) (zs : List Int) : List Int := zs.map fun z => wrap64 (n * z)
def partL (C : List Int) : List Int := mulW (sg C) C
theorem mulW_len {n : Int} {zs : List Int} : (mulW n zs).length = zs.length := by simp [mulW]
theorem mulW_get {n : Int} {zs : List Int} {i : Nat} (h : i < zs.length) : (mulW n zs)[i]?.getD 0 = wrap64 (n * zs[i]?.getD 0) := by
 simp [mulW, h]
theorem part_len (C : List Int) : (partL C).length = C.length := mulW_len
theorem part_step (h : k < C.length) : (partL C).take (k + 1) = (partL C).take k ++ [wrap64 (sgn (C.take (k + 1)) * C[k]?.getD 0)] := by
 have hl : k < (partL C).length := by rw [part_len]; exact h
 rw [List.take_succ_eq_append_getElem hl]
 congr 2
 have e : (partL C)[k] = wrap64 (sg C * C[k]?.getD 0) := by
  have := mulW_get (n := sg C) h;rw [show mulW (sg C) C = partL C from rfl, qD hl] at this;simpa using this
 rw [e]
 by_cases hs : sgn (C.take (k + 1)) = 0
 ·have h1 := sgn_take_succ h
  have h2 : sgn1 (C[k]?.getD 0) = 0 := by
   rw [hs] at h1
   by_cases h3 : sgn (C.take k) = 0
   ·rw [if_pos h3] at h1; exact h1.symm
   rw [if_neg h3] at h1; exact absurd h1.symm h3
  have h3 : C[k]?.getD 0 = 0 := by
   unfold sgn1 at h2
   split at h2
   ·omega
   split at h2 <;> omega
  rw [h3]; simp
 have h1 := sgn_whole hs
 have : sg C = sgn (C.take (k + 1)) := by
  unfold sg;rw [h1]
  have hv : ∀ xs : List Int, sgn xs = 0 \/ sgn xs = 1 \/ sgn xs = -1 := by
   intro xs
   induction xs with
   | nil => simp [sgn]
   | cons c t ih =>
    simp only [sgn]
    by_cases hc : sgn1 c = 0
    ·simp only [hc, if_true]; exact ih
    rw [if_neg hc]; exact sgn1_vals c
  rcases hv (C.take (k + 1)) with e | e | e
  ·exact absurd e hs
  ·rw [e]; simp
  rw [e]; simp
 rw [this]
theorem timesW_any {l : Nat} (zs : List Int) {n : Int} {w : World} (h : Ints w a l zs) (hl : l <= 1048576) :
  Calls Tryz.prog 154 #[.slice a l cap, .int .i64 n] w fun e w' => e = .returned (.slice (some ⟨w.heap.size, 0, none⟩) l l) /\ Below w.heap.size w w' /\ Blk w' w.heap.size (mulW n zs) := by
 have HZ : Hid (zs.length = l) := h.1;have HM : Hid ((mulW n zs).length = l) := by show (mulW n zs).length = l; simp [mulW, h.1]
 obtain ⟨i0, hi, hz0, hz1, hz2⟩ := info_parts Tryz.infoInt
 go_enter Tryz.func154, Tryz.ntmps154
 go_wp2_with (at_make; refine wpList_make_full _ rfl (.tmp 9) (.tmp 9) 23 rfl w.heap.size 3 i0 (.int .i64 0) 1 Tryz.underlying23 hi hz0 hz1 .i64 .i64 _ _ l rfl rfl rfl rfl (by rw [hz2]; omega) (by unfold maxLen; omega) (qK _) ?_; intro w1 hown hgrow)
 have hb1 := Blk.made w l w1 hown;have HB : Below w.heap.size w w1 := (Below.refl _ _).grown hgrow (qK _) (by simp);clear hown hgrow hi hz0 hz1 hz2
 go_loopw [6, 7, 13] (fun _ _ i wr => ∃ k : Nat, k <= l /\ i = .int .i64 k /\ Below w.heap.size w wr /\ Blk wr w.heap.size (upTo (mulW n zs) l k)) (fun _ _ i _ => l - (intOf i).toNat)
 case atStart => exact ⟨0, qL _, rfl, HB, by rw [upTo_zero]; exact hb1⟩
 case round =>
  obtain ⟨k, hk, rfl, hnx, hblk⟩ := hrel
  by_cases hlt : k < l
  ·obtain ⟨b, off, rfl, hcell⟩ := (h.below hnx).pos (by omega);have hck := hcell k hlt;have hco := hblk.cell k (by rw [upTo_len HM.out hk]; exact hlt);have hfo := hblk.free k;have R := hblk.set k ((mulW n zs)[k]?.getD 0);rw [upTo_succ HM.out hlt, mulW_get (by rw [HZ.out]; exact hlt)] at R;have R2 := hnx.setCell (p := ⟨w.heap.size, k, none⟩) (qK _) (.int .i64 (wrap64 (n * zs[k]?.getD 0)));clear hcell hb1 HB h hblk hnx
   go_wp2
   go_roundw
   case rel => exact ⟨k + 1, by omega, by go_num, R2, R⟩
   case measure => simp [intOf]; omega
  go_wp2
  go_ret
  exact ⟨rfl, hnx, by rw [upTo_end HM.out (by omega)] at hblk; exact hblk⟩
theorem ipart_any (n : Nat) {cap : Nat} {c : Option Addr} (m : Nat) {cap' : Nat} {K : Int} (C : List Int) {w : World} (hC : Ints w a n C) (hn : n <= 1048576 := by omega) :
  Calls Tryz.prog 139 #[formV a n cap c m cap' K] w fun e w' => e = .returned (.slice (some ⟨w.heap.size + 1, 0, none⟩) n n) /\ Below w.heap.size w w' /\ Blk w' (w.heap.size + 1) (partL C) := by
 have HC : Hid (C.length = n) := hC.1
 go_enter Tryz.func139, Tryz.ntmps139
 go_wp2_with fail
 have hC1 := hC.alloc (.cells #[.slice a n cap, .slice c m cap', .int .i64 K] 106)
 have hend : ∀ (s : Int) (w2 : World), sg C = s -> Below (w.alloc (.cells #[.slice a n cap, .slice c m cap', .int .i64 K] 106)).heap.size (w.alloc (.cells #[.slice a n cap, .slice c m cap', .int .i64 K] 106)) w2 -> Blk w2 (w.alloc (.cells #[.slice a n cap, .slice c m cap', .int .i64 K] 106)).heap.size (mulW s C) -> Below w.heap.size w w2 /\ Blk w2 (w.heap.size + 1) (partL C) := by
  intro s w2 hs b2 k2;rw [qC] at k2
  exact ⟨(bal).trans (b2.mono (by simp)), by unfold partL; rw [hs]; exact k2⟩
 have HE : Hid _ := hend;clear hend
 go_loop [4, 8] (fun _ i => ∃ k : Nat, k <= n /\ i = .int .i64 k /\ sgn (C.take k) = 0) (fun _ i => n - (intOf i).toNat)
 case atStart => exact ⟨0, qL _, rfl, rfl⟩
 case round =>
  obtain ⟨k, hk, rfl, hs⟩ := hrel;have HS : Hid (sgn (C.take k) = 0) := hs;clear hs
  by_cases hlt : k < n
  ·obtain ⟨b, off, rfl, hcell⟩ := hC1.pos (by omega);have hck := hcell k hlt;clear hcell
   have HT : Hid (sgn (C.take (k + 1)) = sgn1 (C[k]?.getD 0)) := by
    show sgn (C.take (k + 1)) = sgn1 (C[k]?.getD 0)
    rw [sgn_take_succ (by rw [HC.out]; exact hlt), if_pos HS.out]
   by_cases h1 : 0 < C[k]?.getD 0
   ·have HG : Hid (sg C = 1) := by
     show sg C = 1
     have e := HT.out;rw [sgn1, if_pos h1] at e;have := sgn_whole (C := C) (k := k + 1) (by rw [e]; decide);rw [sg, this, e]; rfl
    go_wp2_with fail
    refine (timesW_any C hC1 hn).mono ?_;rintro e w2 ⟨rfl, b2, k2⟩
    go_wp2
    go_ret
    exact ⟨rfl, HE.out 1 w2 HG.out b2 k2⟩
   by_cases h2 : C[k]?.getD 0 < 0
   ·have HG : Hid (sg C = -1) := by
     show sg C = -1
     have e := HT.out;rw [sgn1, if_neg h1, if_pos h2] at e;have := sgn_whole (C := C) (k := k + 1) (by rw [e]; decide);rw [sg, this, e]; rfl
    go_wp2_with fail
    refine (timesW_any C hC1 hn).mono ?_;rintro e w2 ⟨rfl, b2, k2⟩
    go_wp2
    go_ret
    exact ⟨rfl, HE.out (-1) w2 HG.out b2 k2⟩
   have HT2 : Hid (sgn (C.take (k + 1)) = 0) := by
    show sgn (C.take (k + 1)) = 0
    rw [HT.out, sgn1, if_neg h1, if_neg h2]
   go_wp2
   go_round
   case rel => exact ⟨k + 1, by omega, by go_num, HT2.out⟩
   case measure => simp [intOf]; omega
  have HG : Hid (sg C = 1) := by
   show sg C = 1
   have e := HS.out;rw [sgn_end HC.out (by omega)] at e;rw [sg, e]; rfl
  go_wp2_with fail
  refine (timesW_any C hC1 hn).mono ?_;rintro e w2 ⟨rfl, b2, k2⟩
  go_wp2
  go_ret
  exact ⟨rfl, HE.out 1 w2 HG.out b2 k2⟩
theorem spart_new (a : Option Addr) (n cap : Nat) (c : Option Addr) (m cap' : Nat) (K : Int) (C : List Int) (w : World) (hC : Ints w a n C) (hn : n <= 1048576) :
  Calls Tryz.prog 61 #[formV a n cap c m cap' K] w fun e w' => ∃ a' cap2, e = .returned (.slice a' n cap2) /\ Below w.heap.size w w' /\ Ints w' a' n (partL C) /\ (∀ b o, a' = some ⟨b, o, none⟩ -> w.heap.size <= b /\ b < w'.heap.size) := by
 have HC : Hid (C.length = n) := hC.1;obtain ⟨i0, hi, hz0, hz1, hz2⟩ := info_parts Tryz.infoInt
 go_enter Tryz.func61, Tryz.ntmps61
 go_wp2_with fail
 obtain ⟨W, hW⟩ : ∃ W, W = w.alloc (.cells #[.slice a n cap, .slice c m cap', .int .i64 K] 106) := ⟨_, rfl⟩
 have box : Cel W w.heap.size [.slice a n cap, .slice c m cap', .int .i64 K] 106 := by rw [hW]; exact Cel.new w _ _
 have BW : Below w.heap.size w W := by rw [hW]; exact bal
 have hCW : Ints W a n C := hC.below BW;have HWS : Hid (W.heap.size = w.heap.size + 1) := by show W.heap.size = _; rw [hW, qC]
 rw [<- hW];clear hW hC
 go_loopw [3, 4, 5] (fun v s i wr => ∃ k : Nat, k <= n /\ i = .int .i64 k /\ s = .int .i64 (sgn (C.take k)) /\ ∃ xs : List Int, xs.length = k /\ xs = (partL C).take k /\ JA W v xs wr) (fun _ _ i _ => n - (intOf i).toNat)
 case atStart => exact ⟨0, qL _, rfl, rfl, [], rfl, rfl, by rw [<- HWS.out]; exact JA.lit W⟩
 case round =>
  obtain ⟨k, hk, rfl, rfl, xs, hxl, hxs, j⟩ := hrel;have HL : Hid (xs.length = k) := hxl;have HXS : Hid (xs = (partL C).take k) := hxs;clear hxl hxs;have jo := (j.o)
  rw [HL.out] at jo;have hjb := j.b.size;have g0 := (box.below j.b).cell 0;simp only [qE] at g0
  by_cases hlt : k < n
  ·obtain ⟨b, off, rfl, hcell⟩ := (hCW.below j.b).pos (by omega);have hck : wr.cell? ⟨b, off + k, none⟩ = some (.int .i64 (C[k]?.getD 0)) := by rw [hcell k hlt]; simp
   clear hcell;have HT : Hid _ := sgn_take_succ (C := C) (k := k) (by rw [HC.out]; exact hlt);have HP : Hid _ := part_step (C := C) (k := k) (by rw [HC.out]; exact hlt);generalize HS : sgn (C.take k) = s at *;generalize HX : C[k]?.getD 0 = x at *;clear HS HX
   by_cases hs0 : s = 0
   ·subst hs0
    by_cases h1 : 0 < x
    ·have HT2 : Hid (sgn1 x = 1) := by show sgn1 x = 1; rw [sgn1, if_pos h1]
     go_wp2_with (at_builtin; go_must (refine wpList_append_lies _ rfl (.tmp 34) (.tmp 42) 23 rfl W.heap.size 3 i0 (.int .i64 0) 1 8 Tryz.underlying23 hi hz0 hz1 hz2 rfl (by decide) _ _ _ rfl (jo.alloc _) ⟨wr.heap.size, 0, none⟩ 1 1 [.int .i64 (wrap64 x)] rfl rfl (news1 _) (one1) (by omega) (by unfold maxLen; omega) (by omega) (by rw [qC]; omega) _ rfl ?_); intro g cp w1 hown hgrow hat hlt1)
     have j2 := j.app HL.out hown hgrow;clear hown hgrow jo j hat;have HX2 : Hid (xs ++ [wrap64 x] = (partL C).take (k + 1)) := by show _ = _; rw [HP.out, HXS.out, HT.out, if_pos rfl, HT2.out, Int.one_mul]
     go_wp2
     go_roundw
     case rel => exact ⟨k + 1, by omega, by go_num, by rw [HT.out, if_pos rfl, HT2.out], _, by rw [qF, HL.out]; rfl, HX2.out, j2⟩
     case measure => simp [intOf]; omega
    by_cases h2 : x < 0
    ·have HT2 : Hid (sgn1 x = -1) := by show sgn1 x = -1; rw [sgn1, if_neg h1, if_pos h2]
     go_wp2_with (at_builtin; go_must (refine wpList_append_lies _ rfl (.tmp 34) (.tmp 42) 23 rfl W.heap.size 3 i0 (.int .i64 0) 1 8 Tryz.underlying23 hi hz0 hz1 hz2 rfl (by decide) _ _ _ rfl (jo.alloc _) ⟨wr.heap.size, 0, none⟩ 1 1 [.int .i64 (wrap64 (-x))] rfl rfl (news1 _) (one1) (by omega) (by unfold maxLen; omega) (by omega) (by rw [qC]; omega) _ rfl ?_); intro g cp w1 hown hgrow hat hlt1)
     have j2 := j.app HL.out hown hgrow;clear hown hgrow jo j hat;have HX2 : Hid (xs ++ [wrap64 (-x)] = (partL C).take (k + 1)) := by show _ = _; rw [HP.out, HXS.out, HT.out, if_pos rfl, HT2.out, Int.neg_one_mul]
     go_wp2
     go_roundw
     case rel => exact ⟨k + 1, by omega, by go_num, by rw [HT.out, if_pos rfl, HT2.out], _, by rw [qF, HL.out]; rfl, HX2.out, j2⟩
     case measure => simp [intOf]; omega
    have HT2 : Hid (sgn1 x = 0) := by show sgn1 x = 0; rw [sgn1, if_neg h1, if_neg h2]
    go_wp2_with (at_builtin; go_must (refine wpList_append_lies _ rfl (.tmp 34) (.tmp 42) 23 rfl W.heap.size 3 i0 (.int .i64 0) 1 8 Tryz.underlying23 hi hz0 hz1 hz2 rfl (by decide) _ _ _ rfl (jo.alloc _) ⟨wr.heap.size, 0, none⟩ 1 1 [.int .i64 0] rfl rfl (news1 _) (one1) (by omega) (by unfold maxLen; omega) (by omega) (by rw [qC]; omega) _ rfl ?_); intro g cp w1 hown hgrow hat hlt1)
    have j2 := j.app HL.out hown hgrow;clear hown hgrow jo j hat;have HX2 : Hid (xs ++ [0] = (partL C).take (k + 1)) := by show _ = _; rw [HP.out, HXS.out, HT.out, if_pos rfl, HT2.out, Int.zero_mul, show wrap64 0 = 0 from by decide +kernel]
    go_wp2
    go_roundw
    case rel => exact ⟨k + 1, by omega, by go_num, by rw [HT.out, if_pos rfl, HT2.out], _, by rw [qF, HL.out]; rfl, HX2.out, j2⟩
    case measure => simp [intOf]; omega
   have hs1 : (s == 0) = false := by simp [hs0]
   go_wp2_with (at_builtin; go_must (refine wpList_append_lies _ rfl (.tmp 34) (.tmp 42) 23 rfl W.heap.size 3 i0 (.int .i64 0) 1 8 Tryz.underlying23 hi hz0 hz1 hz2 rfl (by decide) _ _ _ rfl (jo.alloc _) ⟨wr.heap.size, 0, none⟩ 1 1 [.int .i64 (wrap64 (s * x))] rfl rfl (news1 _) (one1) (by omega) (by unfold maxLen; omega) (by omega) (by rw [qC]; omega) _ rfl ?_); intro g cp w1 hown hgrow hat hlt1)
   have j2 := j.app HL.out hown hgrow;clear hown hgrow jo j hat;have HX2 : Hid (xs ++ [wrap64 (s * x)] = (partL C).take (k + 1)) := by show _ = _; rw [HP.out, HXS.out, HT.out, if_neg hs0]
   go_wp2
   go_roundw
   case rel => exact ⟨k + 1, by omega, by go_num, by rw [HT.out, if_neg hs0], _, by rw [qF, HL.out]; rfl, HX2.out, j2⟩
   case measure => simp [intOf]; omega
  obtain rfl : k = n := by omega
  obtain ⟨a', cp, rfl, hcp, hI, hlt'⟩ := j.ints;have HXC : Hid (xs = partL C) := by show xs = _; rw [HXS.out, List.take_of_length_le (by rw [part_len, HC.out]; exact qK _)]
  rw [HL.out] at hI hcp ⊢;have jb := j.b;clear j jo
  go_wp2
  go_ret
  exact ⟨a', cp, rfl, btr BW jb, by rw [<- HXC.out]; exact hI, fun b o e => ⟨by have := (hlt' b o e).1; have := HWS.out; omega, (hlt' b o e).2⟩⟩
theorem spart_any {c : Option Addr} {m cap' : Nat} {K : Int} (C : List Int) {w : World} (hC : Ints w a n C) (hn : n <= 1048576) :
  Calls Tryz.prog 61 #[formV a n cap c m cap' K] w fun e w' => ∃ a' cap2, e = .returned (.slice a' n cap2) /\ Below w.heap.size w w' /\ Ints w' a' n (partL C) /\ (∀ b o, a' = some ⟨b, o, none⟩ -> b < w'.heap.size) := by
 refine (spart_new a n cap c m cap' K C w hC hn).mono ?_;rintro e w' ⟨a', cap2, h1, h2, h3, h4⟩
 exact ⟨a', cap2, h1, h2, h3, fun b o e => (h4 b o e).2⟩
structure L2V where
 a : Option Addr
 n : Nat
 cap : Nat
 x : List LV
def noL : L2V := ⟨none, 0, 0, []⟩
def L2V.v (s : L2V) : Value := .slice s.a s.n s.cap
theorem trod_lenL {H : Type} {enc : TypeId × Value -> H} {fuel : Nat} {t e : TypeId} {cs : List Value} {x : DataW H × List MemPlace} (hS : Tryz.prog.underlying t = some (.slice e)) (hf : DataW.trod enc Tryz.prog W 0 (fun _ => true) true fuel t cs = some x) : cs.length = 1 := by
 rcases open_slice hS hf with ⟨h, _⟩ | ⟨a, len, cap, m, n, D, Pl, h, _⟩ <;> rw [h] <;> rfl
def LM (w : World) (s : L2V) : Prop := s.x.length = s.n /\ LinesM w s.a s.x /\ s.n <= maxLen
def LG (w : World) (s : L2V) : Prop := s.x.length = s.n /\ LinesG w s.a s.x /\ s.n <= 1048576
def LS (s : L2V) : Prop := s.n <= 1048576 /\ ∀ i, i < s.x.length -> (s.x[i]?.getD noLV).f.n <= 1048576 /\ (s.x[i]?.getD noLV).f.m <= 1048576
def LK (w : World) (lo : Nat) (s : L2V) : Prop := ∃ B l p q, s.a = some ⟨B, 0, none⟩ /\ lo <= B /\ ML w B l s.n s.x p q /\ s.x.length = s.n /\ s.n <= 1048576
def copiesL2 (s t : L2V) : Prop := t.n = s.n /\ t.x.length = s.x.length /\ copiesL s.x t.x
def sameL2 (s t : L2V) : Prop := s.n = t.n /\ ∀ i, i < s.n -> sameL (s.x[i]?.getD noLV) (t.x[i]?.getD noLV)
theorem LM.below {s : L2V} (h : LM w s) (hb : Below w.heap.size w w') : LM w' s := ⟨h.1, h.2.1.below hb, h.2.2⟩
theorem LG.below {s : L2V} (h : LG w s) (hb : Below w.heap.size w w') : LG w' s := ⟨h.1, h.2.1.below hb, h.2.2⟩
theorem LM.g {s : L2V} (h : LM w s) (hs : LS s) : LG w s := ⟨h.1, h.2.1.g hs.2, hs.1⟩
theorem ML.touch {S : Nat -> Prop} {W' : World} {gs : List LV} {p q : Nat -> Nat} (h : ML W B lo N gs p q) (t : Touch S W W') (hs : ∀ k, S k -> k < B) : ML W' B lo N gs p q := by
 obtain ⟨vs, h1, h2, h3⟩ := h.c;have hb := h.b;refine ⟨⟨vs, by rw [t.block B (lt_of_block h1) (fun hh => by have := hs _ hh; omega)]; exact h1, h2, h3⟩, fun i hi => ?_, h.b, Nat.le_trans h.s t.size⟩;obtain ⟨a2, a3, a4, a5, a6, a7, a8, a9, a10, a11, a12, a13⟩ := h.l i hi;have k1 : Blk W' (p i) (gs[i]?.getD noLV).f.C := by unfold Blk at *; rw [t.block _ (lt_of_block a4) (fun hh => by have := hs _ hh; omega)]; exact a4
 have k2 : Blk W' (q i) (gs[i]?.getD noLV).f.D := by unfold Blk at *; rw [t.block _ (lt_of_block a5) (fun hh => by have := hs _ hh; omega)]; exact a5
 exact ⟨a2, a3, k1, k2, a6, a7, a8, a9, a10, a11, Nat.lt_of_lt_of_le a12 t.size, a13⟩
theorem LK.below {s : L2V} (h : LK w lo s) (hb : Below w.heap.size w w') : LK w' lo s := by
 obtain ⟨B, l, p, q, h1, h2, h3, h4⟩ := h
 exact ⟨B, l, p, q, h1, h2, h3.below hb, h4⟩
theorem LK.touch {S : Nat -> Prop} {s : L2V} (h : LK w lo s) (t : Touch S w w') (hs : ∀ k, S k -> k < lo) : LK w' lo s := by
 obtain ⟨B, l, p, q, h1, h2, h3, h4⟩ := h
 exact ⟨B, l, p, q, h1, h2, h3.touch t (fun k hk => by have := hs k hk; omega), h4⟩
theorem LK.mono {lo' : Nat} {s : L2V} (h : LK w lo s) (hl : lo' <= lo) : LK w lo' s := by
 obtain ⟨B, l, p, q, h1, h2, h3⟩ := h
 exact ⟨B, l, p, q, h1, by omega, h3⟩
theorem LK.g {s : L2V} (h : LK w lo s) : LG w s := by
 obtain ⟨B, l, p, q, h1, h2, h3, h4, h5⟩ := h;refine ⟨h4, ?_, h5⟩;rw [h1]; exact h3.g
theorem open_L1 {H : Type} {enc : TypeId × Value -> H} {fuel : Nat} {v : Value} {y : DataW H × List MemPlace}
  (hf : DataW.trod enc Tryz.prog W 0 (fun _ => true) true fuel 69 [v] = some y) : ∃ s : L2V, v = s.v /\ LM W s := by
 obtain ⟨a, n, cap, zs, rfl, h1, h2, h3⟩ := open_linesC hf
 exact ⟨⟨a, n, cap, zs⟩, rfl, h1, h2, h3⟩
theorem szL_ex (x : List LV) {l : Int} {w : World} (h : LM w ⟨a, n, cap, x⟩) (h0 : 0 <= l) (hl : l <= 1048576) :
  Calls Tryz.prog 31 #[.slice a n cap, .int .i64 l] w fun e w' => ∃ r, e = .returned (.int .i64 r) /\ -1 <= r /\ r <= 1048576 /\ (0 <= r -> LS ⟨a, n, cap, x⟩) /\ Below w.heap.size w w' :=
 szLS_any a n cap x l w h.1 h.2.1 h.2.2 h0 hl
theorem toL_ex (x : List LV) {w : World} (h : LG w ⟨a, n, cap, x⟩) :
  Calls Tryz.prog 43 #[.slice a n cap] w fun e w' => ∃ a2 x2, e = .returned (.slice a2 n n) /\ Below w.heap.size w w' /\ LK w' w.heap.size ⟨a2, n, n, x2⟩ /\ copiesL2 ⟨a, n, cap, x⟩ ⟨a2, n, n, x2⟩ := by
 refine (toLS_any a n cap x w h.1 h.2.1 h.2.2).mono ?_;rintro e w' ⟨gs, p, q, rfl, h1, h2, b, m⟩
 exact ⟨_, gs, rfl, b, ⟨_, _, p, q, rfl, qK _, m, h1, h.2.2⟩, rfl, by rw [h1]; exact h.1.symm, h2⟩
theorem eqL_ex (x : List LV) {c : Option Addr} {m cap' : Nat} (y : List LV) {w : World} (h : LG w ⟨a, n, cap, x⟩) (h' : LG w ⟨c, m, cap', y⟩) (hs : sameL2 ⟨a, n, cap, x⟩ ⟨c, m, cap', y⟩) :
  Calls Tryz.prog 52 #[.slice a n cap, .slice c m cap'] w fun e w' => e = .returned (.bool true) /\ Below w.heap.size w w' := by
 obtain ⟨h1, h2⟩ := hs;have h1' : n = m := h1;subst h1'
 exact eqLS_same a c n cap cap' x y w h.1 h'.1 h.2.1 h'.2.1 h.2.2 h2
def LSM (w : World) (ad : Option Addr) (ss : List L2V) : Prop :=
 ∀ i, i < ss.length -> ∃ b off, ad = some ⟨b, off, none⟩ /\ w.cell? ⟨b, off + i, none⟩ = some (ss[i]?.getD noL).v /\ LM w (ss[i]?.getD noL)
def LSG (w : World) (ad : Option Addr) (ss : List L2V) : Prop :=
 ∀ i, i < ss.length -> ∃ b off, ad = some ⟨b, off, none⟩ /\ w.cell? ⟨b, off + i, none⟩ = some (ss[i]?.getD noL).v /\ LG w (ss[i]?.getD noL)
theorem LSM.below {ss : List L2V} (h : LSM w ad ss) (hb : Below w.heap.size w w') : LSM w' ad ss := fun i hi => by
 obtain ⟨b, off, e, hc, hr⟩ := h i hi
 exact ⟨b, off, e, by rw [hb.cell (p := ⟨b, off + i, none⟩) (block_lt hc)]; exact hc, hr.below hb⟩
theorem LSG.below {ss : List L2V} (h : LSG w ad ss) (hb : Below w.heap.size w w') : LSG w' ad ss := fun i hi => by
 obtain ⟨b, off, e, hc, hr⟩ := h i hi
 exact ⟨b, off, e, by rw [hb.cell (p := ⟨b, off + i, none⟩) (block_lt hc)]; exact hc, hr.below hb⟩
theorem LSM.g {ss : List L2V} (h : LSM w ad ss) (hs : ∀ i, i < ss.length -> LS (ss[i]?.getD noL)) : LSG w ad ss := fun i hi => by
 obtain ⟨b, off, e, hc, hr⟩ := h i hi
 exact ⟨b, off, e, hc, hr.g (hs i hi)⟩
theorem szL2S_any (ss : List L2V) {l : Int} {w : World} (hN : ss.length = N) (hF : LSM w ad ss) (hN1 : N <= maxLen) (h0 : 0 <= l) (hl : l <= 1048576) :
  Calls Tryz.prog 15 #[.slice ad N cap, .int .i64 l] w fun e w' => ∃ r, e = .returned (.int .i64 r) /\ -1 <= r /\ r <= 1048576 /\ (0 <= r -> N <= 1048576 /\ ∀ i, i < ss.length -> LS (ss[i]?.getD noL)) /\ Below w.heap.size w w' := by
 have HN : Hid (ss.length = N) := hN;clear hN;unfold maxLen at hN1
 by_cases h : l < N
 ·go_enter Tryz.func15, Tryz.ntmps15
  go_wp2
  go_ret
  exact ⟨-1, rfl, by omega, by omega, fun h => by omega, Below.refl _ _⟩
 have hN2 : N <= 1048576 := by omega
 have h' : (N : Int) <= l := by omega
 go_enter Tryz.func15, Tryz.ntmps15
 go_wp2_with fail
 go_loopw [1, 5] (fun lv i wr => ∃ k : Nat, k <= N /\ i = .int .i64 k /\ ∃ x : Int, lv = .int .i64 x /\ 0 <= x /\ x <= 1048576 /\ Below w.heap.size w wr /\ ∀ i, i < k -> LS (ss[i]?.getD noL)) (fun _ i _ => N - (intOf i).toNat)
 case atStart => exact ⟨0, qL _, rfl, _, rfl, by omega, by omega, Below.refl _ _, fun i hi => by omega⟩
 case round =>
  obtain ⟨k, hk, rfl, x, rfl, hx0, hx1, hb, hall⟩ := hrel;have HA : Hid _ := hall;clear hall
  by_cases hlt : k < N
  ·obtain ⟨b, off, rfl, hc, hr⟩ := (hF.below hb) k (by rw [HN.out]; exact hlt);generalize HG : ss[k]?.getD noL = g at *;have HG' : Hid (ss[k]?.getD noL = g) := HG;clear HG hF;obtain ⟨ga, gn, gcap, gx⟩ := g;have hc' : wr.cell? ⟨b, off + k, none⟩ = some (.slice ga gn gcap) := hc;clear hc
   go_wp2_with fail
   refine (szL_ex gx hr hx0 hx1).mono ?_;rintro e w1 ⟨r, rfl, r0, r1, r2, b1⟩
   by_cases hz : r < 0
   ·go_wp2
    go_ret
    exact ⟨-1, rfl, by omega, by omega, fun h => by omega, btr hb b1⟩
   have hz0 : 0 <= r := by omega
   have HA2 : Hid (∀ i, i < k + 1 -> LS (ss[i]?.getD noL)) := fun i hi => by
    by_cases hik : i < k
    ·exact HA.out i hik
    obtain rfl : i = k := by omega
    rw [HG'.out]; exact r2 hz0
   clear r2
   go_wp2
   go_roundw
   case rel => exact ⟨k + 1, by omega, by go_num, _, rfl, hz0, r1, btr hb b1, HA2.out⟩
   case measure => simp [intOf]; omega
  obtain rfl : k = N := by omega
  go_wp2
  go_ret
  exact ⟨x, rfl, by omega, by omega, fun _ => ⟨hN2, fun i hi => HA.out i (by rw [<- HN.out]; exact hi)⟩, hb⟩
def copiesL2S (ss ts : List L2V) : Prop := ∀ i, i < ts.length -> copiesL2 (ss[i]?.getD noL) (ts[i]?.getD noL)
def InR (lo hi : Nat) (s : L2V) : Prop := (∀ b, s.a = some ⟨b, 0, none⟩ -> lo <= b /\ b < hi) /\ ∀ k, k < s.x.length -> ∀ b, (s.x[k]?.getD noLV).f.c = some ⟨b, 0, none⟩ -> b < hi
theorem LK.inR {s : L2V} (h : LK w lo s) : InR lo w.heap.size s := by
 obtain ⟨B, l, p, q, h1, h2, h3, h4, h5⟩ := h;refine ⟨fun b e => ?_, fun k hk b e => ?_⟩
 ·rw [h1] at e;simp only [qA, qB, and_true] at e;have := h3.lt
  omega
 obtain ⟨a2, a3, a4, a5, a6, a7, a8, a9, a10, a11, a12, a13⟩ := h3.l k hk;rw [a3] at e;simp only [qA, qB, and_true] at e
 omega
structure ML2 (W : World) (B N : Nat) (ts : List L2V) : Prop where
 c : ∃ vs : List Value, Cel W B vs 86 /\ vs.length = N /\ ∀ i, i < ts.length -> vs[i]? = some (ts[i]?.getD noL).v
 l : ∀ i, i < ts.length -> LK W (B + 1) (ts[i]?.getD noL)
 d : ∃ c : Nat -> Nat, B < c 0 /\ c ts.length <= W.heap.size /\ ∀ i, i < ts.length -> c i <= c (i + 1) /\ InR (c i) (c (i + 1)) (ts[i]?.getD noL)
theorem ML2.lt {ts : List L2V} (h : ML2 W B N ts) : B < W.heap.size := by
 obtain ⟨vs, h1, _⟩ := h.c
 exact h1.lt
theorem ML2.below {W' : World} {ts : List L2V} (h : ML2 W B N ts) (b : Below W.heap.size W W') : ML2 W' B N ts := by
 obtain ⟨vs, h1, h2, h3⟩ := h.c;obtain ⟨c, c1, c2, c3⟩ := h.d
 exact ⟨⟨vs, h1.below b, h2, h3⟩, fun i hi => (h.l i hi).below b, c, c1, Nat.le_trans c2 b.size, c3⟩
theorem ML2.g {ts : List L2V} (h : ML2 W B N ts) : LSG W (some ⟨B, 0, none⟩) ts := fun i hi => by
 obtain ⟨vs, h1, h2, h3⟩ := h.c
 exact ⟨B, 0, rfl, by rw [Nat.zero_add, h1.cell i, h3 i hi], (h.l i hi).g⟩
theorem ML2.step {W1 : World} {ts : List L2V} {s : L2V} (h : ML2 W B N ts) (hk : ts.length = k) (hkN : k < N) (b : Below W.heap.size W W1) (hs : LK W1 W.heap.size s) : ML2 (W1.setCell ⟨B, k, none⟩ s.v) B N (ts ++ [s]) := by
 have hB := h.lt;obtain ⟨vs, h1, h2, h3⟩ := (h.below b).c;have T : Touch (fun x => x = B) W1 (W1.setCell ⟨B, k, none⟩ s.v) := Touch.setCell (S := fun x => x = B) (Touch.refl _ _) rfl _;refine ⟨⟨vs.set k s.v, h1.set _ _, by rw [List.length_set]; exact h2, fun i hi => ?_⟩, fun i hi => ?_, ?_⟩
 ·rw [qF, hk] at hi;simp only [qI, qJ] at hi
  by_cases e : i = k
  ·subst e;rw [List.getElem?_set_self (by omega), qG (by omega), hk]; simp
  rw [List.getElem?_set_ne (by omega), qH (by omega)]
  exact h3 i (by omega)
 ·rw [qF, hk] at hi;simp only [qI, qJ] at hi
  by_cases e : i = k
  ·subst e;rw [qG (by omega), hk];simp only [Nat.sub_self, qE, Option.getD_some]
   exact (hs.mono (by omega)).touch T (fun x hx => by omega)
  rw [qH (by omega)]
  exact (((h.l i (by omega)).below b)).touch T (fun x hx => by omega)
 obtain ⟨c, c1, c2, c3⟩ := h.d;have hb := b.size;rw [hk] at c2 c3;refine ⟨fun i => if i <= k then (if i = k then W.heap.size else c i) else W1.heap.size, ?_, ?_, fun i hi => ?_⟩
 ·simp only [qL, if_true]
  split
  ·exact hB
  exact c1
 ·rw [qF, hk, size_setCell];simp only [qI, qJ];rw [if_neg (by omega)]
  exact qK _
 rw [qF, hk] at hi;simp only [qI, qJ] at hi;dsimp only
 by_cases e : i = k
 ·subst e;rw [if_pos (qK _), if_pos rfl, if_neg (by omega), qG (by omega), hk];simp only [Nat.sub_self, qE, Option.getD_some]
  exact ⟨hb, hs.inR⟩
 obtain ⟨d1, d2⟩ := c3 i (by omega);rw [if_pos (by omega), if_neg e, if_pos (by omega), qH (by omega)]
 by_cases e2 : i + 1 = k
 ·rw [if_pos e2];rw [e2] at d1 d2
  exact ⟨Nat.le_trans d1 c2, ⟨fun b hb => ⟨(d2.1 b hb).1, Nat.lt_of_lt_of_le (d2.1 b hb).2 c2⟩, fun j hj b hb => Nat.lt_of_lt_of_le (d2.2 j hj b hb) c2⟩⟩
 rw [if_neg e2]
 exact ⟨d1, d2⟩
theorem Tryz.infoL2 : (Tryz.prog.info? 86).map (fun i => (i.zero, i.size, i.bytes)) = some (some (.slice none 0 0), 1, 24) := by kernel_rfl
theorem toL2S_any (ss : List L2V) {w : World} (hN : ss.length = N) (hF : LSG w ad ss) (hN1 : N <= 1048576) :
  Calls Tryz.prog 22 #[.slice ad N cap] w fun e w' => ∃ ts, e = .returned (.slice (some ⟨w.heap.size, 0, none⟩) N N) /\ ts.length = N /\ copiesL2S ss ts /\ Below w.heap.size w w' /\ ML2 w' w.heap.size N ts := by
 have HN : Hid (ss.length = N) := hN;clear hN;obtain ⟨i0, hi, hz0, hz1, hz2⟩ := info_parts Tryz.infoL2
 go_enter Tryz.func22, Tryz.ntmps22
 go_wp2_with (at_make; refine wpList_make_full _ rfl (.tmp 6) (.tmp 6) 35 rfl w.heap.size 86 i0 (.slice none 0 0) 1 Tryz.underlying35 hi hz0 hz1 .i64 .i64 _ _ N rfl rfl rfl rfl (by rw [hz2]; omega) (by unfold maxLen; omega) (qK _) ?_; intro w1 hown hgrow)
 have hb1 : Below w.heap.size w w1 := (Below.refl _ _).grown hgrow (qK _) (by simp)
 have m0 : ML2 w1 w.heap.size N [] := by
  rcases hown.2 with ⟨h', _⟩ | ⟨g', cap', cur, h', _, hg, _, _, hcs, htake⟩
  ·simp at h'
  simp only [Value.slice.injEq, qA, qB, and_true, true_and] at h';obtain ⟨rfl, rfl⟩ := h'
  exact ⟨⟨cur.toList, by unfold Cel; rw [hg], by simpa using hcs, fun i hi => by simp at hi⟩, fun i hi => by simp at hi, fun _ => w.heap.size + 1, Nat.lt_succ_self _, lt_of_block hg, fun i hi => by simp at hi⟩
 clear hown hgrow hi hz0 hz1 hz2
 go_loopw [4] (fun i wr => ∃ k : Nat, k <= N /\ i = .int .i64 k /\ Below w.heap.size w wr /\ ∃ ts, ts.length = k /\ copiesL2S ss ts /\ ML2 wr w.heap.size N ts) (fun i _ => N - (intOf i).toNat)
 case atStart => exact ⟨0, qL _, rfl, hb1, [], rfl, fun i hi => by simp at hi, m0⟩
 case round =>
  clear hb1 m0;obtain ⟨k, hk, rfl, hb, ts, hts, hcp, hm⟩ := hrel;have HTS : Hid (ts.length = k) := hts;have HCP : Hid (copiesL2S ss ts) := hcp;clear hts hcp
  by_cases hlt : k < N
  ·obtain ⟨b, off, rfl, hc, hr⟩ := (hF.below hb) k (by rw [HN.out]; exact hlt);generalize HG : ss[k]?.getD noL = g at *;have HG' : Hid (ss[k]?.getD noL = g) := HG;clear HG hF;obtain ⟨ga, gn, gcap, gx⟩ := g;have hc' : wr.cell? ⟨b, off + k, none⟩ = some (.slice ga gn gcap) := hc;clear hc
   go_wp2_with fail
   refine (toL_ex gx hr).mono ?_;rintro ee w2 ⟨a2, x2, rfl, b2, hK, hcp2⟩;have ms := hm.step HTS.out hlt b2 hK;obtain ⟨vs, v1, v2, v3⟩ := (hm.below b2).c;obtain ⟨y, hy⟩ : ∃ y, w2.cell? ⟨w.heap.size, k, none⟩ = some y := ⟨_, (v1.cell k).trans (qD (by rw [v2]; exact hlt))⟩
   have hfy := v1.free k;have hb2 := btr hb b2;have RB := hb2.setCell (p := ⟨w.heap.size, k, none⟩) (qK _) (.slice a2 gn gn)
   have CP : copiesL2S ss (ts ++ [⟨a2, gn, gn, x2⟩]) := fun i hi => by
    rw [qF, HTS.out] at hi;simp only [qI, qJ] at hi
    by_cases e : i = k
    ·subst e;rw [qG (by rw [HTS.out]; exact qK _), HTS.out, HG'.out];simpa using hcp2
    rw [qH (by rw [HTS.out]; omega)]
    exact HCP.out i (by rw [HTS.out]; omega)
   have HCP2 : Hid _ := CP;have ms' : ML2 (w2.setCell ⟨w.heap.size, k, none⟩ (.slice a2 gn gn)) w.heap.size N (ts ++ [⟨a2, gn, gn, x2⟩]) := ms;clear hm b2 hb hb2 v1 v2 v3 CP hr hcp2 hK ms
   go_wp2
   go_roundw
   case rel => exact ⟨k + 1, by omega, by go_num, RB, _, by rw [qF, HTS.out]; rfl, HCP2.out, ms'⟩
   case measure => simp [intOf]; omega
  obtain rfl : k = N := by omega
  go_wp2
  go_ret
  exact ⟨ts, rfl, HTS.out, HCP.out, hb, hm⟩
theorem eqL2S_same {ae : Option Addr} {cap' : Nat} (fs gs : List L2V) {w : World} (hN : fs.length = N) (hM : gs.length = N) (hF : LSG w ad fs) (hG : LSG w ae gs) (hN1 : N <= 1048576)
  (hsame : ∀ i, i < N -> sameL2 (fs[i]?.getD noL) (gs[i]?.getD noL)) :
  Calls Tryz.prog 28 #[.slice ad N cap, .slice ae N cap'] w fun e w' => e = .returned (.bool true) /\ Below w.heap.size w w' := by
 have HN : Hid (fs.length = N) := hN;have HM : Hid (gs.length = N) := hM;have HS : Hid _ := hsame;clear hN hM hsame
 go_enter Tryz.func28, Tryz.ntmps28
 go_wp2_with fail
 go_loopw [5] (fun i wr => ∃ k : Nat, k <= N /\ i = .int .i64 k /\ Below w.heap.size w wr) (fun i _ => N - (intOf i).toNat)
 case atStart => exact ⟨0, qL _, rfl, Below.refl _ _⟩
 case round =>
  obtain ⟨k, hk, rfl, hb⟩ := hrel
  by_cases hlt : k < N
  ·obtain ⟨b, off, rfl, hc, hr⟩ := (hF.below hb) k (by rw [HN.out]; exact hlt);obtain ⟨b', off', rfl, hc', hr'⟩ := (hG.below hb) k (by rw [HM.out]; exact hlt);have hs := HS.out k hlt;generalize HG1 : fs[k]?.getD noL = f at *;generalize HG2 : gs[k]?.getD noL = g at *;clear HG1 HG2 hF hG;obtain ⟨fa, fn, fcap, fx⟩ := f;obtain ⟨ga, gn, gcap, gx⟩ := g;have d1 : wr.cell? ⟨b, off + k, none⟩ = some (.slice fa fn fcap) := hc;have d2 : wr.cell? ⟨b', off' + k, none⟩ = some (.slice ga gn gcap) := hc';clear hc hc';have hlt' : (k : Int) < (N : Int) := by omega
   go_wp2_with fail
   go_region_with (first | (go_at_call 52; refine (eqL_ex fx gx (by exact hr.below (Below.refl _ _).drew) (by exact hr'.below (Below.refl _ _).drew) hs).mono ?_; rintro ee w1 ⟨rfl, b1⟩))
   all_goals
    have b1' := below_of_drew b1
    go_wp2
    go_roundw
    case rel => exact ⟨k + 1, by omega, by go_num, btr hb b1'⟩
    case measure => simp [intOf]; omega
  go_wp2
  go_ret
  exact ⟨rfl, hb⟩
end Go.Proofs.YtfmpcihghlnlnaaGreatDoor
