/-
  Lemmas that the claim's last text rests on.
-/
import Derived.Test.YtemcinobgdphnaaGreatQLM
namespace Go.Proofs.YtemcinobgdphnaaGreat
open Go.RowKit Go.Deep
open Option.some renaming injEq → qA
open Addr.mk renaming injEq → qB
open World renaming size_alloc → qC
open List renaming getElem?_eq_getElem → qD, length_append → qE, take_of_length_le → qF, take_succ_eq_append_getElem → qG
open Nat renaming le_refl → qH, zero_le → qI
set_option linter.unusedVariables false
set_option maxRecDepth 100000
set_option maxHeartbeats 25600000
variable {C p zs : List Int} {G Gr cap cr k n n0 : Nat} {W W' w : World} {a : Option Addr} {ps : List (List Int)} {rs : List RowM} {ts : List IV} {xs : List Value}
def sgn1 (c : Int) : Int := if 0 < c then 1 else if c < 0 then -1 else 0
theorem sgn1_vals (c : Int) : sgn1 c = 0 \/ sgn1 c = 1 \/ sgn1 c = -1 := by
 unfold sgn1
 split
 ·simp
 split <;> simp
def sgn : List Int -> Int
 | [] => 0
 | c :: t => if sgn1 c = 0 then sgn t else sgn1 c
theorem sgn_append (xs ys : List Int) : sgn (xs ++ ys) = if sgn xs = 0 then sgn ys else sgn xs := by
 induction xs with
 | nil => simp [sgn]
 | cons c t ih =>
  simp only [List.cons_append, sgn]
  by_cases h : sgn1 c = 0
  ·simp only [h, if_true]; exact ih
  simp only [h, if_false]
theorem sgn_one (c : Int) : sgn [c] = sgn1 c := by
 simp only [sgn]
 split
 ·next h => exact h.symm
 rfl
theorem sgn_take_succ (h : k < C.length) : sgn (C.take (k + 1)) = if sgn (C.take k) = 0 then sgn1 (C[k]?.getD 0) else sgn (C.take k) := by
 rw [qG h, sgn_append, qD h, sgn_one]
 rfl
theorem sgn_whole (h : sgn (C.take k) ≠ 0) : sgn C = sgn (C.take k) := by
 have := sgn_append (C.take k) (C.drop k);rw [List.take_append_drop, if_neg h] at this
 exact this
theorem sgn_end (hn : C.length = n) (h : n <= k) : sgn (C.take k) = sgn C := by rw [qF (by omega)]
def sg (C : List Int) : Int := if sgn C < 0 then -1 else 1
def mulW (n : Int) (zs : List Int) : List Int := zs.map fun z => wrap64 (n * z)
def partL (C : List Int) : List Int := mulW (sg C) C
theorem mulW_len {n : Int} : (mulW n zs).length = zs.length := by simp [mulW]
theorem mulW_get {n : Int} {i : Nat} (h : i < zs.length) : (mulW n zs)[i]?.getD 0 = wrap64 (n * zs[i]?.getD 0) := by
 simp [mulW, h]
theorem part_len (C : List Int) : (partL C).length = C.length := mulW_len
theorem part_step (h : k < C.length) : (partL C).take (k + 1) = (partL C).take k ++ [wrap64 (sgn (C.take (k + 1)) * C[k]?.getD 0)] := by
 have hl : k < (partL C).length := by rw [part_len]; exact h
 rw [qG hl]
 congr 2
 have e : (partL C)[k] = wrap64 (sg C * C[k]?.getD 0) := by
  have := mulW_get (n := sg C) h;rw [show mulW (sg C) C = partL C from rfl, qD hl] at this;simpa using this
 rw [e]
 by_cases hs : sgn (C.take (k + 1)) = 0
 ·have h1 := sgn_take_succ h
  have h2 : sgn1 (C[k]?.getD 0) = 0 := by
   rw [hs] at h1
   by_cases h3 : sgn (C.take k) = 0
   ·rw [if_pos h3] at h1; exact h1.symm
   rw [if_neg h3] at h1; exact absurd h1.symm h3
  have h3 : C[k]?.getD 0 = 0 := by
   unfold sgn1 at h2
   split at h2
   ·omega
   split at h2 <;> omega
  rw [h3]; simp
 have h1 := sgn_whole hs
 have : sg C = sgn (C.take (k + 1)) := by
  unfold sg;rw [h1]
  have hv : ∀ xs : List Int, sgn xs = 0 \/ sgn xs = 1 \/ sgn xs = -1 := by
   intro xs
   induction xs with
   | nil => simp [sgn]
   | cons c t ih =>
    simp only [sgn]
    by_cases hc : sgn1 c = 0
    ·simp only [hc, if_true]; exact ih
    rw [if_neg hc]; exact sgn1_vals c
  rcases hv (C.take (k + 1)) with e | e | e
  ·exact absurd e hs
  ·rw [e]; simp
  rw [e]; simp
 rw [this]
theorem timesW_any {l : Nat} (zs : List Int) {n : Int} {w : World} (h : Ints w a l zs) (hl : l <= 1048576) :
  Calls Tryz.prog 133 #[.slice a l cap, .int .i64 n] w fun e w' => e = .returned (.slice (some ⟨w.heap.size, 0, none⟩) l l) /\ Below w.heap.size w w' /\ Blk w' w.heap.size (mulW n zs) := by
 have HZ : Hid (zs.length = l) := h.1;have HM : Hid ((mulW n zs).length = l) := by show (mulW n zs).length = l; simp [mulW, h.1]
 obtain ⟨i0, hi, hz0, hz1, hz2⟩ := info_parts Tryz.infoInt
 go_enter Tryz.func133, Tryz.ntmps133
 go_wp2_with (at_make; refine wpList_make_full _ rfl (.tmp 9) (.tmp 9) 24 rfl w.heap.size 3 i0 (.int .i64 0) 1 Tryz.underlying24 hi hz0 hz1 .i64 .i64 _ _ l rfl rfl rfl rfl (by rw [hz2]; omega) (by unfold maxLen; omega) (qH _) ?_; intro w1 hown hgrow)
 have hb1 := Blk.made w l w1 hown;have HB : Below w.heap.size w w1 := (Below.refl _ _).grown hgrow (qH _) (by simp);clear hown hgrow hi hz0 hz1 hz2
 go_loopw [6, 7, 13] (fun _ _ i wr => ∃ k : Nat, k <= l /\ i = .int .i64 k /\ Below w.heap.size w wr /\ Blk wr w.heap.size (upTo (mulW n zs) l k)) (fun _ _ i _ => l - (intOf i).toNat)
 case atStart => exact ⟨0, qI _, rfl, HB, by rw [upTo_zero]; exact hb1⟩
 case round =>
  obtain ⟨k, hk, rfl, hnx, hblk⟩ := hrel
  by_cases hlt : k < l
  ·obtain ⟨b, off, rfl, hcell⟩ := (h.below hnx).pos (by omega);have hck := hcell k hlt;have hco := hblk.cell k (by rw [upTo_len HM.out hk]; exact hlt);have hfo := hblk.free k;have R := hblk.set k ((mulW n zs)[k]?.getD 0);rw [upTo_succ HM.out hlt, mulW_get (by rw [HZ.out]; exact hlt)] at R;have R2 := hnx.setCell (p := ⟨w.heap.size, k, none⟩) (qH _) (.int .i64 (wrap64 (n * zs[k]?.getD 0)));clear hcell hb1 HB h hblk hnx
   go_wp2
   go_roundw
   case rel => exact ⟨k + 1, by omega, by go_num, R2, R⟩
   case measure => simp [intOf]; omega
  go_wp2
  go_ret
  exact ⟨rfl, hnx, by rw [upTo_end HM.out (by omega)] at hblk; exact hblk⟩
theorem ipart_any (n : Nat) {cap : Nat} {c : Option Addr} (m : Nat) {cap' : Nat} {K : Int} (C : List Int) {w : World} (hC : Ints w a n C) (hn : n <= 1048576 := by omega) :
  Calls Tryz.prog 108 #[formV a n cap c m cap' K] w fun e w' => e = .returned (.slice (some ⟨w.heap.size + 1, 0, none⟩) n n) /\ Below w.heap.size w w' /\ Blk w' (w.heap.size + 1) (partL C) := by
 have HC : Hid (C.length = n) := hC.1
 go_enter Tryz.func108, Tryz.ntmps108
 go_wp2_with fail
 have hC1 := hC.alloc (.cells #[.slice a n cap, .slice c m cap', .int .i64 K] 86)
 have hend : ∀ (s : Int) (w2 : World), sg C = s -> Below (w.alloc (.cells #[.slice a n cap, .slice c m cap', .int .i64 K] 86)).heap.size (w.alloc (.cells #[.slice a n cap, .slice c m cap', .int .i64 K] 86)) w2 -> Blk w2 (w.alloc (.cells #[.slice a n cap, .slice c m cap', .int .i64 K] 86)).heap.size (mulW s C) -> Below w.heap.size w w2 /\ Blk w2 (w.heap.size + 1) (partL C) := by
  intro s w2 hs b2 k2;rw [qC] at k2
  exact ⟨(bal).trans (b2.mono (by simp)), by unfold partL; rw [hs]; exact k2⟩
 have HE : Hid _ := hend;clear hend
 go_loop [4, 8] (fun _ i => ∃ k : Nat, k <= n /\ i = .int .i64 k /\ sgn (C.take k) = 0) (fun _ i => n - (intOf i).toNat)
 case atStart => exact ⟨0, qI _, rfl, rfl⟩
 case round =>
  obtain ⟨k, hk, rfl, hs⟩ := hrel;have HS : Hid (sgn (C.take k) = 0) := hs;clear hs
  by_cases hlt : k < n
  ·obtain ⟨b, off, rfl, hcell⟩ := hC1.pos (by omega);have hck := hcell k hlt;clear hcell
   have HT : Hid (sgn (C.take (k + 1)) = sgn1 (C[k]?.getD 0)) := by
    show sgn (C.take (k + 1)) = sgn1 (C[k]?.getD 0)
    rw [sgn_take_succ (by rw [HC.out]; exact hlt), if_pos HS.out]
   by_cases h1 : 0 < C[k]?.getD 0
   ·have HG : Hid (sg C = 1) := by
     show sg C = 1
     have e := HT.out;rw [sgn1, if_pos h1] at e;have := sgn_whole (C := C) (k := k + 1) (by rw [e]; decide);rw [sg, this, e]; rfl
    go_wp2_with fail
    refine (timesW_any C hC1 hn).mono ?_;rintro e w2 ⟨rfl, b2, k2⟩
    go_wp2
    go_ret
    exact ⟨rfl, HE.out 1 w2 HG.out b2 k2⟩
   by_cases h2 : C[k]?.getD 0 < 0
   ·have HG : Hid (sg C = -1) := by
     show sg C = -1
     have e := HT.out;rw [sgn1, if_neg h1, if_pos h2] at e;have := sgn_whole (C := C) (k := k + 1) (by rw [e]; decide);rw [sg, this, e]; rfl
    go_wp2_with fail
    refine (timesW_any C hC1 hn).mono ?_;rintro e w2 ⟨rfl, b2, k2⟩
    go_wp2
    go_ret
    exact ⟨rfl, HE.out (-1) w2 HG.out b2 k2⟩
   have HT2 : Hid (sgn (C.take (k + 1)) = 0) := by
    show sgn (C.take (k + 1)) = 0
    rw [HT.out, sgn1, if_neg h1, if_neg h2]
   go_wp2
   go_round
   case rel => exact ⟨k + 1, by omega, by go_num, HT2.out⟩
   case measure => simp [intOf]; omega
  have HG : Hid (sg C = 1) := by
   show sg C = 1
   have e := HS.out;rw [sgn_end HC.out (by omega)] at e;rw [sg, e]; rfl
  go_wp2_with fail
  refine (timesW_any C hC1 hn).mono ?_;rintro e w2 ⟨rfl, b2, k2⟩
  go_wp2
  go_ret
  exact ⟨rfl, HE.out 1 w2 HG.out b2 k2⟩
theorem spart_new (a : Option Addr) (n cap : Nat) (c : Option Addr) (m cap' : Nat) (K : Int) (C : List Int) (w : World) (hC : Ints w a n C) (hn : n <= 1048576) :
  Calls Tryz.prog 98 #[formV a n cap c m cap' K] w fun e w' => ∃ a' cap2, e = .returned (.slice a' n cap2) /\ Below w.heap.size w w' /\ Ints w' a' n (partL C) /\ (∀ b o, a' = some ⟨b, o, none⟩ -> w.heap.size <= b /\ b < w'.heap.size) := by
 have HC : Hid (C.length = n) := hC.1;obtain ⟨i0, hi, hz0, hz1, hz2⟩ := info_parts Tryz.infoInt
 go_enter Tryz.func98, Tryz.ntmps98
 go_wp2_with fail
 obtain ⟨W, hW⟩ : ∃ W, W = w.alloc (.cells #[.slice a n cap, .slice c m cap', .int .i64 K] 86) := ⟨_, rfl⟩
 have box : Cel W w.heap.size [.slice a n cap, .slice c m cap', .int .i64 K] 86 := by rw [hW]; exact Cel.new w _ _
 have BW : Below w.heap.size w W := by rw [hW]; exact bal
 have hCW : Ints W a n C := hC.below BW;have HWS : Hid (W.heap.size = w.heap.size + 1) := by show W.heap.size = _; rw [hW, qC]
 rw [<- hW];clear hW hC
 go_loopw [3, 4, 5] (fun v s i wr => ∃ k : Nat, k <= n /\ i = .int .i64 k /\ s = .int .i64 (sgn (C.take k)) /\ ∃ xs : List Int, xs.length = k /\ xs = (partL C).take k /\ JA W v xs wr) (fun _ _ i _ => n - (intOf i).toNat)
 case atStart => exact ⟨0, qI _, rfl, rfl, [], rfl, rfl, by rw [<- HWS.out]; exact JA.lit W⟩
 case round =>
  obtain ⟨k, hk, rfl, rfl, xs, hxl, hxs, j⟩ := hrel;have HL : Hid (xs.length = k) := hxl;have HXS : Hid (xs = (partL C).take k) := hxs;clear hxl hxs;have jo := (j.o)
  rw [HL.out] at jo;have hjb := j.b.size;have g0 := (box.below j.b).cell 0;simp only [List.getElem?_cons_zero] at g0
  by_cases hlt : k < n
  ·obtain ⟨b, off, rfl, hcell⟩ := (hCW.below j.b).pos (by omega);have hck : wr.cell? ⟨b, off + k, none⟩ = some (.int .i64 (C[k]?.getD 0)) := by rw [hcell k hlt]; simp
   clear hcell;have HT : Hid _ := sgn_take_succ (C := C) (k := k) (by rw [HC.out]; exact hlt);have HP : Hid _ := part_step (C := C) (k := k) (by rw [HC.out]; exact hlt);generalize HS : sgn (C.take k) = s at *;generalize HX : C[k]?.getD 0 = x at *;clear HS HX
   by_cases hs0 : s = 0
   ·subst hs0
    by_cases h1 : 0 < x
    ·have HT2 : Hid (sgn1 x = 1) := by show sgn1 x = 1; rw [sgn1, if_pos h1]
     go_wp2_with (at_builtin; go_must (refine wpList_append_lies _ rfl (.tmp 34) (.tmp 42) 24 rfl W.heap.size 3 i0 (.int .i64 0) 1 8 Tryz.underlying24 hi hz0 hz1 hz2 rfl (by decide) _ _ _ rfl (jo.alloc _) ⟨wr.heap.size, 0, none⟩ 1 1 [.int .i64 (wrap64 x)] rfl rfl (news1 _) (one1) (by omega) (by unfold maxLen; omega) (by omega) (by rw [qC]; omega) _ rfl ?_); intro g cp w1 hown hgrow hat hlt1)
     have j2 := j.app HL.out hown hgrow;clear hown hgrow jo j hat;have HX2 : Hid (xs ++ [wrap64 x] = (partL C).take (k + 1)) := by show _ = _; rw [HP.out, HXS.out, HT.out, if_pos rfl, HT2.out, Int.one_mul]
     go_wp2
     go_roundw
     case rel => exact ⟨k + 1, by omega, by go_num, by rw [HT.out, if_pos rfl, HT2.out], _, by rw [qE, HL.out]; rfl, HX2.out, j2⟩
     case measure => simp [intOf]; omega
    by_cases h2 : x < 0
    ·have HT2 : Hid (sgn1 x = -1) := by show sgn1 x = -1; rw [sgn1, if_neg h1, if_pos h2]
     go_wp2_with (at_builtin; go_must (refine wpList_append_lies _ rfl (.tmp 34) (.tmp 42) 24 rfl W.heap.size 3 i0 (.int .i64 0) 1 8 Tryz.underlying24 hi hz0 hz1 hz2 rfl (by decide) _ _ _ rfl (jo.alloc _) ⟨wr.heap.size, 0, none⟩ 1 1 [.int .i64 (wrap64 (-x))] rfl rfl (news1 _) (one1) (by omega) (by unfold maxLen; omega) (by omega) (by rw [qC]; omega) _ rfl ?_); intro g cp w1 hown hgrow hat hlt1)
     have j2 := j.app HL.out hown hgrow;clear hown hgrow jo j hat;have HX2 : Hid (xs ++ [wrap64 (-x)] = (partL C).take (k + 1)) := by show _ = _; rw [HP.out, HXS.out, HT.out, if_pos rfl, HT2.out, Int.neg_one_mul]
     go_wp2
     go_roundw
     case rel => exact ⟨k + 1, by omega, by go_num, by rw [HT.out, if_pos rfl, HT2.out], _, by rw [qE, HL.out]; rfl, HX2.out, j2⟩
     case measure => simp [intOf]; omega
    have HT2 : Hid (sgn1 x = 0) := by show sgn1 x = 0; rw [sgn1, if_neg h1, if_neg h2]
    go_wp2_with (at_builtin; go_must (refine wpList_append_lies _ rfl (.tmp 34) (.tmp 42) 24 rfl W.heap.size 3 i0 (.int .i64 0) 1 8 Tryz.underlying24 hi hz0 hz1 hz2 rfl (by decide) _ _ _ rfl (jo.alloc _) ⟨wr.heap.size, 0, none⟩ 1 1 [.int .i64 0] rfl rfl (news1 _) (one1) (by omega) (by unfold maxLen; omega) (by omega) (by rw [qC]; omega) _ rfl ?_); intro g cp w1 hown hgrow hat hlt1)
    have j2 := j.app HL.out hown hgrow;clear hown hgrow jo j hat;have HX2 : Hid (xs ++ [0] = (partL C).take (k + 1)) := by show _ = _; rw [HP.out, HXS.out, HT.out, if_pos rfl, HT2.out, Int.zero_mul, show wrap64 0 = 0 from by decide +kernel]
    go_wp2
    go_roundw
    case rel => exact ⟨k + 1, by omega, by go_num, by rw [HT.out, if_pos rfl, HT2.out], _, by rw [qE, HL.out]; rfl, HX2.out, j2⟩
    case measure => simp [intOf]; omega
   have hs1 : (s == 0) = false := by simp [hs0]
   go_wp2_with (at_builtin; go_must (refine wpList_append_lies _ rfl (.tmp 34) (.tmp 42) 24 rfl W.heap.size 3 i0 (.int .i64 0) 1 8 Tryz.underlying24 hi hz0 hz1 hz2 rfl (by decide) _ _ _ rfl (jo.alloc _) ⟨wr.heap.size, 0, none⟩ 1 1 [.int .i64 (wrap64 (s * x))] rfl rfl (news1 _) (one1) (by omega) (by unfold maxLen; omega) (by omega) (by rw [qC]; omega) _ rfl ?_); intro g cp w1 hown hgrow hat hlt1)
   have j2 := j.app HL.out hown hgrow;clear hown hgrow jo j hat;have HX2 : Hid (xs ++ [wrap64 (s * x)] = (partL C).take (k + 1)) := by show _ = _; rw [HP.out, HXS.out, HT.out, if_neg hs0]
   go_wp2
   go_roundw
   case rel => exact ⟨k + 1, by omega, by go_num, by rw [HT.out, if_neg hs0], _, by rw [qE, HL.out]; rfl, HX2.out, j2⟩
   case measure => simp [intOf]; omega
  obtain rfl : k = n := by omega
  obtain ⟨a', cp, rfl, hcp, hI, hlt'⟩ := j.ints;have HXC : Hid (xs = partL C) := by show xs = _; rw [HXS.out, qF (by rw [part_len, HC.out]; exact qH _)]
  rw [HL.out] at hI hcp ⊢;have jb := j.b;clear j jo
  go_wp2
  go_ret
  exact ⟨a', cp, rfl, btr BW jb, by rw [<- HXC.out]; exact hI, fun b o e => ⟨by have := (hlt' b o e).1; have := HWS.out; omega, (hlt' b o e).2⟩⟩
theorem spart_any {c : Option Addr} {m cap' : Nat} {K : Int} (C : List Int) {w : World} (hC : Ints w a n C) (hn : n <= 1048576) :
  Calls Tryz.prog 98 #[formV a n cap c m cap' K] w fun e w' => ∃ a' cap2, e = .returned (.slice a' n cap2) /\ Below w.heap.size w w' /\ Ints w' a' n (partL C) /\ (∀ b o, a' = some ⟨b, o, none⟩ -> b < w'.heap.size) := by
 refine (spart_new a n cap c m cap' K C w hC hn).mono ?_;rintro e w' ⟨a', cap2, h1, h2, h3, h4⟩
 exact ⟨a', cap2, h1, h2, h3, fun b o e => (h4 b o e).2⟩
def L2V.ok (s : L2V) : Bool := actB s.n s.x
def catB (N : Nat) (ss : List L2V) : Bool := inB N 1 4 && ss.all L2V.ok
theorem allC_take_succ {ls : List L2V} (h : k < ls.length) (h1 : (ls.take k).all L2V.ok = true) (h2 : (ls[k]?.getD noL).ok = true) : (ls.take (k + 1)).all L2V.ok = true := by
 rw [qG h, List.all_append, h1];rw [qD h] at h2;simpa using h2
theorem allC_no {ls : List L2V} (h : k < ls.length) (h2 : (ls[k]?.getD noL).ok = false) : ls.all L2V.ok = false := by
 rw [List.all_eq_false];rw [qD h] at h2
 exact ⟨ls[k], List.getElem_mem h, by simpa using h2⟩
theorem scat_any {ad : Option Addr} {N : Nat} (ss : List L2V) {w : World} (hN : ss.length = N) (hF : LSG w ad ss) (hN1 : N <= 1048576) :
  Calls Tryz.prog 20 #[.slice ad N cap] w fun e w' => e = .returned (.bool (catB N ss)) /\ Below w.heap.size w w' := by
 have HN : Hid (ss.length = N) := hN;clear hN
 cases hib : inB N 1 4
 ·go_enter Tryz.func20, Tryz.ntmps20
  go_wp2_with fail
  refine (in_any).mono ?_;rintro e w1 ⟨rfl, rfl⟩;rw [hib]
  go_wp2
  go_ret
  exact ⟨ret_bool (by rw [catB, hib]; rfl), Below.refl _ _⟩
 go_enter Tryz.func20, Tryz.ntmps20
 go_wp2_with fail
 refine (in_any).mono ?_;rintro e w1 ⟨rfl, hw1⟩;rw [hib, hw1];clear hw1
 go_wp2_with fail
 have HCB : Hid (catB N ss = ss.all L2V.ok) := by show catB N ss = _; rw [catB, hib]; rfl
 go_loopw [3] (fun  i wr => ∃ k : Nat, k <= N /\ i = .int .i64 k /\ Below w.heap.size w wr /\ (ss.take k).all L2V.ok = true) (fun i _ => N - (intOf i).toNat)
 case atStart => exact ⟨0, qI _, rfl, Below.refl _ _, by simp⟩
 case round =>
  obtain ⟨k, hk, rfl, hb, hall⟩ := hrel;have HA : Hid ((ss.take k).all L2V.ok = true) := hall;clear hall
  by_cases hlt : k < N
  ·obtain ⟨b, off, rfl, hc, hr⟩ := (hF.below hb) k (by rw [HN.out]; exact hlt);generalize HG : ss[k]?.getD noL = g at *;have HG' : Hid (ss[k]?.getD noL = g) := HG;clear HG hF;obtain ⟨ga, gn, gcap, gx⟩ := g;have hc' : wr.cell? ⟨b, off + k, none⟩ = some (.slice ga gn gcap) := hc;clear hc
   cases hf : actB gn gx
   ·go_wp2_with fail
    refine (sact_any _ _ gx hr.1 hr.2.1 hr.2.2).mono ?_;rintro e w1 ⟨rfl, b1⟩;rw [hf]
    go_wp2
    go_ret
    exact ⟨ret_bool (by rw [HCB.out, allC_no (k := k) (by rw [HN.out]; exact hlt) (by rw [HG'.out]; exact hf)]), btr hb b1⟩
   go_wp2_with fail
   refine (sact_any _ _ gx hr.1 hr.2.1 hr.2.2).mono ?_;rintro e w1 ⟨rfl, b1⟩;rw [hf]
   go_wp2
   go_roundw
   case rel => exact ⟨k + 1, by omega, by go_num, btr hb b1, allC_take_succ (by rw [HN.out]; exact hlt) HA.out (by rw [HG'.out]; exact hf)⟩
   case measure => simp [intOf]; omega
  go_wp2
  go_ret
  exact ⟨ret_bool (by rw [HCB.out]; have := HA.out; rw [qF (by rw [HN.out]; omega)] at this; exact this.symm), hb⟩
theorem icat_any (ad : Option Addr) (N cap : Nat) (ss : List L2V) {w : World} (hN : ss.length = N) (hF : LSG w ad ss) (hN1 : N <= 1048576) :
  Calls Tryz.prog 46 #[.slice ad N cap] w fun e w' => e = .returned (.bool (catB N ss)) /\ Below w.heap.size w w' := by
 have HN : Hid (ss.length = N) := hN;clear hN
 by_cases h1 : N < 1
 ·have hib : inB N 1 4 = false := inB_not.2 (by omega)
  go_enter Tryz.func46, Tryz.ntmps46
  go_wp2
  go_ret
  exact ⟨ret_bool (by rw [catB, hib]; rfl), Below.refl _ _⟩
 by_cases h4 : 4 < N
 ·have hib : inB N 1 4 = false := inB_not.2 (by omega)
  go_enter Tryz.func46, Tryz.ntmps46
  go_wp2
  go_ret
  exact ⟨ret_bool (by rw [catB, hib]; rfl), Below.refl _ _⟩
 have hib : inB N 1 4 = true := inB_iff.2 (by omega)
 go_enter Tryz.func46, Tryz.ntmps46
 go_wp2_with fail
 have HCB : Hid (catB N ss = ss.all L2V.ok) := by show catB N ss = _; rw [catB, hib]; rfl
 go_loopw [4, 15] (fun _ i wr => ∃ k : Nat, k <= N /\ i = .int .i64 k /\ Below w.heap.size w wr /\ (ss.take k).all L2V.ok = true) (fun _ i _ => N - (intOf i).toNat)
 case atStart => exact ⟨0, qI _, rfl, Below.refl _ _, by simp⟩
 case round =>
  obtain ⟨k, hk, rfl, hb, hall⟩ := hrel;have HA : Hid ((ss.take k).all L2V.ok = true) := hall;clear hall
  by_cases hlt : k < N
  ·obtain ⟨b, off, rfl, hc, hr⟩ := (hF.below hb) k (by rw [HN.out]; exact hlt);generalize HG : ss[k]?.getD noL = g at *;have HG' : Hid (ss[k]?.getD noL = g) := HG;clear HG hF;obtain ⟨ga, gn, gcap, gx⟩ := g;have hc' : wr.cell? ⟨b, off + k, none⟩ = some (.slice ga gn gcap) := hc;clear hc
   cases hf : actB gn gx
   ·go_wp2_with fail
    refine (iact_any _ _ _ gx hr.1 hr.2.1 hr.2.2).mono ?_;rintro e w1 ⟨rfl, b1⟩;rw [hf]
    go_wp2
    go_ret
    exact ⟨ret_bool (by rw [HCB.out, allC_no (k := k) (by rw [HN.out]; exact hlt) (by rw [HG'.out]; exact hf)]), btr hb b1⟩
   go_wp2_with fail
   refine (iact_any _ _ _ gx hr.1 hr.2.1 hr.2.2).mono ?_;rintro e w1 ⟨rfl, b1⟩;rw [hf]
   go_wp2
   go_roundw
   case rel => exact ⟨k + 1, by omega, by go_num, btr hb b1, allC_take_succ (by rw [HN.out]; exact hlt) HA.out (by rw [HG'.out]; exact hf)⟩
   case measure => simp [intOf]; omega
  go_wp2
  go_ret
  exact ⟨ret_bool (by rw [HCB.out]; have := HA.out; rw [qF (by rw [HN.out]; omega)] at this; exact this.symm), hb⟩
def addPb (ps : List (List Int)) (p : List Int) : List (List Int) := if p ∈ ps \/ p = [0, 0, 0] then ps else ps ++ [p]
def guardsP (ps : List (List Int)) (fs : List Frm) : List (List Int) := fs.foldl (fun ps f => addPb ps (partL f.1)) ps
def rowsP (ps : List (List Int)) (rs : List RowM) : List (List Int) := rs.foldl (fun ps r => guardsP ps r.guards) ps
def actsP (ps : List (List Int)) (ss : List L2V) : List (List Int) := ss.foldl (fun ps s => rowsP ps (rowsL s.x)) ps
def pots3 : List (List Int) := [[1, 0, 0], [0, 1, 0], [0, 0, 1]]
def catP (ss : List L2V) : List (List Int) := actsP pots3 ss
def pinsA (ss : List L2V) (v : Nat) : Bool := ss.any fun s => readsR (rowsL s.x) v
theorem foldl_take {α β : Type} {f : β -> α -> β} {b : β} {xs : List α} {d : α} (h : k < xs.length) : (xs.take (k + 1)).foldl f b = f ((xs.take k).foldl f b) (xs[k]?.getD d) := by
 rw [qG h, List.foldl_append, qD h]; rfl
theorem guardsP_snoc (ps : List (List Int)) (fs : List Frm) (k : Nat) (h : k < fs.length) : guardsP ps (fs.take (k + 1)) = addPb (guardsP ps (fs.take k)) (partL (fs[k]?.getD ([], [], 0)).1) := foldl_take h
theorem rowsP_snoc (h : k < rs.length) : rowsP ps (rs.take (k + 1)) = guardsP (rowsP ps (rs.take k)) (rs[k]?.getD noR).guards := foldl_take h
theorem actsP_snoc {ss : List L2V} (h : k < ss.length) : actsP ps (ss.take (k + 1)) = rowsP (actsP ps (ss.take k)) (rowsL (ss[k]?.getD noL).x) := foldl_take h
theorem pinsA_snoc (ss : List L2V) (k : Nat) (h : k < ss.length) (v : Nat) : pinsA (ss.take (k + 1)) v = (pinsA (ss.take k) v || readsR (rowsL (ss[k]?.getD noL).x) v) := by
 rw [pinsA, qG h, List.any_append, qD h];simp [pinsA]
theorem has_mem (p : List Int) : ∀ (ps : List (List Int)) (k : Nat), (hasFrom p k ps < 0 ↔ p ∉ ps)
 | [], k => by simp [hasFrom]
 | q :: ps, k => by
  rw [hasFrom]
  by_cases e : q = p
  ·subst e; simp [eqB]
  have h1 : eqB q p = false := by simp [eqB, e]
  rw [h1];have := has_mem p ps (k + 1);simp only [Bool.false_eq_true, if_false, this, List.mem_cons, not_or]
  exact ⟨fun h => ⟨fun h2 => e h2.symm, h⟩, fun h => h.2⟩
theorem addP_has (h : ¬ hasFrom p 0 ps < 0) : addPb ps p = ps := by
 rw [has_mem] at h;rw [addPb, if_pos (.inl (Classical.not_not.1 h))]
theorem addP_zero (h : p = [0, 0, 0]) : addPb ps p = ps := by rw [addPb, if_pos (.inr h)]
theorem addP_new (h : hasFrom p 0 ps < 0) (h2 : p ≠ [0, 0, 0]) : addPb ps p = ps ++ [p] := by
 rw [has_mem] at h;rw [addPb, if_neg (by rintro (h' | h'); exact h h'; exact h2 h')]
theorem Ints.blkB {b off : Nat} (h : Ints w (some ⟨b, off, none⟩) n zs) (hn : 0 < n) : b < w.heap.size := by
 obtain ⟨b', o', e, hc⟩ := h.2 0 hn;simp only [qA, qB, and_true] at e;obtain ⟨rfl, rfl⟩ := e
 exact block_lt hc
structure JP (w : World) (G cap : Nat) (ts : List IV) (W : World) : Prop where
 b : Below w.heap.size w W
 o : W.ownsRow w.heap.size 24 1 (.slice (some ⟨G, 0, none⟩) ts.length cap) ts.length (ts.map IV.v)
 k : ∀ j, j < ts.length -> (ts[j]?.getD noI).n = 3 /\ Ints W (ts[j]?.getD noI).a 3 (ts[j]?.getD noI).x /\ ∀ b o, (ts[j]?.getD noI).a = some ⟨b, o, none⟩ -> b ≠ G
theorem JP.nil (w W : World) (hb : Below w.heap.size w W) : JP w W.heap.size 0 [] (W.alloc (.cells #[] 24)) :=
 ⟨hb.alloc hb.size _, World.ownsRow_lit W #[] 0 hb.size (by unfold maxLen; omega) rfl, fun j hj => by simp at hj⟩
theorem JP.below (j : JP w G cap ts W) (h : Below W.heap.size W W') : JP w G cap ts W' :=
 ⟨j.b.trans (h.mono j.b.size), own_below j.o h, fun i hi => by obtain ⟨a, b, c⟩ := j.k i hi; exact ⟨a, b.below h, c⟩⟩
theorem JP.lt (j : JP w G cap ts W) : w.heap.size <= G /\ G < W.heap.size := by
 rcases j.o.2 with ⟨h, _⟩ | ⟨g, cap', cur, h, hg, hh, _⟩
 ·cases h
 simp only [Value.slice.injEq, qA, qB, and_true, true_and] at h;obtain ⟨rfl, _⟩ := h
 exact ⟨hg, lt_of_block hh⟩
theorem JP.g (j : JP w G cap ts W) : ISG W (some ⟨G, 0, none⟩) ts := fun i hi => by
 obtain ⟨h1, h2, h3⟩ := j.k i hi;refine ⟨G, 0, rfl, ?_, ?_, by omega⟩
 ·rw [Nat.zero_add, own_cell j.o i (by omega), List.getElem?_map, qD hi]; rfl
 rw [h1]; exact h2
theorem JP.app {g cp : Nat} {s : IV} {o : Obj} (j : JP w G cap ts W) (hk : ts.length = k) (hs : s.n = 3) (hI : Ints W s.a 3 s.x) (hb : ∀ b o, s.a = some ⟨b, o, none⟩ -> b ≠ G)
  (hown : W'.ownsRow w.heap.size 24 1 (.slice (some ⟨g, 0, none⟩) (k + 1) cp) (k + 1) (ts.map IV.v ++ [s.v])) (hg : (W.alloc o).grownBy W' (some G)) (hat : g = G \/ W.heap.size <= g) : JP w g cp (ts ++ [s]) W' := by
 subst hk;have A : Below W.heap.size W (W.alloc o) := bal;have ja := j.below A;have T : Touch (fun y => y = G) (W.alloc o) W' := ⟨hg.os, hg.tape, hg.output, hg.size, fun z hz hn => hg.block z hz (fun e => hn (by simpa using e))⟩
 have key : ∀ (a : Option Addr) (x : List Int), Ints W a 3 x -> (∀ b o, a = some ⟨b, o, none⟩ -> b ≠ G) -> Ints W' a 3 x /\ ∀ b o, a = some ⟨b, o, none⟩ -> b ≠ g := fun a x h1 h2 => by
  refine ⟨(h1.below A).offC (fun b o e => h2 b o e) T, fun b o e => ?_⟩;have h3 := h2 b o e;subst e;have := h1.blkB (by omega)
  omega
 refine ⟨ja.b.grown hg ja.b.size (fun z hz => ?_), ?_, fun i hi => ?_⟩
 ·have := j.lt;simp only [qA] at hz
  omega
 ·rw [qE, List.map_append]; exact hown
 by_cases h : i < ts.length
 ·rw [List.getElem?_append_left h];obtain ⟨a, b, c⟩ := j.k i h
  exact ⟨a, key _ _ b c⟩
 rw [qE, List.length_singleton] at hi;obtain rfl : i = ts.length := by omega
 rw [List.getElem?_append_right (qH _), Nat.sub_self]
 exact ⟨hs, key _ _ hI hb⟩
theorem oneSl {c : Nat} : ∀ u ∈ [Value.slice a n c], u.oneCell' = true := fun u hu => by
 simp at hu; subst hu; rfl
theorem field_C (a : Option Addr) (n ca : Nat) (c : Option Addr) (m cc : Nat) (K : Int) (W : World) : (Instr.field 86 (formV a n ca c m cc K) 0).run Tryz.prog W = .ok (.slice a n ca) W := by kernel_rfl
theorem OwnB.grown {Gp : Nat} {f : Nat -> Bool} {o : Obj} (h : OwnB W Gp f) (hg : (W.alloc o).grownBy W' (some G)) (hne : Gp ≠ G) : OwnB W' Gp f := by
 obtain ⟨cur, hc, hv⟩ := h
 exact ⟨cur, (hc.alloc o).grew hg (by simpa using fun e => hne e.symm), hv⟩
structure JQ (n0 Gr cr G : Nat) (xs : List Value) (rs : List RowM) (W : World) : Prop where
 o : W.ownsRow n0 76 4 (.slice (some ⟨Gr, 0, none⟩) rs.length cr) rs.length xs
 r : RowsOk W (fun k => k < n0 \/ k = G) xs rs
 ne : Gr ≠ G
theorem JQ.of (j : JR w Gr cr xs rs W) (hG : G < w.heap.size) : JQ w.heap.size Gr cr G xs rs W :=
 ⟨j.o, j.r.map (fun _ _ f => f.mono (fun k hk => Or.inl (by omega))), by have := j.lt; omega⟩
theorem JQ.lt (j : JQ n0 Gr cr G xs rs W) : n0 <= Gr /\ Gr < W.heap.size := by
 rcases j.o.2 with ⟨h, _⟩ | ⟨g, cap', cur, h, hg, hh, _⟩
 ·cases h
 simp only [Value.slice.injEq, qA, qB, and_true, true_and] at h;obtain ⟨rfl, _⟩ := h
 exact ⟨hg, lt_of_block hh⟩
theorem JQ.below (j : JQ n0 Gr cr G xs rs W) (b : Below W.heap.size W W') : JQ n0 Gr cr G xs rs W' :=
 ⟨own_below j.o b, j.r.map (fun _ _ f => f.below b), j.ne⟩
theorem JQ.grown {g : Nat} {o : Obj} (j : JQ n0 Gr cr G xs rs W) (hg : (W.alloc o).grownBy W' (some G)) (hat : g = G \/ W.heap.size < g) : JQ n0 Gr cr g xs rs W' := by
 have A : Below W.heap.size W (W.alloc o) := bal;have ja := j.below A;have T : Touch (fun y => y = G) (W.alloc o) W' := ⟨hg.os, hg.tape, hg.output, hg.size, fun z hz hn => hg.block z hz (fun e => hn (by simpa using e))⟩
 refine ⟨own_off ja.o (fun z hz hs => ?_) T, ja.r.map (fun _ _ f => f.grown hg (by rw [qC]; omega)), ?_⟩
 ·have hz' : some Gr = some z := hz;simp only [qA] at hz'
  exact j.ne (by omega)
 have := j.lt;have := j.ne
 omega
theorem pots3_take (h : k < 3) : pots3.take (k + 1) = pots3.take k ++ [([0, 0, 0] : List Int).set k 1] := by
 match k, h with
 | 0, _ => rfl
 | 1, _ => rfl
 | 2, _ => rfl
theorem partL_len3 {f : Frm} {M : Int} (h : fitX M f) : (partL f.1).length = 3 := by
 rw [part_len]; exact h.1
theorem sboth_any {ad : Option Addr} {N : Nat} (ss : List L2V) {w : World} (hN : ss.length = N) (hF : LSG w ad ss) (hok : ss.all L2V.ok = true) (hN4 : N <= 4) :
  Calls Tryz.prog 56 #[.slice ad N cap] w fun e w' => ∃ G cG ts nt Gp cp, e = .returned (.tuple #[.slice (some ⟨G, 0, none⟩) nt cG, .slice (some ⟨Gp, 0, none⟩) 3 cp]) /\ ts.length = nt /\ JP w G cG ts w' /\ ts.map IV.x = catP ss /\ nt <= 600000 /\ OwnB w' Gp (pinsA ss) /\ w.heap.size <= Gp := by
 have HN : Hid (ss.length = N) := hN;have HOK : Hid (ss.all L2V.ok = true) := hok;have HF : Hid (LSG w ad ss) := hF;clear hN hok hF;obtain ⟨i0, hi, hz0, hz1, hz2⟩ := info_parts Tryz.infoI;have b0 : Below w.heap.size w ((w.alloc (.cells #[] 24)).alloc (.cells #[.bool false, .bool false, .bool false] 4)) := (bal).alloc (by simp) _;have j0 : JP w w.heap.size 0 [] ((w.alloc (.cells #[] 24)).alloc (.cells #[.bool false, .bool false, .bool false] 4)) := (JP.nil w w (Below.refl _ _)).below (bal)
 have p0 : OwnB ((w.alloc (.cells #[] 24)).alloc (.cells #[.bool false, .bool false, .bool false] 4)) (w.heap.size + 1) (pinsA (ss.take 0)) := by
  refine ⟨[.bool false, .bool false, .bool false], ?_, fun v hv => ?_⟩
  ·have := Cel.new (w.alloc (.cells #[] 24)) [.bool false, .bool false, .bool false] 4;rw [qC] at this; exact this
  match v, hv with
  | 0, _ => simp [pinsA]
  | 1, _ => simp [pinsA]
  | 2, _ => simp [pinsA]
 go_enter Tryz.func56, Tryz.ntmps56
 go_wp2_with fail
 go_loopw [4, 6] (fun out v wr => ∃ (k G cG : Nat) (ts : List IV), k <= 3 /\ v = .int .i64 k /\ out = .slice (some ⟨G, 0, none⟩) k cG /\ ts.length = k /\ JP w G cG ts wr /\ ts.map IV.x = pots3.take k /\ OwnB wr (w.heap.size + 1) (pinsA (ss.take 0)) /\ w.heap.size + 1 ≠ G) (fun _ v _ => 3 - (intOf v).toNat)
 case atStart => exact ⟨0, _, _, [], by omega, rfl, rfl, rfl, j0, rfl, p0, by omega⟩
 case round =>
  clear j0 p0 b0;obtain ⟨k, G, cG, ts, hk, rfl, rfl, hl, jp, hx, p, pne⟩ := hrel;have HL : Hid (ts.length = k) := hl;have HX : Hid (ts.map IV.x = pots3.take k) := hx;clear hl hx
  by_cases hlt : k < 3
  ·have hlt' : (k : Int) < 3 := by omega
   have HP : Hid (potC (k : Int) = [0, 0, 0].set k 1) := potC_in _ k rfl;have lG := jp.lt
   go_wp2_with fail
   refine (spot_any _ _).mono ?_;rintro e w1 ⟨a, n, ca, c, m, cc, B1, B2, rfl, hn, hm, b1, o1, o2, g1, g2, ne⟩;have hn3 : n = 3 := by rw [<- hn, HP.out]; simp
   subst hn3;have I1 : Ints w1 a 3 (potC (k : Int)) := o1.ints' hn
   have Hne : Hid (∀ b o, a = some ⟨b, o, none⟩ -> b ≠ G) := fun b o e => by
    rcases o1 with h | ⟨h, _⟩
    ·rw [h] at hn; cases hn
    rw [h] at e;simp only [qA, qB, and_true] at e;have := g1 (by omega)
    omega
   have jp1 := jp.below b1;have p1 := p.below b1;have jo := jp1.o;rw [HL.out] at jo;have js := jp1.b.size;have hfl : ∀ W, (Instr.field 86 (formV a 3 ca c m cc 0) 0).run Tryz.prog W = .ok (.slice a 3 ca) W := fun W => field_C a 3 ca c m cc 0 W;clear jp p b1 o1 o2 hn hm ne g1 g2
   go_wp2_with (at_builtin; go_must (refine wpList_append_lies _ rfl (.tmp 18) (.tmp 22) 36 rfl w.heap.size 24 i0 _ 1 24 Tryz.underlying36 hi hz0 hz1 hz2 rfl (by decide) _ _ _ rfl (jo.alloc _) ⟨w1.heap.size, 0, none⟩ 1 1 [.slice a 3 ca] rfl rfl (news1 w1) oneSl (by omega) (by unfold maxLen; omega) (by omega) (by rw [qC]; omega) _ rfl ?_); intro g cp2 w2 hown hgrow hat hlt1)
   have hat' : g = G \/ w1.heap.size <= g := by
    rcases hat with h | h
    ·have h' : some G = some g := h;simp only [qA] at h'
     exact Or.inl h'.symm
    rw [qC] at h
    exact Or.inr (by omega)
   have jp2 := jp1.app (s := ⟨a, 3, ca, potC (k : Int)⟩) HL.out rfl I1 Hne.out hown hgrow hat';have lp1 := p1.lt;have p2 := p1.grown hgrow pne;have pne2 : w.heap.size + 1 ≠ g := by omega
   have HX2 : Hid ((ts ++ [(⟨a, 3, ca, potC (k : Int)⟩ : IV)]).map IV.x = pots3.take (k + 1)) := by
    show _ = _
    rw [List.map_append, HX.out, pots3_take hlt, <- HP.out]; rfl
   have HL2 : Hid ((ts ++ [(⟨a, 3, ca, potC (k : Int)⟩ : IV)]).length = k + 1) := by show _ = _; rw [qE, HL.out]; rfl
   clear hown hgrow hat jo jp1 p1 I1 Hne
   go_wp2
   go_roundw
   case rel => exact ⟨k + 1, g, cp2, _, by omega, by go_num, rfl, HL2.out, jp2, HX2.out, p2, pne2⟩
   case measure => simp [intOf]; omega
  obtain rfl : k = 3 := by omega
  have HX3 : Hid (ts.map IV.x = actsP pots3 (ss.take 0)) := HX.out;have hb3 := jp.b;clear HX
  go_wp2_with fail
  go_loopw [4, 5, 7, 8, 9, 10, 11] (fun out pins i _ _ _ _ wr => ∃ (ia G cG nt Gp cp : Nat) (ts : List IV), ia <= N /\ i = .int .i64 ia /\ out = .slice (some ⟨G, 0, none⟩) nt cG /\ pins = .slice (some ⟨Gp, 0, none⟩) 3 cp /\ ts.length = nt /\ nt <= 3 + 128000 * ia /\ JP w G cG ts wr /\ ts.map IV.x = actsP pots3 (ss.take ia) /\ OwnB wr Gp (pinsA (ss.take ia)) /\ w.heap.size <= Gp /\ Gp ≠ G) (fun _ _ i _ _ _ _ _ => N - (intOf i).toNat)
  case atStart => exact ⟨0, G, cG, 3, w.heap.size + 1, 3, ts, by omega, rfl, rfl, rfl, HL.out, by omega, jp, HX3.out, p, by omega, pne⟩
  case round =>
   clear jp p pne HX3 HL hb3 hlt hk;obtain ⟨ia, G, cG, nt, Gp, cp, ts, hia, rfl, rfl, rfl, hl, hnt, jp, hx, p, lGp, pne⟩ := hrel;have HL : Hid (ts.length = nt) := hl;have HX : Hid (ts.map IV.x = actsP pots3 (ss.take ia)) := hx;clear hl hx
   by_cases hlt : ia < N
   ·have hlt' : (ia : Int) < N := by omega
    have his : ia < ss.length := by rw [HN.out]; exact hlt
    obtain ⟨ab, ao, rfl, hc, hLG⟩ := (HF.out.below jp.b) ia his;have HSA : Hid (∀ ps, ps = actsP pots3 (ss.take ia) -> rowsP ps (rowsL (ss[ia]?.getD noL).x) = actsP pots3 (ss.take (ia + 1))) := fun ps h => by rw [h, actsP_snoc his]
    have HSB : Hid (∀ v, pinsA (ss.take (ia + 1)) v = (pinsA (ss.take ia) v || readsR (rowsL (ss[ia]?.getD noL).x) v)) := fun v => pinsA_snoc ss ia his v
    have hsok : (ss[ia]?.getD noL).ok = true := by
     rw [qD his]
     exact List.all_eq_true.1 HOK.out _ (List.getElem_mem his)
    obtain ⟨s, hs⟩ : ∃ s, s = ss[ia]?.getD noL := ⟨_, rfl⟩
    rw [<- hs] at hc hLG HSA HSB hsok;obtain ⟨sa, sn, sc, sx⟩ := s;have hAct : actB sn sx = true := hsok;obtain ⟨hxl, hLin, hsn⟩ := hLG;have hc' : wr.cell? ⟨ab, ao + ia, none⟩ = some (.slice sa sn sc) := hc;have HXL : Hid (sx.length = sn) := hxl;have HLIN : Hid (LinesG wr sa sx) := hLin;have lG := jp.lt;clear hs hc hsok hxl hLin;have HAC : Hid (actB sn sx = true) := hAct;clear hAct
    go_wp2_with fail
    refine (srows_any sx HXL.out HLIN.out hsn).mono ?_;rw [show rowsB sn sx = rowsL sx from by rw [rowsB, HAC.out]; rfl];rintro ee w3 ⟨Gr, cr, xs, rfl, j3⟩;have HFIT : Hid (∀ r ∈ rowsL sx, RowFit r) := rowsL_fit (by rw [HXL.out]; exact (actB_parts HAC.out).1) (actB_parts HAC.out).2 HLIN.out;have jq3 : JQ wr.heap.size Gr cr G xs (rowsL sx) w3 := JQ.of j3 lG.2;have p3 := p.below j3.b;have jp3 := jp.below j3.b;obtain ⟨R, hR⟩ : ∃ R, R = rowsL sx := ⟨_, rfl⟩
    have HSA' : Hid (∀ ps, ps = actsP pots3 (ss.take ia) -> rowsP ps R = actsP pots3 (ss.take (ia + 1))) := fun ps h => by rw [hR]; exact HSA.out ps h
    have HSB' : Hid (∀ v, pinsA (ss.take (ia + 1)) v = (pinsA (ss.take ia) v || readsR R v)) := fun v => by rw [hR]; exact HSB.out v
    have q1 : R.length <= 128 := by rw [hR]; exact goW_128 (by omega)
    rw [<- hR] at jq3 HFIT ⊢;obtain ⟨n0, hn0⟩ : ∃ n0, n0 = wr.heap.size := ⟨_, rfl⟩
    rw [<- hn0] at jq3;obtain ⟨PS, hPS⟩ : ∃ PS, PS = actsP pots3 (ss.take ia) := ⟨_, rfl⟩
    obtain ⟨PB, hPB⟩ : ∃ PB, PB = pinsA (ss.take ia) := ⟨_, rfl⟩
    obtain ⟨pinK, hpin⟩ : ∃ pinK : Nat -> Nat -> Bool, pinK = fun k v => PB v || readsR (R.take k) v := ⟨_, rfl⟩
    have HPK : Hid (pinK = fun k v => PB v || readsR (R.take k) v) := hpin;have p4 : OwnB w3 Gp (pinK 0) := p3.ext (fun v _ => by rw [hpin, hPB]; simp [readsR]);have HX0 : Hid (ts.map IV.x = rowsP PS (R.take 0)) := by show _ = _; rw [HX.out, hPS]; rfl
    have HSA2 : Hid (rowsP PS R = actsP pots3 (ss.take (ia + 1))) := HSA'.out PS hPS;have HSB2 : Hid (∀ v, pinsA (ss.take (ia + 1)) v = pinK R.length v) := fun v => by rw [HSB'.out v, hpin, hPB]; dsimp only; rw [qF (qH _)]
    clear j3 hR HSA HSB HSA' HSB' hn0 hPS hPB hpin p p3 jp HX HLIN HXL HAC hc'
    go_wp2_with fail
    go_loopw [4, 5, 9, 10, 11] (fun out pins i _ _ wr => ∃ (k G cG nt Gp cp : Nat) (ts : List IV), k <= R.length /\ i = .int .i64 k /\ out = .slice (some ⟨G, 0, none⟩) nt cG /\ pins = .slice (some ⟨Gp, 0, none⟩) 3 cp /\ ts.length = nt /\ nt <= 3 + 128000 * ia + 1000 * k /\ JP w G cG ts wr /\ ts.map IV.x = rowsP PS (R.take k) /\ OwnB wr Gp (pinK k) /\ w.heap.size <= Gp /\ Gp ≠ G /\ JQ n0 Gr cr G xs R wr) (fun _ _ i _ _ _ => R.length - (intOf i).toNat)
    case atStart => exact ⟨0, G, cG, nt, Gp, cp, ts, by omega, rfl, rfl, rfl, HL.out, by omega, jp3, HX0.out, p4, lGp, pne, jq3⟩
    case round =>
     clear jp3 p4 pne HX0 HL jq3 hnt lGp lG;obtain ⟨k, Go, cGo, nt, G, cG, ts, hk, rfl, rfl, rfl, hl, hnt, jp, hx, o, lGp, pne, j⟩ := hrel;have HL : Hid (ts.length = nt) := hl;have HX : Hid (ts.map IV.x = rowsP PS (R.take k)) := hx;have hb := jp.b;clear hl hx
     by_cases hlt3 : k < R.length
     ·have hlt3' : (k : Int) < R.length := by omega
      obtain ⟨ga, gc, aa, ac, ta, tc, x0, x1, x2, x3, f0, f1, f2⟩ := j.r k hlt3
      have HSP : Hid (∀ v, pinK (k + 1) v = readsF (readsF (pinK k) (R[k]?.getD noR).adds) (R[k]?.getD noR).tells v) := fun v => by
       rw [HPK.out]
       show (PB v || readsR (R.take (k + 1)) v) = _
       rw [readsR_snoc R k hlt3 v];simp [readsF, Bool.or_assoc]
      have HSG : Hid (∀ ps, ps = rowsP PS (R.take k) -> guardsP ps (R[k]?.getD noR).guards = rowsP PS (R.take (k + 1))) := fun ps h => by rw [h, rowsP_snoc hlt3]
      have hfit : RowFit (R[k]?.getD noR) := HFIT.out _ (by rw [qD hlt3]; exact List.getElem_mem hlt3);have HRK : Hid (∀ W, JQ n0 Gr cr Go xs R W -> True) := fun _ _ => trivial;obtain ⟨q, hq⟩ : ∃ q, q = R[k]?.getD noR := ⟨_, rfl⟩
      have HQ : Hid (q = R[k]?.getD noR) := hq;rw [<- hq] at x0 x1 x2 x3 f0 f1 f2 HSP HSG hfit;have HA : Hid _ := hfit.a;have HTt : Hid _ := hfit.t;have HGf : Hid _ := hfit.g;have la := hfit.la;have lt := hfit.lt;have lgq := hfit.lg;have sl := j.o.1;have n1 := (own_cell j.o (k * 4 + 1) (by omega)).trans x1;have n2 := (own_cell j.o (k * 4 + 2) (by omega)).trans x2;have lGr := j.lt;have FA := f1.at;have FT := f2.at;have KP : Hid (∀ W, Below wr.heap.size wr W -> (W.cell? ⟨Gr, k * 4 + 1, none⟩ = some (.slice aa q.adds.length ac) /\ W.cell? ⟨Gr, k * 4 + 2, none⟩ = some (.slice ta q.tells.length tc))) := fun W hW => ⟨(hW.cell (p := ⟨Gr, k * 4 + 1, none⟩) lGr.2).trans n1, (hW.cell (p := ⟨Gr, k * 4 + 2, none⟩) lGr.2).trans n2⟩
      have e0 : Below wr.heap.size wr wr.drew := (Below.refl _ _).drew;have hSS := And.intro (KP.out _ e0) (True.intro);have lGo := jp.lt;clear hfit x0 x1 x2 x3 f0 f1 f2 hq
      go_upto_region 14 with fail
      refine wp_region_ends (fun w' => w'.cell? ⟨Gr, k * 4 + 1, none⟩ = some (.slice aa q.adds.length ac) /\ w'.cell? ⟨Gr, k * 4 + 2, none⟩ = some (.slice ta q.tells.length tc)) (fun _ => True) 13 (by kernel_rfl) ?_;refine tkl 0 rfl hSS ?_;refine tkl 1 rfl hSS ?_;refine tkl 2 rfl hSS ?_;refine tkl 3 rfl hSS ?_;refine tkl 4 rfl hSS ?_;refine tkl 5 rfl hSS ?_;refine tkl 7 rfl hSS ?_;refine tkl 8 rfl hSS ?_;refine tkl 9 rfl hSS ?_;refine tkl 10 rfl hSS ?_;refine tkl 11 rfl hSS ?_;clear hSS;refine wo1 6 rfl fun K hK => ?_;go_simp;refine (sreads_any q.adds (o.bools.below e0) rfl (FA.keep e0) HA.out).mono ?_;rintro ee w4 ⟨G4, c4, rfl, bd4, l4, o4⟩;have b4 := below_of_drew bd4;have l4x : wr.heap.size <= G4 := l4;clear bd4 l4;(try dsimp only);refine kk0 hK (KP.out _ b4) ?_;refine wo1 12 rfl fun K hK => ?_;go_simp;refine (sreads_any q.tells o4.bools rfl (FT.keep b4) HTt.out).mono ?_;rintro ee w5 ⟨G5, c5, rfl, bd5, l5, o5⟩;have b5 := b4.trans (bd5.mono b4.size);have s4 := b4.size;have sb := hb.size;have O5 : Hid (OwnB w5 G5 (pinK (k + 1))) := o5.ext (fun v _ => (HSP.out v).symm);have J5 := j.below b5;have P5 := jp.below b5;have B5 := hb.trans (b5.mono hb.size);clear bd5 o4 o5 o j jp;(try dsimp only);refine kk0 hK (KP.out _ b5) ?_;refine wo1 13 rfl fun K hK => ?_;go_simp;refine kk0 hK (KP.out _ b5) ?_;refine wod ?_ _;clear KP b4 b5 FA FT n1 n2;have pne5 : G5 ≠ Go := by omega
      have lG5 : w.heap.size <= G5 := by omega
      obtain ⟨PG, hPG⟩ : ∃ PG, PG = rowsP PS (R.take k) := ⟨_, rfl⟩
      have HSG2 : Hid (guardsP PG q.guards = rowsP PS (R.take (k + 1))) := HSG.out PG hPG;have HXG : Hid (ts.map IV.x = guardsP PG (q.guards.take 0)) := by show _ = _; rw [HX.out, hPG]; rfl
      obtain ⟨NG, hNG⟩ : ∃ NG, NG = q.guards.length := ⟨_, rfl⟩
      have HNG : Hid (NG = q.guards.length) := hNG;rw [<- hNG] at lgq;clear hPG HSG HX HSP hNG hb lGp pne sl lGr lGo e0
      go_wp2_with fail
      go_loopw [4, 10, 11] (fun out i _ wr => ∃ (g G cG nt : Nat) (ts : List IV), g <= NG /\ i = .int .i64 g /\ out = .slice (some ⟨G, 0, none⟩) nt cG /\ ts.length = nt /\ nt <= 3 + 128000 * ia + 1000 * k + g /\ JP w G cG ts wr /\ ts.map IV.x = guardsP PG (q.guards.take g) /\ OwnB wr G5 (pinK (k + 1)) /\ G5 ≠ G /\ JQ n0 Gr cr G xs R wr) (fun _ i _ _ => NG - (intOf i).toNat)
      case atStart => exact ⟨0, Go, cGo, nt, ts, by omega, rfl, rfl, HL.out, by omega, P5, HXG.out, O5.out, pne5, J5⟩
      case round =>
       clear O5 P5 J5 HXG HL pne5 hnt B5 l5 s4 sb;obtain ⟨g, G, cG, nt, ts, hg, rfl, rfl, hl, hnt, jp, hx, o, pne, j⟩ := hrel;have HL : Hid (ts.length = nt) := hl;have HX : Hid (ts.map IV.x = guardsP PG (q.guards.take g)) := hx;clear hl hx;obtain ⟨ga, gc, aa, ac, ta, tc, x0, x1, x2, x3, f0, f1, f2⟩ := j.r k hlt3;rw [<- HQ.out] at x0 f0;have sl := j.o.1;have n0' := (own_cell j.o (k * 4) (by omega)).trans x0;rw [<- HNG.out] at n0';have lGr := j.lt;have lG := jp.lt
       by_cases hlt4 : g < NG
       ·have hlt4' : (g : Int) < NG := by omega
        have hgl : g < q.guards.length := by rw [<- HNG.out]; exact hlt4
        have HSX : Hid (guardsP PG (q.guards.take (g + 1)) = addPb (guardsP PG (q.guards.take g)) (partL (q.guards[g]?.getD ([], [], 0)).1)) := guardsP_snoc PG q.guards g hgl;have hl3 : (partL (q.guards[g]?.getD ([], [], 0)).1).length = 3 := partL_len3 (HGf.out g hgl);obtain ⟨fb, fo, rfl, a', c', ca, cc, c0, c1, c2, iC, iD⟩ := f0.at g hgl;generalize (q.guards[g]?.getD ([], [], 0)).1 = C at *;generalize (q.guards[g]?.getD ([], [], 0)).2.2 = kz at *;have HPL : Hid ((partL C).length = 3) := hl3;clear f0 f1 f2 x0 x1 x2 x3 iD hl3
        go_wp2_with fail
        refine (spart_new _ 3 _ _ 2 _ _ C _ iC (by omega)).mono ?_;rintro ee w6 ⟨pa, pc, rfl, b6, i6, l6⟩;have jp6 := jp.below b6;have o6 := o.below b6;have j6 := j.below b6;have HL6 : Hid (∀ b o, pa = some ⟨b, o, none⟩ -> b ≠ G) := fun b o e => by have := (l6 b o e).1; omega
        clear jp o j b6 iC c0 c1 c2 n0' l6 lG lGr
        go_wp2_with fail
        refine (shas_any nt cG ts 3 (partL C) HL.out jp6.g (by omega) i6).mono ?_;rintro ee w7 ⟨rfl, b7⟩;have jp7 := jp6.below b7;have o7 := o6.below b7;have j7 := j6.below b7;have i7 := i6.below b7;obtain ⟨hv, hhv⟩ : ∃ hv, hv = hasI ts (partL C) := ⟨_, rfl⟩
        have HV : Hid (hv = hasFrom (partL C) 0 (guardsP PG (q.guards.take g))) := by show _ = _; rw [hhv, hasI, HX.out]
        rw [<- hhv];clear jp6 o6 j6 i6 b7 hhv
        by_cases hneg : hv < 0
        ·go_wp2_with fail
         refine (szero_any _).mono ?_;rintro ee w8 ⟨B1, B2, rfl, b8, y1, y12, y2, k1, k2⟩;have hfl : ∀ W, (Instr.field 86 (formV (some ⟨B1, 0, none⟩) 3 3 (some ⟨B2, 0, none⟩) 2 2 0) 0).run Tryz.prog W = .ok (.slice (some ⟨B1, 0, none⟩) 3 3) W := fun W => field_C _ _ _ _ _ _ _ W;have jp8 := jp7.below b8;have o8 := o7.below b8;have j8 := j7.below b8;have i8 := i7.below b8;clear jp7 o7 j7 i7 b8 y1 y12 y2 k2
         go_wp2_with fail
         refine (l4same_any 3 3 (partL C) [0, 0, 0] i8 (k1.ints' rfl) (by omega) (by omega)).mono ?_;rintro ee w9 ⟨rfl, b9⟩;have jp9 := jp8.below b9;have o9 := o8.below b9;have j9 := j8.below b9;have i9 := i8.below b9;clear jp8 o8 j8 i8 b9 k1 hfl
         cases hz : eqB (partL C) [0, 0, 0]
         ·have HNZ : Hid (partL C ≠ [0, 0, 0]) := fun e => by rw [e] at hz; simp [eqB] at hz
          have jo := jp9.o;rw [HL.out] at jo;have js := jp9.b.size;have lo9 := o9.lt;clear hz
          go_wp2_with (at_builtin; go_must (refine wpList_append_lies _ rfl (.tmp 84) (.tmp 86) 36 rfl w.heap.size 24 i0 _ 1 24 Tryz.underlying36 hi hz0 hz1 hz2 rfl (by decide) _ _ _ rfl (jo.alloc _) ⟨w9.heap.size, 0, none⟩ 1 1 [.slice pa 3 pc] rfl rfl (news1 w9) oneSl (by omega) (by unfold maxLen; omega) (by omega) (by rw [qC]; omega) _ rfl ?_); intro gg cp2 w10 hown hgrow hat hlt1)
          have hat' : gg = G \/ w9.heap.size < gg := by
           rcases hat with h | h
           ·have h' : some G = some gg := h;simp only [qA] at h'
            exact Or.inl h'.symm
           rw [qC] at h
           exact Or.inr (by omega)
          have jp10 := jp9.app (s := ⟨pa, 3, pc, partL C⟩) HL.out rfl i9 HL6.out hown hgrow (by omega);have o10 := o9.grown hgrow pne;have j10 := j9.grown hgrow hat'
          have HXa : Hid ((ts ++ [(⟨pa, 3, pc, partL C⟩ : IV)]).map IV.x = guardsP PG (q.guards.take (g + 1))) := by
           show _ = _
           rw [List.map_append, HX.out, HSX.out, addP_new (by rw [<- HV.out]; exact hneg) HNZ.out]; rfl
          have HLa : Hid ((ts ++ [(⟨pa, 3, pc, partL C⟩ : IV)]).length = nt + 1) := by show _ = _; rw [qE, HL.out]; rfl
          have pne10 : G5 ≠ gg := by omega
          clear hown hgrow hat jo jp9 o9 j9 i9 HL6 HNZ
          go_wp2
          go_roundw
          case rel => exact ⟨g + 1, gg, cp2, nt + 1, _, by omega, by go_num, rfl, HLa.out, by omega, jp10, HXa.out, o10, pne10, j10⟩
          case measure => simp [intOf]; omega
         have HXa : Hid (ts.map IV.x = guardsP PG (q.guards.take (g + 1))) := by
          show _ = _
          rw [HX.out, HSX.out, addP_zero (by simpa [eqB] using hz)]
         clear hz HX
         go_wp2
         go_roundw
         case rel => exact ⟨g + 1, G, cG, nt, ts, by omega, by go_num, rfl, HL.out, by omega, jp9, HXa.out, o9, pne, j9⟩
         case measure => simp [intOf]; omega
        have HXa : Hid (ts.map IV.x = guardsP PG (q.guards.take (g + 1))) := by
         show _ = _
         rw [HX.out, HSX.out, addP_has (by rw [<- HV.out]; exact hneg)]
        clear HX
        go_wp2
        go_roundw
        case rel => exact ⟨g + 1, G, cG, nt, ts, by omega, by go_num, rfl, HL.out, by omega, jp7, HXa.out, o7, pne, j7⟩
        case measure => simp [intOf]; omega
       obtain rfl : g = NG := by omega
       have HXe : Hid (ts.map IV.x = rowsP PS (R.take (k + 1))) := by
        show _ = _
        rw [HX.out, qF (by rw [<- HNG.out]; exact qH _), HSG2.out]
       clear f0 f1 f2 x0 x1 x2 x3 HX
       go_wp2
       go_roundw
       case rel => exact ⟨k + 1, G, cG, nt, G5, c5, ts, by omega, by go_num, rfl, rfl, HL.out, by omega, jp, HXe.out, o, lG5, pne, j⟩
       case measure => simp [intOf]; omega
     obtain rfl : k = R.length := by omega
     have HXe : Hid (ts.map IV.x = actsP pots3 (ss.take (ia + 1))) := by
      show _ = _
      rw [HX.out, qF (qH _), HSA2.out]
     have oe : OwnB wr G (pinsA (ss.take (ia + 1))) := o.ext (fun v _ => (HSB2.out v).symm);clear o HX
     go_wp2
     go_roundw
     case rel =>
      refine ⟨_, _, _, _, _, _, _, _, _, _, _, _, _, _, _, _, _, _, _, _, _, _, _, _, _, _, _, _, _, _, _, _, _, _, _, _, _, _, _, _, _, _, _, _, _, _, _, _, _, _, _, _, _, _, _, _, _, _, _, _, _, _, _, _, _, _, _, _, _, _, _, ?_, rfl⟩
      exact ⟨ia + 1, Go, cGo, nt, G, cG, ts, by omega, by go_num, rfl, rfl, HL.out, by omega, jp, HXe.out, oe, lGp, pne⟩
     case measure => simp [intOf]; omega
   obtain rfl : ia = N := by omega
   have hall : ss.take ia = ss := qF (by rw [HN.out]; exact qH _);have HXe : Hid (ts.map IV.x = catP ss) := by show _ = _; rw [HX.out, hall]; rfl
   have oe : OwnB wr Gp (pinsA ss) := by rw [hall] at p; exact p
   clear hall p HX
   go_wp2
   go_ret2
   exact ⟨G, cG, ts, nt, Gp, cp, rfl, HL.out, jp, HXe.out, by omega, oe, lGp⟩
theorem put4 {X : Nat} {vs : List Value} {T : TypeId} (h : Cel W X vs T) (hl : vs.length = 4) (v0 v1 v2 v3 : Value) :
  Cel ((((W.setCell ⟨X, 0, none⟩ v0).setCell ⟨X, 1, none⟩ v1).setCell ⟨X, 2, none⟩ v2).setCell ⟨X, 3, none⟩ v3) X [v0, v1, v2, v3] T /\ Touch (fun z => z = X) W ((((W.setCell ⟨X, 0, none⟩ v0).setCell ⟨X, 1, none⟩ v1).setCell ⟨X, 2, none⟩ v2).setCell ⟨X, 3, none⟩ v3) := by
 refine ⟨?_, (((((Touch.refl (fun z => z = X) W).setCell rfl _).setCell rfl _).setCell rfl _).setCell rfl _)⟩;have := (((h.set 0 v0).set 1 v1).set 2 v2).set 3 v3
 match vs, hl with
 | [a, b, c, d], _ => exact this
theorem FOff.empty {S : Nat -> Prop} : FOff W S a [] := fun W' t i hi => by simp at hi
theorem JV.foff' {fs : List Frm} (j : JV w (.slice a n cap) n xs fs W) (hn : fs.length = n) : FOff W (fun k => k < w.heap.size) a fs := by
 obtain ⟨a', cap', e, h⟩ := j.foff hn;simp only [Value.slice.injEq, true_and] at e;obtain ⟨rfl, rfl⟩ := e
 exact h
theorem irow_stop (y : Way) (ga : Option Addr) (ng gc : Nat) (pa : Option Addr) (cp : Nat) (ta : Option Addr) (nt tc : Nat) (w : World) (hg : y.guards.length = ng) (hG : FormsAt w ga y.guards) (fg : ∀ k, k < ng -> fitX 10000000 (y.guards[k]?.getD ([], [], 0))) (hg1 : ng <= 1048576) :
  Calls Tryz.prog 134 #[wayV ga ng gc pa cp ta nt tc true] w fun e w' => ∃ v, e = .returned v /\ Below w.heap.size w w' /\ RowX w' w.heap.size v (stopW y) := by
 have HGL : Hid (y.guards.length = ng) := hg;have HFG : Hid _ := fg;clear hg fg;have B0 : Below w.heap.size w ((w.alloc (.cells #[.slice ga ng gc, .slice pa 3 cp, .slice ta nt tc, .bool true] 144)).alloc (.cells #[.slice none 0 0, .slice none 0 0, .slice none 0 0, .bool false] 76)) := (bal).alloc (by simp) _;have r0 := Cel.new (w.alloc (.cells #[.slice ga ng gc, .slice pa 3 cp, .slice ta nt tc, .bool true] 144)) [.slice none 0 0, .slice none 0 0, .slice none 0 0, .bool false] 76;rw [qC] at r0
 go_enter Tryz.func134, Tryz.ntmps134
 go_wp2_with fail
 refine (icopies_any y.guards HGL.out (hG.keep B0) HFG.out hg1).mono ?_;rintro e w1 ⟨v1, xs1, rfl, j1⟩;obtain ⟨a1, c1, rfl⟩ := j1.isSlice;have B1 := B0.trans (j1.b.mono B0.size);have r1 := r0.below j1.b;have g1 := j1.foff' HGL.out;rw [qC, qC] at g1;have lr := r1.lt;obtain ⟨c0, c1', c2, c3⟩ := r1.four;have y0 := r1.free 0;have y1 := r1.free 1;have y2 := r1.free 2;have y3 := r1.free 3;obtain ⟨x', T'⟩ := put4 r1 rfl (.slice a1 ng c1) (.slice none 0 0) (.slice none 0 0) (.bool true);obtain ⟨h0, h1, h2, h3⟩ := x'.four;clear j1 r0 B0
 go_wp2
 refine bodyPost_ret (v := .agg #[.slice a1 ng c1, .slice none 0 0, .slice none 0 0, .bool true]) (by simp [results, Tryz.results134, go_sem, h0, h1, h2, h3]) rfl ?_;refine ⟨_, rfl, B1.trans (T'.below B1.size (fun k hk => by omega)), a1, c1, none, 0, none, 0, ?_, (g1.touch (T'.mono (fun k hk => by omega))).mono (fun k hk => by omega), FOff.empty, FOff.empty⟩
 show _ = Value.agg #[.slice a1 y.guards.length c1, .slice none 0 0, .slice none 0 0, .bool true]
 rw [HGL.out]
theorem irow_end (y : Way) (ga : Option Addr) (ng gc : Nat) (pa : Option Addr) (cp : Nat) (ta : Option Addr) (nt tc : Nat) (w : World) (hp : y.pots.length = 3) (hg : y.guards.length = ng) (ht : y.tells.length = nt) (hP : FormsAt w pa y.pots) (hG : FormsAt w ga y.guards) (hT : FormsAt w ta y.tells) (fp : ∀ k, k < 3 -> fitX 9000000 (y.pots[k]?.getD noX)) (fg : ∀ k, k < ng -> fitX 10000000 (y.guards[k]?.getD ([], [], 0))) (ft : ∀ k, k < nt -> fitX 10000000 (y.tells[k]?.getD ([], [], 0))) (hg1 : ng <= 1048576 := by omega) (ht1 : nt <= 1048576 := by omega) :
  Calls Tryz.prog 134 #[wayV ga ng gc pa cp ta nt tc false] w fun e w' => ∃ v, e = .returned v /\ Below w.heap.size w w' /\ RowX w' w.heap.size v (endW y) := by
 have HPL : Hid (y.pots.length = 3) := hp;have HGL : Hid (y.guards.length = ng) := hg;have HTL : Hid (y.tells.length = nt) := ht;have HFP : Hid _ := fp;have HFG : Hid _ := fg;have HFT : Hid _ := ft;clear hp hg ht fp fg ft;have B0 : Below w.heap.size w ((w.alloc (.cells #[.slice ga ng gc, .slice pa 3 cp, .slice ta nt tc, .bool false] 144)).alloc (.cells #[.slice none 0 0, .slice none 0 0, .slice none 0 0, .bool false] 76)) := (bal).alloc (by simp) _;have r0 := Cel.new (w.alloc (.cells #[.slice ga ng gc, .slice pa 3 cp, .slice ta nt tc, .bool false] 144)) [.slice none 0 0, .slice none 0 0, .slice none 0 0, .bool false] 76;have p0 := (Cel.new w [.slice ga ng gc, .slice pa 3 cp, .slice ta nt tc, .bool false] 144).alloc (.cells #[.slice none 0 0, .slice none 0 0, .slice none 0 0, .bool false] 76);rw [qC] at r0
 go_enter Tryz.func134, Tryz.ntmps134
 go_upto_region 3 with fail
 generalize ((w.alloc (.cells #[.slice ga ng gc, .slice pa 3 cp, .slice ta nt tc, .bool false] 144)).alloc (.cells #[.slice none 0 0, .slice none 0 0, .slice none 0 0, .bool false] 76)) = W0 at *;have KP : Hid (∀ W, Below W0.heap.size W0 W -> Cel W w.heap.size [.slice ga ng gc, .slice pa 3 cp, .slice ta nt tc, .bool false] 144) := fun W hW => p0.below hW;have KR : Hid (∀ W, Below W0.heap.size W0 W -> Cel W (w.heap.size + 1) [.slice none 0 0, .slice none 0 0, .slice none 0 0, .bool false] 76) := fun W hW => r0.below hW;have e0 : Below W0.heap.size W0 W0.drew := (Below.refl _ _).drew;have hSS : (W0.drew.cell? ⟨w.heap.size, 0, none⟩ = some (.slice ga ng gc) /\ W0.drew.cell? ⟨w.heap.size, 1, none⟩ = some (.slice pa 3 cp) /\ W0.drew.cell? ⟨w.heap.size, 2, none⟩ = some (.slice ta nt tc) /\ W0.drew.cell? ⟨w.heap.size, 3, none⟩ = some (.bool false)) /\ True := ⟨(KP.out _ e0).four, trivial⟩
 have lr := r0.lt;clear p0 r0;refine wp_region_ends (fun w' => w'.cell? ⟨w.heap.size, 0, none⟩ = some (.slice ga ng gc) /\ w'.cell? ⟨w.heap.size, 1, none⟩ = some (.slice pa 3 cp) /\ w'.cell? ⟨w.heap.size, 2, none⟩ = some (.slice ta nt tc) /\ w'.cell? ⟨w.heap.size, 3, none⟩ = some (.bool false)) (fun _ => True) 9 (by kernel_rfl) ?_;refine tkl 0 rfl hSS ?_;refine tkl 1 rfl hSS ?_;refine tkl 3 rfl hSS ?_;refine tkl 5 rfl hSS ?_;refine tkl 6 rfl hSS ?_;clear hSS;refine wo1 2 rfl fun K hK => ?_;go_simp;refine (icopies_any y.guards HGL.out ((hG.keep B0).keep e0) HFG.out hg1).mono ?_;rintro ee w1 ⟨v1, xs1, rfl, j1⟩;have e1 := below_of_drew j1.b;obtain ⟨a1, c1, rfl⟩ := j1.isSlice;have g1 : FOff w1 (fun k => k < W0.heap.size) a1 y.guards := j1.foff' HGL.out;clear j1;(try dsimp only);refine kk0 hK ((KP.out _ e1).four) ?_;refine wo1 4 rfl fun K hK => ?_;go_simp;refine (iadds_any y HPL.out ((hP.keep B0).keep e1) HFP.out).mono ?_;rintro ee w2 ⟨v2, xs2, rfl, j2⟩;have e2 := e1.trans (j2.b.mono e1.size);obtain ⟨a2, c2, rfl⟩ := j2.isSlice;have g2 := g1.below j2.b;have s1 := e1.size;have d2 : FOff w2 (fun k => k < w1.heap.size) a2 (endW y).adds := j2.foff' rfl;clear j2 g1;(try dsimp only);refine kk0 hK ((KP.out _ e2).four) ?_;refine wo1 7 rfl fun K hK => ?_;go_simp;refine (icopies_any y.tells HTL.out ((hT.keep B0).keep e2) HFT.out ht1).mono ?_;rintro ee w3 ⟨v3, xs3, rfl, j3⟩;have e3 := e2.trans (j3.b.mono e2.size);obtain ⟨a3, c3, rfl⟩ := j3.isSlice;have g3 := g2.below j3.b
 have d3 := d2.below j3.b;have s2 := e2.size;have s3 := e3.size;have t3 : FOff w3 (fun k => k < w2.heap.size) a3 y.tells := j3.foff' HTL.out;clear j3 g2 d2;(try dsimp only);refine kk0 hK ((KP.out _ e3).four) ?_;refine wo1 8 rfl fun K hK => ?_;go_simp;refine kk0 hK ((KP.out _ e3).four) ?_;have r1 := KR.out _ e3;have lr3 := r1.lt;obtain ⟨q0, q1, q2, q3⟩ := r1.four;have y0 := r1.free 0;have y1 := r1.free 1;have y2 := r1.free 2;have y3 := r1.free 3;obtain ⟨x', T'⟩ := put4 r1 rfl (.slice a1 ng c1) (.slice a2 3 c2) (.slice a3 nt c3) (.bool false);have p4 := (KP.out _ e3).touch T' (fun h => by have := h; omega);obtain ⟨h0, h1, h2, h3⟩ := x'.four;refine wo1 9 rfl fun K hK => ?_;go_simp;refine hK.out _ _ ⟨p4.four, fun h => absurd (show true = false from h) (by decide)⟩ ?_;refine wod ?_ _;have B3 := B0.trans (e3.mono B0.size);have sB := B0.size;have gg := (g3.touch (T'.mono (fun k hk => by omega))).mono (S' := fun k => k < w.heap.size) (fun k hk => by omega);have dd := (d3.touch (T'.mono (fun k hk => by omega))).mono (S' := fun k => k < w.heap.size) (fun k hk => by omega);have tt := (t3.touch (T'.mono (fun k hk => by omega))).mono (S' := fun k => k < w.heap.size) (fun k hk => by omega);have BB := B3.trans (T'.below B3.size (fun k hk => by omega));clear q0 q1 q2 q3 y0 y1 y2 y3 r1 p4 x' T' g3 d3 t3 KP KR
 go_wp2
 refine bodyPost_ret (v := .agg #[.slice a1 ng c1, .slice a2 3 c2, .slice a3 nt c3, .bool false]) (by simp [results, Tryz.results134, go_sem, h0, h1, h2, h3]) rfl ?_;refine ⟨_, rfl, BB, a1, c1, a2, c2, a3, c3, ?_, gg, dd, tt⟩
 show _ = Value.agg #[.slice a1 y.guards.length c1, .slice a2 3 c2, .slice a3 y.tells.length c3, .bool false]
 rw [HGL.out, HTL.out]
end Go.Proofs.YtemcinobgdphnaaGreat
