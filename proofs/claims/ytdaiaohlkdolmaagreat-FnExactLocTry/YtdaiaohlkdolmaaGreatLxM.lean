/-
  Lemmas that the claim's last text rests on.
-/
import Derived.Test.YtdaiaohlkdolmaaGreatLxL
namespace Go.Proofs.YtdaiaohlkdolmaaGreat
open Go.RowKit Go.Deep
open World renaming size_alloc → qA
open List renaming getElem?_eq_getElem → qB, getElem?_cons_zero → qC, getElem?_cons_succ → qD, length_append → qE, take_of_length_le → qF, take_succ_eq_append_getElem → qG
open Nat renaming le_refl → qH, zero_le → qI
set_option linter.unusedVariables false
set_option maxRecDepth 100000
set_option maxHeartbeats 25600000
variable {C : List Int} {a c : Option Addr} {cap cap' k n : Nat}
theorem zip_take {xs ys : List Int} (hx : k < xs.length) (hy : k < ys.length) : (List.zipWith (· + ·) xs ys).take (k + 1) = (List.zipWith (· + ·) xs ys).take k ++ [xs[k]?.getD 0 + ys[k]?.getD 0] := by
 have hl : k < (List.zipWith (· + ·) xs ys).length := by rw [List.length_zipWith]; omega
 rw [qG hl, List.getElem_zipWith, qB hx, qB hy]
 rfl
theorem sum5_any (xs ys : List Int) {w : World} (h : Ints w a 3 xs) (h' : Ints w c 3 ys) (hM : bnd 1000000000 xs) (hM' : bnd 1000000000 ys) :
  Calls Tryz.prog 86 #[.slice a 3 cap, .slice c 3 cap'] w fun e w' => ∃ v, e = .returned v /\ JA w v (List.zipWith (· + ·) xs ys) w' := by
 have HX : Hid (xs.length = 3) := h.1;have HY : Hid (ys.length = 3) := h'.1;obtain ⟨i0, hi, hz0, hz1, hz2⟩ := info_parts Tryz.infoInt
 go_enter Tryz.func86, Tryz.ntmps86
 go_wp2_with fail
 go_loopw [5, 6] (fun v i wr => ∃ k : Nat, k <= 3 /\ i = .int .i64 k /\ ∃ zs : List Int, zs.length = k /\ zs = (List.zipWith (· + ·) xs ys).take k /\ JA w v zs wr) (fun _ i _ => 3 - (intOf i).toNat)
 case atStart => exact ⟨0, by omega, rfl, [], rfl, rfl, JA.lit w⟩
 case round =>
  obtain ⟨k, hk, rfl, zs, hzl, hzs, j⟩ := hrel;have HL : Hid (zs.length = k) := hzl;have HZS : Hid (zs = (List.zipWith (· + ·) xs ys).take k) := hzs;clear hzl hzs
  by_cases hlt : k < 3
  ·obtain ⟨b, off, rfl, hcell⟩ := h.pos (by omega);obtain ⟨b', off', rfl, hcell'⟩ := h'.pos (by omega);have c0 : w.cell? ⟨b, off + k, none⟩ = some (.int .i64 (xs[k]?.getD 0)) := by rw [hcell k hlt]; simp
   have c1 : w.cell? ⟨b', off' + k, none⟩ = some (.int .i64 (ys[k]?.getD 0)) := by rw [hcell' k hlt]; simp
   have HP : Hid _ := zip_take (xs := xs) (ys := ys) (k := k) (by rw [HX.out]; exact hlt) (by rw [HY.out]; exact hlt);obtain ⟨m1, m2⟩ := hM k;obtain ⟨m3, m4⟩ := hM' k;generalize HG : xs[k]?.getD 0 = x at *;generalize HG' : ys[k]?.getD 0 = y at *;clear HG HG' hcell hcell' hM hM' h h'
   have KP : Hid (∀ W : World, Below w.heap.size w W -> W.cell? ⟨b, off + k, none⟩ = some (.int .i64 x) /\ W.cell? ⟨b', off' + k, none⟩ = some (.int .i64 y)) := fun W hW =>
    ⟨by rw [hW.cell (p := ⟨b, off + k, none⟩) (block_lt c0)]; exact c0, by rw [hW.cell (p := ⟨b', off' + k, none⟩) (block_lt c1)]; exact c1⟩
   have hSS := And.intro (KP.out _ j.b.drew) (True.intro);clear c0 c1;have hlt' : (k : Int) < 3 := by omega
   have hwr : IntKind.i64.wrap (x + y) = x + y := wrap_id (by omega) (by omega)
   go_upto_region 5 with fail
   refine wp_region_ends (fun w' => w'.cell? ⟨b, off + k, none⟩ = some (.int .i64 x) /\ w'.cell? ⟨b', off' + k, none⟩ = some (.int .i64 y)) (fun _ => True) 12 (by kernel_rfl) ?_;refine tkl 0 rfl hSS ?_;refine tkl 1 rfl hSS ?_;refine tkl 2 rfl hSS ?_;refine tkl 3 rfl hSS ?_;refine tkl 4 rfl hSS ?_;refine tkl 5 rfl hSS ?_;refine tkl 6 rfl hSS ?_;refine tkl 7 rfl hSS ?_;refine tkl 8 rfl hSS ?_;refine tkl 9 rfl hSS ?_;refine wo1 10 rfl fun K hK => ?_;go_simp;have j1 := j.below (W' := wr.drew) ((Below.refl _ _).drew);have jo := j1.o;rw [HL.out] at jo;have j2 := j1.alloc (.cells #[.int .i64 (x + y)] 3);have hjb := j1.b.size;refine kk0 hK (KP.out _ j2.b) ?_;clear hK K hSS;refine wo1 11 rfl fun K hK => ?_;rw [if_pos (by rfl)];refine wp_append_lies _ (.tmp 12) (.tmp 22) 23 rfl w.heap.size 3 i0 (.int .i64 0) 1 8 Tryz.underlying23 hi hz0 hz1 hz2 rfl (by decide) _ k _ (by rfl) (jo.alloc _) ⟨wr.heap.size, 0, none⟩ 1 1 [.int .i64 (x + y)] (by rfl) (by rfl) (news1 wr.drew) (one1) (by omega) (by unfold maxLen; omega) (by omega) j2.b.size _ rfl ?_;intro g cp2 w6 hown hgrow hat hlt6;have j6 := j1.app HL.out hown hgrow;refine kk0 hK (KP.out _ j6.b) ?_;clear hK K hown hgrow hat j1 j2 jo j;refine wo1 12 rfl fun K hK => ?_;go_simp;refine kk0 hK (KP.out _ j6.b) ?_;refine wod ?_ _
   go_wp2
   go_roundw
   case rel => exact ⟨k + 1, by omega, by go_num, _, by rw [qE, HL.out]; rfl, by rw [HP.out, HZS.out], j6⟩
   case measure => simp [intOf]; omega
  obtain rfl : k = 3 := by omega
  have e : zs = List.zipWith (· + ·) xs ys := by rw [HZS.out, qF (by rw [List.length_zipWith, HX.out, HY.out]; omega)]
  subst e
  go_wp2
  go_ret
  exact ⟨_, rfl, j⟩
theorem sums_any (xs ys : List Int) (M M' : Int) {w : World} (h : Ints w a 3 xs) (h' : Ints w c 3 ys) (hM : bnd M xs) (hM' : bnd M' ys) (hb : M <= 2000000000000000000 := by omega) (hb' : M' <= 2000000000000000000 := by omega) :
  Calls Tryz.prog 75 #[.slice a 3 cap, .slice c 3 cap'] w fun e w' => ∃ a' cap2 B, e = .returned (.slice a' 3 cap2) /\ Below w.heap.size w w' /\ OwnX w' a' B 3 (List.zipWith (· + ·) xs ys) /\ w.heap.size <= B := by
 have HX : Hid (xs.length = 3) := h.1
 go_enter Tryz.func75, Tryz.ntmps75
 go_wp2_with fail
 refine (clone_any _ _ xs h).mono ?_;rintro e w1 ⟨v, rfl, j⟩;have hc1 := h'.below j.b;have B1 := j.b;obtain ⟨x, cx, B, rfl, hO, hB0⟩ := j.ownx HX.out;have hB := hB0 (by omega);clear j hB0
 go_wp2_with fail
 refine (addX_any B xs ys M M' hO hc1 (fun b o e => by
  obtain ⟨b1, o1, e1, hcell⟩ := h'.pos (by omega);rw [e1] at e;simp only [Option.some.injEq, Addr.mk.injEq, and_true] at e;have := block_lt (hcell 0 (by omega))
  omega) (by omega) hM hM' hb hb').mono ?_
 rintro e w2 ⟨rfl, t2, hO2⟩;have B2 : Below w.heap.size w w2 := B1.trans (t2.below B1.size (fun k hk => by rw [hk.1]; exact hB))
 go_wp2
 go_ret
 exact ⟨_, _, B, rfl, B2, hO2, hB⟩
def sgn1 (c : Int) : Int := if 0 < c then 1 else if c < 0 then -1 else 0
theorem sgn1_vals (c : Int) : sgn1 c = 0 \/ sgn1 c = 1 \/ sgn1 c = -1 := by
 unfold sgn1
 split
 ·simp
 split <;> simp
def sgn : List Int -> Int
 | [] => 0
 | c :: t => if sgn1 c = 0 then sgn t else sgn1 c
theorem sgn_append (xs ys : List Int) : sgn (xs ++ ys) = if sgn xs = 0 then sgn ys else sgn xs := by
 induction xs with
 | nil => simp [sgn]
 | cons c t ih =>
  simp only [List.cons_append, sgn]
  by_cases h : sgn1 c = 0
  ·simp only [h, if_true]; exact ih
  simp only [h, if_false]
theorem sgn_one (c : Int) : sgn [c] = sgn1 c := by
 simp only [sgn]
 split
 ·next h => exact h.symm
 rfl
theorem sgn_take_succ (h : k < C.length) : sgn (C.take (k + 1)) = if sgn (C.take k) = 0 then sgn1 (C[k]?.getD 0) else sgn (C.take k) := by
 rw [qG h, sgn_append, qB h, sgn_one]
 rfl
theorem sgn_whole (h : sgn (C.take k) ≠ 0) : sgn C = sgn (C.take k) := by
 have := sgn_append (C.take k) (C.drop k);rw [List.take_append_drop, if_neg h] at this
 exact this
theorem sgn_end (hn : C.length = n) (h : n <= k) : sgn (C.take k) = sgn C := by rw [qF (by omega)]
def sg (C : List Int) : Int := if sgn C < 0 then -1 else 1
def mulW (n : Int) (zs : List Int) : List Int := zs.map fun z => wrap64 (n * z)
def partL (C : List Int) : List Int := mulW (sg C) C
theorem mulW_len {n : Int} {zs : List Int} : (mulW n zs).length = zs.length := by simp [mulW]
theorem mulW_get {n : Int} {zs : List Int} {i : Nat} (h : i < zs.length) : (mulW n zs)[i]?.getD 0 = wrap64 (n * zs[i]?.getD 0) := by
 simp [mulW, h]
theorem part_len (C : List Int) : (partL C).length = C.length := mulW_len
theorem part_step (h : k < C.length) : (partL C).take (k + 1) = (partL C).take k ++ [wrap64 (sgn (C.take (k + 1)) * C[k]?.getD 0)] := by
 have hl : k < (partL C).length := by rw [part_len]; exact h
 rw [qG hl]
 congr 2
 have e : (partL C)[k] = wrap64 (sg C * C[k]?.getD 0) := by
  have := mulW_get (n := sg C) h;rw [show mulW (sg C) C = partL C from rfl, qB hl] at this;simpa using this
 rw [e]
 by_cases hs : sgn (C.take (k + 1)) = 0
 ·have h1 := sgn_take_succ h
  have h2 : sgn1 (C[k]?.getD 0) = 0 := by
   rw [hs] at h1
   by_cases h3 : sgn (C.take k) = 0
   ·rw [if_pos h3] at h1; exact h1.symm
   rw [if_neg h3] at h1; exact absurd h1.symm h3
  have h3 : C[k]?.getD 0 = 0 := by
   unfold sgn1 at h2
   split at h2
   ·omega
   split at h2 <;> omega
  rw [h3]; simp
 have h1 := sgn_whole hs
 have : sg C = sgn (C.take (k + 1)) := by
  unfold sg;rw [h1]
  have hv : ∀ xs : List Int, sgn xs = 0 \/ sgn xs = 1 \/ sgn xs = -1 := by
   intro xs
   induction xs with
   | nil => simp [sgn]
   | cons c t ih =>
    simp only [sgn]
    by_cases hc : sgn1 c = 0
    ·simp only [hc, if_true]; exact ih
    rw [if_neg hc]; exact sgn1_vals c
  rcases hv (C.take (k + 1)) with e | e | e
  ·exact absurd e hs
  ·rw [e]; simp
  rw [e]; simp
 rw [this]
theorem timesW_any {l : Nat} (zs : List Int) {n : Int} {w : World} (h : Ints w a l zs) (hl : l <= 1048576) :
  Calls Tryz.prog 112 #[.slice a l cap, .int .i64 n] w fun e w' => e = .returned (.slice (some ⟨w.heap.size, 0, none⟩) l l) /\ Below w.heap.size w w' /\ Blk w' w.heap.size (mulW n zs) := by
 have HZ : Hid (zs.length = l) := h.1;have HM : Hid ((mulW n zs).length = l) := by show (mulW n zs).length = l; simp [mulW, h.1]
 obtain ⟨i0, hi, hz0, hz1, hz2⟩ := info_parts Tryz.infoInt
 go_enter Tryz.func112, Tryz.ntmps112
 go_wp2_with (at_make; refine wpList_make_full _ rfl (.tmp 9) (.tmp 9) 23 rfl w.heap.size 3 i0 (.int .i64 0) 1 Tryz.underlying23 hi hz0 hz1 .i64 .i64 _ _ l rfl rfl rfl rfl (by rw [hz2]; omega) (by unfold maxLen; omega) (qH _) ?_; intro w1 hown hgrow)
 have hb1 := Blk.made w l w1 hown;have HB : Below w.heap.size w w1 := (Below.refl _ _).grown hgrow (qH _) (by simp);clear hown hgrow hi hz0 hz1 hz2
 go_loopw [6, 7, 13] (fun _ _ i wr => ∃ k : Nat, k <= l /\ i = .int .i64 k /\ Below w.heap.size w wr /\ Blk wr w.heap.size (upTo (mulW n zs) l k)) (fun _ _ i _ => l - (intOf i).toNat)
 case atStart => exact ⟨0, qI _, rfl, HB, by rw [upTo_zero]; exact hb1⟩
 case round =>
  obtain ⟨k, hk, rfl, hnx, hblk⟩ := hrel
  by_cases hlt : k < l
  ·obtain ⟨b, off, rfl, hcell⟩ := (h.below hnx).pos (by omega);have hck := hcell k hlt;have hco := hblk.cell k (by rw [upTo_len HM.out hk]; exact hlt);have hfo := hblk.free k;have R := hblk.set k ((mulW n zs)[k]?.getD 0);rw [upTo_succ HM.out hlt, mulW_get (by rw [HZ.out]; exact hlt)] at R;have R2 := hnx.setCell (p := ⟨w.heap.size, k, none⟩) (qH _) (.int .i64 (wrap64 (n * zs[k]?.getD 0)));clear hcell hb1 HB h hblk hnx
   go_wp2
   go_roundw
   case rel => exact ⟨k + 1, by omega, by go_num, R2, R⟩
   case measure => simp [intOf]; omega
  go_wp2
  go_ret
  exact ⟨rfl, hnx, by rw [upTo_end HM.out (by omega)] at hblk; exact hblk⟩
theorem ipart_any (n : Nat) {cap : Nat} {c : Option Addr} (m : Nat) {cap' : Nat} {K : Int} (C : List Int) {w : World} (hC : Ints w a n C) (hn : n <= 1048576 := by omega) :
  Calls Tryz.prog 92 #[formV a n cap c m cap' K] w fun e w' => e = .returned (.slice (some ⟨w.heap.size + 1, 0, none⟩) n n) /\ Below w.heap.size w w' /\ Blk w' (w.heap.size + 1) (partL C) := by
 have HC : Hid (C.length = n) := hC.1
 go_enter Tryz.func92, Tryz.ntmps92
 go_wp2_with fail
 have hC1 := hC.alloc (.cells #[.slice a n cap, .slice c m cap', .int .i64 K] 81)
 have hend : ∀ (s : Int) (w2 : World), sg C = s -> Below (w.alloc (.cells #[.slice a n cap, .slice c m cap', .int .i64 K] 81)).heap.size (w.alloc (.cells #[.slice a n cap, .slice c m cap', .int .i64 K] 81)) w2 -> Blk w2 (w.alloc (.cells #[.slice a n cap, .slice c m cap', .int .i64 K] 81)).heap.size (mulW s C) -> Below w.heap.size w w2 /\ Blk w2 (w.heap.size + 1) (partL C) := by
  intro s w2 hs b2 k2;rw [qA] at k2
  exact ⟨(bal).trans (b2.mono (by simp)), by unfold partL; rw [hs]; exact k2⟩
 have HE : Hid _ := hend;clear hend
 go_loop [4, 8] (fun _ i => ∃ k : Nat, k <= n /\ i = .int .i64 k /\ sgn (C.take k) = 0) (fun _ i => n - (intOf i).toNat)
 case atStart => exact ⟨0, qI _, rfl, rfl⟩
 case round =>
  obtain ⟨k, hk, rfl, hs⟩ := hrel;have HS : Hid (sgn (C.take k) = 0) := hs;clear hs
  by_cases hlt : k < n
  ·obtain ⟨b, off, rfl, hcell⟩ := hC1.pos (by omega);have hck := hcell k hlt;clear hcell
   have HT : Hid (sgn (C.take (k + 1)) = sgn1 (C[k]?.getD 0)) := by
    show sgn (C.take (k + 1)) = sgn1 (C[k]?.getD 0)
    rw [sgn_take_succ (by rw [HC.out]; exact hlt), if_pos HS.out]
   by_cases h1 : 0 < C[k]?.getD 0
   ·have HG : Hid (sg C = 1) := by
     show sg C = 1
     have e := HT.out;rw [sgn1, if_pos h1] at e;have := sgn_whole (C := C) (k := k + 1) (by rw [e]; decide);rw [sg, this, e]; rfl
    go_wp2_with fail
    refine (timesW_any C hC1 hn).mono ?_;rintro e w2 ⟨rfl, b2, k2⟩
    go_wp2
    go_ret
    exact ⟨rfl, HE.out 1 w2 HG.out b2 k2⟩
   by_cases h2 : C[k]?.getD 0 < 0
   ·have HG : Hid (sg C = -1) := by
     show sg C = -1
     have e := HT.out;rw [sgn1, if_neg h1, if_pos h2] at e;have := sgn_whole (C := C) (k := k + 1) (by rw [e]; decide);rw [sg, this, e]; rfl
    go_wp2_with fail
    refine (timesW_any C hC1 hn).mono ?_;rintro e w2 ⟨rfl, b2, k2⟩
    go_wp2
    go_ret
    exact ⟨rfl, HE.out (-1) w2 HG.out b2 k2⟩
   have HT2 : Hid (sgn (C.take (k + 1)) = 0) := by
    show sgn (C.take (k + 1)) = 0
    rw [HT.out, sgn1, if_neg h1, if_neg h2]
   go_wp2
   go_round
   case rel => exact ⟨k + 1, by omega, by go_num, HT2.out⟩
   case measure => simp [intOf]; omega
  have HG : Hid (sg C = 1) := by
   show sg C = 1
   have e := HS.out;rw [sgn_end HC.out (by omega)] at e;rw [sg, e]; rfl
  go_wp2_with fail
  refine (timesW_any C hC1 hn).mono ?_;rintro e w2 ⟨rfl, b2, k2⟩
  go_wp2
  go_ret
  exact ⟨rfl, HE.out 1 w2 HG.out b2 k2⟩
theorem spart_new (a : Option Addr) (n cap : Nat) (c : Option Addr) (m cap' : Nat) (K : Int) (C : List Int) (w : World) (hC : Ints w a n C) (hn : n <= 1048576) :
  Calls Tryz.prog 50 #[formV a n cap c m cap' K] w fun e w' => ∃ a' cap2, e = .returned (.slice a' n cap2) /\ Below w.heap.size w w' /\ Ints w' a' n (partL C) /\ (∀ b o, a' = some ⟨b, o, none⟩ -> w.heap.size <= b /\ b < w'.heap.size) := by
 have HC : Hid (C.length = n) := hC.1;obtain ⟨i0, hi, hz0, hz1, hz2⟩ := info_parts Tryz.infoInt
 go_enter Tryz.func50, Tryz.ntmps50
 go_wp2_with fail
 obtain ⟨W, hW⟩ : ∃ W, W = w.alloc (.cells #[.slice a n cap, .slice c m cap', .int .i64 K] 81) := ⟨_, rfl⟩
 have box : Cel W w.heap.size [.slice a n cap, .slice c m cap', .int .i64 K] 81 := by rw [hW]; exact Cel.new w _ _
 have BW : Below w.heap.size w W := by rw [hW]; exact bal
 have hCW : Ints W a n C := hC.below BW;have HWS : Hid (W.heap.size = w.heap.size + 1) := by show W.heap.size = _; rw [hW, qA]
 rw [<- hW];clear hW hC
 go_loopw [3, 4, 5] (fun v s i wr => ∃ k : Nat, k <= n /\ i = .int .i64 k /\ s = .int .i64 (sgn (C.take k)) /\ ∃ xs : List Int, xs.length = k /\ xs = (partL C).take k /\ JA W v xs wr) (fun _ _ i _ => n - (intOf i).toNat)
 case atStart => exact ⟨0, qI _, rfl, rfl, [], rfl, rfl, by rw [<- HWS.out]; exact JA.lit W⟩
 case round =>
  obtain ⟨k, hk, rfl, rfl, xs, hxl, hxs, j⟩ := hrel;have HL : Hid (xs.length = k) := hxl;have HXS : Hid (xs = (partL C).take k) := hxs;clear hxl hxs;have jo := (j.o)
  rw [HL.out] at jo;have hjb := j.b.size;have g0 := (box.below j.b).cell 0;simp only [qC] at g0
  by_cases hlt : k < n
  ·obtain ⟨b, off, rfl, hcell⟩ := (hCW.below j.b).pos (by omega);have hck : wr.cell? ⟨b, off + k, none⟩ = some (.int .i64 (C[k]?.getD 0)) := by rw [hcell k hlt]; simp
   clear hcell;have HT : Hid _ := sgn_take_succ (C := C) (k := k) (by rw [HC.out]; exact hlt);have HP : Hid _ := part_step (C := C) (k := k) (by rw [HC.out]; exact hlt);generalize HS : sgn (C.take k) = s at *;generalize HX : C[k]?.getD 0 = x at *;clear HS HX
   by_cases hs0 : s = 0
   ·subst hs0
    by_cases h1 : 0 < x
    ·have HT2 : Hid (sgn1 x = 1) := by show sgn1 x = 1; rw [sgn1, if_pos h1]
     go_wp2_with (at_builtin; go_must (refine wpList_append_lies _ rfl (.tmp 34) (.tmp 42) 23 rfl W.heap.size 3 i0 (.int .i64 0) 1 8 Tryz.underlying23 hi hz0 hz1 hz2 rfl (by decide) _ _ _ rfl (jo.alloc _) ⟨wr.heap.size, 0, none⟩ 1 1 [.int .i64 (wrap64 x)] rfl rfl (news1 _) (one1) (by omega) (by unfold maxLen; omega) (by omega) (by rw [qA]; omega) _ rfl ?_); intro g cp w1 hown hgrow hat hlt1)
     have j2 := j.app HL.out hown hgrow;clear hown hgrow jo j hat;have HX2 : Hid (xs ++ [wrap64 x] = (partL C).take (k + 1)) := by show _ = _; rw [HP.out, HXS.out, HT.out, if_pos rfl, HT2.out, Int.one_mul]
     go_wp2
     go_roundw
     case rel => exact ⟨k + 1, by omega, by go_num, by rw [HT.out, if_pos rfl, HT2.out], _, by rw [qE, HL.out]; rfl, HX2.out, j2⟩
     case measure => simp [intOf]; omega
    by_cases h2 : x < 0
    ·have HT2 : Hid (sgn1 x = -1) := by show sgn1 x = -1; rw [sgn1, if_neg h1, if_pos h2]
     go_wp2_with (at_builtin; go_must (refine wpList_append_lies _ rfl (.tmp 34) (.tmp 42) 23 rfl W.heap.size 3 i0 (.int .i64 0) 1 8 Tryz.underlying23 hi hz0 hz1 hz2 rfl (by decide) _ _ _ rfl (jo.alloc _) ⟨wr.heap.size, 0, none⟩ 1 1 [.int .i64 (wrap64 (-x))] rfl rfl (news1 _) (one1) (by omega) (by unfold maxLen; omega) (by omega) (by rw [qA]; omega) _ rfl ?_); intro g cp w1 hown hgrow hat hlt1)
     have j2 := j.app HL.out hown hgrow;clear hown hgrow jo j hat;have HX2 : Hid (xs ++ [wrap64 (-x)] = (partL C).take (k + 1)) := by show _ = _; rw [HP.out, HXS.out, HT.out, if_pos rfl, HT2.out, Int.neg_one_mul]
     go_wp2
     go_roundw
     case rel => exact ⟨k + 1, by omega, by go_num, by rw [HT.out, if_pos rfl, HT2.out], _, by rw [qE, HL.out]; rfl, HX2.out, j2⟩
     case measure => simp [intOf]; omega
    have HT2 : Hid (sgn1 x = 0) := by show sgn1 x = 0; rw [sgn1, if_neg h1, if_neg h2]
    go_wp2_with (at_builtin; go_must (refine wpList_append_lies _ rfl (.tmp 34) (.tmp 42) 23 rfl W.heap.size 3 i0 (.int .i64 0) 1 8 Tryz.underlying23 hi hz0 hz1 hz2 rfl (by decide) _ _ _ rfl (jo.alloc _) ⟨wr.heap.size, 0, none⟩ 1 1 [.int .i64 0] rfl rfl (news1 _) (one1) (by omega) (by unfold maxLen; omega) (by omega) (by rw [qA]; omega) _ rfl ?_); intro g cp w1 hown hgrow hat hlt1)
    have j2 := j.app HL.out hown hgrow;clear hown hgrow jo j hat;have HX2 : Hid (xs ++ [0] = (partL C).take (k + 1)) := by show _ = _; rw [HP.out, HXS.out, HT.out, if_pos rfl, HT2.out, Int.zero_mul, show wrap64 0 = 0 from by decide +kernel]
    go_wp2
    go_roundw
    case rel => exact ⟨k + 1, by omega, by go_num, by rw [HT.out, if_pos rfl, HT2.out], _, by rw [qE, HL.out]; rfl, HX2.out, j2⟩
    case measure => simp [intOf]; omega
   have hs1 : (s == 0) = false := by simp [hs0]
   go_wp2_with (at_builtin; go_must (refine wpList_append_lies _ rfl (.tmp 34) (.tmp 42) 23 rfl W.heap.size 3 i0 (.int .i64 0) 1 8 Tryz.underlying23 hi hz0 hz1 hz2 rfl (by decide) _ _ _ rfl (jo.alloc _) ⟨wr.heap.size, 0, none⟩ 1 1 [.int .i64 (wrap64 (s * x))] rfl rfl (news1 _) (one1) (by omega) (by unfold maxLen; omega) (by omega) (by rw [qA]; omega) _ rfl ?_); intro g cp w1 hown hgrow hat hlt1)
   have j2 := j.app HL.out hown hgrow;clear hown hgrow jo j hat;have HX2 : Hid (xs ++ [wrap64 (s * x)] = (partL C).take (k + 1)) := by show _ = _; rw [HP.out, HXS.out, HT.out, if_neg hs0]
   go_wp2
   go_roundw
   case rel => exact ⟨k + 1, by omega, by go_num, by rw [HT.out, if_neg hs0], _, by rw [qE, HL.out]; rfl, HX2.out, j2⟩
   case measure => simp [intOf]; omega
  obtain rfl : k = n := by omega
  obtain ⟨a', cp, rfl, hcp, hI, hlt'⟩ := j.ints;have HXC : Hid (xs = partL C) := by show xs = _; rw [HXS.out, qF (by rw [part_len, HC.out]; exact qH _)]
  rw [HL.out] at hI hcp ⊢;have jb := j.b;clear j jo
  go_wp2
  go_ret
  exact ⟨a', cp, rfl, btr BW jb, by rw [<- HXC.out]; exact hI, fun b o e => ⟨by have := (hlt' b o e).1; have := HWS.out; omega, (hlt' b o e).2⟩⟩
theorem spart_any {m : Nat} {K : Int} (C : List Int) {w : World} (hC : Ints w a n C) (hn : n <= 1048576) :
  Calls Tryz.prog 50 #[formV a n cap c m cap' K] w fun e w' => ∃ a' cap2, e = .returned (.slice a' n cap2) /\ Below w.heap.size w w' /\ Ints w' a' n (partL C) /\ (∀ b o, a' = some ⟨b, o, none⟩ -> b < w'.heap.size) := by
 refine (spart_new a n cap c m cap' K C w hC hn).mono ?_;rintro e w' ⟨a', cap2, h1, h2, h3, h4⟩
 exact ⟨a', cap2, h1, h2, h3, fun b o e => (h4 b o e).2⟩
theorem l4same_any (n m : Nat) {cap cap' : Nat} (xs ys : List Int) {w : World} (h : Ints w a n xs) (h' : Ints w c m ys) (hn : n <= 1048576) (hm : m <= 1048576) :
  Calls Tryz.prog 52 #[.slice a n cap, .slice c m cap'] w fun e w' => e = .returned (.bool (eqB xs ys)) /\ Below w.heap.size w w' := by
 have hx := h.1;have HX : Hid (xs.length = n) := hx;have hy := h'.1;have HY : Hid (ys.length = m) := hy;clear hx hy
 by_cases hc : n = m
 ·subst hc
  go_enter Tryz.func52, Tryz.ntmps52
  go_wp2_with fail
  go_loopw [5] (fun i wr => ∃ k : Nat, k <= n /\ i = .int .i64 k /\ Below w.heap.size w wr /\ xs.take k = ys.take k) (fun i _ => n - (intOf i).toNat)
  case atStart => exact ⟨0, qI _, rfl, Below.refl _ _, rfl⟩
  case round =>
   obtain ⟨k, hk, rfl, hnx, hall⟩ := hrel;have HA : Hid (xs.take k = ys.take k) := hall;clear hall
   by_cases hlt : k < n
   ·obtain ⟨b, off, rfl, hcell⟩ := (h.below hnx).pos (by omega);obtain ⟨b', off', rfl, hcell'⟩ := (h'.below hnx).pos (by omega);have hck := hcell k hlt;have hck' := hcell' k hlt;have hlt' : (k : Int) < (n : Int) := by omega
    clear hcell hcell' h h'
    go_wp2_with fail
    go_quiet (fail)
    cases he : (xs[k]?.getD 0 != ys[k]?.getD 0)
    ·go_wp2
     go_roundw
     case rel => exact ⟨k + 1, by omega, by go_num, below_drewN hnx _, take_same_succ (by rw [HX.out]; exact hlt) (by rw [HY.out]; exact hlt) HA.out (by simpa using he)⟩
     case measure => simp [intOf]; omega
    go_wp2
    go_ret
    exact ⟨ret_bool (by rw [eqB_false (k := k) (by simpa using he)]), below_drewN hnx _⟩
   go_wp2
   go_ret
   exact ⟨ret_bool (by rw [eqB_true HX.out HY.out (by omega) HA.out]), hnx⟩
 have hne : ((n : Int) != (m : Int)) = true := by simp; omega
 go_enter Tryz.func52, Tryz.ntmps52
 go_wp2
 go_ret
 exact ⟨ret_bool (by rw [eqB_len (by rw [HX.out, HY.out]; exact hc)]), Below.refl _ _⟩
theorem equal_any {m : Nat} (xs ys : List Int) {w : World} (h : Ints w a n xs) (h' : Ints w c m ys) (hn : n <= 1048576) (hm : m <= 1048576) :
  Calls Tryz.prog 116 #[.slice a n cap, .slice c m cap'] w fun e w' => e = .returned (.bool (eqB xs ys)) /\ Below w.heap.size w w' := by
 have hx := h.1;have HX : Hid (xs.length = n) := hx;have hy := h'.1;have HY : Hid (ys.length = m) := hy;clear hx hy
 by_cases hc : n = m
 ·subst hc
  go_enter Tryz.func116, Tryz.ntmps116
  go_wp2_with fail
  go_loopw [5, 13] (fun _ i wr => ∃ k : Nat, k <= n /\ i = .int .i64 k /\ Below w.heap.size w wr /\ xs.take k = ys.take k) (fun _ i _ => n - (intOf i).toNat)
  case atStart => exact ⟨0, qI _, rfl, Below.refl _ _, rfl⟩
  case round =>
   obtain ⟨k, hk, rfl, hnx, hall⟩ := hrel;have HA : Hid (xs.take k = ys.take k) := hall;clear hall
   by_cases hlt : k < n
   ·obtain ⟨b, off, rfl, hcell⟩ := (h.below hnx).pos (by omega);obtain ⟨b', off', rfl, hcell'⟩ := (h'.below hnx).pos (by omega);have hck := hcell k hlt;have hck' := hcell' k hlt;have hlt' : (k : Int) < (n : Int) := by omega
    clear hcell hcell' h h'
    go_wp2_with fail
    go_quiet (fail)
    cases he : (xs[k]?.getD 0 != ys[k]?.getD 0)
    ·go_wp2
     go_roundw
     case rel => exact ⟨k + 1, by omega, by go_num, below_drewN hnx _, take_same_succ (by rw [HX.out]; exact hlt) (by rw [HY.out]; exact hlt) HA.out (by simpa using he)⟩
     case measure => simp [intOf]; omega
    go_wp2
    go_ret
    exact ⟨ret_bool (by rw [eqB_false (k := k) (by simpa using he)]), below_drewN hnx _⟩
   go_wp2
   go_ret
   exact ⟨ret_bool (by rw [eqB_true HX.out HY.out (by omega) HA.out]), hnx⟩
 have hne : ((n : Int) != (m : Int)) = true := by simp; omega
 go_enter Tryz.func116, Tryz.ntmps116
 go_wp2
 go_ret
 exact ⟨ret_bool (by rw [eqB_len (by rw [HX.out, HY.out]; exact hc)]), Below.refl _ _⟩
def hasFrom (part : List Int) : Nat -> List (List Int) -> Int
 | _, [] => -1
 | k, x :: t => if eqB x part then k else hasFrom part (k + 1) t
def hasI (ss : List IV) (part : List Int) : Int := hasFrom part 0 (ss.map IV.x)
theorem has_drop {ss : List IV} {part : List Int} (h : k < ss.length) : hasFrom part k ((ss.map IV.x).drop k) = if eqB (ss[k]?.getD noI).x part then (k : Int) else hasFrom part (k + 1) ((ss.map IV.x).drop (k + 1)) := by
 have hl : k < (ss.map IV.x).length := by simpa using h
 rw [List.drop_eq_getElem_cons hl, hasFrom, qB h];simp
theorem has_end {ss : List IV} {part : List Int} (h : ss.length <= k) : hasFrom part k ((ss.map IV.x).drop k) = -1 := by
 rw [List.drop_eq_nil_of_le (by simpa using h)]; rfl
theorem shas_any {ad : Option Addr} (N cap : Nat) (ss : List IV) {c : Option Addr} (m : Nat) {cap' : Nat} (part : List Int) {w : World} (hN : ss.length = N) (hF : ISG w ad ss) (hN1 : N <= 1048576) (hP : Ints w c m part) (hm : m <= 1048576 := by omega) :
  Calls Tryz.prog 51 #[.slice ad N cap, .slice c m cap'] w fun e w' => e = .returned (.int .i64 (hasI ss part)) /\ Below w.heap.size w w' := by
 have HN : Hid (ss.length = N) := hN;clear hN
 go_enter Tryz.func51, Tryz.ntmps51
 go_wp2_with fail
 go_loopw [5] (fun i wr => ∃ k : Nat, k <= N /\ i = .int .i64 k /\ Below w.heap.size w wr /\ hasI ss part = hasFrom part k ((ss.map IV.x).drop k)) (fun i _ => N - (intOf i).toNat)
 case atStart => exact ⟨0, qI _, rfl, Below.refl _ _, rfl⟩
 case round =>
  obtain ⟨k, hk, rfl, hb, hall⟩ := hrel;have HA : Hid _ := hall;clear hall
  by_cases hlt : k < N
  ·obtain ⟨b, off, rfl, hc, hr⟩ := (hF.below hb) k (by rw [HN.out]; exact hlt);have HD : Hid _ := has_drop (ss := ss) (part := part) (k := k) (by rw [HN.out]; exact hlt);generalize HG : ss[k]?.getD noI = g at *;clear HG hF;obtain ⟨ga, gn, gcap, gx⟩ := g;have hc' : wr.cell? ⟨b, off + k, none⟩ = some (.slice ga gn gcap) := hc;clear hc
   cases he : eqB gx part
   ·go_wp2_with fail
    refine (l4same_any _ _ gx part hr.1 (hP.below hb) hr.2 hm).mono ?_;rintro e w1 ⟨rfl, b1⟩;rw [he]
    go_wp2
    go_roundw
    case rel => exact ⟨k + 1, by omega, by go_num, btr hb b1, by rw [HA.out, HD.out]; simp only [he]; rfl⟩
    case measure => simp [intOf]; omega
   go_wp2_with fail
   refine (l4same_any _ _ gx part hr.1 (hP.below hb) hr.2 hm).mono ?_;rintro e w1 ⟨rfl, b1⟩;rw [he]
   go_wp2
   go_ret
   exact ⟨ret_int (by rw [HA.out, HD.out]; simp only [he]; rfl), btr hb b1⟩
  go_wp2
  go_ret
  exact ⟨ret_int (by rw [HA.out, has_end (by rw [HN.out]; omega)]), hb⟩
theorem ihas_any {ad : Option Addr} {N : Nat} (ss : List IV) {c : Option Addr} {m cap' : Nat} (part : List Int) {w : World} (hN : ss.length = N) (hF : ISG w ad ss) (hN1 : N <= 1048576) (hP : Ints w c m part) (hm : m <= 1048576) :
  Calls Tryz.prog 99 #[.slice ad N cap, .slice c m cap'] w fun e w' => e = .returned (.int .i64 (hasI ss part)) /\ Below w.heap.size w w' := by
 have HN : Hid (ss.length = N) := hN;clear hN
 go_enter Tryz.func99, Tryz.ntmps99
 go_wp2_with fail
 go_loopw [5, 6, 9] (fun _ _ i wr => ∃ k : Nat, k <= N /\ i = .int .i64 k /\ Below w.heap.size w wr /\ hasI ss part = hasFrom part k ((ss.map IV.x).drop k)) (fun _ _ i _ => N - (intOf i).toNat)
 case atStart => exact ⟨0, qI _, rfl, Below.refl _ _, rfl⟩
 case round =>
  obtain ⟨k, hk, rfl, hb, hall⟩ := hrel;have HA : Hid _ := hall;clear hall
  by_cases hlt : k < N
  ·obtain ⟨b, off, rfl, hc, hr⟩ := (hF.below hb) k (by rw [HN.out]; exact hlt);have HD : Hid _ := has_drop (ss := ss) (part := part) (k := k) (by rw [HN.out]; exact hlt);generalize HG : ss[k]?.getD noI = g at *;clear HG hF;obtain ⟨ga, gn, gcap, gx⟩ := g;have hc' : wr.cell? ⟨b, off + k, none⟩ = some (.slice ga gn gcap) := hc;clear hc
   cases he : eqB gx part
   ·go_wp2_with fail
    refine (equal_any gx part hr.1 (hP.below hb) hr.2 hm).mono ?_;rintro e w1 ⟨rfl, b1⟩;rw [he]
    go_wp2
    go_roundw
    case rel => exact ⟨k + 1, by omega, by go_num, btr hb b1, by rw [HA.out, HD.out]; simp only [he]; rfl⟩
    case measure => simp [intOf]; omega
   go_wp2_with fail
   refine (equal_any gx part hr.1 (hP.below hb) hr.2 hm).mono ?_;rintro e w1 ⟨rfl, b1⟩;rw [he]
   go_wp2
   go_ret
   exact ⟨ret_int (by rw [HA.out, HD.out]; simp only [he]; rfl), btr hb b1⟩
  go_wp2
  go_ret
  exact ⟨ret_int (by rw [HA.out, has_end (by rw [HN.out]; omega)]), hb⟩
theorem others_bnd {D : List Int} {s : Int} (bD : ∀ i : Nat, i < D.length -> 0 <= D[i]?.getD 0 /\ D[i]?.getD 0 <= 50) : ∀ k : Nat, k <= D.length -> k <= 3 -> 0 <= others D s k /\ others D s k <= 50 * k
 | 0, _, _ => by simp [others]
 | k + 1, hk, h3 => by
  have ih := others_bnd (s := s) bD k (by omega) (by omega);have d := bD k (by omega);rw [others]
  split
  ·omega
  rw [IntWalk.wrap64_in _ ⟨by omega, by omega⟩]
  omega
theorem zero_part {C : List Int} (hl : C.length = 3) (b : bnd 10000000 C) : eqB (partL C) [0, 0, 0] = allB 0 C := by
 match C, hl with
 | [x, y, z], _ =>
  have b0 := b 0;have b1 := b 1;have b2 := b 2;simp only [qC, qD, Option.getD_some] at b0 b1 b2;have hs : sg [x, y, z] = 1 \/ sg [x, y, z] = -1 := by unfold sg; split <;> simp
  have e : partL [x, y, z] = [wrap64 (sg [x, y, z] * x), wrap64 (sg [x, y, z] * y), wrap64 (sg [x, y, z] * z)] := rfl;rw [e];generalize sg [x, y, z] = g at *;rw [eqB, allB, Bool.eq_iff_iff, decide_eq_true_eq];simp only [List.cons.injEq, and_true, List.all_cons, List.all_nil, Bool.and_true, Bool.and_eq_true, inB_iff]
  rcases hs with rfl | rfl
  ·rw [IntWalk.wrap64_in _ ⟨by omega, by omega⟩, IntWalk.wrap64_in _ ⟨by omega, by omega⟩, IntWalk.wrap64_in _ ⟨by omega, by omega⟩]
   omega
  rw [IntWalk.wrap64_in _ ⟨by omega, by omega⟩, IntWalk.wrap64_in _ ⟨by omega, by omega⟩, IntWalk.wrap64_in _ ⟨by omega, by omega⟩]
  omega
def bokB (n m : Nat) (C D : List Int) (ss : List IV) (s : Int) (k : Nat) (E : List Int) (fn fm : Nat) (FC FD : List Int) (FK : Int) (l : Nat) (U : List Int) : Bool := viewB n m C D ss s k E && (formB fn fm FC FD FK && okN 2 9 l U)
def bnds (m : Nat) (C D : List Int) (ss : List IV) (s : Int) (E : List Int) (FC FD : List Int) (FK : Int) (U : List Int) : Int × Int × Bool :=
 if eqB (partL FC) [0, 0, 0] = true then (atV FC FD FK (List.zipWith (· + ·) C E) U, atV FC FD FK (List.zipWith (· + ·) C E) U, true)
 else if hasI ss (partL FC) < 0 then (0, 0, false)
 else (atV FC FD FK (List.zipWith (· + ·) C E) U - others D s m, atV FC FD FK (List.zipWith (· + ·) C E) U + others D s m, true)
def bansB (n m : Nat) (C D : List Int) (ss : List IV) (s : Int) (k : Nat) (E : List Int) (fn fm : Nat) (FC FD : List Int) (FK : Int) (l : Nat) (U : List Int) : Int × Int × Bool :=
 if bokB n m C D ss s k E fn fm FC FD FK l U = true then bnds m C D ss s E FC FD FK U else (0, 0, false)
def ansV (x : Int × Int × Bool) : Value := .tuple #[.int .i64 x.1, .int .i64 x.2.1, .bool x.2.2]
theorem hasI_copy {ss ts : List IV} {part : List Int} (hl : ts.length = ss.length) (h : copiesIS ss ts) : hasI ts part = hasI ss part := by
 have e : ∀ l : List IV, l.map IV.x = (l.map (fun p => (p.n, p.x))).map (fun q => q.2) := fun l => by rw [List.map_map]; rfl
 rw [hasI, hasI, e, e, copies_pair hl h]
theorem JA.slice3 {w W : World} {v : Value} {xs : List Int} (j : JA w v xs W) (hn : xs.length = 3) : ∃ a cap, v = .slice a 3 cap /\ Ints W a 3 xs := by
 obtain ⟨a, cap, B, rfl, ho, _⟩ := j.ownx hn
 exact ⟨a, cap, rfl, ho.ints⟩
theorem vbounds_any (a : Option Addr) (cap : Nat) (c : Option Addr) (m cap' : Nat) (ad : Option Addr) (N pc : Nat) (s : Int) (e : Option Addr) (ec : Nat) (u : Option Addr) (uc : Nat) (fa : Option Addr) (fcap : Nat) (fc : Option Addr) (fcap' : Nat) (FK : Int) (C D E U FC FD : List Int) (ss : List IV) (w : World)
  (hC : Ints w a 3 C) (hD : Ints w c m D) (hE : Ints w e 3 E) (hU : Ints w u 2 U) (hA : Ints w fa 3 FC) (hB : Ints w fc 2 FD) (hN : ss.length = N) (hF : ISG w ad ss) (hN1 : N <= 1048576) (hm3 : m <= 3)
  (bC : bnd 10000 C) (bE : bnd 20000 E) (bU : bnd 9 U) (bA : bnd 10000000 FC) (bB : bnd 10000000 FD) (bK : -10000000 <= FK /\ FK <= 10000000) (bD : ∀ i : Nat, i < D.length -> 0 <= D[i]?.getD 0 /\ D[i]?.getD 0 <= 50) :
  Calls Tryz.prog 73 #[viewV a 3 cap c m cap' ad N pc s e 3 ec u 2 uc, formV fa 3 fcap fc 2 fcap' FK] w fun r w' => ∃ x, x = bnds m C D ss s E FC FD FK U /\ r = .returned (.agg #[.int .i64 x.1, .int .i64 x.2.1, .bool x.2.2]) /\ Below w.heap.size w w' := by
 have HN : Hid (ss.length = N) := hN;have HZ : Hid ((List.zipWith (· + ·) C E).length = 3) := by show _ = _; rw [List.length_zipWith, hC.1, hE.1]; rfl
 have bV : bnd 30000 (List.zipWith (· + ·) C E) := fun i => by have := bnd_zip (by rw [hC.1, hE.1]) bC bE i; omega
 have ob := others_bnd (s := s) bD m (by rw [hD.1]; exact qH _) hm3;have p1 := dot_bnd (bndP_of bA bV) 3;have p2 := dot_bnd (bndP_of bB bU) 2;have HP : Hid (eqB (partL FC) [0, 0, 0] = allB 0 FC) := zero_part hA.1 bA;obtain ⟨x, hx⟩ : ∃ x, x = bnds m C D ss s E FC FD FK U := ⟨_, rfl⟩
 have HX : Hid _ := hx;have HV : Hid (bnd 30000 (List.zipWith (· + ·) C E)) := bV;obtain ⟨n, hn⟩ : ∃ n, n = atV FC FD FK (List.zipWith (· + ·) C E) U := ⟨_, rfl⟩
 obtain ⟨o, ho⟩ : ∃ o, o = others D s m := ⟨_, rfl⟩
 have n1 : -10000000000000 <= n := by rw [hn]; unfold atV; omega
 have n2 : n <= 10000000000000 := by rw [hn]; unfold atV; omega
 rw [<- ho] at ob;rw [bnds, <- hn, <- ho] at hx;have HI : Hid _ := hx;have HNN : Hid _ := hn;have HO : Hid _ := ho;obtain ⟨o1, o2⟩ := ob;have o3 : o <= 150 := by omega
 have BCE : Hid (bnd 10000 C /\ bnd 20000 E) := ⟨bC, bE⟩
 clear hN hx hn ho o2 p1 p2 bV bD bC bE;have q_0 := ((Cel.new w [.slice a 3 cap, .slice c m cap', .slice ad N pc, .int .i64 s, .slice e 3 ec, .slice u 2 uc] 63).alloc (.cells #[.slice fa 3 fcap, .slice fc 2 fcap', .int .i64 FK] 81)).alloc (.cells #[.int .i64 0, .int .i64 0, .bool false] 111);have f_0 := (Cel.new (w.alloc (.cells #[.slice a 3 cap, .slice c m cap', .slice ad N pc, .int .i64 s, .slice e 3 ec, .slice u 2 uc] 63)) [.slice fa 3 fcap, .slice fc 2 fcap', .int .i64 FK] 81).alloc (.cells #[.int .i64 0, .int .i64 0, .bool false] 111);have r_0 := Cel.new ((w.alloc (.cells #[.slice a 3 cap, .slice c m cap', .slice ad N pc, .int .i64 s, .slice e 3 ec, .slice u 2 uc] 63)).alloc (.cells #[.slice fa 3 fcap, .slice fc 2 fcap', .int .i64 FK] 81)) [.int .i64 0, .int .i64 0, .bool false] 111;have B_0 := (((Below.refl w.heap.size w).alloc (qH _) (.cells #[.slice a 3 cap, .slice c m cap', .slice ad N pc, .int .i64 s, .slice e 3 ec, .slice u 2 uc] 63)).alloc (by simp) (.cells #[.slice fa 3 fcap, .slice fc 2 fcap', .int .i64 FK] 81)).alloc (by simp; omega) (.cells #[.int .i64 0, .int .i64 0, .bool false] 111);rw [qA] at f_0;rw [qA, qA] at r_0
 go_enter Tryz.func73, Tryz.ntmps73
 go_upto_region 1 with fail
 obtain ⟨W, hW⟩ : ∃ W, W = ((w.alloc (.cells #[.slice a 3 cap, .slice c m cap', .slice ad N pc, .int .i64 s, .slice e 3 ec, .slice u 2 uc] 63)).alloc (.cells #[.slice fa 3 fcap, .slice fc 2 fcap', .int .i64 FK] 81)).alloc (.cells #[.int .i64 0, .int .i64 0, .bool false] 111) := ⟨_, rfl⟩
 rw [<- hW] at q_0 f_0 r_0 B_0 ⊢;clear hW;have CC : Hid (∀ X : World, Cel X w.heap.size [.slice a 3 cap, .slice c m cap', .slice ad N pc, .int .i64 s, .slice e 3 ec, .slice u 2 uc] 63 -> Cel X (w.heap.size + 1) [.slice fa 3 fcap, .slice fc 2 fcap', .int .i64 FK] 81 -> X.cell? ⟨w.heap.size, 0, none⟩ = some (.slice a 3 cap) /\ X.cell? ⟨w.heap.size, 1, none⟩ = some (.slice c m cap') /\ X.cell? ⟨w.heap.size, 2, none⟩ = some (.slice ad N pc) /\ X.cell? ⟨w.heap.size, 3, none⟩ = some (.int .i64 s) /\ X.cell? ⟨w.heap.size, 4, none⟩ = some (.slice e 3 ec) /\ X.cell? ⟨w.heap.size, 5, none⟩ = some (.slice u 2 uc) /\ X.cell? ⟨w.heap.size + 1, 0, none⟩ = some (.slice fa 3 fcap) /\ X.cell? ⟨w.heap.size + 1, 1, none⟩ = some (.slice fc 2 fcap') /\ X.cell? ⟨w.heap.size + 1, 2, none⟩ = some (.int .i64 FK)) := fun X h1 h2 => ⟨h1.cell 0, h1.cell 1, h1.cell 2, h1.cell 3, h1.cell 4, h1.cell 5, h2.cell 0, h2.cell 1, h2.cell 2⟩
 have hn0 := CC.out W q_0 f_0
 go_region_held3 (fun w' => w'.cell? ⟨w.heap.size, 0, none⟩ = some (.slice a 3 cap) /\ w'.cell? ⟨w.heap.size, 1, none⟩ = some (.slice c m cap') /\ w'.cell? ⟨w.heap.size, 2, none⟩ = some (.slice ad N pc) /\ w'.cell? ⟨w.heap.size, 3, none⟩ = some (.int .i64 s) /\ w'.cell? ⟨w.heap.size, 4, none⟩ = some (.slice e 3 ec) /\ w'.cell? ⟨w.heap.size, 5, none⟩ = some (.slice u 2 uc) /\ w'.cell? ⟨w.heap.size + 1, 0, none⟩ = some (.slice fa 3 fcap) /\ w'.cell? ⟨w.heap.size + 1, 1, none⟩ = some (.slice fc 2 fcap') /\ w'.cell? ⟨w.heap.size + 1, 2, none⟩ = some (.int .i64 FK)) (first | with_reducible assumption | exact hn0)
  (first
   | (go_at_call 75
      refine (sums_any C E _ _ (by exact hC.below B_0.drew) (by exact hE.below B_0.drew) BCE.out.1 BCE.out.2).mono ?_;rintro ee w1 ⟨va, vc, VB, rfl, bd_1, hO, -⟩;have b_1 := below_of_drew bd_1;have B_1 := btr B_0 b_1;have q_1 := q_0.below b_1;have f_1 := f_0.below b_1;have r_1 := r_0.below b_1
      have hn1 := CC.out w1 q_1 f_1)
   | (go_at_call 98
      refine (iat30_any _ _ _ _ _ FC FD _ _ _ _ (List.zipWith (· + ·) C E) U _ (by exact hA.below B_1) (by exact hB.below B_1) hO.ints (by exact hU.below B_1) bA bB bK HV.out bU).mono ?_;rintro ee w2 ⟨rfl, b_2⟩;rw [<- HNN.out];have B_2 := btr B_1 b_2;have q_2 := q_1.below b_2;have f_2 := f_1.below b_2;have r_2 := r_1.below b_2
      have hn2 := CC.out w2 q_2 f_2))
 clear hn0 hn1 hO bd_1 b_1 b_2 B_0 B_1 q_0 q_1 f_0 f_1 r_0 r_1;obtain ⟨k0, k1, k2, k3, k4, k5, k6, k7, k8⟩ := hn2
 cases hz : allB 0 FC
 ·go_wp2_with fail
  refine (within_any _ _ _ FC (hA.below B_2) (by omega)).mono ?_;rintro ee w3 ⟨rfl, rfl⟩;rw [hz]
  go_upto_region 4 with fail
  have hn3 := CC.out _ q_2 f_2
  go_region_held3 (fun w' => w'.cell? ⟨w.heap.size, 0, none⟩ = some (.slice a 3 cap) /\ w'.cell? ⟨w.heap.size, 1, none⟩ = some (.slice c m cap') /\ w'.cell? ⟨w.heap.size, 2, none⟩ = some (.slice ad N pc) /\ w'.cell? ⟨w.heap.size, 3, none⟩ = some (.int .i64 s) /\ w'.cell? ⟨w.heap.size, 4, none⟩ = some (.slice e 3 ec) /\ w'.cell? ⟨w.heap.size, 5, none⟩ = some (.slice u 2 uc) /\ w'.cell? ⟨w.heap.size + 1, 0, none⟩ = some (.slice fa 3 fcap) /\ w'.cell? ⟨w.heap.size + 1, 1, none⟩ = some (.slice fc 2 fcap') /\ w'.cell? ⟨w.heap.size + 1, 2, none⟩ = some (.int .i64 FK)) (first | with_reducible assumption | exact hn3)
   (first
    | (go_at_call 92
       refine (ipart_any _ _ FC (by exact hA.below B_2.drew)).mono ?_;rintro ee w4 ⟨rfl, bd_4, kp⟩;have b_4 := below_of_drew bd_4;have B_4 := btr B_2 b_4;have q_4 := q_2.below b_4;have f_4 := f_2.below b_4;have r_4 := r_2.below b_4
       have hn4 := CC.out w4 q_4 f_4)
    | (go_at_call 99
       refine (ihas_any ss (partL FC) HN.out (by exact hF.below B_4) hN1 (by exact kp.ints' (by rw [part_len]; exact hA.1)) (by omega)).mono ?_;rintro ee w5 ⟨rfl, b_5⟩;have B_5 := btr B_4 b_5;have q_5 := q_4.below b_5;have f_5 := f_4.below b_5;have r_5 := r_4.below b_5
       have hn5 := CC.out w5 q_5 f_5))
  clear hn3 hn4 bd_4 b_4 b_5 B_2 B_4 q_2 q_4 f_2 f_4 r_2 r_4 kp k0 k1 k2 k3 k4 k5 k6 k7 k8;obtain ⟨k0, k1, k2, k3, k4, k5, k6, k7, k8⟩ := hn5;have d0 := r_5.cell 0;have d1 := r_5.cell 1;have d2 := r_5.cell 2;have e0 := r_5.free 0;have e1 := r_5.free 1;have e2 := r_5.free 2;have lt := r_5.lt;simp only [qC, qD] at d0 d1 d2
  by_cases hh : hasI ss (partL FC) < 0
  ·have X : x = (0, 0, false) := by rw [HI.out, HP.out, hz, if_neg (by decide), if_pos hh]
   have HX2 : Hid _ := X;clear X
   go_wp2
   refine bodyPost_ret (v := .agg #[.int .i64 0, .int .i64 0, .bool false]) (by simp [results, Tryz.results73, go_sem, d0, d1, d2]) rfl ⟨x, HX.out, by rw [HX2.out], ?_⟩
   exact (((B_5.setCell (by simp only []; omega) _).setCell (by simp only []; omega) _).setCell (by simp only []; omega) _)
  have X : x = (n - o, n + o, true) := by rw [HI.out, HP.out, hz, if_neg (by decide), if_neg hh]
  have HX2 : Hid _ := X;clear X
  go_wp2_with fail
  refine (iothers_any D s (hD.below B_5) (by omega)).mono ?_;rintro ee w6 ⟨rfl, b_6⟩;rw [<- HO.out];have B_6 := btr B_5 b_6;have r_6 := r_5.below b_6;clear d0 d1 d2 e0 e1 e2 lt;have d0 := r_6.cell 0;have d1 := r_6.cell 1;have d2 := r_6.cell 2;have e0 := r_6.free 0;have e1 := r_6.free 1;have e2 := r_6.free 2;have lt := r_6.lt;simp only [qC, qD] at d0 d1 d2
  go_wp2
  refine bodyPost_ret (v := .agg #[.int .i64 (n - o), .int .i64 (n + o), .bool true]) (by simp [results, Tryz.results73, go_sem, d0, d1, d2]) rfl ⟨x, HX.out, by rw [HX2.out], ?_⟩
  exact (((B_6.setCell (by simp only []; omega) _).setCell (by simp only []; omega) _).setCell (by simp only []; omega) _)
 have X : x = (n, n, true) := by rw [HI.out, HP.out, hz, if_pos rfl]
 have HX2 : Hid _ := X;clear X
 go_wp2_with fail
 refine (within_any _ _ _ FC (hA.below B_2) (by omega)).mono ?_;rintro ee w3 ⟨rfl, rfl⟩;rw [hz];have d0 := r_2.cell 0;have d1 := r_2.cell 1;have d2 := r_2.cell 2;have e0 := r_2.free 0;have e1 := r_2.free 1;have e2 := r_2.free 2;have lt := r_2.lt;simp only [qC, qD] at d0 d1 d2
 go_wp2
 refine bodyPost_ret (v := .agg #[.int .i64 n, .int .i64 n, .bool true]) (by simp [results, Tryz.results73, go_sem, d0, d1, d2]) rfl ⟨x, HX.out, by rw [HX2.out], ?_⟩
 exact (((B_2.setCell (by simp only []; omega) _).setCell (by simp only []; omega) _).setCell (by simp only []; omega) _)
end Go.Proofs.YtdaiaohlkdolmaaGreat
