/-
  Lemmas that the claim's last text rests on.
-/
import Derived.Test.YtemcinobgdphnaaGreatQLN
namespace Go.Proofs.YtemcinobgdphnaaGreat
open Go.RowKit Go.Deep
open World renaming size_alloc → qA
open List renaming getElem?_eq_getElem → qB, getElem?_cons_zero → qC, getElem?_cons_succ → qD, take_of_length_le → qE, take_succ_eq_append_getElem → qF
open Nat renaming le_refl → qG, zero_le → qH
set_option linter.unusedVariables false
set_option maxRecDepth 100000
set_option maxHeartbeats 25600000
variable {B cap cap' k m n : Nat} {C D E : List Int} {a c : Option Addr} {g s : Int} {ss ts : List IV} {t : TypeId} {v0 v1 : Value} {w : World}
def trtB (n m : Nat) (C D : List Int) : Bool := okN 3 10000 n C && (inB m 1 3 && betB 0 50 D)
theorem strt_any (C D : List Int) {w : World} (hC : Ints w a n C) (hD : Ints w c m D) (hn : n <= 1048576) (hm : m <= 1048576) :
  Calls Tryz.prog 21 #[treV a n cap c m cap'] w fun e w' => e = .returned (.bool (trtB n m C D)) /\ Below w.heap.size w w' := by
 have HD : Hid (D.length = m) := hD.1
 cases h1 : okN 3 10000 n C
 ·go_enter Tryz.func21, Tryz.ntmps21
  go_wp2_with fail
  refine (sval_any C (hC.alloc _) hn).mono ?_;rintro e w1 ⟨rfl, rfl⟩
  go_wp2
  go_ret
  exact ⟨ret_bool (by simp [trtB, h1]), bal⟩
 cases h2 : inB m 1 3
 ·go_enter Tryz.func21, Tryz.ntmps21
  go_wp2_with fail
  refine (sval_any C (hC.alloc _) hn).mono ?_;rintro e w1 ⟨rfl, rfl⟩
  go_wp2_with fail
  refine (in_any).mono ?_;rintro e w1 ⟨rfl, rfl⟩
  go_wp2
  go_ret
  exact ⟨ret_bool (by simp [trtB, h2]), bal⟩
 go_enter Tryz.func21, Tryz.ntmps21
 go_wp2_with fail
 refine (sval_any C (hC.alloc _) hn).mono ?_;rintro e w1 ⟨rfl, rfl⟩
 go_wp2_with fail
 refine (in_any).mono ?_;rintro e w1 ⟨rfl, rfl⟩
 go_wp2_with fail
 go_loop [3] (fun i => ∃ k : Nat, k <= m /\ i = .int .i64 k /\ betB 0 50 (D.take k) = true) (fun i => m - (intOf i).toNat)
 case atStart => exact ⟨0, qH _, rfl, rfl⟩
 case round =>
  obtain ⟨k, hk, rfl, hall⟩ := hrel;have HA : Hid (betB 0 50 (D.take k) = true) := hall;clear hall
  by_cases hlt : k < m
  ·obtain ⟨b, off, rfl, hcell⟩ := (hD.alloc (.cells #[.slice a n cap, .slice c m cap'] 26 (0, 0))).pos (by omega);have hck := hcell k hlt;clear hcell hC hD
   cases hin : inB (D[k]?.getD 0) 0 50
   ·go_wp2_with fail
    refine (in_any).mono ?_;rintro e w1 ⟨rfl, rfl⟩
    go_wp2
    go_ret
    exact ⟨ret_bool (by rw [trtB, betB_false (by rw [HD.out]; exact hlt) hin]; simp), bal⟩
   go_wp2_with fail
   refine (in_any).mono ?_;rintro e w1 ⟨rfl, rfl⟩
   go_wp2
   go_round
   case rel => exact ⟨k + 1, by omega, by go_num, betB_step (by rw [HD.out]; exact hlt) HA.out hin⟩
   case measure => simp [intOf]; omega
  go_wp2
  go_ret
  exact ⟨ret_bool (by rw [trtB, h1, h2, betB_end (by rw [HD.out]; omega) HA.out]; rfl), bal⟩
theorem itrt_any (C D : List Int) {w : World} (hC : Ints w a n C) (hD : Ints w c m D) (hn : n <= 1048576) (hm : m <= 1048576) :
  Calls Tryz.prog 23 #[treV a n cap c m cap'] w fun e w' => e = .returned (.bool (trtB n m C D)) /\ Below w.heap.size w w' := by
 cases h1 : okN 3 10000 n C
 ·go_enter Tryz.func23, Tryz.ntmps23
  go_wp2_with fail
  refine (ival_any C (hC.alloc _) hn).mono ?_;rintro e w1 ⟨rfl, rfl⟩
  go_wp2
  go_ret
  exact ⟨ret_bool (by simp [trtB, h1]), bal⟩
 by_cases h2 : 1 <= m
 ·by_cases h3 : m <= 3
  ·have h4 : inB m 1 3 = true := inB_iff.2 ⟨by omega, by omega⟩;have H4 : Hid _ := h4;clear h4
   go_enter Tryz.func23, Tryz.ntmps23
   go_wp2_with fail
   refine (ival_any C (hC.alloc _) hn).mono ?_;rintro e w1 ⟨rfl, rfl⟩
   go_wp2_with fail
   refine (between_any D _ _ (hD.alloc _) hm).mono ?_;rintro e w1 ⟨rfl, rfl⟩
   go_wp2
   go_ret
   exact ⟨ret_bool (by rw [trtB, h1, H4.out]; rfl), bal⟩
  have h4 : inB m 1 3 = false := inB_not.2 (by omega);have H4 : Hid _ := h4;clear h4
  go_enter Tryz.func23, Tryz.ntmps23
  go_wp2_with fail
  refine (ival_any C (hC.alloc _) hn).mono ?_;rintro e w1 ⟨rfl, rfl⟩
  go_wp2
  go_ret
  exact ⟨ret_bool (by rw [trtB, H4.out]; simp), bal⟩
 have h4 : inB m 1 3 = false := inB_not.2 (by omega);have H4 : Hid _ := h4;clear h4
 go_enter Tryz.func23, Tryz.ntmps23
 go_wp2_with fail
 refine (ival_any C (hC.alloc _) hn).mono ?_;rintro e w1 ⟨rfl, rfl⟩
 go_wp2
 go_ret
 exact ⟨ret_bool (by rw [trtB, H4.out]; simp), bal⟩
def others (D : List Int) (s : Int) : Nat -> Int
 | 0 => 0
 | k + 1 => if (k : Int) = s then others D s k else wrap64 (others D s k + D[k]?.getD 0)
theorem sothers_any (D : List Int) (s : Int) {w : World} (hD : Ints w c m D) (hm : m <= 1048576 := by omega) :
  Calls Tryz.prog 152 #[treV a n cap c m cap', .int .i64 s] w fun e w' => e = .returned (.int .i64 (others D s m)) /\ Below w.heap.size w w' := by
 go_enter Tryz.func152, Tryz.ntmps152
 go_wp2_with fail
 go_loop [5, 6] (fun x i => ∃ k : Nat, k <= m /\ i = .int .i64 k /\ x = .int .i64 (others D s k)) (fun _ i => m - (intOf i).toNat)
 case atStart => exact ⟨0, qH _, rfl, rfl⟩
 case round =>
  obtain ⟨k, hk, rfl, rfl⟩ := hrel
  by_cases hlt : k < m
  ·obtain ⟨b, off, rfl, hcell⟩ := (hD.alloc (.cells #[.slice a n cap, .slice c m cap'] 26 (0, 0))).pos (by omega);have hck := hcell k hlt;clear hcell hD;have HO : Hid (others D s (k + 1) = if (k : Int) = s then others D s k else wrap64 (others D s k + D[k]?.getD 0)) := rfl;obtain ⟨y, hy⟩ : ∃ y, y = others D s k := ⟨_, rfl⟩
   rw [<- hy] at HO;rw [<- hy];clear hy
   by_cases hs : (k : Int) = s
   ·have hs' : ((k : Int) != s) = false := by simp [hs]
    have HS : Hid ((k : Int) = s) := hs;clear hs
    go_wp2
    go_round
    case rel => exact ⟨k + 1, by omega, by go_num, by rw [HO.out, if_pos HS.out]⟩
    case measure => simp [intOf]; omega
   have hs' : ((k : Int) != s) = true := by simp [hs]
   have HS : Hid (¬ (k : Int) = s) := hs;clear hs
   go_wp2
   go_round
   case rel => exact ⟨k + 1, by omega, by go_num, by rw [HO.out, if_neg HS.out]⟩
   case measure => simp [intOf]; omega
  obtain rfl : k = m := by omega
  go_wp2
  go_ret
  exact ⟨rfl, bal⟩
theorem iothers_any (D : List Int) (s : Int) {w : World} (hD : Ints w c m D) (hm : m <= 1048576) :
  Calls Tryz.prog 125 #[treV a n cap c m cap', .int .i64 s] w fun e w' => e = .returned (.int .i64 (others D s m)) /\ Below w.heap.size w w' := by
 go_enter Tryz.func125, Tryz.ntmps125
 go_wp2_with fail
 go_loop [5, 6, 7, 11] (fun x _ _ i => ∃ k : Nat, k <= m /\ i = .int .i64 k /\ x = .int .i64 (others D s k)) (fun _ _ _ i => m - (intOf i).toNat)
 case atStart => exact ⟨0, qH _, rfl, rfl⟩
 case round =>
  obtain ⟨k, hk, rfl, rfl⟩ := hrel
  by_cases hlt : k < m
  ·obtain ⟨b, off, rfl, hcell⟩ := (hD.alloc (.cells #[.slice a n cap, .slice c m cap'] 26 (0, 0))).pos (by omega);have hck := hcell k hlt;clear hcell hD;have HO : Hid (others D s (k + 1) = if (k : Int) = s then others D s k else wrap64 (others D s k + D[k]?.getD 0)) := rfl;obtain ⟨y, hy⟩ : ∃ y, y = others D s k := ⟨_, rfl⟩
   rw [<- hy] at HO;rw [<- hy];clear hy
   by_cases hs : (k : Int) = s
   ·have hs' : ((k : Int) != s) = false := by simp [hs]
    have HS : Hid ((k : Int) = s) := hs;clear hs
    go_wp2
    go_round
    case rel => exact ⟨k + 1, by omega, by go_num, by rw [HO.out, if_pos HS.out]⟩
    case measure => simp [intOf]; omega
   have hs' : ((k : Int) != s) = true := by simp [hs]
   have HS : Hid (¬ (k : Int) = s) := hs;clear hs
   go_wp2
   go_round
   case rel => exact ⟨k + 1, by omega, by go_num, by rw [HO.out, if_neg HS.out]⟩
   case measure => simp [intOf]; omega
  obtain rfl : k = m := by omega
  go_wp2
  go_ret
  exact ⟨rfl, bal⟩
def partsB (ss : List IV) : Bool := ss.all fun s => okN 3 10000000 s.n s.x
theorem partsB_step (h : k < ss.length) (h1 : partsB (ss.take k) = true) (h2 : okN 3 10000000 (ss[k]?.getD noI).n (ss[k]?.getD noI).x = true) : partsB (ss.take (k + 1)) = true := by
 unfold partsB at *;rw [qF h, List.all_append, h1];rw [qB h] at h2;simpa using h2
theorem partsB_end (h : ss.length <= k) (h1 : partsB (ss.take k) = true) : partsB ss = true := by
 rwa [qE h] at h1
theorem partsB_false (h : k < ss.length) (hn : okN 3 10000000 (ss[k]?.getD noI).n (ss[k]?.getD noI).x = false) : partsB ss = false := by
 unfold partsB;rw [List.all_eq_false];refine ⟨ss[k], List.getElem_mem h, ?_⟩;rw [qB h] at hn;simpa using hn
theorem partsB_at (h : k < ss.length) (hp : partsB ss = true) : okN 3 10000000 (ss[k]?.getD noI).n (ss[k]?.getD noI).x = true := by
 cases hn : okN 3 10000000 (ss[k]?.getD noI).n (ss[k]?.getD noI).x
 ·rw [partsB_false h hn] at hp; cases hp
 rfl
theorem sparts_any {ad : Option Addr} {N : Nat} (ss : List IV) {w : World} (hN : ss.length = N) (hF : ISG w ad ss) (hN1 : N <= 1048576) :
  Calls Tryz.prog 102 #[.slice ad N cap] w fun e w' => e = .returned (.bool (partsB ss)) /\ w' = w := by
 have HN : Hid (ss.length = N) := hN;clear hN
 go_enter Tryz.func102, Tryz.ntmps102
 go_wp2_with fail
 go_loop [3] (fun i => ∃ k : Nat, k <= N /\ i = .int .i64 k /\ partsB (ss.take k) = true) (fun i => N - (intOf i).toNat)
 case atStart => exact ⟨0, qH _, rfl, rfl⟩
 case round =>
  obtain ⟨k, hk, rfl, hall⟩ := hrel;have HA : Hid _ := hall;clear hall
  by_cases hlt : k < N
  ·obtain ⟨b, off, rfl, hc, hr⟩ := hF k (by rw [HN.out]; exact hlt);have H1 : Hid _ := partsB_step (ss := ss) (k := k) (by rw [HN.out]; exact hlt) HA.out;have H2 : Hid _ := partsB_false (ss := ss) (k := k) (by rw [HN.out]; exact hlt);generalize HG : ss[k]?.getD noI = g at *;clear HG hF HA;obtain ⟨ga, gn, gcap, gx⟩ := g;have hc' : w.cell? ⟨b, off + k, none⟩ = some (.slice ga gn gcap) := hc;clear hc
   cases he : okN 3 10000000 gn gx
   ·go_wp2_with fail
    refine (all_any gx _ _ hr.1 hr.2).mono ?_;rintro e w1 ⟨rfl, rfl⟩;rw [he]
    go_wp2
    go_ret
    exact ⟨ret_bool (by rw [H2.out he]), rfl⟩
   go_wp2_with fail
   refine (all_any gx _ _ hr.1 hr.2).mono ?_;rintro e w1 ⟨rfl, rfl⟩;rw [he]
   go_wp2
   go_round
   case rel => exact ⟨k + 1, by omega, by go_num, H1.out he⟩
   case measure => simp [intOf]; omega
  go_wp2
  go_ret
  exact ⟨ret_bool (by rw [partsB_end (by rw [HN.out]; omega) HA.out]), rfl⟩
theorem iparts_any {ad : Option Addr} {N : Nat} (ss : List IV) {w : World} (hN : ss.length = N) (hF : ISG w ad ss) (hN1 : N <= 1048576) :
  Calls Tryz.prog 84 #[.slice ad N cap] w fun e w' => e = .returned (.bool (partsB ss)) /\ w' = w := by
 have HN : Hid (ss.length = N) := hN;clear hN
 go_enter Tryz.func84, Tryz.ntmps84
 go_wp2_with fail
 go_loop [4, 7] (fun _ i => ∃ k : Nat, k <= N /\ i = .int .i64 k /\ partsB (ss.take k) = true) (fun _ i => N - (intOf i).toNat)
 case atStart => exact ⟨0, qH _, rfl, rfl⟩
 case round =>
  obtain ⟨k, hk, rfl, hall⟩ := hrel;have HA : Hid _ := hall;clear hall
  by_cases hlt : k < N
  ·obtain ⟨b, off, rfl, hc, hr⟩ := hF k (by rw [HN.out]; exact hlt);have H1 : Hid _ := partsB_step (ss := ss) (k := k) (by rw [HN.out]; exact hlt) HA.out;have H2 : Hid _ := partsB_false (ss := ss) (k := k) (by rw [HN.out]; exact hlt);generalize HG : ss[k]?.getD noI = g at *;clear HG hF HA;obtain ⟨ga, gn, gcap, gx⟩ := g;have hc' : w.cell? ⟨b, off + k, none⟩ = some (.slice ga gn gcap) := hc;clear hc
   by_cases hn3 : (gn : Int) = 3
   ·have hn3' : ((gn : Int) != 3) = false := by simp [hn3]
    have H3 : Hid ((gn : Int) = 3) := hn3;clear hn3
    cases he : allB 10000000 gx
    ·go_wp2_with fail
     refine (within_any _ _ _ gx hr.1 hr.2).mono ?_;rintro e w1 ⟨rfl, rfl⟩;rw [he]
     go_wp2
     go_ret
     exact ⟨ret_bool (by rw [H2.out (by rw [okN_is H3.out, he])]), rfl⟩
    go_wp2_with fail
    refine (within_any _ _ _ gx hr.1 hr.2).mono ?_;rintro e w1 ⟨rfl, rfl⟩;rw [he]
    go_wp2
    go_round
    case rel => exact ⟨k + 1, by omega, by go_num, H1.out (by rw [okN_is H3.out, he])⟩
    case measure => simp [intOf]; omega
   have hn3' : ((gn : Int) != 3) = true := by simp [hn3]
   have H3 : Hid (¬ (gn : Int) = 3) := hn3;clear hn3
   go_wp2
   go_ret
   exact ⟨ret_bool (by rw [H2.out (okN_not H3.out)]), rfl⟩
  go_wp2
  go_ret
  exact ⟨ret_bool (by rw [partsB_end (by rw [HN.out]; omega) HA.out]), rfl⟩
theorem imay_any (zs : List Int) {w : World} (h : Ints w a n zs) (hn : n <= 1048576) :
  Calls Tryz.prog 85 #[.slice a n cap] w fun e w' => e = .returned (.bool (okN 3 20000 n zs)) /\ w' = w := by
 by_cases hc : (n : Int) = 3
 ·have hc' : ((n : Int) == 3) = true := by simp [hc]
  have HC : Hid ((n : Int) = 3) := hc;clear hc
  go_enter Tryz.func85, Tryz.ntmps85
  go_wp2_with fail
  refine (within_any _ _ _ zs h hn).mono ?_;rintro e w' ⟨rfl, rfl⟩
  go_wp2
  go_ret
  exact ⟨ret_bool (by rw [okN_is HC.out]), rfl⟩
 have hc' : ((n : Int) == 3) = false := by simpa using hc
 go_enter Tryz.func85, Tryz.ntmps85
 go_wp2
 go_ret
 exact ⟨ret_bool (by rw [okN_not hc]), rfl⟩
theorem times5_any (xs ys : List Int) {P : Int} {w : World} (h : Ints w a 3 xs) (h' : Ints w c 3 ys) (hP : bndP P xs ys) (h0 : 0 <= P) (hb : P <= 1000000000000) :
  Calls Tryz.prog 103 #[.slice a 3 cap, .slice c 3 cap'] w fun e w' => e = .returned (.int .i64 (dot xs ys 3)) /\ Below w.heap.size w w' := by
 have HP : Hid (bndP P xs ys) := hP;clear hP
 go_enter Tryz.func103, Tryz.ntmps103
 go_wp2_with fail
 go_loopw [5, 6] (fun s i wr => ∃ k : Nat, k <= 3 /\ i = .int .i64 k /\ s = .int .i64 (dot xs ys k) /\ Below w.heap.size w wr) (fun _ i _ => 3 - (intOf i).toNat)
 case atStart => exact ⟨0, by omega, rfl, rfl, Below.refl _ _⟩
 case round =>
  obtain ⟨k, hk, rfl, rfl, hb'⟩ := hrel
  by_cases hlt : k < 3
  ·obtain ⟨b, off, rfl, hcell⟩ := (h.below hb').pos (by omega);obtain ⟨b', off', rfl, hcell'⟩ := (h'.below hb').pos (by omega);have hck := hcell k hlt;have hck' := hcell' k hlt;have hlt' : (k : Int) < 3 := by omega
   obtain ⟨p1, p2⟩ := HP.out k;have d := dot_bnd HP.out k;have kP : (k : Int) * P <= 1000 * P := Int.mul_le_mul_of_nonneg_right (by omega) h0;have d1 : -1000000000000000 <= dot xs ys k := by omega
   have d2 : dot xs ys k <= 1000000000000000 := by omega
   have d3 : -1000000000000 <= xs[k]?.getD 0 * ys[k]?.getD 0 := by omega
   have d4 : xs[k]?.getD 0 * ys[k]?.getD 0 <= 1000000000000 := by omega
   clear hcell hcell' h h' d kP p1 p2 hb h0
   go_wp2_with fail
   go_quiet (fail)
   go_wp2
   go_roundw
   case rel => exact ⟨k + 1, by omega, by go_num, by simp only [dot], below_drewN hb' _⟩
   case measure => simp [intOf]; omega
  obtain rfl : k = 3 := by omega
  go_wp2
  go_ret
  exact ⟨rfl, hb'⟩
def viewB (n m : Nat) (C D : List Int) (ss : List IV) (s : Int) (k : Nat) (E : List Int) : Bool := trtB n m C D && (partsB ss && (inB s 0 ((m : Int) - 1) && okN 3 20000 k E))
def keepsB (g : Int) (E : List Int) (ss : List IV) : Bool := ss.all fun p => inB (dot p.x E 3) (-g) g
theorem keepsB_step (h : k < ss.length) (h1 : keepsB g E (ss.take k) = true) (h2 : inB (dot (ss[k]?.getD noI).x E 3) (-g) g = true) : keepsB g E (ss.take (k + 1)) = true := by
 unfold keepsB at *;rw [qF h, List.all_append, h1];rw [qB h] at h2;simpa using h2
theorem keepsB_end (h : ss.length <= k) (h1 : keepsB g E (ss.take k) = true) : keepsB g E ss = true := by
 rwa [qE h] at h1
theorem keepsB_false (h : k < ss.length) (hn : inB (dot (ss[k]?.getD noI).x E 3) (-g) g = false) : keepsB g E ss = false := by
 unfold keepsB;rw [List.all_eq_false];refine ⟨ss[k], List.getElem_mem h, ?_⟩;rw [qB h] at hn;simpa using hn
theorem viewB_elim (h : viewB n m C D ss s k E = true) :
  n = 3 /\ bnd 10000 C /\ 1 <= m /\ m <= 3 /\ partsB ss = true /\ 0 <= s /\ s < m /\ k = 3 /\ bnd 20000 E /\ (∀ i : Nat, i < D.length -> 0 <= D[i]?.getD 0 /\ D[i]?.getD 0 <= 50) := by
 simp only [viewB, trtB, Bool.and_eq_true] at h;obtain ⟨⟨h1, h2, h3⟩, h4, h5, h6⟩ := h;have a := okN_elim (by omega) h1;have b := okN_elim (by omega) h6;have c := inB_iff.1 h2;have d := inB_iff.1 h5;refine ⟨by omega, a.2, by omega, by omega, h4, d.1, by omega, by omega, b.2, fun i hi => ?_⟩;unfold betB at h3;rw [List.all_eq_true] at h3;have := inB_iff.1 (h3 D[i] (List.getElem_mem hi));rw [qB hi];simpa using this
def keepB (n m : Nat) (C D : List Int) (ss : List IV) (s : Int) (k : Nat) (E : List Int) : Bool := viewB n m C D ss s k E && keepsB (D[s.toNat]?.getD 0) E ss
theorem place_in (s : Int) (m : Nat) : decide (0 <= s /\ s < (m : Int)) = inB s 0 ((m : Int) - 1) := by
 unfold inB
 apply decide_eq_decide.2
 omega
abbrev viewV (a : Option Addr) (n cap : Nat) (c : Option Addr) (m cap' : Nat) (ad : Option Addr) (N pc : Nat) (s : Int) (e : Option Addr) (k ec : Nat) (u : Option Addr) (l uc : Nat) : Value := .agg #[.slice a n cap, .slice c m cap', .slice ad N pc, .int .i64 s, .slice e k ec, .slice u l uc]
theorem Cel.sixK {v2 v3 v4 v5 : Value} (h : Cel w B [v0, v1, v2, v3, v4, v5] t) : w.cell? ⟨B, 0, none⟩ = some v0 /\ w.cell? ⟨B, 1, none⟩ = some v1 /\ w.cell? ⟨B, 2, none⟩ = some v2 /\ w.cell? ⟨B, 3, none⟩ = some v3 /\ w.cell? ⟨B, 4, none⟩ = some v4 /\ w.cell? ⟨B, 5, none⟩ = some v5 := ⟨h.cell 0, h.cell 1, h.cell 2, h.cell 3, h.cell 4, h.cell 5⟩
theorem vok_any (a : Option Addr) (n cap : Nat) (c : Option Addr) (m cap' : Nat) (ad : Option Addr) (N pc : Nat) (s : Int) (e : Option Addr) (k ec : Nat) (u : Option Addr) (l uc : Nat) (C D E : List Int) (ss : List IV) {w : World}
  (hC : Ints w a n C) (hD : Ints w c m D) (hE : Ints w e k E) (hN : ss.length = N) (hF : ISG w ad ss) (hn : n <= 1048576) (hm : m <= 1048576) (hk : k <= 1048576) (hN1 : N <= 1048576) :
  Calls Tryz.prog 49 #[viewV a n cap c m cap' ad N pc s e k ec u l uc] w fun r w' => r = .returned (.bool (viewB n m C D ss s k E)) /\ Below w.heap.size w w' := by
 have HN : Hid (ss.length = N) := hN;clear hN;have q0 := Cel.new w [.slice a n cap, .slice c m cap', .slice ad N pc, .int .i64 s, .slice e k ec, .slice u l uc] 72;have b0 := (Below.refl w.heap.size w).alloc (qG _) (.cells #[.slice a n cap, .slice c m cap', .slice ad N pc, .int .i64 s, .slice e k ec, .slice u l uc] 72)
 cases h1 : trtB n m C D
 ·go_enter Tryz.func49, Tryz.ntmps49
  go_wp2_with fail
  refine (itrt_any C D (hC.below b0) (hD.below b0) hn hm).mono ?_;rintro r w1 ⟨rfl, b1⟩;have B1 := btr b0 b1;rw [h1]
  go_wp2
  go_ret
  exact ⟨ret_bool (by simp [viewB, h1]), B1⟩
 cases h2 : partsB ss
 ·go_enter Tryz.func49, Tryz.ntmps49
  go_wp2_with fail
  refine (itrt_any C D (hC.below b0) (hD.below b0) hn hm).mono ?_;rintro r w1 ⟨rfl, b1⟩;have B1 := btr b0 b1;obtain ⟨c0, c1, c2, c3, c4, c5⟩ := (q0.below b1).sixK;rw [h1]
  go_wp2_with fail
  refine (iparts_any ss HN.out (hF.below B1) hN1).mono ?_;rintro r w2 ⟨rfl, rfl⟩;rw [h2]
  go_wp2
  go_ret
  exact ⟨ret_bool (by simp [viewB, h2]), B1⟩
 cases h3 : inB s 0 ((m : Int) - 1)
 ·go_enter Tryz.func49, Tryz.ntmps49
  go_wp2_with fail
  refine (itrt_any C D (hC.below b0) (hD.below b0) hn hm).mono ?_;rintro r w1 ⟨rfl, b1⟩;have B1 := btr b0 b1;obtain ⟨c0, c1, c2, c3, c4, c5⟩ := (q0.below b1).sixK;rw [h1]
  go_wp2_with fail
  refine (iparts_any ss HN.out (hF.below B1) hN1).mono ?_;rintro r w2 ⟨rfl, rfl⟩;rw [h2]
  go_wp2_with fail
  refine (place_any).mono ?_;rintro r w3 ⟨rfl, rfl⟩;rw [place_in, h3]
  go_wp2
  go_ret
  exact ⟨ret_bool (by simp [viewB, h3]), B1⟩
 go_enter Tryz.func49, Tryz.ntmps49
 go_wp2_with fail
 refine (itrt_any C D (hC.below b0) (hD.below b0) hn hm).mono ?_;rintro r w1 ⟨rfl, b1⟩;have B1 := btr b0 b1;obtain ⟨c0, c1, c2, c3, c4, c5⟩ := (q0.below b1).sixK;rw [h1]
 go_wp2_with fail
 refine (iparts_any ss HN.out (hF.below B1) hN1).mono ?_;rintro r w2 ⟨rfl, rfl⟩;rw [h2]
 go_wp2_with fail
 refine (place_any).mono ?_;rintro r w3 ⟨rfl, rfl⟩;rw [place_in, h3]
 go_wp2_with fail
 refine (imay_any E (hE.below B1) hk).mono ?_;rintro r w4 ⟨rfl, rfl⟩
 go_wp2
 go_ret
 exact ⟨ret_bool (by simp [viewB, h1, h2, h3]), B1⟩
theorem vkeeps_any (a : Option Addr) (n cap : Nat) (c : Option Addr) (m cap' : Nat) (ad : Option Addr) (N pc : Nat) (s : Int) (e : Option Addr) (ec : Nat) (u : Option Addr) (l uc : Nat) (C D E : List Int) (ss : List IV) {w : World}
  (hD : Ints w c m D) (hE : Ints w e 3 E) (hN : ss.length = N) (hF : ISG w ad ss) (hN1 : N <= 1048576) (hm3 : m <= 3) (hs : 0 <= s) (hs' : s < m) (hp : partsB ss = true) (bE : bnd 20000 E) (bD : ∀ i : Nat, i < D.length -> 0 <= D[i]?.getD 0 /\ D[i]?.getD 0 <= 50) :
  Calls Tryz.prog 50 #[viewV a n cap c m cap' ad N pc s e 3 ec u l uc] w fun r w' => r = .returned (.bool (keepsB (D[s.toNat]?.getD 0) E ss)) /\ Below w.heap.size w w' := by
 have HN : Hid (ss.length = N) := hN;have HP : Hid (partsB ss = true) := hp;clear hN hp;have q0 := Cel.new w [.slice a n cap, .slice c m cap', .slice ad N pc, .int .i64 s, .slice e 3 ec, .slice u l uc] 72;have b0 := (Below.refl w.heap.size w).alloc (qG _) (.cells #[.slice a n cap, .slice c m cap', .slice ad N pc, .int .i64 s, .slice e 3 ec, .slice u l uc] 72);obtain ⟨t, rfl⟩ : ∃ t : Nat, s = t := ⟨s.toNat, by omega⟩
 have ht : t < m := by omega
 have bg := bD t (by rw [hD.1]; exact ht);obtain ⟨b, off, rfl, hcell⟩ := (hD.below b0).pos (by omega);have hck := hcell t ht;rw [Int.toNat_natCast];have hck' : (w.alloc (.cells #[.slice a n cap, .slice (some ⟨b, off, none⟩) m cap', .slice ad N pc, .int .i64 (t : Int), .slice e 3 ec, .slice u l uc] 72)).cell? ⟨b, off + t, none⟩ = some (.int .i64 (D[t]?.getD 0)) := by rw [hck]; simp
 generalize HG : D[t]?.getD 0 = g at *;clear HG hck hcell bD hD
 go_enter Tryz.func50, Tryz.ntmps50
 go_wp2_with fail
 go_loopw [5, 16] (fun _ i wr => ∃ k : Nat, k <= N /\ i = .int .i64 k /\ Below w.heap.size w wr /\ Cel wr w.heap.size [.slice a n cap, .slice (some ⟨b, off, none⟩) m cap', .slice ad N pc, .int .i64 (t : Int), .slice e 3 ec, .slice u l uc] 72 /\ keepsB g E (ss.take k) = true) (fun _ i _ => N - (intOf i).toNat)
 case atStart => exact ⟨0, qH _, rfl, b0, q0, rfl⟩
 case round =>
  clear hck' q0 b0;obtain ⟨k, hk, rfl, hb, q1, hall⟩ := hrel;have HA : Hid _ := hall;clear hall
  by_cases hlt : k < N
  ·obtain ⟨b2, off2, rfl, hc, hr⟩ := (hF.below hb) k (by rw [HN.out]; exact hlt);have H1 : Hid _ := keepsB_step (g := g) (E := E) (ss := ss) (k := k) (by rw [HN.out]; exact hlt) HA.out;have H2 : Hid _ := keepsB_false (g := g) (E := E) (ss := ss) (k := k) (by rw [HN.out]; exact hlt);have H3 := partsB_at (ss := ss) (k := k) (by rw [HN.out]; exact hlt) HP.out;generalize HG : ss[k]?.getD noI = p at *;clear HG hF HA;obtain ⟨ga, gn, gcap, gx⟩ := p;obtain ⟨e3, bx⟩ := okN_elim (by omega) H3;obtain rfl : gn = 3 := by have : (gn : Int) = 3 := e3; omega
   have hP := bndP_of bx bE (by omega) (by omega);have hc' : wr.cell? ⟨b2, off2 + k, none⟩ = some (.slice ga 3 gcap) := hc;have c4 := q1.cell 4;simp only [qC, qD] at c4;have hr1 : Ints wr ga 3 gx := hr.1;clear hc H3 e3;have dn := dot_bnd hP 3
   go_wp2_with fail
   refine (psum_any gx E hr1 (hE.below hb) (by omega) hP).mono ?_;rintro r w1 ⟨rfl, rfl⟩;have H1' : Hid (inB (dot gx E 3) (-g) g = true -> keepsB g E (ss.take (k + 1)) = true) := H1;have H2' : Hid (inB (dot gx E 3) (-g) g = false -> keepsB g E ss = false) := H2;generalize HG : dot gx E 3 = x at *;clear HG H1 H2 hP dn
   go_wp2_with fail
   refine (within_any (some ⟨w1.heap.size, 0, none⟩) 1 1 [x] ?_ (by omega)).mono ?_
   ·refine ⟨rfl, fun i hi => ⟨w1.heap.size, 0, rfl, ?_⟩⟩;obtain rfl : i = 0 := by omega
    simp [go_sem]
   rintro r w2 ⟨rfl, rfl⟩;rw [allB_one]
   cases he : inB x (-g) g
   ·go_wp2
    go_ret
    exact ⟨ret_bool (by rw [H2'.out he]), hb.alloc hb.size _⟩
   go_wp2
   go_roundw
   case rel => exact ⟨k + 1, by omega, by go_num, hb.alloc hb.size _, q1.alloc _, H1'.out he⟩
   case measure => simp [intOf]; omega
  go_wp2
  go_ret
  exact ⟨ret_bool (by rw [keepsB_end (by rw [HN.out]; omega) HA.out]), hb⟩
theorem ikeep_any (a : Option Addr) (n cap : Nat) (c : Option Addr) (m cap' : Nat) (ad : Option Addr) (N pc : Nat) (s : Int) (e : Option Addr) (k ec : Nat) (C D E : List Int) (ss : List IV) (w : World)
  (hC : Ints w a n C) (hD : Ints w c m D) (hE : Ints w e k E) (hN : ss.length = N) (hF : ISG w ad ss) (hn : n <= 1048576) (hm : m <= 1048576) (hk : k <= 1048576) (hN1 : N <= 1048576) :
  Calls Tryz.prog 16 #[treV a n cap c m cap', .slice ad N pc, .int .i64 s, .slice e k ec] w fun r w' => r = .returned (.bool (keepB n m C D ss s k E)) /\ Below w.heap.size w w' := by
 have HN : Hid (ss.length = N) := hN;clear hN;have B0 : Below w.heap.size w ((w.alloc (.cells #[.slice a n cap, .slice c m cap'] 26)).alloc (.cells #[.slice a n cap, .slice c m cap', .slice ad N pc, .int .i64 s, .slice e k ec, .slice none 0 0] 72)) := ((Below.refl w.heap.size w).alloc (qG _) _).alloc (by simp) _;have q0 := Cel.new (w.alloc (.cells #[.slice a n cap, .slice c m cap'] 26)) [.slice a n cap, .slice c m cap', .slice ad N pc, .int .i64 s, .slice e k ec, .slice none 0 0] 72;rw [qA] at q0
 cases h1 : viewB n m C D ss s k E
 ·go_enter Tryz.func16, Tryz.ntmps16
  go_wp2_with fail
  refine (vok_any _ _ _ _ _ _ _ _ _ _ _ _ _ _ _ _ C D E ss (hC.below B0) (hD.below B0) (hE.below B0) HN.out (hF.below B0) hn hm hk hN1).mono ?_;rintro r w1 ⟨rfl, b1⟩;have B1 := btr B0 b1;rw [h1]
  go_wp2
  go_ret
  exact ⟨ret_bool (by simp [keepB, h1]), B1⟩
 obtain ⟨-, -, m1, m2, hp0, s0, s1, e2, bE, bD⟩ := viewB_elim h1;have hp : Hid _ := hp0;clear hp0;subst e2
 go_enter Tryz.func16, Tryz.ntmps16
 go_wp2_with fail
 refine (vok_any _ _ _ _ _ _ _ _ _ _ _ _ _ _ _ _ C D E ss (hC.below B0) (hD.below B0) (hE.below B0) HN.out (hF.below B0) hn hm hk hN1).mono ?_;rintro r w1 ⟨rfl, b1⟩;have B1 := btr B0 b1;obtain ⟨c0, c1, c2, c3, c4, c5⟩ := (q0.below b1).sixK;rw [h1];have HK : Hid _ := h1;clear h1
 go_wp2_with fail
 refine (vkeeps_any _ _ _ _ _ _ _ _ _ _ _ _ _ _ _ C D E ss (hD.below B1) (hE.below B1) HN.out (hF.below B1) hN1 m2 s0 s1 hp.out bE bD).mono ?_;rintro r w2 ⟨rfl, b2⟩;have B2 := btr B1 b2
 go_wp2
 go_ret
 exact ⟨ret_bool (by rw [keepB, HK.out]; rfl), B2⟩
theorem skeep_any (a : Option Addr) (n cap : Nat) (c : Option Addr) (m cap' : Nat) (ad : Option Addr) (N pc : Nat) (s : Int) (e : Option Addr) (k ec : Nat) (C D E : List Int) (ss : List IV) {w : World}
  (hC : Ints w a n C) (hD : Ints w c m D) (hE : Ints w e k E) (hN : ss.length = N) (hF : ISG w ad ss) (hn : n <= 1048576) (hm : m <= 1048576) (hk : k <= 1048576) (hN1 : N <= 1048576) :
  Calls Tryz.prog 57 #[treV a n cap c m cap', .slice ad N pc, .int .i64 s, .slice e k ec] w fun r w' => r = .returned (.bool (keepB n m C D ss s k E)) /\ Below w.heap.size w w' := by
 have HN : Hid (ss.length = N) := hN;clear hN;have b0 := (Below.refl w.heap.size w).alloc (qG _) (.cells #[.slice a n cap, .slice c m cap'] 26);have q0 := Cel.new w [.slice a n cap, .slice c m cap'] 26
 cases h1 : trtB n m C D
 ·go_enter Tryz.func57, Tryz.ntmps57
  go_wp2_with fail
  refine (strt_any C D (hC.below b0) (hD.below b0) hn hm).mono ?_;rintro r w1 ⟨rfl, b1⟩;have B1 := btr b0 b1;rw [h1]
  go_wp2
  go_ret
  exact ⟨ret_bool (by simp [keepB, viewB, h1]), B1⟩
 cases h2 : partsB ss
 ·go_enter Tryz.func57, Tryz.ntmps57
  go_wp2_with fail
  refine (strt_any C D (hC.below b0) (hD.below b0) hn hm).mono ?_;rintro r w1 ⟨rfl, b1⟩;have B1 := btr b0 b1;rw [h1]
  go_wp2_with fail
  refine (sparts_any ss HN.out (hF.below B1) hN1).mono ?_;rintro r w2 ⟨rfl, rfl⟩;rw [h2]
  go_wp2
  go_ret
  exact ⟨ret_bool (by simp [keepB, viewB, h2]), B1⟩
 cases h3 : inB s 0 ((m : Int) - 1)
 ·go_enter Tryz.func57, Tryz.ntmps57
  go_wp2_with fail
  refine (strt_any C D (hC.below b0) (hD.below b0) hn hm).mono ?_;rintro r w1 ⟨rfl, b1⟩;have B1 := btr b0 b1;have c1 := (q0.below b1).cell 1;simp only [qC, qD] at c1;rw [h1]
  go_wp2_with fail
  refine (sparts_any ss HN.out (hF.below B1) hN1).mono ?_;rintro r w2 ⟨rfl, rfl⟩;rw [h2]
  go_wp2_with fail
  refine (in_any).mono ?_;rintro r w3 ⟨rfl, rfl⟩;rw [h3]
  go_wp2
  go_ret
  exact ⟨ret_bool (by simp [keepB, viewB, h3]), B1⟩
 cases h4 : okN 3 20000 k E
 ·go_enter Tryz.func57, Tryz.ntmps57
  go_wp2_with fail
  refine (strt_any C D (hC.below b0) (hD.below b0) hn hm).mono ?_;rintro r w1 ⟨rfl, b1⟩;have B1 := btr b0 b1;have c1 := (q0.below b1).cell 1;simp only [qC, qD] at c1;rw [h1]
  go_wp2_with fail
  refine (sparts_any ss HN.out (hF.below B1) hN1).mono ?_;rintro r w2 ⟨rfl, rfl⟩;rw [h2]
  go_wp2_with fail
  refine (in_any).mono ?_;rintro r w3 ⟨rfl, rfl⟩;rw [h3]
  go_wp2_with fail
  refine (all_any E _ _ (hE.below B1) hk).mono ?_;rintro r w4 ⟨rfl, rfl⟩;rw [h4]
  go_wp2
  go_ret
  exact ⟨ret_bool (by simp [keepB, viewB, h4]), B1⟩
 have hv : viewB n m C D ss s k E = true := by simp [viewB, h1, h2, h3, h4]
 obtain ⟨-, -, m1, m2, hp0, s0, s1, e2, bE, bD⟩ := viewB_elim hv;have HP : Hid _ := hp0;have HV : Hid _ := hv;have H1 : Hid _ := h1;have H2 : Hid _ := h2;have H3 : Hid _ := h3;have H4 : Hid _ := h4;clear hp0 hv h1 h2 h3 h4;subst e2;obtain ⟨t, rfl⟩ : ∃ t : Nat, s = t := ⟨s.toNat, by omega⟩
 have ht : t < m := by omega
 have bg := bD t (by rw [hD.1]; exact ht);obtain ⟨b, off, rfl, hcell⟩ := hD.pos (by omega);have hck := hcell t ht;have hck' : w.cell? ⟨b, off + t, none⟩ = some (.int .i64 (D[t]?.getD 0)) := by rw [hck]; simp
 have hkb : keepB n m C D ss t 3 E = keepsB (D[t]?.getD 0) E ss := by rw [keepB, HV.out]; simp
 rw [hkb];clear hkb;generalize HG : D[t]?.getD 0 = g at *;clear HG hck hcell bD;have ht' : (t : Int) < (m : Int) := by omega
 go_enter Tryz.func57, Tryz.ntmps57
 go_wp2_with fail
 refine (strt_any C D (hC.below b0) (hD.below b0) hn hm).mono ?_;rintro r w1 ⟨rfl, b1⟩;have B1 := btr b0 b1;have q1 := q0.below b1;have c1 := q1.cell 1;simp only [qC, qD] at c1;rw [H1.out]
 go_wp2_with fail
 refine (sparts_any ss HN.out (hF.below B1) hN1).mono ?_;rintro r w2 ⟨rfl, rfl⟩;rw [H2.out]
 go_wp2_with fail
 refine (in_any).mono ?_;rintro r w3 ⟨rfl, rfl⟩;rw [H3.out]
 go_wp2_with fail
 refine (all_any E _ _ (hE.below B1) hk).mono ?_;rintro r w4 ⟨rfl, rfl⟩;rw [H4.out];have dk : w4.cell? ⟨b, off + t, none⟩ = some (.int .i64 g) := by rw [B1.cell (p := ⟨b, off + t, none⟩) (block_lt hck')]; exact hck'
 clear c1 b1 b0 q0 hC hD
 go_wp2_with fail
 go_loopw [9] (fun i wr => ∃ k : Nat, k <= N /\ i = .int .i64 k /\ Below w.heap.size w wr /\ Cel wr w.heap.size [.slice a n cap, .slice (some ⟨b, off, none⟩) m cap'] 26 /\ keepsB g E (ss.take k) = true) (fun i _ => N - (intOf i).toNat)
 case atStart => exact ⟨0, qH _, rfl, B1, q1, rfl⟩
 case round =>
  clear dk B1 q1;obtain ⟨j, hj, rfl, hb, q1, hall⟩ := hrel;have HA : Hid _ := hall;clear hall
  by_cases hlt : j < N
  ·obtain ⟨b2, off2, rfl, hc, hr⟩ := (hF.below hb) j (by rw [HN.out]; exact hlt);have H1 : Hid _ := keepsB_step (g := g) (E := E) (ss := ss) (k := j) (by rw [HN.out]; exact hlt) HA.out;have H2 : Hid _ := keepsB_false (g := g) (E := E) (ss := ss) (k := j) (by rw [HN.out]; exact hlt);have H3 := partsB_at (ss := ss) (k := j) (by rw [HN.out]; exact hlt) HP.out;have dk : wr.cell? ⟨b, off + t, none⟩ = some (.int .i64 g) := by rw [hb.cell (p := ⟨b, off + t, none⟩) (block_lt hck')]; exact hck'
   generalize HG : ss[j]?.getD noI = p at *;clear HG hF HA;obtain ⟨ga, gn, gcap, gx⟩ := p;obtain ⟨e3, bx⟩ := okN_elim (by omega) H3;obtain rfl : gn = 3 := by have : (gn : Int) = 3 := e3; omega
   have hP := bndP_of bx bE (by omega) (by omega);have hr1 : Ints wr ga 3 gx := hr.1;have hE1 := hE.below hb;have hc' : wr.cell? ⟨b2, off2 + j, none⟩ = some (.slice ga 3 gcap) := hc;have H1' : Hid (inB (dot gx E 3) (-g) g = true -> keepsB g E (ss.take (j + 1)) = true) := H1;have H2' : Hid (inB (dot gx E 3) (-g) g = false -> keepsB g E ss = false) := H2;clear hc H3 e3 hr H1 H2 hck' hE;have hlt' : (j : Int) < (N : Int) := by omega
   go_upto_region 6 with fail
   have hn0 : wr.cell? ⟨w.heap.size, 1, none⟩ = some (.slice (some ⟨b, off, none⟩) m cap') /\ wr.cell? ⟨b, off + t, none⟩ = some (.int .i64 g) /\ wr.cell? ⟨b2, off2 + j, none⟩ = some (.slice ga 3 gcap) := ⟨q1.cell 1, dk, hc'⟩
   go_region_held3 (fun w' => w'.cell? ⟨w.heap.size, 1, none⟩ = some (.slice (some ⟨b, off, none⟩) m cap') /\ w'.cell? ⟨b, off + t, none⟩ = some (.int .i64 g) /\ w'.cell? ⟨b2, off2 + j, none⟩ = some (.slice ga 3 gcap)) (first | with_reducible assumption | exact hn0)
    (first
     | (go_at_call 103
        refine (times5_any gx E (by exact hr1.below (Below.refl _ _).drew) (by exact hE1.below (Below.refl _ _).drew) hP (by omega) (by omega)).mono ?_;rintro ee w3 ⟨rfl, b3⟩;have b3' := below_of_drew b3;have q3 := q1.below b3';have d3 := (b3'.cell (p := ⟨b, off + t, none⟩) (block_lt dk)).trans dk;have e3 := (b3'.cell (p := ⟨b2, off2 + j, none⟩) (block_lt hc')).trans hc'
        have hn3 : w3.cell? ⟨w.heap.size, 1, none⟩ = some (.slice (some ⟨b, off, none⟩) m cap') /\ w3.cell? ⟨b, off + t, none⟩ = some (.int .i64 g) /\ w3.cell? ⟨b2, off2 + j, none⟩ = some (.slice ga 3 gcap) := ⟨q3.cell 1, d3, e3⟩)
     | (go_at_call 55
        refine (in_any).mono ?_
        rintro ee w4 ⟨rfl, rfl⟩))
   have hb2 := btr hb b3';have hw : IntKind.i64.wrap (-g) = -g := wrap_id (by omega) (by omega);rw [hw]
   cases he : inB (dot gx E 3) (-g) g
   ·go_wp2
    go_ret
    exact ⟨ret_bool (by rw [H2'.out he]), hb2⟩
   go_wp2
   go_roundw
   case rel => exact ⟨j + 1, by omega, by go_num, hb2, q3, H1'.out he⟩
   case measure => simp [intOf]; omega
  go_wp2
  go_ret
  exact ⟨ret_bool (by rw [keepsB_end (by rw [HN.out]; omega) HA.out]), hb⟩
theorem copies_pair (hl : ts.length = ss.length) (h : copiesIS ss ts) : ts.map (fun p => (p.n, p.x)) = ss.map (fun p => (p.n, p.x)) := by
 apply List.ext_getElem?
 intro i
 by_cases hi : i < ts.length
 ·have h0 := h i hi;have h1 := h0.1;have h2 := h0.2;rw [qB hi, qB (by omega)] at h1 h2;simp only [Option.getD_some] at h1 h2;rw [List.getElem?_map, List.getElem?_map, qB hi, qB (by omega)];simp [h1, h2]
 rw [List.getElem?_eq_none (by simp; omega), List.getElem?_eq_none (by simp; omega)]
theorem partsB_copy (hl : ts.length = ss.length) (h : copiesIS ss ts) : partsB ts = partsB ss := by
 have e : ∀ l : List IV, partsB l = (l.map (fun p => (p.n, p.x))).all fun q => okN 3 10000000 q.1 q.2 := fun l => by rw [List.all_map]; rfl
 rw [e, e, copies_pair hl h]
theorem keepsB_copy (hl : ts.length = ss.length) (h : copiesIS ss ts) : keepsB g E ts = keepsB g E ss := by
 have e : ∀ l : List IV, keepsB g E l = (l.map (fun p => (p.n, p.x))).all fun q => inB (dot q.2 E 3) (-g) g := fun l => by rw [List.all_map]; rfl
 rw [e, e, copies_pair hl h]
theorem viewB_copy (hl : ts.length = ss.length) (h : copiesIS ss ts) : viewB n m C D ts s k E = viewB n m C D ss s k E := by
 rw [viewB, viewB, partsB_copy hl h]
theorem keepB_copy (hl : ts.length = ss.length) (h : copiesIS ss ts) : keepB n m C D ts s k E = keepB n m C D ss s k E := by
 rw [keepB, keepB, viewB_copy hl h, keepsB_copy hl h]
theorem Cel.two (h : Cel w B [v0, v1] t) : w.cell? ⟨B, 0, none⟩ = some v0 /\ w.cell? ⟨B, 1, none⟩ = some v1 := ⟨h.cell 0, h.cell 1⟩
theorem Cel.three {v2 : Value} (h : Cel w B [v0, v1, v2] t) : w.cell? ⟨B, 0, none⟩ = some v0 /\ w.cell? ⟨B, 1, none⟩ = some v1 /\ w.cell? ⟨B, 2, none⟩ = some v2 := ⟨h.cell 0, h.cell 1, h.cell 2⟩
theorem zip_take {xs ys : List Int} (hx : k < xs.length) (hy : k < ys.length) : (List.zipWith (· + ·) xs ys).take (k + 1) = (List.zipWith (· + ·) xs ys).take k ++ [xs[k]?.getD 0 + ys[k]?.getD 0] := by
 have hl : k < (List.zipWith (· + ·) xs ys).length := by rw [List.length_zipWith]; omega
 rw [qF hl, List.getElem_zipWith, qB hx, qB hy]
 rfl
theorem sum5_any (xs ys : List Int) {w : World} (h : Ints w a 3 xs) (h' : Ints w c 3 ys) (hM : bnd 1000000000 xs) (hM' : bnd 1000000000 ys) :
  Calls Tryz.prog 130 #[.slice a 3 cap, .slice c 3 cap'] w fun e w' => ∃ v, e = .returned v /\ JA w v (List.zipWith (· + ·) xs ys) w' := by
 have HX : Hid (xs.length = 3) := h.1;have HY : Hid (ys.length = 3) := h'.1;obtain ⟨i0, hi, hz0, hz1, hz2⟩ := info_parts Tryz.infoInt
 go_enter Tryz.func130, Tryz.ntmps130
 go_wp2_with fail
 go_loopw [5, 6] (fun v i wr => ∃ k : Nat, k <= 3 /\ i = .int .i64 k /\ ∃ zs : List Int, zs.length = k /\ zs = (List.zipWith (· + ·) xs ys).take k /\ JA w v zs wr) (fun _ i _ => 3 - (intOf i).toNat)
 case atStart => exact ⟨0, by omega, rfl, [], rfl, rfl, JA.lit w⟩
 case round =>
  obtain ⟨k, hk, rfl, zs, hzl, hzs, j⟩ := hrel;have HL : Hid (zs.length = k) := hzl;have HZS : Hid (zs = (List.zipWith (· + ·) xs ys).take k) := hzs;clear hzl hzs
  by_cases hlt : k < 3
  ·obtain ⟨b, off, rfl, hcell⟩ := h.pos (by omega);obtain ⟨b', off', rfl, hcell'⟩ := h'.pos (by omega);have c0 : w.cell? ⟨b, off + k, none⟩ = some (.int .i64 (xs[k]?.getD 0)) := by rw [hcell k hlt]; simp
   have c1 : w.cell? ⟨b', off' + k, none⟩ = some (.int .i64 (ys[k]?.getD 0)) := by rw [hcell' k hlt]; simp
   have HP : Hid _ := zip_take (xs := xs) (ys := ys) (k := k) (by rw [HX.out]; exact hlt) (by rw [HY.out]; exact hlt);obtain ⟨m1, m2⟩ := hM k;obtain ⟨m3, m4⟩ := hM' k;generalize HG : xs[k]?.getD 0 = x at *;generalize HG' : ys[k]?.getD 0 = y at *;clear HG HG' hcell hcell' hM hM' h h'
   have KP : Hid (∀ W : World, Below w.heap.size w W -> W.cell? ⟨b, off + k, none⟩ = some (.int .i64 x) /\ W.cell? ⟨b', off' + k, none⟩ = some (.int .i64 y)) := fun W hW =>
    ⟨by rw [hW.cell (p := ⟨b, off + k, none⟩) (block_lt c0)]; exact c0, by rw [hW.cell (p := ⟨b', off' + k, none⟩) (block_lt c1)]; exact c1⟩
   have hSS := And.intro (KP.out _ j.b.drew) (True.intro);clear c0 c1;have hlt' : (k : Int) < 3 := by omega
   have hwr : IntKind.i64.wrap (x + y) = x + y := wrap_id (by omega) (by omega)
   go_upto_region 5 with fail
   refine wp_region_ends (fun w' => w'.cell? ⟨b, off + k, none⟩ = some (.int .i64 x) /\ w'.cell? ⟨b', off' + k, none⟩ = some (.int .i64 y)) (fun _ => True) 12 (by kernel_rfl) ?_;refine tkl 0 rfl hSS ?_;refine tkl 1 rfl hSS ?_;refine tkl 2 rfl hSS ?_;refine tkl 3 rfl hSS ?_;refine tkl 4 rfl hSS ?_;refine tkl 5 rfl hSS ?_;refine tkl 6 rfl hSS ?_;refine tkl 7 rfl hSS ?_;refine tkl 8 rfl hSS ?_;refine tkl 9 rfl hSS ?_;refine wo1 10 rfl fun K hK => ?_;go_simp;have j1 := j.below (W' := wr.drew) ((Below.refl _ _).drew);have jo := j1.o;rw [HL.out] at jo;have j2 := j1.alloc (.cells #[.int .i64 (x + y)] 3);have hjb := j1.b.size;refine kk0 hK (KP.out _ j2.b) ?_;clear hK K hSS;refine wo1 11 rfl fun K hK => ?_;rw [if_pos (by rfl)];refine wp_append_lies _ (.tmp 12) (.tmp 22) 24 rfl w.heap.size 3 i0 (.int .i64 0) 1 8 Tryz.underlying24 hi hz0 hz1 hz2 rfl (by decide) _ k _ (by rfl) (jo.alloc _) ⟨wr.heap.size, 0, none⟩ 1 1 [.int .i64 (x + y)] (by rfl) (by rfl) (news1 wr.drew) (one1) (by omega) (by unfold maxLen; omega) (by omega) j2.b.size _ rfl ?_;intro g cp2 w6 hown hgrow hat hlt6;have j6 := j1.app HL.out hown hgrow;refine kk0 hK (KP.out _ j6.b) ?_;clear hK K hown hgrow hat j1 j2 jo j;refine wo1 12 rfl fun K hK => ?_;go_simp;refine kk0 hK (KP.out _ j6.b) ?_;refine wod ?_ _
   go_wp2
   go_roundw
   case rel => exact ⟨k + 1, by omega, by go_num, _, by rw [List.length_append, HL.out]; rfl, by rw [HP.out, HZS.out], j6⟩
   case measure => simp [intOf]; omega
  obtain rfl : k = 3 := by omega
  have e : zs = List.zipWith (· + ·) xs ys := by rw [HZS.out, qE (by rw [List.length_zipWith, HX.out, HY.out]; omega)]
  subst e
  go_wp2
  go_ret
  exact ⟨_, rfl, j⟩
theorem sums_any (xs ys : List Int) (M M' : Int) {w : World} (h : Ints w a 3 xs) (h' : Ints w c 3 ys) (hM : bnd M xs) (hM' : bnd M' ys) (hb : M <= 2000000000000000000 := by omega) (hb' : M' <= 2000000000000000000 := by omega) :
  Calls Tryz.prog 91 #[.slice a 3 cap, .slice c 3 cap'] w fun e w' => ∃ a' cap2 B, e = .returned (.slice a' 3 cap2) /\ Below w.heap.size w w' /\ OwnX w' a' B 3 (List.zipWith (· + ·) xs ys) /\ w.heap.size <= B := by
 have HX : Hid (xs.length = 3) := h.1
 go_enter Tryz.func91, Tryz.ntmps91
 go_wp2_with fail
 refine (clone_any _ _ xs h).mono ?_;rintro e w1 ⟨v, rfl, j⟩;have hc1 := h'.below j.b;have B1 := j.b;obtain ⟨x, cx, B, rfl, hO, hB0⟩ := j.ownx HX.out;have hB := hB0 (by omega);clear j hB0
 go_wp2_with fail
 refine (addX_any B xs ys M M' hO hc1 (fun b o e => by
  obtain ⟨b1, o1, e1, hcell⟩ := h'.pos (by omega);rw [e1] at e;simp only [Option.some.injEq, Addr.mk.injEq, and_true] at e;have := block_lt (hcell 0 (by omega))
  omega) (by omega) hM hM' hb hb').mono ?_
 rintro e w2 ⟨rfl, t2, hO2⟩;have B2 : Below w.heap.size w w2 := B1.trans (t2.below B1.size (fun k hk => by rw [hk.1]; exact hB))
 go_wp2
 go_ret
 exact ⟨_, _, B, rfl, B2, hO2, hB⟩
theorem others_bnd {D : List Int} {s : Int} (bD : ∀ i : Nat, i < D.length -> 0 <= D[i]?.getD 0 /\ D[i]?.getD 0 <= 50) : ∀ k : Nat, k <= D.length -> k <= 3 -> 0 <= others D s k /\ others D s k <= 50 * k
 | 0, _, _ => by simp [others]
 | k + 1, hk, h3 => by
  have ih := others_bnd (s := s) bD k (by omega) (by omega);have d := bD k (by omega);rw [others]
  split
  ·omega
  rw [IntWalk.wrap64_in _ ⟨by omega, by omega⟩]
  omega
theorem zero_part {C : List Int} (hl : C.length = 3) (b : bnd 10000000 C) : eqB (partL C) [0, 0, 0] = allB 0 C := by
 match C, hl with
 | [x, y, z], _ =>
  have b0 := b 0;have b1 := b 1;have b2 := b 2;simp only [qC, qD, Option.getD_some] at b0 b1 b2;have hs : sg [x, y, z] = 1 \/ sg [x, y, z] = -1 := by unfold sg; split <;> simp
  have e : partL [x, y, z] = [wrap64 (sg [x, y, z] * x), wrap64 (sg [x, y, z] * y), wrap64 (sg [x, y, z] * z)] := rfl;rw [e];generalize sg [x, y, z] = g at *;rw [eqB, allB, Bool.eq_iff_iff, decide_eq_true_eq];simp only [List.cons.injEq, and_true, List.all_cons, List.all_nil, Bool.and_true, Bool.and_eq_true, inB_iff]
  rcases hs with rfl | rfl
  ·rw [IntWalk.wrap64_in _ ⟨by omega, by omega⟩, IntWalk.wrap64_in _ ⟨by omega, by omega⟩, IntWalk.wrap64_in _ ⟨by omega, by omega⟩]
   omega
  rw [IntWalk.wrap64_in _ ⟨by omega, by omega⟩, IntWalk.wrap64_in _ ⟨by omega, by omega⟩, IntWalk.wrap64_in _ ⟨by omega, by omega⟩]
  omega
def bokB (n m : Nat) (C D : List Int) (ss : List IV) (s : Int) (k : Nat) (E : List Int) (fn fm : Nat) (FC FD : List Int) (FK : Int) (l : Nat) (U : List Int) : Bool := viewB n m C D ss s k E && (formB fn fm FC FD FK && okN 2 9 l U)
def bnds (m : Nat) (C D : List Int) (ss : List IV) (s : Int) (E : List Int) (FC FD : List Int) (FK : Int) (U : List Int) : Int × Int × Bool :=
 if eqB (partL FC) [0, 0, 0] = true then (atV FC FD FK (List.zipWith (· + ·) C E) U, atV FC FD FK (List.zipWith (· + ·) C E) U, true)
 else if hasI ss (partL FC) < 0 then (0, 0, false)
 else (atV FC FD FK (List.zipWith (· + ·) C E) U - others D s m, atV FC FD FK (List.zipWith (· + ·) C E) U + others D s m, true)
def bansB (n m : Nat) (C D : List Int) (ss : List IV) (s : Int) (k : Nat) (E : List Int) (fn fm : Nat) (FC FD : List Int) (FK : Int) (l : Nat) (U : List Int) : Int × Int × Bool :=
 if bokB n m C D ss s k E fn fm FC FD FK l U = true then bnds m C D ss s E FC FD FK U else (0, 0, false)
def ansV (x : Int × Int × Bool) : Value := .tuple #[.int .i64 x.1, .int .i64 x.2.1, .bool x.2.2]
theorem hasI_copy {ss ts : List IV} {part : List Int} (hl : ts.length = ss.length) (h : copiesIS ss ts) : hasI ts part = hasI ss part := by
 have e : ∀ l : List IV, l.map IV.x = (l.map (fun p => (p.n, p.x))).map (fun q => q.2) := fun l => by rw [List.map_map]; rfl
 rw [hasI, hasI, e, e, copies_pair hl h]
theorem JA.slice3 {w W : World} {v : Value} {xs : List Int} (j : JA w v xs W) (hn : xs.length = 3) : ∃ a cap, v = .slice a 3 cap /\ Ints W a 3 xs := by
 obtain ⟨a, cap, B, rfl, ho, _⟩ := j.ownx hn
 exact ⟨a, cap, rfl, ho.ints⟩
theorem vbounds_any (a : Option Addr) (cap : Nat) (c : Option Addr) (m cap' : Nat) (ad : Option Addr) (N pc : Nat) (s : Int) (e : Option Addr) (ec : Nat) (u : Option Addr) (uc : Nat) (fa : Option Addr) (fcap : Nat) (fc : Option Addr) (fcap' : Nat) (FK : Int) (C D E U FC FD : List Int) (ss : List IV) (w : World)
  (hC : Ints w a 3 C) (hD : Ints w c m D) (hE : Ints w e 3 E) (hU : Ints w u 2 U) (hA : Ints w fa 3 FC) (hB : Ints w fc 2 FD) (hN : ss.length = N) (hF : ISG w ad ss) (hN1 : N <= 1048576) (hm3 : m <= 3)
  (bC : bnd 10000 C) (bE : bnd 20000 E) (bU : bnd 9 U) (bA : bnd 10000000 FC) (bB : bnd 10000000 FD) (bK : -10000000 <= FK /\ FK <= 10000000) (bD : ∀ i : Nat, i < D.length -> 0 <= D[i]?.getD 0 /\ D[i]?.getD 0 <= 50) :
  Calls Tryz.prog 89 #[viewV a 3 cap c m cap' ad N pc s e 3 ec u 2 uc, formV fa 3 fcap fc 2 fcap' FK] w fun r w' => ∃ x, x = bnds m C D ss s E FC FD FK U /\ r = .returned (.agg #[.int .i64 x.1, .int .i64 x.2.1, .bool x.2.2]) /\ Below w.heap.size w w' := by
 have HN : Hid (ss.length = N) := hN;have HZ : Hid ((List.zipWith (· + ·) C E).length = 3) := by show _ = _; rw [List.length_zipWith, hC.1, hE.1]; rfl
 have bV : bnd 30000 (List.zipWith (· + ·) C E) := fun i => by have := bnd_zip (by rw [hC.1, hE.1]) bC bE i; omega
 have ob := others_bnd (s := s) bD m (by rw [hD.1]; exact qG _) hm3;have p1 := dot_bnd (bndP_of bA bV (by omega) (by omega)) 3;have p2 := dot_bnd (bndP_of bB bU (by omega) (by omega)) 2;have HP : Hid (eqB (partL FC) [0, 0, 0] = allB 0 FC) := zero_part hA.1 bA;obtain ⟨x, hx⟩ : ∃ x, x = bnds m C D ss s E FC FD FK U := ⟨_, rfl⟩
 have HX : Hid _ := hx;have HV : Hid (bnd 30000 (List.zipWith (· + ·) C E)) := bV;obtain ⟨n, hn⟩ : ∃ n, n = atV FC FD FK (List.zipWith (· + ·) C E) U := ⟨_, rfl⟩
 obtain ⟨o, ho⟩ : ∃ o, o = others D s m := ⟨_, rfl⟩
 have n1 : -10000000000000 <= n := by rw [hn]; unfold atV; omega
 have n2 : n <= 10000000000000 := by rw [hn]; unfold atV; omega
 rw [<- ho] at ob;rw [bnds, <- hn, <- ho] at hx;have HI : Hid _ := hx;have HNN : Hid _ := hn;have HO : Hid _ := ho;obtain ⟨o1, o2⟩ := ob;have o3 : o <= 150 := by omega
 have BCE : Hid (bnd 10000 C /\ bnd 20000 E) := ⟨bC, bE⟩
 clear hN hx hn ho o2 p1 p2 bV bD bC bE;have q_0 := ((Cel.new w [.slice a 3 cap, .slice c m cap', .slice ad N pc, .int .i64 s, .slice e 3 ec, .slice u 2 uc] 72).alloc (.cells #[.slice fa 3 fcap, .slice fc 2 fcap', .int .i64 FK] 86)).alloc (.cells #[.int .i64 0, .int .i64 0, .bool false] 123);have f_0 := (Cel.new (w.alloc (.cells #[.slice a 3 cap, .slice c m cap', .slice ad N pc, .int .i64 s, .slice e 3 ec, .slice u 2 uc] 72)) [.slice fa 3 fcap, .slice fc 2 fcap', .int .i64 FK] 86).alloc (.cells #[.int .i64 0, .int .i64 0, .bool false] 123);have r_0 := Cel.new ((w.alloc (.cells #[.slice a 3 cap, .slice c m cap', .slice ad N pc, .int .i64 s, .slice e 3 ec, .slice u 2 uc] 72)).alloc (.cells #[.slice fa 3 fcap, .slice fc 2 fcap', .int .i64 FK] 86)) [.int .i64 0, .int .i64 0, .bool false] 123;have B_0 := (((Below.refl w.heap.size w).alloc (qG _) (.cells #[.slice a 3 cap, .slice c m cap', .slice ad N pc, .int .i64 s, .slice e 3 ec, .slice u 2 uc] 72)).alloc (by simp) (.cells #[.slice fa 3 fcap, .slice fc 2 fcap', .int .i64 FK] 86)).alloc (by simp; omega) (.cells #[.int .i64 0, .int .i64 0, .bool false] 123);rw [qA] at f_0;rw [qA, qA] at r_0
 go_enter Tryz.func89, Tryz.ntmps89
 go_upto_region 1 with fail
 obtain ⟨W, hW⟩ : ∃ W, W = ((w.alloc (.cells #[.slice a 3 cap, .slice c m cap', .slice ad N pc, .int .i64 s, .slice e 3 ec, .slice u 2 uc] 72)).alloc (.cells #[.slice fa 3 fcap, .slice fc 2 fcap', .int .i64 FK] 86)).alloc (.cells #[.int .i64 0, .int .i64 0, .bool false] 123) := ⟨_, rfl⟩
 rw [<- hW] at q_0 f_0 r_0 B_0 ⊢;clear hW;have CC : Hid (∀ X : World, Cel X w.heap.size [.slice a 3 cap, .slice c m cap', .slice ad N pc, .int .i64 s, .slice e 3 ec, .slice u 2 uc] 72 -> Cel X (w.heap.size + 1) [.slice fa 3 fcap, .slice fc 2 fcap', .int .i64 FK] 86 -> X.cell? ⟨w.heap.size, 0, none⟩ = some (.slice a 3 cap) /\ X.cell? ⟨w.heap.size, 1, none⟩ = some (.slice c m cap') /\ X.cell? ⟨w.heap.size, 2, none⟩ = some (.slice ad N pc) /\ X.cell? ⟨w.heap.size, 3, none⟩ = some (.int .i64 s) /\ X.cell? ⟨w.heap.size, 4, none⟩ = some (.slice e 3 ec) /\ X.cell? ⟨w.heap.size, 5, none⟩ = some (.slice u 2 uc) /\ X.cell? ⟨w.heap.size + 1, 0, none⟩ = some (.slice fa 3 fcap) /\ X.cell? ⟨w.heap.size + 1, 1, none⟩ = some (.slice fc 2 fcap') /\ X.cell? ⟨w.heap.size + 1, 2, none⟩ = some (.int .i64 FK)) := fun X h1 h2 => ⟨h1.cell 0, h1.cell 1, h1.cell 2, h1.cell 3, h1.cell 4, h1.cell 5, h2.cell 0, h2.cell 1, h2.cell 2⟩
 have hn0 := CC.out W q_0 f_0
 go_region_held3 (fun w' => w'.cell? ⟨w.heap.size, 0, none⟩ = some (.slice a 3 cap) /\ w'.cell? ⟨w.heap.size, 1, none⟩ = some (.slice c m cap') /\ w'.cell? ⟨w.heap.size, 2, none⟩ = some (.slice ad N pc) /\ w'.cell? ⟨w.heap.size, 3, none⟩ = some (.int .i64 s) /\ w'.cell? ⟨w.heap.size, 4, none⟩ = some (.slice e 3 ec) /\ w'.cell? ⟨w.heap.size, 5, none⟩ = some (.slice u 2 uc) /\ w'.cell? ⟨w.heap.size + 1, 0, none⟩ = some (.slice fa 3 fcap) /\ w'.cell? ⟨w.heap.size + 1, 1, none⟩ = some (.slice fc 2 fcap') /\ w'.cell? ⟨w.heap.size + 1, 2, none⟩ = some (.int .i64 FK)) (first | with_reducible assumption | exact hn0)
  (first
   | (go_at_call 91
      refine (sums_any C E _ _ (by exact hC.below B_0.drew) (by exact hE.below B_0.drew) BCE.out.1 BCE.out.2).mono ?_;rintro ee w1 ⟨va, vc, VB, rfl, bd_1, hO, -⟩;have b_1 := below_of_drew bd_1;have B_1 := btr B_0 b_1;have q_1 := q_0.below b_1;have f_1 := f_0.below b_1;have r_1 := r_0.below b_1
      have hn1 := CC.out w1 q_1 f_1)
   | (go_at_call 123
      refine (iat30_any _ _ _ _ _ FC FD _ _ _ _ (List.zipWith (· + ·) C E) U _ (by exact hA.below B_1) (by exact hB.below B_1) hO.ints (by exact hU.below B_1) bA bB bK HV.out bU).mono ?_;rintro ee w2 ⟨rfl, b_2⟩;rw [<- HNN.out];have B_2 := btr B_1 b_2;have q_2 := q_1.below b_2;have f_2 := f_1.below b_2;have r_2 := r_1.below b_2
      have hn2 := CC.out w2 q_2 f_2))
 clear hn0 hn1 hO bd_1 b_1 b_2 B_0 B_1 q_0 q_1 f_0 f_1 r_0 r_1;obtain ⟨k0, k1, k2, k3, k4, k5, k6, k7, k8⟩ := hn2
 cases hz : allB 0 FC
 ·go_wp2_with fail
  refine (within_any _ _ _ FC (hA.below B_2) (by omega)).mono ?_;rintro ee w3 ⟨rfl, rfl⟩;rw [hz]
  go_upto_region 4 with fail
  have hn3 := CC.out _ q_2 f_2
  go_region_held3 (fun w' => w'.cell? ⟨w.heap.size, 0, none⟩ = some (.slice a 3 cap) /\ w'.cell? ⟨w.heap.size, 1, none⟩ = some (.slice c m cap') /\ w'.cell? ⟨w.heap.size, 2, none⟩ = some (.slice ad N pc) /\ w'.cell? ⟨w.heap.size, 3, none⟩ = some (.int .i64 s) /\ w'.cell? ⟨w.heap.size, 4, none⟩ = some (.slice e 3 ec) /\ w'.cell? ⟨w.heap.size, 5, none⟩ = some (.slice u 2 uc) /\ w'.cell? ⟨w.heap.size + 1, 0, none⟩ = some (.slice fa 3 fcap) /\ w'.cell? ⟨w.heap.size + 1, 1, none⟩ = some (.slice fc 2 fcap') /\ w'.cell? ⟨w.heap.size + 1, 2, none⟩ = some (.int .i64 FK)) (first | with_reducible assumption | exact hn3)
   (first
    | (go_at_call 108
       refine (ipart_any _ _ FC (by exact hA.below B_2.drew)).mono ?_;rintro ee w4 ⟨rfl, bd_4, kp⟩;have b_4 := below_of_drew bd_4;have B_4 := btr B_2 b_4;have q_4 := q_2.below b_4;have f_4 := f_2.below b_4;have r_4 := r_2.below b_4
       have hn4 := CC.out w4 q_4 f_4)
    | (go_at_call 124
       refine (ihas_any ss (partL FC) HN.out (by exact hF.below B_4) hN1 (by exact kp.ints' (by rw [part_len]; exact hA.1)) (by omega)).mono ?_;rintro ee w5 ⟨rfl, b_5⟩;have B_5 := btr B_4 b_5;have q_5 := q_4.below b_5;have f_5 := f_4.below b_5;have r_5 := r_4.below b_5
       have hn5 := CC.out w5 q_5 f_5))
  clear hn3 hn4 bd_4 b_4 b_5 B_2 B_4 q_2 q_4 f_2 f_4 r_2 r_4 kp k0 k1 k2 k3 k4 k5 k6 k7 k8;obtain ⟨k0, k1, k2, k3, k4, k5, k6, k7, k8⟩ := hn5;have d0 := r_5.cell 0;have d1 := r_5.cell 1;have d2 := r_5.cell 2;have e0 := r_5.free 0;have e1 := r_5.free 1;have e2 := r_5.free 2;have lt := r_5.lt;simp only [qC, qD] at d0 d1 d2
  by_cases hh : hasI ss (partL FC) < 0
  ·have X : x = (0, 0, false) := by rw [HI.out, HP.out, hz, if_neg (by decide), if_pos hh]
   have HX2 : Hid _ := X;clear X
   go_wp2
   refine bodyPost_ret (v := .agg #[.int .i64 0, .int .i64 0, .bool false]) (by simp [results, Tryz.results89, go_sem, d0, d1, d2]) rfl ⟨x, HX.out, by rw [HX2.out], ?_⟩
   exact (((B_5.setCell (by simp only []; omega) _).setCell (by simp only []; omega) _).setCell (by simp only []; omega) _)
  have X : x = (n - o, n + o, true) := by rw [HI.out, HP.out, hz, if_neg (by decide), if_neg hh]
  have HX2 : Hid _ := X;clear X
  go_wp2_with fail
  refine (iothers_any D s (hD.below B_5) (by omega)).mono ?_;rintro ee w6 ⟨rfl, b_6⟩;rw [<- HO.out];have B_6 := btr B_5 b_6;have r_6 := r_5.below b_6;clear d0 d1 d2 e0 e1 e2 lt;have d0 := r_6.cell 0;have d1 := r_6.cell 1;have d2 := r_6.cell 2;have e0 := r_6.free 0;have e1 := r_6.free 1;have e2 := r_6.free 2;have lt := r_6.lt;simp only [qC, qD] at d0 d1 d2
  go_wp2
  refine bodyPost_ret (v := .agg #[.int .i64 (n - o), .int .i64 (n + o), .bool true]) (by simp [results, Tryz.results89, go_sem, d0, d1, d2]) rfl ⟨x, HX.out, by rw [HX2.out], ?_⟩
  exact (((B_6.setCell (by simp only []; omega) _).setCell (by simp only []; omega) _).setCell (by simp only []; omega) _)
 have X : x = (n, n, true) := by rw [HI.out, HP.out, hz, if_pos rfl]
 have HX2 : Hid _ := X;clear X
 go_wp2_with fail
 refine (within_any _ _ _ FC (hA.below B_2) (by omega)).mono ?_;rintro ee w3 ⟨rfl, rfl⟩;rw [hz];have d0 := r_2.cell 0;have d1 := r_2.cell 1;have d2 := r_2.cell 2;have e0 := r_2.free 0;have e1 := r_2.free 1;have e2 := r_2.free 2;have lt := r_2.lt;simp only [qC, qD] at d0 d1 d2
 go_wp2
 refine bodyPost_ret (v := .agg #[.int .i64 n, .int .i64 n, .bool true]) (by simp [results, Tryz.results89, go_sem, d0, d1, d2]) rfl ⟨x, HX.out, by rw [HX2.out], ?_⟩
 exact (((B_2.setCell (by simp only []; omega) _).setCell (by simp only []; omega) _).setCell (by simp only []; omega) _)
end Go.Proofs.YtemcinobgdphnaaGreat
