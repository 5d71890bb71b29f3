/-
  Lemmas that the claim's last text rests on.
-/
import Derived.Test.YtfmpcihghlnlnaaGreatDoorQE
namespace Go.Proofs.YtfmpcihghlnlnaaGreatDoor
open Go.RowKit Go.Deep
open List renaming getElem?_eq_getElem → qA
open Nat renaming le_refl → qB, zero_le → qC
set_option linter.unusedVariables false
set_option maxRecDepth 100000
set_option maxHeartbeats 25600000
variable {E : List Int} {N cap cap' k m n : Nat} {a ad c : Option Addr} {g : Int} {ss : List IV}
def trtB (n m : Nat) (C D : List Int) : Bool := okN 3 10000 n C && (inB m 1 3 && betB 0 50 D)
theorem strt_any (C D : List Int) {w : World} (hC : Ints w a n C) (hD : Ints w c m D) (hn : n <= 1048576) (hm : m <= 1048576) :
  Calls Tryz.prog 57 #[treV a n cap c m cap'] w fun e w' => e = .returned (.bool (trtB n m C D)) /\ Below w.heap.size w w' := by
 have HD : Hid (D.length = m) := hD.1
 cases h1 : okN 3 10000 n C
 ·go_enter Tryz.func57, Tryz.ntmps57
  go_wp2_with fail
  refine (sval_any C (hC.alloc _) hn).mono ?_;rintro e w1 ⟨rfl, rfl⟩
  go_wp2
  go_ret
  exact ⟨ret_bool (by simp [trtB, h1]), bal⟩
 cases h2 : inB m 1 3
 ·go_enter Tryz.func57, Tryz.ntmps57
  go_wp2_with fail
  refine (sval_any C (hC.alloc _) hn).mono ?_;rintro e w1 ⟨rfl, rfl⟩
  go_wp2_with fail
  refine (in_any).mono ?_;rintro e w1 ⟨rfl, rfl⟩
  go_wp2
  go_ret
  exact ⟨ret_bool (by simp [trtB, h2]), bal⟩
 go_enter Tryz.func57, Tryz.ntmps57
 go_wp2_with fail
 refine (sval_any C (hC.alloc _) hn).mono ?_;rintro e w1 ⟨rfl, rfl⟩
 go_wp2_with fail
 refine (in_any).mono ?_;rintro e w1 ⟨rfl, rfl⟩
 go_wp2_with fail
 go_loop [3] (fun i => ∃ k : Nat, k <= m /\ i = .int .i64 k /\ betB 0 50 (D.take k) = true) (fun i => m - (intOf i).toNat)
 case atStart => exact ⟨0, qC _, rfl, rfl⟩
 case round =>
  obtain ⟨k, hk, rfl, hall⟩ := hrel;have HA : Hid (betB 0 50 (D.take k) = true) := hall;clear hall
  by_cases hlt : k < m
  ·obtain ⟨b, off, rfl, hcell⟩ := (hD.alloc (.cells #[.slice a n cap, .slice c m cap'] 59 (0, 0))).pos (by omega);have hck := hcell k hlt;clear hcell hC hD
   cases hin : inB (D[k]?.getD 0) 0 50
   ·go_wp2_with fail
    refine (in_any).mono ?_;rintro e w1 ⟨rfl, rfl⟩
    go_wp2
    go_ret
    exact ⟨ret_bool (by rw [trtB, betB_false (by rw [HD.out]; exact hlt) hin]; simp), bal⟩
   go_wp2_with fail
   refine (in_any).mono ?_;rintro e w1 ⟨rfl, rfl⟩
   go_wp2
   go_round
   case rel => exact ⟨k + 1, by omega, by go_num, betB_step (by rw [HD.out]; exact hlt) HA.out hin⟩
   case measure => simp [intOf]; omega
  go_wp2
  go_ret
  exact ⟨ret_bool (by rw [trtB, h1, h2, betB_end (by rw [HD.out]; omega) HA.out]; rfl), bal⟩
theorem itrt_any (C D : List Int) {w : World} (hC : Ints w a n C) (hD : Ints w c m D) (hn : n <= 1048576) (hm : m <= 1048576) :
  Calls Tryz.prog 77 #[treV a n cap c m cap'] w fun e w' => e = .returned (.bool (trtB n m C D)) /\ Below w.heap.size w w' := by
 cases h1 : okN 3 10000 n C
 ·go_enter Tryz.func77, Tryz.ntmps77
  go_wp2_with fail
  refine (ival_any C (hC.alloc _) hn).mono ?_;rintro e w1 ⟨rfl, rfl⟩
  go_wp2
  go_ret
  exact ⟨ret_bool (by simp [trtB, h1]), bal⟩
 by_cases h2 : 1 <= m
 ·by_cases h3 : m <= 3
  ·have h4 : inB m 1 3 = true := inB_iff.2 ⟨by omega, by omega⟩;have H4 : Hid _ := h4;clear h4
   go_enter Tryz.func77, Tryz.ntmps77
   go_wp2_with fail
   refine (ival_any C (hC.alloc _) hn).mono ?_;rintro e w1 ⟨rfl, rfl⟩
   go_wp2_with fail
   refine (between_any D _ _ (hD.alloc _) hm).mono ?_;rintro e w1 ⟨rfl, rfl⟩
   go_wp2
   go_ret
   exact ⟨ret_bool (by rw [trtB, h1, H4.out]; rfl), bal⟩
  have h4 : inB m 1 3 = false := inB_not.2 (by omega);have H4 : Hid _ := h4;clear h4
  go_enter Tryz.func77, Tryz.ntmps77
  go_wp2_with fail
  refine (ival_any C (hC.alloc _) hn).mono ?_;rintro e w1 ⟨rfl, rfl⟩
  go_wp2
  go_ret
  exact ⟨ret_bool (by rw [trtB, H4.out]; simp), bal⟩
 have h4 : inB m 1 3 = false := inB_not.2 (by omega);have H4 : Hid _ := h4;clear h4
 go_enter Tryz.func77, Tryz.ntmps77
 go_wp2_with fail
 refine (ival_any C (hC.alloc _) hn).mono ?_;rintro e w1 ⟨rfl, rfl⟩
 go_wp2
 go_ret
 exact ⟨ret_bool (by rw [trtB, H4.out]; simp), bal⟩
def others (D : List Int) (s : Int) : Nat -> Int
 | 0 => 0
 | k + 1 => if (k : Int) = s then others D s k else wrap64 (others D s k + D[k]?.getD 0)
theorem sothers_any (D : List Int) (s : Int) {w : World} (hD : Ints w c m D) (hm : m <= 1048576 := by omega) :
  Calls Tryz.prog 137 #[treV a n cap c m cap', .int .i64 s] w fun e w' => e = .returned (.int .i64 (others D s m)) /\ Below w.heap.size w w' := by
 go_enter Tryz.func137, Tryz.ntmps137
 go_wp2_with fail
 go_loop [5, 6] (fun x i => ∃ k : Nat, k <= m /\ i = .int .i64 k /\ x = .int .i64 (others D s k)) (fun _ i => m - (intOf i).toNat)
 case atStart => exact ⟨0, qC _, rfl, rfl⟩
 case round =>
  obtain ⟨k, hk, rfl, rfl⟩ := hrel
  by_cases hlt : k < m
  ·obtain ⟨b, off, rfl, hcell⟩ := (hD.alloc (.cells #[.slice a n cap, .slice c m cap'] 59 (0, 0))).pos (by omega);have hck := hcell k hlt;clear hcell hD;have HO : Hid (others D s (k + 1) = if (k : Int) = s then others D s k else wrap64 (others D s k + D[k]?.getD 0)) := rfl;obtain ⟨y, hy⟩ : ∃ y, y = others D s k := ⟨_, rfl⟩
   rw [<- hy] at HO;rw [<- hy];clear hy
   by_cases hs : (k : Int) = s
   ·have hs' : ((k : Int) != s) = false := by simp [hs]
    have HS : Hid ((k : Int) = s) := hs;clear hs
    go_wp2
    go_round
    case rel => exact ⟨k + 1, by omega, by go_num, by rw [HO.out, if_pos HS.out]⟩
    case measure => simp [intOf]; omega
   have hs' : ((k : Int) != s) = true := by simp [hs]
   have HS : Hid (¬ (k : Int) = s) := hs;clear hs
   go_wp2
   go_round
   case rel => exact ⟨k + 1, by omega, by go_num, by rw [HO.out, if_neg HS.out]⟩
   case measure => simp [intOf]; omega
  obtain rfl : k = m := by omega
  go_wp2
  go_ret
  exact ⟨rfl, bal⟩
theorem iothers_any (D : List Int) (s : Int) {w : World} (hD : Ints w c m D) (hm : m <= 1048576) :
  Calls Tryz.prog 150 #[treV a n cap c m cap', .int .i64 s] w fun e w' => e = .returned (.int .i64 (others D s m)) /\ Below w.heap.size w w' := by
 go_enter Tryz.func150, Tryz.ntmps150
 go_wp2_with fail
 go_loop [5, 6, 7, 11] (fun x _ _ i => ∃ k : Nat, k <= m /\ i = .int .i64 k /\ x = .int .i64 (others D s k)) (fun _ _ _ i => m - (intOf i).toNat)
 case atStart => exact ⟨0, qC _, rfl, rfl⟩
 case round =>
  obtain ⟨k, hk, rfl, rfl⟩ := hrel
  by_cases hlt : k < m
  ·obtain ⟨b, off, rfl, hcell⟩ := (hD.alloc (.cells #[.slice a n cap, .slice c m cap'] 59 (0, 0))).pos (by omega);have hck := hcell k hlt;clear hcell hD;have HO : Hid (others D s (k + 1) = if (k : Int) = s then others D s k else wrap64 (others D s k + D[k]?.getD 0)) := rfl;obtain ⟨y, hy⟩ : ∃ y, y = others D s k := ⟨_, rfl⟩
   rw [<- hy] at HO;rw [<- hy];clear hy
   by_cases hs : (k : Int) = s
   ·have hs' : ((k : Int) != s) = false := by simp [hs]
    have HS : Hid ((k : Int) = s) := hs;clear hs
    go_wp2
    go_round
    case rel => exact ⟨k + 1, by omega, by go_num, by rw [HO.out, if_pos HS.out]⟩
    case measure => simp [intOf]; omega
   have hs' : ((k : Int) != s) = true := by simp [hs]
   have HS : Hid (¬ (k : Int) = s) := hs;clear hs
   go_wp2
   go_round
   case rel => exact ⟨k + 1, by omega, by go_num, by rw [HO.out, if_neg HS.out]⟩
   case measure => simp [intOf]; omega
  obtain rfl : k = m := by omega
  go_wp2
  go_ret
  exact ⟨rfl, bal⟩
def partsB (ss : List IV) : Bool := ss.all fun s => okN 3 10000000 s.n s.x
theorem partsB_step (h : k < ss.length) (h1 : partsB (ss.take k) = true) (h2 : okN 3 10000000 (ss[k]?.getD noI).n (ss[k]?.getD noI).x = true) : partsB (ss.take (k + 1)) = true := by
 unfold partsB at *;rw [List.take_succ_eq_append_getElem h, List.all_append, h1];rw [qA h] at h2;simpa using h2
theorem partsB_end (h : ss.length <= k) (h1 : partsB (ss.take k) = true) : partsB ss = true := by
 rwa [List.take_of_length_le h] at h1
theorem partsB_false (h : k < ss.length) (hn : okN 3 10000000 (ss[k]?.getD noI).n (ss[k]?.getD noI).x = false) : partsB ss = false := by
 unfold partsB;rw [List.all_eq_false];refine ⟨ss[k], List.getElem_mem h, ?_⟩;rw [qA h] at hn;simpa using hn
theorem partsB_at (h : k < ss.length) (hp : partsB ss = true) : okN 3 10000000 (ss[k]?.getD noI).n (ss[k]?.getD noI).x = true := by
 cases hn : okN 3 10000000 (ss[k]?.getD noI).n (ss[k]?.getD noI).x
 ·rw [partsB_false h hn] at hp; cases hp
 rfl
theorem sparts_any (ss : List IV) {w : World} (hN : ss.length = N) (hF : ISG w ad ss) (hN1 : N <= 1048576) :
  Calls Tryz.prog 68 #[.slice ad N cap] w fun e w' => e = .returned (.bool (partsB ss)) /\ w' = w := by
 have HN : Hid (ss.length = N) := hN;clear hN
 go_enter Tryz.func68, Tryz.ntmps68
 go_wp2_with fail
 go_loop [3] (fun i => ∃ k : Nat, k <= N /\ i = .int .i64 k /\ partsB (ss.take k) = true) (fun i => N - (intOf i).toNat)
 case atStart => exact ⟨0, qC _, rfl, rfl⟩
 case round =>
  obtain ⟨k, hk, rfl, hall⟩ := hrel;have HA : Hid _ := hall;clear hall
  by_cases hlt : k < N
  ·obtain ⟨b, off, rfl, hc, hr⟩ := hF k (by rw [HN.out]; exact hlt);have H1 : Hid _ := partsB_step (ss := ss) (k := k) (by rw [HN.out]; exact hlt) HA.out;have H2 : Hid _ := partsB_false (ss := ss) (k := k) (by rw [HN.out]; exact hlt);generalize HG : ss[k]?.getD noI = g at *;clear HG hF HA;obtain ⟨ga, gn, gcap, gx⟩ := g;have hc' : w.cell? ⟨b, off + k, none⟩ = some (.slice ga gn gcap) := hc;clear hc
   cases he : okN 3 10000000 gn gx
   ·go_wp2_with fail
    refine (all_any gx _ _ hr.1 hr.2).mono ?_;rintro e w1 ⟨rfl, rfl⟩;rw [he]
    go_wp2
    go_ret
    exact ⟨ret_bool (by rw [H2.out he]), rfl⟩
   go_wp2_with fail
   refine (all_any gx _ _ hr.1 hr.2).mono ?_;rintro e w1 ⟨rfl, rfl⟩;rw [he]
   go_wp2
   go_round
   case rel => exact ⟨k + 1, by omega, by go_num, H1.out he⟩
   case measure => simp [intOf]; omega
  go_wp2
  go_ret
  exact ⟨ret_bool (by rw [partsB_end (by rw [HN.out]; omega) HA.out]), rfl⟩
theorem iparts_any (ss : List IV) {w : World} (hN : ss.length = N) (hF : ISG w ad ss) (hN1 : N <= 1048576) :
  Calls Tryz.prog 117 #[.slice ad N cap] w fun e w' => e = .returned (.bool (partsB ss)) /\ w' = w := by
 have HN : Hid (ss.length = N) := hN;clear hN
 go_enter Tryz.func117, Tryz.ntmps117
 go_wp2_with fail
 go_loop [4, 7] (fun _ i => ∃ k : Nat, k <= N /\ i = .int .i64 k /\ partsB (ss.take k) = true) (fun _ i => N - (intOf i).toNat)
 case atStart => exact ⟨0, qC _, rfl, rfl⟩
 case round =>
  obtain ⟨k, hk, rfl, hall⟩ := hrel;have HA : Hid _ := hall;clear hall
  by_cases hlt : k < N
  ·obtain ⟨b, off, rfl, hc, hr⟩ := hF k (by rw [HN.out]; exact hlt);have H1 : Hid _ := partsB_step (ss := ss) (k := k) (by rw [HN.out]; exact hlt) HA.out;have H2 : Hid _ := partsB_false (ss := ss) (k := k) (by rw [HN.out]; exact hlt);generalize HG : ss[k]?.getD noI = g at *;clear HG hF HA;obtain ⟨ga, gn, gcap, gx⟩ := g;have hc' : w.cell? ⟨b, off + k, none⟩ = some (.slice ga gn gcap) := hc;clear hc
   by_cases hn3 : (gn : Int) = 3
   ·have hn3' : ((gn : Int) != 3) = false := by simp [hn3]
    have H3 : Hid ((gn : Int) = 3) := hn3;clear hn3
    cases he : allB 10000000 gx
    ·go_wp2_with fail
     refine (within_any _ _ _ gx hr.1 hr.2).mono ?_;rintro e w1 ⟨rfl, rfl⟩;rw [he]
     go_wp2
     go_ret
     exact ⟨ret_bool (by rw [H2.out (by rw [okN_is H3.out, he])]), rfl⟩
    go_wp2_with fail
    refine (within_any _ _ _ gx hr.1 hr.2).mono ?_;rintro e w1 ⟨rfl, rfl⟩;rw [he]
    go_wp2
    go_round
    case rel => exact ⟨k + 1, by omega, by go_num, H1.out (by rw [okN_is H3.out, he])⟩
    case measure => simp [intOf]; omega
   have hn3' : ((gn : Int) != 3) = true := by simp [hn3]
   have H3 : Hid (¬ (gn : Int) = 3) := hn3;clear hn3
   go_wp2
   go_ret
   exact ⟨ret_bool (by rw [H2.out (okN_not H3.out)]), rfl⟩
  go_wp2
  go_ret
  exact ⟨ret_bool (by rw [partsB_end (by rw [HN.out]; omega) HA.out]), rfl⟩
theorem imay_any (zs : List Int) {w : World} (h : Ints w a n zs) (hn : n <= 1048576) :
  Calls Tryz.prog 118 #[.slice a n cap] w fun e w' => e = .returned (.bool (okN 3 20000 n zs)) /\ w' = w := by
 by_cases hc : (n : Int) = 3
 ·have hc' : ((n : Int) == 3) = true := by simp [hc]
  have HC : Hid ((n : Int) = 3) := hc;clear hc
  go_enter Tryz.func118, Tryz.ntmps118
  go_wp2_with fail
  refine (within_any _ _ _ zs h hn).mono ?_;rintro e w' ⟨rfl, rfl⟩
  go_wp2
  go_ret
  exact ⟨ret_bool (by rw [okN_is HC.out]), rfl⟩
 have hc' : ((n : Int) == 3) = false := by simpa using hc
 go_enter Tryz.func118, Tryz.ntmps118
 go_wp2
 go_ret
 exact ⟨ret_bool (by rw [okN_not hc]), rfl⟩
theorem times5_any (xs ys : List Int) {P : Int} {w : World} (h : Ints w a 3 xs) (h' : Ints w c 3 ys) (hP : bndP P xs ys) (h0 : 0 <= P) (hb : P <= 1000000000000) :
  Calls Tryz.prog 69 #[.slice a 3 cap, .slice c 3 cap'] w fun e w' => e = .returned (.int .i64 (dot xs ys 3)) /\ Below w.heap.size w w' := by
 have HP : Hid (bndP P xs ys) := hP;clear hP
 go_enter Tryz.func69, Tryz.ntmps69
 go_wp2_with fail
 go_loopw [5, 6] (fun s i wr => ∃ k : Nat, k <= 3 /\ i = .int .i64 k /\ s = .int .i64 (dot xs ys k) /\ Below w.heap.size w wr) (fun _ i _ => 3 - (intOf i).toNat)
 case atStart => exact ⟨0, by omega, rfl, rfl, Below.refl _ _⟩
 case round =>
  obtain ⟨k, hk, rfl, rfl, hb'⟩ := hrel
  by_cases hlt : k < 3
  ·obtain ⟨b, off, rfl, hcell⟩ := (h.below hb').pos (by omega);obtain ⟨b', off', rfl, hcell'⟩ := (h'.below hb').pos (by omega);have hck := hcell k hlt;have hck' := hcell' k hlt;have hlt' : (k : Int) < 3 := by omega
   obtain ⟨p1, p2⟩ := HP.out k;have d := dot_bnd HP.out k;have kP : (k : Int) * P <= 1000 * P := Int.mul_le_mul_of_nonneg_right (by omega) h0;have d1 : -1000000000000000 <= dot xs ys k := by omega
   have d2 : dot xs ys k <= 1000000000000000 := by omega
   have d3 : -1000000000000 <= xs[k]?.getD 0 * ys[k]?.getD 0 := by omega
   have d4 : xs[k]?.getD 0 * ys[k]?.getD 0 <= 1000000000000 := by omega
   clear hcell hcell' h h' d kP p1 p2 hb h0
   go_wp2_with fail
   go_quiet (fail)
   go_wp2
   go_roundw
   case rel => exact ⟨k + 1, by omega, by go_num, by simp only [dot], below_drewN hb' _⟩
   case measure => simp [intOf]; omega
  obtain rfl : k = 3 := by omega
  go_wp2
  go_ret
  exact ⟨rfl, hb'⟩
def viewB (n m : Nat) (C D : List Int) (ss : List IV) (s : Int) (k : Nat) (E : List Int) : Bool := trtB n m C D && (partsB ss && (inB s 0 ((m : Int) - 1) && okN 3 20000 k E))
def keepsB (g : Int) (E : List Int) (ss : List IV) : Bool := ss.all fun p => inB (dot p.x E 3) (-g) g
theorem keepsB_step (h : k < ss.length) (h1 : keepsB g E (ss.take k) = true) (h2 : inB (dot (ss[k]?.getD noI).x E 3) (-g) g = true) : keepsB g E (ss.take (k + 1)) = true := by
 unfold keepsB at *;rw [List.take_succ_eq_append_getElem h, List.all_append, h1];rw [qA h] at h2;simpa using h2
theorem keepsB_end (h : ss.length <= k) (h1 : keepsB g E (ss.take k) = true) : keepsB g E ss = true := by
 rwa [List.take_of_length_le h] at h1
theorem keepsB_false (h : k < ss.length) (hn : inB (dot (ss[k]?.getD noI).x E 3) (-g) g = false) : keepsB g E ss = false := by
 unfold keepsB;rw [List.all_eq_false];refine ⟨ss[k], List.getElem_mem h, ?_⟩;rw [qA h] at hn;simpa using hn
theorem viewB_elim {C D : List Int} {s : Int} (h : viewB n m C D ss s k E = true) :
  n = 3 /\ bnd 10000 C /\ 1 <= m /\ m <= 3 /\ partsB ss = true /\ 0 <= s /\ s < m /\ k = 3 /\ bnd 20000 E /\ (∀ i : Nat, i < D.length -> 0 <= D[i]?.getD 0 /\ D[i]?.getD 0 <= 50) := by
 simp only [viewB, trtB, Bool.and_eq_true] at h;obtain ⟨⟨h1, h2, h3⟩, h4, h5, h6⟩ := h;have a := okN_elim (by omega) h1;have b := okN_elim (by omega) h6;have c := inB_iff.1 h2;have d := inB_iff.1 h5;refine ⟨by omega, a.2, by omega, by omega, h4, d.1, by omega, by omega, b.2, fun i hi => ?_⟩;unfold betB at h3;rw [List.all_eq_true] at h3;have := inB_iff.1 (h3 D[i] (List.getElem_mem hi));rw [qA hi];simpa using this
def keepB (n m : Nat) (C D : List Int) (ss : List IV) (s : Int) (k : Nat) (E : List Int) : Bool := viewB n m C D ss s k E && keepsB (D[s.toNat]?.getD 0) E ss
theorem place_in (s : Int) (m : Nat) : decide (0 <= s /\ s < (m : Int)) = inB s 0 ((m : Int) - 1) := by
 unfold inB
 apply decide_eq_decide.2
 omega
abbrev viewV (a : Option Addr) (n cap : Nat) (c : Option Addr) (m cap' : Nat) (ad : Option Addr) (N pc : Nat) (s : Int) (e : Option Addr) (k ec : Nat) (u : Option Addr) (l uc : Nat) : Value := .agg #[.slice a n cap, .slice c m cap', .slice ad N pc, .int .i64 s, .slice e k ec, .slice u l uc]
theorem Cel.sixK {w : World} {B : Nat} {v0 v1 v2 v3 v4 v5 : Value} {t : TypeId} (h : Cel w B [v0, v1, v2, v3, v4, v5] t) : w.cell? ⟨B, 0, none⟩ = some v0 /\ w.cell? ⟨B, 1, none⟩ = some v1 /\ w.cell? ⟨B, 2, none⟩ = some v2 /\ w.cell? ⟨B, 3, none⟩ = some v3 /\ w.cell? ⟨B, 4, none⟩ = some v4 /\ w.cell? ⟨B, 5, none⟩ = some v5 := ⟨h.cell 0, h.cell 1, h.cell 2, h.cell 3, h.cell 4, h.cell 5⟩
theorem vok_any (a : Option Addr) (n cap : Nat) (c : Option Addr) (m cap' : Nat) (ad : Option Addr) (N pc : Nat) (s : Int) (e : Option Addr) (k ec : Nat) (u : Option Addr) (l uc : Nat) (C D E : List Int) (ss : List IV) {w : World}
  (hC : Ints w a n C) (hD : Ints w c m D) (hE : Ints w e k E) (hN : ss.length = N) (hF : ISG w ad ss) (hn : n <= 1048576) (hm : m <= 1048576) (hk : k <= 1048576) (hN1 : N <= 1048576) :
  Calls Tryz.prog 87 #[viewV a n cap c m cap' ad N pc s e k ec u l uc] w fun r w' => r = .returned (.bool (viewB n m C D ss s k E)) /\ Below w.heap.size w w' := by
 have HN : Hid (ss.length = N) := hN;clear hN;have q0 := Cel.new w [.slice a n cap, .slice c m cap', .slice ad N pc, .int .i64 s, .slice e k ec, .slice u l uc] 136;have b0 := (Below.refl w.heap.size w).alloc (qB _) (.cells #[.slice a n cap, .slice c m cap', .slice ad N pc, .int .i64 s, .slice e k ec, .slice u l uc] 136)
 cases h1 : trtB n m C D
 ·go_enter Tryz.func87, Tryz.ntmps87
  go_wp2_with fail
  refine (itrt_any C D (hC.below b0) (hD.below b0) hn hm).mono ?_;rintro r w1 ⟨rfl, b1⟩;have B1 := btr b0 b1;rw [h1]
  go_wp2
  go_ret
  exact ⟨ret_bool (by simp [viewB, h1]), B1⟩
 cases h2 : partsB ss
 ·go_enter Tryz.func87, Tryz.ntmps87
  go_wp2_with fail
  refine (itrt_any C D (hC.below b0) (hD.below b0) hn hm).mono ?_;rintro r w1 ⟨rfl, b1⟩;have B1 := btr b0 b1;obtain ⟨c0, c1, c2, c3, c4, c5⟩ := (q0.below b1).sixK;rw [h1]
  go_wp2_with fail
  refine (iparts_any ss HN.out (hF.below B1) hN1).mono ?_;rintro r w2 ⟨rfl, rfl⟩;rw [h2]
  go_wp2
  go_ret
  exact ⟨ret_bool (by simp [viewB, h2]), B1⟩
 cases h3 : inB s 0 ((m : Int) - 1)
 ·go_enter Tryz.func87, Tryz.ntmps87
  go_wp2_with fail
  refine (itrt_any C D (hC.below b0) (hD.below b0) hn hm).mono ?_;rintro r w1 ⟨rfl, b1⟩;have B1 := btr b0 b1;obtain ⟨c0, c1, c2, c3, c4, c5⟩ := (q0.below b1).sixK;rw [h1]
  go_wp2_with fail
  refine (iparts_any ss HN.out (hF.below B1) hN1).mono ?_;rintro r w2 ⟨rfl, rfl⟩;rw [h2]
  go_wp2_with fail
  refine (place_any).mono ?_;rintro r w3 ⟨rfl, rfl⟩;rw [place_in, h3]
  go_wp2
  go_ret
  exact ⟨ret_bool (by simp [viewB, h3]), B1⟩
 go_enter Tryz.func87, Tryz.ntmps87
 go_wp2_with fail
 refine (itrt_any C D (hC.below b0) (hD.below b0) hn hm).mono ?_;rintro r w1 ⟨rfl, b1⟩;have B1 := btr b0 b1;obtain ⟨c0, c1, c2, c3, c4, c5⟩ := (q0.below b1).sixK;rw [h1]
 go_wp2_with fail
 refine (iparts_any ss HN.out (hF.below B1) hN1).mono ?_;rintro r w2 ⟨rfl, rfl⟩;rw [h2]
 go_wp2_with fail
 refine (place_any).mono ?_;rintro r w3 ⟨rfl, rfl⟩;rw [place_in, h3]
 go_wp2_with fail
 refine (imay_any E (hE.below B1) hk).mono ?_;rintro r w4 ⟨rfl, rfl⟩
 go_wp2
 go_ret
 exact ⟨ret_bool (by simp [viewB, h1, h2, h3]), B1⟩
theorem vkeeps_any (a : Option Addr) (n cap : Nat) (c : Option Addr) (m cap' : Nat) (ad : Option Addr) (N pc : Nat) (s : Int) (e : Option Addr) (ec : Nat) (u : Option Addr) (l uc : Nat) (C D E : List Int) (ss : List IV) {w : World}
  (hD : Ints w c m D) (hE : Ints w e 3 E) (hN : ss.length = N) (hF : ISG w ad ss) (hN1 : N <= 1048576) (hm3 : m <= 3) (hs : 0 <= s) (hs' : s < m) (hp : partsB ss = true) (bE : bnd 20000 E) (bD : ∀ i : Nat, i < D.length -> 0 <= D[i]?.getD 0 /\ D[i]?.getD 0 <= 50) :
  Calls Tryz.prog 88 #[viewV a n cap c m cap' ad N pc s e 3 ec u l uc] w fun r w' => r = .returned (.bool (keepsB (D[s.toNat]?.getD 0) E ss)) /\ Below w.heap.size w w' := by
 have HN : Hid (ss.length = N) := hN;have HP : Hid (partsB ss = true) := hp;clear hN hp;have q0 := Cel.new w [.slice a n cap, .slice c m cap', .slice ad N pc, .int .i64 s, .slice e 3 ec, .slice u l uc] 136;have b0 := (Below.refl w.heap.size w).alloc (qB _) (.cells #[.slice a n cap, .slice c m cap', .slice ad N pc, .int .i64 s, .slice e 3 ec, .slice u l uc] 136);obtain ⟨t, rfl⟩ : ∃ t : Nat, s = t := ⟨s.toNat, by omega⟩
 have ht : t < m := by omega
 have bg := bD t (by rw [hD.1]; exact ht);obtain ⟨b, off, rfl, hcell⟩ := (hD.below b0).pos (by omega);have hck := hcell t ht;rw [Int.toNat_natCast];have hck' : (w.alloc (.cells #[.slice a n cap, .slice (some ⟨b, off, none⟩) m cap', .slice ad N pc, .int .i64 (t : Int), .slice e 3 ec, .slice u l uc] 136)).cell? ⟨b, off + t, none⟩ = some (.int .i64 (D[t]?.getD 0)) := by rw [hck]; simp
 generalize HG : D[t]?.getD 0 = g at *;clear HG hck hcell bD hD
 go_enter Tryz.func88, Tryz.ntmps88
 go_wp2_with fail
 go_loopw [5, 16] (fun _ i wr => ∃ k : Nat, k <= N /\ i = .int .i64 k /\ Below w.heap.size w wr /\ Cel wr w.heap.size [.slice a n cap, .slice (some ⟨b, off, none⟩) m cap', .slice ad N pc, .int .i64 (t : Int), .slice e 3 ec, .slice u l uc] 136 /\ keepsB g E (ss.take k) = true) (fun _ i _ => N - (intOf i).toNat)
 case atStart => exact ⟨0, qC _, rfl, b0, q0, rfl⟩
 case round =>
  clear hck' q0 b0;obtain ⟨k, hk, rfl, hb, q1, hall⟩ := hrel;have HA : Hid _ := hall;clear hall
  by_cases hlt : k < N
  ·obtain ⟨b2, off2, rfl, hc, hr⟩ := (hF.below hb) k (by rw [HN.out]; exact hlt);have H1 : Hid _ := keepsB_step (g := g) (E := E) (ss := ss) (k := k) (by rw [HN.out]; exact hlt) HA.out;have H2 : Hid _ := keepsB_false (g := g) (E := E) (ss := ss) (k := k) (by rw [HN.out]; exact hlt);have H3 := partsB_at (ss := ss) (k := k) (by rw [HN.out]; exact hlt) HP.out;generalize HG : ss[k]?.getD noI = p at *;clear HG hF HA;obtain ⟨ga, gn, gcap, gx⟩ := p;obtain ⟨e3, bx⟩ := okN_elim (by omega) H3;obtain rfl : gn = 3 := by have : (gn : Int) = 3 := e3; omega
   have hP := bndP_of bx bE;have hc' : wr.cell? ⟨b2, off2 + k, none⟩ = some (.slice ga 3 gcap) := hc;have c4 := q1.cell 4;simp only [List.getElem?_cons_zero, List.getElem?_cons_succ] at c4;have hr1 : Ints wr ga 3 gx := hr.1;clear hc H3 e3;have dn := dot_bnd hP 3
   go_wp2_with fail
   refine (psum_any gx E hr1 (hE.below hb) (by omega) hP).mono ?_;rintro r w1 ⟨rfl, rfl⟩;have H1' : Hid (inB (dot gx E 3) (-g) g = true -> keepsB g E (ss.take (k + 1)) = true) := H1;have H2' : Hid (inB (dot gx E 3) (-g) g = false -> keepsB g E ss = false) := H2;generalize HG : dot gx E 3 = x at *;clear HG H1 H2 hP dn
   go_wp2_with fail
   refine (within_any (some ⟨w1.heap.size, 0, none⟩) 1 1 [x] ?_ (by omega)).mono ?_
   ·refine ⟨rfl, fun i hi => ⟨w1.heap.size, 0, rfl, ?_⟩⟩;obtain rfl : i = 0 := by omega
    simp [go_sem]
   rintro r w2 ⟨rfl, rfl⟩;rw [allB_one]
   cases he : inB x (-g) g
   ·go_wp2
    go_ret
    exact ⟨ret_bool (by rw [H2'.out he]), hb.alloc hb.size _⟩
   go_wp2
   go_roundw
   case rel => exact ⟨k + 1, by omega, by go_num, hb.alloc hb.size _, q1.alloc _, H1'.out he⟩
   case measure => simp [intOf]; omega
  go_wp2
  go_ret
  exact ⟨ret_bool (by rw [keepsB_end (by rw [HN.out]; omega) HA.out]), hb⟩
theorem ikeep_any {pc : Nat} {s : Int} {e : Option Addr} {ec : Nat} (C D E : List Int) (ss : List IV) {w : World}
  (hC : Ints w a n C) (hD : Ints w c m D) (hE : Ints w e k E) (hN : ss.length = N) (hF : ISG w ad ss) (hn : n <= 1048576) (hm : m <= 1048576) (hk : k <= 1048576) (hN1 : N <= 1048576) :
  Calls Tryz.prog 78 #[treV a n cap c m cap', .slice ad N pc, .int .i64 s, .slice e k ec] w fun r w' => r = .returned (.bool (keepB n m C D ss s k E)) /\ Below w.heap.size w w' := by
 have HN : Hid (ss.length = N) := hN;clear hN;have B0 : Below w.heap.size w ((w.alloc (.cells #[.slice a n cap, .slice c m cap'] 59)).alloc (.cells #[.slice a n cap, .slice c m cap', .slice ad N pc, .int .i64 s, .slice e k ec, .slice none 0 0] 136)) := ((Below.refl w.heap.size w).alloc (qB _) _).alloc (by simp) _;have q0 := Cel.new (w.alloc (.cells #[.slice a n cap, .slice c m cap'] 59)) [.slice a n cap, .slice c m cap', .slice ad N pc, .int .i64 s, .slice e k ec, .slice none 0 0] 136;rw [World.size_alloc] at q0
 cases h1 : viewB n m C D ss s k E
 ·go_enter Tryz.func78, Tryz.ntmps78
  go_wp2_with fail
  refine (vok_any _ _ _ _ _ _ _ _ _ _ _ _ _ _ _ _ C D E ss (hC.below B0) (hD.below B0) (hE.below B0) HN.out (hF.below B0) hn hm hk hN1).mono ?_;rintro r w1 ⟨rfl, b1⟩;have B1 := btr B0 b1;rw [h1]
  go_wp2
  go_ret
  exact ⟨ret_bool (by simp [keepB, h1]), B1⟩
 obtain ⟨-, -, m1, m2, hp0, s0, s1, e2, bE, bD⟩ := viewB_elim h1;have hp : Hid _ := hp0;clear hp0;subst e2
 go_enter Tryz.func78, Tryz.ntmps78
 go_wp2_with fail
 refine (vok_any _ _ _ _ _ _ _ _ _ _ _ _ _ _ _ _ C D E ss (hC.below B0) (hD.below B0) (hE.below B0) HN.out (hF.below B0) hn hm hk hN1).mono ?_;rintro r w1 ⟨rfl, b1⟩;have B1 := btr B0 b1;obtain ⟨c0, c1, c2, c3, c4, c5⟩ := (q0.below b1).sixK;rw [h1];have HK : Hid _ := h1;clear h1
 go_wp2_with fail
 refine (vkeeps_any _ _ _ _ _ _ _ _ _ _ _ _ _ _ _ C D E ss (hD.below B1) (hE.below B1) HN.out (hF.below B1) hN1 m2 s0 s1 hp.out bE bD).mono ?_;rintro r w2 ⟨rfl, b2⟩;have B2 := btr B1 b2
 go_wp2
 go_ret
 exact ⟨ret_bool (by rw [keepB, HK.out]; rfl), B2⟩
end Go.Proofs.YtfmpcihghlnlnaaGreatDoor
