/-
  Lemmas that the claim's last text rests on: TrtW, Keeps, KeepsS, Sum5, Bounds, All, TrtM, AppC, CoS, BoundsI, BoundsS, FvL.
-/
import Derived.Test.YtjggppnffkcmbaaTrt
import Derived.Test.YtjggppnffkcmbaaJTrtAloneA
import Derived.Deep.RegionHeld3
import Derived.Deep.DeepCutAuto
import Derived.Test.YtjggppnffkcmbaaKeyed
import Derived.Deep.AppendLies
import Derived.Test.YtjggppnffkcmbaaDrA
import Derived.Test.YtjggppnffkcmbaaTk
import Derived.Test.YtjggppnffkcmbaaFvC
namespace Go.Proofs.Ytjggppnffkcmbaa
open Go.RowKit
set_option linter.unusedVariables false

/-- A treaty is ok. -/
def trtB (n m : Nat) (C D : List Int) : Bool := okN 3 10000 n C && (inB m 1 3 && betB 0 50 D)

set_option maxHeartbeats 800000 in
theorem strt_any (a : Option Addr) (n cap : Nat) (c : Option Addr) (m cap' : Nat) (C D : List Int) (w : World) (hC : Ints w a n C) (hD : Ints w c m D) (hn : n ≤ 1048576) (hm : m ≤ 1048576) :
    Calls Try.prog 72 #[treV a n cap c m cap'] w fun e w' => e = .returned (.bool (trtB n m C D)) ∧ Below w.heap.size w w' := by
  have HD : Hid (D.length = m) := hD.1
  cases h1 : okN 3 10000 n C
  · go_enter Try.func72, Try.ntmps72
    go_wp2_with fail
    refine (sval_any _ _ _ C _ (hC.alloc _) hn).mono ?_
    rintro e w1 ⟨rfl, rfl⟩
    go_wp2
    go_ret
    exact ⟨ret_bool (by simp [trtB, h1]), (Below.refl _ _).alloc (Nat.le_refl _) _⟩
  · cases h2 : inB m 1 3
    · go_enter Try.func72, Try.ntmps72
      go_wp2_with fail
      refine (sval_any _ _ _ C _ (hC.alloc _) hn).mono ?_
      rintro e w1 ⟨rfl, rfl⟩
      go_wp2_with fail
      refine (in_any _ _ _ _).mono ?_
      rintro e w1 ⟨rfl, rfl⟩
      go_wp2
      go_ret
      exact ⟨ret_bool (by simp [trtB, h2]), (Below.refl _ _).alloc (Nat.le_refl _) _⟩
    · go_enter Try.func72, Try.ntmps72
      go_wp2_with fail
      refine (sval_any _ _ _ C _ (hC.alloc _) hn).mono ?_
      rintro e w1 ⟨rfl, rfl⟩
      go_wp2_with fail
      refine (in_any _ _ _ _).mono ?_
      rintro e w1 ⟨rfl, rfl⟩
      go_wp2_with fail
      go_loop [3] (fun i => ∃ k : Nat, k ≤ m ∧ i = .int .i64 k ∧ betB 0 50 (D.take k) = true) (fun i => m - (intOf i).toNat)
      case atStart => exact ⟨0, Nat.zero_le _, rfl, rfl⟩
      case round =>
        obtain ⟨k, hk, rfl, hall⟩ := hrel
        have HA : Hid (betB 0 50 (D.take k) = true) := hall
        clear hall
        by_cases hlt : k < m
        · obtain ⟨b, off, rfl, hcell⟩ := (hD.alloc (.cells #[.slice a n cap, .slice c m cap'] 45 (0, 0))).pos (by omega)
          have hck := hcell k hlt
          clear hcell hC hD
          cases hin : inB (D[k]?.getD 0) 0 50
          · go_wp2_with fail
            refine (in_any _ _ _ _).mono ?_
            rintro e w1 ⟨rfl, rfl⟩
            go_wp2
            go_ret
            exact ⟨ret_bool (by rw [trtB, betB_false (by rw [HD.out]; exact hlt) hin]; simp), (Below.refl _ _).alloc (Nat.le_refl _) _⟩
          · go_wp2_with fail
            refine (in_any _ _ _ _).mono ?_
            rintro e w1 ⟨rfl, rfl⟩
            go_wp2
            go_round
            case rel => exact ⟨k + 1, by omega, by go_num, betB_step (by rw [HD.out]; exact hlt) HA.out hin⟩
            case measure => simp [intOf]; omega
        · go_wp2
          go_ret
          exact ⟨ret_bool (by rw [trtB, h1, h2, betB_end (by rw [HD.out]; omega) HA.out]; rfl), (Below.refl _ _).alloc (Nat.le_refl _) _⟩

set_option maxHeartbeats 800000 in
theorem itrt_any (a : Option Addr) (n cap : Nat) (c : Option Addr) (m cap' : Nat) (C D : List Int) (w : World) (hC : Ints w a n C) (hD : Ints w c m D) (hn : n ≤ 1048576) (hm : m ≤ 1048576) :
    Calls Try.prog 109 #[treV a n cap c m cap'] w fun e w' => e = .returned (.bool (trtB n m C D)) ∧ Below w.heap.size w w' := by
  cases h1 : okN 3 10000 n C
  · go_enter Try.func109, Try.ntmps109
    go_wp2_with fail
    refine (ival_any _ _ _ C _ (hC.alloc _) hn).mono ?_
    rintro e w1 ⟨rfl, rfl⟩
    go_wp2
    go_ret
    exact ⟨ret_bool (by simp [trtB, h1]), (Below.refl _ _).alloc (Nat.le_refl _) _⟩
  · by_cases h2 : 1 ≤ m
    · by_cases h3 : m ≤ 3
      · have h4 : inB m 1 3 = true := inB_iff.2 ⟨by omega, by omega⟩
        have H4 : Hid _ := h4
        clear h4
        go_enter Try.func109, Try.ntmps109
        go_wp2_with fail
        refine (ival_any _ _ _ C _ (hC.alloc _) hn).mono ?_
        rintro e w1 ⟨rfl, rfl⟩
        go_wp2_with fail
        refine (between_any _ _ _ D _ _ _ (hD.alloc _) hm).mono ?_
        rintro e w1 ⟨rfl, rfl⟩
        go_wp2
        go_ret
        exact ⟨ret_bool (by rw [trtB, h1, H4.out]; rfl), (Below.refl _ _).alloc (Nat.le_refl _) _⟩
      · have h4 : inB m 1 3 = false := inB_not.2 (by omega)
        have H4 : Hid _ := h4
        clear h4
        go_enter Try.func109, Try.ntmps109
        go_wp2_with fail
        refine (ival_any _ _ _ C _ (hC.alloc _) hn).mono ?_
        rintro e w1 ⟨rfl, rfl⟩
        go_wp2
        go_ret
        exact ⟨ret_bool (by rw [trtB, H4.out]; simp), (Below.refl _ _).alloc (Nat.le_refl _) _⟩
    · have h4 : inB m 1 3 = false := inB_not.2 (by omega)
      have H4 : Hid _ := h4
      clear h4
      go_enter Try.func109, Try.ntmps109
      go_wp2_with fail
      refine (ival_any _ _ _ C _ (hC.alloc _) hn).mono ?_
      rintro e w1 ⟨rfl, rfl⟩
      go_wp2
      go_ret
      exact ⟨ret_bool (by rw [trtB, H4.out]; simp), (Below.refl _ _).alloc (Nat.le_refl _) _⟩

/-- What the first k sites but one may. -/
def others (D : List Int) (s : Int) : Nat → Int
  | 0 => 0
  | k + 1 => if (k : Int) = s then others D s k else wrap64 (others D s k + D[k]?.getD 0)

set_option maxHeartbeats 800000 in
theorem sothers_any (a : Option Addr) (n cap : Nat) (c : Option Addr) (m cap' : Nat) (D : List Int) (s : Int) (w : World) (hD : Ints w c m D) (hm : m ≤ 1048576) :
    Calls Try.prog 82 #[treV a n cap c m cap', .int .i64 s] w fun e w' => e = .returned (.int .i64 (others D s m)) ∧ Below w.heap.size w w' := by
  go_enter Try.func82, Try.ntmps82
  go_wp2_with fail
  go_loop [5, 6] (fun x i => ∃ k : Nat, k ≤ m ∧ i = .int .i64 k ∧ x = .int .i64 (others D s k)) (fun _ i => m - (intOf i).toNat)
  case atStart => exact ⟨0, Nat.zero_le _, rfl, rfl⟩
  case round =>
    obtain ⟨k, hk, rfl, rfl⟩ := hrel
    by_cases hlt : k < m
    · obtain ⟨b, off, rfl, hcell⟩ := (hD.alloc (.cells #[.slice a n cap, .slice c m cap'] 45 (0, 0))).pos (by omega)
      have hck := hcell k hlt
      clear hcell hD
      have HO : Hid (others D s (k + 1) = if (k : Int) = s then others D s k else wrap64 (others D s k + D[k]?.getD 0)) := rfl
      obtain ⟨y, hy⟩ : ∃ y, y = others D s k := ⟨_, rfl⟩
      rw [← hy] at HO
      rw [← hy]
      clear hy
      by_cases hs : (k : Int) = s
      · have hs' : ((k : Int) != s) = false := by simp [hs]
        have HS : Hid ((k : Int) = s) := hs
        clear hs
        go_wp2
        go_round
        case rel => exact ⟨k + 1, by omega, by go_num, by rw [HO.out, if_pos HS.out]⟩
        case measure => simp [intOf]; omega
      · have hs' : ((k : Int) != s) = true := by simp [hs]
        have HS : Hid (¬ (k : Int) = s) := hs
        clear hs
        go_wp2
        go_round
        case rel => exact ⟨k + 1, by omega, by go_num, by rw [HO.out, if_neg HS.out]⟩
        case measure => simp [intOf]; omega
    · obtain rfl : k = m := by omega
      go_wp2
      go_ret
      exact ⟨rfl, (Below.refl _ _).alloc (Nat.le_refl _) _⟩

set_option maxHeartbeats 800000 in
theorem iothers_any (a : Option Addr) (n cap : Nat) (c : Option Addr) (m cap' : Nat) (D : List Int) (s : Int) (w : World) (hD : Ints w c m D) (hm : m ≤ 1048576) :
    Calls Try.prog 112 #[treV a n cap c m cap', .int .i64 s] w fun e w' => e = .returned (.int .i64 (others D s m)) ∧ Below w.heap.size w w' := by
  go_enter Try.func112, Try.ntmps112
  go_wp2_with fail
  go_loop [5, 6, 7, 11] (fun x _ _ i => ∃ k : Nat, k ≤ m ∧ i = .int .i64 k ∧ x = .int .i64 (others D s k)) (fun _ _ _ i => m - (intOf i).toNat)
  case atStart => exact ⟨0, Nat.zero_le _, rfl, rfl⟩
  case round =>
    obtain ⟨k, hk, rfl, rfl⟩ := hrel
    by_cases hlt : k < m
    · obtain ⟨b, off, rfl, hcell⟩ := (hD.alloc (.cells #[.slice a n cap, .slice c m cap'] 45 (0, 0))).pos (by omega)
      have hck := hcell k hlt
      clear hcell hD
      have HO : Hid (others D s (k + 1) = if (k : Int) = s then others D s k else wrap64 (others D s k + D[k]?.getD 0)) := rfl
      obtain ⟨y, hy⟩ : ∃ y, y = others D s k := ⟨_, rfl⟩
      rw [← hy] at HO
      rw [← hy]
      clear hy
      by_cases hs : (k : Int) = s
      · have hs' : ((k : Int) != s) = false := by simp [hs]
        have HS : Hid ((k : Int) = s) := hs
        clear hs
        go_wp2
        go_round
        case rel => exact ⟨k + 1, by omega, by go_num, by rw [HO.out, if_pos HS.out]⟩
        case measure => simp [intOf]; omega
      · have hs' : ((k : Int) != s) = true := by simp [hs]
        have HS : Hid (¬ (k : Int) = s) := hs
        clear hs
        go_wp2
        go_round
        case rel => exact ⟨k + 1, by omega, by go_num, by rw [HO.out, if_neg HS.out]⟩
        case measure => simp [intOf]; omega
    · obtain rfl : k = m := by omega
      go_wp2
      go_ret
      exact ⟨rfl, (Below.refl _ _).alloc (Nat.le_refl _) _⟩

/-- Parts are ok. -/
def partsB (ss : List IV) : Bool := ss.all fun s => okN 3 10000000 s.n s.x
theorem partsB_step {ss : List IV} {k : Nat} (h : k < ss.length) (h1 : partsB (ss.take k) = true) (h2 : okN 3 10000000 (ss[k]?.getD noI).n (ss[k]?.getD noI).x = true) : partsB (ss.take (k + 1)) = true := by
  unfold partsB at *
  rw [List.take_succ_eq_append_getElem h, List.all_append, h1]
  rw [List.getElem?_eq_getElem h] at h2
  simpa using h2
theorem partsB_end {ss : List IV} {k : Nat} (h : ss.length ≤ k) (h1 : partsB (ss.take k) = true) : partsB ss = true := by
  rwa [List.take_of_length_le h] at h1
theorem partsB_false {ss : List IV} {k : Nat} (h : k < ss.length) (hn : okN 3 10000000 (ss[k]?.getD noI).n (ss[k]?.getD noI).x = false) : partsB ss = false := by
  unfold partsB
  rw [List.all_eq_false]
  refine ⟨ss[k], List.getElem_mem h, ?_⟩
  rw [List.getElem?_eq_getElem h] at hn
  simpa using hn
theorem partsB_at {ss : List IV} {k : Nat} (h : k < ss.length) (hp : partsB ss = true) : okN 3 10000000 (ss[k]?.getD noI).n (ss[k]?.getD noI).x = true := by
  cases hn : okN 3 10000000 (ss[k]?.getD noI).n (ss[k]?.getD noI).x
  · rw [partsB_false h hn] at hp; cases hp
  · rfl

set_option maxHeartbeats 800000 in
theorem sparts_any (ad : Option Addr) (N cap : Nat) (ss : List IV) (w : World) (hN : ss.length = N) (hF : ISG w ad ss) (hN1 : N ≤ 1048576) :
    Calls Try.prog 73 #[.slice ad N cap] w fun e w' => e = .returned (.bool (partsB ss)) ∧ w' = w := by
  have HN : Hid (ss.length = N) := hN
  clear hN
  go_enter Try.func73, Try.ntmps73
  go_wp2_with fail
  go_loop [3] (fun i => ∃ k : Nat, k ≤ N ∧ i = .int .i64 k ∧ partsB (ss.take k) = true) (fun i => N - (intOf i).toNat)
  case atStart => exact ⟨0, Nat.zero_le _, rfl, rfl⟩
  case round =>
    obtain ⟨k, hk, rfl, hall⟩ := hrel
    have HA : Hid _ := hall
    clear hall
    by_cases hlt : k < N
    · obtain ⟨b, off, rfl, hc, hr⟩ := hF k (by rw [HN.out]; exact hlt)
      have H1 : Hid _ := partsB_step (ss := ss) (k := k) (by rw [HN.out]; exact hlt) HA.out
      have H2 : Hid _ := partsB_false (ss := ss) (k := k) (by rw [HN.out]; exact hlt)
      generalize HG : ss[k]?.getD noI = g at *
      clear HG hF HA
      obtain ⟨ga, gn, gcap, gx⟩ := g
      have hc' : w.cell? ⟨b, off + k, none⟩ = some (.slice ga gn gcap) := hc
      clear hc
      cases he : okN 3 10000000 gn gx
      · go_wp2_with fail
        refine (all_any _ _ _ gx _ _ _ hr.1 hr.2 (by omega) (by omega)).mono ?_
        rintro e w1 ⟨rfl, rfl⟩
        rw [he]
        go_wp2
        go_ret
        exact ⟨ret_bool (by rw [H2.out he]), rfl⟩
      · go_wp2_with fail
        refine (all_any _ _ _ gx _ _ _ hr.1 hr.2 (by omega) (by omega)).mono ?_
        rintro e w1 ⟨rfl, rfl⟩
        rw [he]
        go_wp2
        go_round
        case rel => exact ⟨k + 1, by omega, by go_num, H1.out he⟩
        case measure => simp [intOf]; omega
    · go_wp2
      go_ret
      exact ⟨ret_bool (by rw [partsB_end (by rw [HN.out]; omega) HA.out]), rfl⟩

set_option maxHeartbeats 800000 in
theorem iparts_any (ad : Option Addr) (N cap : Nat) (ss : List IV) (w : World) (hN : ss.length = N) (hF : ISG w ad ss) (hN1 : N ≤ 1048576) :
    Calls Try.prog 110 #[.slice ad N cap] w fun e w' => e = .returned (.bool (partsB ss)) ∧ w' = w := by
  have HN : Hid (ss.length = N) := hN
  clear hN
  go_enter Try.func110, Try.ntmps110
  go_wp2_with fail
  go_loop [4, 7] (fun _ i => ∃ k : Nat, k ≤ N ∧ i = .int .i64 k ∧ partsB (ss.take k) = true) (fun _ i => N - (intOf i).toNat)
  case atStart => exact ⟨0, Nat.zero_le _, rfl, rfl⟩
  case round =>
    obtain ⟨k, hk, rfl, hall⟩ := hrel
    have HA : Hid _ := hall
    clear hall
    by_cases hlt : k < N
    · obtain ⟨b, off, rfl, hc, hr⟩ := hF k (by rw [HN.out]; exact hlt)
      have H1 : Hid _ := partsB_step (ss := ss) (k := k) (by rw [HN.out]; exact hlt) HA.out
      have H2 : Hid _ := partsB_false (ss := ss) (k := k) (by rw [HN.out]; exact hlt)
      generalize HG : ss[k]?.getD noI = g at *
      clear HG hF HA
      obtain ⟨ga, gn, gcap, gx⟩ := g
      have hc' : w.cell? ⟨b, off + k, none⟩ = some (.slice ga gn gcap) := hc
      clear hc
      by_cases hn3 : (gn : Int) = 3
      · have hn3' : ((gn : Int) != 3) = false := by simp [hn3]
        have H3 : Hid ((gn : Int) = 3) := hn3
        clear hn3
        cases he : allB 10000000 gx
        · go_wp2_with fail
          refine (within_any _ _ _ gx _ _ hr.1 hr.2 (by omega) (by omega)).mono ?_
          rintro e w1 ⟨rfl, rfl⟩
          rw [he]
          go_wp2
          go_ret
          exact ⟨ret_bool (by rw [H2.out (by rw [okN_is H3.out, he])]), rfl⟩
        · go_wp2_with fail
          refine (within_any _ _ _ gx _ _ hr.1 hr.2 (by omega) (by omega)).mono ?_
          rintro e w1 ⟨rfl, rfl⟩
          rw [he]
          go_wp2
          go_round
          case rel => exact ⟨k + 1, by omega, by go_num, H1.out (by rw [okN_is H3.out, he])⟩
          case measure => simp [intOf]; omega
      · have hn3' : ((gn : Int) != 3) = true := by simp [hn3]
        have H3 : Hid (¬ (gn : Int) = 3) := hn3
        clear hn3
        go_wp2
        go_ret
        exact ⟨ret_bool (by rw [H2.out (okN_not H3.out)]), rfl⟩
    · go_wp2
      go_ret
      exact ⟨ret_bool (by rw [partsB_end (by rw [HN.out]; omega) HA.out]), rfl⟩

theorem imay_any (a : Option Addr) (n cap : Nat) (zs : List Int) (w : World) (h : Ints w a n zs) (hn : n ≤ 1048576) :
    Calls Try.prog 111 #[.slice a n cap] w fun e w' => e = .returned (.bool (okN 3 20000 n zs)) ∧ w' = w := by
  by_cases hc : (n : Int) = 3
  · have hc' : ((n : Int) == 3) = true := by simp [hc]
    have HC : Hid ((n : Int) = 3) := hc
    clear hc
    go_enter Try.func111, Try.ntmps111
    go_wp2_with fail
    refine (within_any _ _ _ zs _ _ h hn (by omega) (by omega)).mono ?_
    rintro e w' ⟨rfl, rfl⟩
    go_wp2
    go_ret
    exact ⟨ret_bool (by rw [okN_is HC.out]), rfl⟩
  · have hc' : ((n : Int) == 3) = false := by simpa using hc
    go_enter Try.func111, Try.ntmps111
    go_wp2
    go_ret
    exact ⟨ret_bool (by rw [okN_not hc]), rfl⟩

end Go.Proofs.Ytjggppnffkcmbaa
namespace Go.Proofs.Ytjggppnffkcmbaa
open Go.RowKit Go.Deep
set_option linter.unusedVariables false

/-- What a site knows is ok. -/
def viewB (n m : Nat) (C D : List Int) (ss : List IV) (s : Int) (k : Nat) (E : List Int) : Bool := trtB n m C D && (partsB ss && (inB s 0 ((m : Int) - 1) && okN 3 20000 k E))

/-- What is added keeps within what is given. -/
def keepsB (g : Int) (E : List Int) (ss : List IV) : Bool := ss.all fun p => inB (dot p.x E 3) (-g) g
theorem keepsB_step {g : Int} {E : List Int} {ss : List IV} {k : Nat} (h : k < ss.length) (h1 : keepsB g E (ss.take k) = true) (h2 : inB (dot (ss[k]?.getD noI).x E 3) (-g) g = true) : keepsB g E (ss.take (k + 1)) = true := by
  unfold keepsB at *
  rw [List.take_succ_eq_append_getElem h, List.all_append, h1]
  rw [List.getElem?_eq_getElem h] at h2
  simpa using h2
theorem keepsB_end {g : Int} {E : List Int} {ss : List IV} {k : Nat} (h : ss.length ≤ k) (h1 : keepsB g E (ss.take k) = true) : keepsB g E ss = true := by
  rwa [List.take_of_length_le h] at h1
theorem keepsB_false {g : Int} {E : List Int} {ss : List IV} {k : Nat} (h : k < ss.length) (hn : inB (dot (ss[k]?.getD noI).x E 3) (-g) g = false) : keepsB g E ss = false := by
  unfold keepsB
  rw [List.all_eq_false]
  refine ⟨ss[k], List.getElem_mem h, ?_⟩
  rw [List.getElem?_eq_getElem h] at hn
  simpa using hn

theorem viewB_elim {n m : Nat} {C D : List Int} {ss : List IV} {s : Int} {k : Nat} {E : List Int} (h : viewB n m C D ss s k E = true) :
    n = 3 ∧ bnd 10000 C ∧ 1 ≤ m ∧ m ≤ 3 ∧ partsB ss = true ∧ 0 ≤ s ∧ s < m ∧ k = 3 ∧ bnd 20000 E ∧ (∀ i : Nat, i < D.length → 0 ≤ D[i]?.getD 0 ∧ D[i]?.getD 0 ≤ 50) := by
  simp only [viewB, trtB, Bool.and_eq_true] at h
  obtain ⟨⟨h1, h2, h3⟩, h4, h5, h6⟩ := h
  have a := okN_elim (by omega) h1
  have b := okN_elim (by omega) h6
  have c := inB_iff.1 h2
  have d := inB_iff.1 h5
  refine ⟨by omega, a.2, by omega, by omega, h4, d.1, by omega, by omega, b.2, fun i hi => ?_⟩
  unfold betB at h3
  rw [List.all_eq_true] at h3
  have := inB_iff.1 (h3 D[i] (List.getElem_mem hi))
  rw [List.getElem?_eq_getElem hi]
  simpa using this

/-- Whether what a site has added keeps within a treaty. -/
def keepB (n m : Nat) (C D : List Int) (ss : List IV) (s : Int) (k : Nat) (E : List Int) : Bool := viewB n m C D ss s k E && keepsB (D[s.toNat]?.getD 0) E ss

theorem place_in (s : Int) (m : Nat) : decide (0 ≤ s ∧ s < (m : Int)) = inB s 0 ((m : Int) - 1) := by
  unfold inB
  apply decide_eq_decide.2
  omega

/-- What a site knows, as a value. -/
abbrev viewV (a : Option Addr) (n cap : Nat) (c : Option Addr) (m cap' : Nat) (ad : Option Addr) (N pc : Nat) (s : Int) (e : Option Addr) (k ec : Nat) (u : Option Addr) (l uc : Nat) : Value := .agg #[.slice a n cap, .slice c m cap', .slice ad N pc, .int .i64 s, .slice e k ec, .slice u l uc]

theorem Cel.sixK {w : World} {B : Nat} {v0 v1 v2 v3 v4 v5 : Value} {t : TypeId} (h : Cel w B [v0, v1, v2, v3, v4, v5] t) : w.cell? ⟨B, 0, none⟩ = some v0 ∧ w.cell? ⟨B, 1, none⟩ = some v1 ∧ w.cell? ⟨B, 2, none⟩ = some v2 ∧ w.cell? ⟨B, 3, none⟩ = some v3 ∧ w.cell? ⟨B, 4, none⟩ = some v4 ∧ w.cell? ⟨B, 5, none⟩ = some v5 := ⟨h.cell 0, h.cell 1, h.cell 2, h.cell 3, h.cell 4, h.cell 5⟩

set_option maxHeartbeats 1600000 in
theorem vok_any (a : Option Addr) (n cap : Nat) (c : Option Addr) (m cap' : Nat) (ad : Option Addr) (N pc : Nat) (s : Int) (e : Option Addr) (k ec : Nat) (u : Option Addr) (l uc : Nat) (C D E : List Int) (ss : List IV) (w : World)
    (hC : Ints w a n C) (hD : Ints w c m D) (hE : Ints w e k E) (hN : ss.length = N) (hF : ISG w ad ss) (hn : n ≤ 1048576) (hm : m ≤ 1048576) (hk : k ≤ 1048576) (hN1 : N ≤ 1048576) :
    Calls Try.prog 70 #[viewV a n cap c m cap' ad N pc s e k ec u l uc] w fun r w' => r = .returned (.bool (viewB n m C D ss s k E)) ∧ Below w.heap.size w w' := by
  have HN : Hid (ss.length = N) := hN
  clear hN
  have q0 := Cel.new w [.slice a n cap, .slice c m cap', .slice ad N pc, .int .i64 s, .slice e k ec, .slice u l uc] 94
  have b0 := (Below.refl w.heap.size w).alloc (Nat.le_refl _) (.cells #[.slice a n cap, .slice c m cap', .slice ad N pc, .int .i64 s, .slice e k ec, .slice u l uc] 94)
  cases h1 : trtB n m C D
  · go_enter Try.func70, Try.ntmps70
    go_wp2_with fail
    refine (itrt_any _ _ _ _ _ _ C D _ (hC.below b0) (hD.below b0) hn hm).mono ?_
    rintro r w1 ⟨rfl, b1⟩
    have B1 := b0.trans (b1.mono b0.size)
    rw [h1]
    go_wp2
    go_ret
    exact ⟨ret_bool (by simp [viewB, h1]), B1⟩
  · cases h2 : partsB ss
    · go_enter Try.func70, Try.ntmps70
      go_wp2_with fail
      refine (itrt_any _ _ _ _ _ _ C D _ (hC.below b0) (hD.below b0) hn hm).mono ?_
      rintro r w1 ⟨rfl, b1⟩
      have B1 := b0.trans (b1.mono b0.size)
      obtain ⟨c0, c1, c2, c3, c4, c5⟩ := (q0.below b1).sixK
      rw [h1]
      go_wp2_with fail
      refine (iparts_any _ _ _ ss _ HN.out (hF.below B1) hN1).mono ?_
      rintro r w2 ⟨rfl, rfl⟩
      rw [h2]
      go_wp2
      go_ret
      exact ⟨ret_bool (by simp [viewB, h2]), B1⟩
    · cases h3 : inB s 0 ((m : Int) - 1)
      · go_enter Try.func70, Try.ntmps70
        go_wp2_with fail
        refine (itrt_any _ _ _ _ _ _ C D _ (hC.below b0) (hD.below b0) hn hm).mono ?_
        rintro r w1 ⟨rfl, b1⟩
        have B1 := b0.trans (b1.mono b0.size)
        obtain ⟨c0, c1, c2, c3, c4, c5⟩ := (q0.below b1).sixK
        rw [h1]
        go_wp2_with fail
        refine (iparts_any _ _ _ ss _ HN.out (hF.below B1) hN1).mono ?_
        rintro r w2 ⟨rfl, rfl⟩
        rw [h2]
        go_wp2_with fail
        refine (place_any _ _ _).mono ?_
        rintro r w3 ⟨rfl, rfl⟩
        rw [place_in, h3]
        go_wp2
        go_ret
        exact ⟨ret_bool (by simp [viewB, h3]), B1⟩
      · go_enter Try.func70, Try.ntmps70
        go_wp2_with fail
        refine (itrt_any _ _ _ _ _ _ C D _ (hC.below b0) (hD.below b0) hn hm).mono ?_
        rintro r w1 ⟨rfl, b1⟩
        have B1 := b0.trans (b1.mono b0.size)
        obtain ⟨c0, c1, c2, c3, c4, c5⟩ := (q0.below b1).sixK
        rw [h1]
        go_wp2_with fail
        refine (iparts_any _ _ _ ss _ HN.out (hF.below B1) hN1).mono ?_
        rintro r w2 ⟨rfl, rfl⟩
        rw [h2]
        go_wp2_with fail
        refine (place_any _ _ _).mono ?_
        rintro r w3 ⟨rfl, rfl⟩
        rw [place_in, h3]
        go_wp2_with fail
        refine (imay_any _ _ _ E _ (hE.below B1) hk).mono ?_
        rintro r w4 ⟨rfl, rfl⟩
        go_wp2
        go_ret
        exact ⟨ret_bool (by simp [viewB, h1, h2, h3]), B1⟩

end Go.Proofs.Ytjggppnffkcmbaa
namespace Go.Proofs.Ytjggppnffkcmbaa
open Go.RowKit Go.Deep
set_option linter.unusedVariables false

/-- What hangs on what is held alone is the same of a copy. -/
theorem copies_pair {ss ts : List IV} (hl : ts.length = ss.length) (h : copiesIS ss ts) : ts.map (fun p => (p.n, p.x)) = ss.map (fun p => (p.n, p.x)) := by
  apply List.ext_getElem?
  intro i
  by_cases hi : i < ts.length
  · have h0 := h i hi
    have h1 := h0.1
    have h2 := h0.2
    rw [List.getElem?_eq_getElem hi, List.getElem?_eq_getElem (by omega)] at h1 h2
    simp only [Option.getD_some] at h1 h2
    rw [List.getElem?_map, List.getElem?_map, List.getElem?_eq_getElem hi, List.getElem?_eq_getElem (by omega)]
    simp [h1, h2]
  · rw [List.getElem?_eq_none (by simp; omega), List.getElem?_eq_none (by simp; omega)]
theorem partsB_copy {ss ts : List IV} (hl : ts.length = ss.length) (h : copiesIS ss ts) : partsB ts = partsB ss := by
  have e : ∀ l : List IV, partsB l = (l.map (fun p => (p.n, p.x))).all fun q => okN 3 10000000 q.1 q.2 := fun l => by rw [List.all_map]; rfl
  rw [e, e, copies_pair hl h]
theorem keepsB_copy {g : Int} {E : List Int} {ss ts : List IV} (hl : ts.length = ss.length) (h : copiesIS ss ts) : keepsB g E ts = keepsB g E ss := by
  have e : ∀ l : List IV, keepsB g E l = (l.map (fun p => (p.n, p.x))).all fun q => inB (dot q.2 E 3) (-g) g := fun l => by rw [List.all_map]; rfl
  rw [e, e, copies_pair hl h]
theorem viewB_copy {n m : Nat} {C D : List Int} {ss ts : List IV} {s : Int} {k : Nat} {E : List Int} (hl : ts.length = ss.length) (h : copiesIS ss ts) : viewB n m C D ts s k E = viewB n m C D ss s k E := by
  rw [viewB, viewB, partsB_copy hl h]
theorem keepB_copy {n m : Nat} {C D : List Int} {ss ts : List IV} {s : Int} {k : Nat} {E : List Int} (hl : ts.length = ss.length) (h : copiesIS ss ts) : keepB n m C D ts s k E = keepB n m C D ss s k E := by
  rw [keepB, keepB, viewB_copy hl h, keepsB_copy hl h]
theorem copies_sameI {ss ts us : List IV} {N : Nat} (h1 : ts.length = N) (h2 : us.length = N) (c1 : copiesIS ss ts) (c2 : copiesIS ss us) : ∀ i, i < N → sameI (ts[i]?.getD noI) (us[i]?.getD noI) := fun i hi => by
  have a := (c1 i (by omega)).2
  have b := (c2 i (by omega)).2
  show _ = _
  rw [a, b]
theorem Cel.two {w : World} {B : Nat} {v0 v1 : Value} {t : TypeId} (h : Cel w B [v0, v1] t) : w.cell? ⟨B, 0, none⟩ = some v0 ∧ w.cell? ⟨B, 1, none⟩ = some v1 := ⟨h.cell 0, h.cell 1⟩
theorem Cel.three {w : World} {B : Nat} {v0 v1 v2 : Value} {t : TypeId} (h : Cel w B [v0, v1, v2] t) : w.cell? ⟨B, 0, none⟩ = some v0 ∧ w.cell? ⟨B, 1, none⟩ = some v1 ∧ w.cell? ⟨B, 2, none⟩ = some v2 := ⟨h.cell 0, h.cell 1, h.cell 2⟩

end Go.Proofs.Ytjggppnffkcmbaa
namespace Go.Proofs.Ytjggppnffkcmbaa
open Go.RowKit
set_option linter.unusedVariables false

theorem zip_take {xs ys : List Int} {k : Nat} (hx : k < xs.length) (hy : k < ys.length) : (List.zipWith (· + ·) xs ys).take (k + 1) = (List.zipWith (· + ·) xs ys).take k ++ [xs[k]?.getD 0 + ys[k]?.getD 0] := by
  have hl : k < (List.zipWith (· + ·) xs ys).length := by rw [List.length_zipWith]; omega
  rw [List.take_succ_eq_append_getElem hl, List.getElem_zipWith, List.getElem?_eq_getElem hx, List.getElem?_eq_getElem hy]
  rfl

set_option maxHeartbeats 1600000 in
theorem sum5_any (a c : Option Addr) (cap cap' : Nat) (xs ys : List Int) (w : World) (h : Ints w a 3 xs) (h' : Ints w c 3 ys) (hM : bnd 1000000000 xs) (hM' : bnd 1000000000 ys) :
    Calls Try.prog 77 #[.slice a 3 cap, .slice c 3 cap'] w fun e w' => ∃ v, e = .returned v ∧ JA w v (List.zipWith (· + ·) xs ys) w' := by
  have HX : Hid (xs.length = 3) := h.1
  have HY : Hid (ys.length = 3) := h'.1
  obtain ⟨i0, hi, hz0, hz1, hz2⟩ := info_parts Try.infoInt
  go_enter Try.func77, Try.ntmps77
  go_wp2_with fail
  go_loopw [5, 6] (fun v i wr => ∃ k : Nat, k ≤ 3 ∧ i = .int .i64 k ∧ ∃ zs : List Int, zs.length = k ∧ zs = (List.zipWith (· + ·) xs ys).take k ∧ JA w v zs wr) (fun _ i _ => 3 - (intOf i).toNat)
  case atStart => exact ⟨0, by omega, rfl, [], rfl, rfl, JA.lit w⟩
  case round =>
    obtain ⟨k, hk, rfl, zs, hzl, hzs, j⟩ := hrel
    have HL : Hid (zs.length = k) := hzl
    have HZS : Hid (zs = (List.zipWith (· + ·) xs ys).take k) := hzs
    clear hzl hzs
    by_cases hlt : k < 3
    · obtain ⟨b, off, rfl, hcell⟩ := h.pos (by omega)
      obtain ⟨b', off', rfl, hcell'⟩ := h'.pos (by omega)
      have c0 : w.cell? ⟨b, off + k, none⟩ = some (.int .i64 (xs[k]?.getD 0)) := by rw [hcell k hlt]; simp
      have c1 : w.cell? ⟨b', off' + k, none⟩ = some (.int .i64 (ys[k]?.getD 0)) := by rw [hcell' k hlt]; simp
      have HP : Hid _ := zip_take (xs := xs) (ys := ys) (k := k) (by rw [HX.out]; exact hlt) (by rw [HY.out]; exact hlt)
      obtain ⟨m1, m2⟩ := hM k
      obtain ⟨m3, m4⟩ := hM' k
      generalize HG : xs[k]?.getD 0 = x at *
      generalize HG' : ys[k]?.getD 0 = y at *
      clear HG HG' hcell hcell' hM hM' h h'
      have KP : Hid (∀ W : World, Below w.heap.size w W → W.cell? ⟨b, off + k, none⟩ = some (.int .i64 x) ∧ W.cell? ⟨b', off' + k, none⟩ = some (.int .i64 y)) := fun W hW =>
        ⟨by rw [hW.cell (p := ⟨b, off + k, none⟩) (block_lt c0)]; exact c0, by rw [hW.cell (p := ⟨b', off' + k, none⟩) (block_lt c1)]; exact c1⟩
      have hSS := And.intro (KP.out _ j.b.drew) (True.intro)
      clear c0 c1
      have hlt' : (k : Int) < 3 := by omega
      have hwr : IntKind.i64.wrap (x + y) = x + y := wrap_id (by omega) (by omega)
      go_upto_region 5 with fail
      refine wp_region_ends (fun w' => w'.cell? ⟨b, off + k, none⟩ = some (.int .i64 x) ∧ w'.cell? ⟨b', off' + k, none⟩ = some (.int .i64 y)) (fun _ => True) 12 (by kernel_rfl) ?_
      refine wpAnyE_take0 (i := 0) (v := ?v0) rfl (by kernel_rfl) (by kernel_rfl) (by kernel_rfl) (by decide) (fun _ _ _ h => h) (Or.inl ⟨by rfl, ?hy0⟩) hSS ?_
      case hy0 => (intro wz hSw; (try dsimp only at hSw); go_simp; try (with_reducible rfl))
      refine wpAnyE_take0 (i := 1) (v := ?v1) rfl (by kernel_rfl) (by kernel_rfl) (by kernel_rfl) (by decide) (fun _ _ _ h => h) (Or.inl ⟨by rfl, ?hy1⟩) hSS ?_
      case hy1 => (intro wz hSw; (try dsimp only at hSw); go_simp; try (with_reducible rfl))
      refine wpAnyE_take0 (i := 2) (v := ?v2) rfl (by kernel_rfl) (by kernel_rfl) (by kernel_rfl) (by decide) (fun _ _ _ h => h) (Or.inl ⟨by rfl, ?hy2⟩) hSS ?_
      case hy2 => (intro wz hSw; (try dsimp only at hSw); go_simp; try (with_reducible rfl))
      refine wpAnyE_take0 (i := 3) (v := ?v3) rfl (by kernel_rfl) (by kernel_rfl) (by kernel_rfl) (by decide) (fun _ _ _ h => h) (Or.inl ⟨by rfl, ?hy3⟩) hSS ?_
      case hy3 => (intro wz hSw; (try dsimp only at hSw); go_simp; try (with_reducible rfl))
      refine wpAnyE_take0 (i := 4) (v := ?v4) rfl (by kernel_rfl) (by kernel_rfl) (by kernel_rfl) (by decide) (fun _ _ _ h => h) (Or.inl ⟨by rfl, ?hy4⟩) hSS ?_
      case hy4 => (intro wz hSw; (try dsimp only at hSw); go_simp; try (with_reducible rfl))
      refine wpAnyE_take0 (i := 5) (v := ?v5) rfl (by kernel_rfl) (by kernel_rfl) (by kernel_rfl) (by decide) (fun _ _ _ h => h) (Or.inl ⟨by rfl, ?hy5⟩) hSS ?_
      case hy5 => (intro wz hSw; (try dsimp only at hSw); go_simp; try (with_reducible rfl))
      refine wpAnyE_take0 (i := 6) (v := ?v6) rfl (by kernel_rfl) (by kernel_rfl) (by kernel_rfl) (by decide) (fun _ _ _ h => h) (Or.inl ⟨by rfl, ?hy6⟩) hSS ?_
      case hy6 => (intro wz hSw; (try dsimp only at hSw); go_simp; try (with_reducible rfl))
      refine wpAnyE_take0 (i := 7) (v := ?v7) rfl (by kernel_rfl) (by kernel_rfl) (by kernel_rfl) (by decide) (fun _ _ _ h => h) (Or.inl ⟨by rfl, ?hy7⟩) hSS ?_
      case hy7 => (intro wz hSw; (try dsimp only at hSw); go_simp; try (with_reducible rfl))
      refine wpAnyE_take0 (i := 8) (v := ?v8) rfl (by kernel_rfl) (by kernel_rfl) (by kernel_rfl) (by decide) (fun _ _ _ h => h) (Or.inl ⟨by rfl, ?hy8⟩) hSS ?_
      case hy8 => (intro wz hSw; (try dsimp only at hSw); go_simp; try (with_reducible rfl))
      refine wpAnyE_take0 (i := 9) (v := ?v9) rfl (by kernel_rfl) (by kernel_rfl) (by kernel_rfl) (by decide) (fun _ _ _ h => h) (Or.inl ⟨by rfl, ?hy9⟩) hSS ?_
      case hy9 => (intro wz hSw; (try dsimp only at hSw); go_simp; try (with_reducible rfl))
      refine wpAnyE_one (i := 10) (by kernel_rfl) rfl (fun K hK => ?_)
      go_simp
      have j1 := j.below (W' := wr.drew) ((Below.refl _ _).drew)
      have jo := j1.o
      rw [HL.out] at jo
      have j2 := j1.alloc (.cells #[.int .i64 (x + y)] 3)
      have hjb := j1.b.size
      refine hK.out _ _ ⟨KP.out _ j2.b, fun _ => trivial⟩ ?_
      clear hK K hSS
      refine wpAnyE_one (i := 11) (by kernel_rfl) rfl (fun K hK => ?_)
      rw [if_pos (by rfl)]
      refine wp_append_lies _ (.tmp 12) (.tmp 22) 26 rfl w.heap.size 3 i0 (.int .i64 0) 1 8 Try.underlying26 hi hz0 hz1 hz2 rfl (by decide) _ k _ (by rfl) (jo.alloc _) ⟨wr.heap.size, 0, none⟩ 1 1 [.int .i64 (x + y)] (by rfl) (by rfl) (news1 wr.drew _ _) (one1 _ _) (by omega) (by unfold maxLen; omega) (by omega) j2.b.size _ rfl ?_
      intro g cp2 w6 hown hgrow hat hlt6
      have j6 := j1.app HL.out hown hgrow
      refine hK.out _ _ ⟨KP.out _ j6.b, fun _ => trivial⟩ ?_
      clear hK K hown hgrow hat j1 j2 jo j
      refine wpAnyE_one (i := 12) (by kernel_rfl) rfl (fun K hK => ?_)
      go_simp
      refine hK.out _ _ ⟨KP.out _ j6.b, fun _ => trivial⟩ ?_
      clear hK K
      refine wpAnyE_done (by kernel_rfl) ?_ _
      go_wp2
      go_roundw
      case rel => exact ⟨k + 1, by omega, by go_num, _, by rw [List.length_append, HL.out]; rfl, by rw [HP.out, HZS.out], j6⟩
      case measure => simp [intOf]; omega
    · obtain rfl : k = 3 := by omega
      have e : zs = List.zipWith (· + ·) xs ys := by rw [HZS.out, List.take_of_length_le (by rw [List.length_zipWith, HX.out, HY.out]; omega)]
      subst e
      go_wp2
      go_ret
      exact ⟨_, rfl, j⟩

set_option maxHeartbeats 1600000 in
theorem sums_any (a c : Option Addr) (cap cap' : Nat) (xs ys : List Int) (M M' : Int) (w : World) (h : Ints w a 3 xs) (h' : Ints w c 3 ys) (hM : bnd M xs) (hM' : bnd M' ys) (hb : M ≤ 2000000000000000000) (hb' : M' ≤ 2000000000000000000) :
    Calls Try.prog 59 #[.slice a 3 cap, .slice c 3 cap'] w fun e w' => ∃ a' cap2 B, e = .returned (.slice a' 3 cap2) ∧ Below w.heap.size w w' ∧ OwnX w' a' B 3 (List.zipWith (· + ·) xs ys) ∧ w.heap.size ≤ B := by
  have HX : Hid (xs.length = 3) := h.1
  go_enter Try.func59, Try.ntmps59
  go_wp2_with fail
  refine (clone_any _ _ _ xs _ h (by omega) (by omega)).mono ?_
  rintro e w1 ⟨v, rfl, j⟩
  have hc1 := h'.below j.b
  have B1 := j.b
  obtain ⟨x, cx, B, rfl, hO, hB0⟩ := j.ownx HX.out
  have hB := hB0 (by omega)
  clear j hB0
  go_wp2_with fail
  refine (addX_any _ _ B _ _ _ xs ys M M' _ hO hc1 (fun b o e => by
    obtain ⟨b1, o1, e1, hcell⟩ := h'.pos (by omega)
    rw [e1] at e
    simp only [Option.some.injEq, Addr.mk.injEq, and_true] at e
    have := block_lt (hcell 0 (by omega))
    omega) (by omega) hM hM' hb hb').mono ?_
  rintro e w2 ⟨rfl, t2, hO2⟩
  have B2 : Below w.heap.size w w2 := B1.trans (t2.below B1.size (fun k hk => by rw [hk.1]; exact hB))
  go_wp2
  go_ret
  exact ⟨_, _, B, rfl, B2, hO2, hB⟩

end Go.Proofs.Ytjggppnffkcmbaa
namespace Go.Proofs.Ytjggppnffkcmbaa
open Go.RowKit Go.Deep
set_option linter.unusedVariables false

theorem others_bnd {D : List Int} {s : Int} (bD : ∀ i : Nat, i < D.length → 0 ≤ D[i]?.getD 0 ∧ D[i]?.getD 0 ≤ 50) : ∀ k : Nat, k ≤ D.length → k ≤ 3 → 0 ≤ others D s k ∧ others D s k ≤ 50 * k
  | 0, _, _ => by simp [others]
  | k + 1, hk, h3 => by
    have ih := others_bnd (s := s) bD k (by omega) (by omega)
    have d := bD k (by omega)
    rw [others]
    split
    · omega
    · rw [IntWalk.wrap64_in _ ⟨by omega, by omega⟩]
      omega

theorem zero_part {C : List Int} (hl : C.length = 3) (b : bnd 10000000 C) : eqB (partL C) [0, 0, 0] = allB 0 C := by
  match C, hl with
  | [x, y, z], _ =>
    have b0 := b 0
    have b1 := b 1
    have b2 := b 2
    simp only [List.getElem?_cons_zero, List.getElem?_cons_succ, Option.getD_some] at b0 b1 b2
    have hs : sg [x, y, z] = 1 ∨ sg [x, y, z] = -1 := by unfold sg; split <;> simp
    have e : partL [x, y, z] = [wrap64 (sg [x, y, z] * x), wrap64 (sg [x, y, z] * y), wrap64 (sg [x, y, z] * z)] := rfl
    rw [e]
    generalize sg [x, y, z] = g at *
    rw [eqB, allB, Bool.eq_iff_iff, decide_eq_true_eq]
    simp only [List.cons.injEq, and_true, List.all_cons, List.all_nil, Bool.and_true, Bool.and_eq_true, inB_iff]
    rcases hs with rfl | rfl
    · rw [IntWalk.wrap64_in _ ⟨by omega, by omega⟩, IntWalk.wrap64_in _ ⟨by omega, by omega⟩, IntWalk.wrap64_in _ ⟨by omega, by omega⟩]
      omega
    · rw [IntWalk.wrap64_in _ ⟨by omega, by omega⟩, IntWalk.wrap64_in _ ⟨by omega, by omega⟩, IntWalk.wrap64_in _ ⟨by omega, by omega⟩]
      omega

/-- What must be ok. -/
def bokB (n m : Nat) (C D : List Int) (ss : List IV) (s : Int) (k : Nat) (E : List Int) (fn fm : Nat) (FC FD : List Int) (FK : Int) (l : Nat) (U : List Int) : Bool := viewB n m C D ss s k E && (formB fn fm FC FD FK && okN 2 9 l U)
/-- The least and the most, if a site knows it. -/
def bnds (m : Nat) (C D : List Int) (ss : List IV) (s : Int) (E : List Int) (FC FD : List Int) (FK : Int) (U : List Int) : Int × Int × Bool :=
  if eqB (partL FC) [0, 0, 0] = true then (atV FC FD FK (List.zipWith (· + ·) C E) U, atV FC FD FK (List.zipWith (· + ·) C E) U, true)
  else if hasI ss (partL FC) < 0 then (0, 0, false)
  else (atV FC FD FK (List.zipWith (· + ·) C E) U - others D s m, atV FC FD FK (List.zipWith (· + ·) C E) U + others D s m, true)
def bansB (n m : Nat) (C D : List Int) (ss : List IV) (s : Int) (k : Nat) (E : List Int) (fn fm : Nat) (FC FD : List Int) (FK : Int) (l : Nat) (U : List Int) : Int × Int × Bool :=
  if bokB n m C D ss s k E fn fm FC FD FK l U = true then bnds m C D ss s E FC FD FK U else (0, 0, false)
def ansV (x : Int × Int × Bool) : Value := .tuple #[.int .i64 x.1, .int .i64 x.2.1, .bool x.2.2]

theorem hasI_copy {ss ts : List IV} {part : List Int} (hl : ts.length = ss.length) (h : copiesIS ss ts) : hasI ts part = hasI ss part := by
  have e : ∀ l : List IV, l.map IV.x = (l.map (fun p => (p.n, p.x))).map (fun q => q.2) := fun l => by rw [List.map_map]; rfl
  rw [hasI, hasI, e, e, copies_pair hl h]
theorem bansB_copy {n m : Nat} {C D : List Int} {ss ts : List IV} {s : Int} {k : Nat} {E : List Int} {fn fm : Nat} {FC FD : List Int} {FK : Int} {l : Nat} {U : List Int} (hl : ts.length = ss.length) (h : copiesIS ss ts) : bansB n m C D ts s k E fn fm FC FD FK l U = bansB n m C D ss s k E fn fm FC FD FK l U := by
  rw [bansB, bansB, bokB, bokB, viewB_copy hl h, bnds, bnds, hasI_copy hl h]

theorem JA.slice3 {w W : World} {v : Value} {xs : List Int} (j : JA w v xs W) (hn : xs.length = 3) : ∃ a cap, v = .slice a 3 cap ∧ Ints W a 3 xs := by
  obtain ⟨a, cap, B, rfl, ho, _⟩ := j.ownx hn
  exact ⟨a, cap, rfl, ho.ints⟩

set_option maxHeartbeats 3200000 in
theorem vbounds_any (a : Option Addr) (cap : Nat) (c : Option Addr) (m cap' : Nat) (ad : Option Addr) (N pc : Nat) (s : Int) (e : Option Addr) (ec : Nat) (u : Option Addr) (uc : Nat) (fa : Option Addr) (fcap : Nat) (fc : Option Addr) (fcap' : Nat) (FK : Int) (C D E U FC FD : List Int) (ss : List IV) (w : World)
    (hC : Ints w a 3 C) (hD : Ints w c m D) (hE : Ints w e 3 E) (hU : Ints w u 2 U) (hA : Ints w fa 3 FC) (hB : Ints w fc 2 FD) (hN : ss.length = N) (hF : ISG w ad ss) (hN1 : N ≤ 1048576) (hm3 : m ≤ 3)
    (bC : bnd 10000 C) (bE : bnd 20000 E) (bU : bnd 9 U) (bA : bnd 10000000 FC) (bB : bnd 10000000 FD) (bK : -10000000 ≤ FK ∧ FK ≤ 10000000) (bD : ∀ i : Nat, i < D.length → 0 ≤ D[i]?.getD 0 ∧ D[i]?.getD 0 ≤ 50) :
    Calls Try.prog 71 #[viewV a 3 cap c m cap' ad N pc s e 3 ec u 2 uc, formV fa 3 fcap fc 2 fcap' FK] w fun r w' => ∃ x, x = bnds m C D ss s E FC FD FK U ∧ r = .returned (.agg #[.int .i64 x.1, .int .i64 x.2.1, .bool x.2.2]) ∧ Below w.heap.size w w' := by
  have HN : Hid (ss.length = N) := hN
  have HZ : Hid ((List.zipWith (· + ·) C E).length = 3) := by show _ = _; rw [List.length_zipWith, hC.1, hE.1]; rfl
  have bV : bnd 30000 (List.zipWith (· + ·) C E) := fun i => by have := bnd_zip (by rw [hC.1, hE.1]) bC bE i; omega
  have ob := others_bnd (s := s) bD m (by rw [hD.1]; exact Nat.le_refl _) hm3
  have p1 := dot_bnd (bndP_of bA bV (by omega) (by omega)) 3
  have p2 := dot_bnd (bndP_of bB bU (by omega) (by omega)) 2
  have HP : Hid (eqB (partL FC) [0, 0, 0] = allB 0 FC) := zero_part hA.1 bA
  obtain ⟨x, hx⟩ : ∃ x, x = bnds m C D ss s E FC FD FK U := ⟨_, rfl⟩
  have HX : Hid _ := hx
  have HV : Hid (bnd 30000 (List.zipWith (· + ·) C E)) := bV
  obtain ⟨n, hn⟩ : ∃ n, n = atV FC FD FK (List.zipWith (· + ·) C E) U := ⟨_, rfl⟩
  obtain ⟨o, ho⟩ : ∃ o, o = others D s m := ⟨_, rfl⟩
  have n1 : -10000000000000 ≤ n := by rw [hn]; unfold atV; omega
  have n2 : n ≤ 10000000000000 := by rw [hn]; unfold atV; omega
  rw [← ho] at ob
  rw [bnds, ← hn, ← ho] at hx
  have HI : Hid _ := hx
  have HNN : Hid _ := hn
  have HO : Hid _ := ho
  obtain ⟨o1, o2⟩ := ob
  have o3 : o ≤ 150 := by omega
  have BCE : Hid (bnd 10000 C ∧ bnd 20000 E) := ⟨bC, bE⟩
  clear hN hx hn ho o2 p1 p2 bV bD bC bE
  have q_0 := ((Cel.new w [.slice a 3 cap, .slice c m cap', .slice ad N pc, .int .i64 s, .slice e 3 ec, .slice u 2 uc] 94).alloc (.cells #[.slice fa 3 fcap, .slice fc 2 fcap', .int .i64 FK] 34)).alloc (.cells #[.int .i64 0, .int .i64 0, .bool false] 96)
  have f_0 := (Cel.new (w.alloc (.cells #[.slice a 3 cap, .slice c m cap', .slice ad N pc, .int .i64 s, .slice e 3 ec, .slice u 2 uc] 94)) [.slice fa 3 fcap, .slice fc 2 fcap', .int .i64 FK] 34).alloc (.cells #[.int .i64 0, .int .i64 0, .bool false] 96)
  have r_0 := Cel.new ((w.alloc (.cells #[.slice a 3 cap, .slice c m cap', .slice ad N pc, .int .i64 s, .slice e 3 ec, .slice u 2 uc] 94)).alloc (.cells #[.slice fa 3 fcap, .slice fc 2 fcap', .int .i64 FK] 34)) [.int .i64 0, .int .i64 0, .bool false] 96
  have B_0 := (((Below.refl w.heap.size w).alloc (Nat.le_refl _) (.cells #[.slice a 3 cap, .slice c m cap', .slice ad N pc, .int .i64 s, .slice e 3 ec, .slice u 2 uc] 94)).alloc (by simp) (.cells #[.slice fa 3 fcap, .slice fc 2 fcap', .int .i64 FK] 34)).alloc (by simp; omega) (.cells #[.int .i64 0, .int .i64 0, .bool false] 96)
  rw [World.size_alloc] at f_0
  rw [World.size_alloc, World.size_alloc] at r_0
  go_enter Try.func71, Try.ntmps71
  go_upto_region 1 with fail
  obtain ⟨W, hW⟩ : ∃ W, W = ((w.alloc (.cells #[.slice a 3 cap, .slice c m cap', .slice ad N pc, .int .i64 s, .slice e 3 ec, .slice u 2 uc] 94)).alloc (.cells #[.slice fa 3 fcap, .slice fc 2 fcap', .int .i64 FK] 34)).alloc (.cells #[.int .i64 0, .int .i64 0, .bool false] 96) := ⟨_, rfl⟩
  rw [← hW] at q_0 f_0 r_0 B_0 ⊢
  clear hW
  have CC : Hid (∀ X : World, Cel X w.heap.size [.slice a 3 cap, .slice c m cap', .slice ad N pc, .int .i64 s, .slice e 3 ec, .slice u 2 uc] 94 → Cel X (w.heap.size + 1) [.slice fa 3 fcap, .slice fc 2 fcap', .int .i64 FK] 34 → X.cell? ⟨w.heap.size, 0, none⟩ = some (.slice a 3 cap) ∧ X.cell? ⟨w.heap.size, 1, none⟩ = some (.slice c m cap') ∧ X.cell? ⟨w.heap.size, 2, none⟩ = some (.slice ad N pc) ∧ X.cell? ⟨w.heap.size, 3, none⟩ = some (.int .i64 s) ∧ X.cell? ⟨w.heap.size, 4, none⟩ = some (.slice e 3 ec) ∧ X.cell? ⟨w.heap.size, 5, none⟩ = some (.slice u 2 uc) ∧ X.cell? ⟨w.heap.size + 1, 0, none⟩ = some (.slice fa 3 fcap) ∧ X.cell? ⟨w.heap.size + 1, 1, none⟩ = some (.slice fc 2 fcap') ∧ X.cell? ⟨w.heap.size + 1, 2, none⟩ = some (.int .i64 FK)) := fun X h1 h2 => ⟨h1.cell 0, h1.cell 1, h1.cell 2, h1.cell 3, h1.cell 4, h1.cell 5, h2.cell 0, h2.cell 1, h2.cell 2⟩
  have hn0 := CC.out W q_0 f_0
  go_region_held3 (fun w' => w'.cell? ⟨w.heap.size, 0, none⟩ = some (.slice a 3 cap) ∧ w'.cell? ⟨w.heap.size, 1, none⟩ = some (.slice c m cap') ∧ w'.cell? ⟨w.heap.size, 2, none⟩ = some (.slice ad N pc) ∧ w'.cell? ⟨w.heap.size, 3, none⟩ = some (.int .i64 s) ∧ w'.cell? ⟨w.heap.size, 4, none⟩ = some (.slice e 3 ec) ∧ w'.cell? ⟨w.heap.size, 5, none⟩ = some (.slice u 2 uc) ∧ w'.cell? ⟨w.heap.size + 1, 0, none⟩ = some (.slice fa 3 fcap) ∧ w'.cell? ⟨w.heap.size + 1, 1, none⟩ = some (.slice fc 2 fcap') ∧ w'.cell? ⟨w.heap.size + 1, 2, none⟩ = some (.int .i64 FK)) (first | with_reducible assumption | exact hn0)
    (first
      | (go_at_call 59
         refine (sums_any _ _ _ _ C E _ _ _ (by exact hC.below B_0.drew) (by exact hE.below B_0.drew) BCE.out.1 BCE.out.2 (by omega) (by omega)).mono ?_
         rintro ee w1 ⟨va, vc, VB, rfl, bd_1, hO, -⟩
         have b_1 := below_of_drew bd_1
         have B_1 := B_0.trans (b_1.mono B_0.size)
         have q_1 := q_0.below b_1
         have f_1 := f_0.below b_1
         have r_1 := r_0.below b_1
         have hn1 := CC.out w1 q_1 f_1)
      | (go_at_call 53
         refine (iat30_any _ _ _ _ _ FC FD _ _ _ _ (List.zipWith (· + ·) C E) U _ (by exact hA.below B_1) (by exact hB.below B_1) hO.ints (by exact hU.below B_1) bA bB bK HV.out bU).mono ?_
         rintro ee w2 ⟨rfl, b_2⟩
         rw [← HNN.out]
         have B_2 := B_1.trans (b_2.mono B_1.size)
         have q_2 := q_1.below b_2
         have f_2 := f_1.below b_2
         have r_2 := r_1.below b_2
         have hn2 := CC.out w2 q_2 f_2))
  clear hn0 hn1 hO bd_1 b_1 b_2 B_0 B_1 q_0 q_1 f_0 f_1 r_0 r_1
  obtain ⟨k0, k1, k2, k3, k4, k5, k6, k7, k8⟩ := hn2
  cases hz : allB 0 FC
  · go_wp2_with fail
    refine (within_any _ _ _ FC _ _ (hA.below B_2) (by omega) (by omega) (by omega)).mono ?_
    rintro ee w3 ⟨rfl, rfl⟩
    rw [hz]
    go_upto_region 4 with fail
    have hn3 := CC.out _ q_2 f_2
    go_region_held3 (fun w' => w'.cell? ⟨w.heap.size, 0, none⟩ = some (.slice a 3 cap) ∧ w'.cell? ⟨w.heap.size, 1, none⟩ = some (.slice c m cap') ∧ w'.cell? ⟨w.heap.size, 2, none⟩ = some (.slice ad N pc) ∧ w'.cell? ⟨w.heap.size, 3, none⟩ = some (.int .i64 s) ∧ w'.cell? ⟨w.heap.size, 4, none⟩ = some (.slice e 3 ec) ∧ w'.cell? ⟨w.heap.size, 5, none⟩ = some (.slice u 2 uc) ∧ w'.cell? ⟨w.heap.size + 1, 0, none⟩ = some (.slice fa 3 fcap) ∧ w'.cell? ⟨w.heap.size + 1, 1, none⟩ = some (.slice fc 2 fcap') ∧ w'.cell? ⟨w.heap.size + 1, 2, none⟩ = some (.int .i64 FK)) (first | with_reducible assumption | exact hn3)
      (first
        | (go_at_call 45
           refine (ipart_any _ _ _ _ _ _ _ FC _ (by exact hA.below B_2.drew) (by omega)).mono ?_
           rintro ee w4 ⟨rfl, bd_4, kp⟩
           have b_4 := below_of_drew bd_4
           have B_4 := B_2.trans (b_4.mono B_2.size)
           have q_4 := q_2.below b_4
           have f_4 := f_2.below b_4
           have r_4 := r_2.below b_4
           have hn4 := CC.out w4 q_4 f_4)
        | (go_at_call 43
           refine (ihas_any _ _ _ ss _ _ _ (partL FC) _ HN.out (by exact hF.below B_4) hN1 (by exact kp.ints' (by rw [part_len]; exact hA.1)) (by omega)).mono ?_
           rintro ee w5 ⟨rfl, b_5⟩
           have B_5 := B_4.trans (b_5.mono B_4.size)
           have q_5 := q_4.below b_5
           have f_5 := f_4.below b_5
           have r_5 := r_4.below b_5
           have hn5 := CC.out w5 q_5 f_5))
    clear hn3 hn4 bd_4 b_4 b_5 B_2 B_4 q_2 q_4 f_2 f_4 r_2 r_4 kp k0 k1 k2 k3 k4 k5 k6 k7 k8
    obtain ⟨k0, k1, k2, k3, k4, k5, k6, k7, k8⟩ := hn5
    have d0 := r_5.cell 0
    have d1 := r_5.cell 1
    have d2 := r_5.cell 2
    have e0 := r_5.free 0
    have e1 := r_5.free 1
    have e2 := r_5.free 2
    have lt := r_5.lt
    simp only [List.getElem?_cons_zero, List.getElem?_cons_succ] at d0 d1 d2
    by_cases hh : hasI ss (partL FC) < 0
    · have X : x = (0, 0, false) := by rw [HI.out, HP.out, hz, if_neg (by decide), if_pos hh]
      have HX2 : Hid _ := X
      clear X
      go_wp2
      refine bodyPost_ret (v := .agg #[.int .i64 0, .int .i64 0, .bool false]) (by simp [results, Try.results71, go_sem, d0, d1, d2]) rfl ⟨x, HX.out, by rw [HX2.out], ?_⟩
      exact (((B_5.setCell (by simp only []; omega) _).setCell (by simp only []; omega) _).setCell (by simp only []; omega) _)
    · have X : x = (n - o, n + o, true) := by rw [HI.out, HP.out, hz, if_neg (by decide), if_neg hh]
      have HX2 : Hid _ := X
      clear X
      go_wp2_with fail
      refine (iothers_any _ _ _ _ _ _ D s _ (hD.below B_5) (by omega)).mono ?_
      rintro ee w6 ⟨rfl, b_6⟩
      rw [← HO.out]
      have B_6 := B_5.trans (b_6.mono B_5.size)
      have r_6 := r_5.below b_6
      clear d0 d1 d2 e0 e1 e2 lt
      have d0 := r_6.cell 0
      have d1 := r_6.cell 1
      have d2 := r_6.cell 2
      have e0 := r_6.free 0
      have e1 := r_6.free 1
      have e2 := r_6.free 2
      have lt := r_6.lt
      simp only [List.getElem?_cons_zero, List.getElem?_cons_succ] at d0 d1 d2
      go_wp2
      refine bodyPost_ret (v := .agg #[.int .i64 (n - o), .int .i64 (n + o), .bool true]) (by simp [results, Try.results71, go_sem, d0, d1, d2]) rfl ⟨x, HX.out, by rw [HX2.out], ?_⟩
      exact (((B_6.setCell (by simp only []; omega) _).setCell (by simp only []; omega) _).setCell (by simp only []; omega) _)
  · have X : x = (n, n, true) := by rw [HI.out, HP.out, hz, if_pos rfl]
    have HX2 : Hid _ := X
    clear X
    go_wp2_with fail
    refine (within_any _ _ _ FC _ _ (hA.below B_2) (by omega) (by omega) (by omega)).mono ?_
    rintro ee w3 ⟨rfl, rfl⟩
    rw [hz]
    have d0 := r_2.cell 0
    have d1 := r_2.cell 1
    have d2 := r_2.cell 2
    have e0 := r_2.free 0
    have e1 := r_2.free 1
    have e2 := r_2.free 2
    have lt := r_2.lt
    simp only [List.getElem?_cons_zero, List.getElem?_cons_succ] at d0 d1 d2
    go_wp2
    refine bodyPost_ret (v := .agg #[.int .i64 n, .int .i64 n, .bool true]) (by simp [results, Try.results71, go_sem, d0, d1, d2]) rfl ⟨x, HX.out, by rw [HX2.out], ?_⟩
    exact (((B_2.setCell (by simp only []; omega) _).setCell (by simp only []; omega) _).setCell (by simp only []; omega) _)

end Go.Proofs.Ytjggppnffkcmbaa
namespace Go.Proofs.Ytjggppnffkcmbaa
open Go.RowKit Go.Deep
set_option linter.unusedVariables false

/-- The first k sites keep within a treaty. -/
def keepAll (n m : Nat) (C D : List Int) (ss ls : List IV) : Nat → Bool
  | 0 => true
  | k + 1 => keepAll n m C D ss ls k && keepB n m C D ss (k : Int) (ls[k]?.getD noI).n (ls[k]?.getD noI).x
theorem keepAll_false {n m : Nat} {C D : List Int} {ss ls : List IV} {k : Nat} (h : keepB n m C D ss (k : Int) (ls[k]?.getD noI).n (ls[k]?.getD noI).x = false) : ∀ N, k < N → keepAll n m C D ss ls N = false
  | 0, hN => by omega
  | N + 1, hN => by
    by_cases e : k = N
    · subst e; simp [keepAll, h]
    · rw [keepAll, keepAll_false h N (by omega)]; rfl
/-- Whether all keep within a treaty. -/
def allKeepB (n m : Nat) (C D : List Int) (ss ls : List IV) (L : Nat) : Bool := trtB n m C D && (decide ((L : Int) = m) && keepAll n m C D ss ls L)
theorem keepAll_copy {n m : Nat} {C D : List Int} {ss ts ls us : List IV} (hl : ts.length = ss.length) (h : copiesIS ss ts) (h' : copiesIS ls us) : ∀ N, N ≤ us.length → keepAll n m C D ts us N = keepAll n m C D ss ls N
  | 0, _ => rfl
  | N + 1, hN => by
    have c := h' N (by omega)
    rw [keepAll, keepAll, keepAll_copy hl h h' N (by omega), keepB_copy hl h, c.1, c.2]
theorem allKeepB_copy {n m : Nat} {C D : List Int} {ss ts ls us : List IV} {L : Nat} (hl : ts.length = ss.length) (h : copiesIS ss ts) (h' : copiesIS ls us) (hu : us.length = L) : allKeepB n m C D ts us L = allKeepB n m C D ss ls L := by
  rw [allKeepB, allKeepB, keepAll_copy hl h h' L (by omega)]

end Go.Proofs.Ytjggppnffkcmbaa
namespace Go.Proofs.Ytjggppnffkcmbaa
open Go.RowKit Go.Deep
set_option linter.unusedVariables false
set_option maxRecDepth 100000

/-- What pots have with what the first k sites have added. -/
def sumT (B : List Int) (es : List IV) : Nat → List Int
  | 0 => B
  | k + 1 => List.zipWith (· + ·) (sumT B es k) (es[k]?.getD noI).x
theorem zip_len {xs ys : List Int} (h1 : xs.length = 3) (h2 : ys.length = 3) : (List.zipWith (· + ·) xs ys).length = 3 := by rw [List.length_zipWith]; omega
theorem sumT_len {B : List Int} {es : List IV} (hB : B.length = 3) : ∀ k, (∀ i, i < k → (es[i]?.getD noI).x.length = 3) → (sumT B es k).length = 3
  | 0, _ => hB
  | k + 1, h => zip_len (sumT_len hB k (fun i hi => h i (by omega))) (h k (by omega))
theorem dot_zip {xs ys FC : List Int} (h1 : xs.length = 3) (h2 : ys.length = 3) : dot FC (List.zipWith (· + ·) xs ys) 3 = dot FC xs 3 + dot FC ys 3 := by
  match xs, h1, ys, h2 with
  | [a, b, c], _, [d, e, f], _ =>
    simp only [dot, List.zipWith_cons_cons, List.zipWith_nil_right, List.getElem?_cons_zero, List.getElem?_cons_succ, Option.getD_some, Int.mul_add]
    omega
/-- What the others' lists come to, and the site's own. -/
def dO (FC : List Int) (es : List IV) (s : Int) : Nat → Int
  | 0 => 0
  | k + 1 => if (k : Int) = s then dO FC es s k else dO FC es s k + dot FC (es[k]?.getD noI).x 3
theorem dot_sumT {B FC : List Int} {es : List IV} {s : Nat} {E : List Int} (hB : B.length = 3) (hs : (es[s]?.getD noI).x = E) : ∀ k, (∀ i, i < k → (es[i]?.getD noI).x.length = 3) → dot FC (sumT B es k) 3 = dot FC B 3 + dO FC es (s : Int) k + (if s < k then dot FC E 3 else 0)
  | 0, _ => by simp [sumT, dO]
  | k + 1, h => by
    have ih := dot_sumT (FC := FC) hB hs k (fun i hi => h i (by omega))
    rw [sumT, dot_zip (sumT_len hB k (fun i hi => h i (by omega))) (h k (by omega)), ih, dO]
    by_cases hk : k = s
    · subst hk
      have e1 : ¬ k < k := by omega
      have e2 : k < k + 1 := by omega
      rw [hs]
      simp only [e1, e2, if_true, if_false]
      omega
    · have e3 : ¬ (k : Int) = (s : Int) := by omega
      by_cases hl : s < k
      · have e4 : s < k + 1 := by omega
        simp only [e3, hl, e4, if_true, if_false]
        omega
      · have e4 : ¬ s < k + 1 := by omega
        simp only [e3, hl, e4, if_false]
        omega
theorem dO_bnd {FC G : List Int} {es : List IV} {s : Int} (hG : ∀ i : Nat, i < G.length → 0 ≤ G[i]?.getD 0 ∧ G[i]?.getD 0 ≤ 50) : ∀ k, k ≤ G.length → k ≤ 3 → (∀ i, i < k → -(G[i]?.getD 0) ≤ dot FC (es[i]?.getD noI).x 3 ∧ dot FC (es[i]?.getD noI).x 3 ≤ G[i]?.getD 0) → -(others G s k) ≤ dO FC es s k ∧ dO FC es s k ≤ others G s k
  | 0, _, _, _ => by simp [dO, others]
  | k + 1, hk, h3, h => by
    have ih := dO_bnd (s := s) hG k (by omega) (by omega) (fun i hi => h i (by omega))
    have ob := others_bnd (s := s) hG k (by omega) (by omega)
    have d := hG k (by omega)
    have hh := h k (by omega)
    rw [dO, others]
    split
    · exact ih
    · rw [IntWalk.wrap64_in _ ⟨by omega, by omega⟩]
      omega
theorem dO_zero {FC : List Int} {es : List IV} {s : Int} (h : ∀ y : List Int, dot FC y 3 = 0) : ∀ k, dO FC es s k = 0
  | 0 => rfl
  | k + 1 => by rw [dO, dO_zero h k, h]; split <;> rfl
theorem hasT_mem {part : List Int} : ∀ (xs : List (List Int)) (k : Nat), ¬ hasFrom part k xs < 0 → part ∈ xs
  | [], k, h => by simp [hasFrom] at h
  | x :: xs, k, h => by
    rw [hasFrom] at h
    by_cases e : eqB x part = true
    · have : x = part := by simpa [eqB] using e
      rw [this]; simp
    · rw [if_neg e] at h
      exact List.mem_cons_of_mem _ (hasT_mem xs (k + 1) h)
theorem part_dot {FC y : List Int} (hl : FC.length = 3) (b : bnd 10000000 FC) : dot (partL FC) y 3 = dot FC y 3 ∨ dot (partL FC) y 3 = -dot FC y 3 := by
  match FC, hl with
  | [x0, x1, x2], _ =>
    have b0 := b 0
    have b1 := b 1
    have b2 := b 2
    simp only [List.getElem?_cons_zero, List.getElem?_cons_succ, Option.getD_some] at b0 b1 b2
    have hs : sg [x0, x1, x2] = 1 ∨ sg [x0, x1, x2] = -1 := by unfold sg; split <;> simp
    have e : partL [x0, x1, x2] = [wrap64 (sg [x0, x1, x2] * x0), wrap64 (sg [x0, x1, x2] * x1), wrap64 (sg [x0, x1, x2] * x2)] := rfl
    rw [e]
    generalize sg [x0, x1, x2] = g at *
    rcases hs with rfl | rfl
    · left
      rw [IntWalk.wrap64_in _ ⟨by omega, by omega⟩, IntWalk.wrap64_in _ ⟨by omega, by omega⟩, IntWalk.wrap64_in _ ⟨by omega, by omega⟩]
      simp only [Int.one_mul]
    · right
      rw [IntWalk.wrap64_in _ ⟨by omega, by omega⟩, IntWalk.wrap64_in _ ⟨by omega, by omega⟩, IntWalk.wrap64_in _ ⟨by omega, by omega⟩]
      simp only [dot, List.getElem?_cons_zero, List.getElem?_cons_succ, Option.getD_some, Int.neg_mul, Int.one_mul]
      omega
theorem zero_dot {FC : List Int} (h : allB 0 FC = true) (y : List Int) : ∀ k, dot FC y k = 0
  | 0 => rfl
  | k + 1 => by
    have e : FC[k]?.getD 0 = 0 := by
      by_cases hk : k < FC.length
      · rw [List.getElem?_eq_getElem hk]
        unfold allB at h
        rw [List.all_eq_true] at h
        have := inB_iff.1 (h _ (List.getElem_mem hk))
        simp only [Option.getD_some]
        omega
      · rw [List.getElem?_eq_none (by omega)]; rfl
    simp only [dot, zero_dot h y k, e]
    omega
theorem keepAll_at {n m : Nat} {C D : List Int} {ss ls : List IV} : ∀ {L : Nat}, keepAll n m C D ss ls L = true → ∀ i, i < L → keepB n m C D ss (i : Int) (ls[i]?.getD noI).n (ls[i]?.getD noI).x = true
  | 0, _, i, hi => by omega
  | L + 1, h, i, hi => by
    rw [keepAll, Bool.and_eq_true] at h
    by_cases e : i = L
    · subst e; exact h.2
    · exact keepAll_at h.1 i (by omega)
/-- What one site knows is so for all. -/
theorem bounds_all {n m : Nat} {C D : List Int} {ss es : List IV} {s : Nat} {k : Nat} {E : List Int} {fn fm : Nat} {FC FD : List Int} {FK : Int} {l : Nat} {U : List Int} {lo hi : Int}
    (hC : C.length = n) (hD : D.length = m) (hE : E.length = k) (hF : FC.length = fn) (hes : es.length = m) (he : ∀ i, i < m → (es[i]?.getD noI).x.length = 3) (hs : s < m) (hsE : (es[s]?.getD noI).x = E)
    (h : bansB n m C D ss (s : Int) k E fn fm FC FD FK l U = (lo, hi, true)) : lo ≤ hi ∧ (allKeepB n m C D ss es m = true → lo ≤ atV FC FD FK (sumT C es m) U ∧ atV FC FD FK (sumT C es m) U ≤ hi) := by
  unfold bansB at h
  split at h
  · rename_i hb
    unfold bokB at hb
    simp only [Bool.and_eq_true] at hb
    obtain ⟨hv, hf, hu⟩ := hb
    obtain ⟨n3, _, m1, m3, _, _, _, k3, _, hg⟩ := viewB_elim hv
    obtain ⟨f3, _, bF, _, _, _⟩ := formB_elim hf
    have hC3 : C.length = 3 := by omega
    have hE3 : E.length = 3 := by omega
    have hd := dot_sumT (FC := FC) hC3 hsE m he
    rw [if_pos hs] at hd
    have hz := dot_zip (FC := FC) hC3 hE3
    have ob := others_bnd (s := (s : Int)) hg m (by omega) m3
    have key : atV FC FD FK (sumT C es m) U = atV FC FD FK (List.zipWith (· + ·) C E) U + dO FC es (s : Int) m := by
      unfold atV
      rw [hd, hz]
      omega
    unfold bnds at h
    split at h
    · rename_i h0
      simp only [Prod.mk.injEq] at h
      rw [zero_part (by omega) bF] at h0
      have := dO_zero (es := es) (s := (s : Int)) (zero_dot h0 · 3) m
      exact ⟨by omega, fun _ => by rw [key]; omega⟩
    · split at h
      · simp at h
      · rename_i hh
        simp only [Prod.mk.injEq] at h
        refine ⟨by omega, fun hk => ?_⟩
        have hm := hasT_mem _ _ hh
        obtain ⟨p, hp, hpx⟩ := List.mem_map.1 hm
        unfold allKeepB at hk
        simp only [Bool.and_eq_true] at hk
        have hall := hk.2.2
        have hb2 := dO_bnd (FC := FC) (es := es) (s := (s : Int)) hg m (by omega) m3 (fun i hi => by
          have hi2 := keepAll_at hall i hi
          unfold keepB at hi2
          simp only [Bool.and_eq_true] at hi2
          have h3 := hi2.2
          unfold keepsB at h3
          rw [List.all_eq_true] at h3
          have h4 := inB_iff.1 (h3 p hp)
          rw [hpx] at h4
          simp only [Int.toNat_natCast] at h4
          rcases part_dot (y := (es[i]?.getD noI).x) (show FC.length = 3 by omega) bF with e | e <;> omega)
        rw [key]
        omega
  · simp at h

end Go.Proofs.Ytjggppnffkcmbaa
namespace Go.Proofs.Ytjggppnffkcmbaa
open Go.RowKit
set_option linter.unusedVariables false
set_option maxRecDepth 100000

theorem Touch.ofB {B : Nat} {w w' : World} (h : Below B w w') (hs : w.heap.size ≤ w'.heap.size) : Touch (fun x => B ≤ x) w w' := ⟨h.os, h.tape, h.output, hs, fun k hk hn => h.block k (by omega)⟩

set_option maxHeartbeats 1600000 in
theorem wp_copyI {o : Oper} {a : Act} {K : Act → World → Prop} {Q : Exit → Act → World → Prop} {W : World} (s x : Operand) (ho : o.op = .call { callee := .builtin .append, args := #[s, x], argTypes := #[26, 26] }) (base L B n cap : Nat) (zs : List Int)
    (hs : a.eval s = .slice (some ⟨L, 0, none⟩) 0 0) (hown : W.ownsRow base 3 1 (.slice (some ⟨L, 0, none⟩) 0 0) 0 []) (hx : a.eval x = .slice (some ⟨B, 0, none⟩) n cap) (hb : Blk W B zs) (hl : zs.length = n) (hn : n ≤ 1048576) (hbase : base ≤ W.heap.size) (hL : base ≤ L)
    (h : ∀ a' cap' B' W1, Below base W W1 → Touch (fun z => z = L) W W1 → OwnX W1 a' B' n zs → (0 < n → base ≤ B' ∧ (B' = L ∨ W.heap.size ≤ B')) → K (a.put o.dst (.slice a' n cap')) W1) : o.wp Try.prog a W K Q := by
  by_cases h0 : 0 < n
  · obtain ⟨i0, hi, hz0, hz1, hz2⟩ := info_parts Try.infoInt
    have hcl : ∀ i, i < n → W.cell? ⟨B, 0 + i, none⟩ = some (.int .i64 (zs.getD i 0)) := fun i hi => by rw [Nat.zero_add]; exact hb.cell i (by omega)
    refine wp_append_lies _ s x 26 ho base 3 i0 (.int .i64 0) 1 8 Try.underlying26 hi hz0 hz1 hz2 rfl (by omega) _ 0 [] hs hown ⟨B, 0, none⟩ n cap (zs.map (Value.int .i64)) hx (by rw [List.length_map, hl, Nat.mul_one]) (newsI hcl hl) (oneI _) h0 (by unfold maxLen; omega) (by omega) hbase _ rfl ?_
    intro g cp W1 ho1 hg hat hlt
    have hB : Below base W W1 := (Below.refl base W).grown hg hbase (fun z hz => by simp only [Value.ownBlock, Option.some.injEq] at hz; omega)
    simp only [Nat.zero_add]
    have hgb : base ≤ g ∧ (g = L ∨ W.heap.size ≤ g) := by
      rcases hat with e | e
      · simp only [Value.ownBlock, Option.some.injEq] at e; omega
      · omega
    refine h _ _ g W1 hB ⟨hB.os, hB.tape, hB.output, hB.size, fun C hC hne => ?_⟩ ?_ (fun _ => hgb)
    · rw [hg.block C hC (by simp only [Value.ownBlock]; intro e; simp only [Option.some.injEq] at e; exact hne e)]
    · rcases ho1.2 with ⟨hv, _⟩ | ⟨g', cap', cur, hv, hg', hh, hl', _, hs', ht⟩
      · simp at hv
      · simp only [Value.slice.injEq, Option.some.injEq, Addr.mk.injEq, and_true, true_and] at hv
        obtain ⟨rfl, rfl⟩ := hv
        refine ⟨hl, .inr ⟨rfl, cur.toList, by unfold Cel; simpa using hh, fun i hi => ?_⟩⟩
        have h1 : (cur.toList.take ((0 + n) * 1))[i]? = (zs.map (Value.int .i64))[i]? := by rw [ht]; rfl
        rw [List.getElem?_take, if_pos (by omega)] at h1
        rw [h1]
        have hi2 : i < zs.length := by omega
        simp [hi2]
  · obtain rfl : n = 0 := by omega
    have hzs : zs = [] := List.eq_nil_of_length_eq_zero hl
    subst hzs
    obtain ⟨dst, op, ty, pos, after, guard⟩ := o
    dsimp only at ho
    subst ho
    unfold Oper.wp execOp
    simp only [resolve, invoke, builtin, Sem.run_bind, Sem.run_pure, Result.andThen_ok, List.map_toArray, List.map_cons, List.map_nil, hs, hx]
    go_simp
    exact h _ _ 0 W (Below.refl _ _) (Touch.refl _ _) (OwnX.nil _ _ _) (fun h => absurd h (Nat.lt_irrefl _))

end Go.Proofs.Ytjggppnffkcmbaa
namespace Go.Proofs.Ytjggppnffkcmbaa
open Go.RowKit Go.Deep
set_option linter.unusedVariables false
set_option maxRecDepth 100000

set_option maxHeartbeats 1600000 in
theorem wp_copyG {o : Oper} {a : Act} {K : Act → World → Prop} {Q : Exit → Act → World → Prop} {W : World} (s x : Operand) (ho : o.op = .call { callee := .builtin .append, args := #[s, x], argTypes := #[26, 26] }) (base L : Nat) (ad : Option Addr) (n cap : Nat) (zs : List Int)
    (hs : a.eval s = .slice (some ⟨L, 0, none⟩) 0 0) (hown : W.ownsRow base 3 1 (.slice (some ⟨L, 0, none⟩) 0 0) 0 []) (hx : a.eval x = .slice ad n cap) (hb : Ints W ad n zs) (h0 : 0 < n) (hn : n ≤ 1048576) (hbase : base ≤ W.heap.size) (hL : base ≤ L)
    (h : ∀ cap' B' W1, Below base W W1 → Touch (fun z => z = L) W W1 → OwnX W1 (some ⟨B', 0, none⟩) B' n zs → (base ≤ B' ∧ (B' = L ∨ W.heap.size ≤ B')) → K (a.put o.dst (.slice (some ⟨B', 0, none⟩) n cap')) W1) : o.wp Try.prog a W K Q := by
  obtain ⟨i0, hi, hz0, hz1, hz2⟩ := info_parts Try.infoInt
  obtain ⟨B, off, rfl, hcell⟩ := hb.pos h0
  have hl := hb.1
  have hcl : ∀ i, i < n → W.cell? ⟨B, off + i, none⟩ = some (.int .i64 (zs.getD i 0)) := fun i hi => by rw [hcell i hi]
  refine wp_append_lies _ s x 26 ho base 3 i0 (.int .i64 0) 1 8 Try.underlying26 hi hz0 hz1 hz2 rfl (by omega) _ 0 [] hs hown ⟨B, off, none⟩ n cap (zs.map (Value.int .i64)) hx (by rw [List.length_map, hl, Nat.mul_one]) (newsI hcl hl) (oneI _) h0 (by unfold maxLen; omega) (by omega) hbase _ rfl ?_
  intro g cp W1 ho1 hg hat hlt
  have hB : Below base W W1 := (Below.refl base W).grown hg hbase (fun z hz => by simp only [Value.ownBlock, Option.some.injEq] at hz; omega)
  simp only [Nat.zero_add]
  have hgb : base ≤ g ∧ (g = L ∨ W.heap.size ≤ g) := by
    rcases hat with e | e
    · simp only [Value.ownBlock, Option.some.injEq] at e; omega
    · omega
  refine h _ g W1 hB ⟨hB.os, hB.tape, hB.output, hB.size, fun C hC hne => ?_⟩ ?_ hgb
  · rw [hg.block C hC (by simp only [Value.ownBlock]; intro e; simp only [Option.some.injEq] at e; exact hne e)]
  · rcases ho1.2 with ⟨hv, _⟩ | ⟨g', cap', cur, hv, hg', hh, hl', _, hs', ht⟩
    · simp at hv
    · simp only [Value.slice.injEq, Option.some.injEq, Addr.mk.injEq, and_true, true_and] at hv
      obtain ⟨rfl, rfl⟩ := hv
      refine ⟨hl, .inr ⟨rfl, cur.toList, by unfold Cel; simpa using hh, fun i hi => ?_⟩⟩
      have h1 : (cur.toList.take ((0 + n) * 1))[i]? = (zs.map (Value.int .i64))[i]? := by rw [ht]; rfl
      rw [List.getElem?_take, if_pos (by omega)] at h1
      rw [h1]
      have hi2 : i < zs.length := by omega
      simp [hi2]
theorem ownx_cell {W : World} {B n i : Nat} {zs : List Int} (h : OwnX W (some ⟨B, 0, none⟩) B n zs) (hi : i < n) : W.cell? ⟨B, i, none⟩ = some (.int .i64 (zs[i]?.getD 0)) ∧ W.frozen? ⟨B, i, none⟩ = false := by
  rcases h.2 with h0 | ⟨_, cur, hc, hv⟩
  · omega
  · exact ⟨(hc.cell i).trans (hv i hi), hc.free i⟩
theorem ownx_put {W : World} {B n i : Nat} {zs : List Int} (h : OwnX W (some ⟨B, 0, none⟩) B n zs) (hi : i < n) (y : Int) : Ints (W.setCell ⟨B, i, none⟩ (.int .i64 y)) (some ⟨B, 0, none⟩) n (zs.set i y) := ints_set h.ints hi y
theorem ownx_own {W : World} {B n i : Nat} {zs : List Int} (h : OwnX W (some ⟨B, 0, none⟩) B n zs) (hi : i < n) (y : Int) : OwnX (W.setCell ⟨B, i, none⟩ (.int .i64 y)) (some ⟨B, 0, none⟩) B n (zs.set i y) := by
  have hl := h.1
  rcases h.2 with h0 | ⟨_, cur, hc, hv⟩
  · omega
  · refine ⟨by rw [List.length_set]; exact hl, .inr ⟨rfl, _, hc.set i (.int .i64 y), fun k hk => ?_⟩⟩
    by_cases e : k = i
    · subst e
      have hk2 : k < cur.length := (List.getElem?_eq_some_iff.1 (hv k hk)).1
      rw [List.getElem?_set_self hk2, List.getElem?_set_self (by omega)]
      rfl
    · rw [List.getElem?_set_ne (fun x => e x.symm), List.getElem?_set_ne (fun x => e x.symm)]
      exact hv k hk
theorem sumT_bnd {B : List Int} {es : List IV} (hB : B.length = 3) (bB : bnd 10000 B) : ∀ k : Nat, (∀ i : Nat, i < k → (es[i]?.getD noI).x.length = 3 ∧ bnd 20000 (es[i]?.getD noI).x) → bnd (10000 + 20000 * (k : Int)) (sumT B es k)
  | 0, _ => fun i => by have := bB i; simp only [sumT]; omega
  | k + 1, h => fun i => by
    have ih := sumT_bnd hB bB k (fun i hi => h i (by omega)) i
    have hl := sumT_len hB k (fun i hi => (h i (by omega)).1)
    have hk := h k (by omega)
    have hx := hk.2 i
    simp only [sumT]
    by_cases hi : i < 3
    · have e : (List.zipWith (· + ·) (sumT B es k) (es[k]?.getD noI).x)[i]?.getD 0 = (sumT B es k)[i]?.getD 0 + (es[k]?.getD noI).x[i]?.getD 0 := by
        rw [List.getElem?_zipWith, List.getElem?_eq_getElem (by omega), List.getElem?_eq_getElem (by omega)]
        rfl
      rw [e]
      omega
    · rw [List.getElem?_eq_none (by rw [zip_len hl hk.1]; omega)]
      simp only [Option.getD_none]
      omega
/-- The first v numbers are those with x; the others are not yet. -/
def mixV (P X : List Int) (v : Nat) : List Int := (List.zipWith (· + ·) P X).take v ++ P.drop v
theorem mix_at {P X : List Int} (hP : P.length = 3) (hX : X.length = 3) : ∀ v, v < 3 → (mixV P X v)[v]?.getD 0 = P[v]?.getD 0 ∧ (mixV P X v).set v (P[v]?.getD 0 + X[v]?.getD 0) = mixV P X (v + 1) := fun v hv => by
  match P, hP, X, hX with
  | [a, b, c], _, [d, e, f], _ =>
    match v, hv with
    | 0, _ => exact ⟨rfl, rfl⟩
    | 1, _ => exact ⟨rfl, rfl⟩
    | 2, _ => exact ⟨rfl, rfl⟩
theorem mix_end {P X : List Int} (hP : P.length = 3) (hX : X.length = 3) : mixV P X 3 = List.zipWith (· + ·) P X := by
  match P, hP, X, hX with
  | [a, b, c], _, [d, e, f], _ => rfl

set_option maxHeartbeats 3200000 in
theorem cosum_any (a : Option Addr) (cap : Nat) (B : List Int) (ad : Option Addr) (N c : Nat) (es : List IV) (w : World) (hB : Ints w a 3 B) (hE : ISG w ad es) (hN : es.length = N) (hN3 : N ≤ 3) (h3 : ∀ i, i < N → (es[i]?.getD noI).n = 3) (bB : bnd 10000 B) (bE : ∀ i, i < N → bnd 20000 (es[i]?.getD noI).x) :
    Calls Try.prog 26 #[.slice a 3 cap, .slice ad N c] w fun e w' => ∃ g cg, e = .returned (.slice (some ⟨g, 0, none⟩) 3 cg) ∧ Ints w' (some ⟨g, 0, none⟩) 3 (sumT B es N) ∧ Below w.heap.size w w' := by
  have HN : Hid (es.length = N) := hN
  have H3 : Hid (∀ i, i < N → (es[i]?.getD noI).n = 3) := h3
  have HB : Hid (B.length = 3) := hB.1
  have HX : Hid (∀ i, i < N → (es[i]?.getD noI).x.length = 3 ∧ bnd 20000 (es[i]?.getD noI).x) := fun i hi => ⟨by obtain ⟨_, _, _, _, hI, _⟩ := hE i (by rw [hN]; exact hi); rw [hI.1]; exact h3 i hi, bE i hi⟩
  have HS : Hid (∀ k : Nat, k ≤ N → bnd (10000 + 20000 * (k : Int)) (sumT B es k) ∧ (sumT B es k).length = 3) := fun k hk => ⟨sumT_bnd HB.out bB k (fun i hi => HX.out i (by omega)), sumT_len HB.out k (fun i hi => (HX.out i (by omega)).1)⟩
  clear hN h3 bB bE
  have al := (Below.refl w.heap.size w).alloc (Nat.le_refl _) (.cells #[] 3)
  have o0 := World.ownsRow_lit (base := w.heap.size) (e := 3) (size := 1) w #[] 0 (Nat.le_refl _) (by unfold maxLen; omega) rfl
  have hBa := hB.below al
  go_enter Try.func26, Try.ntmps26
  go_wp2_with (at_builtin; refine wpList_plain rfl (fun K hK => ?_); refine wp_copyG (.tmp 8) (.tmp 9) rfl w.heap.size w.heap.size a 3 cap B (by rfl) o0 (by rfl) hBa (by omega) (by omega) (by rw [World.size_alloc]; omega) (Nat.le_refl _) ?_)
  intro c8 B8 W1 hBn hTn ox hB8 hor
  refine hK _ _ ?_
  clear hK K
  have b1 := al.trans hBn
  skip
  clear hBn hTn al o0 hBa hor hB
  go_wp2_with fail
  go_loopw [6] (fun i wr => ∃ k : Nat, k ≤ N ∧ i = .int .i64 k ∧ OwnX wr (some ⟨B8, 0, none⟩) B8 3 (sumT B es k) ∧ Below w.heap.size w wr) (fun i _ => N - (intOf i).toNat)
  case atStart => exact ⟨0, by omega, rfl, ox, b1⟩
  case round =>
    clear ox b1
    obtain ⟨k, hk, rfl, ox, b1⟩ := hrel
    by_cases hlt : k < N
    · have hlt' : (k : Int) < (N : Int) := by omega
      obtain ⟨b', o', e', hc0, hI0, _⟩ := hE k (by rw [HN.out]; exact hlt)
      subst e'
      have hn3 := H3.out k hlt
      have hx := HX.out k hlt
      have hs := HS.out k (by omega)
      have hsum : sumT B es (k + 1) = List.zipWith (· + ·) (sumT B es k) (es[k]?.getD noI).x := rfl
      rw [hn3] at hI0
      obtain ⟨y, hy⟩ : ∃ y, y = es[k]?.getD noI := ⟨_, rfl⟩
      rw [← hy] at hc0 hI0 hn3 hx hsum
      obtain ⟨Z, hZ⟩ : ∃ Z, Z = sumT B es k := ⟨_, rfl⟩
      rw [← hZ] at hs hsum ox
      have hc1 : w.cell? ⟨b', o' + k, none⟩ = some (.slice y.a y.n y.cap) := hc0
      rw [hn3] at hc1
      have HSUM : Hid (sumT B es (k + 1) = List.zipWith (· + ·) Z y.x) := hsum
      have HZL : Hid (Z.length = 3 ∧ y.x.length = 3) := ⟨hs.2, hx.1⟩
      have HZB : Hid (bnd (10000 + 20000 * (k : Int)) Z ∧ bnd 20000 y.x) := ⟨hs.1, hx.2⟩
      obtain ⟨b5, o5, e5, hcy⟩ := hI0.pos (by omega)
      have HE5 : Hid (y.a = some ⟨b5, o5, none⟩) := e5
      rw [e5] at hc1
      have ox0 : OwnX wr (some ⟨B8, 0, none⟩) B8 3 (mixV Z y.x 0) := ox
      clear hc0 hsum hs hx hy hZ e5 ox
      go_wp2_with fail
      go_loopw [7] (fun i wx => ∃ v : Nat, v ≤ 3 ∧ i = .int .i64 v ∧ OwnX wx (some ⟨B8, 0, none⟩) B8 3 (mixV Z y.x v) ∧ Below w.heap.size w wx) (fun i _ => 3 - (intOf i).toNat)
      case atStart => exact ⟨0, by omega, rfl, ox0, b1⟩
      case round =>
        clear ox0 b1
        obtain ⟨v, hv, rfl, ox, b1⟩ := hrel
        by_cases hlv : v < 3
        · have hlv' : (v : Int) < 3 := by omega
          obtain ⟨m1, m2⟩ := mix_at HZL.out.1 HZL.out.2 v hlv
          have z1 := HZB.out.1 v
          have z2 := HZB.out.2 v
          have d0 := (ownx_cell ox hlv).1
          have f0 := (ownx_cell ox hlv).2
          rw [m1] at d0
          have d2 : w.cell? ⟨b5, o5 + v, none⟩ = some (.int .i64 (y.x[v]?.getD 0)) := hcy v hlv
          have ox2 := ownx_own ox hlv (Z[v]?.getD 0 + y.x[v]?.getD 0)
          rw [m2] at ox2
          have lq := ox.lt (by omega)
          obtain ⟨p, hp⟩ : ∃ p, p = Z[v]?.getD 0 := ⟨_, rfl⟩
          obtain ⟨t, ht⟩ : ∃ t, t = y.x[v]?.getD 0 := ⟨_, rfl⟩
          rw [← hp] at d0 z1 ox2
          rw [← ht] at d2 z2 ox2
          have hw : IntKind.i64.wrap (p + t) = p + t := wrap_id (by omega) (by omega)
          clear hp ht m1 m2
          have e1 : wr.cell? ⟨b', o' + k, none⟩ = some (.slice (some ⟨b5, o5, none⟩) 3 y.cap) := by rw [b1.cell (p := ⟨b', o' + k, none⟩) (block_lt hc1)]; exact hc1
          have e2 : wr.cell? ⟨b5, o5 + v, none⟩ = some (.int .i64 t) := by rw [b1.cell (p := ⟨b5, o5 + v, none⟩) (block_lt d2)]; exact d2
          go_upto_region 8 with fail
          refine wp_region_ends (fun X => X.cell? ⟨b', o' + k, none⟩ = some (.slice (some ⟨b5, o5, none⟩) 3 y.cap) ∧ X.cell? ⟨b5, o5 + v, none⟩ = some (.int .i64 t)) (fun X => X.cell? ⟨B8, v, none⟩ = some (.int .i64 p)) 15 (by kernel_rfl) ?_
          have dr : Below wr.heap.size wr wr.drew := (Below.refl _ _).drew
          have hSS : (fun X : World => X.cell? ⟨b', o' + k, none⟩ = some (.slice (some ⟨b5, o5, none⟩) 3 y.cap) ∧ X.cell? ⟨b5, o5 + v, none⟩ = some (.int .i64 t)) wr.drew ∧ (fun X : World => X.cell? ⟨B8, v, none⟩ = some (.int .i64 p)) wr.drew := ⟨⟨e1, e2⟩, d0⟩
          have b2 := b1.trans (dr.mono b1.size)
          have ox3 : OwnX (wr.drew.setCell ⟨B8, v, none⟩ (.int .i64 (p + t))) (some ⟨B8, 0, none⟩) B8 3 (mixV Z y.x (v + 1)) := ox2
          have f1 : wr.drew.frozen? ⟨B8, v, none⟩ = false := f0
          have d1 : wr.drew.cell? ⟨B8, v, none⟩ = some (.int .i64 p) := d0
          have l1 : B8 < wr.drew.heap.size := lq
          have b3 := b2.setCell (p := ⟨B8, v, none⟩) (by simp only []; omega) (.int .i64 (p + t))
          have g1 : (wr.drew.setCell ⟨B8, v, none⟩ (.int .i64 (p + t))).cell? ⟨b', o' + k, none⟩ = some (.slice (some ⟨b5, o5, none⟩) 3 y.cap) := by rw [b3.cell (p := ⟨b', o' + k, none⟩) (block_lt hc1)]; exact hc1
          have g2 : (wr.drew.setCell ⟨B8, v, none⟩ (.int .i64 (p + t))).cell? ⟨b5, o5 + v, none⟩ = some (.int .i64 t) := by rw [b3.cell (p := ⟨b5, o5 + v, none⟩) (block_lt d2)]; exact d2
          clear dr e1 e2 d0 f0 lq ox2 ox
          obtain ⟨V, hV⟩ : ∃ V, V = wr.drew := ⟨_, rfl⟩
          rw [← hV]
          rw [← hV] at hSS b2 ox3 f1 d1 l1 b3 g1 g2
          clear hV
          refine tkL (i := 0) rfl hSS ?_
          refine tkL (i := 1) rfl hSS ?_
          refine tkL (i := 2) rfl hSS ?_
          simp only [Act.put, List.setIfInBounds_toArray, List.set_cons_succ, List.set_cons_zero, List.getElem_toArray, List.getElem_cons_succ, List.getElem_cons_zero]
          refine tkL (i := 3) rfl hSS ?_
          refine tkL (i := 4) rfl hSS ?_
          refine tkM (i := 5) rfl rfl hSS ?_
          simp only [Act.put, List.setIfInBounds_toArray, List.set_cons_succ, List.set_cons_zero, List.getElem_toArray, List.getElem_cons_succ, List.getElem_cons_zero]
          refine tkL (i := 6) rfl hSS ?_
          refine tkL (i := 7) rfl hSS ?_
          refine tkL (i := 8) rfl hSS ?_
          simp only [Act.put, List.setIfInBounds_toArray, List.set_cons_succ, List.set_cons_zero, List.getElem_toArray, List.getElem_cons_succ, List.getElem_cons_zero]
          refine tkL (i := 9) rfl hSS ?_
          refine tkL (i := 10) rfl hSS ?_
          refine tkL (i := 11) rfl hSS ?_
          simp only [Act.put, List.setIfInBounds_toArray, List.set_cons_succ, List.set_cons_zero, List.getElem_toArray, List.getElem_cons_succ, List.getElem_cons_zero]
          refine tkL (i := 12) rfl hSS ?_
          refine tkL (i := 13) rfl hSS ?_
          refine wpAnyE_one (i := 14) (by kernel_rfl) rfl (fun Kn hK => ?_)
          go_simp
          refine hK.out _ _ ⟨hSS.1, fun _ => hSS.2⟩ ?_
          clear hK hSS
          refine wpAnyE_one (i := 15) (by kernel_rfl) rfl (fun Kn hK => ?_)
          go_simp
          refine hK.out _ _ ⟨⟨g1, g2⟩, fun h => absurd h (by decide)⟩ ?_
          clear hK d1 f1 l1 g1 g2
          refine wpAnyE_done (by kernel_rfl) ?_ _
          go_wp2
          go_roundw
          case rel => exact ⟨v + 1, by omega, by go_num, ox3, b3⟩
          case measure => simp [intOf]; omega
        · obtain rfl : v = 3 := by omega
          have hlv' : ¬ ((3 : Nat) : Int) < 3 := by omega
          have oxe : OwnX wr (some ⟨B8, 0, none⟩) B8 3 (sumT B es (k + 1)) := by rw [HSUM.out, ← mix_end HZL.out.1 HZL.out.2]; exact ox
          clear ox
          go_wp2
          go_roundw
          case rel => exact ⟨k + 1, by omega, by go_num, oxe, b1⟩
          case measure => simp [intOf]; omega
    · obtain rfl : k = N := by omega
      have hlt' : ¬ (k : Int) < (k : Int) := by omega
      have hf := ox.ints
      clear ox
      go_wp2
      go_ret
      first | exact ⟨B8, c8, rfl, hf, b1⟩ | exact ⟨B8, ⟨c8, rfl⟩, hf, b1⟩ | exact ⟨⟨c8, rfl⟩, hf, b1⟩ | exact ⟨B8, rfl, hf, b1⟩ | exact ⟨B8, hf, b1⟩ | exact ⟨hf, b1⟩

end Go.Proofs.Ytjggppnffkcmbaa
namespace Go.Proofs.Ytjggppnffkcmbaa
open Go.RowKit Go.Deep
set_option linter.unusedVariables false

set_option maxRecDepth 100000 in
set_option maxHeartbeats 6400000 in
theorem ibounds_any (a : Option Addr) (n cap : Nat) (c : Option Addr) (m cap' : Nat) (ad : Option Addr) (N pc : Nat) (s : Int) (e : Option Addr) (k ec : Nat) (fa : Option Addr) (fn fcap : Nat) (fc : Option Addr) (fm fcap' : Nat) (FK : Int) (u : Option Addr) (l uc : Nat) (C D E FC FD U : List Int) (ss : List IV) (w : World)
    (hC : Ints w a n C) (hD : Ints w c m D) (hE : Ints w e k E) (hA : Ints w fa fn FC) (hB : Ints w fc fm FD) (hU : Ints w u l U) (hN : ss.length = N) (hF : ISG w ad ss) (hn : n ≤ 1048576) (hm : m ≤ 1048576) (hk : k ≤ 1048576) (hfn : fn ≤ 1048576) (hfm : fm ≤ 1048576) (hl : l ≤ 1048576) (hN1 : N ≤ 1048576) :
    Calls Try.prog 24 #[treV a n cap c m cap', .slice ad N pc, .int .i64 s, .slice e k ec, formV fa fn fcap fc fm fcap' FK, .slice u l uc] w fun r w' => r = .returned (ansV (bansB n m C D ss s k E fn fm FC FD FK l U)) ∧ Below w.heap.size w w' := by
  have HN : Hid (ss.length = N) := hN
  clear hN
  have q_0 := (Cel.new w [.slice a n cap, .slice c m cap'] 45).alloc (.cells #[.slice fa fn fcap, .slice fc fm fcap', .int .i64 FK] 34)
  have f_0 := Cel.new (w.alloc (.cells #[.slice a n cap, .slice c m cap'] 45)) [.slice fa fn fcap, .slice fc fm fcap', .int .i64 FK] 34
  have B_0 := ((Below.refl w.heap.size w).alloc (Nat.le_refl _) (.cells #[.slice a n cap, .slice c m cap'] 45)).alloc (by simp) (.cells #[.slice fa fn fcap, .slice fc fm fcap', .int .i64 FK] 34)
  rw [World.size_alloc] at f_0
  have v_0 := Cel.new ((w.alloc (.cells #[.slice a n cap, .slice c m cap'] 45)).alloc (.cells #[.slice fa fn fcap, .slice fc fm fcap', .int .i64 FK] 34)) [.slice a n cap, .slice c m cap', .slice ad N pc, .int .i64 s, .slice e k ec, .slice u l uc] 94
  have q_1 := q_0.alloc (.cells #[.slice a n cap, .slice c m cap', .slice ad N pc, .int .i64 s, .slice e k ec, .slice u l uc] 94)
  have f_1 := f_0.alloc (.cells #[.slice a n cap, .slice c m cap', .slice ad N pc, .int .i64 s, .slice e k ec, .slice u l uc] 94)
  have B_1 := B_0.alloc B_0.size (.cells #[.slice a n cap, .slice c m cap', .slice ad N pc, .int .i64 s, .slice e k ec, .slice u l uc] 94)
  rw [World.size_alloc, World.size_alloc] at v_0
  clear q_0 f_0 B_0
  cases h0 : viewB n m C D ss s k E
  · go_enter Try.func24, Try.ntmps24
    go_wp2_with fail
    refine (vok_any _ _ _ _ _ _ _ _ _ _ _ _ _ _ _ _ C D E ss _ (hC.below B_1) (hD.below B_1) (hE.below B_1) HN.out (hF.below B_1) hn hm hk hN1).mono ?_
    rintro r w2 ⟨rfl, b_2⟩
    rw [h0]
    have B_2 := B_1.trans (b_2.mono B_1.size)
    have q_2 := q_1.below b_2
    have f_2 := f_1.below b_2
    have v_2 := v_0.below b_2
    clear B_1 f_1 q_1 v_0 b_2
    obtain ⟨c_q0, c_q1⟩ := q_2.two
    obtain ⟨c_f0, c_f1, c_f2⟩ := f_2.three
    obtain ⟨c_v0, c_v1, c_v2, c_v3, c_v4, c_v5⟩ := v_2.sixK
    go_wp2
    refine bodyPost_ret (v := .tuple #[.int .i64 0, .int .i64 0, .bool false]) (by simp [results, Try.results24, go_sem]) rfl ⟨?_, B_2⟩
    rw [bansB, if_neg (by simp [bokB, h0])]
    rfl
  cases h1 : formB fn fm FC FD FK
  · go_enter Try.func24, Try.ntmps24
    go_wp2_with fail
    refine (vok_any _ _ _ _ _ _ _ _ _ _ _ _ _ _ _ _ C D E ss _ (hC.below B_1) (hD.below B_1) (hE.below B_1) HN.out (hF.below B_1) hn hm hk hN1).mono ?_
    rintro r w2 ⟨rfl, b_2⟩
    rw [h0]
    have B_2 := B_1.trans (b_2.mono B_1.size)
    have q_2 := q_1.below b_2
    have f_2 := f_1.below b_2
    have v_2 := v_0.below b_2
    clear B_1 f_1 q_1 v_0 b_2
    obtain ⟨c_q0, c_q1⟩ := q_2.two
    obtain ⟨c_f0, c_f1, c_f2⟩ := f_2.three
    obtain ⟨c_v0, c_v1, c_v2, c_v3, c_v4, c_v5⟩ := v_2.sixK
    go_wp2_with fail
    refine (iok_any _ _ _ _ _ _ _ FC FD _ (hA.below B_2) (hB.below B_2) hfn hfm).mono ?_
    rintro r w3 ⟨rfl, b_3⟩
    rw [h1]
    clear c_q0 c_q1 c_f0 c_f1 c_f2 c_v0 c_v1 c_v2 c_v3 c_v4 c_v5
    have B_3 := B_2.trans (b_3.mono B_2.size)
    have q_3 := q_2.below b_3
    have f_3 := f_2.below b_3
    have v_3 := v_2.below b_3
    clear B_2 f_2 q_2 v_2 b_3
    obtain ⟨c_q0, c_q1⟩ := q_3.two
    obtain ⟨c_f0, c_f1, c_f2⟩ := f_3.three
    obtain ⟨c_v0, c_v1, c_v2, c_v3, c_v4, c_v5⟩ := v_3.sixK
    go_wp2
    refine bodyPost_ret (v := .tuple #[.int .i64 0, .int .i64 0, .bool false]) (by simp [results, Try.results24, go_sem]) rfl ⟨?_, B_3⟩
    rw [bansB, if_neg (by simp [bokB, h1])]
    rfl
  cases h2 : okN 2 9 l U
  · go_enter Try.func24, Try.ntmps24
    go_wp2_with fail
    refine (vok_any _ _ _ _ _ _ _ _ _ _ _ _ _ _ _ _ C D E ss _ (hC.below B_1) (hD.below B_1) (hE.below B_1) HN.out (hF.below B_1) hn hm hk hN1).mono ?_
    rintro r w2 ⟨rfl, b_2⟩
    rw [h0]
    have B_2 := B_1.trans (b_2.mono B_1.size)
    have q_2 := q_1.below b_2
    have f_2 := f_1.below b_2
    have v_2 := v_0.below b_2
    clear B_1 f_1 q_1 v_0 b_2
    obtain ⟨c_q0, c_q1⟩ := q_2.two
    obtain ⟨c_f0, c_f1, c_f2⟩ := f_2.three
    obtain ⟨c_v0, c_v1, c_v2, c_v3, c_v4, c_v5⟩ := v_2.sixK
    go_wp2_with fail
    refine (iok_any _ _ _ _ _ _ _ FC FD _ (hA.below B_2) (hB.below B_2) hfn hfm).mono ?_
    rintro r w3 ⟨rfl, b_3⟩
    rw [h1]
    clear c_q0 c_q1 c_f0 c_f1 c_f2 c_v0 c_v1 c_v2 c_v3 c_v4 c_v5
    have B_3 := B_2.trans (b_3.mono B_2.size)
    have q_3 := q_2.below b_3
    have f_3 := f_2.below b_3
    have v_3 := v_2.below b_3
    clear B_2 f_2 q_2 v_2 b_3
    obtain ⟨c_q0, c_q1⟩ := q_3.two
    obtain ⟨c_f0, c_f1, c_f2⟩ := f_3.three
    obtain ⟨c_v0, c_v1, c_v2, c_v3, c_v4, c_v5⟩ := v_3.sixK
    go_wp2_with fail
    refine (iarg_any _ _ _ U _ (hU.below B_3) hl).mono ?_
    rintro r w4 ⟨rfl, rfl⟩
    rw [h2]
    go_wp2
    refine bodyPost_ret (v := .tuple #[.int .i64 0, .int .i64 0, .bool false]) (by simp [results, Try.results24, go_sem]) rfl ⟨?_, B_3⟩
    rw [bansB, if_neg (by simp [bokB, h2])]
    rfl
  have hbo : bokB n m C D ss s k E fn fm FC FD FK l U = true := by simp [bokB, h0, h1, h2]
  obtain ⟨e1, bC, m1, m2, -, s0, s1, e2, bE, bD⟩ := viewB_elim h0
  obtain ⟨e3, e4, bA, bB, K1, K2⟩ := formB_elim h1
  obtain ⟨e5, bU⟩ := okN_elim (by omega) h2
  have e6 : l = 2 := by omega
  clear e5
  rw [bansB, if_pos hbo]
  subst e1 e2 e3 e4 e6
  have H0 : Hid _ := h0
  have H1 : Hid _ := h1
  have H2 : Hid _ := h2
  clear hbo h0 h1 h2
  go_enter Try.func24, Try.ntmps24
  go_wp2_with fail
  refine (vok_any _ _ _ _ _ _ _ _ _ _ _ _ _ _ _ _ C D E ss _ (hC.below B_1) (hD.below B_1) (hE.below B_1) HN.out (hF.below B_1) hn hm hk hN1).mono ?_
  rintro r w2 ⟨rfl, b_2⟩
  rw [H0.out]
  have B_2 := B_1.trans (b_2.mono B_1.size)
  have q_2 := q_1.below b_2
  have f_2 := f_1.below b_2
  have v_2 := v_0.below b_2
  clear B_1 f_1 q_1 v_0 b_2
  obtain ⟨c_q0, c_q1⟩ := q_2.two
  obtain ⟨c_f0, c_f1, c_f2⟩ := f_2.three
  obtain ⟨c_v0, c_v1, c_v2, c_v3, c_v4, c_v5⟩ := v_2.sixK
  go_wp2_with fail
  refine (iok_any _ _ _ _ _ _ _ FC FD _ (hA.below B_2) (hB.below B_2) hfn hfm).mono ?_
  rintro r w3 ⟨rfl, b_3⟩
  rw [H1.out]
  clear c_q0 c_q1 c_f0 c_f1 c_f2 c_v0 c_v1 c_v2 c_v3 c_v4 c_v5
  have B_3 := B_2.trans (b_3.mono B_2.size)
  have q_3 := q_2.below b_3
  have f_3 := f_2.below b_3
  have v_3 := v_2.below b_3
  clear B_2 f_2 q_2 v_2 b_3
  obtain ⟨c_q0, c_q1⟩ := q_3.two
  obtain ⟨c_f0, c_f1, c_f2⟩ := f_3.three
  obtain ⟨c_v0, c_v1, c_v2, c_v3, c_v4, c_v5⟩ := v_3.sixK
  go_wp2_with fail
  refine (iarg_any _ _ _ U _ (hU.below B_3) hl).mono ?_
  rintro r w4 ⟨rfl, rfl⟩
  rw [H2.out]
  go_wp2_with fail
  refine (vbounds_any _ _ _ _ _ _ _ _ _ _ _ _ _ _ _ _ _ _ C D E U FC FD ss _ (hC.below B_3) (hD.below B_3) (hE.below B_3) (hU.below B_3) (hA.below B_3) (hB.below B_3) HN.out (hF.below B_3) hN1 m2 bC bE bU bA bB ⟨K1, K2⟩ bD).mono ?_
  rintro r w5 ⟨x, hx, rfl, b_5⟩
  clear c_q0 c_q1 c_f0 c_f1 c_f2 c_v0 c_v1 c_v2 c_v3 c_v4 c_v5
  have B_5 := B_3.trans (b_5.mono B_3.size)
  clear B_3 f_3 q_3 v_3 b_5
  have HX : Hid _ := hx
  clear hx
  obtain ⟨x0, x1, x2⟩ := x
  go_upto_region 5 with fail
  go_quiet (fail)
  go_wp2
  refine bodyPost_ret (v := .tuple #[.int .i64 x0, .int .i64 x1, .bool x2]) (by simp [results, Try.results24, go_sem]) rfl ⟨by rw [← HX.out]; rfl, below_drewN (B_5.alloc B_5.size _) _⟩

end Go.Proofs.Ytjggppnffkcmbaa
namespace Go.Proofs.Ytjggppnffkcmbaa
open Go.RowKit Go.Deep
set_option linter.unusedVariables false

theorem field_zero (Z1 Z2 : Nat) (W : World) : (Instr.field 34 (formV (some ⟨Z1, 0, none⟩) 3 3 (some ⟨Z2, 0, none⟩) 2 2 0) 0).run Try.prog W = .ok (.slice (some ⟨Z1, 0, none⟩) 3 3) W := by kernel_rfl

set_option maxRecDepth 100000 in
set_option maxHeartbeats 6400000 in
theorem sbounds_any (a : Option Addr) (n cap : Nat) (c : Option Addr) (m cap' : Nat) (ad : Option Addr) (N pc : Nat) (s : Int) (e : Option Addr) (k ec : Nat) (fa : Option Addr) (fn fcap : Nat) (fc : Option Addr) (fm fcap' : Nat) (FK : Int) (u : Option Addr) (l uc : Nat) (C D E FC FD U : List Int) (ss : List IV) (w : World)
    (hC : Ints w a n C) (hD : Ints w c m D) (hE : Ints w e k E) (hA : Ints w fa fn FC) (hB : Ints w fc fm FD) (hU : Ints w u l U) (hN : ss.length = N) (hF : ISG w ad ss) (hn : n ≤ 1048576) (hm : m ≤ 1048576) (hk : k ≤ 1048576) (hfn : fn ≤ 1048576) (hfm : fm ≤ 1048576) (hl : l ≤ 1048576) (hN1 : N ≤ 1048576) :
    Calls Try.prog 25 #[treV a n cap c m cap', .slice ad N pc, .int .i64 s, .slice e k ec, formV fa fn fcap fc fm fcap' FK, .slice u l uc] w fun r w' => r = .returned (ansV (bansB n m C D ss s k E fn fm FC FD FK l U)) ∧ Below w.heap.size w w' := by
  have HN : Hid (ss.length = N) := hN
  clear hN
  have q_0 := (Cel.new w [.slice a n cap, .slice c m cap'] 45).alloc (.cells #[.slice fa fn fcap, .slice fc fm fcap', .int .i64 FK] 34)
  have f_0 := Cel.new (w.alloc (.cells #[.slice a n cap, .slice c m cap'] 45)) [.slice fa fn fcap, .slice fc fm fcap', .int .i64 FK] 34
  have B_0 := ((Below.refl w.heap.size w).alloc (Nat.le_refl _) (.cells #[.slice a n cap, .slice c m cap'] 45)).alloc (by simp) (.cells #[.slice fa fn fcap, .slice fc fm fcap', .int .i64 FK] 34)
  rw [World.size_alloc] at f_0
  cases h0 : trtB n m C D
  · go_enter Try.func25, Try.ntmps25
    go_wp2_with fail
    refine (strt_any _ _ _ _ _ _ C D _ (hC.below B_0) (hD.below B_0) hn hm).mono ?_
    rintro r w1 ⟨rfl, b_1⟩
    rw [h0]
    have B_1 := B_0.trans (b_1.mono B_0.size)
    have q_1 := q_0.below b_1
    have f_1 := f_0.below b_1
    clear B_0 f_0 q_0 b_1
    obtain ⟨c_q0, c_q1⟩ := q_1.two
    obtain ⟨c_f0, c_f1, c_f2⟩ := f_1.three
    go_wp2
    refine bodyPost_ret (v := .tuple #[.int .i64 0, .int .i64 0, .bool false]) (by simp [results, Try.results25, go_sem]) rfl ⟨?_, B_1⟩
    rw [bansB, if_neg (by simp [bokB, viewB, h0])]
    rfl
  cases h1 : partsB ss
  · go_enter Try.func25, Try.ntmps25
    go_wp2_with fail
    refine (strt_any _ _ _ _ _ _ C D _ (hC.below B_0) (hD.below B_0) hn hm).mono ?_
    rintro r w1 ⟨rfl, b_1⟩
    rw [h0]
    have B_1 := B_0.trans (b_1.mono B_0.size)
    have q_1 := q_0.below b_1
    have f_1 := f_0.below b_1
    clear B_0 f_0 q_0 b_1
    obtain ⟨c_q0, c_q1⟩ := q_1.two
    obtain ⟨c_f0, c_f1, c_f2⟩ := f_1.three
    go_wp2_with fail
    refine (sparts_any _ _ _ ss _ HN.out (hF.below B_1) hN1).mono ?_
    rintro r w2 ⟨rfl, rfl⟩
    rw [h1]
    go_wp2
    refine bodyPost_ret (v := .tuple #[.int .i64 0, .int .i64 0, .bool false]) (by simp [results, Try.results25, go_sem]) rfl ⟨?_, B_1⟩
    rw [bansB, if_neg (by simp [bokB, viewB, h1])]
    rfl
  cases h2 : inB s 0 ((m : Int) - 1)
  · go_enter Try.func25, Try.ntmps25
    go_wp2_with fail
    refine (strt_any _ _ _ _ _ _ C D _ (hC.below B_0) (hD.below B_0) hn hm).mono ?_
    rintro r w1 ⟨rfl, b_1⟩
    rw [h0]
    have B_1 := B_0.trans (b_1.mono B_0.size)
    have q_1 := q_0.below b_1
    have f_1 := f_0.below b_1
    clear B_0 f_0 q_0 b_1
    obtain ⟨c_q0, c_q1⟩ := q_1.two
    obtain ⟨c_f0, c_f1, c_f2⟩ := f_1.three
    go_wp2_with fail
    refine (sparts_any _ _ _ ss _ HN.out (hF.below B_1) hN1).mono ?_
    rintro r w2 ⟨rfl, rfl⟩
    rw [h1]
    go_wp2_with fail
    refine (in_any _ _ _ _).mono ?_
    rintro r w3 ⟨rfl, rfl⟩
    rw [h2]
    go_wp2
    refine bodyPost_ret (v := .tuple #[.int .i64 0, .int .i64 0, .bool false]) (by simp [results, Try.results25, go_sem]) rfl ⟨?_, B_1⟩
    rw [bansB, if_neg (by simp [bokB, viewB, h2])]
    rfl
  cases h3 : okN 3 20000 k E
  · go_enter Try.func25, Try.ntmps25
    go_wp2_with fail
    refine (strt_any _ _ _ _ _ _ C D _ (hC.below B_0) (hD.below B_0) hn hm).mono ?_
    rintro r w1 ⟨rfl, b_1⟩
    rw [h0]
    have B_1 := B_0.trans (b_1.mono B_0.size)
    have q_1 := q_0.below b_1
    have f_1 := f_0.below b_1
    clear B_0 f_0 q_0 b_1
    obtain ⟨c_q0, c_q1⟩ := q_1.two
    obtain ⟨c_f0, c_f1, c_f2⟩ := f_1.three
    go_wp2_with fail
    refine (sparts_any _ _ _ ss _ HN.out (hF.below B_1) hN1).mono ?_
    rintro r w2 ⟨rfl, rfl⟩
    rw [h1]
    go_wp2_with fail
    refine (in_any _ _ _ _).mono ?_
    rintro r w3 ⟨rfl, rfl⟩
    rw [h2]
    go_wp2_with fail
    refine (all_any _ _ _ E _ _ _ (hE.below B_1) hk (by omega) (by omega)).mono ?_
    rintro r w4 ⟨rfl, rfl⟩
    rw [h3]
    go_wp2
    refine bodyPost_ret (v := .tuple #[.int .i64 0, .int .i64 0, .bool false]) (by simp [results, Try.results25, go_sem]) rfl ⟨?_, B_1⟩
    rw [bansB, if_neg (by simp [bokB, viewB, h3])]
    rfl
  cases h4 : formB fn fm FC FD FK
  · go_enter Try.func25, Try.ntmps25
    go_wp2_with fail
    refine (strt_any _ _ _ _ _ _ C D _ (hC.below B_0) (hD.below B_0) hn hm).mono ?_
    rintro r w1 ⟨rfl, b_1⟩
    rw [h0]
    have B_1 := B_0.trans (b_1.mono B_0.size)
    have q_1 := q_0.below b_1
    have f_1 := f_0.below b_1
    clear B_0 f_0 q_0 b_1
    obtain ⟨c_q0, c_q1⟩ := q_1.two
    obtain ⟨c_f0, c_f1, c_f2⟩ := f_1.three
    go_wp2_with fail
    refine (sparts_any _ _ _ ss _ HN.out (hF.below B_1) hN1).mono ?_
    rintro r w2 ⟨rfl, rfl⟩
    rw [h1]
    go_wp2_with fail
    refine (in_any _ _ _ _).mono ?_
    rintro r w3 ⟨rfl, rfl⟩
    rw [h2]
    go_wp2_with fail
    refine (all_any _ _ _ E _ _ _ (hE.below B_1) hk (by omega) (by omega)).mono ?_
    rintro r w4 ⟨rfl, rfl⟩
    rw [h3]
    go_wp2_with fail
    refine (sok_any _ _ _ _ _ _ _ FC FD _ (hA.below B_1) (hB.below B_1) hfn hfm).mono ?_
    rintro r w5 ⟨rfl, b_5⟩
    rw [h4]
    clear c_q0 c_q1 c_f0 c_f1 c_f2
    have B_5 := B_1.trans (b_5.mono B_1.size)
    have q_5 := q_1.below b_5
    have f_5 := f_1.below b_5
    clear B_1 f_1 q_1 b_5
    obtain ⟨c_q0, c_q1⟩ := q_5.two
    obtain ⟨c_f0, c_f1, c_f2⟩ := f_5.three
    go_wp2
    refine bodyPost_ret (v := .tuple #[.int .i64 0, .int .i64 0, .bool false]) (by simp [results, Try.results25, go_sem]) rfl ⟨?_, B_5⟩
    rw [bansB, if_neg (by simp [bokB, viewB, h4])]
    rfl
  cases h5 : okN 2 9 l U
  · go_enter Try.func25, Try.ntmps25
    go_wp2_with fail
    refine (strt_any _ _ _ _ _ _ C D _ (hC.below B_0) (hD.below B_0) hn hm).mono ?_
    rintro r w1 ⟨rfl, b_1⟩
    rw [h0]
    have B_1 := B_0.trans (b_1.mono B_0.size)
    have q_1 := q_0.below b_1
    have f_1 := f_0.below b_1
    clear B_0 f_0 q_0 b_1
    obtain ⟨c_q0, c_q1⟩ := q_1.two
    obtain ⟨c_f0, c_f1, c_f2⟩ := f_1.three
    go_wp2_with fail
    refine (sparts_any _ _ _ ss _ HN.out (hF.below B_1) hN1).mono ?_
    rintro r w2 ⟨rfl, rfl⟩
    rw [h1]
    go_wp2_with fail
    refine (in_any _ _ _ _).mono ?_
    rintro r w3 ⟨rfl, rfl⟩
    rw [h2]
    go_wp2_with fail
    refine (all_any _ _ _ E _ _ _ (hE.below B_1) hk (by omega) (by omega)).mono ?_
    rintro r w4 ⟨rfl, rfl⟩
    rw [h3]
    go_wp2_with fail
    refine (sok_any _ _ _ _ _ _ _ FC FD _ (hA.below B_1) (hB.below B_1) hfn hfm).mono ?_
    rintro r w5 ⟨rfl, b_5⟩
    rw [h4]
    clear c_q0 c_q1 c_f0 c_f1 c_f2
    have B_5 := B_1.trans (b_5.mono B_1.size)
    have q_5 := q_1.below b_5
    have f_5 := f_1.below b_5
    clear B_1 f_1 q_1 b_5
    obtain ⟨c_q0, c_q1⟩ := q_5.two
    obtain ⟨c_f0, c_f1, c_f2⟩ := f_5.three
    go_wp2_with fail
    refine (sarg_any _ _ _ U _ (hU.below B_5) hl).mono ?_
    rintro r w6 ⟨rfl, rfl⟩
    rw [h5]
    go_wp2
    refine bodyPost_ret (v := .tuple #[.int .i64 0, .int .i64 0, .bool false]) (by simp [results, Try.results25, go_sem]) rfl ⟨?_, B_5⟩
    rw [bansB, if_neg (by simp [bokB, viewB, h5])]
    rfl
  have hv : viewB n m C D ss s k E = true := by simp [viewB, h0, h1, h2, h3]
  have hbo : bokB n m C D ss s k E fn fm FC FD FK l U = true := by simp [bokB, hv, h4, h5]
  obtain ⟨e1, bC, m1, m2, -, s0, s1, e2, bE, bD⟩ := viewB_elim hv
  obtain ⟨e3, e4, bA, bB, K1, K2⟩ := formB_elim h4
  obtain ⟨e5, bU⟩ := okN_elim (by omega) h5
  have e6 : l = 2 := by omega
  clear e5
  rw [bansB, if_pos hbo]
  subst e1 e2 e3 e4 e6
  have H0 : Hid _ := h0
  have H1 : Hid _ := h1
  have H2 : Hid _ := h2
  have H3 : Hid _ := h3
  have H4 : Hid _ := h4
  have H5 : Hid _ := h5
  clear hv hbo h0 h1 h2 h3 h4 h5
  have HZ : Hid ((List.zipWith (· + ·) C E).length = 3) := by show _ = _; rw [List.length_zipWith, hC.1, hE.1]; rfl
  have bV : bnd 30000 (List.zipWith (· + ·) C E) := fun i => by have := bnd_zip (by rw [hC.1, hE.1]) bC bE i; omega
  have ob := others_bnd (s := s) bD m (by rw [hD.1]; exact Nat.le_refl _) m2
  have p1 := dot_bnd (bndP_of bA bV (by omega) (by omega)) 3
  have p2 := dot_bnd (bndP_of bB bU (by omega) (by omega)) 2
  obtain ⟨x, hx⟩ : ∃ x, x = bnds m C D ss s E FC FD FK U := ⟨_, rfl⟩
  rw [← hx]
  have HV : Hid (bnd 30000 (List.zipWith (· + ·) C E)) := bV
  have HCE : Hid (bnd 1000000000 C ∧ bnd 1000000000 E) := ⟨fun i => by have := bC i; omega, fun i => by have := bE i; omega⟩
  obtain ⟨n, hn'⟩ : ∃ n, n = atV FC FD FK (List.zipWith (· + ·) C E) U := ⟨_, rfl⟩
  obtain ⟨o, ho⟩ : ∃ o, o = others D s m := ⟨_, rfl⟩
  have n1 : -10000000000000 ≤ n := by rw [hn']; unfold atV; omega
  have n2 : n ≤ 10000000000000 := by rw [hn']; unfold atV; omega
  rw [← ho] at ob
  rw [bnds, ← hn', ← ho] at hx
  have HI : Hid _ := hx
  have HNN : Hid _ := hn'
  have HO : Hid _ := ho
  obtain ⟨o1, o2⟩ := ob
  have o3 : o ≤ 150 := by omega
  have hw1 : IntKind.i64.wrap (n - o) = n - o := wrap_id (by omega) (by omega)
  have hw2 : IntKind.i64.wrap (n + o) = n + o := wrap_id (by omega) (by omega)
  have HW : Hid (IntKind.i64.wrap (n - o) = n - o ∧ IntKind.i64.wrap (n + o) = n + o) := ⟨hw1, hw2⟩
  have bK : -10000000 ≤ FK ∧ FK ≤ 10000000 := ⟨K1, K2⟩
  clear hx hn' ho o2 p1 p2 bV bD bC bE hw1 hw2
  go_enter Try.func25, Try.ntmps25
  go_wp2_with fail
  refine (strt_any _ _ _ _ _ _ C D _ (hC.below B_0) (hD.below B_0) hn hm).mono ?_
  rintro r w1 ⟨rfl, b_1⟩
  rw [H0.out]
  have B_1 := B_0.trans (b_1.mono B_0.size)
  have q_1 := q_0.below b_1
  have f_1 := f_0.below b_1
  clear B_0 f_0 q_0 b_1
  obtain ⟨c_q0, c_q1⟩ := q_1.two
  obtain ⟨c_f0, c_f1, c_f2⟩ := f_1.three
  go_wp2_with fail
  refine (sparts_any _ _ _ ss _ HN.out (hF.below B_1) hN1).mono ?_
  rintro r w2 ⟨rfl, rfl⟩
  rw [H1.out]
  go_wp2_with fail
  refine (in_any _ _ _ _).mono ?_
  rintro r w3 ⟨rfl, rfl⟩
  rw [H2.out]
  go_wp2_with fail
  refine (all_any _ _ _ E _ _ _ (hE.below B_1) hk (by omega) (by omega)).mono ?_
  rintro r w4 ⟨rfl, rfl⟩
  rw [H3.out]
  go_wp2_with fail
  refine (sok_any _ _ _ _ _ _ _ FC FD _ (hA.below B_1) (hB.below B_1) hfn hfm).mono ?_
  rintro r w5 ⟨rfl, b_5⟩
  rw [H4.out]
  clear c_q0 c_q1 c_f0 c_f1 c_f2
  have B_5 := B_1.trans (b_5.mono B_1.size)
  have q_5 := q_1.below b_5
  have f_5 := f_1.below b_5
  clear B_1 f_1 q_1 b_5
  obtain ⟨c_q0, c_q1⟩ := q_5.two
  obtain ⟨c_f0, c_f1, c_f2⟩ := f_5.three
  go_wp2_with fail
  refine (sarg_any _ _ _ U _ (hU.below B_5) hl).mono ?_
  rintro r w6 ⟨rfl, rfl⟩
  rw [H5.out]
  clear c_q0 c_q1 c_f0 c_f1 c_f2
  have CC : Hid (∀ X : World, Cel X w.heap.size [.slice a 3 cap, .slice c m cap'] 45 → Cel X (w.heap.size + 1) [.slice fa 3 fcap, .slice fc 2 fcap', .int .i64 FK] 34 → X.cell? ⟨w.heap.size, 0, none⟩ = some (.slice a 3 cap) ∧ X.cell? ⟨w.heap.size, 1, none⟩ = some (.slice c m cap') ∧ X.cell? ⟨w.heap.size + 1, 0, none⟩ = some (.slice fa 3 fcap) ∧ X.cell? ⟨w.heap.size + 1, 1, none⟩ = some (.slice fc 2 fcap') ∧ X.cell? ⟨w.heap.size + 1, 2, none⟩ = some (.int .i64 FK)) := fun X h1 h2 => ⟨h1.cell 0, h1.cell 1, h2.cell 0, h2.cell 1, h2.cell 2⟩
  have hn0 := CC.out _ q_5 f_5
  go_upto_region 3 with fail
  go_region_held3 (fun w' => w'.cell? ⟨w.heap.size, 0, none⟩ = some (.slice a 3 cap) ∧ w'.cell? ⟨w.heap.size, 1, none⟩ = some (.slice c m cap') ∧ w'.cell? ⟨w.heap.size + 1, 0, none⟩ = some (.slice fa 3 fcap) ∧ w'.cell? ⟨w.heap.size + 1, 1, none⟩ = some (.slice fc 2 fcap') ∧ w'.cell? ⟨w.heap.size + 1, 2, none⟩ = some (.int .i64 FK)) (first | with_reducible assumption | exact hn0)
    (first
      | (go_at_call 77
         refine (sum5_any _ _ _ _ C E _ (by exact hC.below B_5.drew) (by exact hE.below B_5.drew) HCE.out.1 HCE.out.2).mono ?_
         rintro ee y1 ⟨v, rfl, j⟩
         obtain ⟨va, vc, rfl, iV⟩ := j.slice3 HZ.out
         have x_1 := below_of_drew j.b
         have X_1 := B_5.trans (x_1.mono B_5.size)
         have qx_1 := q_5.below x_1
         have fx_1 := f_5.below x_1
         have hn1 := CC.out y1 qx_1 fx_1)
      | (go_at_call 56
         refine (sat30_any _ _ _ _ _ FC FD _ _ _ _ (List.zipWith (· + ·) C E) U _ (by exact hA.below X_1) (by exact hB.below X_1) iV (by exact hU.below X_1) bA bB bK HV.out bU).mono ?_
         rintro ee y2 ⟨rfl, x_2⟩
         rw [← HNN.out]
         have X_2 := X_1.trans (x_2.mono X_1.size)
         have qx_2 := qx_1.below x_2
         have fx_2 := fx_1.below x_2
         have hn2 := CC.out y2 qx_2 fx_2))
  clear hn0 hn1 iV j x_1 x_2 X_1 qx_1 fx_1 B_5 q_5 f_5
  obtain ⟨k0, k1, k2, k3, k4⟩ := hn2
  go_wp2_with fail
  refine (spart_any _ _ _ _ _ _ _ FC _ (hA.below X_2) (by omega)).mono ?_
  rintro r w21 ⟨pa, pcap, rfl, b_21, ip_21, -⟩
  clear k0 k1 k2 k3 k4
  have B_21 := X_2.trans (b_21.mono X_2.size)
  have q_21 := qx_2.below b_21
  have f_21 := fx_2.below b_21
  clear X_2 fx_2 qx_2 b_21
  obtain ⟨c_q0, c_q1⟩ := q_21.two
  obtain ⟨c_f0, c_f1, c_f2⟩ := f_21.three
  go_wp2_with fail
  refine (szero_any _).mono ?_
  rintro r w22 ⟨Z1, Z2, rfl, b_22, -, -, -, kz_22, -⟩
  clear c_q0 c_q1 c_f0 c_f1 c_f2
  have B_22 := B_21.trans (b_22.mono B_21.size)
  have q_22 := q_21.below b_22
  have f_22 := f_21.below b_22
  have ip_22 := ip_21.below b_22
  clear B_21 f_21 ip_21 q_21 b_22
  obtain ⟨c_q0, c_q1⟩ := q_22.two
  obtain ⟨c_f0, c_f1, c_f2⟩ := f_22.three
  have hfd := field_zero Z1 Z2
  go_wp2_with fail
  refine (l4same_any _ _ _ _ _ _ (partL FC) [0, 0, 0] _ ip_22 (show Ints _ _ 3 _ from kz_22.ints' rfl) (by omega) (by omega)).mono ?_
  rintro r w23 ⟨rfl, b_23⟩
  clear c_q0 c_q1 c_f0 c_f1 c_f2
  have B_23 := B_22.trans (b_23.mono B_22.size)
  have q_23 := q_22.below b_23
  have f_23 := f_22.below b_23
  have ip_23 := ip_22.below b_23
  clear B_22 f_22 ip_22 kz_22 q_22 b_23
  obtain ⟨c_q0, c_q1⟩ := q_23.two
  obtain ⟨c_f0, c_f1, c_f2⟩ := f_23.three
  clear hfd
  cases hz : eqB (partL FC) [0, 0, 0]
  · go_wp2_with fail
    refine (shas_any _ _ _ ss _ _ _ (partL FC) _ HN.out (hF.below B_23) hN1 ip_23 (by omega)).mono ?_
    rintro r w24 ⟨rfl, b_24⟩
    clear c_q0 c_q1 c_f0 c_f1 c_f2
    have B_24 := B_23.trans (b_24.mono B_23.size)
    have q_24 := q_23.below b_24
    have f_24 := f_23.below b_24
    clear B_23 f_23 ip_23 q_23 b_24
    obtain ⟨c_q0, c_q1⟩ := q_24.two
    obtain ⟨c_f0, c_f1, c_f2⟩ := f_24.three
    by_cases hh : hasI ss (partL FC) < 0
    · have X : x = (0, 0, false) := by rw [HI.out, hz, if_neg (by decide), if_pos hh]
      have HX2 : Hid _ := X
      clear X
      go_wp2
      refine bodyPost_ret (v := .tuple #[.int .i64 0, .int .i64 0, .bool false]) (by simp [results, Try.results25, go_sem]) rfl ⟨by rw [HX2.out]; rfl, B_24⟩
    have X : x = (n - o, n + o, true) := by rw [HI.out, hz, if_neg (by decide), if_neg hh]
    have HX2 : Hid _ := X
    clear X
    clear c_q0 c_q1 c_f0 c_f1 c_f2
    have hn0 := CC.out _ q_24 f_24
    go_upto_region 9 with fail
    go_region_held3 (fun w' => w'.cell? ⟨w.heap.size, 0, none⟩ = some (.slice a 3 cap) ∧ w'.cell? ⟨w.heap.size, 1, none⟩ = some (.slice c m cap') ∧ w'.cell? ⟨w.heap.size + 1, 0, none⟩ = some (.slice fa 3 fcap) ∧ w'.cell? ⟨w.heap.size + 1, 1, none⟩ = some (.slice fc 2 fcap') ∧ w'.cell? ⟨w.heap.size + 1, 2, none⟩ = some (.int .i64 FK)) (first | with_reducible assumption | exact hn0)
      (first
        | (go_at_call 82
           refine (sothers_any _ _ _ _ _ _ D s _ (by exact hD.below Z_1) (by omega)).mono ?_
           rintro ee y4 ⟨rfl, z_2⟩
           rw [← HO.out]
           have Z_2 := Z_1.trans (z_2.mono Z_1.size)
           have hn4 := CC.out y4 (qz_1.below z_2) (fz_1.below z_2))
        | (go_at_call 82
           refine (sothers_any _ _ _ _ _ _ D s _ (by exact hD.below B_24.drew) (by omega)).mono ?_
           rintro ee y3 ⟨rfl, zd_1⟩
           rw [← HO.out]
           have z_1 := below_of_drew zd_1
           have Z_1 := B_24.trans (z_1.mono B_24.size)
           have qz_1 := q_24.below z_1
           have fz_1 := f_24.below z_1
           have hn3 := CC.out y3 qz_1 fz_1))
    rw [HW.out.1, HW.out.2]
    go_wp2
    refine bodyPost_ret (v := .tuple #[.int .i64 (n - o), .int .i64 (n + o), .bool true]) (by simp [results, Try.results25, go_sem]) rfl ⟨by rw [HX2.out]; rfl, Z_2⟩
  · have X : x = (n, n, true) := by rw [HI.out, hz, if_pos rfl]
    have HX2 : Hid _ := X
    clear X
    go_wp2
    refine bodyPost_ret (v := .tuple #[.int .i64 n, .int .i64 n, .bool true]) (by simp [results, Try.results25, go_sem]) rfl ⟨by rw [HX2.out]; rfl, B_23⟩

end Go.Proofs.Ytjggppnffkcmbaa
namespace Go.Proofs.Ytjggppnffkcmbaa
open Go.RowKit
set_option linter.unusedVariables false

theorem two_of {A : List Int} (h : A.length = 2) : ∃ x y, A = [x, y] := by
  match A, h with
  | [x, y], _ => exact ⟨x, y, rfl⟩
theorem three_of {A : List Int} (h : A.length = 3) : ∃ x y z, A = [x, y, z] := by
  match A, h with
  | [x, y, z], _ => exact ⟨x, y, z, rfl⟩
/-- Within what a form's numbers may be. -/
def inM (x : Int) : Prop := -10000000 ≤ x ∧ x ≤ 10000000
theorem okP_of {x y z s t K : Int} (hx : inM x) (hy : inM y) (hz : inM z) (hs : inM s) (ht : inM t) (hK : inM K) : okP ([x, y, z], [s, t], K) = true := by
  unfold inM at *
  simp [okP, formB, okN, allB, inB]
  omega
theorem okP_shape {f : Frm} (h : okP f = true) : ∃ x y z s t K, f = ([x, y, z], [s, t], K) ∧ inM x ∧ inM y ∧ inM z ∧ inM s ∧ inM t ∧ inM K := by
  obtain ⟨C, D, K⟩ := f
  obtain ⟨l1, l2, b1, b2, b3, b4⟩ := formB_elim h
  obtain ⟨x, y, z, rfl⟩ := three_of l1
  obtain ⟨s, t, rfl⟩ := two_of l2
  have c0 := b1 0
  have c1 := b1 1
  have c2 := b1 2
  have d0 := b2 0
  have d1 := b2 1
  simp only [List.getElem?_cons_zero, List.getElem?_cons_succ, Option.getD_some] at c0 c1 c2 d0 d1
  exact ⟨x, y, z, s, t, K, rfl, c0, c1, c2, d0, d1, ⟨b3, b4⟩⟩
theorem okP_no {x y z s t K : Int} (h : okP ([x, y, z], [s, t], K) = true) : inM x ∧ inM y ∧ inM z ∧ inM s ∧ inM t ∧ inM K := by
  obtain ⟨x', y', z', s', t', K', e, h⟩ := okP_shape h
  simp only [Prod.mk.injEq, List.cons.injEq, and_true] at e
  obtain ⟨⟨rfl, rfl, rfl⟩, ⟨rfl, rfl⟩, rfl⟩ := e
  exact h
theorem timP_no {f : Frm} {k : Int} (h : timB f k = false) : timP f k = ([], [], 0) := by unfold timP; rw [h]; rfl
theorem timP_yes {f : Frm} {k : Int} (h : timB f k = true) : timP f k = (mulL k f.1, mulL k f.2.1, k * f.2.2) := by unfold timP; rw [h]; rfl
theorem timB_ok {f : Frm} {k : Int} (h : timB f k = true) : okP f = true ∧ -10000000 ≤ k ∧ k ≤ 10000000 := by
  unfold timB timOk at h
  simp only [Bool.and_eq_true] at h
  exact ⟨h.1.1, inB_iff.1 h.1.2⟩
theorem timB_not {f : Frm} {k : Int} (h : okP f = false) : timB f k = false := by
  unfold okP at h
  unfold timB timOk
  rw [h]; rfl
theorem tim_shape {x y z s t K k : Int} (h : okP ([x, y, z], [s, t], K) = true) (h1 : -10000000 ≤ k) (h2 : k ≤ 10000000) (h3 : okP ([k * x, k * y, k * z], [k * s, k * t], k * K) = true) : timP ([x, y, z], [s, t], K) k = ([k * x, k * y, k * z], [k * s, k * t], k * K) := by
  have hb : timB ([x, y, z], [s, t], K) k = true := by
    unfold timB timOk
    unfold okP at h h3
    rw [h, inB_iff.2 ⟨h1, h2⟩]
    exact h3
  rw [timP_yes hb]
  rfl
theorem tim_one {f : Frm} (h : okP f = true) : timP f 1 = f := by
  obtain ⟨x, y, z, s, t, K, rfl, _⟩ := okP_shape h
  have e := tim_shape (k := 1) h (by omega) (by omega) (by simpa using h)
  simpa using e
theorem tim_nil {f : Frm} (h : okP f = true) : timP f 0 = zeroP := by
  obtain ⟨x, y, z, s, t, K, rfl, _⟩ := okP_shape h
  have e := tim_shape (k := 0) h (by omega) (by omega) (by simp; decide)
  simpa [zeroP] using e
theorem tim_neg {x y z s t K : Int} (h : okP ([x, y, z], [s, t], K) = true) : timP ([x, y, z], [s, t], K) (-1) = ([-x, -y, -z], [-s, -t], -K) ∧ okP ([-x, -y, -z], [-s, -t], -K) = true := by
  obtain ⟨a1, a2, a3, a4, a5, a6⟩ := okP_no h
  have h' : okP ([-x, -y, -z], [-s, -t], -K) = true := okP_of (by unfold inM at *; omega) (by unfold inM at *; omega) (by unfold inM at *; omega) (by unfold inM at *; omega) (by unfold inM at *; omega) (by unfold inM at *; omega)
  have e := tim_shape (k := -1) h (by omega) (by omega) (by simpa using h')
  exact ⟨by simpa using e, h'⟩
theorem tim_back {f : Frm} (h : okP f = true) : timP (timP f (-1)) (-1) = f := by
  obtain ⟨x, y, z, s, t, K, rfl, _⟩ := okP_shape h
  obtain ⟨e, h'⟩ := tim_neg h
  rw [e, (tim_neg h').1]
  simp
theorem add_neg {f : Frm} (h : okP f = true) : addP f (timP f (-1)) = zeroP := by
  obtain ⟨x, y, z, s, t, K, rfl, _⟩ := okP_shape h
  obtain ⟨e, h'⟩ := tim_neg h
  rw [e]
  have hb : addB ([x, y, z], [s, t], K) ([-x, -y, -z], [-s, -t], -K) = true := by
    unfold addB addOk
    unfold okP at h h'
    rw [h, h']
    simp [lin, formB, okN, allB, inB]
    omega
  unfold addP
  rw [hb]
  simp [keepL, keepK, lin, zeroP]
  omega
theorem dot_mul {xs V : List Int} {n : Int} {k : Nat} (h : xs.length = k) : ∀ j, j ≤ k → dot (mulL n xs) V j = n * dot xs V j
  | 0, _ => by simp [dot]
  | j + 1, hj => by
    have ih := dot_mul (V := V) (n := n) h j (by omega)
    have e := mulL_get (n := n) (zs := xs) (i := j) (by omega)
    simp only [dot, ih, e]
    rw [Int.mul_add, Int.mul_assoc]
theorem at_bnd {f : Frm} {V A : List Int} : -10000000000000 ≤ atP f V A ∧ atP f V A ≤ 10000000000000 := by
  unfold atP
  cases h : atOk f.1.length f.2.1.length V.length A.length f.1 f.2.1 f.2.2 V A
  · rw [atN_no h]; omega
  · rw [atN_yes h]
    unfold atOk at h
    simp only [Bool.and_eq_true] at h
    obtain ⟨⟨h1, h2⟩, h3⟩ := h
    obtain ⟨_, _, b1, b2, b3, b4⟩ := formB_elim h1
    have v1 := (okN_elim (by omega) h2).2
    have a1 := (okN_elim (by omega) h3).2
    have d1 := dot_bnd (bndP_of b1 v1 (by omega) (by omega)) 3
    have d2 := dot_bnd (bndP_of b2 a1 (by omega) (by omega)) 2
    unfold atV
    omega
theorem tim_at {f : Frm} {k : Int} {V A : List Int} (h : atB (timP f k) V A = true) : atB f V A = true ∧ atP (timP f k) V A = k * atP f V A := by
  have hb : timB f k = true := by
    cases hb : timB f k
    · rw [timP_no hb] at h
      unfold atB atOk at h
      simp [formB, okN] at h
    · rfl
  obtain ⟨h1, _, _⟩ := timB_ok hb
  have h' := h
  unfold atB atOk at h'
  simp only [Bool.and_eq_true] at h'
  obtain ⟨⟨_, hV⟩, hA⟩ := h'
  have t1 : atB f V A = true := by unfold okP at h1; unfold atB atOk; rw [h1, hV, hA]; rfl
  refine ⟨t1, ?_⟩
  have l1 := formB_elim h1
  unfold atP
  rw [atN_yes h, atN_yes t1, timP_yes hb]
  unfold atV
  rw [dot_mul l1.1 3 (by omega), dot_mul l1.2.1 2 (by omega)]
  dsimp only
  rw [Int.mul_add, Int.mul_add]

end Go.Proofs.Ytjggppnffkcmbaa
