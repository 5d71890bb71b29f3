/-
  Lemmas that the claim's last text rests on: Has, Zero, CatWS, KeyR, CatWI, CatVw, Part, Cat, BothA, Both, BoolS, CatPW.
-/
import Derived.Test.YtngfbcegcekbbaaJCatPinsB
import Derived.RangeFuncCalls
import Derived.Test.YtngfbcegcekbbaaJCatPinsA
import Derived.Test.YtngfbcegcekbbaaGrow
import Derived.Test.YtngfbcegcekbbaaLineSS
import Derived.Deep.AppendLies
namespace Go.Proofs.Ytngfbcegcekbbaa
open Go.RowKit
set_option linter.unusedVariables false

set_option maxHeartbeats 400000 in
theorem l4same_any (a c : Option Addr) (n m cap cap' : Nat) (xs ys : List Int) (w : World) (h : Ints w a n xs) (h' : Ints w c m ys) (hn : n ≤ 1048576) (hm : m ≤ 1048576) :
    Calls Try.prog 90 #[.slice a n cap, .slice c m cap'] w fun e w' => e = .returned (.bool (eqB xs ys)) ∧ Below w.heap.size w w' := by
  have hx := h.1
  have HX : Hid (xs.length = n) := hx
  have hy := h'.1
  have HY : Hid (ys.length = m) := hy
  clear hx hy
  by_cases hc : n = m
  · subst hc
    go_enter Try.func90, Try.ntmps90
    go_wp2_with fail
    go_loopw [5] (fun i wr => ∃ k : Nat, k ≤ n ∧ i = .int .i64 k ∧ Below w.heap.size w wr ∧ xs.take k = ys.take k) (fun i _ => n - (intOf i).toNat)
    case atStart => exact ⟨0, Nat.zero_le _, rfl, Below.refl _ _, rfl⟩
    case round =>
      obtain ⟨k, hk, rfl, hnx, hall⟩ := hrel
      have HA : Hid (xs.take k = ys.take k) := hall
      clear hall
      by_cases hlt : k < n
      · obtain ⟨b, off, rfl, hcell⟩ := (h.below hnx).pos (by omega)
        obtain ⟨b', off', rfl, hcell'⟩ := (h'.below hnx).pos (by omega)
        have hck := hcell k hlt
        have hck' := hcell' k hlt
        have hlt' : (k : Int) < (n : Int) := by omega
        clear hcell hcell' h h'
        go_wp2_with fail
        go_quiet (fail)
        cases he : (xs[k]?.getD 0 != ys[k]?.getD 0)
        · go_wp2
          go_roundw
          case rel => exact ⟨k + 1, by omega, by go_num, below_drewN hnx _, take_same_succ (by rw [HX.out]; exact hlt) (by rw [HY.out]; exact hlt) HA.out (by simpa using he)⟩
          case measure => simp [intOf]; omega
        · go_wp2
          go_ret
          exact ⟨ret_bool (by rw [eqB_false (k := k) (by simpa using he)]), below_drewN hnx _⟩
      · go_wp2
        go_ret
        exact ⟨ret_bool (by rw [eqB_true HX.out HY.out (by omega) HA.out]), hnx⟩
  · have hne : ((n : Int) != (m : Int)) = true := by simp; omega
    go_enter Try.func90, Try.ntmps90
    go_wp2
    go_ret
    exact ⟨ret_bool (by rw [eqB_len (by rw [HX.out, HY.out]; exact hc)]), Below.refl _ _⟩

set_option maxHeartbeats 400000 in
theorem equal_any (a c : Option Addr) (n m cap cap' : Nat) (xs ys : List Int) (w : World) (h : Ints w a n xs) (h' : Ints w c m ys) (hn : n ≤ 1048576) (hm : m ≤ 1048576) :
    Calls Try.prog 55 #[.slice a n cap, .slice c m cap'] w fun e w' => e = .returned (.bool (eqB xs ys)) ∧ Below w.heap.size w w' := by
  have hx := h.1
  have HX : Hid (xs.length = n) := hx
  have hy := h'.1
  have HY : Hid (ys.length = m) := hy
  clear hx hy
  by_cases hc : n = m
  · subst hc
    go_enter Try.func55, Try.ntmps55
    go_wp2_with fail
    go_loopw [5, 13] (fun _ i wr => ∃ k : Nat, k ≤ n ∧ i = .int .i64 k ∧ Below w.heap.size w wr ∧ xs.take k = ys.take k) (fun _ i _ => n - (intOf i).toNat)
    case atStart => exact ⟨0, Nat.zero_le _, rfl, Below.refl _ _, rfl⟩
    case round =>
      obtain ⟨k, hk, rfl, hnx, hall⟩ := hrel
      have HA : Hid (xs.take k = ys.take k) := hall
      clear hall
      by_cases hlt : k < n
      · obtain ⟨b, off, rfl, hcell⟩ := (h.below hnx).pos (by omega)
        obtain ⟨b', off', rfl, hcell'⟩ := (h'.below hnx).pos (by omega)
        have hck := hcell k hlt
        have hck' := hcell' k hlt
        have hlt' : (k : Int) < (n : Int) := by omega
        clear hcell hcell' h h'
        go_wp2_with fail
        go_quiet (fail)
        cases he : (xs[k]?.getD 0 != ys[k]?.getD 0)
        · go_wp2
          go_roundw
          case rel => exact ⟨k + 1, by omega, by go_num, below_drewN hnx _, take_same_succ (by rw [HX.out]; exact hlt) (by rw [HY.out]; exact hlt) HA.out (by simpa using he)⟩
          case measure => simp [intOf]; omega
        · go_wp2
          go_ret
          exact ⟨ret_bool (by rw [eqB_false (k := k) (by simpa using he)]), below_drewN hnx _⟩
      · go_wp2
        go_ret
        exact ⟨ret_bool (by rw [eqB_true HX.out HY.out (by omega) HA.out]), hnx⟩
  · have hne : ((n : Int) != (m : Int)) = true := by simp; omega
    go_enter Try.func55, Try.ntmps55
    go_wp2
    go_ret
    exact ⟨ret_bool (by rw [eqB_len (by rw [HX.out, HY.out]; exact hc)]), Below.refl _ _⟩

/-- The place of a part among others, from place k on. -/
def hasFrom (part : List Int) : Nat → List (List Int) → Int
  | _, [] => -1
  | k, x :: t => if eqB x part then k else hasFrom part (k + 1) t
def hasI (ss : List IV) (part : List Int) : Int := hasFrom part 0 (ss.map IV.x)
theorem has_drop {ss : List IV} {part : List Int} {k : Nat} (h : k < ss.length) : hasFrom part k ((ss.map IV.x).drop k) = if eqB (ss[k]?.getD noI).x part then (k : Int) else hasFrom part (k + 1) ((ss.map IV.x).drop (k + 1)) := by
  have hl : k < (ss.map IV.x).length := by simpa using h
  rw [List.drop_eq_getElem_cons hl, hasFrom, List.getElem?_eq_getElem h]
  simp
theorem has_end {ss : List IV} {part : List Int} {k : Nat} (h : ss.length ≤ k) : hasFrom part k ((ss.map IV.x).drop k) = -1 := by
  rw [List.drop_eq_nil_of_le (by simpa using h)]; rfl

set_option maxHeartbeats 800000 in
theorem shas_any (ad : Option Addr) (N cap : Nat) (ss : List IV) (c : Option Addr) (m cap' : Nat) (part : List Int) (w : World) (hN : ss.length = N) (hF : ISG w ad ss) (hN1 : N ≤ 1048576) (hP : Ints w c m part) (hm : m ≤ 1048576) :
    Calls Try.prog 89 #[.slice ad N cap, .slice c m cap'] w fun e w' => e = .returned (.int .i64 (hasI ss part)) ∧ Below w.heap.size w w' := by
  have HN : Hid (ss.length = N) := hN
  clear hN
  go_enter Try.func89, Try.ntmps89
  go_wp2_with fail
  go_loopw [5] (fun i wr => ∃ k : Nat, k ≤ N ∧ i = .int .i64 k ∧ Below w.heap.size w wr ∧ hasI ss part = hasFrom part k ((ss.map IV.x).drop k)) (fun i _ => N - (intOf i).toNat)
  case atStart => exact ⟨0, Nat.zero_le _, rfl, Below.refl _ _, rfl⟩
  case round =>
    obtain ⟨k, hk, rfl, hb, hall⟩ := hrel
    have HA : Hid _ := hall
    clear hall
    by_cases hlt : k < N
    · obtain ⟨b, off, rfl, hc, hr⟩ := (hF.below hb) k (by rw [HN.out]; exact hlt)
      have HD : Hid _ := has_drop (ss := ss) (part := part) (k := k) (by rw [HN.out]; exact hlt)
      generalize HG : ss[k]?.getD noI = g at *
      clear HG hF
      obtain ⟨ga, gn, gcap, gx⟩ := g
      have hc' : wr.cell? ⟨b, off + k, none⟩ = some (.slice ga gn gcap) := hc
      clear hc
      cases he : eqB gx part
      · go_wp2_with fail
        refine (l4same_any _ _ _ _ _ _ gx part _ hr.1 (hP.below hb) hr.2 hm).mono ?_
        rintro e w1 ⟨rfl, b1⟩
        rw [he]
        go_wp2
        go_roundw
        case rel => exact ⟨k + 1, by omega, by go_num, hb.trans (b1.mono hb.size), by rw [HA.out, HD.out]; simp only [he]; rfl⟩
        case measure => simp [intOf]; omega
      · go_wp2_with fail
        refine (l4same_any _ _ _ _ _ _ gx part _ hr.1 (hP.below hb) hr.2 hm).mono ?_
        rintro e w1 ⟨rfl, b1⟩
        rw [he]
        go_wp2
        go_ret
        exact ⟨ret_int (by rw [HA.out, HD.out]; simp only [he]; rfl), hb.trans (b1.mono hb.size)⟩
    · go_wp2
      go_ret
      exact ⟨ret_int (by rw [HA.out, has_end (by rw [HN.out]; omega)]), hb⟩

set_option maxHeartbeats 800000 in
theorem ihas_any (ad : Option Addr) (N cap : Nat) (ss : List IV) (c : Option Addr) (m cap' : Nat) (part : List Int) (w : World) (hN : ss.length = N) (hF : ISG w ad ss) (hN1 : N ≤ 1048576) (hP : Ints w c m part) (hm : m ≤ 1048576) :
    Calls Try.prog 21 #[.slice ad N cap, .slice c m cap'] w fun e w' => e = .returned (.int .i64 (hasI ss part)) ∧ Below w.heap.size w w' := by
  have HN : Hid (ss.length = N) := hN
  clear hN
  go_enter Try.func21, Try.ntmps21
  go_wp2_with fail
  go_loopw [5, 6, 9] (fun _ _ i wr => ∃ k : Nat, k ≤ N ∧ i = .int .i64 k ∧ Below w.heap.size w wr ∧ hasI ss part = hasFrom part k ((ss.map IV.x).drop k)) (fun _ _ i _ => N - (intOf i).toNat)
  case atStart => exact ⟨0, Nat.zero_le _, rfl, Below.refl _ _, rfl⟩
  case round =>
    obtain ⟨k, hk, rfl, hb, hall⟩ := hrel
    have HA : Hid _ := hall
    clear hall
    by_cases hlt : k < N
    · obtain ⟨b, off, rfl, hc, hr⟩ := (hF.below hb) k (by rw [HN.out]; exact hlt)
      have HD : Hid _ := has_drop (ss := ss) (part := part) (k := k) (by rw [HN.out]; exact hlt)
      generalize HG : ss[k]?.getD noI = g at *
      clear HG hF
      obtain ⟨ga, gn, gcap, gx⟩ := g
      have hc' : wr.cell? ⟨b, off + k, none⟩ = some (.slice ga gn gcap) := hc
      clear hc
      cases he : eqB gx part
      · go_wp2_with fail
        refine (equal_any _ _ _ _ _ _ gx part _ hr.1 (hP.below hb) hr.2 hm).mono ?_
        rintro e w1 ⟨rfl, b1⟩
        rw [he]
        go_wp2
        go_roundw
        case rel => exact ⟨k + 1, by omega, by go_num, hb.trans (b1.mono hb.size), by rw [HA.out, HD.out]; simp only [he]; rfl⟩
        case measure => simp [intOf]; omega
      · go_wp2_with fail
        refine (equal_any _ _ _ _ _ _ gx part _ hr.1 (hP.below hb) hr.2 hm).mono ?_
        rintro e w1 ⟨rfl, b1⟩
        rw [he]
        go_wp2
        go_ret
        exact ⟨ret_int (by rw [HA.out, HD.out]; simp only [he]; rfl), hb.trans (b1.mono hb.size)⟩
    · go_wp2
      go_ret
      exact ⟨ret_int (by rw [HA.out, has_end (by rw [HN.out]; omega)]), hb⟩

end Go.Proofs.Ytngfbcegcekbbaa
namespace Go.Proofs.Ytngfbcegcekbbaa
open Go.RowKit Go.Deep
set_option linter.unusedVariables false
set_option maxRecDepth 100000

def zeroB (C D : List Int) (K : Int) : Bool := allB 0 C && allB 0 D && (K == 0)
theorem not_true_of {b : Bool} (h : b = false) : ¬ b = true := fun e => by rw [h] at e; cases e
def zeroF (f : Frm) : Bool := zeroB f.1 f.2.1 f.2.2
theorem allB0 (zs : List Int) : allB 0 zs = decide (zs = List.replicate zs.length 0) := by
  induction zs with
  | nil => rfl
  | cons x xs ih =>
    simp only [allB, List.all_cons, List.length_cons, List.replicate_succ] at *
    rw [ih]
    by_cases hx : x = 0
    · subst hx; simp [inB]
    · have : inB x (-0) 0 = false := inB_not.2 (by omega)
      rw [this]; simp [hx]
theorem eqB0 {zs ys : List Int} (h : ys = List.replicate zs.length 0) : eqB zs ys = allB 0 zs := by rw [allB0, eqB, h]

set_option maxHeartbeats 1600000 in
theorem izero0_any (a : Option Addr) (cap : Nat) (c : Option Addr) (cap' : Nat) (K : Int) (C D : List Int) (w : World) (hC : Ints w a 3 C) (hD : Ints w c 2 D) :
    Calls Try.prog 68 #[formV a 3 cap c 2 cap' K] w fun e w' => e = .returned (.bool (zeroB C D K)) ∧ Below w.heap.size w w' := by
  have B0 : Below w.heap.size w (w.alloc (.cells #[.slice a 3 cap, .slice c 2 cap', .int .i64 K] 32)) := (Below.refl _ _).alloc (Nat.le_refl _) _
  cases h1 : allB 0 C
  · go_enter Try.func68, Try.ntmps68
    go_wp2_with fail
    refine (within_any _ _ _ C _ _ (hC.alloc _) (by omega) (by omega) (by omega)).mono ?_
    rintro e w1 ⟨rfl, rfl⟩
    rw [h1]
    go_wp2
    go_ret
    exact ⟨ret_bool (by simp [zeroB, h1]), B0⟩
  · cases h2 : allB 0 D
    · go_enter Try.func68, Try.ntmps68
      go_wp2_with fail
      refine (within_any _ _ _ C _ _ (hC.alloc _) (by omega) (by omega) (by omega)).mono ?_
      rintro e w1 ⟨rfl, rfl⟩
      rw [h1]
      go_wp2_with fail
      refine (within_any _ _ _ D _ _ (hD.alloc _) (by omega) (by omega) (by omega)).mono ?_
      rintro e w1 ⟨rfl, rfl⟩
      rw [h2]
      go_wp2
      go_ret
      exact ⟨ret_bool (by simp [zeroB, h1, h2]), B0⟩
    · go_enter Try.func68, Try.ntmps68
      go_wp2_with fail
      refine (within_any _ _ _ C _ _ (hC.alloc _) (by omega) (by omega) (by omega)).mono ?_
      rintro e w1 ⟨rfl, rfl⟩
      rw [h1]
      go_wp2_with fail
      refine (within_any _ _ _ D _ _ (hD.alloc _) (by omega) (by omega) (by omega)).mono ?_
      rintro e w1 ⟨rfl, rfl⟩
      rw [h2]
      go_wp2
      go_ret
      exact ⟨ret_bool (by simp [zeroB, h1, h2]), B0⟩

set_option maxHeartbeats 3200000 in
theorem szero0_any (a : Option Addr) (cap : Nat) (c : Option Addr) (cap' : Nat) (kz : Int) (C D : List Int) (w : World) (hC : Ints w a 3 C) (hD : Ints w c 2 D) :
    Calls Try.prog 69 #[formV a 3 cap c 2 cap' kz] w fun e w' => e = .returned (.bool (zeroB C D kz)) ∧ Below w.heap.size w w' := by
  obtain ⟨W0, hW0⟩ : ∃ W0, W0 = w.alloc (.cells #[.slice a 3 cap, .slice c 2 cap', .int .i64 kz] 32) := ⟨_, rfl⟩
  have B0 : Below w.heap.size w W0 := by rw [hW0]; exact (Below.refl _ _).alloc (Nat.le_refl _) _
  have n0 : Cel W0 w.heap.size [.slice a 3 cap, .slice c 2 cap', .int .i64 kz] 32 := by rw [hW0]; exact Cel.new w _ _
  have KP : Hid (∀ W, Below W0.heap.size W0 W → (W.cell? ⟨w.heap.size, 0, none⟩ = some (.slice a 3 cap) ∧ W.cell? ⟨w.heap.size, 1, none⟩ = some (.slice c 2 cap') ∧ W.cell? ⟨w.heap.size, 2, none⟩ = some (.int .i64 kz))) := fun W hW => ⟨(n0.below hW).cell 0, (n0.below hW).cell 1, (n0.below hW).cell 2⟩
  have C0 : Hid (Ints W0 a 3 C) := hC.below B0
  have D0 : Hid (Ints W0 c 2 D) := hD.below B0
  have e0 : Below W0.heap.size W0 W0.drew := (Below.refl _ _).drew
  have hSS := And.intro (KP.out _ e0) (True.intro)
  have EC : Hid (eqB C [0, 0, 0] = allB 0 C) := eqB0 (by rw [hC.1]; rfl)
  have ED : Hid (eqB D [0, 0] = allB 0 D) := eqB0 (by rw [hD.1]; rfl)
  clear hC hD
  go_enter Try.func69, Try.ntmps69
  go_upto_region 1 with fail
  rw [← hW0]
  clear hW0
  refine wp_region_ends (fun w' => w'.cell? ⟨w.heap.size, 0, none⟩ = some (.slice a 3 cap) ∧ w'.cell? ⟨w.heap.size, 1, none⟩ = some (.slice c 2 cap') ∧ w'.cell? ⟨w.heap.size, 2, none⟩ = some (.int .i64 kz)) (fun _ => True) 17 (by kernel_rfl) ?_
  refine wpAnyE_take0 (i := 0) (v := ?av0) rfl (by kernel_rfl) (by kernel_rfl) (by kernel_rfl) (by decide) (fun _ _ _ h => h) (Or.inl ⟨by rfl, ?ahy0⟩) hSS ?_
  case ahy0 => (intro wz hSw; (try dsimp only at hSw); go_simp; try (with_reducible rfl))
  refine wpAnyE_take0 (i := 1) (v := ?av1) rfl (by kernel_rfl) (by kernel_rfl) (by kernel_rfl) (by decide) (fun _ _ _ h => h) (Or.inl ⟨by rfl, ?ahy1⟩) hSS ?_
  case ahy1 => (intro wz hSw; (try dsimp only at hSw); go_simp; try (with_reducible rfl))
  refine wpAnyE_one (i := 2) (by kernel_rfl) rfl (fun K hK => ?_)
  go_simp
  refine (szero_any _).mono ?_
  rintro ee w1 ⟨B1, B2, rfl, bd1, y1, y12, y2, k1, k2⟩
  have b1 := below_of_drew bd1
  (try dsimp only)
  refine hK.out _ _ ⟨KP.out _ b1, fun _ => trivial⟩ ?_
  clear hK K
  refine wpAnyE_one (i := 3) (by kernel_rfl) rfl (fun K hK => ?_)
  go_simp
  refine hK.out _ _ ⟨KP.out _ b1, fun _ => trivial⟩ ?_
  clear hK K
  refine wpAnyE_one (i := 4) (by kernel_rfl) rfl (fun K hK => ?_)
  go_simp
  refine (l4same_any _ _ 3 3 _ _ C [0, 0, 0] _ (C0.out.below b1) (k1.ints' rfl) (by omega) (by omega)).mono ?_
  rintro ee w2 ⟨rfl, bd2⟩
  rw [EC.out]
  have b2 := b1.trans (bd2.mono b1.size)
  (try dsimp only)
  refine hK.out _ _ ⟨KP.out _ b2, fun _ => trivial⟩ ?_
  clear hK K hSS bd1 bd2 b1 k1 k2 y1 y2 y12
  cases h1 : allB 0 C
  · refine wpAnyE_one (i := 5) (by kernel_rfl) rfl (fun K hK => ?_)
    go_simp
    refine hK.out _ _ ⟨KP.out _ b2, fun _ => trivial⟩ ?_
    clear hK K
    have hS2 := And.intro (KP.out _ b2) (True.intro)
    refine wpAnyE_take0 (i := 6) (v := undef) rfl (by kernel_rfl) (by kernel_rfl) (by kernel_rfl) (by decide) (fun _ _ _ h => h) (Or.inr ⟨by kernel_rfl, rfl⟩) hS2 ?_
    refine wpAnyE_take0 (i := 7) (v := undef) rfl (by kernel_rfl) (by kernel_rfl) (by kernel_rfl) (by decide) (fun _ _ _ h => h) (Or.inr ⟨by kernel_rfl, rfl⟩) hS2 ?_
    clear hS2
    refine wpAnyE_one (i := 8) (by kernel_rfl) rfl (fun K hK => ?_)
    rw [if_neg (not_true_of (by kernel_rfl))]
    refine hK.out _ _ ⟨KP.out _ b2, fun _ => trivial⟩ ?_
    clear hK K
    refine wpAnyE_one (i := 9) (by kernel_rfl) rfl (fun K hK => ?_)
    rw [if_neg (not_true_of (by kernel_rfl))]
    refine hK.out _ _ ⟨KP.out _ b2, fun _ => trivial⟩ ?_
    clear hK K
    refine wpAnyE_one (i := 10) (by kernel_rfl) rfl (fun K hK => ?_)
    rw [if_neg (not_true_of (by kernel_rfl))]
    refine hK.out _ _ ⟨KP.out _ b2, fun _ => trivial⟩ ?_
    clear hK K
    refine wpAnyE_one (i := 11) (by kernel_rfl) rfl (fun K hK => ?_)
    go_simp
    refine hK.out _ _ ⟨KP.out _ b2, fun _ => trivial⟩ ?_
    clear hK K
    refine wpAnyE_one (i := 12) (by kernel_rfl) rfl (fun K hK => ?_)
    go_simp
    refine hK.out _ _ ⟨KP.out _ b2, fun _ => trivial⟩ ?_
    clear hK K
    refine wpAnyE_one (i := 13) (by kernel_rfl) rfl (fun K hK => ?_)
    rw [if_neg (not_true_of (by kernel_rfl))]
    refine hK.out _ _ ⟨KP.out _ b2, fun _ => trivial⟩ ?_
    clear hK K
    refine wpAnyE_one (i := 14) (by kernel_rfl) rfl (fun K hK => ?_)
    rw [if_neg (not_true_of (by kernel_rfl))]
    refine hK.out _ _ ⟨KP.out _ b2, fun _ => trivial⟩ ?_
    clear hK K
    refine wpAnyE_one (i := 15) (by kernel_rfl) rfl (fun K hK => ?_)
    rw [if_neg (not_true_of (by kernel_rfl))]
    refine hK.out _ _ ⟨KP.out _ b2, fun _ => trivial⟩ ?_
    clear hK K
    refine wpAnyE_one (i := 16) (by kernel_rfl) rfl (fun K hK => ?_)
    go_simp
    refine hK.out _ _ ⟨KP.out _ b2, fun _ => trivial⟩ ?_
    clear hK K
    refine wpAnyE_one (i := 17) (by kernel_rfl) rfl (fun K hK => ?_)
    go_simp
    refine hK.out _ _ ⟨KP.out _ b2, fun _ => trivial⟩ ?_
    clear hK K
    refine wpAnyE_done (by kernel_rfl) ?_ _
    go_wp2
    go_ret
    exact ⟨ret_bool (by simp [zeroB, h1]), B0.trans (b2.mono B0.size)⟩
  · refine wpAnyE_one (i := 5) (by kernel_rfl) rfl (fun K hK => ?_)
    go_simp
    refine hK.out _ _ ⟨KP.out _ b2, fun _ => trivial⟩ ?_
    clear hK K
    have hS2 := And.intro (KP.out _ b2) (True.intro)
    refine wpAnyE_take0 (i := 6) (v := ?bv6) rfl (by kernel_rfl) (by kernel_rfl) (by kernel_rfl) (by decide) (fun _ _ _ h => h) (Or.inl ⟨by kernel_rfl, ?bhy6⟩) hS2 ?_
    case bhy6 => (intro wz hSw; (try dsimp only at hSw); go_simp; try (with_reducible rfl))
    refine wpAnyE_take0 (i := 7) (v := ?bv7) rfl (by kernel_rfl) (by kernel_rfl) (by kernel_rfl) (by decide) (fun _ _ _ h => h) (Or.inl ⟨by kernel_rfl, ?bhy7⟩) hS2 ?_
    case bhy7 => (intro wz hSw; (try dsimp only at hSw); go_simp; try (with_reducible rfl))
    clear hS2
    refine wpAnyE_one (i := 8) (by kernel_rfl) rfl (fun K hK => ?_)
    rw [if_pos (by kernel_rfl)]
    go_simp
    refine (szero_any _).mono ?_
    rintro ee w3 ⟨B1, B2, rfl, bd3, y1, y12, y2, k1, k2⟩
    have b3 := b2.trans (bd3.mono b2.size)
    (try dsimp only)
    refine hK.out _ _ ⟨KP.out _ b3, fun _ => trivial⟩ ?_
    clear hK K
    refine wpAnyE_one (i := 9) (by kernel_rfl) rfl (fun K hK => ?_)
    rw [if_pos (by kernel_rfl)]
    go_simp
    refine hK.out _ _ ⟨KP.out _ b3, fun _ => trivial⟩ ?_
    clear hK K
    refine wpAnyE_one (i := 10) (by kernel_rfl) rfl (fun K hK => ?_)
    rw [if_pos (by kernel_rfl)]
    go_simp
    refine (l4same_any _ _ 2 2 _ _ D [0, 0] _ (D0.out.below b3) (k2.ints' rfl) (by omega) (by omega)).mono ?_
    rintro ee w4 ⟨rfl, bd4⟩
    rw [ED.out]
    have b4 := b3.trans (bd4.mono b3.size)
    (try dsimp only)
    refine hK.out _ _ ⟨KP.out _ b4, fun _ => trivial⟩ ?_
    clear hK K bd3 bd4 b3 k1 k2 y1 y2 y12
    cases h2 : allB 0 D
    · refine wpAnyE_one (i := 11) (by kernel_rfl) rfl (fun K hK => ?_)
      go_simp
      refine hK.out _ _ ⟨KP.out _ b4, fun _ => trivial⟩ ?_
      clear hK K
      refine wpAnyE_one (i := 12) (by kernel_rfl) rfl (fun K hK => ?_)
      go_simp
      refine hK.out _ _ ⟨KP.out _ b4, fun _ => trivial⟩ ?_
      clear hK K
      refine wpAnyE_one (i := 13) (by kernel_rfl) rfl (fun K hK => ?_)
      rw [if_neg (not_true_of (by kernel_rfl))]
      refine hK.out _ _ ⟨KP.out _ b4, fun _ => trivial⟩ ?_
      clear hK K
      refine wpAnyE_one (i := 14) (by kernel_rfl) rfl (fun K hK => ?_)
      rw [if_neg (not_true_of (by kernel_rfl))]
      refine hK.out _ _ ⟨KP.out _ b4, fun _ => trivial⟩ ?_
      clear hK K
      refine wpAnyE_one (i := 15) (by kernel_rfl) rfl (fun K hK => ?_)
      rw [if_neg (not_true_of (by kernel_rfl))]
      refine hK.out _ _ ⟨KP.out _ b4, fun _ => trivial⟩ ?_
      clear hK K
      refine wpAnyE_one (i := 16) (by kernel_rfl) rfl (fun K hK => ?_)
      go_simp
      refine hK.out _ _ ⟨KP.out _ b4, fun _ => trivial⟩ ?_
      clear hK K
      refine wpAnyE_one (i := 17) (by kernel_rfl) rfl (fun K hK => ?_)
      go_simp
      refine hK.out _ _ ⟨KP.out _ b4, fun _ => trivial⟩ ?_
      clear hK K
      refine wpAnyE_done (by kernel_rfl) ?_ _
      go_wp2
      go_ret
      exact ⟨ret_bool (by simp [zeroB, h1, h2]), B0.trans (b4.mono B0.size)⟩
    · refine wpAnyE_one (i := 11) (by kernel_rfl) rfl (fun K hK => ?_)
      go_simp
      refine hK.out _ _ ⟨KP.out _ b4, fun _ => trivial⟩ ?_
      clear hK K
      refine wpAnyE_one (i := 12) (by kernel_rfl) rfl (fun K hK => ?_)
      go_simp
      refine hK.out _ _ ⟨KP.out _ b4, fun _ => trivial⟩ ?_
      clear hK K
      refine wpAnyE_one (i := 13) (by kernel_rfl) rfl (fun K hK => ?_)
      rw [if_pos (by kernel_rfl)]
      go_simp
      refine hK.out _ _ ⟨KP.out _ b4, fun _ => trivial⟩ ?_
      clear hK K
      refine wpAnyE_one (i := 14) (by kernel_rfl) rfl (fun K hK => ?_)
      rw [if_pos (by kernel_rfl)]
      obtain ⟨g0, g1, g2⟩ := KP.out _ b4
      go_simp
      clear g0 g1 g2
      refine hK.out _ _ ⟨KP.out _ b4, fun _ => trivial⟩ ?_
      clear hK K
      refine wpAnyE_one (i := 15) (by kernel_rfl) rfl (fun K hK => ?_)
      rw [if_pos (by kernel_rfl)]
      go_simp
      refine hK.out _ _ ⟨KP.out _ b4, fun _ => trivial⟩ ?_
      clear hK K
      refine wpAnyE_one (i := 16) (by kernel_rfl) rfl (fun K hK => ?_)
      go_simp
      refine hK.out _ _ ⟨KP.out _ b4, fun _ => trivial⟩ ?_
      clear hK K
      refine wpAnyE_one (i := 17) (by kernel_rfl) rfl (fun K hK => ?_)
      go_simp
      refine hK.out _ _ ⟨KP.out _ b4, fun _ => trivial⟩ ?_
      clear hK K
      refine wpAnyE_done (by kernel_rfl) ?_ _
      go_wp2
      go_ret
      exact ⟨ret_bool (by simp [zeroB, h1, h2]), B0.trans (b4.mono B0.size)⟩
end Go.Proofs.Ytngfbcegcekbbaa
namespace Go.Proofs.Ytngfbcegcekbbaa
open Go.RowKit Go.Deep
set_option linter.unusedVariables false
set_option maxRecDepth 100000

/-- A way may turn a pot. -/
def wrF (r : RowM) (v : Nat) : Bool := decide (v < r.adds.length) && !zeroF (r.adds[v]?.getD ([], [], 0))
def writesR (rs : List RowM) (v : Nat) : Bool := rs.any fun r => wrF r v
theorem writesR_snoc (rs : List RowM) (k : Nat) (hk : k < rs.length) (v : Nat) : writesR (rs.take (k + 1)) v = (writesR (rs.take k) v || wrF (rs[k]?.getD noR) v) := by
  rw [writesR, List.take_succ_eq_append_getElem hk, List.any_append, List.getElem?_eq_getElem hk]
  simp [writesR]
/-- Rows in memory that was made since; what is older may change. -/
structure JRo (n0 G cap : Nat) (xs : List Value) (rs : List RowM) (W : World) : Prop where
  o : W.ownsRow n0 38 4 (.slice (some ⟨G, 0, none⟩) rs.length cap) rs.length xs
  r : RowsOk W (fun k => k < n0 ∨ k = G) xs rs
theorem JR.old {w W : World} {G cap : Nat} {xs : List Value} {rs : List RowM} (j : JR w G cap xs rs W) : JRo w.heap.size G cap xs rs W := ⟨j.o, j.r⟩
theorem JRo.lt {n0 : Nat} {W : World} {G cap : Nat} {xs : List Value} {rs : List RowM} (j : JRo n0 G cap xs rs W) : n0 ≤ G ∧ G < W.heap.size := by
  rcases j.o.2 with ⟨h, _⟩ | ⟨g, cap', cur, h, hg, hh, _⟩
  · cases h
  · simp only [Value.slice.injEq, Option.some.injEq, Addr.mk.injEq, and_true, true_and] at h
    obtain ⟨rfl, _⟩ := h
    exact ⟨hg, lt_of_block hh⟩
theorem JRo.touch {S : Nat → Prop} {n0 : Nat} {W W' : World} {G cap : Nat} {xs : List Value} {rs : List RowM} (j : JRo n0 G cap xs rs W) (t : Touch S W W') (hS : ∀ k, S k → k < n0) : JRo n0 G cap xs rs W' :=
  ⟨own_off j.o (fun g hg hs => by
    have h1 := hS _ hs
    have h2 := j.lt
    have : some G = some g := hg
    simp only [Option.some.injEq] at this
    omega) t, j.r.map (fun _ _ f => f.touch (t.mono (fun k hk => Or.inl (hS k hk))))⟩
theorem JRo.below {n0 : Nat} {W W' : World} {G cap : Nat} {xs : List Value} {rs : List RowM} (j : JRo n0 G cap xs rs W) (b : Below W.heap.size W W') : JRo n0 G cap xs rs W' := j.touch (S := fun _ => False) (Touch.of b) (fun _ h => h.elim)

set_option maxHeartbeats 6400000 in
theorem scatwrites_any (ad : Option Addr) (N cap : Nat) (ls : List LV) (w : World) (hN : ls.length = N) (hF : LinesG w ad ls) (hN1 : N ≤ 1048576) :
    Calls Try.prog 35 #[.slice ad N cap] w fun e w' => Below w.heap.size w w' ∧ ((actB N ls = false ∧ ∃ G, e = .returned (.slice (some ⟨G, 0, none⟩) 0 0)) ∨ (actB N ls = true ∧ ∃ G cG, e = .returned (.slice (some ⟨G, 0, none⟩) 3 cG) ∧ w.heap.size ≤ G ∧ OwnBB w' G (writesR (rowsL ls)))) := by
  have HN : Hid (ls.length = N) := hN
  clear hN
  obtain ⟨u, hu⟩ : ∃ u, actB N ls = u := ⟨_, rfl⟩
  have HU : Hid (actB N ls = u) := hu
  go_enter Try.func35, Try.ntmps35
  go_wp2_with fail
  refine (sact_any _ _ _ ls _ HN.out hF hN1).mono ?_
  rintro e w1 ⟨rfl, b1⟩
  rw [hu]
  clear hu
  cases u with
  | false =>
    have B2 := b1.alloc b1.size (.cells #[] 4)
    go_wp2
    go_ret
    exact ⟨B2, .inl ⟨HU.out, _, rfl⟩⟩
  | true =>
    obtain ⟨h6, hall⟩ := actB_parts HU.out
    have HFIT : Hid _ := rowsL_fit (by rw [HN.out]; exact h6) hall hF
    have HRB : Hid (rowsB N ls = rowsL ls) := by show _ = _; rw [rowsB, HU.out]; rfl
    have A : Below w1.heap.size w1 (w1.alloc (.cells #[.bool false, .bool false, .bool false] 4)) := (Below.refl _ _).alloc (Nat.le_refl _) _
    have o0 : OwnBB (w1.alloc (.cells #[.bool false, .bool false, .bool false] 4)) w1.heap.size (writesR ((rowsL ls).take 0)) := Cel.new w1 [.bool false, .bool false, .bool false] 4
    have B2 := b1.trans (A.mono b1.size)
    clear hall
    go_wp2_with fail
    refine (srows_any _ _ _ ls _ HN.out (hF.below B2) hN1).mono ?_
    rw [HRB.out]
    rintro ee w3 ⟨Gr, cr, xs, rfl, j3⟩
    have B3 := B2.trans (j3.b.mono B2.size)
    have o3 := o0.below j3.b
    have lG0 : w.heap.size ≤ w1.heap.size := b1.size
    have lG1 : w1.heap.size < (w1.alloc (.cells #[.bool false, .bool false, .bool false] 4)).heap.size := by rw [World.size_alloc]; omega
    have j4 := j3.old
    obtain ⟨R, hR⟩ : ∃ R, R = rowsL ls := ⟨_, rfl⟩
    have HR : Hid (R = rowsL ls) := hR
    have q1 : R.length ≤ 128 := by rw [hR]; exact goW_128 (by omega)
    rw [← hR] at o3 j4 HFIT ⊢
    generalize (w1.alloc (.cells #[.bool false, .bool false, .bool false] 4)).heap.size = n0 at *
    obtain ⟨G, hG⟩ : ∃ G, G = w1.heap.size := ⟨_, rfl⟩
    rw [← hG] at o3 lG0 lG1 ⊢
    clear o0 A hR B2 HRB j3 hG b1
    go_wp2_with fail
    go_loopw [5, 6] (fun i _ wr => ∃ k : Nat, k ≤ R.length ∧ i = .int .i64 k ∧ Below w.heap.size w wr ∧ OwnBB wr G (writesR (R.take k)) ∧ JRo n0 Gr cr xs R wr) (fun i _ _ => R.length - (intOf i).toNat)
    case atStart => exact ⟨0, Nat.zero_le _, rfl, B3, o3, j4⟩
    case round =>
      clear B3 o3 j4
      obtain ⟨k, hk, rfl, hb, o, j⟩ := hrel
      by_cases hlt : k < R.length
      · have hlt' : (k : Int) < R.length := by omega
        have HS : Hid (∀ v, writesR (R.take (k + 1)) v = (writesR (R.take k) v || wrF (R[k]?.getD noR) v)) := fun v => writesR_snoc R k hlt v
        have hfit : RowFit (R[k]?.getD noR) := HFIT.out _ (by rw [List.getElem?_eq_getElem hlt]; exact List.getElem_mem hlt)
        have la := hfit.la
        obtain ⟨A, hA⟩ : ∃ A, A = (R[k]?.getD noR).adds.length := ⟨_, rfl⟩
        have HA : Hid (A = (R[k]?.getD noR).adds.length) := hA
        rw [← hA] at la
        have o' : OwnBB wr G (fun v => if v < 0 then writesR (R.take (k + 1)) v else writesR (R.take k) v) := o.ext (fun v hv => by simp)
        have HO : Hid _ := o'
        have HJ : Hid _ := j
        have HB : Hid _ := hb
        clear o o' hfit hA j hb
        go_wp2_with fail
        go_loopw [6] (fun v w2 => ∃ u : Nat, u ≤ A ∧ v = .int .i64 u ∧ Below w.heap.size w w2 ∧ OwnBB w2 G (fun v => if v < u then writesR (R.take (k + 1)) v else writesR (R.take k) v) ∧ JRo n0 Gr cr xs R w2) (fun v _ => A - (intOf v).toNat)
        case atStart => exact ⟨0, by omega, rfl, HB.out, HO.out, HJ.out⟩
        case round =>
          clear HO HJ HB
          obtain ⟨u, hu, rfl, hb, o, j⟩ := hrel
          obtain ⟨ga, gc, aa, ac, ta, tc, x0, x1, x2, x3, f0, f1, f2⟩ := j.r k hlt
          have sl := j.o.1
          have n1 := (own_cell j.o (k * 4 + 1) (by omega)).trans x1
          rw [← HA.out] at n1
          have lGr := j.lt
          by_cases hu3 : u < A
          · have hu' : (u : Int) < A := by omega
            have hF1 := f1.at u (by rw [← HA.out]; exact hu3)
            obtain ⟨b, off, rfl, a', c', ca, cc, c0, c1, c2, iC, iD⟩ := hF1
            have HW : Hid (wrF (R[k]?.getD noR) u = !zeroB ((R[k]?.getD noR).adds[u]?.getD ([], [], 0)).1 ((R[k]?.getD noR).adds[u]?.getD ([], [], 0)).2.1 ((R[k]?.getD noR).adds[u]?.getD ([], [], 0)).2.2) := by
              show _ = _
              have hd : decide (u < (R[k]?.getD noR).adds.length) = true := by rw [← HA.out]; simp [hu3]
              rw [wrF, hd, Bool.true_and, zeroF]
            generalize ((R[k]?.getD noR).adds[u]?.getD ([], [], 0)).1 = C at *
            generalize ((R[k]?.getD noR).adds[u]?.getD ([], [], 0)).2.1 = D at *
            generalize ((R[k]?.getD noR).adds[u]?.getD ([], [], 0)).2.2 = kz at *
            clear f0 f1 f2 x0 x1 x2 x3
            go_wp2_with fail
            refine (szero0_any _ _ _ _ _ C D _ iC iD).mono ?_
            rintro ee w4 ⟨rfl, b4⟩
            have B4 := hb.trans (b4.mono hb.size)
            have O4 := o.below b4
            have J4 := j.below b4
            clear hb o j b4 c0 c1 c2 iC iD n1
            cases hz : zeroB C D kz
            · obtain ⟨g0, fz⟩ := O4.at (v := u) (by omega)
              have O5 : Hid (OwnBB (w4.setCell ⟨G, u, none⟩ (.bool true)) G (fun v => if v < u + 1 then writesR (R.take (k + 1)) v else writesR (R.take k) v)) := (O4.set (u := u) (by omega) true).ext (fun v hv => by
                by_cases e : v = u
                · subst e; simp only [if_true, Nat.lt_succ_self]; rw [HS.out, HW.out, hz]; simp
                · simp only [e, if_false]
                  by_cases e2 : v < u
                  · rw [if_pos e2, if_pos (by omega)]
                  · rw [if_neg e2, if_neg (by omega)])
              have J5 := J4.touch ((Touch.refl (fun x => x = G) w4).setCell (B := G) (i := u) rfl (.bool true)) (fun k hk => by omega)
              have B5 := B4.setCell (p := ⟨G, u, none⟩) lG0 (.bool true)
              clear O4 J4 B4 HW
              go_wp2
              go_roundw
              case rel => exact ⟨u + 1, by omega, by go_num, B5, O5.out, J5⟩
              case measure => simp [intOf]; omega
            · have O5 : Hid (OwnBB w4 G (fun v => if v < u + 1 then writesR (R.take (k + 1)) v else writesR (R.take k) v)) := O4.ext (fun v hv => by
                by_cases e : v = u
                · subst e; simp only [Nat.lt_irrefl, if_false, Nat.lt_succ_self, if_true]; rw [HS.out, HW.out, hz]; simp
                · by_cases e2 : v < u
                  · rw [if_pos e2, if_pos (by omega)]
                  · rw [if_neg e2, if_neg (by omega)])
              clear O4 HW
              go_wp2
              go_roundw
              case rel => exact ⟨u + 1, by omega, by go_num, B4, O5.out, J4⟩
              case measure => simp [intOf]; omega
          · obtain rfl : u = A := by omega
            have O3 : Hid (OwnBB wr G (writesR (R.take (k + 1)))) := o.ext (fun v hv => by
              by_cases e : v < u
              · rw [if_pos e]
              · rw [if_neg e, HS.out]
                have hd : decide (v < (R[k]?.getD noR).adds.length) = false := by rw [← HA.out]; simpa using e
                rw [wrF, hd]; simp)
            clear o f0 f1 f2 x0 x1 x2 x3
            go_wp2
            go_roundw
            case rel => exact ⟨k + 1, by omega, by go_num, hb, O3.out, j⟩
            case measure => simp [intOf]; omega
      · obtain rfl : k = R.length := by omega
        have O : OwnBB wr G (writesR R) := by
          have : R.take R.length = R := List.take_of_length_le (Nat.le_refl _)
          rw [this] at o; exact o
        go_wp2
        go_ret
        rw [← HR.out]
        exact ⟨hb, .inr ⟨HU.out, G, 3, rfl, lG0, O⟩⟩

end Go.Proofs.Ytngfbcegcekbbaa
namespace Go.Proofs.Ytngfbcegcekbbaa
open Go.RowKit
set_option linter.unusedVariables false

section
variable {F : Fence} {n : Nat} {P : Program} {ops : Array Oper} {Q : Exit → Act → World → Prop} {md : Region.Mode} {S : World → Prop}

/-- Nothing is put off in a region. -/
def noDefer (ops : Array Oper) : Bool := ops.toList.all fun o => match o.op with
  | .defer _ => false
  | _ => true
theorem noDefer_spec (h : noDefer ops = true) {i : Nat} {o : Oper} (hi : ops[i]? = some o) : ∀ c, o.op ≠ .defer c := fun c e => by
  have hm : o ∈ ops.toList := by
    rw [Array.mem_toList_iff]
    exact Array.mem_of_getElem? hi
  have := List.all_eq_true.1 h o hm
  simp [e] at this
theorem wpIn_round {o : Oper} (hd : ∀ c, o.op ≠ .defer c) (hro : F.round = none) (l : Nat) {a : Act} {w : World} {K : Act → World → Prop} (h : o.wpIn F n P a w K Q) : o.wpIn (F.inRound l) n P a w K Q := by
  unfold Oper.wpIn at *
  refine ⟨h.1, ?_⟩
  have h2 := h.2
  rw [hro, Oper.semAt_none] at h2
  rw [Fence.inRound_round, Oper.semAt_some l _ _ hd]
  exact h2
theorem wpOpIn_round (hd : noDefer ops = true) (hro : F.round = none) (l : Nat) {i : Nat} {a : Act} {w : World} {K : Act → World → Prop} (h : wpOpIn F n P ops Q i K a w) : wpOpIn (F.inRound l) n P ops Q i K a w := by
  unfold wpOpIn at *
  cases hi : ops[i]? with
  | none => simp only [hi] at h ⊢; exact h
  | some o =>
    simp only [hi] at h ⊢
    split
    · rename_i hw
      simp only [hw, if_true] at h
      exact wpIn_round (noDefer_spec hd hi) hro l h
    · rename_i hw
      simp only [hw] at h
      exact h
theorem wpAnyIn_round (hd : noDefer ops = true) (hro : F.round = none) (l : Nat) : ∀ (fuel : Nat) (listed : Array Bool) (a : Act) (w : World), wpAnyIn F n P md ops Q fuel listed a w → wpAnyIn (F.inRound l) n P md ops Q fuel listed a w
  | 0, _, _, _, h => h
  | fuel + 1, _, _, _, h => ⟨h.1, fun i hi => wpOpIn_mono (fun a' w' h' => wpAnyIn_round hd hro l fuel _ a' w' h') (wpOpIn_round hd hro l (h.2 i hi))⟩
theorem wpIn_region_R {id : Nat} {a : Act} {w : World} (S : World → Prop) (l : Nat) (hm : P.follows .mixedOrders = true) (hd : noDefer ops = true)
    (h : wpAnyS Fence.wide n P .any ops Q S ops.size (Array.replicate ops.size false) a w.drew) : (Code.region id ops true).wpIn (Fence.wide.inRound l) n P Q a w :=
  wpIn_region_any hm (wpAnyIn_round hd rfl l _ _ _ _ (wpAnyIn_of_S _ _ _ _ h))

end
end Go.Proofs.Ytngfbcegcekbbaa
namespace Go.Proofs.Ytngfbcegcekbbaa
open Go.RowKit Go.Deep Go.Shelf
set_option linter.unusedVariables false
set_option maxRecDepth 100000
attribute [local go_sem] Oper.semAt_some

set_option maxHeartbeats 3200000 in
theorem icatwrites_in (ad : Option Addr) (N cap : Nat) (ls : List LV) (w : World) (n : Nat) (hN : ls.length = N) (hF : LinesG w ad ls) (hN1 : N ≤ 1048576) :
    CallsIn Fence.wide n Try.prog 34 #[.slice ad N cap] w fun e w' => Below w.heap.size w w' ∧ ((actB N ls = false ∧ e = .returned (.slice none 0 0)) ∨ (actB N ls = true ∧ ∃ G cG, e = .returned (.slice (some ⟨G, 0, none⟩) 3 cG) ∧ w.heap.size ≤ G ∧ OwnBB w' G (writesR (rowsL ls)))) := by
  have hdd : ∀ k : Nat, (Fence.wide.depth.isSome = true → 1 ≤ k) := fun k h => by simp [Fence.wide] at h
  refine callsIn_of_wp_marks Try.func34 rfl trivial ?_ rfl
  simp only [Try.ntmps34, List.size_toArray, List.length_cons, List.length_nil, Nat.reduceAdd, Nat.reduceSub, Array.replicate_succ, Array.replicate_zero, List.push_toArray, List.append_toArray, List.nil_append, List.cons_append]
  gi_wp2_with fail
  refine ⟨trivial, hdd _, (callsIn_wide.2 (iact_any ad N cap ls _ hN hF hN1)).mono ?_⟩
  rintro e w1 ⟨rfl, b1⟩
  obtain ⟨u, hu⟩ : ∃ u, actB N ls = u := ⟨_, rfl⟩
  rw [hu]
  cases u with
  | false =>
    gi_wp2
    exact ⟨_, results_tmp rfl _ _ _, b1, Or.inl ⟨hu, rfl⟩⟩
  | true =>
    obtain ⟨i0, hi, hz0, hz1, hz2⟩ := info_parts Try.infoBool
    obtain ⟨w2, hrun, o2, g2⟩ := run_make_full (P := Try.prog) (w := w1) w1.heap.size 50 4 i0 (.bool false) 1 Try.underlying50 hi hz0 hz1 .i64 .i64 3 (by rw [hz2]; omega) (by unfold maxLen; omega) (Nat.le_refl _)
    have hrun' : (Instr.makeSlice 50 (.int .i64 3) (.int .i64 3)).run Try.prog w1 = .ok (.slice (some ⟨w1.heap.size, 0, none⟩) 3 3) w2 := hrun
    have b2 : Below w1.heap.size w1 w2 := (Below.refl _ _).grown g2 (Nat.le_refl _) (by simp)
    have O2 : OwnBB w2 w1.heap.size (fun _ => false) := by
      rcases o2.2 with ⟨e, _⟩ | ⟨g, cp, cur, hv, hg, hh, hl, hc, hs, ht⟩
      · cases e
      · cases hv
        have hl3 : cur.toList.length = 3 := by rw [Array.length_toList]; omega
        rw [List.take_of_length_le (by omega)] at ht
        have : cur = #[.bool false, .bool false, .bool false] := by
          apply Array.toList_inj.1
          rw [ht]; simpa [Value.cells] using toList_madeCells_one (.bool false) 3
        rw [this] at hh
        exact hh
    clear hrun o2 g2
    gi_wp2_with fail
    have bA : Below w2.heap.size w2 (w2.alloc (.cells #[.slice (some ⟨w1.heap.size, 0, none⟩) 3 3] 50)) := (Below.refl _ _).alloc (Nat.le_refl _) _
    have C3 := Cel.new w2 [.slice (some ⟨w1.heap.size, 0, none⟩) 3 3] 50
    have O3 := O2.below bA
    obtain ⟨w3, hw3⟩ : ∃ w3, w3 = w2.alloc (.cells #[.slice (some ⟨w1.heap.size, 0, none⟩) 3 3] 50) := ⟨_, rfl⟩
    rw [← hw3] at bA C3 O3 ⊢
    have lG := Cel.lt O2
    clear hw3 hrun' O2
    refine ⟨trivial, hdd _, (callsIn_wide.2 (ithrough_any ad N cap w3)).mono ?_⟩
    rintro e w4 ⟨B, rfl, b4, cB⟩
    have C4 := C3.below b4
    have O4 := O3.below b4
    have s2 := b2.size
    have sA := bA.size
    have s4 := b4.size
    have B4 : Below w.heap.size w w4 := ((b1.trans (b2.mono b1.size)).trans (bA.mono (Nat.le_trans b1.size s2))).trans (b4.mono (Nat.le_trans (Nat.le_trans b1.size s2) sA))
    have F4 := hF.below B4
    gi_wp2_with fail
    have s1 := b1.size
    refine wpIn_rows (α := Value × RowM) (gf := 75) (lb := #[.pointer (some ⟨B, 0, none⟩)]) rfl (enters_of Try.func75 (by kernel_rfl) rfl) (encs := fun x => #[x.1]) (fun _ => rfl)
      (fun _ x X => RowFit x.2 ∧ RowX X w4.heap.size x.1 x.2) KpR (fun xs => xs.map Prod.snd = rowsL ls)
      (fun pre X => OwnBB X w1.heap.size (writesR (pre.map Prod.snd)) ∧ Cel X w2.heap.size [.slice (some ⟨w1.heap.size, 0, none⟩) 3 3] 50 ∧ Below w.heap.size w X)
      (fun pre X Y h b => ⟨h.1.below b, h.2.1.below b, h.2.2.trans (b.mono h.2.2.size)⟩)
      (fun pre X l r r' h hl lt => ⟨Cel.loop h.1 hl, h.2.1.loop hl, below_loop h.2.2 (by have := B4.size; omega)⟩) KpR.loop (fun X Y Z => KpR.trans) ⟨O4, C4, B4⟩ ?seq ?round ?done
    case seq =>
      intro l J W hJ hb hJ0 hY
      have e0 : (#[.func (.yield l) #[] #[]] ++ #[.pointer (some ⟨B, 0, none⟩)] : Array Value) = #[.func (.yield l) #[] #[], .pointer (some ⟨B, 0, none⟩)] := rfl
      rw [e0]
      refine (through_any l w4.heap.size (fun rs X => ∃ xs : List (Value × RowM), xs.map Prod.snd = rs ∧ J xs X) (fun rs X Y h b => ?_) (fun m rs v r X h fit rx _ => ?_) B ad N cap ls W (n - 1) hN (F4.below hb) hN1 hu ((cB.below hb).cell 0) hb.size ⟨[], rfl, hJ0⟩).mono ?_
      · obtain ⟨xs, e, j⟩ := h
        exact ⟨xs, e, hJ _ _ _ j b⟩
      · obtain ⟨xs, e, j⟩ := h
        obtain ⟨fn, tmps, assign, body, hy, hR⟩ := hY m xs (v, r) X j ⟨fit, rx⟩
        refine ⟨fn, tmps, assign, body, hy, hR.mono ?_⟩
        rintro e' Y ⟨a, b, c⟩
        exact ⟨a, ⟨xs ++ [(v, r)], by simp [e], b⟩, c⟩
      · rintro e Y ⟨h1, ⟨xs, e1, j⟩, _⟩
        exact ⟨h1, xs, e1, j⟩
    case round =>
      rintro m l pre ⟨v, rm⟩ X r ⟨hO, hC, hB⟩ ⟨fit, rx⟩ hl hlt
      dsimp only at fit rx
      obtain ⟨ga, gc, aa, ac, ta, tc, rfl, f0, f1, f2⟩ := rx
      dsimp only
      gi_wp2_with fail
      have bx : Below X.heap.size X (X.alloc (.cells #[.slice ga rm.guards.length gc, .slice aa rm.adds.length ac, .slice ta rm.tells.length tc, .bool rm.stop] 38)) := (Below.refl _ _).alloc (Nat.le_refl _) _
      have cx := Cel.new X [.slice ga rm.guards.length gc, .slice aa rm.adds.length ac, .slice ta rm.tells.length tc, .bool rm.stop] 38
      have hl1 := (bx.block l (lt_of_block hl)).trans hl
      refine ⟨keeps_below bx, KpR.of bx, ?_⟩
      have O1 : OwnBB _ _ _ := Cel.loop (r' := { r with state := .busy }) (hO.below bx) hl1
      have C1 := Cel.loop (r' := { r with state := .busy }) (hC.below bx) hl1
      have X1 := Cel.loop (r' := { r with state := .busy }) cx hl1
      have k1 : KpR X _ := (KpR.of bx).trans (KpR.loop _ l r { r with state := .busy } hl1)
      have B1 := below_loop (r' := { r with state := .busy }) (hB.trans (bx.mono hB.size)) (l := l) (by have := B4.size; omega)
      obtain ⟨Y, hY⟩ : ∃ Y, Y = (X.alloc (.cells #[.slice ga rm.guards.length gc, .slice aa rm.adds.length ac, .slice ta rm.tells.length tc, .bool rm.stop] 38)).putObj l (.loop { r with state := .busy }) := ⟨_, rfl⟩
      rw [← hY] at O1 C1 X1 k1 B1 ⊢
      clear hY
      have FA : Hid (FormsAt Y aa rm.adds) := f1.at.keepR k1
      have hx1 := X1.cell 1
      have lX := Cel.lt hO
      have la := fit.la
      obtain ⟨A, hA⟩ : ∃ A, A = rm.adds.length := ⟨_, rfl⟩
      have HA : Hid (A = rm.adds.length) := hA
      rw [← hA] at la
      simp only [List.getElem?_cons_succ, List.getElem?_cons_zero] at hx1
      rw [← hA] at hx1
      obtain ⟨wO, hwO⟩ : ∃ wO, wO = writesR (pre.map Prod.snd) := ⟨_, rfl⟩
      have HO : Hid (wO = writesR (pre.map Prod.snd)) := hwO
      rw [← hwO] at O1
      have O1' : OwnBB Y w1.heap.size (fun v => if v < 0 then (wO v || wrF rm v) else wO v) := O1.ext (fun v hv => by simp)
      have lC := C1.lt
      clear O1 hO hC hB cx X1 f0 f1 f2 k1 bx hl1 hA hwO
      gi_wp2_with fail
      gi_loopw [5, 6, 17] (fun _ _ i wr => ∃ u : Nat, u ≤ A ∧ i = .int .i64 u ∧ KeepsFrom w4.heap.size Y wr ∧ KpR Y wr ∧ OwnBB wr w1.heap.size (fun v => if v < u then (wO v || wrF rm v) else wO v) ∧ Cel wr w2.heap.size [.slice (some ⟨w1.heap.size, 0, none⟩) 3 3] 50 ∧ Below w.heap.size w wr) (fun _ _ i _ => A - (intOf i).toNat)
      case atStart => exact ⟨0, Nat.zero_le _, rfl, ⟨Nat.le_refl _, fun k o _ h _ => h⟩, KpR.refl _, O1', C1, B1⟩
      case round =>
        clear O1' C1 B1 hx1
        obtain ⟨u, hu, rfl, kf, kp, o, c, hb⟩ := hrel
        by_cases hlt2 : u < A
        · have hu' : (u : Int) < A := by omega
          have hu3 : (u : Int) < 3 := by omega
          have hu0 : ¬ ((u : Int) < 0) := by omega
          have hF1 := (FA.out.keepR kp) u (by rw [← HA.out]; exact hlt2)
          obtain ⟨b, off, rfl, a', c', ca, cc, c0, c1, c2, iC, iD⟩ := hF1
          have HW : Hid (wrF rm u = !zeroB (rm.adds[u]?.getD ([], [], 0)).1 (rm.adds[u]?.getD ([], [], 0)).2.1 (rm.adds[u]?.getD ([], [], 0)).2.2) := by
            show _ = _
            have hd : decide (u < rm.adds.length) = true := by rw [← HA.out]; simp [hlt2]
            rw [wrF, hd, Bool.true_and, zeroF]
          generalize (rm.adds[u]?.getD ([], [], 0)).1 = C at *
          generalize (rm.adds[u]?.getD ([], [], 0)).2.1 = D at *
          generalize (rm.adds[u]?.getD ([], [], 0)).2.2 = kz at *
          have bz : Below wr.heap.size wr (wr.alloc (.cells #[.slice a' 3 ca, .slice c' 2 cc, .int .i64 kz] 32)) := (Below.refl _ _).alloc (Nat.le_refl _) _
          have fz := Cel.new wr [.slice a' 3 ca, .slice c' 2 cc, .int .i64 kz] 32
          gi_wp2_with fail
          obtain ⟨Z, hZ⟩ : ∃ Z, Z = wr.alloc (.cells #[.slice a' 3 ca, .slice c' 2 cc, .int .i64 kz] 32) := ⟨_, rfl⟩
          rw [← hZ] at bz fz ⊢
          clear hZ c0 c1 c2
          have e0 : Below Z.heap.size Z Z.drew := (Below.refl _ _).drew
          have bz0 : Below wr.heap.size wr Z.drew := bz.trans (e0.mono bz.size)
          have KP : Hid (∀ V, Below wr.heap.size wr V → V.cell? ⟨w2.heap.size, 0, none⟩ = some (.slice (some ⟨w1.heap.size, 0, none⟩) 3 3)) := fun V hV => (c.below hV).cell 0
          have hSS := KP.out _ bz0
          have g0 : Z.drew.cell? ⟨w1.heap.size, u, none⟩ = some (.bool (wO u)) := by
            have := ((o.below bz0).at (v := u) (by omega)).1
            simpa using this
          have q0 := (fz.below e0).cell 0
          have q1 := (fz.below e0).cell 1
          have q2 := (fz.below e0).cell 2
          have s1 := bz.size
          have s2 := kp.size
          refine wpIn_region_R (fun w' => w'.cell? ⟨w2.heap.size, 0, none⟩ = some (.slice (some ⟨w1.heap.size, 0, none⟩) 3 3)) l (by kernel_rfl) (by kernel_rfl) ?_
          cases hold : wO u
          · rw [hold] at g0
            refine wpAnyS_take (i := 0) (v := ?fv0) rfl rfl (by kernel_rfl) (by kernel_rfl) (by kernel_rfl) (fun _ _ _ h => h) (Or.inl ⟨by rfl, ?fy0⟩) (fun _ => rfl) hSS ?_
            case fy0 => (intro wz hSw; (try dsimp only at hSw); go_simp; try (with_reducible rfl))
            refine wpAnyS_take (i := 1) (v := ?fv1) rfl rfl (by kernel_rfl) (by kernel_rfl) (by kernel_rfl) (fun _ _ _ h => h) (Or.inl ⟨by rfl, ?fy1⟩) (fun _ => rfl) hSS ?_
            case fy1 => (intro wz hSw; (try dsimp only at hSw); go_simp; try (with_reducible rfl))
            refine wpAnyS_take (i := 2) (v := ?fv2) rfl rfl (by kernel_rfl) (by kernel_rfl) (by kernel_rfl) (fun _ _ _ h => h) (Or.inl ⟨by rfl, ?fy2⟩) (fun _ => rfl) hSS ?_
            case fy2 => (intro wz hSw; (try dsimp only at hSw); go_simp; try (with_reducible rfl))
            refine wpAnyS_take (i := 3) (v := ?fv3) rfl rfl (by kernel_rfl) (by kernel_rfl) (by kernel_rfl) (fun _ _ _ h => h) (Or.inl ⟨by rfl, ?fy3⟩) (fun _ => rfl) hSS ?_
            case fy3 => (intro wz hSw; (try dsimp only at hSw); go_simp; try (with_reducible rfl))
            refine wpAnyS_one (i := 4) (by kernel_rfl) rfl (fun K hK => ?_)
            go_simp
            refine hK.out _ _ hSS ?_
            clear hK K
            refine wpAnyS_one (i := 5) (by kernel_rfl) rfl (fun K hK => ?_)
            go_simp
            refine hK.out _ _ hSS ?_
            clear hK K
            refine wpAnyS_one (i := 6) (by kernel_rfl) rfl (fun K hK => ?_)
            go_simp
            refine hK.out _ _ hSS ?_
            clear hK K
            refine wpAnyS_one (i := 7) (by kernel_rfl) rfl (fun K hK => ?_)
            rw [if_pos (by kernel_rfl)]
            go_simp
            refine hK.out _ _ hSS ?_
            clear hK K
            refine wpAnyS_one (i := 8) (by kernel_rfl) rfl (fun K hK => ?_)
            rw [if_pos (by kernel_rfl)]
            go_simp
            refine ⟨trivial, hdd _, CallsIn.mono (callsIn_wide.2 (izero0_any _ _ _ _ _ C D _ (iC.below bz0) (iD.below bz0))) ?_⟩
            rintro e wE ⟨rfl, bdE⟩
            have bE : Below wr.heap.size wr wE := bz0.trans (bdE.mono bz0.size)
            (try dsimp only)
            refine hK.out _ _ (KP.out _ bE) ?_
            clear hK K
            refine wpAnyS_one (i := 9) (by kernel_rfl) rfl (fun K hK => ?_)
            rw [if_pos (by kernel_rfl)]
            go_simp
            refine hK.out _ _ (KP.out _ bE) ?_
            clear hK K
            refine wpAnyS_one (i := 10) (by kernel_rfl) rfl (fun K hK => ?_)
            go_simp
            refine hK.out _ _ (KP.out _ bE) ?_
            clear hK K
            refine wpAnyS_one (i := 11) (by kernel_rfl) rfl (fun K hK => ?_)
            go_simp
            refine hK.out _ _ (KP.out _ bE) ?_
            clear hK K
            have V1 : Touch (fun z => z = w1.heap.size) wE (wE.setCell ⟨w1.heap.size, u, none⟩ (.bool (!zeroB C D kz))) := Touch.setCell (S := fun z => z = w1.heap.size) (Touch.refl _ _) rfl _
            have O5 : Hid (OwnBB (wE.setCell ⟨w1.heap.size, u, none⟩ (.bool (!zeroB C D kz))) w1.heap.size (fun v => if v < u + 1 then (wO v || wrF rm v) else wO v)) := ((o.below bE).set (u := u) (by omega) (!zeroB C D kz)).ext (fun v hv => by
              by_cases e : v = u
              · subst e; simp only [if_true, Nat.lt_succ_self]; rw [hold, HW.out]; simp
              · simp only [e, if_false]
                by_cases e2 : v < u
                · rw [if_pos e2, if_pos (by omega)]
                · rw [if_neg e2, if_neg (by omega)])
            have C5 := cel_past (c.below bE) V1 (by omega)
            have KF := (kf.trans (keeps_below bE)).trans (keeps_touch (B := w4.heap.size) V1 (by omega))
            have KPP := (kp.trans (KpR.of bE)).trans ((o.below bE).kpR V1)
            have BB := below_touch (hb.trans (bE.mono hb.size)) V1 (by omega)
            have hS5 : (wE.setCell ⟨w1.heap.size, u, none⟩ (.bool (!zeroB C D kz))).cell? ⟨w2.heap.size, 0, none⟩ = some (.slice (some ⟨w1.heap.size, 0, none⟩) 3 3) := C5.cell 0
            obtain ⟨y0, y1⟩ := (o.below bE).at (v := u) (by omega)
            refine wpAnyS_one (i := 12) (by kernel_rfl) rfl (fun K hK => ?_)
            go_simp
            refine hK.out _ _ hS5 ?_
            clear hK K
            refine wpAnyS_done (by kernel_rfl) ?_ _
            clear g0 q0 q1 q2 y0 y1 hSS KP HW iC iD
            gi_wp2
            go_roundw
            case rel => exact ⟨u + 1, by omega, by go_num, KF, KPP, O5.out, C5, BB⟩
            case measure => simp [intOf]; omega
          · rw [hold] at g0
            refine wpAnyS_take (i := 0) (v := ?tv0) rfl rfl (by kernel_rfl) (by kernel_rfl) (by kernel_rfl) (fun _ _ _ h => h) (Or.inl ⟨by rfl, ?ty0⟩) (fun _ => rfl) hSS ?_
            case ty0 => (intro wz hSw; (try dsimp only at hSw); go_simp; try (with_reducible rfl))
            refine wpAnyS_take (i := 1) (v := ?tv1) rfl rfl (by kernel_rfl) (by kernel_rfl) (by kernel_rfl) (fun _ _ _ h => h) (Or.inl ⟨by rfl, ?ty1⟩) (fun _ => rfl) hSS ?_
            case ty1 => (intro wz hSw; (try dsimp only at hSw); go_simp; try (with_reducible rfl))
            refine wpAnyS_take (i := 2) (v := ?tv2) rfl rfl (by kernel_rfl) (by kernel_rfl) (by kernel_rfl) (fun _ _ _ h => h) (Or.inl ⟨by rfl, ?ty2⟩) (fun _ => rfl) hSS ?_
            case ty2 => (intro wz hSw; (try dsimp only at hSw); go_simp; try (with_reducible rfl))
            refine wpAnyS_take (i := 3) (v := ?tv3) rfl rfl (by kernel_rfl) (by kernel_rfl) (by kernel_rfl) (fun _ _ _ h => h) (Or.inl ⟨by rfl, ?ty3⟩) (fun _ => rfl) hSS ?_
            case ty3 => (intro wz hSw; (try dsimp only at hSw); go_simp; try (with_reducible rfl))
            refine wpAnyS_one (i := 4) (by kernel_rfl) rfl (fun K hK => ?_)
            go_simp
            refine hK.out _ _ hSS ?_
            clear hK K
            refine wpAnyS_one (i := 5) (by kernel_rfl) rfl (fun K hK => ?_)
            go_simp
            refine hK.out _ _ hSS ?_
            clear hK K
            refine wpAnyS_one (i := 6) (by kernel_rfl) rfl (fun K hK => ?_)
            go_simp
            refine hK.out _ _ hSS ?_
            clear hK K
            refine wpAnyS_one (i := 7) (by kernel_rfl) rfl (fun K hK => ?_)
            rw [if_neg (not_true_of (by kernel_rfl))]
            refine ⟨fun _ _ => trivial, hK.out _ _ hSS ?_⟩
            clear hK K
            refine wpAnyS_one (i := 8) (by kernel_rfl) rfl (fun K hK => ?_)
            rw [if_neg (not_true_of (by kernel_rfl))]
            refine ⟨fun _ _ => trivial, hK.out _ _ hSS ?_⟩
            clear hK K
            refine wpAnyS_one (i := 9) (by kernel_rfl) rfl (fun K hK => ?_)
            rw [if_neg (not_true_of (by kernel_rfl))]
            refine ⟨fun _ _ => trivial, hK.out _ _ hSS ?_⟩
            clear hK K
            refine wpAnyS_one (i := 10) (by kernel_rfl) rfl (fun K hK => ?_)
            go_simp
            refine hK.out _ _ hSS ?_
            clear hK K
            refine wpAnyS_one (i := 11) (by kernel_rfl) rfl (fun K hK => ?_)
            go_simp
            refine hK.out _ _ hSS ?_
            clear hK K
            obtain ⟨wE, hE⟩ : ∃ wE, wE = Z.drew := ⟨_, rfl⟩
            have bE : Below wr.heap.size wr wE := by rw [hE]; exact bz0
            rw [← hE]
            clear hE
            have V1 : Touch (fun z => z = w1.heap.size) wE (wE.setCell ⟨w1.heap.size, u, none⟩ (.bool true)) := Touch.setCell (S := fun z => z = w1.heap.size) (Touch.refl _ _) rfl _
            have O5 : Hid (OwnBB (wE.setCell ⟨w1.heap.size, u, none⟩ (.bool true)) w1.heap.size (fun v => if v < u + 1 then (wO v || wrF rm v) else wO v)) := ((o.below bE).set (u := u) (by omega) true).ext (fun v hv => by
              by_cases e : v = u
              · subst e; simp only [if_true, Nat.lt_succ_self]; rw [hold, HW.out]; simp
              · simp only [e, if_false]
                by_cases e2 : v < u
                · rw [if_pos e2, if_pos (by omega)]
                · rw [if_neg e2, if_neg (by omega)])
            have C5 := cel_past (c.below bE) V1 (by omega)
            have KF := (kf.trans (keeps_below bE)).trans (keeps_touch (B := w4.heap.size) V1 (by omega))
            have KPP := (kp.trans (KpR.of bE)).trans ((o.below bE).kpR V1)
            have BB := below_touch (hb.trans (bE.mono hb.size)) V1 (by omega)
            have hS5 : (wE.setCell ⟨w1.heap.size, u, none⟩ (.bool true)).cell? ⟨w2.heap.size, 0, none⟩ = some (.slice (some ⟨w1.heap.size, 0, none⟩) 3 3) := C5.cell 0
            obtain ⟨y0, y1⟩ := (o.below bE).at (v := u) (by omega)
            refine wpAnyS_one (i := 12) (by kernel_rfl) rfl (fun K hK => ?_)
            go_simp
            refine hK.out _ _ hS5 ?_
            clear hK K
            refine wpAnyS_done (by kernel_rfl) ?_ _
            clear g0 q0 q1 q2 y0 y1 hSS KP HW iC iD
            gi_wp2
            go_roundw
            case rel => exact ⟨u + 1, by omega, by go_num, KF, KPP, O5.out, C5, BB⟩
            case measure => simp [intOf]; omega
        · obtain rfl : u = A := by omega
          gi_wp2
          refine ⟨kf, kp, o.ext (fun v hv => ?_), c, hb⟩
          rw [HO.out, List.map_append, writesR, writesR, List.any_append]
          by_cases e : v < u
          · simp [e]
          · have hd : decide (v < rm.adds.length) = false := by rw [← HA.out]; simpa using e
            simp [e, wrF, hd]
    case done =>
      rintro D xs W hD hS ⟨hO, hC, hB⟩ hK
      have hc := hC.cell 0
      gi_wp2
      refine ⟨by simp, .inl ⟨_, _, rfl, run_takeDeferred hK, ?_⟩⟩
      refine ⟨_, results_tmp rfl _ _ _, ?_⟩
      rw [hS] at hO
      exact ⟨below_put hB (by have := B4.size; omega), Or.inr ⟨hu, _, _, rfl, s1, Cel.defer hO hK⟩⟩

theorem icatwrites_any (ad : Option Addr) (N cap : Nat) (ls : List LV) (w : World) (hN : ls.length = N) (hF : LinesG w ad ls) (hN1 : N ≤ 1048576) :
    Calls Try.prog 34 #[.slice ad N cap] w fun e w' => Below w.heap.size w w' ∧ ((actB N ls = false ∧ e = .returned (.slice none 0 0)) ∨ (actB N ls = true ∧ ∃ G cG, e = .returned (.slice (some ⟨G, 0, none⟩) 3 cG) ∧ w.heap.size ≤ G ∧ OwnBB w' G (writesR (rowsL ls)))) :=
  callsIn_wide.1 (icatwrites_in ad N cap ls w 0 hN hF hN1)

end Go.Proofs.Ytngfbcegcekbbaa
namespace Go.Proofs.Ytngfbcegcekbbaa
open Go.RowKit
set_option linter.unusedVariables false
set_option maxRecDepth 100000

theorem dot_zeros {xs : List Int} (h : ∀ i : Nat, xs[i]?.getD 0 = 0) (V : List Int) : ∀ k, dot xs V k = 0
  | 0 => rfl
  | k + 1 => by simp only [dot, dot_zeros h V k, h k]; omega
theorem allB0_get {xs : List Int} (h : allB 0 xs = true) (i : Nat) : xs[i]?.getD 0 = 0 := by
  rw [allB0] at h
  have h' := of_decide_eq_true h
  rw [h']
  by_cases hi : i < xs.length
  · rw [List.getElem?_replicate, if_pos hi]; rfl
  · rw [List.getElem?_replicate, if_neg hi]; rfl
theorem atX_zero {V U : List Int} {f : Frm} (h : zeroF f = true) : atX V U f = 0 := by
  unfold zeroF zeroB at h
  simp only [Bool.and_eq_true, beq_iff_eq] at h
  unfold atX atV
  rw [dot_zeros (allB0_get h.1.1), dot_zeros (allB0_get h.1.2), h.2]
  rfl
theorem wr_stays {V U : List Int} {r : RowM} {v : Nat} (h : wrF r v = false) : atX V U (r.adds[v]?.getD noX) = 0 := by
  unfold wrF at h
  by_cases hv : v < r.adds.length
  · rw [decide_eq_true hv, Bool.true_and] at h
    exact atX_zero (by simpa [noX] using h)
  · rw [List.getElem?_eq_none (by omega)]
    simp [noX, atX, atV, dot]
theorem rowEnd_at {V U : List Int} {r : RowM} {v : Nat} (hv : v < 3) : (rowEnd V U r)[v]?.getD 0 = V[v]?.getD 0 + atX V U (r.adds[v]?.getD noX) := by
  match v, hv with
  | 0, _ => rfl
  | 1, _ => rfl
  | 2, _ => rfl
theorem runB_three {N : Nat} {ls : List LV} {p : Nat} {V : List Int} {q : Nat} {U : List Int} (h : runB N ls p V q U = true) : p = 3 ∧ q = 2 ∧ ls.all LV.ok = true ∧ actB N ls = true := by
  unfold runB at h
  simp only [Bool.and_eq_true] at h
  have h1 := (okN_elim (by omega) h.1.2).1
  have h2 := (okN_elim (by omega) h.2).1
  exact ⟨by omega, by omega, (actB_six h.1.1).2, h.1.1⟩
theorem pots_three {N : Nat} {ls : List LV} {p : Nat} {V : List Int} {q : Nat} {U : List Int} (h : runB N ls p V q U = true) (hV : V.length = p) : (runPots N ls p V q U).length = 3 := by
  have h3 := (runB_three h).1
  have hg := (goL_len U ls 7 0 V []).1
  unfold runPots
  rw [if_pos h]
  split
  · omega
  · unfold endPots
    split
    · unfold runL; omega
    · omega
theorem writes_not {N : Nat} {ls : List LV} {p : Nat} {V : List Int} {q : Nat} {U : List Int} {v : Nat} (h : runB N ls p V q U = true) (hV : V.length = p) (hD : ∀ k, k < ls.length → (ls[k]?.getD noLV).f.D.length = (ls[k]?.getD noLV).f.m) (hv : v < 3) (hw : writesR (rowsL ls) v = false) : (runPots N ls p V q U)[v]?.getD 0 = V[v]?.getD 0 := by
  obtain ⟨h3, _, hall, _⟩ := runB_three h
  obtain ⟨r, hr, hf⟩ := runL_way (V := V) (U := U) (by omega) hall hD
  have hm : r ∈ rowsL ls := (List.mem_filter.1 (by rw [hr]; simp)).1
  have hwr : wrF r v = false := by
    unfold writesR at hw
    rw [List.any_eq_false] at hw
    simpa using hw r hm
  unfold runPots
  rw [if_pos h, hf.st]
  cases hs : r.stop
  · simp only [Bool.false_eq_true, if_false]
    rw [(hf.ad hs).1]
    unfold endPots
    split
    · rw [rowEnd_at hv, wr_stays hwr]; omega
    · rfl
  · rfl

/-- Truth values of pots, or none. -/
structure Bo (W : World) (a : Option Addr) (n : Nat) (f : Nat → Bool) : Prop where
  n3 : n ≤ 3
  c : 0 < n → ∃ G, a = some ⟨G, 0, none⟩ ∧ ∀ v, v < 3 → W.cell? ⟨G, v, none⟩ = some (.bool (f v))
theorem Bo.below {W W' : World} {a : Option Addr} {n : Nat} {f : Nat → Bool} (h : Bo W a n f) (b : Below W.heap.size W W') : Bo W' a n f := ⟨h.n3, fun h0 => by
  obtain ⟨G, e, hc⟩ := h.c h0
  exact ⟨G, e, fun v hv => by rw [b.cell (p := ⟨G, v, none⟩) (block_lt (hc v hv))]; exact hc v hv⟩⟩
set_option maxHeartbeats 1600000 in
theorem coB_any (a c : Option Addr) (n cap cap' : Nat) (f : Nat → Bool) (w : World) (h : Bo w a n f) (h' : Bo w c n f) :
    Calls Try.prog 27 #[.slice a n cap, .slice c n cap'] w fun e w' => e = .returned (.bool true) ∧ Below w.heap.size w w' := by
  have hn3 := h.n3
  go_enter Try.func27, Try.ntmps27
  go_wp2_with fail
  go_loopw [5] (fun i wr => ∃ k : Nat, k ≤ n ∧ i = .int .i64 k ∧ Below w.heap.size w wr) (fun i _ => n - (intOf i).toNat)
  case atStart => exact ⟨0, Nat.zero_le _, rfl, Below.refl _ _⟩
  case round =>
    obtain ⟨k, hk, rfl, hnx⟩ := hrel
    by_cases hlt : k < n
    · obtain ⟨G, rfl, hc⟩ := (h.below hnx).c (by omega)
      obtain ⟨G', rfl, hc'⟩ := (h'.below hnx).c (by omega)
      have hck := hc k (by omega)
      have hck' := hc' k (by omega)
      have hlt' : (k : Int) < (n : Int) := by omega
      clear hc hc' h h'
      generalize f k = x at hck hck'
      have hx : (x != x) = false := by cases x <;> rfl
      go_wp2_with fail
      go_quiet (fail)
      go_wp2
      go_roundw
      case rel => exact ⟨k + 1, by omega, by go_num, below_drewN hnx _⟩
      case measure => simp [intOf]; omega
    · have hlt' : ¬ (k : Int) < (n : Int) := by omega
      go_wp2
      go_ret
      exact ⟨rfl, hnx⟩
theorem OwnBB.bo {W : World} {G : Nat} {f : Nat → Bool} (h : OwnBB W G f) : Bo W (some ⟨G, 0, none⟩) 3 f := ⟨Nat.le_refl _, fun _ => ⟨G, rfl, fun v hv => (h.at hv).1⟩⟩
theorem Bo.none (W : World) (a : Option Addr) (f : Nat → Bool) : Bo W a 0 f := ⟨by omega, fun h => by omega⟩
def mulN (b : Bool) : Nat := if b then 3 else 0
/-- Both answers of CatWrites, said alike. -/
def BoM (w w' : World) (e : Ending) (t : Bool) (f : Nat → Bool) : Prop := ∃ a n c, e = .returned (.slice a n c) ∧ n = mulN t ∧ Bo w' a n f ∧ Below w.heap.size w w'
theorem qWrites (ad : Option Addr) (N cap : Nat) (ls : List LV) (w : World) (hN : ls.length = N) (hF : LinesG w ad ls) (hN1 : N ≤ 1048576) :
    Calls Try.prog 35 #[.slice ad N cap] w fun e w' => BoM w w' e (actB N ls) (writesR (rowsL ls)) :=
  (scatwrites_any ad N cap ls w hN hF hN1).mono fun e w' h => by
    obtain ⟨b, ⟨hA, G, he⟩ | ⟨hA, G, cG, he, _, ho⟩⟩ := h
    · exact ⟨_, _, _, he, by rw [hA]; rfl, Bo.none _ _ _, b⟩
    · exact ⟨_, _, _, he, by rw [hA]; rfl, ho.bo, b⟩

theorem pWrites (ad : Option Addr) (N cap : Nat) (ls : List LV) (w : World) (hN : ls.length = N) (hF : LinesG w ad ls) (hN1 : N ≤ 1048576) :
    Calls Try.prog 34 #[.slice ad N cap] w fun e w' => BoM w w' e (actB N ls) (writesR (rowsL ls)) :=
  (icatwrites_any ad N cap ls w hN hF hN1).mono fun e w' h => by
    obtain ⟨b, ⟨hA, he⟩ | ⟨hA, G, cG, he, _, ho⟩⟩ := h
    · exact ⟨_, _, _, he, by rw [hA]; rfl, Bo.none _ _ _, b⟩
    · exact ⟨_, _, _, he, by rw [hA]; rfl, ho.bo, b⟩

end Go.Proofs.Ytngfbcegcekbbaa
namespace Go.Proofs.Ytngfbcegcekbbaa
open Go.RowKit
set_option linter.unusedVariables false

/-- The sign of the first that is not 0. -/
def sgn1 (c : Int) : Int := if 0 < c then 1 else if c < 0 then -1 else 0
theorem sgn1_vals (c : Int) : sgn1 c = 0 ∨ sgn1 c = 1 ∨ sgn1 c = -1 := by
  unfold sgn1
  split
  · simp
  · split <;> simp
def sgn : List Int → Int
  | [] => 0
  | c :: t => if sgn1 c = 0 then sgn t else sgn1 c
theorem sgn_append (xs ys : List Int) : sgn (xs ++ ys) = if sgn xs = 0 then sgn ys else sgn xs := by
  induction xs with
  | nil => simp [sgn]
  | cons c t ih =>
    simp only [List.cons_append, sgn]
    by_cases h : sgn1 c = 0
    · simp only [h, if_true]; exact ih
    · simp only [h, if_false]
theorem sgn_one (c : Int) : sgn [c] = sgn1 c := by
  simp only [sgn]
  split
  · next h => exact h.symm
  · rfl
theorem sgn_take_succ {C : List Int} {k : Nat} (h : k < C.length) : sgn (C.take (k + 1)) = if sgn (C.take k) = 0 then sgn1 (C[k]?.getD 0) else sgn (C.take k) := by
  rw [List.take_succ_eq_append_getElem h, sgn_append, List.getElem?_eq_getElem h, sgn_one]
  rfl
theorem sgn_whole {C : List Int} {k : Nat} (h : sgn (C.take k) ≠ 0) : sgn C = sgn (C.take k) := by
  have := sgn_append (C.take k) (C.drop k)
  rw [List.take_append_drop, if_neg h] at this
  exact this
theorem sgn_end {C : List Int} {k n : Nat} (hn : C.length = n) (h : n ≤ k) : sgn (C.take k) = sgn C := by rw [List.take_of_length_le (by omega)]

/-- What the list is multiplied with. -/
def sg (C : List Int) : Int := if sgn C < 0 then -1 else 1
def mulW (n : Int) (zs : List Int) : List Int := zs.map fun z => wrap64 (n * z)
def partL (C : List Int) : List Int := mulW (sg C) C
theorem mulW_len (n : Int) (zs : List Int) : (mulW n zs).length = zs.length := by simp [mulW]
theorem mulW_get {n : Int} {zs : List Int} {i : Nat} (h : i < zs.length) : (mulW n zs)[i]?.getD 0 = wrap64 (n * zs[i]?.getD 0) := by
  simp [mulW, h]
theorem part_len (C : List Int) : (partL C).length = C.length := mulW_len _ _
theorem part_step {C : List Int} {k : Nat} (h : k < C.length) : (partL C).take (k + 1) = (partL C).take k ++ [wrap64 (sgn (C.take (k + 1)) * C[k]?.getD 0)] := by
  have hl : k < (partL C).length := by rw [part_len]; exact h
  rw [List.take_succ_eq_append_getElem hl]
  congr 2
  have e : (partL C)[k] = wrap64 (sg C * C[k]?.getD 0) := by
    have := mulW_get (n := sg C) h
    rw [show mulW (sg C) C = partL C from rfl, List.getElem?_eq_getElem hl] at this
    simpa using this
  rw [e]
  by_cases hs : sgn (C.take (k + 1)) = 0
  · have h1 := sgn_take_succ h
    have h2 : sgn1 (C[k]?.getD 0) = 0 := by
      rw [hs] at h1
      by_cases h3 : sgn (C.take k) = 0
      · rw [if_pos h3] at h1; exact h1.symm
      · rw [if_neg h3] at h1; exact absurd h1.symm h3
    have h3 : C[k]?.getD 0 = 0 := by
      unfold sgn1 at h2
      split at h2
      · omega
      · split at h2 <;> omega
    rw [h3]; simp
  · have h1 := sgn_whole hs
    have : sg C = sgn (C.take (k + 1)) := by
      unfold sg
      rw [h1]
      have hv : ∀ xs : List Int, sgn xs = 0 ∨ sgn xs = 1 ∨ sgn xs = -1 := by
        intro xs
        induction xs with
        | nil => simp [sgn]
        | cons c t ih =>
          simp only [sgn]
          by_cases hc : sgn1 c = 0
          · simp only [hc, if_true]; exact ih
          · rw [if_neg hc]; exact sgn1_vals c
      rcases hv (C.take (k + 1)) with e | e | e
      · exact absurd e hs
      · rw [e]; simp
      · rw [e]; simp
    rw [this]

set_option maxHeartbeats 400000 in
theorem timesW_any (a : Option Addr) (l cap : Nat) (zs : List Int) (n : Int) (w : World) (h : Ints w a l zs) (hl : l ≤ 1048576) :
    Calls Try.prog 57 #[.slice a l cap, .int .i64 n] w fun e w' => e = .returned (.slice (some ⟨w.heap.size, 0, none⟩) l l) ∧ Below w.heap.size w w' ∧ Blk w' w.heap.size (mulW n zs) := by
  have HZ : Hid (zs.length = l) := h.1
  have HM : Hid ((mulW n zs).length = l) := by show (mulW n zs).length = l; simp [mulW, h.1]
  obtain ⟨i0, hi, hz0, hz1, hz2⟩ := info_parts Try.infoInt
  go_enter Try.func57, Try.ntmps57
  go_wp2_with (at_make; refine wpList_make_full _ rfl (.tmp 9) (.tmp 9) 30 rfl w.heap.size 3 i0 (.int .i64 0) 1 Try.underlying30 hi hz0 hz1 .i64 .i64 _ _ l rfl rfl rfl rfl (by rw [hz2]; omega) (by unfold maxLen; omega) (Nat.le_refl _) ?_; intro w1 hown hgrow)
  have hb1 := Blk.made w l w1 hown
  have HB : Below w.heap.size w w1 := (Below.refl _ _).grown hgrow (Nat.le_refl _) (by simp)
  clear hown hgrow hi hz0 hz1 hz2
  go_loopw [6, 7, 13] (fun _ _ i wr => ∃ k : Nat, k ≤ l ∧ i = .int .i64 k ∧ Below w.heap.size w wr ∧ Blk wr w.heap.size (upTo (mulW n zs) l k)) (fun _ _ i _ => l - (intOf i).toNat)
  case atStart => exact ⟨0, Nat.zero_le _, rfl, HB, by rw [upTo_zero]; exact hb1⟩
  case round =>
    obtain ⟨k, hk, rfl, hnx, hblk⟩ := hrel
    by_cases hlt : k < l
    · obtain ⟨b, off, rfl, hcell⟩ := (h.below hnx).pos (by omega)
      have hck := hcell k hlt
      have hco := hblk.cell k (by rw [upTo_len HM.out hk]; exact hlt)
      have hfo := hblk.free k
      have R := hblk.set k ((mulW n zs)[k]?.getD 0)
      rw [upTo_succ HM.out hlt, mulW_get (by rw [HZ.out]; exact hlt)] at R
      have R2 := hnx.setCell (p := ⟨w.heap.size, k, none⟩) (Nat.le_refl _) (.int .i64 (wrap64 (n * zs[k]?.getD 0)))
      clear hcell hb1 HB h hblk hnx
      go_wp2
      go_roundw
      case rel => exact ⟨k + 1, by omega, by go_num, R2, R⟩
      case measure => simp [intOf]; omega
    · go_wp2
      go_ret
      exact ⟨rfl, hnx, by rw [upTo_end HM.out (by omega)] at hblk; exact hblk⟩

set_option maxHeartbeats 800000 in
theorem ipart_any (a : Option Addr) (n cap : Nat) (c : Option Addr) (m cap' : Nat) (K : Int) (C : List Int) (w : World) (hC : Ints w a n C) (hn : n ≤ 1048576) :
    Calls Try.prog 23 #[formV a n cap c m cap' K] w fun e w' => e = .returned (.slice (some ⟨w.heap.size + 1, 0, none⟩) n n) ∧ Below w.heap.size w w' ∧ Blk w' (w.heap.size + 1) (partL C) := by
  have HC : Hid (C.length = n) := hC.1
  go_enter Try.func23, Try.ntmps23
  go_wp2_with fail
  have hC1 := hC.alloc (.cells #[.slice a n cap, .slice c m cap', .int .i64 K] 32)
  have hend : ∀ (s : Int) (w2 : World), sg C = s → Below (w.alloc (.cells #[.slice a n cap, .slice c m cap', .int .i64 K] 32)).heap.size (w.alloc (.cells #[.slice a n cap, .slice c m cap', .int .i64 K] 32)) w2 → Blk w2 (w.alloc (.cells #[.slice a n cap, .slice c m cap', .int .i64 K] 32)).heap.size (mulW s C) → Below w.heap.size w w2 ∧ Blk w2 (w.heap.size + 1) (partL C) := by
    intro s w2 hs b2 k2
    rw [World.size_alloc] at k2
    exact ⟨((Below.refl _ _).alloc (Nat.le_refl _) _).trans (b2.mono (by simp)), by unfold partL; rw [hs]; exact k2⟩
  have HE : Hid _ := hend
  clear hend
  go_loop [4, 8] (fun _ i => ∃ k : Nat, k ≤ n ∧ i = .int .i64 k ∧ sgn (C.take k) = 0) (fun _ i => n - (intOf i).toNat)
  case atStart => exact ⟨0, Nat.zero_le _, rfl, rfl⟩
  case round =>
    obtain ⟨k, hk, rfl, hs⟩ := hrel
    have HS : Hid (sgn (C.take k) = 0) := hs
    clear hs
    by_cases hlt : k < n
    · obtain ⟨b, off, rfl, hcell⟩ := hC1.pos (by omega)
      have hck := hcell k hlt
      clear hcell
      have HT : Hid (sgn (C.take (k + 1)) = sgn1 (C[k]?.getD 0)) := by
        show sgn (C.take (k + 1)) = sgn1 (C[k]?.getD 0)
        rw [sgn_take_succ (by rw [HC.out]; exact hlt), if_pos HS.out]
      by_cases h1 : 0 < C[k]?.getD 0
      · have HG : Hid (sg C = 1) := by
          show sg C = 1
          have e := HT.out
          rw [sgn1, if_pos h1] at e
          have := sgn_whole (C := C) (k := k + 1) (by rw [e]; decide)
          rw [sg, this, e]; rfl
        go_wp2_with fail
        refine (timesW_any _ _ _ C _ _ hC1 hn).mono ?_
        rintro e w2 ⟨rfl, b2, k2⟩
        go_wp2
        go_ret
        exact ⟨rfl, HE.out 1 w2 HG.out b2 k2⟩
      · by_cases h2 : C[k]?.getD 0 < 0
        · have HG : Hid (sg C = -1) := by
            show sg C = -1
            have e := HT.out
            rw [sgn1, if_neg h1, if_pos h2] at e
            have := sgn_whole (C := C) (k := k + 1) (by rw [e]; decide)
            rw [sg, this, e]; rfl
          go_wp2_with fail
          refine (timesW_any _ _ _ C _ _ hC1 hn).mono ?_
          rintro e w2 ⟨rfl, b2, k2⟩
          go_wp2
          go_ret
          exact ⟨rfl, HE.out (-1) w2 HG.out b2 k2⟩
        · have HT2 : Hid (sgn (C.take (k + 1)) = 0) := by
            show sgn (C.take (k + 1)) = 0
            rw [HT.out, sgn1, if_neg h1, if_neg h2]
          go_wp2
          go_round
          case rel => exact ⟨k + 1, by omega, by go_num, HT2.out⟩
          case measure => simp [intOf]; omega
    · have HG : Hid (sg C = 1) := by
        show sg C = 1
        have e := HS.out
        rw [sgn_end HC.out (by omega)] at e
        rw [sg, e]; rfl
      go_wp2_with fail
      refine (timesW_any _ _ _ C _ _ hC1 hn).mono ?_
      rintro e w2 ⟨rfl, b2, k2⟩
      go_wp2
      go_ret
      exact ⟨rfl, HE.out 1 w2 HG.out b2 k2⟩

set_option maxRecDepth 100000 in
set_option maxHeartbeats 1600000 in
theorem spart_new (a : Option Addr) (n cap : Nat) (c : Option Addr) (m cap' : Nat) (K : Int) (C : List Int) (w : World) (hC : Ints w a n C) (hn : n ≤ 1048576) :
    Calls Try.prog 88 #[formV a n cap c m cap' K] w fun e w' => ∃ a' cap2, e = .returned (.slice a' n cap2) ∧ Below w.heap.size w w' ∧ Ints w' a' n (partL C) ∧ (∀ b o, a' = some ⟨b, o, none⟩ → w.heap.size ≤ b ∧ b < w'.heap.size) := by
  have HC : Hid (C.length = n) := hC.1
  obtain ⟨i0, hi, hz0, hz1, hz2⟩ := info_parts Try.infoInt
  go_enter Try.func88, Try.ntmps88
  go_wp2_with fail
  obtain ⟨W, hW⟩ : ∃ W, W = w.alloc (.cells #[.slice a n cap, .slice c m cap', .int .i64 K] 32) := ⟨_, rfl⟩
  have box : Cel W w.heap.size [.slice a n cap, .slice c m cap', .int .i64 K] 32 := by rw [hW]; exact Cel.new w _ _
  have BW : Below w.heap.size w W := by rw [hW]; exact (Below.refl _ _).alloc (Nat.le_refl _) _
  have hCW : Ints W a n C := hC.below BW
  have HWS : Hid (W.heap.size = w.heap.size + 1) := by show W.heap.size = _; rw [hW, World.size_alloc]
  rw [← hW]
  clear hW hC
  go_loopw [3, 4, 5] (fun v s i wr => ∃ k : Nat, k ≤ n ∧ i = .int .i64 k ∧ s = .int .i64 (sgn (C.take k)) ∧ ∃ xs : List Int, xs.length = k ∧ xs = (partL C).take k ∧ JA W v xs wr) (fun _ _ i _ => n - (intOf i).toNat)
  case atStart => exact ⟨0, Nat.zero_le _, rfl, rfl, [], rfl, rfl, by rw [← HWS.out]; exact JA.lit W⟩
  case round =>
    obtain ⟨k, hk, rfl, rfl, xs, hxl, hxs, j⟩ := hrel
    have HL : Hid (xs.length = k) := hxl
    have HXS : Hid (xs = (partL C).take k) := hxs
    clear hxl hxs
    have jo := (j.o)
    rw [HL.out] at jo
    have hjb := j.b.size
    have g0 := (box.below j.b).cell 0
    simp only [List.getElem?_cons_zero] at g0
    by_cases hlt : k < n
    · obtain ⟨b, off, rfl, hcell⟩ := (hCW.below j.b).pos (by omega)
      have hck : wr.cell? ⟨b, off + k, none⟩ = some (.int .i64 (C[k]?.getD 0)) := by rw [hcell k hlt]; simp
      clear hcell
      have HT : Hid _ := sgn_take_succ (C := C) (k := k) (by rw [HC.out]; exact hlt)
      have HP : Hid _ := part_step (C := C) (k := k) (by rw [HC.out]; exact hlt)
      generalize HS : sgn (C.take k) = s at *
      generalize HX : C[k]?.getD 0 = x at *
      clear HS HX
      by_cases hs0 : s = 0
      · subst hs0
        by_cases h1 : 0 < x
        · have HT2 : Hid (sgn1 x = 1) := by show sgn1 x = 1; rw [sgn1, if_pos h1]
          go_wp2_with (at_builtin; go_must (refine wpList_append_lies _ rfl (.tmp 34) (.tmp 42) 30 rfl W.heap.size 3 i0 (.int .i64 0) 1 8 Try.underlying30 hi hz0 hz1 hz2 rfl (by decide) _ _ _ rfl (jo.alloc _) ⟨wr.heap.size, 0, none⟩ 1 1 [.int .i64 (wrap64 x)] rfl rfl (news1 _ _ _) (one1 _ _) (by omega) (by unfold maxLen; omega) (by omega) (by rw [World.size_alloc]; omega) _ rfl ?_); intro g cp w1 hown hgrow hat hlt1)
          have j2 := j.app HL.out hown hgrow
          clear hown hgrow jo j hat
          have HX2 : Hid (xs ++ [wrap64 x] = (partL C).take (k + 1)) := by show _ = _; rw [HP.out, HXS.out, HT.out, if_pos rfl, HT2.out, Int.one_mul]
          go_wp2
          go_roundw
          case rel => exact ⟨k + 1, by omega, by go_num, by rw [HT.out, if_pos rfl, HT2.out], _, by rw [List.length_append, HL.out]; rfl, HX2.out, j2⟩
          case measure => simp [intOf]; omega
        · by_cases h2 : x < 0
          · have HT2 : Hid (sgn1 x = -1) := by show sgn1 x = -1; rw [sgn1, if_neg h1, if_pos h2]
            go_wp2_with (at_builtin; go_must (refine wpList_append_lies _ rfl (.tmp 34) (.tmp 42) 30 rfl W.heap.size 3 i0 (.int .i64 0) 1 8 Try.underlying30 hi hz0 hz1 hz2 rfl (by decide) _ _ _ rfl (jo.alloc _) ⟨wr.heap.size, 0, none⟩ 1 1 [.int .i64 (wrap64 (-x))] rfl rfl (news1 _ _ _) (one1 _ _) (by omega) (by unfold maxLen; omega) (by omega) (by rw [World.size_alloc]; omega) _ rfl ?_); intro g cp w1 hown hgrow hat hlt1)
            have j2 := j.app HL.out hown hgrow
            clear hown hgrow jo j hat
            have HX2 : Hid (xs ++ [wrap64 (-x)] = (partL C).take (k + 1)) := by show _ = _; rw [HP.out, HXS.out, HT.out, if_pos rfl, HT2.out, Int.neg_one_mul]
            go_wp2
            go_roundw
            case rel => exact ⟨k + 1, by omega, by go_num, by rw [HT.out, if_pos rfl, HT2.out], _, by rw [List.length_append, HL.out]; rfl, HX2.out, j2⟩
            case measure => simp [intOf]; omega
          · have HT2 : Hid (sgn1 x = 0) := by show sgn1 x = 0; rw [sgn1, if_neg h1, if_neg h2]
            go_wp2_with (at_builtin; go_must (refine wpList_append_lies _ rfl (.tmp 34) (.tmp 42) 30 rfl W.heap.size 3 i0 (.int .i64 0) 1 8 Try.underlying30 hi hz0 hz1 hz2 rfl (by decide) _ _ _ rfl (jo.alloc _) ⟨wr.heap.size, 0, none⟩ 1 1 [.int .i64 0] rfl rfl (news1 _ _ _) (one1 _ _) (by omega) (by unfold maxLen; omega) (by omega) (by rw [World.size_alloc]; omega) _ rfl ?_); intro g cp w1 hown hgrow hat hlt1)
            have j2 := j.app HL.out hown hgrow
            clear hown hgrow jo j hat
            have HX2 : Hid (xs ++ [0] = (partL C).take (k + 1)) := by show _ = _; rw [HP.out, HXS.out, HT.out, if_pos rfl, HT2.out, Int.zero_mul, show wrap64 0 = 0 from by decide +kernel]
            go_wp2
            go_roundw
            case rel => exact ⟨k + 1, by omega, by go_num, by rw [HT.out, if_pos rfl, HT2.out], _, by rw [List.length_append, HL.out]; rfl, HX2.out, j2⟩
            case measure => simp [intOf]; omega
      · have hs1 : (s == 0) = false := by simp [hs0]
        go_wp2_with (at_builtin; go_must (refine wpList_append_lies _ rfl (.tmp 34) (.tmp 42) 30 rfl W.heap.size 3 i0 (.int .i64 0) 1 8 Try.underlying30 hi hz0 hz1 hz2 rfl (by decide) _ _ _ rfl (jo.alloc _) ⟨wr.heap.size, 0, none⟩ 1 1 [.int .i64 (wrap64 (s * x))] rfl rfl (news1 _ _ _) (one1 _ _) (by omega) (by unfold maxLen; omega) (by omega) (by rw [World.size_alloc]; omega) _ rfl ?_); intro g cp w1 hown hgrow hat hlt1)
        have j2 := j.app HL.out hown hgrow
        clear hown hgrow jo j hat
        have HX2 : Hid (xs ++ [wrap64 (s * x)] = (partL C).take (k + 1)) := by show _ = _; rw [HP.out, HXS.out, HT.out, if_neg hs0]
        go_wp2
        go_roundw
        case rel => exact ⟨k + 1, by omega, by go_num, by rw [HT.out, if_neg hs0], _, by rw [List.length_append, HL.out]; rfl, HX2.out, j2⟩
        case measure => simp [intOf]; omega
    · obtain rfl : k = n := by omega
      obtain ⟨a', cp, rfl, hcp, hI, hlt'⟩ := j.ints
      have HXC : Hid (xs = partL C) := by show xs = _; rw [HXS.out, List.take_of_length_le (by rw [part_len, HC.out]; exact Nat.le_refl _)]
      rw [HL.out] at hI hcp ⊢
      have jb := j.b
      clear j jo
      go_wp2
      go_ret
      exact ⟨a', cp, rfl, BW.trans (jb.mono BW.size), by rw [← HXC.out]; exact hI, fun b o e => ⟨by have := (hlt' b o e).1; have := HWS.out; omega, (hlt' b o e).2⟩⟩

theorem spart_any (a : Option Addr) (n cap : Nat) (c : Option Addr) (m cap' : Nat) (K : Int) (C : List Int) (w : World) (hC : Ints w a n C) (hn : n ≤ 1048576) :
    Calls Try.prog 88 #[formV a n cap c m cap' K] w fun e w' => ∃ a' cap2, e = .returned (.slice a' n cap2) ∧ Below w.heap.size w w' ∧ Ints w' a' n (partL C) ∧ (∀ b o, a' = some ⟨b, o, none⟩ → b < w'.heap.size) := by
  refine (spart_new a n cap c m cap' K C w hC hn).mono ?_
  rintro e w' ⟨a', cap2, h1, h2, h3, h4⟩
  exact ⟨a', cap2, h1, h2, h3, fun b o e => (h4 b o e).2⟩

end Go.Proofs.Ytngfbcegcekbbaa
namespace Go.Proofs.Ytngfbcegcekbbaa
open Go.RowKit
set_option linter.unusedVariables false
set_option maxRecDepth 100000

theorem copiesL_same {fs gs hs : List LV} {N : Nat} (hg : gs.length = N) (hh : hs.length = N) (h1 : copiesL fs gs) (h2 : copiesL fs hs) : ∀ i, i < N → sameL (gs[i]?.getD noLV) (hs[i]?.getD noLV) := fun i hi => by
  obtain ⟨a1, a2, a3, a4, a5, a6, _⟩ := h1 i (by omega)
  obtain ⟨b1, b2, b3, b4, b5, b6, _⟩ := h2 i (by omega)
  refine ⟨by rw [a1, b1], by rw [a2, b2], by rw [a3, b3], ?_⟩
  rw [a4, a5, a6, b4, b5, b6]
  exact eqF_refl _ _ _
theorem copiesL_map {α : Type} (P : LV → α) (hP : ∀ f g : LV, f.kind = g.kind → f.pot = g.pot → f.skip = g.skip → f.f.C = g.f.C → f.f.D = g.f.D → f.f.K = g.f.K → f.f.n = g.f.n → f.f.m = g.f.m → P f = P g) {fs gs : List LV} (hl : gs.length = fs.length) (h : copiesL fs gs) : gs.map P = fs.map P := by
  apply List.ext_getElem?
  intro i
  by_cases hi : i < gs.length
  · obtain ⟨a1, a2, a3, a4, a5, a6, a7, a8⟩ := h i hi
    have := hP _ _ a1 a2 a3 a4 a5 a6 a7 a8
    rw [List.getElem?_eq_getElem hi, List.getElem?_eq_getElem (by omega)] at this
    simp only [Option.getD_some] at this
    rw [List.getElem?_map, List.getElem?_map, List.getElem?_eq_getElem hi, List.getElem?_eq_getElem (by omega)]
    simp [this]
  · rw [List.getElem?_eq_none (by simp; omega), List.getElem?_eq_none (by simp; omega)]
theorem copiesL_act {fs gs : List LV} {N : Nat} (hl : gs.length = fs.length) (h : copiesL fs gs) : actB N gs = actB N fs := by
  have h1 := copiesL_map LV.ok (fun f g a1 a2 a3 a4 a5 a6 a7 a8 => by simp only [LV.ok, a1, a2, a3, a4, a5, a6, a7, a8]) hl h
  have h2 := copiesL_map LV.tst (fun f g a1 a2 a3 a4 a5 a6 a7 a8 => by simp only [LV.tst, a1]) hl h
  have e1 : ∀ xs : List LV, xs.all LV.ok = (xs.map LV.ok).all id := fun xs => by simp [List.all_map]
  have e2 : ∀ xs : List LV, tests xs = (xs.map LV.tst).countP id := fun xs => by simp [tests, List.countP_map]
  rw [actB, actB, e1, e1, e2, e2, h1, h2]

def L2V.ok (s : L2V) : Bool := actB s.n s.x
/-- Whether acts are ok. -/
def catB (N : Nat) (ss : List L2V) : Bool := inB N 1 4 && ss.all L2V.ok
theorem allC_take_succ {ls : List L2V} {k : Nat} (h : k < ls.length) (h1 : (ls.take k).all L2V.ok = true) (h2 : (ls[k]?.getD noL).ok = true) : (ls.take (k + 1)).all L2V.ok = true := by
  rw [List.take_succ_eq_append_getElem h, List.all_append, h1]
  rw [List.getElem?_eq_getElem h] at h2
  simpa using h2
theorem allC_no {ls : List L2V} {k : Nat} (h : k < ls.length) (h2 : (ls[k]?.getD noL).ok = false) : ls.all L2V.ok = false := by
  rw [List.all_eq_false]
  rw [List.getElem?_eq_getElem h] at h2
  exact ⟨ls[k], List.getElem_mem h, by simpa using h2⟩

set_option maxHeartbeats 1600000 in
theorem scat_any (ad : Option Addr) (N cap : Nat) (ss : List L2V) (w : World) (hN : ss.length = N) (hF : LSG w ad ss) (hN1 : N ≤ 1048576) :
    Calls Try.prog 20 #[.slice ad N cap] w fun e w' => e = .returned (.bool (catB N ss)) ∧ Below w.heap.size w w' := by
  have HN : Hid (ss.length = N) := hN
  clear hN
  cases hib : inB N 1 4
  · go_enter Try.func20, Try.ntmps20
    go_wp2_with fail
    refine (in_any _ _ _ _).mono ?_
    rintro e w1 ⟨rfl, rfl⟩
    rw [hib]
    go_wp2
    go_ret
    exact ⟨ret_bool (by rw [catB, hib]; rfl), Below.refl _ _⟩
  go_enter Try.func20, Try.ntmps20
  go_wp2_with fail
  refine (in_any _ _ _ _).mono ?_
  rintro e w1 ⟨rfl, hw1⟩
  rw [hib, hw1]
  clear hw1
  go_wp2_with fail
  have HCB : Hid (catB N ss = ss.all L2V.ok) := by show catB N ss = _; rw [catB, hib]; rfl
  go_loopw [3] (fun  i wr => ∃ k : Nat, k ≤ N ∧ i = .int .i64 k ∧ Below w.heap.size w wr ∧ (ss.take k).all L2V.ok = true) (fun i _ => N - (intOf i).toNat)
  case atStart => exact ⟨0, Nat.zero_le _, rfl, Below.refl _ _, by simp⟩
  case round =>
    obtain ⟨k, hk, rfl, hb, hall⟩ := hrel
    have HA : Hid ((ss.take k).all L2V.ok = true) := hall
    clear hall
    by_cases hlt : k < N
    · obtain ⟨b, off, rfl, hc, hr⟩ := (hF.below hb) k (by rw [HN.out]; exact hlt)
      generalize HG : ss[k]?.getD noL = g at *
      have HG' : Hid (ss[k]?.getD noL = g) := HG
      clear HG hF
      obtain ⟨ga, gn, gcap, gx⟩ := g
      have hc' : wr.cell? ⟨b, off + k, none⟩ = some (.slice ga gn gcap) := hc
      clear hc
      cases hf : actB gn gx
      · go_wp2_with fail
        refine (sact_any _ _ _ gx _ hr.1 hr.2.1 hr.2.2).mono ?_
        rintro e w1 ⟨rfl, b1⟩
        rw [hf]
        go_wp2
        go_ret
        exact ⟨ret_bool (by rw [HCB.out, allC_no (k := k) (by rw [HN.out]; exact hlt) (by rw [HG'.out]; exact hf)]), hb.trans (b1.mono hb.size)⟩
      · go_wp2_with fail
        refine (sact_any _ _ _ gx _ hr.1 hr.2.1 hr.2.2).mono ?_
        rintro e w1 ⟨rfl, b1⟩
        rw [hf]
        go_wp2
        go_roundw
        case rel => exact ⟨k + 1, by omega, by go_num, hb.trans (b1.mono hb.size), allC_take_succ (by rw [HN.out]; exact hlt) HA.out (by rw [HG'.out]; exact hf)⟩
        case measure => simp [intOf]; omega
    · go_wp2
      go_ret
      exact ⟨ret_bool (by rw [HCB.out]; have := HA.out; rw [List.take_of_length_le (by rw [HN.out]; omega)] at this; exact this.symm), hb⟩

set_option maxHeartbeats 1600000 in
theorem icat_any (ad : Option Addr) (N cap : Nat) (ss : List L2V) (w : World) (hN : ss.length = N) (hF : LSG w ad ss) (hN1 : N ≤ 1048576) :
    Calls Try.prog 19 #[.slice ad N cap] w fun e w' => e = .returned (.bool (catB N ss)) ∧ Below w.heap.size w w' := by
  have HN : Hid (ss.length = N) := hN
  clear hN
  by_cases h1 : N < 1
  · have hib : inB N 1 4 = false := inB_not.2 (by omega)
    go_enter Try.func19, Try.ntmps19
    go_wp2
    go_ret
    exact ⟨ret_bool (by rw [catB, hib]; rfl), Below.refl _ _⟩
  by_cases h4 : 4 < N
  · have hib : inB N 1 4 = false := inB_not.2 (by omega)
    go_enter Try.func19, Try.ntmps19
    go_wp2
    go_ret
    exact ⟨ret_bool (by rw [catB, hib]; rfl), Below.refl _ _⟩
  have hib : inB N 1 4 = true := inB_iff.2 (by omega)
  go_enter Try.func19, Try.ntmps19
  go_wp2_with fail
  have HCB : Hid (catB N ss = ss.all L2V.ok) := by show catB N ss = _; rw [catB, hib]; rfl
  go_loopw [4, 15] (fun _ i wr => ∃ k : Nat, k ≤ N ∧ i = .int .i64 k ∧ Below w.heap.size w wr ∧ (ss.take k).all L2V.ok = true) (fun _ i _ => N - (intOf i).toNat)
  case atStart => exact ⟨0, Nat.zero_le _, rfl, Below.refl _ _, by simp⟩
  case round =>
    obtain ⟨k, hk, rfl, hb, hall⟩ := hrel
    have HA : Hid ((ss.take k).all L2V.ok = true) := hall
    clear hall
    by_cases hlt : k < N
    · obtain ⟨b, off, rfl, hc, hr⟩ := (hF.below hb) k (by rw [HN.out]; exact hlt)
      generalize HG : ss[k]?.getD noL = g at *
      have HG' : Hid (ss[k]?.getD noL = g) := HG
      clear HG hF
      obtain ⟨ga, gn, gcap, gx⟩ := g
      have hc' : wr.cell? ⟨b, off + k, none⟩ = some (.slice ga gn gcap) := hc
      clear hc
      cases hf : actB gn gx
      · go_wp2_with fail
        refine (iact_any _ _ _ gx _ hr.1 hr.2.1 hr.2.2).mono ?_
        rintro e w1 ⟨rfl, b1⟩
        rw [hf]
        go_wp2
        go_ret
        exact ⟨ret_bool (by rw [HCB.out, allC_no (k := k) (by rw [HN.out]; exact hlt) (by rw [HG'.out]; exact hf)]), hb.trans (b1.mono hb.size)⟩
      · go_wp2_with fail
        refine (iact_any _ _ _ gx _ hr.1 hr.2.1 hr.2.2).mono ?_
        rintro e w1 ⟨rfl, b1⟩
        rw [hf]
        go_wp2
        go_roundw
        case rel => exact ⟨k + 1, by omega, by go_num, hb.trans (b1.mono hb.size), allC_take_succ (by rw [HN.out]; exact hlt) HA.out (by rw [HG'.out]; exact hf)⟩
        case measure => simp [intOf]; omega
    · go_wp2
      go_ret
      exact ⟨ret_bool (by rw [HCB.out]; have := HA.out; rw [List.take_of_length_le (by rw [HN.out]; omega)] at this; exact this.symm), hb⟩

end Go.Proofs.Ytngfbcegcekbbaa
namespace Go.Proofs.Ytngfbcegcekbbaa
open Go.RowKit Go.Deep
set_option linter.unusedVariables false
set_option maxRecDepth 100000

/-- A part is put behind the others, if it is not there, and not 0. -/
def addPb (ps : List (List Int)) (p : List Int) : List (List Int) := if p ∈ ps ∨ p = [0, 0, 0] then ps else ps ++ [p]
def guardsP (ps : List (List Int)) (fs : List Frm) : List (List Int) := fs.foldl (fun ps f => addPb ps (partL f.1)) ps
def rowsP (ps : List (List Int)) (rs : List RowM) : List (List Int) := rs.foldl (fun ps r => guardsP ps r.guards) ps
def actsP (ps : List (List Int)) (ss : List L2V) : List (List Int) := ss.foldl (fun ps s => rowsP ps (rowsL s.x)) ps
def pots3 : List (List Int) := [[1, 0, 0], [0, 1, 0], [0, 0, 1]]
/-- The parts of acts. -/
def catP (ss : List L2V) : List (List Int) := actsP pots3 ss
/-- Some act tells of a pot, or adds by it. -/
def pinsA (ss : List L2V) (v : Nat) : Bool := ss.any fun s => readsR (rowsL s.x) v
theorem foldl_take {α β : Type} (f : β → α → β) (b : β) (xs : List α) (k : Nat) (d : α) (h : k < xs.length) : (xs.take (k + 1)).foldl f b = f ((xs.take k).foldl f b) (xs[k]?.getD d) := by
  rw [List.take_succ_eq_append_getElem h, List.foldl_append, List.getElem?_eq_getElem h]; rfl
theorem guardsP_snoc (ps : List (List Int)) (fs : List Frm) (k : Nat) (h : k < fs.length) : guardsP ps (fs.take (k + 1)) = addPb (guardsP ps (fs.take k)) (partL (fs[k]?.getD ([], [], 0)).1) := foldl_take _ _ _ _ _ h
theorem rowsP_snoc (ps : List (List Int)) (rs : List RowM) (k : Nat) (h : k < rs.length) : rowsP ps (rs.take (k + 1)) = guardsP (rowsP ps (rs.take k)) (rs[k]?.getD noR).guards := foldl_take _ _ _ _ _ h
theorem actsP_snoc (ps : List (List Int)) (ss : List L2V) (k : Nat) (h : k < ss.length) : actsP ps (ss.take (k + 1)) = rowsP (actsP ps (ss.take k)) (rowsL (ss[k]?.getD noL).x) := foldl_take _ _ _ _ _ h
theorem pinsA_snoc (ss : List L2V) (k : Nat) (h : k < ss.length) (v : Nat) : pinsA (ss.take (k + 1)) v = (pinsA (ss.take k) v || readsR (rowsL (ss[k]?.getD noL).x) v) := by
  rw [pinsA, List.take_succ_eq_append_getElem h, List.any_append, List.getElem?_eq_getElem h]
  simp [pinsA]
theorem has_mem (p : List Int) : ∀ (ps : List (List Int)) (k : Nat), (hasFrom p k ps < 0 ↔ p ∉ ps)
  | [], k => by simp [hasFrom]
  | q :: ps, k => by
    rw [hasFrom]
    by_cases e : q = p
    · subst e; simp [eqB]
    · have h1 : eqB q p = false := by simp [eqB, e]
      rw [h1]
      have := has_mem p ps (k + 1)
      simp only [Bool.false_eq_true, if_false, this, List.mem_cons, not_or]
      exact ⟨fun h => ⟨fun h2 => e h2.symm, h⟩, fun h => h.2⟩
theorem addP_has {ps : List (List Int)} {p : List Int} (h : ¬ hasFrom p 0 ps < 0) : addPb ps p = ps := by
  rw [has_mem] at h
  rw [addPb, if_pos (.inl (Classical.not_not.1 h))]
theorem addP_zero {ps : List (List Int)} {p : List Int} (h : p = [0, 0, 0]) : addPb ps p = ps := by rw [addPb, if_pos (.inr h)]
theorem addP_new {ps : List (List Int)} {p : List Int} (h : hasFrom p 0 ps < 0) (h2 : p ≠ [0, 0, 0]) : addPb ps p = ps ++ [p] := by
  rw [has_mem] at h
  rw [addPb, if_neg (by rintro (h' | h'); exact h h'; exact h2 h')]

theorem Ints.blkB {w : World} {b off n : Nat} {zs : List Int} (h : Ints w (some ⟨b, off, none⟩) n zs) (hn : 0 < n) : b < w.heap.size := by
  obtain ⟨b', o', e, hc⟩ := h.2 0 hn
  simp only [Option.some.injEq, Addr.mk.injEq, and_true] at e
  obtain ⟨rfl, rfl⟩ := e
  exact block_lt hc
/-- A slice of parts, in memory made since w: no part lies in its block. -/
structure JP (w : World) (G cap : Nat) (ts : List IV) (W : World) : Prop where
  b : Below w.heap.size w W
  o : W.ownsRow w.heap.size 30 1 (.slice (some ⟨G, 0, none⟩) ts.length cap) ts.length (ts.map IV.v)
  k : ∀ j, j < ts.length → (ts[j]?.getD noI).n = 3 ∧ Ints W (ts[j]?.getD noI).a 3 (ts[j]?.getD noI).x ∧ ∀ b o, (ts[j]?.getD noI).a = some ⟨b, o, none⟩ → b ≠ G
theorem JP.nil (w W : World) (hb : Below w.heap.size w W) : JP w W.heap.size 0 [] (W.alloc (.cells #[] 30)) :=
  ⟨hb.alloc hb.size _, World.ownsRow_lit W #[] 0 hb.size (by unfold maxLen; omega) rfl, fun j hj => by simp at hj⟩
theorem JP.below {w W W' : World} {G cap : Nat} {ts : List IV} (j : JP w G cap ts W) (h : Below W.heap.size W W') : JP w G cap ts W' :=
  ⟨j.b.trans (h.mono j.b.size), own_below j.o h, fun i hi => by obtain ⟨a, b, c⟩ := j.k i hi; exact ⟨a, b.below h, c⟩⟩
theorem JP.lt {w W : World} {G cap : Nat} {ts : List IV} (j : JP w G cap ts W) : w.heap.size ≤ G ∧ G < W.heap.size := by
  rcases j.o.2 with ⟨h, _⟩ | ⟨g, cap', cur, h, hg, hh, _⟩
  · cases h
  · simp only [Value.slice.injEq, Option.some.injEq, Addr.mk.injEq, and_true, true_and] at h
    obtain ⟨rfl, _⟩ := h
    exact ⟨hg, lt_of_block hh⟩
theorem JP.g {w W : World} {G cap : Nat} {ts : List IV} (j : JP w G cap ts W) : ISG W (some ⟨G, 0, none⟩) ts := fun i hi => by
  obtain ⟨h1, h2, h3⟩ := j.k i hi
  refine ⟨G, 0, rfl, ?_, ?_, by omega⟩
  · rw [Nat.zero_add, own_cell j.o i (by omega), List.getElem?_map, List.getElem?_eq_getElem hi]; rfl
  · rw [h1]; exact h2
theorem JP.app {w W W' : World} {G cap g cp k : Nat} {ts : List IV} {s : IV} {o : Obj} (j : JP w G cap ts W) (hk : ts.length = k) (hs : s.n = 3) (hI : Ints W s.a 3 s.x) (hb : ∀ b o, s.a = some ⟨b, o, none⟩ → b ≠ G)
    (hown : W'.ownsRow w.heap.size 30 1 (.slice (some ⟨g, 0, none⟩) (k + 1) cp) (k + 1) (ts.map IV.v ++ [s.v])) (hg : (W.alloc o).grownBy W' (some G)) (hat : g = G ∨ W.heap.size ≤ g) : JP w g cp (ts ++ [s]) W' := by
  subst hk
  have A : Below W.heap.size W (W.alloc o) := (Below.refl _ _).alloc (Nat.le_refl _) _
  have ja := j.below A
  have T : Touch (fun y => y = G) (W.alloc o) W' := ⟨hg.os, hg.tape, hg.output, hg.size, fun z hz hn => hg.block z hz (fun e => hn (by simpa using e))⟩
  have key : ∀ (a : Option Addr) (x : List Int), Ints W a 3 x → (∀ b o, a = some ⟨b, o, none⟩ → b ≠ G) → Ints W' a 3 x ∧ ∀ b o, a = some ⟨b, o, none⟩ → b ≠ g := fun a x h1 h2 => by
    refine ⟨(h1.below A).offC (fun b o e => h2 b o e) T, fun b o e => ?_⟩
    have h3 := h2 b o e
    subst e
    have := h1.blkB (by omega)
    omega
  refine ⟨ja.b.grown hg ja.b.size (fun z hz => ?_), ?_, fun i hi => ?_⟩
  · have := j.lt
    simp only [Option.some.injEq] at hz
    omega
  · rw [List.length_append, List.map_append]; exact hown
  · by_cases h : i < ts.length
    · rw [List.getElem?_append_left h]
      obtain ⟨a, b, c⟩ := j.k i h
      exact ⟨a, key _ _ b c⟩
    · rw [List.length_append, List.length_singleton] at hi
      obtain rfl : i = ts.length := by omega
      rw [List.getElem?_append_right (Nat.le_refl _), Nat.sub_self]
      exact ⟨hs, key _ _ hI hb⟩

end Go.Proofs.Ytngfbcegcekbbaa
namespace Go.Proofs.Ytngfbcegcekbbaa
open Go.RowKit Go.Deep
set_option linter.unusedVariables false
set_option maxRecDepth 100000

theorem oneSl {a : Option Addr} {n c : Nat} : ∀ u ∈ [Value.slice a n c], u.oneCell' = true := fun u hu => by
  simp at hu; subst hu; rfl
theorem field_C (a : Option Addr) (n ca : Nat) (c : Option Addr) (m cc : Nat) (K : Int) (W : World) : (Instr.field 32 (formV a n ca c m cc K) 0).run Try.prog W = .ok (.slice a n ca) W := by kernel_rfl
theorem OwnB.grown {W W' : World} {Gp G : Nat} {f : Nat → Bool} {o : Obj} (h : OwnB W Gp f) (hg : (W.alloc o).grownBy W' (some G)) (hne : Gp ≠ G) : OwnB W' Gp f := by
  obtain ⟨cur, hc, hv⟩ := h
  exact ⟨cur, (hc.alloc o).grew hg (by simpa using fun e => hne e.symm), hv⟩
/-- Rows that were made since n0; they read on whatever becomes of what is older, and of block G. -/
structure JQ (n0 Gr cr G : Nat) (xs : List Value) (rs : List RowM) (W : World) : Prop where
  o : W.ownsRow n0 38 4 (.slice (some ⟨Gr, 0, none⟩) rs.length cr) rs.length xs
  r : RowsOk W (fun k => k < n0 ∨ k = G) xs rs
  ne : Gr ≠ G
theorem JQ.of {w W : World} {Gr cr G : Nat} {xs : List Value} {rs : List RowM} (j : JR w Gr cr xs rs W) (hG : G < w.heap.size) : JQ w.heap.size Gr cr G xs rs W :=
  ⟨j.o, j.r.map (fun _ _ f => f.mono (fun k hk => Or.inl (by omega))), by have := j.lt; omega⟩
theorem JQ.lt {n0 Gr cr G : Nat} {xs : List Value} {rs : List RowM} {W : World} (j : JQ n0 Gr cr G xs rs W) : n0 ≤ Gr ∧ Gr < W.heap.size := by
  rcases j.o.2 with ⟨h, _⟩ | ⟨g, cap', cur, h, hg, hh, _⟩
  · cases h
  · simp only [Value.slice.injEq, Option.some.injEq, Addr.mk.injEq, and_true, true_and] at h
    obtain ⟨rfl, _⟩ := h
    exact ⟨hg, lt_of_block hh⟩
theorem JQ.below {n0 Gr cr G : Nat} {xs : List Value} {rs : List RowM} {W W' : World} (j : JQ n0 Gr cr G xs rs W) (b : Below W.heap.size W W') : JQ n0 Gr cr G xs rs W' :=
  ⟨own_below j.o b, j.r.map (fun _ _ f => f.below b), j.ne⟩
theorem JQ.grown {n0 Gr cr G g : Nat} {xs : List Value} {rs : List RowM} {W W' : World} {o : Obj} (j : JQ n0 Gr cr G xs rs W) (hg : (W.alloc o).grownBy W' (some G)) (hat : g = G ∨ W.heap.size < g) : JQ n0 Gr cr g xs rs W' := by
  have A : Below W.heap.size W (W.alloc o) := (Below.refl _ _).alloc (Nat.le_refl _) _
  have ja := j.below A
  have T : Touch (fun y => y = G) (W.alloc o) W' := ⟨hg.os, hg.tape, hg.output, hg.size, fun z hz hn => hg.block z hz (fun e => hn (by simpa using e))⟩
  refine ⟨own_off ja.o (fun z hz hs => ?_) T, ja.r.map (fun _ _ f => f.grown hg (by rw [World.size_alloc]; omega)), ?_⟩
  · have hz' : some Gr = some z := hz
    simp only [Option.some.injEq] at hz'
    exact j.ne (by omega)
  · have := j.lt
    have := j.ne
    omega
theorem pots3_take {k : Nat} (h : k < 3) : pots3.take (k + 1) = pots3.take k ++ [([0, 0, 0] : List Int).set k 1] := by
  match k, h with
  | 0, _ => rfl
  | 1, _ => rfl
  | 2, _ => rfl
theorem partL_len3 {f : Frm} {M : Int} (h : fitX M f) : (partL f.1).length = 3 := by
  rw [part_len]; exact h.1

set_option maxHeartbeats 12800000 in
theorem sboth_any (ad : Option Addr) (N cap : Nat) (ss : List L2V) (w : World) (hN : ss.length = N) (hF : LSG w ad ss) (hok : ss.all L2V.ok = true) (hN4 : N ≤ 4) :
    Calls Try.prog 52 #[.slice ad N cap] w fun e w' => ∃ G cG ts nt Gp cp, e = .returned (.tuple #[.slice (some ⟨G, 0, none⟩) nt cG, .slice (some ⟨Gp, 0, none⟩) 3 cp]) ∧ ts.length = nt ∧ JP w G cG ts w' ∧ ts.map IV.x = catP ss ∧ nt ≤ 600000 ∧ OwnB w' Gp (pinsA ss) ∧ w.heap.size ≤ Gp := by
  have HN : Hid (ss.length = N) := hN
  have HOK : Hid (ss.all L2V.ok = true) := hok
  have HF : Hid (LSG w ad ss) := hF
  clear hN hok hF
  obtain ⟨i0, hi, hz0, hz1, hz2⟩ := info_parts Try.infoI
  have b0 : Below w.heap.size w ((w.alloc (.cells #[] 30)).alloc (.cells #[.bool false, .bool false, .bool false] 4)) := ((Below.refl _ _).alloc (Nat.le_refl _) _).alloc (by simp) _
  have j0 : JP w w.heap.size 0 [] ((w.alloc (.cells #[] 30)).alloc (.cells #[.bool false, .bool false, .bool false] 4)) := (JP.nil w w (Below.refl _ _)).below ((Below.refl _ _).alloc (Nat.le_refl _) _)
  have p0 : OwnB ((w.alloc (.cells #[] 30)).alloc (.cells #[.bool false, .bool false, .bool false] 4)) (w.heap.size + 1) (pinsA (ss.take 0)) := by
    refine ⟨[.bool false, .bool false, .bool false], ?_, fun v hv => ?_⟩
    · have := Cel.new (w.alloc (.cells #[] 30)) [.bool false, .bool false, .bool false] 4
      rw [World.size_alloc] at this; exact this
    · match v, hv with
      | 0, _ => simp [pinsA]
      | 1, _ => simp [pinsA]
      | 2, _ => simp [pinsA]
  go_enter Try.func52, Try.ntmps52
  go_wp2_with fail
  go_loopw [4, 6] (fun out v wr => ∃ (k G cG : Nat) (ts : List IV), k ≤ 3 ∧ v = .int .i64 k ∧ out = .slice (some ⟨G, 0, none⟩) k cG ∧ ts.length = k ∧ JP w G cG ts wr ∧ ts.map IV.x = pots3.take k ∧ OwnB wr (w.heap.size + 1) (pinsA (ss.take 0)) ∧ w.heap.size + 1 ≠ G) (fun _ v _ => 3 - (intOf v).toNat)
  case atStart => exact ⟨0, _, _, [], by omega, rfl, rfl, rfl, j0, rfl, p0, by omega⟩
  case round =>
    clear j0 p0 b0
    obtain ⟨k, G, cG, ts, hk, rfl, rfl, hl, jp, hx, p, pne⟩ := hrel
    have HL : Hid (ts.length = k) := hl
    have HX : Hid (ts.map IV.x = pots3.take k) := hx
    clear hl hx
    by_cases hlt : k < 3
    · have hlt' : (k : Int) < 3 := by omega
      have HP : Hid (potC (k : Int) = [0, 0, 0].set k 1) := potC_in _ k rfl (by omega)
      have lG := jp.lt
      go_wp2_with fail
      refine (spot_any _ _).mono ?_
      rintro e w1 ⟨a, n, ca, c, m, cc, B1, B2, rfl, hn, hm, b1, o1, o2, g1, g2, ne⟩
      have hn3 : n = 3 := by rw [← hn, HP.out]; simp
      subst hn3
      have I1 : Ints w1 a 3 (potC (k : Int)) := o1.ints' hn
      have Hne : Hid (∀ b o, a = some ⟨b, o, none⟩ → b ≠ G) := fun b o e => by
        rcases o1 with h | ⟨h, _⟩
        · rw [h] at hn; cases hn
        · rw [h] at e
          simp only [Option.some.injEq, Addr.mk.injEq, and_true] at e
          have := g1 (by omega)
          omega
      have jp1 := jp.below b1
      have p1 := p.below b1
      have jo := jp1.o
      rw [HL.out] at jo
      have js := jp1.b.size
      have hfl : ∀ W, (Instr.field 32 (formV a 3 ca c m cc 0) 0).run Try.prog W = .ok (.slice a 3 ca) W := fun W => field_C a 3 ca c m cc 0 W
      clear jp p b1 o1 o2 hn hm ne g1 g2
      go_wp2_with (at_builtin; go_must (refine wpList_append_lies _ rfl (.tmp 18) (.tmp 22) 42 rfl w.heap.size 30 i0 _ 1 24 Try.underlying42 hi hz0 hz1 hz2 rfl (by decide) _ _ _ rfl (jo.alloc _) ⟨w1.heap.size, 0, none⟩ 1 1 [.slice a 3 ca] rfl rfl (news1 w1 _ _) oneSl (by omega) (by unfold maxLen; omega) (by omega) (by rw [World.size_alloc]; omega) _ rfl ?_); intro g cp2 w2 hown hgrow hat hlt1)
      have hat' : g = G ∨ w1.heap.size ≤ g := by
        rcases hat with h | h
        · have h' : some G = some g := h
          simp only [Option.some.injEq] at h'
          exact Or.inl h'.symm
        · rw [World.size_alloc] at h
          exact Or.inr (by omega)
      have jp2 := jp1.app (s := ⟨a, 3, ca, potC (k : Int)⟩) HL.out rfl I1 Hne.out hown hgrow hat'
      have lp1 := p1.lt
      have p2 := p1.grown hgrow pne
      have pne2 : w.heap.size + 1 ≠ g := by omega
      have HX2 : Hid ((ts ++ [(⟨a, 3, ca, potC (k : Int)⟩ : IV)]).map IV.x = pots3.take (k + 1)) := by
        show _ = _
        rw [List.map_append, HX.out, pots3_take hlt, ← HP.out]; rfl
      have HL2 : Hid ((ts ++ [(⟨a, 3, ca, potC (k : Int)⟩ : IV)]).length = k + 1) := by show _ = _; rw [List.length_append, HL.out]; rfl
      clear hown hgrow hat jo jp1 p1 I1 Hne
      go_wp2
      go_roundw
      case rel => exact ⟨k + 1, g, cp2, _, by omega, by go_num, rfl, HL2.out, jp2, HX2.out, p2, pne2⟩
      case measure => simp [intOf]; omega
    · obtain rfl : k = 3 := by omega
      have HX3 : Hid (ts.map IV.x = actsP pots3 (ss.take 0)) := HX.out
      have hb3 := jp.b
      clear HX
      go_wp2_with fail
      go_loopw [4, 5, 7, 8, 9, 10, 11] (fun out pins i _ _ _ _ wr => ∃ (ia G cG nt Gp cp : Nat) (ts : List IV), ia ≤ N ∧ i = .int .i64 ia ∧ out = .slice (some ⟨G, 0, none⟩) nt cG ∧ pins = .slice (some ⟨Gp, 0, none⟩) 3 cp ∧ ts.length = nt ∧ nt ≤ 3 + 128000 * ia ∧ JP w G cG ts wr ∧ ts.map IV.x = actsP pots3 (ss.take ia) ∧ OwnB wr Gp (pinsA (ss.take ia)) ∧ w.heap.size ≤ Gp ∧ Gp ≠ G) (fun _ _ i _ _ _ _ _ => N - (intOf i).toNat)
      case atStart => exact ⟨0, G, cG, 3, w.heap.size + 1, 3, ts, by omega, rfl, rfl, rfl, HL.out, by omega, jp, HX3.out, p, by omega, pne⟩
      case round =>
        clear jp p pne HX3 HL hb3 hlt hk
        obtain ⟨ia, G, cG, nt, Gp, cp, ts, hia, rfl, rfl, rfl, hl, hnt, jp, hx, p, lGp, pne⟩ := hrel
        have HL : Hid (ts.length = nt) := hl
        have HX : Hid (ts.map IV.x = actsP pots3 (ss.take ia)) := hx
        clear hl hx
        by_cases hlt : ia < N
        · have hlt' : (ia : Int) < N := by omega
          have his : ia < ss.length := by rw [HN.out]; exact hlt
          obtain ⟨ab, ao, rfl, hc, hLG⟩ := (HF.out.below jp.b) ia his
          have HSA : Hid (∀ ps, ps = actsP pots3 (ss.take ia) → rowsP ps (rowsL (ss[ia]?.getD noL).x) = actsP pots3 (ss.take (ia + 1))) := fun ps h => by rw [h, actsP_snoc _ _ _ his]
          have HSB : Hid (∀ v, pinsA (ss.take (ia + 1)) v = (pinsA (ss.take ia) v || readsR (rowsL (ss[ia]?.getD noL).x) v)) := fun v => pinsA_snoc ss ia his v
          have hsok : (ss[ia]?.getD noL).ok = true := by
            rw [List.getElem?_eq_getElem his]
            exact List.all_eq_true.1 HOK.out _ (List.getElem_mem his)
          obtain ⟨s, hs⟩ : ∃ s, s = ss[ia]?.getD noL := ⟨_, rfl⟩
          rw [← hs] at hc hLG HSA HSB hsok
          obtain ⟨sa, sn, sc, sx⟩ := s
          have hAct : actB sn sx = true := hsok
          obtain ⟨hxl, hLin, hsn⟩ := hLG
          have hc' : wr.cell? ⟨ab, ao + ia, none⟩ = some (.slice sa sn sc) := hc
          have HXL : Hid (sx.length = sn) := hxl
          have HLIN : Hid (LinesG wr sa sx) := hLin
          have lG := jp.lt
          clear hs hc hsok hxl hLin
          have HAC : Hid (actB sn sx = true) := hAct
          clear hAct
          go_wp2_with fail
          refine (srows_any _ _ _ sx _ HXL.out HLIN.out hsn).mono ?_
          rw [show rowsB sn sx = rowsL sx from by rw [rowsB, HAC.out]; rfl]
          rintro ee w3 ⟨Gr, cr, xs, rfl, j3⟩
          have HFIT : Hid (∀ r ∈ rowsL sx, RowFit r) := rowsL_fit (by rw [HXL.out]; exact (actB_parts HAC.out).1) (actB_parts HAC.out).2 HLIN.out
          have jq3 : JQ wr.heap.size Gr cr G xs (rowsL sx) w3 := JQ.of j3 lG.2
          have p3 := p.below j3.b
          have jp3 := jp.below j3.b
          obtain ⟨R, hR⟩ : ∃ R, R = rowsL sx := ⟨_, rfl⟩
          have HSA' : Hid (∀ ps, ps = actsP pots3 (ss.take ia) → rowsP ps R = actsP pots3 (ss.take (ia + 1))) := fun ps h => by rw [hR]; exact HSA.out ps h
          have HSB' : Hid (∀ v, pinsA (ss.take (ia + 1)) v = (pinsA (ss.take ia) v || readsR R v)) := fun v => by rw [hR]; exact HSB.out v
          have q1 : R.length ≤ 128 := by rw [hR]; exact goW_128 (by omega)
          rw [← hR] at jq3 HFIT ⊢
          obtain ⟨n0, hn0⟩ : ∃ n0, n0 = wr.heap.size := ⟨_, rfl⟩
          rw [← hn0] at jq3
          obtain ⟨PS, hPS⟩ : ∃ PS, PS = actsP pots3 (ss.take ia) := ⟨_, rfl⟩
          obtain ⟨PB, hPB⟩ : ∃ PB, PB = pinsA (ss.take ia) := ⟨_, rfl⟩
          obtain ⟨pinK, hpin⟩ : ∃ pinK : Nat → Nat → Bool, pinK = fun k v => PB v || readsR (R.take k) v := ⟨_, rfl⟩
          have HPK : Hid (pinK = fun k v => PB v || readsR (R.take k) v) := hpin
          have p4 : OwnB w3 Gp (pinK 0) := p3.ext (fun v _ => by rw [hpin, hPB]; simp [readsR])
          have HX0 : Hid (ts.map IV.x = rowsP PS (R.take 0)) := by show _ = _; rw [HX.out, hPS]; rfl
          have HSA2 : Hid (rowsP PS R = actsP pots3 (ss.take (ia + 1))) := HSA'.out PS hPS
          have HSB2 : Hid (∀ v, pinsA (ss.take (ia + 1)) v = pinK R.length v) := fun v => by rw [HSB'.out v, hpin, hPB]; dsimp only; rw [List.take_of_length_le (Nat.le_refl _)]
          clear j3 hR HSA HSB HSA' HSB' hn0 hPS hPB hpin p p3 jp HX HLIN HXL HAC hc'
          go_wp2_with fail
          go_loopw [4, 5, 9, 10, 11] (fun out pins i _ _ wr => ∃ (k G cG nt Gp cp : Nat) (ts : List IV), k ≤ R.length ∧ i = .int .i64 k ∧ out = .slice (some ⟨G, 0, none⟩) nt cG ∧ pins = .slice (some ⟨Gp, 0, none⟩) 3 cp ∧ ts.length = nt ∧ nt ≤ 3 + 128000 * ia + 1000 * k ∧ JP w G cG ts wr ∧ ts.map IV.x = rowsP PS (R.take k) ∧ OwnB wr Gp (pinK k) ∧ w.heap.size ≤ Gp ∧ Gp ≠ G ∧ JQ n0 Gr cr G xs R wr) (fun _ _ i _ _ _ => R.length - (intOf i).toNat)
          case atStart => exact ⟨0, G, cG, nt, Gp, cp, ts, by omega, rfl, rfl, rfl, HL.out, by omega, jp3, HX0.out, p4, lGp, pne, jq3⟩
          case round =>
            clear jp3 p4 pne HX0 HL jq3 hnt lGp lG
            obtain ⟨k, Go, cGo, nt, G, cG, ts, hk, rfl, rfl, rfl, hl, hnt, jp, hx, o, lGp, pne, j⟩ := hrel
            have HL : Hid (ts.length = nt) := hl
            have HX : Hid (ts.map IV.x = rowsP PS (R.take k)) := hx
            have hb := jp.b
            clear hl hx
            by_cases hlt3 : k < R.length
            · have hlt3' : (k : Int) < R.length := by omega
              obtain ⟨ga, gc, aa, ac, ta, tc, x0, x1, x2, x3, f0, f1, f2⟩ := j.r k hlt3
              have HSP : Hid (∀ v, pinK (k + 1) v = readsF (readsF (pinK k) (R[k]?.getD noR).adds) (R[k]?.getD noR).tells v) := fun v => by
                rw [HPK.out]
                show (PB v || readsR (R.take (k + 1)) v) = _
                rw [readsR_snoc R k hlt3 v]
                simp [readsF, Bool.or_assoc]
              have HSG : Hid (∀ ps, ps = rowsP PS (R.take k) → guardsP ps (R[k]?.getD noR).guards = rowsP PS (R.take (k + 1))) := fun ps h => by rw [h, rowsP_snoc _ _ _ hlt3]
              have hfit : RowFit (R[k]?.getD noR) := HFIT.out _ (by rw [List.getElem?_eq_getElem hlt3]; exact List.getElem_mem hlt3)
              have HRK : Hid (∀ W, JQ n0 Gr cr Go xs R W → True) := fun _ _ => trivial
              obtain ⟨q, hq⟩ : ∃ q, q = R[k]?.getD noR := ⟨_, rfl⟩
              have HQ : Hid (q = R[k]?.getD noR) := hq
              rw [← hq] at x0 x1 x2 x3 f0 f1 f2 HSP HSG hfit
              have HA : Hid _ := hfit.a
              have HTt : Hid _ := hfit.t
              have HGf : Hid _ := hfit.g
              have la := hfit.la
              have lt := hfit.lt
              have lgq := hfit.lg
              have sl := j.o.1
              have n1 := (own_cell j.o (k * 4 + 1) (by omega)).trans x1
              have n2 := (own_cell j.o (k * 4 + 2) (by omega)).trans x2
              have lGr := j.lt
              have FA := f1.at
              have FT := f2.at
              have KP : Hid (∀ W, Below wr.heap.size wr W → (W.cell? ⟨Gr, k * 4 + 1, none⟩ = some (.slice aa q.adds.length ac) ∧ W.cell? ⟨Gr, k * 4 + 2, none⟩ = some (.slice ta q.tells.length tc))) := fun W hW => ⟨(hW.cell (p := ⟨Gr, k * 4 + 1, none⟩) lGr.2).trans n1, (hW.cell (p := ⟨Gr, k * 4 + 2, none⟩) lGr.2).trans n2⟩
              have e0 : Below wr.heap.size wr wr.drew := (Below.refl _ _).drew
              have hSS := And.intro (KP.out _ e0) (True.intro)
              have lGo := jp.lt
              clear hfit x0 x1 x2 x3 f0 f1 f2 hq
              go_upto_region 14 with fail
              refine wp_region_ends (fun w' => w'.cell? ⟨Gr, k * 4 + 1, none⟩ = some (.slice aa q.adds.length ac) ∧ w'.cell? ⟨Gr, k * 4 + 2, none⟩ = some (.slice ta q.tells.length tc)) (fun _ => True) 13 (by kernel_rfl) ?_
              refine wpAnyE_take0 (i := 0) (v := ?v0) rfl (by kernel_rfl) (by kernel_rfl) (by kernel_rfl) (by decide) (fun _ _ _ h => h) (Or.inl ⟨by rfl, ?hy0⟩) hSS ?_
              case hy0 => (intro wz hSw; (try dsimp only at hSw); go_simp; try (with_reducible rfl))
              refine wpAnyE_take0 (i := 1) (v := ?v1) rfl (by kernel_rfl) (by kernel_rfl) (by kernel_rfl) (by decide) (fun _ _ _ h => h) (Or.inl ⟨by rfl, ?hy1⟩) hSS ?_
              case hy1 => (intro wz hSw; (try dsimp only at hSw); go_simp; try (with_reducible rfl))
              refine wpAnyE_take0 (i := 2) (v := ?v2) rfl (by kernel_rfl) (by kernel_rfl) (by kernel_rfl) (by decide) (fun _ _ _ h => h) (Or.inl ⟨by rfl, ?hy2⟩) hSS ?_
              case hy2 => (intro wz hSw; (try dsimp only at hSw); go_simp; try (with_reducible rfl))
              refine wpAnyE_take0 (i := 3) (v := ?v3) rfl (by kernel_rfl) (by kernel_rfl) (by kernel_rfl) (by decide) (fun _ _ _ h => h) (Or.inl ⟨by rfl, ?hy3⟩) hSS ?_
              case hy3 => (intro wz hSw; (try dsimp only at hSw); go_simp; try (with_reducible rfl))
              refine wpAnyE_take0 (i := 4) (v := ?v4) rfl (by kernel_rfl) (by kernel_rfl) (by kernel_rfl) (by decide) (fun _ _ _ h => h) (Or.inl ⟨by rfl, ?hy4⟩) hSS ?_
              case hy4 => (intro wz hSw; (try dsimp only at hSw); go_simp; try (with_reducible rfl))
              refine wpAnyE_take0 (i := 5) (v := ?v5) rfl (by kernel_rfl) (by kernel_rfl) (by kernel_rfl) (by decide) (fun _ _ _ h => h) (Or.inl ⟨by rfl, ?hy5⟩) hSS ?_
              case hy5 => (intro wz hSw; (try dsimp only at hSw); go_simp; try (with_reducible rfl))
              refine wpAnyE_take0 (i := 7) (v := ?v7) rfl (by kernel_rfl) (by kernel_rfl) (by kernel_rfl) (by decide) (fun _ _ _ h => h) (Or.inl ⟨by rfl, ?hy7⟩) hSS ?_
              case hy7 => (intro wz hSw; (try dsimp only at hSw); go_simp; try (with_reducible rfl))
              refine wpAnyE_take0 (i := 8) (v := ?v8) rfl (by kernel_rfl) (by kernel_rfl) (by kernel_rfl) (by decide) (fun _ _ _ h => h) (Or.inl ⟨by rfl, ?hy8⟩) hSS ?_
              case hy8 => (intro wz hSw; (try dsimp only at hSw); go_simp; try (with_reducible rfl))
              refine wpAnyE_take0 (i := 9) (v := ?v9) rfl (by kernel_rfl) (by kernel_rfl) (by kernel_rfl) (by decide) (fun _ _ _ h => h) (Or.inl ⟨by rfl, ?hy9⟩) hSS ?_
              case hy9 => (intro wz hSw; (try dsimp only at hSw); go_simp; try (with_reducible rfl))
              refine wpAnyE_take0 (i := 10) (v := ?v10) rfl (by kernel_rfl) (by kernel_rfl) (by kernel_rfl) (by decide) (fun _ _ _ h => h) (Or.inl ⟨by rfl, ?hy10⟩) hSS ?_
              case hy10 => (intro wz hSw; (try dsimp only at hSw); go_simp; try (with_reducible rfl))
              refine wpAnyE_take0 (i := 11) (v := ?v11) rfl (by kernel_rfl) (by kernel_rfl) (by kernel_rfl) (by decide) (fun _ _ _ h => h) (Or.inl ⟨by rfl, ?hy11⟩) hSS ?_
              case hy11 => (intro wz hSw; (try dsimp only at hSw); go_simp; try (with_reducible rfl))
              clear hSS
              refine wpAnyE_one (i := 6) (by kernel_rfl) rfl (fun K hK => ?_)
              go_simp
              refine (sreads_any _ _ _ _ _ _ q.adds _ (o.bools.below e0) rfl (FA.keep e0) HA.out (by omega)).mono ?_
              rintro ee w4 ⟨G4, c4, rfl, bd4, l4, o4⟩
              have b4 := below_of_drew bd4
              have l4x : wr.heap.size ≤ G4 := l4
              clear bd4 l4
              (try dsimp only)
              refine hK.out _ _ ⟨KP.out _ b4, fun _ => trivial⟩ ?_
              clear hK K
              refine wpAnyE_one (i := 12) (by kernel_rfl) rfl (fun K hK => ?_)
              go_simp
              refine (sreads_any _ _ _ _ _ _ q.tells _ o4.bools rfl (FT.keep b4) HTt.out (by omega)).mono ?_
              rintro ee w5 ⟨G5, c5, rfl, bd5, l5, o5⟩
              have b5 := b4.trans (bd5.mono b4.size)
              have s4 := b4.size
              have sb := hb.size
              have O5 : Hid (OwnB w5 G5 (pinK (k + 1))) := o5.ext (fun v _ => (HSP.out v).symm)
              have J5 := j.below b5
              have P5 := jp.below b5
              have B5 := hb.trans (b5.mono hb.size)
              clear bd5 o4 o5 o j jp
              (try dsimp only)
              refine hK.out _ _ ⟨KP.out _ b5, fun _ => trivial⟩ ?_
              clear hK K
              refine wpAnyE_one (i := 13) (by kernel_rfl) rfl (fun K hK => ?_)
              go_simp
              refine hK.out _ _ ⟨KP.out _ b5, fun _ => trivial⟩ ?_
              clear hK K
              refine wpAnyE_done (by kernel_rfl) ?_ _
              clear KP b4 b5 FA FT n1 n2
              have pne5 : G5 ≠ Go := by omega
              have lG5 : w.heap.size ≤ G5 := by omega
              obtain ⟨PG, hPG⟩ : ∃ PG, PG = rowsP PS (R.take k) := ⟨_, rfl⟩
              have HSG2 : Hid (guardsP PG q.guards = rowsP PS (R.take (k + 1))) := HSG.out PG hPG
              have HXG : Hid (ts.map IV.x = guardsP PG (q.guards.take 0)) := by show _ = _; rw [HX.out, hPG]; rfl
              obtain ⟨NG, hNG⟩ : ∃ NG, NG = q.guards.length := ⟨_, rfl⟩
              have HNG : Hid (NG = q.guards.length) := hNG
              rw [← hNG] at lgq
              clear hPG HSG HX HSP hNG hb lGp pne sl lGr lGo e0
              go_wp2_with fail
              go_loopw [4, 10, 11] (fun out i _ wr => ∃ (g G cG nt : Nat) (ts : List IV), g ≤ NG ∧ i = .int .i64 g ∧ out = .slice (some ⟨G, 0, none⟩) nt cG ∧ ts.length = nt ∧ nt ≤ 3 + 128000 * ia + 1000 * k + g ∧ JP w G cG ts wr ∧ ts.map IV.x = guardsP PG (q.guards.take g) ∧ OwnB wr G5 (pinK (k + 1)) ∧ G5 ≠ G ∧ JQ n0 Gr cr G xs R wr) (fun _ i _ _ => NG - (intOf i).toNat)
              case atStart => exact ⟨0, Go, cGo, nt, ts, by omega, rfl, rfl, HL.out, by omega, P5, HXG.out, O5.out, pne5, J5⟩
              case round =>
                clear O5 P5 J5 HXG HL pne5 hnt B5 l5 s4 sb
                obtain ⟨g, G, cG, nt, ts, hg, rfl, rfl, hl, hnt, jp, hx, o, pne, j⟩ := hrel
                have HL : Hid (ts.length = nt) := hl
                have HX : Hid (ts.map IV.x = guardsP PG (q.guards.take g)) := hx
                clear hl hx
                obtain ⟨ga, gc, aa, ac, ta, tc, x0, x1, x2, x3, f0, f1, f2⟩ := j.r k hlt3
                rw [← HQ.out] at x0 f0
                have sl := j.o.1
                have n0' := (own_cell j.o (k * 4) (by omega)).trans x0
                rw [← HNG.out] at n0'
                have lGr := j.lt
                have lG := jp.lt
                by_cases hlt4 : g < NG
                · have hlt4' : (g : Int) < NG := by omega
                  have hgl : g < q.guards.length := by rw [← HNG.out]; exact hlt4
                  have HSX : Hid (guardsP PG (q.guards.take (g + 1)) = addPb (guardsP PG (q.guards.take g)) (partL (q.guards[g]?.getD ([], [], 0)).1)) := guardsP_snoc PG q.guards g hgl
                  have hl3 : (partL (q.guards[g]?.getD ([], [], 0)).1).length = 3 := partL_len3 (HGf.out g hgl)
                  obtain ⟨fb, fo, rfl, a', c', ca, cc, c0, c1, c2, iC, iD⟩ := f0.at g hgl
                  generalize (q.guards[g]?.getD ([], [], 0)).1 = C at *
                  generalize (q.guards[g]?.getD ([], [], 0)).2.2 = kz at *
                  have HPL : Hid ((partL C).length = 3) := hl3
                  clear f0 f1 f2 x0 x1 x2 x3 iD hl3
                  go_wp2_with fail
                  refine (spart_new _ 3 _ _ 2 _ _ C _ iC (by omega)).mono ?_
                  rintro ee w6 ⟨pa, pc, rfl, b6, i6, l6⟩
                  have jp6 := jp.below b6
                  have o6 := o.below b6
                  have j6 := j.below b6
                  have HL6 : Hid (∀ b o, pa = some ⟨b, o, none⟩ → b ≠ G) := fun b o e => by have := (l6 b o e).1; omega
                  clear jp o j b6 iC c0 c1 c2 n0' l6 lG lGr
                  go_wp2_with fail
                  refine (shas_any _ nt cG ts _ 3 _ (partL C) _ HL.out jp6.g (by omega) i6 (by omega)).mono ?_
                  rintro ee w7 ⟨rfl, b7⟩
                  have jp7 := jp6.below b7
                  have o7 := o6.below b7
                  have j7 := j6.below b7
                  have i7 := i6.below b7
                  obtain ⟨hv, hhv⟩ : ∃ hv, hv = hasI ts (partL C) := ⟨_, rfl⟩
                  have HV : Hid (hv = hasFrom (partL C) 0 (guardsP PG (q.guards.take g))) := by show _ = _; rw [hhv, hasI, HX.out]
                  rw [← hhv]
                  clear jp6 o6 j6 i6 b7 hhv
                  by_cases hneg : hv < 0
                  · go_wp2_with fail
                    refine (szero_any _).mono ?_
                    rintro ee w8 ⟨B1, B2, rfl, b8, y1, y12, y2, k1, k2⟩
                    have hfl : ∀ W, (Instr.field 32 (formV (some ⟨B1, 0, none⟩) 3 3 (some ⟨B2, 0, none⟩) 2 2 0) 0).run Try.prog W = .ok (.slice (some ⟨B1, 0, none⟩) 3 3) W := fun W => field_C _ _ _ _ _ _ _ W
                    have jp8 := jp7.below b8
                    have o8 := o7.below b8
                    have j8 := j7.below b8
                    have i8 := i7.below b8
                    clear jp7 o7 j7 i7 b8 y1 y12 y2 k2
                    go_wp2_with fail
                    refine (l4same_any _ _ 3 3 _ _ (partL C) [0, 0, 0] _ i8 (k1.ints' rfl) (by omega) (by omega)).mono ?_
                    rintro ee w9 ⟨rfl, b9⟩
                    have jp9 := jp8.below b9
                    have o9 := o8.below b9
                    have j9 := j8.below b9
                    have i9 := i8.below b9
                    clear jp8 o8 j8 i8 b9 k1 hfl
                    cases hz : eqB (partL C) [0, 0, 0]
                    · have HNZ : Hid (partL C ≠ [0, 0, 0]) := fun e => by rw [e] at hz; simp [eqB] at hz
                      have jo := jp9.o
                      rw [HL.out] at jo
                      have js := jp9.b.size
                      have lo9 := o9.lt
                      clear hz
                      go_wp2_with (at_builtin; go_must (refine wpList_append_lies _ rfl (.tmp 84) (.tmp 86) 42 rfl w.heap.size 30 i0 _ 1 24 Try.underlying42 hi hz0 hz1 hz2 rfl (by decide) _ _ _ rfl (jo.alloc _) ⟨w9.heap.size, 0, none⟩ 1 1 [.slice pa 3 pc] rfl rfl (news1 w9 _ _) oneSl (by omega) (by unfold maxLen; omega) (by omega) (by rw [World.size_alloc]; omega) _ rfl ?_); intro gg cp2 w10 hown hgrow hat hlt1)
                      have hat' : gg = G ∨ w9.heap.size < gg := by
                        rcases hat with h | h
                        · have h' : some G = some gg := h
                          simp only [Option.some.injEq] at h'
                          exact Or.inl h'.symm
                        · rw [World.size_alloc] at h
                          exact Or.inr (by omega)
                      have jp10 := jp9.app (s := ⟨pa, 3, pc, partL C⟩) HL.out rfl i9 HL6.out hown hgrow (by omega)
                      have o10 := o9.grown hgrow pne
                      have j10 := j9.grown hgrow hat'
                      have HXa : Hid ((ts ++ [(⟨pa, 3, pc, partL C⟩ : IV)]).map IV.x = guardsP PG (q.guards.take (g + 1))) := by
                        show _ = _
                        rw [List.map_append, HX.out, HSX.out, addP_new (by rw [← HV.out]; exact hneg) HNZ.out]; rfl
                      have HLa : Hid ((ts ++ [(⟨pa, 3, pc, partL C⟩ : IV)]).length = nt + 1) := by show _ = _; rw [List.length_append, HL.out]; rfl
                      have pne10 : G5 ≠ gg := by omega
                      clear hown hgrow hat jo jp9 o9 j9 i9 HL6 HNZ
                      go_wp2
                      go_roundw
                      case rel => exact ⟨g + 1, gg, cp2, nt + 1, _, by omega, by go_num, rfl, HLa.out, by omega, jp10, HXa.out, o10, pne10, j10⟩
                      case measure => simp [intOf]; omega
                    · have HXa : Hid (ts.map IV.x = guardsP PG (q.guards.take (g + 1))) := by
                        show _ = _
                        rw [HX.out, HSX.out, addP_zero (by simpa [eqB] using hz)]
                      clear hz HX
                      go_wp2
                      go_roundw
                      case rel => exact ⟨g + 1, G, cG, nt, ts, by omega, by go_num, rfl, HL.out, by omega, jp9, HXa.out, o9, pne, j9⟩
                      case measure => simp [intOf]; omega
                  · have HXa : Hid (ts.map IV.x = guardsP PG (q.guards.take (g + 1))) := by
                      show _ = _
                      rw [HX.out, HSX.out, addP_has (by rw [← HV.out]; exact hneg)]
                    clear HX
                    go_wp2
                    go_roundw
                    case rel => exact ⟨g + 1, G, cG, nt, ts, by omega, by go_num, rfl, HL.out, by omega, jp7, HXa.out, o7, pne, j7⟩
                    case measure => simp [intOf]; omega
                · obtain rfl : g = NG := by omega
                  have HXe : Hid (ts.map IV.x = rowsP PS (R.take (k + 1))) := by
                    show _ = _
                    rw [HX.out, List.take_of_length_le (by rw [← HNG.out]; exact Nat.le_refl _), HSG2.out]
                  clear f0 f1 f2 x0 x1 x2 x3 HX
                  go_wp2
                  go_roundw
                  case rel => exact ⟨k + 1, G, cG, nt, G5, c5, ts, by omega, by go_num, rfl, rfl, HL.out, by omega, jp, HXe.out, o, lG5, pne, j⟩
                  case measure => simp [intOf]; omega
            · obtain rfl : k = R.length := by omega
              have HXe : Hid (ts.map IV.x = actsP pots3 (ss.take (ia + 1))) := by
                show _ = _
                rw [HX.out, List.take_of_length_le (Nat.le_refl _), HSA2.out]
              have oe : OwnB wr G (pinsA (ss.take (ia + 1))) := o.ext (fun v _ => (HSB2.out v).symm)
              clear o HX
              go_wp2
              go_roundw
              case rel =>
                refine ⟨_, _, _, _, _, _, _, _, _, _, _, _, _, _, _, _, _, _, _, _, _, _, _, _, _, _, _, _, _, _, _, _, _, _, _, _, _, _, _, _, _, _, _, _, _, _, _, _, _, _, _, _, _, _, _, _, _, _, _, _, _, _, _, _, _, _, _, _, _, _, _, ?_, rfl⟩
                exact ⟨ia + 1, Go, cGo, nt, G, cG, ts, by omega, by go_num, rfl, rfl, HL.out, by omega, jp, HXe.out, oe, lGp, pne⟩
              case measure => simp [intOf]; omega
        · obtain rfl : ia = N := by omega
          have hall : ss.take ia = ss := List.take_of_length_le (by rw [HN.out]; exact Nat.le_refl _)
          have HXe : Hid (ts.map IV.x = catP ss) := by show _ = _; rw [HX.out, hall]; rfl
          have oe : OwnB wr Gp (pinsA ss) := by rw [hall] at p; exact p
          clear hall p HX
          go_wp2
          go_ret2
          exact ⟨G, cG, ts, nt, Gp, cp, rfl, HL.out, jp, HXe.out, by omega, oe, lGp⟩

end Go.Proofs.Ytngfbcegcekbbaa
namespace Go.Proofs.Ytngfbcegcekbbaa
open Go.RowKit Go.Deep
set_option linter.unusedVariables false
set_option maxRecDepth 100000

/-- Bools that can be read. -/
def BA (W : World) (a : Option Addr) (n : Nat) (f : Nat → Bool) : Prop := ∀ j, j < n → ∃ b off, a = some ⟨b, off, none⟩ ∧ W.cell? ⟨b, off + j, none⟩ = some (.bool (f j))
theorem BA.none {W : World} {a : Option Addr} {f : Nat → Bool} : BA W a 0 f := fun j hj => by omega
theorem Bools.ba {W : World} {a : Option Addr} {f : Nat → Bool} (h : Bools W a f) : BA W a 3 f := fun j hj => by
  obtain ⟨b, off, e, hc⟩ := h
  exact ⟨b, off, e, hc j hj⟩
theorem OwnBB.ba {W : World} {G : Nat} {f : Nat → Bool} (h : OwnBB W G f) : BA W (some ⟨G, 0, Option.none⟩) 3 f := fun j hj => ⟨G, 0, rfl, by rw [Nat.zero_add]; exact (h.at hj).1⟩
theorem BA.below {W W' : World} {a : Option Addr} {n : Nat} {f : Nat → Bool} (h : BA W a n f) (b : Below W.heap.size W W') : BA W' a n f := fun j hj => by
  obtain ⟨b0, off, e, hc⟩ := h j hj
  exact ⟨b0, off, e, (b.cell (p := ⟨b0, off + j, Option.none⟩) (block_lt hc)).trans hc⟩
def rampB (j : Nat) : Bool := (1 + j) % 3 == 0

end Go.Proofs.Ytngfbcegcekbbaa
namespace Go.Proofs.Ytngfbcegcekbbaa
open Go.RowKit Go.Deep
set_option linter.unusedVariables false
set_option maxRecDepth 100000

theorem catB_parts {N : Nat} {ss : List L2V} (h : catB N ss = true) : N ≤ 4 ∧ ss.all L2V.ok = true := by
  simp only [catB, Bool.and_eq_true] at h
  have := inB_iff.1 h.1
  exact ⟨by omega, h.2⟩

set_option maxHeartbeats 1600000 in
theorem scatpins_any (ad : Option Addr) (N cap : Nat) (ss : List L2V) (w : World) (hN : ss.length = N) (hF : LSG w ad ss) (hN1 : N ≤ 1048576) :
    Calls Try.prog 28 #[.slice ad N cap] w fun e w' => Below w.heap.size w w' ∧ ((catB N ss = false ∧ ∃ G, e = .returned (.slice (some ⟨G, 0, none⟩) 0 0)) ∨ (catB N ss = true ∧ ∃ G cG, e = .returned (.slice (some ⟨G, 0, none⟩) 3 cG) ∧ w.heap.size ≤ G ∧ OwnB w' G (pinsA ss))) := by
  have HN : Hid (ss.length = N) := hN
  clear hN
  obtain ⟨u, hu⟩ : ∃ u, catB N ss = u := ⟨_, rfl⟩
  have HU : Hid (catB N ss = u) := hu
  go_enter Try.func28, Try.ntmps28
  go_wp2_with fail
  refine (scat_any _ _ _ ss _ HN.out hF hN1).mono ?_
  rintro e w1 ⟨rfl, b1⟩
  rw [hu]
  clear hu
  cases u with
  | false =>
    have B2 := b1.alloc b1.size (.cells #[] 4)
    go_wp2
    go_ret
    exact ⟨B2, .inl ⟨HU.out, _, rfl⟩⟩
  | true =>
    go_wp2_with fail
    refine (sboth_any _ _ _ ss _ HN.out (hF.below b1) (catB_parts HU.out).2 (catB_parts HU.out).1).mono ?_
    rintro e w2 ⟨G, cG, ts, nt, Gp, cp, rfl, hl, jp, hx, hnt, o, lGp⟩
    have B2 := b1.trans (jp.b.mono b1.size)
    have lG : w.heap.size ≤ Gp := Nat.le_trans b1.size lGp
    clear jp hx hl
    go_wp2
    go_ret
    exact ⟨B2, .inr ⟨HU.out, Gp, cp, rfl, lG, o⟩⟩

set_option maxHeartbeats 3200000 in
theorem icatpins_any (ad : Option Addr) (N cap : Nat) (ss : List L2V) (w : World) (hN : ss.length = N) (hF : LSG w ad ss) (hN1 : N ≤ 1048576) :
    Calls Try.prog 26 #[.slice ad N cap] w fun e w' => Below w.heap.size w w' ∧ ((catB N ss = false ∧ e = .returned (.slice none 0 0)) ∨ (catB N ss = true ∧ ∃ G cG, e = .returned (.slice (some ⟨G, 0, none⟩) 3 cG) ∧ w.heap.size ≤ G ∧ OwnBB w' G (pinsA ss))) := by
  have HN : Hid (ss.length = N) := hN
  have HF : Hid (LSG w ad ss) := hF
  clear hN
  obtain ⟨u, hu⟩ : ∃ u, catB N ss = u := ⟨_, rfl⟩
  have HU : Hid (catB N ss = u) := hu
  go_enter Try.func26, Try.ntmps26
  go_wp2_with fail
  refine (icat_any _ _ _ ss _ HN.out hF hN1).mono ?_
  rintro e w1 ⟨rfl, b1⟩
  rw [hu]
  clear hu hF
  cases u with
  | false =>
    go_wp2
    go_ret
    exact ⟨b1, .inl ⟨HU.out, rfl⟩⟩
  | true =>
    obtain ⟨i0, hi, hz0, hz1, hz2⟩ := info_parts Try.infoBool
    obtain ⟨w2, hrun, o2, g2⟩ := run_make_full (P := Try.prog) (w := w1) w1.heap.size 50 4 i0 (.bool false) 1 Try.underlying50 hi hz0 hz1 .i64 .i64 3 (by rw [hz2]; omega) (by unfold maxLen; omega) (Nat.le_refl _)
    have hrun' : (Instr.makeSlice 50 (.int .i64 3) (.int .i64 3)).run Try.prog w1 = .ok (.slice (some ⟨w1.heap.size, 0, none⟩) 3 3) w2 := hrun
    have b2 : Below w1.heap.size w1 w2 := (Below.refl _ _).grown g2 (Nat.le_refl _) (by simp)
    have O2 : OwnBB w2 w1.heap.size (pinsA (ss.take 0)) := by
      rcases o2.2 with ⟨e, _⟩ | ⟨g, cp, cur, hv, hg, hh, hl, hc, hs, ht⟩
      · cases e
      · cases hv
        have hl3 : cur.toList.length = 3 := by rw [Array.length_toList]; omega
        rw [List.take_of_length_le (by omega)] at ht
        have : cur = #[.bool false, .bool false, .bool false] := by
          apply Array.toList_inj.1
          rw [ht]; simpa [Value.cells] using toList_madeCells_one (.bool false) 3
        rw [this] at hh
        exact hh
    have B2 := b1.trans (b2.mono b1.size)
    have lG0 := b1.size
    have N4 := (catB_parts HU.out).1
    have HALL : Hid (ss.all L2V.ok = true) := (catB_parts HU.out).2
    obtain ⟨G, hG⟩ : ∃ G, G = w1.heap.size := ⟨_, rfl⟩
    rw [← hG] at O2 lG0 hrun'
    clear hrun o2 g2 b1 b2 hG
    go_wp2_with fail
    go_loopw [5, 6, 7, 14] (fun _ _ _ i wr => ∃ k : Nat, k ≤ N ∧ i = .int .i64 k ∧ Below w.heap.size w wr ∧ OwnBB wr G (pinsA (ss.take k))) (fun _ _ _ i _ => N - (intOf i).toNat)
    case atStart => exact ⟨0, Nat.zero_le _, rfl, B2, O2⟩
    case round =>
      clear B2 O2 hrun'
      obtain ⟨k, hk, rfl, hb, o⟩ := hrel
      by_cases hlt : k < N
      · have hlt' : (k : Int) < N := by omega
        have his : k < ss.length := by rw [HN.out]; exact hlt
        obtain ⟨ab, ao, rfl, hc, hLG⟩ := (HF.out.below hb) k his
        have HSB : Hid (∀ v, pinsA (ss.take (k + 1)) v = (pinsA (ss.take k) v || readsR (rowsL (ss[k]?.getD noL).x) v)) := fun v => pinsA_snoc ss k his v
        have hsok : (ss[k]?.getD noL).ok = true := by
          rw [List.getElem?_eq_getElem his]
          exact List.all_eq_true.1 HALL.out _ (List.getElem_mem his)
        obtain ⟨s, hs⟩ : ∃ s, s = ss[k]?.getD noL := ⟨_, rfl⟩
        rw [← hs] at hc hLG HSB hsok
        obtain ⟨sa, sn, sc, sx⟩ := s
        have hAct : actB sn sx = true := hsok
        obtain ⟨hxl, hLin, hsn⟩ := hLG
        have hc' : wr.cell? ⟨ab, ao + k, none⟩ = some (.slice sa sn sc) := hc
        have HXL : Hid (sx.length = sn) := hxl
        have HLIN : Hid (LinesG wr sa sx) := hLin
        have HAC : Hid (actB sn sx = true) := hAct
        clear hs hc hsok hxl hLin hAct
        go_wp2_with fail
        refine (icatreads_any _ _ _ sx _ HXL.out HLIN.out hsn).mono ?_
        rintro ee w3 ⟨b3, h⟩
        obtain ⟨G3, c3, rfl, lG3, o3⟩ : ∃ G3 c3, ee = .returned (.slice (some ⟨G3, 0, none⟩) 3 c3) ∧ wr.heap.size ≤ G3 ∧ OwnBB w3 G3 (readsR (rowsL sx)) := by
          rcases h with ⟨h, _⟩ | ⟨_, G3, c3, h1, h2, h3⟩
          · rw [HAC.out] at h; cases h
          · exact ⟨G3, c3, h1, h2, h3⟩
        have lo : G < wr.heap.size := Cel.lt o
        have hb3 := hb.trans (b3.mono hb.size)
        have oo : OwnBB w3 G (fun v => if v < 0 then pinsA (ss.take (k + 1)) v else pinsA (ss.take k) v) := (o.below b3).ext (fun v hv => by simp)
        obtain ⟨rd, hrd⟩ : ∃ rd, rd = readsR (rowsL sx) := ⟨_, rfl⟩
        have HSB' : Hid (∀ v, pinsA (ss.take (k + 1)) v = (pinsA (ss.take k) v || rd v)) := fun v => by rw [hrd]; exact HSB.out v
        rw [← hrd] at o3
        have ne3 : G ≠ G3 := by omega
        clear h o b3 hb HXL HLIN HAC HSB hrd hc'
        go_wp2_with fail
        go_loopw [6, 7, 21] (fun _ _ i wr => ∃ u : Nat, u ≤ 3 ∧ i = .int .i64 u ∧ Below w.heap.size w wr ∧ OwnBB wr G3 rd ∧ OwnBB wr G (fun v => if v < u then pinsA (ss.take (k + 1)) v else pinsA (ss.take k) v)) (fun _ _ i _ => 3 - (intOf i).toNat)
        case atStart => exact ⟨0, by omega, rfl, hb3, o3, oo⟩
        case round =>
          clear hb3 o3 oo
          obtain ⟨u, hu, rfl, hb, o3, o⟩ := hrel
          by_cases hu3 : u < 3
          · have hu' : (u : Int) < 3 := by omega
            have r0 := (o3.at hu3).1
            have g0 : wr.cell? ⟨G, u, none⟩ = some (.bool (pinsA (ss.take k) u)) := by
              have := (o.at hu3).1
              simpa using this
            have fz := (o.at hu3).2
            cases hold : pinsA (ss.take k) u
            · rw [hold] at g0
              have O2 : Hid (OwnBB (wr.setCell ⟨G, u, none⟩ (.bool (rd u))) G (fun v => if v < u + 1 then pinsA (ss.take (k + 1)) v else pinsA (ss.take k) v)) := (o.set hu3 (rd u)).ext (fun v hv => by
                by_cases e : v = u
                · subst e; simp only [if_true, Nat.lt_succ_self]; rw [HSB'.out, hold]; simp
                · simp only [e, if_false]
                  by_cases e2 : v < u
                  · rw [if_pos e2, if_pos (by omega)]
                  · rw [if_neg e2, if_neg (by omega)])
              have B2 := hb.setCell (p := ⟨G, u, none⟩) (by simpa using lG0) (.bool (rd u))
              have o32 : OwnBB (wr.setCell ⟨G, u, none⟩ (.bool (rd u))) G3 rd := Cel.setOther o3 (by omega) _ _
              clear o o3 hold
              go_wp2
              go_roundw
              case rel => exact ⟨u + 1, by omega, by go_num, B2, o32, O2.out⟩
              case measure => simp [intOf]; omega
            · rw [hold] at g0
              have O2 : Hid (OwnBB (wr.setCell ⟨G, u, none⟩ (.bool true)) G (fun v => if v < u + 1 then pinsA (ss.take (k + 1)) v else pinsA (ss.take k) v)) := (o.set hu3 true).ext (fun v hv => by
                by_cases e : v = u
                · subst e; simp only [if_true, Nat.lt_succ_self]; rw [HSB'.out, hold]; simp
                · simp only [e, if_false]
                  by_cases e2 : v < u
                  · rw [if_pos e2, if_pos (by omega)]
                  · rw [if_neg e2, if_neg (by omega)])
              have B2 := hb.setCell (p := ⟨G, u, none⟩) (by simpa using lG0) (.bool true)
              have o32 : OwnBB (wr.setCell ⟨G, u, none⟩ (.bool true)) G3 rd := Cel.setOther o3 (by omega) _ _
              clear o o3 hold
              go_wp2
              go_roundw
              case rel => exact ⟨u + 1, by omega, by go_num, B2, o32, O2.out⟩
              case measure => simp [intOf]; omega
          · obtain rfl : u = 3 := by omega
            have O3 : Hid (OwnBB wr G (pinsA (ss.take (k + 1)))) := o.ext (fun v hv => by simp only [hv, if_true])
            clear o o3
            go_wp2
            go_roundw
            case rel => exact ⟨k + 1, by omega, by go_num, hb, O3.out⟩
            case measure => simp [intOf]; omega
      · obtain rfl : k = N := by omega
        have O3 : OwnBB wr G (pinsA ss) := by
          have : ss.take k = ss := List.take_of_length_le (by rw [HN.out]; exact Nat.le_refl _)
          rw [this] at o; exact o
        go_wp2
        go_ret
        exact ⟨hb, .inr ⟨HU.out, G, 3, rfl, lG0, O3⟩⟩

end Go.Proofs.Ytngfbcegcekbbaa
