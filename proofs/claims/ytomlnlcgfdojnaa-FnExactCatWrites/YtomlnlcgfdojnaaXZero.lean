/-
  Whether a form is 0, whatever pots and arguments are (spec.l4Zero, FrmForm.zero of impl): of forms with three and two numbers.
-/
import Derived.Test.YtomlnlcgfdojnaaPackF
namespace Go.Proofs.Ytomlnlcgfdojnaa
open Go.RowKit Go.Deep
set_option linter.unusedVariables false
set_option maxRecDepth 100000

def zeroB (C D : List Int) (K : Int) : Bool := allB 0 C && allB 0 D && (K == 0)
theorem not_true_of {b : Bool} (h : b = false) : ¬ b = true := fun e => by rw [h] at e; cases e
def zeroF (f : Frm) : Bool := zeroB f.1 f.2.1 f.2.2
theorem allB0 (zs : List Int) : allB 0 zs = decide (zs = List.replicate zs.length 0) := by
  induction zs with
  | nil => rfl
  | cons x xs ih =>
    simp only [allB, List.all_cons, List.length_cons, List.replicate_succ] at *
    rw [ih]
    by_cases hx : x = 0
    · subst hx; simp [inB]
    · have : inB x (-0) 0 = false := inB_not.2 (by omega)
      rw [this]; simp [hx]
theorem eqB0 {zs ys : List Int} (h : ys = List.replicate zs.length 0) : eqB zs ys = allB 0 zs := by rw [allB0, eqB, h]

set_option maxHeartbeats 1600000 in
theorem izero0_any (a : Option Addr) (cap : Nat) (c : Option Addr) (cap' : Nat) (K : Int) (C D : List Int) (w : World) (hC : Ints w a 3 C) (hD : Ints w c 2 D) :
    Calls Try.prog 51 #[formV a 3 cap c 2 cap' K] w fun e w' => e = .returned (.bool (zeroB C D K)) ∧ Below w.heap.size w w' := by
  have B0 : Below w.heap.size w (w.alloc (.cells #[.slice a 3 cap, .slice c 2 cap', .int .i64 K] 57)) := (Below.refl _ _).alloc (Nat.le_refl _) _
  cases h1 : allB 0 C
  · go_enter Try.func51, Try.ntmps51
    go_wp2_with fail
    refine (within_any _ _ _ C _ _ (hC.alloc _) (by omega) (by omega) (by omega)).mono ?_
    rintro e w1 ⟨rfl, rfl⟩
    rw [h1]
    go_wp2
    go_ret
    exact ⟨ret_bool (by simp [zeroB, h1]), B0⟩
  · cases h2 : allB 0 D
    · go_enter Try.func51, Try.ntmps51
      go_wp2_with fail
      refine (within_any _ _ _ C _ _ (hC.alloc _) (by omega) (by omega) (by omega)).mono ?_
      rintro e w1 ⟨rfl, rfl⟩
      rw [h1]
      go_wp2_with fail
      refine (within_any _ _ _ D _ _ (hD.alloc _) (by omega) (by omega) (by omega)).mono ?_
      rintro e w1 ⟨rfl, rfl⟩
      rw [h2]
      go_wp2
      go_ret
      exact ⟨ret_bool (by simp [zeroB, h1, h2]), B0⟩
    · go_enter Try.func51, Try.ntmps51
      go_wp2_with fail
      refine (within_any _ _ _ C _ _ (hC.alloc _) (by omega) (by omega) (by omega)).mono ?_
      rintro e w1 ⟨rfl, rfl⟩
      rw [h1]
      go_wp2_with fail
      refine (within_any _ _ _ D _ _ (hD.alloc _) (by omega) (by omega) (by omega)).mono ?_
      rintro e w1 ⟨rfl, rfl⟩
      rw [h2]
      go_wp2
      go_ret
      exact ⟨ret_bool (by simp [zeroB, h1, h2]), B0⟩

set_option maxHeartbeats 3200000 in
theorem szero0_any (a : Option Addr) (cap : Nat) (c : Option Addr) (cap' : Nat) (kz : Int) (C D : List Int) (w : World) (hC : Ints w a 3 C) (hD : Ints w c 2 D) :
    Calls Try.prog 50 #[formV a 3 cap c 2 cap' kz] w fun e w' => e = .returned (.bool (zeroB C D kz)) ∧ Below w.heap.size w w' := by
  obtain ⟨W0, hW0⟩ : ∃ W0, W0 = w.alloc (.cells #[.slice a 3 cap, .slice c 2 cap', .int .i64 kz] 57) := ⟨_, rfl⟩
  have B0 : Below w.heap.size w W0 := by rw [hW0]; exact (Below.refl _ _).alloc (Nat.le_refl _) _
  have n0 : Cel W0 w.heap.size [.slice a 3 cap, .slice c 2 cap', .int .i64 kz] 57 := by rw [hW0]; exact Cel.new w _ _
  have KP : Hid (∀ W, Below W0.heap.size W0 W → (W.cell? ⟨w.heap.size, 0, none⟩ = some (.slice a 3 cap) ∧ W.cell? ⟨w.heap.size, 1, none⟩ = some (.slice c 2 cap') ∧ W.cell? ⟨w.heap.size, 2, none⟩ = some (.int .i64 kz))) := fun W hW => ⟨(n0.below hW).cell 0, (n0.below hW).cell 1, (n0.below hW).cell 2⟩
  have C0 : Hid (Ints W0 a 3 C) := hC.below B0
  have D0 : Hid (Ints W0 c 2 D) := hD.below B0
  have e0 : Below W0.heap.size W0 W0.drew := (Below.refl _ _).drew
  have hSS := And.intro (KP.out _ e0) (True.intro)
  have EC : Hid (eqB C [0, 0, 0] = allB 0 C) := eqB0 (by rw [hC.1]; rfl)
  have ED : Hid (eqB D [0, 0] = allB 0 D) := eqB0 (by rw [hD.1]; rfl)
  clear hC hD
  go_enter Try.func50, Try.ntmps50
  go_upto_region 1 with fail
  rw [← hW0]
  clear hW0
  refine wp_region_ends (fun w' => w'.cell? ⟨w.heap.size, 0, none⟩ = some (.slice a 3 cap) ∧ w'.cell? ⟨w.heap.size, 1, none⟩ = some (.slice c 2 cap') ∧ w'.cell? ⟨w.heap.size, 2, none⟩ = some (.int .i64 kz)) (fun _ => True) 17 (by kernel_rfl) ?_
  refine wpAnyE_take0 (i := 0) (v := ?av0) rfl (by kernel_rfl) (by kernel_rfl) (by kernel_rfl) (by decide) (fun _ _ _ h => h) (Or.inl ⟨by rfl, ?ahy0⟩) hSS ?_
  case ahy0 => (intro wz hSw; (try dsimp only at hSw); go_simp; try (with_reducible rfl))
  refine wpAnyE_take0 (i := 1) (v := ?av1) rfl (by kernel_rfl) (by kernel_rfl) (by kernel_rfl) (by decide) (fun _ _ _ h => h) (Or.inl ⟨by rfl, ?ahy1⟩) hSS ?_
  case ahy1 => (intro wz hSw; (try dsimp only at hSw); go_simp; try (with_reducible rfl))
  refine wpAnyE_one (i := 2) (by kernel_rfl) rfl (fun K hK => ?_)
  go_simp
  refine (szero_any _).mono ?_
  rintro ee w1 ⟨B1, B2, rfl, bd1, y1, y12, y2, k1, k2⟩
  have b1 := below_of_drew bd1
  (try dsimp only)
  refine hK.out _ _ ⟨KP.out _ b1, fun _ => trivial⟩ ?_
  clear hK K
  refine wpAnyE_one (i := 3) (by kernel_rfl) rfl (fun K hK => ?_)
  go_simp
  refine hK.out _ _ ⟨KP.out _ b1, fun _ => trivial⟩ ?_
  clear hK K
  refine wpAnyE_one (i := 4) (by kernel_rfl) rfl (fun K hK => ?_)
  go_simp
  refine (l4same_any _ _ 3 3 _ _ C [0, 0, 0] _ (C0.out.below b1) (k1.ints' rfl) (by omega) (by omega)).mono ?_
  rintro ee w2 ⟨rfl, bd2⟩
  rw [EC.out]
  have b2 := b1.trans (bd2.mono b1.size)
  (try dsimp only)
  refine hK.out _ _ ⟨KP.out _ b2, fun _ => trivial⟩ ?_
  clear hK K hSS bd1 bd2 b1 k1 k2 y1 y2 y12
  cases h1 : allB 0 C
  · refine wpAnyE_one (i := 5) (by kernel_rfl) rfl (fun K hK => ?_)
    go_simp
    refine hK.out _ _ ⟨KP.out _ b2, fun _ => trivial⟩ ?_
    clear hK K
    have hS2 := And.intro (KP.out _ b2) (True.intro)
    refine wpAnyE_take0 (i := 6) (v := undef) rfl (by kernel_rfl) (by kernel_rfl) (by kernel_rfl) (by decide) (fun _ _ _ h => h) (Or.inr ⟨by kernel_rfl, rfl⟩) hS2 ?_
    refine wpAnyE_take0 (i := 7) (v := undef) rfl (by kernel_rfl) (by kernel_rfl) (by kernel_rfl) (by decide) (fun _ _ _ h => h) (Or.inr ⟨by kernel_rfl, rfl⟩) hS2 ?_
    clear hS2
    refine wpAnyE_one (i := 8) (by kernel_rfl) rfl (fun K hK => ?_)
    rw [if_neg (not_true_of (by kernel_rfl))]
    refine hK.out _ _ ⟨KP.out _ b2, fun _ => trivial⟩ ?_
    clear hK K
    refine wpAnyE_one (i := 9) (by kernel_rfl) rfl (fun K hK => ?_)
    rw [if_neg (not_true_of (by kernel_rfl))]
    refine hK.out _ _ ⟨KP.out _ b2, fun _ => trivial⟩ ?_
    clear hK K
    refine wpAnyE_one (i := 10) (by kernel_rfl) rfl (fun K hK => ?_)
    rw [if_neg (not_true_of (by kernel_rfl))]
    refine hK.out _ _ ⟨KP.out _ b2, fun _ => trivial⟩ ?_
    clear hK K
    refine wpAnyE_one (i := 11) (by kernel_rfl) rfl (fun K hK => ?_)
    go_simp
    refine hK.out _ _ ⟨KP.out _ b2, fun _ => trivial⟩ ?_
    clear hK K
    refine wpAnyE_one (i := 12) (by kernel_rfl) rfl (fun K hK => ?_)
    go_simp
    refine hK.out _ _ ⟨KP.out _ b2, fun _ => trivial⟩ ?_
    clear hK K
    refine wpAnyE_one (i := 13) (by kernel_rfl) rfl (fun K hK => ?_)
    rw [if_neg (not_true_of (by kernel_rfl))]
    refine hK.out _ _ ⟨KP.out _ b2, fun _ => trivial⟩ ?_
    clear hK K
    refine wpAnyE_one (i := 14) (by kernel_rfl) rfl (fun K hK => ?_)
    rw [if_neg (not_true_of (by kernel_rfl))]
    refine hK.out _ _ ⟨KP.out _ b2, fun _ => trivial⟩ ?_
    clear hK K
    refine wpAnyE_one (i := 15) (by kernel_rfl) rfl (fun K hK => ?_)
    rw [if_neg (not_true_of (by kernel_rfl))]
    refine hK.out _ _ ⟨KP.out _ b2, fun _ => trivial⟩ ?_
    clear hK K
    refine wpAnyE_one (i := 16) (by kernel_rfl) rfl (fun K hK => ?_)
    go_simp
    refine hK.out _ _ ⟨KP.out _ b2, fun _ => trivial⟩ ?_
    clear hK K
    refine wpAnyE_one (i := 17) (by kernel_rfl) rfl (fun K hK => ?_)
    go_simp
    refine hK.out _ _ ⟨KP.out _ b2, fun _ => trivial⟩ ?_
    clear hK K
    refine wpAnyE_done (by kernel_rfl) ?_ _
    go_wp2
    go_ret
    exact ⟨ret_bool (by simp [zeroB, h1]), B0.trans (b2.mono B0.size)⟩
  · refine wpAnyE_one (i := 5) (by kernel_rfl) rfl (fun K hK => ?_)
    go_simp
    refine hK.out _ _ ⟨KP.out _ b2, fun _ => trivial⟩ ?_
    clear hK K
    have hS2 := And.intro (KP.out _ b2) (True.intro)
    refine wpAnyE_take0 (i := 6) (v := ?bv6) rfl (by kernel_rfl) (by kernel_rfl) (by kernel_rfl) (by decide) (fun _ _ _ h => h) (Or.inl ⟨by kernel_rfl, ?bhy6⟩) hS2 ?_
    case bhy6 => (intro wz hSw; (try dsimp only at hSw); go_simp; try (with_reducible rfl))
    refine wpAnyE_take0 (i := 7) (v := ?bv7) rfl (by kernel_rfl) (by kernel_rfl) (by kernel_rfl) (by decide) (fun _ _ _ h => h) (Or.inl ⟨by kernel_rfl, ?bhy7⟩) hS2 ?_
    case bhy7 => (intro wz hSw; (try dsimp only at hSw); go_simp; try (with_reducible rfl))
    clear hS2
    refine wpAnyE_one (i := 8) (by kernel_rfl) rfl (fun K hK => ?_)
    rw [if_pos (by kernel_rfl)]
    go_simp
    refine (szero_any _).mono ?_
    rintro ee w3 ⟨B1, B2, rfl, bd3, y1, y12, y2, k1, k2⟩
    have b3 := b2.trans (bd3.mono b2.size)
    (try dsimp only)
    refine hK.out _ _ ⟨KP.out _ b3, fun _ => trivial⟩ ?_
    clear hK K
    refine wpAnyE_one (i := 9) (by kernel_rfl) rfl (fun K hK => ?_)
    rw [if_pos (by kernel_rfl)]
    go_simp
    refine hK.out _ _ ⟨KP.out _ b3, fun _ => trivial⟩ ?_
    clear hK K
    refine wpAnyE_one (i := 10) (by kernel_rfl) rfl (fun K hK => ?_)
    rw [if_pos (by kernel_rfl)]
    go_simp
    refine (l4same_any _ _ 2 2 _ _ D [0, 0] _ (D0.out.below b3) (k2.ints' rfl) (by omega) (by omega)).mono ?_
    rintro ee w4 ⟨rfl, bd4⟩
    rw [ED.out]
    have b4 := b3.trans (bd4.mono b3.size)
    (try dsimp only)
    refine hK.out _ _ ⟨KP.out _ b4, fun _ => trivial⟩ ?_
    clear hK K bd3 bd4 b3 k1 k2 y1 y2 y12
    cases h2 : allB 0 D
    · refine wpAnyE_one (i := 11) (by kernel_rfl) rfl (fun K hK => ?_)
      go_simp
      refine hK.out _ _ ⟨KP.out _ b4, fun _ => trivial⟩ ?_
      clear hK K
      refine wpAnyE_one (i := 12) (by kernel_rfl) rfl (fun K hK => ?_)
      go_simp
      refine hK.out _ _ ⟨KP.out _ b4, fun _ => trivial⟩ ?_
      clear hK K
      refine wpAnyE_one (i := 13) (by kernel_rfl) rfl (fun K hK => ?_)
      rw [if_neg (not_true_of (by kernel_rfl))]
      refine hK.out _ _ ⟨KP.out _ b4, fun _ => trivial⟩ ?_
      clear hK K
      refine wpAnyE_one (i := 14) (by kernel_rfl) rfl (fun K hK => ?_)
      rw [if_neg (not_true_of (by kernel_rfl))]
      refine hK.out _ _ ⟨KP.out _ b4, fun _ => trivial⟩ ?_
      clear hK K
      refine wpAnyE_one (i := 15) (by kernel_rfl) rfl (fun K hK => ?_)
      rw [if_neg (not_true_of (by kernel_rfl))]
      refine hK.out _ _ ⟨KP.out _ b4, fun _ => trivial⟩ ?_
      clear hK K
      refine wpAnyE_one (i := 16) (by kernel_rfl) rfl (fun K hK => ?_)
      go_simp
      refine hK.out _ _ ⟨KP.out _ b4, fun _ => trivial⟩ ?_
      clear hK K
      refine wpAnyE_one (i := 17) (by kernel_rfl) rfl (fun K hK => ?_)
      go_simp
      refine hK.out _ _ ⟨KP.out _ b4, fun _ => trivial⟩ ?_
      clear hK K
      refine wpAnyE_done (by kernel_rfl) ?_ _
      go_wp2
      go_ret
      exact ⟨ret_bool (by simp [zeroB, h1, h2]), B0.trans (b4.mono B0.size)⟩
    · refine wpAnyE_one (i := 11) (by kernel_rfl) rfl (fun K hK => ?_)
      go_simp
      refine hK.out _ _ ⟨KP.out _ b4, fun _ => trivial⟩ ?_
      clear hK K
      refine wpAnyE_one (i := 12) (by kernel_rfl) rfl (fun K hK => ?_)
      go_simp
      refine hK.out _ _ ⟨KP.out _ b4, fun _ => trivial⟩ ?_
      clear hK K
      refine wpAnyE_one (i := 13) (by kernel_rfl) rfl (fun K hK => ?_)
      rw [if_pos (by kernel_rfl)]
      go_simp
      refine hK.out _ _ ⟨KP.out _ b4, fun _ => trivial⟩ ?_
      clear hK K
      refine wpAnyE_one (i := 14) (by kernel_rfl) rfl (fun K hK => ?_)
      rw [if_pos (by kernel_rfl)]
      obtain ⟨g0, g1, g2⟩ := KP.out _ b4
      go_simp
      clear g0 g1 g2
      refine hK.out _ _ ⟨KP.out _ b4, fun _ => trivial⟩ ?_
      clear hK K
      refine wpAnyE_one (i := 15) (by kernel_rfl) rfl (fun K hK => ?_)
      rw [if_pos (by kernel_rfl)]
      go_simp
      refine hK.out _ _ ⟨KP.out _ b4, fun _ => trivial⟩ ?_
      clear hK K
      refine wpAnyE_one (i := 16) (by kernel_rfl) rfl (fun K hK => ?_)
      go_simp
      refine hK.out _ _ ⟨KP.out _ b4, fun _ => trivial⟩ ?_
      clear hK K
      refine wpAnyE_one (i := 17) (by kernel_rfl) rfl (fun K hK => ?_)
      go_simp
      refine hK.out _ _ ⟨KP.out _ b4, fun _ => trivial⟩ ?_
      clear hK K
      refine wpAnyE_done (by kernel_rfl) ?_ _
      go_wp2
      go_ret
      exact ⟨ret_bool (by simp [zeroB, h1, h2]), B0.trans (b4.mono B0.size)⟩
end Go.Proofs.Ytomlnlcgfdojnaa
