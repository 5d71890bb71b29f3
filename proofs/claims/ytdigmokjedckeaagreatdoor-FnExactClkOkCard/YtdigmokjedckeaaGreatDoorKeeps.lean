/-
  Whether what a site has added keeps within a treaty: both texts answer it. Lengths at most 1048576.
-/
import Derived.Test.YtdigmokjedckeaaGreatDoorTrtW
import Derived.Deep.RegionHeld3
import Derived.Deep.DeepCutAuto
namespace Go.Proofs.YtdigmokjedckeaaGreatDoor
open Go.RowKit Go.Deep
set_option linter.unusedVariables false

set_option maxHeartbeats 800000 in
theorem times5_any (a c : Option Addr) (cap cap' : Nat) (xs ys : List Int) (P : Int) (w : World) (h : Ints w a 3 xs) (h' : Ints w c 3 ys) (hP : bndP P xs ys) (h0 : 0 ≤ P) (hb : P ≤ 1000000000000) :
    Calls Tryz.prog 99 #[.slice a 3 cap, .slice c 3 cap'] w fun e w' => e = .returned (.int .i64 (dot xs ys 3)) ∧ Below w.heap.size w w' := by
  have HP : Hid (bndP P xs ys) := hP
  clear hP
  go_enter Tryz.func99, Tryz.ntmps99
  go_wp2_with fail
  go_loopw [5, 6] (fun s i wr => ∃ k : Nat, k ≤ 3 ∧ i = .int .i64 k ∧ s = .int .i64 (dot xs ys k) ∧ Below w.heap.size w wr) (fun _ i _ => 3 - (intOf i).toNat)
  case atStart => exact ⟨0, by omega, rfl, rfl, Below.refl _ _⟩
  case round =>
    obtain ⟨k, hk, rfl, rfl, hb'⟩ := hrel
    by_cases hlt : k < 3
    · obtain ⟨b, off, rfl, hcell⟩ := (h.below hb').pos (by omega)
      obtain ⟨b', off', rfl, hcell'⟩ := (h'.below hb').pos (by omega)
      have hck := hcell k hlt
      have hck' := hcell' k hlt
      have hlt' : (k : Int) < 3 := by omega
      obtain ⟨p1, p2⟩ := HP.out k
      have d := dot_bnd HP.out k
      have kP : (k : Int) * P ≤ 1000 * P := Int.mul_le_mul_of_nonneg_right (by omega) h0
      have d1 : -1000000000000000 ≤ dot xs ys k := by omega
      have d2 : dot xs ys k ≤ 1000000000000000 := by omega
      have d3 : -1000000000000 ≤ xs[k]?.getD 0 * ys[k]?.getD 0 := by omega
      have d4 : xs[k]?.getD 0 * ys[k]?.getD 0 ≤ 1000000000000 := by omega
      clear hcell hcell' h h' d kP p1 p2 hb h0
      go_wp2_with fail
      go_quiet (fail)
      go_wp2
      go_roundw
      case rel => exact ⟨k + 1, by omega, by go_num, by simp only [dot], below_drewN hb' _⟩
      case measure => simp [intOf]; omega
    · obtain rfl : k = 3 := by omega
      go_wp2
      go_ret
      exact ⟨rfl, hb'⟩

/-- What a site knows is ok. -/
def viewB (n m : Nat) (C D : List Int) (ss : List IV) (s : Int) (k : Nat) (E : List Int) : Bool := trtB n m C D && (partsB ss && (inB s 0 ((m : Int) - 1) && okN 3 20000 k E))

/-- What is added keeps within what is given. -/
def keepsB (g : Int) (E : List Int) (ss : List IV) : Bool := ss.all fun p => inB (dot p.x E 3) (-g) g
theorem keepsB_step {g : Int} {E : List Int} {ss : List IV} {k : Nat} (h : k < ss.length) (h1 : keepsB g E (ss.take k) = true) (h2 : inB (dot (ss[k]?.getD noI).x E 3) (-g) g = true) : keepsB g E (ss.take (k + 1)) = true := by
  unfold keepsB at *
  rw [List.take_succ_eq_append_getElem h, List.all_append, h1]
  rw [List.getElem?_eq_getElem h] at h2
  simpa using h2
theorem keepsB_end {g : Int} {E : List Int} {ss : List IV} {k : Nat} (h : ss.length ≤ k) (h1 : keepsB g E (ss.take k) = true) : keepsB g E ss = true := by
  rwa [List.take_of_length_le h] at h1
theorem keepsB_false {g : Int} {E : List Int} {ss : List IV} {k : Nat} (h : k < ss.length) (hn : inB (dot (ss[k]?.getD noI).x E 3) (-g) g = false) : keepsB g E ss = false := by
  unfold keepsB
  rw [List.all_eq_false]
  refine ⟨ss[k], List.getElem_mem h, ?_⟩
  rw [List.getElem?_eq_getElem h] at hn
  simpa using hn

theorem viewB_elim {n m : Nat} {C D : List Int} {ss : List IV} {s : Int} {k : Nat} {E : List Int} (h : viewB n m C D ss s k E = true) :
    n = 3 ∧ bnd 10000 C ∧ 1 ≤ m ∧ m ≤ 3 ∧ partsB ss = true ∧ 0 ≤ s ∧ s < m ∧ k = 3 ∧ bnd 20000 E ∧ (∀ i : Nat, i < D.length → 0 ≤ D[i]?.getD 0 ∧ D[i]?.getD 0 ≤ 50) := by
  simp only [viewB, trtB, Bool.and_eq_true] at h
  obtain ⟨⟨h1, h2, h3⟩, h4, h5, h6⟩ := h
  have a := okN_elim (by omega) h1
  have b := okN_elim (by omega) h6
  have c := inB_iff.1 h2
  have d := inB_iff.1 h5
  refine ⟨by omega, a.2, by omega, by omega, h4, d.1, by omega, by omega, b.2, fun i hi => ?_⟩
  unfold betB at h3
  rw [List.all_eq_true] at h3
  have := inB_iff.1 (h3 D[i] (List.getElem_mem hi))
  rw [List.getElem?_eq_getElem hi]
  simpa using this

/-- Whether what a site has added keeps within a treaty. -/
def keepB (n m : Nat) (C D : List Int) (ss : List IV) (s : Int) (k : Nat) (E : List Int) : Bool := viewB n m C D ss s k E && keepsB (D[s.toNat]?.getD 0) E ss

theorem place_in (s : Int) (m : Nat) : decide (0 ≤ s ∧ s < (m : Int)) = inB s 0 ((m : Int) - 1) := by
  unfold inB
  apply decide_eq_decide.2
  omega

/-- What a site knows, as a value. -/
abbrev viewV (a : Option Addr) (n cap : Nat) (c : Option Addr) (m cap' : Nat) (ad : Option Addr) (N pc : Nat) (s : Int) (e : Option Addr) (k ec : Nat) (u : Option Addr) (l uc : Nat) : Value := .agg #[.slice a n cap, .slice c m cap', .slice ad N pc, .int .i64 s, .slice e k ec, .slice u l uc]

theorem Cel.sixK {w : World} {B : Nat} {v0 v1 v2 v3 v4 v5 : Value} {t : TypeId} (h : Cel w B [v0, v1, v2, v3, v4, v5] t) : w.cell? ⟨B, 0, none⟩ = some v0 ∧ w.cell? ⟨B, 1, none⟩ = some v1 ∧ w.cell? ⟨B, 2, none⟩ = some v2 ∧ w.cell? ⟨B, 3, none⟩ = some v3 ∧ w.cell? ⟨B, 4, none⟩ = some v4 ∧ w.cell? ⟨B, 5, none⟩ = some v5 := ⟨h.cell 0, h.cell 1, h.cell 2, h.cell 3, h.cell 4, h.cell 5⟩

set_option maxHeartbeats 1600000 in
theorem vok_any (a : Option Addr) (n cap : Nat) (c : Option Addr) (m cap' : Nat) (ad : Option Addr) (N pc : Nat) (s : Int) (e : Option Addr) (k ec : Nat) (u : Option Addr) (l uc : Nat) (C D E : List Int) (ss : List IV) (w : World)
    (hC : Ints w a n C) (hD : Ints w c m D) (hE : Ints w e k E) (hN : ss.length = N) (hF : ISG w ad ss) (hn : n ≤ 1048576) (hm : m ≤ 1048576) (hk : k ≤ 1048576) (hN1 : N ≤ 1048576) :
    Calls Tryz.prog 104 #[viewV a n cap c m cap' ad N pc s e k ec u l uc] w fun r w' => r = .returned (.bool (viewB n m C D ss s k E)) ∧ Below w.heap.size w w' := by
  have HN : Hid (ss.length = N) := hN
  clear hN
  have q0 := Cel.new w [.slice a n cap, .slice c m cap', .slice ad N pc, .int .i64 s, .slice e k ec, .slice u l uc] 155
  have b0 := (Below.refl w.heap.size w).alloc (Nat.le_refl _) (.cells #[.slice a n cap, .slice c m cap', .slice ad N pc, .int .i64 s, .slice e k ec, .slice u l uc] 155)
  cases h1 : trtB n m C D
  · go_enter Tryz.func104, Tryz.ntmps104
    go_wp2_with fail
    refine (itrt_any _ _ _ _ _ _ C D _ (hC.below b0) (hD.below b0) hn hm).mono ?_
    rintro r w1 ⟨rfl, b1⟩
    have B1 := b0.trans (b1.mono b0.size)
    rw [h1]
    go_wp2
    go_ret
    exact ⟨ret_bool (by simp [viewB, h1]), B1⟩
  · cases h2 : partsB ss
    · go_enter Tryz.func104, Tryz.ntmps104
      go_wp2_with fail
      refine (itrt_any _ _ _ _ _ _ C D _ (hC.below b0) (hD.below b0) hn hm).mono ?_
      rintro r w1 ⟨rfl, b1⟩
      have B1 := b0.trans (b1.mono b0.size)
      obtain ⟨c0, c1, c2, c3, c4, c5⟩ := (q0.below b1).sixK
      rw [h1]
      go_wp2_with fail
      refine (iparts_any _ _ _ ss _ HN.out (hF.below B1) hN1).mono ?_
      rintro r w2 ⟨rfl, rfl⟩
      rw [h2]
      go_wp2
      go_ret
      exact ⟨ret_bool (by simp [viewB, h2]), B1⟩
    · cases h3 : inB s 0 ((m : Int) - 1)
      · go_enter Tryz.func104, Tryz.ntmps104
        go_wp2_with fail
        refine (itrt_any _ _ _ _ _ _ C D _ (hC.below b0) (hD.below b0) hn hm).mono ?_
        rintro r w1 ⟨rfl, b1⟩
        have B1 := b0.trans (b1.mono b0.size)
        obtain ⟨c0, c1, c2, c3, c4, c5⟩ := (q0.below b1).sixK
        rw [h1]
        go_wp2_with fail
        refine (iparts_any _ _ _ ss _ HN.out (hF.below B1) hN1).mono ?_
        rintro r w2 ⟨rfl, rfl⟩
        rw [h2]
        go_wp2_with fail
        refine (place_any _ _ _).mono ?_
        rintro r w3 ⟨rfl, rfl⟩
        rw [place_in, h3]
        go_wp2
        go_ret
        exact ⟨ret_bool (by simp [viewB, h3]), B1⟩
      · go_enter Tryz.func104, Tryz.ntmps104
        go_wp2_with fail
        refine (itrt_any _ _ _ _ _ _ C D _ (hC.below b0) (hD.below b0) hn hm).mono ?_
        rintro r w1 ⟨rfl, b1⟩
        have B1 := b0.trans (b1.mono b0.size)
        obtain ⟨c0, c1, c2, c3, c4, c5⟩ := (q0.below b1).sixK
        rw [h1]
        go_wp2_with fail
        refine (iparts_any _ _ _ ss _ HN.out (hF.below B1) hN1).mono ?_
        rintro r w2 ⟨rfl, rfl⟩
        rw [h2]
        go_wp2_with fail
        refine (place_any _ _ _).mono ?_
        rintro r w3 ⟨rfl, rfl⟩
        rw [place_in, h3]
        go_wp2_with fail
        refine (imay_any _ _ _ E _ (hE.below B1) hk).mono ?_
        rintro r w4 ⟨rfl, rfl⟩
        go_wp2
        go_ret
        exact ⟨ret_bool (by simp [viewB, h1, h2, h3]), B1⟩

set_option maxHeartbeats 1600000 in
theorem vkeeps_any (a : Option Addr) (n cap : Nat) (c : Option Addr) (m cap' : Nat) (ad : Option Addr) (N pc : Nat) (s : Int) (e : Option Addr) (ec : Nat) (u : Option Addr) (l uc : Nat) (C D E : List Int) (ss : List IV) (w : World)
    (hD : Ints w c m D) (hE : Ints w e 3 E) (hN : ss.length = N) (hF : ISG w ad ss) (hN1 : N ≤ 1048576) (hm3 : m ≤ 3) (hs : 0 ≤ s) (hs' : s < m) (hp : partsB ss = true) (bE : bnd 20000 E) (bD : ∀ i : Nat, i < D.length → 0 ≤ D[i]?.getD 0 ∧ D[i]?.getD 0 ≤ 50) :
    Calls Tryz.prog 105 #[viewV a n cap c m cap' ad N pc s e 3 ec u l uc] w fun r w' => r = .returned (.bool (keepsB (D[s.toNat]?.getD 0) E ss)) ∧ Below w.heap.size w w' := by
  have HN : Hid (ss.length = N) := hN
  have HP : Hid (partsB ss = true) := hp
  clear hN hp
  have q0 := Cel.new w [.slice a n cap, .slice c m cap', .slice ad N pc, .int .i64 s, .slice e 3 ec, .slice u l uc] 155
  have b0 := (Below.refl w.heap.size w).alloc (Nat.le_refl _) (.cells #[.slice a n cap, .slice c m cap', .slice ad N pc, .int .i64 s, .slice e 3 ec, .slice u l uc] 155)
  obtain ⟨t, rfl⟩ : ∃ t : Nat, s = t := ⟨s.toNat, by omega⟩
  have ht : t < m := by omega
  have bg := bD t (by rw [hD.1]; exact ht)
  obtain ⟨b, off, rfl, hcell⟩ := (hD.below b0).pos (by omega)
  have hck := hcell t ht
  rw [Int.toNat_natCast]
  have hck' : (w.alloc (.cells #[.slice a n cap, .slice (some ⟨b, off, none⟩) m cap', .slice ad N pc, .int .i64 (t : Int), .slice e 3 ec, .slice u l uc] 155)).cell? ⟨b, off + t, none⟩ = some (.int .i64 (D[t]?.getD 0)) := by rw [hck]; simp
  generalize HG : D[t]?.getD 0 = g at *
  clear HG hck hcell bD hD
  go_enter Tryz.func105, Tryz.ntmps105
  go_wp2_with fail
  go_loopw [5, 16] (fun _ i wr => ∃ k : Nat, k ≤ N ∧ i = .int .i64 k ∧ Below w.heap.size w wr ∧ Cel wr w.heap.size [.slice a n cap, .slice (some ⟨b, off, none⟩) m cap', .slice ad N pc, .int .i64 (t : Int), .slice e 3 ec, .slice u l uc] 155 ∧ keepsB g E (ss.take k) = true) (fun _ i _ => N - (intOf i).toNat)
  case atStart => exact ⟨0, Nat.zero_le _, rfl, b0, q0, rfl⟩
  case round =>
    clear hck' q0 b0
    obtain ⟨k, hk, rfl, hb, q1, hall⟩ := hrel
    have HA : Hid _ := hall
    clear hall
    by_cases hlt : k < N
    · obtain ⟨b2, off2, rfl, hc, hr⟩ := (hF.below hb) k (by rw [HN.out]; exact hlt)
      have H1 : Hid _ := keepsB_step (g := g) (E := E) (ss := ss) (k := k) (by rw [HN.out]; exact hlt) HA.out
      have H2 : Hid _ := keepsB_false (g := g) (E := E) (ss := ss) (k := k) (by rw [HN.out]; exact hlt)
      have H3 := partsB_at (ss := ss) (k := k) (by rw [HN.out]; exact hlt) HP.out
      generalize HG : ss[k]?.getD noI = p at *
      clear HG hF HA
      obtain ⟨ga, gn, gcap, gx⟩ := p
      obtain ⟨e3, bx⟩ := okN_elim (by omega) H3
      obtain rfl : gn = 3 := by have : (gn : Int) = 3 := e3; omega
      have hP := bndP_of bx bE (by omega) (by omega)
      have hc' : wr.cell? ⟨b2, off2 + k, none⟩ = some (.slice ga 3 gcap) := hc
      have c4 := q1.cell 4
      simp only [List.getElem?_cons_zero, List.getElem?_cons_succ] at c4
      have hr1 : Ints wr ga 3 gx := hr.1
      clear hc H3 e3
      have dn := dot_bnd hP 3
      go_wp2_with fail
      refine (psum_any _ _ _ _ _ gx E _ _ hr1 (hE.below hb) (by omega) hP (by omega) (by omega)).mono ?_
      rintro r w1 ⟨rfl, rfl⟩
      have H1' : Hid (inB (dot gx E 3) (-g) g = true → keepsB g E (ss.take (k + 1)) = true) := H1
      have H2' : Hid (inB (dot gx E 3) (-g) g = false → keepsB g E ss = false) := H2
      generalize HG : dot gx E 3 = x at *
      clear HG H1 H2 hP dn
      go_wp2_with fail
      refine (within_any (some ⟨w1.heap.size, 0, none⟩) 1 1 [x] _ _ ?_ (by omega) (by omega) (by omega)).mono ?_
      · refine ⟨rfl, fun i hi => ⟨w1.heap.size, 0, rfl, ?_⟩⟩
        obtain rfl : i = 0 := by omega
        simp [go_sem]
      rintro r w2 ⟨rfl, rfl⟩
      rw [allB_one]
      cases he : inB x (-g) g
      · go_wp2
        go_ret
        exact ⟨ret_bool (by rw [H2'.out he]), hb.alloc hb.size _⟩
      · go_wp2
        go_roundw
        case rel => exact ⟨k + 1, by omega, by go_num, hb.alloc hb.size _, q1.alloc _, H1'.out he⟩
        case measure => simp [intOf]; omega
    · go_wp2
      go_ret
      exact ⟨ret_bool (by rw [keepsB_end (by rw [HN.out]; omega) HA.out]), hb⟩

set_option maxHeartbeats 1600000 in
theorem ikeep_any (a : Option Addr) (n cap : Nat) (c : Option Addr) (m cap' : Nat) (ad : Option Addr) (N pc : Nat) (s : Int) (e : Option Addr) (k ec : Nat) (C D E : List Int) (ss : List IV) (w : World)
    (hC : Ints w a n C) (hD : Ints w c m D) (hE : Ints w e k E) (hN : ss.length = N) (hF : ISG w ad ss) (hn : n ≤ 1048576) (hm : m ≤ 1048576) (hk : k ≤ 1048576) (hN1 : N ≤ 1048576) :
    Calls Tryz.prog 74 #[treV a n cap c m cap', .slice ad N pc, .int .i64 s, .slice e k ec] w fun r w' => r = .returned (.bool (keepB n m C D ss s k E)) ∧ Below w.heap.size w w' := by
  have HN : Hid (ss.length = N) := hN
  clear hN
  have B0 : Below w.heap.size w ((w.alloc (.cells #[.slice a n cap, .slice c m cap'] 96)).alloc (.cells #[.slice a n cap, .slice c m cap', .slice ad N pc, .int .i64 s, .slice e k ec, .slice none 0 0] 155)) := ((Below.refl w.heap.size w).alloc (Nat.le_refl _) _).alloc (by simp) _
  have q0 := Cel.new (w.alloc (.cells #[.slice a n cap, .slice c m cap'] 96)) [.slice a n cap, .slice c m cap', .slice ad N pc, .int .i64 s, .slice e k ec, .slice none 0 0] 155
  rw [World.size_alloc] at q0
  cases h1 : viewB n m C D ss s k E
  · go_enter Tryz.func74, Tryz.ntmps74
    go_wp2_with fail
    refine (vok_any _ _ _ _ _ _ _ _ _ _ _ _ _ _ _ _ C D E ss _ (hC.below B0) (hD.below B0) (hE.below B0) HN.out (hF.below B0) hn hm hk hN1).mono ?_
    rintro r w1 ⟨rfl, b1⟩
    have B1 := B0.trans (b1.mono B0.size)
    rw [h1]
    go_wp2
    go_ret
    exact ⟨ret_bool (by simp [keepB, h1]), B1⟩
  · obtain ⟨-, -, m1, m2, hp0, s0, s1, e2, bE, bD⟩ := viewB_elim h1
    have hp : Hid _ := hp0
    clear hp0
    subst e2
    go_enter Tryz.func74, Tryz.ntmps74
    go_wp2_with fail
    refine (vok_any _ _ _ _ _ _ _ _ _ _ _ _ _ _ _ _ C D E ss _ (hC.below B0) (hD.below B0) (hE.below B0) HN.out (hF.below B0) hn hm hk hN1).mono ?_
    rintro r w1 ⟨rfl, b1⟩
    have B1 := B0.trans (b1.mono B0.size)
    obtain ⟨c0, c1, c2, c3, c4, c5⟩ := (q0.below b1).sixK
    rw [h1]
    have HK : Hid _ := h1
    clear h1
    go_wp2_with fail
    refine (vkeeps_any _ _ _ _ _ _ _ _ _ _ _ _ _ _ _ C D E ss _ (hD.below B1) (hE.below B1) HN.out (hF.below B1) hN1 m2 s0 s1 hp.out bE bD).mono ?_
    rintro r w2 ⟨rfl, b2⟩
    have B2 := B1.trans (b2.mono B1.size)
    go_wp2
    go_ret
    exact ⟨ret_bool (by rw [keepB, HK.out]; rfl), B2⟩

end Go.Proofs.YtdigmokjedckeaaGreatDoor
