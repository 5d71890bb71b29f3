/-
  Whether what a site has added keeps within a treaty, as the specification says it. Lengths at most 1048576.
-/
import Derived.Test.YtdigmokjedckeaaGreatDoorKeeps
namespace Go.Proofs.YtdigmokjedckeaaGreatDoor
open Go.RowKit Go.Deep
set_option linter.unusedVariables false

set_option maxHeartbeats 3200000 in
theorem skeep_any (a : Option Addr) (n cap : Nat) (c : Option Addr) (m cap' : Nat) (ad : Option Addr) (N pc : Nat) (s : Int) (e : Option Addr) (k ec : Nat) (C D E : List Int) (ss : List IV) (w : World)
    (hC : Ints w a n C) (hD : Ints w c m D) (hE : Ints w e k E) (hN : ss.length = N) (hF : ISG w ad ss) (hn : n ≤ 1048576) (hm : m ≤ 1048576) (hk : k ≤ 1048576) (hN1 : N ≤ 1048576) :
    Calls Tryz.prog 64 #[treV a n cap c m cap', .slice ad N pc, .int .i64 s, .slice e k ec] w fun r w' => r = .returned (.bool (keepB n m C D ss s k E)) ∧ Below w.heap.size w w' := by
  have HN : Hid (ss.length = N) := hN
  clear hN
  have b0 := (Below.refl w.heap.size w).alloc (Nat.le_refl _) (.cells #[.slice a n cap, .slice c m cap'] 96)
  have q0 := Cel.new w [.slice a n cap, .slice c m cap'] 96
  cases h1 : trtB n m C D
  · go_enter Tryz.func64, Tryz.ntmps64
    go_wp2_with fail
    refine (strt_any _ _ _ _ _ _ C D _ (hC.below b0) (hD.below b0) hn hm).mono ?_
    rintro r w1 ⟨rfl, b1⟩
    have B1 := b0.trans (b1.mono b0.size)
    rw [h1]
    go_wp2
    go_ret
    exact ⟨ret_bool (by simp [keepB, viewB, h1]), B1⟩
  cases h2 : partsB ss
  · go_enter Tryz.func64, Tryz.ntmps64
    go_wp2_with fail
    refine (strt_any _ _ _ _ _ _ C D _ (hC.below b0) (hD.below b0) hn hm).mono ?_
    rintro r w1 ⟨rfl, b1⟩
    have B1 := b0.trans (b1.mono b0.size)
    rw [h1]
    go_wp2_with fail
    refine (sparts_any _ _ _ ss _ HN.out (hF.below B1) hN1).mono ?_
    rintro r w2 ⟨rfl, rfl⟩
    rw [h2]
    go_wp2
    go_ret
    exact ⟨ret_bool (by simp [keepB, viewB, h2]), B1⟩
  cases h3 : inB s 0 ((m : Int) - 1)
  · go_enter Tryz.func64, Tryz.ntmps64
    go_wp2_with fail
    refine (strt_any _ _ _ _ _ _ C D _ (hC.below b0) (hD.below b0) hn hm).mono ?_
    rintro r w1 ⟨rfl, b1⟩
    have B1 := b0.trans (b1.mono b0.size)
    have c1 := (q0.below b1).cell 1
    simp only [List.getElem?_cons_zero, List.getElem?_cons_succ] at c1
    rw [h1]
    go_wp2_with fail
    refine (sparts_any _ _ _ ss _ HN.out (hF.below B1) hN1).mono ?_
    rintro r w2 ⟨rfl, rfl⟩
    rw [h2]
    go_wp2_with fail
    refine (in_any _ _ _ _).mono ?_
    rintro r w3 ⟨rfl, rfl⟩
    rw [h3]
    go_wp2
    go_ret
    exact ⟨ret_bool (by simp [keepB, viewB, h3]), B1⟩
  cases h4 : okN 3 20000 k E
  · go_enter Tryz.func64, Tryz.ntmps64
    go_wp2_with fail
    refine (strt_any _ _ _ _ _ _ C D _ (hC.below b0) (hD.below b0) hn hm).mono ?_
    rintro r w1 ⟨rfl, b1⟩
    have B1 := b0.trans (b1.mono b0.size)
    have c1 := (q0.below b1).cell 1
    simp only [List.getElem?_cons_zero, List.getElem?_cons_succ] at c1
    rw [h1]
    go_wp2_with fail
    refine (sparts_any _ _ _ ss _ HN.out (hF.below B1) hN1).mono ?_
    rintro r w2 ⟨rfl, rfl⟩
    rw [h2]
    go_wp2_with fail
    refine (in_any _ _ _ _).mono ?_
    rintro r w3 ⟨rfl, rfl⟩
    rw [h3]
    go_wp2_with fail
    refine (all_any _ _ _ E _ _ _ (hE.below B1) hk (by omega) (by omega)).mono ?_
    rintro r w4 ⟨rfl, rfl⟩
    rw [h4]
    go_wp2
    go_ret
    exact ⟨ret_bool (by simp [keepB, viewB, h4]), B1⟩
  have hv : viewB n m C D ss s k E = true := by simp [viewB, h1, h2, h3, h4]
  obtain ⟨-, -, m1, m2, hp0, s0, s1, e2, bE, bD⟩ := viewB_elim hv
  have HP : Hid _ := hp0
  have HV : Hid _ := hv
  have H1 : Hid _ := h1
  have H2 : Hid _ := h2
  have H3 : Hid _ := h3
  have H4 : Hid _ := h4
  clear hp0 hv h1 h2 h3 h4
  subst e2
  obtain ⟨t, rfl⟩ : ∃ t : Nat, s = t := ⟨s.toNat, by omega⟩
  have ht : t < m := by omega
  have bg := bD t (by rw [hD.1]; exact ht)
  obtain ⟨b, off, rfl, hcell⟩ := hD.pos (by omega)
  have hck := hcell t ht
  have hck' : w.cell? ⟨b, off + t, none⟩ = some (.int .i64 (D[t]?.getD 0)) := by rw [hck]; simp
  have hkb : keepB n m C D ss t 3 E = keepsB (D[t]?.getD 0) E ss := by rw [keepB, HV.out]; simp
  rw [hkb]
  clear hkb
  generalize HG : D[t]?.getD 0 = g at *
  clear HG hck hcell bD
  have ht' : (t : Int) < (m : Int) := by omega
  go_enter Tryz.func64, Tryz.ntmps64
  go_wp2_with fail
  refine (strt_any _ _ _ _ _ _ C D _ (hC.below b0) (hD.below b0) hn hm).mono ?_
  rintro r w1 ⟨rfl, b1⟩
  have B1 := b0.trans (b1.mono b0.size)
  have q1 := q0.below b1
  have c1 := q1.cell 1
  simp only [List.getElem?_cons_zero, List.getElem?_cons_succ] at c1
  rw [H1.out]
  go_wp2_with fail
  refine (sparts_any _ _ _ ss _ HN.out (hF.below B1) hN1).mono ?_
  rintro r w2 ⟨rfl, rfl⟩
  rw [H2.out]
  go_wp2_with fail
  refine (in_any _ _ _ _).mono ?_
  rintro r w3 ⟨rfl, rfl⟩
  rw [H3.out]
  go_wp2_with fail
  refine (all_any _ _ _ E _ _ _ (hE.below B1) hk (by omega) (by omega)).mono ?_
  rintro r w4 ⟨rfl, rfl⟩
  rw [H4.out]
  have dk : w4.cell? ⟨b, off + t, none⟩ = some (.int .i64 g) := by rw [B1.cell (p := ⟨b, off + t, none⟩) (block_lt hck')]; exact hck'
  clear c1 b1 b0 q0 hC hD
  go_wp2_with fail
  go_loopw [9] (fun i wr => ∃ k : Nat, k ≤ N ∧ i = .int .i64 k ∧ Below w.heap.size w wr ∧ Cel wr w.heap.size [.slice a n cap, .slice (some ⟨b, off, none⟩) m cap'] 96 ∧ keepsB g E (ss.take k) = true) (fun i _ => N - (intOf i).toNat)
  case atStart => exact ⟨0, Nat.zero_le _, rfl, B1, q1, rfl⟩
  case round =>
    clear dk B1 q1
    obtain ⟨j, hj, rfl, hb, q1, hall⟩ := hrel
    have HA : Hid _ := hall
    clear hall
    by_cases hlt : j < N
    · obtain ⟨b2, off2, rfl, hc, hr⟩ := (hF.below hb) j (by rw [HN.out]; exact hlt)
      have H1 : Hid _ := keepsB_step (g := g) (E := E) (ss := ss) (k := j) (by rw [HN.out]; exact hlt) HA.out
      have H2 : Hid _ := keepsB_false (g := g) (E := E) (ss := ss) (k := j) (by rw [HN.out]; exact hlt)
      have H3 := partsB_at (ss := ss) (k := j) (by rw [HN.out]; exact hlt) HP.out
      have dk : wr.cell? ⟨b, off + t, none⟩ = some (.int .i64 g) := by rw [hb.cell (p := ⟨b, off + t, none⟩) (block_lt hck')]; exact hck'
      generalize HG : ss[j]?.getD noI = p at *
      clear HG hF HA
      obtain ⟨ga, gn, gcap, gx⟩ := p
      obtain ⟨e3, bx⟩ := okN_elim (by omega) H3
      obtain rfl : gn = 3 := by have : (gn : Int) = 3 := e3; omega
      have hP := bndP_of bx bE (by omega) (by omega)
      have hr1 : Ints wr ga 3 gx := hr.1
      have hE1 := hE.below hb
      have hc' : wr.cell? ⟨b2, off2 + j, none⟩ = some (.slice ga 3 gcap) := hc
      have H1' : Hid (inB (dot gx E 3) (-g) g = true → keepsB g E (ss.take (j + 1)) = true) := H1
      have H2' : Hid (inB (dot gx E 3) (-g) g = false → keepsB g E ss = false) := H2
      clear hc H3 e3 hr H1 H2 hck' hE
      have hlt' : (j : Int) < (N : Int) := by omega
      go_upto_region 6 with fail
      have hn0 : wr.cell? ⟨w.heap.size, 1, none⟩ = some (.slice (some ⟨b, off, none⟩) m cap') ∧ wr.cell? ⟨b, off + t, none⟩ = some (.int .i64 g) ∧ wr.cell? ⟨b2, off2 + j, none⟩ = some (.slice ga 3 gcap) := ⟨q1.cell 1, dk, hc'⟩
      go_region_held3 (fun w' => w'.cell? ⟨w.heap.size, 1, none⟩ = some (.slice (some ⟨b, off, none⟩) m cap') ∧ w'.cell? ⟨b, off + t, none⟩ = some (.int .i64 g) ∧ w'.cell? ⟨b2, off2 + j, none⟩ = some (.slice ga 3 gcap)) (first | with_reducible assumption | exact hn0)
        (first
          | (go_at_call 99
             refine (times5_any _ _ _ _ gx E _ _ (by exact hr1.below (Below.refl _ _).drew) (by exact hE1.below (Below.refl _ _).drew) hP (by omega) (by omega)).mono ?_
             rintro ee w3 ⟨rfl, b3⟩
             have b3' := below_of_drew b3
             have q3 := q1.below b3'
             have d3 := (b3'.cell (p := ⟨b, off + t, none⟩) (block_lt dk)).trans dk
             have e3 := (b3'.cell (p := ⟨b2, off2 + j, none⟩) (block_lt hc')).trans hc'
             have hn3 : w3.cell? ⟨w.heap.size, 1, none⟩ = some (.slice (some ⟨b, off, none⟩) m cap') ∧ w3.cell? ⟨b, off + t, none⟩ = some (.int .i64 g) ∧ w3.cell? ⟨b2, off2 + j, none⟩ = some (.slice ga 3 gcap) := ⟨q3.cell 1, d3, e3⟩)
          | (go_at_call 25
             refine (in_any _ _ _ _).mono ?_
             rintro ee w4 ⟨rfl, rfl⟩))
      have hb2 := hb.trans (b3'.mono hb.size)
      have hw : IntKind.i64.wrap (-g) = -g := wrap_id (by omega) (by omega)
      rw [hw]
      cases he : inB (dot gx E 3) (-g) g
      · go_wp2
        go_ret
        exact ⟨ret_bool (by rw [H2'.out he]), hb2⟩
      · go_wp2
        go_roundw
        case rel => exact ⟨j + 1, by omega, by go_num, hb2, q3, H1'.out he⟩
        case measure => simp [intOf]; omega
    · go_wp2
      go_ret
      exact ⟨ret_bool (by rw [keepsB_end (by rw [HN.out]; omega) HA.out]), hb⟩

/-- What hangs on what is held alone is the same of a copy. -/
theorem copies_pair {ss ts : List IV} (hl : ts.length = ss.length) (h : copiesIS ss ts) : ts.map (fun p => (p.n, p.x)) = ss.map (fun p => (p.n, p.x)) := by
  apply List.ext_getElem?
  intro i
  by_cases hi : i < ts.length
  · have h0 := h i hi
    have h1 := h0.1
    have h2 := h0.2
    rw [List.getElem?_eq_getElem hi, List.getElem?_eq_getElem (by omega)] at h1 h2
    simp only [Option.getD_some] at h1 h2
    rw [List.getElem?_map, List.getElem?_map, List.getElem?_eq_getElem hi, List.getElem?_eq_getElem (by omega)]
    simp [h1, h2]
  · rw [List.getElem?_eq_none (by simp; omega), List.getElem?_eq_none (by simp; omega)]
theorem partsB_copy {ss ts : List IV} (hl : ts.length = ss.length) (h : copiesIS ss ts) : partsB ts = partsB ss := by
  have e : ∀ l : List IV, partsB l = (l.map (fun p => (p.n, p.x))).all fun q => okN 3 10000000 q.1 q.2 := fun l => by rw [List.all_map]; rfl
  rw [e, e, copies_pair hl h]
theorem keepsB_copy {g : Int} {E : List Int} {ss ts : List IV} (hl : ts.length = ss.length) (h : copiesIS ss ts) : keepsB g E ts = keepsB g E ss := by
  have e : ∀ l : List IV, keepsB g E l = (l.map (fun p => (p.n, p.x))).all fun q => inB (dot q.2 E 3) (-g) g := fun l => by rw [List.all_map]; rfl
  rw [e, e, copies_pair hl h]
theorem viewB_copy {n m : Nat} {C D : List Int} {ss ts : List IV} {s : Int} {k : Nat} {E : List Int} (hl : ts.length = ss.length) (h : copiesIS ss ts) : viewB n m C D ts s k E = viewB n m C D ss s k E := by
  rw [viewB, viewB, partsB_copy hl h]
theorem keepB_copy {n m : Nat} {C D : List Int} {ss ts : List IV} {s : Int} {k : Nat} {E : List Int} (hl : ts.length = ss.length) (h : copiesIS ss ts) : keepB n m C D ts s k E = keepB n m C D ss s k E := by
  rw [keepB, keepB, viewB_copy hl h, keepsB_copy hl h]
theorem copies_sameI {ss ts us : List IV} {N : Nat} (h1 : ts.length = N) (h2 : us.length = N) (c1 : copiesIS ss ts) (c2 : copiesIS ss us) : ∀ i, i < N → sameI (ts[i]?.getD noI) (us[i]?.getD noI) := fun i hi => by
  have a := (c1 i (by omega)).2
  have b := (c2 i (by omega)).2
  show _ = _
  rw [a, b]
theorem Cel.two {w : World} {B : Nat} {v0 v1 : Value} {t : TypeId} (h : Cel w B [v0, v1] t) : w.cell? ⟨B, 0, none⟩ = some v0 ∧ w.cell? ⟨B, 1, none⟩ = some v1 := ⟨h.cell 0, h.cell 1⟩
theorem Cel.three {w : World} {B : Nat} {v0 v1 v2 : Value} {t : TypeId} (h : Cel w B [v0, v1, v2] t) : w.cell? ⟨B, 0, none⟩ = some v0 ∧ w.cell? ⟨B, 1, none⟩ = some v1 ∧ w.cell? ⟨B, 2, none⟩ = some v2 := ⟨h.cell 0, h.cell 1, h.cell 2⟩

end Go.Proofs.YtdigmokjedckeaaGreatDoor
