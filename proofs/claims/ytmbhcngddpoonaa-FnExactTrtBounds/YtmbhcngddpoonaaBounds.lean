/-
  The least and the most that a form may be over all sites: what both texts answer. Lengths at most 1048576.
-/
import Derived.Test.YtmbhcngddpoonaaKeepsS
import Derived.Test.YtmbhcngddpoonaaSum5
import Derived.Test.YtmbhcngddpoonaaPart
import Derived.Test.YtmbhcngddpoonaaHas
namespace Go.Proofs.Ytmbhcngddpoonaa
open Go.RowKit Go.Deep
set_option linter.unusedVariables false

theorem others_bnd {D : List Int} {s : Int} (bD : ∀ i : Nat, i < D.length → 0 ≤ D[i]?.getD 0 ∧ D[i]?.getD 0 ≤ 50) : ∀ k : Nat, k ≤ D.length → k ≤ 3 → 0 ≤ others D s k ∧ others D s k ≤ 50 * k
  | 0, _, _ => by simp [others]
  | k + 1, hk, h3 => by
    have ih := others_bnd (s := s) bD k (by omega) (by omega)
    have d := bD k (by omega)
    rw [others]
    split
    · omega
    · rw [IntWalk.wrap64_in _ ⟨by omega, by omega⟩]
      omega

theorem zero_part {C : List Int} (hl : C.length = 3) (b : bnd 10000000 C) : eqB (partL C) [0, 0, 0] = allB 0 C := by
  match C, hl with
  | [x, y, z], _ =>
    have b0 := b 0
    have b1 := b 1
    have b2 := b 2
    simp only [List.getElem?_cons_zero, List.getElem?_cons_succ, Option.getD_some] at b0 b1 b2
    have hs : sg [x, y, z] = 1 ∨ sg [x, y, z] = -1 := by unfold sg; split <;> simp
    have e : partL [x, y, z] = [wrap64 (sg [x, y, z] * x), wrap64 (sg [x, y, z] * y), wrap64 (sg [x, y, z] * z)] := rfl
    rw [e]
    generalize sg [x, y, z] = g at *
    rw [eqB, allB, Bool.eq_iff_iff, decide_eq_true_eq]
    simp only [List.cons.injEq, and_true, List.all_cons, List.all_nil, Bool.and_true, Bool.and_eq_true, inB_iff]
    rcases hs with rfl | rfl
    · rw [IntWalk.wrap64_in _ ⟨by omega, by omega⟩, IntWalk.wrap64_in _ ⟨by omega, by omega⟩, IntWalk.wrap64_in _ ⟨by omega, by omega⟩]
      omega
    · rw [IntWalk.wrap64_in _ ⟨by omega, by omega⟩, IntWalk.wrap64_in _ ⟨by omega, by omega⟩, IntWalk.wrap64_in _ ⟨by omega, by omega⟩]
      omega

/-- What must be ok. -/
def bokB (n m : Nat) (C D : List Int) (ss : List IV) (s : Int) (k : Nat) (E : List Int) (fn fm : Nat) (FC FD : List Int) (FK : Int) (l : Nat) (U : List Int) : Bool := viewB n m C D ss s k E && (formB fn fm FC FD FK && okN 2 9 l U)
/-- The least and the most, if a site knows it. -/
def bnds (m : Nat) (C D : List Int) (ss : List IV) (s : Int) (E : List Int) (FC FD : List Int) (FK : Int) (U : List Int) : Int × Int × Bool :=
  if eqB (partL FC) [0, 0, 0] = true then (atV FC FD FK (List.zipWith (· + ·) C E) U, atV FC FD FK (List.zipWith (· + ·) C E) U, true)
  else if hasI ss (partL FC) < 0 then (0, 0, false)
  else (atV FC FD FK (List.zipWith (· + ·) C E) U - others D s m, atV FC FD FK (List.zipWith (· + ·) C E) U + others D s m, true)
def bansB (n m : Nat) (C D : List Int) (ss : List IV) (s : Int) (k : Nat) (E : List Int) (fn fm : Nat) (FC FD : List Int) (FK : Int) (l : Nat) (U : List Int) : Int × Int × Bool :=
  if bokB n m C D ss s k E fn fm FC FD FK l U = true then bnds m C D ss s E FC FD FK U else (0, 0, false)
def ansV (x : Int × Int × Bool) : Value := .tuple #[.int .i64 x.1, .int .i64 x.2.1, .bool x.2.2]

theorem hasI_copy {ss ts : List IV} {part : List Int} (hl : ts.length = ss.length) (h : copiesIS ss ts) : hasI ts part = hasI ss part := by
  have e : ∀ l : List IV, l.map IV.x = (l.map (fun p => (p.n, p.x))).map (fun q => q.2) := fun l => by rw [List.map_map]; rfl
  rw [hasI, hasI, e, e, copies_pair hl h]
theorem bansB_copy {n m : Nat} {C D : List Int} {ss ts : List IV} {s : Int} {k : Nat} {E : List Int} {fn fm : Nat} {FC FD : List Int} {FK : Int} {l : Nat} {U : List Int} (hl : ts.length = ss.length) (h : copiesIS ss ts) : bansB n m C D ts s k E fn fm FC FD FK l U = bansB n m C D ss s k E fn fm FC FD FK l U := by
  rw [bansB, bansB, bokB, bokB, viewB_copy hl h, bnds, bnds, hasI_copy hl h]

theorem JA.slice3 {w W : World} {v : Value} {xs : List Int} (j : JA w v xs W) (hn : xs.length = 3) : ∃ a cap, v = .slice a 3 cap ∧ Ints W a 3 xs := by
  obtain ⟨a, cap, B, rfl, ho, _⟩ := j.ownx hn
  exact ⟨a, cap, rfl, ho.ints⟩

set_option maxHeartbeats 3200000 in
theorem vbounds_any (a : Option Addr) (cap : Nat) (c : Option Addr) (m cap' : Nat) (ad : Option Addr) (N pc : Nat) (s : Int) (e : Option Addr) (ec : Nat) (u : Option Addr) (uc : Nat) (fa : Option Addr) (fcap : Nat) (fc : Option Addr) (fcap' : Nat) (FK : Int) (C D E U FC FD : List Int) (ss : List IV) (w : World)
    (hC : Ints w a 3 C) (hD : Ints w c m D) (hE : Ints w e 3 E) (hU : Ints w u 2 U) (hA : Ints w fa 3 FC) (hB : Ints w fc 2 FD) (hN : ss.length = N) (hF : ISG w ad ss) (hN1 : N ≤ 1048576) (hm3 : m ≤ 3)
    (bC : bnd 10000 C) (bE : bnd 20000 E) (bU : bnd 9 U) (bA : bnd 10000000 FC) (bB : bnd 10000000 FD) (bK : -10000000 ≤ FK ∧ FK ≤ 10000000) (bD : ∀ i : Nat, i < D.length → 0 ≤ D[i]?.getD 0 ∧ D[i]?.getD 0 ≤ 50) :
    Calls Try.prog 61 #[viewV a 3 cap c m cap' ad N pc s e 3 ec u 2 uc, formV fa 3 fcap fc 2 fcap' FK] w fun r w' => ∃ x, x = bnds m C D ss s E FC FD FK U ∧ r = .returned (.agg #[.int .i64 x.1, .int .i64 x.2.1, .bool x.2.2]) ∧ Below w.heap.size w w' := by
  have HN : Hid (ss.length = N) := hN
  have HZ : Hid ((List.zipWith (· + ·) C E).length = 3) := by show _ = _; rw [List.length_zipWith, hC.1, hE.1]; rfl
  have bV : bnd 30000 (List.zipWith (· + ·) C E) := fun i => by have := bnd_zip (by rw [hC.1, hE.1]) bC bE i; omega
  have ob := others_bnd (s := s) bD m (by rw [hD.1]; exact Nat.le_refl _) hm3
  have p1 := dot_bnd (bndP_of bA bV (by omega) (by omega)) 3
  have p2 := dot_bnd (bndP_of bB bU (by omega) (by omega)) 2
  have HP : Hid (eqB (partL FC) [0, 0, 0] = allB 0 FC) := zero_part hA.1 bA
  obtain ⟨x, hx⟩ : ∃ x, x = bnds m C D ss s E FC FD FK U := ⟨_, rfl⟩
  have HX : Hid _ := hx
  have HV : Hid (bnd 30000 (List.zipWith (· + ·) C E)) := bV
  obtain ⟨n, hn⟩ : ∃ n, n = atV FC FD FK (List.zipWith (· + ·) C E) U := ⟨_, rfl⟩
  obtain ⟨o, ho⟩ : ∃ o, o = others D s m := ⟨_, rfl⟩
  have n1 : -10000000000000 ≤ n := by rw [hn]; unfold atV; omega
  have n2 : n ≤ 10000000000000 := by rw [hn]; unfold atV; omega
  rw [← ho] at ob
  rw [bnds, ← hn, ← ho] at hx
  have HI : Hid _ := hx
  have HNN : Hid _ := hn
  have HO : Hid _ := ho
  obtain ⟨o1, o2⟩ := ob
  have o3 : o ≤ 150 := by omega
  have BCE : Hid (bnd 10000 C ∧ bnd 20000 E) := ⟨bC, bE⟩
  clear hN hx hn ho o2 p1 p2 bV bD bC bE
  have q_0 := ((Cel.new w [.slice a 3 cap, .slice c m cap', .slice ad N pc, .int .i64 s, .slice e 3 ec, .slice u 2 uc] 77).alloc (.cells #[.slice fa 3 fcap, .slice fc 2 fcap', .int .i64 FK] 48)).alloc (.cells #[.int .i64 0, .int .i64 0, .bool false] 86)
  have f_0 := (Cel.new (w.alloc (.cells #[.slice a 3 cap, .slice c m cap', .slice ad N pc, .int .i64 s, .slice e 3 ec, .slice u 2 uc] 77)) [.slice fa 3 fcap, .slice fc 2 fcap', .int .i64 FK] 48).alloc (.cells #[.int .i64 0, .int .i64 0, .bool false] 86)
  have r_0 := Cel.new ((w.alloc (.cells #[.slice a 3 cap, .slice c m cap', .slice ad N pc, .int .i64 s, .slice e 3 ec, .slice u 2 uc] 77)).alloc (.cells #[.slice fa 3 fcap, .slice fc 2 fcap', .int .i64 FK] 48)) [.int .i64 0, .int .i64 0, .bool false] 86
  have B_0 := (((Below.refl w.heap.size w).alloc (Nat.le_refl _) (.cells #[.slice a 3 cap, .slice c m cap', .slice ad N pc, .int .i64 s, .slice e 3 ec, .slice u 2 uc] 77)).alloc (by simp) (.cells #[.slice fa 3 fcap, .slice fc 2 fcap', .int .i64 FK] 48)).alloc (by simp; omega) (.cells #[.int .i64 0, .int .i64 0, .bool false] 86)
  rw [World.size_alloc] at f_0
  rw [World.size_alloc, World.size_alloc] at r_0
  go_enter Try.func61, Try.ntmps61
  go_upto_region 1 with fail
  obtain ⟨W, hW⟩ : ∃ W, W = ((w.alloc (.cells #[.slice a 3 cap, .slice c m cap', .slice ad N pc, .int .i64 s, .slice e 3 ec, .slice u 2 uc] 77)).alloc (.cells #[.slice fa 3 fcap, .slice fc 2 fcap', .int .i64 FK] 48)).alloc (.cells #[.int .i64 0, .int .i64 0, .bool false] 86) := ⟨_, rfl⟩
  rw [← hW] at q_0 f_0 r_0 B_0 ⊢
  clear hW
  have CC : Hid (∀ X : World, Cel X w.heap.size [.slice a 3 cap, .slice c m cap', .slice ad N pc, .int .i64 s, .slice e 3 ec, .slice u 2 uc] 77 → Cel X (w.heap.size + 1) [.slice fa 3 fcap, .slice fc 2 fcap', .int .i64 FK] 48 → X.cell? ⟨w.heap.size, 0, none⟩ = some (.slice a 3 cap) ∧ X.cell? ⟨w.heap.size, 1, none⟩ = some (.slice c m cap') ∧ X.cell? ⟨w.heap.size, 2, none⟩ = some (.slice ad N pc) ∧ X.cell? ⟨w.heap.size, 3, none⟩ = some (.int .i64 s) ∧ X.cell? ⟨w.heap.size, 4, none⟩ = some (.slice e 3 ec) ∧ X.cell? ⟨w.heap.size, 5, none⟩ = some (.slice u 2 uc) ∧ X.cell? ⟨w.heap.size + 1, 0, none⟩ = some (.slice fa 3 fcap) ∧ X.cell? ⟨w.heap.size + 1, 1, none⟩ = some (.slice fc 2 fcap') ∧ X.cell? ⟨w.heap.size + 1, 2, none⟩ = some (.int .i64 FK)) := fun X h1 h2 => ⟨h1.cell 0, h1.cell 1, h1.cell 2, h1.cell 3, h1.cell 4, h1.cell 5, h2.cell 0, h2.cell 1, h2.cell 2⟩
  have hn0 := CC.out W q_0 f_0
  go_region_held3 (fun w' => w'.cell? ⟨w.heap.size, 0, none⟩ = some (.slice a 3 cap) ∧ w'.cell? ⟨w.heap.size, 1, none⟩ = some (.slice c m cap') ∧ w'.cell? ⟨w.heap.size, 2, none⟩ = some (.slice ad N pc) ∧ w'.cell? ⟨w.heap.size, 3, none⟩ = some (.int .i64 s) ∧ w'.cell? ⟨w.heap.size, 4, none⟩ = some (.slice e 3 ec) ∧ w'.cell? ⟨w.heap.size, 5, none⟩ = some (.slice u 2 uc) ∧ w'.cell? ⟨w.heap.size + 1, 0, none⟩ = some (.slice fa 3 fcap) ∧ w'.cell? ⟨w.heap.size + 1, 1, none⟩ = some (.slice fc 2 fcap') ∧ w'.cell? ⟨w.heap.size + 1, 2, none⟩ = some (.int .i64 FK)) (first | with_reducible assumption | exact hn0)
    (first
      | (go_at_call 68
         refine (sums_any _ _ _ _ C E _ _ _ (by exact hC.below B_0.drew) (by exact hE.below B_0.drew) BCE.out.1 BCE.out.2 (by omega) (by omega)).mono ?_
         rintro ee w1 ⟨va, vc, VB, rfl, bd_1, hO, -⟩
         have b_1 := below_of_drew bd_1
         have B_1 := B_0.trans (b_1.mono B_0.size)
         have q_1 := q_0.below b_1
         have f_1 := f_0.below b_1
         have r_1 := r_0.below b_1
         have hn1 := CC.out w1 q_1 f_1)
      | (go_at_call 78
         refine (iat30_any _ _ _ _ _ FC FD _ _ _ _ (List.zipWith (· + ·) C E) U _ (by exact hA.below B_1) (by exact hB.below B_1) hO.ints (by exact hU.below B_1) bA bB bK HV.out bU).mono ?_
         rintro ee w2 ⟨rfl, b_2⟩
         rw [← HNN.out]
         have B_2 := B_1.trans (b_2.mono B_1.size)
         have q_2 := q_1.below b_2
         have f_2 := f_1.below b_2
         have r_2 := r_1.below b_2
         have hn2 := CC.out w2 q_2 f_2))
  clear hn0 hn1 hO bd_1 b_1 b_2 B_0 B_1 q_0 q_1 f_0 f_1 r_0 r_1
  obtain ⟨k0, k1, k2, k3, k4, k5, k6, k7, k8⟩ := hn2
  cases hz : allB 0 FC
  · go_wp2_with fail
    refine (within_any _ _ _ FC _ _ (hA.below B_2) (by omega) (by omega) (by omega)).mono ?_
    rintro ee w3 ⟨rfl, rfl⟩
    rw [hz]
    go_upto_region 4 with fail
    have hn3 := CC.out _ q_2 f_2
    go_region_held3 (fun w' => w'.cell? ⟨w.heap.size, 0, none⟩ = some (.slice a 3 cap) ∧ w'.cell? ⟨w.heap.size, 1, none⟩ = some (.slice c m cap') ∧ w'.cell? ⟨w.heap.size, 2, none⟩ = some (.slice ad N pc) ∧ w'.cell? ⟨w.heap.size, 3, none⟩ = some (.int .i64 s) ∧ w'.cell? ⟨w.heap.size, 4, none⟩ = some (.slice e 3 ec) ∧ w'.cell? ⟨w.heap.size, 5, none⟩ = some (.slice u 2 uc) ∧ w'.cell? ⟨w.heap.size + 1, 0, none⟩ = some (.slice fa 3 fcap) ∧ w'.cell? ⟨w.heap.size + 1, 1, none⟩ = some (.slice fc 2 fcap') ∧ w'.cell? ⟨w.heap.size + 1, 2, none⟩ = some (.int .i64 FK)) (first | with_reducible assumption | exact hn3)
      (first
        | (go_at_call 80
           refine (ipart_any _ _ _ _ _ _ _ FC _ (by exact hA.below B_2.drew) (by omega)).mono ?_
           rintro ee w4 ⟨rfl, bd_4, kp⟩
           have b_4 := below_of_drew bd_4
           have B_4 := B_2.trans (b_4.mono B_2.size)
           have q_4 := q_2.below b_4
           have f_4 := f_2.below b_4
           have r_4 := r_2.below b_4
           have hn4 := CC.out w4 q_4 f_4)
        | (go_at_call 79
           refine (ihas_any _ _ _ ss _ _ _ (partL FC) _ HN.out (by exact hF.below B_4) hN1 (by exact kp.ints' (by rw [part_len]; exact hA.1)) (by omega)).mono ?_
           rintro ee w5 ⟨rfl, b_5⟩
           have B_5 := B_4.trans (b_5.mono B_4.size)
           have q_5 := q_4.below b_5
           have f_5 := f_4.below b_5
           have r_5 := r_4.below b_5
           have hn5 := CC.out w5 q_5 f_5))
    clear hn3 hn4 bd_4 b_4 b_5 B_2 B_4 q_2 q_4 f_2 f_4 r_2 r_4 kp k0 k1 k2 k3 k4 k5 k6 k7 k8
    obtain ⟨k0, k1, k2, k3, k4, k5, k6, k7, k8⟩ := hn5
    have d0 := r_5.cell 0
    have d1 := r_5.cell 1
    have d2 := r_5.cell 2
    have e0 := r_5.free 0
    have e1 := r_5.free 1
    have e2 := r_5.free 2
    have lt := r_5.lt
    simp only [List.getElem?_cons_zero, List.getElem?_cons_succ] at d0 d1 d2
    by_cases hh : hasI ss (partL FC) < 0
    · have X : x = (0, 0, false) := by rw [HI.out, HP.out, hz, if_neg (by decide), if_pos hh]
      have HX2 : Hid _ := X
      clear X
      go_wp2
      refine bodyPost_ret (v := .agg #[.int .i64 0, .int .i64 0, .bool false]) (by simp [results, Try.results61, go_sem, d0, d1, d2]) rfl ⟨x, HX.out, by rw [HX2.out], ?_⟩
      exact (((B_5.setCell (by simp only []; omega) _).setCell (by simp only []; omega) _).setCell (by simp only []; omega) _)
    · have X : x = (n - o, n + o, true) := by rw [HI.out, HP.out, hz, if_neg (by decide), if_neg hh]
      have HX2 : Hid _ := X
      clear X
      go_wp2_with fail
      refine (iothers_any _ _ _ _ _ _ D s _ (hD.below B_5) (by omega)).mono ?_
      rintro ee w6 ⟨rfl, b_6⟩
      rw [← HO.out]
      have B_6 := B_5.trans (b_6.mono B_5.size)
      have r_6 := r_5.below b_6
      clear d0 d1 d2 e0 e1 e2 lt
      have d0 := r_6.cell 0
      have d1 := r_6.cell 1
      have d2 := r_6.cell 2
      have e0 := r_6.free 0
      have e1 := r_6.free 1
      have e2 := r_6.free 2
      have lt := r_6.lt
      simp only [List.getElem?_cons_zero, List.getElem?_cons_succ] at d0 d1 d2
      go_wp2
      refine bodyPost_ret (v := .agg #[.int .i64 (n - o), .int .i64 (n + o), .bool true]) (by simp [results, Try.results61, go_sem, d0, d1, d2]) rfl ⟨x, HX.out, by rw [HX2.out], ?_⟩
      exact (((B_6.setCell (by simp only []; omega) _).setCell (by simp only []; omega) _).setCell (by simp only []; omega) _)
  · have X : x = (n, n, true) := by rw [HI.out, HP.out, hz, if_pos rfl]
    have HX2 : Hid _ := X
    clear X
    go_wp2_with fail
    refine (within_any _ _ _ FC _ _ (hA.below B_2) (by omega) (by omega) (by omega)).mono ?_
    rintro ee w3 ⟨rfl, rfl⟩
    rw [hz]
    have d0 := r_2.cell 0
    have d1 := r_2.cell 1
    have d2 := r_2.cell 2
    have e0 := r_2.free 0
    have e1 := r_2.free 1
    have e2 := r_2.free 2
    have lt := r_2.lt
    simp only [List.getElem?_cons_zero, List.getElem?_cons_succ] at d0 d1 d2
    go_wp2
    refine bodyPost_ret (v := .agg #[.int .i64 n, .int .i64 n, .bool true]) (by simp [results, Try.results61, go_sem, d0, d1, d2]) rfl ⟨x, HX.out, by rw [HX2.out], ?_⟩
    exact (((B_2.setCell (by simp only []; omega) _).setCell (by simp only []; omega) _).setCell (by simp only []; omega) _)

end Go.Proofs.Ytmbhcngddpoonaa
