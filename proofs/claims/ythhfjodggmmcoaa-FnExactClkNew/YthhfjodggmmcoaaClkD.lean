/-
  The clerk at its beginning, as the program makes it. No condition.
-/
import Derived.Test.YthhfjodggmmcoaaClkC
namespace Go.Proofs.Ythhfjodggmmcoaa
open Go.RowKit Go.Deep
set_option linter.unusedVariables false
set_option maxRecDepth 100000

set_option maxHeartbeats 6400000 in
theorem iclknew_any (cl : Int) (ad : Option Addr) (N cap : Nat) (ss : List L2V) (ga : Option Addr) (gn gc : Nat) (G : List Int) (sa : Option Addr) (sn sc : Nat) (S : List Int) (w : World) (h : PlAt w ad N ss ga gn G sa sn S) :
    Calls Try.prog 12 #[plV cl ad N cap ga gn gc sa sn sc] w fun e w' => ClkR w w' e (plnB cl N ss gn G sn S) cl gn S := by
  have n0 := (BP.new w [.int .i64 cl, .slice ad N cap, .slice ga gn gc, .slice sa sn sc] 35).alloc (.cells #[.bool false, .int .i64 0, .slice none 0 0, .slice none 0 0, .slice none 0 0, .slice none 0 0] 31)
  have x0 := Cel.new (w.alloc (.cells #[.int .i64 cl, .slice ad N cap, .slice ga gn gc, .slice sa sn sc] 35)) [.bool false, .int .i64 0, .slice none 0 0, .slice none 0 0, .slice none 0 0, .slice none 0 0] 31
  rw [World.size_alloc] at x0
  obtain ⟨i0, hi, hz0, hz1, hz2⟩ := info_parts Try.infoInt
  obtain ⟨j0, hj, hy0, hy1, hy2⟩ := info_parts Try.infoDone
  obtain ⟨k0, hk, hx0, hx1, hx2⟩ := info_parts Try.infoGot
  go_enter Try.func12, Try.ntmps12
  go_wp2_with fail
  refine (iplnok_any cl _ _ _ ss _ _ _ G _ _ _ S _ (h.below n0.b)).mono ?_
  rintro e W0 ⟨rfl, b1⟩
  have n1 := n0.below b1
  have x1 := x0.below b1
  have hbW := n1.b
  have hS := h.s.below hbW
  have hB : Hid (∀ b, plnB cl N ss gn G sn S = b → (b = true → sn = 3 ∧ (1 ≤ cl ∧ cl ≤ 4) ∧ (1 ≤ gn ∧ gn ≤ 3))) := fun b hb hbt => by
    subst hbt
    exact ⟨pln_three hb, pln_parts hb⟩
  obtain ⟨b, hb⟩ : ∃ b, plnB cl N ss gn G sn S = b := ⟨_, rfl⟩
  have hB' := hB.out b hb
  have HBB : Hid (plnB cl N ss gn G sn S = b) := hb
  rw [hb]
  clear hB hb n0 x0 b1 h
  cases b with
  | false =>
    obtain ⟨q0, q1, q2, q3, q4, q5⟩ := x1.six6
    have y0 := x1.free 0
    have y1 := x1.free 1
    have y2 := x1.free 2
    have y3 := x1.free 3
    have y4 := x1.free 4
    have y5 := x1.free 5
    have lx := x1.lt
    obtain ⟨x', T'⟩ := put6 x1 rfl (.bool false) (.int .i64 0) (.slice none 0 0) (.slice none 0 0) (.slice none 0 0) (.slice none 0 0)
    obtain ⟨r0, r1, r2, r3, r4, r5⟩ := x'.six6
    go_wp2
    refine bodyPost_ret (v := clkV false 0 none 0 0 none 0 0 none 0 0) (by simp [results, Try.results12, go_sem, r0, r1, r2, r3, r4, r5]) rfl ?_
    rw [HBB.out]
    exact ⟨none, 0, 0, none, 0, 0, none, 0, 0, 0, 0, 0, [], rfl, hbW.trans (T'.below hbW.size (fun k hk => by omega)), ⟨OwnX.nil _ _ _, DX.zero _ _ _ _, GX.zero _ _ _ _, fun h => by omega, fun h => by omega, fun h => by omega, by omega, by omega, by omega⟩, fun h => by omega, fun h => by omega, fun h => by omega, rfl, rfl, rfl, rfl⟩
  | true =>
    obtain ⟨e3, ⟨h1, h4⟩, g1, g3⟩ := hB' rfl
    subst e3
    clear hB'
    have HMD : Hid _ := madeD cl.toNat
    have HMG : Hid _ := madeG gn
    have KP : Hid (∀ W, Below W0.heap.size W0 W → Cel W w.heap.size [.int .i64 cl, .slice ad N cap, .slice ga gn gc, .slice sa 3 sc] 35) := fun W hW => n1.p.below hW
    have HX : Hid (∀ W, Below W0.heap.size W0 W → Cel W (w.heap.size + 1) [.bool false, .int .i64 0, .slice none 0 0, .slice none 0 0, .slice none 0 0, .slice none 0 0] 31) := fun W hW => x1.below hW
    have lx1 := x1.lt
    have lx0 := n1.p.lt
    obtain ⟨sb, so, rfl, hSc⟩ := hS.pos (by omega)
    have HN : Hid (∀ W, Below W0.heap.size W0 W → ∀ j u, (S.map (Value.int .i64))[j]? = some u → W.cell? ((⟨sb, so, none⟩ : Addr).add j) = some u) := fun W hW => newsI (hS.below hW).pos' hS.1
    have c0 : Below W0.heap.size W0 W0.drew := (Below.refl _ _).drew
    have hSS : (W0.drew.cell? ⟨w.heap.size, 0, none⟩ = some (.int .i64 cl) ∧ W0.drew.cell? ⟨w.heap.size, 1, none⟩ = some (.slice ad N cap) ∧ W0.drew.cell? ⟨w.heap.size, 2, none⟩ = some (.slice ga gn gc) ∧ W0.drew.cell? ⟨w.heap.size, 3, none⟩ = some (.slice (some ⟨sb, so, none⟩) 3 sc)) ∧ True := ⟨(KP.out _ c0).quadP, trivial⟩
    clear n1 x1 hSc
    go_upto_region 3 with fail
    refine wp_region_ends (fun w' => w'.cell? ⟨w.heap.size, 0, none⟩ = some (.int .i64 cl) ∧ w'.cell? ⟨w.heap.size, 1, none⟩ = some (.slice ad N cap) ∧ w'.cell? ⟨w.heap.size, 2, none⟩ = some (.slice ga gn gc) ∧ w'.cell? ⟨w.heap.size, 3, none⟩ = some (.slice (some ⟨sb, so, none⟩) 3 sc)) (fun _ => True) 11 (by kernel_rfl) ?_
    refine wpAnyE_take0 (i := 0) (v := ?v0) rfl (by kernel_rfl) (by kernel_rfl) (by kernel_rfl) (by decide) (fun _ _ _ h => h) (Or.inl ⟨by rfl, ?hy0⟩) hSS ?_
    case hy0 => (intro wz hSw; (try dsimp only at hSw); go_simp; try (with_reducible rfl))
    refine wpAnyE_take0 (i := 1) (v := ?v1) rfl (by kernel_rfl) (by kernel_rfl) (by kernel_rfl) (by decide) (fun _ _ _ h => h) (Or.inl ⟨by rfl, ?hy1⟩) hSS ?_
    case hy1 => (intro wz hSw; (try dsimp only at hSw); go_simp; try (with_reducible rfl))
    refine wpAnyE_take0 (i := 3) (v := ?v3) rfl (by kernel_rfl) (by kernel_rfl) (by kernel_rfl) (by decide) (fun _ _ _ h => h) (Or.inl ⟨by rfl, ?hy3⟩) hSS ?_
    case hy3 => (intro wz hSw; (try dsimp only at hSw); go_simp; try (with_reducible rfl))
    refine wpAnyE_take0 (i := 4) (v := ?v4) rfl (by kernel_rfl) (by kernel_rfl) (by kernel_rfl) (by decide) (fun _ _ _ h => h) (Or.inl ⟨by rfl, ?hy4⟩) hSS ?_
    case hy4 => (intro wz hSw; (try dsimp only at hSw); go_simp; try (with_reducible rfl))
    refine wpAnyE_take0 (i := 6) (v := ?v6) rfl (by kernel_rfl) (by kernel_rfl) (by kernel_rfl) (by decide) (fun _ _ _ h => h) (Or.inl ⟨by rfl, ?hy6⟩) hSS ?_
    case hy6 => (intro wz hSw; (try dsimp only at hSw); go_simp; try (with_reducible rfl))
    refine wpAnyE_take0 (i := 7) (v := ?v7) rfl (by kernel_rfl) (by kernel_rfl) (by kernel_rfl) (by decide) (fun _ _ _ h => h) (Or.inl ⟨by rfl, ?hy7⟩) hSS ?_
    case hy7 => (intro wz hSw; (try dsimp only at hSw); go_simp; try (with_reducible rfl))
    refine wpAnyE_take0 (i := 8) (v := .int .i64 gn) rfl (by kernel_rfl) (by kernel_rfl) (by kernel_rfl) (by decide) (fun _ _ _ h => h) (Or.inl ⟨by rfl, ?hy8⟩) hSS ?_
    case hy8 => (intro wz hSw; (try dsimp only at hSw); go_simp; try (with_reducible rfl))
    simp only [Act.put, List.setIfInBounds_toArray, List.set_cons_succ, List.set_cons_zero, List.getElem_toArray, List.getElem_cons_succ, List.getElem_cons_zero]
    clear hSS
    generalize W0.drew = Wd at *
    have zc := c0.size
    refine wpAnyE_three (i := 2) (j := 5) (k := 9) (by kernel_rfl) rfl rfl rfl (fun K hK => ?_) (fun K hK => ?_) (fun K hK => ?_)
    · go_simp
      refine (clone_any _ _ _ S _ (hS.below c0) (by omega) (by omega)).mono ?_
      rintro ee u1 ⟨v, rfl, jA⟩
      obtain ⟨aA, cA, A, rfl, oA, gA⟩ := jA.ownx hS.1
      have gA' := gA (by omega)
      have b1 := jA.b
      clear jA gA
      have z1 := b1.size
      have loA := oA.lt (by omega)
      have c1 : Below W0.heap.size W0 u1 := c0.trans (b1.mono c0.size)
      (try dsimp only)
      refine hK.out _ _ ⟨(KP.out _ c1).quadP, fun _ => trivial⟩ ?_
      clear hK K
      refine wpAnyE_two (i := 5) (j := 9) (by kernel_rfl) rfl rfl (fun K hK => ?_) (fun K hK => ?_)
      · refine if_then (by kernel_rfl) ?_
        refine wp_make_own (.tmp 11) (.tmp 11) 27 rfl u1.heap.size 123 j0 _ 3 Try.underlying27 hj hy0 hy1 _ _ cl.toNat rfl rfl (by omega) (by omega) (by rw [hy2]; omega) (by unfold maxLen; omega) (Nat.le_refl _) ?_
        intro u2 hown hgrow
        have b2 : Below u1.heap.size u1 u2 := (Below.refl _ _).grown hgrow (Nat.le_refl _) (by simp)
        obtain ⟨oD, gD⟩ := own_d hown HMD.out
        clear hown hgrow
        have oA := oA.below b2
        have z2 := b2.size
        have loA := oA.lt (by omega)
        have loD := oD.lt (by omega)
        have c2 : Below W0.heap.size W0 u2 := c1.trans (b2.mono c1.size)
        (try dsimp only)
        refine hK.out _ _ ⟨(KP.out _ c2).quadP, fun _ => trivial⟩ ?_
        clear hK K
        refine wpAnyE_one (i := 9) (by kernel_rfl) rfl (fun K hK => ?_)
        refine if_then (by kernel_rfl) ?_
        refine wp_make_own (.tmp 15) (.tmp 15) 29 rfl u2.heap.size 125 k0 _ 3 Try.underlying29 hk hx0 hx1 _ _ gn rfl rfl (by omega) (by omega) (by rw [hx2]; omega) (by unfold maxLen; omega) (Nat.le_refl _) ?_
        intro u3 hown hgrow
        have b3 : Below u2.heap.size u2 u3 := (Below.refl _ _).grown hgrow (Nat.le_refl _) (by simp)
        obtain ⟨oI, gI⟩ := own_g hown HMG.out
        clear hown hgrow
        have oA := oA.below b3
        have oD := oD.below b3
        have z3 := b3.size
        have loA := oA.lt (by omega)
        have loD := oD.lt (by omega)
        have loI := oI.lt (by omega)
        have c3 : Below W0.heap.size W0 u3 := c2.trans (b3.mono c2.size)
        (try dsimp only)
        refine hK.out _ _ ⟨(KP.out _ c3).quadP, fun _ => trivial⟩ ?_
        clear hK K
        have x := HX.out _ c3
        obtain ⟨q0, q1, q2, q3, q4, q5⟩ := x.six6
        have y0 := x.free 0
        have y1 := x.free 1
        have y2 := x.free 2
        have y3 := x.free 3
        have y4 := x.free 4
        have y5 := x.free 5
        have lx := x.lt
        obtain ⟨x', T'⟩ := put6 x rfl (.bool true) (.int .i64 0) (.slice aA 3 cA) (.slice (some ⟨u1.heap.size, 0, none⟩) cl.toNat cl.toNat) (.slice none 0 0) (.slice (some ⟨u2.heap.size, 0, none⟩) gn gn)
        have bb := (hbW.trans (c3.mono hbW.size)).trans (T'.below (B := w.heap.size) (by omega) (fun k hk => by omega))
        refine wpAnyE_one (i := 10) (by kernel_rfl) rfl (fun K hK => ?_)
        go_simp
        refine hK.out _ _ ⟨(KP.out _ c3).quadP, fun _ => trivial⟩ ?_
        clear hK K
        refine wpAnyE_one (i := 11) (by kernel_rfl) rfl (fun K hK => ?_)
        go_simp
        refine hK.out _ _ ⟨((KP.out _ c3).touch T' (fun hh => by have := hh; omega)).quadP, fun h => absurd (show true = false from h) (by decide)⟩ ?_
        clear hK K
        refine wpAnyE_done (by kernel_rfl) ?_ _
        have oA' := oA.touch T' (fun _ hh => by have := hh; omega)
        have oI' := oI.touch T' (fun _ hh => by have := hh; omega)
        have oD' := oD.touch T' (fun _ hh => by have := hh; omega)
        obtain ⟨r0, r1, r2, r3, r4, r5⟩ := x'.six6
        clear q0 q1 q2 q3 q4 q5 y0 y1 y2 y3 y4 y5 x oA oI oD
        generalize ((((((u3.setCell ⟨w.heap.size + 1, 0, none⟩ (.bool true)).setCell ⟨w.heap.size + 1, 1, none⟩ (.int .i64 0)).setCell ⟨w.heap.size + 1, 2, none⟩ (.slice aA 3 cA)).setCell ⟨w.heap.size + 1, 3, none⟩ (.slice (some ⟨u1.heap.size, 0, none⟩) cl.toNat cl.toNat)).setCell ⟨w.heap.size + 1, 4, none⟩ (.slice none 0 0)).setCell ⟨w.heap.size + 1, 5, none⟩ (.slice (some ⟨u2.heap.size, 0, none⟩) gn gn)) = V at *
        go_wp2
        refine bodyPost_ret (v := clkV true 0 aA 3 cA (some ⟨u1.heap.size, 0, none⟩) cl.toNat cl.toNat (some ⟨u2.heap.size, 0, none⟩) gn gn) (by simp [results, Try.results12, go_sem, r0, r1, r2, r3, r4, r5]) rfl ?_
        rw [HBB.out]
        exact ⟨_, A, _, _, u1.heap.size, _, _, u2.heap.size, _, 3, cl.toNat, gn, S, rfl, bb, ⟨oA', oD', oI', fun _ _ => by omega, fun _ _ => by omega, fun _ _ => by omega, by omega, by omega, by omega⟩, fun _ => by omega, fun _ => by omega, fun _ => by omega, rfl, rfl, rfl, rfl⟩
      · refine if_then (by kernel_rfl) ?_
        refine wp_make_own (.tmp 15) (.tmp 15) 29 rfl u1.heap.size 125 k0 _ 3 Try.underlying29 hk hx0 hx1 _ _ gn rfl rfl (by omega) (by omega) (by rw [hx2]; omega) (by unfold maxLen; omega) (Nat.le_refl _) ?_
        intro u2 hown hgrow
        have b2 : Below u1.heap.size u1 u2 := (Below.refl _ _).grown hgrow (Nat.le_refl _) (by simp)
        obtain ⟨oI, gI⟩ := own_g hown HMG.out
        clear hown hgrow
        have oA := oA.below b2
        have z2 := b2.size
        have loA := oA.lt (by omega)
        have loI := oI.lt (by omega)
        have c2 : Below W0.heap.size W0 u2 := c1.trans (b2.mono c1.size)
        (try dsimp only)
        refine hK.out _ _ ⟨(KP.out _ c2).quadP, fun _ => trivial⟩ ?_
        clear hK K
        refine wpAnyE_one (i := 5) (by kernel_rfl) rfl (fun K hK => ?_)
        refine if_then (by kernel_rfl) ?_
        refine wp_make_own (.tmp 11) (.tmp 11) 27 rfl u2.heap.size 123 j0 _ 3 Try.underlying27 hj hy0 hy1 _ _ cl.toNat rfl rfl (by omega) (by omega) (by rw [hy2]; omega) (by unfold maxLen; omega) (Nat.le_refl _) ?_
        intro u3 hown hgrow
        have b3 : Below u2.heap.size u2 u3 := (Below.refl _ _).grown hgrow (Nat.le_refl _) (by simp)
        obtain ⟨oD, gD⟩ := own_d hown HMD.out
        clear hown hgrow
        have oA := oA.below b3
        have oI := oI.below b3
        have z3 := b3.size
        have loA := oA.lt (by omega)
        have loI := oI.lt (by omega)
        have loD := oD.lt (by omega)
        have c3 : Below W0.heap.size W0 u3 := c2.trans (b3.mono c2.size)
        (try dsimp only)
        refine hK.out _ _ ⟨(KP.out _ c3).quadP, fun _ => trivial⟩ ?_
        clear hK K
        have x := HX.out _ c3
        obtain ⟨q0, q1, q2, q3, q4, q5⟩ := x.six6
        have y0 := x.free 0
        have y1 := x.free 1
        have y2 := x.free 2
        have y3 := x.free 3
        have y4 := x.free 4
        have y5 := x.free 5
        have lx := x.lt
        obtain ⟨x', T'⟩ := put6 x rfl (.bool true) (.int .i64 0) (.slice aA 3 cA) (.slice (some ⟨u2.heap.size, 0, none⟩) cl.toNat cl.toNat) (.slice none 0 0) (.slice (some ⟨u1.heap.size, 0, none⟩) gn gn)
        have bb := (hbW.trans (c3.mono hbW.size)).trans (T'.below (B := w.heap.size) (by omega) (fun k hk => by omega))
        refine wpAnyE_one (i := 10) (by kernel_rfl) rfl (fun K hK => ?_)
        go_simp
        refine hK.out _ _ ⟨(KP.out _ c3).quadP, fun _ => trivial⟩ ?_
        clear hK K
        refine wpAnyE_one (i := 11) (by kernel_rfl) rfl (fun K hK => ?_)
        go_simp
        refine hK.out _ _ ⟨((KP.out _ c3).touch T' (fun hh => by have := hh; omega)).quadP, fun h => absurd (show true = false from h) (by decide)⟩ ?_
        clear hK K
        refine wpAnyE_done (by kernel_rfl) ?_ _
        have oA' := oA.touch T' (fun _ hh => by have := hh; omega)
        have oI' := oI.touch T' (fun _ hh => by have := hh; omega)
        have oD' := oD.touch T' (fun _ hh => by have := hh; omega)
        obtain ⟨r0, r1, r2, r3, r4, r5⟩ := x'.six6
        clear q0 q1 q2 q3 q4 q5 y0 y1 y2 y3 y4 y5 x oA oI oD
        generalize ((((((u3.setCell ⟨w.heap.size + 1, 0, none⟩ (.bool true)).setCell ⟨w.heap.size + 1, 1, none⟩ (.int .i64 0)).setCell ⟨w.heap.size + 1, 2, none⟩ (.slice aA 3 cA)).setCell ⟨w.heap.size + 1, 3, none⟩ (.slice (some ⟨u2.heap.size, 0, none⟩) cl.toNat cl.toNat)).setCell ⟨w.heap.size + 1, 4, none⟩ (.slice none 0 0)).setCell ⟨w.heap.size + 1, 5, none⟩ (.slice (some ⟨u1.heap.size, 0, none⟩) gn gn)) = V at *
        go_wp2
        refine bodyPost_ret (v := clkV true 0 aA 3 cA (some ⟨u2.heap.size, 0, none⟩) cl.toNat cl.toNat (some ⟨u1.heap.size, 0, none⟩) gn gn) (by simp [results, Try.results12, go_sem, r0, r1, r2, r3, r4, r5]) rfl ?_
        rw [HBB.out]
        exact ⟨_, A, _, _, u2.heap.size, _, _, u1.heap.size, _, 3, cl.toNat, gn, S, rfl, bb, ⟨oA', oD', oI', fun _ _ => by omega, fun _ _ => by omega, fun _ _ => by omega, by omega, by omega, by omega⟩, fun _ => by omega, fun _ => by omega, fun _ => by omega, rfl, rfl, rfl, rfl⟩
    · refine if_then (by kernel_rfl) ?_
      refine wp_make_own (.tmp 11) (.tmp 11) 27 rfl Wd.heap.size 123 j0 _ 3 Try.underlying27 hj hy0 hy1 _ _ cl.toNat rfl rfl (by omega) (by omega) (by rw [hy2]; omega) (by unfold maxLen; omega) (Nat.le_refl _) ?_
      intro u1 hown hgrow
      have b1 : Below Wd.heap.size Wd u1 := (Below.refl _ _).grown hgrow (Nat.le_refl _) (by simp)
      obtain ⟨oD, gD⟩ := own_d hown HMD.out
      clear hown hgrow
      have z1 := b1.size
      have loD := oD.lt (by omega)
      have c1 : Below W0.heap.size W0 u1 := c0.trans (b1.mono c0.size)
      (try dsimp only)
      refine hK.out _ _ ⟨(KP.out _ c1).quadP, fun _ => trivial⟩ ?_
      clear hK K
      refine wpAnyE_two (i := 2) (j := 9) (by kernel_rfl) rfl rfl (fun K hK => ?_) (fun K hK => ?_)
      · go_simp
        refine (clone_any _ _ _ S _ (hS.below c1) (by omega) (by omega)).mono ?_
        rintro ee u2 ⟨v, rfl, jA⟩
        obtain ⟨aA, cA, A, rfl, oA, gA⟩ := jA.ownx hS.1
        have gA' := gA (by omega)
        have b2 := jA.b
        clear jA gA
        have oD := oD.below b2
        have z2 := b2.size
        have loD := oD.lt (by omega)
        have loA := oA.lt (by omega)
        have c2 : Below W0.heap.size W0 u2 := c1.trans (b2.mono c1.size)
        (try dsimp only)
        refine hK.out _ _ ⟨(KP.out _ c2).quadP, fun _ => trivial⟩ ?_
        clear hK K
        refine wpAnyE_one (i := 9) (by kernel_rfl) rfl (fun K hK => ?_)
        refine if_then (by kernel_rfl) ?_
        refine wp_make_own (.tmp 15) (.tmp 15) 29 rfl u2.heap.size 125 k0 _ 3 Try.underlying29 hk hx0 hx1 _ _ gn rfl rfl (by omega) (by omega) (by rw [hx2]; omega) (by unfold maxLen; omega) (Nat.le_refl _) ?_
        intro u3 hown hgrow
        have b3 : Below u2.heap.size u2 u3 := (Below.refl _ _).grown hgrow (Nat.le_refl _) (by simp)
        obtain ⟨oI, gI⟩ := own_g hown HMG.out
        clear hown hgrow
        have oD := oD.below b3
        have oA := oA.below b3
        have z3 := b3.size
        have loD := oD.lt (by omega)
        have loA := oA.lt (by omega)
        have loI := oI.lt (by omega)
        have c3 : Below W0.heap.size W0 u3 := c2.trans (b3.mono c2.size)
        (try dsimp only)
        refine hK.out _ _ ⟨(KP.out _ c3).quadP, fun _ => trivial⟩ ?_
        clear hK K
        have x := HX.out _ c3
        obtain ⟨q0, q1, q2, q3, q4, q5⟩ := x.six6
        have y0 := x.free 0
        have y1 := x.free 1
        have y2 := x.free 2
        have y3 := x.free 3
        have y4 := x.free 4
        have y5 := x.free 5
        have lx := x.lt
        obtain ⟨x', T'⟩ := put6 x rfl (.bool true) (.int .i64 0) (.slice aA 3 cA) (.slice (some ⟨Wd.heap.size, 0, none⟩) cl.toNat cl.toNat) (.slice none 0 0) (.slice (some ⟨u2.heap.size, 0, none⟩) gn gn)
        have bb := (hbW.trans (c3.mono hbW.size)).trans (T'.below (B := w.heap.size) (by omega) (fun k hk => by omega))
        refine wpAnyE_one (i := 10) (by kernel_rfl) rfl (fun K hK => ?_)
        go_simp
        refine hK.out _ _ ⟨(KP.out _ c3).quadP, fun _ => trivial⟩ ?_
        clear hK K
        refine wpAnyE_one (i := 11) (by kernel_rfl) rfl (fun K hK => ?_)
        go_simp
        refine hK.out _ _ ⟨((KP.out _ c3).touch T' (fun hh => by have := hh; omega)).quadP, fun h => absurd (show true = false from h) (by decide)⟩ ?_
        clear hK K
        refine wpAnyE_done (by kernel_rfl) ?_ _
        have oA' := oA.touch T' (fun _ hh => by have := hh; omega)
        have oI' := oI.touch T' (fun _ hh => by have := hh; omega)
        have oD' := oD.touch T' (fun _ hh => by have := hh; omega)
        obtain ⟨r0, r1, r2, r3, r4, r5⟩ := x'.six6
        clear q0 q1 q2 q3 q4 q5 y0 y1 y2 y3 y4 y5 x oA oI oD
        generalize ((((((u3.setCell ⟨w.heap.size + 1, 0, none⟩ (.bool true)).setCell ⟨w.heap.size + 1, 1, none⟩ (.int .i64 0)).setCell ⟨w.heap.size + 1, 2, none⟩ (.slice aA 3 cA)).setCell ⟨w.heap.size + 1, 3, none⟩ (.slice (some ⟨Wd.heap.size, 0, none⟩) cl.toNat cl.toNat)).setCell ⟨w.heap.size + 1, 4, none⟩ (.slice none 0 0)).setCell ⟨w.heap.size + 1, 5, none⟩ (.slice (some ⟨u2.heap.size, 0, none⟩) gn gn)) = V at *
        go_wp2
        refine bodyPost_ret (v := clkV true 0 aA 3 cA (some ⟨Wd.heap.size, 0, none⟩) cl.toNat cl.toNat (some ⟨u2.heap.size, 0, none⟩) gn gn) (by simp [results, Try.results12, go_sem, r0, r1, r2, r3, r4, r5]) rfl ?_
        rw [HBB.out]
        exact ⟨_, A, _, _, Wd.heap.size, _, _, u2.heap.size, _, 3, cl.toNat, gn, S, rfl, bb, ⟨oA', oD', oI', fun _ _ => by omega, fun _ _ => by omega, fun _ _ => by omega, by omega, by omega, by omega⟩, fun _ => by omega, fun _ => by omega, fun _ => by omega, rfl, rfl, rfl, rfl⟩
      · refine if_then (by kernel_rfl) ?_
        refine wp_make_own (.tmp 15) (.tmp 15) 29 rfl u1.heap.size 125 k0 _ 3 Try.underlying29 hk hx0 hx1 _ _ gn rfl rfl (by omega) (by omega) (by rw [hx2]; omega) (by unfold maxLen; omega) (Nat.le_refl _) ?_
        intro u2 hown hgrow
        have b2 : Below u1.heap.size u1 u2 := (Below.refl _ _).grown hgrow (Nat.le_refl _) (by simp)
        obtain ⟨oI, gI⟩ := own_g hown HMG.out
        clear hown hgrow
        have oD := oD.below b2
        have z2 := b2.size
        have loD := oD.lt (by omega)
        have loI := oI.lt (by omega)
        have c2 : Below W0.heap.size W0 u2 := c1.trans (b2.mono c1.size)
        (try dsimp only)
        refine hK.out _ _ ⟨(KP.out _ c2).quadP, fun _ => trivial⟩ ?_
        clear hK K
        refine wpAnyE_one (i := 2) (by kernel_rfl) rfl (fun K hK => ?_)
        go_simp
        refine (clone_any _ _ _ S _ (hS.below c2) (by omega) (by omega)).mono ?_
        rintro ee u3 ⟨v, rfl, jA⟩
        obtain ⟨aA, cA, A, rfl, oA, gA⟩ := jA.ownx hS.1
        have gA' := gA (by omega)
        have b3 := jA.b
        clear jA gA
        have oD := oD.below b3
        have oI := oI.below b3
        have z3 := b3.size
        have loD := oD.lt (by omega)
        have loI := oI.lt (by omega)
        have loA := oA.lt (by omega)
        have c3 : Below W0.heap.size W0 u3 := c2.trans (b3.mono c2.size)
        (try dsimp only)
        refine hK.out _ _ ⟨(KP.out _ c3).quadP, fun _ => trivial⟩ ?_
        clear hK K
        have x := HX.out _ c3
        obtain ⟨q0, q1, q2, q3, q4, q5⟩ := x.six6
        have y0 := x.free 0
        have y1 := x.free 1
        have y2 := x.free 2
        have y3 := x.free 3
        have y4 := x.free 4
        have y5 := x.free 5
        have lx := x.lt
        obtain ⟨x', T'⟩ := put6 x rfl (.bool true) (.int .i64 0) (.slice aA 3 cA) (.slice (some ⟨Wd.heap.size, 0, none⟩) cl.toNat cl.toNat) (.slice none 0 0) (.slice (some ⟨u1.heap.size, 0, none⟩) gn gn)
        have bb := (hbW.trans (c3.mono hbW.size)).trans (T'.below (B := w.heap.size) (by omega) (fun k hk => by omega))
        refine wpAnyE_one (i := 10) (by kernel_rfl) rfl (fun K hK => ?_)
        go_simp
        refine hK.out _ _ ⟨(KP.out _ c3).quadP, fun _ => trivial⟩ ?_
        clear hK K
        refine wpAnyE_one (i := 11) (by kernel_rfl) rfl (fun K hK => ?_)
        go_simp
        refine hK.out _ _ ⟨((KP.out _ c3).touch T' (fun hh => by have := hh; omega)).quadP, fun h => absurd (show true = false from h) (by decide)⟩ ?_
        clear hK K
        refine wpAnyE_done (by kernel_rfl) ?_ _
        have oA' := oA.touch T' (fun _ hh => by have := hh; omega)
        have oI' := oI.touch T' (fun _ hh => by have := hh; omega)
        have oD' := oD.touch T' (fun _ hh => by have := hh; omega)
        obtain ⟨r0, r1, r2, r3, r4, r5⟩ := x'.six6
        clear q0 q1 q2 q3 q4 q5 y0 y1 y2 y3 y4 y5 x oA oI oD
        generalize ((((((u3.setCell ⟨w.heap.size + 1, 0, none⟩ (.bool true)).setCell ⟨w.heap.size + 1, 1, none⟩ (.int .i64 0)).setCell ⟨w.heap.size + 1, 2, none⟩ (.slice aA 3 cA)).setCell ⟨w.heap.size + 1, 3, none⟩ (.slice (some ⟨Wd.heap.size, 0, none⟩) cl.toNat cl.toNat)).setCell ⟨w.heap.size + 1, 4, none⟩ (.slice none 0 0)).setCell ⟨w.heap.size + 1, 5, none⟩ (.slice (some ⟨u1.heap.size, 0, none⟩) gn gn)) = V at *
        go_wp2
        refine bodyPost_ret (v := clkV true 0 aA 3 cA (some ⟨Wd.heap.size, 0, none⟩) cl.toNat cl.toNat (some ⟨u1.heap.size, 0, none⟩) gn gn) (by simp [results, Try.results12, go_sem, r0, r1, r2, r3, r4, r5]) rfl ?_
        rw [HBB.out]
        exact ⟨_, A, _, _, Wd.heap.size, _, _, u1.heap.size, _, 3, cl.toNat, gn, S, rfl, bb, ⟨oA', oD', oI', fun _ _ => by omega, fun _ _ => by omega, fun _ _ => by omega, by omega, by omega, by omega⟩, fun _ => by omega, fun _ => by omega, fun _ => by omega, rfl, rfl, rfl, rfl⟩
    · refine if_then (by kernel_rfl) ?_
      refine wp_make_own (.tmp 15) (.tmp 15) 29 rfl Wd.heap.size 125 k0 _ 3 Try.underlying29 hk hx0 hx1 _ _ gn rfl rfl (by omega) (by omega) (by rw [hx2]; omega) (by unfold maxLen; omega) (Nat.le_refl _) ?_
      intro u1 hown hgrow
      have b1 : Below Wd.heap.size Wd u1 := (Below.refl _ _).grown hgrow (Nat.le_refl _) (by simp)
      obtain ⟨oI, gI⟩ := own_g hown HMG.out
      clear hown hgrow
      have z1 := b1.size
      have loI := oI.lt (by omega)
      have c1 : Below W0.heap.size W0 u1 := c0.trans (b1.mono c0.size)
      (try dsimp only)
      refine hK.out _ _ ⟨(KP.out _ c1).quadP, fun _ => trivial⟩ ?_
      clear hK K
      refine wpAnyE_two (i := 2) (j := 5) (by kernel_rfl) rfl rfl (fun K hK => ?_) (fun K hK => ?_)
      · go_simp
        refine (clone_any _ _ _ S _ (hS.below c1) (by omega) (by omega)).mono ?_
        rintro ee u2 ⟨v, rfl, jA⟩
        obtain ⟨aA, cA, A, rfl, oA, gA⟩ := jA.ownx hS.1
        have gA' := gA (by omega)
        have b2 := jA.b
        clear jA gA
        have oI := oI.below b2
        have z2 := b2.size
        have loI := oI.lt (by omega)
        have loA := oA.lt (by omega)
        have c2 : Below W0.heap.size W0 u2 := c1.trans (b2.mono c1.size)
        (try dsimp only)
        refine hK.out _ _ ⟨(KP.out _ c2).quadP, fun _ => trivial⟩ ?_
        clear hK K
        refine wpAnyE_one (i := 5) (by kernel_rfl) rfl (fun K hK => ?_)
        refine if_then (by kernel_rfl) ?_
        refine wp_make_own (.tmp 11) (.tmp 11) 27 rfl u2.heap.size 123 j0 _ 3 Try.underlying27 hj hy0 hy1 _ _ cl.toNat rfl rfl (by omega) (by omega) (by rw [hy2]; omega) (by unfold maxLen; omega) (Nat.le_refl _) ?_
        intro u3 hown hgrow
        have b3 : Below u2.heap.size u2 u3 := (Below.refl _ _).grown hgrow (Nat.le_refl _) (by simp)
        obtain ⟨oD, gD⟩ := own_d hown HMD.out
        clear hown hgrow
        have oI := oI.below b3
        have oA := oA.below b3
        have z3 := b3.size
        have loI := oI.lt (by omega)
        have loA := oA.lt (by omega)
        have loD := oD.lt (by omega)
        have c3 : Below W0.heap.size W0 u3 := c2.trans (b3.mono c2.size)
        (try dsimp only)
        refine hK.out _ _ ⟨(KP.out _ c3).quadP, fun _ => trivial⟩ ?_
        clear hK K
        have x := HX.out _ c3
        obtain ⟨q0, q1, q2, q3, q4, q5⟩ := x.six6
        have y0 := x.free 0
        have y1 := x.free 1
        have y2 := x.free 2
        have y3 := x.free 3
        have y4 := x.free 4
        have y5 := x.free 5
        have lx := x.lt
        obtain ⟨x', T'⟩ := put6 x rfl (.bool true) (.int .i64 0) (.slice aA 3 cA) (.slice (some ⟨u2.heap.size, 0, none⟩) cl.toNat cl.toNat) (.slice none 0 0) (.slice (some ⟨Wd.heap.size, 0, none⟩) gn gn)
        have bb := (hbW.trans (c3.mono hbW.size)).trans (T'.below (B := w.heap.size) (by omega) (fun k hk => by omega))
        refine wpAnyE_one (i := 10) (by kernel_rfl) rfl (fun K hK => ?_)
        go_simp
        refine hK.out _ _ ⟨(KP.out _ c3).quadP, fun _ => trivial⟩ ?_
        clear hK K
        refine wpAnyE_one (i := 11) (by kernel_rfl) rfl (fun K hK => ?_)
        go_simp
        refine hK.out _ _ ⟨((KP.out _ c3).touch T' (fun hh => by have := hh; omega)).quadP, fun h => absurd (show true = false from h) (by decide)⟩ ?_
        clear hK K
        refine wpAnyE_done (by kernel_rfl) ?_ _
        have oA' := oA.touch T' (fun _ hh => by have := hh; omega)
        have oI' := oI.touch T' (fun _ hh => by have := hh; omega)
        have oD' := oD.touch T' (fun _ hh => by have := hh; omega)
        obtain ⟨r0, r1, r2, r3, r4, r5⟩ := x'.six6
        clear q0 q1 q2 q3 q4 q5 y0 y1 y2 y3 y4 y5 x oA oI oD
        generalize ((((((u3.setCell ⟨w.heap.size + 1, 0, none⟩ (.bool true)).setCell ⟨w.heap.size + 1, 1, none⟩ (.int .i64 0)).setCell ⟨w.heap.size + 1, 2, none⟩ (.slice aA 3 cA)).setCell ⟨w.heap.size + 1, 3, none⟩ (.slice (some ⟨u2.heap.size, 0, none⟩) cl.toNat cl.toNat)).setCell ⟨w.heap.size + 1, 4, none⟩ (.slice none 0 0)).setCell ⟨w.heap.size + 1, 5, none⟩ (.slice (some ⟨Wd.heap.size, 0, none⟩) gn gn)) = V at *
        go_wp2
        refine bodyPost_ret (v := clkV true 0 aA 3 cA (some ⟨u2.heap.size, 0, none⟩) cl.toNat cl.toNat (some ⟨Wd.heap.size, 0, none⟩) gn gn) (by simp [results, Try.results12, go_sem, r0, r1, r2, r3, r4, r5]) rfl ?_
        rw [HBB.out]
        exact ⟨_, A, _, _, u2.heap.size, _, _, Wd.heap.size, _, 3, cl.toNat, gn, S, rfl, bb, ⟨oA', oD', oI', fun _ _ => by omega, fun _ _ => by omega, fun _ _ => by omega, by omega, by omega, by omega⟩, fun _ => by omega, fun _ => by omega, fun _ => by omega, rfl, rfl, rfl, rfl⟩
      · refine if_then (by kernel_rfl) ?_
        refine wp_make_own (.tmp 11) (.tmp 11) 27 rfl u1.heap.size 123 j0 _ 3 Try.underlying27 hj hy0 hy1 _ _ cl.toNat rfl rfl (by omega) (by omega) (by rw [hy2]; omega) (by unfold maxLen; omega) (Nat.le_refl _) ?_
        intro u2 hown hgrow
        have b2 : Below u1.heap.size u1 u2 := (Below.refl _ _).grown hgrow (Nat.le_refl _) (by simp)
        obtain ⟨oD, gD⟩ := own_d hown HMD.out
        clear hown hgrow
        have oI := oI.below b2
        have z2 := b2.size
        have loI := oI.lt (by omega)
        have loD := oD.lt (by omega)
        have c2 : Below W0.heap.size W0 u2 := c1.trans (b2.mono c1.size)
        (try dsimp only)
        refine hK.out _ _ ⟨(KP.out _ c2).quadP, fun _ => trivial⟩ ?_
        clear hK K
        refine wpAnyE_one (i := 2) (by kernel_rfl) rfl (fun K hK => ?_)
        go_simp
        refine (clone_any _ _ _ S _ (hS.below c2) (by omega) (by omega)).mono ?_
        rintro ee u3 ⟨v, rfl, jA⟩
        obtain ⟨aA, cA, A, rfl, oA, gA⟩ := jA.ownx hS.1
        have gA' := gA (by omega)
        have b3 := jA.b
        clear jA gA
        have oI := oI.below b3
        have oD := oD.below b3
        have z3 := b3.size
        have loI := oI.lt (by omega)
        have loD := oD.lt (by omega)
        have loA := oA.lt (by omega)
        have c3 : Below W0.heap.size W0 u3 := c2.trans (b3.mono c2.size)
        (try dsimp only)
        refine hK.out _ _ ⟨(KP.out _ c3).quadP, fun _ => trivial⟩ ?_
        clear hK K
        have x := HX.out _ c3
        obtain ⟨q0, q1, q2, q3, q4, q5⟩ := x.six6
        have y0 := x.free 0
        have y1 := x.free 1
        have y2 := x.free 2
        have y3 := x.free 3
        have y4 := x.free 4
        have y5 := x.free 5
        have lx := x.lt
        obtain ⟨x', T'⟩ := put6 x rfl (.bool true) (.int .i64 0) (.slice aA 3 cA) (.slice (some ⟨u1.heap.size, 0, none⟩) cl.toNat cl.toNat) (.slice none 0 0) (.slice (some ⟨Wd.heap.size, 0, none⟩) gn gn)
        have bb := (hbW.trans (c3.mono hbW.size)).trans (T'.below (B := w.heap.size) (by omega) (fun k hk => by omega))
        refine wpAnyE_one (i := 10) (by kernel_rfl) rfl (fun K hK => ?_)
        go_simp
        refine hK.out _ _ ⟨(KP.out _ c3).quadP, fun _ => trivial⟩ ?_
        clear hK K
        refine wpAnyE_one (i := 11) (by kernel_rfl) rfl (fun K hK => ?_)
        go_simp
        refine hK.out _ _ ⟨((KP.out _ c3).touch T' (fun hh => by have := hh; omega)).quadP, fun h => absurd (show true = false from h) (by decide)⟩ ?_
        clear hK K
        refine wpAnyE_done (by kernel_rfl) ?_ _
        have oA' := oA.touch T' (fun _ hh => by have := hh; omega)
        have oI' := oI.touch T' (fun _ hh => by have := hh; omega)
        have oD' := oD.touch T' (fun _ hh => by have := hh; omega)
        obtain ⟨r0, r1, r2, r3, r4, r5⟩ := x'.six6
        clear q0 q1 q2 q3 q4 q5 y0 y1 y2 y3 y4 y5 x oA oI oD
        generalize ((((((u3.setCell ⟨w.heap.size + 1, 0, none⟩ (.bool true)).setCell ⟨w.heap.size + 1, 1, none⟩ (.int .i64 0)).setCell ⟨w.heap.size + 1, 2, none⟩ (.slice aA 3 cA)).setCell ⟨w.heap.size + 1, 3, none⟩ (.slice (some ⟨u1.heap.size, 0, none⟩) cl.toNat cl.toNat)).setCell ⟨w.heap.size + 1, 4, none⟩ (.slice none 0 0)).setCell ⟨w.heap.size + 1, 5, none⟩ (.slice (some ⟨Wd.heap.size, 0, none⟩) gn gn)) = V at *
        go_wp2
        refine bodyPost_ret (v := clkV true 0 aA 3 cA (some ⟨u1.heap.size, 0, none⟩) cl.toNat cl.toNat (some ⟨Wd.heap.size, 0, none⟩) gn gn) (by simp [results, Try.results12, go_sem, r0, r1, r2, r3, r4, r5]) rfl ?_
        rw [HBB.out]
        exact ⟨_, A, _, _, u1.heap.size, _, _, Wd.heap.size, _, 3, cl.toNat, gn, S, rfl, bb, ⟨oA', oD', oI', fun _ _ => by omega, fun _ _ => by omega, fun _ _ => by omega, by omega, by omega, by omega⟩, fun _ => by omega, fun _ => by omega, fun _ => by omega, rfl, rfl, rfl, rfl⟩

end Go.Proofs.Ythhfjodggmmcoaa
