/-
  Whether all sites have told: both functions answer the same; the library's table of powers of ten is as its text lays it. Lengths at most 1048576.
-/
import Derived.Test.YtacjjhfbnbmnlaaGreatDoorYClkOkW
namespace Go.Proofs.YtacjjhfbnbmnlaaGreatDoor
open Go.RowKit Go.Deep
set_option linter.unusedVariables false
set_option maxRecDepth 100000

theorem clk_len {cl : Int} {N : Nat} {ss : List L2V} {gn : Nat} {G : List Int} {sn : Nat} {S : List Int} {u : Bool} {r : Int} {bn : Nat} {bx : List Int} {dn : Nat} {dx : List DV} {kn : Nat} {kx : List QV} {en : Nat} {ex : List GV} (h : clkB cl N ss gn G sn S u r bn bx dn dx kn kx en ex = true) : en = gn := by
  simp only [clkB, clerkB, gotsB, Bool.and_eq_true, decide_eq_true_eq] at h
  exact h.2.2.2.2.2.1.1

set_option maxHeartbeats 3200000 in
theorem iclkready_any (cl : Int) (ad : Option Addr) (N cap : Nat) (ga : Option Addr) (gn gc : Nat) (sa : Option Addr) (sn sc : Nat) (ss : List L2V) (G S : List Int) (u : Bool) (r : Int) (ba : Option Addr) (bn bc : Nat) (bx : List Int) (da : Option Addr) (dn dc : Nat) (dx : List DV) (ka : Option Addr) (kn kc : Nat) (kx : List QV) (ea : Option Addr) (en ec : Nat) (ex : List GV) (w : World) (hp : PlAt w ad N ss ga gn G sa sn S) (h : CkAt w ba bn bx da dn dx ka kn kx ea en ex) (hTB : Lib.TabBelow Tryz.prog w.heap.size w "internal/strconv.uint64pow10" .u64 Lib.pow10Tab) :
    Calls Tryz.prog 23 #[plV cl ad N cap ga gn gc sa sn sc, ckV u r ba bn bc da dn dc ka kn kc ea en ec] w fun e w' => e = .returned (.bool (clkB cl N ss gn G sn S u r bn bx dn dx kn kx en ex && hasAll ex)) ∧ Below w.heap.size w w' := by
  have HTB : Hid _ := hTB
  clear hTB
  have q0 := (Cel.new w [.int .i64 cl, .slice ad N cap, .slice ga gn gc, .slice sa sn sc] 34).alloc (.cells #[.bool u, .int .i64 r, .slice ba bn bc, .slice da dn dc, .slice ka kn kc, .slice ea en ec] 52)
  have y0 := Cel.new (w.alloc (.cells #[.int .i64 cl, .slice ad N cap, .slice ga gn gc, .slice sa sn sc] 34)) [.bool u, .int .i64 r, .slice ba bn bc, .slice da dn dc, .slice ka kn kc, .slice ea en ec] 52
  rw [World.size_alloc] at y0
  have B0 := ((Below.refl w.heap.size w).alloc (Nat.le_refl _) (.cells #[.int .i64 cl, .slice ad N cap, .slice ga gn gc, .slice sa sn sc] 34)).alloc (by simp) (.cells #[.bool u, .int .i64 r, .slice ba bn bc, .slice da dn dc, .slice ka kn kc, .slice ea en ec] 52)
  obtain ⟨x, hx⟩ : ∃ x, x = clkB cl N ss gn G sn S u r bn bx dn dx kn kx en ex := ⟨_, rfl⟩
  have HX : Hid (x = clkB cl N ss gn G sn S u r bn bx dn dx kn kx en ex) := hx
  clear hx
  go_enter Tryz.func23, Tryz.ntmps23
  go_wp2_with fail
  refine (iclkok_any _ _ _ _ _ _ _ _ _ _ ss G S _ _ _ _ _ bx _ _ _ dx _ _ _ kx _ _ _ ex _ (hp.below B0) (h.below B0) (fun w' h' => HTB.out w' (B0.trans (h'.mono B0.size)))).mono ?_
  rintro e w1 ⟨rfl, b1⟩
  rw [← HX.out]
  have B1 := B0.trans (b1.mono B0.size)
  have y1 := y0.below b1
  obtain ⟨d0, d1, d2, d3, d4, d5⟩ := y1.sixP
  cases x
  · go_wp2
    go_ret
    exact ⟨ret_bool (by rw [← HX.out]; rfl), B1⟩
  go_wp2_with fail
  refine (iall_any _ _ _ _ _ _ _ _ _ _ _ _ _ _ ex _ (h.below B1).g h.lg h.zg).mono ?_
  rintro e w2 ⟨rfl, b2⟩
  go_wp2
  go_ret
  exact ⟨ret_bool (by rw [← HX.out]; rfl), B1.trans (b2.mono B1.size)⟩

set_option maxHeartbeats 6400000 in
theorem sclkready_any (cl : Int) (ad : Option Addr) (N cap : Nat) (ga : Option Addr) (gn gc : Nat) (sa : Option Addr) (sn sc : Nat) (ss : List L2V) (G S : List Int) (u : Bool) (r : Int) (ba : Option Addr) (bn bc : Nat) (bx : List Int) (da : Option Addr) (dn dc : Nat) (dx : List DV) (ka : Option Addr) (kn kc : Nat) (kx : List QV) (ea : Option Addr) (en ec : Nat) (ex : List GV) (w : World) (hp : PlAt w ad N ss ga gn G sa sn S) (h : CkAt w ba bn bx da dn dx ka kn kx ea en ex) :
    Calls Tryz.prog 22 #[plV cl ad N cap ga gn gc sa sn sc, ckV u r ba bn bc da dn dc ka kn kc ea en ec] w fun e w' => e = .returned (.bool (clkB cl N ss gn G sn S u r bn bx dn dx kn kx en ex && hasAll ex)) ∧ Below w.heap.size w w' := by
  have q0 := (Cel.new w [.int .i64 cl, .slice ad N cap, .slice ga gn gc, .slice sa sn sc] 34).alloc (.cells #[.bool u, .int .i64 r, .slice ba bn bc, .slice da dn dc, .slice ka kn kc, .slice ea en ec] 52)
  have y0 := Cel.new (w.alloc (.cells #[.int .i64 cl, .slice ad N cap, .slice ga gn gc, .slice sa sn sc] 34)) [.bool u, .int .i64 r, .slice ba bn bc, .slice da dn dc, .slice ka kn kc, .slice ea en ec] 52
  rw [World.size_alloc] at y0
  have B0 := ((Below.refl w.heap.size w).alloc (Nat.le_refl _) (.cells #[.int .i64 cl, .slice ad N cap, .slice ga gn gc, .slice sa sn sc] 34)).alloc (by simp) (.cells #[.bool u, .int .i64 r, .slice ba bn bc, .slice da dn dc, .slice ka kn kc, .slice ea en ec] 52)
  obtain ⟨W0, hW0⟩ : ∃ W, W = (w.alloc (.cells #[.int .i64 cl, .slice ad N cap, .slice ga gn gc, .slice sa sn sc] 34)).alloc (.cells #[.bool u, .int .i64 r, .slice ba bn bc, .slice da dn dc, .slice ka kn kc, .slice ea en ec] 52) := ⟨_, rfl⟩
  rw [← hW0] at q0 y0 B0
  have KP : Hid (∀ W, Below W0.heap.size W0 W → (W.cell? ⟨w.heap.size, 0, none⟩ = some (.int .i64 cl) ∧ W.cell? ⟨w.heap.size, 1, none⟩ = some (.slice ad N cap) ∧ W.cell? ⟨w.heap.size, 2, none⟩ = some (.slice ga gn gc) ∧ W.cell? ⟨w.heap.size, 3, none⟩ = some (.slice sa sn sc)) ∧ (W.cell? ⟨w.heap.size + 1, 0, none⟩ = some (.bool u) ∧ W.cell? ⟨w.heap.size + 1, 1, none⟩ = some (.int .i64 r) ∧ W.cell? ⟨w.heap.size + 1, 2, none⟩ = some (.slice ba bn bc) ∧ W.cell? ⟨w.heap.size + 1, 3, none⟩ = some (.slice da dn dc) ∧ W.cell? ⟨w.heap.size + 1, 4, none⟩ = some (.slice ka kn kc) ∧ W.cell? ⟨w.heap.size + 1, 5, none⟩ = some (.slice ea en ec))) := fun W hW => ⟨(q0.below hW).quadP, (y0.below hW).sixP⟩
  have hSS := And.intro (KP.out _ (Below.refl _ _).drew) True.intro
  obtain ⟨x, hx⟩ : ∃ x, x = clkB cl N ss gn G sn S u r bn bx dn dx kn kx en ex := ⟨_, rfl⟩
  have HX : Hid (x = clkB cl N ss gn G sn S u r bn bx dn dx kn kx en ex) := hx
  clear hx
  cases x
  · have FX : Hid _ := HX.out
    go_enter Tryz.func22, Tryz.ntmps22
    go_upto_region 1 with fail
    rw [← hW0]
    clear hW0 q0 y0
    refine wp_region_ends (fun w' => (w'.cell? ⟨w.heap.size, 0, none⟩ = some (.int .i64 cl) ∧ w'.cell? ⟨w.heap.size, 1, none⟩ = some (.slice ad N cap) ∧ w'.cell? ⟨w.heap.size, 2, none⟩ = some (.slice ga gn gc) ∧ w'.cell? ⟨w.heap.size, 3, none⟩ = some (.slice sa sn sc)) ∧ (w'.cell? ⟨w.heap.size + 1, 0, none⟩ = some (.bool u) ∧ w'.cell? ⟨w.heap.size + 1, 1, none⟩ = some (.int .i64 r) ∧ w'.cell? ⟨w.heap.size + 1, 2, none⟩ = some (.slice ba bn bc) ∧ w'.cell? ⟨w.heap.size + 1, 3, none⟩ = some (.slice da dn dc) ∧ w'.cell? ⟨w.heap.size + 1, 4, none⟩ = some (.slice ka kn kc) ∧ w'.cell? ⟨w.heap.size + 1, 5, none⟩ = some (.slice ea en ec))) (fun _ => True) 11 (by kernel_rfl) ?_
    refine wpAnyE_take0 (i := 0) (v := ?av0) rfl (by kernel_rfl) (by kernel_rfl) (by kernel_rfl) (by decide) (fun _ _ _ h => h) (Or.inl ⟨by rfl, ?ahy0⟩) hSS ?_
    case ahy0 => (intro wz hSw; (try dsimp only at hSw); go_simp; try (with_reducible rfl))
    refine wpAnyE_take0 (i := 1) (v := ?av1) rfl (by kernel_rfl) (by kernel_rfl) (by kernel_rfl) (by decide) (fun _ _ _ h => h) (Or.inl ⟨by rfl, ?ahy1⟩) hSS ?_
    case ahy1 => (intro wz hSw; (try dsimp only at hSw); go_simp; try (with_reducible rfl))
    refine wpAnyE_one (i := 2) (by kernel_rfl) rfl (fun K hK => ?_)
    go_simp
    refine (sclkok_any _ _ _ _ _ _ _ _ _ _ ss G S _ _ _ _ _ bx _ _ _ dx _ _ _ kx _ _ _ ex _ (hp.below B0.drew) (h.below B0.drew)).mono ?_
    rintro ee w1 ⟨rfl, bd1⟩
    rw [← HX.out]
    have b1 := below_of_drew bd1
    have B1 := B0.trans (b1.mono B0.size)
    (try dsimp only)
    replace hSS := And.intro (KP.out w1 b1) True.intro
    refine hK.out _ _ ⟨hSS.1, fun _ => trivial⟩ ?_
    clear hK K
    refine wpAnyE_take0 (i := 3) (v := ?av3) rfl (by kernel_rfl) (by kernel_rfl) (by kernel_rfl) (by decide) (fun _ _ _ h => h) (Or.inl ⟨by rfl, ?ahy3⟩) hSS ?_
    case ahy3 => (intro wz hSw; (try dsimp only at hSw); go_simp; try (with_reducible rfl))
    refine wpAnyE_take0 (i := 4) (v := undef) rfl (by kernel_rfl) (by kernel_rfl) (by kernel_rfl) (by decide) (fun _ _ _ h => h) (Or.inr ⟨by kernel_rfl, rfl⟩) hSS ?_
    refine wpAnyE_take0 (i := 6) (v := undef) rfl (by kernel_rfl) (by kernel_rfl) (by kernel_rfl) (by decide) (fun _ _ _ h => h) (Or.inr ⟨by kernel_rfl, rfl⟩) hSS ?_
    refine wpAnyE_take0 (i := 7) (v := undef) rfl (by kernel_rfl) (by kernel_rfl) (by kernel_rfl) (by decide) (fun _ _ _ h => h) (Or.inr ⟨by kernel_rfl, rfl⟩) hSS ?_
    simp only [Act.put, List.setIfInBounds_toArray, List.set_cons_succ, List.set_cons_zero, List.getElem_toArray, List.getElem_cons_succ, List.getElem_cons_zero]
    refine wpAnyE_take0 (i := 5) (v := undef) rfl (by kernel_rfl) (by kernel_rfl) (by kernel_rfl) (by decide) (fun _ _ _ h => h) (Or.inr ⟨by kernel_rfl, rfl⟩) hSS ?_
    refine wpAnyE_take0 (i := 8) (v := undef) rfl (by kernel_rfl) (by kernel_rfl) (by kernel_rfl) (by decide) (fun _ _ _ h => h) (Or.inr ⟨by kernel_rfl, rfl⟩) hSS ?_
    refine wpAnyE_take0 (i := 9) (v := undef) rfl (by kernel_rfl) (by kernel_rfl) (by kernel_rfl) (by decide) (fun _ _ _ h => h) (Or.inr ⟨by kernel_rfl, rfl⟩) hSS ?_
    refine wpAnyE_take0 (i := 10) (v := ?av10) rfl (by kernel_rfl) (by kernel_rfl) (by kernel_rfl) (by decide) (fun _ _ _ h => h) (Or.inl ⟨by rfl, ?ahy10⟩) hSS ?_
    case ahy10 => (intro wz hSw; (try dsimp only at hSw); go_simp; try (with_reducible rfl))
    simp only [Act.put, List.setIfInBounds_toArray, List.set_cons_succ, List.set_cons_zero, List.getElem_toArray, List.getElem_cons_succ, List.getElem_cons_zero]
    refine wpAnyE_one (i := 11) (by kernel_rfl) rfl (fun K hK => ?_)
    go_simp
    refine hK.out _ _ ⟨hSS.1, fun _ => trivial⟩ ?_
    clear hK K
    refine wpAnyE_done (by kernel_rfl) ?_ _
    clear hSS
    go_wp2
    go_ret
    exact ⟨ret_bool (by rw [← HX.out]; rfl), B1⟩
  have HLN : Hid (en = gn) := clk_len HX.out.symm
  go_enter Tryz.func22, Tryz.ntmps22
  go_upto_region 1 with fail
  rw [← hW0]
  clear hW0 q0 y0
  refine wp_region_ends (fun w' => (w'.cell? ⟨w.heap.size, 0, none⟩ = some (.int .i64 cl) ∧ w'.cell? ⟨w.heap.size, 1, none⟩ = some (.slice ad N cap) ∧ w'.cell? ⟨w.heap.size, 2, none⟩ = some (.slice ga gn gc) ∧ w'.cell? ⟨w.heap.size, 3, none⟩ = some (.slice sa sn sc)) ∧ (w'.cell? ⟨w.heap.size + 1, 0, none⟩ = some (.bool u) ∧ w'.cell? ⟨w.heap.size + 1, 1, none⟩ = some (.int .i64 r) ∧ w'.cell? ⟨w.heap.size + 1, 2, none⟩ = some (.slice ba bn bc) ∧ w'.cell? ⟨w.heap.size + 1, 3, none⟩ = some (.slice da dn dc) ∧ w'.cell? ⟨w.heap.size + 1, 4, none⟩ = some (.slice ka kn kc) ∧ w'.cell? ⟨w.heap.size + 1, 5, none⟩ = some (.slice ea en ec))) (fun _ => True) 11 (by kernel_rfl) ?_
  refine wpAnyE_take0 (i := 0) (v := ?bv0) rfl (by kernel_rfl) (by kernel_rfl) (by kernel_rfl) (by decide) (fun _ _ _ h => h) (Or.inl ⟨by rfl, ?bhy0⟩) hSS ?_
  case bhy0 => (intro wz hSw; (try dsimp only at hSw); go_simp; try (with_reducible rfl))
  refine wpAnyE_take0 (i := 1) (v := ?bv1) rfl (by kernel_rfl) (by kernel_rfl) (by kernel_rfl) (by decide) (fun _ _ _ h => h) (Or.inl ⟨by rfl, ?bhy1⟩) hSS ?_
  case bhy1 => (intro wz hSw; (try dsimp only at hSw); go_simp; try (with_reducible rfl))
  refine wpAnyE_one (i := 2) (by kernel_rfl) rfl (fun K hK => ?_)
  go_simp
  refine (sclkok_any _ _ _ _ _ _ _ _ _ _ ss G S _ _ _ _ _ bx _ _ _ dx _ _ _ kx _ _ _ ex _ (hp.below B0.drew) (h.below B0.drew)).mono ?_
  rintro ee w1 ⟨rfl, bd1⟩
  rw [← HX.out]
  have b1 := below_of_drew bd1
  have B1 := B0.trans (b1.mono B0.size)
  (try dsimp only)
  replace hSS := And.intro (KP.out w1 b1) True.intro
  refine hK.out _ _ ⟨hSS.1, fun _ => trivial⟩ ?_
  clear hK K
  refine wpAnyE_take0 (i := 3) (v := ?bv3) rfl (by kernel_rfl) (by kernel_rfl) (by kernel_rfl) (by decide) (fun _ _ _ h => h) (Or.inl ⟨by rfl, ?bhy3⟩) hSS ?_
  case bhy3 => (intro wz hSw; (try dsimp only at hSw); go_simp; try (with_reducible rfl))
  refine wpAnyE_take0 (i := 4) (v := ?bv4) rfl (by kernel_rfl) (by kernel_rfl) (by kernel_rfl) (by decide) (fun _ _ _ h => h) (Or.inl ⟨by rfl, ?bhy4⟩) hSS ?_
  case bhy4 => (intro wz hSw; (try dsimp only at hSw); go_simp; try (with_reducible rfl))
  refine wpAnyE_take0 (i := 6) (v := ?bv6) rfl (by kernel_rfl) (by kernel_rfl) (by kernel_rfl) (by decide) (fun _ _ _ h => h) (Or.inl ⟨by rfl, ?bhy6⟩) hSS ?_
  case bhy6 => (intro wz hSw; (try dsimp only at hSw); go_simp; try (with_reducible rfl))
  refine wpAnyE_take0 (i := 7) (v := ?bv7) rfl (by kernel_rfl) (by kernel_rfl) (by kernel_rfl) (by decide) (fun _ _ _ h => h) (Or.inl ⟨by rfl, ?bhy7⟩) hSS ?_
  case bhy7 => (intro wz hSw; (try dsimp only at hSw); go_simp; try (with_reducible rfl))
  simp only [Act.put, List.setIfInBounds_toArray, List.set_cons_succ, List.set_cons_zero, List.getElem_toArray, List.getElem_cons_succ, List.getElem_cons_zero]
  refine wpAnyE_two (i := 5) (j := 8) (by kernel_rfl) rfl rfl (fun K hK => ?_) (fun K hK => ?_)
  · go_simp
    refine (shasn_any _ _ _ _ _ _ _ _ _ _ _ _ _ _ ex _ (h.below B1).g h.lg h.zg).mono ?_
    rintro ee w2 ⟨rfl, b2⟩
    have b12 := b1.trans (b2.mono b1.size)
    have B2 := B1.trans (b2.mono B1.size)
    (try dsimp only)
    replace hSS := And.intro (KP.out w2 b12) True.intro
    refine hK.out _ _ ⟨hSS.1, fun _ => trivial⟩ ?_
    clear hK K
    refine wpAnyE_one (i := 8) (by kernel_rfl) rfl (fun K hK => ?_)
    go_simp
    refine hK.out _ _ ⟨hSS.1, fun _ => trivial⟩ ?_
    clear hK K
    refine wpAnyE_take0 (i := 9) (v := ?bxv9) rfl (by kernel_rfl) (by kernel_rfl) (by kernel_rfl) (by decide) (fun _ _ _ h => h) (Or.inl ⟨by rfl, ?bxhy9⟩) hSS ?_
    case bxhy9 => (intro wz hSw; (try dsimp only at hSw); go_simp; try (with_reducible rfl))
    refine wpAnyE_take0 (i := 10) (v := ?bxv10) rfl (by kernel_rfl) (by kernel_rfl) (by kernel_rfl) (by decide) (fun _ _ _ h => h) (Or.inl ⟨by rfl, ?bxhy10⟩) hSS ?_
    case bxhy10 => (intro wz hSw; (try dsimp only at hSw); go_simp; try (with_reducible rfl))
    refine wpAnyE_one (i := 11) (by kernel_rfl) rfl (fun K hK => ?_)
    go_simp
    refine hK.out _ _ ⟨hSS.1, fun _ => trivial⟩ ?_
    clear hK K
    refine wpAnyE_done (by kernel_rfl) ?_ _
    clear hSS
    go_wp2
    go_ret
    exact ⟨ret_bool (by rw [← HX.out, Bool.true_and, ← has_all (HLN.out ▸ h.lg)]; rfl), B2⟩
  · go_simp
    refine hK.out _ _ ⟨hSS.1, fun _ => trivial⟩ ?_
    clear hK K
    refine wpAnyE_one (i := 5) (by kernel_rfl) rfl (fun K hK => ?_)
    go_simp
    refine (shasn_any _ _ _ _ _ _ _ _ _ _ _ _ _ _ ex _ (h.below B1).g h.lg h.zg).mono ?_
    rintro ee w2 ⟨rfl, b2⟩
    have b12 := b1.trans (b2.mono b1.size)
    have B2 := B1.trans (b2.mono B1.size)
    (try dsimp only)
    replace hSS := And.intro (KP.out w2 b12) True.intro
    refine hK.out _ _ ⟨hSS.1, fun _ => trivial⟩ ?_
    clear hK K
    refine wpAnyE_take0 (i := 9) (v := ?byv9) rfl (by kernel_rfl) (by kernel_rfl) (by kernel_rfl) (by decide) (fun _ _ _ h => h) (Or.inl ⟨by rfl, ?byhy9⟩) hSS ?_
    case byhy9 => (intro wz hSw; (try dsimp only at hSw); go_simp; try (with_reducible rfl))
    refine wpAnyE_take0 (i := 10) (v := ?byv10) rfl (by kernel_rfl) (by kernel_rfl) (by kernel_rfl) (by decide) (fun _ _ _ h => h) (Or.inl ⟨by rfl, ?byhy10⟩) hSS ?_
    case byhy10 => (intro wz hSw; (try dsimp only at hSw); go_simp; try (with_reducible rfl))
    refine wpAnyE_one (i := 11) (by kernel_rfl) rfl (fun K hK => ?_)
    go_simp
    refine hK.out _ _ ⟨hSS.1, fun _ => trivial⟩ ?_
    clear hK K
    refine wpAnyE_done (by kernel_rfl) ?_ _
    clear hSS
    go_wp2
    go_ret
    exact ⟨ret_bool (by rw [← HX.out, Bool.true_and, ← has_all (HLN.out ▸ h.lg)]; rfl), B2⟩

end Go.Proofs.YtacjjhfbnbmnlaaGreatDoor
