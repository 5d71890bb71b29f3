/-
  Whether what a site has added keeps to the plan (impl.keepsToPlan). Lengths at most 1048576.
-/
import Derived.Test.YtacjjhfbnbmnlaaGreatDoorYStillW
import Derived.Test.YtacjjhfbnbmnlaaGreatDoorYPlanW
import Derived.Test.YtacjjhfbnbmnlaaGreatDoorYDonW
namespace Go.Proofs.YtacjjhfbnbmnlaaGreatDoor
open Go.RowKit Go.Deep
set_option linter.unusedVariables false
set_option maxRecDepth 100000

theorem pins_ba {W : World} {a : Option Addr} {lo : Nat} {R : Nat → Bool} (h : true = false ∨ (true = true ∧ ∃ G, a = some ⟨G, 0, none⟩ ∧ lo ≤ G ∧ OwnBB W G R)) : BA W a 3 R := by
  rcases h with h | ⟨-, G, rfl, -, o⟩
  · cases h
  · exact o.ba

set_option maxHeartbeats 6400000 in
theorem ikeeps_any (cl : Int) (ad : Option Addr) (N cap : Nat) (ga : Option Addr) (gn gc : Nat) (sa : Option Addr) (sn sc : Nat) (ss : List L2V) (G S : List Int) (ba : Option Addr) (bn bc : Nat) (bx : List Int) (s : Int) (aa : Option Addr) (an ac : Nat) (ax : List Int) (w : World) (hp : PlAt w ad N ss ga gn G sa sn S) (hc : catB N ss = true) (hb : Ints w ba bn bx) (zb : bn ≤ 1048576) (ha : Ints w aa an ax) (za : an ≤ 1048576) :
    Calls Tryz.prog 50 #[plV cl ad N cap ga gn gc sa sn sc, .slice ba bn bc, .int .i64 s, .slice aa an ac] w fun e w' => e = .returned (.bool (keepT bn gn bx G (catP ss) s an ax && stillB (pinsA ss) ax)) ∧ Below w.heap.size w w' := by
  have q0 := Cel.new w [.int .i64 cl, .slice ad N cap, .slice ga gn gc, .slice sa sn sc] 34
  have B0 := (Below.refl w.heap.size w).alloc (Nat.le_refl _) (.cells #[.int .i64 cl, .slice ad N cap, .slice ga gn gc, .slice sa sn sc] 34)
  obtain ⟨W0, hW0⟩ : ∃ W, W = w.alloc (.cells #[.int .i64 cl, .slice ad N cap, .slice ga gn gc, .slice sa sn sc] 34) := ⟨_, rfl⟩
  rw [← hW0] at q0 B0
  have HC : Hid (catB N ss = true) := hc
  have HCT : Hid (catT (catB N ss) (catP ss) = catP ss) := by show _ = _; rw [hc]; rfl
  have HLN : Hid ((catP ss).length ≤ 600000) := catP_len (by have := (catB_parts hc).1; rw [hp.ha]; exact this)
  clear hc
  obtain ⟨V, hV⟩ : ∃ V, V = (keepT bn gn bx G (catP ss) s an ax && stillB (pinsA ss) ax) := ⟨_, rfl⟩
  rw [← hV]
  have HW : Hid (V = (keepT bn gn bx G (catP ss) s an ax && stillB (pinsA ss) ax)) := hV
  clear hV
  cases h3 : keepT bn gn bx G (catP ss) s an ax
  · have HV : Hid (false = V) := by show _ = _; rw [HW.out, h3]; rfl
    have KP : Hid (∀ W, Below W0.heap.size W0 W → W.cell? ⟨w.heap.size, 0, none⟩ = some (.int .i64 cl) ∧ W.cell? ⟨w.heap.size, 1, none⟩ = some (.slice ad N cap) ∧ W.cell? ⟨w.heap.size, 2, none⟩ = some (.slice ga gn gc) ∧ W.cell? ⟨w.heap.size, 3, none⟩ = some (.slice sa sn sc)) := fun W hW => (q0.below hW).quadP
    have hSS := And.intro (KP.out _ (Below.refl _ _).drew) True.intro
    go_enter Tryz.func50, Tryz.ntmps50
    go_upto_region 1 with fail
    rw [← hW0]
    clear hW0 q0
    refine wp_region_ends (fun w' => w'.cell? ⟨w.heap.size, 0, none⟩ = some (.int .i64 cl) ∧ w'.cell? ⟨w.heap.size, 1, none⟩ = some (.slice ad N cap) ∧ w'.cell? ⟨w.heap.size, 2, none⟩ = some (.slice ga gn gc) ∧ w'.cell? ⟨w.heap.size, 3, none⟩ = some (.slice sa sn sc)) (fun _ => True) 18 (by kernel_rfl) ?_
    refine wpAnyE_take0 (i := 0) (v := ?kv0) rfl (by kernel_rfl) (by kernel_rfl) (by kernel_rfl) (by decide) (fun _ _ _ h => h) (Or.inl ⟨by rfl, ?khy0⟩) hSS ?_
    case khy0 => (intro wz hSw; (try dsimp only at hSw); go_simp; try (with_reducible rfl))
    refine wpAnyE_take0 (i := 1) (v := ?kv1) rfl (by kernel_rfl) (by kernel_rfl) (by kernel_rfl) (by decide) (fun _ _ _ h => h) (Or.inl ⟨by rfl, ?khy1⟩) hSS ?_
    case khy1 => (intro wz hSw; (try dsimp only at hSw); go_simp; try (with_reducible rfl))
    refine wpAnyE_take0 (i := 2) (v := ?kv2) rfl (by kernel_rfl) (by kernel_rfl) (by kernel_rfl) (by decide) (fun _ _ _ h => h) (Or.inl ⟨by rfl, ?khy2⟩) hSS ?_
    case khy2 => (intro wz hSw; (try dsimp only at hSw); go_simp; try (with_reducible rfl))
    refine wpAnyE_take0 (i := 3) (v := ?kv3) rfl (by kernel_rfl) (by kernel_rfl) (by kernel_rfl) (by decide) (fun _ _ _ h => h) (Or.inl ⟨by rfl, ?khy3⟩) hSS ?_
    case khy3 => (intro wz hSw; (try dsimp only at hSw); go_simp; try (with_reducible rfl))
    simp only [Act.put, List.setIfInBounds_toArray, List.set_cons_succ, List.set_cons_zero, List.getElem_toArray, List.getElem_cons_succ, List.getElem_cons_zero]
    refine wpAnyE_take0 (i := 4) (v := ?kv4) rfl (by kernel_rfl) (by kernel_rfl) (by kernel_rfl) (by decide) (fun _ _ _ h => h) (Or.inl ⟨by rfl, ?khy4⟩) hSS ?_
    case khy4 => (intro wz hSw; (try dsimp only at hSw); go_simp; try (with_reducible rfl))
    refine wpAnyE_take0 (i := 5) (v := ?kv5) rfl (by kernel_rfl) (by kernel_rfl) (by kernel_rfl) (by decide) (fun _ _ _ h => h) (Or.inl ⟨by rfl, ?khy5⟩) hSS ?_
    case khy5 => (intro wz hSw; (try dsimp only at hSw); go_simp; try (with_reducible rfl))
    refine wpAnyE_take0 (i := 7) (v := ?kv7) rfl (by kernel_rfl) (by kernel_rfl) (by kernel_rfl) (by decide) (fun _ _ _ h => h) (Or.inl ⟨by rfl, ?khy7⟩) hSS ?_
    case khy7 => (intro wz hSw; (try dsimp only at hSw); go_simp; try (with_reducible rfl))
    refine wpAnyE_take0 (i := 8) (v := ?kv8) rfl (by kernel_rfl) (by kernel_rfl) (by kernel_rfl) (by decide) (fun _ _ _ h => h) (Or.inl ⟨by rfl, ?khy8⟩) hSS ?_
    case khy8 => (intro wz hSw; (try dsimp only at hSw); go_simp; try (with_reducible rfl))
    simp only [Act.put, List.setIfInBounds_toArray, List.set_cons_succ, List.set_cons_zero, List.getElem_toArray, List.getElem_cons_succ, List.getElem_cons_zero]
    refine wpAnyE_one (i := 6) (by kernel_rfl) rfl (fun K hK => ?_)
    go_simp
    refine (icatforms_at (catP ss) _ _ _ ss _ hp.ha (hp.below B0.drew).a hp.za HCT.out).mono ?_
    rintro ee w1 ⟨fa, fc, rfl, bd1, uf⟩
    have b1 := below_of_drew bd1
    have B1 := B0.trans (b1.mono B0.size)
    obtain ⟨ts, hts, hx⟩ := uf.isg
    have HX : Hid _ := hx
    clear uf hx bd1
    (try dsimp only)
    replace hSS := And.intro (KP.out w1 b1) True.intro
    refine hK.out _ _ ⟨hSS.1, fun _ => trivial⟩ ?_
    clear hK K
    refine wpAnyE_one (i := 9) (by kernel_rfl) rfl (fun K hK => ?_)
    go_simp
    refine (ikeep_any _ _ _ _ _ _ _ _ _ _ _ _ _ bx G ax ts _ (hb.below B1) (hp.below B1).g (ha.below B1) (map_len HX.out) hts zb hp.zg za (Nat.le_trans HLN.out (by omega))).mono ?_
    rintro ee w2 ⟨rfl, b2⟩
    rw [keep_of hts HX.out, h3]
    have b12 := b1.trans (b2.mono b1.size)
    have B2 := B1.trans (b2.mono B1.size)
    (try dsimp only)
    replace hSS := And.intro (KP.out w2 b12) True.intro
    refine hK.out _ _ ⟨hSS.1, fun _ => trivial⟩ ?_
    clear hK K
    refine wpAnyE_take0 (i := 10) (v := ?kv10) rfl (by kernel_rfl) (by kernel_rfl) (by kernel_rfl) (by decide) (fun _ _ _ h => h) (Or.inl ⟨by rfl, ?khy10⟩) hSS ?_
    case khy10 => (intro wz hSw; (try dsimp only at hSw); go_simp; try (with_reducible rfl))
    refine wpAnyE_take0 (i := 11) (v := undef) rfl (by kernel_rfl) (by kernel_rfl) (by kernel_rfl) (by decide) (fun _ _ _ h => h) (Or.inr ⟨by kernel_rfl, rfl⟩) hSS ?_
    refine wpAnyE_take0 (i := 12) (v := undef) rfl (by kernel_rfl) (by kernel_rfl) (by kernel_rfl) (by decide) (fun _ _ _ h => h) (Or.inr ⟨by kernel_rfl, rfl⟩) hSS ?_
    refine wpAnyE_take0 (i := 14) (v := undef) rfl (by kernel_rfl) (by kernel_rfl) (by kernel_rfl) (by decide) (fun _ _ _ h => h) (Or.inr ⟨by kernel_rfl, rfl⟩) hSS ?_
    simp only [Act.put, List.setIfInBounds_toArray, List.set_cons_succ, List.set_cons_zero, List.getElem_toArray, List.getElem_cons_succ, List.getElem_cons_zero]
    refine wpAnyE_take0 (i := 13) (v := undef) rfl (by kernel_rfl) (by kernel_rfl) (by kernel_rfl) (by decide) (fun _ _ _ h => h) (Or.inr ⟨by kernel_rfl, rfl⟩) hSS ?_
    refine wpAnyE_take0 (i := 15) (v := undef) rfl (by kernel_rfl) (by kernel_rfl) (by kernel_rfl) (by decide) (fun _ _ _ h => h) (Or.inr ⟨by kernel_rfl, rfl⟩) hSS ?_
    refine wpAnyE_take0 (i := 16) (v := undef) rfl (by kernel_rfl) (by kernel_rfl) (by kernel_rfl) (by decide) (fun _ _ _ h => h) (Or.inr ⟨by kernel_rfl, rfl⟩) hSS ?_
    refine wpAnyE_take0 (i := 17) (v := ?kv17) rfl (by kernel_rfl) (by kernel_rfl) (by kernel_rfl) (by decide) (fun _ _ _ h => h) (Or.inl ⟨by rfl, ?khy17⟩) hSS ?_
    case khy17 => (intro wz hSw; (try dsimp only at hSw); go_simp; try (with_reducible rfl))
    simp only [Act.put, List.setIfInBounds_toArray, List.set_cons_succ, List.set_cons_zero, List.getElem_toArray, List.getElem_cons_succ, List.getElem_cons_zero]
    refine wpAnyE_one (i := 18) (by kernel_rfl) rfl (fun K hK => ?_)
    go_simp
    refine hK.out _ _ ⟨hSS.1, fun _ => trivial⟩ ?_
    clear hK K
    refine wpAnyE_done (by kernel_rfl) ?_ _
    clear hSS
    go_wp2
    go_ret
    exact ⟨ret_bool HV.out, B2⟩
  obtain rfl : an = 3 := (keepT_elim h3).2.2
  obtain ⟨x4, h4⟩ : ∃ x, x = !stillB (pinsA ss) ax := ⟨_, rfl⟩
  have HST : Hid (x4 = !stillB (pinsA ss) ax) := h4
  clear h4
  have KP : Hid (∀ W, Below W0.heap.size W0 W → W.cell? ⟨w.heap.size, 0, none⟩ = some (.int .i64 cl) ∧ W.cell? ⟨w.heap.size, 1, none⟩ = some (.slice ad N cap) ∧ W.cell? ⟨w.heap.size, 2, none⟩ = some (.slice ga gn gc) ∧ W.cell? ⟨w.heap.size, 3, none⟩ = some (.slice sa sn sc)) := fun W hW => (q0.below hW).quadP
  have hSS := And.intro (KP.out _ (Below.refl _ _).drew) True.intro
  go_enter Tryz.func50, Tryz.ntmps50
  go_upto_region 1 with fail
  rw [← hW0]
  clear hW0 q0
  refine wp_region_ends (fun w' => w'.cell? ⟨w.heap.size, 0, none⟩ = some (.int .i64 cl) ∧ w'.cell? ⟨w.heap.size, 1, none⟩ = some (.slice ad N cap) ∧ w'.cell? ⟨w.heap.size, 2, none⟩ = some (.slice ga gn gc) ∧ w'.cell? ⟨w.heap.size, 3, none⟩ = some (.slice sa sn sc)) (fun _ => True) 18 (by kernel_rfl) ?_
  refine wpAnyE_take0 (i := 0) (v := ?lv0) rfl (by kernel_rfl) (by kernel_rfl) (by kernel_rfl) (by decide) (fun _ _ _ h => h) (Or.inl ⟨by rfl, ?lhy0⟩) hSS ?_
  case lhy0 => (intro wz hSw; (try dsimp only at hSw); go_simp; try (with_reducible rfl))
  refine wpAnyE_take0 (i := 1) (v := ?lv1) rfl (by kernel_rfl) (by kernel_rfl) (by kernel_rfl) (by decide) (fun _ _ _ h => h) (Or.inl ⟨by rfl, ?lhy1⟩) hSS ?_
  case lhy1 => (intro wz hSw; (try dsimp only at hSw); go_simp; try (with_reducible rfl))
  refine wpAnyE_take0 (i := 2) (v := ?lv2) rfl (by kernel_rfl) (by kernel_rfl) (by kernel_rfl) (by decide) (fun _ _ _ h => h) (Or.inl ⟨by rfl, ?lhy2⟩) hSS ?_
  case lhy2 => (intro wz hSw; (try dsimp only at hSw); go_simp; try (with_reducible rfl))
  refine wpAnyE_take0 (i := 3) (v := ?lv3) rfl (by kernel_rfl) (by kernel_rfl) (by kernel_rfl) (by decide) (fun _ _ _ h => h) (Or.inl ⟨by rfl, ?lhy3⟩) hSS ?_
  case lhy3 => (intro wz hSw; (try dsimp only at hSw); go_simp; try (with_reducible rfl))
  simp only [Act.put, List.setIfInBounds_toArray, List.set_cons_succ, List.set_cons_zero, List.getElem_toArray, List.getElem_cons_succ, List.getElem_cons_zero]
  refine wpAnyE_take0 (i := 4) (v := ?lv4) rfl (by kernel_rfl) (by kernel_rfl) (by kernel_rfl) (by decide) (fun _ _ _ h => h) (Or.inl ⟨by rfl, ?lhy4⟩) hSS ?_
  case lhy4 => (intro wz hSw; (try dsimp only at hSw); go_simp; try (with_reducible rfl))
  refine wpAnyE_take0 (i := 5) (v := ?lv5) rfl (by kernel_rfl) (by kernel_rfl) (by kernel_rfl) (by decide) (fun _ _ _ h => h) (Or.inl ⟨by rfl, ?lhy5⟩) hSS ?_
  case lhy5 => (intro wz hSw; (try dsimp only at hSw); go_simp; try (with_reducible rfl))
  refine wpAnyE_take0 (i := 7) (v := ?lv7) rfl (by kernel_rfl) (by kernel_rfl) (by kernel_rfl) (by decide) (fun _ _ _ h => h) (Or.inl ⟨by rfl, ?lhy7⟩) hSS ?_
  case lhy7 => (intro wz hSw; (try dsimp only at hSw); go_simp; try (with_reducible rfl))
  refine wpAnyE_take0 (i := 8) (v := ?lv8) rfl (by kernel_rfl) (by kernel_rfl) (by kernel_rfl) (by decide) (fun _ _ _ h => h) (Or.inl ⟨by rfl, ?lhy8⟩) hSS ?_
  case lhy8 => (intro wz hSw; (try dsimp only at hSw); go_simp; try (with_reducible rfl))
  simp only [Act.put, List.setIfInBounds_toArray, List.set_cons_succ, List.set_cons_zero, List.getElem_toArray, List.getElem_cons_succ, List.getElem_cons_zero]
  refine wpAnyE_one (i := 6) (by kernel_rfl) rfl (fun K hK => ?_)
  go_simp
  refine (icatforms_at (catP ss) _ _ _ ss _ hp.ha (hp.below B0.drew).a hp.za HCT.out).mono ?_
  rintro ee w1 ⟨fa, fc, rfl, bd1, uf⟩
  have b1 := below_of_drew bd1
  have B1 := B0.trans (b1.mono B0.size)
  obtain ⟨ts, hts, hx⟩ := uf.isg
  have HX : Hid _ := hx
  clear uf hx bd1
  (try dsimp only)
  replace hSS := And.intro (KP.out w1 b1) True.intro
  refine hK.out _ _ ⟨hSS.1, fun _ => trivial⟩ ?_
  clear hK K
  refine wpAnyE_one (i := 9) (by kernel_rfl) rfl (fun K hK => ?_)
  go_simp
  refine (ikeep_any _ _ _ _ _ _ _ _ _ _ _ _ _ bx G ax ts _ (hb.below B1) (hp.below B1).g (ha.below B1) (map_len HX.out) hts zb hp.zg za (Nat.le_trans HLN.out (by omega))).mono ?_
  rintro ee w2 ⟨rfl, b2⟩
  rw [keep_of hts HX.out, h3]
  have b12 := b1.trans (b2.mono b1.size)
  have B2 := B1.trans (b2.mono B1.size)
  (try dsimp only)
  replace hSS := And.intro (KP.out w2 b12) True.intro
  refine hK.out _ _ ⟨hSS.1, fun _ => trivial⟩ ?_
  clear hK K
  refine wpAnyE_take0 (i := 10) (v := ?lv10) rfl (by kernel_rfl) (by kernel_rfl) (by kernel_rfl) (by decide) (fun _ _ _ h => h) (Or.inl ⟨by rfl, ?lhy10⟩) hSS ?_
  case lhy10 => (intro wz hSw; (try dsimp only at hSw); go_simp; try (with_reducible rfl))
  refine wpAnyE_take0 (i := 11) (v := ?lv11) rfl (by kernel_rfl) (by kernel_rfl) (by kernel_rfl) (by decide) (fun _ _ _ h => h) (Or.inl ⟨by rfl, ?lhy11⟩) hSS ?_
  case lhy11 => (intro wz hSw; (try dsimp only at hSw); go_simp; try (with_reducible rfl))
  refine wpAnyE_take0 (i := 12) (v := ?lv12) rfl (by kernel_rfl) (by kernel_rfl) (by kernel_rfl) (by decide) (fun _ _ _ h => h) (Or.inl ⟨by rfl, ?lhy12⟩) hSS ?_
  case lhy12 => (intro wz hSw; (try dsimp only at hSw); go_simp; try (with_reducible rfl))
  refine wpAnyE_take0 (i := 14) (v := ?lv14) rfl (by kernel_rfl) (by kernel_rfl) (by kernel_rfl) (by decide) (fun _ _ _ h => h) (Or.inl ⟨by rfl, ?lhy14⟩) hSS ?_
  case lhy14 => (intro wz hSw; (try dsimp only at hSw); go_simp; try (with_reducible rfl))
  simp only [Act.put, List.setIfInBounds_toArray, List.set_cons_succ, List.set_cons_zero, List.getElem_toArray, List.getElem_cons_succ, List.getElem_cons_zero]
  refine wpAnyE_one (i := 13) (by kernel_rfl) rfl (fun K hK => ?_)
  go_simp
  refine (icatpins_at true (pinsA ss) _ _ _ ss _ hp.ha (hp.below B2).a hp.za HC.out rfl).mono ?_
  rintro ee w3 ⟨na, nc, rfl, b3, on⟩
  have b123 := b12.trans (b3.mono b12.size)
  have B3 := B2.trans (b3.mono B2.size)
  have hR := pins_ba on
  rw [show lenB true = 3 from rfl]
  clear on
  (try dsimp only)
  replace hSS := And.intro (KP.out w3 b123) True.intro
  refine hK.out _ _ ⟨hSS.1, fun _ => trivial⟩ ?_
  clear hK K
  refine wpAnyE_one (i := 15) (by kernel_rfl) rfl (fun K hK => ?_)
  go_simp
  refine (ipinned_any _ _ _ _ (pinsA ss) ax _ hR (ha.below B3)).mono ?_
  rintro ee wq ⟨rfl, rfl⟩
  rw [← HST.out]
  (try dsimp only)
  refine hK.out _ _ ⟨hSS.1, fun _ => trivial⟩ ?_
  clear hK K
  refine wpAnyE_take0 (i := 16) (v := ?lv16) rfl (by kernel_rfl) (by kernel_rfl) (by kernel_rfl) (by decide) (fun _ _ _ h => h) (Or.inl ⟨by rfl, ?lhy16⟩) hSS ?_
  case lhy16 => (intro wz hSw; (try dsimp only at hSw); go_simp; try (with_reducible rfl))
  refine wpAnyE_take0 (i := 17) (v := ?lv17) rfl (by kernel_rfl) (by kernel_rfl) (by kernel_rfl) (by decide) (fun _ _ _ h => h) (Or.inl ⟨by rfl, ?lhy17⟩) hSS ?_
  case lhy17 => (intro wz hSw; (try dsimp only at hSw); go_simp; try (with_reducible rfl))
  refine wpAnyE_one (i := 18) (by kernel_rfl) rfl (fun K hK => ?_)
  go_simp
  refine hK.out _ _ ⟨hSS.1, fun _ => trivial⟩ ?_
  clear hK K
  refine wpAnyE_done (by kernel_rfl) ?_ _
  clear hSS
  go_wp2
  go_ret
  exact ⟨ret_bool (by rw [HW.out, h3, HST.out]; simp), B3⟩


end Go.Proofs.YtacjjhfbnbmnlaaGreatDoor
