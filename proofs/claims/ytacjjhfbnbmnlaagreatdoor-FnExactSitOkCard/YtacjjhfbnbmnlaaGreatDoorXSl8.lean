/-
  Whether a site is ok, of a plan that is, with its parts and pins (spec.l8Ok). Lengths at most 1048576.
-/
import Derived.Test.YtacjjhfbnbmnlaaGreatDoorXStillW
import Derived.Test.YtacjjhfbnbmnlaaGreatDoorXDonW
import Derived.Test.YtacjjhfbnbmnlaaGreatDoorXSitP
namespace Go.Proofs.YtacjjhfbnbmnlaaGreatDoor
open Go.RowKit Go.Deep
set_option linter.unusedVariables false
set_option maxRecDepth 100000

/-- A site is ok, of a plan that is, with these parts and pins. -/
def siteB (cl : Int) (gn : Nat) (G : List Int) (T : List (List Int)) (R : Nat → Bool) (r : Int) (bn : Nat) (bx : List Int) (an : Nat) (ax : List Int) (dn : Nat) (dx : List DV) (s : Int) : Bool :=
  inB r 0 200 && (keepT bn gn bx G T s an ax && (stillB R ax && donesB cl dn dx))
/-- A site is ok. -/
def sitB (cl : Int) (N : Nat) (ss : List L2V) (gn : Nat) (G : List Int) (sn : Nat) (S : List Int) (r : Int) (bn : Nat) (bx : List Int) (an : Nat) (ax : List Int) (dn : Nat) (dx : List DV) (s : Int) : Bool :=
  plnB cl N ss gn G sn S && siteB cl gn G (catP ss) (pinsA ss) r bn bx an ax dn dx s
theorem pln_cat {cl : Int} {N : Nat} {ss : List L2V} {gn : Nat} {G : List Int} {sn : Nat} {S : List Int} (h : plnB cl N ss gn G sn S = true) : catB N ss = true := by
  simp only [plnB, Bool.and_eq_true] at h
  exact h.2.1

set_option maxHeartbeats 1600000 in
theorem str8_any (cl : Int) (ad : Option Addr) (N cap : Nat) (ga : Option Addr) (gn gc : Nat) (sa : Option Addr) (sn sc : Nat) (u f : Bool) (r : Int) (ba : Option Addr) (bn bc : Nat) (aa : Option Addr) (an ac : Nat) (da : Option Addr) (dn dc : Nat) (w : World) :
    Calls Tryz.prog 100 #[plV cl ad N cap ga gn gc sa sn sc, siV u f r ba bn bc aa an ac da dn dc] w fun e w' => e = .returned (treV ba bn bc ga gn gc) ∧ Below w.heap.size w w' := by
  have B0 := (((Below.refl w.heap.size w).alloc (Nat.le_refl _) (.cells #[.int .i64 cl, .slice ad N cap, .slice ga gn gc, .slice sa sn sc] 34)).alloc (by simp) (.cells #[.bool u, .bool f, .int .i64 r, .slice ba bn bc, .slice aa an ac, .slice da dn dc] 38)).alloc (by simp; omega) (.cells #[.slice ba bn bc, .slice ga gn gc] 125)
  go_enter Tryz.func100, Tryz.ntmps100
  go_wp2
  refine bodyPost_ret (v := treV ba bn bc ga gn gc) (by simp [results, Tryz.results100, go_sem]) rfl ⟨rfl, ?_⟩
  exact B0

set_option maxHeartbeats 6400000 in
theorem sl8_any (cl : Int) (ad : Option Addr) (N cap : Nat) (ga : Option Addr) (gn gc : Nat) (sa : Option Addr) (sn sc : Nat) (G : List Int) (pa : Option Addr) (pn pc : Nat) (ts : List IV) (T : List (List Int)) (na : Option Addr) (nc : Nat) (R : Nat → Bool) (u f : Bool) (r : Int) (ba : Option Addr) (bn bc : Nat) (bx : List Int) (aa : Option Addr) (an ac : Nat) (ax : List Int) (da : Option Addr) (dn dc : Nat) (dx : List DV) (s : Int) (w : World) (hG : Ints w ga gn G) (zg : gn ≤ 1048576) (hP : ISG w pa ts) (lP : ts.length = pn) (zP : pn ≤ 1048576) (hT : ts.map IV.x = T) (hR : BA w na 3 R) (h : StAt w ba bn bx aa an ax da dn dx) :
    Calls Tryz.prog 44 #[plV cl ad N cap ga gn gc sa sn sc, .slice pa pn pc, .slice na 3 nc, siV u f r ba bn bc aa an ac da dn dc, .int .i64 s] w fun e w' => e = .returned (.bool (siteB cl gn G T R r bn bx an ax dn dx s)) ∧ Below w.heap.size w w' := by
  have HT : Hid (ts.map IV.x = T) := hT
  clear hT
  have q0 := (Cel.new w [.int .i64 cl, .slice ad N cap, .slice ga gn gc, .slice sa sn sc] 34).alloc (.cells #[.bool u, .bool f, .int .i64 r, .slice ba bn bc, .slice aa an ac, .slice da dn dc] 38)
  have y0 := Cel.new (w.alloc (.cells #[.int .i64 cl, .slice ad N cap, .slice ga gn gc, .slice sa sn sc] 34)) [.bool u, .bool f, .int .i64 r, .slice ba bn bc, .slice aa an ac, .slice da dn dc] 38
  rw [World.size_alloc] at y0
  have B0 := ((Below.refl w.heap.size w).alloc (Nat.le_refl _) (.cells #[.int .i64 cl, .slice ad N cap, .slice ga gn gc, .slice sa sn sc] 34)).alloc (by simp) (.cells #[.bool u, .bool f, .int .i64 r, .slice ba bn bc, .slice aa an ac, .slice da dn dc] 38)
  obtain ⟨W0, hW0⟩ : ∃ W, W = (w.alloc (.cells #[.int .i64 cl, .slice ad N cap, .slice ga gn gc, .slice sa sn sc] 34)).alloc (.cells #[.bool u, .bool f, .int .i64 r, .slice ba bn bc, .slice aa an ac, .slice da dn dc] 38) := ⟨_, rfl⟩
  rw [← hW0] at q0 y0 B0
  obtain ⟨V, hV⟩ : ∃ V, V = siteB cl gn G T R r bn bx an ax dn dx s := ⟨_, rfl⟩
  rw [← hV]
  have HW : Hid (V = siteB cl gn G T R r bn bx an ax dn dx s) := hV
  clear hV
  cases h1 : inB r 0 200
  · have HV : Hid (false = V) := by show _ = _; rw [HW.out, siteB, h1]; rfl
    have KP : Hid (∀ W, Below W0.heap.size W0 W → (W.cell? ⟨w.heap.size, 0, none⟩ = some (.int .i64 cl) ∧ W.cell? ⟨w.heap.size, 1, none⟩ = some (.slice ad N cap) ∧ W.cell? ⟨w.heap.size, 2, none⟩ = some (.slice ga gn gc) ∧ W.cell? ⟨w.heap.size, 3, none⟩ = some (.slice sa sn sc)) ∧ (W.cell? ⟨w.heap.size + 1, 0, none⟩ = some (.bool u) ∧ W.cell? ⟨w.heap.size + 1, 1, none⟩ = some (.bool f) ∧ W.cell? ⟨w.heap.size + 1, 2, none⟩ = some (.int .i64 r) ∧ W.cell? ⟨w.heap.size + 1, 3, none⟩ = some (.slice ba bn bc) ∧ W.cell? ⟨w.heap.size + 1, 4, none⟩ = some (.slice aa an ac) ∧ W.cell? ⟨w.heap.size + 1, 5, none⟩ = some (.slice da dn dc))) := fun W hW => ⟨(q0.below hW).quadP, (y0.below hW).sixP⟩
    have hSS := And.intro (KP.out _ (Below.refl _ _).drew) True.intro
    go_enter Tryz.func44, Tryz.ntmps44
    go_upto_region 1 with fail
    rw [← hW0]
    clear hW0 q0 y0
    refine wp_region_ends (fun w' => (w'.cell? ⟨w.heap.size, 0, none⟩ = some (.int .i64 cl) ∧ w'.cell? ⟨w.heap.size, 1, none⟩ = some (.slice ad N cap) ∧ w'.cell? ⟨w.heap.size, 2, none⟩ = some (.slice ga gn gc) ∧ w'.cell? ⟨w.heap.size, 3, none⟩ = some (.slice sa sn sc)) ∧ (w'.cell? ⟨w.heap.size + 1, 0, none⟩ = some (.bool u) ∧ w'.cell? ⟨w.heap.size + 1, 1, none⟩ = some (.bool f) ∧ w'.cell? ⟨w.heap.size + 1, 2, none⟩ = some (.int .i64 r) ∧ w'.cell? ⟨w.heap.size + 1, 3, none⟩ = some (.slice ba bn bc) ∧ w'.cell? ⟨w.heap.size + 1, 4, none⟩ = some (.slice aa an ac) ∧ w'.cell? ⟨w.heap.size + 1, 5, none⟩ = some (.slice da dn dc))) (fun _ => True) 30 (by kernel_rfl) ?_
    refine wpAnyE_take0 (i := 0) (v := ?av0) rfl (by kernel_rfl) (by kernel_rfl) (by kernel_rfl) (by decide) (fun _ _ _ h => h) (Or.inl ⟨by rfl, ?ahy0⟩) hSS ?_
    case ahy0 => (intro wz hSw; (try dsimp only at hSw); go_simp; try (with_reducible rfl))
    refine wpAnyE_take0 (i := 1) (v := ?av1) rfl (by kernel_rfl) (by kernel_rfl) (by kernel_rfl) (by decide) (fun _ _ _ h => h) (Or.inl ⟨by rfl, ?ahy1⟩) hSS ?_
    case ahy1 => (intro wz hSw; (try dsimp only at hSw); go_simp; try (with_reducible rfl))
    refine wpAnyE_one (i := 2) (by kernel_rfl) rfl (fun K hK => ?_)
    go_simp
    refine (in_any _ _ _ _).mono ?_
    rintro ee wq ⟨rfl, rfl⟩
    rw [h1]
    (try dsimp only)
    refine hK.out _ _ ⟨hSS.1, fun _ => trivial⟩ ?_
    clear hK K
    refine wpAnyE_take0 (i := 3) (v := ?av3) rfl (by kernel_rfl) (by kernel_rfl) (by kernel_rfl) (by decide) (fun _ _ _ h => h) (Or.inl ⟨by rfl, ?ahy3⟩) hSS ?_
    case ahy3 => (intro wz hSw; (try dsimp only at hSw); go_simp; try (with_reducible rfl))
    refine wpAnyE_take0 (i := 4) (v := undef) rfl (by kernel_rfl) (by kernel_rfl) (by kernel_rfl) (by decide) (fun _ _ _ h => h) (Or.inr ⟨by kernel_rfl, rfl⟩) hSS ?_
    refine wpAnyE_take0 (i := 5) (v := undef) rfl (by kernel_rfl) (by kernel_rfl) (by kernel_rfl) (by decide) (fun _ _ _ h => h) (Or.inr ⟨by kernel_rfl, rfl⟩) hSS ?_
    refine wpAnyE_take0 (i := 6) (v := undef) rfl (by kernel_rfl) (by kernel_rfl) (by kernel_rfl) (by decide) (fun _ _ _ h => h) (Or.inr ⟨by kernel_rfl, rfl⟩) hSS ?_
    simp only [Act.put, List.setIfInBounds_toArray, List.set_cons_succ, List.set_cons_zero, List.getElem_toArray, List.getElem_cons_succ, List.getElem_cons_zero]
    refine wpAnyE_take0 (i := 7) (v := ?av7) rfl (by kernel_rfl) (by kernel_rfl) (by kernel_rfl) (by decide) (fun _ _ _ h => h) (Or.inl ⟨by rfl, ?ahy7⟩) hSS ?_
    case ahy7 => (intro wz hSw; (try dsimp only at hSw); go_simp; try (with_reducible rfl))
    refine wpAnyE_take0 (i := 8) (v := ?av8) rfl (by kernel_rfl) (by kernel_rfl) (by kernel_rfl) (by decide) (fun _ _ _ h => h) (Or.inl ⟨by rfl, ?ahy8⟩) hSS ?_
    case ahy8 => (intro wz hSw; (try dsimp only at hSw); go_simp; try (with_reducible rfl))
    refine wpAnyE_take0 (i := 9) (v := undef) rfl (by kernel_rfl) (by kernel_rfl) (by kernel_rfl) (by decide) (fun _ _ _ h => h) (Or.inr ⟨by kernel_rfl, rfl⟩) hSS ?_
    refine wpAnyE_take0 (i := 10) (v := undef) rfl (by kernel_rfl) (by kernel_rfl) (by kernel_rfl) (by decide) (fun _ _ _ h => h) (Or.inr ⟨by kernel_rfl, rfl⟩) hSS ?_
    simp only [Act.put, List.setIfInBounds_toArray, List.set_cons_succ, List.set_cons_zero, List.getElem_toArray, List.getElem_cons_succ, List.getElem_cons_zero]
    refine wpAnyE_take0 (i := 12) (v := undef) rfl (by kernel_rfl) (by kernel_rfl) (by kernel_rfl) (by decide) (fun _ _ _ h => h) (Or.inr ⟨by kernel_rfl, rfl⟩) hSS ?_
    refine wpAnyE_take0 (i := 13) (v := undef) rfl (by kernel_rfl) (by kernel_rfl) (by kernel_rfl) (by decide) (fun _ _ _ h => h) (Or.inr ⟨by kernel_rfl, rfl⟩) hSS ?_
    refine wpAnyE_take0 (i := 14) (v := undef) rfl (by kernel_rfl) (by kernel_rfl) (by kernel_rfl) (by decide) (fun _ _ _ h => h) (Or.inr ⟨by kernel_rfl, rfl⟩) hSS ?_
    refine wpAnyE_take0 (i := 15) (v := undef) rfl (by kernel_rfl) (by kernel_rfl) (by kernel_rfl) (by decide) (fun _ _ _ h => h) (Or.inr ⟨by kernel_rfl, rfl⟩) hSS ?_
    simp only [Act.put, List.setIfInBounds_toArray, List.set_cons_succ, List.set_cons_zero, List.getElem_toArray, List.getElem_cons_succ, List.getElem_cons_zero]
    refine wpAnyE_take0 (i := 11) (v := undef) rfl (by kernel_rfl) (by kernel_rfl) (by kernel_rfl) (by decide) (fun _ _ _ h => h) (Or.inr ⟨by kernel_rfl, rfl⟩) hSS ?_
    refine wpAnyE_take0 (i := 16) (v := undef) rfl (by kernel_rfl) (by kernel_rfl) (by kernel_rfl) (by decide) (fun _ _ _ h => h) (Or.inr ⟨by kernel_rfl, rfl⟩) hSS ?_
    refine wpAnyE_take0 (i := 17) (v := ?av17) rfl (by kernel_rfl) (by kernel_rfl) (by kernel_rfl) (by decide) (fun _ _ _ h => h) (Or.inl ⟨by rfl, ?ahy17⟩) hSS ?_
    case ahy17 => (intro wz hSw; (try dsimp only at hSw); go_simp; try (with_reducible rfl))
    refine wpAnyE_take0 (i := 18) (v := ?av18) rfl (by kernel_rfl) (by kernel_rfl) (by kernel_rfl) (by decide) (fun _ _ _ h => h) (Or.inl ⟨by rfl, ?ahy18⟩) hSS ?_
    case ahy18 => (intro wz hSw; (try dsimp only at hSw); go_simp; try (with_reducible rfl))
    simp only [Act.put, List.setIfInBounds_toArray, List.set_cons_succ, List.set_cons_zero, List.getElem_toArray, List.getElem_cons_succ, List.getElem_cons_zero]
    refine wpAnyE_take0 (i := 19) (v := undef) rfl (by kernel_rfl) (by kernel_rfl) (by kernel_rfl) (by decide) (fun _ _ _ h => h) (Or.inr ⟨by kernel_rfl, rfl⟩) hSS ?_
    refine wpAnyE_take0 (i := 20) (v := undef) rfl (by kernel_rfl) (by kernel_rfl) (by kernel_rfl) (by decide) (fun _ _ _ h => h) (Or.inr ⟨by kernel_rfl, rfl⟩) hSS ?_
    refine wpAnyE_take0 (i := 21) (v := undef) rfl (by kernel_rfl) (by kernel_rfl) (by kernel_rfl) (by decide) (fun _ _ _ h => h) (Or.inr ⟨by kernel_rfl, rfl⟩) hSS ?_
    refine wpAnyE_take0 (i := 22) (v := undef) rfl (by kernel_rfl) (by kernel_rfl) (by kernel_rfl) (by decide) (fun _ _ _ h => h) (Or.inr ⟨by kernel_rfl, rfl⟩) hSS ?_
    simp only [Act.put, List.setIfInBounds_toArray, List.set_cons_succ, List.set_cons_zero, List.getElem_toArray, List.getElem_cons_succ, List.getElem_cons_zero]
    refine wpAnyE_take0 (i := 23) (v := ?av23) rfl (by kernel_rfl) (by kernel_rfl) (by kernel_rfl) (by decide) (fun _ _ _ h => h) (Or.inl ⟨by rfl, ?ahy23⟩) hSS ?_
    case ahy23 => (intro wz hSw; (try dsimp only at hSw); go_simp; try (with_reducible rfl))
    refine wpAnyE_take0 (i := 24) (v := ?av24) rfl (by kernel_rfl) (by kernel_rfl) (by kernel_rfl) (by decide) (fun _ _ _ h => h) (Or.inl ⟨by rfl, ?ahy24⟩) hSS ?_
    case ahy24 => (intro wz hSw; (try dsimp only at hSw); go_simp; try (with_reducible rfl))
    refine wpAnyE_take0 (i := 25) (v := undef) rfl (by kernel_rfl) (by kernel_rfl) (by kernel_rfl) (by decide) (fun _ _ _ h => h) (Or.inr ⟨by kernel_rfl, rfl⟩) hSS ?_
    refine wpAnyE_take0 (i := 26) (v := undef) rfl (by kernel_rfl) (by kernel_rfl) (by kernel_rfl) (by decide) (fun _ _ _ h => h) (Or.inr ⟨by kernel_rfl, rfl⟩) hSS ?_
    simp only [Act.put, List.setIfInBounds_toArray, List.set_cons_succ, List.set_cons_zero, List.getElem_toArray, List.getElem_cons_succ, List.getElem_cons_zero]
    refine wpAnyE_take0 (i := 27) (v := undef) rfl (by kernel_rfl) (by kernel_rfl) (by kernel_rfl) (by decide) (fun _ _ _ h => h) (Or.inr ⟨by kernel_rfl, rfl⟩) hSS ?_
    refine wpAnyE_take0 (i := 28) (v := undef) rfl (by kernel_rfl) (by kernel_rfl) (by kernel_rfl) (by decide) (fun _ _ _ h => h) (Or.inr ⟨by kernel_rfl, rfl⟩) hSS ?_
    refine wpAnyE_take0 (i := 29) (v := ?av29) rfl (by kernel_rfl) (by kernel_rfl) (by kernel_rfl) (by decide) (fun _ _ _ h => h) (Or.inl ⟨by rfl, ?ahy29⟩) hSS ?_
    case ahy29 => (intro wz hSw; (try dsimp only at hSw); go_simp; try (with_reducible rfl))
    refine wpAnyE_one (i := 30) (by kernel_rfl) rfl (fun K hK => ?_)
    go_simp
    refine hK.out _ _ ⟨hSS.1, fun _ => trivial⟩ ?_
    clear hK K
    refine wpAnyE_done (by kernel_rfl) ?_ _
    clear hSS
    go_wp2
    go_ret
    exact ⟨ret_bool HV.out, B0.drew⟩
  cases h2 : okN 3 10000 bn bx
  · have HV : Hid (false = V) := by
      show _ = _
      rw [HW.out, siteB]
      cases h3 : keepT bn gn bx G T s an ax
      · simp
      · have := (keepT_elim h3).1; rw [h2] at this; cases this
    have KP : Hid (∀ W, Below W0.heap.size W0 W → (W.cell? ⟨w.heap.size, 0, none⟩ = some (.int .i64 cl) ∧ W.cell? ⟨w.heap.size, 1, none⟩ = some (.slice ad N cap) ∧ W.cell? ⟨w.heap.size, 2, none⟩ = some (.slice ga gn gc) ∧ W.cell? ⟨w.heap.size, 3, none⟩ = some (.slice sa sn sc)) ∧ (W.cell? ⟨w.heap.size + 1, 0, none⟩ = some (.bool u) ∧ W.cell? ⟨w.heap.size + 1, 1, none⟩ = some (.bool f) ∧ W.cell? ⟨w.heap.size + 1, 2, none⟩ = some (.int .i64 r) ∧ W.cell? ⟨w.heap.size + 1, 3, none⟩ = some (.slice ba bn bc) ∧ W.cell? ⟨w.heap.size + 1, 4, none⟩ = some (.slice aa an ac) ∧ W.cell? ⟨w.heap.size + 1, 5, none⟩ = some (.slice da dn dc))) := fun W hW => ⟨(q0.below hW).quadP, (y0.below hW).sixP⟩
    have hSS := And.intro (KP.out _ (Below.refl _ _).drew) True.intro
    go_enter Tryz.func44, Tryz.ntmps44
    go_upto_region 1 with fail
    rw [← hW0]
    clear hW0 q0 y0
    refine wp_region_ends (fun w' => (w'.cell? ⟨w.heap.size, 0, none⟩ = some (.int .i64 cl) ∧ w'.cell? ⟨w.heap.size, 1, none⟩ = some (.slice ad N cap) ∧ w'.cell? ⟨w.heap.size, 2, none⟩ = some (.slice ga gn gc) ∧ w'.cell? ⟨w.heap.size, 3, none⟩ = some (.slice sa sn sc)) ∧ (w'.cell? ⟨w.heap.size + 1, 0, none⟩ = some (.bool u) ∧ w'.cell? ⟨w.heap.size + 1, 1, none⟩ = some (.bool f) ∧ w'.cell? ⟨w.heap.size + 1, 2, none⟩ = some (.int .i64 r) ∧ w'.cell? ⟨w.heap.size + 1, 3, none⟩ = some (.slice ba bn bc) ∧ w'.cell? ⟨w.heap.size + 1, 4, none⟩ = some (.slice aa an ac) ∧ w'.cell? ⟨w.heap.size + 1, 5, none⟩ = some (.slice da dn dc))) (fun _ => True) 30 (by kernel_rfl) ?_
    refine wpAnyE_take0 (i := 0) (v := ?bv0) rfl (by kernel_rfl) (by kernel_rfl) (by kernel_rfl) (by decide) (fun _ _ _ h => h) (Or.inl ⟨by rfl, ?bhy0⟩) hSS ?_
    case bhy0 => (intro wz hSw; (try dsimp only at hSw); go_simp; try (with_reducible rfl))
    refine wpAnyE_take0 (i := 1) (v := ?bv1) rfl (by kernel_rfl) (by kernel_rfl) (by kernel_rfl) (by decide) (fun _ _ _ h => h) (Or.inl ⟨by rfl, ?bhy1⟩) hSS ?_
    case bhy1 => (intro wz hSw; (try dsimp only at hSw); go_simp; try (with_reducible rfl))
    refine wpAnyE_one (i := 2) (by kernel_rfl) rfl (fun K hK => ?_)
    go_simp
    refine (in_any _ _ _ _).mono ?_
    rintro ee wq ⟨rfl, rfl⟩
    rw [h1]
    (try dsimp only)
    refine hK.out _ _ ⟨hSS.1, fun _ => trivial⟩ ?_
    clear hK K
    refine wpAnyE_take0 (i := 3) (v := ?bv3) rfl (by kernel_rfl) (by kernel_rfl) (by kernel_rfl) (by decide) (fun _ _ _ h => h) (Or.inl ⟨by rfl, ?bhy3⟩) hSS ?_
    case bhy3 => (intro wz hSw; (try dsimp only at hSw); go_simp; try (with_reducible rfl))
    refine wpAnyE_take0 (i := 4) (v := ?bv4) rfl (by kernel_rfl) (by kernel_rfl) (by kernel_rfl) (by decide) (fun _ _ _ h => h) (Or.inl ⟨by rfl, ?bhy4⟩) hSS ?_
    case bhy4 => (intro wz hSw; (try dsimp only at hSw); go_simp; try (with_reducible rfl))
    refine wpAnyE_take0 (i := 5) (v := ?bv5) rfl (by kernel_rfl) (by kernel_rfl) (by kernel_rfl) (by decide) (fun _ _ _ h => h) (Or.inl ⟨by rfl, ?bhy5⟩) hSS ?_
    case bhy5 => (intro wz hSw; (try dsimp only at hSw); go_simp; try (with_reducible rfl))
    refine wpAnyE_one (i := 6) (by kernel_rfl) rfl (fun K hK => ?_)
    go_simp
    refine (sval_any _ _ _ bx _ (h.below B0.drew).b h.zb).mono ?_
    rintro ee wq ⟨rfl, rfl⟩
    rw [h2]
    (try dsimp only)
    refine hK.out _ _ ⟨hSS.1, fun _ => trivial⟩ ?_
    clear hK K
    refine wpAnyE_take0 (i := 7) (v := ?bv7) rfl (by kernel_rfl) (by kernel_rfl) (by kernel_rfl) (by decide) (fun _ _ _ h => h) (Or.inl ⟨by rfl, ?bhy7⟩) hSS ?_
    case bhy7 => (intro wz hSw; (try dsimp only at hSw); go_simp; try (with_reducible rfl))
    refine wpAnyE_take0 (i := 8) (v := ?bv8) rfl (by kernel_rfl) (by kernel_rfl) (by kernel_rfl) (by decide) (fun _ _ _ h => h) (Or.inl ⟨by rfl, ?bhy8⟩) hSS ?_
    case bhy8 => (intro wz hSw; (try dsimp only at hSw); go_simp; try (with_reducible rfl))
    refine wpAnyE_take0 (i := 9) (v := undef) rfl (by kernel_rfl) (by kernel_rfl) (by kernel_rfl) (by decide) (fun _ _ _ h => h) (Or.inr ⟨by kernel_rfl, rfl⟩) hSS ?_
    refine wpAnyE_take0 (i := 10) (v := undef) rfl (by kernel_rfl) (by kernel_rfl) (by kernel_rfl) (by decide) (fun _ _ _ h => h) (Or.inr ⟨by kernel_rfl, rfl⟩) hSS ?_
    simp only [Act.put, List.setIfInBounds_toArray, List.set_cons_succ, List.set_cons_zero, List.getElem_toArray, List.getElem_cons_succ, List.getElem_cons_zero]
    refine wpAnyE_take0 (i := 12) (v := undef) rfl (by kernel_rfl) (by kernel_rfl) (by kernel_rfl) (by decide) (fun _ _ _ h => h) (Or.inr ⟨by kernel_rfl, rfl⟩) hSS ?_
    refine wpAnyE_take0 (i := 13) (v := undef) rfl (by kernel_rfl) (by kernel_rfl) (by kernel_rfl) (by decide) (fun _ _ _ h => h) (Or.inr ⟨by kernel_rfl, rfl⟩) hSS ?_
    refine wpAnyE_take0 (i := 14) (v := undef) rfl (by kernel_rfl) (by kernel_rfl) (by kernel_rfl) (by decide) (fun _ _ _ h => h) (Or.inr ⟨by kernel_rfl, rfl⟩) hSS ?_
    refine wpAnyE_take0 (i := 15) (v := undef) rfl (by kernel_rfl) (by kernel_rfl) (by kernel_rfl) (by decide) (fun _ _ _ h => h) (Or.inr ⟨by kernel_rfl, rfl⟩) hSS ?_
    simp only [Act.put, List.setIfInBounds_toArray, List.set_cons_succ, List.set_cons_zero, List.getElem_toArray, List.getElem_cons_succ, List.getElem_cons_zero]
    refine wpAnyE_take0 (i := 11) (v := undef) rfl (by kernel_rfl) (by kernel_rfl) (by kernel_rfl) (by decide) (fun _ _ _ h => h) (Or.inr ⟨by kernel_rfl, rfl⟩) hSS ?_
    refine wpAnyE_take0 (i := 16) (v := undef) rfl (by kernel_rfl) (by kernel_rfl) (by kernel_rfl) (by decide) (fun _ _ _ h => h) (Or.inr ⟨by kernel_rfl, rfl⟩) hSS ?_
    refine wpAnyE_take0 (i := 17) (v := ?bv17) rfl (by kernel_rfl) (by kernel_rfl) (by kernel_rfl) (by decide) (fun _ _ _ h => h) (Or.inl ⟨by rfl, ?bhy17⟩) hSS ?_
    case bhy17 => (intro wz hSw; (try dsimp only at hSw); go_simp; try (with_reducible rfl))
    refine wpAnyE_take0 (i := 18) (v := ?bv18) rfl (by kernel_rfl) (by kernel_rfl) (by kernel_rfl) (by decide) (fun _ _ _ h => h) (Or.inl ⟨by rfl, ?bhy18⟩) hSS ?_
    case bhy18 => (intro wz hSw; (try dsimp only at hSw); go_simp; try (with_reducible rfl))
    simp only [Act.put, List.setIfInBounds_toArray, List.set_cons_succ, List.set_cons_zero, List.getElem_toArray, List.getElem_cons_succ, List.getElem_cons_zero]
    refine wpAnyE_take0 (i := 19) (v := undef) rfl (by kernel_rfl) (by kernel_rfl) (by kernel_rfl) (by decide) (fun _ _ _ h => h) (Or.inr ⟨by kernel_rfl, rfl⟩) hSS ?_
    refine wpAnyE_take0 (i := 20) (v := undef) rfl (by kernel_rfl) (by kernel_rfl) (by kernel_rfl) (by decide) (fun _ _ _ h => h) (Or.inr ⟨by kernel_rfl, rfl⟩) hSS ?_
    refine wpAnyE_take0 (i := 21) (v := undef) rfl (by kernel_rfl) (by kernel_rfl) (by kernel_rfl) (by decide) (fun _ _ _ h => h) (Or.inr ⟨by kernel_rfl, rfl⟩) hSS ?_
    refine wpAnyE_take0 (i := 22) (v := undef) rfl (by kernel_rfl) (by kernel_rfl) (by kernel_rfl) (by decide) (fun _ _ _ h => h) (Or.inr ⟨by kernel_rfl, rfl⟩) hSS ?_
    simp only [Act.put, List.setIfInBounds_toArray, List.set_cons_succ, List.set_cons_zero, List.getElem_toArray, List.getElem_cons_succ, List.getElem_cons_zero]
    refine wpAnyE_take0 (i := 23) (v := ?bv23) rfl (by kernel_rfl) (by kernel_rfl) (by kernel_rfl) (by decide) (fun _ _ _ h => h) (Or.inl ⟨by rfl, ?bhy23⟩) hSS ?_
    case bhy23 => (intro wz hSw; (try dsimp only at hSw); go_simp; try (with_reducible rfl))
    refine wpAnyE_take0 (i := 24) (v := ?bv24) rfl (by kernel_rfl) (by kernel_rfl) (by kernel_rfl) (by decide) (fun _ _ _ h => h) (Or.inl ⟨by rfl, ?bhy24⟩) hSS ?_
    case bhy24 => (intro wz hSw; (try dsimp only at hSw); go_simp; try (with_reducible rfl))
    refine wpAnyE_take0 (i := 25) (v := undef) rfl (by kernel_rfl) (by kernel_rfl) (by kernel_rfl) (by decide) (fun _ _ _ h => h) (Or.inr ⟨by kernel_rfl, rfl⟩) hSS ?_
    refine wpAnyE_take0 (i := 26) (v := undef) rfl (by kernel_rfl) (by kernel_rfl) (by kernel_rfl) (by decide) (fun _ _ _ h => h) (Or.inr ⟨by kernel_rfl, rfl⟩) hSS ?_
    simp only [Act.put, List.setIfInBounds_toArray, List.set_cons_succ, List.set_cons_zero, List.getElem_toArray, List.getElem_cons_succ, List.getElem_cons_zero]
    refine wpAnyE_take0 (i := 27) (v := undef) rfl (by kernel_rfl) (by kernel_rfl) (by kernel_rfl) (by decide) (fun _ _ _ h => h) (Or.inr ⟨by kernel_rfl, rfl⟩) hSS ?_
    refine wpAnyE_take0 (i := 28) (v := undef) rfl (by kernel_rfl) (by kernel_rfl) (by kernel_rfl) (by decide) (fun _ _ _ h => h) (Or.inr ⟨by kernel_rfl, rfl⟩) hSS ?_
    refine wpAnyE_take0 (i := 29) (v := ?bv29) rfl (by kernel_rfl) (by kernel_rfl) (by kernel_rfl) (by decide) (fun _ _ _ h => h) (Or.inl ⟨by rfl, ?bhy29⟩) hSS ?_
    case bhy29 => (intro wz hSw; (try dsimp only at hSw); go_simp; try (with_reducible rfl))
    refine wpAnyE_one (i := 30) (by kernel_rfl) rfl (fun K hK => ?_)
    go_simp
    refine hK.out _ _ ⟨hSS.1, fun _ => trivial⟩ ?_
    clear hK K
    refine wpAnyE_done (by kernel_rfl) ?_ _
    clear hSS
    go_wp2
    go_ret
    exact ⟨ret_bool HV.out, B0.drew⟩
  cases h3 : keepT bn gn bx G T s an ax
  · have HV : Hid (false = V) := by show _ = _; rw [HW.out, siteB, h3]; simp
    have KP : Hid (∀ W, Below W0.heap.size W0 W → (W.cell? ⟨w.heap.size, 0, none⟩ = some (.int .i64 cl) ∧ W.cell? ⟨w.heap.size, 1, none⟩ = some (.slice ad N cap) ∧ W.cell? ⟨w.heap.size, 2, none⟩ = some (.slice ga gn gc) ∧ W.cell? ⟨w.heap.size, 3, none⟩ = some (.slice sa sn sc)) ∧ (W.cell? ⟨w.heap.size + 1, 0, none⟩ = some (.bool u) ∧ W.cell? ⟨w.heap.size + 1, 1, none⟩ = some (.bool f) ∧ W.cell? ⟨w.heap.size + 1, 2, none⟩ = some (.int .i64 r) ∧ W.cell? ⟨w.heap.size + 1, 3, none⟩ = some (.slice ba bn bc) ∧ W.cell? ⟨w.heap.size + 1, 4, none⟩ = some (.slice aa an ac) ∧ W.cell? ⟨w.heap.size + 1, 5, none⟩ = some (.slice da dn dc))) := fun W hW => ⟨(q0.below hW).quadP, (y0.below hW).sixP⟩
    have hSS := And.intro (KP.out _ (Below.refl _ _).drew) True.intro
    go_enter Tryz.func44, Tryz.ntmps44
    go_upto_region 1 with fail
    rw [← hW0]
    clear hW0 q0 y0
    refine wp_region_ends (fun w' => (w'.cell? ⟨w.heap.size, 0, none⟩ = some (.int .i64 cl) ∧ w'.cell? ⟨w.heap.size, 1, none⟩ = some (.slice ad N cap) ∧ w'.cell? ⟨w.heap.size, 2, none⟩ = some (.slice ga gn gc) ∧ w'.cell? ⟨w.heap.size, 3, none⟩ = some (.slice sa sn sc)) ∧ (w'.cell? ⟨w.heap.size + 1, 0, none⟩ = some (.bool u) ∧ w'.cell? ⟨w.heap.size + 1, 1, none⟩ = some (.bool f) ∧ w'.cell? ⟨w.heap.size + 1, 2, none⟩ = some (.int .i64 r) ∧ w'.cell? ⟨w.heap.size + 1, 3, none⟩ = some (.slice ba bn bc) ∧ w'.cell? ⟨w.heap.size + 1, 4, none⟩ = some (.slice aa an ac) ∧ w'.cell? ⟨w.heap.size + 1, 5, none⟩ = some (.slice da dn dc))) (fun _ => True) 30 (by kernel_rfl) ?_
    refine wpAnyE_take0 (i := 0) (v := ?cv0) rfl (by kernel_rfl) (by kernel_rfl) (by kernel_rfl) (by decide) (fun _ _ _ h => h) (Or.inl ⟨by rfl, ?chy0⟩) hSS ?_
    case chy0 => (intro wz hSw; (try dsimp only at hSw); go_simp; try (with_reducible rfl))
    refine wpAnyE_take0 (i := 1) (v := ?cv1) rfl (by kernel_rfl) (by kernel_rfl) (by kernel_rfl) (by decide) (fun _ _ _ h => h) (Or.inl ⟨by rfl, ?chy1⟩) hSS ?_
    case chy1 => (intro wz hSw; (try dsimp only at hSw); go_simp; try (with_reducible rfl))
    refine wpAnyE_one (i := 2) (by kernel_rfl) rfl (fun K hK => ?_)
    go_simp
    refine (in_any _ _ _ _).mono ?_
    rintro ee wq ⟨rfl, rfl⟩
    rw [h1]
    (try dsimp only)
    refine hK.out _ _ ⟨hSS.1, fun _ => trivial⟩ ?_
    clear hK K
    refine wpAnyE_take0 (i := 3) (v := ?cv3) rfl (by kernel_rfl) (by kernel_rfl) (by kernel_rfl) (by decide) (fun _ _ _ h => h) (Or.inl ⟨by rfl, ?chy3⟩) hSS ?_
    case chy3 => (intro wz hSw; (try dsimp only at hSw); go_simp; try (with_reducible rfl))
    refine wpAnyE_take0 (i := 4) (v := ?cv4) rfl (by kernel_rfl) (by kernel_rfl) (by kernel_rfl) (by decide) (fun _ _ _ h => h) (Or.inl ⟨by rfl, ?chy4⟩) hSS ?_
    case chy4 => (intro wz hSw; (try dsimp only at hSw); go_simp; try (with_reducible rfl))
    refine wpAnyE_take0 (i := 5) (v := ?cv5) rfl (by kernel_rfl) (by kernel_rfl) (by kernel_rfl) (by decide) (fun _ _ _ h => h) (Or.inl ⟨by rfl, ?chy5⟩) hSS ?_
    case chy5 => (intro wz hSw; (try dsimp only at hSw); go_simp; try (with_reducible rfl))
    refine wpAnyE_one (i := 6) (by kernel_rfl) rfl (fun K hK => ?_)
    go_simp
    refine (sval_any _ _ _ bx _ (h.below B0.drew).b h.zb).mono ?_
    rintro ee wq ⟨rfl, rfl⟩
    rw [h2]
    (try dsimp only)
    refine hK.out _ _ ⟨hSS.1, fun _ => trivial⟩ ?_
    clear hK K
    refine wpAnyE_take0 (i := 7) (v := ?cv7) rfl (by kernel_rfl) (by kernel_rfl) (by kernel_rfl) (by decide) (fun _ _ _ h => h) (Or.inl ⟨by rfl, ?chy7⟩) hSS ?_
    case chy7 => (intro wz hSw; (try dsimp only at hSw); go_simp; try (with_reducible rfl))
    refine wpAnyE_take0 (i := 8) (v := ?cv8) rfl (by kernel_rfl) (by kernel_rfl) (by kernel_rfl) (by decide) (fun _ _ _ h => h) (Or.inl ⟨by rfl, ?chy8⟩) hSS ?_
    case chy8 => (intro wz hSw; (try dsimp only at hSw); go_simp; try (with_reducible rfl))
    refine wpAnyE_take0 (i := 9) (v := ?cv9) rfl (by kernel_rfl) (by kernel_rfl) (by kernel_rfl) (by decide) (fun _ _ _ h => h) (Or.inl ⟨by rfl, ?chy9⟩) hSS ?_
    case chy9 => (intro wz hSw; (try dsimp only at hSw); go_simp; try (with_reducible rfl))
    refine wpAnyE_take0 (i := 10) (v := ?cv10) rfl (by kernel_rfl) (by kernel_rfl) (by kernel_rfl) (by decide) (fun _ _ _ h => h) (Or.inl ⟨by rfl, ?chy10⟩) hSS ?_
    case chy10 => (intro wz hSw; (try dsimp only at hSw); go_simp; try (with_reducible rfl))
    simp only [Act.put, List.setIfInBounds_toArray, List.set_cons_succ, List.set_cons_zero, List.getElem_toArray, List.getElem_cons_succ, List.getElem_cons_zero]
    refine wpAnyE_take0 (i := 12) (v := ?cv12) rfl (by kernel_rfl) (by kernel_rfl) (by kernel_rfl) (by decide) (fun _ _ _ h => h) (Or.inl ⟨by rfl, ?chy12⟩) hSS ?_
    case chy12 => (intro wz hSw; (try dsimp only at hSw); go_simp; try (with_reducible rfl))
    refine wpAnyE_take0 (i := 13) (v := ?cv13) rfl (by kernel_rfl) (by kernel_rfl) (by kernel_rfl) (by decide) (fun _ _ _ h => h) (Or.inl ⟨by rfl, ?chy13⟩) hSS ?_
    case chy13 => (intro wz hSw; (try dsimp only at hSw); go_simp; try (with_reducible rfl))
    refine wpAnyE_take0 (i := 14) (v := ?cv14) rfl (by kernel_rfl) (by kernel_rfl) (by kernel_rfl) (by decide) (fun _ _ _ h => h) (Or.inl ⟨by rfl, ?chy14⟩) hSS ?_
    case chy14 => (intro wz hSw; (try dsimp only at hSw); go_simp; try (with_reducible rfl))
    refine wpAnyE_take0 (i := 15) (v := ?cv15) rfl (by kernel_rfl) (by kernel_rfl) (by kernel_rfl) (by decide) (fun _ _ _ h => h) (Or.inl ⟨by rfl, ?chy15⟩) hSS ?_
    case chy15 => (intro wz hSw; (try dsimp only at hSw); go_simp; try (with_reducible rfl))
    simp only [Act.put, List.setIfInBounds_toArray, List.set_cons_succ, List.set_cons_zero, List.getElem_toArray, List.getElem_cons_succ, List.getElem_cons_zero]
    refine wpAnyE_one (i := 11) (by kernel_rfl) rfl (fun K hK => ?_)
    go_simp
    refine (str8_any _ _ _ _ _ _ _ _ _ _ _ _ _ _ _ _ _ _ _ _ _ _ _).mono ?_
    rintro ee w1 ⟨rfl, bd1⟩
    have b1 := below_of_drew bd1
    have B1 := B0.trans (b1.mono B0.size)
    (try dsimp only)
    replace hSS := And.intro (KP.out w1 b1) True.intro
    refine hK.out _ _ ⟨hSS.1, fun _ => trivial⟩ ?_
    clear hK K
    refine wpAnyE_one (i := 16) (by kernel_rfl) rfl (fun K hK => ?_)
    go_simp
    refine (skeep_any _ _ _ _ _ _ _ _ _ _ _ _ _ bx G ax ts _ (h.below B1).b (hG.below B1) (h.below B1).a lP (hP.below B1) h.zb zg h.za zP).mono ?_
    rintro ee w2 ⟨rfl, b2⟩
    rw [keep_of hP HT.out, h3]
    have b12 := b1.trans (b2.mono b1.size)
    have B2 := B1.trans (b2.mono B1.size)
    (try dsimp only)
    replace hSS := And.intro (KP.out w2 b12) True.intro
    refine hK.out _ _ ⟨hSS.1, fun _ => trivial⟩ ?_
    clear hK K
    refine wpAnyE_take0 (i := 17) (v := ?cv17) rfl (by kernel_rfl) (by kernel_rfl) (by kernel_rfl) (by decide) (fun _ _ _ h => h) (Or.inl ⟨by rfl, ?chy17⟩) hSS ?_
    case chy17 => (intro wz hSw; (try dsimp only at hSw); go_simp; try (with_reducible rfl))
    refine wpAnyE_take0 (i := 18) (v := ?cv18) rfl (by kernel_rfl) (by kernel_rfl) (by kernel_rfl) (by decide) (fun _ _ _ h => h) (Or.inl ⟨by rfl, ?chy18⟩) hSS ?_
    case chy18 => (intro wz hSw; (try dsimp only at hSw); go_simp; try (with_reducible rfl))
    refine wpAnyE_take0 (i := 19) (v := undef) rfl (by kernel_rfl) (by kernel_rfl) (by kernel_rfl) (by decide) (fun _ _ _ h => h) (Or.inr ⟨by kernel_rfl, rfl⟩) hSS ?_
    refine wpAnyE_take0 (i := 20) (v := undef) rfl (by kernel_rfl) (by kernel_rfl) (by kernel_rfl) (by decide) (fun _ _ _ h => h) (Or.inr ⟨by kernel_rfl, rfl⟩) hSS ?_
    simp only [Act.put, List.setIfInBounds_toArray, List.set_cons_succ, List.set_cons_zero, List.getElem_toArray, List.getElem_cons_succ, List.getElem_cons_zero]
    refine wpAnyE_take0 (i := 21) (v := undef) rfl (by kernel_rfl) (by kernel_rfl) (by kernel_rfl) (by decide) (fun _ _ _ h => h) (Or.inr ⟨by kernel_rfl, rfl⟩) hSS ?_
    refine wpAnyE_take0 (i := 22) (v := undef) rfl (by kernel_rfl) (by kernel_rfl) (by kernel_rfl) (by decide) (fun _ _ _ h => h) (Or.inr ⟨by kernel_rfl, rfl⟩) hSS ?_
    refine wpAnyE_take0 (i := 23) (v := ?cv23) rfl (by kernel_rfl) (by kernel_rfl) (by kernel_rfl) (by decide) (fun _ _ _ h => h) (Or.inl ⟨by rfl, ?chy23⟩) hSS ?_
    case chy23 => (intro wz hSw; (try dsimp only at hSw); go_simp; try (with_reducible rfl))
    refine wpAnyE_take0 (i := 24) (v := ?cv24) rfl (by kernel_rfl) (by kernel_rfl) (by kernel_rfl) (by decide) (fun _ _ _ h => h) (Or.inl ⟨by rfl, ?chy24⟩) hSS ?_
    case chy24 => (intro wz hSw; (try dsimp only at hSw); go_simp; try (with_reducible rfl))
    simp only [Act.put, List.setIfInBounds_toArray, List.set_cons_succ, List.set_cons_zero, List.getElem_toArray, List.getElem_cons_succ, List.getElem_cons_zero]
    refine wpAnyE_take0 (i := 25) (v := undef) rfl (by kernel_rfl) (by kernel_rfl) (by kernel_rfl) (by decide) (fun _ _ _ h => h) (Or.inr ⟨by kernel_rfl, rfl⟩) hSS ?_
    refine wpAnyE_take0 (i := 26) (v := undef) rfl (by kernel_rfl) (by kernel_rfl) (by kernel_rfl) (by decide) (fun _ _ _ h => h) (Or.inr ⟨by kernel_rfl, rfl⟩) hSS ?_
    refine wpAnyE_take0 (i := 27) (v := undef) rfl (by kernel_rfl) (by kernel_rfl) (by kernel_rfl) (by decide) (fun _ _ _ h => h) (Or.inr ⟨by kernel_rfl, rfl⟩) hSS ?_
    refine wpAnyE_take0 (i := 28) (v := undef) rfl (by kernel_rfl) (by kernel_rfl) (by kernel_rfl) (by decide) (fun _ _ _ h => h) (Or.inr ⟨by kernel_rfl, rfl⟩) hSS ?_
    simp only [Act.put, List.setIfInBounds_toArray, List.set_cons_succ, List.set_cons_zero, List.getElem_toArray, List.getElem_cons_succ, List.getElem_cons_zero]
    refine wpAnyE_take0 (i := 29) (v := ?cv29) rfl (by kernel_rfl) (by kernel_rfl) (by kernel_rfl) (by decide) (fun _ _ _ h => h) (Or.inl ⟨by rfl, ?chy29⟩) hSS ?_
    case chy29 => (intro wz hSw; (try dsimp only at hSw); go_simp; try (with_reducible rfl))
    refine wpAnyE_one (i := 30) (by kernel_rfl) rfl (fun K hK => ?_)
    go_simp
    refine hK.out _ _ ⟨hSS.1, fun _ => trivial⟩ ?_
    clear hK K
    refine wpAnyE_done (by kernel_rfl) ?_ _
    clear hSS
    go_wp2
    go_ret
    exact ⟨ret_bool HV.out, B2⟩
  obtain rfl : an = 3 := (keepT_elim h3).2.2
  cases h4 : stillB R ax
  · have HV : Hid (false = V) := by show _ = _; rw [HW.out, siteB, h4]; simp
    have KP : Hid (∀ W, Below W0.heap.size W0 W → (W.cell? ⟨w.heap.size, 0, none⟩ = some (.int .i64 cl) ∧ W.cell? ⟨w.heap.size, 1, none⟩ = some (.slice ad N cap) ∧ W.cell? ⟨w.heap.size, 2, none⟩ = some (.slice ga gn gc) ∧ W.cell? ⟨w.heap.size, 3, none⟩ = some (.slice sa sn sc)) ∧ (W.cell? ⟨w.heap.size + 1, 0, none⟩ = some (.bool u) ∧ W.cell? ⟨w.heap.size + 1, 1, none⟩ = some (.bool f) ∧ W.cell? ⟨w.heap.size + 1, 2, none⟩ = some (.int .i64 r) ∧ W.cell? ⟨w.heap.size + 1, 3, none⟩ = some (.slice ba bn bc) ∧ W.cell? ⟨w.heap.size + 1, 4, none⟩ = some (.slice aa 3 ac) ∧ W.cell? ⟨w.heap.size + 1, 5, none⟩ = some (.slice da dn dc))) := fun W hW => ⟨(q0.below hW).quadP, (y0.below hW).sixP⟩
    have hSS := And.intro (KP.out _ (Below.refl _ _).drew) True.intro
    go_enter Tryz.func44, Tryz.ntmps44
    go_upto_region 1 with fail
    rw [← hW0]
    clear hW0 q0 y0
    refine wp_region_ends (fun w' => (w'.cell? ⟨w.heap.size, 0, none⟩ = some (.int .i64 cl) ∧ w'.cell? ⟨w.heap.size, 1, none⟩ = some (.slice ad N cap) ∧ w'.cell? ⟨w.heap.size, 2, none⟩ = some (.slice ga gn gc) ∧ w'.cell? ⟨w.heap.size, 3, none⟩ = some (.slice sa sn sc)) ∧ (w'.cell? ⟨w.heap.size + 1, 0, none⟩ = some (.bool u) ∧ w'.cell? ⟨w.heap.size + 1, 1, none⟩ = some (.bool f) ∧ w'.cell? ⟨w.heap.size + 1, 2, none⟩ = some (.int .i64 r) ∧ w'.cell? ⟨w.heap.size + 1, 3, none⟩ = some (.slice ba bn bc) ∧ w'.cell? ⟨w.heap.size + 1, 4, none⟩ = some (.slice aa 3 ac) ∧ w'.cell? ⟨w.heap.size + 1, 5, none⟩ = some (.slice da dn dc))) (fun _ => True) 30 (by kernel_rfl) ?_
    refine wpAnyE_take0 (i := 0) (v := ?dv0) rfl (by kernel_rfl) (by kernel_rfl) (by kernel_rfl) (by decide) (fun _ _ _ h => h) (Or.inl ⟨by rfl, ?dhy0⟩) hSS ?_
    case dhy0 => (intro wz hSw; (try dsimp only at hSw); go_simp; try (with_reducible rfl))
    refine wpAnyE_take0 (i := 1) (v := ?dv1) rfl (by kernel_rfl) (by kernel_rfl) (by kernel_rfl) (by decide) (fun _ _ _ h => h) (Or.inl ⟨by rfl, ?dhy1⟩) hSS ?_
    case dhy1 => (intro wz hSw; (try dsimp only at hSw); go_simp; try (with_reducible rfl))
    refine wpAnyE_one (i := 2) (by kernel_rfl) rfl (fun K hK => ?_)
    go_simp
    refine (in_any _ _ _ _).mono ?_
    rintro ee wq ⟨rfl, rfl⟩
    rw [h1]
    (try dsimp only)
    refine hK.out _ _ ⟨hSS.1, fun _ => trivial⟩ ?_
    clear hK K
    refine wpAnyE_take0 (i := 3) (v := ?dv3) rfl (by kernel_rfl) (by kernel_rfl) (by kernel_rfl) (by decide) (fun _ _ _ h => h) (Or.inl ⟨by rfl, ?dhy3⟩) hSS ?_
    case dhy3 => (intro wz hSw; (try dsimp only at hSw); go_simp; try (with_reducible rfl))
    refine wpAnyE_take0 (i := 4) (v := ?dv4) rfl (by kernel_rfl) (by kernel_rfl) (by kernel_rfl) (by decide) (fun _ _ _ h => h) (Or.inl ⟨by rfl, ?dhy4⟩) hSS ?_
    case dhy4 => (intro wz hSw; (try dsimp only at hSw); go_simp; try (with_reducible rfl))
    refine wpAnyE_take0 (i := 5) (v := ?dv5) rfl (by kernel_rfl) (by kernel_rfl) (by kernel_rfl) (by decide) (fun _ _ _ h => h) (Or.inl ⟨by rfl, ?dhy5⟩) hSS ?_
    case dhy5 => (intro wz hSw; (try dsimp only at hSw); go_simp; try (with_reducible rfl))
    refine wpAnyE_one (i := 6) (by kernel_rfl) rfl (fun K hK => ?_)
    go_simp
    refine (sval_any _ _ _ bx _ (h.below B0.drew).b h.zb).mono ?_
    rintro ee wq ⟨rfl, rfl⟩
    rw [h2]
    (try dsimp only)
    refine hK.out _ _ ⟨hSS.1, fun _ => trivial⟩ ?_
    clear hK K
    refine wpAnyE_take0 (i := 7) (v := ?dv7) rfl (by kernel_rfl) (by kernel_rfl) (by kernel_rfl) (by decide) (fun _ _ _ h => h) (Or.inl ⟨by rfl, ?dhy7⟩) hSS ?_
    case dhy7 => (intro wz hSw; (try dsimp only at hSw); go_simp; try (with_reducible rfl))
    refine wpAnyE_take0 (i := 8) (v := ?dv8) rfl (by kernel_rfl) (by kernel_rfl) (by kernel_rfl) (by decide) (fun _ _ _ h => h) (Or.inl ⟨by rfl, ?dhy8⟩) hSS ?_
    case dhy8 => (intro wz hSw; (try dsimp only at hSw); go_simp; try (with_reducible rfl))
    refine wpAnyE_take0 (i := 9) (v := ?dv9) rfl (by kernel_rfl) (by kernel_rfl) (by kernel_rfl) (by decide) (fun _ _ _ h => h) (Or.inl ⟨by rfl, ?dhy9⟩) hSS ?_
    case dhy9 => (intro wz hSw; (try dsimp only at hSw); go_simp; try (with_reducible rfl))
    refine wpAnyE_take0 (i := 10) (v := ?dv10) rfl (by kernel_rfl) (by kernel_rfl) (by kernel_rfl) (by decide) (fun _ _ _ h => h) (Or.inl ⟨by rfl, ?dhy10⟩) hSS ?_
    case dhy10 => (intro wz hSw; (try dsimp only at hSw); go_simp; try (with_reducible rfl))
    simp only [Act.put, List.setIfInBounds_toArray, List.set_cons_succ, List.set_cons_zero, List.getElem_toArray, List.getElem_cons_succ, List.getElem_cons_zero]
    refine wpAnyE_take0 (i := 12) (v := ?dv12) rfl (by kernel_rfl) (by kernel_rfl) (by kernel_rfl) (by decide) (fun _ _ _ h => h) (Or.inl ⟨by rfl, ?dhy12⟩) hSS ?_
    case dhy12 => (intro wz hSw; (try dsimp only at hSw); go_simp; try (with_reducible rfl))
    refine wpAnyE_take0 (i := 13) (v := ?dv13) rfl (by kernel_rfl) (by kernel_rfl) (by kernel_rfl) (by decide) (fun _ _ _ h => h) (Or.inl ⟨by rfl, ?dhy13⟩) hSS ?_
    case dhy13 => (intro wz hSw; (try dsimp only at hSw); go_simp; try (with_reducible rfl))
    refine wpAnyE_take0 (i := 14) (v := ?dv14) rfl (by kernel_rfl) (by kernel_rfl) (by kernel_rfl) (by decide) (fun _ _ _ h => h) (Or.inl ⟨by rfl, ?dhy14⟩) hSS ?_
    case dhy14 => (intro wz hSw; (try dsimp only at hSw); go_simp; try (with_reducible rfl))
    refine wpAnyE_take0 (i := 15) (v := ?dv15) rfl (by kernel_rfl) (by kernel_rfl) (by kernel_rfl) (by decide) (fun _ _ _ h => h) (Or.inl ⟨by rfl, ?dhy15⟩) hSS ?_
    case dhy15 => (intro wz hSw; (try dsimp only at hSw); go_simp; try (with_reducible rfl))
    simp only [Act.put, List.setIfInBounds_toArray, List.set_cons_succ, List.set_cons_zero, List.getElem_toArray, List.getElem_cons_succ, List.getElem_cons_zero]
    refine wpAnyE_one (i := 11) (by kernel_rfl) rfl (fun K hK => ?_)
    go_simp
    refine (str8_any _ _ _ _ _ _ _ _ _ _ _ _ _ _ _ _ _ _ _ _ _ _ _).mono ?_
    rintro ee w1 ⟨rfl, bd1⟩
    have b1 := below_of_drew bd1
    have B1 := B0.trans (b1.mono B0.size)
    (try dsimp only)
    replace hSS := And.intro (KP.out w1 b1) True.intro
    refine hK.out _ _ ⟨hSS.1, fun _ => trivial⟩ ?_
    clear hK K
    refine wpAnyE_one (i := 16) (by kernel_rfl) rfl (fun K hK => ?_)
    go_simp
    refine (skeep_any _ _ _ _ _ _ _ _ _ _ _ _ _ bx G ax ts _ (h.below B1).b (hG.below B1) (h.below B1).a lP (hP.below B1) h.zb zg h.za zP).mono ?_
    rintro ee w2 ⟨rfl, b2⟩
    rw [keep_of hP HT.out, h3]
    have b12 := b1.trans (b2.mono b1.size)
    have B2 := B1.trans (b2.mono B1.size)
    (try dsimp only)
    replace hSS := And.intro (KP.out w2 b12) True.intro
    refine hK.out _ _ ⟨hSS.1, fun _ => trivial⟩ ?_
    clear hK K
    refine wpAnyE_take0 (i := 17) (v := ?dv17) rfl (by kernel_rfl) (by kernel_rfl) (by kernel_rfl) (by decide) (fun _ _ _ h => h) (Or.inl ⟨by rfl, ?dhy17⟩) hSS ?_
    case dhy17 => (intro wz hSw; (try dsimp only at hSw); go_simp; try (with_reducible rfl))
    refine wpAnyE_take0 (i := 18) (v := ?dv18) rfl (by kernel_rfl) (by kernel_rfl) (by kernel_rfl) (by decide) (fun _ _ _ h => h) (Or.inl ⟨by rfl, ?dhy18⟩) hSS ?_
    case dhy18 => (intro wz hSw; (try dsimp only at hSw); go_simp; try (with_reducible rfl))
    refine wpAnyE_take0 (i := 19) (v := ?dv19) rfl (by kernel_rfl) (by kernel_rfl) (by kernel_rfl) (by decide) (fun _ _ _ h => h) (Or.inl ⟨by rfl, ?dhy19⟩) hSS ?_
    case dhy19 => (intro wz hSw; (try dsimp only at hSw); go_simp; try (with_reducible rfl))
    refine wpAnyE_take0 (i := 20) (v := ?dv20) rfl (by kernel_rfl) (by kernel_rfl) (by kernel_rfl) (by decide) (fun _ _ _ h => h) (Or.inl ⟨by rfl, ?dhy20⟩) hSS ?_
    case dhy20 => (intro wz hSw; (try dsimp only at hSw); go_simp; try (with_reducible rfl))
    simp only [Act.put, List.setIfInBounds_toArray, List.set_cons_succ, List.set_cons_zero, List.getElem_toArray, List.getElem_cons_succ, List.getElem_cons_zero]
    refine wpAnyE_take0 (i := 21) (v := ?dv21) rfl (by kernel_rfl) (by kernel_rfl) (by kernel_rfl) (by decide) (fun _ _ _ h => h) (Or.inl ⟨by rfl, ?dhy21⟩) hSS ?_
    case dhy21 => (intro wz hSw; (try dsimp only at hSw); go_simp; try (with_reducible rfl))
    refine wpAnyE_one (i := 22) (by kernel_rfl) rfl (fun K hK => ?_)
    go_simp
    refine (sstill_any _ _ _ _ R ax _ (hR.below B2) (h.below B2).a).mono ?_
    rintro ee wq ⟨rfl, rfl⟩
    rw [h4]
    (try dsimp only)
    refine hK.out _ _ ⟨hSS.1, fun _ => trivial⟩ ?_
    clear hK K
    refine wpAnyE_take0 (i := 23) (v := ?dv23) rfl (by kernel_rfl) (by kernel_rfl) (by kernel_rfl) (by decide) (fun _ _ _ h => h) (Or.inl ⟨by rfl, ?dhy23⟩) hSS ?_
    case dhy23 => (intro wz hSw; (try dsimp only at hSw); go_simp; try (with_reducible rfl))
    refine wpAnyE_take0 (i := 24) (v := ?dv24) rfl (by kernel_rfl) (by kernel_rfl) (by kernel_rfl) (by decide) (fun _ _ _ h => h) (Or.inl ⟨by rfl, ?dhy24⟩) hSS ?_
    case dhy24 => (intro wz hSw; (try dsimp only at hSw); go_simp; try (with_reducible rfl))
    refine wpAnyE_take0 (i := 25) (v := undef) rfl (by kernel_rfl) (by kernel_rfl) (by kernel_rfl) (by decide) (fun _ _ _ h => h) (Or.inr ⟨by kernel_rfl, rfl⟩) hSS ?_
    refine wpAnyE_take0 (i := 26) (v := undef) rfl (by kernel_rfl) (by kernel_rfl) (by kernel_rfl) (by decide) (fun _ _ _ h => h) (Or.inr ⟨by kernel_rfl, rfl⟩) hSS ?_
    simp only [Act.put, List.setIfInBounds_toArray, List.set_cons_succ, List.set_cons_zero, List.getElem_toArray, List.getElem_cons_succ, List.getElem_cons_zero]
    refine wpAnyE_take0 (i := 27) (v := undef) rfl (by kernel_rfl) (by kernel_rfl) (by kernel_rfl) (by decide) (fun _ _ _ h => h) (Or.inr ⟨by kernel_rfl, rfl⟩) hSS ?_
    refine wpAnyE_take0 (i := 28) (v := undef) rfl (by kernel_rfl) (by kernel_rfl) (by kernel_rfl) (by decide) (fun _ _ _ h => h) (Or.inr ⟨by kernel_rfl, rfl⟩) hSS ?_
    refine wpAnyE_take0 (i := 29) (v := ?dv29) rfl (by kernel_rfl) (by kernel_rfl) (by kernel_rfl) (by decide) (fun _ _ _ h => h) (Or.inl ⟨by rfl, ?dhy29⟩) hSS ?_
    case dhy29 => (intro wz hSw; (try dsimp only at hSw); go_simp; try (with_reducible rfl))
    refine wpAnyE_one (i := 30) (by kernel_rfl) rfl (fun K hK => ?_)
    go_simp
    refine hK.out _ _ ⟨hSS.1, fun _ => trivial⟩ ?_
    clear hK K
    refine wpAnyE_done (by kernel_rfl) ?_ _
    clear hSS
    go_wp2
    go_ret
    exact ⟨ret_bool HV.out, B2⟩
  have HV : Hid (donesB cl dn dx = V) := by show _ = _; rw [HW.out, siteB, h1, h3, h4]; rfl
  have KP : Hid (∀ W, Below W0.heap.size W0 W → (W.cell? ⟨w.heap.size, 0, none⟩ = some (.int .i64 cl) ∧ W.cell? ⟨w.heap.size, 1, none⟩ = some (.slice ad N cap) ∧ W.cell? ⟨w.heap.size, 2, none⟩ = some (.slice ga gn gc) ∧ W.cell? ⟨w.heap.size, 3, none⟩ = some (.slice sa sn sc)) ∧ (W.cell? ⟨w.heap.size + 1, 0, none⟩ = some (.bool u) ∧ W.cell? ⟨w.heap.size + 1, 1, none⟩ = some (.bool f) ∧ W.cell? ⟨w.heap.size + 1, 2, none⟩ = some (.int .i64 r) ∧ W.cell? ⟨w.heap.size + 1, 3, none⟩ = some (.slice ba bn bc) ∧ W.cell? ⟨w.heap.size + 1, 4, none⟩ = some (.slice aa 3 ac) ∧ W.cell? ⟨w.heap.size + 1, 5, none⟩ = some (.slice da dn dc))) := fun W hW => ⟨(q0.below hW).quadP, (y0.below hW).sixP⟩
  have hSS := And.intro (KP.out _ (Below.refl _ _).drew) True.intro
  go_enter Tryz.func44, Tryz.ntmps44
  go_upto_region 1 with fail
  rw [← hW0]
  clear hW0 q0 y0
  refine wp_region_ends (fun w' => (w'.cell? ⟨w.heap.size, 0, none⟩ = some (.int .i64 cl) ∧ w'.cell? ⟨w.heap.size, 1, none⟩ = some (.slice ad N cap) ∧ w'.cell? ⟨w.heap.size, 2, none⟩ = some (.slice ga gn gc) ∧ w'.cell? ⟨w.heap.size, 3, none⟩ = some (.slice sa sn sc)) ∧ (w'.cell? ⟨w.heap.size + 1, 0, none⟩ = some (.bool u) ∧ w'.cell? ⟨w.heap.size + 1, 1, none⟩ = some (.bool f) ∧ w'.cell? ⟨w.heap.size + 1, 2, none⟩ = some (.int .i64 r) ∧ w'.cell? ⟨w.heap.size + 1, 3, none⟩ = some (.slice ba bn bc) ∧ w'.cell? ⟨w.heap.size + 1, 4, none⟩ = some (.slice aa 3 ac) ∧ w'.cell? ⟨w.heap.size + 1, 5, none⟩ = some (.slice da dn dc))) (fun _ => True) 30 (by kernel_rfl) ?_
  refine wpAnyE_take0 (i := 0) (v := ?ev0) rfl (by kernel_rfl) (by kernel_rfl) (by kernel_rfl) (by decide) (fun _ _ _ h => h) (Or.inl ⟨by rfl, ?ehy0⟩) hSS ?_
  case ehy0 => (intro wz hSw; (try dsimp only at hSw); go_simp; try (with_reducible rfl))
  refine wpAnyE_take0 (i := 1) (v := ?ev1) rfl (by kernel_rfl) (by kernel_rfl) (by kernel_rfl) (by decide) (fun _ _ _ h => h) (Or.inl ⟨by rfl, ?ehy1⟩) hSS ?_
  case ehy1 => (intro wz hSw; (try dsimp only at hSw); go_simp; try (with_reducible rfl))
  refine wpAnyE_one (i := 2) (by kernel_rfl) rfl (fun K hK => ?_)
  go_simp
  refine (in_any _ _ _ _).mono ?_
  rintro ee wq ⟨rfl, rfl⟩
  rw [h1]
  (try dsimp only)
  refine hK.out _ _ ⟨hSS.1, fun _ => trivial⟩ ?_
  clear hK K
  refine wpAnyE_take0 (i := 3) (v := ?ev3) rfl (by kernel_rfl) (by kernel_rfl) (by kernel_rfl) (by decide) (fun _ _ _ h => h) (Or.inl ⟨by rfl, ?ehy3⟩) hSS ?_
  case ehy3 => (intro wz hSw; (try dsimp only at hSw); go_simp; try (with_reducible rfl))
  refine wpAnyE_take0 (i := 4) (v := ?ev4) rfl (by kernel_rfl) (by kernel_rfl) (by kernel_rfl) (by decide) (fun _ _ _ h => h) (Or.inl ⟨by rfl, ?ehy4⟩) hSS ?_
  case ehy4 => (intro wz hSw; (try dsimp only at hSw); go_simp; try (with_reducible rfl))
  refine wpAnyE_take0 (i := 5) (v := ?ev5) rfl (by kernel_rfl) (by kernel_rfl) (by kernel_rfl) (by decide) (fun _ _ _ h => h) (Or.inl ⟨by rfl, ?ehy5⟩) hSS ?_
  case ehy5 => (intro wz hSw; (try dsimp only at hSw); go_simp; try (with_reducible rfl))
  refine wpAnyE_one (i := 6) (by kernel_rfl) rfl (fun K hK => ?_)
  go_simp
  refine (sval_any _ _ _ bx _ (h.below B0.drew).b h.zb).mono ?_
  rintro ee wq ⟨rfl, rfl⟩
  rw [h2]
  (try dsimp only)
  refine hK.out _ _ ⟨hSS.1, fun _ => trivial⟩ ?_
  clear hK K
  refine wpAnyE_take0 (i := 7) (v := ?ev7) rfl (by kernel_rfl) (by kernel_rfl) (by kernel_rfl) (by decide) (fun _ _ _ h => h) (Or.inl ⟨by rfl, ?ehy7⟩) hSS ?_
  case ehy7 => (intro wz hSw; (try dsimp only at hSw); go_simp; try (with_reducible rfl))
  refine wpAnyE_take0 (i := 8) (v := ?ev8) rfl (by kernel_rfl) (by kernel_rfl) (by kernel_rfl) (by decide) (fun _ _ _ h => h) (Or.inl ⟨by rfl, ?ehy8⟩) hSS ?_
  case ehy8 => (intro wz hSw; (try dsimp only at hSw); go_simp; try (with_reducible rfl))
  refine wpAnyE_take0 (i := 9) (v := ?ev9) rfl (by kernel_rfl) (by kernel_rfl) (by kernel_rfl) (by decide) (fun _ _ _ h => h) (Or.inl ⟨by rfl, ?ehy9⟩) hSS ?_
  case ehy9 => (intro wz hSw; (try dsimp only at hSw); go_simp; try (with_reducible rfl))
  refine wpAnyE_take0 (i := 10) (v := ?ev10) rfl (by kernel_rfl) (by kernel_rfl) (by kernel_rfl) (by decide) (fun _ _ _ h => h) (Or.inl ⟨by rfl, ?ehy10⟩) hSS ?_
  case ehy10 => (intro wz hSw; (try dsimp only at hSw); go_simp; try (with_reducible rfl))
  simp only [Act.put, List.setIfInBounds_toArray, List.set_cons_succ, List.set_cons_zero, List.getElem_toArray, List.getElem_cons_succ, List.getElem_cons_zero]
  refine wpAnyE_take0 (i := 12) (v := ?ev12) rfl (by kernel_rfl) (by kernel_rfl) (by kernel_rfl) (by decide) (fun _ _ _ h => h) (Or.inl ⟨by rfl, ?ehy12⟩) hSS ?_
  case ehy12 => (intro wz hSw; (try dsimp only at hSw); go_simp; try (with_reducible rfl))
  refine wpAnyE_take0 (i := 13) (v := ?ev13) rfl (by kernel_rfl) (by kernel_rfl) (by kernel_rfl) (by decide) (fun _ _ _ h => h) (Or.inl ⟨by rfl, ?ehy13⟩) hSS ?_
  case ehy13 => (intro wz hSw; (try dsimp only at hSw); go_simp; try (with_reducible rfl))
  refine wpAnyE_take0 (i := 14) (v := ?ev14) rfl (by kernel_rfl) (by kernel_rfl) (by kernel_rfl) (by decide) (fun _ _ _ h => h) (Or.inl ⟨by rfl, ?ehy14⟩) hSS ?_
  case ehy14 => (intro wz hSw; (try dsimp only at hSw); go_simp; try (with_reducible rfl))
  refine wpAnyE_take0 (i := 15) (v := ?ev15) rfl (by kernel_rfl) (by kernel_rfl) (by kernel_rfl) (by decide) (fun _ _ _ h => h) (Or.inl ⟨by rfl, ?ehy15⟩) hSS ?_
  case ehy15 => (intro wz hSw; (try dsimp only at hSw); go_simp; try (with_reducible rfl))
  simp only [Act.put, List.setIfInBounds_toArray, List.set_cons_succ, List.set_cons_zero, List.getElem_toArray, List.getElem_cons_succ, List.getElem_cons_zero]
  refine wpAnyE_one (i := 11) (by kernel_rfl) rfl (fun K hK => ?_)
  go_simp
  refine (str8_any _ _ _ _ _ _ _ _ _ _ _ _ _ _ _ _ _ _ _ _ _ _ _).mono ?_
  rintro ee w1 ⟨rfl, bd1⟩
  have b1 := below_of_drew bd1
  have B1 := B0.trans (b1.mono B0.size)
  (try dsimp only)
  replace hSS := And.intro (KP.out w1 b1) True.intro
  refine hK.out _ _ ⟨hSS.1, fun _ => trivial⟩ ?_
  clear hK K
  refine wpAnyE_one (i := 16) (by kernel_rfl) rfl (fun K hK => ?_)
  go_simp
  refine (skeep_any _ _ _ _ _ _ _ _ _ _ _ _ _ bx G ax ts _ (h.below B1).b (hG.below B1) (h.below B1).a lP (hP.below B1) h.zb zg h.za zP).mono ?_
  rintro ee w2 ⟨rfl, b2⟩
  rw [keep_of hP HT.out, h3]
  have b12 := b1.trans (b2.mono b1.size)
  have B2 := B1.trans (b2.mono B1.size)
  (try dsimp only)
  replace hSS := And.intro (KP.out w2 b12) True.intro
  refine hK.out _ _ ⟨hSS.1, fun _ => trivial⟩ ?_
  clear hK K
  refine wpAnyE_take0 (i := 17) (v := ?ev17) rfl (by kernel_rfl) (by kernel_rfl) (by kernel_rfl) (by decide) (fun _ _ _ h => h) (Or.inl ⟨by rfl, ?ehy17⟩) hSS ?_
  case ehy17 => (intro wz hSw; (try dsimp only at hSw); go_simp; try (with_reducible rfl))
  refine wpAnyE_take0 (i := 18) (v := ?ev18) rfl (by kernel_rfl) (by kernel_rfl) (by kernel_rfl) (by decide) (fun _ _ _ h => h) (Or.inl ⟨by rfl, ?ehy18⟩) hSS ?_
  case ehy18 => (intro wz hSw; (try dsimp only at hSw); go_simp; try (with_reducible rfl))
  refine wpAnyE_take0 (i := 19) (v := ?ev19) rfl (by kernel_rfl) (by kernel_rfl) (by kernel_rfl) (by decide) (fun _ _ _ h => h) (Or.inl ⟨by rfl, ?ehy19⟩) hSS ?_
  case ehy19 => (intro wz hSw; (try dsimp only at hSw); go_simp; try (with_reducible rfl))
  refine wpAnyE_take0 (i := 20) (v := ?ev20) rfl (by kernel_rfl) (by kernel_rfl) (by kernel_rfl) (by decide) (fun _ _ _ h => h) (Or.inl ⟨by rfl, ?ehy20⟩) hSS ?_
  case ehy20 => (intro wz hSw; (try dsimp only at hSw); go_simp; try (with_reducible rfl))
  simp only [Act.put, List.setIfInBounds_toArray, List.set_cons_succ, List.set_cons_zero, List.getElem_toArray, List.getElem_cons_succ, List.getElem_cons_zero]
  refine wpAnyE_take0 (i := 21) (v := ?ev21) rfl (by kernel_rfl) (by kernel_rfl) (by kernel_rfl) (by decide) (fun _ _ _ h => h) (Or.inl ⟨by rfl, ?ehy21⟩) hSS ?_
  case ehy21 => (intro wz hSw; (try dsimp only at hSw); go_simp; try (with_reducible rfl))
  refine wpAnyE_one (i := 22) (by kernel_rfl) rfl (fun K hK => ?_)
  go_simp
  refine (sstill_any _ _ _ _ R ax _ (hR.below B2) (h.below B2).a).mono ?_
  rintro ee wq ⟨rfl, rfl⟩
  rw [h4]
  (try dsimp only)
  refine hK.out _ _ ⟨hSS.1, fun _ => trivial⟩ ?_
  clear hK K
  refine wpAnyE_take0 (i := 23) (v := ?ev23) rfl (by kernel_rfl) (by kernel_rfl) (by kernel_rfl) (by decide) (fun _ _ _ h => h) (Or.inl ⟨by rfl, ?ehy23⟩) hSS ?_
  case ehy23 => (intro wz hSw; (try dsimp only at hSw); go_simp; try (with_reducible rfl))
  refine wpAnyE_take0 (i := 24) (v := ?ev24) rfl (by kernel_rfl) (by kernel_rfl) (by kernel_rfl) (by decide) (fun _ _ _ h => h) (Or.inl ⟨by rfl, ?ehy24⟩) hSS ?_
  case ehy24 => (intro wz hSw; (try dsimp only at hSw); go_simp; try (with_reducible rfl))
  refine wpAnyE_take0 (i := 25) (v := ?ev25) rfl (by kernel_rfl) (by kernel_rfl) (by kernel_rfl) (by decide) (fun _ _ _ h => h) (Or.inl ⟨by rfl, ?ehy25⟩) hSS ?_
  case ehy25 => (intro wz hSw; (try dsimp only at hSw); go_simp; try (with_reducible rfl))
  refine wpAnyE_take0 (i := 26) (v := ?ev26) rfl (by kernel_rfl) (by kernel_rfl) (by kernel_rfl) (by decide) (fun _ _ _ h => h) (Or.inl ⟨by rfl, ?ehy26⟩) hSS ?_
  case ehy26 => (intro wz hSw; (try dsimp only at hSw); go_simp; try (with_reducible rfl))
  simp only [Act.put, List.setIfInBounds_toArray, List.set_cons_succ, List.set_cons_zero, List.getElem_toArray, List.getElem_cons_succ, List.getElem_cons_zero]
  refine wpAnyE_take0 (i := 27) (v := ?ev27) rfl (by kernel_rfl) (by kernel_rfl) (by kernel_rfl) (by decide) (fun _ _ _ h => h) (Or.inl ⟨by rfl, ?ehy27⟩) hSS ?_
  case ehy27 => (intro wz hSw; (try dsimp only at hSw); go_simp; try (with_reducible rfl))
  refine wpAnyE_one (i := 28) (by kernel_rfl) rfl (fun K hK => ?_)
  go_simp
  refine (sdones_any _ _ _ _ _ _ _ _ _ _ _ _ _ dx _ h.ld (h.below B2).d h.zd).mono ?_
  rintro ee w3 ⟨rfl, b3⟩
  have b123 := b12.trans (b3.mono b12.size)
  have B3 := B2.trans (b3.mono B2.size)
  (try dsimp only)
  replace hSS := And.intro (KP.out w3 b123) True.intro
  refine hK.out _ _ ⟨hSS.1, fun _ => trivial⟩ ?_
  clear hK K
  refine wpAnyE_take0 (i := 29) (v := ?ev29) rfl (by kernel_rfl) (by kernel_rfl) (by kernel_rfl) (by decide) (fun _ _ _ h => h) (Or.inl ⟨by rfl, ?ehy29⟩) hSS ?_
  case ehy29 => (intro wz hSw; (try dsimp only at hSw); go_simp; try (with_reducible rfl))
  refine wpAnyE_one (i := 30) (by kernel_rfl) rfl (fun K hK => ?_)
  go_simp
  refine hK.out _ _ ⟨hSS.1, fun _ => trivial⟩ ?_
  clear hK K
  refine wpAnyE_done (by kernel_rfl) ?_ _
  clear hSS
  go_wp2
  go_ret
  exact ⟨ret_bool HV.out, B3⟩


end Go.Proofs.YtacjjhfbnbmnlaaGreatDoor
