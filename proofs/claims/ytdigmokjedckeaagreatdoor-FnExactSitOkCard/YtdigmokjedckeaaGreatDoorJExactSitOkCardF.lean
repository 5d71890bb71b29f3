/-
  Lemmas that the claim's last text rests on: Sl8, Ikeep, SitOkW.
-/
import Derived.Test.YtdigmokjedckeaaGreatDoorJExactSitOkCardC
import Derived.Test.YtdigmokjedckeaaGreatDoorJExactSitOkCardE
import Derived.Test.YtdigmokjedckeaaGreatDoorJExactSitOkCardD
namespace Go.Proofs.YtdigmokjedckeaaGreatDoor
open Go.RowKit Go.Deep
set_option linter.unusedVariables false
set_option maxRecDepth 100000

/-- A site is ok, of a plan that is, with these parts and pins. -/
def siteB (cl : Int) (gn : Nat) (G : List Int) (T : List (List Int)) (R : Nat → Bool) (r : Int) (bn : Nat) (bx : List Int) (an : Nat) (ax : List Int) (dn : Nat) (dx : List DV) (s : Int) : Bool :=
  inB r 0 200 && (keepT bn gn bx G T s an ax && (stillB R ax && donesB cl dn dx))
/-- A site is ok. -/
def sitB (cl : Int) (N : Nat) (ss : List L2V) (gn : Nat) (G : List Int) (sn : Nat) (S : List Int) (r : Int) (bn : Nat) (bx : List Int) (an : Nat) (ax : List Int) (dn : Nat) (dx : List DV) (s : Int) : Bool :=
  plnB cl N ss gn G sn S && siteB cl gn G (catP ss) (pinsA ss) r bn bx an ax dn dx s
theorem pln_cat {cl : Int} {N : Nat} {ss : List L2V} {gn : Nat} {G : List Int} {sn : Nat} {S : List Int} (h : plnB cl N ss gn G sn S = true) : catB N ss = true := by
  simp only [plnB, Bool.and_eq_true] at h
  exact h.2.1

set_option maxHeartbeats 1600000 in
theorem str8_any (cl : Int) (ad : Option Addr) (N cap : Nat) (ga : Option Addr) (gn gc : Nat) (sa : Option Addr) (sn sc : Nat) (u f : Bool) (r : Int) (ba : Option Addr) (bn bc : Nat) (aa : Option Addr) (an ac : Nat) (da : Option Addr) (dn dc : Nat) (w : World) :
    Calls Tryz.prog 65 #[plV cl ad N cap ga gn gc sa sn sc, siV u f r ba bn bc aa an ac da dn dc] w fun e w' => e = .returned (treV ba bn bc ga gn gc) ∧ Below w.heap.size w w' := by
  have B0 := (((Below.refl w.heap.size w).alloc (Nat.le_refl _) (.cells #[.int .i64 cl, .slice ad N cap, .slice ga gn gc, .slice sa sn sc] 34)).alloc (by simp) (.cells #[.bool u, .bool f, .int .i64 r, .slice ba bn bc, .slice aa an ac, .slice da dn dc] 38)).alloc (by simp; omega) (.cells #[.slice ba bn bc, .slice ga gn gc] 96)
  go_enter Tryz.func65, Tryz.ntmps65
  go_wp2
  refine bodyPost_ret (v := treV ba bn bc ga gn gc) (by simp [results, Tryz.results65, go_sem]) rfl ⟨rfl, ?_⟩
  exact B0

set_option maxHeartbeats 6400000 in
theorem sl8_any (cl : Int) (ad : Option Addr) (N cap : Nat) (ga : Option Addr) (gn gc : Nat) (sa : Option Addr) (sn sc : Nat) (G : List Int) (pa : Option Addr) (pn pc : Nat) (ts : List IV) (T : List (List Int)) (na : Option Addr) (nc : Nat) (R : Nat → Bool) (u f : Bool) (r : Int) (ba : Option Addr) (bn bc : Nat) (bx : List Int) (aa : Option Addr) (an ac : Nat) (ax : List Int) (da : Option Addr) (dn dc : Nat) (dx : List DV) (s : Int) (w : World) (hG : Ints w ga gn G) (zg : gn ≤ 1048576) (hP : ISG w pa ts) (lP : ts.length = pn) (zP : pn ≤ 1048576) (hT : ts.map IV.x = T) (hR : BA w na 3 R) (h : StAt w ba bn bx aa an ax da dn dx) :
    Calls Tryz.prog 27 #[plV cl ad N cap ga gn gc sa sn sc, .slice pa pn pc, .slice na 3 nc, siV u f r ba bn bc aa an ac da dn dc, .int .i64 s] w fun e w' => e = .returned (.bool (siteB cl gn G T R r bn bx an ax dn dx s)) ∧ Below w.heap.size w w' := by
  have HT : Hid (ts.map IV.x = T) := hT
  clear hT
  have q0 := (Cel.new w [.int .i64 cl, .slice ad N cap, .slice ga gn gc, .slice sa sn sc] 34).alloc (.cells #[.bool u, .bool f, .int .i64 r, .slice ba bn bc, .slice aa an ac, .slice da dn dc] 38)
  have y0 := Cel.new (w.alloc (.cells #[.int .i64 cl, .slice ad N cap, .slice ga gn gc, .slice sa sn sc] 34)) [.bool u, .bool f, .int .i64 r, .slice ba bn bc, .slice aa an ac, .slice da dn dc] 38
  rw [World.size_alloc] at y0
  have B0 := ((Below.refl w.heap.size w).alloc (Nat.le_refl _) (.cells #[.int .i64 cl, .slice ad N cap, .slice ga gn gc, .slice sa sn sc] 34)).alloc (by simp) (.cells #[.bool u, .bool f, .int .i64 r, .slice ba bn bc, .slice aa an ac, .slice da dn dc] 38)
  obtain ⟨W0, hW0⟩ : ∃ W, W = (w.alloc (.cells #[.int .i64 cl, .slice ad N cap, .slice ga gn gc, .slice sa sn sc] 34)).alloc (.cells #[.bool u, .bool f, .int .i64 r, .slice ba bn bc, .slice aa an ac, .slice da dn dc] 38) := ⟨_, rfl⟩
  rw [← hW0] at q0 y0 B0
  obtain ⟨V, hV⟩ : ∃ V, V = siteB cl gn G T R r bn bx an ax dn dx s := ⟨_, rfl⟩
  rw [← hV]
  have HW : Hid (V = siteB cl gn G T R r bn bx an ax dn dx s) := hV
  clear hV
  cases h1 : inB r 0 200
  · have HV : Hid (false = V) := by show _ = _; rw [HW.out, siteB, h1]; rfl
    have KP : Hid (∀ W, Below W0.heap.size W0 W → (W.cell? ⟨w.heap.size, 0, none⟩ = some (.int .i64 cl) ∧ W.cell? ⟨w.heap.size, 1, none⟩ = some (.slice ad N cap) ∧ W.cell? ⟨w.heap.size, 2, none⟩ = some (.slice ga gn gc) ∧ W.cell? ⟨w.heap.size, 3, none⟩ = some (.slice sa sn sc)) ∧ (W.cell? ⟨w.heap.size + 1, 0, none⟩ = some (.bool u) ∧ W.cell? ⟨w.heap.size + 1, 1, none⟩ = some (.bool f) ∧ W.cell? ⟨w.heap.size + 1, 2, none⟩ = some (.int .i64 r) ∧ W.cell? ⟨w.heap.size + 1, 3, none⟩ = some (.slice ba bn bc) ∧ W.cell? ⟨w.heap.size + 1, 4, none⟩ = some (.slice aa an ac) ∧ W.cell? ⟨w.heap.size + 1, 5, none⟩ = some (.slice da dn dc))) := fun W hW => ⟨(q0.below hW).quadP, (y0.below hW).sixP⟩
    have hSS := And.intro (KP.out _ (Below.refl _ _).drew) True.intro
    go_enter Tryz.func27, Tryz.ntmps27
    go_upto_region 1 with fail
    rw [← hW0]
    clear hW0 q0 y0
    refine wp_region_ends (fun w' => (w'.cell? ⟨w.heap.size, 0, none⟩ = some (.int .i64 cl) ∧ w'.cell? ⟨w.heap.size, 1, none⟩ = some (.slice ad N cap) ∧ w'.cell? ⟨w.heap.size, 2, none⟩ = some (.slice ga gn gc) ∧ w'.cell? ⟨w.heap.size, 3, none⟩ = some (.slice sa sn sc)) ∧ (w'.cell? ⟨w.heap.size + 1, 0, none⟩ = some (.bool u) ∧ w'.cell? ⟨w.heap.size + 1, 1, none⟩ = some (.bool f) ∧ w'.cell? ⟨w.heap.size + 1, 2, none⟩ = some (.int .i64 r) ∧ w'.cell? ⟨w.heap.size + 1, 3, none⟩ = some (.slice ba bn bc) ∧ w'.cell? ⟨w.heap.size + 1, 4, none⟩ = some (.slice aa an ac) ∧ w'.cell? ⟨w.heap.size + 1, 5, none⟩ = some (.slice da dn dc))) (fun _ => True) 30 (by kernel_rfl) ?_
    refine wpAnyE_take0 (i := 0) (v := ?av0) rfl (by kernel_rfl) (by kernel_rfl) (by kernel_rfl) (by decide) (fun _ _ _ h => h) (Or.inl ⟨by rfl, ?ahy0⟩) hSS ?_
    case ahy0 => (intro wz hSw; (try dsimp only at hSw); go_simp; try (with_reducible rfl))
    refine wpAnyE_take0 (i := 1) (v := ?av1) rfl (by kernel_rfl) (by kernel_rfl) (by kernel_rfl) (by decide) (fun _ _ _ h => h) (Or.inl ⟨by rfl, ?ahy1⟩) hSS ?_
    case ahy1 => (intro wz hSw; (try dsimp only at hSw); go_simp; try (with_reducible rfl))
    refine wpAnyE_one (i := 2) (by kernel_rfl) rfl (fun K hK => ?_)
    go_simp
    refine (in_any _ _ _ _).mono ?_
    rintro ee wq ⟨rfl, rfl⟩
    rw [h1]
    (try dsimp only)
    refine hK.out _ _ ⟨hSS.1, fun _ => trivial⟩ ?_
    clear hK K
    refine wpAnyE_take0 (i := 3) (v := ?av3) rfl (by kernel_rfl) (by kernel_rfl) (by kernel_rfl) (by decide) (fun _ _ _ h => h) (Or.inl ⟨by rfl, ?ahy3⟩) hSS ?_
    case ahy3 => (intro wz hSw; (try dsimp only at hSw); go_simp; try (with_reducible rfl))
    refine wpAnyE_take0 (i := 4) (v := undef) rfl (by kernel_rfl) (by kernel_rfl) (by kernel_rfl) (by decide) (fun _ _ _ h => h) (Or.inr ⟨by kernel_rfl, rfl⟩) hSS ?_
    refine wpAnyE_take0 (i := 5) (v := undef) rfl (by kernel_rfl) (by kernel_rfl) (by kernel_rfl) (by decide) (fun _ _ _ h => h) (Or.inr ⟨by kernel_rfl, rfl⟩) hSS ?_
    refine wpAnyE_take0 (i := 6) (v := undef) rfl (by kernel_rfl) (by kernel_rfl) (by kernel_rfl) (by decide) (fun _ _ _ h => h) (Or.inr ⟨by kernel_rfl, rfl⟩) hSS ?_
    simp only [Act.put, List.setIfInBounds_toArray, List.set_cons_succ, List.set_cons_zero, List.getElem_toArray, List.getElem_cons_succ, List.getElem_cons_zero]
    refine wpAnyE_take0 (i := 7) (v := ?av7) rfl (by kernel_rfl) (by kernel_rfl) (by kernel_rfl) (by decide) (fun _ _ _ h => h) (Or.inl ⟨by rfl, ?ahy7⟩) hSS ?_
    case ahy7 => (intro wz hSw; (try dsimp only at hSw); go_simp; try (with_reducible rfl))
    refine wpAnyE_take0 (i := 8) (v := ?av8) rfl (by kernel_rfl) (by kernel_rfl) (by kernel_rfl) (by decide) (fun _ _ _ h => h) (Or.inl ⟨by rfl, ?ahy8⟩) hSS ?_
    case ahy8 => (intro wz hSw; (try dsimp only at hSw); go_simp; try (with_reducible rfl))
    refine wpAnyE_take0 (i := 9) (v := undef) rfl (by kernel_rfl) (by kernel_rfl) (by kernel_rfl) (by decide) (fun _ _ _ h => h) (Or.inr ⟨by kernel_rfl, rfl⟩) hSS ?_
    refine wpAnyE_take0 (i := 10) (v := undef) rfl (by kernel_rfl) (by kernel_rfl) (by kernel_rfl) (by decide) (fun _ _ _ h => h) (Or.inr ⟨by kernel_rfl, rfl⟩) hSS ?_
    simp only [Act.put, List.setIfInBounds_toArray, List.set_cons_succ, List.set_cons_zero, List.getElem_toArray, List.getElem_cons_succ, List.getElem_cons_zero]
    refine wpAnyE_take0 (i := 12) (v := undef) rfl (by kernel_rfl) (by kernel_rfl) (by kernel_rfl) (by decide) (fun _ _ _ h => h) (Or.inr ⟨by kernel_rfl, rfl⟩) hSS ?_
    refine wpAnyE_take0 (i := 13) (v := undef) rfl (by kernel_rfl) (by kernel_rfl) (by kernel_rfl) (by decide) (fun _ _ _ h => h) (Or.inr ⟨by kernel_rfl, rfl⟩) hSS ?_
    refine wpAnyE_take0 (i := 14) (v := undef) rfl (by kernel_rfl) (by kernel_rfl) (by kernel_rfl) (by decide) (fun _ _ _ h => h) (Or.inr ⟨by kernel_rfl, rfl⟩) hSS ?_
    refine wpAnyE_take0 (i := 15) (v := undef) rfl (by kernel_rfl) (by kernel_rfl) (by kernel_rfl) (by decide) (fun _ _ _ h => h) (Or.inr ⟨by kernel_rfl, rfl⟩) hSS ?_
    simp only [Act.put, List.setIfInBounds_toArray, List.set_cons_succ, List.set_cons_zero, List.getElem_toArray, List.getElem_cons_succ, List.getElem_cons_zero]
    refine wpAnyE_take0 (i := 11) (v := undef) rfl (by kernel_rfl) (by kernel_rfl) (by kernel_rfl) (by decide) (fun _ _ _ h => h) (Or.inr ⟨by kernel_rfl, rfl⟩) hSS ?_
    refine wpAnyE_take0 (i := 16) (v := undef) rfl (by kernel_rfl) (by kernel_rfl) (by kernel_rfl) (by decide) (fun _ _ _ h => h) (Or.inr ⟨by kernel_rfl, rfl⟩) hSS ?_
    refine wpAnyE_take0 (i := 17) (v := ?av17) rfl (by kernel_rfl) (by kernel_rfl) (by kernel_rfl) (by decide) (fun _ _ _ h => h) (Or.inl ⟨by rfl, ?ahy17⟩) hSS ?_
    case ahy17 => (intro wz hSw; (try dsimp only at hSw); go_simp; try (with_reducible rfl))
    refine wpAnyE_take0 (i := 18) (v := ?av18) rfl (by kernel_rfl) (by kernel_rfl) (by kernel_rfl) (by decide) (fun _ _ _ h => h) (Or.inl ⟨by rfl, ?ahy18⟩) hSS ?_
    case ahy18 => (intro wz hSw; (try dsimp only at hSw); go_simp; try (with_reducible rfl))
    simp only [Act.put, List.setIfInBounds_toArray, List.set_cons_succ, List.set_cons_zero, List.getElem_toArray, List.getElem_cons_succ, List.getElem_cons_zero]
    refine wpAnyE_take0 (i := 19) (v := undef) rfl (by kernel_rfl) (by kernel_rfl) (by kernel_rfl) (by decide) (fun _ _ _ h => h) (Or.inr ⟨by kernel_rfl, rfl⟩) hSS ?_
    refine wpAnyE_take0 (i := 20) (v := undef) rfl (by kernel_rfl) (by kernel_rfl) (by kernel_rfl) (by decide) (fun _ _ _ h => h) (Or.inr ⟨by kernel_rfl, rfl⟩) hSS ?_
    refine wpAnyE_take0 (i := 21) (v := undef) rfl (by kernel_rfl) (by kernel_rfl) (by kernel_rfl) (by decide) (fun _ _ _ h => h) (Or.inr ⟨by kernel_rfl, rfl⟩) hSS ?_
    refine wpAnyE_take0 (i := 22) (v := undef) rfl (by kernel_rfl) (by kernel_rfl) (by kernel_rfl) (by decide) (fun _ _ _ h => h) (Or.inr ⟨by kernel_rfl, rfl⟩) hSS ?_
    simp only [Act.put, List.setIfInBounds_toArray, List.set_cons_succ, List.set_cons_zero, List.getElem_toArray, List.getElem_cons_succ, List.getElem_cons_zero]
    refine wpAnyE_take0 (i := 23) (v := ?av23) rfl (by kernel_rfl) (by kernel_rfl) (by kernel_rfl) (by decide) (fun _ _ _ h => h) (Or.inl ⟨by rfl, ?ahy23⟩) hSS ?_
    case ahy23 => (intro wz hSw; (try dsimp only at hSw); go_simp; try (with_reducible rfl))
    refine wpAnyE_take0 (i := 24) (v := ?av24) rfl (by kernel_rfl) (by kernel_rfl) (by kernel_rfl) (by decide) (fun _ _ _ h => h) (Or.inl ⟨by rfl, ?ahy24⟩) hSS ?_
    case ahy24 => (intro wz hSw; (try dsimp only at hSw); go_simp; try (with_reducible rfl))
    refine wpAnyE_take0 (i := 25) (v := undef) rfl (by kernel_rfl) (by kernel_rfl) (by kernel_rfl) (by decide) (fun _ _ _ h => h) (Or.inr ⟨by kernel_rfl, rfl⟩) hSS ?_
    refine wpAnyE_take0 (i := 26) (v := undef) rfl (by kernel_rfl) (by kernel_rfl) (by kernel_rfl) (by decide) (fun _ _ _ h => h) (Or.inr ⟨by kernel_rfl, rfl⟩) hSS ?_
    simp only [Act.put, List.setIfInBounds_toArray, List.set_cons_succ, List.set_cons_zero, List.getElem_toArray, List.getElem_cons_succ, List.getElem_cons_zero]
    refine wpAnyE_take0 (i := 27) (v := undef) rfl (by kernel_rfl) (by kernel_rfl) (by kernel_rfl) (by decide) (fun _ _ _ h => h) (Or.inr ⟨by kernel_rfl, rfl⟩) hSS ?_
    refine wpAnyE_take0 (i := 28) (v := undef) rfl (by kernel_rfl) (by kernel_rfl) (by kernel_rfl) (by decide) (fun _ _ _ h => h) (Or.inr ⟨by kernel_rfl, rfl⟩) hSS ?_
    refine wpAnyE_take0 (i := 29) (v := ?av29) rfl (by kernel_rfl) (by kernel_rfl) (by kernel_rfl) (by decide) (fun _ _ _ h => h) (Or.inl ⟨by rfl, ?ahy29⟩) hSS ?_
    case ahy29 => (intro wz hSw; (try dsimp only at hSw); go_simp; try (with_reducible rfl))
    refine wpAnyE_one (i := 30) (by kernel_rfl) rfl (fun K hK => ?_)
    go_simp
    refine hK.out _ _ ⟨hSS.1, fun _ => trivial⟩ ?_
    clear hK K
    refine wpAnyE_done (by kernel_rfl) ?_ _
    clear hSS
    go_wp2
    go_ret
    exact ⟨ret_bool HV.out, B0.drew⟩
  cases h2 : okN 3 10000 bn bx
  · have HV : Hid (false = V) := by
      show _ = _
      rw [HW.out, siteB]
      cases h3 : keepT bn gn bx G T s an ax
      · simp
      · have := (keepT_elim h3).1; rw [h2] at this; cases this
    have KP : Hid (∀ W, Below W0.heap.size W0 W → (W.cell? ⟨w.heap.size, 0, none⟩ = some (.int .i64 cl) ∧ W.cell? ⟨w.heap.size, 1, none⟩ = some (.slice ad N cap) ∧ W.cell? ⟨w.heap.size, 2, none⟩ = some (.slice ga gn gc) ∧ W.cell? ⟨w.heap.size, 3, none⟩ = some (.slice sa sn sc)) ∧ (W.cell? ⟨w.heap.size + 1, 0, none⟩ = some (.bool u) ∧ W.cell? ⟨w.heap.size + 1, 1, none⟩ = some (.bool f) ∧ W.cell? ⟨w.heap.size + 1, 2, none⟩ = some (.int .i64 r) ∧ W.cell? ⟨w.heap.size + 1, 3, none⟩ = some (.slice ba bn bc) ∧ W.cell? ⟨w.heap.size + 1, 4, none⟩ = some (.slice aa an ac) ∧ W.cell? ⟨w.heap.size + 1, 5, none⟩ = some (.slice da dn dc))) := fun W hW => ⟨(q0.below hW).quadP, (y0.below hW).sixP⟩
    have hSS := And.intro (KP.out _ (Below.refl _ _).drew) True.intro
    go_enter Tryz.func27, Tryz.ntmps27
    go_upto_region 1 with fail
    rw [← hW0]
    clear hW0 q0 y0
    refine wp_region_ends (fun w' => (w'.cell? ⟨w.heap.size, 0, none⟩ = some (.int .i64 cl) ∧ w'.cell? ⟨w.heap.size, 1, none⟩ = some (.slice ad N cap) ∧ w'.cell? ⟨w.heap.size, 2, none⟩ = some (.slice ga gn gc) ∧ w'.cell? ⟨w.heap.size, 3, none⟩ = some (.slice sa sn sc)) ∧ (w'.cell? ⟨w.heap.size + 1, 0, none⟩ = some (.bool u) ∧ w'.cell? ⟨w.heap.size + 1, 1, none⟩ = some (.bool f) ∧ w'.cell? ⟨w.heap.size + 1, 2, none⟩ = some (.int .i64 r) ∧ w'.cell? ⟨w.heap.size + 1, 3, none⟩ = some (.slice ba bn bc) ∧ w'.cell? ⟨w.heap.size + 1, 4, none⟩ = some (.slice aa an ac) ∧ w'.cell? ⟨w.heap.size + 1, 5, none⟩ = some (.slice da dn dc))) (fun _ => True) 30 (by kernel_rfl) ?_
    refine wpAnyE_take0 (i := 0) (v := ?bv0) rfl (by kernel_rfl) (by kernel_rfl) (by kernel_rfl) (by decide) (fun _ _ _ h => h) (Or.inl ⟨by rfl, ?bhy0⟩) hSS ?_
    case bhy0 => (intro wz hSw; (try dsimp only at hSw); go_simp; try (with_reducible rfl))
    refine wpAnyE_take0 (i := 1) (v := ?bv1) rfl (by kernel_rfl) (by kernel_rfl) (by kernel_rfl) (by decide) (fun _ _ _ h => h) (Or.inl ⟨by rfl, ?bhy1⟩) hSS ?_
    case bhy1 => (intro wz hSw; (try dsimp only at hSw); go_simp; try (with_reducible rfl))
    refine wpAnyE_one (i := 2) (by kernel_rfl) rfl (fun K hK => ?_)
    go_simp
    refine (in_any _ _ _ _).mono ?_
    rintro ee wq ⟨rfl, rfl⟩
    rw [h1]
    (try dsimp only)
    refine hK.out _ _ ⟨hSS.1, fun _ => trivial⟩ ?_
    clear hK K
    refine wpAnyE_take0 (i := 3) (v := ?bv3) rfl (by kernel_rfl) (by kernel_rfl) (by kernel_rfl) (by decide) (fun _ _ _ h => h) (Or.inl ⟨by rfl, ?bhy3⟩) hSS ?_
    case bhy3 => (intro wz hSw; (try dsimp only at hSw); go_simp; try (with_reducible rfl))
    refine wpAnyE_take0 (i := 4) (v := ?bv4) rfl (by kernel_rfl) (by kernel_rfl) (by kernel_rfl) (by decide) (fun _ _ _ h => h) (Or.inl ⟨by rfl, ?bhy4⟩) hSS ?_
    case bhy4 => (intro wz hSw; (try dsimp only at hSw); go_simp; try (with_reducible rfl))
    refine wpAnyE_take0 (i := 5) (v := ?bv5) rfl (by kernel_rfl) (by kernel_rfl) (by kernel_rfl) (by decide) (fun _ _ _ h => h) (Or.inl ⟨by rfl, ?bhy5⟩) hSS ?_
    case bhy5 => (intro wz hSw; (try dsimp only at hSw); go_simp; try (with_reducible rfl))
    refine wpAnyE_one (i := 6) (by kernel_rfl) rfl (fun K hK => ?_)
    go_simp
    refine (sval_any _ _ _ bx _ (h.below B0.drew).b h.zb).mono ?_
    rintro ee wq ⟨rfl, rfl⟩
    rw [h2]
    (try dsimp only)
    refine hK.out _ _ ⟨hSS.1, fun _ => trivial⟩ ?_
    clear hK K
    refine wpAnyE_take0 (i := 7) (v := ?bv7) rfl (by kernel_rfl) (by kernel_rfl) (by kernel_rfl) (by decide) (fun _ _ _ h => h) (Or.inl ⟨by rfl, ?bhy7⟩) hSS ?_
    case bhy7 => (intro wz hSw; (try dsimp only at hSw); go_simp; try (with_reducible rfl))
    refine wpAnyE_take0 (i := 8) (v := ?bv8) rfl (by kernel_rfl) (by kernel_rfl) (by kernel_rfl) (by decide) (fun _ _ _ h => h) (Or.inl ⟨by rfl, ?bhy8⟩) hSS ?_
    case bhy8 => (intro wz hSw; (try dsimp only at hSw); go_simp; try (with_reducible rfl))
    refine wpAnyE_take0 (i := 9) (v := undef) rfl (by kernel_rfl) (by kernel_rfl) (by kernel_rfl) (by decide) (fun _ _ _ h => h) (Or.inr ⟨by kernel_rfl, rfl⟩) hSS ?_
    refine wpAnyE_take0 (i := 10) (v := undef) rfl (by kernel_rfl) (by kernel_rfl) (by kernel_rfl) (by decide) (fun _ _ _ h => h) (Or.inr ⟨by kernel_rfl, rfl⟩) hSS ?_
    simp only [Act.put, List.setIfInBounds_toArray, List.set_cons_succ, List.set_cons_zero, List.getElem_toArray, List.getElem_cons_succ, List.getElem_cons_zero]
    refine wpAnyE_take0 (i := 12) (v := undef) rfl (by kernel_rfl) (by kernel_rfl) (by kernel_rfl) (by decide) (fun _ _ _ h => h) (Or.inr ⟨by kernel_rfl, rfl⟩) hSS ?_
    refine wpAnyE_take0 (i := 13) (v := undef) rfl (by kernel_rfl) (by kernel_rfl) (by kernel_rfl) (by decide) (fun _ _ _ h => h) (Or.inr ⟨by kernel_rfl, rfl⟩) hSS ?_
    refine wpAnyE_take0 (i := 14) (v := undef) rfl (by kernel_rfl) (by kernel_rfl) (by kernel_rfl) (by decide) (fun _ _ _ h => h) (Or.inr ⟨by kernel_rfl, rfl⟩) hSS ?_
    refine wpAnyE_take0 (i := 15) (v := undef) rfl (by kernel_rfl) (by kernel_rfl) (by kernel_rfl) (by decide) (fun _ _ _ h => h) (Or.inr ⟨by kernel_rfl, rfl⟩) hSS ?_
    simp only [Act.put, List.setIfInBounds_toArray, List.set_cons_succ, List.set_cons_zero, List.getElem_toArray, List.getElem_cons_succ, List.getElem_cons_zero]
    refine wpAnyE_take0 (i := 11) (v := undef) rfl (by kernel_rfl) (by kernel_rfl) (by kernel_rfl) (by decide) (fun _ _ _ h => h) (Or.inr ⟨by kernel_rfl, rfl⟩) hSS ?_
    refine wpAnyE_take0 (i := 16) (v := undef) rfl (by kernel_rfl) (by kernel_rfl) (by kernel_rfl) (by decide) (fun _ _ _ h => h) (Or.inr ⟨by kernel_rfl, rfl⟩) hSS ?_
    refine wpAnyE_take0 (i := 17) (v := ?bv17) rfl (by kernel_rfl) (by kernel_rfl) (by kernel_rfl) (by decide) (fun _ _ _ h => h) (Or.inl ⟨by rfl, ?bhy17⟩) hSS ?_
    case bhy17 => (intro wz hSw; (try dsimp only at hSw); go_simp; try (with_reducible rfl))
    refine wpAnyE_take0 (i := 18) (v := ?bv18) rfl (by kernel_rfl) (by kernel_rfl) (by kernel_rfl) (by decide) (fun _ _ _ h => h) (Or.inl ⟨by rfl, ?bhy18⟩) hSS ?_
    case bhy18 => (intro wz hSw; (try dsimp only at hSw); go_simp; try (with_reducible rfl))
    simp only [Act.put, List.setIfInBounds_toArray, List.set_cons_succ, List.set_cons_zero, List.getElem_toArray, List.getElem_cons_succ, List.getElem_cons_zero]
    refine wpAnyE_take0 (i := 19) (v := undef) rfl (by kernel_rfl) (by kernel_rfl) (by kernel_rfl) (by decide) (fun _ _ _ h => h) (Or.inr ⟨by kernel_rfl, rfl⟩) hSS ?_
    refine wpAnyE_take0 (i := 20) (v := undef) rfl (by kernel_rfl) (by kernel_rfl) (by kernel_rfl) (by decide) (fun _ _ _ h => h) (Or.inr ⟨by kernel_rfl, rfl⟩) hSS ?_
    refine wpAnyE_take0 (i := 21) (v := undef) rfl (by kernel_rfl) (by kernel_rfl) (by kernel_rfl) (by decide) (fun _ _ _ h => h) (Or.inr ⟨by kernel_rfl, rfl⟩) hSS ?_
    refine wpAnyE_take0 (i := 22) (v := undef) rfl (by kernel_rfl) (by kernel_rfl) (by kernel_rfl) (by decide) (fun _ _ _ h => h) (Or.inr ⟨by kernel_rfl, rfl⟩) hSS ?_
    simp only [Act.put, List.setIfInBounds_toArray, List.set_cons_succ, List.set_cons_zero, List.getElem_toArray, List.getElem_cons_succ, List.getElem_cons_zero]
    refine wpAnyE_take0 (i := 23) (v := ?bv23) rfl (by kernel_rfl) (by kernel_rfl) (by kernel_rfl) (by decide) (fun _ _ _ h => h) (Or.inl ⟨by rfl, ?bhy23⟩) hSS ?_
    case bhy23 => (intro wz hSw; (try dsimp only at hSw); go_simp; try (with_reducible rfl))
    refine wpAnyE_take0 (i := 24) (v := ?bv24) rfl (by kernel_rfl) (by kernel_rfl) (by kernel_rfl) (by decide) (fun _ _ _ h => h) (Or.inl ⟨by rfl, ?bhy24⟩) hSS ?_
    case bhy24 => (intro wz hSw; (try dsimp only at hSw); go_simp; try (with_reducible rfl))
    refine wpAnyE_take0 (i := 25) (v := undef) rfl (by kernel_rfl) (by kernel_rfl) (by kernel_rfl) (by decide) (fun _ _ _ h => h) (Or.inr ⟨by kernel_rfl, rfl⟩) hSS ?_
    refine wpAnyE_take0 (i := 26) (v := undef) rfl (by kernel_rfl) (by kernel_rfl) (by kernel_rfl) (by decide) (fun _ _ _ h => h) (Or.inr ⟨by kernel_rfl, rfl⟩) hSS ?_
    simp only [Act.put, List.setIfInBounds_toArray, List.set_cons_succ, List.set_cons_zero, List.getElem_toArray, List.getElem_cons_succ, List.getElem_cons_zero]
    refine wpAnyE_take0 (i := 27) (v := undef) rfl (by kernel_rfl) (by kernel_rfl) (by kernel_rfl) (by decide) (fun _ _ _ h => h) (Or.inr ⟨by kernel_rfl, rfl⟩) hSS ?_
    refine wpAnyE_take0 (i := 28) (v := undef) rfl (by kernel_rfl) (by kernel_rfl) (by kernel_rfl) (by decide) (fun _ _ _ h => h) (Or.inr ⟨by kernel_rfl, rfl⟩) hSS ?_
    refine wpAnyE_take0 (i := 29) (v := ?bv29) rfl (by kernel_rfl) (by kernel_rfl) (by kernel_rfl) (by decide) (fun _ _ _ h => h) (Or.inl ⟨by rfl, ?bhy29⟩) hSS ?_
    case bhy29 => (intro wz hSw; (try dsimp only at hSw); go_simp; try (with_reducible rfl))
    refine wpAnyE_one (i := 30) (by kernel_rfl) rfl (fun K hK => ?_)
    go_simp
    refine hK.out _ _ ⟨hSS.1, fun _ => trivial⟩ ?_
    clear hK K
    refine wpAnyE_done (by kernel_rfl) ?_ _
    clear hSS
    go_wp2
    go_ret
    exact ⟨ret_bool HV.out, B0.drew⟩
  cases h3 : keepT bn gn bx G T s an ax
  · have HV : Hid (false = V) := by show _ = _; rw [HW.out, siteB, h3]; simp
    have KP : Hid (∀ W, Below W0.heap.size W0 W → (W.cell? ⟨w.heap.size, 0, none⟩ = some (.int .i64 cl) ∧ W.cell? ⟨w.heap.size, 1, none⟩ = some (.slice ad N cap) ∧ W.cell? ⟨w.heap.size, 2, none⟩ = some (.slice ga gn gc) ∧ W.cell? ⟨w.heap.size, 3, none⟩ = some (.slice sa sn sc)) ∧ (W.cell? ⟨w.heap.size + 1, 0, none⟩ = some (.bool u) ∧ W.cell? ⟨w.heap.size + 1, 1, none⟩ = some (.bool f) ∧ W.cell? ⟨w.heap.size + 1, 2, none⟩ = some (.int .i64 r) ∧ W.cell? ⟨w.heap.size + 1, 3, none⟩ = some (.slice ba bn bc) ∧ W.cell? ⟨w.heap.size + 1, 4, none⟩ = some (.slice aa an ac) ∧ W.cell? ⟨w.heap.size + 1, 5, none⟩ = some (.slice da dn dc))) := fun W hW => ⟨(q0.below hW).quadP, (y0.below hW).sixP⟩
    have hSS := And.intro (KP.out _ (Below.refl _ _).drew) True.intro
    go_enter Tryz.func27, Tryz.ntmps27
    go_upto_region 1 with fail
    rw [← hW0]
    clear hW0 q0 y0
    refine wp_region_ends (fun w' => (w'.cell? ⟨w.heap.size, 0, none⟩ = some (.int .i64 cl) ∧ w'.cell? ⟨w.heap.size, 1, none⟩ = some (.slice ad N cap) ∧ w'.cell? ⟨w.heap.size, 2, none⟩ = some (.slice ga gn gc) ∧ w'.cell? ⟨w.heap.size, 3, none⟩ = some (.slice sa sn sc)) ∧ (w'.cell? ⟨w.heap.size + 1, 0, none⟩ = some (.bool u) ∧ w'.cell? ⟨w.heap.size + 1, 1, none⟩ = some (.bool f) ∧ w'.cell? ⟨w.heap.size + 1, 2, none⟩ = some (.int .i64 r) ∧ w'.cell? ⟨w.heap.size + 1, 3, none⟩ = some (.slice ba bn bc) ∧ w'.cell? ⟨w.heap.size + 1, 4, none⟩ = some (.slice aa an ac) ∧ w'.cell? ⟨w.heap.size + 1, 5, none⟩ = some (.slice da dn dc))) (fun _ => True) 30 (by kernel_rfl) ?_
    refine wpAnyE_take0 (i := 0) (v := ?cv0) rfl (by kernel_rfl) (by kernel_rfl) (by kernel_rfl) (by decide) (fun _ _ _ h => h) (Or.inl ⟨by rfl, ?chy0⟩) hSS ?_
    case chy0 => (intro wz hSw; (try dsimp only at hSw); go_simp; try (with_reducible rfl))
    refine wpAnyE_take0 (i := 1) (v := ?cv1) rfl (by kernel_rfl) (by kernel_rfl) (by kernel_rfl) (by decide) (fun _ _ _ h => h) (Or.inl ⟨by rfl, ?chy1⟩) hSS ?_
    case chy1 => (intro wz hSw; (try dsimp only at hSw); go_simp; try (with_reducible rfl))
    refine wpAnyE_one (i := 2) (by kernel_rfl) rfl (fun K hK => ?_)
    go_simp
    refine (in_any _ _ _ _).mono ?_
    rintro ee wq ⟨rfl, rfl⟩
    rw [h1]
    (try dsimp only)
    refine hK.out _ _ ⟨hSS.1, fun _ => trivial⟩ ?_
    clear hK K
    refine wpAnyE_take0 (i := 3) (v := ?cv3) rfl (by kernel_rfl) (by kernel_rfl) (by kernel_rfl) (by decide) (fun _ _ _ h => h) (Or.inl ⟨by rfl, ?chy3⟩) hSS ?_
    case chy3 => (intro wz hSw; (try dsimp only at hSw); go_simp; try (with_reducible rfl))
    refine wpAnyE_take0 (i := 4) (v := ?cv4) rfl (by kernel_rfl) (by kernel_rfl) (by kernel_rfl) (by decide) (fun _ _ _ h => h) (Or.inl ⟨by rfl, ?chy4⟩) hSS ?_
    case chy4 => (intro wz hSw; (try dsimp only at hSw); go_simp; try (with_reducible rfl))
    refine wpAnyE_take0 (i := 5) (v := ?cv5) rfl (by kernel_rfl) (by kernel_rfl) (by kernel_rfl) (by decide) (fun _ _ _ h => h) (Or.inl ⟨by rfl, ?chy5⟩) hSS ?_
    case chy5 => (intro wz hSw; (try dsimp only at hSw); go_simp; try (with_reducible rfl))
    refine wpAnyE_one (i := 6) (by kernel_rfl) rfl (fun K hK => ?_)
    go_simp
    refine (sval_any _ _ _ bx _ (h.below B0.drew).b h.zb).mono ?_
    rintro ee wq ⟨rfl, rfl⟩
    rw [h2]
    (try dsimp only)
    refine hK.out _ _ ⟨hSS.1, fun _ => trivial⟩ ?_
    clear hK K
    refine wpAnyE_take0 (i := 7) (v := ?cv7) rfl (by kernel_rfl) (by kernel_rfl) (by kernel_rfl) (by decide) (fun _ _ _ h => h) (Or.inl ⟨by rfl, ?chy7⟩) hSS ?_
    case chy7 => (intro wz hSw; (try dsimp only at hSw); go_simp; try (with_reducible rfl))
    refine wpAnyE_take0 (i := 8) (v := ?cv8) rfl (by kernel_rfl) (by kernel_rfl) (by kernel_rfl) (by decide) (fun _ _ _ h => h) (Or.inl ⟨by rfl, ?chy8⟩) hSS ?_
    case chy8 => (intro wz hSw; (try dsimp only at hSw); go_simp; try (with_reducible rfl))
    refine wpAnyE_take0 (i := 9) (v := ?cv9) rfl (by kernel_rfl) (by kernel_rfl) (by kernel_rfl) (by decide) (fun _ _ _ h => h) (Or.inl ⟨by rfl, ?chy9⟩) hSS ?_
    case chy9 => (intro wz hSw; (try dsimp only at hSw); go_simp; try (with_reducible rfl))
    refine wpAnyE_take0 (i := 10) (v := ?cv10) rfl (by kernel_rfl) (by kernel_rfl) (by kernel_rfl) (by decide) (fun _ _ _ h => h) (Or.inl ⟨by rfl, ?chy10⟩) hSS ?_
    case chy10 => (intro wz hSw; (try dsimp only at hSw); go_simp; try (with_reducible rfl))
    simp only [Act.put, List.setIfInBounds_toArray, List.set_cons_succ, List.set_cons_zero, List.getElem_toArray, List.getElem_cons_succ, List.getElem_cons_zero]
    refine wpAnyE_take0 (i := 12) (v := ?cv12) rfl (by kernel_rfl) (by kernel_rfl) (by kernel_rfl) (by decide) (fun _ _ _ h => h) (Or.inl ⟨by rfl, ?chy12⟩) hSS ?_
    case chy12 => (intro wz hSw; (try dsimp only at hSw); go_simp; try (with_reducible rfl))
    refine wpAnyE_take0 (i := 13) (v := ?cv13) rfl (by kernel_rfl) (by kernel_rfl) (by kernel_rfl) (by decide) (fun _ _ _ h => h) (Or.inl ⟨by rfl, ?chy13⟩) hSS ?_
    case chy13 => (intro wz hSw; (try dsimp only at hSw); go_simp; try (with_reducible rfl))
    refine wpAnyE_take0 (i := 14) (v := ?cv14) rfl (by kernel_rfl) (by kernel_rfl) (by kernel_rfl) (by decide) (fun _ _ _ h => h) (Or.inl ⟨by rfl, ?chy14⟩) hSS ?_
    case chy14 => (intro wz hSw; (try dsimp only at hSw); go_simp; try (with_reducible rfl))
    refine wpAnyE_take0 (i := 15) (v := ?cv15) rfl (by kernel_rfl) (by kernel_rfl) (by kernel_rfl) (by decide) (fun _ _ _ h => h) (Or.inl ⟨by rfl, ?chy15⟩) hSS ?_
    case chy15 => (intro wz hSw; (try dsimp only at hSw); go_simp; try (with_reducible rfl))
    simp only [Act.put, List.setIfInBounds_toArray, List.set_cons_succ, List.set_cons_zero, List.getElem_toArray, List.getElem_cons_succ, List.getElem_cons_zero]
    refine wpAnyE_one (i := 11) (by kernel_rfl) rfl (fun K hK => ?_)
    go_simp
    refine (str8_any _ _ _ _ _ _ _ _ _ _ _ _ _ _ _ _ _ _ _ _ _ _ _).mono ?_
    rintro ee w1 ⟨rfl, bd1⟩
    have b1 := below_of_drew bd1
    have B1 := B0.trans (b1.mono B0.size)
    (try dsimp only)
    replace hSS := And.intro (KP.out w1 b1) True.intro
    refine hK.out _ _ ⟨hSS.1, fun _ => trivial⟩ ?_
    clear hK K
    refine wpAnyE_one (i := 16) (by kernel_rfl) rfl (fun K hK => ?_)
    go_simp
    refine (skeep_any _ _ _ _ _ _ _ _ _ _ _ _ _ bx G ax ts _ (h.below B1).b (hG.below B1) (h.below B1).a lP (hP.below B1) h.zb zg h.za zP).mono ?_
    rintro ee w2 ⟨rfl, b2⟩
    rw [keep_of hP HT.out, h3]
    have b12 := b1.trans (b2.mono b1.size)
    have B2 := B1.trans (b2.mono B1.size)
    (try dsimp only)
    replace hSS := And.intro (KP.out w2 b12) True.intro
    refine hK.out _ _ ⟨hSS.1, fun _ => trivial⟩ ?_
    clear hK K
    refine wpAnyE_take0 (i := 17) (v := ?cv17) rfl (by kernel_rfl) (by kernel_rfl) (by kernel_rfl) (by decide) (fun _ _ _ h => h) (Or.inl ⟨by rfl, ?chy17⟩) hSS ?_
    case chy17 => (intro wz hSw; (try dsimp only at hSw); go_simp; try (with_reducible rfl))
    refine wpAnyE_take0 (i := 18) (v := ?cv18) rfl (by kernel_rfl) (by kernel_rfl) (by kernel_rfl) (by decide) (fun _ _ _ h => h) (Or.inl ⟨by rfl, ?chy18⟩) hSS ?_
    case chy18 => (intro wz hSw; (try dsimp only at hSw); go_simp; try (with_reducible rfl))
    refine wpAnyE_take0 (i := 19) (v := undef) rfl (by kernel_rfl) (by kernel_rfl) (by kernel_rfl) (by decide) (fun _ _ _ h => h) (Or.inr ⟨by kernel_rfl, rfl⟩) hSS ?_
    refine wpAnyE_take0 (i := 20) (v := undef) rfl (by kernel_rfl) (by kernel_rfl) (by kernel_rfl) (by decide) (fun _ _ _ h => h) (Or.inr ⟨by kernel_rfl, rfl⟩) hSS ?_
    simp only [Act.put, List.setIfInBounds_toArray, List.set_cons_succ, List.set_cons_zero, List.getElem_toArray, List.getElem_cons_succ, List.getElem_cons_zero]
    refine wpAnyE_take0 (i := 21) (v := undef) rfl (by kernel_rfl) (by kernel_rfl) (by kernel_rfl) (by decide) (fun _ _ _ h => h) (Or.inr ⟨by kernel_rfl, rfl⟩) hSS ?_
    refine wpAnyE_take0 (i := 22) (v := undef) rfl (by kernel_rfl) (by kernel_rfl) (by kernel_rfl) (by decide) (fun _ _ _ h => h) (Or.inr ⟨by kernel_rfl, rfl⟩) hSS ?_
    refine wpAnyE_take0 (i := 23) (v := ?cv23) rfl (by kernel_rfl) (by kernel_rfl) (by kernel_rfl) (by decide) (fun _ _ _ h => h) (Or.inl ⟨by rfl, ?chy23⟩) hSS ?_
    case chy23 => (intro wz hSw; (try dsimp only at hSw); go_simp; try (with_reducible rfl))
    refine wpAnyE_take0 (i := 24) (v := ?cv24) rfl (by kernel_rfl) (by kernel_rfl) (by kernel_rfl) (by decide) (fun _ _ _ h => h) (Or.inl ⟨by rfl, ?chy24⟩) hSS ?_
    case chy24 => (intro wz hSw; (try dsimp only at hSw); go_simp; try (with_reducible rfl))
    simp only [Act.put, List.setIfInBounds_toArray, List.set_cons_succ, List.set_cons_zero, List.getElem_toArray, List.getElem_cons_succ, List.getElem_cons_zero]
    refine wpAnyE_take0 (i := 25) (v := undef) rfl (by kernel_rfl) (by kernel_rfl) (by kernel_rfl) (by decide) (fun _ _ _ h => h) (Or.inr ⟨by kernel_rfl, rfl⟩) hSS ?_
    refine wpAnyE_take0 (i := 26) (v := undef) rfl (by kernel_rfl) (by kernel_rfl) (by kernel_rfl) (by decide) (fun _ _ _ h => h) (Or.inr ⟨by kernel_rfl, rfl⟩) hSS ?_
    refine wpAnyE_take0 (i := 27) (v := undef) rfl (by kernel_rfl) (by kernel_rfl) (by kernel_rfl) (by decide) (fun _ _ _ h => h) (Or.inr ⟨by kernel_rfl, rfl⟩) hSS ?_
    refine wpAnyE_take0 (i := 28) (v := undef) rfl (by kernel_rfl) (by kernel_rfl) (by kernel_rfl) (by decide) (fun _ _ _ h => h) (Or.inr ⟨by kernel_rfl, rfl⟩) hSS ?_
    simp only [Act.put, List.setIfInBounds_toArray, List.set_cons_succ, List.set_cons_zero, List.getElem_toArray, List.getElem_cons_succ, List.getElem_cons_zero]
    refine wpAnyE_take0 (i := 29) (v := ?cv29) rfl (by kernel_rfl) (by kernel_rfl) (by kernel_rfl) (by decide) (fun _ _ _ h => h) (Or.inl ⟨by rfl, ?chy29⟩) hSS ?_
    case chy29 => (intro wz hSw; (try dsimp only at hSw); go_simp; try (with_reducible rfl))
    refine wpAnyE_one (i := 30) (by kernel_rfl) rfl (fun K hK => ?_)
    go_simp
    refine hK.out _ _ ⟨hSS.1, fun _ => trivial⟩ ?_
    clear hK K
    refine wpAnyE_done (by kernel_rfl) ?_ _
    clear hSS
    go_wp2
    go_ret
    exact ⟨ret_bool HV.out, B2⟩
  obtain rfl : an = 3 := (keepT_elim h3).2.2
  cases h4 : stillB R ax
  · have HV : Hid (false = V) := by show _ = _; rw [HW.out, siteB, h4]; simp
    have KP : Hid (∀ W, Below W0.heap.size W0 W → (W.cell? ⟨w.heap.size, 0, none⟩ = some (.int .i64 cl) ∧ W.cell? ⟨w.heap.size, 1, none⟩ = some (.slice ad N cap) ∧ W.cell? ⟨w.heap.size, 2, none⟩ = some (.slice ga gn gc) ∧ W.cell? ⟨w.heap.size, 3, none⟩ = some (.slice sa sn sc)) ∧ (W.cell? ⟨w.heap.size + 1, 0, none⟩ = some (.bool u) ∧ W.cell? ⟨w.heap.size + 1, 1, none⟩ = some (.bool f) ∧ W.cell? ⟨w.heap.size + 1, 2, none⟩ = some (.int .i64 r) ∧ W.cell? ⟨w.heap.size + 1, 3, none⟩ = some (.slice ba bn bc) ∧ W.cell? ⟨w.heap.size + 1, 4, none⟩ = some (.slice aa 3 ac) ∧ W.cell? ⟨w.heap.size + 1, 5, none⟩ = some (.slice da dn dc))) := fun W hW => ⟨(q0.below hW).quadP, (y0.below hW).sixP⟩
    have hSS := And.intro (KP.out _ (Below.refl _ _).drew) True.intro
    go_enter Tryz.func27, Tryz.ntmps27
    go_upto_region 1 with fail
    rw [← hW0]
    clear hW0 q0 y0
    refine wp_region_ends (fun w' => (w'.cell? ⟨w.heap.size, 0, none⟩ = some (.int .i64 cl) ∧ w'.cell? ⟨w.heap.size, 1, none⟩ = some (.slice ad N cap) ∧ w'.cell? ⟨w.heap.size, 2, none⟩ = some (.slice ga gn gc) ∧ w'.cell? ⟨w.heap.size, 3, none⟩ = some (.slice sa sn sc)) ∧ (w'.cell? ⟨w.heap.size + 1, 0, none⟩ = some (.bool u) ∧ w'.cell? ⟨w.heap.size + 1, 1, none⟩ = some (.bool f) ∧ w'.cell? ⟨w.heap.size + 1, 2, none⟩ = some (.int .i64 r) ∧ w'.cell? ⟨w.heap.size + 1, 3, none⟩ = some (.slice ba bn bc) ∧ w'.cell? ⟨w.heap.size + 1, 4, none⟩ = some (.slice aa 3 ac) ∧ w'.cell? ⟨w.heap.size + 1, 5, none⟩ = some (.slice da dn dc))) (fun _ => True) 30 (by kernel_rfl) ?_
    refine wpAnyE_take0 (i := 0) (v := ?dv0) rfl (by kernel_rfl) (by kernel_rfl) (by kernel_rfl) (by decide) (fun _ _ _ h => h) (Or.inl ⟨by rfl, ?dhy0⟩) hSS ?_
    case dhy0 => (intro wz hSw; (try dsimp only at hSw); go_simp; try (with_reducible rfl))
    refine wpAnyE_take0 (i := 1) (v := ?dv1) rfl (by kernel_rfl) (by kernel_rfl) (by kernel_rfl) (by decide) (fun _ _ _ h => h) (Or.inl ⟨by rfl, ?dhy1⟩) hSS ?_
    case dhy1 => (intro wz hSw; (try dsimp only at hSw); go_simp; try (with_reducible rfl))
    refine wpAnyE_one (i := 2) (by kernel_rfl) rfl (fun K hK => ?_)
    go_simp
    refine (in_any _ _ _ _).mono ?_
    rintro ee wq ⟨rfl, rfl⟩
    rw [h1]
    (try dsimp only)
    refine hK.out _ _ ⟨hSS.1, fun _ => trivial⟩ ?_
    clear hK K
    refine wpAnyE_take0 (i := 3) (v := ?dv3) rfl (by kernel_rfl) (by kernel_rfl) (by kernel_rfl) (by decide) (fun _ _ _ h => h) (Or.inl ⟨by rfl, ?dhy3⟩) hSS ?_
    case dhy3 => (intro wz hSw; (try dsimp only at hSw); go_simp; try (with_reducible rfl))
    refine wpAnyE_take0 (i := 4) (v := ?dv4) rfl (by kernel_rfl) (by kernel_rfl) (by kernel_rfl) (by decide) (fun _ _ _ h => h) (Or.inl ⟨by rfl, ?dhy4⟩) hSS ?_
    case dhy4 => (intro wz hSw; (try dsimp only at hSw); go_simp; try (with_reducible rfl))
    refine wpAnyE_take0 (i := 5) (v := ?dv5) rfl (by kernel_rfl) (by kernel_rfl) (by kernel_rfl) (by decide) (fun _ _ _ h => h) (Or.inl ⟨by rfl, ?dhy5⟩) hSS ?_
    case dhy5 => (intro wz hSw; (try dsimp only at hSw); go_simp; try (with_reducible rfl))
    refine wpAnyE_one (i := 6) (by kernel_rfl) rfl (fun K hK => ?_)
    go_simp
    refine (sval_any _ _ _ bx _ (h.below B0.drew).b h.zb).mono ?_
    rintro ee wq ⟨rfl, rfl⟩
    rw [h2]
    (try dsimp only)
    refine hK.out _ _ ⟨hSS.1, fun _ => trivial⟩ ?_
    clear hK K
    refine wpAnyE_take0 (i := 7) (v := ?dv7) rfl (by kernel_rfl) (by kernel_rfl) (by kernel_rfl) (by decide) (fun _ _ _ h => h) (Or.inl ⟨by rfl, ?dhy7⟩) hSS ?_
    case dhy7 => (intro wz hSw; (try dsimp only at hSw); go_simp; try (with_reducible rfl))
    refine wpAnyE_take0 (i := 8) (v := ?dv8) rfl (by kernel_rfl) (by kernel_rfl) (by kernel_rfl) (by decide) (fun _ _ _ h => h) (Or.inl ⟨by rfl, ?dhy8⟩) hSS ?_
    case dhy8 => (intro wz hSw; (try dsimp only at hSw); go_simp; try (with_reducible rfl))
    refine wpAnyE_take0 (i := 9) (v := ?dv9) rfl (by kernel_rfl) (by kernel_rfl) (by kernel_rfl) (by decide) (fun _ _ _ h => h) (Or.inl ⟨by rfl, ?dhy9⟩) hSS ?_
    case dhy9 => (intro wz hSw; (try dsimp only at hSw); go_simp; try (with_reducible rfl))
    refine wpAnyE_take0 (i := 10) (v := ?dv10) rfl (by kernel_rfl) (by kernel_rfl) (by kernel_rfl) (by decide) (fun _ _ _ h => h) (Or.inl ⟨by rfl, ?dhy10⟩) hSS ?_
    case dhy10 => (intro wz hSw; (try dsimp only at hSw); go_simp; try (with_reducible rfl))
    simp only [Act.put, List.setIfInBounds_toArray, List.set_cons_succ, List.set_cons_zero, List.getElem_toArray, List.getElem_cons_succ, List.getElem_cons_zero]
    refine wpAnyE_take0 (i := 12) (v := ?dv12) rfl (by kernel_rfl) (by kernel_rfl) (by kernel_rfl) (by decide) (fun _ _ _ h => h) (Or.inl ⟨by rfl, ?dhy12⟩) hSS ?_
    case dhy12 => (intro wz hSw; (try dsimp only at hSw); go_simp; try (with_reducible rfl))
    refine wpAnyE_take0 (i := 13) (v := ?dv13) rfl (by kernel_rfl) (by kernel_rfl) (by kernel_rfl) (by decide) (fun _ _ _ h => h) (Or.inl ⟨by rfl, ?dhy13⟩) hSS ?_
    case dhy13 => (intro wz hSw; (try dsimp only at hSw); go_simp; try (with_reducible rfl))
    refine wpAnyE_take0 (i := 14) (v := ?dv14) rfl (by kernel_rfl) (by kernel_rfl) (by kernel_rfl) (by decide) (fun _ _ _ h => h) (Or.inl ⟨by rfl, ?dhy14⟩) hSS ?_
    case dhy14 => (intro wz hSw; (try dsimp only at hSw); go_simp; try (with_reducible rfl))
    refine wpAnyE_take0 (i := 15) (v := ?dv15) rfl (by kernel_rfl) (by kernel_rfl) (by kernel_rfl) (by decide) (fun _ _ _ h => h) (Or.inl ⟨by rfl, ?dhy15⟩) hSS ?_
    case dhy15 => (intro wz hSw; (try dsimp only at hSw); go_simp; try (with_reducible rfl))
    simp only [Act.put, List.setIfInBounds_toArray, List.set_cons_succ, List.set_cons_zero, List.getElem_toArray, List.getElem_cons_succ, List.getElem_cons_zero]
    refine wpAnyE_one (i := 11) (by kernel_rfl) rfl (fun K hK => ?_)
    go_simp
    refine (str8_any _ _ _ _ _ _ _ _ _ _ _ _ _ _ _ _ _ _ _ _ _ _ _).mono ?_
    rintro ee w1 ⟨rfl, bd1⟩
    have b1 := below_of_drew bd1
    have B1 := B0.trans (b1.mono B0.size)
    (try dsimp only)
    replace hSS := And.intro (KP.out w1 b1) True.intro
    refine hK.out _ _ ⟨hSS.1, fun _ => trivial⟩ ?_
    clear hK K
    refine wpAnyE_one (i := 16) (by kernel_rfl) rfl (fun K hK => ?_)
    go_simp
    refine (skeep_any _ _ _ _ _ _ _ _ _ _ _ _ _ bx G ax ts _ (h.below B1).b (hG.below B1) (h.below B1).a lP (hP.below B1) h.zb zg h.za zP).mono ?_
    rintro ee w2 ⟨rfl, b2⟩
    rw [keep_of hP HT.out, h3]
    have b12 := b1.trans (b2.mono b1.size)
    have B2 := B1.trans (b2.mono B1.size)
    (try dsimp only)
    replace hSS := And.intro (KP.out w2 b12) True.intro
    refine hK.out _ _ ⟨hSS.1, fun _ => trivial⟩ ?_
    clear hK K
    refine wpAnyE_take0 (i := 17) (v := ?dv17) rfl (by kernel_rfl) (by kernel_rfl) (by kernel_rfl) (by decide) (fun _ _ _ h => h) (Or.inl ⟨by rfl, ?dhy17⟩) hSS ?_
    case dhy17 => (intro wz hSw; (try dsimp only at hSw); go_simp; try (with_reducible rfl))
    refine wpAnyE_take0 (i := 18) (v := ?dv18) rfl (by kernel_rfl) (by kernel_rfl) (by kernel_rfl) (by decide) (fun _ _ _ h => h) (Or.inl ⟨by rfl, ?dhy18⟩) hSS ?_
    case dhy18 => (intro wz hSw; (try dsimp only at hSw); go_simp; try (with_reducible rfl))
    refine wpAnyE_take0 (i := 19) (v := ?dv19) rfl (by kernel_rfl) (by kernel_rfl) (by kernel_rfl) (by decide) (fun _ _ _ h => h) (Or.inl ⟨by rfl, ?dhy19⟩) hSS ?_
    case dhy19 => (intro wz hSw; (try dsimp only at hSw); go_simp; try (with_reducible rfl))
    refine wpAnyE_take0 (i := 20) (v := ?dv20) rfl (by kernel_rfl) (by kernel_rfl) (by kernel_rfl) (by decide) (fun _ _ _ h => h) (Or.inl ⟨by rfl, ?dhy20⟩) hSS ?_
    case dhy20 => (intro wz hSw; (try dsimp only at hSw); go_simp; try (with_reducible rfl))
    simp only [Act.put, List.setIfInBounds_toArray, List.set_cons_succ, List.set_cons_zero, List.getElem_toArray, List.getElem_cons_succ, List.getElem_cons_zero]
    refine wpAnyE_take0 (i := 21) (v := ?dv21) rfl (by kernel_rfl) (by kernel_rfl) (by kernel_rfl) (by decide) (fun _ _ _ h => h) (Or.inl ⟨by rfl, ?dhy21⟩) hSS ?_
    case dhy21 => (intro wz hSw; (try dsimp only at hSw); go_simp; try (with_reducible rfl))
    refine wpAnyE_one (i := 22) (by kernel_rfl) rfl (fun K hK => ?_)
    go_simp
    refine (sstill_any _ _ _ _ R ax _ (hR.below B2) (h.below B2).a).mono ?_
    rintro ee wq ⟨rfl, rfl⟩
    rw [h4]
    (try dsimp only)
    refine hK.out _ _ ⟨hSS.1, fun _ => trivial⟩ ?_
    clear hK K
    refine wpAnyE_take0 (i := 23) (v := ?dv23) rfl (by kernel_rfl) (by kernel_rfl) (by kernel_rfl) (by decide) (fun _ _ _ h => h) (Or.inl ⟨by rfl, ?dhy23⟩) hSS ?_
    case dhy23 => (intro wz hSw; (try dsimp only at hSw); go_simp; try (with_reducible rfl))
    refine wpAnyE_take0 (i := 24) (v := ?dv24) rfl (by kernel_rfl) (by kernel_rfl) (by kernel_rfl) (by decide) (fun _ _ _ h => h) (Or.inl ⟨by rfl, ?dhy24⟩) hSS ?_
    case dhy24 => (intro wz hSw; (try dsimp only at hSw); go_simp; try (with_reducible rfl))
    refine wpAnyE_take0 (i := 25) (v := undef) rfl (by kernel_rfl) (by kernel_rfl) (by kernel_rfl) (by decide) (fun _ _ _ h => h) (Or.inr ⟨by kernel_rfl, rfl⟩) hSS ?_
    refine wpAnyE_take0 (i := 26) (v := undef) rfl (by kernel_rfl) (by kernel_rfl) (by kernel_rfl) (by decide) (fun _ _ _ h => h) (Or.inr ⟨by kernel_rfl, rfl⟩) hSS ?_
    simp only [Act.put, List.setIfInBounds_toArray, List.set_cons_succ, List.set_cons_zero, List.getElem_toArray, List.getElem_cons_succ, List.getElem_cons_zero]
    refine wpAnyE_take0 (i := 27) (v := undef) rfl (by kernel_rfl) (by kernel_rfl) (by kernel_rfl) (by decide) (fun _ _ _ h => h) (Or.inr ⟨by kernel_rfl, rfl⟩) hSS ?_
    refine wpAnyE_take0 (i := 28) (v := undef) rfl (by kernel_rfl) (by kernel_rfl) (by kernel_rfl) (by decide) (fun _ _ _ h => h) (Or.inr ⟨by kernel_rfl, rfl⟩) hSS ?_
    refine wpAnyE_take0 (i := 29) (v := ?dv29) rfl (by kernel_rfl) (by kernel_rfl) (by kernel_rfl) (by decide) (fun _ _ _ h => h) (Or.inl ⟨by rfl, ?dhy29⟩) hSS ?_
    case dhy29 => (intro wz hSw; (try dsimp only at hSw); go_simp; try (with_reducible rfl))
    refine wpAnyE_one (i := 30) (by kernel_rfl) rfl (fun K hK => ?_)
    go_simp
    refine hK.out _ _ ⟨hSS.1, fun _ => trivial⟩ ?_
    clear hK K
    refine wpAnyE_done (by kernel_rfl) ?_ _
    clear hSS
    go_wp2
    go_ret
    exact ⟨ret_bool HV.out, B2⟩
  have HV : Hid (donesB cl dn dx = V) := by show _ = _; rw [HW.out, siteB, h1, h3, h4]; rfl
  have KP : Hid (∀ W, Below W0.heap.size W0 W → (W.cell? ⟨w.heap.size, 0, none⟩ = some (.int .i64 cl) ∧ W.cell? ⟨w.heap.size, 1, none⟩ = some (.slice ad N cap) ∧ W.cell? ⟨w.heap.size, 2, none⟩ = some (.slice ga gn gc) ∧ W.cell? ⟨w.heap.size, 3, none⟩ = some (.slice sa sn sc)) ∧ (W.cell? ⟨w.heap.size + 1, 0, none⟩ = some (.bool u) ∧ W.cell? ⟨w.heap.size + 1, 1, none⟩ = some (.bool f) ∧ W.cell? ⟨w.heap.size + 1, 2, none⟩ = some (.int .i64 r) ∧ W.cell? ⟨w.heap.size + 1, 3, none⟩ = some (.slice ba bn bc) ∧ W.cell? ⟨w.heap.size + 1, 4, none⟩ = some (.slice aa 3 ac) ∧ W.cell? ⟨w.heap.size + 1, 5, none⟩ = some (.slice da dn dc))) := fun W hW => ⟨(q0.below hW).quadP, (y0.below hW).sixP⟩
  have hSS := And.intro (KP.out _ (Below.refl _ _).drew) True.intro
  go_enter Tryz.func27, Tryz.ntmps27
  go_upto_region 1 with fail
  rw [← hW0]
  clear hW0 q0 y0
  refine wp_region_ends (fun w' => (w'.cell? ⟨w.heap.size, 0, none⟩ = some (.int .i64 cl) ∧ w'.cell? ⟨w.heap.size, 1, none⟩ = some (.slice ad N cap) ∧ w'.cell? ⟨w.heap.size, 2, none⟩ = some (.slice ga gn gc) ∧ w'.cell? ⟨w.heap.size, 3, none⟩ = some (.slice sa sn sc)) ∧ (w'.cell? ⟨w.heap.size + 1, 0, none⟩ = some (.bool u) ∧ w'.cell? ⟨w.heap.size + 1, 1, none⟩ = some (.bool f) ∧ w'.cell? ⟨w.heap.size + 1, 2, none⟩ = some (.int .i64 r) ∧ w'.cell? ⟨w.heap.size + 1, 3, none⟩ = some (.slice ba bn bc) ∧ w'.cell? ⟨w.heap.size + 1, 4, none⟩ = some (.slice aa 3 ac) ∧ w'.cell? ⟨w.heap.size + 1, 5, none⟩ = some (.slice da dn dc))) (fun _ => True) 30 (by kernel_rfl) ?_
  refine wpAnyE_take0 (i := 0) (v := ?ev0) rfl (by kernel_rfl) (by kernel_rfl) (by kernel_rfl) (by decide) (fun _ _ _ h => h) (Or.inl ⟨by rfl, ?ehy0⟩) hSS ?_
  case ehy0 => (intro wz hSw; (try dsimp only at hSw); go_simp; try (with_reducible rfl))
  refine wpAnyE_take0 (i := 1) (v := ?ev1) rfl (by kernel_rfl) (by kernel_rfl) (by kernel_rfl) (by decide) (fun _ _ _ h => h) (Or.inl ⟨by rfl, ?ehy1⟩) hSS ?_
  case ehy1 => (intro wz hSw; (try dsimp only at hSw); go_simp; try (with_reducible rfl))
  refine wpAnyE_one (i := 2) (by kernel_rfl) rfl (fun K hK => ?_)
  go_simp
  refine (in_any _ _ _ _).mono ?_
  rintro ee wq ⟨rfl, rfl⟩
  rw [h1]
  (try dsimp only)
  refine hK.out _ _ ⟨hSS.1, fun _ => trivial⟩ ?_
  clear hK K
  refine wpAnyE_take0 (i := 3) (v := ?ev3) rfl (by kernel_rfl) (by kernel_rfl) (by kernel_rfl) (by decide) (fun _ _ _ h => h) (Or.inl ⟨by rfl, ?ehy3⟩) hSS ?_
  case ehy3 => (intro wz hSw; (try dsimp only at hSw); go_simp; try (with_reducible rfl))
  refine wpAnyE_take0 (i := 4) (v := ?ev4) rfl (by kernel_rfl) (by kernel_rfl) (by kernel_rfl) (by decide) (fun _ _ _ h => h) (Or.inl ⟨by rfl, ?ehy4⟩) hSS ?_
  case ehy4 => (intro wz hSw; (try dsimp only at hSw); go_simp; try (with_reducible rfl))
  refine wpAnyE_take0 (i := 5) (v := ?ev5) rfl (by kernel_rfl) (by kernel_rfl) (by kernel_rfl) (by decide) (fun _ _ _ h => h) (Or.inl ⟨by rfl, ?ehy5⟩) hSS ?_
  case ehy5 => (intro wz hSw; (try dsimp only at hSw); go_simp; try (with_reducible rfl))
  refine wpAnyE_one (i := 6) (by kernel_rfl) rfl (fun K hK => ?_)
  go_simp
  refine (sval_any _ _ _ bx _ (h.below B0.drew).b h.zb).mono ?_
  rintro ee wq ⟨rfl, rfl⟩
  rw [h2]
  (try dsimp only)
  refine hK.out _ _ ⟨hSS.1, fun _ => trivial⟩ ?_
  clear hK K
  refine wpAnyE_take0 (i := 7) (v := ?ev7) rfl (by kernel_rfl) (by kernel_rfl) (by kernel_rfl) (by decide) (fun _ _ _ h => h) (Or.inl ⟨by rfl, ?ehy7⟩) hSS ?_
  case ehy7 => (intro wz hSw; (try dsimp only at hSw); go_simp; try (with_reducible rfl))
  refine wpAnyE_take0 (i := 8) (v := ?ev8) rfl (by kernel_rfl) (by kernel_rfl) (by kernel_rfl) (by decide) (fun _ _ _ h => h) (Or.inl ⟨by rfl, ?ehy8⟩) hSS ?_
  case ehy8 => (intro wz hSw; (try dsimp only at hSw); go_simp; try (with_reducible rfl))
  refine wpAnyE_take0 (i := 9) (v := ?ev9) rfl (by kernel_rfl) (by kernel_rfl) (by kernel_rfl) (by decide) (fun _ _ _ h => h) (Or.inl ⟨by rfl, ?ehy9⟩) hSS ?_
  case ehy9 => (intro wz hSw; (try dsimp only at hSw); go_simp; try (with_reducible rfl))
  refine wpAnyE_take0 (i := 10) (v := ?ev10) rfl (by kernel_rfl) (by kernel_rfl) (by kernel_rfl) (by decide) (fun _ _ _ h => h) (Or.inl ⟨by rfl, ?ehy10⟩) hSS ?_
  case ehy10 => (intro wz hSw; (try dsimp only at hSw); go_simp; try (with_reducible rfl))
  simp only [Act.put, List.setIfInBounds_toArray, List.set_cons_succ, List.set_cons_zero, List.getElem_toArray, List.getElem_cons_succ, List.getElem_cons_zero]
  refine wpAnyE_take0 (i := 12) (v := ?ev12) rfl (by kernel_rfl) (by kernel_rfl) (by kernel_rfl) (by decide) (fun _ _ _ h => h) (Or.inl ⟨by rfl, ?ehy12⟩) hSS ?_
  case ehy12 => (intro wz hSw; (try dsimp only at hSw); go_simp; try (with_reducible rfl))
  refine wpAnyE_take0 (i := 13) (v := ?ev13) rfl (by kernel_rfl) (by kernel_rfl) (by kernel_rfl) (by decide) (fun _ _ _ h => h) (Or.inl ⟨by rfl, ?ehy13⟩) hSS ?_
  case ehy13 => (intro wz hSw; (try dsimp only at hSw); go_simp; try (with_reducible rfl))
  refine wpAnyE_take0 (i := 14) (v := ?ev14) rfl (by kernel_rfl) (by kernel_rfl) (by kernel_rfl) (by decide) (fun _ _ _ h => h) (Or.inl ⟨by rfl, ?ehy14⟩) hSS ?_
  case ehy14 => (intro wz hSw; (try dsimp only at hSw); go_simp; try (with_reducible rfl))
  refine wpAnyE_take0 (i := 15) (v := ?ev15) rfl (by kernel_rfl) (by kernel_rfl) (by kernel_rfl) (by decide) (fun _ _ _ h => h) (Or.inl ⟨by rfl, ?ehy15⟩) hSS ?_
  case ehy15 => (intro wz hSw; (try dsimp only at hSw); go_simp; try (with_reducible rfl))
  simp only [Act.put, List.setIfInBounds_toArray, List.set_cons_succ, List.set_cons_zero, List.getElem_toArray, List.getElem_cons_succ, List.getElem_cons_zero]
  refine wpAnyE_one (i := 11) (by kernel_rfl) rfl (fun K hK => ?_)
  go_simp
  refine (str8_any _ _ _ _ _ _ _ _ _ _ _ _ _ _ _ _ _ _ _ _ _ _ _).mono ?_
  rintro ee w1 ⟨rfl, bd1⟩
  have b1 := below_of_drew bd1
  have B1 := B0.trans (b1.mono B0.size)
  (try dsimp only)
  replace hSS := And.intro (KP.out w1 b1) True.intro
  refine hK.out _ _ ⟨hSS.1, fun _ => trivial⟩ ?_
  clear hK K
  refine wpAnyE_one (i := 16) (by kernel_rfl) rfl (fun K hK => ?_)
  go_simp
  refine (skeep_any _ _ _ _ _ _ _ _ _ _ _ _ _ bx G ax ts _ (h.below B1).b (hG.below B1) (h.below B1).a lP (hP.below B1) h.zb zg h.za zP).mono ?_
  rintro ee w2 ⟨rfl, b2⟩
  rw [keep_of hP HT.out, h3]
  have b12 := b1.trans (b2.mono b1.size)
  have B2 := B1.trans (b2.mono B1.size)
  (try dsimp only)
  replace hSS := And.intro (KP.out w2 b12) True.intro
  refine hK.out _ _ ⟨hSS.1, fun _ => trivial⟩ ?_
  clear hK K
  refine wpAnyE_take0 (i := 17) (v := ?ev17) rfl (by kernel_rfl) (by kernel_rfl) (by kernel_rfl) (by decide) (fun _ _ _ h => h) (Or.inl ⟨by rfl, ?ehy17⟩) hSS ?_
  case ehy17 => (intro wz hSw; (try dsimp only at hSw); go_simp; try (with_reducible rfl))
  refine wpAnyE_take0 (i := 18) (v := ?ev18) rfl (by kernel_rfl) (by kernel_rfl) (by kernel_rfl) (by decide) (fun _ _ _ h => h) (Or.inl ⟨by rfl, ?ehy18⟩) hSS ?_
  case ehy18 => (intro wz hSw; (try dsimp only at hSw); go_simp; try (with_reducible rfl))
  refine wpAnyE_take0 (i := 19) (v := ?ev19) rfl (by kernel_rfl) (by kernel_rfl) (by kernel_rfl) (by decide) (fun _ _ _ h => h) (Or.inl ⟨by rfl, ?ehy19⟩) hSS ?_
  case ehy19 => (intro wz hSw; (try dsimp only at hSw); go_simp; try (with_reducible rfl))
  refine wpAnyE_take0 (i := 20) (v := ?ev20) rfl (by kernel_rfl) (by kernel_rfl) (by kernel_rfl) (by decide) (fun _ _ _ h => h) (Or.inl ⟨by rfl, ?ehy20⟩) hSS ?_
  case ehy20 => (intro wz hSw; (try dsimp only at hSw); go_simp; try (with_reducible rfl))
  simp only [Act.put, List.setIfInBounds_toArray, List.set_cons_succ, List.set_cons_zero, List.getElem_toArray, List.getElem_cons_succ, List.getElem_cons_zero]
  refine wpAnyE_take0 (i := 21) (v := ?ev21) rfl (by kernel_rfl) (by kernel_rfl) (by kernel_rfl) (by decide) (fun _ _ _ h => h) (Or.inl ⟨by rfl, ?ehy21⟩) hSS ?_
  case ehy21 => (intro wz hSw; (try dsimp only at hSw); go_simp; try (with_reducible rfl))
  refine wpAnyE_one (i := 22) (by kernel_rfl) rfl (fun K hK => ?_)
  go_simp
  refine (sstill_any _ _ _ _ R ax _ (hR.below B2) (h.below B2).a).mono ?_
  rintro ee wq ⟨rfl, rfl⟩
  rw [h4]
  (try dsimp only)
  refine hK.out _ _ ⟨hSS.1, fun _ => trivial⟩ ?_
  clear hK K
  refine wpAnyE_take0 (i := 23) (v := ?ev23) rfl (by kernel_rfl) (by kernel_rfl) (by kernel_rfl) (by decide) (fun _ _ _ h => h) (Or.inl ⟨by rfl, ?ehy23⟩) hSS ?_
  case ehy23 => (intro wz hSw; (try dsimp only at hSw); go_simp; try (with_reducible rfl))
  refine wpAnyE_take0 (i := 24) (v := ?ev24) rfl (by kernel_rfl) (by kernel_rfl) (by kernel_rfl) (by decide) (fun _ _ _ h => h) (Or.inl ⟨by rfl, ?ehy24⟩) hSS ?_
  case ehy24 => (intro wz hSw; (try dsimp only at hSw); go_simp; try (with_reducible rfl))
  refine wpAnyE_take0 (i := 25) (v := ?ev25) rfl (by kernel_rfl) (by kernel_rfl) (by kernel_rfl) (by decide) (fun _ _ _ h => h) (Or.inl ⟨by rfl, ?ehy25⟩) hSS ?_
  case ehy25 => (intro wz hSw; (try dsimp only at hSw); go_simp; try (with_reducible rfl))
  refine wpAnyE_take0 (i := 26) (v := ?ev26) rfl (by kernel_rfl) (by kernel_rfl) (by kernel_rfl) (by decide) (fun _ _ _ h => h) (Or.inl ⟨by rfl, ?ehy26⟩) hSS ?_
  case ehy26 => (intro wz hSw; (try dsimp only at hSw); go_simp; try (with_reducible rfl))
  simp only [Act.put, List.setIfInBounds_toArray, List.set_cons_succ, List.set_cons_zero, List.getElem_toArray, List.getElem_cons_succ, List.getElem_cons_zero]
  refine wpAnyE_take0 (i := 27) (v := ?ev27) rfl (by kernel_rfl) (by kernel_rfl) (by kernel_rfl) (by decide) (fun _ _ _ h => h) (Or.inl ⟨by rfl, ?ehy27⟩) hSS ?_
  case ehy27 => (intro wz hSw; (try dsimp only at hSw); go_simp; try (with_reducible rfl))
  refine wpAnyE_one (i := 28) (by kernel_rfl) rfl (fun K hK => ?_)
  go_simp
  refine (sdones_any _ _ _ _ _ _ _ _ _ _ _ _ _ dx _ h.ld (h.below B2).d h.zd).mono ?_
  rintro ee w3 ⟨rfl, b3⟩
  have b123 := b12.trans (b3.mono b12.size)
  have B3 := B2.trans (b3.mono B2.size)
  (try dsimp only)
  replace hSS := And.intro (KP.out w3 b123) True.intro
  refine hK.out _ _ ⟨hSS.1, fun _ => trivial⟩ ?_
  clear hK K
  refine wpAnyE_take0 (i := 29) (v := ?ev29) rfl (by kernel_rfl) (by kernel_rfl) (by kernel_rfl) (by decide) (fun _ _ _ h => h) (Or.inl ⟨by rfl, ?ehy29⟩) hSS ?_
  case ehy29 => (intro wz hSw; (try dsimp only at hSw); go_simp; try (with_reducible rfl))
  refine wpAnyE_one (i := 30) (by kernel_rfl) rfl (fun K hK => ?_)
  go_simp
  refine hK.out _ _ ⟨hSS.1, fun _ => trivial⟩ ?_
  clear hK K
  refine wpAnyE_done (by kernel_rfl) ?_ _
  clear hSS
  go_wp2
  go_ret
  exact ⟨ret_bool HV.out, B3⟩


end Go.Proofs.YtdigmokjedckeaaGreatDoor
namespace Go.Proofs.YtdigmokjedckeaaGreatDoor
open Go.RowKit Go.Deep
set_option linter.unusedVariables false
set_option maxRecDepth 100000

theorem pins_ba {W : World} {a : Option Addr} {lo : Nat} {R : Nat → Bool} (h : true = false ∨ (true = true ∧ ∃ G, a = some ⟨G, 0, none⟩ ∧ lo ≤ G ∧ OwnBB W G R)) : BA W a 3 R := by
  rcases h with h | ⟨-, G, rfl, -, o⟩
  · cases h
  · exact o.ba

set_option maxHeartbeats 6400000 in
theorem ikeeps_any (cl : Int) (ad : Option Addr) (N cap : Nat) (ga : Option Addr) (gn gc : Nat) (sa : Option Addr) (sn sc : Nat) (ss : List L2V) (G S : List Int) (ba : Option Addr) (bn bc : Nat) (bx : List Int) (s : Int) (aa : Option Addr) (an ac : Nat) (ax : List Int) (w : World) (hp : PlAt w ad N ss ga gn G sa sn S) (hc : catB N ss = true) (hb : Ints w ba bn bx) (zb : bn ≤ 1048576) (ha : Ints w aa an ax) (za : an ≤ 1048576) :
    Calls Tryz.prog 33 #[plV cl ad N cap ga gn gc sa sn sc, .slice ba bn bc, .int .i64 s, .slice aa an ac] w fun e w' => e = .returned (.bool (keepT bn gn bx G (catP ss) s an ax && stillB (pinsA ss) ax)) ∧ Below w.heap.size w w' := by
  have q0 := Cel.new w [.int .i64 cl, .slice ad N cap, .slice ga gn gc, .slice sa sn sc] 34
  have B0 := (Below.refl w.heap.size w).alloc (Nat.le_refl _) (.cells #[.int .i64 cl, .slice ad N cap, .slice ga gn gc, .slice sa sn sc] 34)
  obtain ⟨W0, hW0⟩ : ∃ W, W = w.alloc (.cells #[.int .i64 cl, .slice ad N cap, .slice ga gn gc, .slice sa sn sc] 34) := ⟨_, rfl⟩
  rw [← hW0] at q0 B0
  have HC : Hid (catB N ss = true) := hc
  have HCT : Hid (catT (catB N ss) (catP ss) = catP ss) := by show _ = _; rw [hc]; rfl
  have HLN : Hid ((catP ss).length ≤ 600000) := catP_len (by have := (catB_parts hc).1; rw [hp.ha]; exact this)
  clear hc
  obtain ⟨V, hV⟩ : ∃ V, V = (keepT bn gn bx G (catP ss) s an ax && stillB (pinsA ss) ax) := ⟨_, rfl⟩
  rw [← hV]
  have HW : Hid (V = (keepT bn gn bx G (catP ss) s an ax && stillB (pinsA ss) ax)) := hV
  clear hV
  cases h3 : keepT bn gn bx G (catP ss) s an ax
  · have HV : Hid (false = V) := by show _ = _; rw [HW.out, h3]; rfl
    have KP : Hid (∀ W, Below W0.heap.size W0 W → W.cell? ⟨w.heap.size, 0, none⟩ = some (.int .i64 cl) ∧ W.cell? ⟨w.heap.size, 1, none⟩ = some (.slice ad N cap) ∧ W.cell? ⟨w.heap.size, 2, none⟩ = some (.slice ga gn gc) ∧ W.cell? ⟨w.heap.size, 3, none⟩ = some (.slice sa sn sc)) := fun W hW => (q0.below hW).quadP
    have hSS := And.intro (KP.out _ (Below.refl _ _).drew) True.intro
    go_enter Tryz.func33, Tryz.ntmps33
    go_upto_region 1 with fail
    rw [← hW0]
    clear hW0 q0
    refine wp_region_ends (fun w' => w'.cell? ⟨w.heap.size, 0, none⟩ = some (.int .i64 cl) ∧ w'.cell? ⟨w.heap.size, 1, none⟩ = some (.slice ad N cap) ∧ w'.cell? ⟨w.heap.size, 2, none⟩ = some (.slice ga gn gc) ∧ w'.cell? ⟨w.heap.size, 3, none⟩ = some (.slice sa sn sc)) (fun _ => True) 18 (by kernel_rfl) ?_
    refine wpAnyE_take0 (i := 0) (v := ?kv0) rfl (by kernel_rfl) (by kernel_rfl) (by kernel_rfl) (by decide) (fun _ _ _ h => h) (Or.inl ⟨by rfl, ?khy0⟩) hSS ?_
    case khy0 => (intro wz hSw; (try dsimp only at hSw); go_simp; try (with_reducible rfl))
    refine wpAnyE_take0 (i := 1) (v := ?kv1) rfl (by kernel_rfl) (by kernel_rfl) (by kernel_rfl) (by decide) (fun _ _ _ h => h) (Or.inl ⟨by rfl, ?khy1⟩) hSS ?_
    case khy1 => (intro wz hSw; (try dsimp only at hSw); go_simp; try (with_reducible rfl))
    refine wpAnyE_take0 (i := 2) (v := ?kv2) rfl (by kernel_rfl) (by kernel_rfl) (by kernel_rfl) (by decide) (fun _ _ _ h => h) (Or.inl ⟨by rfl, ?khy2⟩) hSS ?_
    case khy2 => (intro wz hSw; (try dsimp only at hSw); go_simp; try (with_reducible rfl))
    refine wpAnyE_take0 (i := 3) (v := ?kv3) rfl (by kernel_rfl) (by kernel_rfl) (by kernel_rfl) (by decide) (fun _ _ _ h => h) (Or.inl ⟨by rfl, ?khy3⟩) hSS ?_
    case khy3 => (intro wz hSw; (try dsimp only at hSw); go_simp; try (with_reducible rfl))
    simp only [Act.put, List.setIfInBounds_toArray, List.set_cons_succ, List.set_cons_zero, List.getElem_toArray, List.getElem_cons_succ, List.getElem_cons_zero]
    refine wpAnyE_take0 (i := 4) (v := ?kv4) rfl (by kernel_rfl) (by kernel_rfl) (by kernel_rfl) (by decide) (fun _ _ _ h => h) (Or.inl ⟨by rfl, ?khy4⟩) hSS ?_
    case khy4 => (intro wz hSw; (try dsimp only at hSw); go_simp; try (with_reducible rfl))
    refine wpAnyE_take0 (i := 5) (v := ?kv5) rfl (by kernel_rfl) (by kernel_rfl) (by kernel_rfl) (by decide) (fun _ _ _ h => h) (Or.inl ⟨by rfl, ?khy5⟩) hSS ?_
    case khy5 => (intro wz hSw; (try dsimp only at hSw); go_simp; try (with_reducible rfl))
    refine wpAnyE_take0 (i := 7) (v := ?kv7) rfl (by kernel_rfl) (by kernel_rfl) (by kernel_rfl) (by decide) (fun _ _ _ h => h) (Or.inl ⟨by rfl, ?khy7⟩) hSS ?_
    case khy7 => (intro wz hSw; (try dsimp only at hSw); go_simp; try (with_reducible rfl))
    refine wpAnyE_take0 (i := 8) (v := ?kv8) rfl (by kernel_rfl) (by kernel_rfl) (by kernel_rfl) (by decide) (fun _ _ _ h => h) (Or.inl ⟨by rfl, ?khy8⟩) hSS ?_
    case khy8 => (intro wz hSw; (try dsimp only at hSw); go_simp; try (with_reducible rfl))
    simp only [Act.put, List.setIfInBounds_toArray, List.set_cons_succ, List.set_cons_zero, List.getElem_toArray, List.getElem_cons_succ, List.getElem_cons_zero]
    refine wpAnyE_one (i := 6) (by kernel_rfl) rfl (fun K hK => ?_)
    go_simp
    refine (icatforms_at (catP ss) _ _ _ ss _ hp.ha (hp.below B0.drew).a hp.za HCT.out).mono ?_
    rintro ee w1 ⟨fa, fc, rfl, bd1, uf⟩
    have b1 := below_of_drew bd1
    have B1 := B0.trans (b1.mono B0.size)
    obtain ⟨ts, hts, hx⟩ := uf.isg
    have HX : Hid _ := hx
    clear uf hx bd1
    (try dsimp only)
    replace hSS := And.intro (KP.out w1 b1) True.intro
    refine hK.out _ _ ⟨hSS.1, fun _ => trivial⟩ ?_
    clear hK K
    refine wpAnyE_one (i := 9) (by kernel_rfl) rfl (fun K hK => ?_)
    go_simp
    refine (ikeep_any _ _ _ _ _ _ _ _ _ _ _ _ _ bx G ax ts _ (hb.below B1) (hp.below B1).g (ha.below B1) (map_len HX.out) hts zb hp.zg za (Nat.le_trans HLN.out (by omega))).mono ?_
    rintro ee w2 ⟨rfl, b2⟩
    rw [keep_of hts HX.out, h3]
    have b12 := b1.trans (b2.mono b1.size)
    have B2 := B1.trans (b2.mono B1.size)
    (try dsimp only)
    replace hSS := And.intro (KP.out w2 b12) True.intro
    refine hK.out _ _ ⟨hSS.1, fun _ => trivial⟩ ?_
    clear hK K
    refine wpAnyE_take0 (i := 10) (v := ?kv10) rfl (by kernel_rfl) (by kernel_rfl) (by kernel_rfl) (by decide) (fun _ _ _ h => h) (Or.inl ⟨by rfl, ?khy10⟩) hSS ?_
    case khy10 => (intro wz hSw; (try dsimp only at hSw); go_simp; try (with_reducible rfl))
    refine wpAnyE_take0 (i := 11) (v := undef) rfl (by kernel_rfl) (by kernel_rfl) (by kernel_rfl) (by decide) (fun _ _ _ h => h) (Or.inr ⟨by kernel_rfl, rfl⟩) hSS ?_
    refine wpAnyE_take0 (i := 12) (v := undef) rfl (by kernel_rfl) (by kernel_rfl) (by kernel_rfl) (by decide) (fun _ _ _ h => h) (Or.inr ⟨by kernel_rfl, rfl⟩) hSS ?_
    refine wpAnyE_take0 (i := 14) (v := undef) rfl (by kernel_rfl) (by kernel_rfl) (by kernel_rfl) (by decide) (fun _ _ _ h => h) (Or.inr ⟨by kernel_rfl, rfl⟩) hSS ?_
    simp only [Act.put, List.setIfInBounds_toArray, List.set_cons_succ, List.set_cons_zero, List.getElem_toArray, List.getElem_cons_succ, List.getElem_cons_zero]
    refine wpAnyE_take0 (i := 13) (v := undef) rfl (by kernel_rfl) (by kernel_rfl) (by kernel_rfl) (by decide) (fun _ _ _ h => h) (Or.inr ⟨by kernel_rfl, rfl⟩) hSS ?_
    refine wpAnyE_take0 (i := 15) (v := undef) rfl (by kernel_rfl) (by kernel_rfl) (by kernel_rfl) (by decide) (fun _ _ _ h => h) (Or.inr ⟨by kernel_rfl, rfl⟩) hSS ?_
    refine wpAnyE_take0 (i := 16) (v := undef) rfl (by kernel_rfl) (by kernel_rfl) (by kernel_rfl) (by decide) (fun _ _ _ h => h) (Or.inr ⟨by kernel_rfl, rfl⟩) hSS ?_
    refine wpAnyE_take0 (i := 17) (v := ?kv17) rfl (by kernel_rfl) (by kernel_rfl) (by kernel_rfl) (by decide) (fun _ _ _ h => h) (Or.inl ⟨by rfl, ?khy17⟩) hSS ?_
    case khy17 => (intro wz hSw; (try dsimp only at hSw); go_simp; try (with_reducible rfl))
    simp only [Act.put, List.setIfInBounds_toArray, List.set_cons_succ, List.set_cons_zero, List.getElem_toArray, List.getElem_cons_succ, List.getElem_cons_zero]
    refine wpAnyE_one (i := 18) (by kernel_rfl) rfl (fun K hK => ?_)
    go_simp
    refine hK.out _ _ ⟨hSS.1, fun _ => trivial⟩ ?_
    clear hK K
    refine wpAnyE_done (by kernel_rfl) ?_ _
    clear hSS
    go_wp2
    go_ret
    exact ⟨ret_bool HV.out, B2⟩
  obtain rfl : an = 3 := (keepT_elim h3).2.2
  obtain ⟨x4, h4⟩ : ∃ x, x = !stillB (pinsA ss) ax := ⟨_, rfl⟩
  have HST : Hid (x4 = !stillB (pinsA ss) ax) := h4
  clear h4
  have KP : Hid (∀ W, Below W0.heap.size W0 W → W.cell? ⟨w.heap.size, 0, none⟩ = some (.int .i64 cl) ∧ W.cell? ⟨w.heap.size, 1, none⟩ = some (.slice ad N cap) ∧ W.cell? ⟨w.heap.size, 2, none⟩ = some (.slice ga gn gc) ∧ W.cell? ⟨w.heap.size, 3, none⟩ = some (.slice sa sn sc)) := fun W hW => (q0.below hW).quadP
  have hSS := And.intro (KP.out _ (Below.refl _ _).drew) True.intro
  go_enter Tryz.func33, Tryz.ntmps33
  go_upto_region 1 with fail
  rw [← hW0]
  clear hW0 q0
  refine wp_region_ends (fun w' => w'.cell? ⟨w.heap.size, 0, none⟩ = some (.int .i64 cl) ∧ w'.cell? ⟨w.heap.size, 1, none⟩ = some (.slice ad N cap) ∧ w'.cell? ⟨w.heap.size, 2, none⟩ = some (.slice ga gn gc) ∧ w'.cell? ⟨w.heap.size, 3, none⟩ = some (.slice sa sn sc)) (fun _ => True) 18 (by kernel_rfl) ?_
  refine wpAnyE_take0 (i := 0) (v := ?lv0) rfl (by kernel_rfl) (by kernel_rfl) (by kernel_rfl) (by decide) (fun _ _ _ h => h) (Or.inl ⟨by rfl, ?lhy0⟩) hSS ?_
  case lhy0 => (intro wz hSw; (try dsimp only at hSw); go_simp; try (with_reducible rfl))
  refine wpAnyE_take0 (i := 1) (v := ?lv1) rfl (by kernel_rfl) (by kernel_rfl) (by kernel_rfl) (by decide) (fun _ _ _ h => h) (Or.inl ⟨by rfl, ?lhy1⟩) hSS ?_
  case lhy1 => (intro wz hSw; (try dsimp only at hSw); go_simp; try (with_reducible rfl))
  refine wpAnyE_take0 (i := 2) (v := ?lv2) rfl (by kernel_rfl) (by kernel_rfl) (by kernel_rfl) (by decide) (fun _ _ _ h => h) (Or.inl ⟨by rfl, ?lhy2⟩) hSS ?_
  case lhy2 => (intro wz hSw; (try dsimp only at hSw); go_simp; try (with_reducible rfl))
  refine wpAnyE_take0 (i := 3) (v := ?lv3) rfl (by kernel_rfl) (by kernel_rfl) (by kernel_rfl) (by decide) (fun _ _ _ h => h) (Or.inl ⟨by rfl, ?lhy3⟩) hSS ?_
  case lhy3 => (intro wz hSw; (try dsimp only at hSw); go_simp; try (with_reducible rfl))
  simp only [Act.put, List.setIfInBounds_toArray, List.set_cons_succ, List.set_cons_zero, List.getElem_toArray, List.getElem_cons_succ, List.getElem_cons_zero]
  refine wpAnyE_take0 (i := 4) (v := ?lv4) rfl (by kernel_rfl) (by kernel_rfl) (by kernel_rfl) (by decide) (fun _ _ _ h => h) (Or.inl ⟨by rfl, ?lhy4⟩) hSS ?_
  case lhy4 => (intro wz hSw; (try dsimp only at hSw); go_simp; try (with_reducible rfl))
  refine wpAnyE_take0 (i := 5) (v := ?lv5) rfl (by kernel_rfl) (by kernel_rfl) (by kernel_rfl) (by decide) (fun _ _ _ h => h) (Or.inl ⟨by rfl, ?lhy5⟩) hSS ?_
  case lhy5 => (intro wz hSw; (try dsimp only at hSw); go_simp; try (with_reducible rfl))
  refine wpAnyE_take0 (i := 7) (v := ?lv7) rfl (by kernel_rfl) (by kernel_rfl) (by kernel_rfl) (by decide) (fun _ _ _ h => h) (Or.inl ⟨by rfl, ?lhy7⟩) hSS ?_
  case lhy7 => (intro wz hSw; (try dsimp only at hSw); go_simp; try (with_reducible rfl))
  refine wpAnyE_take0 (i := 8) (v := ?lv8) rfl (by kernel_rfl) (by kernel_rfl) (by kernel_rfl) (by decide) (fun _ _ _ h => h) (Or.inl ⟨by rfl, ?lhy8⟩) hSS ?_
  case lhy8 => (intro wz hSw; (try dsimp only at hSw); go_simp; try (with_reducible rfl))
  simp only [Act.put, List.setIfInBounds_toArray, List.set_cons_succ, List.set_cons_zero, List.getElem_toArray, List.getElem_cons_succ, List.getElem_cons_zero]
  refine wpAnyE_one (i := 6) (by kernel_rfl) rfl (fun K hK => ?_)
  go_simp
  refine (icatforms_at (catP ss) _ _ _ ss _ hp.ha (hp.below B0.drew).a hp.za HCT.out).mono ?_
  rintro ee w1 ⟨fa, fc, rfl, bd1, uf⟩
  have b1 := below_of_drew bd1
  have B1 := B0.trans (b1.mono B0.size)
  obtain ⟨ts, hts, hx⟩ := uf.isg
  have HX : Hid _ := hx
  clear uf hx bd1
  (try dsimp only)
  replace hSS := And.intro (KP.out w1 b1) True.intro
  refine hK.out _ _ ⟨hSS.1, fun _ => trivial⟩ ?_
  clear hK K
  refine wpAnyE_one (i := 9) (by kernel_rfl) rfl (fun K hK => ?_)
  go_simp
  refine (ikeep_any _ _ _ _ _ _ _ _ _ _ _ _ _ bx G ax ts _ (hb.below B1) (hp.below B1).g (ha.below B1) (map_len HX.out) hts zb hp.zg za (Nat.le_trans HLN.out (by omega))).mono ?_
  rintro ee w2 ⟨rfl, b2⟩
  rw [keep_of hts HX.out, h3]
  have b12 := b1.trans (b2.mono b1.size)
  have B2 := B1.trans (b2.mono B1.size)
  (try dsimp only)
  replace hSS := And.intro (KP.out w2 b12) True.intro
  refine hK.out _ _ ⟨hSS.1, fun _ => trivial⟩ ?_
  clear hK K
  refine wpAnyE_take0 (i := 10) (v := ?lv10) rfl (by kernel_rfl) (by kernel_rfl) (by kernel_rfl) (by decide) (fun _ _ _ h => h) (Or.inl ⟨by rfl, ?lhy10⟩) hSS ?_
  case lhy10 => (intro wz hSw; (try dsimp only at hSw); go_simp; try (with_reducible rfl))
  refine wpAnyE_take0 (i := 11) (v := ?lv11) rfl (by kernel_rfl) (by kernel_rfl) (by kernel_rfl) (by decide) (fun _ _ _ h => h) (Or.inl ⟨by rfl, ?lhy11⟩) hSS ?_
  case lhy11 => (intro wz hSw; (try dsimp only at hSw); go_simp; try (with_reducible rfl))
  refine wpAnyE_take0 (i := 12) (v := ?lv12) rfl (by kernel_rfl) (by kernel_rfl) (by kernel_rfl) (by decide) (fun _ _ _ h => h) (Or.inl ⟨by rfl, ?lhy12⟩) hSS ?_
  case lhy12 => (intro wz hSw; (try dsimp only at hSw); go_simp; try (with_reducible rfl))
  refine wpAnyE_take0 (i := 14) (v := ?lv14) rfl (by kernel_rfl) (by kernel_rfl) (by kernel_rfl) (by decide) (fun _ _ _ h => h) (Or.inl ⟨by rfl, ?lhy14⟩) hSS ?_
  case lhy14 => (intro wz hSw; (try dsimp only at hSw); go_simp; try (with_reducible rfl))
  simp only [Act.put, List.setIfInBounds_toArray, List.set_cons_succ, List.set_cons_zero, List.getElem_toArray, List.getElem_cons_succ, List.getElem_cons_zero]
  refine wpAnyE_one (i := 13) (by kernel_rfl) rfl (fun K hK => ?_)
  go_simp
  refine (icatpins_at true (pinsA ss) _ _ _ ss _ hp.ha (hp.below B2).a hp.za HC.out rfl).mono ?_
  rintro ee w3 ⟨na, nc, rfl, b3, on⟩
  have b123 := b12.trans (b3.mono b12.size)
  have B3 := B2.trans (b3.mono B2.size)
  have hR := pins_ba on
  rw [show lenB true = 3 from rfl]
  clear on
  (try dsimp only)
  replace hSS := And.intro (KP.out w3 b123) True.intro
  refine hK.out _ _ ⟨hSS.1, fun _ => trivial⟩ ?_
  clear hK K
  refine wpAnyE_one (i := 15) (by kernel_rfl) rfl (fun K hK => ?_)
  go_simp
  refine (ipinned_any _ _ _ _ (pinsA ss) ax _ hR (ha.below B3)).mono ?_
  rintro ee wq ⟨rfl, rfl⟩
  rw [← HST.out]
  (try dsimp only)
  refine hK.out _ _ ⟨hSS.1, fun _ => trivial⟩ ?_
  clear hK K
  refine wpAnyE_take0 (i := 16) (v := ?lv16) rfl (by kernel_rfl) (by kernel_rfl) (by kernel_rfl) (by decide) (fun _ _ _ h => h) (Or.inl ⟨by rfl, ?lhy16⟩) hSS ?_
  case lhy16 => (intro wz hSw; (try dsimp only at hSw); go_simp; try (with_reducible rfl))
  refine wpAnyE_take0 (i := 17) (v := ?lv17) rfl (by kernel_rfl) (by kernel_rfl) (by kernel_rfl) (by decide) (fun _ _ _ h => h) (Or.inl ⟨by rfl, ?lhy17⟩) hSS ?_
  case lhy17 => (intro wz hSw; (try dsimp only at hSw); go_simp; try (with_reducible rfl))
  refine wpAnyE_one (i := 18) (by kernel_rfl) rfl (fun K hK => ?_)
  go_simp
  refine hK.out _ _ ⟨hSS.1, fun _ => trivial⟩ ?_
  clear hK K
  refine wpAnyE_done (by kernel_rfl) ?_ _
  clear hSS
  go_wp2
  go_ret
  exact ⟨ret_bool (by rw [HW.out, h3, HST.out]; simp), B3⟩


end Go.Proofs.YtdigmokjedckeaaGreatDoor
namespace Go.Proofs.YtdigmokjedckeaaGreatDoor
open Go.RowKit Go.Deep
set_option linter.unusedVariables false
set_option maxRecDepth 100000

set_option maxHeartbeats 3200000 in
theorem ssitok_any (cl : Int) (ad : Option Addr) (N cap : Nat) (ga : Option Addr) (gn gc : Nat) (sa : Option Addr) (sn sc : Nat) (ss : List L2V) (G S : List Int) (u f : Bool) (r : Int) (ba : Option Addr) (bn bc : Nat) (bx : List Int) (aa : Option Addr) (an ac : Nat) (ax : List Int) (da : Option Addr) (dn dc : Nat) (dx : List DV) (s : Int) (w : World) (hp : PlAt w ad N ss ga gn G sa sn S) (h : StAt w ba bn bx aa an ax da dn dx) :
    Calls Tryz.prog 8 #[plV cl ad N cap ga gn gc sa sn sc, siV u f r ba bn bc aa an ac da dn dc, .int .i64 s] w fun e w' => e = .returned (.bool (sitB cl N ss gn G sn S r bn bx an ax dn dx s)) ∧ Below w.heap.size w w' := by
  have q0 := (Cel.new w [.int .i64 cl, .slice ad N cap, .slice ga gn gc, .slice sa sn sc] 34).alloc (.cells #[.bool u, .bool f, .int .i64 r, .slice ba bn bc, .slice aa an ac, .slice da dn dc] 38)
  have y0 := Cel.new (w.alloc (.cells #[.int .i64 cl, .slice ad N cap, .slice ga gn gc, .slice sa sn sc] 34)) [.bool u, .bool f, .int .i64 r, .slice ba bn bc, .slice aa an ac, .slice da dn dc] 38
  rw [World.size_alloc] at y0
  have B0 := ((Below.refl w.heap.size w).alloc (Nat.le_refl _) (.cells #[.int .i64 cl, .slice ad N cap, .slice ga gn gc, .slice sa sn sc] 34)).alloc (by simp) (.cells #[.bool u, .bool f, .int .i64 r, .slice ba bn bc, .slice aa an ac, .slice da dn dc] 38)
  cases hpl : plnB cl N ss gn G sn S
  · go_enter Tryz.func8, Tryz.ntmps8
    go_wp2_with fail
    refine (splnok_any _ _ _ _ ss _ _ _ G _ _ _ S _ (hp.below B0)).mono ?_
    rintro e w1 ⟨rfl, b1⟩
    rw [hpl]
    go_wp2
    go_ret
    exact ⟨ret_bool (by rw [sitB, hpl]; rfl), B0.trans (b1.mono B0.size)⟩
  have pp := (pln_parts hpl).2
  have HC : Hid _ := catB_parts (pln_cat hpl)
  have HP : Hid _ := hpl
  clear hpl
  cases h1 : inB s 0 ((gn : Int) - 1)
  · go_enter Tryz.func8, Tryz.ntmps8
    go_wp2_with fail
    refine (splnok_any _ _ _ _ ss _ _ _ G _ _ _ S _ (hp.below B0)).mono ?_
    rintro e w1 ⟨rfl, b1⟩
    rw [HP.out]
    have B1 := B0.trans (b1.mono B0.size)
    have q1 := q0.below b1
    obtain ⟨c0, c1, c2, c3⟩ := q1.quadP
    go_wp2_with fail
    refine (in_any _ _ _ _).mono ?_
    rintro e w2 ⟨rfl, rfl⟩
    rw [h1]
    go_wp2
    go_ret
    refine ⟨ret_bool ?_, B1⟩
    rw [sitB, siteB]
    cases h3 : keepT bn gn bx G (catP ss) s an ax
    · simp
    · have := (keepT_elim h3).2.1; rw [h1] at this; cases this
  go_enter Tryz.func8, Tryz.ntmps8
  go_wp2_with fail
  refine (splnok_any _ _ _ _ ss _ _ _ G _ _ _ S _ (hp.below B0)).mono ?_
  rintro e w1 ⟨rfl, b1⟩
  rw [HP.out]
  have B1 := B0.trans (b1.mono B0.size)
  have q1 := q0.below b1
  have y1 := y0.below b1
  clear q0 y0 B0 b1
  obtain ⟨c0, c1, c2, c3⟩ := q1.quadP
  go_wp2_with fail
  refine (in_any _ _ _ _).mono ?_
  rintro e w2 ⟨rfl, rfl⟩
  rw [h1]
  go_wp2_with fail
  refine (sboth_any _ _ _ ss _ hp.ha (hp.below B1).a HC.out.2 HC.out.1).mono ?_
  rintro e w2 ⟨G', cG, ts, nt, Gp, cp, rfl, hl, jp, hx, hnt, o, lGp⟩
  have B2 := B1.trans (jp.b.mono B1.size)
  have q2 := q1.below jp.b
  have y2 := y1.below jp.b
  have hg := jp.g
  have HX : Hid _ := hx
  have HL : Hid _ := hl
  have hR := o.bools.ba
  clear jp hx hl o q1 y1 B1 c0 c1 c2 c3
  obtain ⟨c0, c1, c2, c3⟩ := q2.quadP
  obtain ⟨d0, d1, d2, d3, d4, d5⟩ := y2.sixP
  go_wp2_with fail
  refine (sl8_any _ _ _ _ _ _ _ _ _ _ G _ _ _ ts (catP ss) _ _ (pinsA ss) _ _ _ _ _ _ bx _ _ _ ax _ _ _ dx _ _ (hp.below B2).g hp.zg hg HL.out (by omega) HX.out hR (h.below B2)).mono ?_
  rintro e w3 ⟨rfl, b3⟩
  go_wp2
  go_ret
  exact ⟨ret_bool (by rw [sitB, HP.out]; rfl), B2.trans (b3.mono B2.size)⟩

theorem iround_any (r : Int) (w : World) : Calls Tryz.prog 32 #[.int .i64 r] w fun e w' => e = .returned (.bool (inB r 0 200)) ∧ Below w.heap.size w w' := by
  go_enter Tryz.func32, Tryz.ntmps32
  go_wp2_with fail
  refine (between_any _ _ _ [r] _ _ _ (one_ints w r 3) (by omega)).mono ?_
  rintro e w1 ⟨rfl, rfl⟩
  go_wp2
  go_ret
  exact ⟨ret_bool (bet_one _ _ _), (Below.refl _ _).alloc (Nat.le_refl _) _⟩

set_option maxHeartbeats 3200000 in
theorem isitok_any (cl : Int) (ad : Option Addr) (N cap : Nat) (ga : Option Addr) (gn gc : Nat) (sa : Option Addr) (sn sc : Nat) (ss : List L2V) (G S : List Int) (u f : Bool) (r : Int) (ba : Option Addr) (bn bc : Nat) (bx : List Int) (aa : Option Addr) (an ac : Nat) (ax : List Int) (da : Option Addr) (dn dc : Nat) (dx : List DV) (s : Int) (w : World) (hp : PlAt w ad N ss ga gn G sa sn S) (h : StAt w ba bn bx aa an ax da dn dx) (hT : Lib.TabBelow Tryz.prog w.heap.size w "internal/strconv.uint64pow10" .u64 Lib.pow10Tab) :
    Calls Tryz.prog 11 #[plV cl ad N cap ga gn gc sa sn sc, siV u f r ba bn bc aa an ac da dn dc, .int .i64 s] w fun e w' => e = .returned (.bool (sitB cl N ss gn G sn S r bn bx an ax dn dx s)) ∧ Below w.heap.size w w' := by
  have HTB : Hid _ := hT
  clear hT
  have q0 := (Cel.new w [.int .i64 cl, .slice ad N cap, .slice ga gn gc, .slice sa sn sc] 34).alloc (.cells #[.bool u, .bool f, .int .i64 r, .slice ba bn bc, .slice aa an ac, .slice da dn dc] 38)
  have y0 := Cel.new (w.alloc (.cells #[.int .i64 cl, .slice ad N cap, .slice ga gn gc, .slice sa sn sc] 34)) [.bool u, .bool f, .int .i64 r, .slice ba bn bc, .slice aa an ac, .slice da dn dc] 38
  rw [World.size_alloc] at y0
  have B0 := ((Below.refl w.heap.size w).alloc (Nat.le_refl _) (.cells #[.int .i64 cl, .slice ad N cap, .slice ga gn gc, .slice sa sn sc] 34)).alloc (by simp) (.cells #[.bool u, .bool f, .int .i64 r, .slice ba bn bc, .slice aa an ac, .slice da dn dc] 38)
  cases hpl : plnB cl N ss gn G sn S
  · go_enter Tryz.func11, Tryz.ntmps11
    go_wp2_with fail
    refine (iplnok_any _ _ _ _ ss _ _ _ G _ _ _ S _ (hp.below B0)).mono ?_
    rintro e w1 ⟨rfl, b1⟩
    rw [hpl]
    go_wp2
    go_ret
    exact ⟨ret_bool (by rw [sitB, hpl]; rfl), B0.trans (b1.mono B0.size)⟩
  have HC : Hid _ := pln_cat hpl
  have HP : Hid _ := hpl
  clear hpl
  obtain ⟨x1, hx1⟩ : ∃ y, y = inB r 0 200 := ⟨_, rfl⟩
  obtain ⟨x2, hx2⟩ : ∃ y, y = (keepT bn gn bx G (catP ss) s an ax && stillB (pinsA ss) ax) := ⟨_, rfl⟩
  obtain ⟨x3, hx3⟩ : ∃ y, y = donesB cl dn dx := ⟨_, rfl⟩
  have HB : Hid (sitB cl N ss gn G sn S r bn bx an ax dn dx s = (x1 && (x2 && x3))) := by show _ = _; rw [sitB, siteB, HP.out, hx1, hx2, hx3]; cases keepT bn gn bx G (catP ss) s an ax <;> simp
  have H1 : Hid _ := hx1
  have H2 : Hid _ := hx2
  have H3 : Hid _ := hx3
  clear hx1 hx2 hx3
  go_enter Tryz.func11, Tryz.ntmps11
  go_wp2_with fail
  refine (iplnok_any _ _ _ _ ss _ _ _ G _ _ _ S _ (hp.below B0)).mono ?_
  rintro e w1 ⟨rfl, b1⟩
  rw [HP.out]
  have B1 := B0.trans (b1.mono B0.size)
  have q1 := q0.below b1
  have y1 := y0.below b1
  clear q0 y0 B0 b1
  obtain ⟨d0, d1, d2, d3, d4, d5⟩ := y1.sixP
  go_wp2_with fail
  refine (iround_any _ _).mono ?_
  rintro e w2 ⟨rfl, b2⟩
  rw [← H1.out]
  have B2 := B1.trans (b2.mono B1.size)
  have q2 := q1.below b2
  have y2 := y1.below b2
  clear q1 y1 B1 b2 d0 d1 d2 d3 d4 d5
  cases x1
  · go_wp2
    go_ret
    exact ⟨ret_bool (by rw [HB.out]; rfl), B2⟩
  obtain ⟨c0, c1, c2, c3⟩ := q2.quadP
  obtain ⟨d0, d1, d2, d3, d4, d5⟩ := y2.sixP
  go_wp2_with fail
  refine (ikeeps_any _ _ _ _ _ _ _ _ _ _ ss G S _ _ _ bx _ _ _ _ ax _ (hp.below B2) HC.out (h.below B2).b h.zb (h.below B2).a h.za).mono ?_
  rintro e w3 ⟨rfl, b3⟩
  rw [← H2.out]
  have B3 := B2.trans (b3.mono B2.size)
  have q3 := q2.below b3
  have y3 := y2.below b3
  clear q2 y2 B2 b3 c0 c1 c2 c3 d0 d1 d2 d3 d4 d5
  cases x2
  · go_wp2
    go_ret
    exact ⟨ret_bool (by rw [HB.out]; rfl), B3⟩
  obtain ⟨c0, c1, c2, c3⟩ := q3.quadP
  obtain ⟨d0, d1, d2, d3, d4, d5⟩ := y3.sixP
  go_wp2_with fail
  refine (idones_any _ _ _ _ _ _ _ _ _ _ _ _ _ dx _ h.ld (h.below B3).d h.zd (fun w' h' => HTB.out w' (B3.trans (h'.mono B3.size)))).mono ?_
  rintro e w4 ⟨rfl, b4⟩
  rw [← H3.out]
  go_wp2
  go_ret
  exact ⟨ret_bool (by rw [HB.out]; rfl), B3.trans (b4.mono B3.size)⟩

end Go.Proofs.YtdigmokjedckeaaGreatDoor
