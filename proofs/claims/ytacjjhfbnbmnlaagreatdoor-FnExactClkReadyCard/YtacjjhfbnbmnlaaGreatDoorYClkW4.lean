/-
  Whether a clerk is ok, of a plan that is, with its parts and pins (spec.l9Ok). Lengths at most 1048576.
-/
import Derived.Test.YtacjjhfbnbmnlaaGreatDoorYClkW1
import Derived.Test.YtacjjhfbnbmnlaaGreatDoorPackD
namespace Go.Proofs.YtacjjhfbnbmnlaaGreatDoor
open Go.RowKit Go.Deep
set_option linter.unusedVariables false
set_option maxRecDepth 100000
set_option maxHeartbeats 12800000 in
theorem sl9_any (cl : Int) (ad : Option Addr) (N cap : Nat) (ga : Option Addr) (gn gc : Nat) (sa : Option Addr) (sn sc : Nat) (G : List Int) (pa : Option Addr) (pn pc : Nat) (ts : List IV) (T : List (List Int)) (na : Option Addr) (nc : Nat) (R : Nat → Bool) (u : Bool) (r : Int) (ba : Option Addr) (bn bc : Nat) (bx : List Int) (da : Option Addr) (dn dc : Nat) (dx : List DV) (ka : Option Addr) (kn kc : Nat) (kx : List QV) (ea : Option Addr) (en ec : Nat) (ex : List GV) (w : World) (hG : Ints w ga gn G) (zg : gn ≤ 1048576) (hcl : 1 ≤ cl ∧ cl ≤ 4) (hN4 : 1 ≤ N ∧ N ≤ 4) (hP : ISG w pa ts) (lP : ts.length = pn) (zP : pn ≤ 1048576) (hT : ts.map IV.x = T) (hR : BA w na 3 R) (h : CkAt w ba bn bx da dn dx ka kn kx ea en ex) :
    Calls Tryz.prog 57 #[plV cl ad N cap ga gn gc sa sn sc, .slice pa pn pc, .slice na 3 nc, ckV u r ba bn bc da dn dc ka kn kc ea en ec] w fun e w' => e = .returned (.bool (clerkB cl N gn G T R u r bn bx dn dx kn kx en ex)) ∧ Below w.heap.size w w' := by
  have q0 := (Cel.new w [.int .i64 cl, .slice ad N cap, .slice ga gn gc, .slice sa sn sc] 34).alloc (.cells #[.bool u, .int .i64 r, .slice ba bn bc, .slice da dn dc, .slice ka kn kc, .slice ea en ec] 52)
  have y0 := Cel.new (w.alloc (.cells #[.int .i64 cl, .slice ad N cap, .slice ga gn gc, .slice sa sn sc] 34)) [.bool u, .int .i64 r, .slice ba bn bc, .slice da dn dc, .slice ka kn kc, .slice ea en ec] 52
  rw [World.size_alloc] at y0
  have B0 := ((Below.refl w.heap.size w).alloc (Nat.le_refl _) (.cells #[.int .i64 cl, .slice ad N cap, .slice ga gn gc, .slice sa sn sc] 34)).alloc (by simp) (.cells #[.bool u, .int .i64 r, .slice ba bn bc, .slice da dn dc, .slice ka kn kc, .slice ea en ec] 52)
  obtain ⟨x1, hx1⟩ : ∃ y, y = inB r 0 200 := ⟨_, rfl⟩
  obtain ⟨x2, hx2⟩ : ∃ y, y = okN 3 10000 bn bx := ⟨_, rfl⟩
  obtain ⟨x3, hx3⟩ : ∃ y, y = donesB cl dn dx := ⟨_, rfl⟩
  obtain ⟨x4, hx4⟩ : ∃ y, y = gotsB cl gn bn bx G T R en ex := ⟨_, rfl⟩
  have HV : Hid (clerkB cl N gn G T R u r bn bx dn dx kn kx en ex = (x1 && (x2 && (x3 && (wantsB cl N kn kx && (x4 && (u || (decide (kn = 0) && decide (hasN ex = 0))))))))) := by show _ = _; rw [clerkB, hx1, hx2, hx3, hx4]
  have H1 : Hid _ := hx1
  have H2 : Hid _ := hx2
  have H3 : Hid _ := hx3
  have H4 : Hid _ := hx4
  clear hx1 hx2 hx3 hx4
  have zk := h.zk
  obtain ⟨d0, d1, d2, d3, d4, d5⟩ := y0.sixP
  go_enter Tryz.func57, Tryz.ntmps57
  go_wp2_with fail
  refine (in_any _ _ _ _).mono ?_
  rintro e wq ⟨rfl, rfl⟩
  rw [← H1.out]
  cases x1
  · go_wp2
    go_ret
    exact ⟨ret_bool (by rw [HV.out]; rfl), B0⟩
  go_wp2_with fail
  refine (sval_any _ _ _ bx _ (h.below B0).b h.zb).mono ?_
  rintro e wq ⟨rfl, rfl⟩
  rw [← H2.out]
  cases x2
  · go_wp2
    go_ret
    exact ⟨ret_bool (by rw [HV.out]; rfl), B0⟩
  clear d0 d1 d2 d3 d4 d5
  go_wp2_with fail
  refine (sdones_any _ _ _ _ _ _ _ _ _ _ _ _ _ dx _ h.ld (h.below B0).d h.zd).mono ?_
  rintro e w1 ⟨rfl, b1⟩
  rw [← H3.out]
  have B1 := B0.trans (b1.mono B0.size)
  have q1 := q0.below b1
  have y1 := y0.below b1
  clear q0 y0 B0 b1
  cases x3
  · go_wp2
    go_ret
    exact ⟨ret_bool (by rw [HV.out]; rfl), B1⟩
  obtain ⟨c0, c1, c2, c3⟩ := q1.quadP
  obtain ⟨d0, d1, d2, d3, d4, d5⟩ := y1.sixP
  go_wp2_with fail
  refine (sgots_any _ _ _ _ _ _ _ _ _ _ G _ _ _ ts T _ _ R _ _ _ _ _ _ _ _ _ _ _ _ _ _ bx ex _ (hG.below B1) zg (hP.below B1) lP zP hT (hR.below B1) (h.below B1).b h.zb (h.below B1).g h.lg h.zg).mono ?_
  rintro e w2 ⟨rfl, b2⟩
  rw [← H4.out]
  have B2 := B1.trans (b2.mono B1.size)
  have q2 := q1.below b2
  have y2 := y1.below b2
  clear q1 y1 B1 b2 c0 c1 c2 c3 d0 d1 d2 d3 d4 d5
  cases x4
  · go_wp2
    go_ret
    exact ⟨ret_bool (by rw [HV.out]; simp), B2⟩
  go_wp2_with fail
  go_loopw [9] (fun i wr => ∃ k : Nat, k ≤ kn ∧ i = .int .i64 k ∧ Below w2.heap.size w2 wr ∧ (List.range k).all (wantP cl N kx) = true) (fun i _ => kn - (intOf i).toNat)
  case atStart => exact ⟨0, Nat.zero_le _, rfl, Below.refl _ _, rfl⟩
  case round =>
    obtain ⟨k, hk, rfl, hb0, hall⟩ := hrel
    have HA : Hid _ := hall
    clear hall
    have hb := B2.trans (hb0.mono B2.size)
    obtain ⟨d0, d1, d2, d3, d4, d5⟩ := (y2.below hb0).sixP
    by_cases hlt : k < kn
    · obtain ⟨b, off, rfl, hc, hr⟩ := (h.below hb).k k (by rw [h.lk]; exact hlt)
      have PREV : Hid (0 < k → wr.cell? ⟨b, off + (k - 1) * 4, none⟩ = some (.int .i64 (kx[k - 1]?.getD noQ).x)) := fun hk0 => by
        obtain ⟨b', off', e, hc', -⟩ := (h.below hb).k (k - 1) (by rw [h.lk]; omega)
        simp only [Option.some.injEq, Addr.mk.injEq, and_true] at e
        obtain ⟨rfl, rfl⟩ := e
        exact (cellsQ hc').1
      generalize HG : kx[k]?.getD noQ = g at *
      have HG' : Hid (kx[k]?.getD noQ = g) := HG
      clear HG
      obtain ⟨e0, e1, e2, e3⟩ := cellsQ hc
      obtain ⟨gx, gq, gz, ⟨gta, gtn, gtc, gtx⟩⟩ := g
      have e0' : wr.cell? ⟨b, off + k * 4, none⟩ = some (.int .i64 gx) := e0
      have e1' : wr.cell? ⟨b, off + k * 4 + 1, none⟩ = some (.int .i64 gq) := e1
      have e2' : wr.cell? ⟨b, off + k * 4 + 2, none⟩ = some (.int .i64 gz) := e2
      have e3' : wr.cell? ⟨b, off + k * 4 + 3, none⟩ = some (.slice gta gtn gtc) := e3
      have hI : Ints wr gta gtn gtx := hr.1.1
      have zI : gtn ≤ 1048576 := hr.1.2
      clear e0 e1 e2 e3 hc hr
      have hlt' : (k : Int) < (kn : Int) := by omega
      have NO : Hid (wantP cl N kx k = false → clerkB cl N gn G T R u r bn bx dn dx kn kx en ex = false) := fun h => by rw [HV.out, wantsB, range_no hlt h]; rfl
      have YES : Hid (wantP cl N kx k = true → (List.range (k + 1)).all (wantP cl N kx) = true) := fun h => range_go HA.out h
      have HE : Hid (wantP cl N kx k = (inCallB cl N gx gq gz gtn gtx && decide (k = 0 ∨ (kx[k - 1]?.getD noQ).x < gx))) := by show _ = _; rw [wantP, HG'.out]
      obtain ⟨x, hx⟩ : ∃ x, x = inCallB cl N gx gq gz gtn gtx := ⟨_, rfl⟩
      have HX : Hid (x = inCallB cl N gx gq gz gtn gtx) := hx
      clear hx
      have q3 := q2.below hb0
      have y3 := y2.below hb0
      by_cases hk0 : k = 0
      · subst hk0
        cases x
        · have FX : Hid _ := HX.out
          have KP : Hid (∀ W, Below wr.heap.size wr W → W.cell? ⟨w.heap.size, 0, none⟩ = some (.int .i64 cl) ∧ W.cell? ⟨w.heap.size, 1, none⟩ = some (.slice ad N cap) ∧ W.cell? ⟨w.heap.size, 2, none⟩ = some (.slice ga gn gc) ∧ W.cell? ⟨w.heap.size, 3, none⟩ = some (.slice sa sn sc) ∧ W.cell? ⟨w.heap.size + 1, 4, none⟩ = some (.slice (some ⟨b, off, none⟩) kn kc) ∧ W.cell? ⟨b, off, none⟩ = some (.int .i64 gx) ∧ W.cell? ⟨b, off + 1, none⟩ = some (.int .i64 gq) ∧ W.cell? ⟨b, off + 2, none⟩ = some (.int .i64 gz) ∧ W.cell? ⟨b, off + 3, none⟩ = some (.slice gta gtn gtc)) := fun W hW => ⟨(q3.below hW).cell 0, (q3.below hW).cell 1, (q3.below hW).cell 2, (q3.below hW).cell 3, (y3.below hW).cell 4, (hW.cell (p := ⟨b, off + 0 * 4, none⟩) (block_lt e0')).trans e0', (hW.cell (p := ⟨b, off + 0 * 4 + 1, none⟩) (block_lt e1')).trans e1', (hW.cell (p := ⟨b, off + 0 * 4 + 2, none⟩) (block_lt e2')).trans e2', (hW.cell (p := ⟨b, off + 0 * 4 + 3, none⟩) (block_lt e3')).trans e3'⟩
          have hSS := And.intro (KP.out _ (Below.refl _ _).drew) True.intro
          clear e0' e1' e2' e3'
          go_upto_region 6 with fail
          refine wp_region_ends (fun w' => w'.cell? ⟨w.heap.size, 0, none⟩ = some (.int .i64 cl) ∧ w'.cell? ⟨w.heap.size, 1, none⟩ = some (.slice ad N cap) ∧ w'.cell? ⟨w.heap.size, 2, none⟩ = some (.slice ga gn gc) ∧ w'.cell? ⟨w.heap.size, 3, none⟩ = some (.slice sa sn sc) ∧ w'.cell? ⟨w.heap.size + 1, 4, none⟩ = some (.slice (some ⟨b, off, none⟩) kn kc) ∧ w'.cell? ⟨b, off, none⟩ = some (.int .i64 gx) ∧ w'.cell? ⟨b, off + 1, none⟩ = some (.int .i64 gq) ∧ w'.cell? ⟨b, off + 2, none⟩ = some (.int .i64 gz) ∧ w'.cell? ⟨b, off + 3, none⟩ = some (.slice gta gtn gtc)) (fun _ => True) 27 (by kernel_rfl) ?_
          refine wpAnyE_take0 (i := 0) (v := ?av0) rfl (by kernel_rfl) (by kernel_rfl) (by kernel_rfl) (by decide) (fun _ _ _ h => h) (Or.inl ⟨by rfl, ?ahy0⟩) hSS ?_
          case ahy0 => (intro wz hSw; (try dsimp only at hSw); go_simp; try (with_reducible rfl))
          refine wpAnyE_take0 (i := 1) (v := ?av1) rfl (by kernel_rfl) (by kernel_rfl) (by kernel_rfl) (by decide) (fun _ _ _ h => h) (Or.inl ⟨by rfl, ?ahy1⟩) hSS ?_
          case ahy1 => (intro wz hSw; (try dsimp only at hSw); go_simp; try (with_reducible rfl))
          refine wpAnyE_take0 (i := 2) (v := ?av2) rfl (by kernel_rfl) (by kernel_rfl) (by kernel_rfl) (by decide) (fun _ _ _ h => h) (Or.inl ⟨by rfl, ?ahy2⟩) hSS ?_
          case ahy2 => (intro wz hSw; (try dsimp only at hSw); go_simp; try (with_reducible rfl))
          refine wpAnyE_take0 (i := 3) (v := ?av3) rfl (by kernel_rfl) (by kernel_rfl) (by kernel_rfl) (by decide) (fun _ _ _ h => h) (Or.inl ⟨by rfl, ?ahy3⟩) hSS ?_
          case ahy3 => (intro wz hSw; (try dsimp only at hSw); go_simp; try (with_reducible rfl))
          simp only [Act.put, List.setIfInBounds_toArray, List.set_cons_succ, List.set_cons_zero, List.getElem_toArray, List.getElem_cons_succ, List.getElem_cons_zero]
          refine wpAnyE_take0 (i := 4) (v := ?av4) rfl (by kernel_rfl) (by kernel_rfl) (by kernel_rfl) (by decide) (fun _ _ _ h => h) (Or.inl ⟨by rfl, ?ahy4⟩) hSS ?_
          case ahy4 => (intro wz hSw; (try dsimp only at hSw); go_simp; try (with_reducible rfl))
          refine wpAnyE_take0 (i := 5) (v := ?av5) rfl (by kernel_rfl) (by kernel_rfl) (by kernel_rfl) (by decide) (fun _ _ _ h => h) (Or.inl ⟨by rfl, ?ahy5⟩) hSS ?_
          case ahy5 => (intro wz hSw; (try dsimp only at hSw); go_simp; try (with_reducible rfl))
          refine wpAnyE_one (i := 6) (by kernel_rfl) rfl (fun K hK => ?_)
          go_simp
          refine (l6call_any _ _ _ _ _ _ _ _ _ _ _ _ _ _ _ _ gtx _ (hI.below (Below.refl _ _).drew) zI hcl hN4).mono ?_
          rintro ee w5 ⟨rfl, bd5⟩
          rw [← HX.out]
          have b5 := below_of_drew bd5
          have b05 := hb0.trans (b5.mono hb0.size)
          have B5 := hb.trans (b5.mono hb.size)
          (try dsimp only)
          replace hSS := And.intro (KP.out w5 b5) True.intro
          refine hK.out _ _ ⟨hSS.1, fun _ => trivial⟩ ?_
          clear hK K
          refine wpAnyE_take0 (i := 7) (v := ?av7) rfl (by kernel_rfl) (by kernel_rfl) (by kernel_rfl) (by decide) (fun _ _ _ h => h) (Or.inl ⟨by rfl, ?ahy7⟩) hSS ?_
          case ahy7 => (intro wz hSw; (try dsimp only at hSw); go_simp; try (with_reducible rfl))
          refine wpAnyE_take0 (i := 8) (v := ?av8) rfl (by kernel_rfl) (by kernel_rfl) (by kernel_rfl) (by decide) (fun _ _ _ h => h) (Or.inl ⟨by rfl, ?ahy8⟩) hSS ?_
          case ahy8 => (intro wz hSw; (try dsimp only at hSw); go_simp; try (with_reducible rfl))
          refine wpAnyE_take0 (i := 9) (v := undef) rfl (by kernel_rfl) (by kernel_rfl) (by kernel_rfl) (by decide) (fun _ _ _ h => h) (Or.inr ⟨by kernel_rfl, rfl⟩) hSS ?_
          refine wpAnyE_take0 (i := 10) (v := undef) rfl (by kernel_rfl) (by kernel_rfl) (by kernel_rfl) (by decide) (fun _ _ _ h => h) (Or.inr ⟨by kernel_rfl, rfl⟩) hSS ?_
          simp only [Act.put, List.setIfInBounds_toArray, List.set_cons_succ, List.set_cons_zero, List.getElem_toArray, List.getElem_cons_succ, List.getElem_cons_zero]
          refine wpAnyE_take0 (i := 11) (v := undef) rfl (by kernel_rfl) (by kernel_rfl) (by kernel_rfl) (by decide) (fun _ _ _ h => h) (Or.inr ⟨by kernel_rfl, rfl⟩) hSS ?_
          refine wpAnyE_take0 (i := 12) (v := undef) rfl (by kernel_rfl) (by kernel_rfl) (by kernel_rfl) (by decide) (fun _ _ _ h => h) (Or.inr ⟨by kernel_rfl, rfl⟩) hSS ?_
          refine wpAnyE_take0 (i := 13) (v := undef) rfl (by kernel_rfl) (by kernel_rfl) (by kernel_rfl) (by decide) (fun _ _ _ h => h) (Or.inr ⟨by kernel_rfl, rfl⟩) hSS ?_
          refine wpAnyE_take0 (i := 14) (v := undef) rfl (by kernel_rfl) (by kernel_rfl) (by kernel_rfl) (by decide) (fun _ _ _ h => h) (Or.inr ⟨by kernel_rfl, rfl⟩) hSS ?_
          simp only [Act.put, List.setIfInBounds_toArray, List.set_cons_succ, List.set_cons_zero, List.getElem_toArray, List.getElem_cons_succ, List.getElem_cons_zero]
          refine wpAnyE_take0 (i := 15) (v := undef) rfl (by kernel_rfl) (by kernel_rfl) (by kernel_rfl) (by decide) (fun _ _ _ h => h) (Or.inr ⟨by kernel_rfl, rfl⟩) hSS ?_
          refine wpAnyE_take0 (i := 16) (v := undef) rfl (by kernel_rfl) (by kernel_rfl) (by kernel_rfl) (by decide) (fun _ _ _ h => h) (Or.inr ⟨by kernel_rfl, rfl⟩) hSS ?_
          refine wpAnyE_take0 (i := 17) (v := undef) rfl (by kernel_rfl) (by kernel_rfl) (by kernel_rfl) (by decide) (fun _ _ _ h => h) (Or.inr ⟨by kernel_rfl, rfl⟩) hSS ?_
          refine wpAnyE_take0 (i := 18) (v := undef) rfl (by kernel_rfl) (by kernel_rfl) (by kernel_rfl) (by decide) (fun _ _ _ h => h) (Or.inr ⟨by kernel_rfl, rfl⟩) hSS ?_
          simp only [Act.put, List.setIfInBounds_toArray, List.set_cons_succ, List.set_cons_zero, List.getElem_toArray, List.getElem_cons_succ, List.getElem_cons_zero]
          refine wpAnyE_take0 (i := 19) (v := undef) rfl (by kernel_rfl) (by kernel_rfl) (by kernel_rfl) (by decide) (fun _ _ _ h => h) (Or.inr ⟨by kernel_rfl, rfl⟩) hSS ?_
          refine wpAnyE_take0 (i := 20) (v := undef) rfl (by kernel_rfl) (by kernel_rfl) (by kernel_rfl) (by decide) (fun _ _ _ h => h) (Or.inr ⟨by kernel_rfl, rfl⟩) hSS ?_
          refine wpAnyE_take0 (i := 21) (v := undef) rfl (by kernel_rfl) (by kernel_rfl) (by kernel_rfl) (by decide) (fun _ _ _ h => h) (Or.inr ⟨by kernel_rfl, rfl⟩) hSS ?_
          refine wpAnyE_take0 (i := 22) (v := undef) rfl (by kernel_rfl) (by kernel_rfl) (by kernel_rfl) (by decide) (fun _ _ _ h => h) (Or.inr ⟨by kernel_rfl, rfl⟩) hSS ?_
          simp only [Act.put, List.setIfInBounds_toArray, List.set_cons_succ, List.set_cons_zero, List.getElem_toArray, List.getElem_cons_succ, List.getElem_cons_zero]
          refine wpAnyE_take0 (i := 23) (v := undef) rfl (by kernel_rfl) (by kernel_rfl) (by kernel_rfl) (by decide) (fun _ _ _ h => h) (Or.inr ⟨by kernel_rfl, rfl⟩) hSS ?_
          refine wpAnyE_take0 (i := 24) (v := undef) rfl (by kernel_rfl) (by kernel_rfl) (by kernel_rfl) (by decide) (fun _ _ _ h => h) (Or.inr ⟨by kernel_rfl, rfl⟩) hSS ?_
          refine wpAnyE_take0 (i := 25) (v := undef) rfl (by kernel_rfl) (by kernel_rfl) (by kernel_rfl) (by decide) (fun _ _ _ h => h) (Or.inr ⟨by kernel_rfl, rfl⟩) hSS ?_
          refine wpAnyE_take0 (i := 26) (v := undef) rfl (by kernel_rfl) (by kernel_rfl) (by kernel_rfl) (by decide) (fun _ _ _ h => h) (Or.inr ⟨by kernel_rfl, rfl⟩) hSS ?_
          simp only [Act.put, List.setIfInBounds_toArray, List.set_cons_succ, List.set_cons_zero, List.getElem_toArray, List.getElem_cons_succ, List.getElem_cons_zero]
          refine wpAnyE_one (i := 27) (by kernel_rfl) rfl (fun K hK => ?_)
          go_simp
          refine hK.out _ _ ⟨hSS.1, fun _ => trivial⟩ ?_
          clear hK K
          refine wpAnyE_done (by kernel_rfl) ?_ _
          clear hSS
          go_wp2
          go_ret
          exact ⟨ret_bool (by rw [NO.out (by rw [HE.out, ← HX.out]; simp)]), B5⟩
        · have FX : Hid _ := HX.out
          have KP : Hid (∀ W, Below wr.heap.size wr W → W.cell? ⟨w.heap.size, 0, none⟩ = some (.int .i64 cl) ∧ W.cell? ⟨w.heap.size, 1, none⟩ = some (.slice ad N cap) ∧ W.cell? ⟨w.heap.size, 2, none⟩ = some (.slice ga gn gc) ∧ W.cell? ⟨w.heap.size, 3, none⟩ = some (.slice sa sn sc) ∧ W.cell? ⟨w.heap.size + 1, 4, none⟩ = some (.slice (some ⟨b, off, none⟩) kn kc) ∧ W.cell? ⟨b, off, none⟩ = some (.int .i64 gx) ∧ W.cell? ⟨b, off + 1, none⟩ = some (.int .i64 gq) ∧ W.cell? ⟨b, off + 2, none⟩ = some (.int .i64 gz) ∧ W.cell? ⟨b, off + 3, none⟩ = some (.slice gta gtn gtc)) := fun W hW => ⟨(q3.below hW).cell 0, (q3.below hW).cell 1, (q3.below hW).cell 2, (q3.below hW).cell 3, (y3.below hW).cell 4, (hW.cell (p := ⟨b, off + 0 * 4, none⟩) (block_lt e0')).trans e0', (hW.cell (p := ⟨b, off + 0 * 4 + 1, none⟩) (block_lt e1')).trans e1', (hW.cell (p := ⟨b, off + 0 * 4 + 2, none⟩) (block_lt e2')).trans e2', (hW.cell (p := ⟨b, off + 0 * 4 + 3, none⟩) (block_lt e3')).trans e3'⟩
          have hSS := And.intro (KP.out _ (Below.refl _ _).drew) True.intro
          clear e0' e1' e2' e3'
          go_upto_region 6 with fail
          refine wp_region_ends (fun w' => w'.cell? ⟨w.heap.size, 0, none⟩ = some (.int .i64 cl) ∧ w'.cell? ⟨w.heap.size, 1, none⟩ = some (.slice ad N cap) ∧ w'.cell? ⟨w.heap.size, 2, none⟩ = some (.slice ga gn gc) ∧ w'.cell? ⟨w.heap.size, 3, none⟩ = some (.slice sa sn sc) ∧ w'.cell? ⟨w.heap.size + 1, 4, none⟩ = some (.slice (some ⟨b, off, none⟩) kn kc) ∧ w'.cell? ⟨b, off, none⟩ = some (.int .i64 gx) ∧ w'.cell? ⟨b, off + 1, none⟩ = some (.int .i64 gq) ∧ w'.cell? ⟨b, off + 2, none⟩ = some (.int .i64 gz) ∧ w'.cell? ⟨b, off + 3, none⟩ = some (.slice gta gtn gtc)) (fun _ => True) 27 (by kernel_rfl) ?_
          refine wpAnyE_take0 (i := 0) (v := ?bv0) rfl (by kernel_rfl) (by kernel_rfl) (by kernel_rfl) (by decide) (fun _ _ _ h => h) (Or.inl ⟨by rfl, ?bhy0⟩) hSS ?_
          case bhy0 => (intro wz hSw; (try dsimp only at hSw); go_simp; try (with_reducible rfl))
          refine wpAnyE_take0 (i := 1) (v := ?bv1) rfl (by kernel_rfl) (by kernel_rfl) (by kernel_rfl) (by decide) (fun _ _ _ h => h) (Or.inl ⟨by rfl, ?bhy1⟩) hSS ?_
          case bhy1 => (intro wz hSw; (try dsimp only at hSw); go_simp; try (with_reducible rfl))
          refine wpAnyE_take0 (i := 2) (v := ?bv2) rfl (by kernel_rfl) (by kernel_rfl) (by kernel_rfl) (by decide) (fun _ _ _ h => h) (Or.inl ⟨by rfl, ?bhy2⟩) hSS ?_
          case bhy2 => (intro wz hSw; (try dsimp only at hSw); go_simp; try (with_reducible rfl))
          refine wpAnyE_take0 (i := 3) (v := ?bv3) rfl (by kernel_rfl) (by kernel_rfl) (by kernel_rfl) (by decide) (fun _ _ _ h => h) (Or.inl ⟨by rfl, ?bhy3⟩) hSS ?_
          case bhy3 => (intro wz hSw; (try dsimp only at hSw); go_simp; try (with_reducible rfl))
          simp only [Act.put, List.setIfInBounds_toArray, List.set_cons_succ, List.set_cons_zero, List.getElem_toArray, List.getElem_cons_succ, List.getElem_cons_zero]
          refine wpAnyE_take0 (i := 4) (v := ?bv4) rfl (by kernel_rfl) (by kernel_rfl) (by kernel_rfl) (by decide) (fun _ _ _ h => h) (Or.inl ⟨by rfl, ?bhy4⟩) hSS ?_
          case bhy4 => (intro wz hSw; (try dsimp only at hSw); go_simp; try (with_reducible rfl))
          refine wpAnyE_take0 (i := 5) (v := ?bv5) rfl (by kernel_rfl) (by kernel_rfl) (by kernel_rfl) (by decide) (fun _ _ _ h => h) (Or.inl ⟨by rfl, ?bhy5⟩) hSS ?_
          case bhy5 => (intro wz hSw; (try dsimp only at hSw); go_simp; try (with_reducible rfl))
          refine wpAnyE_one (i := 6) (by kernel_rfl) rfl (fun K hK => ?_)
          go_simp
          refine (l6call_any _ _ _ _ _ _ _ _ _ _ _ _ _ _ _ _ gtx _ (hI.below (Below.refl _ _).drew) zI hcl hN4).mono ?_
          rintro ee w5 ⟨rfl, bd5⟩
          rw [← HX.out]
          have b5 := below_of_drew bd5
          have b05 := hb0.trans (b5.mono hb0.size)
          have B5 := hb.trans (b5.mono hb.size)
          (try dsimp only)
          replace hSS := And.intro (KP.out w5 b5) True.intro
          refine hK.out _ _ ⟨hSS.1, fun _ => trivial⟩ ?_
          clear hK K
          refine wpAnyE_take0 (i := 7) (v := ?bv7) rfl (by kernel_rfl) (by kernel_rfl) (by kernel_rfl) (by decide) (fun _ _ _ h => h) (Or.inl ⟨by rfl, ?bhy7⟩) hSS ?_
          case bhy7 => (intro wz hSw; (try dsimp only at hSw); go_simp; try (with_reducible rfl))
          refine wpAnyE_take0 (i := 8) (v := ?bv8) rfl (by kernel_rfl) (by kernel_rfl) (by kernel_rfl) (by decide) (fun _ _ _ h => h) (Or.inl ⟨by rfl, ?bhy8⟩) hSS ?_
          case bhy8 => (intro wz hSw; (try dsimp only at hSw); go_simp; try (with_reducible rfl))
          refine wpAnyE_take0 (i := 9) (v := ?bv9) rfl (by kernel_rfl) (by kernel_rfl) (by kernel_rfl) (by decide) (fun _ _ _ h => h) (Or.inl ⟨by rfl, ?bhy9⟩) hSS ?_
          case bhy9 => (intro wz hSw; (try dsimp only at hSw); go_simp; try (with_reducible rfl))
          refine wpAnyE_take0 (i := 10) (v := ?bv10) rfl (by kernel_rfl) (by kernel_rfl) (by kernel_rfl) (by decide) (fun _ _ _ h => h) (Or.inl ⟨by rfl, ?bhy10⟩) hSS ?_
          case bhy10 => (intro wz hSw; (try dsimp only at hSw); go_simp; try (with_reducible rfl))
          simp only [Act.put, List.setIfInBounds_toArray, List.set_cons_succ, List.set_cons_zero, List.getElem_toArray, List.getElem_cons_succ, List.getElem_cons_zero]
          refine wpAnyE_take0 (i := 11) (v := ?bv11) rfl (by kernel_rfl) (by kernel_rfl) (by kernel_rfl) (by decide) (fun _ _ _ h => h) (Or.inl ⟨by rfl, ?bhy11⟩) hSS ?_
          case bhy11 => (intro wz hSw; (try dsimp only at hSw); go_simp; try (with_reducible rfl))
          refine wpAnyE_take0 (i := 12) (v := undef) rfl (by kernel_rfl) (by kernel_rfl) (by kernel_rfl) (by decide) (fun _ _ _ h => h) (Or.inr ⟨by kernel_rfl, rfl⟩) hSS ?_
          refine wpAnyE_take0 (i := 13) (v := undef) rfl (by kernel_rfl) (by kernel_rfl) (by kernel_rfl) (by decide) (fun _ _ _ h => h) (Or.inr ⟨by kernel_rfl, rfl⟩) hSS ?_
          refine wpAnyE_take0 (i := 14) (v := undef) rfl (by kernel_rfl) (by kernel_rfl) (by kernel_rfl) (by decide) (fun _ _ _ h => h) (Or.inr ⟨by kernel_rfl, rfl⟩) hSS ?_
          simp only [Act.put, List.setIfInBounds_toArray, List.set_cons_succ, List.set_cons_zero, List.getElem_toArray, List.getElem_cons_succ, List.getElem_cons_zero]
          refine wpAnyE_take0 (i := 15) (v := undef) rfl (by kernel_rfl) (by kernel_rfl) (by kernel_rfl) (by decide) (fun _ _ _ h => h) (Or.inr ⟨by kernel_rfl, rfl⟩) hSS ?_
          refine wpAnyE_take0 (i := 16) (v := undef) rfl (by kernel_rfl) (by kernel_rfl) (by kernel_rfl) (by decide) (fun _ _ _ h => h) (Or.inr ⟨by kernel_rfl, rfl⟩) hSS ?_
          refine wpAnyE_take0 (i := 17) (v := undef) rfl (by kernel_rfl) (by kernel_rfl) (by kernel_rfl) (by decide) (fun _ _ _ h => h) (Or.inr ⟨by kernel_rfl, rfl⟩) hSS ?_
          refine wpAnyE_take0 (i := 18) (v := undef) rfl (by kernel_rfl) (by kernel_rfl) (by kernel_rfl) (by decide) (fun _ _ _ h => h) (Or.inr ⟨by kernel_rfl, rfl⟩) hSS ?_
          simp only [Act.put, List.setIfInBounds_toArray, List.set_cons_succ, List.set_cons_zero, List.getElem_toArray, List.getElem_cons_succ, List.getElem_cons_zero]
          refine wpAnyE_take0 (i := 19) (v := undef) rfl (by kernel_rfl) (by kernel_rfl) (by kernel_rfl) (by decide) (fun _ _ _ h => h) (Or.inr ⟨by kernel_rfl, rfl⟩) hSS ?_
          refine wpAnyE_take0 (i := 20) (v := undef) rfl (by kernel_rfl) (by kernel_rfl) (by kernel_rfl) (by decide) (fun _ _ _ h => h) (Or.inr ⟨by kernel_rfl, rfl⟩) hSS ?_
          refine wpAnyE_take0 (i := 21) (v := undef) rfl (by kernel_rfl) (by kernel_rfl) (by kernel_rfl) (by decide) (fun _ _ _ h => h) (Or.inr ⟨by kernel_rfl, rfl⟩) hSS ?_
          refine wpAnyE_take0 (i := 22) (v := undef) rfl (by kernel_rfl) (by kernel_rfl) (by kernel_rfl) (by decide) (fun _ _ _ h => h) (Or.inr ⟨by kernel_rfl, rfl⟩) hSS ?_
          simp only [Act.put, List.setIfInBounds_toArray, List.set_cons_succ, List.set_cons_zero, List.getElem_toArray, List.getElem_cons_succ, List.getElem_cons_zero]
          refine wpAnyE_take0 (i := 23) (v := undef) rfl (by kernel_rfl) (by kernel_rfl) (by kernel_rfl) (by decide) (fun _ _ _ h => h) (Or.inr ⟨by kernel_rfl, rfl⟩) hSS ?_
          refine wpAnyE_take0 (i := 24) (v := undef) rfl (by kernel_rfl) (by kernel_rfl) (by kernel_rfl) (by decide) (fun _ _ _ h => h) (Or.inr ⟨by kernel_rfl, rfl⟩) hSS ?_
          refine wpAnyE_take0 (i := 25) (v := undef) rfl (by kernel_rfl) (by kernel_rfl) (by kernel_rfl) (by decide) (fun _ _ _ h => h) (Or.inr ⟨by kernel_rfl, rfl⟩) hSS ?_
          refine wpAnyE_take0 (i := 26) (v := ?bv26) rfl (by kernel_rfl) (by kernel_rfl) (by kernel_rfl) (by decide) (fun _ _ _ h => h) (Or.inl ⟨by rfl, ?bhy26⟩) hSS ?_
          case bhy26 => (intro wz hSw; (try dsimp only at hSw); go_simp; try (with_reducible rfl))
          simp only [Act.put, List.setIfInBounds_toArray, List.set_cons_succ, List.set_cons_zero, List.getElem_toArray, List.getElem_cons_succ, List.getElem_cons_zero]
          refine wpAnyE_one (i := 27) (by kernel_rfl) rfl (fun K hK => ?_)
          go_simp
          refine hK.out _ _ ⟨hSS.1, fun _ => trivial⟩ ?_
          clear hK K
          refine wpAnyE_done (by kernel_rfl) ?_ _
          clear hSS
          go_wp2
          go_roundw
          case rel => exact ⟨0 + 1, by omega, by go_num, b05, YES.out (by rw [HE.out, ← HX.out]; simp)⟩
          case measure => simp [intOf]; omega
      · have hkp : 0 < k := by omega
        have eP := PREV.out hkp
        generalize HPX : (kx[k - 1]?.getD noQ).x = px at *
        have HPX' : Hid ((kx[k - 1]?.getD noQ).x = px) := HPX
        clear HPX
        have hk1 : ((k : Int) - 1) = ((k - 1 : Nat) : Int) := by omega
        have hkd1 : decide ((0 : Int) < (k : Int)) = true := by simp; omega
        have hkd2 : decide (0 < k) = true := by simp; omega
        have hk2 : ((k - 1 : Nat) : Int) < (kn : Int) := by omega
        have hk3 : (0 : Int) ≤ ((k - 1 : Nat) : Int) := by omega
        have hk4 : ((k - 1 : Nat) : Int).toNat = k - 1 := by omega
        have hk5 : IntKind.i64.wrap ((k - 1 : Nat) : Int) = ((k - 1 : Nat) : Int) := wrap_id (by have := h.zk; omega) (by have := h.zk; omega)
        cases x
        · have FX : Hid _ := HX.out
          have KP : Hid (∀ W, Below wr.heap.size wr W → W.cell? ⟨w.heap.size, 0, none⟩ = some (.int .i64 cl) ∧ W.cell? ⟨w.heap.size, 1, none⟩ = some (.slice ad N cap) ∧ W.cell? ⟨w.heap.size, 2, none⟩ = some (.slice ga gn gc) ∧ W.cell? ⟨w.heap.size, 3, none⟩ = some (.slice sa sn sc) ∧ W.cell? ⟨w.heap.size + 1, 4, none⟩ = some (.slice (some ⟨b, off, none⟩) kn kc) ∧ W.cell? ⟨b, off + k * 4, none⟩ = some (.int .i64 gx) ∧ W.cell? ⟨b, off + k * 4 + 1, none⟩ = some (.int .i64 gq) ∧ W.cell? ⟨b, off + k * 4 + 2, none⟩ = some (.int .i64 gz) ∧ W.cell? ⟨b, off + k * 4 + 3, none⟩ = some (.slice gta gtn gtc) ∧ W.cell? ⟨b, off + (k - 1) * 4, none⟩ = some (.int .i64 px)) := fun W hW => ⟨(q3.below hW).cell 0, (q3.below hW).cell 1, (q3.below hW).cell 2, (q3.below hW).cell 3, (y3.below hW).cell 4, (hW.cell (p := ⟨b, off + k * 4, none⟩) (block_lt e0')).trans e0', (hW.cell (p := ⟨b, off + k * 4 + 1, none⟩) (block_lt e1')).trans e1', (hW.cell (p := ⟨b, off + k * 4 + 2, none⟩) (block_lt e2')).trans e2', (hW.cell (p := ⟨b, off + k * 4 + 3, none⟩) (block_lt e3')).trans e3', (hW.cell (p := ⟨b, off + (k - 1) * 4, none⟩) (block_lt eP)).trans eP⟩
          have hSS := And.intro (KP.out _ (Below.refl _ _).drew) True.intro
          clear e0' e1' e2' e3' eP
          go_upto_region 6 with fail
          refine wp_region_ends (fun w' => w'.cell? ⟨w.heap.size, 0, none⟩ = some (.int .i64 cl) ∧ w'.cell? ⟨w.heap.size, 1, none⟩ = some (.slice ad N cap) ∧ w'.cell? ⟨w.heap.size, 2, none⟩ = some (.slice ga gn gc) ∧ w'.cell? ⟨w.heap.size, 3, none⟩ = some (.slice sa sn sc) ∧ w'.cell? ⟨w.heap.size + 1, 4, none⟩ = some (.slice (some ⟨b, off, none⟩) kn kc) ∧ w'.cell? ⟨b, off + k * 4, none⟩ = some (.int .i64 gx) ∧ w'.cell? ⟨b, off + k * 4 + 1, none⟩ = some (.int .i64 gq) ∧ w'.cell? ⟨b, off + k * 4 + 2, none⟩ = some (.int .i64 gz) ∧ w'.cell? ⟨b, off + k * 4 + 3, none⟩ = some (.slice gta gtn gtc) ∧ w'.cell? ⟨b, off + (k - 1) * 4, none⟩ = some (.int .i64 px)) (fun _ => True) 27 (by kernel_rfl) ?_
          refine wpAnyE_take0 (i := 0) (v := ?cv0) rfl (by kernel_rfl) (by kernel_rfl) (by kernel_rfl) (by decide) (fun _ _ _ h => h) (Or.inl ⟨by rfl, ?chy0⟩) hSS ?_
          case chy0 => (intro wz hSw; (try dsimp only at hSw); go_simp; try (with_reducible rfl))
          refine wpAnyE_take0 (i := 1) (v := ?cv1) rfl (by kernel_rfl) (by kernel_rfl) (by kernel_rfl) (by decide) (fun _ _ _ h => h) (Or.inl ⟨by rfl, ?chy1⟩) hSS ?_
          case chy1 => (intro wz hSw; (try dsimp only at hSw); go_simp; try (with_reducible rfl))
          refine wpAnyE_take0 (i := 2) (v := ?cv2) rfl (by kernel_rfl) (by kernel_rfl) (by kernel_rfl) (by decide) (fun _ _ _ h => h) (Or.inl ⟨by rfl, ?chy2⟩) hSS ?_
          case chy2 => (intro wz hSw; (try dsimp only at hSw); go_simp; try (with_reducible rfl))
          refine wpAnyE_take0 (i := 3) (v := ?cv3) rfl (by kernel_rfl) (by kernel_rfl) (by kernel_rfl) (by decide) (fun _ _ _ h => h) (Or.inl ⟨by rfl, ?chy3⟩) hSS ?_
          case chy3 => (intro wz hSw; (try dsimp only at hSw); go_simp; try (with_reducible rfl))
          simp only [Act.put, List.setIfInBounds_toArray, List.set_cons_succ, List.set_cons_zero, List.getElem_toArray, List.getElem_cons_succ, List.getElem_cons_zero]
          refine wpAnyE_take0 (i := 4) (v := ?cv4) rfl (by kernel_rfl) (by kernel_rfl) (by kernel_rfl) (by decide) (fun _ _ _ h => h) (Or.inl ⟨by rfl, ?chy4⟩) hSS ?_
          case chy4 => (intro wz hSw; (try dsimp only at hSw); go_simp; try (with_reducible rfl))
          refine wpAnyE_take0 (i := 5) (v := ?cv5) rfl (by kernel_rfl) (by kernel_rfl) (by kernel_rfl) (by decide) (fun _ _ _ h => h) (Or.inl ⟨by rfl, ?chy5⟩) hSS ?_
          case chy5 => (intro wz hSw; (try dsimp only at hSw); go_simp; try (with_reducible rfl))
          refine wpAnyE_one (i := 6) (by kernel_rfl) rfl (fun K hK => ?_)
          go_simp
          refine (l6call_any _ _ _ _ _ _ _ _ _ _ _ _ _ _ _ _ gtx _ (hI.below (Below.refl _ _).drew) zI hcl hN4).mono ?_
          rintro ee w5 ⟨rfl, bd5⟩
          rw [← HX.out]
          have b5 := below_of_drew bd5
          have b05 := hb0.trans (b5.mono hb0.size)
          have B5 := hb.trans (b5.mono hb.size)
          (try dsimp only)
          replace hSS := And.intro (KP.out w5 b5) True.intro
          refine hK.out _ _ ⟨hSS.1, fun _ => trivial⟩ ?_
          clear hK K
          refine wpAnyE_take0 (i := 7) (v := ?cv7) rfl (by kernel_rfl) (by kernel_rfl) (by kernel_rfl) (by decide) (fun _ _ _ h => h) (Or.inl ⟨by rfl, ?chy7⟩) hSS ?_
          case chy7 => (intro wz hSw; (try dsimp only at hSw); go_simp; try (with_reducible rfl))
          refine wpAnyE_take0 (i := 8) (v := ?cv8) rfl (by kernel_rfl) (by kernel_rfl) (by kernel_rfl) (by decide) (fun _ _ _ h => h) (Or.inl ⟨by rfl, ?chy8⟩) hSS ?_
          case chy8 => (intro wz hSw; (try dsimp only at hSw); go_simp; try (with_reducible rfl))
          refine wpAnyE_take0 (i := 9) (v := undef) rfl (by kernel_rfl) (by kernel_rfl) (by kernel_rfl) (by decide) (fun _ _ _ h => h) (Or.inr ⟨by kernel_rfl, rfl⟩) hSS ?_
          refine wpAnyE_take0 (i := 10) (v := undef) rfl (by kernel_rfl) (by kernel_rfl) (by kernel_rfl) (by decide) (fun _ _ _ h => h) (Or.inr ⟨by kernel_rfl, rfl⟩) hSS ?_
          simp only [Act.put, List.setIfInBounds_toArray, List.set_cons_succ, List.set_cons_zero, List.getElem_toArray, List.getElem_cons_succ, List.getElem_cons_zero]
          refine wpAnyE_take0 (i := 11) (v := undef) rfl (by kernel_rfl) (by kernel_rfl) (by kernel_rfl) (by decide) (fun _ _ _ h => h) (Or.inr ⟨by kernel_rfl, rfl⟩) hSS ?_
          refine wpAnyE_take0 (i := 12) (v := undef) rfl (by kernel_rfl) (by kernel_rfl) (by kernel_rfl) (by decide) (fun _ _ _ h => h) (Or.inr ⟨by kernel_rfl, rfl⟩) hSS ?_
          refine wpAnyE_take0 (i := 13) (v := undef) rfl (by kernel_rfl) (by kernel_rfl) (by kernel_rfl) (by decide) (fun _ _ _ h => h) (Or.inr ⟨by kernel_rfl, rfl⟩) hSS ?_
          refine wpAnyE_take0 (i := 14) (v := undef) rfl (by kernel_rfl) (by kernel_rfl) (by kernel_rfl) (by decide) (fun _ _ _ h => h) (Or.inr ⟨by kernel_rfl, rfl⟩) hSS ?_
          simp only [Act.put, List.setIfInBounds_toArray, List.set_cons_succ, List.set_cons_zero, List.getElem_toArray, List.getElem_cons_succ, List.getElem_cons_zero]
          refine wpAnyE_take0 (i := 15) (v := undef) rfl (by kernel_rfl) (by kernel_rfl) (by kernel_rfl) (by decide) (fun _ _ _ h => h) (Or.inr ⟨by kernel_rfl, rfl⟩) hSS ?_
          refine wpAnyE_take0 (i := 16) (v := undef) rfl (by kernel_rfl) (by kernel_rfl) (by kernel_rfl) (by decide) (fun _ _ _ h => h) (Or.inr ⟨by kernel_rfl, rfl⟩) hSS ?_
          refine wpAnyE_take0 (i := 17) (v := undef) rfl (by kernel_rfl) (by kernel_rfl) (by kernel_rfl) (by decide) (fun _ _ _ h => h) (Or.inr ⟨by kernel_rfl, rfl⟩) hSS ?_
          refine wpAnyE_take0 (i := 18) (v := undef) rfl (by kernel_rfl) (by kernel_rfl) (by kernel_rfl) (by decide) (fun _ _ _ h => h) (Or.inr ⟨by kernel_rfl, rfl⟩) hSS ?_
          simp only [Act.put, List.setIfInBounds_toArray, List.set_cons_succ, List.set_cons_zero, List.getElem_toArray, List.getElem_cons_succ, List.getElem_cons_zero]
          refine wpAnyE_take0 (i := 19) (v := undef) rfl (by kernel_rfl) (by kernel_rfl) (by kernel_rfl) (by decide) (fun _ _ _ h => h) (Or.inr ⟨by kernel_rfl, rfl⟩) hSS ?_
          refine wpAnyE_take0 (i := 20) (v := undef) rfl (by kernel_rfl) (by kernel_rfl) (by kernel_rfl) (by decide) (fun _ _ _ h => h) (Or.inr ⟨by kernel_rfl, rfl⟩) hSS ?_
          refine wpAnyE_take0 (i := 21) (v := undef) rfl (by kernel_rfl) (by kernel_rfl) (by kernel_rfl) (by decide) (fun _ _ _ h => h) (Or.inr ⟨by kernel_rfl, rfl⟩) hSS ?_
          refine wpAnyE_take0 (i := 22) (v := undef) rfl (by kernel_rfl) (by kernel_rfl) (by kernel_rfl) (by decide) (fun _ _ _ h => h) (Or.inr ⟨by kernel_rfl, rfl⟩) hSS ?_
          simp only [Act.put, List.setIfInBounds_toArray, List.set_cons_succ, List.set_cons_zero, List.getElem_toArray, List.getElem_cons_succ, List.getElem_cons_zero]
          refine wpAnyE_take0 (i := 23) (v := undef) rfl (by kernel_rfl) (by kernel_rfl) (by kernel_rfl) (by decide) (fun _ _ _ h => h) (Or.inr ⟨by kernel_rfl, rfl⟩) hSS ?_
          refine wpAnyE_take0 (i := 24) (v := undef) rfl (by kernel_rfl) (by kernel_rfl) (by kernel_rfl) (by decide) (fun _ _ _ h => h) (Or.inr ⟨by kernel_rfl, rfl⟩) hSS ?_
          refine wpAnyE_take0 (i := 25) (v := undef) rfl (by kernel_rfl) (by kernel_rfl) (by kernel_rfl) (by decide) (fun _ _ _ h => h) (Or.inr ⟨by kernel_rfl, rfl⟩) hSS ?_
          refine wpAnyE_take0 (i := 26) (v := undef) rfl (by kernel_rfl) (by kernel_rfl) (by kernel_rfl) (by decide) (fun _ _ _ h => h) (Or.inr ⟨by kernel_rfl, rfl⟩) hSS ?_
          simp only [Act.put, List.setIfInBounds_toArray, List.set_cons_succ, List.set_cons_zero, List.getElem_toArray, List.getElem_cons_succ, List.getElem_cons_zero]
          refine wpAnyE_one (i := 27) (by kernel_rfl) rfl (fun K hK => ?_)
          go_simp
          refine hK.out _ _ ⟨hSS.1, fun _ => trivial⟩ ?_
          clear hK K
          refine wpAnyE_done (by kernel_rfl) ?_ _
          clear hSS
          go_wp2
          go_ret
          exact ⟨ret_bool (by rw [NO.out (by rw [HE.out, ← HX.out]; simp)]), B5⟩
        · by_cases hle : gx ≤ px
          · have hle' : decide (gx ≤ px) = true := by simpa using hle
            have KP : Hid (∀ W, Below wr.heap.size wr W → W.cell? ⟨w.heap.size, 0, none⟩ = some (.int .i64 cl) ∧ W.cell? ⟨w.heap.size, 1, none⟩ = some (.slice ad N cap) ∧ W.cell? ⟨w.heap.size, 2, none⟩ = some (.slice ga gn gc) ∧ W.cell? ⟨w.heap.size, 3, none⟩ = some (.slice sa sn sc) ∧ W.cell? ⟨w.heap.size + 1, 4, none⟩ = some (.slice (some ⟨b, off, none⟩) kn kc) ∧ W.cell? ⟨b, off + k * 4, none⟩ = some (.int .i64 gx) ∧ W.cell? ⟨b, off + k * 4 + 1, none⟩ = some (.int .i64 gq) ∧ W.cell? ⟨b, off + k * 4 + 2, none⟩ = some (.int .i64 gz) ∧ W.cell? ⟨b, off + k * 4 + 3, none⟩ = some (.slice gta gtn gtc) ∧ W.cell? ⟨b, off + (k - 1) * 4, none⟩ = some (.int .i64 px)) := fun W hW => ⟨(q3.below hW).cell 0, (q3.below hW).cell 1, (q3.below hW).cell 2, (q3.below hW).cell 3, (y3.below hW).cell 4, (hW.cell (p := ⟨b, off + k * 4, none⟩) (block_lt e0')).trans e0', (hW.cell (p := ⟨b, off + k * 4 + 1, none⟩) (block_lt e1')).trans e1', (hW.cell (p := ⟨b, off + k * 4 + 2, none⟩) (block_lt e2')).trans e2', (hW.cell (p := ⟨b, off + k * 4 + 3, none⟩) (block_lt e3')).trans e3', (hW.cell (p := ⟨b, off + (k - 1) * 4, none⟩) (block_lt eP)).trans eP⟩
            have hSS := And.intro (KP.out _ (Below.refl _ _).drew) True.intro
            clear e0' e1' e2' e3' eP
            go_upto_region 6 with fail
            refine wp_region_ends (fun w' => w'.cell? ⟨w.heap.size, 0, none⟩ = some (.int .i64 cl) ∧ w'.cell? ⟨w.heap.size, 1, none⟩ = some (.slice ad N cap) ∧ w'.cell? ⟨w.heap.size, 2, none⟩ = some (.slice ga gn gc) ∧ w'.cell? ⟨w.heap.size, 3, none⟩ = some (.slice sa sn sc) ∧ w'.cell? ⟨w.heap.size + 1, 4, none⟩ = some (.slice (some ⟨b, off, none⟩) kn kc) ∧ w'.cell? ⟨b, off + k * 4, none⟩ = some (.int .i64 gx) ∧ w'.cell? ⟨b, off + k * 4 + 1, none⟩ = some (.int .i64 gq) ∧ w'.cell? ⟨b, off + k * 4 + 2, none⟩ = some (.int .i64 gz) ∧ w'.cell? ⟨b, off + k * 4 + 3, none⟩ = some (.slice gta gtn gtc) ∧ w'.cell? ⟨b, off + (k - 1) * 4, none⟩ = some (.int .i64 px)) (fun _ => True) 27 (by kernel_rfl) ?_
            refine wpAnyE_take0 (i := 0) (v := ?dv0) rfl (by kernel_rfl) (by kernel_rfl) (by kernel_rfl) (by decide) (fun _ _ _ h => h) (Or.inl ⟨by rfl, ?dhy0⟩) hSS ?_
            case dhy0 => (intro wz hSw; (try dsimp only at hSw); go_simp; try (with_reducible rfl))
            refine wpAnyE_take0 (i := 1) (v := ?dv1) rfl (by kernel_rfl) (by kernel_rfl) (by kernel_rfl) (by decide) (fun _ _ _ h => h) (Or.inl ⟨by rfl, ?dhy1⟩) hSS ?_
            case dhy1 => (intro wz hSw; (try dsimp only at hSw); go_simp; try (with_reducible rfl))
            refine wpAnyE_take0 (i := 2) (v := ?dv2) rfl (by kernel_rfl) (by kernel_rfl) (by kernel_rfl) (by decide) (fun _ _ _ h => h) (Or.inl ⟨by rfl, ?dhy2⟩) hSS ?_
            case dhy2 => (intro wz hSw; (try dsimp only at hSw); go_simp; try (with_reducible rfl))
            refine wpAnyE_take0 (i := 3) (v := ?dv3) rfl (by kernel_rfl) (by kernel_rfl) (by kernel_rfl) (by decide) (fun _ _ _ h => h) (Or.inl ⟨by rfl, ?dhy3⟩) hSS ?_
            case dhy3 => (intro wz hSw; (try dsimp only at hSw); go_simp; try (with_reducible rfl))
            simp only [Act.put, List.setIfInBounds_toArray, List.set_cons_succ, List.set_cons_zero, List.getElem_toArray, List.getElem_cons_succ, List.getElem_cons_zero]
            refine wpAnyE_take0 (i := 4) (v := ?dv4) rfl (by kernel_rfl) (by kernel_rfl) (by kernel_rfl) (by decide) (fun _ _ _ h => h) (Or.inl ⟨by rfl, ?dhy4⟩) hSS ?_
            case dhy4 => (intro wz hSw; (try dsimp only at hSw); go_simp; try (with_reducible rfl))
            refine wpAnyE_take0 (i := 5) (v := ?dv5) rfl (by kernel_rfl) (by kernel_rfl) (by kernel_rfl) (by decide) (fun _ _ _ h => h) (Or.inl ⟨by rfl, ?dhy5⟩) hSS ?_
            case dhy5 => (intro wz hSw; (try dsimp only at hSw); go_simp; try (with_reducible rfl))
            refine wpAnyE_one (i := 6) (by kernel_rfl) rfl (fun K hK => ?_)
            go_simp
            refine (l6call_any _ _ _ _ _ _ _ _ _ _ _ _ _ _ _ _ gtx _ (hI.below (Below.refl _ _).drew) zI hcl hN4).mono ?_
            rintro ee w5 ⟨rfl, bd5⟩
            rw [← HX.out]
            have b5 := below_of_drew bd5
            have b05 := hb0.trans (b5.mono hb0.size)
            have B5 := hb.trans (b5.mono hb.size)
            (try dsimp only)
            replace hSS := And.intro (KP.out w5 b5) True.intro
            refine hK.out _ _ ⟨hSS.1, fun _ => trivial⟩ ?_
            clear hK K
            refine wpAnyE_take0 (i := 7) (v := ?dv7) rfl (by kernel_rfl) (by kernel_rfl) (by kernel_rfl) (by decide) (fun _ _ _ h => h) (Or.inl ⟨by rfl, ?dhy7⟩) hSS ?_
            case dhy7 => (intro wz hSw; (try dsimp only at hSw); go_simp; try (with_reducible rfl))
            refine wpAnyE_take0 (i := 8) (v := ?dv8) rfl (by kernel_rfl) (by kernel_rfl) (by kernel_rfl) (by decide) (fun _ _ _ h => h) (Or.inl ⟨by rfl, ?dhy8⟩) hSS ?_
            case dhy8 => (intro wz hSw; (try dsimp only at hSw); go_simp; try (with_reducible rfl))
            refine wpAnyE_take0 (i := 9) (v := ?dv9) rfl (by kernel_rfl) (by kernel_rfl) (by kernel_rfl) (by decide) (fun _ _ _ h => h) (Or.inl ⟨by rfl, ?dhy9⟩) hSS ?_
            case dhy9 => (intro wz hSw; (try dsimp only at hSw); go_simp; try (with_reducible rfl))
            refine wpAnyE_take0 (i := 10) (v := ?dv10) rfl (by kernel_rfl) (by kernel_rfl) (by kernel_rfl) (by decide) (fun _ _ _ h => h) (Or.inl ⟨by rfl, ?dhy10⟩) hSS ?_
            case dhy10 => (intro wz hSw; (try dsimp only at hSw); go_simp; try (with_reducible rfl))
            simp only [Act.put, List.setIfInBounds_toArray, List.set_cons_succ, List.set_cons_zero, List.getElem_toArray, List.getElem_cons_succ, List.getElem_cons_zero]
            refine wpAnyE_take0 (i := 11) (v := ?dv11) rfl (by kernel_rfl) (by kernel_rfl) (by kernel_rfl) (by decide) (fun _ _ _ h => h) (Or.inl ⟨by rfl, ?dhy11⟩) hSS ?_
            case dhy11 => (intro wz hSw; (try dsimp only at hSw); go_simp; try (with_reducible rfl))
            refine wpAnyE_take0 (i := 12) (v := ?dv12) rfl (by kernel_rfl) (by kernel_rfl) (by kernel_rfl) (by decide) (fun _ _ _ h => h) (Or.inl ⟨by rfl, ?dhy12⟩) hSS ?_
            case dhy12 => (intro wz hSw; (try dsimp only at hSw); go_simp; try (with_reducible rfl))
            refine wpAnyE_take0 (i := 13) (v := ?dv13) rfl (by kernel_rfl) (by kernel_rfl) (by kernel_rfl) (by decide) (fun _ _ _ h => h) (Or.inl ⟨by rfl, ?dhy13⟩) hSS ?_
            case dhy13 => (intro wz hSw; (try dsimp only at hSw); go_simp; try (with_reducible rfl))
            refine wpAnyE_take0 (i := 14) (v := ?dv14) rfl (by kernel_rfl) (by kernel_rfl) (by kernel_rfl) (by decide) (fun _ _ _ h => h) (Or.inl ⟨by rfl, ?dhy14⟩) hSS ?_
            case dhy14 => (intro wz hSw; (try dsimp only at hSw); go_simp; try (with_reducible rfl))
            simp only [Act.put, List.setIfInBounds_toArray, List.set_cons_succ, List.set_cons_zero, List.getElem_toArray, List.getElem_cons_succ, List.getElem_cons_zero]
            refine wpAnyE_take0 (i := 15) (v := ?dv15) rfl (by kernel_rfl) (by kernel_rfl) (by kernel_rfl) (by decide) (fun _ _ _ h => h) (Or.inl ⟨by rfl, ?dhy15⟩) hSS ?_
            case dhy15 => (intro wz hSw; (try dsimp only at hSw); go_simp; try (with_reducible rfl))
            refine wpAnyE_take0 (i := 16) (v := ?dv16) rfl (by kernel_rfl) (by kernel_rfl) (by kernel_rfl) (by decide) (fun _ _ _ h => h) (Or.inl ⟨by rfl, ?dhy16⟩) hSS ?_
            case dhy16 => (intro wz hSw; (try dsimp only at hSw); go_simp; try (with_reducible rfl))
            refine wpAnyE_take0 (i := 17) (v := ?dv17) rfl (by kernel_rfl) (by kernel_rfl) (by kernel_rfl) (by decide) (fun _ _ _ h => h) (Or.inl ⟨by rfl, ?dhy17⟩) hSS ?_
            case dhy17 => (intro wz hSw; (try dsimp only at hSw); go_simp; try (with_reducible rfl))
            refine wpAnyE_take0 (i := 18) (v := ?dv18) rfl (by kernel_rfl) (by kernel_rfl) (by kernel_rfl) (by decide) (fun _ _ _ h => h) (Or.inl ⟨by rfl, ?dhy18⟩) hSS ?_
            case dhy18 => (intro wz hSw; (try dsimp only at hSw); go_simp; try (with_reducible rfl))
            simp only [Act.put, List.setIfInBounds_toArray, List.set_cons_succ, List.set_cons_zero, List.getElem_toArray, List.getElem_cons_succ, List.getElem_cons_zero]
            refine wpAnyE_take0 (i := 19) (v := ?dv19) rfl (by kernel_rfl) (by kernel_rfl) (by kernel_rfl) (by decide) (fun _ _ _ h => h) (Or.inl ⟨by rfl, ?dhy19⟩) hSS ?_
            case dhy19 => (intro wz hSw; (try dsimp only at hSw); go_simp; try (with_reducible rfl))
            refine wpAnyE_take0 (i := 20) (v := ?dv20) rfl (by kernel_rfl) (by kernel_rfl) (by kernel_rfl) (by decide) (fun _ _ _ h => h) (Or.inl ⟨by rfl, ?dhy20⟩) hSS ?_
            case dhy20 => (intro wz hSw; (try dsimp only at hSw); go_simp; try (with_reducible rfl))
            refine wpAnyE_take0 (i := 21) (v := ?dv21) rfl (by kernel_rfl) (by kernel_rfl) (by kernel_rfl) (by decide) (fun _ _ _ h => h) (Or.inl ⟨by rfl, ?dhy21⟩) hSS ?_
            case dhy21 => (intro wz hSw; (try dsimp only at hSw); go_simp; try (with_reducible rfl))
            refine wpAnyE_take0 (i := 22) (v := ?dv22) rfl (by kernel_rfl) (by kernel_rfl) (by kernel_rfl) (by decide) (fun _ _ _ h => h) (Or.inl ⟨by rfl, ?dhy22⟩) hSS ?_
            case dhy22 => (intro wz hSw; (try dsimp only at hSw); go_simp; try (with_reducible rfl))
            simp only [Act.put, List.setIfInBounds_toArray, List.set_cons_succ, List.set_cons_zero, List.getElem_toArray, List.getElem_cons_succ, List.getElem_cons_zero]
            refine wpAnyE_take0 (i := 23) (v := ?dv23) rfl (by kernel_rfl) (by kernel_rfl) (by kernel_rfl) (by decide) (fun _ _ _ h => h) (Or.inl ⟨by rfl, ?dhy23⟩) hSS ?_
            case dhy23 => (intro wz hSw; (try dsimp only at hSw); go_simp; try (with_reducible rfl))
            refine wpAnyE_take0 (i := 24) (v := ?dv24) rfl (by kernel_rfl) (by kernel_rfl) (by kernel_rfl) (by decide) (fun _ _ _ h => h) (Or.inl ⟨by rfl, ?dhy24⟩) hSS ?_
            case dhy24 => (intro wz hSw; (try dsimp only at hSw); go_simp; try (with_reducible rfl))
            refine wpAnyE_take0 (i := 25) (v := ?dv25) rfl (by kernel_rfl) (by kernel_rfl) (by kernel_rfl) (by decide) (fun _ _ _ h => h) (Or.inl ⟨by rfl, ?dhy25⟩) hSS ?_
            case dhy25 => (intro wz hSw; (try dsimp only at hSw); go_simp; try (with_reducible rfl))
            refine wpAnyE_take0 (i := 26) (v := ?dv26) rfl (by kernel_rfl) (by kernel_rfl) (by kernel_rfl) (by decide) (fun _ _ _ h => h) (Or.inl ⟨by rfl, ?dhy26⟩) hSS ?_
            case dhy26 => (intro wz hSw; (try dsimp only at hSw); go_simp; try (with_reducible rfl))
            simp only [Act.put, List.setIfInBounds_toArray, List.set_cons_succ, List.set_cons_zero, List.getElem_toArray, List.getElem_cons_succ, List.getElem_cons_zero]
            refine wpAnyE_one (i := 27) (by kernel_rfl) rfl (fun K hK => ?_)
            go_simp
            refine hK.out _ _ ⟨hSS.1, fun _ => trivial⟩ ?_
            clear hK K
            refine wpAnyE_done (by kernel_rfl) ?_ _
            clear hSS
            go_wp2
            go_ret
            exact ⟨ret_bool (by rw [NO.out (by rw [HE.out, ← HX.out]; simp; omega)]), B5⟩
          · have hle' : decide (gx ≤ px) = false := by simpa using hle
            have KP : Hid (∀ W, Below wr.heap.size wr W → W.cell? ⟨w.heap.size, 0, none⟩ = some (.int .i64 cl) ∧ W.cell? ⟨w.heap.size, 1, none⟩ = some (.slice ad N cap) ∧ W.cell? ⟨w.heap.size, 2, none⟩ = some (.slice ga gn gc) ∧ W.cell? ⟨w.heap.size, 3, none⟩ = some (.slice sa sn sc) ∧ W.cell? ⟨w.heap.size + 1, 4, none⟩ = some (.slice (some ⟨b, off, none⟩) kn kc) ∧ W.cell? ⟨b, off + k * 4, none⟩ = some (.int .i64 gx) ∧ W.cell? ⟨b, off + k * 4 + 1, none⟩ = some (.int .i64 gq) ∧ W.cell? ⟨b, off + k * 4 + 2, none⟩ = some (.int .i64 gz) ∧ W.cell? ⟨b, off + k * 4 + 3, none⟩ = some (.slice gta gtn gtc) ∧ W.cell? ⟨b, off + (k - 1) * 4, none⟩ = some (.int .i64 px)) := fun W hW => ⟨(q3.below hW).cell 0, (q3.below hW).cell 1, (q3.below hW).cell 2, (q3.below hW).cell 3, (y3.below hW).cell 4, (hW.cell (p := ⟨b, off + k * 4, none⟩) (block_lt e0')).trans e0', (hW.cell (p := ⟨b, off + k * 4 + 1, none⟩) (block_lt e1')).trans e1', (hW.cell (p := ⟨b, off + k * 4 + 2, none⟩) (block_lt e2')).trans e2', (hW.cell (p := ⟨b, off + k * 4 + 3, none⟩) (block_lt e3')).trans e3', (hW.cell (p := ⟨b, off + (k - 1) * 4, none⟩) (block_lt eP)).trans eP⟩
            have hSS := And.intro (KP.out _ (Below.refl _ _).drew) True.intro
            clear e0' e1' e2' e3' eP
            go_upto_region 6 with fail
            refine wp_region_ends (fun w' => w'.cell? ⟨w.heap.size, 0, none⟩ = some (.int .i64 cl) ∧ w'.cell? ⟨w.heap.size, 1, none⟩ = some (.slice ad N cap) ∧ w'.cell? ⟨w.heap.size, 2, none⟩ = some (.slice ga gn gc) ∧ w'.cell? ⟨w.heap.size, 3, none⟩ = some (.slice sa sn sc) ∧ w'.cell? ⟨w.heap.size + 1, 4, none⟩ = some (.slice (some ⟨b, off, none⟩) kn kc) ∧ w'.cell? ⟨b, off + k * 4, none⟩ = some (.int .i64 gx) ∧ w'.cell? ⟨b, off + k * 4 + 1, none⟩ = some (.int .i64 gq) ∧ w'.cell? ⟨b, off + k * 4 + 2, none⟩ = some (.int .i64 gz) ∧ w'.cell? ⟨b, off + k * 4 + 3, none⟩ = some (.slice gta gtn gtc) ∧ w'.cell? ⟨b, off + (k - 1) * 4, none⟩ = some (.int .i64 px)) (fun _ => True) 27 (by kernel_rfl) ?_
            refine wpAnyE_take0 (i := 0) (v := ?ev0) rfl (by kernel_rfl) (by kernel_rfl) (by kernel_rfl) (by decide) (fun _ _ _ h => h) (Or.inl ⟨by rfl, ?ehy0⟩) hSS ?_
            case ehy0 => (intro wz hSw; (try dsimp only at hSw); go_simp; try (with_reducible rfl))
            refine wpAnyE_take0 (i := 1) (v := ?ev1) rfl (by kernel_rfl) (by kernel_rfl) (by kernel_rfl) (by decide) (fun _ _ _ h => h) (Or.inl ⟨by rfl, ?ehy1⟩) hSS ?_
            case ehy1 => (intro wz hSw; (try dsimp only at hSw); go_simp; try (with_reducible rfl))
            refine wpAnyE_take0 (i := 2) (v := ?ev2) rfl (by kernel_rfl) (by kernel_rfl) (by kernel_rfl) (by decide) (fun _ _ _ h => h) (Or.inl ⟨by rfl, ?ehy2⟩) hSS ?_
            case ehy2 => (intro wz hSw; (try dsimp only at hSw); go_simp; try (with_reducible rfl))
            refine wpAnyE_take0 (i := 3) (v := ?ev3) rfl (by kernel_rfl) (by kernel_rfl) (by kernel_rfl) (by decide) (fun _ _ _ h => h) (Or.inl ⟨by rfl, ?ehy3⟩) hSS ?_
            case ehy3 => (intro wz hSw; (try dsimp only at hSw); go_simp; try (with_reducible rfl))
            simp only [Act.put, List.setIfInBounds_toArray, List.set_cons_succ, List.set_cons_zero, List.getElem_toArray, List.getElem_cons_succ, List.getElem_cons_zero]
            refine wpAnyE_take0 (i := 4) (v := ?ev4) rfl (by kernel_rfl) (by kernel_rfl) (by kernel_rfl) (by decide) (fun _ _ _ h => h) (Or.inl ⟨by rfl, ?ehy4⟩) hSS ?_
            case ehy4 => (intro wz hSw; (try dsimp only at hSw); go_simp; try (with_reducible rfl))
            refine wpAnyE_take0 (i := 5) (v := ?ev5) rfl (by kernel_rfl) (by kernel_rfl) (by kernel_rfl) (by decide) (fun _ _ _ h => h) (Or.inl ⟨by rfl, ?ehy5⟩) hSS ?_
            case ehy5 => (intro wz hSw; (try dsimp only at hSw); go_simp; try (with_reducible rfl))
            refine wpAnyE_one (i := 6) (by kernel_rfl) rfl (fun K hK => ?_)
            go_simp
            refine (l6call_any _ _ _ _ _ _ _ _ _ _ _ _ _ _ _ _ gtx _ (hI.below (Below.refl _ _).drew) zI hcl hN4).mono ?_
            rintro ee w5 ⟨rfl, bd5⟩
            rw [← HX.out]
            have b5 := below_of_drew bd5
            have b05 := hb0.trans (b5.mono hb0.size)
            have B5 := hb.trans (b5.mono hb.size)
            (try dsimp only)
            replace hSS := And.intro (KP.out w5 b5) True.intro
            refine hK.out _ _ ⟨hSS.1, fun _ => trivial⟩ ?_
            clear hK K
            refine wpAnyE_take0 (i := 7) (v := ?ev7) rfl (by kernel_rfl) (by kernel_rfl) (by kernel_rfl) (by decide) (fun _ _ _ h => h) (Or.inl ⟨by rfl, ?ehy7⟩) hSS ?_
            case ehy7 => (intro wz hSw; (try dsimp only at hSw); go_simp; try (with_reducible rfl))
            refine wpAnyE_take0 (i := 8) (v := ?ev8) rfl (by kernel_rfl) (by kernel_rfl) (by kernel_rfl) (by decide) (fun _ _ _ h => h) (Or.inl ⟨by rfl, ?ehy8⟩) hSS ?_
            case ehy8 => (intro wz hSw; (try dsimp only at hSw); go_simp; try (with_reducible rfl))
            refine wpAnyE_take0 (i := 9) (v := ?ev9) rfl (by kernel_rfl) (by kernel_rfl) (by kernel_rfl) (by decide) (fun _ _ _ h => h) (Or.inl ⟨by rfl, ?ehy9⟩) hSS ?_
            case ehy9 => (intro wz hSw; (try dsimp only at hSw); go_simp; try (with_reducible rfl))
            refine wpAnyE_take0 (i := 10) (v := ?ev10) rfl (by kernel_rfl) (by kernel_rfl) (by kernel_rfl) (by decide) (fun _ _ _ h => h) (Or.inl ⟨by rfl, ?ehy10⟩) hSS ?_
            case ehy10 => (intro wz hSw; (try dsimp only at hSw); go_simp; try (with_reducible rfl))
            simp only [Act.put, List.setIfInBounds_toArray, List.set_cons_succ, List.set_cons_zero, List.getElem_toArray, List.getElem_cons_succ, List.getElem_cons_zero]
            refine wpAnyE_take0 (i := 11) (v := ?ev11) rfl (by kernel_rfl) (by kernel_rfl) (by kernel_rfl) (by decide) (fun _ _ _ h => h) (Or.inl ⟨by rfl, ?ehy11⟩) hSS ?_
            case ehy11 => (intro wz hSw; (try dsimp only at hSw); go_simp; try (with_reducible rfl))
            refine wpAnyE_take0 (i := 12) (v := ?ev12) rfl (by kernel_rfl) (by kernel_rfl) (by kernel_rfl) (by decide) (fun _ _ _ h => h) (Or.inl ⟨by rfl, ?ehy12⟩) hSS ?_
            case ehy12 => (intro wz hSw; (try dsimp only at hSw); go_simp; try (with_reducible rfl))
            refine wpAnyE_take0 (i := 13) (v := ?ev13) rfl (by kernel_rfl) (by kernel_rfl) (by kernel_rfl) (by decide) (fun _ _ _ h => h) (Or.inl ⟨by rfl, ?ehy13⟩) hSS ?_
            case ehy13 => (intro wz hSw; (try dsimp only at hSw); go_simp; try (with_reducible rfl))
            refine wpAnyE_take0 (i := 14) (v := ?ev14) rfl (by kernel_rfl) (by kernel_rfl) (by kernel_rfl) (by decide) (fun _ _ _ h => h) (Or.inl ⟨by rfl, ?ehy14⟩) hSS ?_
            case ehy14 => (intro wz hSw; (try dsimp only at hSw); go_simp; try (with_reducible rfl))
            simp only [Act.put, List.setIfInBounds_toArray, List.set_cons_succ, List.set_cons_zero, List.getElem_toArray, List.getElem_cons_succ, List.getElem_cons_zero]
            refine wpAnyE_take0 (i := 15) (v := ?ev15) rfl (by kernel_rfl) (by kernel_rfl) (by kernel_rfl) (by decide) (fun _ _ _ h => h) (Or.inl ⟨by rfl, ?ehy15⟩) hSS ?_
            case ehy15 => (intro wz hSw; (try dsimp only at hSw); go_simp; try (with_reducible rfl))
            refine wpAnyE_take0 (i := 16) (v := ?ev16) rfl (by kernel_rfl) (by kernel_rfl) (by kernel_rfl) (by decide) (fun _ _ _ h => h) (Or.inl ⟨by rfl, ?ehy16⟩) hSS ?_
            case ehy16 => (intro wz hSw; (try dsimp only at hSw); go_simp; try (with_reducible rfl))
            refine wpAnyE_take0 (i := 17) (v := ?ev17) rfl (by kernel_rfl) (by kernel_rfl) (by kernel_rfl) (by decide) (fun _ _ _ h => h) (Or.inl ⟨by rfl, ?ehy17⟩) hSS ?_
            case ehy17 => (intro wz hSw; (try dsimp only at hSw); go_simp; try (with_reducible rfl))
            refine wpAnyE_take0 (i := 18) (v := ?ev18) rfl (by kernel_rfl) (by kernel_rfl) (by kernel_rfl) (by decide) (fun _ _ _ h => h) (Or.inl ⟨by rfl, ?ehy18⟩) hSS ?_
            case ehy18 => (intro wz hSw; (try dsimp only at hSw); go_simp; try (with_reducible rfl))
            simp only [Act.put, List.setIfInBounds_toArray, List.set_cons_succ, List.set_cons_zero, List.getElem_toArray, List.getElem_cons_succ, List.getElem_cons_zero]
            refine wpAnyE_take0 (i := 19) (v := ?ev19) rfl (by kernel_rfl) (by kernel_rfl) (by kernel_rfl) (by decide) (fun _ _ _ h => h) (Or.inl ⟨by rfl, ?ehy19⟩) hSS ?_
            case ehy19 => (intro wz hSw; (try dsimp only at hSw); go_simp; try (with_reducible rfl))
            refine wpAnyE_take0 (i := 20) (v := ?ev20) rfl (by kernel_rfl) (by kernel_rfl) (by kernel_rfl) (by decide) (fun _ _ _ h => h) (Or.inl ⟨by rfl, ?ehy20⟩) hSS ?_
            case ehy20 => (intro wz hSw; (try dsimp only at hSw); go_simp; try (with_reducible rfl))
            refine wpAnyE_take0 (i := 21) (v := ?ev21) rfl (by kernel_rfl) (by kernel_rfl) (by kernel_rfl) (by decide) (fun _ _ _ h => h) (Or.inl ⟨by rfl, ?ehy21⟩) hSS ?_
            case ehy21 => (intro wz hSw; (try dsimp only at hSw); go_simp; try (with_reducible rfl))
            refine wpAnyE_take0 (i := 22) (v := ?ev22) rfl (by kernel_rfl) (by kernel_rfl) (by kernel_rfl) (by decide) (fun _ _ _ h => h) (Or.inl ⟨by rfl, ?ehy22⟩) hSS ?_
            case ehy22 => (intro wz hSw; (try dsimp only at hSw); go_simp; try (with_reducible rfl))
            simp only [Act.put, List.setIfInBounds_toArray, List.set_cons_succ, List.set_cons_zero, List.getElem_toArray, List.getElem_cons_succ, List.getElem_cons_zero]
            refine wpAnyE_take0 (i := 23) (v := ?ev23) rfl (by kernel_rfl) (by kernel_rfl) (by kernel_rfl) (by decide) (fun _ _ _ h => h) (Or.inl ⟨by rfl, ?ehy23⟩) hSS ?_
            case ehy23 => (intro wz hSw; (try dsimp only at hSw); go_simp; try (with_reducible rfl))
            refine wpAnyE_take0 (i := 24) (v := ?ev24) rfl (by kernel_rfl) (by kernel_rfl) (by kernel_rfl) (by decide) (fun _ _ _ h => h) (Or.inl ⟨by rfl, ?ehy24⟩) hSS ?_
            case ehy24 => (intro wz hSw; (try dsimp only at hSw); go_simp; try (with_reducible rfl))
            refine wpAnyE_take0 (i := 25) (v := ?ev25) rfl (by kernel_rfl) (by kernel_rfl) (by kernel_rfl) (by decide) (fun _ _ _ h => h) (Or.inl ⟨by rfl, ?ehy25⟩) hSS ?_
            case ehy25 => (intro wz hSw; (try dsimp only at hSw); go_simp; try (with_reducible rfl))
            refine wpAnyE_take0 (i := 26) (v := ?ev26) rfl (by kernel_rfl) (by kernel_rfl) (by kernel_rfl) (by decide) (fun _ _ _ h => h) (Or.inl ⟨by rfl, ?ehy26⟩) hSS ?_
            case ehy26 => (intro wz hSw; (try dsimp only at hSw); go_simp; try (with_reducible rfl))
            simp only [Act.put, List.setIfInBounds_toArray, List.set_cons_succ, List.set_cons_zero, List.getElem_toArray, List.getElem_cons_succ, List.getElem_cons_zero]
            refine wpAnyE_one (i := 27) (by kernel_rfl) rfl (fun K hK => ?_)
            go_simp
            refine hK.out _ _ ⟨hSS.1, fun _ => trivial⟩ ?_
            clear hK K
            refine wpAnyE_done (by kernel_rfl) ?_ _
            clear hSS
            go_wp2
            go_roundw
            case rel => exact ⟨k + 1, by omega, by go_num, b05, YES.out (by rw [HE.out, ← HX.out]; simp; omega)⟩
            case measure => simp [intOf]; omega
    · obtain rfl : k = kn := by omega
      have HW : Hid (wantsB cl N k kx = true) := HA.out
      have y3 := y2.below hb0
      obtain ⟨d0, d1, d2, d3, d4, d5⟩ := y3.sixP
      cases u
      · by_cases hk0 : k = 0
        · subst hk0
          go_wp2_with fail
          refine (shasn_any _ _ _ _ _ _ _ _ _ _ _ _ _ _ ex _ (h.below hb).g h.lg h.zg).mono ?_
          rintro e w4 ⟨rfl, b4⟩
          have e2 : ((hasN ex : Int) == 0) = decide (hasN ex = 0) := by by_cases hn : hasN ex = 0 <;> simp [hn]
          have E2 : Hid _ := e2
          go_wp2
          go_ret
          exact ⟨ret_bool (by rw [HV.out, HW.out]; simp), hb.trans (b4.mono hb.size)⟩
        · have hk0' : ((k : Int) == 0) = false := by simp; omega
          go_wp2
          go_ret
          exact ⟨ret_bool (by rw [HV.out, HW.out]; simp [hk0]), hb⟩
      · go_wp2
        go_ret
        exact ⟨ret_bool (by rw [HV.out, HW.out]; simp), hb⟩

end Go.Proofs.YtacjjhfbnbmnlaaGreatDoor
