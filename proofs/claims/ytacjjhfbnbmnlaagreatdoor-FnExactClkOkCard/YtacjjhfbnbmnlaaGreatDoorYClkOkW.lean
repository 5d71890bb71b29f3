/-
  Whether a clerk is ok: both functions answer the same; the library's table of powers of ten is as its text lays it. Lengths at most 1048576.
-/
import Derived.Test.YtacjjhfbnbmnlaaGreatDoorYClkW2
import Derived.Test.YtacjjhfbnbmnlaaGreatDoorYClkW3
import Derived.Test.YtacjjhfbnbmnlaaGreatDoorYClkW4
namespace Go.Proofs.YtacjjhfbnbmnlaaGreatDoor
open Go.RowKit Go.Deep
set_option linter.unusedVariables false
set_option maxRecDepth 100000

set_option maxHeartbeats 3200000 in
theorem sclkok_any (cl : Int) (ad : Option Addr) (N cap : Nat) (ga : Option Addr) (gn gc : Nat) (sa : Option Addr) (sn sc : Nat) (ss : List L2V) (G S : List Int) (u : Bool) (r : Int) (ba : Option Addr) (bn bc : Nat) (bx : List Int) (da : Option Addr) (dn dc : Nat) (dx : List DV) (ka : Option Addr) (kn kc : Nat) (kx : List QV) (ea : Option Addr) (en ec : Nat) (ex : List GV) (w : World) (hp : PlAt w ad N ss ga gn G sa sn S) (h : CkAt w ba bn bx da dn dx ka kn kx ea en ex) :
    Calls Tryz.prog 18 #[plV cl ad N cap ga gn gc sa sn sc, ckV u r ba bn bc da dn dc ka kn kc ea en ec] w fun e w' => e = .returned (.bool (clkB cl N ss gn G sn S u r bn bx dn dx kn kx en ex)) ∧ Below w.heap.size w w' := by
  have q0 := (Cel.new w [.int .i64 cl, .slice ad N cap, .slice ga gn gc, .slice sa sn sc] 34).alloc (.cells #[.bool u, .int .i64 r, .slice ba bn bc, .slice da dn dc, .slice ka kn kc, .slice ea en ec] 52)
  have y0 := Cel.new (w.alloc (.cells #[.int .i64 cl, .slice ad N cap, .slice ga gn gc, .slice sa sn sc] 34)) [.bool u, .int .i64 r, .slice ba bn bc, .slice da dn dc, .slice ka kn kc, .slice ea en ec] 52
  rw [World.size_alloc] at y0
  have B0 := ((Below.refl w.heap.size w).alloc (Nat.le_refl _) (.cells #[.int .i64 cl, .slice ad N cap, .slice ga gn gc, .slice sa sn sc] 34)).alloc (by simp) (.cells #[.bool u, .int .i64 r, .slice ba bn bc, .slice da dn dc, .slice ka kn kc, .slice ea en ec] 52)
  cases hpl : plnB cl N ss gn G sn S
  · go_enter Tryz.func18, Tryz.ntmps18
    go_wp2_with fail
    refine (splnok_any _ _ _ _ ss _ _ _ G _ _ _ S _ (hp.below B0)).mono ?_
    rintro e w1 ⟨rfl, b1⟩
    rw [hpl]
    go_wp2
    go_ret
    exact ⟨ret_bool (by rw [clkB, hpl]; rfl), B0.trans (b1.mono B0.size)⟩
  have pp := (pln_parts hpl).1
  have pa := pln_acts hpl
  have HC : Hid _ := catB_parts (pln_catC hpl)
  have HP : Hid _ := hpl
  clear hpl
  go_enter Tryz.func18, Tryz.ntmps18
  go_wp2_with fail
  refine (splnok_any _ _ _ _ ss _ _ _ G _ _ _ S _ (hp.below B0)).mono ?_
  rintro e w1 ⟨rfl, b1⟩
  rw [HP.out]
  have B1 := B0.trans (b1.mono B0.size)
  have q1 := q0.below b1
  have y1 := y0.below b1
  clear q0 y0 B0 b1
  obtain ⟨c0, c1, c2, c3⟩ := q1.quadP
  go_wp2_with fail
  refine (sboth_any _ _ _ ss _ hp.ha (hp.below B1).a HC.out.2 HC.out.1).mono ?_
  rintro e w2 ⟨G', cG, ts, nt, Gp, cp, rfl, hl, jp, hx, hnt, o, lGp⟩
  have B2 := B1.trans (jp.b.mono B1.size)
  have q2 := q1.below jp.b
  have y2 := y1.below jp.b
  have hg := jp.g
  have HX : Hid _ := hx
  have HL : Hid _ := hl
  have hR := o.bools.ba
  clear jp hx hl o q1 y1 B1 c0 c1 c2 c3
  obtain ⟨c0, c1, c2, c3⟩ := q2.quadP
  obtain ⟨d0, d1, d2, d3, d4, d5⟩ := y2.sixP
  go_wp2_with fail
  refine (sl9_any _ _ _ _ _ _ _ _ _ _ G _ _ _ ts (catP ss) _ _ (pinsA ss) _ _ _ _ _ bx _ _ _ dx _ _ _ kx _ _ _ ex _ (hp.below B2).g hp.zg pp pa hg HL.out (by omega) HX.out hR (h.below B2)).mono ?_
  rintro e w3 ⟨rfl, b3⟩
  go_wp2
  go_ret
  exact ⟨ret_bool (by rw [clkB, HP.out]; rfl), B2.trans (b3.mono B2.size)⟩

set_option maxHeartbeats 6400000 in
theorem iclkok_any (cl : Int) (ad : Option Addr) (N cap : Nat) (ga : Option Addr) (gn gc : Nat) (sa : Option Addr) (sn sc : Nat) (ss : List L2V) (G S : List Int) (u : Bool) (r : Int) (ba : Option Addr) (bn bc : Nat) (bx : List Int) (da : Option Addr) (dn dc : Nat) (dx : List DV) (ka : Option Addr) (kn kc : Nat) (kx : List QV) (ea : Option Addr) (en ec : Nat) (ex : List GV) (w : World) (hp : PlAt w ad N ss ga gn G sa sn S) (h : CkAt w ba bn bx da dn dx ka kn kx ea en ex) (hTB : Lib.TabBelow Tryz.prog w.heap.size w "internal/strconv.uint64pow10" .u64 Lib.pow10Tab) :
    Calls Tryz.prog 20 #[plV cl ad N cap ga gn gc sa sn sc, ckV u r ba bn bc da dn dc ka kn kc ea en ec] w fun e w' => e = .returned (.bool (clkB cl N ss gn G sn S u r bn bx dn dx kn kx en ex)) ∧ Below w.heap.size w w' := by
  have HTB : Hid _ := hTB
  clear hTB
  have q0 := (Cel.new w [.int .i64 cl, .slice ad N cap, .slice ga gn gc, .slice sa sn sc] 34).alloc (.cells #[.bool u, .int .i64 r, .slice ba bn bc, .slice da dn dc, .slice ka kn kc, .slice ea en ec] 52)
  have y0 := Cel.new (w.alloc (.cells #[.int .i64 cl, .slice ad N cap, .slice ga gn gc, .slice sa sn sc] 34)) [.bool u, .int .i64 r, .slice ba bn bc, .slice da dn dc, .slice ka kn kc, .slice ea en ec] 52
  rw [World.size_alloc] at y0
  have B0 := ((Below.refl w.heap.size w).alloc (Nat.le_refl _) (.cells #[.int .i64 cl, .slice ad N cap, .slice ga gn gc, .slice sa sn sc] 34)).alloc (by simp) (.cells #[.bool u, .int .i64 r, .slice ba bn bc, .slice da dn dc, .slice ka kn kc, .slice ea en ec] 52)
  cases hpl : plnB cl N ss gn G sn S
  · go_enter Tryz.func20, Tryz.ntmps20
    go_wp2_with fail
    refine (iplnok_any _ _ _ _ ss _ _ _ G _ _ _ S _ (hp.below B0)).mono ?_
    rintro e w1 ⟨rfl, b1⟩
    rw [hpl]
    go_wp2
    go_ret
    exact ⟨ret_bool (by rw [clkB, hpl]; rfl), B0.trans (b1.mono B0.size)⟩
  have HC : Hid _ := pln_catC hpl
  have HP : Hid _ := hpl
  clear hpl
  obtain ⟨x1, hx1⟩ : ∃ y, y = inB r 0 200 := ⟨_, rfl⟩
  obtain ⟨x2, hx2⟩ : ∃ y, y = okN 3 10000 bn bx := ⟨_, rfl⟩
  obtain ⟨x3, hx3⟩ : ∃ y, y = donesB cl dn dx := ⟨_, rfl⟩
  obtain ⟨x4, hx4⟩ : ∃ y, y = wantsB cl N kn kx := ⟨_, rfl⟩
  obtain ⟨x5, hx5⟩ : ∃ y, y = gotsB cl gn bn bx G (catP ss) (pinsA ss) en ex := ⟨_, rfl⟩
  have HB : Hid (clkB cl N ss gn G sn S u r bn bx dn dx kn kx en ex = (x1 && (x2 && (x3 && (x4 && (x5 && (u || (decide (kn = 0) && decide (hasN ex = 0))))))))) := by show _ = _; rw [clkB, clerkB, HP.out, hx1, hx2, hx3, hx4, hx5]; rfl
  have H1 : Hid _ := hx1
  have H2 : Hid _ := hx2
  have H3 : Hid _ := hx3
  have H4 : Hid _ := hx4
  have H5 : Hid _ := hx5
  clear hx1 hx2 hx3 hx4 hx5
  go_enter Tryz.func20, Tryz.ntmps20
  go_wp2_with fail
  refine (iplnok_any _ _ _ _ ss _ _ _ G _ _ _ S _ (hp.below B0)).mono ?_
  rintro e w1 ⟨rfl, b1⟩
  rw [HP.out]
  have B1 := B0.trans (b1.mono B0.size)
  have q1 := q0.below b1
  have y1 := y0.below b1
  clear q0 y0 B0 b1
  obtain ⟨c0, c1, c2, c3⟩ := q1.quadP
  obtain ⟨d0, d1, d2, d3, d4, d5⟩ := y1.sixP
  go_wp2_with fail
  refine (iroundC_any _ _).mono ?_
  rintro e w2 ⟨rfl, b2⟩
  rw [← H1.out]
  have B2 := B1.trans (b2.mono B1.size)
  have q2 := q1.below b2
  have y2 := y1.below b2
  clear q1 y1 B1 b2 c0 c1 c2 c3 d0 d1 d2 d3 d4 d5
  cases x1
  · go_wp2
    go_ret
    exact ⟨ret_bool (by rw [HB.out]; rfl), B2⟩
  obtain ⟨c0, c1, c2, c3⟩ := q2.quadP
  obtain ⟨d0, d1, d2, d3, d4, d5⟩ := y2.sixP
  go_wp2_with fail
  refine (ival_any _ _ _ bx _ (h.below B2).b h.zb).mono ?_
  rintro e wq ⟨rfl, rfl⟩
  rw [← H2.out]
  cases x2
  · go_wp2
    go_ret
    exact ⟨ret_bool (by rw [HB.out]; rfl), B2⟩
  go_wp2_with fail
  refine (idones_any _ _ _ _ _ _ _ _ _ _ _ _ _ dx _ h.ld (h.below B2).d h.zd (fun w' h' => HTB.out w' (B2.trans (h'.mono B2.size)))).mono ?_
  rintro e w3 ⟨rfl, b3⟩
  rw [← H3.out]
  have B3 := B2.trans (b3.mono B2.size)
  have q3 := q2.below b3
  have y3 := y2.below b3
  clear q2 y2 B2 b3 c0 c1 c2 c3 d0 d1 d2 d3 d4 d5
  cases x3
  · go_wp2
    go_ret
    exact ⟨ret_bool (by rw [HB.out]; rfl), B3⟩
  obtain ⟨c0, c1, c2, c3⟩ := q3.quadP
  obtain ⟨d0, d1, d2, d3, d4, d5⟩ := y3.sixP
  go_wp2_with fail
  refine (iwants_any _ _ _ _ _ _ _ _ _ _ ss G S _ _ _ _ _ _ _ _ _ _ _ _ _ _ kx _ (hp.below B3) HP.out (h.below B3).k h.lk h.zk (fun w' h' => HTB.out w' (B3.trans (h'.mono B3.size)))).mono ?_
  rintro e w4 ⟨rfl, b4⟩
  rw [← H4.out]
  have B4 := B3.trans (b4.mono B3.size)
  have q4 := q3.below b4
  have y4 := y3.below b4
  clear q3 y3 B3 b4 c0 c1 c2 c3 d0 d1 d2 d3 d4 d5
  cases x4
  · go_wp2
    go_ret
    exact ⟨ret_bool (by rw [HB.out]; rfl), B4⟩
  obtain ⟨c0, c1, c2, c3⟩ := q4.quadP
  obtain ⟨d0, d1, d2, d3, d4, d5⟩ := y4.sixP
  go_wp2_with fail
  refine (igots_any _ _ _ _ _ _ _ _ _ _ ss G S _ _ _ _ _ _ _ _ _ _ _ _ _ _ bx ex _ (hp.below B4) HC.out (h.below B4).b h.zb (h.below B4).g h.lg h.zg).mono ?_
  rintro e w5 ⟨rfl, b5⟩
  rw [← H5.out]
  have B5 := B4.trans (b5.mono B4.size)
  have q5 := q4.below b5
  have y5 := y4.below b5
  clear q4 y4 B4 b5 c0 c1 c2 c3 d0 d1 d2 d3 d4 d5
  cases x5
  · go_wp2
    go_ret
    exact ⟨ret_bool (by rw [HB.out]; rfl), B5⟩
  obtain ⟨c0, c1, c2, c3⟩ := q5.quadP
  obtain ⟨d0, d1, d2, d3, d4, d5⟩ := y5.sixP
  cases u
  · go_wp2_with fail
    refine (ineeds_any _ _ _ _ _ _ _ _ _ _ _ _ _ _ ex _ (h.below B5).g h.lg h.zg).mono ?_
    rintro e w6 ⟨rfl, b6⟩
    go_wp2
    go_ret
    refine ⟨ret_bool ?_, B5.trans (b6.mono B5.size)⟩
    rw [HB.out]
    by_cases hk : kn = 0
    · subst hk; by_cases hh : hasN ex = 0 <;> simp [hh]
    · have : 0 < kn := by omega
      simp [hk, this]
  · go_wp2
    go_ret
    exact ⟨ret_bool (by rw [HB.out]; rfl), B5⟩

end Go.Proofs.YtacjjhfbnbmnlaaGreatDoor
