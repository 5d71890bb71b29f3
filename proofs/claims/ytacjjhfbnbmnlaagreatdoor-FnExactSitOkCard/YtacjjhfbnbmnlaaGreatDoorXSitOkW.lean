/-
  Whether a site is ok: both functions answer the same. Lengths at most 1048576; the library's table of powers of ten is as its text lays it.
-/
import Derived.Test.YtacjjhfbnbmnlaaGreatDoorXSl8
import Derived.Test.YtacjjhfbnbmnlaaGreatDoorXIkeep
namespace Go.Proofs.YtacjjhfbnbmnlaaGreatDoor
open Go.RowKit Go.Deep
set_option linter.unusedVariables false
set_option maxRecDepth 100000

set_option maxHeartbeats 3200000 in
theorem ssitok_any (cl : Int) (ad : Option Addr) (N cap : Nat) (ga : Option Addr) (gn gc : Nat) (sa : Option Addr) (sn sc : Nat) (ss : List L2V) (G S : List Int) (u f : Bool) (r : Int) (ba : Option Addr) (bn bc : Nat) (bx : List Int) (aa : Option Addr) (an ac : Nat) (ax : List Int) (da : Option Addr) (dn dc : Nat) (dx : List DV) (s : Int) (w : World) (hp : PlAt w ad N ss ga gn G sa sn S) (h : StAt w ba bn bx aa an ax da dn dx) :
    Calls Tryz.prog 11 #[plV cl ad N cap ga gn gc sa sn sc, siV u f r ba bn bc aa an ac da dn dc, .int .i64 s] w fun e w' => e = .returned (.bool (sitB cl N ss gn G sn S r bn bx an ax dn dx s)) ∧ Below w.heap.size w w' := by
  have q0 := (Cel.new w [.int .i64 cl, .slice ad N cap, .slice ga gn gc, .slice sa sn sc] 34).alloc (.cells #[.bool u, .bool f, .int .i64 r, .slice ba bn bc, .slice aa an ac, .slice da dn dc] 38)
  have y0 := Cel.new (w.alloc (.cells #[.int .i64 cl, .slice ad N cap, .slice ga gn gc, .slice sa sn sc] 34)) [.bool u, .bool f, .int .i64 r, .slice ba bn bc, .slice aa an ac, .slice da dn dc] 38
  rw [World.size_alloc] at y0
  have B0 := ((Below.refl w.heap.size w).alloc (Nat.le_refl _) (.cells #[.int .i64 cl, .slice ad N cap, .slice ga gn gc, .slice sa sn sc] 34)).alloc (by simp) (.cells #[.bool u, .bool f, .int .i64 r, .slice ba bn bc, .slice aa an ac, .slice da dn dc] 38)
  cases hpl : plnB cl N ss gn G sn S
  · go_enter Tryz.func11, Tryz.ntmps11
    go_wp2_with fail
    refine (splnok_any _ _ _ _ ss _ _ _ G _ _ _ S _ (hp.below B0)).mono ?_
    rintro e w1 ⟨rfl, b1⟩
    rw [hpl]
    go_wp2
    go_ret
    exact ⟨ret_bool (by rw [sitB, hpl]; rfl), B0.trans (b1.mono B0.size)⟩
  have pp := (pln_parts hpl).2
  have HC : Hid _ := catB_parts (pln_cat hpl)
  have HP : Hid _ := hpl
  clear hpl
  cases h1 : inB s 0 ((gn : Int) - 1)
  · go_enter Tryz.func11, Tryz.ntmps11
    go_wp2_with fail
    refine (splnok_any _ _ _ _ ss _ _ _ G _ _ _ S _ (hp.below B0)).mono ?_
    rintro e w1 ⟨rfl, b1⟩
    rw [HP.out]
    have B1 := B0.trans (b1.mono B0.size)
    have q1 := q0.below b1
    obtain ⟨c0, c1, c2, c3⟩ := q1.quadP
    go_wp2_with fail
    refine (in_any _ _ _ _).mono ?_
    rintro e w2 ⟨rfl, rfl⟩
    rw [h1]
    go_wp2
    go_ret
    refine ⟨ret_bool ?_, B1⟩
    rw [sitB, siteB]
    cases h3 : keepT bn gn bx G (catP ss) s an ax
    · simp
    · have := (keepT_elim h3).2.1; rw [h1] at this; cases this
  go_enter Tryz.func11, Tryz.ntmps11
  go_wp2_with fail
  refine (splnok_any _ _ _ _ ss _ _ _ G _ _ _ S _ (hp.below B0)).mono ?_
  rintro e w1 ⟨rfl, b1⟩
  rw [HP.out]
  have B1 := B0.trans (b1.mono B0.size)
  have q1 := q0.below b1
  have y1 := y0.below b1
  clear q0 y0 B0 b1
  obtain ⟨c0, c1, c2, c3⟩ := q1.quadP
  go_wp2_with fail
  refine (in_any _ _ _ _).mono ?_
  rintro e w2 ⟨rfl, rfl⟩
  rw [h1]
  go_wp2_with fail
  refine (sboth_any _ _ _ ss _ hp.ha (hp.below B1).a HC.out.2 HC.out.1).mono ?_
  rintro e w2 ⟨G', cG, ts, nt, Gp, cp, rfl, hl, jp, hx, hnt, o, lGp⟩
  have B2 := B1.trans (jp.b.mono B1.size)
  have q2 := q1.below jp.b
  have y2 := y1.below jp.b
  have hg := jp.g
  have HX : Hid _ := hx
  have HL : Hid _ := hl
  have hR := o.bools.ba
  clear jp hx hl o q1 y1 B1 c0 c1 c2 c3
  obtain ⟨c0, c1, c2, c3⟩ := q2.quadP
  obtain ⟨d0, d1, d2, d3, d4, d5⟩ := y2.sixP
  go_wp2_with fail
  refine (sl8_any _ _ _ _ _ _ _ _ _ _ G _ _ _ ts (catP ss) _ _ (pinsA ss) _ _ _ _ _ _ bx _ _ _ ax _ _ _ dx _ _ (hp.below B2).g hp.zg hg HL.out (by omega) HX.out hR (h.below B2)).mono ?_
  rintro e w3 ⟨rfl, b3⟩
  go_wp2
  go_ret
  exact ⟨ret_bool (by rw [sitB, HP.out]; rfl), B2.trans (b3.mono B2.size)⟩

theorem iround_any (r : Int) (w : World) : Calls Tryz.prog 49 #[.int .i64 r] w fun e w' => e = .returned (.bool (inB r 0 200)) ∧ Below w.heap.size w w' := by
  go_enter Tryz.func49, Tryz.ntmps49
  go_wp2_with fail
  refine (between_any _ _ _ [r] _ _ _ (one_ints w r 3) (by omega)).mono ?_
  rintro e w1 ⟨rfl, rfl⟩
  go_wp2
  go_ret
  exact ⟨ret_bool (bet_one _ _ _), (Below.refl _ _).alloc (Nat.le_refl _) _⟩

set_option maxHeartbeats 3200000 in
theorem isitok_any (cl : Int) (ad : Option Addr) (N cap : Nat) (ga : Option Addr) (gn gc : Nat) (sa : Option Addr) (sn sc : Nat) (ss : List L2V) (G S : List Int) (u f : Bool) (r : Int) (ba : Option Addr) (bn bc : Nat) (bx : List Int) (aa : Option Addr) (an ac : Nat) (ax : List Int) (da : Option Addr) (dn dc : Nat) (dx : List DV) (s : Int) (w : World) (hp : PlAt w ad N ss ga gn G sa sn S) (h : StAt w ba bn bx aa an ax da dn dx) (hT : Lib.TabBelow Tryz.prog w.heap.size w "internal/strconv.uint64pow10" .u64 Lib.pow10Tab) :
    Calls Tryz.prog 14 #[plV cl ad N cap ga gn gc sa sn sc, siV u f r ba bn bc aa an ac da dn dc, .int .i64 s] w fun e w' => e = .returned (.bool (sitB cl N ss gn G sn S r bn bx an ax dn dx s)) ∧ Below w.heap.size w w' := by
  have HTB : Hid _ := hT
  clear hT
  have q0 := (Cel.new w [.int .i64 cl, .slice ad N cap, .slice ga gn gc, .slice sa sn sc] 34).alloc (.cells #[.bool u, .bool f, .int .i64 r, .slice ba bn bc, .slice aa an ac, .slice da dn dc] 38)
  have y0 := Cel.new (w.alloc (.cells #[.int .i64 cl, .slice ad N cap, .slice ga gn gc, .slice sa sn sc] 34)) [.bool u, .bool f, .int .i64 r, .slice ba bn bc, .slice aa an ac, .slice da dn dc] 38
  rw [World.size_alloc] at y0
  have B0 := ((Below.refl w.heap.size w).alloc (Nat.le_refl _) (.cells #[.int .i64 cl, .slice ad N cap, .slice ga gn gc, .slice sa sn sc] 34)).alloc (by simp) (.cells #[.bool u, .bool f, .int .i64 r, .slice ba bn bc, .slice aa an ac, .slice da dn dc] 38)
  cases hpl : plnB cl N ss gn G sn S
  · go_enter Tryz.func14, Tryz.ntmps14
    go_wp2_with fail
    refine (iplnok_any _ _ _ _ ss _ _ _ G _ _ _ S _ (hp.below B0)).mono ?_
    rintro e w1 ⟨rfl, b1⟩
    rw [hpl]
    go_wp2
    go_ret
    exact ⟨ret_bool (by rw [sitB, hpl]; rfl), B0.trans (b1.mono B0.size)⟩
  have HC : Hid _ := pln_cat hpl
  have HP : Hid _ := hpl
  clear hpl
  obtain ⟨x1, hx1⟩ : ∃ y, y = inB r 0 200 := ⟨_, rfl⟩
  obtain ⟨x2, hx2⟩ : ∃ y, y = (keepT bn gn bx G (catP ss) s an ax && stillB (pinsA ss) ax) := ⟨_, rfl⟩
  obtain ⟨x3, hx3⟩ : ∃ y, y = donesB cl dn dx := ⟨_, rfl⟩
  have HB : Hid (sitB cl N ss gn G sn S r bn bx an ax dn dx s = (x1 && (x2 && x3))) := by show _ = _; rw [sitB, siteB, HP.out, hx1, hx2, hx3]; cases keepT bn gn bx G (catP ss) s an ax <;> simp
  have H1 : Hid _ := hx1
  have H2 : Hid _ := hx2
  have H3 : Hid _ := hx3
  clear hx1 hx2 hx3
  go_enter Tryz.func14, Tryz.ntmps14
  go_wp2_with fail
  refine (iplnok_any _ _ _ _ ss _ _ _ G _ _ _ S _ (hp.below B0)).mono ?_
  rintro e w1 ⟨rfl, b1⟩
  rw [HP.out]
  have B1 := B0.trans (b1.mono B0.size)
  have q1 := q0.below b1
  have y1 := y0.below b1
  clear q0 y0 B0 b1
  obtain ⟨d0, d1, d2, d3, d4, d5⟩ := y1.sixP
  go_wp2_with fail
  refine (iround_any _ _).mono ?_
  rintro e w2 ⟨rfl, b2⟩
  rw [← H1.out]
  have B2 := B1.trans (b2.mono B1.size)
  have q2 := q1.below b2
  have y2 := y1.below b2
  clear q1 y1 B1 b2 d0 d1 d2 d3 d4 d5
  cases x1
  · go_wp2
    go_ret
    exact ⟨ret_bool (by rw [HB.out]; rfl), B2⟩
  obtain ⟨c0, c1, c2, c3⟩ := q2.quadP
  obtain ⟨d0, d1, d2, d3, d4, d5⟩ := y2.sixP
  go_wp2_with fail
  refine (ikeeps_any _ _ _ _ _ _ _ _ _ _ ss G S _ _ _ bx _ _ _ _ ax _ (hp.below B2) HC.out (h.below B2).b h.zb (h.below B2).a h.za).mono ?_
  rintro e w3 ⟨rfl, b3⟩
  rw [← H2.out]
  have B3 := B2.trans (b3.mono B2.size)
  have q3 := q2.below b3
  have y3 := y2.below b3
  clear q2 y2 B2 b3 c0 c1 c2 c3 d0 d1 d2 d3 d4 d5
  cases x2
  · go_wp2
    go_ret
    exact ⟨ret_bool (by rw [HB.out]; rfl), B3⟩
  obtain ⟨c0, c1, c2, c3⟩ := q3.quadP
  obtain ⟨d0, d1, d2, d3, d4, d5⟩ := y3.sixP
  go_wp2_with fail
  refine (idones_any _ _ _ _ _ _ _ _ _ _ _ _ _ dx _ h.ld (h.below B3).d h.zd (fun w' h' => HTB.out w' (B3.trans (h'.mono B3.size)))).mono ?_
  rintro e w4 ⟨rfl, b4⟩
  rw [← H3.out]
  go_wp2
  go_ret
  exact ⟨ret_bool (by rw [HB.out]; rfl), B3.trans (b4.mono B3.size)⟩

end Go.Proofs.YtacjjhfbnbmnlaaGreatDoor
