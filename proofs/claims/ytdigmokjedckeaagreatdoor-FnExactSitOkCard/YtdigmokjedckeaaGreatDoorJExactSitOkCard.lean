/-
  For every plan and every site and every number FnExactSitOk returns true, and all read behind the call as they did; the library's tables that are listed are as its text lays them. No other condition.
-/
import Derived.Test.YtdigmokjedckeaaGreatDoorJExactSitOkCardF
import Derived.Test.YtdigmokjedckeaaGreatDoorTie
import Derived.Test.YtdigmokjedckeaaGreatDoorCards
import Derived.Stop.LaidErr
import Derived.Lib.LaidTab
import Derived.LaidMore
import Derived.Lay
import Derived.SevenTiedAt
import Derived.Stop.Joined
import Derived.Deep.RegionHeld3
import Derived.Deep.DeepCutAuto
import Derived.Conc.Holds
import Derived.Leaving
namespace Go.Proofs.YtdigmokjedckeaaGreatDoor.fnExactSitOk
open Go.ChangeShapes Go.WideShapes Go.ChangeAt Go.RowKit Go.Deep
set_option linter.unusedVariables false

set_option maxRecDepth 100000 in
set_option maxHeartbeats 12800000 in
theorem walk (w : World) (cl : Int) (ad : Option Addr) (N cap : Nat) (ss : List L2V) (ga : Option Addr) (gn gc : Nat) (G : List Int) (sa : Option Addr) (sn sc : Nat) (S : List Int) (hl : ss.length = N) (hM : LSM w ad ss) (hN : N ≤ maxLen) (hG : Ints w ga gn G) (hg : gn ≤ maxLen) (hS : Ints w sa sn S) (hs : sn ≤ maxLen)
    (u : Bool) (f : Bool) (r : Int) (ba : Option Addr) (bn bc : Nat) (bx : List Int) (aa : Option Addr) (an ac : Nat) (ax : List Int) (da : Option Addr) (dn dc : Nat) (dx : List DV) (hb : Ints w ba bn bx) (mb : bn ≤ maxLen) (ha : Ints w aa an ax) (ma : an ≤ maxLen) (ld : dx.length = dn) (hd : DSM w da dx) (md : dn ≤ maxLen) (s : Int) (ws : (Lit.int .i64 s).wf = true) (hT : Lib.TabBelow Tryz.prog w.heap.size w "internal/strconv.uint64pow10" .u64 Lib.pow10Tab) :
    Calls Tryz.prog 3 #[plV cl ad N cap ga gn gc sa sn sc, siV u f r ba bn bc aa an ac da dn dc, .int .i64 s] w fun r w' => r = .returned (.bool true) ∧ Below w.heap.size w w' := by
  have HTB : Hid _ := hT
  clear hT
  have Ld : Hid (dx.length = dn) := ld
  clear ld
  have ld := Ld
  clear Ld
  have q_0 := (Cel.new w [.int .i64 cl, .slice ad N cap, .slice ga gn gc, .slice sa sn sc] 25).alloc (.cells #[.bool u, .bool f, .int .i64 r, .slice ba bn bc, .slice aa an ac, .slice da dn dc] 28)
  have r_0 := Cel.new (w.alloc (.cells #[.int .i64 cl, .slice ad N cap, .slice ga gn gc, .slice sa sn sc] 25)) [.bool u, .bool f, .int .i64 r, .slice ba bn bc, .slice aa an ac, .slice da dn dc] 28
  rw [World.size_alloc] at r_0
  have B_0 := ((Below.refl w.heap.size w).alloc (Nat.le_refl _) (.cells #[.int .i64 cl, .slice ad N cap, .slice ga gn gc, .slice sa sn sc] 25)).alloc (by simp) (.cells #[.bool u, .bool f, .int .i64 r, .slice ba bn bc, .slice aa an ac, .slice da dn dc] 28)
  have HL : Hid (ss.length = N) := hl
  clear hl
  go_enter Tryz.func3, Tryz.ntmps3
  go_wp2_with fail
  refine (szP_any _ _ _ _ ss _ _ _ G _ _ _ S _ _ HL.out (hM.below B_0) hN (hG.below B_0) hg (hS.below B_0) hs (by omega) (by omega)).mono ?_
  rintro rr w1 ⟨x, rfl, x1, x2, x3, b_1⟩
  have B_1 := B_0.trans (b_1.mono B_0.size)
  have q_1 := q_0.below b_1
  have r_1 := r_0.below b_1
  by_cases hx : x < 0
  · go_wp2
    go_ret
    exact ⟨rfl, B_1⟩
  have hx' : 0 ≤ x := by omega
  have A_1 := (x3 hx').below b_1
  clear q_0 r_0 B_0 b_1 x3 hx hM hG hS hN hg hs
  obtain ⟨d0, d1, d2, d3, d4, d5⟩ := r_1.sixP
  go_wp2_with fail
  refine (szSt_any _ _ _ _ _ _ bx _ _ _ ax _ _ _ dx _ _ (hb.below B_1) mb (ha.below B_1) ma ld.out (hd.below B_1) md hx' x2).mono ?_
  rintro rr w2 ⟨y, rfl, y1, y2, y3, b_2⟩
  have B_2 := B_1.trans (b_2.mono B_1.size)
  have q_2 := q_1.below b_2
  have r_2 := r_1.below b_2
  have A_2 := A_1.below b_2
  clear q_1 r_1 A_1 B_1 d0 d1 d2 d3 d4 d5
  by_cases hy0 : y < 0
  · go_wp2
    go_ret
    exact ⟨rfl, B_2⟩
  have hy' : 0 ≤ y := by omega
  have hA := y3 hy'
  have E_2 := hA.below b_2
  clear hy0 y1 y2 y3 x1 x2 hx' b_2
  have HH : Hid (∀ (ts : List L2V) (yd : List DV), ts.length = N → copiesL2S ss ts → yd.length = dn → copiesDS dx yd → sitB cl N ts gn G sn S r bn bx an ax dn yd s = sitB cl N ss gn G sn S r bn bx an ax dn dx s) := fun ts yd h1 h2 hd cd => by rw [sitB, sitB, siteB, siteB, plnB, plnB, copies_catP (by rw [h1, HL.out]) h2, catP_copies (by rw [h1, HL.out]) h2, pins_copies (by rw [h1, HL.out]) h2, dones_copy (by rw [hd, hA.ld]) cd]
  obtain ⟨v, hv⟩ : ∃ v, v = (sitB cl N ss gn G sn S r bn bx an ax dn dx s) := ⟨_, rfl⟩
  have HW : Hid (v = (sitB cl N ss gn G sn S r bn bx an ax dn dx s)) := hv
  clear hv hb mb ha ma hd md ld hA
  have hn0 : (w2.cell? ⟨w.heap.size, 0, none⟩ = some (.int .i64 cl) ∧ w2.cell? ⟨w.heap.size, 1, none⟩ = some (.slice ad N cap) ∧ w2.cell? ⟨w.heap.size, 2, none⟩ = some (.slice ga gn gc) ∧ w2.cell? ⟨w.heap.size, 3, none⟩ = some (.slice sa sn sc)) ∧ (w2.cell? ⟨(w.heap.size + 1), 0, none⟩ = some (.bool u) ∧ w2.cell? ⟨(w.heap.size + 1), 1, none⟩ = some (.bool f) ∧ w2.cell? ⟨(w.heap.size + 1), 2, none⟩ = some (.int .i64 r) ∧ w2.cell? ⟨(w.heap.size + 1), 3, none⟩ = some (.slice ba bn bc) ∧ w2.cell? ⟨(w.heap.size + 1), 4, none⟩ = some (.slice aa an ac) ∧ w2.cell? ⟨(w.heap.size + 1), 5, none⟩ = some (.slice da dn dc)) := ⟨q_2.quadP, r_2.sixP⟩
  go_upto_region 8 with fail
  go_region_held3 (fun w' => (w'.cell? ⟨w.heap.size, 0, none⟩ = some (.int .i64 cl) ∧ w'.cell? ⟨w.heap.size, 1, none⟩ = some (.slice ad N cap) ∧ w'.cell? ⟨w.heap.size, 2, none⟩ = some (.slice ga gn gc) ∧ w'.cell? ⟨w.heap.size, 3, none⟩ = some (.slice sa sn sc)) ∧ (w'.cell? ⟨(w.heap.size + 1), 0, none⟩ = some (.bool u) ∧ w'.cell? ⟨(w.heap.size + 1), 1, none⟩ = some (.bool f) ∧ w'.cell? ⟨(w.heap.size + 1), 2, none⟩ = some (.int .i64 r) ∧ w'.cell? ⟨(w.heap.size + 1), 3, none⟩ = some (.slice ba bn bc) ∧ w'.cell? ⟨(w.heap.size + 1), 4, none⟩ = some (.slice aa an ac) ∧ w'.cell? ⟨(w.heap.size + 1), 5, none⟩ = some (.slice da dn dc))) (first | with_reducible assumption | exact hn0)
    (first
      | (go_at_call 9
         refine (toP_any _ _ _ _ ss _ _ _ G _ _ _ S _ (by exact A_2.drewP)).mono ?_
         rintro ee w3 ⟨Y1, Y2, Y3, us, rfl, lu, cu, bd_3, my, ky, ly⟩
         have b_3 := below_of_drew bd_3
         have B_3 := B_2.trans (b_3.mono B_2.size)
         have q_3 := q_2.below b_3
         have r_3 := r_2.below b_3
         have A_3 := A_2.below b_3
         have E_3 := E_2.below b_3
         have PY : PlAt w3 (some ⟨Y1, 0, none⟩) N us (some ⟨Y2, 0, none⟩) gn G (some ⟨Y3, 0, none⟩) sn S := ⟨my.g, lu, A_3.za, ky.ints' A_3.g.1, A_3.zg, ly.ints' A_3.s.1, A_3.zs⟩
         have hn3 : (w3.cell? ⟨w.heap.size, 0, none⟩ = some (.int .i64 cl) ∧ w3.cell? ⟨w.heap.size, 1, none⟩ = some (.slice ad N cap) ∧ w3.cell? ⟨w.heap.size, 2, none⟩ = some (.slice ga gn gc) ∧ w3.cell? ⟨w.heap.size, 3, none⟩ = some (.slice sa sn sc)) ∧ (w3.cell? ⟨(w.heap.size + 1), 0, none⟩ = some (.bool u) ∧ w3.cell? ⟨(w.heap.size + 1), 1, none⟩ = some (.bool f) ∧ w3.cell? ⟨(w.heap.size + 1), 2, none⟩ = some (.int .i64 r) ∧ w3.cell? ⟨(w.heap.size + 1), 3, none⟩ = some (.slice ba bn bc) ∧ w3.cell? ⟨(w.heap.size + 1), 4, none⟩ = some (.slice aa an ac) ∧ w3.cell? ⟨(w.heap.size + 1), 5, none⟩ = some (.slice da dn dc)) := ⟨q_3.quadP, r_3.sixP⟩)
      | (go_at_call 10
         refine (toSt_any _ _ _ _ _ _ bx _ _ _ ax _ _ _ dx _ (by exact E_3)).mono ?_
         rintro ee w4 ⟨Zb, Za, Zd, yZd, rfl, lgZd, cpZd, b_4, kZb, kZa, kZd, -⟩
         have B_4 := B_3.trans (b_4.mono B_3.size)
         have q_4 := q_3.below b_4
         have r_4 := r_3.below b_4
         have A_4 := A_3.below b_4
         have E_4 := E_3.below b_4
         have PZ := PY.below b_4
         have EZ : StAt w4 (some ⟨Zb, 0, none⟩) bn bx (some ⟨Za, 0, none⟩) an ax (some ⟨Zd, 0, none⟩) dn yZd := ⟨kZb.ints' E_4.b.1, E_4.zb, kZa.ints' E_4.a.1, E_4.za, kZd.g, lgZd, E_4.zd⟩
         have HU : Hid _ := HH.out us yZd lu cu lgZd cpZd
         have hn4 : (w4.cell? ⟨w.heap.size, 0, none⟩ = some (.int .i64 cl) ∧ w4.cell? ⟨w.heap.size, 1, none⟩ = some (.slice ad N cap) ∧ w4.cell? ⟨w.heap.size, 2, none⟩ = some (.slice ga gn gc) ∧ w4.cell? ⟨w.heap.size, 3, none⟩ = some (.slice sa sn sc)) ∧ (w4.cell? ⟨(w.heap.size + 1), 0, none⟩ = some (.bool u) ∧ w4.cell? ⟨(w.heap.size + 1), 1, none⟩ = some (.bool f) ∧ w4.cell? ⟨(w.heap.size + 1), 2, none⟩ = some (.int .i64 r) ∧ w4.cell? ⟨(w.heap.size + 1), 3, none⟩ = some (.slice ba bn bc) ∧ w4.cell? ⟨(w.heap.size + 1), 4, none⟩ = some (.slice aa an ac) ∧ w4.cell? ⟨(w.heap.size + 1), 5, none⟩ = some (.slice da dn dc)) := ⟨q_4.quadP, r_4.sixP⟩)
      | (go_at_call 8
         refine (ssitok_any _ _ _ _ _ _ _ _ _ _ us G S _ _ _ _ _ _ bx _ _ _ ax _ _ _ yZd _ _ (by exact PZ) (by exact EZ)).mono ?_
         rintro ee w5 ⟨rfl, b_5⟩
         rw [HU.out, ← HW.out]
         have B_5 := B_4.trans (b_5.mono B_4.size)
         have q_5 := q_4.below b_5
         have r_5 := r_4.below b_5
         have A_5 := A_4.below b_5
         have E_5 := E_4.below b_5
         have hn5 : (w5.cell? ⟨w.heap.size, 0, none⟩ = some (.int .i64 cl) ∧ w5.cell? ⟨w.heap.size, 1, none⟩ = some (.slice ad N cap) ∧ w5.cell? ⟨w.heap.size, 2, none⟩ = some (.slice ga gn gc) ∧ w5.cell? ⟨w.heap.size, 3, none⟩ = some (.slice sa sn sc)) ∧ (w5.cell? ⟨(w.heap.size + 1), 0, none⟩ = some (.bool u) ∧ w5.cell? ⟨(w.heap.size + 1), 1, none⟩ = some (.bool f) ∧ w5.cell? ⟨(w.heap.size + 1), 2, none⟩ = some (.int .i64 r) ∧ w5.cell? ⟨(w.heap.size + 1), 3, none⟩ = some (.slice ba bn bc) ∧ w5.cell? ⟨(w.heap.size + 1), 4, none⟩ = some (.slice aa an ac) ∧ w5.cell? ⟨(w.heap.size + 1), 5, none⟩ = some (.slice da dn dc)) := ⟨q_5.quadP, r_5.sixP⟩))
  clear hn0 hn3 hn4 hn5 B_2 B_3 B_4 b_3 b_4 b_5 bd_3 q_2 q_3 q_4 r_2 r_3 r_4 my ky ly PY PZ EZ HU lu cu A_2 A_3 A_4 E_2 E_3 E_4
  obtain ⟨c0, c1, c2, c3⟩ := q_5.quadP
  obtain ⟨d0, d1, d2, d3, d4, d5⟩ := r_5.sixP
  go_wp2_with fail
  refine (toP_any _ _ _ _ ss _ _ _ G _ _ _ S _ A_5).mono ?_
  rintro rr w6 ⟨D1, D2, D3, ts, rfl, lt, cp, b_6, m_6, k_6, l_6⟩
  have HT : Hid (ts.length = N) := lt
  have HC : Hid (copiesL2S ss ts) := cp
  have HLE : Hid _ := m_6.lens lt
  have B_6 := B_5.trans (b_6.mono B_5.size)
  have q_6 := (q_5.below b_6).alloc (.cells #[.int .i64 cl, .slice (some ⟨D1, 0, none⟩) N N, .slice (some ⟨D2, 0, none⟩) gn gn, .slice (some ⟨D3, 0, none⟩) sn sn] 34)
  have r_6 := (r_5.below b_6).alloc (.cells #[.int .i64 cl, .slice (some ⟨D1, 0, none⟩) N N, .slice (some ⟨D2, 0, none⟩) gn gn, .slice (some ⟨D3, 0, none⟩) sn sn] 34)
  have xb_6 := Cel.new w6 [.int .i64 cl, .slice (some ⟨D1, 0, none⟩) N N, .slice (some ⟨D2, 0, none⟩) gn gn, .slice (some ⟨D3, 0, none⟩) sn sn] 34
  have P_6 : PlAt w6 (some ⟨D1, 0, none⟩) N ts (some ⟨D2, 0, none⟩) gn G (some ⟨D3, 0, none⟩) sn S := ⟨m_6.g, lt, A_5.za, k_6.ints' A_5.g.1, A_5.zg, l_6.ints' A_5.s.1, A_5.zs⟩
  have A_7 := (A_5.below b_6).alloc (.cells #[.int .i64 cl, .slice (some ⟨D1, 0, none⟩) N N, .slice (some ⟨D2, 0, none⟩) gn gn, .slice (some ⟨D3, 0, none⟩) sn sn] 34)
  have E_7 := (E_5.below b_6).alloc (.cells #[.int .i64 cl, .slice (some ⟨D1, 0, none⟩) N N, .slice (some ⟨D2, 0, none⟩) gn gn, .slice (some ⟨D3, 0, none⟩) sn sn] 34)
  have P_7 := P_6.alloc (.cells #[.int .i64 cl, .slice (some ⟨D1, 0, none⟩) N N, .slice (some ⟨D2, 0, none⟩) gn gn, .slice (some ⟨D3, 0, none⟩) sn sn] 34)
  have B_7 := B_6.alloc B_6.size (.cells #[.int .i64 cl, .slice (some ⟨D1, 0, none⟩) N N, .slice (some ⟨D2, 0, none⟩) gn gn, .slice (some ⟨D3, 0, none⟩) sn sn] 34)
  obtain ⟨W7, hW7⟩ : ∃ W, W = w6.alloc (.cells #[.int .i64 cl, .slice (some ⟨D1, 0, none⟩) N N, .slice (some ⟨D2, 0, none⟩) gn gn, .slice (some ⟨D3, 0, none⟩) sn sn] 34) := ⟨_, rfl⟩
  clear c0 c1 c2 c3 d0 d1 d2 d3 d4 d5 q_5 r_5 B_5 b_6 m_6 k_6 l_6 lt cp P_6 B_6 A_5 E_5
  obtain ⟨d0, d1, d2, d3, d4, d5⟩ := r_6.sixP
  go_wp2_with fail
  rw [← hW7]
  rw [← hW7] at q_6 r_6 xb_6 P_7 A_7 E_7 B_7
  clear hW7 d0 d1 d2 d3 d4 d5
  refine (toSt_any _ _ _ _ _ _ bx _ _ _ ax _ _ _ dx _ E_7).mono ?_
  rintro rr w8 ⟨Fb, Fa, Fd, yFd, rfl, lgFd, cpFd, b_8, kFb, kFa, kFd, -⟩
  have LGFd : Hid _ := lgFd
  have CPFd : Hid _ := cpFd
  have EF : StAt w8 (some ⟨Fb, 0, none⟩) bn bx (some ⟨Fa, 0, none⟩) an ax (some ⟨Fd, 0, none⟩) dn yFd := ⟨kFb.ints' E_7.b.1, E_7.zb, kFa.ints' E_7.a.1, E_7.za, kFd.g, lgFd, E_7.zd⟩
  have B_8 := B_7.trans (b_8.mono B_7.size)
  have q_8 := (q_6.below b_8).alloc (.cells #[.bool u, .bool f, .int .i64 r, .slice (some ⟨Fb, 0, none⟩) bn bn, .slice (some ⟨Fa, 0, none⟩) an an, .slice (some ⟨Fd, 0, none⟩) dn dn] 38)
  have r_8 := (r_6.below b_8).alloc (.cells #[.bool u, .bool f, .int .i64 r, .slice (some ⟨Fb, 0, none⟩) bn bn, .slice (some ⟨Fa, 0, none⟩) an an, .slice (some ⟨Fd, 0, none⟩) dn dn] 38)
  have xb_8 := (xb_6.below b_8).alloc (.cells #[.bool u, .bool f, .int .i64 r, .slice (some ⟨Fb, 0, none⟩) bn bn, .slice (some ⟨Fa, 0, none⟩) an an, .slice (some ⟨Fd, 0, none⟩) dn dn] 38)
  have yb_8 := Cel.new w8 [.bool u, .bool f, .int .i64 r, .slice (some ⟨Fb, 0, none⟩) bn bn, .slice (some ⟨Fa, 0, none⟩) an an, .slice (some ⟨Fd, 0, none⟩) dn dn] 38
  have A_8 := (A_7.below b_8).alloc (.cells #[.bool u, .bool f, .int .i64 r, .slice (some ⟨Fb, 0, none⟩) bn bn, .slice (some ⟨Fa, 0, none⟩) an an, .slice (some ⟨Fd, 0, none⟩) dn dn] 38)
  have E_8 := (E_7.below b_8).alloc (.cells #[.bool u, .bool f, .int .i64 r, .slice (some ⟨Fb, 0, none⟩) bn bn, .slice (some ⟨Fa, 0, none⟩) an an, .slice (some ⟨Fd, 0, none⟩) dn dn] 38)
  have P_8 := (P_7.below b_8).alloc (.cells #[.bool u, .bool f, .int .i64 r, .slice (some ⟨Fb, 0, none⟩) bn bn, .slice (some ⟨Fa, 0, none⟩) an an, .slice (some ⟨Fd, 0, none⟩) dn dn] 38)
  have F_8 := EF.alloc (.cells #[.bool u, .bool f, .int .i64 r, .slice (some ⟨Fb, 0, none⟩) bn bn, .slice (some ⟨Fa, 0, none⟩) an an, .slice (some ⟨Fd, 0, none⟩) dn dn] 38)
  have B_9 := B_8.alloc B_8.size (.cells #[.bool u, .bool f, .int .i64 r, .slice (some ⟨Fb, 0, none⟩) bn bn, .slice (some ⟨Fa, 0, none⟩) an an, .slice (some ⟨Fd, 0, none⟩) dn dn] 38)
  obtain ⟨W9, hW9⟩ : ∃ W, W = w8.alloc (.cells #[.bool u, .bool f, .int .i64 r, .slice (some ⟨Fb, 0, none⟩) bn bn, .slice (some ⟨Fa, 0, none⟩) an an, .slice (some ⟨Fd, 0, none⟩) dn dn] 38) := ⟨_, rfl⟩
  have HV : Hid _ := HH.out ts yFd HT.out HC.out LGFd.out CPFd.out
  clear q_6 r_6 xb_6 P_7 A_7 E_7 B_7 b_8 B_8 EF lgFd cpFd
  obtain ⟨e0, e1, e2, e3⟩ := xb_8.quadP
  obtain ⟨f0, f1, f2, f3, f4, f5⟩ := yb_8.sixP
  go_wp2_with fail
  rw [← hW9]
  rw [← hW9] at q_8 r_8 xb_8 yb_8 P_8 A_8 E_8 F_8 B_9
  clear hW9 e0 e1 e2 e3 f0 f1 f2 f3 f4 f5
  refine (isitok_any _ _ _ _ _ _ _ _ _ _ ts G S _ _ _ _ _ _ bx _ _ _ ax _ _ _ yFd _ _ P_8 F_8 (fun w' h' => HTB.out w' (B_9.trans (h'.mono B_9.size)))).mono ?_
  rintro rr w10 ⟨rfl, b_10⟩
  rw [HV.out, ← HW.out]
  have hvv : (v != v) = false := by cases v <;> rfl
  have B_10 := B_9.trans (b_10.mono B_9.size)
  have q_10 := q_8.below b_10
  have r_10 := r_8.below b_10
  have xb_10 := xb_8.below b_10
  have yb_10 := yb_8.below b_10
  have P_10 := P_8.below b_10
  have A_10 := A_8.below b_10
  have E_10 := E_8.below b_10
  have F_10 := F_8.below b_10
  clear q_8 r_8 xb_8 yb_8 P_8 A_8 E_8 F_8 B_9 b_10
  have hn10 : (w10.cell? ⟨w.heap.size, 0, none⟩ = some (.int .i64 cl) ∧ w10.cell? ⟨w.heap.size, 1, none⟩ = some (.slice ad N cap) ∧ w10.cell? ⟨w.heap.size, 2, none⟩ = some (.slice ga gn gc) ∧ w10.cell? ⟨w.heap.size, 3, none⟩ = some (.slice sa sn sc)) ∧ (w10.cell? ⟨w6.heap.size, 0, none⟩ = some (.int .i64 cl) ∧ w10.cell? ⟨w6.heap.size, 1, none⟩ = some (.slice (some ⟨D1, 0, none⟩) N N) ∧ w10.cell? ⟨w6.heap.size, 2, none⟩ = some (.slice (some ⟨D2, 0, none⟩) gn gn) ∧ w10.cell? ⟨w6.heap.size, 3, none⟩ = some (.slice (some ⟨D3, 0, none⟩) sn sn)) := ⟨q_10.quadP, xb_10.quadP⟩
  go_upto_region 14 with fail
  go_region_held3 (fun w' => (w'.cell? ⟨w.heap.size, 0, none⟩ = some (.int .i64 cl) ∧ w'.cell? ⟨w.heap.size, 1, none⟩ = some (.slice ad N cap) ∧ w'.cell? ⟨w.heap.size, 2, none⟩ = some (.slice ga gn gc) ∧ w'.cell? ⟨w.heap.size, 3, none⟩ = some (.slice sa sn sc)) ∧ (w'.cell? ⟨w6.heap.size, 0, none⟩ = some (.int .i64 cl) ∧ w'.cell? ⟨w6.heap.size, 1, none⟩ = some (.slice (some ⟨D1, 0, none⟩) N N) ∧ w'.cell? ⟨w6.heap.size, 2, none⟩ = some (.slice (some ⟨D2, 0, none⟩) gn gn) ∧ w'.cell? ⟨w6.heap.size, 3, none⟩ = some (.slice (some ⟨D3, 0, none⟩) sn sn))) (first | with_reducible assumption | exact hn10)
    (first
      | (go_at_call 9
         refine (toP_any _ _ _ _ ss _ _ _ G _ _ _ S _ (by exact A_10.drewP)).mono ?_
         rintro ee w11 ⟨Y1, Y2, Y3, us, rfl, lu, cu, bd_11, my, ky, ly⟩
         have b_11 := below_of_drew bd_11
         have B_11 := B_10.trans (b_11.mono B_10.size)
         have q_11 := q_10.below b_11
         have r_11 := r_10.below b_11
         have xb_11 := xb_10.below b_11
         have yb_11 := yb_10.below b_11
         have A_11 := A_10.below b_11
         have P_11 := P_10.below b_11
         have E_11 := E_10.below b_11
         have F_11 := F_10.below b_11
         have PY : PlAt w11 (some ⟨Y1, 0, none⟩) N us (some ⟨Y2, 0, none⟩) gn G (some ⟨Y3, 0, none⟩) sn S := ⟨my.g, lu, A_11.za, ky.ints' A_11.g.1, A_11.zg, ly.ints' A_11.s.1, A_11.zs⟩
         have HU : Hid _ := copies_sameP HT.out lu HC.out cu HLE.out
         have hn11 : (w11.cell? ⟨w.heap.size, 0, none⟩ = some (.int .i64 cl) ∧ w11.cell? ⟨w.heap.size, 1, none⟩ = some (.slice ad N cap) ∧ w11.cell? ⟨w.heap.size, 2, none⟩ = some (.slice ga gn gc) ∧ w11.cell? ⟨w.heap.size, 3, none⟩ = some (.slice sa sn sc)) ∧ (w11.cell? ⟨w6.heap.size, 0, none⟩ = some (.int .i64 cl) ∧ w11.cell? ⟨w6.heap.size, 1, none⟩ = some (.slice (some ⟨D1, 0, none⟩) N N) ∧ w11.cell? ⟨w6.heap.size, 2, none⟩ = some (.slice (some ⟨D2, 0, none⟩) gn gn) ∧ w11.cell? ⟨w6.heap.size, 3, none⟩ = some (.slice (some ⟨D3, 0, none⟩) sn sn)) := ⟨q_11.quadP, xb_11.quadP⟩)
      | (go_at_call 12
         refine (eqP_same _ _ _ _ ts _ _ _ G _ _ _ S _ _ us _ _ _ _ _ (by exact P_11) (by exact PY) (by exact HU.out)).mono ?_
         rintro ee w12 ⟨rfl, b_12⟩
         have B_12 := B_11.trans (b_12.mono B_11.size)
         have q_12 := q_11.below b_12
         have r_12 := r_11.below b_12
         have xb_12 := xb_11.below b_12
         have yb_12 := yb_11.below b_12
         have E_12 := E_11.below b_12
         have F_12 := F_11.below b_12
         have hn12 : (w12.cell? ⟨w.heap.size, 0, none⟩ = some (.int .i64 cl) ∧ w12.cell? ⟨w.heap.size, 1, none⟩ = some (.slice ad N cap) ∧ w12.cell? ⟨w.heap.size, 2, none⟩ = some (.slice ga gn gc) ∧ w12.cell? ⟨w.heap.size, 3, none⟩ = some (.slice sa sn sc)) ∧ (w12.cell? ⟨w6.heap.size, 0, none⟩ = some (.int .i64 cl) ∧ w12.cell? ⟨w6.heap.size, 1, none⟩ = some (.slice (some ⟨D1, 0, none⟩) N N) ∧ w12.cell? ⟨w6.heap.size, 2, none⟩ = some (.slice (some ⟨D2, 0, none⟩) gn gn) ∧ w12.cell? ⟨w6.heap.size, 3, none⟩ = some (.slice (some ⟨D3, 0, none⟩) sn sn)) := ⟨q_12.quadP, xb_12.quadP⟩))
  clear hn10 hn11 hn12 B_10 B_11 b_11 b_12 bd_11 q_10 q_11 q_12 r_10 r_11 xb_10 xb_11 xb_12 yb_10 yb_11 A_10 A_11 P_10 P_11 E_10 E_11 F_10 F_11 PY my ky ly HU lu cu us
  have hm12 : (w12.cell? ⟨(w.heap.size + 1), 0, none⟩ = some (.bool u) ∧ w12.cell? ⟨(w.heap.size + 1), 1, none⟩ = some (.bool f) ∧ w12.cell? ⟨(w.heap.size + 1), 2, none⟩ = some (.int .i64 r) ∧ w12.cell? ⟨(w.heap.size + 1), 3, none⟩ = some (.slice ba bn bc) ∧ w12.cell? ⟨(w.heap.size + 1), 4, none⟩ = some (.slice aa an ac) ∧ w12.cell? ⟨(w.heap.size + 1), 5, none⟩ = some (.slice da dn dc)) ∧ (w12.cell? ⟨w8.heap.size, 0, none⟩ = some (.bool u) ∧ w12.cell? ⟨w8.heap.size, 1, none⟩ = some (.bool f) ∧ w12.cell? ⟨w8.heap.size, 2, none⟩ = some (.int .i64 r) ∧ w12.cell? ⟨w8.heap.size, 3, none⟩ = some (.slice (some ⟨Fb, 0, none⟩) bn bn) ∧ w12.cell? ⟨w8.heap.size, 4, none⟩ = some (.slice (some ⟨Fa, 0, none⟩) an an) ∧ w12.cell? ⟨w8.heap.size, 5, none⟩ = some (.slice (some ⟨Fd, 0, none⟩) dn dn)) := ⟨r_12.sixP, yb_12.sixP⟩
  go_upto_region 16 with fail
  go_region_held3 (fun w' => (w'.cell? ⟨(w.heap.size + 1), 0, none⟩ = some (.bool u) ∧ w'.cell? ⟨(w.heap.size + 1), 1, none⟩ = some (.bool f) ∧ w'.cell? ⟨(w.heap.size + 1), 2, none⟩ = some (.int .i64 r) ∧ w'.cell? ⟨(w.heap.size + 1), 3, none⟩ = some (.slice ba bn bc) ∧ w'.cell? ⟨(w.heap.size + 1), 4, none⟩ = some (.slice aa an ac) ∧ w'.cell? ⟨(w.heap.size + 1), 5, none⟩ = some (.slice da dn dc)) ∧ (w'.cell? ⟨w8.heap.size, 0, none⟩ = some (.bool u) ∧ w'.cell? ⟨w8.heap.size, 1, none⟩ = some (.bool f) ∧ w'.cell? ⟨w8.heap.size, 2, none⟩ = some (.int .i64 r) ∧ w'.cell? ⟨w8.heap.size, 3, none⟩ = some (.slice (some ⟨Fb, 0, none⟩) bn bn) ∧ w'.cell? ⟨w8.heap.size, 4, none⟩ = some (.slice (some ⟨Fa, 0, none⟩) an an) ∧ w'.cell? ⟨w8.heap.size, 5, none⟩ = some (.slice (some ⟨Fd, 0, none⟩) dn dn))) (first | with_reducible assumption | exact hm12)
    (first
      | (go_at_call 10
         refine (toSt_any _ _ _ _ _ _ bx _ _ _ ax _ _ _ dx _ (by exact E_12.drewS)).mono ?_
         rintro ee w13 ⟨Ub, Ua, Ud, yUd, rfl, lgUd, cpUd, bd_13, kUb, kUa, kUd, -⟩
         have b_13 := below_of_drew bd_13
         have B_13 := B_12.trans (b_13.mono B_12.size)
         have r_13 := r_12.below b_13
         have yb_13 := yb_12.below b_13
         have E_13 := E_12.below b_13
         have F_13 := F_12.below b_13
         have EU : StAt w13 (some ⟨Ub, 0, none⟩) bn bx (some ⟨Ua, 0, none⟩) an ax (some ⟨Ud, 0, none⟩) dn yUd := ⟨kUb.ints' E_13.b.1, E_13.zb, kUa.ints' E_13.a.1, E_13.za, kUd.g, lgUd, E_13.zd⟩
         have SMd : Hid _ := same_copyD LGFd.out lgUd CPFd.out cpUd
         have hm13 : (w13.cell? ⟨(w.heap.size + 1), 0, none⟩ = some (.bool u) ∧ w13.cell? ⟨(w.heap.size + 1), 1, none⟩ = some (.bool f) ∧ w13.cell? ⟨(w.heap.size + 1), 2, none⟩ = some (.int .i64 r) ∧ w13.cell? ⟨(w.heap.size + 1), 3, none⟩ = some (.slice ba bn bc) ∧ w13.cell? ⟨(w.heap.size + 1), 4, none⟩ = some (.slice aa an ac) ∧ w13.cell? ⟨(w.heap.size + 1), 5, none⟩ = some (.slice da dn dc)) ∧ (w13.cell? ⟨w8.heap.size, 0, none⟩ = some (.bool u) ∧ w13.cell? ⟨w8.heap.size, 1, none⟩ = some (.bool f) ∧ w13.cell? ⟨w8.heap.size, 2, none⟩ = some (.int .i64 r) ∧ w13.cell? ⟨w8.heap.size, 3, none⟩ = some (.slice (some ⟨Fb, 0, none⟩) bn bn) ∧ w13.cell? ⟨w8.heap.size, 4, none⟩ = some (.slice (some ⟨Fa, 0, none⟩) an an) ∧ w13.cell? ⟨w8.heap.size, 5, none⟩ = some (.slice (some ⟨Fd, 0, none⟩) dn dn)) := ⟨r_13.sixP, yb_13.sixP⟩)
      | (go_at_call 13
         refine (eqSt_same _ _ _ _ _ _ bx _ _ _ ax _ _ _ yFd _ _ _ _ _ _ yUd _ (by exact F_13) (by exact EU) (by exact SMd.out)).mono ?_
         rintro ee w14 ⟨rfl, b_14⟩
         have B_14 := B_13.trans (b_14.mono B_13.size)
         have r_14 := r_13.below b_14
         have yb_14 := yb_13.below b_14
         have hm14 : (w14.cell? ⟨(w.heap.size + 1), 0, none⟩ = some (.bool u) ∧ w14.cell? ⟨(w.heap.size + 1), 1, none⟩ = some (.bool f) ∧ w14.cell? ⟨(w.heap.size + 1), 2, none⟩ = some (.int .i64 r) ∧ w14.cell? ⟨(w.heap.size + 1), 3, none⟩ = some (.slice ba bn bc) ∧ w14.cell? ⟨(w.heap.size + 1), 4, none⟩ = some (.slice aa an ac) ∧ w14.cell? ⟨(w.heap.size + 1), 5, none⟩ = some (.slice da dn dc)) ∧ (w14.cell? ⟨w8.heap.size, 0, none⟩ = some (.bool u) ∧ w14.cell? ⟨w8.heap.size, 1, none⟩ = some (.bool f) ∧ w14.cell? ⟨w8.heap.size, 2, none⟩ = some (.int .i64 r) ∧ w14.cell? ⟨w8.heap.size, 3, none⟩ = some (.slice (some ⟨Fb, 0, none⟩) bn bn) ∧ w14.cell? ⟨w8.heap.size, 4, none⟩ = some (.slice (some ⟨Fa, 0, none⟩) an an) ∧ w14.cell? ⟨w8.heap.size, 5, none⟩ = some (.slice (some ⟨Fd, 0, none⟩) dn dn)) := ⟨r_14.sixP, yb_14.sixP⟩))
  clear hm12 hm13 hm14 B_12 B_13 b_13 b_14 bd_13 r_12 r_13 r_14 yb_12 yb_13 yb_14 E_12 E_13 F_12 F_13 EU
  go_wp2
  go_ret
  exact ⟨rfl, B_14⟩

/-- A tied card whose row tells of goroutines. -/
theorem card_goes (Lk : Looks) {p : Pinned} {s : OpenSpec} {c : OpenClaim} (kinds : List LaidKind) (tests : Bool) (har : Bool × String) (lk : Bool) (hc : c.holds p s) (hw : c.wfByText s = true) (htie : c.laidByTextAt Lk p kinds tests)
    (hst : c.start = .entering) (hnb : c.noBlocks = false ∧ c.again = false) (hm : p.checked.prog.mainIs = some (har.1, har.2.toList)) (hn : (!har.1 && har.2.isEmpty && !lk) = false)
    (hl : ∀ f fn, p.checked.prog.funcNamed c.func = some f → p.checked.prog.funcs[f]? = some fn → lk = p.checked.prog.looks [] ∧ ∀ (j : Nat) t, fn.params[j]? = some t → p.checked.prog.wantsStandIn t = false)
    (hg : true = c.goesBy p.checked.prog) :
    Claim7.holds p (.plain s) { stood := { row := c, standIns := [], harness := har, looks := lk }, kinds := [], alts := [], goes := true, laidByText := true, laidKinds := kinds, laidTests := tests, laidLooks := Lk } := by
  have h6 : Claim7.isSixth { stood := { row := c, standIns := [], harness := har, looks := lk }, kinds := [] } = false := by simpa [Claim7.isSixth] using hn
  exact ⟨Claim7.tied_new_at Lk kinds tests (Claim7.new_of_sixth hc har lk hst hnb hm h6 hl) hw, (fun D hD => by cases hD), htie, (fun h => by cases h), hg⟩

/-- Who is alone at the return leaves nobody behind who acts. -/
theorem leaving_of_handed {a : Assume} {C : Checked} {os : Os} {f : FuncId} {r : Reach} {Pre : World → Array Value → Prop} {Post : World → Array Value → Value → World → Prop} (h : ReturnsInHanded a C os f r Pre Post) : ReturnsInLeavingWide a C os f r Pre Post := fun e =>
  ReturnsInOpen.mono (fun _ _ _ x => ⟨x.2.1, onlyLeaving_of_quiet x.1, x.2.2⟩) (fun _ x => x) (h e)

/-! ### The row's step -/
theorem tab_of {W : World} (h : laidMetH Tryz.prog Rows.fnExactSitOkRow.laid W) : Lib.TabIs Tryz.prog W "internal/strconv.uint64pow10" .u64 Lib.pow10Tab := by
  rw [MakeChecks.laidMetH_plain _ _ _ (by kernel_rfl)] at h
  have h2 : laidMet Tryz.prog [("internal/strconv.uint64pow10", Lib.tabData .u64 Lib.pow10Tab)] W := h.tail.tail
  exact Lib.tabIs_of_head (g := 1) (t := 247) (e := 240) (n := 20) (by kernel_rfl) (by kernel_rfl) Tryz.underlying247 Tryz.underlying240 (by kernel_rfl) (by kernel_rfl) h2

set_option maxRecDepth 100000 in
set_option maxHeartbeats 3200000 in
theorem lifted (os : Os) (started : os.Started) (H : Type) (enc : TypeId × Value → H) :
    ReturnsInHanded {} Tryz.checked os 3 .any (fun w args => (Rows.fnExactSitOkSpec.pre enc Tryz.prog Tryz.f3 Rows.fnExactSitOkRow.domain false w args ∧ laidMetH Tryz.prog Rows.fnExactSitOkRow.laid w) ∧ sizedMet enc Tryz.prog Tryz.f3 (OpenSpec.ofChange Rows.fnExactSitOkSpec) false w args) (Rows.fnExactSitOkSpec.post enc Tryz.prog Tryz.f3 false true false false) := by
  refine returnsInHanded_of_change_and (C := Tryz.checked) (X := fun w _ => laidMetH Tryz.prog Rows.fnExactSitOkRow.laid w) (fun _ _ _ hh h => h.of_heap hh) own started (by kernel_rfl) Tryz.func3
    (ChangeSpec.witness_shaped (enc := enc) (C := Tryz.checked) (os := os) (X := fun w _ => laidMetH Tryz.prog Rows.fnExactSitOkRow.laid w) false (World.laidAll Tryz.prog os Rows.fnExactSitOkRow.laid) #[.agg #[.int .i64 0, .slice none 0 0, .slice none 0 0, .slice none 0 0], .agg #[.bool false, .bool false, .int .i64 0, .slice none 0 0, .slice none 0 0, .slice none 0 0], .int .i64 0] 8 (World.laidAll_os _ _ _)
      (World.shaped_of_ZipB (by kernel_rfl) (by kernel_rfl)) (by kernel_rfl) (by kernel_rfl) (by kernel_rfl)
      (by rw [MakeChecks.laidMetH_plain _ _ _ (by kernel_rfl)]; exact laidMet_laidAll _ (by kernel_rfl) (by kernel_rfl))) ?_
  intro W base args ds gs before hval0 hW hcnd _ hL _
  have hval : ∀ (j : Nat) t v, Tryz.f3.params[j]? = some t → args[j]? = some v → Value.okWide Tryz.prog W .any base t v := hval0
  have hW' := hW
  obtain ⟨p, q, hA0, hV, rfl, hfz, hnd⟩ := hW
  have hA : DataW.TrodAll enc Tryz.prog W 0 (fun _ => true) true Tryz.f3.params.toList args.toList ds p := hA0
  rw [Tryz.params3] at hA hval
  obtain ⟨v0, vs0, d0, ds0, p0, q0, hargs, rfl, rfl, h0, r0⟩ := trodAll_cons hA
  obtain ⟨v1, vs1, d1, ds1, p1, q1, rfl, rfl, rfl, h1, r1⟩ := trodAll_cons r0
  obtain ⟨v2, vs2, d2, ds2, p2, q2, rfl, rfl, rfl, h2, r2⟩ := trodAll_cons r1
  obtain ⟨rfl, rfl, rfl⟩ := trodAll_nil r2
  obtain rfl : args = #[v0, v1, v2] := by cases args; simp_all
  obtain ⟨rfl, rfl⟩ := trodVars_none hV
  have k0 := h0
  have lt0 : ∀ x ∈ p0, x.block < W.heap.size := by obtain ⟨m, hm⟩ := k0; exact DataW.trod_lt m _ _ _ hm
  obtain ⟨cl0, ad0, N0, pc0, ss0, ga0, gn0, gc0, G0, sa0, sn0, sc0, S0, rfl, wc0, hl0, hM0, hN0, hG0, hg0, hS0, hs0⟩ := open_plan (hval 0 25 v0 rfl rfl) h0
  have k1 := h1
  have lt1 : ∀ x ∈ p1, x.block < W.heap.size := by obtain ⟨m, hm⟩ := k1; exact DataW.trod_lt m _ _ _ hm
  obtain ⟨zu1, zf1, zr1, zba1, zbn1, zbc1, zbx1, zaa1, zan1, zac1, zax1, zda1, zdn1, zdc1, zdx1, rfl, zwr1, zhb1, zmb1, zha1, zma1, zld1, zhd1, zmd1⟩ := open_site (hval 1 28 v1 rfl rfl) h1
  have k2 := h2
  have lt2 : ∀ x ∈ p2, x.block < W.heap.size := by obtain ⟨m, hm⟩ := k2; exact DataW.trod_lt m _ _ _ hm
  obtain ⟨x2, rfl, wx2⟩ := open_numT h2 (hval 2 3 v2 rfl rfl)
  clear hA0 hval0
  refine (walk W cl0 ad0 N0 pc0 ss0 ga0 gn0 gc0 G0 sa0 sn0 sc0 S0 hl0 hM0 hN0 hG0 hg0 hS0 hs0 zu1 zf1 zr1 zba1 zbn1 zbc1 zbx1 zaa1 zan1 zac1 zax1 zda1 zdn1 zdc1 zdx1 zhb1 zmb1 zha1 zma1 zld1 zhd1 zmd1 x2 wx2 (Lib.tabBelow_of_tabIs (tab_of hL))).mono fun e W' ⟨he, bel⟩ => ?_
  subst he
  exact ⟨_, rfl, _, _, _, [], _, [], hW', trodAll_mk1 (shut_bool Tryz.underlying4 _), (trodAll_cons_mk (Below.trod laidOut (by kernel_rfl) (of_decide_eq_true (by kernel_rfl)) k0 bel lt0) (trodAll_cons_mk (Below.trod laidOut (by kernel_rfl) (of_decide_eq_true (by kernel_rfl)) k1 bel lt1) (trodAll_cons_mk (Below.trod laidOut (by kernel_rfl) (of_decide_eq_true (by kernel_rfl)) k2 bel lt2) trodAll_mk0))), rfl, bel.frame _, fun h => by cases h⟩

theorem over : Rows.fnExactSitOkRow.holds Tryz.pinned (OpenSpec.ofChange Rows.fnExactSitOkSpec) :=
  OpenClaim.holds_of_wide 3 Tryz.f3 rfl rfl rfl rfl rfl rfl rfl ⟨rfl, rfl, rfl, rfl, rfl⟩ rfl rfl rfl rfl rfl (by kernel_rfl) Tryz.func3 (by kernel_rfl)
    (of_decide_eq_true (by kernel_rfl)) (by unfold Func.isWrapper; first | (rw [if_pos (by decide +kernel)]; kernel_rfl) | (rw [if_neg (by decide +kernel)]; exact ⟨rfl, rfl⟩))
    (fun os started H enc _ => lifted os started H enc)

end Go.Proofs.YtdigmokjedckeaaGreatDoor.fnExactSitOk
namespace Go.Proofs.YtdigmokjedckeaaGreatDoor
/-- The statement. -/
theorem fnExactSitOk_holds : Rows.FnExactSitOkCardSaid :=
  Claim7.holds_tied_plain_at .later [] [.data, .data, .data] true Rows.fnExactSitOkCard.stood.harness Rows.fnExactSitOkCard.stood.looks fnExactSitOk.over (fun _ h => by cases h) (by kernel_rfl) (fun _ h => by cases h) fnExactSitOk_row_tie rfl ⟨rfl, rfl⟩ (by kernel_rfl) rfl
    (fun f fn hf hfn => by
      obtain rfl : f = 3 := Option.some.inj ((show Tryz.prog.funcNamed Rows.fnExactSitOkRow.func = some 3 by kernel_rfl).symm.trans hf) |>.symm
      obtain rfl : fn = Tryz.f3 := (Option.some.inj (Tryz.func3.symm.trans hfn)).symm
      exact ⟨by kernel_rfl, fun j t ht => by
        rw [Tryz.params3] at ht
        have hm : t ∈ [25, 28, 3] := by simpa using Array.mem_of_getElem? ht
        have hall : ([25, 28, 3].all fun u => !Tryz.prog.wantsStandIn u) = true := by kernel_rfl
        exact (show Tryz.prog.wantsStandIn t = false by simpa using List.all_eq_true.1 hall t hm)⟩)
    (by kernel_rfl)
#print axioms fnExactSitOk_holds
end Go.Proofs.YtdigmokjedckeaaGreatDoor
