/-
  For every plan and every clerk FnExactClkOk returns true, and all read behind the call as they did; the library's tables that are listed are as its text lays them. No other condition.
-/
import Derived.Test.YtdigmokjedckeaaGreatDoorJExactClkOkCardG
import Derived.Test.YtdigmokjedckeaaGreatDoorTie
import Derived.Test.YtdigmokjedckeaaGreatDoorCards
import Derived.Stop.LaidErr
import Derived.Lib.LaidTab
import Derived.LaidMore
import Derived.Lay
import Derived.SevenTiedAt
import Derived.Stop.Joined
import Derived.Deep.RegionHeld3
import Derived.Deep.DeepCutAuto
import Derived.Conc.Holds
import Derived.Leaving
namespace Go.Proofs.YtdigmokjedckeaaGreatDoor.fnExactClkOk
open Go.ChangeShapes Go.WideShapes Go.ChangeAt Go.RowKit Go.Deep
set_option linter.unusedVariables false

set_option maxRecDepth 100000 in
set_option maxHeartbeats 12800000 in
theorem walk (w : World) (cl : Int) (ad : Option Addr) (N cap : Nat) (ss : List L2V) (ga : Option Addr) (gn gc : Nat) (G : List Int) (sa : Option Addr) (sn sc : Nat) (S : List Int) (hl : ss.length = N) (hM : LSM w ad ss) (hN : N ≤ maxLen) (hG : Ints w ga gn G) (hg : gn ≤ maxLen) (hS : Ints w sa sn S) (hs : sn ≤ maxLen)
    (u : Bool) (r : Int) (ba : Option Addr) (bn bc : Nat) (bx : List Int) (da : Option Addr) (dn dc : Nat) (dx : List DV) (ka : Option Addr) (kn kc : Nat) (kx : List QV) (ea : Option Addr) (en ec : Nat) (ex : List GV) (hb : Ints w ba bn bx) (mb : bn ≤ maxLen) (ld : dx.length = dn) (hd : DSM w da dx) (md : dn ≤ maxLen) (lk : kx.length = kn) (hk : QSM w ka kx) (mk : kn ≤ maxLen) (le : ex.length = en) (he : GSM w ea ex) (me : en ≤ maxLen) (hT : Lib.TabBelow Tryz.prog w.heap.size w "internal/strconv.uint64pow10" .u64 Lib.pow10Tab) :
    Calls Tryz.prog 4 #[plV cl ad N cap ga gn gc sa sn sc, ckV u r ba bn bc da dn dc ka kn kc ea en ec] w fun r w' => r = .returned (.bool true) ∧ Below w.heap.size w w' := by
  have HTB : Hid _ := hT
  clear hT
  have Ld : Hid (dx.length = dn) := ld
  clear ld
  have ld := Ld
  clear Ld
  have Lk : Hid (kx.length = kn) := lk
  clear lk
  have lk := Lk
  clear Lk
  have Le : Hid (ex.length = en) := le
  clear le
  have le := Le
  clear Le
  have q_0 := (Cel.new w [.int .i64 cl, .slice ad N cap, .slice ga gn gc, .slice sa sn sc] 25).alloc (.cells #[.bool u, .int .i64 r, .slice ba bn bc, .slice da dn dc, .slice ka kn kc, .slice ea en ec] 46)
  have r_0 := Cel.new (w.alloc (.cells #[.int .i64 cl, .slice ad N cap, .slice ga gn gc, .slice sa sn sc] 25)) [.bool u, .int .i64 r, .slice ba bn bc, .slice da dn dc, .slice ka kn kc, .slice ea en ec] 46
  rw [World.size_alloc] at r_0
  have B_0 := ((Below.refl w.heap.size w).alloc (Nat.le_refl _) (.cells #[.int .i64 cl, .slice ad N cap, .slice ga gn gc, .slice sa sn sc] 25)).alloc (by simp) (.cells #[.bool u, .int .i64 r, .slice ba bn bc, .slice da dn dc, .slice ka kn kc, .slice ea en ec] 46)
  have HL : Hid (ss.length = N) := hl
  clear hl
  go_enter Tryz.func4, Tryz.ntmps4
  go_wp2_with fail
  refine (szP_any _ _ _ _ ss _ _ _ G _ _ _ S _ _ HL.out (hM.below B_0) hN (hG.below B_0) hg (hS.below B_0) hs (by omega) (by omega)).mono ?_
  rintro rr w1 ⟨x, rfl, x1, x2, x3, b_1⟩
  have B_1 := B_0.trans (b_1.mono B_0.size)
  have q_1 := q_0.below b_1
  have r_1 := r_0.below b_1
  by_cases hx : x < 0
  · go_wp2
    go_ret
    exact ⟨rfl, B_1⟩
  have hx' : 0 ≤ x := by omega
  have A_1 := (x3 hx').below b_1
  clear q_0 r_0 B_0 b_1 x3 hx hM hG hS hN hg hs
  obtain ⟨d0, d1, d2, d3, d4, d5⟩ := r_1.sixP
  go_wp2_with fail
  refine (szCk_any _ _ _ _ _ bx _ _ _ dx _ _ _ kx _ _ _ ex _ _ (hb.below B_1) mb ld.out (hd.below B_1) md lk.out (hk.below B_1) mk le.out (he.below B_1) me hx' x2).mono ?_
  rintro rr w2 ⟨y, rfl, y1, y2, y3, b_2⟩
  have B_2 := B_1.trans (b_2.mono B_1.size)
  have q_2 := q_1.below b_2
  have r_2 := r_1.below b_2
  have A_2 := A_1.below b_2
  clear q_1 r_1 A_1 B_1 d0 d1 d2 d3 d4 d5
  by_cases hy0 : y < 0
  · go_wp2
    go_ret
    exact ⟨rfl, B_2⟩
  have hy' : 0 ≤ y := by omega
  have hA := y3 hy'
  have E_2 := hA.below b_2
  clear hy0 y1 y2 y3 x1 x2 hx' b_2
  have HH : Hid (∀ (ts : List L2V) (yd : List DV) (yk : List QV) (ye : List GV), ts.length = N → copiesL2S ss ts → yd.length = dn → copiesDS dx yd → yk.length = kn → copiesQS kx yk → ye.length = en → copiesGS ex ye → clkB cl N ts gn G sn S u r bn bx dn yd kn yk en ye = clkB cl N ss gn G sn S u r bn bx dn dx kn kx en ex) := fun ts yd yk ye h1 h2 hd cd hk ck hg cg => by exact clkB_copy (by rw [h1, HL.out]) h2 (by rw [hd, hA.ld]) cd hk ck hg hA.lg cg
  obtain ⟨v, hv⟩ : ∃ v, v = (clkB cl N ss gn G sn S u r bn bx dn dx kn kx en ex) := ⟨_, rfl⟩
  have HW : Hid (v = (clkB cl N ss gn G sn S u r bn bx dn dx kn kx en ex)) := hv
  clear hv hb mb hd md ld hk mk lk he me le hA
  have hn0 : (w2.cell? ⟨w.heap.size, 0, none⟩ = some (.int .i64 cl) ∧ w2.cell? ⟨w.heap.size, 1, none⟩ = some (.slice ad N cap) ∧ w2.cell? ⟨w.heap.size, 2, none⟩ = some (.slice ga gn gc) ∧ w2.cell? ⟨w.heap.size, 3, none⟩ = some (.slice sa sn sc)) ∧ (w2.cell? ⟨(w.heap.size + 1), 0, none⟩ = some (.bool u) ∧ w2.cell? ⟨(w.heap.size + 1), 1, none⟩ = some (.int .i64 r) ∧ w2.cell? ⟨(w.heap.size + 1), 2, none⟩ = some (.slice ba bn bc) ∧ w2.cell? ⟨(w.heap.size + 1), 3, none⟩ = some (.slice da dn dc) ∧ w2.cell? ⟨(w.heap.size + 1), 4, none⟩ = some (.slice ka kn kc) ∧ w2.cell? ⟨(w.heap.size + 1), 5, none⟩ = some (.slice ea en ec)) := ⟨q_2.quadP, r_2.sixP⟩
  go_upto_region 8 with fail
  go_region_held3 (fun w' => (w'.cell? ⟨w.heap.size, 0, none⟩ = some (.int .i64 cl) ∧ w'.cell? ⟨w.heap.size, 1, none⟩ = some (.slice ad N cap) ∧ w'.cell? ⟨w.heap.size, 2, none⟩ = some (.slice ga gn gc) ∧ w'.cell? ⟨w.heap.size, 3, none⟩ = some (.slice sa sn sc)) ∧ (w'.cell? ⟨(w.heap.size + 1), 0, none⟩ = some (.bool u) ∧ w'.cell? ⟨(w.heap.size + 1), 1, none⟩ = some (.int .i64 r) ∧ w'.cell? ⟨(w.heap.size + 1), 2, none⟩ = some (.slice ba bn bc) ∧ w'.cell? ⟨(w.heap.size + 1), 3, none⟩ = some (.slice da dn dc) ∧ w'.cell? ⟨(w.heap.size + 1), 4, none⟩ = some (.slice ka kn kc) ∧ w'.cell? ⟨(w.heap.size + 1), 5, none⟩ = some (.slice ea en ec))) (first | with_reducible assumption | exact hn0)
    (first
      | (go_at_call 9
         refine (toP_any _ _ _ _ ss _ _ _ G _ _ _ S _ (by exact A_2.drewP)).mono ?_
         rintro ee w3 ⟨Y1, Y2, Y3, us, rfl, lu, cu, bd_3, my, ky, ly⟩
         have b_3 := below_of_drew bd_3
         have B_3 := B_2.trans (b_3.mono B_2.size)
         have q_3 := q_2.below b_3
         have r_3 := r_2.below b_3
         have A_3 := A_2.below b_3
         have E_3 := E_2.below b_3
         have PY : PlAt w3 (some ⟨Y1, 0, none⟩) N us (some ⟨Y2, 0, none⟩) gn G (some ⟨Y3, 0, none⟩) sn S := ⟨my.g, lu, A_3.za, ky.ints' A_3.g.1, A_3.zg, ly.ints' A_3.s.1, A_3.zs⟩
         have hn3 : (w3.cell? ⟨w.heap.size, 0, none⟩ = some (.int .i64 cl) ∧ w3.cell? ⟨w.heap.size, 1, none⟩ = some (.slice ad N cap) ∧ w3.cell? ⟨w.heap.size, 2, none⟩ = some (.slice ga gn gc) ∧ w3.cell? ⟨w.heap.size, 3, none⟩ = some (.slice sa sn sc)) ∧ (w3.cell? ⟨(w.heap.size + 1), 0, none⟩ = some (.bool u) ∧ w3.cell? ⟨(w.heap.size + 1), 1, none⟩ = some (.int .i64 r) ∧ w3.cell? ⟨(w.heap.size + 1), 2, none⟩ = some (.slice ba bn bc) ∧ w3.cell? ⟨(w.heap.size + 1), 3, none⟩ = some (.slice da dn dc) ∧ w3.cell? ⟨(w.heap.size + 1), 4, none⟩ = some (.slice ka kn kc) ∧ w3.cell? ⟨(w.heap.size + 1), 5, none⟩ = some (.slice ea en ec)) := ⟨q_3.quadP, r_3.sixP⟩)
      | (go_at_call 16
         refine (toCk_any _ _ _ _ _ bx _ _ _ dx _ _ _ kx _ _ _ ex _ (by exact E_3)).mono ?_
         rintro ee w4 ⟨Zb, Zd, yZd, Zk, yZk, Ze, yZe, rfl, lgZd, cpZd, lgZk, cpZk, lgZe, cpZe, b_4, kZb, kZd, kZk, kZe, -⟩
         have B_4 := B_3.trans (b_4.mono B_3.size)
         have q_4 := q_3.below b_4
         have r_4 := r_3.below b_4
         have A_4 := A_3.below b_4
         have E_4 := E_3.below b_4
         have PZ := PY.below b_4
         have EZ : CkAt w4 (some ⟨Zb, 0, none⟩) bn bx (some ⟨Zd, 0, none⟩) dn yZd (some ⟨Zk, 0, none⟩) kn yZk (some ⟨Ze, 0, none⟩) en yZe := ⟨kZb.ints' E_4.b.1, E_4.zb, kZd.g, lgZd, E_4.zd, kZk.g, lgZk, E_4.zk, kZe.g, lgZe, E_4.zg⟩
         have HU : Hid _ := HH.out us yZd yZk yZe lu cu lgZd cpZd lgZk cpZk lgZe cpZe
         have hn4 : (w4.cell? ⟨w.heap.size, 0, none⟩ = some (.int .i64 cl) ∧ w4.cell? ⟨w.heap.size, 1, none⟩ = some (.slice ad N cap) ∧ w4.cell? ⟨w.heap.size, 2, none⟩ = some (.slice ga gn gc) ∧ w4.cell? ⟨w.heap.size, 3, none⟩ = some (.slice sa sn sc)) ∧ (w4.cell? ⟨(w.heap.size + 1), 0, none⟩ = some (.bool u) ∧ w4.cell? ⟨(w.heap.size + 1), 1, none⟩ = some (.int .i64 r) ∧ w4.cell? ⟨(w.heap.size + 1), 2, none⟩ = some (.slice ba bn bc) ∧ w4.cell? ⟨(w.heap.size + 1), 3, none⟩ = some (.slice da dn dc) ∧ w4.cell? ⟨(w.heap.size + 1), 4, none⟩ = some (.slice ka kn kc) ∧ w4.cell? ⟨(w.heap.size + 1), 5, none⟩ = some (.slice ea en ec)) := ⟨q_4.quadP, r_4.sixP⟩)
      | (go_at_call 15
         refine (sclkok_any _ _ _ _ _ _ _ _ _ _ us G S _ _ _ _ _ bx _ _ _ yZd _ _ _ yZk _ _ _ yZe _ (by exact PZ) (by exact EZ)).mono ?_
         rintro ee w5 ⟨rfl, b_5⟩
         rw [HU.out, ← HW.out]
         have B_5 := B_4.trans (b_5.mono B_4.size)
         have q_5 := q_4.below b_5
         have r_5 := r_4.below b_5
         have A_5 := A_4.below b_5
         have E_5 := E_4.below b_5
         have hn5 : (w5.cell? ⟨w.heap.size, 0, none⟩ = some (.int .i64 cl) ∧ w5.cell? ⟨w.heap.size, 1, none⟩ = some (.slice ad N cap) ∧ w5.cell? ⟨w.heap.size, 2, none⟩ = some (.slice ga gn gc) ∧ w5.cell? ⟨w.heap.size, 3, none⟩ = some (.slice sa sn sc)) ∧ (w5.cell? ⟨(w.heap.size + 1), 0, none⟩ = some (.bool u) ∧ w5.cell? ⟨(w.heap.size + 1), 1, none⟩ = some (.int .i64 r) ∧ w5.cell? ⟨(w.heap.size + 1), 2, none⟩ = some (.slice ba bn bc) ∧ w5.cell? ⟨(w.heap.size + 1), 3, none⟩ = some (.slice da dn dc) ∧ w5.cell? ⟨(w.heap.size + 1), 4, none⟩ = some (.slice ka kn kc) ∧ w5.cell? ⟨(w.heap.size + 1), 5, none⟩ = some (.slice ea en ec)) := ⟨q_5.quadP, r_5.sixP⟩))
  clear hn0 hn3 hn4 hn5 B_2 B_3 B_4 b_3 b_4 b_5 bd_3 q_2 q_3 q_4 r_2 r_3 r_4 my ky ly PY PZ EZ HU lu cu A_2 A_3 A_4 E_2 E_3 E_4
  obtain ⟨c0, c1, c2, c3⟩ := q_5.quadP
  obtain ⟨d0, d1, d2, d3, d4, d5⟩ := r_5.sixP
  go_wp2_with fail
  refine (toP_any _ _ _ _ ss _ _ _ G _ _ _ S _ A_5).mono ?_
  rintro rr w6 ⟨D1, D2, D3, ts, rfl, lt, cp, b_6, m_6, k_6, l_6⟩
  have HT : Hid (ts.length = N) := lt
  have HC : Hid (copiesL2S ss ts) := cp
  have HLE : Hid _ := m_6.lens lt
  have B_6 := B_5.trans (b_6.mono B_5.size)
  have q_6 := (q_5.below b_6).alloc (.cells #[.int .i64 cl, .slice (some ⟨D1, 0, none⟩) N N, .slice (some ⟨D2, 0, none⟩) gn gn, .slice (some ⟨D3, 0, none⟩) sn sn] 34)
  have r_6 := (r_5.below b_6).alloc (.cells #[.int .i64 cl, .slice (some ⟨D1, 0, none⟩) N N, .slice (some ⟨D2, 0, none⟩) gn gn, .slice (some ⟨D3, 0, none⟩) sn sn] 34)
  have xb_6 := Cel.new w6 [.int .i64 cl, .slice (some ⟨D1, 0, none⟩) N N, .slice (some ⟨D2, 0, none⟩) gn gn, .slice (some ⟨D3, 0, none⟩) sn sn] 34
  have P_6 : PlAt w6 (some ⟨D1, 0, none⟩) N ts (some ⟨D2, 0, none⟩) gn G (some ⟨D3, 0, none⟩) sn S := ⟨m_6.g, lt, A_5.za, k_6.ints' A_5.g.1, A_5.zg, l_6.ints' A_5.s.1, A_5.zs⟩
  have A_7 := (A_5.below b_6).alloc (.cells #[.int .i64 cl, .slice (some ⟨D1, 0, none⟩) N N, .slice (some ⟨D2, 0, none⟩) gn gn, .slice (some ⟨D3, 0, none⟩) sn sn] 34)
  have E_7 := (E_5.below b_6).alloc (.cells #[.int .i64 cl, .slice (some ⟨D1, 0, none⟩) N N, .slice (some ⟨D2, 0, none⟩) gn gn, .slice (some ⟨D3, 0, none⟩) sn sn] 34)
  have P_7 := P_6.alloc (.cells #[.int .i64 cl, .slice (some ⟨D1, 0, none⟩) N N, .slice (some ⟨D2, 0, none⟩) gn gn, .slice (some ⟨D3, 0, none⟩) sn sn] 34)
  have B_7 := B_6.alloc B_6.size (.cells #[.int .i64 cl, .slice (some ⟨D1, 0, none⟩) N N, .slice (some ⟨D2, 0, none⟩) gn gn, .slice (some ⟨D3, 0, none⟩) sn sn] 34)
  obtain ⟨W7, hW7⟩ : ∃ W, W = w6.alloc (.cells #[.int .i64 cl, .slice (some ⟨D1, 0, none⟩) N N, .slice (some ⟨D2, 0, none⟩) gn gn, .slice (some ⟨D3, 0, none⟩) sn sn] 34) := ⟨_, rfl⟩
  clear c0 c1 c2 c3 d0 d1 d2 d3 d4 d5 q_5 r_5 B_5 b_6 m_6 k_6 l_6 lt cp P_6 B_6 A_5 E_5
  obtain ⟨d0, d1, d2, d3, d4, d5⟩ := r_6.sixP
  go_wp2_with fail
  rw [← hW7]
  rw [← hW7] at q_6 r_6 xb_6 P_7 A_7 E_7 B_7
  clear hW7 d0 d1 d2 d3 d4 d5
  refine (toCk_any _ _ _ _ _ bx _ _ _ dx _ _ _ kx _ _ _ ex _ E_7).mono ?_
  rintro rr w8 ⟨Fb, Fd, yFd, Fk, yFk, Fe, yFe, rfl, lgFd, cpFd, lgFk, cpFk, lgFe, cpFe, b_8, kFb, kFd, kFk, kFe, -⟩
  have LGFd : Hid _ := lgFd
  have CPFd : Hid _ := cpFd
  have LGFk : Hid _ := lgFk
  have CPFk : Hid _ := cpFk
  have LGFe : Hid _ := lgFe
  have CPFe : Hid _ := cpFe
  have EF : CkAt w8 (some ⟨Fb, 0, none⟩) bn bx (some ⟨Fd, 0, none⟩) dn yFd (some ⟨Fk, 0, none⟩) kn yFk (some ⟨Fe, 0, none⟩) en yFe := ⟨kFb.ints' E_7.b.1, E_7.zb, kFd.g, lgFd, E_7.zd, kFk.g, lgFk, E_7.zk, kFe.g, lgFe, E_7.zg⟩
  have B_8 := B_7.trans (b_8.mono B_7.size)
  have q_8 := (q_6.below b_8).alloc (.cells #[.bool u, .int .i64 r, .slice (some ⟨Fb, 0, none⟩) bn bn, .slice (some ⟨Fd, 0, none⟩) dn dn, .slice (some ⟨Fk, 0, none⟩) kn kn, .slice (some ⟨Fe, 0, none⟩) en en] 52)
  have r_8 := (r_6.below b_8).alloc (.cells #[.bool u, .int .i64 r, .slice (some ⟨Fb, 0, none⟩) bn bn, .slice (some ⟨Fd, 0, none⟩) dn dn, .slice (some ⟨Fk, 0, none⟩) kn kn, .slice (some ⟨Fe, 0, none⟩) en en] 52)
  have xb_8 := (xb_6.below b_8).alloc (.cells #[.bool u, .int .i64 r, .slice (some ⟨Fb, 0, none⟩) bn bn, .slice (some ⟨Fd, 0, none⟩) dn dn, .slice (some ⟨Fk, 0, none⟩) kn kn, .slice (some ⟨Fe, 0, none⟩) en en] 52)
  have yb_8 := Cel.new w8 [.bool u, .int .i64 r, .slice (some ⟨Fb, 0, none⟩) bn bn, .slice (some ⟨Fd, 0, none⟩) dn dn, .slice (some ⟨Fk, 0, none⟩) kn kn, .slice (some ⟨Fe, 0, none⟩) en en] 52
  have A_8 := (A_7.below b_8).alloc (.cells #[.bool u, .int .i64 r, .slice (some ⟨Fb, 0, none⟩) bn bn, .slice (some ⟨Fd, 0, none⟩) dn dn, .slice (some ⟨Fk, 0, none⟩) kn kn, .slice (some ⟨Fe, 0, none⟩) en en] 52)
  have E_8 := (E_7.below b_8).alloc (.cells #[.bool u, .int .i64 r, .slice (some ⟨Fb, 0, none⟩) bn bn, .slice (some ⟨Fd, 0, none⟩) dn dn, .slice (some ⟨Fk, 0, none⟩) kn kn, .slice (some ⟨Fe, 0, none⟩) en en] 52)
  have P_8 := (P_7.below b_8).alloc (.cells #[.bool u, .int .i64 r, .slice (some ⟨Fb, 0, none⟩) bn bn, .slice (some ⟨Fd, 0, none⟩) dn dn, .slice (some ⟨Fk, 0, none⟩) kn kn, .slice (some ⟨Fe, 0, none⟩) en en] 52)
  have F_8 := EF.alloc (.cells #[.bool u, .int .i64 r, .slice (some ⟨Fb, 0, none⟩) bn bn, .slice (some ⟨Fd, 0, none⟩) dn dn, .slice (some ⟨Fk, 0, none⟩) kn kn, .slice (some ⟨Fe, 0, none⟩) en en] 52)
  have B_9 := B_8.alloc B_8.size (.cells #[.bool u, .int .i64 r, .slice (some ⟨Fb, 0, none⟩) bn bn, .slice (some ⟨Fd, 0, none⟩) dn dn, .slice (some ⟨Fk, 0, none⟩) kn kn, .slice (some ⟨Fe, 0, none⟩) en en] 52)
  obtain ⟨W9, hW9⟩ : ∃ W, W = w8.alloc (.cells #[.bool u, .int .i64 r, .slice (some ⟨Fb, 0, none⟩) bn bn, .slice (some ⟨Fd, 0, none⟩) dn dn, .slice (some ⟨Fk, 0, none⟩) kn kn, .slice (some ⟨Fe, 0, none⟩) en en] 52) := ⟨_, rfl⟩
  have HV : Hid _ := HH.out ts yFd yFk yFe HT.out HC.out LGFd.out CPFd.out LGFk.out CPFk.out LGFe.out CPFe.out
  clear q_6 r_6 xb_6 P_7 A_7 E_7 B_7 b_8 B_8 EF lgFd cpFd lgFk cpFk lgFe cpFe
  obtain ⟨e0, e1, e2, e3⟩ := xb_8.quadP
  obtain ⟨f0, f1, f2, f3, f4, f5⟩ := yb_8.sixP
  go_wp2_with fail
  rw [← hW9]
  rw [← hW9] at q_8 r_8 xb_8 yb_8 P_8 A_8 E_8 F_8 B_9
  clear hW9 e0 e1 e2 e3 f0 f1 f2 f3 f4 f5
  refine (iclkok_any _ _ _ _ _ _ _ _ _ _ ts G S _ _ _ _ _ bx _ _ _ yFd _ _ _ yFk _ _ _ yFe _ P_8 F_8 (fun w' h' => HTB.out w' (B_9.trans (h'.mono B_9.size)))).mono ?_
  rintro rr w10 ⟨rfl, b_10⟩
  rw [HV.out, ← HW.out]
  have hvv : (v != v) = false := by cases v <;> rfl
  have B_10 := B_9.trans (b_10.mono B_9.size)
  have q_10 := q_8.below b_10
  have r_10 := r_8.below b_10
  have xb_10 := xb_8.below b_10
  have yb_10 := yb_8.below b_10
  have P_10 := P_8.below b_10
  have A_10 := A_8.below b_10
  have E_10 := E_8.below b_10
  have F_10 := F_8.below b_10
  clear q_8 r_8 xb_8 yb_8 P_8 A_8 E_8 F_8 B_9 b_10
  have hn10 : (w10.cell? ⟨w.heap.size, 0, none⟩ = some (.int .i64 cl) ∧ w10.cell? ⟨w.heap.size, 1, none⟩ = some (.slice ad N cap) ∧ w10.cell? ⟨w.heap.size, 2, none⟩ = some (.slice ga gn gc) ∧ w10.cell? ⟨w.heap.size, 3, none⟩ = some (.slice sa sn sc)) ∧ (w10.cell? ⟨w6.heap.size, 0, none⟩ = some (.int .i64 cl) ∧ w10.cell? ⟨w6.heap.size, 1, none⟩ = some (.slice (some ⟨D1, 0, none⟩) N N) ∧ w10.cell? ⟨w6.heap.size, 2, none⟩ = some (.slice (some ⟨D2, 0, none⟩) gn gn) ∧ w10.cell? ⟨w6.heap.size, 3, none⟩ = some (.slice (some ⟨D3, 0, none⟩) sn sn)) := ⟨q_10.quadP, xb_10.quadP⟩
  go_upto_region 14 with fail
  go_region_held3 (fun w' => (w'.cell? ⟨w.heap.size, 0, none⟩ = some (.int .i64 cl) ∧ w'.cell? ⟨w.heap.size, 1, none⟩ = some (.slice ad N cap) ∧ w'.cell? ⟨w.heap.size, 2, none⟩ = some (.slice ga gn gc) ∧ w'.cell? ⟨w.heap.size, 3, none⟩ = some (.slice sa sn sc)) ∧ (w'.cell? ⟨w6.heap.size, 0, none⟩ = some (.int .i64 cl) ∧ w'.cell? ⟨w6.heap.size, 1, none⟩ = some (.slice (some ⟨D1, 0, none⟩) N N) ∧ w'.cell? ⟨w6.heap.size, 2, none⟩ = some (.slice (some ⟨D2, 0, none⟩) gn gn) ∧ w'.cell? ⟨w6.heap.size, 3, none⟩ = some (.slice (some ⟨D3, 0, none⟩) sn sn))) (first | with_reducible assumption | exact hn10)
    (first
      | (go_at_call 9
         refine (toP_any _ _ _ _ ss _ _ _ G _ _ _ S _ (by exact A_10.drewP)).mono ?_
         rintro ee w11 ⟨Y1, Y2, Y3, us, rfl, lu, cu, bd_11, my, ky, ly⟩
         have b_11 := below_of_drew bd_11
         have B_11 := B_10.trans (b_11.mono B_10.size)
         have q_11 := q_10.below b_11
         have r_11 := r_10.below b_11
         have xb_11 := xb_10.below b_11
         have yb_11 := yb_10.below b_11
         have A_11 := A_10.below b_11
         have P_11 := P_10.below b_11
         have E_11 := E_10.below b_11
         have F_11 := F_10.below b_11
         have PY : PlAt w11 (some ⟨Y1, 0, none⟩) N us (some ⟨Y2, 0, none⟩) gn G (some ⟨Y3, 0, none⟩) sn S := ⟨my.g, lu, A_11.za, ky.ints' A_11.g.1, A_11.zg, ly.ints' A_11.s.1, A_11.zs⟩
         have HU : Hid _ := copies_sameP HT.out lu HC.out cu HLE.out
         have hn11 : (w11.cell? ⟨w.heap.size, 0, none⟩ = some (.int .i64 cl) ∧ w11.cell? ⟨w.heap.size, 1, none⟩ = some (.slice ad N cap) ∧ w11.cell? ⟨w.heap.size, 2, none⟩ = some (.slice ga gn gc) ∧ w11.cell? ⟨w.heap.size, 3, none⟩ = some (.slice sa sn sc)) ∧ (w11.cell? ⟨w6.heap.size, 0, none⟩ = some (.int .i64 cl) ∧ w11.cell? ⟨w6.heap.size, 1, none⟩ = some (.slice (some ⟨D1, 0, none⟩) N N) ∧ w11.cell? ⟨w6.heap.size, 2, none⟩ = some (.slice (some ⟨D2, 0, none⟩) gn gn) ∧ w11.cell? ⟨w6.heap.size, 3, none⟩ = some (.slice (some ⟨D3, 0, none⟩) sn sn)) := ⟨q_11.quadP, xb_11.quadP⟩)
      | (go_at_call 12
         refine (eqP_same _ _ _ _ ts _ _ _ G _ _ _ S _ _ us _ _ _ _ _ (by exact P_11) (by exact PY) (by exact HU.out)).mono ?_
         rintro ee w12 ⟨rfl, b_12⟩
         have B_12 := B_11.trans (b_12.mono B_11.size)
         have q_12 := q_11.below b_12
         have r_12 := r_11.below b_12
         have xb_12 := xb_11.below b_12
         have yb_12 := yb_11.below b_12
         have E_12 := E_11.below b_12
         have F_12 := F_11.below b_12
         have hn12 : (w12.cell? ⟨w.heap.size, 0, none⟩ = some (.int .i64 cl) ∧ w12.cell? ⟨w.heap.size, 1, none⟩ = some (.slice ad N cap) ∧ w12.cell? ⟨w.heap.size, 2, none⟩ = some (.slice ga gn gc) ∧ w12.cell? ⟨w.heap.size, 3, none⟩ = some (.slice sa sn sc)) ∧ (w12.cell? ⟨w6.heap.size, 0, none⟩ = some (.int .i64 cl) ∧ w12.cell? ⟨w6.heap.size, 1, none⟩ = some (.slice (some ⟨D1, 0, none⟩) N N) ∧ w12.cell? ⟨w6.heap.size, 2, none⟩ = some (.slice (some ⟨D2, 0, none⟩) gn gn) ∧ w12.cell? ⟨w6.heap.size, 3, none⟩ = some (.slice (some ⟨D3, 0, none⟩) sn sn)) := ⟨q_12.quadP, xb_12.quadP⟩))
  clear hn10 hn11 hn12 B_10 B_11 b_11 b_12 bd_11 q_10 q_11 q_12 r_10 r_11 xb_10 xb_11 xb_12 yb_10 yb_11 A_10 A_11 P_10 P_11 E_10 E_11 F_10 F_11 PY my ky ly HU lu cu us
  have hm12 : (w12.cell? ⟨(w.heap.size + 1), 0, none⟩ = some (.bool u) ∧ w12.cell? ⟨(w.heap.size + 1), 1, none⟩ = some (.int .i64 r) ∧ w12.cell? ⟨(w.heap.size + 1), 2, none⟩ = some (.slice ba bn bc) ∧ w12.cell? ⟨(w.heap.size + 1), 3, none⟩ = some (.slice da dn dc) ∧ w12.cell? ⟨(w.heap.size + 1), 4, none⟩ = some (.slice ka kn kc) ∧ w12.cell? ⟨(w.heap.size + 1), 5, none⟩ = some (.slice ea en ec)) ∧ (w12.cell? ⟨w8.heap.size, 0, none⟩ = some (.bool u) ∧ w12.cell? ⟨w8.heap.size, 1, none⟩ = some (.int .i64 r) ∧ w12.cell? ⟨w8.heap.size, 2, none⟩ = some (.slice (some ⟨Fb, 0, none⟩) bn bn) ∧ w12.cell? ⟨w8.heap.size, 3, none⟩ = some (.slice (some ⟨Fd, 0, none⟩) dn dn) ∧ w12.cell? ⟨w8.heap.size, 4, none⟩ = some (.slice (some ⟨Fk, 0, none⟩) kn kn) ∧ w12.cell? ⟨w8.heap.size, 5, none⟩ = some (.slice (some ⟨Fe, 0, none⟩) en en)) := ⟨r_12.sixP, yb_12.sixP⟩
  go_upto_region 16 with fail
  go_region_held3 (fun w' => (w'.cell? ⟨(w.heap.size + 1), 0, none⟩ = some (.bool u) ∧ w'.cell? ⟨(w.heap.size + 1), 1, none⟩ = some (.int .i64 r) ∧ w'.cell? ⟨(w.heap.size + 1), 2, none⟩ = some (.slice ba bn bc) ∧ w'.cell? ⟨(w.heap.size + 1), 3, none⟩ = some (.slice da dn dc) ∧ w'.cell? ⟨(w.heap.size + 1), 4, none⟩ = some (.slice ka kn kc) ∧ w'.cell? ⟨(w.heap.size + 1), 5, none⟩ = some (.slice ea en ec)) ∧ (w'.cell? ⟨w8.heap.size, 0, none⟩ = some (.bool u) ∧ w'.cell? ⟨w8.heap.size, 1, none⟩ = some (.int .i64 r) ∧ w'.cell? ⟨w8.heap.size, 2, none⟩ = some (.slice (some ⟨Fb, 0, none⟩) bn bn) ∧ w'.cell? ⟨w8.heap.size, 3, none⟩ = some (.slice (some ⟨Fd, 0, none⟩) dn dn) ∧ w'.cell? ⟨w8.heap.size, 4, none⟩ = some (.slice (some ⟨Fk, 0, none⟩) kn kn) ∧ w'.cell? ⟨w8.heap.size, 5, none⟩ = some (.slice (some ⟨Fe, 0, none⟩) en en))) (first | with_reducible assumption | exact hm12)
    (first
      | (go_at_call 16
         refine (toCk_any _ _ _ _ _ bx _ _ _ dx _ _ _ kx _ _ _ ex _ (by exact E_12.drewS)).mono ?_
         rintro ee w13 ⟨Ub, Ud, yUd, Uk, yUk, Ue, yUe, rfl, lgUd, cpUd, lgUk, cpUk, lgUe, cpUe, bd_13, kUb, kUd, kUk, kUe, -⟩
         have b_13 := below_of_drew bd_13
         have B_13 := B_12.trans (b_13.mono B_12.size)
         have r_13 := r_12.below b_13
         have yb_13 := yb_12.below b_13
         have E_13 := E_12.below b_13
         have F_13 := F_12.below b_13
         have EU : CkAt w13 (some ⟨Ub, 0, none⟩) bn bx (some ⟨Ud, 0, none⟩) dn yUd (some ⟨Uk, 0, none⟩) kn yUk (some ⟨Ue, 0, none⟩) en yUe := ⟨kUb.ints' E_13.b.1, E_13.zb, kUd.g, lgUd, E_13.zd, kUk.g, lgUk, E_13.zk, kUe.g, lgUe, E_13.zg⟩
         have SMd : Hid _ := same_copyD LGFd.out lgUd CPFd.out cpUd
         have SMk : Hid _ := same_copyQ LGFk.out lgUk CPFk.out cpUk
         have SMe : Hid _ := same_copyG LGFe.out lgUe CPFe.out cpUe
         have hm13 : (w13.cell? ⟨(w.heap.size + 1), 0, none⟩ = some (.bool u) ∧ w13.cell? ⟨(w.heap.size + 1), 1, none⟩ = some (.int .i64 r) ∧ w13.cell? ⟨(w.heap.size + 1), 2, none⟩ = some (.slice ba bn bc) ∧ w13.cell? ⟨(w.heap.size + 1), 3, none⟩ = some (.slice da dn dc) ∧ w13.cell? ⟨(w.heap.size + 1), 4, none⟩ = some (.slice ka kn kc) ∧ w13.cell? ⟨(w.heap.size + 1), 5, none⟩ = some (.slice ea en ec)) ∧ (w13.cell? ⟨w8.heap.size, 0, none⟩ = some (.bool u) ∧ w13.cell? ⟨w8.heap.size, 1, none⟩ = some (.int .i64 r) ∧ w13.cell? ⟨w8.heap.size, 2, none⟩ = some (.slice (some ⟨Fb, 0, none⟩) bn bn) ∧ w13.cell? ⟨w8.heap.size, 3, none⟩ = some (.slice (some ⟨Fd, 0, none⟩) dn dn) ∧ w13.cell? ⟨w8.heap.size, 4, none⟩ = some (.slice (some ⟨Fk, 0, none⟩) kn kn) ∧ w13.cell? ⟨w8.heap.size, 5, none⟩ = some (.slice (some ⟨Fe, 0, none⟩) en en)) := ⟨r_13.sixP, yb_13.sixP⟩)
      | (go_at_call 18
         refine (eqCk_same _ _ _ _ _ bx _ _ _ yFd _ _ _ yFk _ _ _ yFe _ _ _ _ yUd _ _ yUk _ _ yUe _ (by exact F_13) (by exact EU) (by exact SMd.out) (by exact SMk.out) (by exact SMe.out)).mono ?_
         rintro ee w14 ⟨rfl, b_14⟩
         have B_14 := B_13.trans (b_14.mono B_13.size)
         have r_14 := r_13.below b_14
         have yb_14 := yb_13.below b_14
         have hm14 : (w14.cell? ⟨(w.heap.size + 1), 0, none⟩ = some (.bool u) ∧ w14.cell? ⟨(w.heap.size + 1), 1, none⟩ = some (.int .i64 r) ∧ w14.cell? ⟨(w.heap.size + 1), 2, none⟩ = some (.slice ba bn bc) ∧ w14.cell? ⟨(w.heap.size + 1), 3, none⟩ = some (.slice da dn dc) ∧ w14.cell? ⟨(w.heap.size + 1), 4, none⟩ = some (.slice ka kn kc) ∧ w14.cell? ⟨(w.heap.size + 1), 5, none⟩ = some (.slice ea en ec)) ∧ (w14.cell? ⟨w8.heap.size, 0, none⟩ = some (.bool u) ∧ w14.cell? ⟨w8.heap.size, 1, none⟩ = some (.int .i64 r) ∧ w14.cell? ⟨w8.heap.size, 2, none⟩ = some (.slice (some ⟨Fb, 0, none⟩) bn bn) ∧ w14.cell? ⟨w8.heap.size, 3, none⟩ = some (.slice (some ⟨Fd, 0, none⟩) dn dn) ∧ w14.cell? ⟨w8.heap.size, 4, none⟩ = some (.slice (some ⟨Fk, 0, none⟩) kn kn) ∧ w14.cell? ⟨w8.heap.size, 5, none⟩ = some (.slice (some ⟨Fe, 0, none⟩) en en)) := ⟨r_14.sixP, yb_14.sixP⟩))
  clear hm12 hm13 hm14 B_12 B_13 b_13 b_14 bd_13 r_12 r_13 r_14 yb_12 yb_13 yb_14 E_12 E_13 F_12 F_13 EU
  go_wp2
  go_ret
  exact ⟨rfl, B_14⟩

/-- A tied card whose row tells of goroutines. -/
theorem card_goes (Lk : Looks) {p : Pinned} {s : OpenSpec} {c : OpenClaim} (kinds : List LaidKind) (tests : Bool) (har : Bool × String) (lk : Bool) (hc : c.holds p s) (hw : c.wfByText s = true) (htie : c.laidByTextAt Lk p kinds tests)
    (hst : c.start = .entering) (hnb : c.noBlocks = false ∧ c.again = false) (hm : p.checked.prog.mainIs = some (har.1, har.2.toList)) (hn : (!har.1 && har.2.isEmpty && !lk) = false)
    (hl : ∀ f fn, p.checked.prog.funcNamed c.func = some f → p.checked.prog.funcs[f]? = some fn → lk = p.checked.prog.looks [] ∧ ∀ (j : Nat) t, fn.params[j]? = some t → p.checked.prog.wantsStandIn t = false)
    (hg : true = c.goesBy p.checked.prog) :
    Claim7.holds p (.plain s) { stood := { row := c, standIns := [], harness := har, looks := lk }, kinds := [], alts := [], goes := true, laidByText := true, laidKinds := kinds, laidTests := tests, laidLooks := Lk } := by
  have h6 : Claim7.isSixth { stood := { row := c, standIns := [], harness := har, looks := lk }, kinds := [] } = false := by simpa [Claim7.isSixth] using hn
  exact ⟨Claim7.tied_new_at Lk kinds tests (Claim7.new_of_sixth hc har lk hst hnb hm h6 hl) hw, (fun D hD => by cases hD), htie, (fun h => by cases h), hg⟩

/-- Who is alone at the return leaves nobody behind who acts. -/
theorem leaving_of_handed {a : Assume} {C : Checked} {os : Os} {f : FuncId} {r : Reach} {Pre : World → Array Value → Prop} {Post : World → Array Value → Value → World → Prop} (h : ReturnsInHanded a C os f r Pre Post) : ReturnsInLeavingWide a C os f r Pre Post := fun e =>
  ReturnsInOpen.mono (fun _ _ _ x => ⟨x.2.1, onlyLeaving_of_quiet x.1, x.2.2⟩) (fun _ x => x) (h e)

/-! ### The row's step -/
theorem tab_of {W : World} (h : laidMetH Tryz.prog Rows.fnExactClkOkRow.laid W) : Lib.TabIs Tryz.prog W "internal/strconv.uint64pow10" .u64 Lib.pow10Tab := by
  rw [MakeChecks.laidMetH_plain _ _ _ (by kernel_rfl)] at h
  have h2 : laidMet Tryz.prog [("internal/strconv.uint64pow10", Lib.tabData .u64 Lib.pow10Tab)] W := h.tail.tail
  exact Lib.tabIs_of_head (g := 1) (t := 247) (e := 240) (n := 20) (by kernel_rfl) (by kernel_rfl) Tryz.underlying247 Tryz.underlying240 (by kernel_rfl) (by kernel_rfl) h2

set_option maxRecDepth 100000 in
set_option maxHeartbeats 3200000 in
theorem lifted (os : Os) (started : os.Started) (H : Type) (enc : TypeId × Value → H) :
    ReturnsInHanded {} Tryz.checked os 4 .any (fun w args => (Rows.fnExactClkOkSpec.pre enc Tryz.prog Tryz.f4 Rows.fnExactClkOkRow.domain false w args ∧ laidMetH Tryz.prog Rows.fnExactClkOkRow.laid w) ∧ sizedMet enc Tryz.prog Tryz.f4 (OpenSpec.ofChange Rows.fnExactClkOkSpec) false w args) (Rows.fnExactClkOkSpec.post enc Tryz.prog Tryz.f4 false true false false) := by
  refine returnsInHanded_of_change_and (C := Tryz.checked) (X := fun w _ => laidMetH Tryz.prog Rows.fnExactClkOkRow.laid w) (fun _ _ _ hh h => h.of_heap hh) own started (by kernel_rfl) Tryz.func4
    (ChangeSpec.witness_shaped (enc := enc) (C := Tryz.checked) (os := os) (X := fun w _ => laidMetH Tryz.prog Rows.fnExactClkOkRow.laid w) false (World.laidAll Tryz.prog os Rows.fnExactClkOkRow.laid) #[.agg #[.int .i64 0, .slice none 0 0, .slice none 0 0, .slice none 0 0], .agg #[.bool false, .int .i64 0, .slice none 0 0, .slice none 0 0, .slice none 0 0, .slice none 0 0]] 8 (World.laidAll_os _ _ _)
      (World.shaped_of_ZipB (by kernel_rfl) (by kernel_rfl)) (by kernel_rfl) (by kernel_rfl) (by kernel_rfl)
      (by rw [MakeChecks.laidMetH_plain _ _ _ (by kernel_rfl)]; exact laidMet_laidAll _ (by kernel_rfl) (by kernel_rfl))) ?_
  intro W base args ds gs before hval0 hW hcnd _ hL _
  have hval : ∀ (j : Nat) t v, Tryz.f4.params[j]? = some t → args[j]? = some v → Value.okWide Tryz.prog W .any base t v := hval0
  have hW' := hW
  obtain ⟨p, q, hA0, hV, rfl, hfz, hnd⟩ := hW
  have hA : DataW.TrodAll enc Tryz.prog W 0 (fun _ => true) true Tryz.f4.params.toList args.toList ds p := hA0
  rw [Tryz.params4] at hA hval
  obtain ⟨v0, vs0, d0, ds0, p0, q0, hargs, rfl, rfl, h0, r0⟩ := trodAll_cons hA
  obtain ⟨v1, vs1, d1, ds1, p1, q1, rfl, rfl, rfl, h1, r1⟩ := trodAll_cons r0
  obtain ⟨rfl, rfl, rfl⟩ := trodAll_nil r1
  obtain rfl : args = #[v0, v1] := by cases args; simp_all
  obtain ⟨rfl, rfl⟩ := trodVars_none hV
  have k0 := h0
  have lt0 : ∀ x ∈ p0, x.block < W.heap.size := by obtain ⟨m, hm⟩ := k0; exact DataW.trod_lt m _ _ _ hm
  obtain ⟨cl0, ad0, N0, pc0, ss0, ga0, gn0, gc0, G0, sa0, sn0, sc0, S0, rfl, wc0, hl0, hM0, hN0, hG0, hg0, hS0, hs0⟩ := open_plan (hval 0 25 v0 rfl rfl) h0
  have k1 := h1
  have lt1 : ∀ x ∈ p1, x.block < W.heap.size := by obtain ⟨m, hm⟩ := k1; exact DataW.trod_lt m _ _ _ hm
  obtain ⟨zu1, zr1, zba1, zbn1, zbc1, zbx1, zda1, zdn1, zdc1, zdx1, zka1, zkn1, zkc1, zkx1, zea1, zen1, zec1, zex1, rfl, zwr1, zhb1, zmb1, zld1, zhd1, zmd1, zlk1, zhk1, zmk1, zle1, zhe1, zme1⟩ := open_clerk (hval 1 46 v1 rfl rfl) h1
  clear hA0 hval0
  refine (walk W cl0 ad0 N0 pc0 ss0 ga0 gn0 gc0 G0 sa0 sn0 sc0 S0 hl0 hM0 hN0 hG0 hg0 hS0 hs0 zu1 zr1 zba1 zbn1 zbc1 zbx1 zda1 zdn1 zdc1 zdx1 zka1 zkn1 zkc1 zkx1 zea1 zen1 zec1 zex1 zhb1 zmb1 zld1 zhd1 zmd1 zlk1 zhk1 zmk1 zle1 zhe1 zme1 (Lib.tabBelow_of_tabIs (tab_of hL))).mono fun e W' ⟨he, bel⟩ => ?_
  subst he
  exact ⟨_, rfl, _, _, _, [], _, [], hW', trodAll_mk1 (shut_bool Tryz.underlying4 _), (trodAll_cons_mk (Below.trod laidOut (by kernel_rfl) (of_decide_eq_true (by kernel_rfl)) k0 bel lt0) (trodAll_cons_mk (Below.trod laidOut (by kernel_rfl) (of_decide_eq_true (by kernel_rfl)) k1 bel lt1) trodAll_mk0)), rfl, bel.frame _, fun h => by cases h⟩

theorem over : Rows.fnExactClkOkRow.holds Tryz.pinned (OpenSpec.ofChange Rows.fnExactClkOkSpec) :=
  OpenClaim.holds_of_wide 4 Tryz.f4 rfl rfl rfl rfl rfl rfl rfl ⟨rfl, rfl, rfl, rfl, rfl⟩ rfl rfl rfl rfl rfl (by kernel_rfl) Tryz.func4 (by kernel_rfl)
    (of_decide_eq_true (by kernel_rfl)) (by unfold Func.isWrapper; first | (rw [if_pos (by decide +kernel)]; kernel_rfl) | (rw [if_neg (by decide +kernel)]; exact ⟨rfl, rfl⟩))
    (fun os started H enc _ => lifted os started H enc)

end Go.Proofs.YtdigmokjedckeaaGreatDoor.fnExactClkOk
namespace Go.Proofs.YtdigmokjedckeaaGreatDoor
/-- The statement. -/
theorem fnExactClkOk_holds : Rows.FnExactClkOkCardSaid :=
  Claim7.holds_tied_plain_at .later [] [.data, .data, .data] true Rows.fnExactClkOkCard.stood.harness Rows.fnExactClkOkCard.stood.looks fnExactClkOk.over (fun _ h => by cases h) (by kernel_rfl) (fun _ h => by cases h) fnExactClkOk_row_tie rfl ⟨rfl, rfl⟩ (by kernel_rfl) rfl
    (fun f fn hf hfn => by
      obtain rfl : f = 4 := Option.some.inj ((show Tryz.prog.funcNamed Rows.fnExactClkOkRow.func = some 4 by kernel_rfl).symm.trans hf) |>.symm
      obtain rfl : fn = Tryz.f4 := (Option.some.inj (Tryz.func4.symm.trans hfn)).symm
      exact ⟨by kernel_rfl, fun j t ht => by
        rw [Tryz.params4] at ht
        have hm : t ∈ [25, 46] := by simpa using Array.mem_of_getElem? ht
        have hall : ([25, 46].all fun u => !Tryz.prog.wantsStandIn u) = true := by kernel_rfl
        exact (show Tryz.prog.wantsStandIn t = false by simpa using List.all_eq_true.1 hall t hm)⟩)
    (by kernel_rfl)
#print axioms fnExactClkOk_holds
end Go.Proofs.YtdigmokjedckeaaGreatDoor
