/-
  For every plan and every call FnExactCallOk returns true, and both read behind the call as they did; the library's tables that are listed are as its text lays them. No other condition.
-/
import Derived.Test.YtejeffnonddfhaaDoorCallOkW
import Derived.Test.YtejeffnonddfhaaDoorTie
import Derived.Test.YtejeffnonddfhaaDoorCards
import Derived.Stop.LaidErr
import Derived.Lib.LaidTab
import Derived.LaidMore
import Derived.Lay
import Derived.SevenTiedAt
import Derived.Stop.Joined
import Derived.Deep.RegionHeld3
import Derived.Deep.DeepCutAuto
namespace Go.Proofs.YtejeffnonddfhaaDoor.fnExactCallOk
open Go.ChangeShapes Go.WideShapes Go.ChangeAt Go.RowKit Go.Deep
set_option linter.unusedVariables false

set_option maxRecDepth 100000 in
set_option maxHeartbeats 12800000 in
theorem walk (w : World) (cl : Int) (ad : Option Addr) (N cap : Nat) (ss : List L2V) (ga : Option Addr) (gn gc : Nat) (G : List Int) (sa : Option Addr) (sn sc : Nat) (S : List Int) (hl : ss.length = N) (hM : LSM w ad ss) (hN : N ≤ maxLen) (hG : Ints w ga gn G) (hg : gn ≤ maxLen) (hS : Ints w sa sn S) (hs : sn ≤ maxLen)
    (x0 sq ac : Int) (a : Option Addr) (n cc : Nat) (C : List Int) (wx : (Lit.int .i64 x0).wf = true) (ws : (Lit.int .i64 sq).wf = true) (wa : (Lit.int .i64 ac).wf = true) (hC : Ints w a n C) (hn : n ≤ maxLen) (hT : Lib.TabBelow Tryd.prog w.heap.size w "internal/strconv.uint64pow10" .u64 Lib.pow10Tab) :
    Calls Tryd.prog 6 #[plV cl ad N cap ga gn gc sa sn sc, clV x0 sq ac a n cc] w fun r w' => r = .returned (.bool true) ∧ Below w.heap.size w w' := by
  have HTB : Hid _ := hT
  clear hT
  have q_0 := (Cel.new w [.int .i64 cl, .slice ad N cap, .slice ga gn gc, .slice sa sn sc] 42).alloc (.cells #[.int .i64 x0, .int .i64 sq, .int .i64 ac, .slice a n cc] 33)
  have r_0 := Cel.new (w.alloc (.cells #[.int .i64 cl, .slice ad N cap, .slice ga gn gc, .slice sa sn sc] 42)) [.int .i64 x0, .int .i64 sq, .int .i64 ac, .slice a n cc] 33
  rw [World.size_alloc] at r_0
  have B_0 := ((Below.refl w.heap.size w).alloc (Nat.le_refl _) (.cells #[.int .i64 cl, .slice ad N cap, .slice ga gn gc, .slice sa sn sc] 42)).alloc (by simp) (.cells #[.int .i64 x0, .int .i64 sq, .int .i64 ac, .slice a n cc] 33)
  have HL : Hid (ss.length = N) := hl
  have HCL : Hid (C.length = n) := hC.1
  clear hl
  go_enter Tryd.func6, Tryd.ntmps6
  go_wp2_with fail
  refine (szP_any _ _ _ _ ss _ _ _ G _ _ _ S _ _ HL.out (hM.below B_0) hN (hG.below B_0) hg (hS.below B_0) hs (by omega) (by omega)).mono ?_
  rintro r w1 ⟨x, rfl, x1, x2, x3, b_1⟩
  have B_1 := B_0.trans (b_1.mono B_0.size)
  have q_1 := q_0.below b_1
  have r_1 := r_0.below b_1
  by_cases hx : x < 0
  · go_wp2
    go_ret
    exact ⟨rfl, B_1⟩
  have hx' : 0 ≤ x := by omega
  have A_1 := (x3 hx').below b_1
  clear q_0 r_0 B_0 b_1 x3 hx hM hG hS hN hg hs
  obtain ⟨c0, c1, c2, c3⟩ := q_1.quadP
  obtain ⟨d0, d1, d2, d3⟩ := r_1.quadP
  have g1 := leftOf_ge x n
  obtain ⟨y, hy⟩ : ∃ y, y = leftOf x n := ⟨_, rfl⟩
  have HY : Hid _ := hy
  rw [← hy] at g1
  clear hy
  go_wp2_with fail
  refine (szC_any _ _ _ _ _ _ _ _ hn hx' x2).mono ?_
  rintro r w2 ⟨rfl, b_2⟩
  rw [← HY.out]
  have B_2 := B_1.trans (b_2.mono B_1.size)
  have q_2 := q_1.below b_2
  have r_2 := r_1.below b_2
  have A_2 := A_1.below b_2
  clear q_1 r_1 A_1 B_1 b_2 c0 c1 c2 c3 d0 d1 d2 d3
  by_cases hy0 : y < 0
  · go_wp2
    go_ret
    exact ⟨rfl, B_2⟩
  have hy' : 0 ≤ y := by omega
  have ll := leftOf_le (l := x) (n := n) (by rw [← HY.out]; exact hy')
  have hn1 : n ≤ 1048576 := by omega
  clear ll hy0 g1 x1 x2 hx'
  have HH : Hid (∀ ts, ts.length = N → copiesL2S ss ts → plnB cl N ts gn G sn S = plnB cl N ss gn G sn S) := fun ts h1 h2 => by rw [plnB, plnB, copies_catP (by rw [h1, HL.out]) h2]
  obtain ⟨v, hv⟩ : ∃ v, v = (plnB cl N ss gn G sn S && inCallB cl N x0 sq ac n C) := ⟨_, rfl⟩
  have HW : Hid _ := hv
  clear hv
  have hn0 : (w2.cell? ⟨w.heap.size, 0, none⟩ = some (.int .i64 cl) ∧ w2.cell? ⟨w.heap.size, 1, none⟩ = some (.slice ad N cap) ∧ w2.cell? ⟨w.heap.size, 2, none⟩ = some (.slice ga gn gc) ∧ w2.cell? ⟨w.heap.size, 3, none⟩ = some (.slice sa sn sc)) ∧ (w2.cell? ⟨(w.heap.size + 1), 0, none⟩ = some (.int .i64 x0) ∧ w2.cell? ⟨(w.heap.size + 1), 1, none⟩ = some (.int .i64 sq) ∧ w2.cell? ⟨(w.heap.size + 1), 2, none⟩ = some (.int .i64 ac) ∧ w2.cell? ⟨(w.heap.size + 1), 3, none⟩ = some (.slice a n cc)) := ⟨q_2.quadP, r_2.quadP⟩
  go_upto_region 8 with fail
  go_region_held3 (fun w' => (w'.cell? ⟨w.heap.size, 0, none⟩ = some (.int .i64 cl) ∧ w'.cell? ⟨w.heap.size, 1, none⟩ = some (.slice ad N cap) ∧ w'.cell? ⟨w.heap.size, 2, none⟩ = some (.slice ga gn gc) ∧ w'.cell? ⟨w.heap.size, 3, none⟩ = some (.slice sa sn sc)) ∧ (w'.cell? ⟨(w.heap.size + 1), 0, none⟩ = some (.int .i64 x0) ∧ w'.cell? ⟨(w.heap.size + 1), 1, none⟩ = some (.int .i64 sq) ∧ w'.cell? ⟨(w.heap.size + 1), 2, none⟩ = some (.int .i64 ac) ∧ w'.cell? ⟨(w.heap.size + 1), 3, none⟩ = some (.slice a n cc))) (first | with_reducible assumption | exact hn0)
    (first
      | (go_at_call 22
         refine (toP_any _ _ _ _ ss _ _ _ G _ _ _ S _ (by exact A_2.drewP)).mono ?_
         rintro ee w3 ⟨Y1, Y2, Y3, us, rfl, lu, cu, bd_3, my, ky, ly⟩
         have b_3 := below_of_drew bd_3
         have B_3 := B_2.trans (b_3.mono B_2.size)
         have q_3 := q_2.below b_3
         have r_3 := r_2.below b_3
         have A_3 := A_2.below b_3
         have PY : PlAt w3 (some ⟨Y1, 0, none⟩) N us (some ⟨Y2, 0, none⟩) gn G (some ⟨Y3, 0, none⟩) sn S := ⟨my.g, lu, A_3.za, ky.ints' A_3.g.1, A_3.zg, ly.ints' A_3.s.1, A_3.zs⟩
         have HU : Hid _ := HH.out us lu cu
         have hn3 : (w3.cell? ⟨w.heap.size, 0, none⟩ = some (.int .i64 cl) ∧ w3.cell? ⟨w.heap.size, 1, none⟩ = some (.slice ad N cap) ∧ w3.cell? ⟨w.heap.size, 2, none⟩ = some (.slice ga gn gc) ∧ w3.cell? ⟨w.heap.size, 3, none⟩ = some (.slice sa sn sc)) ∧ (w3.cell? ⟨(w.heap.size + 1), 0, none⟩ = some (.int .i64 x0) ∧ w3.cell? ⟨(w.heap.size + 1), 1, none⟩ = some (.int .i64 sq) ∧ w3.cell? ⟨(w.heap.size + 1), 2, none⟩ = some (.int .i64 ac) ∧ w3.cell? ⟨(w.heap.size + 1), 3, none⟩ = some (.slice a n cc)) := ⟨q_3.quadP, r_3.quadP⟩)
      | (go_at_call 17
         refine (toC_any _ _ _ _ _ _ C _ (by exact hC.below B_3) hn1).mono ?_
         rintro ee w4 ⟨Z1, rfl, b_4, -, kz⟩
         have B_4 := B_3.trans (b_4.mono B_3.size)
         have q_4 := q_3.below b_4
         have r_4 := r_3.below b_4
         have A_4 := A_3.below b_4
         have PZ := PY.below b_4
         have hn4 : (w4.cell? ⟨w.heap.size, 0, none⟩ = some (.int .i64 cl) ∧ w4.cell? ⟨w.heap.size, 1, none⟩ = some (.slice ad N cap) ∧ w4.cell? ⟨w.heap.size, 2, none⟩ = some (.slice ga gn gc) ∧ w4.cell? ⟨w.heap.size, 3, none⟩ = some (.slice sa sn sc)) ∧ (w4.cell? ⟨(w.heap.size + 1), 0, none⟩ = some (.int .i64 x0) ∧ w4.cell? ⟨(w.heap.size + 1), 1, none⟩ = some (.int .i64 sq) ∧ w4.cell? ⟨(w.heap.size + 1), 2, none⟩ = some (.int .i64 ac) ∧ w4.cell? ⟨(w.heap.size + 1), 3, none⟩ = some (.slice a n cc)) := ⟨q_4.quadP, r_4.quadP⟩)
      | (go_at_call 21
         refine (scallok_any _ _ _ _ us _ _ _ G _ _ _ S _ _ _ _ _ _ C _ (by exact PZ) (by exact kz.ints' HCL.out) hn1).mono ?_
         rintro ee w5 ⟨rfl, b_5⟩
         rw [HU.out, ← HW.out]
         have B_5 := B_4.trans (b_5.mono B_4.size)
         have q_5 := q_4.below b_5
         have r_5 := r_4.below b_5
         have A_5 := A_4.below b_5
         have hn5 : (w5.cell? ⟨w.heap.size, 0, none⟩ = some (.int .i64 cl) ∧ w5.cell? ⟨w.heap.size, 1, none⟩ = some (.slice ad N cap) ∧ w5.cell? ⟨w.heap.size, 2, none⟩ = some (.slice ga gn gc) ∧ w5.cell? ⟨w.heap.size, 3, none⟩ = some (.slice sa sn sc)) ∧ (w5.cell? ⟨(w.heap.size + 1), 0, none⟩ = some (.int .i64 x0) ∧ w5.cell? ⟨(w.heap.size + 1), 1, none⟩ = some (.int .i64 sq) ∧ w5.cell? ⟨(w.heap.size + 1), 2, none⟩ = some (.int .i64 ac) ∧ w5.cell? ⟨(w.heap.size + 1), 3, none⟩ = some (.slice a n cc)) := ⟨q_5.quadP, r_5.quadP⟩))
  clear hn0 hn3 hn4 hn5 B_2 B_3 B_4 b_3 b_4 b_5 bd_3 q_2 q_3 q_4 r_2 r_3 r_4 my ky ly PY PZ kz HU lu cu us A_2 A_3 A_4
  obtain ⟨c0, c1, c2, c3⟩ := q_5.quadP
  obtain ⟨d0, d1, d2, d3⟩ := r_5.quadP
  go_wp2_with fail
  refine (toP_any _ _ _ _ ss _ _ _ G _ _ _ S _ A_5).mono ?_
  rintro r w6 ⟨D1, D2, D3, ts, rfl, lt, cp, b_6, m_6, k_6, l_6⟩
  have HT : Hid (ts.length = N) := lt
  have HC : Hid (copiesL2S ss ts) := cp
  have HLE : Hid _ := m_6.lens lt
  have B_6 := B_5.trans (b_6.mono B_5.size)
  have q_6 := (q_5.below b_6).alloc (.cells #[.int .i64 cl, .slice (some ⟨D1, 0, none⟩) N N, .slice (some ⟨D2, 0, none⟩) gn gn, .slice (some ⟨D3, 0, none⟩) sn sn] 47)
  have r_6 := (r_5.below b_6).alloc (.cells #[.int .i64 cl, .slice (some ⟨D1, 0, none⟩) N N, .slice (some ⟨D2, 0, none⟩) gn gn, .slice (some ⟨D3, 0, none⟩) sn sn] 47)
  have xb_6 := Cel.new w6 [.int .i64 cl, .slice (some ⟨D1, 0, none⟩) N N, .slice (some ⟨D2, 0, none⟩) gn gn, .slice (some ⟨D3, 0, none⟩) sn sn] 47
  have P_6 : PlAt w6 (some ⟨D1, 0, none⟩) N ts (some ⟨D2, 0, none⟩) gn G (some ⟨D3, 0, none⟩) sn S := ⟨m_6.g, lt, A_5.za, k_6.ints' A_5.g.1, A_5.zg, l_6.ints' A_5.s.1, A_5.zs⟩
  have A_7 := (A_5.below b_6).alloc (.cells #[.int .i64 cl, .slice (some ⟨D1, 0, none⟩) N N, .slice (some ⟨D2, 0, none⟩) gn gn, .slice (some ⟨D3, 0, none⟩) sn sn] 47)
  have P_7 := P_6.alloc (.cells #[.int .i64 cl, .slice (some ⟨D1, 0, none⟩) N N, .slice (some ⟨D2, 0, none⟩) gn gn, .slice (some ⟨D3, 0, none⟩) sn sn] 47)
  have B_7 := B_6.alloc B_6.size (.cells #[.int .i64 cl, .slice (some ⟨D1, 0, none⟩) N N, .slice (some ⟨D2, 0, none⟩) gn gn, .slice (some ⟨D3, 0, none⟩) sn sn] 47)
  obtain ⟨W7, hW7⟩ : ∃ W, W = w6.alloc (.cells #[.int .i64 cl, .slice (some ⟨D1, 0, none⟩) N N, .slice (some ⟨D2, 0, none⟩) gn gn, .slice (some ⟨D3, 0, none⟩) sn sn] 47) := ⟨_, rfl⟩
  clear c0 c1 c2 c3 d0 d1 d2 d3 q_5 r_5 B_5 b_6 m_6 k_6 l_6 lt cp P_6 B_6 A_5
  obtain ⟨d0, d1, d2, d3⟩ := r_6.quadP
  go_wp2_with fail
  rw [← hW7]
  rw [← hW7] at q_6 r_6 xb_6 P_7 A_7 B_7
  clear hW7 d0 d1 d2 d3
  refine (toC_any _ _ _ _ _ _ C _ (hC.below B_7) hn1).mono ?_
  rintro r w8 ⟨P2, rfl, b_8, -, k_8⟩
  have B_8 := B_7.trans (b_8.mono B_7.size)
  have q_8 := (q_6.below b_8).alloc (.cells #[.int .i64 x0, .int .i64 sq, .int .i64 ac, .slice (some ⟨P2, 0, none⟩) n n] 36)
  have r_8 := (r_6.below b_8).alloc (.cells #[.int .i64 x0, .int .i64 sq, .int .i64 ac, .slice (some ⟨P2, 0, none⟩) n n] 36)
  have xb_8 := (xb_6.below b_8).alloc (.cells #[.int .i64 x0, .int .i64 sq, .int .i64 ac, .slice (some ⟨P2, 0, none⟩) n n] 36)
  have yb_8 := Cel.new w8 [.int .i64 x0, .int .i64 sq, .int .i64 ac, .slice (some ⟨P2, 0, none⟩) n n] 36
  have A_8 := (A_7.below b_8).alloc (.cells #[.int .i64 x0, .int .i64 sq, .int .i64 ac, .slice (some ⟨P2, 0, none⟩) n n] 36)
  have P_8 := (P_7.below b_8).alloc (.cells #[.int .i64 x0, .int .i64 sq, .int .i64 ac, .slice (some ⟨P2, 0, none⟩) n n] 36)
  have k_9 := k_8.alloc (.cells #[.int .i64 x0, .int .i64 sq, .int .i64 ac, .slice (some ⟨P2, 0, none⟩) n n] 36)
  have B_9 := B_8.alloc B_8.size (.cells #[.int .i64 x0, .int .i64 sq, .int .i64 ac, .slice (some ⟨P2, 0, none⟩) n n] 36)
  obtain ⟨W9, hW9⟩ : ∃ W, W = w8.alloc (.cells #[.int .i64 x0, .int .i64 sq, .int .i64 ac, .slice (some ⟨P2, 0, none⟩) n n] 36) := ⟨_, rfl⟩
  clear q_6 r_6 xb_6 P_7 A_7 B_7 b_8 k_8 B_8
  obtain ⟨e0, e1, e2, e3⟩ := xb_8.quadP
  obtain ⟨f0, f1, f2, f3⟩ := yb_8.quadP
  have HV : Hid _ := HH.out ts HT.out HC.out
  go_wp2_with fail
  rw [← hW9]
  rw [← hW9] at q_8 r_8 xb_8 yb_8 P_8 A_8 k_9 B_9
  clear hW9 e0 e1 e2 e3 f0 f1 f2 f3
  refine (icallok_any _ _ _ _ ts _ _ _ G _ _ _ S _ _ _ _ _ _ C _ P_8 (k_9.ints' HCL.out) hn1 (fun w' h' => HTB.out w' (B_9.trans (h'.mono B_9.size)))).mono ?_
  rintro r w10 ⟨rfl, b_10⟩
  rw [HV.out, ← HW.out]
  have hvv : (v != v) = false := by cases v <;> rfl
  have B_10 := B_9.trans (b_10.mono B_9.size)
  have q_10 := q_8.below b_10
  have r_10 := r_8.below b_10
  have xb_10 := xb_8.below b_10
  have yb_10 := yb_8.below b_10
  have P_10 := P_8.below b_10
  have A_10 := A_8.below b_10
  have k_10 := k_9.below b_10
  clear q_8 r_8 xb_8 yb_8 P_8 A_8 k_9 B_9 b_10
  have hn10 : (w10.cell? ⟨w.heap.size, 0, none⟩ = some (.int .i64 cl) ∧ w10.cell? ⟨w.heap.size, 1, none⟩ = some (.slice ad N cap) ∧ w10.cell? ⟨w.heap.size, 2, none⟩ = some (.slice ga gn gc) ∧ w10.cell? ⟨w.heap.size, 3, none⟩ = some (.slice sa sn sc)) ∧ (w10.cell? ⟨w6.heap.size, 0, none⟩ = some (.int .i64 cl) ∧ w10.cell? ⟨w6.heap.size, 1, none⟩ = some (.slice (some ⟨D1, 0, none⟩) N N) ∧ w10.cell? ⟨w6.heap.size, 2, none⟩ = some (.slice (some ⟨D2, 0, none⟩) gn gn) ∧ w10.cell? ⟨w6.heap.size, 3, none⟩ = some (.slice (some ⟨D3, 0, none⟩) sn sn)) := ⟨q_10.quadP, xb_10.quadP⟩
  go_upto_region 14 with fail
  go_region_held3 (fun w' => (w'.cell? ⟨w.heap.size, 0, none⟩ = some (.int .i64 cl) ∧ w'.cell? ⟨w.heap.size, 1, none⟩ = some (.slice ad N cap) ∧ w'.cell? ⟨w.heap.size, 2, none⟩ = some (.slice ga gn gc) ∧ w'.cell? ⟨w.heap.size, 3, none⟩ = some (.slice sa sn sc)) ∧ (w'.cell? ⟨w6.heap.size, 0, none⟩ = some (.int .i64 cl) ∧ w'.cell? ⟨w6.heap.size, 1, none⟩ = some (.slice (some ⟨D1, 0, none⟩) N N) ∧ w'.cell? ⟨w6.heap.size, 2, none⟩ = some (.slice (some ⟨D2, 0, none⟩) gn gn) ∧ w'.cell? ⟨w6.heap.size, 3, none⟩ = some (.slice (some ⟨D3, 0, none⟩) sn sn))) (first | with_reducible assumption | exact hn10)
    (first
      | (go_at_call 22
         refine (toP_any _ _ _ _ ss _ _ _ G _ _ _ S _ (by exact A_10.drewP)).mono ?_
         rintro ee w11 ⟨Y1, Y2, Y3, us, rfl, lu, cu, bd_11, my, ky, ly⟩
         have b_11 := below_of_drew bd_11
         have B_11 := B_10.trans (b_11.mono B_10.size)
         have q_11 := q_10.below b_11
         have r_11 := r_10.below b_11
         have xb_11 := xb_10.below b_11
         have yb_11 := yb_10.below b_11
         have A_11 := A_10.below b_11
         have P_11 := P_10.below b_11
         have k_11 := k_10.below b_11
         have PY : PlAt w11 (some ⟨Y1, 0, none⟩) N us (some ⟨Y2, 0, none⟩) gn G (some ⟨Y3, 0, none⟩) sn S := ⟨my.g, lu, A_11.za, ky.ints' A_11.g.1, A_11.zg, ly.ints' A_11.s.1, A_11.zs⟩
         have HU : Hid _ := copies_sameP HT.out lu HC.out cu HLE.out
         have hn11 : (w11.cell? ⟨w.heap.size, 0, none⟩ = some (.int .i64 cl) ∧ w11.cell? ⟨w.heap.size, 1, none⟩ = some (.slice ad N cap) ∧ w11.cell? ⟨w.heap.size, 2, none⟩ = some (.slice ga gn gc) ∧ w11.cell? ⟨w.heap.size, 3, none⟩ = some (.slice sa sn sc)) ∧ (w11.cell? ⟨w6.heap.size, 0, none⟩ = some (.int .i64 cl) ∧ w11.cell? ⟨w6.heap.size, 1, none⟩ = some (.slice (some ⟨D1, 0, none⟩) N N) ∧ w11.cell? ⟨w6.heap.size, 2, none⟩ = some (.slice (some ⟨D2, 0, none⟩) gn gn) ∧ w11.cell? ⟨w6.heap.size, 3, none⟩ = some (.slice (some ⟨D3, 0, none⟩) sn sn)) := ⟨q_11.quadP, xb_11.quadP⟩)
      | (go_at_call 24
         refine (eqP_same _ _ _ _ ts _ _ _ G _ _ _ S _ _ us _ _ _ _ _ (by exact P_11) (by exact PY) (by exact HU.out)).mono ?_
         rintro ee w12 ⟨rfl, b_12⟩
         have B_12 := B_11.trans (b_12.mono B_11.size)
         have q_12 := q_11.below b_12
         have r_12 := r_11.below b_12
         have xb_12 := xb_11.below b_12
         have yb_12 := yb_11.below b_12
         have k_12 := k_11.below b_12
         have hn12 : (w12.cell? ⟨w.heap.size, 0, none⟩ = some (.int .i64 cl) ∧ w12.cell? ⟨w.heap.size, 1, none⟩ = some (.slice ad N cap) ∧ w12.cell? ⟨w.heap.size, 2, none⟩ = some (.slice ga gn gc) ∧ w12.cell? ⟨w.heap.size, 3, none⟩ = some (.slice sa sn sc)) ∧ (w12.cell? ⟨w6.heap.size, 0, none⟩ = some (.int .i64 cl) ∧ w12.cell? ⟨w6.heap.size, 1, none⟩ = some (.slice (some ⟨D1, 0, none⟩) N N) ∧ w12.cell? ⟨w6.heap.size, 2, none⟩ = some (.slice (some ⟨D2, 0, none⟩) gn gn) ∧ w12.cell? ⟨w6.heap.size, 3, none⟩ = some (.slice (some ⟨D3, 0, none⟩) sn sn)) := ⟨q_12.quadP, xb_12.quadP⟩))
  clear hn10 hn11 hn12 B_10 B_11 b_11 b_12 bd_11 q_10 q_11 q_12 r_10 r_11 xb_10 xb_11 xb_12 yb_10 yb_11 A_10 A_11 P_10 P_11 k_10 k_11 PY my ky ly HU lu cu us
  have hm12 : (w12.cell? ⟨(w.heap.size + 1), 0, none⟩ = some (.int .i64 x0) ∧ w12.cell? ⟨(w.heap.size + 1), 1, none⟩ = some (.int .i64 sq) ∧ w12.cell? ⟨(w.heap.size + 1), 2, none⟩ = some (.int .i64 ac) ∧ w12.cell? ⟨(w.heap.size + 1), 3, none⟩ = some (.slice a n cc)) ∧ (w12.cell? ⟨w8.heap.size, 0, none⟩ = some (.int .i64 x0) ∧ w12.cell? ⟨w8.heap.size, 1, none⟩ = some (.int .i64 sq) ∧ w12.cell? ⟨w8.heap.size, 2, none⟩ = some (.int .i64 ac) ∧ w12.cell? ⟨w8.heap.size, 3, none⟩ = some (.slice (some ⟨P2, 0, none⟩) n n)) := ⟨r_12.quadP, yb_12.quadP⟩
  go_upto_region 16 with fail
  go_region_held3 (fun w' => (w'.cell? ⟨(w.heap.size + 1), 0, none⟩ = some (.int .i64 x0) ∧ w'.cell? ⟨(w.heap.size + 1), 1, none⟩ = some (.int .i64 sq) ∧ w'.cell? ⟨(w.heap.size + 1), 2, none⟩ = some (.int .i64 ac) ∧ w'.cell? ⟨(w.heap.size + 1), 3, none⟩ = some (.slice a n cc)) ∧ (w'.cell? ⟨w8.heap.size, 0, none⟩ = some (.int .i64 x0) ∧ w'.cell? ⟨w8.heap.size, 1, none⟩ = some (.int .i64 sq) ∧ w'.cell? ⟨w8.heap.size, 2, none⟩ = some (.int .i64 ac) ∧ w'.cell? ⟨w8.heap.size, 3, none⟩ = some (.slice (some ⟨P2, 0, none⟩) n n))) (first | with_reducible assumption | exact hm12)
    (first
      | (go_at_call 17
         refine (toC_any _ _ _ _ _ _ C _ (by exact hC.below (Below.drew B_12)) hn1).mono ?_
         rintro ee w13 ⟨Z1, rfl, bd_13, -, kz⟩
         have b_13 := below_of_drew bd_13
         have B_13 := B_12.trans (b_13.mono B_12.size)
         have r_13 := r_12.below b_13
         have yb_13 := yb_12.below b_13
         have k_13 := k_12.below b_13
         have hm13 : (w13.cell? ⟨(w.heap.size + 1), 0, none⟩ = some (.int .i64 x0) ∧ w13.cell? ⟨(w.heap.size + 1), 1, none⟩ = some (.int .i64 sq) ∧ w13.cell? ⟨(w.heap.size + 1), 2, none⟩ = some (.int .i64 ac) ∧ w13.cell? ⟨(w.heap.size + 1), 3, none⟩ = some (.slice a n cc)) ∧ (w13.cell? ⟨w8.heap.size, 0, none⟩ = some (.int .i64 x0) ∧ w13.cell? ⟨w8.heap.size, 1, none⟩ = some (.int .i64 sq) ∧ w13.cell? ⟨w8.heap.size, 2, none⟩ = some (.int .i64 ac) ∧ w13.cell? ⟨w8.heap.size, 3, none⟩ = some (.slice (some ⟨P2, 0, none⟩) n n)) := ⟨r_13.quadP, yb_13.quadP⟩)
      | (go_at_call 19
         refine (eqC_same _ _ _ _ _ _ _ _ C _ (by exact k_13.ints' HCL.out) (by exact kz.ints' HCL.out) hn1).mono ?_
         rintro ee w14 ⟨rfl, b_14⟩
         have B_14 := B_13.trans (b_14.mono B_13.size)
         have r_14 := r_13.below b_14
         have yb_14 := yb_13.below b_14
         have hm14 : (w14.cell? ⟨(w.heap.size + 1), 0, none⟩ = some (.int .i64 x0) ∧ w14.cell? ⟨(w.heap.size + 1), 1, none⟩ = some (.int .i64 sq) ∧ w14.cell? ⟨(w.heap.size + 1), 2, none⟩ = some (.int .i64 ac) ∧ w14.cell? ⟨(w.heap.size + 1), 3, none⟩ = some (.slice a n cc)) ∧ (w14.cell? ⟨w8.heap.size, 0, none⟩ = some (.int .i64 x0) ∧ w14.cell? ⟨w8.heap.size, 1, none⟩ = some (.int .i64 sq) ∧ w14.cell? ⟨w8.heap.size, 2, none⟩ = some (.int .i64 ac) ∧ w14.cell? ⟨w8.heap.size, 3, none⟩ = some (.slice (some ⟨P2, 0, none⟩) n n)) := ⟨r_14.quadP, yb_14.quadP⟩))
  clear hm12 hm13 hm14 B_12 B_13 b_13 b_14 bd_13 r_12 r_13 r_14 yb_12 yb_13 yb_14 k_12 k_13 kz
  go_wp2
  go_ret
  exact ⟨rfl, B_14⟩

/-! ### The row's step -/
theorem tab_of {W : World} (h : laidMetH Tryd.prog Rows.fnExactCallOkRow.laid W) : Lib.TabIs Tryd.prog W "internal/strconv.uint64pow10" .u64 Lib.pow10Tab := by
  rw [MakeChecks.laidMetH_plain _ _ _ (by kernel_rfl)] at h
  have h2 : laidMet Tryd.prog [("internal/strconv.uint64pow10", Lib.tabData .u64 Lib.pow10Tab)] W := h.tail.tail
  exact Lib.tabIs_of_head (g := 1) (t := 149) (e := 130) (n := 20) (by kernel_rfl) (by kernel_rfl) Tryd.underlying149 Tryd.underlying130 (by kernel_rfl) (by kernel_rfl) h2

set_option maxRecDepth 100000 in
theorem lifted (os : Os) (started : os.Started) (H : Type) (enc : TypeId × Value → H) :
    ReturnsInHanded {} Tryd.checked os 6 .any (fun w args => (Rows.fnExactCallOkSpec.pre enc Tryd.prog Tryd.f6 Rows.fnExactCallOkRow.domain false w args ∧ laidMetH Tryd.prog Rows.fnExactCallOkRow.laid w) ∧ sizedMet enc Tryd.prog Tryd.f6 (OpenSpec.ofChange Rows.fnExactCallOkSpec) false w args) (Rows.fnExactCallOkSpec.post enc Tryd.prog Tryd.f6 false true false false) := by
  refine returnsInHanded_of_change_and (C := Tryd.checked) (X := fun w _ => laidMetH Tryd.prog Rows.fnExactCallOkRow.laid w) (fun _ _ _ hh h => h.of_heap hh) own started (by kernel_rfl) Tryd.func6
    (ChangeSpec.witness_shaped (enc := enc) (C := Tryd.checked) (os := os) (X := fun w _ => laidMetH Tryd.prog Rows.fnExactCallOkRow.laid w) false (World.laidAll Tryd.prog os Rows.fnExactCallOkRow.laid) #[.agg #[.int .i64 0, .slice none 0 0, .slice none 0 0, .slice none 0 0], .agg #[.int .i64 0, .int .i64 0, .int .i64 0, .slice none 0 0]] 8 (World.laidAll_os _ _ _)
      (World.shaped_of_ZipB (by kernel_rfl) (by kernel_rfl)) (by kernel_rfl) (by kernel_rfl) (by kernel_rfl)
      (by rw [MakeChecks.laidMetH_plain _ _ _ (by kernel_rfl)]; exact laidMet_laidAll _ (by kernel_rfl) (by kernel_rfl))) ?_
  intro W base args ds gs before hval0 hW hcnd _ hL _
  have hval : ∀ (j : Nat) t v, Tryd.f6.params[j]? = some t → args[j]? = some v → Value.okWide Tryd.prog W .any base t v := hval0
  have hW' := hW
  obtain ⟨p, q, hA0, hV, rfl, hfz, hnd⟩ := hW
  have hA : DataW.TrodAll enc Tryd.prog W 0 (fun _ => true) true Tryd.f6.params.toList args.toList ds p := hA0
  rw [Tryd.params6] at hA hval
  obtain ⟨v0, vs0, d0, ds0, p0, q0, hargs, rfl, rfl, h0, r0⟩ := trodAll_cons hA
  obtain ⟨v1, vs1, d1, ds1, p1, q1, rfl, rfl, rfl, h1, r1⟩ := trodAll_cons r0
  obtain ⟨rfl, rfl, rfl⟩ := trodAll_nil r1
  obtain rfl : args = #[v0, v1] := by cases args; simp_all
  obtain ⟨rfl, rfl⟩ := trodVars_none hV
  have k0 := h0
  have lt0 : ∀ x ∈ p0, x.block < W.heap.size := by obtain ⟨m, hm⟩ := k0; exact DataW.trod_lt m _ _ _ hm
  obtain ⟨cl0, ad0, N0, pc0, ss0, ga0, gn0, gc0, G0, sa0, sn0, sc0, S0, rfl, wc0, hl0, hM0, hN0, hG0, hg0, hS0, hs0⟩ := open_plan (hval 0 42 v0 rfl rfl) h0
  have k1 := h1
  have lt1 : ∀ x ∈ p1, x.block < W.heap.size := by obtain ⟨m, hm⟩ := k1; exact DataW.trod_lt m _ _ _ hm
  obtain ⟨x1, sq1, ac1, a1, n1, cap1, C1, rfl, wx1, ws1, wa1, hC1, hn1⟩ := open_call (hval 1 33 v1 rfl rfl) h1
  clear hA0 hval0
  refine (walk W cl0 ad0 N0 pc0 ss0 ga0 gn0 gc0 G0 sa0 sn0 sc0 S0 hl0 hM0 hN0 hG0 hg0 hS0 hs0 x1 sq1 ac1 a1 n1 cap1 C1 wx1 ws1 wa1 hC1 hn1 (Lib.tabBelow_of_tabIs (tab_of hL))).mono fun e W' ⟨he, bel⟩ => ?_
  subst he
  exact ⟨_, rfl, _, _, _, [], _, [], hW', trodAll_mk1 (shut_bool Tryd.underlying4 _), (trodAll_cons_mk (Below.trod laidOut (by kernel_rfl) (of_decide_eq_true (by kernel_rfl)) k0 bel lt0) (trodAll_cons_mk (Below.trod laidOut (by kernel_rfl) (of_decide_eq_true (by kernel_rfl)) k1 bel lt1) trodAll_mk0)), rfl, bel.frame _, fun h => by cases h⟩

theorem over : Rows.fnExactCallOkRow.holds Tryd.pinned (OpenSpec.ofChange Rows.fnExactCallOkSpec) :=
  OpenClaim.holds_of_wide 6 Tryd.f6 rfl rfl rfl rfl rfl rfl rfl ⟨rfl, rfl, rfl, rfl, rfl⟩ rfl rfl rfl rfl rfl (by kernel_rfl) Tryd.func6 (by kernel_rfl)
    (of_decide_eq_true (by kernel_rfl)) (by unfold Func.isWrapper; first | (rw [if_pos (by decide +kernel)]; kernel_rfl) | (rw [if_neg (by decide +kernel)]; exact ⟨rfl, rfl⟩))
    (fun os started H enc _ => lifted os started H enc)

end Go.Proofs.YtejeffnonddfhaaDoor.fnExactCallOk
namespace Go.Proofs.YtejeffnonddfhaaDoor
/-- The statement. -/
theorem fnExactCallOk_holds : Rows.FnExactCallOkCardSaid :=
  Claim7.holds_tied_plain_at .later [] [.data, .data, .data] true Rows.fnExactCallOkCard.stood.harness Rows.fnExactCallOkCard.stood.looks fnExactCallOk.over (fun _ h => by cases h) (by kernel_rfl) (fun _ h => by cases h) fnExactCallOk_row_tie rfl ⟨rfl, rfl⟩ (by kernel_rfl) rfl
    (fun f fn hf hfn => by
      obtain rfl : f = 6 := Option.some.inj ((show Tryd.prog.funcNamed Rows.fnExactCallOkRow.func = some 6 by kernel_rfl).symm.trans hf) |>.symm
      obtain rfl : fn = Tryd.f6 := (Option.some.inj (Tryd.func6.symm.trans hfn)).symm
      exact ⟨by kernel_rfl, fun j t ht => by
        rw [Tryd.params6] at ht
        have hm : t ∈ [42, 33] := by simpa using Array.mem_of_getElem? ht
        have hall : ([42, 33].all fun u => !Tryd.prog.wantsStandIn u) = true := by kernel_rfl
        exact (show Tryd.prog.wantsStandIn t = false by simpa using List.all_eq_true.1 hall t hm)⟩)
    (by kernel_rfl)
#print axioms fnExactCallOk_holds
end Go.Proofs.YtejeffnonddfhaaDoor
