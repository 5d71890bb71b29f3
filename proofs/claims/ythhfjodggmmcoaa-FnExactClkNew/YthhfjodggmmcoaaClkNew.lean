/-
  For every plan FnExactClkNew returns true, and the plan reads behind the call as it did. No condition.
-/
import Derived.Test.YthhfjodggmmcoaaClkD
import Derived.Test.YthhfjodggmmcoaaClkE
import Derived.Test.YthhfjodggmmcoaaMarkP
import Derived.Deep.RegionHeld3
namespace Go.Proofs.Ythhfjodggmmcoaa.fnExactClkNew
open Go.ChangeShapes Go.WideShapes Go.ChangeAt Go.RowKit Go.Deep
set_option linter.unusedVariables false

theorem ClkR.to {w w' : World} {e : Ending} {b : Bool} {cl : Int} {gm : Nat} {S : List Int} (h : ClkR w w' e b cl gm S) {u : Bool} {bn an dn : Nat} {Bs : List Int} (hu : b = u) (h1 : Bs = if u then S else []) (h3 : bn = if u then 3 else 0) (h4 : an = if u then cl.toNat else 0) (h5 : dn = if u then gm else 0) :
    ∃ ba B1 bc aa B2 ac da B3 dc, e = .returned (clkV u 0 ba bn bc aa an ac da dn dc) ∧ Below w.heap.size w w' ∧ ClkX w' ba B1 bn Bs aa B2 an (fun _ => (0, 0)) da B3 dn (fun _ => false) ∧ (0 < bn → w.heap.size ≤ B1) ∧ (0 < an → w.heap.size ≤ B2) ∧ (0 < dn → w.heap.size ≤ B3) := by
  subst hu
  obtain ⟨ba, B1, bc, aa, B2, ac, da, B3, dc, bn', an', dn', Bs', e1, e2, e3, e4, e5, e6, e7, e9, e10, e11⟩ := h
  rw [← h1] at e7
  rw [← h3] at e9
  rw [← h4] at e10
  rw [← h5] at e11
  subst e7 e9 e10 e11
  exact ⟨ba, B1, bc, aa, B2, ac, da, B3, dc, e1, e2, e3, e4, e5, e6⟩

set_option maxRecDepth 100000 in
set_option maxHeartbeats 12800000 in
theorem walk (w : World) (cl : Int) (ad : Option Addr) (N cap : Nat) (ss : List L2V) (ga : Option Addr) (gn gc : Nat) (G : List Int) (sa : Option Addr) (sn sc : Nat) (S : List Int) (hl : ss.length = N) (hM : LSM w ad ss) (hN : N ≤ maxLen) (hG : Ints w ga gn G) (hg : gn ≤ maxLen) (hS : Ints w sa sn S) (hs : sn ≤ maxLen) :
    Calls Try.prog 3 #[plV cl ad N cap ga gn gc sa sn sc] w fun r w' => r = .returned (.bool true) ∧ Below w.heap.size w w' := by
  have q_0 := BP.new w [.int .i64 cl, .slice ad N cap, .slice ga gn gc, .slice sa sn sc] 25
  have HL : Hid (ss.length = N) := hl
  clear hl
  go_enter Try.func3, Try.ntmps3
  go_wp2_with fail
  refine (szP_any _ _ _ _ ss _ _ _ G _ _ _ S _ _ HL.out (hM.below q_0.b) hN (hG.below q_0.b) hg (hS.below q_0.b) hs (by omega) (by omega)).mono ?_
  rintro r w1 ⟨x, rfl, x1, x2, x3, b_1⟩
  have q_1 := q_0.below b_1
  by_cases hx : x < 0
  · go_wp2
    go_ret
    exact ⟨rfl, q_1.b⟩
  have hx' : 0 ≤ x := by omega
  have P_1 := (x3 hx').below b_1
  have zw := q_1.p.lt
  have zN := P_1.za
  have zg := P_1.zg
  have zs := P_1.zs
  have lG := P_1.g.1
  have lS := P_1.s.1
  clear q_0 b_1 x3 hx x1 x2 hM hG hS hN hg hs
  have HH : Hid (∀ ts, ts.length = N → copiesL2S ss ts → plnB cl N ts gn G sn S = plnB cl N ss gn G sn S) := fun ts h1 h2 => by rw [plnB, plnB, copies_catP (by rw [h1, HL.out]) h2]
  obtain ⟨u, hu⟩ : ∃ u, plnB cl N ss gn G sn S = u := ⟨_, rfl⟩
  have HU : Hid _ := hu
  obtain ⟨bn, hbn⟩ : ∃ bn, bn = if u then 3 else 0 := ⟨_, rfl⟩
  obtain ⟨an, han⟩ : ∃ an, an = if u then cl.toNat else 0 := ⟨_, rfl⟩
  obtain ⟨dn, hdn⟩ : ∃ dn, dn = if u then gn else 0 := ⟨_, rfl⟩
  obtain ⟨Bs, hBs⟩ : ∃ Bs, Bs = if u then S else [] := ⟨_, rfl⟩
  have RT : Hid (∀ (W W' : World) (e : Ending) (ts : List L2V), ts.length = N → copiesL2S ss ts → ClkR W W' e (plnB cl N ts gn G sn S) cl gn S → ∃ ba B1 bc aa B2 ac da B3 dc, e = .returned (clkV u 0 ba bn bc aa an ac da dn dc) ∧ Below W.heap.size W W' ∧ ClkX W' ba B1 bn Bs aa B2 an (fun _ => (0, 0)) da B3 dn (fun _ => false) ∧ (0 < bn → W.heap.size ≤ B1) ∧ (0 < an → W.heap.size ≤ B2) ∧ (0 < dn → W.heap.size ≤ B3)) := fun W W' e ts h1 h2 h3 => ClkR.to h3 ((HH.out ts h1 h2).trans hu) hBs hbn han hdn
  clear hu hbn han hdn hBs HU HH
  have U_1 : Below w1.heap.size w1 w1 := Below.refl _ _
  obtain ⟨c0, c1, c2, c3⟩ := q_1.p.quadP
  go_wp2_with fail
  refine (toP_any _ _ _ _ ss _ _ _ G _ _ _ S _ P_1).mono ?_
  rintro r w2 ⟨D1, D2, D3, ts, rfl, lt, cp, b_2, m_2, k_2, l_2⟩
  have HT : Hid (ts.length = N) := lt
  have HC : Hid (copiesL2S ss ts) := cp
  have P_2 := P_1.below b_2
  have Q_2 : PlAt w2 (some ⟨D1, 0, none⟩) N ts (some ⟨D2, 0, none⟩) gn G (some ⟨D3, 0, none⟩) sn S := ⟨m_2.g, lt, P_2.za, k_2.ints' P_2.g.1, P_2.zg, l_2.ints' P_2.s.1, P_2.zs⟩
  clear lt cp m_2 k_2 l_2 P_2 c0 c1 c2 c3
  go_wp2_with fail
  refine (sclknew_any _ _ _ _ ts _ _ _ G _ _ _ S _ Q_2).mono ?_
  intro r w3 hR
  obtain ⟨sa1, C1, sb1, sc1, C2, sd1, se1, C3, sf1, rfl, b_3, X_3, g1, g2, g3⟩ := RT.out _ _ _ ts HT.out HC.out hR
  have U_3 := b_2.trans (b_3.mono b_2.size)
  have z2 := b_2.size
  have z3 := b_3.size
  have k1 := X_3.o.lt
  have k2 := X_3.d.lt
  have k3 := X_3.g.lt
  clear hR HT HC Q_2 b_2 b_3 ts U_1
  -- the answer of the specification is laid down
  have a_4 := Cel.new w3 [.bool u, .int .i64 0, .slice sa1 bn sb1, .slice sc1 an sd1, .slice none 0 0, .slice se1 dn sf1] 31
  have b_4 : Below w3.heap.size w3 (w3.alloc (.cells #[.bool u, .int .i64 0, .slice sa1 bn sb1, .slice sc1 an sd1, .slice none 0 0, .slice se1 dn sf1] 31)) := (Below.refl _ _).alloc (Nat.le_refl _) _
  have U_4 := U_3.trans (b_4.mono U_3.size)
  have X_4 := X_3.below b_4
  have q_4 := q_1.p.below U_4
  obtain ⟨c0, c1, c2, c3⟩ := q_4.quadP
  clear X_3 b_4 U_3
  go_upto_region 6 with fail
  have z4 : w3.heap.size + 1 = (w3.alloc (.cells #[.bool u, .int .i64 0, .slice sa1 bn sb1, .slice sc1 an sd1, .slice none 0 0, .slice se1 dn sf1] 31)).heap.size := by rw [World.size_alloc]
  generalize (w3.alloc (.cells #[.bool u, .int .i64 0, .slice sa1 bn sb1, .slice sc1 an sd1, .slice none 0 0, .slice se1 dn sf1] 31)) = w4 at *
  have z4a : w3.heap.size + 1 ≤ w4.heap.size := by omega
  clear z4
  go_wp2_with fail
  refine (toP_sep _ _ _ _ ss _ _ _ G _ _ _ S _ (P_1.below U_4)).mono ?_
  rintro r w5 ⟨D1, D2, D3, ts, rfl, lt, cp, b_5, m_5, k_5, l_5, d1, d23, d3, cc, cc1, cc2, cc3⟩
  have HT : Hid (ts.length = N) := lt
  have HC : Hid (copiesL2S ss ts) := cp
  have HCC : Hid _ := cc3
  have HLE : Hid _ := m_5.lens lt
  have hc0N : D1 < D2 := by
    have : ∀ i, i ≤ N → cc 0 ≤ cc i := fun i => by
      induction i with
      | zero => intro _; exact Nat.le_refl _
      | succ i ih => intro hi; exact Nat.le_trans (ih (by omega)) (HCC.out i (by omega)).1
    have := this N (Nat.le_refl _)
    omega
  have U_5 := U_4.trans (b_5.mono U_4.size)
  have X_5 := X_4.below b_5
  have a_5 := a_4.below b_5
  have z5 := b_5.size
  clear lt cp cc3 q_4 U_4 X_4 a_4 b_5 c0 c1 c2 c3
  -- the plan that is handed to the program is laid down
  have y_6 := Cel.new w5 [.int .i64 cl, .slice (some ⟨D1, 0, none⟩) N N, .slice (some ⟨D2, 0, none⟩) gn gn, .slice (some ⟨D3, 0, none⟩) sn sn] 35
  have b_6 : Below w5.heap.size w5 (w5.alloc (.cells #[.int .i64 cl, .slice (some ⟨D1, 0, none⟩) N N, .slice (some ⟨D2, 0, none⟩) gn gn, .slice (some ⟨D3, 0, none⟩) sn sn] 35)) := (Below.refl _ _).alloc (Nat.le_refl _) _
  have U_6 := U_5.trans (b_6.mono U_5.size)
  have X_6 := X_5.below b_6
  have a_6 := a_5.below b_6
  have m_6 := m_5.below b_6
  have k_6 := k_5.below b_6
  have l_6 := l_5.below b_6
  clear X_5 a_5 m_5 k_5 l_5 U_5 b_6
  go_upto_region 7 with fail
  have z6 : w5.heap.size + 1 = (w5.alloc (.cells #[.int .i64 cl, .slice (some ⟨D1, 0, none⟩) N N, .slice (some ⟨D2, 0, none⟩) gn gn, .slice (some ⟨D3, 0, none⟩) sn sn] 35)).heap.size := by rw [World.size_alloc]
  generalize (w5.alloc (.cells #[.int .i64 cl, .slice (some ⟨D1, 0, none⟩) N N, .slice (some ⟨D2, 0, none⟩) gn gn, .slice (some ⟨D3, 0, none⟩) sn sn] 35)) = w6 at *
  have z6a : w5.heap.size + 1 ≤ w6.heap.size := by omega
  clear z6
  have Q_6 : PlAt w6 (some ⟨D1, 0, none⟩) N ts (some ⟨D2, 0, none⟩) gn G (some ⟨D3, 0, none⟩) sn S := ⟨m_6.g, HT.out, zN, k_6.ints' lG, zg, l_6.ints' lS, zs⟩
  obtain ⟨c0, c1, c2, c3⟩ := y_6.quadP
  go_wp2_with fail
  refine (iclknew_any _ _ _ _ ts _ _ _ G _ _ _ S _ Q_6).mono ?_
  intro r w7 hR
  obtain ⟨ga1, E1, gb1, gc1, E2, gd1, ge1, E3, gf1, rfl, b_7, Y_7, f1, f2, f3⟩ := RT.out _ _ _ ts HT.out HC.out hR
  have U_7 := U_6.trans (b_7.mono U_6.size)
  have X_7 := X_6.below b_7
  have a_7 := a_6.below b_7
  have m_7 := m_6.below b_7
  have k_7 := k_6.below b_7
  have l_7 := l_6.below b_7
  have y_7 := y_6.below b_7
  have Q_7 := Q_6.below b_7
  have z7 := b_7.size
  have e1 := Y_7.o.lt
  have e2 := Y_7.d.lt
  have e3 := Y_7.g.lt
  clear hR b_7 U_6 X_6 a_6 m_6 k_6 l_6 y_6 Q_6 c0 c1 c2 c3
  -- the program's answer is laid down
  have v_8 := Cel.new w7 [.bool u, .int .i64 0, .slice ga1 bn gb1, .slice gc1 an gd1, .slice none 0 0, .slice ge1 dn gf1] 31
  have b_8 : Below w7.heap.size w7 (w7.alloc (.cells #[.bool u, .int .i64 0, .slice ga1 bn gb1, .slice gc1 an gd1, .slice none 0 0, .slice ge1 dn gf1] 31)) := (Below.refl _ _).alloc (Nat.le_refl _) _
  have U_8 := U_7.trans (b_8.mono U_7.size)
  have X_8 := X_7.below b_8
  have Y_8 := Y_7.below b_8
  have a_8 := a_7.below b_8
  have m_8 := m_7.below b_8
  have k_8 := k_7.below b_8
  have l_8 := l_7.below b_8
  have y_8 := y_7.below b_8
  have Q_8 := Q_7.below b_8
  clear X_7 Y_7 a_7 m_7 k_7 l_7 y_7 Q_7 U_7 b_8
  go_upto_region 8 with fail
  have z8 : w7.heap.size + 1 = (w7.alloc (.cells #[.bool u, .int .i64 0, .slice ga1 bn gb1, .slice gc1 an gd1, .slice none 0 0, .slice ge1 dn gf1] 31)).heap.size := by rw [World.size_alloc]
  generalize (w7.alloc (.cells #[.bool u, .int .i64 0, .slice ga1 bn gb1, .slice gc1 an gd1, .slice none 0 0, .slice ge1 dn gf1] 31)) = w8 at *
  have z8a : w7.heap.size + 1 ≤ w8.heap.size := by omega
  clear z8
  obtain ⟨r0, r1, r2, r3, r4, r5⟩ := v_8.six6
  obtain ⟨s0, s1, s2, s3, s4, s5⟩ := a_8.six6
  go_wp2_with fail
  refine (eqClk_same _ _ _ E1 _ _ Bs _ E2 _ _ (fun _ => (0, 0)) _ E3 _ _ (fun _ => false) _ C1 _ _ C2 _ _ C3 _ _ Y_8 X_8).mono ?_
  rintro r w9 ⟨rfl, b_9⟩
  have U_9 := U_8.trans (b_9.mono U_8.size)
  have X_9 := X_8.below b_9
  have Y_9 := Y_8.below b_9
  have a_9 := a_8.below b_9
  have v_9 := v_8.below b_9
  have m_9 := m_8.below b_9
  have k_9 := k_8.below b_9
  have l_9 := l_8.below b_9
  have y_9 := y_8.below b_9
  have Q_9 := Q_8.below b_9
  have z9 := b_9.size
  have q_9 := q_1.p.below U_9
  have P_9 := P_1.below U_9
  clear X_8 Y_8 a_8 v_8 m_8 k_8 l_8 y_8 Q_8 U_8 b_9 r0 r1 r2 r3 r4 r5 s0 s1 s2 s3 s4 s5
  have hn0 : (w9.cell? ⟨w.heap.size, 0, none⟩ = some (.int .i64 cl) ∧ w9.cell? ⟨w.heap.size, 1, none⟩ = some (.slice ad N cap) ∧ w9.cell? ⟨w.heap.size, 2, none⟩ = some (.slice ga gn gc) ∧ w9.cell? ⟨w.heap.size, 3, none⟩ = some (.slice sa sn sc)) ∧ (w9.cell? ⟨w5.heap.size, 0, none⟩ = some (.int .i64 cl) ∧ w9.cell? ⟨w5.heap.size, 1, none⟩ = some (.slice (some ⟨D1, 0, none⟩) N N) ∧ w9.cell? ⟨w5.heap.size, 2, none⟩ = some (.slice (some ⟨D2, 0, none⟩) gn gn) ∧ w9.cell? ⟨w5.heap.size, 3, none⟩ = some (.slice (some ⟨D3, 0, none⟩) sn sn)) := ⟨q_9.quadP, y_9.quadP⟩
  go_upto_region 10 with fail
  go_region_held3 (fun w' => (w'.cell? ⟨w.heap.size, 0, none⟩ = some (.int .i64 cl) ∧ w'.cell? ⟨w.heap.size, 1, none⟩ = some (.slice ad N cap) ∧ w'.cell? ⟨w.heap.size, 2, none⟩ = some (.slice ga gn gc) ∧ w'.cell? ⟨w.heap.size, 3, none⟩ = some (.slice sa sn sc)) ∧ (w'.cell? ⟨w5.heap.size, 0, none⟩ = some (.int .i64 cl) ∧ w'.cell? ⟨w5.heap.size, 1, none⟩ = some (.slice (some ⟨D1, 0, none⟩) N N) ∧ w'.cell? ⟨w5.heap.size, 2, none⟩ = some (.slice (some ⟨D2, 0, none⟩) gn gn) ∧ w'.cell? ⟨w5.heap.size, 3, none⟩ = some (.slice (some ⟨D3, 0, none⟩) sn sn))) (first | with_reducible assumption | exact hn0)
    (first
      | (go_at_call 11
         refine (toP_any _ _ _ _ ss _ _ _ G _ _ _ S _ (by exact P_9.drewP)).mono ?_
         rintro ee w10 ⟨Y1, Y2, Y3, us, rfl, lu, cu, bd_10, my_10, ky_10, ly_10⟩
         have b_10 := below_of_drew bd_10
         have B_10 := U_9.trans (b_10.mono U_9.size)
         have q_10 := q_9.below b_10
         have P_10 := P_9.below b_10
         have Q_10 := Q_9.below b_10
         have y_10 := y_9.below b_10
         have HUS : Hid _ := copies_sameP HT.out lu HC.out cu HLE.out
         have hn10_ : (w10.cell? ⟨w.heap.size, 0, none⟩ = some (.int .i64 cl) ∧ w10.cell? ⟨w.heap.size, 1, none⟩ = some (.slice ad N cap) ∧ w10.cell? ⟨w.heap.size, 2, none⟩ = some (.slice ga gn gc) ∧ w10.cell? ⟨w.heap.size, 3, none⟩ = some (.slice sa sn sc)) ∧ (w10.cell? ⟨w5.heap.size, 0, none⟩ = some (.int .i64 cl) ∧ w10.cell? ⟨w5.heap.size, 1, none⟩ = some (.slice (some ⟨D1, 0, none⟩) N N) ∧ w10.cell? ⟨w5.heap.size, 2, none⟩ = some (.slice (some ⟨D2, 0, none⟩) gn gn) ∧ w10.cell? ⟨w5.heap.size, 3, none⟩ = some (.slice (some ⟨D3, 0, none⟩) sn sn)) := ⟨q_10.quadP, y_10.quadP⟩)
      | (go_at_call 14
         refine (eqP_same _ _ _ _ ts _ _ _ G _ _ _ S _ _ us _ _ _ _ _ (by exact Q_10) (by exact ⟨my_10.g, lu, P_10.za, ky_10.ints' P_10.g.1, P_10.zg, ly_10.ints' P_10.s.1, P_10.zs⟩) (by exact HUS.out)).mono ?_
         rintro ee w11 ⟨rfl, b_11⟩
         have bb_11 := b_10.trans (b_11.mono b_10.size)
         have q_11 := q_10.below b_11
         have y_11 := y_10.below b_11
         have hn11_ : (w11.cell? ⟨w.heap.size, 0, none⟩ = some (.int .i64 cl) ∧ w11.cell? ⟨w.heap.size, 1, none⟩ = some (.slice ad N cap) ∧ w11.cell? ⟨w.heap.size, 2, none⟩ = some (.slice ga gn gc) ∧ w11.cell? ⟨w.heap.size, 3, none⟩ = some (.slice sa sn sc)) ∧ (w11.cell? ⟨w5.heap.size, 0, none⟩ = some (.int .i64 cl) ∧ w11.cell? ⟨w5.heap.size, 1, none⟩ = some (.slice (some ⟨D1, 0, none⟩) N N) ∧ w11.cell? ⟨w5.heap.size, 2, none⟩ = some (.slice (some ⟨D2, 0, none⟩) gn gn) ∧ w11.cell? ⟨w5.heap.size, 3, none⟩ = some (.slice (some ⟨D3, 0, none⟩) sn sn)) := ⟨q_11.quadP, y_11.quadP⟩))
  have U_11 := U_9.trans (bb_11.mono U_9.size)
  have X_11 := X_9.below bb_11
  have Y_11 := Y_9.below bb_11
  have a_11 := a_9.below bb_11
  have v_11 := v_9.below bb_11
  have m_11 := m_9.below bb_11
  have k_11 := k_9.below bb_11
  have l_11 := l_9.below bb_11
  clear hn0 hn10_ hn11_ U_9 X_9 Y_9 a_9 v_9 m_9 k_9 l_9 y_9 Q_9 q_9 P_9 b_10 bd_10 B_10 q_10 P_10 Q_10 y_10 my_10 ky_10 ly_10 b_11 bb_11 HUS lu cu us
  obtain ⟨c0, c1, c2, c3⟩ := y_11.quadP
  go_wp2_with fail
  refine (markP_any _ D1 _ _ D2 _ _ D3 _ _ ts G S cc _ m_11 HT.out zN cc1 cc2 HCC.out k_11 lG zg l_11 lS zs d23).mono ?_
  rintro r w12 ⟨kk, rfl, kk0, t_12⟩
  have hkk : ¬ kk < 0 := by omega
  have X_12 := X_11.touch t_12 (fun h hh => by have := k1 h; have := hh.1; omega) (fun h hh => by have := k2 h; have := hh.1; omega) (fun h hh => by have := k3 h; have := hh.1; omega)
  have Y_12 := Y_11.touch t_12 (fun h hh => by have := f1 h; have := hh.2; omega) (fun h hh => by have := f2 h; have := hh.2; omega) (fun h hh => by have := f3 h; have := hh.2; omega)
  have a_12 := a_11.touch t_12 (fun hh => by have := hh.1; omega)
  have v_12 := v_11.touch t_12 (fun hh => by have := hh.2; omega)
  have U_12 := U_11.trans (t_12.below U_11.size (fun k hk => by omega))
  have z12 := t_12.size
  clear X_11 Y_11 a_11 v_11 m_11 k_11 l_11 U_11 y_11 q_11 t_12 c0 c1 c2 c3
  obtain ⟨r0, r1, r2, r3, r4, r5⟩ := v_12.six6
  obtain ⟨s0, s1, s2, s3, s4, s5⟩ := a_12.six6
  go_wp2_with fail
  refine (eqClk_same _ _ _ E1 _ _ Bs _ E2 _ _ (fun _ => (0, 0)) _ E3 _ _ (fun _ => false) _ C1 _ _ C2 _ _ C3 _ _ Y_12 X_12).mono ?_
  rintro r w13 ⟨rfl, b_13⟩
  have U_13 := U_12.trans (b_13.mono U_12.size)
  have X_13 := X_12.below b_13
  have Y_13 := Y_12.below b_13
  have a_13 := a_12.below b_13
  have v_13 := v_12.below b_13
  clear U_12 X_12 Y_12 a_12 v_12 b_13 r0 r1 r2 r3 r4 r5 s0 s1 s2 s3 s4 s5
  obtain ⟨r0, r1, r2, r3, r4, r5⟩ := v_13.six6
  go_wp2_with fail
  refine (markClk_any _ _ _ E1 _ _ Bs _ E2 _ _ (fun _ => (0, 0)) _ E3 _ _ (fun _ => false) _ Y_13).mono ?_
  rintro r w14 ⟨rfl, t_14, Y_14⟩
  have ne0 : ¬ ((w3.heap.size = E1 ∧ 0 < bn) ∨ (w3.heap.size = E2 ∧ 0 < an) ∨ (w3.heap.size = E3 ∧ 0 < dn)) := fun hh => by
    rcases hh with ⟨h, h'⟩ | ⟨h, h'⟩ | ⟨h, h'⟩
    · have := f1 h'; omega
    · have := f2 h'; omega
    · have := f3 h'; omega
  have X_14 := X_13.touch t_14 (fun h hh => by
      have := k1 h
      rcases hh with ⟨h, h'⟩ | ⟨h, h'⟩ | ⟨h, h'⟩
      · have := f1 h'; omega
      · have := f2 h'; omega
      · have := f3 h'; omega) (fun h hh => by
      have := k2 h
      rcases hh with ⟨h, h'⟩ | ⟨h, h'⟩ | ⟨h, h'⟩
      · have := f1 h'; omega
      · have := f2 h'; omega
      · have := f3 h'; omega) (fun h hh => by
      have := k3 h
      rcases hh with ⟨h, h'⟩ | ⟨h, h'⟩ | ⟨h, h'⟩
      · have := f1 h'; omega
      · have := f2 h'; omega
      · have := f3 h'; omega)
  have a_14 := a_13.touch t_14 ne0
  have v_14 := v_13.touch t_14 (fun hh => by
    rcases hh with ⟨h, h'⟩ | ⟨h, h'⟩ | ⟨h, h'⟩
    · have := e1 h'; omega
    · have := e2 h'; omega
    · have := e3 h'; omega)
  have U_14 := U_13.trans (t_14.below U_13.size (fun k hk => by
    rcases hk with ⟨h, h'⟩ | ⟨h, h'⟩ | ⟨h, h'⟩
    · have := f1 h'; omega
    · have := f2 h'; omega
    · have := f3 h'; omega))
  have hh0 : 0 ≤ 1 + (bn : Int) + 2 * an + dn := by omega
  have hh1 : ((1 + (bn : Int) + 2 * an + dn) != (1 + (bn : Int) + 2 * an + dn)) = false := by simp
  obtain ⟨tot, htot⟩ : ∃ t : Int, t = 1 + (bn : Int) + 2 * an + dn := ⟨_, rfl⟩
  have HTOT : Hid _ := htot
  rw [← htot] at hh0 hh1 ⊢
  clear U_13 X_13 Y_13 a_13 v_13 t_14 r0 r1 r2 r3 r4 r5 ne0 htot
  obtain ⟨r0, r1, r2, r3, r4, r5⟩ := v_14.six6
  go_wp2_with fail
  refine (heldClk_any _ _ _ E1 _ _ _ E2 _ _ _ E3 _ _ _ Y_14).mono ?_
  rintro r w15 ⟨rfl, b_15⟩
  rw [← HTOT.out]
  have U_15 := U_14.trans (b_15.mono U_14.size)
  have X_15 := X_14.below b_15
  have Y_15 := Y_14.below b_15
  have a_15 := a_14.below b_15
  have v_15 := v_14.below b_15
  have q_15 := q_1.p.below U_15
  have P_15 := P_1.below U_15
  clear U_14 X_14 Y_14 a_14 v_14 b_15 r0 r1 r2 r3 r4 r5 HT HC HLE HCC ts
  obtain ⟨c0, c1, c2, c3⟩ := q_15.quadP
  go_wp2_with fail
  refine (toP_any _ _ _ _ ss _ _ _ G _ _ _ S _ P_15).mono ?_
  rintro r w16 ⟨F1, F2, F3, ts, rfl, lt, cp, b_16, m_16, k_16, l_16⟩
  have HT : Hid (ts.length = N) := lt
  have HC : Hid (copiesL2S ss ts) := cp
  have P_16 := P_15.below b_16
  have Q_16 : PlAt w16 (some ⟨F1, 0, none⟩) N ts (some ⟨F2, 0, none⟩) gn G (some ⟨F3, 0, none⟩) sn S := ⟨m_16.g, lt, P_16.za, k_16.ints' P_16.g.1, P_16.zg, l_16.ints' P_16.s.1, P_16.zs⟩
  clear lt cp m_16 k_16 l_16 P_16 P_15 q_15 c0 c1 c2 c3
  go_wp2_with fail
  refine (iclknew_any _ _ _ _ ts _ _ _ G _ _ _ S _ Q_16).mono ?_
  intro r w17 hR
  obtain ⟨ha1, H1, hb1, hc1, H2, hd1, he1, H3, hf1, rfl, b_17, Z_17, -, -, -⟩ := RT.out _ _ _ ts HT.out HC.out hR
  have bb_17 := b_16.trans (b_17.mono b_16.size)
  have v_18 := Cel.new w17 [.bool u, .int .i64 0, .slice ha1 bn hb1, .slice hc1 an hd1, .slice none 0 0, .slice he1 dn hf1] 31
  have b_18 : Below w17.heap.size w17 (w17.alloc (.cells #[.bool u, .int .i64 0, .slice ha1 bn hb1, .slice hc1 an hd1, .slice none 0 0, .slice he1 dn hf1] 31)) := (Below.refl _ _).alloc (Nat.le_refl _) _
  have bb_18 := bb_17.trans (b_18.mono bb_17.size)
  have U_18 := U_15.trans (bb_18.mono U_15.size)
  have X_18 := X_15.below bb_18
  have Y_18 := Y_15.below bb_18
  have Z_18 := Z_17.below b_18
  have a_18 := a_15.below bb_18
  have g_18 := v_15.below bb_18
  clear hR b_16 b_17 bb_17 b_18 bb_18 U_15 X_15 Y_15 Z_17 a_15 v_15 HT HC Q_16
  go_upto_region 25 with fail
  generalize (w17.alloc (.cells #[.bool u, .int .i64 0, .slice ha1 bn hb1, .slice hc1 an hd1, .slice none 0 0, .slice he1 dn hf1] 31)) = w18 at *
  obtain ⟨r0, r1, r2, r3, r4, r5⟩ := v_18.six6
  obtain ⟨s0, s1, s2, s3, s4, s5⟩ := a_18.six6
  go_wp2_with fail
  refine (eqClk_same _ _ _ H1 _ _ Bs _ H2 _ _ (fun _ => (0, 0)) _ H3 _ _ (fun _ => false) _ C1 _ _ C2 _ _ C3 _ _ Z_18 X_18).mono ?_
  rintro r w19 ⟨rfl, b_19⟩
  have U_19 := U_18.trans (b_19.mono U_18.size)
  have Y_19 := Y_18.below b_19
  have g_19 := g_18.below b_19
  clear U_18 X_18 Y_18 Z_18 a_18 g_18 v_18 b_19 r0 r1 r2 r3 r4 r5 s0 s1 s2 s3 s4 s5
  obtain ⟨r0, r1, r2, r3, r4, r5⟩ := g_19.six6
  go_wp2_with fail
  refine (heldClk_any _ _ _ E1 _ _ _ E2 _ _ _ E3 _ _ _ Y_19).mono ?_
  rintro r w20 ⟨rfl, b_20⟩
  rw [← HTOT.out]
  have U_20 := U_19.trans (b_20.mono U_19.size)
  have W_20 := q_1.b.trans (U_20.mono q_1.b.size)
  clear U_19 Y_19 g_19 b_20 U_20 r0 r1 r2 r3 r4 r5
  go_wp2
  go_ret
  exact ⟨rfl, W_20⟩

/-! ### The row's step -/
set_option maxRecDepth 100000 in
theorem lifted (os : Os) (started : os.Started) (H : Type) (enc : TypeId × Value → H) :
    ReturnsInHanded {} Try.checked os 3 .any (Rows.fnExactClkNewSpec.pre6 enc Try.prog Try.f3 Rows.fnExactClkNewRow.domain false) (Rows.fnExactClkNewSpec.post enc Try.prog Try.f3 false true false false) := by
  refine returnsInHanded_of_change (C := Try.checked) own started (by kernel_rfl) Try.func3
    (ChangeSpec.witness6 (enc := enc) (C := Try.checked) false ⟨#[], #[.agg #[.int .i64 0, .slice none 0 0, .slice none 0 0, .slice none 0 0]], []⟩ 8 (by kernel_rfl) (by kernel_rfl) (by kernel_rfl) (by kernel_rfl)) ?_
  intro W base args ds gs before hval0 hW hcnd _
  have hval : ∀ (j : Nat) t v, Try.f3.params[j]? = some t → args[j]? = some v → Value.okWide Try.prog W .any base t v := hval0
  have hW' := hW
  obtain ⟨p, q, hA0, hV, rfl, hfz, hnd⟩ := hW
  have hA : DataW.TrodAll enc Try.prog W 0 (fun _ => true) true Try.f3.params.toList args.toList ds p := hA0
  rw [Try.params3] at hA hval
  obtain ⟨v0, vs0, d0, ds0, p0, q0, hargs, rfl, rfl, h0, r0⟩ := trodAll_cons hA
  obtain ⟨rfl, rfl, rfl⟩ := trodAll_nil r0
  obtain rfl : args = #[v0] := by cases args; simp_all
  obtain ⟨rfl, rfl⟩ := trodVars_none hV
  have k0 := h0
  have lt0 : ∀ x ∈ p0, x.block < W.heap.size := by obtain ⟨m, hm⟩ := k0; exact DataW.trod_lt m _ _ _ hm
  obtain ⟨cl0, ad0, N0, pc0, ss0, ga0, gn0, gc0, G0, sa0, sn0, sc0, S0, rfl, wc0, hl0, hM0, hN0, hG0, hg0, hS0, hs0⟩ := open_plan (hval 0 25 v0 rfl rfl) h0
  clear hA0 hval0
  refine (walk W cl0 ad0 N0 pc0 ss0 ga0 gn0 gc0 G0 sa0 sn0 sc0 S0 hl0 hM0 hN0 hG0 hg0 hS0 hs0).mono fun e W' ⟨he, bel⟩ => ?_
  subst he
  exact ⟨_, rfl, _, _, _, [], _, [], hW', trodAll_mk1 (shut_bool Try.underlying4 _), (trodAll_cons_mk (Below.trod laidOut (by kernel_rfl) (of_decide_eq_true (by kernel_rfl)) k0 bel lt0) trodAll_mk0), rfl, bel.frame _, fun h => by cases h⟩

theorem over : Rows.fnExactClkNewRow.holds Try.pinned (OpenSpec.ofChange Rows.fnExactClkNewSpec) :=
  OpenClaim.holds_of_wide 3 Try.f3 rfl rfl rfl rfl rfl rfl rfl ⟨rfl, rfl, rfl, rfl, rfl⟩ rfl rfl rfl rfl rfl (by kernel_rfl) Try.func3 (by kernel_rfl)
    (of_decide_eq_true (by kernel_rfl)) (by unfold Func.isWrapper; first | (rw [if_pos (by decide +kernel)]; kernel_rfl) | (rw [if_neg (by decide +kernel)]; exact ⟨rfl, rfl⟩))
    (fun os started H enc _ => lifted os started H enc)

end Go.Proofs.Ythhfjodggmmcoaa.fnExactClkNew
namespace Go.Proofs.Ythhfjodggmmcoaa
/-- The statement. -/
theorem fnExactClkNew_holds : Rows.FnExactClkNewSaid := fnExactClkNew.over
#print axioms fnExactClkNew_holds
end Go.Proofs.Ythhfjodggmmcoaa
