/-
  For every form and number FnExactFrmTimes returns true, and the form reads behind the call as it did. No condition.
-/
import Derived.Test.YtmbhcngddpoonacTimes
import Derived.Test.YtmbhcngddpoonacOpen
namespace Go.Proofs.Ytmbhcngddpoonac.fnExactFrmTimes
open Go.ChangeShapes Go.WideShapes Go.ChangeAt Go.RowKit
set_option linter.unusedVariables false

set_option maxHeartbeats 6400000 in
theorem walk (w : World) (a : Option Addr) (na cap : Nat) (c : Option Addr) (ma cap' : Nat) (KA : Int) (CA DA : List Int) (hCA : Ints w a na CA) (hDA : Ints w c ma DA) (hn0 : na ≤ maxLen) (hm0 : ma ≤ maxLen) (wK : (Lit.int .i64 KA).wf = true) (k : Int) (wk : (Lit.int .i64 k).wf = true) :
    Calls Try.prog 8 #[formV a na cap c ma cap' KA, .int .i64 k] w fun e w' => e = .returned (.bool true) ∧ Below w.heap.size w w' := by
  clear wK wk
  have g1 := leftOf_ge 1048576 na
  have g2 := leftOf_ge (leftOf 1048576 na) ma
  by_cases h : leftOf (leftOf 1048576 na) ma < 0
  · go_enter Try.func8, Try.ntmps8
    go_wp2_with fail
    refine (szF_any _ _ _ _ _ _ _ _ _ hn0 hm0 (by omega) (by omega)).mono ?_
    rintro e w1 ⟨rfl, b1⟩
    go_wp2
    go_ret
    exact ⟨rfl, ((Below.refl _ _).alloc (Nat.le_refl _) _).trans (b1.mono (by simp))⟩
  have l2' := leftOf_le (l := leftOf 1048576 na) (n := ma) (by omega)
  have l1' := leftOf_le (l := 1048576) (n := na) (by omega)
  have hna : na ≤ 1048576 := by omega
  have hma : ma ≤ 1048576 := by omega
  have h' : 0 ≤ leftOf (leftOf 1048576 na) ma := by omega
  have HCA : Hid (CA.length = na) := hCA.1
  have HDA : Hid (DA.length = ma) := hDA.1
  obtain ⟨ok, hok⟩ : ∃ ok, ok = timOk na ma CA DA KA k := ⟨_, rfl⟩
  obtain ⟨C, hC⟩ : ∃ C : List Int, C = keepL ok (mulL k CA) := ⟨_, rfl⟩
  obtain ⟨D, hD⟩ : ∃ D : List Int, D = keepL ok (mulL k DA) := ⟨_, rfl⟩
  obtain ⟨K, hK⟩ : ∃ K : Int, K = keepK ok (k * KA) := ⟨_, rfl⟩
  have hs : ∀ (w : World) (a : Option Addr) (cap : Nat) (c : Option Addr) (cap' : Nat), Ints w a na CA → Ints w c ma DA → Calls Try.prog 26 #[formV a na cap c ma cap' KA, .int .i64 k] w fun e w' => Res w w' e C D K := by
    intro w a cap c cap' h1 h2; rw [hC, hD, hK, hok]; exact stim_any a na cap c ma cap' KA CA DA k w h1 h2 hna hma
  have hi : ∀ (w : World) (a : Option Addr) (cap : Nat) (c : Option Addr) (cap' : Nat), Ints w a na CA → Ints w c ma DA → Calls Try.prog 27 #[formV a na cap c ma cap' KA, .int .i64 k] w fun e w' => Res w w' e C D K := by
    intro w a cap c cap' h1 h2; rw [hC, hD, hK, hok]; exact itim_any a na cap c ma cap' KA CA DA k w h1 h2 hna hma
  have hlC : C.length ≤ 1048576 := by rw [hC]; exact keepL_len (by rw [mulL_len, HCA.out]; exact hna)
  have hlD : D.length ≤ 1048576 := by rw [hD]; exact keepL_len (by rw [mulL_len, HDA.out]; exact hma)
  clear hC hD hK hok l1' l2' g1 g2 h
  go_enter Try.func8, Try.ntmps8
  go_wp2_with fail
  refine (szF_any _ _ _ _ _ _ _ _ _ hn0 hm0 (by omega) (by omega)).mono ?_
  rintro e wa ⟨rfl, ba⟩
  have boxa := (Cel.new w _ _).below ba
  have Ba := ((Below.refl _ _).alloc (Nat.le_refl _) _).trans (ba.mono (by simp))
  have c0 := boxa.cell 0
  have c1 := boxa.cell 1
  have c2 := boxa.cell 2
  simp only [List.getElem?_cons_zero, List.getElem?_cons_succ] at c0 c1 c2
  go_wp2_with fail
  refine (toF_any _ _ _ _ _ _ _ CA DA _ (hCA.below Ba) (hDA.below Ba) hna hma).mono ?_
  rintro e wb ⟨E1, E2, rfl, b_b, -, -, f1, f2⟩
  have Bb := Ba.trans (b_b.mono Ba.size)
  go_wp2_with fail
  refine (hs _ _ _ _ _ (f1.ints' HCA.out) (f2.ints' HDA.out)).mono ?_
  rintro e w1 ⟨a0, n, cp0, c0', m, cp0', B1, B2, rfl, hn, hm, b1, oC, oD, g1, g2, g3⟩
  have hn1 : n ≤ 1048576 := by rw [← hn]; exact hlC
  have hm1 : m ≤ 1048576 := by rw [← hm]; exact hlD
  have HN : Hid (C.length = n) := hn
  have HM : Hid (D.length = m) := hm
  have B_1 := Bb.trans (b1.mono Bb.size)
  have box1 := (boxa.below b_b).below b1
  have gb : w.heap.size ≤ wb.heap.size := Bb.size
  clear hn hm c0 c1 c2 f1 f2 boxa Ba Bb ba b_b
  have hbx := box1.lt
  have c0 := box1.cell 0
  have c1 := box1.cell 1
  have c2 := box1.cell 2
  simp only [List.getElem?_cons_zero, List.getElem?_cons_succ] at c0 c1 c2
  go_wp2_with fail
  refine (toF_any _ _ _ _ _ _ _ CA DA _ ((hCA.below B_1).alloc _) ((hDA.below B_1).alloc _) hna hma).mono ?_
  rintro e wx ⟨Y1, Y2, rfl, bx, hy1, hy2, x1, x2⟩
  rw [World.size_alloc] at hy1
  have V_x := (Cel.new w1 _ _).below bx
  have boxx := (box1.alloc _).below bx
  have oCx := (oC.below ((Below.refl _ _).alloc (Nat.le_refl _) _)).below bx
  have oDx := (oD.below ((Below.refl _ _).alloc (Nat.le_refl _) _)).below bx
  have l1 : 0 < n → B1 < w1.heap.size := fun h => oC.lt (by rw [HN.out]; exact h)
  have l2 : 0 < m → B2 < w1.heap.size := fun h => oD.lt (by rw [HM.out]; exact h)
  have B_x : Below w.heap.size w wx := (B_1.alloc B_1.size _).trans (bx.mono (by have := B_1.size; simp; omega))
  have zx : w1.heap.size < wx.heap.size := V_x.lt
  have zz := b1.size
  clear c0 c1 c2 oC oD b1 bx B_1 box1
  go_wp2_with fail
  refine (hi _ _ _ _ _ ((x1.ints' HCA.out).alloc _) ((x2.ints' HDA.out).alloc _)).mono ?_
  rintro e w2 ⟨a', n', cpa, c', m', cpc, P1, P2, rfl, hn, hm, b2, pC, pD, q1, q2, q3⟩
  obtain rfl : n' = n := by rw [← hn, HN.out]
  obtain rfl : m' = m := by rw [← hm, HM.out]
  clear hn hm
  rw [World.size_alloc] at q1 q2
  have X_2 := (Cel.new wx _ _).below b2
  have V_2 := (V_x.alloc _).below b2
  have box2 := (boxx.alloc _).below b2
  have oC2 := (oCx.below ((Below.refl _ _).alloc (Nat.le_refl _) _)).below b2
  have oD2 := (oDx.below ((Below.refl _ _).alloc (Nat.le_refl _) _)).below b2
  have y_1 := (x1.alloc _).below b2
  have y_2 := (x2.alloc _).below b2
  have hY1 := x1.lt
  have hY2 := x2.lt
  have B_2 : Below w.heap.size w w2 := (B_x.alloc B_x.size _).trans (b2.mono (by have := B_x.size; simp; omega))
  have z2 : wx.heap.size < w2.heap.size := X_2.lt
  have z12 : w1.heap.size < w2.heap.size := by omega
  have y1 : 0 < n' → P1 < w2.heap.size := fun h => pC.lt (by rw [HN.out]; exact h)
  have y2 : 0 < m' → P2 < w2.heap.size := fun h => pD.lt (by rw [HM.out]; exact h)
  have he := eqF_refl C D K
  have heA := eqF_refl CA DA KA
  clear b2 B_x oCx oDx boxx V_x x1 x2
  have c0 := V_2.cell 0
  have c1 := V_2.cell 1
  have c2 := V_2.cell 2
  simp only [List.getElem?_cons_zero, List.getElem?_cons_succ] at c0 c1 c2
  go_wp2_with fail
  refine (eqF_any _ _ _ _ _ _ _ C D _ _ _ _ _ _ _ C D _ ((pC.ints' HN.out).alloc _) ((pD.ints' HM.out).alloc _) ((oC2.ints' HN.out).alloc _) ((oD2.ints' HM.out).alloc _) hn1 hm1 hn1 hm1).mono ?_
  rintro e wq ⟨rfl, bc⟩
  have al : Below w2.heap.size w2 (w2.alloc (Obj.cells #[Value.slice a' n' cpa, Value.slice c' m' cpc, Value.int IntKind.i64 K] 27)) := (Below.refl _ _).alloc (Nat.le_refl _) _
  have uc := (Cel.new w2 _ _).below bc
  have alc : Below w2.heap.size w2 wq := al.trans (bc.mono (by simp))
  have vc := V_2.below alc
  have xc := X_2.below alc
  have boxc := box2.below alc
  have pCc := pC.below alc
  have pDc := pD.below alc
  have oCc := oC2.below alc
  have oDc := oD2.below alc
  have yc1 := y_1.below alc
  have yc2 := y_2.below alc
  have Bc := B_2.trans (alc.mono B_2.size)
  have zc : w2.heap.size < wq.heap.size := uc.lt
  clear c0 c1 c2 al alc bc V_2 X_2 box2 pC pD oC2 oD2 y_1 y_2 B_2
  have c0 := boxc.cell 0
  have c1 := boxc.cell 1
  have c2 := boxc.cell 2
  have c3 := xc.cell 0
  have c4 := xc.cell 1
  have c5 := xc.cell 2
  simp only [List.getElem?_cons_zero, List.getElem?_cons_succ] at c0 c1 c2 c3 c4 c5
  go_upto_region 10 with fail
  go_cut [35] (fun s wd => s = .bool false ∧ Below wq.heap.size wq wd)
  case first =>
    go_region_with (first | (go_at_call 11; refine (toF_any _ _ _ _ _ _ _ CA DA _ (by exact hCA.below Bc.drew) (by exact hDA.below Bc.drew) hna hma).mono ?_; rintro e w6 ⟨W1, W2, rfl, b6, ho5, ho6, k5, k6⟩; have b6' := below_of_drew b6; have d3 := (xc.below b6').cell 0; have d4 := (xc.below b6').cell 1; have d5 := (xc.below b6').cell 2; simp only [List.getElem?_cons_zero, List.getElem?_cons_succ] at d3 d4 d5) | (go_at_call 13; refine (eqF_any _ _ _ _ _ _ _ CA DA _ _ _ _ _ _ _ CA DA _ (by exact (yc1.below b6').ints' HCA.out) (by exact (yc2.below b6').ints' HDA.out) (by exact k5.ints' HCA.out) (by exact k6.ints' HDA.out) hna hma hna hma).mono ?_; rintro e w7 ⟨rfl, b7⟩))
    all_goals
      go_wp2_with fail
      go_meet
      case rel => exact ⟨rfl, b6'.trans (b7.mono b6'.size)⟩
  case rest =>
  obtain ⟨rfl, bd⟩ := hcut
  have u_d := uc.below bd
  have v_d := vc.below bd
  have x_d := xc.below bd
  have boxd := boxc.below bd
  have pCd := pCc.below bd
  have pDd := pDc.below bd
  have oCd := oCc.below bd
  have oDd := oDc.below bd
  have yd1 := yc1.below bd
  have yd2 := yc2.below bd
  have Bd := Bc.trans (bd.mono Bc.size)
  have zd : wq.heap.size ≤ wc.heap.size := bd.size
  clear c0 c1 c2 c3 c4 c5 bd uc vc xc boxc pCc pDc oCc oDc yc1 yc2 Bc
  have c0 := x_d.cell 0
  have c1 := x_d.cell 1
  have c2 := x_d.cell 2
  simp only [List.getElem?_cons_zero, List.getElem?_cons_succ] at c0 c1 c2
  go_wp2_with fail
  refine (markF_any _ _ _ _ _ _ _ Y1 Y2 CA DA _ _ (.inr ⟨rfl, yd1⟩) (.inr ⟨rfl, yd2⟩) (fun _ _ => by omega) HCA.out HDA.out hna hma (by omega) (by omega)).mono ?_
  rintro e we ⟨rfl, te, -, -⟩
  have u_e := u_d.touch te (by omega)
  have v_e := v_d.touch te (by omega)
  have boxe := boxd.touch te (by omega)
  have oCe : OwnAt we a0 B1 C := by
    by_cases h0 : 0 < n'
    · exact oCd.touch te (by have := l1 h0; omega)
    · exact .inl (List.eq_nil_of_length_eq_zero (by rw [HN.out]; omega))
  have oDe : OwnAt we c0' B2 D := by
    by_cases h0 : 0 < m'
    · exact oDd.touch te (by have := l2 h0; omega)
    · exact .inl (List.eq_nil_of_length_eq_zero (by rw [HM.out]; omega))
  have pCe : OwnAt we a' P1 C := by
    by_cases h0 : 0 < n'
    · exact pCd.touch te (by have := q1 h0; omega)
    · exact .inl (List.eq_nil_of_length_eq_zero (by rw [HN.out]; omega))
  have pDe : OwnAt we c' P2 D := by
    by_cases h0 : 0 < m'
    · exact pDd.touch te (by have := q2 h0; omega)
    · exact .inl (List.eq_nil_of_length_eq_zero (by rw [HM.out]; omega))
  have Be : Below w.heap.size w we := Bd.trans (te.below Bd.size (by intro k h; omega))
  have ze : wc.heap.size ≤ we.heap.size := te.size
  clear c0 c1 c2 te u_d v_d x_d boxd pCd pDd oCd oDd yd1 yd2 Bd
  have c0 := u_e.cell 0
  have c1 := u_e.cell 1
  have c2 := u_e.cell 2
  have c3 := v_e.cell 0
  have c4 := v_e.cell 1
  have c5 := v_e.cell 2
  simp only [List.getElem?_cons_zero, List.getElem?_cons_succ] at c0 c1 c2 c3 c4 c5
  have yA : 0 ≤ (1 : Int) + na + ma := by omega
  have yA' : decide ((1 : Int) + na + ma < 0) = false := by simp; omega
  go_wp2_with fail
  refine (eqF_any _ _ _ _ _ _ _ C D _ _ _ _ _ _ _ C D _ (pCe.ints' HN.out) (pDe.ints' HM.out) (oCe.ints' HN.out) (oDe.ints' HM.out) hn1 hm1 hn1 hm1).mono ?_
  rintro e w3 ⟨rfl, b3⟩
  have u3 := u_e.below b3
  have v3 := v_e.below b3
  have box3 := boxe.below b3
  have pC3 := pCe.below b3
  have pD3 := pDe.below b3
  have oC3 := oCe.below b3
  have oD3 := oDe.below b3
  have bb3 := Be.trans (b3.mono Be.size)
  have z3 : w2.heap.size < w3.heap.size := u3.lt
  clear c0 c1 c2 c3 c4 c5 b3 u_e v_e boxe pCe pDe oCe oDe Be
  have c0 := u3.cell 0
  have c1 := u3.cell 1
  have c2 := u3.cell 2
  simp only [List.getElem?_cons_zero, List.getElem?_cons_succ] at c0 c1 c2
  go_wp2_with fail
  refine (markF_any _ _ _ _ _ _ _ P1 P2 C D _ _ pC3 pD3 q3 HN.out HM.out hn1 hm1 (by omega) (by omega)).mono ?_
  rintro e w4 ⟨rfl, t4, mC, mD⟩
  have u4 := u3.touch t4 (by omega)
  have v4 := v3.touch t4 (by omega)
  have box4 := box3.touch t4 (by omega)
  have oC4 : OwnAt w4 a0 B1 C := by
    by_cases h0 : 0 < n'
    · exact oC3.touch t4 (by have := l1 h0; omega)
    · exact .inl (List.eq_nil_of_length_eq_zero (by rw [HN.out]; omega))
  have oD4 : OwnAt w4 c0' B2 D := by
    by_cases h0 : 0 < m'
    · exact oD3.touch t4 (by have := l2 h0; omega)
    · exact .inl (List.eq_nil_of_length_eq_zero (by rw [HM.out]; omega))
  have bb4 : Below w.heap.size w w4 := bb3.trans (t4.below bb3.size (by intro k h; omega))
  have z4 : w3.heap.size ≤ w4.heap.size := t4.size
  have iC := mC.ints' (ramp_len _ _)
  have iD := mD.ints' (ramp_len _ _)
  clear c0 c1 c2 u3 v3 pC3 pD3 oC3 oD3 t4 bb3
  have c0 := u4.cell 0
  have c1 := u4.cell 1
  have c2 := u4.cell 2
  simp only [List.getElem?_cons_zero, List.getElem?_cons_succ] at c0 c1 c2
  have y3 : 0 ≤ (1 : Int) + n' + m' := by omega
  have y4 : ((1 : Int) + n' + m' != 1 + n' + m') = false := by simp
  go_wp2_with fail
  refine (heldF_any _ _ _ _ _ _ _ _ _ iC iD hn1 hm1 (by omega) (by omega)).mono ?_
  rintro e w5 ⟨rfl, b5⟩
  have u5 := u4.below b5
  have v5 := v4.below b5
  have box5 := box4.below b5
  have mC5 := mC.below b5
  have mD5 := mD.below b5
  have oC5 := oC4.below b5
  have oD5 := oD4.below b5
  have bb5 := bb4.trans (b5.mono bb4.size)
  have z5 : w4.heap.size ≤ w5.heap.size := b5.size
  clear c0 c1 c2 iC iD mC mD oC4 oD4 u4 v4 b5 bb4
  have d0 := box5.cell 0
  have d1 := box5.cell 1
  have d2 := box5.cell 2
  simp only [List.getElem?_cons_zero, List.getElem?_cons_succ] at d0 d1 d2
  go_wp2_with fail
  refine (toF_any _ _ _ _ _ _ _ CA DA _ (hCA.below bb5) (hDA.below bb5) hna hma).mono ?_
  rintro e w6a ⟨F1, F2, rfl, b6a, -, -, f1, f2⟩
  go_wp2_with fail
  refine (hi _ _ _ _ _ (f1.ints' HCA.out) (f2.ints' HDA.out)).mono ?_
  rintro e w6 ⟨a2, n2, cpx, c2', m2, cpy, Q1, Q2, rfl, hn, hm, b6b, rC, rD, -, -, -⟩
  have b6 : Below w5.heap.size w5 w6 := b6a.trans (b6b.mono b6a.size)
  clear d0 d1 d2 f1 f2 b6a b6b
  obtain rfl : n2 = n' := by rw [← hn, HN.out]
  obtain rfl : m2 = m' := by rw [← hm, HM.out]
  clear hn hm
  have u6 := u5.below b6
  have v6 := v5.below b6
  have mC6 := mC5.below b6
  have mD6 := mD5.below b6
  have jC := (oC5.below b6).ints' HN.out
  have jD := (oD5.below b6).ints' HM.out
  have iC := rC.ints' HN.out
  have iD := rD.ints' HM.out
  have bb6 := bb5.trans (b6.mono bb5.size)
  have z6 : w5.heap.size ≤ w6.heap.size := b6.size
  have z7 : w1.heap.size < w6.heap.size := v6.lt
  have z8 : w2.heap.size < w6.heap.size := u6.lt
  clear u5 v5 mC5 mD5 oC5 oD5 b6 bb5 rC rD
  have c0 := v6.cell 0
  have c1 := v6.cell 1
  have c2 := v6.cell 2
  simp only [List.getElem?_cons_zero, List.getElem?_cons_succ] at c0 c1 c2
  go_wp2_with fail
  refine (eqF_any _ _ _ _ _ _ _ C D _ _ _ _ _ _ _ C D _ (iC.alloc _) (iD.alloc _) (jC.alloc _) (jD.alloc _) hn1 hm1 hn1 hm1).mono ?_
  rintro e w7 ⟨rfl, b7⟩
  have u7 := (u6.alloc _).below b7
  have kC := ((mC6.below ((Below.refl _ _).alloc (Nat.le_refl _) _)).below b7).ints' (ramp_len _ _)
  have kD := ((mD6.below ((Below.refl _ _).alloc (Nat.le_refl _) _)).below b7).ints' (ramp_len _ _)
  have bb7 : Below w.heap.size w w7 := (bb6.alloc bb6.size _).trans (b7.mono (by have := bb6.size; simp; omega))
  clear c0 c1 c2 u6 v6 mC6 mD6 jC jD iC iD b7 bb6
  have c0 := u7.cell 0
  have c1 := u7.cell 1
  have c2 := u7.cell 2
  simp only [List.getElem?_cons_zero, List.getElem?_cons_succ] at c0 c1 c2
  go_wp2_with fail
  refine (heldF_any _ _ _ _ _ _ _ _ _ kC kD hn1 hm1 (by omega) (by omega)).mono ?_
  rintro e w8 ⟨rfl, b8⟩
  have bb8 := bb7.trans (b8.mono bb7.size)
  go_wp2
  go_ret
  exact ⟨rfl, bb8⟩

/-! ### The row's step -/
set_option maxRecDepth 100000 in
theorem lifted (os : Os) (started : os.Started) (H : Type) (enc : TypeId × Value → H) :
    ReturnsInHanded {} Try.checked os 8 .any (Rows.fnExactFrmTimesSpec.pre6 enc Try.prog Try.f8 Rows.fnExactFrmTimesRow.domain false) (Rows.fnExactFrmTimesSpec.post enc Try.prog Try.f8 false true false false) := by
  refine returnsInHanded_of_change (C := Try.checked) own started (by kernel_rfl) Try.func8
    (ChangeSpec.witness6 (enc := enc) (C := Try.checked) false ⟨#[], #[.agg #[.slice none 0 0, .slice none 0 0, .int .i64 0], .int .i64 0], []⟩ 8 (by kernel_rfl) (by kernel_rfl) (by kernel_rfl) (by kernel_rfl)) ?_
  intro W base args ds gs before hval0 hW hcnd _
  have hval : ∀ (j : Nat) t v, Try.f8.params[j]? = some t → args[j]? = some v → Value.okWide Try.prog W .any base t v := hval0
  have hW' := hW
  obtain ⟨p, q, hA0, hV, rfl, hfz, hnd⟩ := hW
  have hA : DataW.TrodAll enc Try.prog W 0 (fun _ => true) true Try.f8.params.toList args.toList ds p := hA0
  rw [Try.params8] at hA hval
  obtain ⟨v0, vs0, d0, ds0, p0, q0, hargs, rfl, rfl, h0, r0⟩ := trodAll_cons hA
  obtain ⟨v1, vs1, d1, ds1, p1, q1, rfl, rfl, rfl, h1, r1⟩ := trodAll_cons r0
  obtain ⟨rfl, rfl, rfl⟩ := trodAll_nil r1
  obtain rfl : args = #[v0, v1] := by cases args; simp_all
  obtain ⟨rfl, rfl⟩ := trodVars_none hV
  have k0 := h0
  have lt0 : ∀ x ∈ p0, x.block < W.heap.size := by obtain ⟨m, hm⟩ := k0; exact DataW.trod_lt m _ _ _ hm
  obtain ⟨a0, n0, cap0, c0, m0, cap0', K0, C0, D0, rfl, hC0, hD0, hn0, hm0, wK0⟩ := open_form (hval 0 24 v0 rfl rfl) h0
  have k1 := h1
  have lt1 : ∀ x ∈ p1, x.block < W.heap.size := by obtain ⟨m, hm⟩ := k1; exact DataW.trod_lt m _ _ _ hm
  obtain ⟨x1, rfl, wx1⟩ := open_numT h1 (hval 1 3 v1 rfl rfl)
  clear hA0 hval0
  refine (walk W a0 n0 cap0 c0 m0 cap0' K0 C0 D0 hC0 hD0 hn0 hm0 wK0 x1 wx1).mono fun e W' ⟨he, bel⟩ => ?_
  subst he
  exact ⟨_, rfl, _, _, _, [], _, [], hW', trodAll_mk1 (shut_bool Try.underlying4 _), (trodAll_cons_mk (Below.trod laidOut (by kernel_rfl) (of_decide_eq_true (by kernel_rfl)) k0 bel lt0) (trodAll_cons_mk (Below.trod laidOut (by kernel_rfl) (of_decide_eq_true (by kernel_rfl)) k1 bel lt1) trodAll_mk0)), rfl, bel.frame _, fun h => by cases h⟩

theorem over : Rows.fnExactFrmTimesRow.holds Try.pinned (OpenSpec.ofChange Rows.fnExactFrmTimesSpec) :=
  OpenClaim.holds_of_wide 8 Try.f8 rfl rfl rfl rfl rfl rfl rfl ⟨rfl, rfl, rfl, rfl, rfl⟩ rfl rfl rfl rfl rfl (by kernel_rfl) Try.func8 (by kernel_rfl)
    (of_decide_eq_true (by kernel_rfl)) (by unfold Func.isWrapper; first | (rw [if_pos (by decide +kernel)]; kernel_rfl) | (rw [if_neg (by decide +kernel)]; exact ⟨rfl, rfl⟩))
    (fun os started H enc _ => lifted os started H enc)

end Go.Proofs.Ytmbhcngddpoonac.fnExactFrmTimes
namespace Go.Proofs.Ytmbhcngddpoonac
/-- The statement. -/
theorem fnExactFrmTimes_holds : Rows.FnExactFrmTimesSaid := fnExactFrmTimes.over
#print axioms fnExactFrmTimes_holds
end Go.Proofs.Ytmbhcngddpoonac
