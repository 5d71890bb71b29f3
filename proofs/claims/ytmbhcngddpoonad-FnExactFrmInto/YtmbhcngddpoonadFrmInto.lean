/-
  For every form and every slice of forms FnExactFrmInto returns true, and both read behind the call as they did. No condition.
-/
import Derived.Test.YtmbhcngddpoonadIntoL
import Derived.Test.YtmbhcngddpoonadOpenF
namespace Go.Proofs.Ytmbhcngddpoonad.fnExactFrmInto
open Go.ChangeShapes Go.WideShapes Go.ChangeAt Go.RowKit
set_option linter.unusedVariables false

theorem OwnAt.alloc {w : World} {a : Option Addr} {B : Nat} {zs : List Int} (h : OwnAt w a B zs) (o : Obj) : OwnAt (w.alloc o) a B zs := h.below ((Below.refl _ _).alloc (Nat.le_refl _) _)
theorem OwnAt.touch' {S : Nat → Prop} {w w' : World} {a : Option Addr} {B : Nat} {zs : List Int} (h : OwnAt w a B zs) (hb : Touch S w w') (hn : 0 < zs.length → ¬ S B) : OwnAt w' a B zs := by
  by_cases h0 : 0 < zs.length
  · exact h.touch hb (hn h0)
  · exact .inl (List.eq_nil_of_length_eq_zero (by omega))

/-- The law's box, and old memory. -/
structure HB (w : World) (la : List Value) (W : World) : Prop where
  p : Cel W w.heap.size la 24
  b : Below w.heap.size w W
theorem HB.below {w W W' : World} {la : List Value} (h : HB w la W) (b : Below W.heap.size W W') : HB w la W' := ⟨h.p.below b, h.b.trans (b.mono h.b.size)⟩
theorem HB.alloc {w W : World} {la : List Value} (h : HB w la W) (o : Obj) : HB w la (W.alloc o) := h.below ((Below.refl _ _).alloc (Nat.le_refl _) _)
theorem HB.touch {S : Nat → Prop} {w W W' : World} {la : List Value} (h : HB w la W) (t : Touch S W W') (hs : ∀ k, S k → w.heap.size < k) : HB w la W' :=
  ⟨h.p.touch t (fun hh => by have := hs _ hh; omega), h.b.trans (t.below h.b.size (fun k hh => by have := hs k hh; omega))⟩

/-- What the law holds once all is made: its box, its variables, their lists. -/
structure S3 (w : World) (la : List Value) (V X G : Nat) (lv lx lg : List Value) (a0 : Option Addr) (B1 : Nat) (c0 : Option Addr) (B2 : Nat) (a1 : Option Addr) (P1 : Nat) (c1 : Option Addr) (P2 : Nat) (C D PC PD : List Int) (W : World) : Prop where
  h : HB w la W
  v : Cel W V lv 28
  x : Cel W X lx 28
  g : Cel W G lg 28
  oC : OwnAt W a0 B1 C
  oD : OwnAt W c0 B2 D
  pC : OwnAt W a1 P1 PC
  pD : OwnAt W c1 P2 PD
section
variable {w W W' : World} {la lv lx lg : List Value} {V X G B1 B2 P1 P2 : Nat} {a0 c0 a1 c1 : Option Addr} {C D PC PD : List Int}
theorem S3.below (s : S3 w la V X G lv lx lg a0 B1 c0 B2 a1 P1 c1 P2 C D PC PD W) (b : Below W.heap.size W W') : S3 w la V X G lv lx lg a0 B1 c0 B2 a1 P1 c1 P2 C D PC PD W' :=
  ⟨s.h.below b, s.v.below b, s.x.below b, s.g.below b, s.oC.below b, s.oD.below b, s.pC.below b, s.pD.below b⟩
theorem S3.touch {S : Nat → Prop} (s : S3 w la V X G lv lx lg a0 B1 c0 B2 a1 P1 c1 P2 C D PC PD W) (t : Touch S W W') (hs : ∀ k, S k → w.heap.size < k) (hv : ¬ S V) (hx : ¬ S X) (hg : ¬ S G) (h1 : 0 < C.length → ¬ S B1) (h2 : 0 < D.length → ¬ S B2) (h3 : 0 < PC.length → ¬ S P1) (h4 : 0 < PD.length → ¬ S P2) : S3 w la V X G lv lx lg a0 B1 c0 B2 a1 P1 c1 P2 C D PC PD W' :=
  ⟨s.h.touch t hs, s.v.touch t hv, s.x.touch t hx, s.g.touch t hg, OwnAt.touch' s.oC t h1, OwnAt.touch' s.oD t h2, OwnAt.touch' s.pC t h3, OwnAt.touch' s.pD t h4⟩
end

theorem cells3 {w W : World} {a c : Option Addr} {na cap ma cap' : Nat} {KA : Int} (h : HB w [.slice a na cap, .slice c ma cap', .int .i64 KA] W) :
    W.cell? ⟨w.heap.size, 0, none⟩ = some (.slice a na cap) ∧ W.cell? ⟨w.heap.size, 1, none⟩ = some (.slice c ma cap') ∧ W.cell? ⟨w.heap.size, 2, none⟩ = some (.int .i64 KA) :=
  ⟨h.p.cell 0, h.p.cell 1, h.p.cell 2⟩
theorem copies_eq {fs gs : List FV} {N : Nat} (hg : gs.length = N) {hs : List FV} (hh : hs.length = N) (h1 : copies fs gs) (h2 : copies fs hs) : ∀ i, i < N → eqF (gs[i]?.getD noFV).C (gs[i]?.getD noFV).D (gs[i]?.getD noFV).K (hs[i]?.getD noFV).C (hs[i]?.getD noFV).D (hs[i]?.getD noFV).K = true := fun i hi => by
  obtain ⟨e1, e2, e3, _⟩ := h1 i (by omega)
  obtain ⟨d1, d2, d3, _⟩ := h2 i (by omega)
  rw [e1, e2, e3, d1, d2, d3]
  exact eqF_refl _ _ _

theorem mf_touch {S : Nat → Prop} {W W' : World} {B lo : Nat} {cs : List (List Value)} {gs : List FV} {p q : Nat → Nat} (h : MF W B lo cs gs p q) (t : Touch S W W') (hs : ∀ k, S k → k < B) : MF W' B lo cs gs p q := by
  have hb := h.b
  refine ⟨by rw [t.block B (lt_of_block h.c) (fun hh => by have := hs _ hh; omega)]; exact h.c, h.t, fun i hi => ?_, h.b, Nat.le_trans h.s t.size⟩
  obtain ⟨a1, a2, a3, a4, a5, a6, a7, a8, a9, a10, a11, a12, a13⟩ := h.l i hi
  have k1 : Blk W' (p i) (gs[i]?.getD noFV).C := by unfold Blk at *; rw [t.block _ (lt_of_block a4) (fun hh => by have := hs _ hh; omega)]; exact a4
  have k2 : Blk W' (q i) (gs[i]?.getD noFV).D := by unfold Blk at *; rw [t.block _ (lt_of_block a5) (fun hh => by have := hs _ hh; omega)]; exact a5
  exact ⟨a1, a2, a3, k1, k2, a6, a7, a8, a9, a10, a11, Nat.lt_of_lt_of_le a12 t.size, a13⟩

set_option maxRecDepth 100000 in
set_option maxHeartbeats 12800000 in
theorem walk (w : World) (a : Option Addr) (na cap : Nat) (c : Option Addr) (ma cap' : Nat) (KA : Int) (CA DA : List Int) (hCA : Ints w a na CA) (hDA : Ints w c ma DA) (hna0 : na ≤ maxLen) (hma0 : ma ≤ maxLen) (wKA : (Lit.int .i64 KA).wf = true)
    (ad : Option Addr) (N capN : Nat) (fs : List FV) (hN0 : fs.length = N) (hM : FormsM w ad fs) (hN1 : N ≤ maxLen) :
    Calls Try.prog 4 #[formV a na cap c ma cap' KA, .slice ad N capN] w fun e w' => e = .returned (.bool true) ∧ Below w.heap.size w w' := by
  clear wKA
  have g1 := leftOf_ge 1048576 na
  have g2 := leftOf_ge (leftOf 1048576 na) ma
  have n0 : HB w [.slice a na cap, .slice c ma cap', .int .i64 KA] (w.alloc (Obj.cells #[Value.slice a na cap, Value.slice c ma cap', Value.int IntKind.i64 KA] 24)) := ⟨Cel.new w _ _, (Below.refl _ _).alloc (Nat.le_refl _) _⟩
  have HN0 : Hid (fs.length = N) := hN0
  clear hN0
  by_cases h : leftOf (leftOf 1048576 na) ma < 0
  · go_enter Try.func4, Try.ntmps4
    go_wp2_with fail
    refine (szF_any _ _ _ _ _ _ _ _ _ hna0 hma0 (by omega) (by omega)).mono ?_
    rintro ee w1 ⟨rfl, b1⟩
    go_wp2
    go_ret
    exact ⟨rfl, (n0.below b1).b⟩
  have l2' := leftOf_le (l := leftOf 1048576 na) (n := ma) (by omega)
  have l1' := leftOf_le (l := 1048576) (n := na) (by omega)
  have hna : na ≤ 1048576 := by omega
  have hma : ma ≤ 1048576 := by omega
  obtain ⟨lf, hlf⟩ : ∃ lf, lf = leftOf (leftOf 1048576 na) ma := ⟨_, rfl⟩
  have h0 : 0 ≤ lf := by omega
  have h1 : lf ≤ 1048576 := by omega
  have HLF : Hid (lf = leftOf (leftOf 1048576 na) ma) := hlf
  have HCA : Hid (CA.length = na) := hCA.1
  have HDA : Hid (DA.length = ma) := hDA.1
  clear l1' l2' g1 g2 h hlf
  go_enter Try.func4, Try.ntmps4
  go_wp2_with fail
  refine (szF_any _ _ _ _ _ _ _ _ _ hna0 hma0 (by omega) (by omega)).mono ?_
  rintro ee w1 ⟨rfl, b1⟩
  rw [← HLF.out]
  have H1 := n0.below b1
  clear b1 n0
  go_wp2_with fail
  refine (szFS_any _ _ _ fs _ _ HN0.out (hM.below H1.b) hN1 h0 h1).mono ?_
  rintro ee wy ⟨r, rfl, hr0, hr1, hr2, b2⟩
  have HY := H1.below b2
  clear b2 H1
  by_cases hr : r < 0
  · go_wp2
    go_ret
    exact ⟨rfl, HY.b⟩
  obtain ⟨hN, hsz⟩ := hr2 (by omega)
  have hF : FormsG w ad fs := hM.g hsz
  have hr' : 0 ≤ r := by omega
  clear hsz hM hr hr0 hr1 hr2 h0 h1
  obtain ⟨C, hC⟩ : ∃ C : List Int, C = keepL (intoOk na ma CA DA KA N fs) (intoC CA fs 3) := ⟨_, rfl⟩
  obtain ⟨D, hD⟩ : ∃ D : List Int, D = keepL (intoOk na ma CA DA KA N fs) (intoD CA DA fs 3) := ⟨_, rfl⟩
  obtain ⟨K, hK⟩ : ∃ K : Int, K = keepK (intoOk na ma CA DA KA N fs) (intoK CA KA fs 3) := ⟨_, rfl⟩
  have hs : ∀ (W : World) (a : Option Addr) (cap : Nat) (c : Option Addr) (cap' : Nat) (ad : Option Addr) (capN : Nat) (gs : List FV), Ints W a na CA → Ints W c ma DA → gs.length = N → FormsG W ad gs → copies fs gs → Calls Try.prog 17 #[formV a na cap c ma cap' KA, .slice ad N capN] W fun e w' => Res W w' e C D K := by
    intro W a cap c cap' ad capN gs h1 h2 h3 h4 h5
    obtain ⟨e1, e2, e3⟩ := copies_same (n := na) (m := ma) (C := CA) (D := DA) (K := KA) HN0.out h3 h5
    rw [hC, hD, hK, ← e1, ← e2, ← e3]
    exact sinto_any a na cap c ma cap' KA CA DA ad N capN gs W h1 h2 hna hma h3 h4 hN
  have hi : ∀ (W : World) (a : Option Addr) (cap : Nat) (c : Option Addr) (cap' : Nat) (ad : Option Addr) (capN : Nat) (gs : List FV), Ints W a na CA → Ints W c ma DA → gs.length = N → FormsG W ad gs → copies fs gs → Calls Try.prog 19 #[formV a na cap c ma cap' KA, .slice ad N capN] W fun e w' => Res W w' e C D K := by
    intro W a cap c cap' ad capN gs h1 h2 h3 h4 h5
    obtain ⟨e1, e2, e3⟩ := copies_same (n := na) (m := ma) (C := CA) (D := DA) (K := KA) HN0.out h3 h5
    rw [hC, hD, hK, ← e1, ← e2, ← e3]
    exact iinto_any a na cap c ma cap' KA CA DA ad N capN gs W h1 h2 hna hma h3 h4 hN
  obtain ⟨hlC, hlD⟩ := into_len (n := na) (N := N) (C := CA) (K := KA) (fs := fs) HDA.out hma
  rw [← hC] at hlC
  rw [← hD] at hlD
  have HSS : Hid _ := hs
  have HII : Hid _ := hi
  clear hs hi hC hD hK
  have GY := cells3 HY
  have ly := HY.p.lt
  go_wp2_with fail
  refine (toF_any _ _ _ _ _ _ _ CA DA _ (hCA.below HY.b) (hDA.below HY.b) hna hma).mono ?_
  rintro ee u1 ⟨E1, E2, rfl, bu1, -, -, f1, f2⟩
  have HU1 := HY.below bu1
  have zu1 := bu1.size
  clear GY bu1
  go_wp2_with fail
  refine (toFS_any _ _ _ fs _ HN0.out (hF.below HU1.b) hN).mono ?_
  rintro ee u2 ⟨cs, gs, p, q, rfl, hgs, hcs, hcp, bu2, hm⟩
  have HU2 := HU1.below bu2
  have f1' := f1.below bu2
  have f2' := f2.below bu2
  have zu2 := bu2.size
  go_wp2_with fail
  refine (HSS.out _ _ _ _ _ _ _ gs (f1'.ints' HCA.out) (f2'.ints' HDA.out) hgs hm.g hcp).mono ?_
  rintro ee u3 ⟨a0, n, cp0, c0, m, cp0', B1, B2, rfl, hn, hm', bu3, oC, oD, g1, g2, g3⟩
  have HN : Hid (C.length = n) := hn
  have HM : Hid (D.length = m) := hm'
  have HC := HU2.below bu3
  have zu3 := bu3.size
  have hn1 : n ≤ 1048576 := by rw [← hn]; exact hlC
  have hm1 : m ≤ 1048576 := by rw [← hm']; exact hlD
  have l1 : 0 < n → B1 < u3.heap.size := fun h => oC.lt (by rw [HN.out]; exact h)
  have l2 : 0 < m → B2 < u3.heap.size := fun h => oD.lt (by rw [HM.out]; exact h)
  have oC1 := OwnAt.alloc oC (Obj.cells #[Value.slice a0 n cp0, Value.slice c0 m cp0', Value.int IntKind.i64 K] 28)
  have oD1 := OwnAt.alloc oD (Obj.cells #[Value.slice a0 n cp0, Value.slice c0 m cp0', Value.int IntKind.i64 K] 28)
  have HC1 := HC.alloc (Obj.cells #[Value.slice a0 n cp0, Value.slice c0 m cp0', Value.int IntKind.i64 K] 28)
  have vV := Cel.new u3 [.slice a0 n cp0, .slice c0 m cp0', .int .i64 K] 28
  have GC := cells3 HC1
  clear hn hm' bu3 bu2 hm hcp hcs hgs f1 f2 f1' f2' HU1 HU2 HC oC oD HY
  go_wp2_with fail
  refine (toF_any _ _ _ _ _ _ _ CA DA _ (hCA.below HC1.b) (hDA.below HC1.b) hna hma).mono ?_
  rintro ee wx ⟨Y1, Y2, rfl, bx, hy1, hy2, x1, x2⟩
  rw [World.size_alloc] at hy1
  have HX := (HC1.below bx).alloc (Obj.cells #[Value.slice (some ⟨Y1, 0, none⟩) na na, Value.slice (some ⟨Y2, 0, none⟩) ma ma, Value.int IntKind.i64 KA] 28)
  have vx := (vV.below bx).alloc (Obj.cells #[Value.slice (some ⟨Y1, 0, none⟩) na na, Value.slice (some ⟨Y2, 0, none⟩) ma ma, Value.int IntKind.i64 KA] 28)
  have oCx := OwnAt.alloc (oC1.below bx) (Obj.cells #[Value.slice (some ⟨Y1, 0, none⟩) na na, Value.slice (some ⟨Y2, 0, none⟩) ma ma, Value.int IntKind.i64 KA] 28)
  have oDx := OwnAt.alloc (oD1.below bx) (Obj.cells #[Value.slice (some ⟨Y1, 0, none⟩) na na, Value.slice (some ⟨Y2, 0, none⟩) ma ma, Value.int IntKind.i64 KA] 28)
  have x1x := x1.alloc (Obj.cells #[Value.slice (some ⟨Y1, 0, none⟩) na na, Value.slice (some ⟨Y2, 0, none⟩) ma ma, Value.int IntKind.i64 KA] 28)
  have x2x := x2.alloc (Obj.cells #[Value.slice (some ⟨Y1, 0, none⟩) na na, Value.slice (some ⟨Y2, 0, none⟩) ma ma, Value.int IntKind.i64 KA] 28)
  have xX := Cel.new wx [Value.slice (some ⟨Y1, 0, none⟩) na na, Value.slice (some ⟨Y2, 0, none⟩) ma ma, Value.int IntKind.i64 KA] 28
  have hY2 := x2.lt
  have lV := (vV.below bx).lt
  clear GC HC1 vV oC1 oD1 bx x1 x2
  go_wp2_with fail
  refine (toFS_any _ _ _ fs _ HN0.out (hF.below HX.b) hN).mono ?_
  rintro ee wz ⟨cs, gs, p, q, rfl, hgs, hcs, hcp, bz, hm⟩
  rw [World.size_alloc] at hm
  have hql : ∀ i, i < N → q i < wz.heap.size := fun i hi => by
    obtain ⟨_, _, _, _, _, _, _, _, _, _, _, h12, _⟩ := hm.l i (by rw [hgs]; exact hi)
    exact h12
  have HQL : Hid _ := hql
  have HGS : Hid (gs.length = N) := hgs
  have HCS : Hid (cs.length = N) := hcs
  have HCP : Hid (copies fs gs) := hcp
  have HZ := HX.below bz
  have xz := xX.below bz
  have vz := vx.below bz
  have oCz := oCx.below bz
  have oDz := oDx.below bz
  have x1z := x1x.below bz
  have x2z := x2x.below bz
  have hBz := hm.s
  have zz := xz.lt
  clear HX xX vx oCx oDx x1x x2x bz hql hgs hcs hcp
  obtain ⟨e0, e1, e2, -, -, -⟩ := xz.trio
  go_wp2_with fail
  refine (HII.out _ _ _ _ _ _ _ gs (x1z.ints' HCA.out) (x2z.ints' HDA.out) HGS.out hm.g HCP.out).mono ?_
  rintro ee w2 ⟨a1, n', cp1, c1, m', cp1', P1, P2, rfl, hn', hm', b2, pC, pD, q1, q2, q3⟩
  obtain rfl : n' = n := by rw [← hn', HN.out]
  obtain rfl : m' = m := by rw [← hm', HM.out]
  have H2w := HZ.below b2
  have xw := xz.below b2
  have vw := vz.below b2
  have oCw := oCz.below b2
  have oDw := oDz.below b2
  have z1 := x1z.below b2
  have z2 := x2z.below b2
  have mw := hm.below b2
  have zw := b2.size
  have y1 : 0 < n' → P1 < w2.heap.size := fun h => pC.lt (by rw [HN.out]; exact h)
  have y2 : 0 < m' → P2 < w2.heap.size := fun h => pD.lt (by rw [HM.out]; exact h)
  have he := eqF_refl C D K
  have heA := eqF_refl CA DA KA
  clear hn' hm' e0 e1 e2 HZ xz vz oCz oDz x1z x2z b2 hm
  obtain ⟨e0, e1, e2, -, -, -⟩ := vw.trio
  have lVw : u3.heap.size < w2.heap.size := vw.lt
  go_wp2_with fail
  refine (eqF_any _ _ _ _ _ _ _ C D _ _ _ _ _ _ _ C D _ ((pC.ints' HN.out).alloc _) ((pD.ints' HM.out).alloc _) ((oCw.ints' HN.out).alloc _) ((oDw.ints' HM.out).alloc _) hn1 hm1 hn1 hm1).mono ?_
  rintro ee wq ⟨rfl, bq⟩
  have alw : Below w2.heap.size w2 wq := ((Below.refl _ _).alloc (Nat.le_refl _) _).trans (bq.mono (by simp))
  have s : S3 w [.slice a na cap, .slice c ma cap', .int .i64 KA] u3.heap.size wx.heap.size w2.heap.size [.slice a0 n' cp0, .slice c0 m' cp0', .int .i64 K] [.slice (some ⟨Y1, 0, none⟩) na na, .slice (some ⟨Y2, 0, none⟩) ma ma, .int .i64 KA] [.slice a1 n' cp1, .slice c1 m' cp1', .int .i64 K] a0 B1 c0 B2 a1 P1 c1 P2 C D C D wq :=
    ⟨H2w.below alw, vw.below alw, xw.below alw, (Cel.new w2 _ _).below bq, oCw.below alw, oDw.below alw, pC.below alw, pD.below alw⟩
  have y_1 := z1.below alw
  have y_2 := z2.below alw
  have mq := mw.below alw
  clear e0 e1 e2 H2w vw xw oCw oDw pC pD z1 z2 mw bq alw
  have c6 := cells3 s.h
  obtain ⟨e0, e1, e2, -, -, -⟩ := s.x.trio
  go_upto_region 14 with fail
  go_cut [44] (fun s wd => s = .bool false ∧ Below wq.heap.size wq wd)
  case first =>
    go_region_with (first | (go_at_call 11; refine (toF_any _ _ _ _ _ _ _ CA DA _ (by exact hCA.below s.h.b.drew) (by exact hDA.below s.h.b.drew) hna hma).mono ?_; rintro ee t6 ⟨W1, W2, rfl, b6, ho5, ho6, k5, k6⟩; have b6' := below_of_drew b6; obtain ⟨d3, d4, d5, -, -, -⟩ := (s.x.below b6').trio) | (go_at_call 14; refine (eqF_any _ _ _ _ _ _ _ CA DA _ _ _ _ _ _ _ CA DA _ (by exact (y_1.below b6').ints' HCA.out) (by exact (y_2.below b6').ints' HDA.out) (by exact k5.ints' HCA.out) (by exact k6.ints' HDA.out) hna hma hna hma).mono ?_; rintro ee t7 ⟨rfl, b7⟩))
    all_goals
      go_wp2_with fail
      go_meet
      case rel => exact ⟨rfl, b6'.trans (b7.mono b6'.size)⟩
  case rest =>
  obtain ⟨rfl, bd⟩ := hcut
  replace s := s.below bd
  replace y_1 := y_1.below bd
  replace y_2 := y_2.below bd
  replace mq := mq.below bd
  clear c6 e0 e1 e2 bd
  go_wp2_with fail
  refine (toFS_any _ _ _ fs _ HN0.out (hF.below s.h.b) hN).mono ?_
  rintro ee wk ⟨cs2, gs2, p2, q2', rfl, hgs2, -, hcp2, bk, hm2⟩
  replace s := s.below bk
  replace y_1 := y_1.below bk
  replace y_2 := y_2.below bk
  replace mq := mq.below bk
  have hsm := copies_eq HGS.out hgs2 HCP.out hcp2
  clear bk hcp2
  go_wp2_with fail
  refine (eqFS_same _ _ _ _ _ gs gs2 _ HGS.out hgs2 mq.g hm2.g hN hsm).mono ?_
  rintro ee wl ⟨rfl, bl⟩
  replace s := s.below bl
  replace y_1 := y_1.below bl
  replace y_2 := y_2.below bl
  replace mq := mq.below bl
  clear bl hm2 hgs2 hsm
  obtain ⟨e0, e1, e2, -, -, -⟩ := s.x.trio
  go_wp2_with fail
  refine (markF_any _ _ _ _ _ _ _ Y1 Y2 CA DA _ _ (.inr ⟨rfl, y_1⟩) (.inr ⟨rfl, y_2⟩) (fun _ _ => by omega) HCA.out HDA.out hna hma (by omega) (by omega)).mono ?_
  rintro ee wm ⟨rfl, tm, -, -⟩
  replace s := s.touch tm (fun k h => by omega) (by omega) (by omega) (by omega) (fun h => by have := l1 (by rw [← HN.out]; exact h); omega) (fun h => by have := l2 (by rw [← HM.out]; exact h); omega) (fun h => by have := q1 (by rw [← HN.out]; exact h); omega) (fun h => by have := q2 (by rw [← HM.out]; exact h); omega)
  replace mq := mf_touch mq tm (fun k h => by omega)
  clear y_1 y_2 e0 e1 e2 tm
  have yk : 0 ≤ (1 : Int) + na + ma := by omega
  go_wp2_with fail
  refine (markFS_any _ _ _ _ wz.heap.size cs gs p q _ _ mq HGS.out HCS.out hN (by omega) (by omega) (by omega) HQL.out).mono ?_
  rintro ee wn ⟨rk, rfl, hrk, tn⟩
  replace s := s.touch tn (fun k h => by omega) (by omega) (by omega) (by omega) (fun h => by have := l1 (by rw [← HN.out]; exact h); omega) (fun h => by have := l2 (by rw [← HM.out]; exact h); omega) (fun h => by have := q1 (by rw [← HN.out]; exact h); omega) (fun h => by have := q2 (by rw [← HM.out]; exact h); omega)
  clear mq tn
  obtain ⟨e0, e1, e2, -, -, -⟩ := s.g.trio
  obtain ⟨e3, e4, e5, -, -, -⟩ := s.v.trio
  have yA' : decide (rk < 0) = false := by simp; omega
  go_wp2_with fail
  refine (eqF_any _ _ _ _ _ _ _ C D _ _ _ _ _ _ _ C D _ (s.pC.ints' HN.out) (s.pD.ints' HM.out) (s.oC.ints' HN.out) (s.oD.ints' HM.out) hn1 hm1 hn1 hm1).mono ?_
  rintro ee w3 ⟨rfl, b3⟩
  replace s := s.below b3
  clear e0 e1 e2 e3 e4 e5 b3
  obtain ⟨e0, e1, e2, -, -, -⟩ := s.g.trio
  go_wp2_with fail
  refine (markF_any _ _ _ _ _ _ _ P1 P2 C D _ _ s.pC s.pD q3 HN.out HM.out hn1 hm1 (by omega) (by omega)).mono ?_
  rintro ee w4 ⟨rfl, t4, mC, mD⟩
  have lP : ∀ k, (k = P1 ∧ 0 < n') ∨ (k = P2 ∧ 0 < m') → wz.heap.size ≤ k ∧ k < w2.heap.size := by
    rintro k (⟨rfl, h⟩ | ⟨rfl, h⟩)
    · exact ⟨q1 h, y1 h⟩
    · exact ⟨q2 h, y2 h⟩
  replace s : S3 w [.slice a na cap, .slice c ma cap', .int .i64 KA] u3.heap.size wx.heap.size w2.heap.size [.slice a0 n' cp0, .slice c0 m' cp0', .int .i64 K] [.slice (some ⟨Y1, 0, none⟩) na na, .slice (some ⟨Y2, 0, none⟩) ma ma, .int .i64 KA] [.slice a1 n' cp1, .slice c1 m' cp1', .int .i64 K] a0 B1 c0 B2 a1 P1 c1 P2 C D (ramp 1 n') (ramp (1 + n') m') w4 :=
    ⟨s.h.touch t4 (fun k h => by have := lP k h; omega), s.v.touch t4 (fun h => by have := lP _ h; omega), s.x.touch t4 (fun h => by have := lP _ h; omega), s.g.touch t4 (fun h => by have := lP _ h; omega), OwnAt.touch' s.oC t4 (fun h hh => by have := lP _ hh; have := l1 (by rw [← HN.out]; exact h); omega), OwnAt.touch' s.oD t4 (fun h hh => by have := lP _ hh; have := l2 (by rw [← HM.out]; exact h); omega), mC, mD⟩
  clear e0 e1 e2 t4 mC mD lP
  obtain ⟨e0, e1, e2, -, -, -⟩ := s.g.trio
  have y3 : 0 ≤ (1 : Int) + n' + m' := by omega
  have y4 : ((1 : Int) + n' + m' != 1 + n' + m') = false := by simp
  go_wp2_with fail
  refine (heldF_any _ _ _ _ _ _ _ _ _ (s.pC.ints' (ramp_len _ _)) (s.pD.ints' (ramp_len _ _)) hn1 hm1 (by omega) (by omega)).mono ?_
  rintro ee wv ⟨rfl, b5⟩
  replace s := s.below b5
  clear e0 e1 e2 b5
  have GV := cells3 s.h
  go_wp2_with fail
  refine (toF_any _ _ _ _ _ _ _ CA DA _ (hCA.below s.h.b) (hDA.below s.h.b) hna hma).mono ?_
  rintro ee u1' ⟨E1', E2', rfl, bu1, -, -, f1, f2⟩
  replace s := s.below bu1
  clear GV bu1
  go_wp2_with fail
  refine (toFS_any _ _ _ fs _ HN0.out (hF.below s.h.b) hN).mono ?_
  rintro ee u2' ⟨cs', gs', p', q', rfl, hgs', -, hcp', bu2, hm'⟩
  have f1' := f1.below bu2
  have f2' := f2.below bu2
  replace s := s.below bu2
  clear f1 f2 bu2
  go_wp2_with fail
  refine (HII.out _ _ _ _ _ _ _ gs' (f1'.ints' HCA.out) (f2'.ints' HDA.out) hgs' hm'.g hcp').mono ?_
  rintro ee u3' ⟨a9, n9, cp9, c9, m9, cp9', R1, R2, rfl, hn9, hm9, bu3, rC, rD, -, -, -⟩
  obtain rfl : n9 = n' := by rw [← hn9, HN.out]
  obtain rfl : m9 = m' := by rw [← hm9, HM.out]
  replace s := s.below bu3
  clear f1' f2' bu3 hgs' hcp' hm' hn9 hm9
  obtain ⟨e3, e4, e5, -, -, -⟩ := s.v.trio
  have lV9 := s.v.lt
  go_wp2_with fail
  refine (eqF_any _ _ _ _ _ _ _ C D _ _ _ _ _ _ _ C D _ ((rC.ints' HN.out).alloc _) ((rD.ints' HM.out).alloc _) ((s.oC.ints' HN.out).alloc _) ((s.oD.ints' HM.out).alloc _) hn1 hm1 hn1 hm1).mono ?_
  rintro ee w7 ⟨rfl, b7⟩
  have b7' : Below u3'.heap.size u3' w7 := ((Below.refl _ _).alloc (Nat.le_refl _) _).trans (b7.mono (by simp))
  replace s := s.below b7'
  clear e3 e4 e5 b7 b7' rC rD
  obtain ⟨e0, e1, e2, -, -, -⟩ := s.g.trio
  go_wp2_with fail
  refine (heldF_any _ _ _ _ _ _ _ _ _ (s.pC.ints' (ramp_len _ _)) (s.pD.ints' (ramp_len _ _)) hn1 hm1 (by omega) (by omega)).mono ?_
  rintro ee w8 ⟨rfl, b8⟩
  replace s := s.below b8
  go_wp2
  go_ret
  exact ⟨rfl, s.h.b⟩

/-! ### The row's step -/
set_option maxRecDepth 100000 in
theorem lifted (os : Os) (started : os.Started) (H : Type) (enc : TypeId × Value → H) :
    ReturnsInHanded {} Try.checked os 4 .any (Rows.fnExactFrmIntoSpec.pre6 enc Try.prog Try.f4 Rows.fnExactFrmIntoRow.domain false) (Rows.fnExactFrmIntoSpec.post enc Try.prog Try.f4 false true false false) := by
  refine returnsInHanded_of_change (C := Try.checked) own started (by kernel_rfl) Try.func4
    (ChangeSpec.witness6 (enc := enc) (C := Try.checked) false ⟨#[], #[.agg #[.slice none 0 0, .slice none 0 0, .int .i64 0], .slice none 0 0], []⟩ 8 (by kernel_rfl) (by kernel_rfl) (by kernel_rfl) (by kernel_rfl)) ?_
  intro W base args ds gs before hval0 hW hcnd _
  have hval : ∀ (j : Nat) t v, Try.f4.params[j]? = some t → args[j]? = some v → Value.okWide Try.prog W .any base t v := hval0
  have hW' := hW
  obtain ⟨p, q, hA0, hV, rfl, hfz, hnd⟩ := hW
  have hA : DataW.TrodAll enc Try.prog W 0 (fun _ => true) true Try.f4.params.toList args.toList ds p := hA0
  rw [Try.params4] at hA hval
  obtain ⟨v0, vs0, d0, ds0, p0, q0, hargs, rfl, rfl, h0, r0⟩ := trodAll_cons hA
  obtain ⟨v1, vs1, d1, ds1, p1, q1, rfl, rfl, rfl, h1, r1⟩ := trodAll_cons r0
  obtain ⟨rfl, rfl, rfl⟩ := trodAll_nil r1
  obtain rfl : args = #[v0, v1] := by cases args; simp_all
  obtain ⟨rfl, rfl⟩ := trodVars_none hV
  have k0 := h0
  have lt0 : ∀ x ∈ p0, x.block < W.heap.size := by obtain ⟨m, hm⟩ := k0; exact DataW.trod_lt m _ _ _ hm
  obtain ⟨a0, n0, cap0, c0, m0, cap0', K0, C0, D0, rfl, hC0, hD0, hn0, hm0, wK0⟩ := open_form (hval 0 24 v0 rfl rfl) h0
  have k1 := h1
  have lt1 : ∀ x ∈ p1, x.block < W.heap.size := by obtain ⟨m, hm⟩ := k1; exact DataW.trod_lt m _ _ _ hm
  obtain ⟨a1, n1, cap1, fs1, rfl, hl1, hF1, hn1⟩ := open_forms (hval 1 34 v1 rfl rfl) h1
  clear hA0 hval0
  refine (walk W a0 n0 cap0 c0 m0 cap0' K0 C0 D0 hC0 hD0 hn0 hm0 wK0 a1 n1 cap1 fs1 hl1 hF1 hn1).mono fun e W' ⟨he, bel⟩ => ?_
  subst he
  exact ⟨_, rfl, _, _, _, [], _, [], hW', trodAll_mk1 (shut_bool Try.underlying4 _), (trodAll_cons_mk (Below.trod laidOut (by kernel_rfl) (of_decide_eq_true (by kernel_rfl)) k0 bel lt0) (trodAll_cons_mk (Below.trod laidOut (by kernel_rfl) (of_decide_eq_true (by kernel_rfl)) k1 bel lt1) trodAll_mk0)), rfl, bel.frame _, fun h => by cases h⟩

theorem over : Rows.fnExactFrmIntoRow.holds Try.pinned (OpenSpec.ofChange Rows.fnExactFrmIntoSpec) :=
  OpenClaim.holds_of_wide 4 Try.f4 rfl rfl rfl rfl rfl rfl rfl ⟨rfl, rfl, rfl, rfl, rfl⟩ rfl rfl rfl rfl rfl (by kernel_rfl) Try.func4 (by kernel_rfl)
    (of_decide_eq_true (by kernel_rfl)) (by unfold Func.isWrapper; first | (rw [if_pos (by decide +kernel)]; kernel_rfl) | (rw [if_neg (by decide +kernel)]; exact ⟨rfl, rfl⟩))
    (fun os started H enc _ => lifted os started H enc)

end Go.Proofs.Ytmbhcngddpoonad.fnExactFrmInto
namespace Go.Proofs.Ytmbhcngddpoonad
/-- The statement. -/
theorem fnExactFrmInto_holds : Rows.FnExactFrmIntoSaid := fnExactFrmInto.over
#print axioms fnExactFrmInto_holds
end Go.Proofs.Ytmbhcngddpoonad
