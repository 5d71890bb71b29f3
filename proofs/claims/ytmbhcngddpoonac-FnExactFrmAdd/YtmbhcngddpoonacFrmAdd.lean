/-
  For every two forms FnExactFrmAdd returns true, and both read behind the call as they did. No condition.
-/
import Derived.Test.YtmbhcngddpoonacAdd
import Derived.Test.YtmbhcngddpoonacOpen
namespace Go.Proofs.Ytmbhcngddpoonac.fnExactFrmAdd
open Go.ChangeShapes Go.WideShapes Go.ChangeAt Go.RowKit
set_option linter.unusedVariables false

theorem OwnAt.set {w : World} {a : Option Addr} {B X : Nat} {zs : List Int} (h : OwnAt w a B zs) (hne : 0 < zs.length → B ≠ X) (i : Nat) (v : Value) : OwnAt (w.setCell ⟨X, i, none⟩ v) a B zs := by
  rcases h with rfl | ⟨rfl, h⟩
  · exact .inl rfl
  · by_cases h0 : 0 < zs.length
    · exact .inr ⟨rfl, h.setOther (hne h0) i v⟩
    · exact .inl (List.eq_nil_of_length_eq_zero (by omega))
theorem OwnAt.alloc {w : World} {a : Option Addr} {B : Nat} {zs : List Int} (h : OwnAt w a B zs) (o : Obj) : OwnAt (w.alloc o) a B zs := h.below ((Below.refl _ _).alloc (Nat.le_refl _) _)
theorem OwnAt.touch' {S : Nat → Prop} {w w' : World} {a : Option Addr} {B : Nat} {zs : List Int} (h : OwnAt w a B zs) (hb : Touch S w w') (hn : 0 < zs.length → ¬ S B) : OwnAt w' a B zs := by
  by_cases h0 : 0 < zs.length
  · exact h.touch hb (hn h0)
  · exact .inl (List.eq_nil_of_length_eq_zero (by omega))

/-- Both boxes of the law, and old memory. -/
structure HB (w : World) (la lb : List Value) (W : World) : Prop where
  p : Cel W w.heap.size la 24
  q : Cel W (w.heap.size + 1) lb 24
  b : Below w.heap.size w W
theorem HB.below {w W W' : World} {la lb : List Value} (h : HB w la lb W) (b : Below W.heap.size W W') : HB w la lb W' := ⟨h.p.below b, h.q.below b, h.b.trans (b.mono h.b.size)⟩
theorem HB.alloc {w W : World} {la lb : List Value} (h : HB w la lb W) (o : Obj) : HB w la lb (W.alloc o) := h.below ((Below.refl _ _).alloc (Nat.le_refl _) _)
theorem HB.drew {w W : World} {la lb : List Value} (h : HB w la lb W) : HB w la lb W.drew := ⟨h.p, h.q, h.b.drew⟩
theorem HB.touch {S : Nat → Prop} {w W W' : World} {la lb : List Value} (h : HB w la lb W) (t : Touch S W W') (hs : ∀ k, S k → w.heap.size + 1 < k) : HB w la lb W' :=
  ⟨h.p.touch t (fun hh => by have := hs _ hh; omega), h.q.touch t (fun hh => by have := hs _ hh; omega), h.b.trans (t.below h.b.size (fun k hh => by have := hs k hh; omega))⟩

/-- What the law holds once all is made: boxes, its variables, their lists. -/
structure S2 (w : World) (la lb : List Value) (V X Y G : Nat) (lv lx ly lg : List Value) (a0 : Option Addr) (B1 : Nat) (c0 : Option Addr) (B2 : Nat) (a1 : Option Addr) (P1 : Nat) (c1 : Option Addr) (P2 : Nat) (C D PC PD : List Int) (W : World) : Prop where
  h : HB w la lb W
  v : Cel W V lv 27
  x : Cel W X lx 27
  y : Cel W Y ly 27
  g : Cel W G lg 27
  oC : OwnAt W a0 B1 C
  oD : OwnAt W c0 B2 D
  pC : OwnAt W a1 P1 PC
  pD : OwnAt W c1 P2 PD
section
variable {w W W' : World} {la lb lv lx ly lg : List Value} {V X Y G B1 B2 P1 P2 : Nat} {a0 c0 a1 c1 : Option Addr} {C D PC PD : List Int}
theorem S2.below (s : S2 w la lb V X Y G lv lx ly lg a0 B1 c0 B2 a1 P1 c1 P2 C D PC PD W) (b : Below W.heap.size W W') : S2 w la lb V X Y G lv lx ly lg a0 B1 c0 B2 a1 P1 c1 P2 C D PC PD W' :=
  ⟨s.h.below b, s.v.below b, s.x.below b, s.y.below b, s.g.below b, s.oC.below b, s.oD.below b, s.pC.below b, s.pD.below b⟩
theorem S2.touch {S : Nat → Prop} (s : S2 w la lb V X Y G lv lx ly lg a0 B1 c0 B2 a1 P1 c1 P2 C D PC PD W) (t : Touch S W W') (hs : ∀ k, S k → w.heap.size + 1 < k) (hv : ¬ S V) (hx : ¬ S X) (hy : ¬ S Y) (hg : ¬ S G) (h1 : 0 < C.length → ¬ S B1) (h2 : 0 < D.length → ¬ S B2) (h3 : 0 < PC.length → ¬ S P1) (h4 : 0 < PD.length → ¬ S P2) : S2 w la lb V X Y G lv lx ly lg a0 B1 c0 B2 a1 P1 c1 P2 C D PC PD W' :=
  ⟨s.h.touch t hs, s.v.touch t hv, s.x.touch t hx, s.y.touch t hy, s.g.touch t hg, OwnAt.touch' s.oC t h1, OwnAt.touch' s.oD t h2, OwnAt.touch' s.pC t h3, OwnAt.touch' s.pD t h4⟩
end

theorem cells6 {w W : World} {a c e d : Option Addr} {na cap ma cap' nb cpe mb cpd : Nat} {KA KB : Int} (h : HB w [.slice a na cap, .slice c ma cap', .int .i64 KA] [.slice e nb cpe, .slice d mb cpd, .int .i64 KB] W) :
    W.cell? ⟨w.heap.size, 0, none⟩ = some (.slice a na cap) ∧ W.cell? ⟨w.heap.size, 1, none⟩ = some (.slice c ma cap') ∧ W.cell? ⟨w.heap.size, 2, none⟩ = some (.int .i64 KA) ∧ W.cell? ⟨w.heap.size + 1, 0, none⟩ = some (.slice e nb cpe) ∧ W.cell? ⟨w.heap.size + 1, 1, none⟩ = some (.slice d mb cpd) ∧ W.cell? ⟨w.heap.size + 1, 2, none⟩ = some (.int .i64 KB) :=
  ⟨h.p.cell 0, h.p.cell 1, h.p.cell 2, h.q.cell 0, h.q.cell 1, h.q.cell 2⟩
theorem news6 {w W : World} {la lb : List Value} (h : HB w la lb W) : ¬ w.heap.size = W.heap.size ∧ ¬ w.heap.size + 1 = W.heap.size ∧ ¬ W.heap.size = w.heap.size ∧ ¬ W.heap.size = w.heap.size + 1 := by
  have := h.q.lt
  omega

set_option maxRecDepth 100000 in
set_option maxHeartbeats 12800000 in
theorem walk (w : World) (a : Option Addr) (na cap : Nat) (c : Option Addr) (ma cap' : Nat) (KA : Int) (CA DA : List Int) (hCA : Ints w a na CA) (hDA : Ints w c ma DA) (hna0 : na ≤ maxLen) (hma0 : ma ≤ maxLen) (wKA : (Lit.int .i64 KA).wf = true)
    (e : Option Addr) (nb cpe : Nat) (d : Option Addr) (mb cpd : Nat) (KB : Int) (CB DB : List Int) (hCB : Ints w e nb CB) (hDB : Ints w d mb DB) (hnb0 : nb ≤ maxLen) (hmb0 : mb ≤ maxLen) (wKB : (Lit.int .i64 KB).wf = true) :
    Calls Try.prog 7 #[formV a na cap c ma cap' KA, formV e nb cpe d mb cpd KB] w fun e w' => e = .returned (.bool true) ∧ Below w.heap.size w w' := by
  clear wKA wKB
  have g1 := leftOf_ge 1048576 na
  have g2 := leftOf_ge (leftOf 1048576 na) ma
  have n0 : HB w [.slice a na cap, .slice c ma cap', .int .i64 KA] [.slice e nb cpe, .slice d mb cpd, .int .i64 KB] ((w.alloc (Obj.cells #[Value.slice a na cap, Value.slice c ma cap', Value.int IntKind.i64 KA] 24)).alloc (Obj.cells #[Value.slice e nb cpe, Value.slice d mb cpd, Value.int IntKind.i64 KB] 24)) :=
    ⟨(Cel.new w _ _).alloc _, by have := Cel.new (w.alloc (Obj.cells #[Value.slice a na cap, Value.slice c ma cap', Value.int IntKind.i64 KA] 24)) [.slice e nb cpe, .slice d mb cpd, .int .i64 KB] 24; rw [World.size_alloc] at this; exact this, ((Below.refl _ _).alloc (Nat.le_refl _) _).alloc (by simp) _⟩
  by_cases h : leftOf (leftOf 1048576 na) ma < 0
  · go_enter Try.func7, Try.ntmps7
    go_wp2_with fail
    refine (szF_any _ _ _ _ _ _ _ _ _ hna0 hma0 (by omega) (by omega)).mono ?_
    rintro ee w1 ⟨rfl, b1⟩
    go_wp2
    go_ret
    exact ⟨rfl, (n0.below b1).b⟩
  have l2' := leftOf_le (l := leftOf 1048576 na) (n := ma) (by omega)
  have l1' := leftOf_le (l := 1048576) (n := na) (by omega)
  have hna : na ≤ 1048576 := by omega
  have hma : ma ≤ 1048576 := by omega
  obtain ⟨lf, hlf⟩ : ∃ lf, lf = leftOf (leftOf 1048576 na) ma := ⟨_, rfl⟩
  have h0 : 0 ≤ lf := by omega
  have h1 : lf ≤ 1048576 := by omega
  have g3 := leftOf_ge lf nb
  have g4 := leftOf_ge (leftOf lf nb) mb
  have HLF : Hid (lf = leftOf (leftOf 1048576 na) ma) := hlf
  by_cases h2 : leftOf (leftOf lf nb) mb < 0
  · clear l1' l2' g1 g2 h hlf
    go_enter Try.func7, Try.ntmps7
    go_wp2_with fail
    refine (szF_any _ _ _ _ _ _ _ _ _ hna0 hma0 (by omega) (by omega)).mono ?_
    rintro ee w1 ⟨rfl, b1⟩
    rw [← HLF.out]
    have H1 := n0.below b1
    have G1 := cells6 H1
    go_wp2_with fail
    refine (szF_any _ _ _ _ _ _ _ _ _ hnb0 hmb0 h0 h1).mono ?_
    rintro ee w2 ⟨rfl, b2⟩
    go_wp2
    go_ret
    exact ⟨rfl, (H1.below b2).b⟩
  have l3' := leftOf_le (l := leftOf lf nb) (n := mb) (by omega)
  have l4' := leftOf_le (l := lf) (n := nb) (by omega)
  have hnb : nb ≤ 1048576 := by omega
  have hmb : mb ≤ 1048576 := by omega
  have h3 : 0 ≤ leftOf (leftOf lf nb) mb := by omega
  have HCA : Hid (CA.length = na) := hCA.1
  have HDA : Hid (DA.length = ma) := hDA.1
  have HCB : Hid (CB.length = nb) := hCB.1
  have HDB : Hid (DB.length = mb) := hDB.1
  obtain ⟨ok, hok⟩ : ∃ ok, ok = addOk na ma CA DA KA nb mb CB DB KB := ⟨_, rfl⟩
  obtain ⟨C, hC⟩ : ∃ C : List Int, C = keepL ok (lin CA CB 1) := ⟨_, rfl⟩
  obtain ⟨D, hD⟩ : ∃ D : List Int, D = keepL ok (lin DA DB 1) := ⟨_, rfl⟩
  obtain ⟨K, hK⟩ : ∃ K : Int, K = keepK ok (KA + 1 * KB) := ⟨_, rfl⟩
  have hs : ∀ (w : World) (a : Option Addr) (cap : Nat) (c : Option Addr) (cap' : Nat) (e : Option Addr) (cpe : Nat) (d : Option Addr) (cpd : Nat), Ints w a na CA → Ints w c ma DA → Ints w e nb CB → Ints w d mb DB → Calls Try.prog 24 #[formV a na cap c ma cap' KA, formV e nb cpe d mb cpd KB] w fun e w' => Res w w' e C D K := by
    intro w a cap c cap' e cpe d cpd h1 h2 h3 h4; rw [hC, hD, hK, hok]; exact sadd_any a na cap c ma cap' KA CA DA e nb cpe d mb cpd KB CB DB w h1 h2 h3 h4 hna hma hnb hmb
  have hi : ∀ (w : World) (a : Option Addr) (cap : Nat) (c : Option Addr) (cap' : Nat) (e : Option Addr) (cpe : Nat) (d : Option Addr) (cpd : Nat), Ints w a na CA → Ints w c ma DA → Ints w e nb CB → Ints w d mb DB → Calls Try.prog 25 #[formV a na cap c ma cap' KA, formV e nb cpe d mb cpd KB] w fun e w' => Res w w' e C D K := by
    intro w a cap c cap' e cpe d cpd h1 h2 h3 h4; rw [hC, hD, hK, hok]; exact iadd_any a na cap c ma cap' KA CA DA e nb cpe d mb cpd KB CB DB w h1 h2 h3 h4 hna hma hnb hmb
  have hlC : C.length ≤ 1048576 := by rw [hC]; exact keepL_len (by simp only [lin, List.length_zipWith]; have := HCA.out; omega)
  have hlD : D.length ≤ 1048576 := by rw [hD]; exact keepL_len (by simp only [lin, List.length_zipWith]; have := HDA.out; omega)
  have HSS : Hid _ := hs
  have HII : Hid _ := hi
  clear hs hi hC hD hK hok l1' l2' l3' l4' g1 g2 g3 g4 h h2 hlf
  go_enter Try.func7, Try.ntmps7
  go_wp2_with fail
  refine (szF_any _ _ _ _ _ _ _ _ _ hna0 hma0 (by omega) (by omega)).mono ?_
  rintro ee w1 ⟨rfl, b1⟩
  rw [← HLF.out]
  have H1 := n0.below b1
  have G1 := cells6 H1
  go_wp2_with fail
  refine (szF_any _ _ _ _ _ _ _ _ _ hnb0 hmb0 h0 h1).mono ?_
  rintro ee wy ⟨rfl, b2⟩
  have HY := H1.below b2
  have GY := cells6 HY
  have NY := news6 HY
  clear G1 H1 b1 b2 n0
  go_upto_region 8 with fail
  go_cut [6] (fun s wx => ∃ V0 a0 n cp0 c0 m cp0' B1 B2, s = .pointer (some ⟨V0, 0, none⟩) ∧ C.length = n ∧ D.length = m ∧ Cel wx V0 [.slice a0 n cp0, .slice c0 m cp0', .int .i64 K] 27 ∧ OwnAt wx a0 B1 C ∧ OwnAt wx c0 B2 D ∧ (0 < n → wy.heap.size ≤ B1) ∧ (0 < m → wy.heap.size ≤ B2) ∧ (0 < n → 0 < m → B1 ≠ B2) ∧ wy.heap.size ≤ V0 ∧ Below wy.heap.size wy wx)
  case first =>
    go_region_held3 (fun w' => w'.cell? ⟨w.heap.size, 0, none⟩ = some (.slice a na cap) ∧ w'.cell? ⟨w.heap.size, 1, none⟩ = some (.slice c ma cap') ∧ w'.cell? ⟨w.heap.size, 2, none⟩ = some (.int .i64 KA) ∧ w'.cell? ⟨w.heap.size + 1, 0, none⟩ = some (.slice e nb cpe) ∧ w'.cell? ⟨w.heap.size + 1, 1, none⟩ = some (.slice d mb cpd) ∧ w'.cell? ⟨w.heap.size + 1, 2, none⟩ = some (.int .i64 KB)) (first | assumption | go_keep)
      (first
        | (go_at_call_of 11 (Value.slice a na cap); refine (toF_any _ _ _ _ _ _ _ CA DA _ (hCA.below (HB.b (la := [.slice a na cap, .slice c ma cap', .int .i64 KA]) (lb := [.slice e nb cpe, .slice d mb cpd, .int .i64 KB]) (by first | exact HY.drew | exact (HY.alloc _).drew))) (hDA.below (HB.b (la := [.slice a na cap, .slice c ma cap', .int .i64 KA]) (lb := [.slice e nb cpe, .slice d mb cpd, .int .i64 KB]) (by first | exact HY.drew | exact (HY.alloc _).drew))) hna hma).mono ?_; rintro ee u1 ⟨E1, E2, rfl, bu1, -, -, f1, f2⟩; have HU1 := HB.below (w := w) (la := [.slice a na cap, .slice c ma cap', .int .i64 KA]) (lb := [.slice e nb cpe, .slice d mb cpd, .int .i64 KB]) (by first | exact HY.drew | exact (HY.alloc _).drew) bu1; have GU1 := cells6 HU1; have lu1 := HU1.q.lt; have Au1 : wy.heap.size ≤ u1.heap.size := Nat.le_trans (by simp) bu1.size; have NU1 := news6 HU1; have BU1 : Below wy.heap.size wy u1 := Below.trans (by first | exact (Below.refl _ _).drew | exact ((Below.refl _ _).alloc (Nat.le_refl _) _).drew) (bu1.mono (by simp)); first | (have X1 := Cel.below (w := (wy.alloc (Obj.cells #[Value.slice none 0 0, Value.slice none 0 0, Value.int IntKind.i64 0] 27)).drew) (Cel.new wy [Value.slice none 0 0, Value.slice none 0 0, Value.int IntKind.i64 0] 27) bu1; have lX1 := X1.lt) | skip)
        | (go_at_call_of 11 (Value.slice e nb cpe); refine (toF_any _ _ _ _ _ _ _ CB DB _ (hCB.below (HB.b (la := [.slice a na cap, .slice c ma cap', .int .i64 KA]) (lb := [.slice e nb cpe, .slice d mb cpd, .int .i64 KB]) (by first | exact HU1 | exact HU1.alloc _))) (hDB.below (HB.b (la := [.slice a na cap, .slice c ma cap', .int .i64 KA]) (lb := [.slice e nb cpe, .slice d mb cpd, .int .i64 KB]) (by first | exact HU1 | exact HU1.alloc _))) hnb hmb).mono ?_; rintro ee u2 ⟨E3, E4, rfl, bu2, -, -, f3, f4⟩; have HU2 := HB.below (w := w) (la := [.slice a na cap, .slice c ma cap', .int .i64 KA]) (lb := [.slice e nb cpe, .slice d mb cpd, .int .i64 KB]) (by first | exact HU1 | exact HU1.alloc _) bu2; have GU2 := cells6 HU2; have lu2 := HU2.q.lt; have Au2 : u1.heap.size ≤ u2.heap.size := Nat.le_trans (by simp) bu2.size; have NU2 := news6 HU2; have BU2 : Below wy.heap.size wy u2 := Below.trans (by first | exact BU1 | exact BU1.alloc BU1.size _) (bu2.mono (by first | exact BU1.size | (have := BU1.size; simp; omega))); have f1' : Blk u2 E1 CA := (by first | exact f1.below bu2 | exact (f1.alloc _).below bu2); have f2' : Blk u2 E2 DA := (by first | exact f2.below bu2 | exact (f2.alloc _).below bu2); first | (have X2 := Cel.below (Cel.new u1 [Value.slice none 0 0, Value.slice none 0 0, Value.int IntKind.i64 0] 27) bu2; have lX2 := X2.lt) | (have X2 := X1.below bu2; have lX2 := X2.lt) | skip)
        | (go_at_call 24; refine (HSS.out _ _ _ _ _ _ _ _ _ (by first | exact f1'.ints' HCA.out | exact (f1'.alloc _).ints' HCA.out) (by first | exact f2'.ints' HDA.out | exact (f2'.alloc _).ints' HDA.out) (by first | exact f3.ints' HCB.out | exact (f3.alloc _).ints' HCB.out) (by first | exact f4.ints' HDB.out | exact (f4.alloc _).ints' HDB.out)).mono ?_; rintro ee u3 ⟨a0, n, cp0, c0, m, cp0', B1, B2, rfl, hn, hm, bu3, oC, oD, g1, g2, g3⟩; have HU3 := HB.below (w := w) (la := [.slice a na cap, .slice c ma cap', .int .i64 KA]) (lb := [.slice e nb cpe, .slice d mb cpd, .int .i64 KB]) (by first | exact HU2 | exact HU2.alloc _) bu3; have GU3 := cells6 HU3; have Au3 : u2.heap.size ≤ u3.heap.size := Nat.le_trans (by simp) bu3.size; have BU3 : Below wy.heap.size wy u3 := Below.trans (by first | exact BU2 | exact BU2.alloc BU2.size _) (bu3.mono (by first | exact BU2.size | (have := BU2.size; simp; omega))); have HN' : Hid (C.length = n) := hn; have HM' : Hid (D.length = m) := hm; clear hn hm; first | (have X3 := Cel.below (Cel.new u2 [Value.slice none 0 0, Value.slice none 0 0, Value.int IntKind.i64 0] 27) bu3; have X5 := X3.trio; obtain ⟨x0, x1, x2, x3, x4, x5⟩ := X5) | (have X3 := X2.below bu3; have X5 := X3.trio; obtain ⟨x0, x1, x2, x3, x4, x5⟩ := X5) | skip))
    all_goals
      try rw [World.size_alloc] at g1
      try rw [World.size_alloc] at g2
      have sz := BU3.size
      have sz2 := BU2.size
      go_wp2_with fail
      go_meet
    case rel => exact ⟨_, a0, n, cp0, c0, m, cp0', B1, B2, rfl, HN'.out, HM'.out, Cel.new u3 _ _, OwnAt.alloc oC _, OwnAt.alloc oD _, fun h => by have := g1 h; omega, fun h => by have := g2 h; omega, g3, by omega, BU3.alloc (by omega) _⟩
    all_goals
      exact ⟨_, a0, n, cp0, c0, m, cp0', B1, B2, rfl, HN'.out, HM'.out, ((X3.set 0 _).set 1 _).set 2 _, OwnAt.set (OwnAt.set (OwnAt.set oC (fun h => by have := g1 (by rw [← HN'.out]; exact h); omega) _ _) (fun h => by have := g1 (by rw [← HN'.out]; exact h); omega) _ _) (fun h => by have := g1 (by rw [← HN'.out]; exact h); omega) _ _, OwnAt.set (OwnAt.set (OwnAt.set oD (fun h => by have := g2 (by rw [← HM'.out]; exact h); omega) _ _) (fun h => by have := g2 (by rw [← HM'.out]; exact h); omega) _ _) (fun h => by have := g2 (by rw [← HM'.out]; exact h); omega) _ _, fun h => by have := g1 h; omega, fun h => by have := g2 h; omega, g3, by omega, ((BU3.setCell (by simp only []; omega) _).setCell (by simp only []; omega) _).setCell (by simp only []; omega) _⟩
  case rest =>
  obtain ⟨V0, a0, n, cp0, c0, m, cp0', B1, B2, rfl, hn, hm, vV, oC, oD, g1, g2, g3, gV, bc⟩ := hcut
  have hn1 : n ≤ 1048576 := by rw [← hn]; exact hlC
  have hm1 : m ≤ 1048576 := by rw [← hm]; exact hlD
  have HN : Hid (C.length = n) := hn
  have HM : Hid (D.length = m) := hm
  have HC := HY.below bc
  have GC := cells6 HC
  have lq := HY.q.lt
  have l1 : 0 < n → B1 < wc.heap.size := fun h => oC.lt (by rw [HN.out]; exact h)
  have l2 : 0 < m → B2 < wc.heap.size := fun h => oD.lt (by rw [HM.out]; exact h)
  have lV := vV.lt
  clear hn hm bc GY HY
  go_wp2_with fail
  refine (toF_any _ _ _ _ _ _ _ CA DA _ (hCA.below HC.b) (hDA.below HC.b) hna hma).mono ?_
  rintro ee wx ⟨Y1, Y2, rfl, bx, hy1, hy2, x1, x2⟩
  have HX := HC.below bx
  have GX := cells6 HX
  have vx := vV.below bx
  have oCx := oC.below bx
  have oDx := oD.below bx
  have lx := HX.q.lt
  have lx' : w.heap.size < wx.heap.size := by omega
  have zx := bx.size
  have hY2 := x2.lt
  clear GC HC vV oC oD bx
  go_wp2_with fail
  refine (toF_any _ _ _ _ _ _ _ CB DB _ (hCB.below (HX.alloc _).b) (hDB.below (HX.alloc _).b) hnb hmb).mono ?_
  rintro ee wz ⟨Y3, Y4, rfl, bz, hy3, hy4, x3, x4⟩
  rw [World.size_alloc] at hy3
  have alx : Below wx.heap.size wx wz := ((Below.refl _ _).alloc (Nat.le_refl _) _).trans (bz.mono (by simp))
  have HZ := HX.below alx
  have xz := (Cel.new wx _ _).below bz
  have vz := vx.below alx
  have oCz := oCx.below alx
  have oDz := oDx.below alx
  have x1z := x1.below alx
  have x2z := x2.below alx
  have zz := xz.lt
  have hY4 := x4.lt
  clear GX HX vx oCx oDx x1 x2 bz alx
  have e0 := xz.cell 0
  have e1 := xz.cell 1
  have e2 := xz.cell 2
  simp only [List.getElem?_cons_zero, List.getElem?_cons_succ] at e0 e1 e2
  go_wp2_with fail
  refine (HII.out _ _ _ _ _ _ _ _ _ ((x1z.ints' HCA.out).alloc _) ((x2z.ints' HDA.out).alloc _) ((x3.ints' HCB.out).alloc _) ((x4.ints' HDB.out).alloc _)).mono ?_
  rintro ee w2 ⟨a1, n', cp1, c1, m', cp1', P1, P2, rfl, hn', hm', b2, pC, pD, q1, q2, q3⟩
  obtain rfl : n' = n := by rw [← hn', HN.out]
  obtain rfl : m' = m := by rw [← hm', HM.out]
  rw [World.size_alloc] at q1 q2
  have alz : Below wz.heap.size wz w2 := ((Below.refl _ _).alloc (Nat.le_refl _) _).trans (b2.mono (by simp))
  have y0 := (Cel.new wz _ _).below b2
  have H2w := HZ.below alz
  have xw := xz.below alz
  have vw := vz.below alz
  have oCw := oCz.below alz
  have oDw := oDz.below alz
  have z1 := x1z.below alz
  have z2 := x2z.below alz
  have z3 := x3.below alz
  have z4 := x4.below alz
  have zw := y0.lt
  have y1 : 0 < n' → P1 < w2.heap.size := fun h => pC.lt (by rw [HN.out]; exact h)
  have y2 : 0 < m' → P2 < w2.heap.size := fun h => pD.lt (by rw [HM.out]; exact h)
  have he := eqF_refl C D K
  have heA := eqF_refl CA DA KA
  have heB := eqF_refl CB DB KB
  have lVw : V0 < w2.heap.size := by omega
  clear hn' hm' e0 e1 e2 HZ xz vz oCz oDz x1z x2z x3 x4 b2 alz
  have e0 := vw.cell 0
  have e1 := vw.cell 1
  have e2 := vw.cell 2
  simp only [List.getElem?_cons_zero, List.getElem?_cons_succ] at e0 e1 e2
  go_wp2_with fail
  refine (eqF_any _ _ _ _ _ _ _ C D _ _ _ _ _ _ _ C D _ ((pC.ints' HN.out).alloc _) ((pD.ints' HM.out).alloc _) ((oCw.ints' HN.out).alloc _) ((oDw.ints' HM.out).alloc _) hn1 hm1 hn1 hm1).mono ?_
  rintro ee wq ⟨rfl, bq⟩
  have alw : Below w2.heap.size w2 wq := ((Below.refl _ _).alloc (Nat.le_refl _) _).trans (bq.mono (by simp))
  have s : S2 w [.slice a na cap, .slice c ma cap', .int .i64 KA] [.slice e nb cpe, .slice d mb cpd, .int .i64 KB] V0 wx.heap.size wz.heap.size w2.heap.size [.slice a0 n' cp0, .slice c0 m' cp0', .int .i64 K] [.slice (some ⟨Y1, 0, none⟩) na na, .slice (some ⟨Y2, 0, none⟩) ma ma, .int .i64 KA] [.slice (some ⟨Y3, 0, none⟩) nb nb, .slice (some ⟨Y4, 0, none⟩) mb mb, .int .i64 KB] [.slice a1 n' cp1, .slice c1 m' cp1', .int .i64 K] a0 B1 c0 B2 a1 P1 c1 P2 C D C D wq :=
    ⟨H2w.below alw, vw.below alw, xw.below alw, y0.below alw, (Cel.new w2 _ _).below bq, oCw.below alw, oDw.below alw, pC.below alw, pD.below alw⟩
  have y_1 := z1.below alw
  have y_2 := z2.below alw
  have y_3 := z3.below alw
  have y_4 := z4.below alw
  clear e0 e1 e2 H2w vw xw y0 oCw oDw pC pD z1 z2 z3 z4 bq alw
  have c6 := cells6 s.h
  have e0 := s.x.cell 0
  have e1 := s.x.cell 1
  have e2 := s.x.cell 2
  simp only [List.getElem?_cons_zero, List.getElem?_cons_succ] at e0 e1 e2
  go_upto_region 14 with fail
  go_cut [44] (fun s wd => s = .bool false ∧ Below wq.heap.size wq wd)
  case first =>
    go_region_with (first | (go_at_call 11; refine (toF_any _ _ _ _ _ _ _ CA DA _ (by exact hCA.below s.h.b.drew) (by exact hDA.below s.h.b.drew) hna hma).mono ?_; rintro ee t6 ⟨W1, W2, rfl, b6, ho5, ho6, k5, k6⟩; have b6' := below_of_drew b6; have d3 := (s.x.below b6').cell 0; have d4 := (s.x.below b6').cell 1; have d5 := (s.x.below b6').cell 2; simp only [List.getElem?_cons_zero, List.getElem?_cons_succ] at d3 d4 d5) | (go_at_call 13; refine (eqF_any _ _ _ _ _ _ _ CA DA _ _ _ _ _ _ _ CA DA _ (by exact (y_1.below b6').ints' HCA.out) (by exact (y_2.below b6').ints' HDA.out) (by exact k5.ints' HCA.out) (by exact k6.ints' HDA.out) hna hma hna hma).mono ?_; rintro ee t7 ⟨rfl, b7⟩))
    all_goals
      go_wp2_with fail
      go_meet
      case rel => exact ⟨rfl, b6'.trans (b7.mono b6'.size)⟩
  case rest =>
  obtain ⟨rfl, bd⟩ := hcut
  replace s := s.below bd
  replace y_1 := y_1.below bd
  replace y_2 := y_2.below bd
  replace y_3 := y_3.below bd
  replace y_4 := y_4.below bd
  clear c6 e0 e1 e2 bd
  have c6 := cells6 s.h
  have e0 := s.y.cell 0
  have e1 := s.y.cell 1
  have e2 := s.y.cell 2
  simp only [List.getElem?_cons_zero, List.getElem?_cons_succ] at e0 e1 e2
  go_upto_region 16 with fail
  go_cut [49] (fun s wd => s = .bool false ∧ Below wc.heap.size wc wd)
  case first =>
    go_region_with (first | (go_at_call 11; refine (toF_any _ _ _ _ _ _ _ CB DB _ (by exact hCB.below s.h.b.drew) (by exact hDB.below s.h.b.drew) hnb hmb).mono ?_; rintro ee t6 ⟨W1, W2, rfl, b6, ho5, ho6, k5, k6⟩; have b6' := below_of_drew b6; have d3 := (s.y.below b6').cell 0; have d4 := (s.y.below b6').cell 1; have d5 := (s.y.below b6').cell 2; simp only [List.getElem?_cons_zero, List.getElem?_cons_succ] at d3 d4 d5) | (go_at_call 13; refine (eqF_any _ _ _ _ _ _ _ CB DB _ _ _ _ _ _ _ CB DB _ (by exact (y_3.below b6').ints' HCB.out) (by exact (y_4.below b6').ints' HDB.out) (by exact k5.ints' HCB.out) (by exact k6.ints' HDB.out) hnb hmb hnb hmb).mono ?_; rintro ee t7 ⟨rfl, b7⟩))
    all_goals
      go_wp2_with fail
      go_meet
      case rel => exact ⟨rfl, b6'.trans (b7.mono b6'.size)⟩
  case rest =>
  obtain ⟨rfl, bd⟩ := hcut
  replace s := s.below bd
  replace y_1 := y_1.below bd
  replace y_2 := y_2.below bd
  replace y_3 := y_3.below bd
  replace y_4 := y_4.below bd
  clear c6 e0 e1 e2 bd
  have e0 := s.x.cell 0
  have e1 := s.x.cell 1
  have e2 := s.x.cell 2
  simp only [List.getElem?_cons_zero, List.getElem?_cons_succ] at e0 e1 e2
  go_wp2_with fail
  refine (markF_any _ _ _ _ _ _ _ Y1 Y2 CA DA _ _ (.inr ⟨rfl, y_1⟩) (.inr ⟨rfl, y_2⟩) (fun _ _ => by omega) HCA.out HDA.out hna hma (by omega) (by omega)).mono ?_
  rintro ee wm ⟨rfl, tm, -, -⟩
  replace s := s.touch tm (fun k h => by omega) (by omega) (by omega) (by omega) (by omega) (fun h => by have := l1 (by rw [← HN.out]; exact h); omega) (fun h => by have := l2 (by rw [← HM.out]; exact h); omega) (fun h => by have := q1 (by rw [← HN.out]; exact h); omega) (fun h => by have := q2 (by rw [← HM.out]; exact h); omega)
  have o3 : OwnAt wm (some ⟨Y3, 0, none⟩) Y3 CB := OwnAt.touch' (.inr ⟨rfl, y_3⟩) tm (fun _ => by omega)
  have o4 : OwnAt wm (some ⟨Y4, 0, none⟩) Y4 DB := OwnAt.touch' (.inr ⟨rfl, y_4⟩) tm (fun _ => by omega)
  clear y_1 y_2 y_3 y_4 e0 e1 e2 tm
  have e0 := s.y.cell 0
  have e1 := s.y.cell 1
  have e2 := s.y.cell 2
  simp only [List.getElem?_cons_zero, List.getElem?_cons_succ] at e0 e1 e2
  go_wp2_with fail
  refine (markF_any _ _ _ _ _ _ _ Y3 Y4 CB DB _ _ o3 o4 (fun _ _ => by omega) HCB.out HDB.out hnb hmb (by omega) (by omega)).mono ?_
  rintro ee wn ⟨rfl, tn, -, -⟩
  replace s := s.touch tn (fun k h => by omega) (by omega) (by omega) (by omega) (by omega) (fun h => by have := l1 (by rw [← HN.out]; exact h); omega) (fun h => by have := l2 (by rw [← HM.out]; exact h); omega) (fun h => by have := q1 (by rw [← HN.out]; exact h); omega) (fun h => by have := q2 (by rw [← HM.out]; exact h); omega)
  clear o3 o4 e0 e1 e2 tn
  have e0 := s.g.cell 0
  have e1 := s.g.cell 1
  have e2 := s.g.cell 2
  have e3 := s.v.cell 0
  have e4 := s.v.cell 1
  have e5 := s.v.cell 2
  simp only [List.getElem?_cons_zero, List.getElem?_cons_succ] at e0 e1 e2 e3 e4 e5
  have yA : 0 ≤ (1 : Int) + na + ma + nb + mb := by omega
  have yA' : decide ((1 : Int) + na + ma + nb + mb < 0) = false := by simp; omega
  go_wp2_with fail
  refine (eqF_any _ _ _ _ _ _ _ C D _ _ _ _ _ _ _ C D _ (s.pC.ints' HN.out) (s.pD.ints' HM.out) (s.oC.ints' HN.out) (s.oD.ints' HM.out) hn1 hm1 hn1 hm1).mono ?_
  rintro ee w3 ⟨rfl, b3⟩
  replace s := s.below b3
  clear e0 e1 e2 e3 e4 e5 b3
  have e0 := s.g.cell 0
  have e1 := s.g.cell 1
  have e2 := s.g.cell 2
  simp only [List.getElem?_cons_zero, List.getElem?_cons_succ] at e0 e1 e2
  go_wp2_with fail
  refine (markF_any _ _ _ _ _ _ _ P1 P2 C D _ _ s.pC s.pD q3 HN.out HM.out hn1 hm1 (by omega) (by omega)).mono ?_
  rintro ee w4 ⟨rfl, t4, mC, mD⟩
  have lP : ∀ k, (k = P1 ∧ 0 < n') ∨ (k = P2 ∧ 0 < m') → wz.heap.size + 1 ≤ k ∧ k < w2.heap.size := by
    rintro k (⟨rfl, h⟩ | ⟨rfl, h⟩)
    · exact ⟨q1 h, y1 h⟩
    · exact ⟨q2 h, y2 h⟩
  replace s : S2 w [.slice a na cap, .slice c ma cap', .int .i64 KA] [.slice e nb cpe, .slice d mb cpd, .int .i64 KB] V0 wx.heap.size wz.heap.size w2.heap.size [.slice a0 n' cp0, .slice c0 m' cp0', .int .i64 K] [.slice (some ⟨Y1, 0, none⟩) na na, .slice (some ⟨Y2, 0, none⟩) ma ma, .int .i64 KA] [.slice (some ⟨Y3, 0, none⟩) nb nb, .slice (some ⟨Y4, 0, none⟩) mb mb, .int .i64 KB] [.slice a1 n' cp1, .slice c1 m' cp1', .int .i64 K] a0 B1 c0 B2 a1 P1 c1 P2 C D (ramp 1 n') (ramp (1 + n') m') w4 :=
    ⟨s.h.touch t4 (fun k h => by have := lP k h; omega), s.v.touch t4 (fun h => by have := lP _ h; omega), s.x.touch t4 (fun h => by have := lP _ h; omega), s.y.touch t4 (fun h => by have := lP _ h; omega), s.g.touch t4 (fun h => by have := lP _ h; omega), OwnAt.touch' s.oC t4 (fun h hh => by have := lP _ hh; have := l1 (by rw [← HN.out]; exact h); omega), OwnAt.touch' s.oD t4 (fun h hh => by have := lP _ hh; have := l2 (by rw [← HM.out]; exact h); omega), mC, mD⟩
  clear e0 e1 e2 t4 mC mD lP
  have e0 := s.g.cell 0
  have e1 := s.g.cell 1
  have e2 := s.g.cell 2
  simp only [List.getElem?_cons_zero, List.getElem?_cons_succ] at e0 e1 e2
  have y3 : 0 ≤ (1 : Int) + n' + m' := by omega
  have y4 : ((1 : Int) + n' + m' != 1 + n' + m') = false := by simp
  go_wp2_with fail
  refine (heldF_any _ _ _ _ _ _ _ _ _ (s.pC.ints' (ramp_len _ _)) (s.pD.ints' (ramp_len _ _)) hn1 hm1 (by omega) (by omega)).mono ?_
  rintro ee wv ⟨rfl, b5⟩
  replace s := s.below b5
  clear e0 e1 e2 b5
  have HV := s.h
  have GV := cells6 HV
  have NV := news6 HV
  go_upto_region 31 with fail
  go_cut [13] (fun s wx => ∃ V0 a0 n cp0 c0 m cp0' B1 B2, s = .pointer (some ⟨V0, 0, none⟩) ∧ C.length = n ∧ D.length = m ∧ Cel wx V0 [.slice a0 n cp0, .slice c0 m cp0', .int .i64 K] 27 ∧ OwnAt wx a0 B1 C ∧ OwnAt wx c0 B2 D ∧ (0 < n → wv.heap.size ≤ B1) ∧ (0 < m → wv.heap.size ≤ B2) ∧ (0 < n → 0 < m → B1 ≠ B2) ∧ wv.heap.size ≤ V0 ∧ Below wv.heap.size wv wx)
  case first =>
    clear HSS
    go_region_held3 (fun w' => w'.cell? ⟨w.heap.size, 0, none⟩ = some (.slice a na cap) ∧ w'.cell? ⟨w.heap.size, 1, none⟩ = some (.slice c ma cap') ∧ w'.cell? ⟨w.heap.size, 2, none⟩ = some (.int .i64 KA) ∧ w'.cell? ⟨w.heap.size + 1, 0, none⟩ = some (.slice e nb cpe) ∧ w'.cell? ⟨w.heap.size + 1, 1, none⟩ = some (.slice d mb cpd) ∧ w'.cell? ⟨w.heap.size + 1, 2, none⟩ = some (.int .i64 KB)) (first | assumption | go_keep)
      (first
        | (go_at_call_of 11 (Value.slice a na cap); refine (toF_any _ _ _ _ _ _ _ CA DA _ (hCA.below (HB.b (la := [.slice a na cap, .slice c ma cap', .int .i64 KA]) (lb := [.slice e nb cpe, .slice d mb cpd, .int .i64 KB]) (by first | exact HV.drew | exact (HV.alloc _).drew))) (hDA.below (HB.b (la := [.slice a na cap, .slice c ma cap', .int .i64 KA]) (lb := [.slice e nb cpe, .slice d mb cpd, .int .i64 KB]) (by first | exact HV.drew | exact (HV.alloc _).drew))) hna hma).mono ?_; rintro ee u1 ⟨E1, E2, rfl, bu1, -, -, f1, f2⟩; have HU1 := HB.below (w := w) (la := [.slice a na cap, .slice c ma cap', .int .i64 KA]) (lb := [.slice e nb cpe, .slice d mb cpd, .int .i64 KB]) (by first | exact HV.drew | exact (HV.alloc _).drew) bu1; have GU1 := cells6 HU1; have lu1 := HU1.q.lt; have Au1 : wv.heap.size ≤ u1.heap.size := Nat.le_trans (by simp) bu1.size; have NU1 := news6 HU1; have BU1 : Below wv.heap.size wv u1 := Below.trans (by first | exact (Below.refl _ _).drew | exact ((Below.refl _ _).alloc (Nat.le_refl _) _).drew) (bu1.mono (by simp)); first | (have X1 := Cel.below (w := (wv.alloc (Obj.cells #[Value.slice none 0 0, Value.slice none 0 0, Value.int IntKind.i64 0] 27)).drew) (Cel.new wv [Value.slice none 0 0, Value.slice none 0 0, Value.int IntKind.i64 0] 27) bu1; have lX1 := X1.lt) | skip)
        | (go_at_call_of 11 (Value.slice e nb cpe); refine (toF_any _ _ _ _ _ _ _ CB DB _ (hCB.below (HB.b (la := [.slice a na cap, .slice c ma cap', .int .i64 KA]) (lb := [.slice e nb cpe, .slice d mb cpd, .int .i64 KB]) (by first | exact HU1 | exact HU1.alloc _))) (hDB.below (HB.b (la := [.slice a na cap, .slice c ma cap', .int .i64 KA]) (lb := [.slice e nb cpe, .slice d mb cpd, .int .i64 KB]) (by first | exact HU1 | exact HU1.alloc _))) hnb hmb).mono ?_; rintro ee u2 ⟨E3, E4, rfl, bu2, -, -, f3, f4⟩; have HU2 := HB.below (w := w) (la := [.slice a na cap, .slice c ma cap', .int .i64 KA]) (lb := [.slice e nb cpe, .slice d mb cpd, .int .i64 KB]) (by first | exact HU1 | exact HU1.alloc _) bu2; have GU2 := cells6 HU2; have lu2 := HU2.q.lt; have Au2 : u1.heap.size ≤ u2.heap.size := Nat.le_trans (by simp) bu2.size; have NU2 := news6 HU2; have BU2 : Below wv.heap.size wv u2 := Below.trans (by first | exact BU1 | exact BU1.alloc BU1.size _) (bu2.mono (by first | exact BU1.size | (have := BU1.size; simp; omega))); have f1' : Blk u2 E1 CA := (by first | exact f1.below bu2 | exact (f1.alloc _).below bu2); have f2' : Blk u2 E2 DA := (by first | exact f2.below bu2 | exact (f2.alloc _).below bu2); first | (have X2 := Cel.below (Cel.new u1 [Value.slice none 0 0, Value.slice none 0 0, Value.int IntKind.i64 0] 27) bu2; have lX2 := X2.lt) | (have X2 := X1.below bu2; have lX2 := X2.lt) | skip)
        | (go_at_call 25; refine (HII.out _ _ _ _ _ _ _ _ _ (by first | exact f1'.ints' HCA.out | exact (f1'.alloc _).ints' HCA.out) (by first | exact f2'.ints' HDA.out | exact (f2'.alloc _).ints' HDA.out) (by first | exact f3.ints' HCB.out | exact (f3.alloc _).ints' HCB.out) (by first | exact f4.ints' HDB.out | exact (f4.alloc _).ints' HDB.out)).mono ?_; rintro ee u3 ⟨a0, n, cp0, c0, m, cp0', B1, B2, rfl, hn, hm, bu3, oC, oD, g1, g2, g3⟩; have HU3 := HB.below (w := w) (la := [.slice a na cap, .slice c ma cap', .int .i64 KA]) (lb := [.slice e nb cpe, .slice d mb cpd, .int .i64 KB]) (by first | exact HU2 | exact HU2.alloc _) bu3; have GU3 := cells6 HU3; have Au3 : u2.heap.size ≤ u3.heap.size := Nat.le_trans (by simp) bu3.size; have BU3 : Below wv.heap.size wv u3 := Below.trans (by first | exact BU2 | exact BU2.alloc BU2.size _) (bu3.mono (by first | exact BU2.size | (have := BU2.size; simp; omega))); have HN' : Hid (C.length = n) := hn; have HM' : Hid (D.length = m) := hm; clear hn hm; first | (have X3 := Cel.below (Cel.new u2 [Value.slice none 0 0, Value.slice none 0 0, Value.int IntKind.i64 0] 27) bu3; have X5 := X3.trio; obtain ⟨x0, x1, x2, x3, x4, x5⟩ := X5) | (have X3 := X2.below bu3; have X5 := X3.trio; obtain ⟨x0, x1, x2, x3, x4, x5⟩ := X5) | skip))
    all_goals
      try rw [World.size_alloc] at g1
      try rw [World.size_alloc] at g2
      have sz := BU3.size
      have sz2 := BU2.size
      go_wp2_with fail
      go_meet
    case rel => exact ⟨_, a0, n, cp0, c0, m, cp0', B1, B2, rfl, HN'.out, HM'.out, Cel.new u3 _ _, OwnAt.alloc oC _, OwnAt.alloc oD _, fun h => by have := g1 h; omega, fun h => by have := g2 h; omega, g3, by omega, BU3.alloc (by omega) _⟩
    all_goals
      exact ⟨_, a0, n, cp0, c0, m, cp0', B1, B2, rfl, HN'.out, HM'.out, ((X3.set 0 _).set 1 _).set 2 _, OwnAt.set (OwnAt.set (OwnAt.set oC (fun h => by have := g1 (by rw [← HN'.out]; exact h); omega) _ _) (fun h => by have := g1 (by rw [← HN'.out]; exact h); omega) _ _) (fun h => by have := g1 (by rw [← HN'.out]; exact h); omega) _ _, OwnAt.set (OwnAt.set (OwnAt.set oD (fun h => by have := g2 (by rw [← HM'.out]; exact h); omega) _ _) (fun h => by have := g2 (by rw [← HM'.out]; exact h); omega) _ _) (fun h => by have := g2 (by rw [← HM'.out]; exact h); omega) _ _, fun h => by have := g1 h; omega, fun h => by have := g2 h; omega, g3, by omega, ((BU3.setCell (by simp only []; omega) _).setCell (by simp only []; omega) _).setCell (by simp only []; omega) _⟩
  case rest =>
  obtain ⟨V1, a9, n9, cp9, c9, m9, cp9', R1, R2, rfl, hn9, hm9, vV, oC, oD, -, -, -, gV1, bc⟩ := hcut
  obtain rfl : n9 = n' := by rw [← hn9, HN.out]
  obtain rfl : m9 = m' := by rw [← hm9, HM.out]
  replace s := s.below bc
  clear hn9 hm9 bc GV HV
  have e0 := vV.cell 0
  have e1 := vV.cell 1
  have e2 := vV.cell 2
  have e3 := s.v.cell 0
  have e4 := s.v.cell 1
  have e5 := s.v.cell 2
  simp only [List.getElem?_cons_zero, List.getElem?_cons_succ] at e0 e1 e2 e3 e4 e5
  go_wp2_with fail
  refine (eqF_any _ _ _ _ _ _ _ C D _ _ _ _ _ _ _ C D _ (oC.ints' HN.out) (oD.ints' HM.out) (s.oC.ints' HN.out) (s.oD.ints' HM.out) hn1 hm1 hn1 hm1).mono ?_
  rintro ee w7 ⟨rfl, b7⟩
  replace s := s.below b7
  clear e0 e1 e2 e3 e4 e5 b7 vV oC oD
  have e0 := s.g.cell 0
  have e1 := s.g.cell 1
  have e2 := s.g.cell 2
  simp only [List.getElem?_cons_zero, List.getElem?_cons_succ] at e0 e1 e2
  go_wp2_with fail
  refine (heldF_any _ _ _ _ _ _ _ _ _ (s.pC.ints' (ramp_len _ _)) (s.pD.ints' (ramp_len _ _)) hn1 hm1 (by omega) (by omega)).mono ?_
  rintro ee w8 ⟨rfl, b8⟩
  have B8 := (s.below b8).h.b
  go_wp2
  go_ret
  exact ⟨rfl, B8⟩

/-! ### The row's step -/
set_option maxRecDepth 100000 in
theorem lifted (os : Os) (started : os.Started) (H : Type) (enc : TypeId × Value → H) :
    ReturnsInHanded {} Try.checked os 7 .any (Rows.fnExactFrmAddSpec.pre6 enc Try.prog Try.f7 Rows.fnExactFrmAddRow.domain false) (Rows.fnExactFrmAddSpec.post enc Try.prog Try.f7 false true false false) := by
  refine returnsInHanded_of_change (C := Try.checked) own started (by kernel_rfl) Try.func7
    (ChangeSpec.witness6 (enc := enc) (C := Try.checked) false ⟨#[], #[.agg #[.slice none 0 0, .slice none 0 0, .int .i64 0], .agg #[.slice none 0 0, .slice none 0 0, .int .i64 0]], []⟩ 8 (by kernel_rfl) (by kernel_rfl) (by kernel_rfl) (by kernel_rfl)) ?_
  intro W base args ds gs before hval0 hW hcnd _
  have hval : ∀ (j : Nat) t v, Try.f7.params[j]? = some t → args[j]? = some v → Value.okWide Try.prog W .any base t v := hval0
  have hW' := hW
  obtain ⟨p, q, hA0, hV, rfl, hfz, hnd⟩ := hW
  have hA : DataW.TrodAll enc Try.prog W 0 (fun _ => true) true Try.f7.params.toList args.toList ds p := hA0
  rw [Try.params7] at hA hval
  obtain ⟨v0, vs0, d0, ds0, p0, q0, hargs, rfl, rfl, h0, r0⟩ := trodAll_cons hA
  obtain ⟨v1, vs1, d1, ds1, p1, q1, rfl, rfl, rfl, h1, r1⟩ := trodAll_cons r0
  obtain ⟨rfl, rfl, rfl⟩ := trodAll_nil r1
  obtain rfl : args = #[v0, v1] := by cases args; simp_all
  obtain ⟨rfl, rfl⟩ := trodVars_none hV
  have k0 := h0
  have lt0 : ∀ x ∈ p0, x.block < W.heap.size := by obtain ⟨m, hm⟩ := k0; exact DataW.trod_lt m _ _ _ hm
  obtain ⟨a0, n0, cap0, c0, m0, cap0', K0, C0, D0, rfl, hC0, hD0, hn0, hm0, wK0⟩ := open_form (hval 0 24 v0 rfl rfl) h0
  have k1 := h1
  have lt1 : ∀ x ∈ p1, x.block < W.heap.size := by obtain ⟨m, hm⟩ := k1; exact DataW.trod_lt m _ _ _ hm
  obtain ⟨a1, n1, cap1, c1, m1, cap1', K1, C1, D1, rfl, hC1, hD1, hn1, hm1, wK1⟩ := open_form (hval 1 24 v1 rfl rfl) h1
  clear hA0 hval0
  refine (walk W a0 n0 cap0 c0 m0 cap0' K0 C0 D0 hC0 hD0 hn0 hm0 wK0 a1 n1 cap1 c1 m1 cap1' K1 C1 D1 hC1 hD1 hn1 hm1 wK1).mono fun e W' ⟨he, bel⟩ => ?_
  subst he
  exact ⟨_, rfl, _, _, _, [], _, [], hW', trodAll_mk1 (shut_bool Try.underlying4 _), (trodAll_cons_mk (Below.trod laidOut (by kernel_rfl) (of_decide_eq_true (by kernel_rfl)) k0 bel lt0) (trodAll_cons_mk (Below.trod laidOut (by kernel_rfl) (of_decide_eq_true (by kernel_rfl)) k1 bel lt1) trodAll_mk0)), rfl, bel.frame _, fun h => by cases h⟩

theorem over : Rows.fnExactFrmAddRow.holds Try.pinned (OpenSpec.ofChange Rows.fnExactFrmAddSpec) :=
  OpenClaim.holds_of_wide 7 Try.f7 rfl rfl rfl rfl rfl rfl rfl ⟨rfl, rfl, rfl, rfl, rfl⟩ rfl rfl rfl rfl rfl (by kernel_rfl) Try.func7 (by kernel_rfl)
    (of_decide_eq_true (by kernel_rfl)) (by unfold Func.isWrapper; first | (rw [if_pos (by decide +kernel)]; kernel_rfl) | (rw [if_neg (by decide +kernel)]; exact ⟨rfl, rfl⟩))
    (fun os started H enc _ => lifted os started H enc)

end Go.Proofs.Ytmbhcngddpoonac.fnExactFrmAdd
namespace Go.Proofs.Ytmbhcngddpoonac
/-- The statement. -/
theorem fnExactFrmAdd_holds : Rows.FnExactFrmAddSaid := fnExactFrmAdd.over
#print axioms fnExactFrmAdd_holds
end Go.Proofs.Ytmbhcngddpoonac
