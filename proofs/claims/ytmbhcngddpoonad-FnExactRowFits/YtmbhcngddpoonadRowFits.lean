/-
  For every row and all slices of ints FnExactRowFits returns true, and all read behind the call as they did. No condition.
-/
import Derived.Test.YtmbhcngddpoonadFits
import Derived.Deep.DeepCutAuto
namespace Go.Proofs.Ytmbhcngddpoonad.fnExactRowFits
open Go.ChangeShapes Go.WideShapes Go.ChangeAt Go.RowKit
set_option linter.unusedVariables false

theorem copies_all {P : FV → Bool} {fs gs : List FV} (hP : ∀ f g : FV, f.C = g.C → f.D = g.D → f.K = g.K → P f = P g) (hl : gs.length = fs.length) (h : copies fs gs) : gs.all P = fs.all P := by
  rw [Bool.eq_iff_iff, List.all_eq_true, List.all_eq_true]
  have key : ∀ i, i < gs.length → P (gs[i]?.getD noFV) = P (fs[i]?.getD noFV) := fun i hi => by
    obtain ⟨e1, e2, e3, e4, e5⟩ := h i hi
    exact hP _ _ e1 e2 e3
  constructor
  · intro hh x hx
    obtain ⟨i, hi, rfl⟩ := List.getElem_of_mem hx
    have k := key i (by omega)
    rw [List.getElem?_eq_getElem hi, List.getElem?_eq_getElem (by omega)] at k
    simp only [Option.getD_some] at k
    rw [← k]; exact hh _ (List.getElem_mem _)
  · intro hh x hx
    obtain ⟨i, hi, rfl⟩ := List.getElem_of_mem hx
    have k := key i (by omega)
    rw [List.getElem?_eq_getElem hi, List.getElem?_eq_getElem (by omega)] at k
    simp only [Option.getD_some] at k
    rw [k]; exact hh _ (List.getElem_mem _)

set_option maxRecDepth 100000 in
set_option maxHeartbeats 6400000 in
theorem walk (w : World) (g : Option Addr) (G cg : Nat) (gs : List FV) (a : Option Addr) (A ca : Nat) (ls : List FV) (t : Option Addr) (T ct : Nat) (ts : List FV) (st : Bool)
    (hg : gs.length = G) (hG : FormsM w g gs) (hG1 : G ≤ maxLen) (ha : ls.length = A) (hA : FormsM w a ls) (hA1 : A ≤ maxLen) (ht : ts.length = T) (hT : FormsM w t ts) (hT1 : T ≤ maxLen)
    (v : Option Addr) (p cv : Nat) (V : List Int) (hV : Ints w v p V) (hp1 : p ≤ maxLen) (u : Option Addr) (q cu : Nat) (U : List Int) (hU : Ints w u q U) (hq1 : q ≤ maxLen) :
    Calls Try.prog 8 #[rowV g G cg a A ca t T ct st, .slice v p cv, .slice u q cu] w fun e w' => e = .returned (.bool true) ∧ Below w.heap.size w w' := by
  have n0 := BX.new w [.slice g G cg, .slice a A ca, .slice t T ct, .bool st] 60
  have HG : Hid (gs.length = G) := hg
  have HA : Hid (ls.length = A) := ha
  have HT : Hid (ts.length = T) := ht
  have HV : Hid (V.length = p) := hV.1
  have HU : Hid (U.length = q) := hU.1
  clear hg ha ht
  unfold maxLen at hp1 hq1
  by_cases hp0 : 1048576 < p
  · go_enter Try.func8, Try.ntmps8
    go_wp2
    go_ret
    exact ⟨rfl, n0.b⟩
  have hp : p ≤ 1048576 := by omega
  by_cases hq0 : 1048576 < q
  · go_enter Try.func8, Try.ntmps8
    go_wp2
    go_ret
    exact ⟨rfl, n0.b⟩
  have hq : q ≤ 1048576 := by omega
  clear hp0 hq0 hp1 hq1
  go_enter Try.func8, Try.ntmps8
  go_wp2_with fail
  refine (szRow_any _ _ _ gs _ _ _ ls _ _ _ ts _ _ _ HG.out (hG.below n0.b) hG1 HA.out (hA.below n0.b) hA1 HT.out (hT.below n0.b) hT1 (by omega) (by omega)).mono ?_
  rintro e w1 ⟨r, rfl, p1, q1, s1, b1⟩
  have n1 := n0.below b1
  obtain ⟨c0, c1, c2, c3⟩ := n1.p.quad
  by_cases hr : r < 0
  · go_wp2
    go_ret
    exact ⟨rfl, n1.b⟩
  have hr' : 0 ≤ r := by omega
  have R0 := s1 hr'
  have hR : RowAt w g G gs a A ls t T ts := by
    refine ⟨hG.g ?_, hA.g ?_, hT.g ?_, HG.out, HA.out, HT.out, R0.zg, R0.za, R0.zt⟩
    · intro i hi; obtain ⟨b, o, e, e0, e1, e2, e3⟩ := R0.g i hi; exact ⟨e3.hn, e3.hm⟩
    · intro i hi; obtain ⟨b, o, e, e0, e1, e2, e3⟩ := R0.a i hi; exact ⟨e3.hn, e3.hm⟩
    · intro i hi; obtain ⟨b, o, e, e0, e1, e2, e3⟩ := R0.t i hi; exact ⟨e3.hn, e3.hm⟩
  have zg := hR.zg
  have za := hR.za
  have zt := hR.zt
  clear s1 R0 b1 n0 hG hA hT hr p1 q1
  obtain ⟨x, hx⟩ : ∃ x, x = fitsB gs ls ts A T st p q V U := ⟨_, rfl⟩
  have same : ∀ gs' ls' ts', gs'.length = G → ls'.length = A → ts'.length = T → copies gs gs' → copies ls ls' → copies ts ts' → fitsB gs' ls' ts' A T st p q V U = x := fun gs' ls' ts' h1 h2 h3 c1 c2 c3 => by
    rw [hx, fitsB, fitsB, rowB, rowB, copies_ok (by rw [h1, HG.out]) c1, copies_ok (by rw [h2, HA.out]) c2, copies_ok (by rw [h3, HT.out]) c3, copies_all (P := fitB V U) (fun f g e1 e2 e3 => by simp only [fitB, e1, e2, e3]) (by rw [h1, HG.out]) c1]
  have HS : Hid _ := same
  clear same hx
  go_wp2_with fail
  refine (toRow_any _ _ _ gs _ _ _ ls _ _ _ ts _ _ (hR.below n1.b)).mono ?_
  rintro e w2 ⟨B1, B2, B3, gs', ls', ts', X, Y, Z, p1, q1, p2, q2, p3, q3, rfl, k1, k2, k3, m2, b2⟩
  have n2 := n1.below b2
  clear c0 c1 c2 c3 b2 n1
  go_wp2_with fail
  refine (to_any _ _ _ V _ (hV.below n2.b) hp).mono ?_
  rintro e w2a ⟨rfl, b2a, ka⟩
  have n2a := n2.below b2a
  have m2a := m2.below b2a
  clear b2a n2 m2
  go_wp2_with fail
  refine (to_any _ _ _ U _ (hU.below n2a.b) hq).mono ?_
  rintro e w2b ⟨rfl, b2b, kb⟩
  have n2b := n2a.below b2b
  have m2b := m2a.below b2b
  have ka2 := ka.below b2b
  clear b2b n2a m2a ka
  go_wp2_with fail
  refine (sfits_any _ _ _ gs' _ _ _ ls' _ _ _ ts' _ _ _ _ V _ _ _ U _ (m2b.at zg za zt) (ka2.ints' HV.out) (kb.ints' HU.out) hp hq).mono ?_
  rintro e w3 ⟨rfl, b3⟩
  rw [HS.out gs' ls' ts' m2b.hg m2b.ha m2b.ht k1 k2 k3]
  have n3 := n2b.below b3
  clear b3 n2b m2b k1 k2 k3 ka2 kb
  clear gs' ls' ts' X Y Z p1 q1 p2 q2 p3 q3
  obtain ⟨c0, c1, c2, c3⟩ := n3.p.quad
  go_wp2_with fail
  refine (toRow_any _ _ _ gs _ _ _ ls _ _ _ ts _ _ (hR.below n3.b)).mono ?_
  rintro e w4 ⟨V1, V2, V3, gs', ls', ts', X, Y, Z, p1, q1, p2, q2, p3, q3, rfl, k1, k2, k3, m4, b4⟩
  have n4 := n3.below b4
  have K1 : Hid (copies gs gs') := k1
  have K2 : Hid (copies ls ls') := k2
  have K3 : Hid (copies ts ts') := k3
  clear c0 c1 c2 c3 b4 n3 k1 k2 k3
  go_wp2_with fail
  have n4a := n4.alloc (.cells #[.slice (some ⟨V1, 0, none⟩) G G, .slice (some ⟨V2, 0, none⟩) A A, .slice (some ⟨V3, 0, none⟩) T T, .bool st] 64)
  have x4 := Cel.new w4 [.slice (some ⟨V1, 0, none⟩) G G, .slice (some ⟨V2, 0, none⟩) A A, .slice (some ⟨V3, 0, none⟩) T T, .bool st] 64
  have m4a := (m4.at zg za zt).alloc (.cells #[.slice (some ⟨V1, 0, none⟩) G G, .slice (some ⟨V2, 0, none⟩) A A, .slice (some ⟨V3, 0, none⟩) T T, .bool st] 64)
  have LG : Hid (gs'.length = G) := m4.hg
  have LA : Hid (ls'.length = A) := m4.ha
  have LT : Hid (ts'.length = T) := m4.ht
  refine (to_any _ _ _ V _ (hV.below n4a.b) hp).mono ?_
  rintro e w5 ⟨rfl, b5, ka⟩
  rw [World.size_alloc] at ka
  have n5 := n4a.below b5
  have m5 := m4a.below b5
  have x5 := x4.below b5
  clear b5 n4 m4 n4a m4a x4
  go_wp2_with fail
  refine (to_any _ _ _ U _ (hU.below n5.b) hq).mono ?_
  rintro e w6 ⟨rfl, b6, kb⟩
  have n6 := n5.below b6
  have m6 := m5.below b6
  have x6 := x5.below b6
  have ka6 := ka.below b6
  clear b6 n5 m5 ka x5
  obtain ⟨d0, d1, d2, d3⟩ := x6.quad
  go_wp2_with fail
  refine (ifits_any _ _ _ gs' _ _ _ ls' _ _ _ ts' _ _ _ _ V _ _ _ U _ m6 (ka6.ints' HV.out) (kb.ints' HU.out) hp hq).mono ?_
  rintro e w7 ⟨rfl, b7⟩
  rw [HS.out gs' ls' ts' LG.out LA.out LT.out K1.out K2.out K3.out]
  have n7 := n6.below b7
  have m7 := m6.below b7
  have x7 := x6.below b7
  have ka7 := ka6.below b7
  have kb7 := kb.below b7
  clear b7 n6 m6 ka6 x6 kb d0 d1 d2 d3
  have hxx : (x != x) = false := by cases x <;> rfl
  obtain ⟨c0, c1, c2, c3⟩ := n7.p.quad
  obtain ⟨d0, d1, d2, d3⟩ := x7.quad
  go_upto_region 16 with fail
  go_cut [48] (fun s wd => s = .bool false ∧ Below w7.heap.size w7 wd)
  case first =>
    go_region_with (first | (go_at_call 39; go_must (refine (toRow_any _ _ _ gs _ _ _ ls _ _ _ ts _ _ (by exact hR.below n7.b.drew)).mono ?_; rintro e w8 ⟨B1', B2', B3', gs2, ls2, ts2, X2, Y2, Z2, pa, qa, pb, qb, pc, qc, rfl, k1, k2, k3, m8, b8⟩; have b8' := below_of_drew b8; obtain ⟨f0, f1, f2, f3⟩ := (x7.below b8').quad)) | (go_at_call 41; refine (eqRow_same _ _ _ gs' _ _ _ ls' _ _ _ ts' _ _ gs2 _ _ ls2 _ _ ts2 _ _ (by exact m7.below b8') (by exact m8.at zg za zt) (copies_eq LG.out m8.hg K1.out k1) (copies_eq LA.out m8.ha K2.out k2) (copies_eq LT.out m8.ht K3.out k3)).mono ?_; rintro e w9 ⟨rfl, b9⟩))
    all_goals
      go_wp2_with fail
      go_meet
      case rel => exact ⟨rfl, b8'.trans (b9.mono b8'.size)⟩
  case rest =>
  obtain ⟨rfl, bd⟩ := hcut
  have nd := n7.below bd
  have kad := ka7.below bd
  have kbd := kb7.below bd
  clear n7 m7 x7 ka7 kb7 bd c0 c1 c2 c3 d0 d1 d2 d3
  have heV := eqB_refl V
  have heU := eqB_refl U
  go_wp2_with fail
  refine (to_any _ _ _ V _ (hV.below nd.b) hp).mono ?_
  rintro e y1 ⟨rfl, by1, l1⟩
  have ny1 := nd.below by1
  have kad1 := kad.below by1
  have kbd1 := kbd.below by1
  clear nd kad kbd by1
  go_wp2_with fail
  refine (eq_any _ _ _ _ _ _ V V _ (kad1.ints' HV.out) (l1.ints' HV.out) hp hp).mono ?_
  rintro e y2 ⟨rfl, by2⟩
  have ny2 := ny1.below by2
  have kbd2 := kbd1.below by2
  clear ny1 kad1 kbd1 by2 l1
  go_wp2_with fail
  refine (to_any _ _ _ U _ (hU.below ny2.b) hq).mono ?_
  rintro e y3 ⟨rfl, by3, l3⟩
  have ny3 := ny2.below by3
  have kbd3 := kbd2.below by3
  clear ny2 kbd2 by3
  go_wp2_with fail
  refine (eq_any _ _ _ _ _ _ U U _ (kbd3.ints' HU.out) (l3.ints' HU.out) hq hq).mono ?_
  rintro e y4 ⟨rfl, by4⟩
  have ny4 := ny3.below by4
  clear ny3 kbd3 by4 l3
  go_wp2
  go_ret
  exact ⟨rfl, ny4.b⟩

/-! ### The row's step -/
set_option maxRecDepth 100000 in
theorem lifted (os : Os) (started : os.Started) (H : Type) (enc : TypeId × Value → H) :
    ReturnsInHanded {} Try.checked os 8 .any (Rows.fnExactRowFitsSpec.pre6 enc Try.prog Try.f8 Rows.fnExactRowFitsRow.domain false) (Rows.fnExactRowFitsSpec.post enc Try.prog Try.f8 false true false false) := by
  refine returnsInHanded_of_change (C := Try.checked) own started (by kernel_rfl) Try.func8
    (ChangeSpec.witness6 (enc := enc) (C := Try.checked) false ⟨#[], #[.agg #[.slice none 0 0, .slice none 0 0, .slice none 0 0, .bool false], .slice none 0 0, .slice none 0 0], []⟩ 8 (by kernel_rfl) (by kernel_rfl) (by kernel_rfl) (by kernel_rfl)) ?_
  intro W base args ds gs before hval0 hW hcnd _
  have hval : ∀ (j : Nat) t v, Try.f8.params[j]? = some t → args[j]? = some v → Value.okWide Try.prog W .any base t v := hval0
  have hW' := hW
  obtain ⟨p, q, hA0, hV, rfl, hfz, hnd⟩ := hW
  have hA : DataW.TrodAll enc Try.prog W 0 (fun _ => true) true Try.f8.params.toList args.toList ds p := hA0
  rw [Try.params8] at hA hval
  obtain ⟨v0, vs0, d0, ds0, p0, q0, hargs, rfl, rfl, h0, r0⟩ := trodAll_cons hA
  obtain ⟨v1, vs1, d1, ds1, p1, q1, rfl, rfl, rfl, h1, r1⟩ := trodAll_cons r0
  obtain ⟨v2, vs2, d2, ds2, p2, q2, rfl, rfl, rfl, h2, r2⟩ := trodAll_cons r1
  obtain ⟨rfl, rfl, rfl⟩ := trodAll_nil r2
  obtain rfl : args = #[v0, v1, v2] := by cases args; simp_all
  obtain ⟨rfl, rfl⟩ := trodVars_none hV
  have k0 := h0
  have lt0 : ∀ x ∈ p0, x.block < W.heap.size := by obtain ⟨m, hm⟩ := k0; exact DataW.trod_lt m _ _ _ hm
  obtain ⟨g0, G0, cg0, gs0, a0, A0, ca0, ls0, t0, T0, ct0, ts0, st0, rfl, hg0, hG0, zg0, ha0, hF0, za0, ht0, hT0, zt0⟩ := open_rowR (hval 0 60 v0 rfl rfl) h0
  have k1 := h1
  have lt1 : ∀ x ∈ p1, x.block < W.heap.size := by obtain ⟨m, hm⟩ := k1; exact DataW.trod_lt m _ _ _ hm
  obtain ⟨a1, n1, cap1, C1, rfl, hC1, hn1⟩ := open_rowT (hval 1 22 v1 rfl rfl) h1
  have k2 := h2
  have lt2 : ∀ x ∈ p2, x.block < W.heap.size := by obtain ⟨m, hm⟩ := k2; exact DataW.trod_lt m _ _ _ hm
  obtain ⟨a2, n2, cap2, C2, rfl, hC2, hn2⟩ := open_rowT (hval 2 22 v2 rfl rfl) h2
  clear hA0 hval0
  refine (walk W g0 G0 cg0 gs0 a0 A0 ca0 ls0 t0 T0 ct0 ts0 st0 hg0 hG0 zg0 ha0 hF0 za0 ht0 hT0 zt0 a1 n1 cap1 C1 hC1 hn1 a2 n2 cap2 C2 hC2 hn2).mono fun e W' ⟨he, bel⟩ => ?_
  subst he
  exact ⟨_, rfl, _, _, _, [], _, [], hW', trodAll_mk1 (shut_bool Try.underlying4 _), (trodAll_cons_mk (Below.trod laidOut (by kernel_rfl) (of_decide_eq_true (by kernel_rfl)) k0 bel lt0) (trodAll_cons_mk (Below.trod laidOut (by kernel_rfl) (of_decide_eq_true (by kernel_rfl)) k1 bel lt1) (trodAll_cons_mk (Below.trod laidOut (by kernel_rfl) (of_decide_eq_true (by kernel_rfl)) k2 bel lt2) trodAll_mk0))), rfl, bel.frame _, fun h => by cases h⟩

theorem over : Rows.fnExactRowFitsRow.holds Try.pinned (OpenSpec.ofChange Rows.fnExactRowFitsSpec) :=
  OpenClaim.holds_of_wide 8 Try.f8 rfl rfl rfl rfl rfl rfl rfl ⟨rfl, rfl, rfl, rfl, rfl⟩ rfl rfl rfl rfl rfl (by kernel_rfl) Try.func8 (by kernel_rfl)
    (of_decide_eq_true (by kernel_rfl)) (by unfold Func.isWrapper; first | (rw [if_pos (by decide +kernel)]; kernel_rfl) | (rw [if_neg (by decide +kernel)]; exact ⟨rfl, rfl⟩))
    (fun os started H enc _ => lifted os started H enc)

end Go.Proofs.Ytmbhcngddpoonad.fnExactRowFits
namespace Go.Proofs.Ytmbhcngddpoonad
/-- The statement. -/
theorem fnExactRowFits_holds : Rows.FnExactRowFitsSaid := fnExactRowFits.over
#print axioms fnExactRowFits_holds
end Go.Proofs.Ytmbhcngddpoonad
