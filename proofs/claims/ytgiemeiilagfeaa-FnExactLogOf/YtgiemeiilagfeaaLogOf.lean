/-
  For all slices of calls that were done, and all numbers, FnExactLogOf returns true, and the slice reads behind the call as it did. No condition.
-/
import Derived.Test.YtgiemeiilagfeaaLogOfI
import Derived.Test.YtgiemeiilagfeaaWkLg
namespace Go.Proofs.Ytgiemeiilagfeaa.fnExactLogOf
open Go.ChangeShapes Go.WideShapes Go.ChangeAt Go.RowKit
set_option linter.unusedVariables false

theorem ownD_copies {fs gs : List LgV} {N : Nat} (cl : Int) (h1 : fs.length = N) (h2 : gs.length = N) (h : copiesLgS fs gs) : ownD cl gs = ownD cl fs := by
  have e : gs.map dLg = fs.map dLg := by
    apply List.ext_getElem?
    intro i
    by_cases hi : i < N
    · obtain ⟨c1, c2, c3, c4, c5, c6, -⟩ := h i (by omega)
      have eg : gs[i]? = some (gs[i]?.getD noLg) := by rw [List.getElem?_eq_getElem (by omega)]; rfl
      have ef : fs[i]? = some (fs[i]?.getD noLg) := by rw [List.getElem?_eq_getElem (by omega)]; rfl
      rw [List.getElem?_map, List.getElem?_map, eg, ef]
      simp only [Option.map_some, dLg, c1, c2, c3, c4.2, c5, c6.2]
    · rw [List.getElem?_map, List.getElem?_map, List.getElem?_eq_none (by omega), List.getElem?_eq_none (by omega)]
  unfold ownD
  rw [e]
theorem same_of_map {ts us : List LgV} (h : ts.map dLg = us.map dLg) : ∀ i, i < ts.length → sameLg (ts[i]?.getD noLg) (us[i]?.getD noLg) := fun i hi => by
  have hl : ts.length = us.length := by simpa using congrArg List.length h
  have h1 := congrArg (fun l => l[i]?) h
  simp only [List.getElem?_map] at h1
  have et : ts[i]? = some (ts[i]?.getD noLg) := by rw [List.getElem?_eq_getElem (by omega)]; rfl
  have eu : us[i]? = some (us[i]?.getD noLg) := by rw [List.getElem?_eq_getElem (by omega)]; rfl
  rw [et, eu] at h1
  simp only [Option.map_some, Option.some.injEq, dLg, Prod.mk.injEq] at h1
  obtain ⟨c1, c2, c3, c4, c5, c6⟩ := h1
  exact ⟨c1, c2, c3, c4, c5, c6, trivial⟩
theorem copies_sameLg {ss ts us : List LgV} {N : Nat} (h1 : ts.length = N) (h2 : us.length = N) (c1 : copiesLgS ss ts) (c2 : copiesLgS ss us) : ∀ i, i < N → sameLg (ts[i]?.getD noLg) (us[i]?.getD noLg) := fun i hi => by
  obtain ⟨a1, a2, a3, a4, a5, a6, -⟩ := c1 i (by omega)
  obtain ⟨b1, b2, b3, b4, b5, b6, -⟩ := c2 i (by omega)
  exact ⟨by rw [a1, b1], by rw [a2, b2], by rw [a3, b3], by show _ = _; rw [a4.2, b4.2], by rw [a5, b5], by show _ = _; rw [a6.2, b6.2], trivial⟩
theorem off_le {f : Nat → LgV} {n : Nat} (h : ∀ j, j < n → (f j).t.n ≤ 1048576 ∧ (f j).u.n ≤ 1048576) : offLg f n ≤ n * 2097156 := by
  induction n with
  | zero => simp [offLg]
  | succ n ih =>
    have := h n (by omega)
    have := ih (fun j hj => h j (by omega))
    simp only [offLg]
    omega

set_option maxRecDepth 100000 in
set_option maxHeartbeats 6400000 in
theorem walk (w : World) (ad : Option Addr) (N cap : Nat) (fs : List LgV) (hl : fs.length = N) (hM : LgSM w ad fs) (hN1 : N ≤ maxLen) (cl : Int) (wx : (Lit.int IntKind.i64 cl).wf = true) :
    Calls Try.prog 3 #[.slice ad N cap, .int .i64 cl] w fun e w' => e = .returned (.bool true) ∧ Below w.heap.size w w' := by
  have HN : Hid (fs.length = N) := hl
  clear hl wx
  go_enter Try.func3, Try.ntmps3
  go_wp2_with fail
  refine (szLgS_any _ _ _ fs _ _ HN.out hM hN1 (by omega) (by omega)).mono ?_
  rintro e w1 ⟨r, rfl, p1, q1, s1, b1⟩
  by_cases hr : r < 0
  · go_wp2
    go_ret
    exact ⟨rfl, b1⟩
  have hr' : 0 ≤ r := by omega
  obtain ⟨hN, hsz⟩ := s1 hr'
  have hF := hM.g hsz
  clear hM s1 hsz p1 q1 hr
  obtain ⟨T, hT⟩ : ∃ T, T = ownD cl fs := ⟨_, rfl⟩
  have HS : Hid (∀ gs, gs.length = N → copiesLgS fs gs → ownD cl gs = T) := fun gs h1 h2 => by rw [hT]; exact ownD_copies cl HN.out h1 h2
  clear hT
  go_wp2_with fail
  refine (toLgS_any _ _ _ fs _ HN.out (hF.below b1) hN).mono ?_
  rintro e w2 ⟨gs, rfl, hg, hc, b2, m2⟩
  have B2 := b1.trans (b2.mono b1.size)
  clear b1 b2
  go_wp2_with fail
  refine (slogof_any _ _ _ gs _ _ hg m2 hN).mono ?_
  rintro e w3 ⟨v3, t3, bs3, ds3, rfl, n3, j3, x3⟩
  rw [HS.out gs hg hc] at x3
  obtain ⟨n, hn3⟩ : ∃ n, t3.length = n := ⟨_, rfl⟩
  have hnN : n ≤ 1048576 := by omega
  obtain ⟨a3, G3, c3, rfl, l3, -⟩ := j3.lies hn3
  have g3 : LgSG w3 a3 t3 := l3.sg hn3
  have HN3 : Hid (t3.length = n) := hn3
  have HX3 : Hid (t3.map dLg = T) := x3
  have B3 := B2.trans (j3.b.mono B2.size)
  have V3 : Below w3.heap.size w3 w3 := Below.refl _ _
  have zw3 := B3.size
  clear j3 l3 B2 m2 hc hg n3 x3 hn3
  clear gs
  go_wp2_with fail
  refine (toLgS_any _ _ _ fs _ HN.out (hF.below B3) hN).mono ?_
  rintro e w4 ⟨gs, rfl, hg, hc, b4, m4⟩
  have HG : Hid (gs.length = N) := hg
  have HC : Hid (copiesLgS fs gs) := hc
  have l34 := m4.lt
  have B4 := B3.trans (b4.mono B3.size)
  have V4 := V3.trans (b4.mono V3.size)
  have M4 : MLg w4 w3.heap.size N gs := m4
  have U4 : Below w4.heap.size w4 w4 := Below.refl _ _
  clear b4 B3 hg hc V3
  go_wp2_with fail
  refine (ilogof_any _ _ _ gs _ _ HG.out m4 hN).mono ?_
  rintro e w5 ⟨v5, t5, bs5, ds5, rfl, n5, j5, x5⟩
  rw [HS.out gs HG.out HC.out] at x5
  have hn5 : t5.length = n := by
    have h1 := congrArg List.length x5
    have h2 := congrArg List.length HX3.out
    rw [List.length_map] at h1 h2
    rw [h1, ← h2]; exact HN3.out
  have HSM : Hid (∀ i, i < n → sameLg (t5[i]?.getD noLg) (t3[i]?.getD noLg)) := fun i hi => same_of_map (x5.trans HX3.out.symm) i (by omega)
  obtain ⟨a5, G5, c5, rfl, L5, hG5, hb5, hd5⟩ := j5.lies hn5
  have hoff : (1 : Int) + offLg (fun i => t5[i]?.getD noLg) n ≤ 100000000000000 := by
    have := off_le (f := fun i => t5[i]?.getD noLg) (n := n) (fun j hj => ⟨(L5.l j hj).2.2, (L5.u j hj).2.2⟩)
    omega
  obtain ⟨FO, hFO⟩ : ∃ F : Int, F = 1 + offLg (fun i => t5[i]?.getD noLg) n := ⟨_, rfl⟩
  have HFO : Hid _ := hFO
  have hFO0 : ¬ (FO < 0) := by omega
  have hOFF : Hid _ := hoff
  have HN5 : Hid (t5.length = n) := hn5
  have b5 := j5.b
  have B5 := B4.trans (b5.mono B4.size)
  have V5 := V4.trans (b5.mono V4.size)
  have m5 := m4.below b5
  have z5 := b5.size
  have U5 := U4.trans (b5.mono U4.size)
  have HB5 : Hid _ := hb5
  have HD5 : Hid _ := hd5
  have HG5 : Hid _ := hG5
  clear b5 B4 m4 V4 j5 x5 n5 hn5 hFO hoff hb5 hd5 hG5
  go_wp2_with fail
  refine (eqLgS_same _ _ _ _ _ t5 t3 _ HN5.out HN3.out (L5.sg HN5.out) (g3.below V5) hnN HSM.out).mono ?_
  rintro e w6 ⟨rfl, b6⟩
  have B6 := B5.trans (b6.mono B5.size)
  have V6 := V5.trans (b6.mono V5.size)
  have m6 := m5.below b6
  have L6 := L5.below b6
  have z6 := b6.size
  have U6 := U5.trans (b6.mono U5.size)
  clear b6 B5 V5 m5 L5
  go_wp2_with fail
  refine (toLgS_any _ _ _ fs _ HN.out (hF.below B6) hN).mono ?_
  rintro e w7 ⟨gs2, rfl, hg2, hc2, b7, k7⟩
  have B7 := B6.trans (b7.mono B6.size)
  have V7 := V6.trans (b7.mono V6.size)
  have m7 := m6.below b7
  have L7 := L6.below b7
  have z7 := b7.size
  have U7 := U6.trans (b7.mono U6.size)
  clear b7 B6 V6 m6 L6
  go_wp2_with fail
  refine (eqLgS_same _ _ _ _ _ gs gs2 _ HG.out hg2 m7.g k7.g hN (copies_sameLg HG.out hg2 HC.out hc2)).mono ?_
  rintro e w8 ⟨rfl, b8⟩
  have B8 := B7.trans (b8.mono B7.size)
  have V8 := V7.trans (b8.mono V7.size)
  have L8 := L7.below b8
  have z8 := b8.size
  have U8 := U7.trans (b8.mono U7.size)
  clear b8 B7 V7 m7 L7 k7 hg2 hc2
  go_wp2_with fail
  refine (markMLg_any _ _ _ w3.heap.size gs _ w4 _ M4 (fun _ => False) 0 (Mkd.below U8) (fun h => h) HG.out hN (Nat.le_refl _) (by omega) (by omega)).mono ?_
  rintro e w9 ⟨r1, rfl, r10, r11, -, t9⟩
  have B9 := B8.trans (t9.below B8.size (fun k hk => by have hk : w3.heap.size ≤ k ∧ k < w4.heap.size := hk; omega))
  have V9 := V8.trans (t9.below V8.size (fun k hk => hk.1))
  have L9 := L8.touch t9 (fun h0 hk => by have hk : w3.heap.size ≤ G5 ∧ G5 < w4.heap.size := hk; have := HG5.out h0; omega) (fun j hj h0 hk => by have hk : w3.heap.size ≤ bs5 j ∧ bs5 j < w4.heap.size := hk; have := HB5.out j hj h0; omega) (fun j hj h0 hk => by have hk : w3.heap.size ≤ ds5 j ∧ ds5 j < w4.heap.size := hk; have := HD5.out j hj h0; omega)
  have z9 := t9.size
  have hr1 : ¬ r1 < 0 := by omega
  clear B8 V8 L8 t9 r11
  go_wp2_with fail
  refine (eqLgS_same _ _ _ _ _ t5 t3 _ HN5.out HN3.out (L9.sg HN5.out) (g3.below V9) hnN HSM.out).mono ?_
  rintro e wa ⟨rfl, ba⟩
  have Ba := B9.trans (ba.mono B9.size)
  have Va := V9.trans (ba.mono V9.size)
  have La := L9.below ba
  clear ba B9 V9 L9
  go_wp2_with fail
  refine (markLgL_any _ _ _ _ (fun i => t5[i]?.getD noLg) bs5 ds5 _ _ La hnN (by omega) hOFF.out).mono ?_
  rintro e wb ⟨rfl, tb, Lb⟩
  have hlow : Hid (∀ k, ((0 < n ∧ k = G5) ∨ (∃ j, j < n ∧ 0 < (t5[j]?.getD noLg).t.n ∧ k = bs5 j) ∨ ∃ j, j < n ∧ 0 < (t5[j]?.getD noLg).u.n ∧ k = ds5 j) → w4.heap.size ≤ k) := fun k hk => by
    rcases hk with ⟨h0, rfl⟩ | ⟨j, hj, h0, rfl⟩ | ⟨j, hj, h0, rfl⟩
    · exact HG5.out h0
    · exact HB5.out j hj h0
    · exact HD5.out j hj h0
  have Bb := Ba.trans (tb.below Ba.size (fun k hk => by have := hlow.out k hk; omega))
  have Vb := Va.trans (tb.below Va.size (fun k hk => by have := hlow.out k hk; omega))
  clear Ba Va La tb
  rw [← HFO.out]
  go_wp2_with fail
  refine (heldLgL_any _ _ _ _ (fun i => t5[i]?.getD noLg) bs5 ds5 _ _ Lb hnN (by omega) hOFF.out).mono ?_
  rintro e wc' ⟨rfl, rfl⟩
  rw [← HFO.out]
  go_wp2_with fail
  refine (toLgS_any _ _ _ fs _ HN.out (hF.below Bb) hN).mono ?_
  rintro e wd ⟨gs2, rfl, hg2, hc2, bd, kd⟩
  have Bd := Bb.trans (bd.mono Bb.size)
  have Vd := Vb.trans (bd.mono Vb.size)
  have Ld := Lb.below bd
  clear bd Bb Vb Lb
  go_wp2_with fail
  refine (ilogof_any _ _ _ gs2 _ _ hg2 kd hN).mono ?_
  rintro e we ⟨ve, te, bse, dse, rfl, ne, je, xe⟩
  rw [HS.out gs2 hg2 hc2] at xe
  have hne : te.length = n := by
    have h1 := congrArg List.length xe
    have h2 := congrArg List.length HX3.out
    rw [List.length_map] at h1 h2
    rw [h1, ← h2]; exact HN3.out
  have HSE : Hid (∀ i, i < n → sameLg (te[i]?.getD noLg) (t3[i]?.getD noLg)) := fun i hi => same_of_map (xe.trans HX3.out.symm) i (by omega)
  obtain ⟨ae, Ge, ce, rfl, Le, -⟩ := je.lies hne
  have HNE : Hid (te.length = n) := hne
  have be := je.b
  have Be := Bd.trans (be.mono Bd.size)
  have Ve := Vd.trans (be.mono Vd.size)
  have Le2 := Ld.below be
  clear be Bd Vd Ld kd je xe ne hne
  go_wp2_with fail
  refine (eqLgS_same _ _ _ _ _ te t3 _ HNE.out HN3.out (Le.sg HNE.out) (g3.below Ve) hnN HSE.out).mono ?_
  rintro e wf ⟨rfl, bf⟩
  have Bf := Be.trans (bf.mono Be.size)
  have Lf := Le2.below bf
  clear bf Be Ve Le Le2
  go_wp2_with fail
  refine (heldLgL_any _ _ _ _ (fun i => t5[i]?.getD noLg) bs5 ds5 _ _ Lf hnN (by omega) hOFF.out).mono ?_
  rintro e wg ⟨rfl, rfl⟩
  rw [← HFO.out]
  go_wp2
  go_ret
  exact ⟨rfl, Bf⟩

/-! ### The row's step -/
set_option maxRecDepth 100000 in
theorem lifted (os : Os) (started : os.Started) (H : Type) (enc : TypeId × Value → H) :
    ReturnsInHanded {} Try.checked os 3 .any (Rows.fnExactLogOfSpec.pre6 enc Try.prog Try.f3 Rows.fnExactLogOfRow.domain false) (Rows.fnExactLogOfSpec.post enc Try.prog Try.f3 false true false false) := by
  refine returnsInHanded_of_change (C := Try.checked) own started (by kernel_rfl) Try.func3
    (ChangeSpec.witness6 (enc := enc) (C := Try.checked) false ⟨#[], #[.slice none 0 0, .int .i64 0], []⟩ 8 (by kernel_rfl) (by kernel_rfl) (by kernel_rfl) (by kernel_rfl)) ?_
  intro W base args ds gs before hval0 hW hcnd _
  have hval : ∀ (j : Nat) t v, Try.f3.params[j]? = some t → args[j]? = some v → Value.okWide Try.prog W .any base t v := hval0
  have hW' := hW
  obtain ⟨p, q, hA0, hV, rfl, hfz, hnd⟩ := hW
  have hA : DataW.TrodAll enc Try.prog W 0 (fun _ => true) true Try.f3.params.toList args.toList ds p := hA0
  rw [Try.params3] at hA hval
  obtain ⟨v0, vs0, d0, ds0, p0, q0, hargs, rfl, rfl, h0, r0⟩ := trodAll_cons hA
  obtain ⟨v1, vs1, d1, ds1, p1, q1, rfl, rfl, rfl, h1, r1⟩ := trodAll_cons r0
  obtain ⟨rfl, rfl, rfl⟩ := trodAll_nil r1
  obtain rfl : args = #[v0, v1] := by cases args; simp_all
  obtain ⟨rfl, rfl⟩ := trodVars_none hV
  have k0 := h0
  have lt0 : ∀ x ∈ p0, x.block < W.heap.size := by obtain ⟨m, hm⟩ := k0; exact DataW.trod_lt m _ _ _ hm
  obtain ⟨za0, zn0, zc0, rfl⟩ := okWide_slice Try.underlying22 (hval 0 22 v0 rfl rfl)
  obtain ⟨m0, hm0⟩ := h0
  obtain ⟨a0, n0, cap0, fs0, ev0, hl0, hF0, hn0⟩ := open_LgS (by simpa [Value.cells] using hm0)
  simp only [Value.slice.injEq] at ev0
  obtain ⟨rfl, rfl, rfl⟩ := ev0
  have k1 := h1
  have lt1 : ∀ x ∈ p1, x.block < W.heap.size := by obtain ⟨m, hm⟩ := k1; exact DataW.trod_lt m _ _ _ hm
  obtain ⟨x1, rfl, wx1⟩ := open_numT h1 (hval 1 3 v1 rfl rfl)
  clear hA0 hval0
  refine (walk W za0 zn0 zc0 fs0 hl0 hF0 hn0 x1 wx1).mono fun e W' ⟨he, bel⟩ => ?_
  subst he
  exact ⟨_, rfl, _, _, _, [], _, [], hW', trodAll_mk1 (shut_bool Try.underlying4 _), (trodAll_cons_mk (Below.trod laidOut (by kernel_rfl) (of_decide_eq_true (by kernel_rfl)) k0 bel lt0) (trodAll_cons_mk (Below.trod laidOut (by kernel_rfl) (of_decide_eq_true (by kernel_rfl)) k1 bel lt1) trodAll_mk0)), rfl, bel.frame _, fun h => by cases h⟩

theorem over : Rows.fnExactLogOfRow.holds Try.pinned (OpenSpec.ofChange Rows.fnExactLogOfSpec) :=
  OpenClaim.holds_of_wide 3 Try.f3 rfl rfl rfl rfl rfl rfl rfl ⟨rfl, rfl, rfl, rfl, rfl⟩ rfl rfl rfl rfl rfl (by kernel_rfl) Try.func3 (by kernel_rfl)
    (of_decide_eq_true (by kernel_rfl)) (by unfold Func.isWrapper; first | (rw [if_pos (by decide +kernel)]; kernel_rfl) | (rw [if_neg (by decide +kernel)]; exact ⟨rfl, rfl⟩))
    (fun os started H enc _ => lifted os started H enc)

end Go.Proofs.Ytgiemeiilagfeaa.fnExactLogOf
namespace Go.Proofs.Ytgiemeiilagfeaa
/-- The statement. -/
theorem fnExactLogOf_holds : Rows.FnExactLogOfSaid := fnExactLogOf.over
#print axioms fnExactLogOf_holds
end Go.Proofs.Ytgiemeiilagfeaa
