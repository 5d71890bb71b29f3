/-
  For all slices of slices of lines FnExactCatPins returns true, and they read behind the call as they did. No condition.
-/
import Derived.Test.YtomlnlcgfdojnaaPackI
namespace Go.Proofs.Ytomlnlcgfdojnaa.fnExactCatPins
open Go.ChangeShapes Go.WideShapes Go.ChangeAt Go.RowKit
set_option linter.unusedVariables false

theorem BA.touch {S : Nat → Prop} {W W' : World} {G n : Nat} {f : Nat → Bool} (h : BA W (some ⟨G, 0, none⟩) n f) (t : Touch S W W') (hn : 0 < n → ¬ S G) : BA W' (some ⟨G, 0, none⟩) n f := fun j hj => by
  obtain ⟨b, off, e, hc⟩ := h j hj
  cases e
  exact ⟨G, 0, rfl, by rw [World.cell?_of_block (t.block G (block_lt hc) (hn (by omega)))]; exact hc⟩
theorem BA.lt {W : World} {G n : Nat} {f : Nat → Bool} (h : BA W (some ⟨G, 0, none⟩) n f) (hn : 0 < n) : G < W.heap.size := by
  obtain ⟨b, off, e, hc⟩ := h 0 hn
  cases e
  exact block_lt hc
/-- The program's answer, in memory of its own. -/
def UB (W : World) (a : Option Addr) (lo : Nat) (v : Bool) (R : Nat → Bool) : Prop := v = false ∨ (v = true ∧ ∃ G, a = some ⟨G, 0, none⟩ ∧ lo ≤ G ∧ OwnBB W G R)
theorem UB.below {W W' : World} {a : Option Addr} {lo : Nat} {v : Bool} {R : Nat → Bool} (h : UB W a lo v R) (b : Below W.heap.size W W') : UB W' a lo v R := by
  rcases h with h | ⟨h, G, e, hl, o⟩
  · exact Or.inl h
  · exact Or.inr ⟨h, G, e, hl, o.below b⟩
theorem UB.touch {S : Nat → Prop} {W W' : World} {a : Option Addr} {lo : Nat} {v : Bool} {R : Nat → Bool} (h : UB W a lo v R) (t : Touch S W W') (hs : ∀ k, S k → k < lo) : UB W' a lo v R := by
  rcases h with h | ⟨h, G, e, hl, o⟩
  · exact Or.inl h
  · exact Or.inr ⟨h, G, e, hl, Cel.touch o t (fun hh => by have := hs _ hh; omega)⟩
theorem UB.ba {W : World} {a : Option Addr} {lo : Nat} {v : Bool} {R : Nat → Bool} (h : UB W a lo v R) : BA W a (lenB v) R := by
  rcases h with rfl | ⟨rfl, G, rfl, hl, o⟩
  · exact BA.none
  · exact o.ba
theorem markUB (a : Option Addr) (cap lo : Nat) (v : Bool) (R : Nat → Bool) (W : World) (h : UB W a lo v R) :
    Calls Try.prog 20 #[.slice a (lenB v) cap, .int .i64 1] W fun e W' => e = .returned (.int .i64 (1 + (lenB v : Int))) ∧ Touch (fun x => lo ≤ x) W W' ∧ UB W' a lo v rampB := by
  rcases h with rfl | ⟨rfl, G, rfl, hl, o⟩
  · refine (markBS_none a cap W).mono ?_
    rintro e W' ⟨rfl, rfl⟩
    exact ⟨rfl, Touch.refl _ _, Or.inl rfl⟩
  · refine (markBS_three G cap R W o).mono ?_
    rintro e W' ⟨rfl, t, o'⟩
    exact ⟨rfl, t.mono (fun k hk => by omega), Or.inr ⟨rfl, G, rfl, hl, o'⟩⟩

set_option maxRecDepth 100000 in
set_option maxHeartbeats 6400000 in
theorem walk (w : World) (ad : Option Addr) (N cap : Nat) (ss : List L2V) (hl : ss.length = N) (hM : LSM w ad ss) (hN1 : N ≤ maxLen) :
    Calls Try.prog 6 #[.slice ad N cap] w fun e w' => e = .returned (.bool true) ∧ Below w.heap.size w w' := by
  have HN : Hid (ss.length = N) := hl
  clear hl
  go_enter Try.func6, Try.ntmps6
  go_wp2_with fail
  refine (szL2S_any _ _ _ ss _ _ HN.out hM hN1 (by omega) (by omega)).mono ?_
  rintro e w1 ⟨r, rfl, p1, q1, s1, b1⟩
  by_cases hr : r < 0
  · go_wp2
    go_ret
    exact ⟨rfl, b1⟩
  have hr' : 0 ≤ r := by omega
  obtain ⟨hN, hsz⟩ := s1 hr'
  have hF := hM.g hsz
  clear hM s1 hsz p1 q1 hr
  obtain ⟨v, hv⟩ : ∃ v, v = catB N ss := ⟨_, rfl⟩
  obtain ⟨R, hR⟩ : ∃ R, R = pinsA ss := ⟨_, rfl⟩
  have same : ∀ gs, gs.length = N → copiesL2S ss gs → catB N gs = v ∧ pinsA gs = R := fun gs h1 h2 => ⟨by rw [hv]; exact copies_catP (by rw [h1, HN.out]) h2, by rw [hR, pins_copies (by rw [h1, HN.out]) h2]⟩
  have HS : Hid _ := same
  clear same hv hR
  have n3 := lenB_le v
  have nn : ¬ (1 + (lenB v : Int) < 0) := by omega
  go_wp2_with fail
  refine (toL2S_any _ _ _ ss _ HN.out (hF.below b1) hN).mono ?_
  rintro e w2 ⟨gs, rfl, hg, hc, b2, m2⟩
  have B2 := b1.trans (b2.mono b1.size)
  clear b1 b2
  go_wp2_with fail
  refine (scatpins_at v R _ _ _ gs _ hg m2.g hN (HS.out gs hg hc).1 (HS.out gs hg hc).2).mono ?_
  rintro e w3 ⟨G0, c0, rfl, b3, a3⟩
  have sz3 : w.heap.size ≤ w3.heap.size := (B2.trans (b3.mono B2.size)).size
  have lt3 : Hid (0 < lenB v → G0 < w3.heap.size) := fun h => BA.lt a3 h
  have B3 := B2.trans (b3.mono B2.size)
  clear b3 B2 m2 hc hg
  clear gs
  go_wp2_with fail
  refine (toL2S_any _ _ _ ss _ HN.out (hF.below B3) hN).mono ?_
  rintro e w4 ⟨gs, rfl, hg, hc, b4, m4⟩
  have HG : Hid (gs.length = N) := hg
  have HC : Hid (copiesL2S ss gs) := hc
  obtain ⟨cc, cc0, cc1, cc2⟩ := m4.d
  rw [hg] at cc1 cc2
  have HCC : Hid _ := cc2
  have HLE : Hid _ := m4.lens hg
  have l34 := m4.lt
  clear cc2
  have B4 := B3.trans (b4.mono B3.size)
  have a4 := a3.below b4
  clear b4 B3 hg hc a3
  go_wp2_with fail
  refine (icatpins_at v R _ _ _ gs _ HG.out m4.g hN (HS.out gs HG.out HC.out).1 (HS.out gs HG.out HC.out).2).mono ?_
  rintro e w5 ⟨ai, ci, rfl, b5, u5⟩
  have u5 : UB w5 ai w4.heap.size v R := u5
  have B5 := B4.trans (b5.mono B4.size)
  have m5 := m4.below b5
  have a5 := a4.below b5
  have z5 := b5.size
  clear b5 B4 m4 a4
  go_wp2_with fail
  refine (eqBS_same _ _ _ _ _ R _ u5.ba a5 (by omega)).mono ?_
  rintro e w6 ⟨rfl, b6⟩
  have B6 := B5.trans (b6.mono B5.size)
  have m6 := m5.below b6
  have a6 := a5.below b6
  have u6 := u5.below b6
  have z6 := b6.size
  clear b6 B5 m5 a5 u5
  go_wp2_with fail
  refine (toL2S_any _ _ _ ss _ HN.out (hF.below B6) hN).mono ?_
  rintro e w7 ⟨gs2, rfl, hg2, hc2, b7, k7⟩
  have B7 := B6.trans (b7.mono B6.size)
  have m7 := m6.below b7
  have a7 := a6.below b7
  have u7 := u6.below b7
  have z7 := b7.size
  clear b7 B6 m6 a6 u6
  go_wp2_with fail
  refine (eqL2S_same _ _ _ _ _ gs gs2 _ HG.out hg2 m7.g k7.g hN (copies_sameP HG.out hg2 HC.out hc2 HLE.out)).mono ?_
  rintro e w8 ⟨rfl, b8⟩
  have B8 := B7.trans (b8.mono B7.size)
  have m8 := m7.below b8
  have a8 := a7.below b8
  have u8 := u7.below b8
  have z8 := b8.size
  clear b8 B7 m7 a7 u7 k7 hg2 hc2
  go_wp2_with fail
  refine (markL2_any _ _ _ gs cc _ _ m8 HG.out hN cc0 HCC.out (by omega) (by omega)).mono ?_
  rintro e w9 ⟨r1, rfl, r10, r11, t9⟩
  have B9 := B8.trans (t9.below B8.size (fun k hk => by omega))
  have a9 := BA.touch a8 t9 (fun h hh => by have := lt3.out h; omega)
  have u9 := u8.touch t9 (fun k hk => by omega)
  have z9 := t9.size
  have hr1 : ¬ r1 < 0 := by omega
  clear B8 a8 u8 m8 t9 r11
  go_wp2_with fail
  refine (eqBS_same _ _ _ _ _ R _ u9.ba a9 (by omega)).mono ?_
  rintro e wa ⟨rfl, ba⟩
  have Ba := B9.trans (ba.mono B9.size)
  have aa := a9.below ba
  have ua := u9.below ba
  have za := ba.size
  clear ba B9 a9 u9
  go_wp2_with fail
  refine (markUB ai _ _ v R _ ua).mono ?_
  rintro e wb ⟨rfl, tb, ub⟩
  have Bb := Ba.trans (tb.below Ba.size (fun k hk => by omega))
  have ab := BA.touch aa tb (fun h hh => by have := lt3.out h; omega)
  have zb := tb.size
  clear Ba aa ua tb
  go_wp2_with fail
  refine (heldBS_any ai (lenB v) _ _ ub.ba n3).mono ?_
  rintro e wc' ⟨rfl, rfl⟩
  go_wp2_with fail
  refine (toL2S_any _ _ _ ss _ HN.out (hF.below Bb) hN).mono ?_
  rintro e wd ⟨gs2, rfl, hg2, hc2, bd, kd⟩
  have Bd := Bb.trans (bd.mono Bb.size)
  have ad' := ab.below bd
  have ud := ub.below bd
  clear bd Bb ab ub
  go_wp2_with fail
  refine (icatpins_at v R _ _ _ gs2 _ hg2 kd.g hN (HS.out gs2 hg2 hc2).1 (HS.out gs2 hg2 hc2).2).mono ?_
  rintro e we ⟨aj, cj, rfl, be, ue⟩
  have ue : UB we aj wd.heap.size v R := ue
  have Be := Bd.trans (be.mono Bd.size)
  have ae := ad'.below be
  have ue2 := ud.below be
  clear be Bd ad' ud kd
  go_wp2_with fail
  refine (eqBS_same _ _ _ _ _ R _ ue.ba ae (by omega)).mono ?_
  rintro e wf ⟨rfl, bf⟩
  have Bf := Be.trans (bf.mono Be.size)
  have uf := ue2.below bf
  clear bf Be ae ue ue2
  go_wp2_with fail
  refine (heldBS_any ai (lenB v) _ _ uf.ba n3).mono ?_
  rintro e wg ⟨rfl, rfl⟩
  go_wp2
  go_ret
  exact ⟨rfl, Bf⟩

/-! ### The row's step -/
set_option maxRecDepth 100000 in
theorem lifted (os : Os) (started : os.Started) (H : Type) (enc : TypeId × Value → H) :
    ReturnsInHanded {} Try.checked os 6 .any (Rows.fnExactCatPinsSpec.pre6 enc Try.prog Try.f6 Rows.fnExactCatPinsRow.domain false) (Rows.fnExactCatPinsSpec.post enc Try.prog Try.f6 false true false false) := by
  refine returnsInHanded_of_change (C := Try.checked) own started (by kernel_rfl) Try.func6
    (ChangeSpec.witness6 (enc := enc) (C := Try.checked) false ⟨#[], #[.slice none 0 0], []⟩ 8 (by kernel_rfl) (by kernel_rfl) (by kernel_rfl) (by kernel_rfl)) ?_
  intro W base args ds gs before hval0 hW hcnd _
  have hval : ∀ (j : Nat) t v, Try.f6.params[j]? = some t → args[j]? = some v → Value.okWide Try.prog W .any base t v := hval0
  have hW' := hW
  obtain ⟨p, q, hA0, hV, rfl, hfz, hnd⟩ := hW
  have hA : DataW.TrodAll enc Try.prog W 0 (fun _ => true) true Try.f6.params.toList args.toList ds p := hA0
  rw [Try.params6] at hA hval
  obtain ⟨v0, vs0, d0, ds0, p0, q0, hargs, rfl, rfl, h0, r0⟩ := trodAll_cons hA
  obtain ⟨rfl, rfl, rfl⟩ := trodAll_nil r0
  obtain rfl : args = #[v0] := by cases args; simp_all
  obtain ⟨rfl, rfl⟩ := trodVars_none hV
  have k0 := h0
  have lt0 : ∀ x ∈ p0, x.block < W.heap.size := by obtain ⟨m, hm⟩ := k0; exact DataW.trod_lt m _ _ _ hm
  obtain ⟨a0, n0, cap0, ss0, rfl, hl0, hF0, hn0⟩ := open_LS (hval 0 37 v0 rfl rfl) h0
  clear hA0 hval0
  refine (walk W a0 n0 cap0 ss0 hl0 hF0 hn0).mono fun e W' ⟨he, bel⟩ => ?_
  subst he
  exact ⟨_, rfl, _, _, _, [], _, [], hW', trodAll_mk1 (shut_bool Try.underlying4 _), (trodAll_cons_mk (Below.trod laidOut (by kernel_rfl) (of_decide_eq_true (by kernel_rfl)) k0 bel lt0) trodAll_mk0), rfl, bel.frame _, fun h => by cases h⟩

theorem over : Rows.fnExactCatPinsRow.holds Try.pinned (OpenSpec.ofChange Rows.fnExactCatPinsSpec) :=
  OpenClaim.holds_of_wide 6 Try.f6 rfl rfl rfl rfl rfl rfl rfl ⟨rfl, rfl, rfl, rfl, rfl⟩ rfl rfl rfl rfl rfl (by kernel_rfl) Try.func6 (by kernel_rfl)
    (of_decide_eq_true (by kernel_rfl)) (by unfold Func.isWrapper; first | (rw [if_pos (by decide +kernel)]; kernel_rfl) | (rw [if_neg (by decide +kernel)]; exact ⟨rfl, rfl⟩))
    (fun os started H enc _ => lifted os started H enc)

end Go.Proofs.Ytomlnlcgfdojnaa.fnExactCatPins
namespace Go.Proofs.Ytomlnlcgfdojnaa
/-- The statement. -/
theorem fnExactCatPins_holds : Rows.FnExactCatPinsSaid := fnExactCatPins.over
#print axioms fnExactCatPins_holds
end Go.Proofs.Ytomlnlcgfdojnaa
