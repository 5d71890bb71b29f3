/-
  For every form FnExactCatPart returns true, and the form reads behind the call as it did. No condition.
-/
import Derived.Test.YtmbhcngddpoonaePart
import Derived.Test.YtmbhcngddpoonaeOpen
import Derived.Deep.DeepCutAuto
namespace Go.Proofs.Ytmbhcngddpoonae.fnExactCatPart
open Go.ChangeShapes Go.WideShapes Go.ChangeAt Go.RowKit
set_option linter.unusedVariables false

/-- The law's box, and old memory. -/
structure HB (w : World) (la : List Value) (W : World) : Prop where
  p : Cel W w.heap.size la 24
  b : Below w.heap.size w W
theorem HB.below {w W W' : World} {la : List Value} (h : HB w la W) (b : Below W.heap.size W W') : HB w la W' := ⟨h.p.below b, h.b.trans (b.mono h.b.size)⟩
theorem HB.alloc {w W : World} {la : List Value} (h : HB w la W) (o : Obj) : HB w la (W.alloc o) := h.below ((Below.refl _ _).alloc (Nat.le_refl _) _)
theorem HB.drew {w W : World} {la : List Value} (h : HB w la W) : HB w la W.drew := h.below (Below.refl _ _).drew
theorem HB.touch {S : Nat → Prop} {w W W' : World} {la : List Value} (h : HB w la W) (t : Touch S W W') (hs : ∀ k, S k → w.heap.size < k) : HB w la W' :=
  ⟨h.p.touch t (fun hh => by have := hs _ hh; omega), h.b.trans (t.below h.b.size (fun k hh => by have := hs k hh; omega))⟩
theorem cells3 {w W : World} {a c : Option Addr} {na cap ma cap' : Nat} {KA : Int} (h : HB w [.slice a na cap, .slice c ma cap', .int .i64 KA] W) :
    W.cell? ⟨w.heap.size, 0, none⟩ = some (.slice a na cap) ∧ W.cell? ⟨w.heap.size, 1, none⟩ = some (.slice c ma cap') ∧ W.cell? ⟨w.heap.size, 2, none⟩ = some (.int .i64 KA) :=
  ⟨h.p.cell 0, h.p.cell 1, h.p.cell 2⟩
theorem trio {W : World} {X : Nat} {u v z : Value} {ty : TypeId} (h : Cel W X [u, v, z] ty) : W.cell? ⟨X, 0, none⟩ = some u ∧ W.cell? ⟨X, 1, none⟩ = some v ∧ W.cell? ⟨X, 2, none⟩ = some z := ⟨h.cell 0, h.cell 1, h.cell 2⟩

theorem Blk.touch {S : Nat → Prop} {W W' : World} {B : Nat} {zs : List Int} (h : Blk W B zs) (t : Touch S W W') (hn : ¬ S B) : Blk W' B zs := by
  unfold Blk at *
  rw [t.block B (lt_of_block h) hn]; exact h

/-- What the law holds once all is made: its box, the specification's answer, the copy that was handed in, the program's answer. -/
structure S3 (w : World) (la : List Value) (a0 : Option Addr) (n : Nat) (P : List Int) (X : Nat) (lx : List Value) (G : Nat) (Q : List Int) (W : World) : Prop where
  h : HB w la W
  o : Ints W a0 n P
  x : Cel W X lx 27
  g : Blk W G Q
theorem S3.below {w W W' : World} {la lx : List Value} {a0 : Option Addr} {n X G : Nat} {P Q : List Int} (s : S3 w la a0 n P X lx G Q W) (b : Below W.heap.size W W') : S3 w la a0 n P X lx G Q W' :=
  ⟨s.h.below b, s.o.below b, s.x.below b, s.g.below b⟩
theorem S3.touch {S : Nat → Prop} {w W W' : World} {la lx : List Value} {a0 : Option Addr} {n X G lo : Nat} {P Q : List Int} (s : S3 w la a0 n P X lx G Q W) (t : Touch S W W') (hlo : lo ≤ W.heap.size) (hw : w.heap.size < lo) (hs : ∀ k, S k → lo ≤ k) (hl : ∀ b o, a0 = some ⟨b, o, none⟩ → b < lo) (hx : ¬ S X) (hg : ¬ S G) : S3 w la a0 n P X lx G Q W' :=
  ⟨s.h.touch t (fun k hk => by have := hs k hk; omega), s.o.touch t hlo hs hl, s.x.touch t hx, Blk.touch s.g t hg⟩

set_option maxRecDepth 100000 in
set_option maxHeartbeats 6400000 in
theorem walk (w : World) (a : Option Addr) (na cap : Nat) (c : Option Addr) (ma cap' : Nat) (KA : Int) (CA DA : List Int) (hCA : Ints w a na CA) (hDA : Ints w c ma DA) (hn0 : na ≤ maxLen) (hm0 : ma ≤ maxLen) (wK : (Lit.int .i64 KA).wf = true) :
    Calls Try.prog 3 #[formV a na cap c ma cap' KA] w fun e w' => e = .returned (.bool true) ∧ Below w.heap.size w w' := by
  clear wK
  have g1 := leftOf_ge 1048576 na
  have g2 := leftOf_ge (leftOf 1048576 na) ma
  have n0 : HB w [.slice a na cap, .slice c ma cap', .int .i64 KA] (w.alloc (Obj.cells #[Value.slice a na cap, Value.slice c ma cap', Value.int IntKind.i64 KA] 24)) := ⟨Cel.new w _ _, (Below.refl _ _).alloc (Nat.le_refl _) _⟩
  by_cases h : leftOf (leftOf 1048576 na) ma < 0
  · go_enter Try.func3, Try.ntmps3
    go_wp2_with fail
    refine (szF_any _ _ _ _ _ _ _ _ _ hn0 hm0 (by omega) (by omega)).mono ?_
    rintro e w1 ⟨rfl, b1⟩
    go_wp2
    go_ret
    exact ⟨rfl, (n0.below b1).b⟩
  have l2' := leftOf_le (l := leftOf 1048576 na) (n := ma) (by omega)
  have l1' := leftOf_le (l := 1048576) (n := na) (by omega)
  have hna : na ≤ 1048576 := by omega
  have hma : ma ≤ 1048576 := by omega
  have h' : 0 ≤ leftOf (leftOf 1048576 na) ma := by omega
  have HCA : Hid (CA.length = na) := hCA.1
  have HDA : Hid (DA.length = ma) := hDA.1
  obtain ⟨P, hP⟩ : ∃ P : List Int, P = partL CA := ⟨_, rfl⟩
  have HPL : Hid (P.length = na) := by show P.length = na; rw [hP, part_len, HCA.out]
  have hs : ∀ (w : World) (a : Option Addr) (cap : Nat) (c : Option Addr) (cap' : Nat), Ints w a na CA → Calls Try.prog 8 #[formV a na cap c ma cap' KA] w fun e w' => ∃ a' cap2, e = .returned (.slice a' na cap2) ∧ Below w.heap.size w w' ∧ Ints w' a' na P ∧ (∀ b o, a' = some ⟨b, o, none⟩ → b < w'.heap.size) := by
    intro w a cap c cap' h1; rw [hP]; exact spart_any a na cap c ma cap' KA CA w h1 hna
  have hi : ∀ (w : World) (a : Option Addr) (cap : Nat) (c : Option Addr) (cap' : Nat), Ints w a na CA → Calls Try.prog 10 #[formV a na cap c ma cap' KA] w fun e w' => e = .returned (.slice (some ⟨w.heap.size + 1, 0, none⟩) na na) ∧ Below w.heap.size w w' ∧ Blk w' (w.heap.size + 1) P := by
    intro w a cap c cap' h1; rw [hP]; exact ipart_any a na cap c ma cap' KA CA w h1 hna
  clear hP l1' l2' g1 g2 h
  go_enter Try.func3, Try.ntmps3
  go_wp2_with fail
  refine (szF_any _ _ _ _ _ _ _ _ _ hn0 hm0 (by omega) (by omega)).mono ?_
  rintro e wa ⟨rfl, ba⟩
  have Ha := n0.below ba
  clear n0 ba
  obtain ⟨c0, c1, c2⟩ := cells3 Ha
  go_wp2_with fail
  refine (toF_any _ _ _ _ _ _ _ CA DA _ (hCA.below Ha.b) (hDA.below Ha.b) hna hma).mono ?_
  rintro e wb ⟨E1, E2, rfl, b_b, -, -, f1, f2⟩
  have Hb := Ha.below b_b
  clear c0 c1 c2 Ha b_b
  go_wp2_with fail
  refine (hs _ _ _ _ _ (f1.ints' HCA.out)).mono ?_
  rintro e w1 ⟨a0, cp0, rfl, b1, o1, lo1⟩
  have H1 := Hb.below b1
  have hw1 := H1.p.lt
  clear Hb b1 f1 f2
  obtain ⟨c0, c1, c2⟩ := cells3 H1
  go_wp2_with fail
  refine (toF_any _ _ _ _ _ _ _ CA DA _ (hCA.below H1.b) (hDA.below H1.b) hna hma).mono ?_
  rintro e wx ⟨Y1, Y2, rfl, bx, hy1, hy2, x1, x2⟩
  have Hx := H1.below bx
  have ox := o1.below bx
  have zx := bx.size
  clear H1 o1 bx c0 c1 c2
  go_wp2_with fail
  refine (hi _ _ _ _ _ ((x1.ints' HCA.out).alloc _)).mono ?_
  rintro e w2 ⟨rfl, b2, k2⟩
  rw [World.size_alloc] at k2
  have s2 : S3 w [.slice a na cap, .slice c ma cap', .int .i64 KA] a0 na P wx.heap.size [Value.slice (some ⟨Y1, 0, none⟩) na na, Value.slice (some ⟨Y2, 0, none⟩) ma ma, Value.int IntKind.i64 KA] (wx.heap.size + 1 + 1) P w2 := ⟨(Hx.alloc _).below b2, (ox.alloc _).below b2, (Cel.new wx _ _).below b2, k2⟩
  have y1 := (x1.alloc _).below b2
  have y2 := (x2.alloc _).below b2
  have hY1 := x1.lt
  have hY2 := x2.lt
  have z2 : wx.heap.size + 1 + 1 < w2.heap.size := k2.lt
  have he := eqB_refl P
  have heA := eqF_refl CA DA KA
  clear Hx ox b2 k2 x1 x2
  go_wp2_with fail
  refine (eq_any _ _ _ _ _ _ P P _ (s2.g.ints' HPL.out) s2.o hna hna).mono ?_
  rintro e w3 ⟨rfl, b3⟩
  have s3 := s2.below b3
  have y13 := y1.below b3
  have y23 := y2.below b3
  have z3 := b3.size
  clear s2 b3 y1 y2
  obtain ⟨c0, c1, c2⟩ := cells3 s3.h
  obtain ⟨d0, d1, d2⟩ := trio s3.x
  have i1 := y13.ints' HCA.out
  have i2 := y23.ints' HDA.out
  go_upto_region 10 with fail
  go_cut [31] (fun s wd => s = .bool false ∧ Below w3.heap.size w3 wd)
  case first =>
    go_region_with (first | (go_at_call 9; refine (toF_any _ _ _ _ _ _ _ CA DA _ (by exact hCA.below s3.h.b.drew) (by exact hDA.below s3.h.b.drew) hna hma).mono ?_; rintro e w6 ⟨W1, W2, rfl, b6, ho5, ho6, k5, k6⟩; have b6' := below_of_drew b6; obtain ⟨d3, d4, d5⟩ := trio (s3.x.below b6')) | (go_at_call 12; refine (eqF_any _ _ _ _ _ _ _ CA DA _ _ _ _ _ _ _ CA DA _ (by exact i1.below b6') (by exact i2.below b6') (by exact k5.ints' HCA.out) (by exact k6.ints' HDA.out) hna hma hna hma).mono ?_; rintro e w7 ⟨rfl, b7⟩))
    all_goals
      go_wp2_with fail
      go_meet
      case rel => exact ⟨rfl, b6'.trans (b7.mono b6'.size)⟩
  case rest =>
  obtain ⟨rfl, bd⟩ := hcut
  have s4 := s3.below bd
  have y14 := y13.below bd
  have y24 := y23.below bd
  have z4 := bd.size
  clear c0 c1 c2 d0 d1 d2 i1 i2 bd s3 y13 y23
  obtain ⟨d0, d1, d2⟩ := trio s4.x
  go_wp2_with fail
  refine (markF_any _ _ _ _ _ _ _ Y1 Y2 CA DA _ _ (.inr ⟨rfl, y14⟩) (.inr ⟨rfl, y24⟩) (fun _ _ => by omega) HCA.out HDA.out hna hma (by omega) (by omega)).mono ?_
  rintro e w5 ⟨rfl, t5, -, -⟩
  have s5 := s4.touch t5 (lo := w1.heap.size) (by omega) (by omega) (fun k h => by omega) lo1 (fun h => by omega) (fun h => by omega)
  have z5 := t5.size
  have yA : 0 ≤ (1 : Int) + na + ma := by omega
  have yA' : decide ((1 : Int) + na + ma < 0) = false := by simp; omega
  clear t5 s4 y14 y24 d0 d1 d2
  go_wp2_with fail
  refine (eq_any _ _ _ _ _ _ P P _ (s5.g.ints' HPL.out) s5.o hna hna).mono ?_
  rintro e w6 ⟨rfl, b6⟩
  have s6 := s5.below b6
  have z6 := b6.size
  clear s5 b6
  go_wp2_with fail
  refine (mark_any _ _ _ (wx.heap.size + 1 + 1) P _ _ (.inr ⟨rfl, s6.g⟩) HPL.out hna (by omega) (by omega)).mono ?_
  rintro e w7 ⟨rfl, t7, o7⟩
  have H7 := s6.h.touch t7 (fun k h => by omega)
  have p7 := s6.o.touch t7 (B := w1.heap.size) (by omega) (fun k h => by omega) lo1
  have r7 := o7.ints' (ramp_len _ _)
  have z7 := t7.size
  have y3 : 0 ≤ (1 : Int) + na := by omega
  have y4 : ((1 : Int) + na != 1 + na) = false := by simp
  clear t7 o7 s6
  go_wp2_with fail
  refine (held_any _ _ _ _ _ r7 hna (by omega) (by omega)).mono ?_
  rintro e w8 ⟨rfl, rfl⟩
  obtain ⟨c0, c1, c2⟩ := cells3 H7
  go_wp2_with fail
  refine (toF_any _ _ _ _ _ _ _ CA DA _ (hCA.below H7.b) (hDA.below H7.b) hna hma).mono ?_
  rintro e w9 ⟨F1, F2, rfl, b9, -, -, f1, f2⟩
  have H9 := H7.below b9
  have p9 := p7.below b9
  have r9 := r7.below b9
  clear c0 c1 c2 b9 H7 p7 r7
  go_wp2_with fail
  refine (hi _ _ _ _ _ (f1.ints' HCA.out)).mono ?_
  rintro e w10 ⟨rfl, b10, k10⟩
  have H10 := H9.below b10
  have p10 := p9.below b10
  have r10 := r9.below b10
  clear H9 p9 r9 b10 f1 f2
  go_wp2_with fail
  refine (eq_any _ _ _ _ _ _ P P _ (k10.ints' HPL.out) p10 hna hna).mono ?_
  rintro e w11 ⟨rfl, b11⟩
  have H11 := H10.below b11
  have r11 := r10.below b11
  clear H10 p10 r10 b11 k10
  go_wp2_with fail
  refine (held_any _ _ _ _ _ r11 hna (by omega) (by omega)).mono ?_
  rintro e w12 ⟨rfl, rfl⟩
  go_wp2
  go_ret
  exact ⟨rfl, H11.b⟩

/-! ### The row's step -/
set_option maxRecDepth 100000 in
theorem lifted (os : Os) (started : os.Started) (H : Type) (enc : TypeId × Value → H) :
    ReturnsInHanded {} Try.checked os 3 .any (Rows.fnExactCatPartSpec.pre6 enc Try.prog Try.f3 Rows.fnExactCatPartRow.domain false) (Rows.fnExactCatPartSpec.post enc Try.prog Try.f3 false true false false) := by
  refine returnsInHanded_of_change (C := Try.checked) own started (by kernel_rfl) Try.func3
    (ChangeSpec.witness6 (enc := enc) (C := Try.checked) false ⟨#[], #[.agg #[.slice none 0 0, .slice none 0 0, .int .i64 0]], []⟩ 8 (by kernel_rfl) (by kernel_rfl) (by kernel_rfl) (by kernel_rfl)) ?_
  intro W base args ds gs before hval0 hW hcnd _
  have hval : ∀ (j : Nat) t v, Try.f3.params[j]? = some t → args[j]? = some v → Value.okWide Try.prog W .any base t v := hval0
  have hW' := hW
  obtain ⟨p, q, hA0, hV, rfl, hfz, hnd⟩ := hW
  have hA : DataW.TrodAll enc Try.prog W 0 (fun _ => true) true Try.f3.params.toList args.toList ds p := hA0
  rw [Try.params3] at hA hval
  obtain ⟨v0, vs0, d0, ds0, p0, q0, hargs, rfl, rfl, h0, r0⟩ := trodAll_cons hA
  obtain ⟨rfl, rfl, rfl⟩ := trodAll_nil r0
  obtain rfl : args = #[v0] := by cases args; simp_all
  obtain ⟨rfl, rfl⟩ := trodVars_none hV
  have k0 := h0
  have lt0 : ∀ x ∈ p0, x.block < W.heap.size := by obtain ⟨m, hm⟩ := k0; exact DataW.trod_lt m _ _ _ hm
  obtain ⟨a0, n0, cap0, c0, m0, cap0', K0, C0, D0, rfl, hC0, hD0, hn0, hm0, wK0⟩ := open_form (hval 0 24 v0 rfl rfl) h0
  clear hA0 hval0
  refine (walk W a0 n0 cap0 c0 m0 cap0' K0 C0 D0 hC0 hD0 hn0 hm0 wK0).mono fun e W' ⟨he, bel⟩ => ?_
  subst he
  exact ⟨_, rfl, _, _, _, [], _, [], hW', trodAll_mk1 (shut_bool Try.underlying4 _), (trodAll_cons_mk (Below.trod laidOut (by kernel_rfl) (of_decide_eq_true (by kernel_rfl)) k0 bel lt0) trodAll_mk0), rfl, bel.frame _, fun h => by cases h⟩

theorem over : Rows.fnExactCatPartRow.holds Try.pinned (OpenSpec.ofChange Rows.fnExactCatPartSpec) :=
  OpenClaim.holds_of_wide 3 Try.f3 rfl rfl rfl rfl rfl rfl rfl ⟨rfl, rfl, rfl, rfl, rfl⟩ rfl rfl rfl rfl rfl (by kernel_rfl) Try.func3 (by kernel_rfl)
    (of_decide_eq_true (by kernel_rfl)) (by unfold Func.isWrapper; first | (rw [if_pos (by decide +kernel)]; kernel_rfl) | (rw [if_neg (by decide +kernel)]; exact ⟨rfl, rfl⟩))
    (fun os started H enc _ => lifted os started H enc)

end Go.Proofs.Ytmbhcngddpoonae.fnExactCatPart
namespace Go.Proofs.Ytmbhcngddpoonae
/-- The statement. -/
theorem fnExactCatPart_holds : Rows.FnExactCatPartSaid := fnExactCatPart.over
#print axioms fnExactCatPart_holds
end Go.Proofs.Ytmbhcngddpoonae
