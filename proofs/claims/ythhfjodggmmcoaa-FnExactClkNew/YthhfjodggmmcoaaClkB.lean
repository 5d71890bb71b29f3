/-
  Clerks with nothing that waits, and nothing told: held against another, marked, looked up again. No more than three pots, four clients and three sites.
-/
import Derived.Test.YthhfjodggmmcoaaClkA
namespace Go.Proofs.Ythhfjodggmmcoaa
open Go.RowKit
set_option linter.unusedVariables false
set_option maxRecDepth 100000

/-- What a clerk holds, in memory of its own. -/
structure ClkX (W : World) (ba : Option Addr) (B1 bn : Nat) (Bs : List Int) (da : Option Addr) (B2 dn : Nat) (f : Nat → Int × Int) (ga : Option Addr) (B3 gn : Nat) (g : Nat → Bool) : Prop where
  o : OwnX W ba B1 bn Bs
  d : DX W da B2 dn f
  g : GX W ga B3 gn g
  n12 : 0 < bn → 0 < dn → B1 ≠ B2
  n13 : 0 < bn → 0 < gn → B1 ≠ B3
  n23 : 0 < dn → 0 < gn → B2 ≠ B3
  z1 : bn ≤ 3
  z2 : dn ≤ 4
  z3 : gn ≤ 3
theorem ClkX.touch {S : Nat → Prop} {W W' : World} {ba : Option Addr} {B1 bn : Nat} {Bs : List Int} {da : Option Addr} {B2 dn : Nat} {f : Nat → Int × Int} {ga : Option Addr} {B3 gn : Nat} {g : Nat → Bool} (h : ClkX W ba B1 bn Bs da B2 dn f ga B3 gn g) (t : Touch S W W') (h1 : 0 < bn → ¬ S B1) (h2 : 0 < dn → ¬ S B2) (h3 : 0 < gn → ¬ S B3) : ClkX W' ba B1 bn Bs da B2 dn f ga B3 gn g :=
  ⟨h.o.touch t h1, h.d.touch t h2, h.g.touch t h3, h.n12, h.n13, h.n23, h.z1, h.z2, h.z3⟩
theorem ClkX.below {W W' : World} {ba : Option Addr} {B1 bn : Nat} {Bs : List Int} {da : Option Addr} {B2 dn : Nat} {f : Nat → Int × Int} {ga : Option Addr} {B3 gn : Nat} {g : Nat → Bool} (h : ClkX W ba B1 bn Bs da B2 dn f ga B3 gn g) (b : Below W.heap.size W W') : ClkX W' ba B1 bn Bs da B2 dn f ga B3 gn g :=
  h.touch (S := fun _ => False) (Touch.of b) (fun _ h => h) (fun _ h => h) (fun _ h => h)

set_option maxHeartbeats 3200000 in
theorem eqClk_same (u : Bool) (r : Int) (ba : Option Addr) (B1 bn bc : Nat) (Bs : List Int) (da : Option Addr) (B2 dn dc : Nat) (f : Nat → Int × Int) (ga : Option Addr) (B3 gn gc : Nat) (g : Nat → Bool) (ba' : Option Addr) (B1' bc' : Nat) (da' : Option Addr) (B2' dc' : Nat) (ga' : Option Addr) (B3' gc' : Nat) (w : World)
    (h : ClkX w ba B1 bn Bs da B2 dn f ga B3 gn g) (h' : ClkX w ba' B1' bn Bs da' B2' dn f ga' B3' gn g) :
    Calls Try.prog 13 #[clkV u r ba bn bc da dn dc ga gn gc, clkV u r ba' bn bc' da' dn dc' ga' gn gc'] w fun e w' => e = .returned (.bool true) ∧ Below w.heap.size w w' := by
  have hu : (u != u) = false := by cases u <;> rfl
  have hr : (r != r) = false := by simp
  have HB := eqB_refl Bs
  have z1 := h.z1
  have z3 := h.z3
  have n0 := (Cel.new w [.bool u, .int .i64 r, .slice ba bn bc, .slice da dn dc, .slice none 0 0, .slice ga gn gc] 31).alloc (.cells #[.bool u, .int .i64 r, .slice ba' bn bc', .slice da' dn dc', .slice none 0 0, .slice ga' gn gc'] 31)
  have m0 := Cel.new (w.alloc (.cells #[.bool u, .int .i64 r, .slice ba bn bc, .slice da dn dc, .slice none 0 0, .slice ga gn gc] 31)) [.bool u, .int .i64 r, .slice ba' bn bc', .slice da' dn dc', .slice none 0 0, .slice ga' gn gc'] 31
  rw [World.size_alloc] at m0
  have B0 : Below w.heap.size w ((w.alloc (.cells #[.bool u, .int .i64 r, .slice ba bn bc, .slice da dn dc, .slice none 0 0, .slice ga gn gc] 31)).alloc (.cells #[.bool u, .int .i64 r, .slice ba' bn bc', .slice da' dn dc', .slice none 0 0, .slice ga' gn gc'] 31)) := ((Below.refl _ _).alloc (Nat.le_refl _) _).alloc (by simp) _
  go_enter Try.func13, Try.ntmps13
  go_wp2_with fail
  refine (eq_any _ _ _ _ _ _ Bs Bs _ (h.below B0).o.ints (h'.below B0).o.ints (by omega) (by omega)).mono ?_
  rintro e w1 ⟨rfl, b1⟩
  rw [HB]
  have n1 := n0.below b1
  have m1 := m0.below b1
  have B1 := B0.trans (b1.mono B0.size)
  clear n0 m0 b1 B0
  obtain ⟨c0, c1, c2, c3, c4, c5⟩ := n1.six6
  obtain ⟨d0, d1, d2, d3, d4, d5⟩ := m1.six6
  go_wp2_with fail
  refine (eqDS_same _ _ _ _ _ _ _ f _ (h.below B1).d (h'.below B1).d h.z2).mono ?_
  rintro e w2 ⟨rfl, b2⟩
  have n2 := n1.below b2
  have m2 := m1.below b2
  have B2 := B1.trans (b2.mono B1.size)
  clear n1 m1 b2 B1 c0 c1 c2 c3 c4 c5 d0 d1 d2 d3 d4 d5
  obtain ⟨c0, c1, c2, c3, c4, c5⟩ := n2.six6
  obtain ⟨d0, d1, d2, d3, d4, d5⟩ := m2.six6
  go_wp2_with fail
  refine (eqCS_none _ _ _ _ _).mono ?_
  rintro e w2' ⟨rfl, rfl⟩
  go_wp2_with fail
  refine (eqGS_same _ _ _ _ _ _ _ g _ (h.below B2).g (h'.below B2).g (by omega)).mono ?_
  rintro e w3 ⟨rfl, b3⟩
  have B3 := B2.trans (b3.mono B2.size)
  go_wp2
  go_ret
  exact ⟨rfl, B3⟩

set_option maxHeartbeats 3200000 in
theorem markClk_any (u : Bool) (r : Int) (ba : Option Addr) (B1 bn bc : Nat) (Bs : List Int) (da : Option Addr) (B2 dn dc : Nat) (f : Nat → Int × Int) (ga : Option Addr) (B3 gn gc : Nat) (g : Nat → Bool) (w : World) (h : ClkX w ba B1 bn Bs da B2 dn f ga B3 gn g) :
    Calls Try.prog 16 #[clkV u r ba bn bc da dn dc ga gn gc, .int .i64 1] w fun e w' => e = .returned (.int .i64 (1 + bn + 2 * dn + gn)) ∧ Touch (fun x => (x = B1 ∧ 0 < bn) ∨ (x = B2 ∧ 0 < dn) ∨ (x = B3 ∧ 0 < gn)) w w' ∧ ClkX w' ba B1 bn (ramp 1 bn) da B2 dn (fun i => (1 + bn + 2 * i, 1 + bn + 2 * i + 1)) ga B3 gn (fun i => thrB (1 + bn + 2 * dn + i)) := by
  obtain ⟨o1, o2, d, n12, n13, n23, z1, z2, z3⟩ := h
  have l1 := o1.lt
  have l2 := o2.lt
  have l3 := d.lt
  have n0 := Cel.new w [.bool u, .int .i64 r, .slice ba bn bc, .slice da dn dc, .slice none 0 0, .slice ga gn gc] 31
  have b0 : Below w.heap.size w (w.alloc (.cells #[.bool u, .int .i64 r, .slice ba bn bc, .slice da dn dc, .slice none 0 0, .slice ga gn gc] 31)) := (Below.refl _ _).alloc (Nat.le_refl _) _
  go_enter Try.func16, Try.ntmps16
  go_wp2_with fail
  refine (markX_any _ _ _ B1 Bs _ _ (o1.below b0) (by omega) (by omega) (by omega)).mono ?_
  rintro e w1 ⟨rfl, t1, p1⟩
  have q1 := (o2.below b0).touch t1 (fun h hh => n12 hh.2 h hh.1.symm)
  have e1 := (d.below b0).touch t1 (fun h hh => n13 hh.2 h hh.1.symm)
  have n1 := n0.touch t1 (fun hh => by have := l1 hh.2; have := hh.1; omega)
  have T1 : Touch (fun x => (x = B1 ∧ 0 < bn) ∨ (x = B2 ∧ 0 < dn) ∨ (x = B3 ∧ 0 < gn)) w w1 := (Touch.of b0).trans (t1.mono fun y hy => Or.inl hy)
  clear t1 n0 b0 o1 o2 d
  obtain ⟨c0, c1, c2, c3, c4, c5⟩ := n1.six6
  go_wp2_with fail
  refine (markDS_any _ B2 _ _ f _ _ q1 z2 (by omega) (by omega)).mono ?_
  rintro e w2 ⟨rfl, t2, q2⟩
  have p2 := p1.touch t2 (fun h hh => n12 h hh.2 hh.1)
  have e2 := e1.touch t2 (fun h hh => n23 hh.2 h hh.1.symm)
  have n2 := n1.touch t2 (fun hh => by have := l2 hh.2; have := hh.1; omega)
  have T2 := T1.trans (t2.mono (T := fun x => (x = B1 ∧ 0 < bn) ∨ (x = B2 ∧ 0 < dn) ∨ (x = B3 ∧ 0 < gn)) fun y hy => Or.inr (Or.inl hy))
  clear t2 n1 q1 e1 p1 T1 c0 c1 c2 c3 c4 c5
  obtain ⟨c0, c1, c2, c3, c4, c5⟩ := n2.six6
  go_wp2_with fail
  refine (markCS_none _ _ _ _).mono ?_
  rintro e w2' ⟨rfl, rfl⟩
  go_wp2_with fail
  refine (markGS_any _ B3 _ _ g _ _ e2 (by omega) (by omega) (by omega)).mono ?_
  rintro e w3 ⟨rfl, t3, e3⟩
  have p3 := p2.touch t3 (fun h hh => n13 h hh.2 hh.1)
  have q3 := q2.touch t3 (fun h hh => n23 h hh.2 hh.1)
  have T3 := T2.trans (t3.mono (T := fun x => (x = B1 ∧ 0 < bn) ∨ (x = B2 ∧ 0 < dn) ∨ (x = B3 ∧ 0 < gn)) fun y hy => Or.inr (Or.inr hy))
  clear t3 n2 e2 p2 q2 T2 c0 c1 c2 c3 c4 c5
  go_wp2
  go_ret
  exact ⟨rfl, T3, p3, q3, e3, n12, n13, n23, z1, z2, z3⟩

set_option maxHeartbeats 3200000 in
theorem heldClk_any (u : Bool) (r : Int) (ba : Option Addr) (B1 bn bc : Nat) (da : Option Addr) (B2 dn dc : Nat) (ga : Option Addr) (B3 gn gc : Nat) (w : World) (h : ClkX w ba B1 bn (ramp 1 bn) da B2 dn (fun i => (1 + bn + 2 * i, 1 + bn + 2 * i + 1)) ga B3 gn (fun i => thrB (1 + bn + 2 * dn + i))) :
    Calls Try.prog 17 #[clkV u r ba bn bc da dn dc ga gn gc, .int .i64 1] w fun e w' => e = .returned (.int .i64 (1 + bn + 2 * dn + gn)) ∧ Below w.heap.size w w' := by
  obtain ⟨o1, o2, d, n12, n13, n23, z1, z2, z3⟩ := h
  have n0 := Cel.new w [.bool u, .int .i64 r, .slice ba bn bc, .slice da dn dc, .slice none 0 0, .slice ga gn gc] 31
  have b0 : Below w.heap.size w (w.alloc (.cells #[.bool u, .int .i64 r, .slice ba bn bc, .slice da dn dc, .slice none 0 0, .slice ga gn gc] 31)) := (Below.refl _ _).alloc (Nat.le_refl _) _
  have p1 : 0 ≤ 1 + (bn : Int) := by omega
  have p2 : 0 ≤ 1 + (bn : Int) + 2 * dn := by omega
  have p3 : 0 ≤ 1 + (bn : Int) + 2 * dn + gn := by omega
  obtain ⟨c0, c1, c2, c3, c4, c5⟩ := n0.six6
  have i1 := (o1.below b0).ints
  have d2 := o2.below b0
  have d' := d.below b0
  clear o1 o2 d n0
  go_enter Try.func17, Try.ntmps17
  go_upto_region 1 with fail
  generalize (w.alloc (.cells #[.bool u, .int .i64 r, .slice ba bn bc, .slice da dn dc, .slice none 0 0, .slice ga gn gc] 31)) = w0 at *
  go_wp2_with fail
  refine (held_any _ _ _ _ _ i1 (by omega) (by omega) (by omega)).mono ?_
  rintro e w1 ⟨rfl, rfl⟩
  go_wp2_with fail
  refine (heldDS_any _ B2 _ _ _ _ d2 z2 (by omega) (by omega)).mono ?_
  rintro e w1 ⟨rfl, rfl⟩
  go_wp2_with fail
  refine (heldCS_none _ _ _ _).mono ?_
  rintro e w1 ⟨rfl, rfl⟩
  go_wp2_with fail
  refine (heldGS_any _ B3 _ _ _ _ d' (by omega) (by omega) (by omega)).mono ?_
  rintro e w1 ⟨rfl, rfl⟩
  go_wp2
  go_ret
  exact ⟨rfl, b0⟩

end Go.Proofs.Ythhfjodggmmcoaa
