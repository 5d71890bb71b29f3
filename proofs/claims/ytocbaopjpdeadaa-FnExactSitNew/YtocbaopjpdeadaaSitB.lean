/-
  Sites: held against another, marked, looked up again. No more than three pots and four clients.
-/
import Derived.Test.YtocbaopjpdeadaaSitA
namespace Go.Proofs.Ytocbaopjpdeadaa
open Go.RowKit
set_option linter.unusedVariables false
set_option maxRecDepth 100000

/-- What a site holds, in memory of its own. -/
structure SitX (W : World) (ba : Option Addr) (B1 bn : Nat) (Bs : List Int) (aa : Option Addr) (B2 an : Nat) (As : List Int) (da : Option Addr) (B3 dn : Nat) (f : Nat → Int × Int) : Prop where
  o1 : OwnX W ba B1 bn Bs
  o2 : OwnX W aa B2 an As
  d : DX W da B3 dn f
  n12 : 0 < bn → 0 < an → B1 ≠ B2
  n13 : 0 < bn → 0 < dn → B1 ≠ B3
  n23 : 0 < an → 0 < dn → B2 ≠ B3
  z1 : bn ≤ 3
  z2 : an ≤ 3
  z3 : dn ≤ 4
theorem SitX.touch {S : Nat → Prop} {W W' : World} {ba : Option Addr} {B1 bn : Nat} {Bs : List Int} {aa : Option Addr} {B2 an : Nat} {As : List Int} {da : Option Addr} {B3 dn : Nat} {f : Nat → Int × Int} (h : SitX W ba B1 bn Bs aa B2 an As da B3 dn f) (t : Touch S W W') (h1 : 0 < bn → ¬ S B1) (h2 : 0 < an → ¬ S B2) (h3 : 0 < dn → ¬ S B3) : SitX W' ba B1 bn Bs aa B2 an As da B3 dn f :=
  ⟨h.o1.touch t h1, h.o2.touch t h2, h.d.touch t h3, h.n12, h.n13, h.n23, h.z1, h.z2, h.z3⟩
theorem SitX.below {W W' : World} {ba : Option Addr} {B1 bn : Nat} {Bs : List Int} {aa : Option Addr} {B2 an : Nat} {As : List Int} {da : Option Addr} {B3 dn : Nat} {f : Nat → Int × Int} (h : SitX W ba B1 bn Bs aa B2 an As da B3 dn f) (b : Below W.heap.size W W') : SitX W' ba B1 bn Bs aa B2 an As da B3 dn f :=
  h.touch (S := fun _ => False) (Touch.of b) (fun _ h => h) (fun _ h => h) (fun _ h => h)
theorem SitX.alloc {W : World} {ba : Option Addr} {B1 bn : Nat} {Bs : List Int} {aa : Option Addr} {B2 an : Nat} {As : List Int} {da : Option Addr} {B3 dn : Nat} {f : Nat → Int × Int} (h : SitX W ba B1 bn Bs aa B2 an As da B3 dn f) (o : Obj) : SitX (W.alloc o) ba B1 bn Bs aa B2 an As da B3 dn f := h.below ((Below.refl _ _).alloc (Nat.le_refl _) _)

theorem Cel.six6 {w : World} {B : Nat} {x y z u v t' : Value} {t : TypeId} (h : Cel w B [x, y, z, u, v, t'] t) : w.cell? ⟨B, 0, none⟩ = some x ∧ w.cell? ⟨B, 1, none⟩ = some y ∧ w.cell? ⟨B, 2, none⟩ = some z ∧ w.cell? ⟨B, 3, none⟩ = some u ∧ w.cell? ⟨B, 4, none⟩ = some v ∧ w.cell? ⟨B, 5, none⟩ = some t' := ⟨h.cell 0, h.cell 1, h.cell 2, h.cell 3, h.cell 4, h.cell 5⟩

set_option maxHeartbeats 1600000 in
theorem eqSit_same (u v : Bool) (r : Int) (ba : Option Addr) (B1 bn bc : Nat) (Bs : List Int) (aa : Option Addr) (B2 an ac : Nat) (As : List Int) (da : Option Addr) (B3 dn dc : Nat) (f : Nat → Int × Int) (ba' : Option Addr) (B1' bc' : Nat) (aa' : Option Addr) (B2' ac' : Nat) (da' : Option Addr) (B3' dc' : Nat) (w : World)
    (h : SitX w ba B1 bn Bs aa B2 an As da B3 dn f) (h' : SitX w ba' B1' bn Bs aa' B2' an As da' B3' dn f) :
    Calls Try.prog 13 #[sitV u v r ba bn bc aa an ac da dn dc, sitV u v r ba' bn bc' aa' an ac' da' dn dc'] w fun e w' => e = .returned (.bool true) ∧ Below w.heap.size w w' := by
  have hu : (u != u) = false := by cases u <;> rfl
  have hv : (v != v) = false := by cases v <;> rfl
  have hr : (r != r) = false := by simp
  have HB := eqB_refl Bs
  have HA := eqB_refl As
  have z1 := h.z1
  have z2 := h.z2
  have n0 := (Cel.new w [.bool u, .bool v, .int .i64 r, .slice ba bn bc, .slice aa an ac, .slice da dn dc] 29).alloc (.cells #[.bool u, .bool v, .int .i64 r, .slice ba' bn bc', .slice aa' an ac', .slice da' dn dc'] 29)
  have m0 := Cel.new (w.alloc (.cells #[.bool u, .bool v, .int .i64 r, .slice ba bn bc, .slice aa an ac, .slice da dn dc] 29)) [.bool u, .bool v, .int .i64 r, .slice ba' bn bc', .slice aa' an ac', .slice da' dn dc'] 29
  rw [World.size_alloc] at m0
  have B0 : Below w.heap.size w ((w.alloc (.cells #[.bool u, .bool v, .int .i64 r, .slice ba bn bc, .slice aa an ac, .slice da dn dc] 29)).alloc (.cells #[.bool u, .bool v, .int .i64 r, .slice ba' bn bc', .slice aa' an ac', .slice da' dn dc'] 29)) := ((Below.refl _ _).alloc (Nat.le_refl _) _).alloc (by simp) _
  go_enter Try.func13, Try.ntmps13
  go_wp2_with fail
  refine (eq_any _ _ _ _ _ _ Bs Bs _ (h.below B0).o1.ints (h'.below B0).o1.ints (by omega) (by omega)).mono ?_
  rintro e w1 ⟨rfl, b1⟩
  rw [HB]
  have n1 := n0.below b1
  have m1 := m0.below b1
  have B1 := B0.trans (b1.mono B0.size)
  clear n0 m0 b1 B0
  obtain ⟨c0, c1, c2, c3, c4, c5⟩ := n1.six6
  obtain ⟨d0, d1, d2, d3, d4, d5⟩ := m1.six6
  go_wp2_with fail
  refine (eq_any _ _ _ _ _ _ As As _ (h.below B1).o2.ints (h'.below B1).o2.ints (by omega) (by omega)).mono ?_
  rintro e w2 ⟨rfl, b2⟩
  rw [HA]
  have n2 := n1.below b2
  have m2 := m1.below b2
  have B2 := B1.trans (b2.mono B1.size)
  clear n1 m1 b2 B1 c0 c1 c2 c3 c4 c5 d0 d1 d2 d3 d4 d5
  obtain ⟨c0, c1, c2, c3, c4, c5⟩ := n2.six6
  obtain ⟨d0, d1, d2, d3, d4, d5⟩ := m2.six6
  go_wp2_with fail
  refine (eqDS_same _ _ _ _ _ _ _ f _ (h.below B2).d (h'.below B2).d h.z3).mono ?_
  rintro e w3 ⟨rfl, b3⟩
  have B3 := B2.trans (b3.mono B2.size)
  go_wp2
  go_ret
  exact ⟨rfl, B3⟩

set_option maxHeartbeats 1600000 in
theorem markSit_any (u v : Bool) (r : Int) (ba : Option Addr) (B1 bn bc : Nat) (Bs : List Int) (aa : Option Addr) (B2 an ac : Nat) (As : List Int) (da : Option Addr) (B3 dn dc : Nat) (f : Nat → Int × Int) (w : World) (h : SitX w ba B1 bn Bs aa B2 an As da B3 dn f) :
    Calls Try.prog 16 #[sitV u v r ba bn bc aa an ac da dn dc, .int .i64 1] w fun e w' => e = .returned (.int .i64 (1 + bn + an + 2 * dn)) ∧ Touch (fun x => (x = B1 ∧ 0 < bn) ∨ (x = B2 ∧ 0 < an) ∨ (x = B3 ∧ 0 < dn)) w w' ∧ SitX w' ba B1 bn (ramp 1 bn) aa B2 an (ramp (1 + bn) an) da B3 dn (fun i => (1 + bn + an + 2 * i, 1 + bn + an + 2 * i + 1)) := by
  obtain ⟨o1, o2, d, n12, n13, n23, z1, z2, z3⟩ := h
  have l1 := o1.lt
  have l2 := o2.lt
  have l3 := d.lt
  have n0 := Cel.new w [.bool u, .bool v, .int .i64 r, .slice ba bn bc, .slice aa an ac, .slice da dn dc] 29
  have b0 : Below w.heap.size w (w.alloc (.cells #[.bool u, .bool v, .int .i64 r, .slice ba bn bc, .slice aa an ac, .slice da dn dc] 29)) := (Below.refl _ _).alloc (Nat.le_refl _) _
  go_enter Try.func16, Try.ntmps16
  go_wp2_with fail
  refine (markX_any _ _ _ B1 Bs _ _ (o1.below b0) (by omega) (by omega) (by omega)).mono ?_
  rintro e w1 ⟨rfl, t1, p1⟩
  have q1 := (o2.below b0).touch t1 (fun h hh => n12 hh.2 h hh.1.symm)
  have e1 := (d.below b0).touch t1 (fun h hh => n13 hh.2 h hh.1.symm)
  have n1 := n0.touch t1 (fun hh => by have := l1 hh.2; have := hh.1; omega)
  have T1 : Touch (fun x => (x = B1 ∧ 0 < bn) ∨ (x = B2 ∧ 0 < an) ∨ (x = B3 ∧ 0 < dn)) w w1 := (Touch.of b0).trans (t1.mono fun y hy => Or.inl hy)
  clear t1 n0 b0 o1 o2 d
  obtain ⟨c0, c1, c2, c3, c4, c5⟩ := n1.six6
  go_wp2_with fail
  refine (markX_any _ _ _ B2 As _ _ q1 (by omega) (by omega) (by omega)).mono ?_
  rintro e w2 ⟨rfl, t2, q2⟩
  have p2 := p1.touch t2 (fun h hh => n12 h hh.2 hh.1)
  have e2 := e1.touch t2 (fun h hh => n23 hh.2 h hh.1.symm)
  have n2 := n1.touch t2 (fun hh => by have := l2 hh.2; have := hh.1; omega)
  have T2 := T1.trans (t2.mono (T := fun x => (x = B1 ∧ 0 < bn) ∨ (x = B2 ∧ 0 < an) ∨ (x = B3 ∧ 0 < dn)) fun y hy => Or.inr (Or.inl hy))
  clear t2 n1 q1 e1 p1 T1 c0 c1 c2 c3 c4 c5
  obtain ⟨c0, c1, c2, c3, c4, c5⟩ := n2.six6
  go_wp2_with fail
  refine (markDS_any _ B3 _ _ f _ _ e2 z3 (by omega) (by omega)).mono ?_
  rintro e w3 ⟨rfl, t3, e3⟩
  have p3 := p2.touch t3 (fun h hh => n13 h hh.2 hh.1)
  have q3 := q2.touch t3 (fun h hh => n23 h hh.2 hh.1)
  have T3 := T2.trans (t3.mono (T := fun x => (x = B1 ∧ 0 < bn) ∨ (x = B2 ∧ 0 < an) ∨ (x = B3 ∧ 0 < dn)) fun y hy => Or.inr (Or.inr hy))
  clear t3 n2 e2 p2 q2 T2 c0 c1 c2 c3 c4 c5
  go_wp2
  go_ret
  exact ⟨rfl, T3, p3, q3, e3, n12, n13, n23, z1, z2, z3⟩

set_option maxHeartbeats 1600000 in
theorem heldSit_any (u v : Bool) (r : Int) (ba : Option Addr) (B1 bn bc : Nat) (aa : Option Addr) (B2 an ac : Nat) (da : Option Addr) (B3 dn dc : Nat) (w : World) (h : SitX w ba B1 bn (ramp 1 bn) aa B2 an (ramp (1 + bn) an) da B3 dn (fun i => (1 + bn + an + 2 * i, 1 + bn + an + 2 * i + 1))) :
    Calls Try.prog 17 #[sitV u v r ba bn bc aa an ac da dn dc, .int .i64 1] w fun e w' => e = .returned (.int .i64 (1 + bn + an + 2 * dn)) ∧ Below w.heap.size w w' := by
  obtain ⟨o1, o2, d, n12, n13, n23, z1, z2, z3⟩ := h
  have n0 := Cel.new w [.bool u, .bool v, .int .i64 r, .slice ba bn bc, .slice aa an ac, .slice da dn dc] 29
  have b0 : Below w.heap.size w (w.alloc (.cells #[.bool u, .bool v, .int .i64 r, .slice ba bn bc, .slice aa an ac, .slice da dn dc] 29)) := (Below.refl _ _).alloc (Nat.le_refl _) _
  have p1 : 0 ≤ 1 + (bn : Int) := by omega
  have p2 : 0 ≤ 1 + (bn : Int) + an := by omega
  have p3 : 0 ≤ 1 + (bn : Int) + an + 2 * dn := by omega
  obtain ⟨c0, c1, c2, c3, c4, c5⟩ := n0.six6
  have i1 := (o1.below b0).ints
  have i2 := (o2.below b0).ints
  have d' := d.below b0
  clear o1 o2 d n0
  go_enter Try.func17, Try.ntmps17
  go_upto_region 1 with fail
  generalize (w.alloc (.cells #[.bool u, .bool v, .int .i64 r, .slice ba bn bc, .slice aa an ac, .slice da dn dc] 29)) = w0 at *
  go_wp2_with fail
  refine (held_any _ _ _ _ _ i1 (by omega) (by omega) (by omega)).mono ?_
  rintro e w1 ⟨rfl, rfl⟩
  go_wp2_with fail
  refine (held_any _ _ _ _ _ i2 (by omega) (by omega) (by omega)).mono ?_
  rintro e w1 ⟨rfl, rfl⟩
  go_wp2_with fail
  refine (heldDS_any _ B3 _ _ _ _ d' z3 (by omega) (by omega)).mono ?_
  rintro e w1 ⟨rfl, rfl⟩
  go_wp2
  go_ret
  exact ⟨rfl, b0⟩

end Go.Proofs.Ytocbaopjpdeadaa
