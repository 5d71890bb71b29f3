/-
  What the laws on forms draw: forms, lists and numbers in new memory; old memory is as it was. Bytes at most 1048576.
-/
import Derived.Test.YtjhbapgpeimlhaaDrFm
import Derived.Test.YtjhbapgpeimlhaaFvC
namespace Go.Proofs.Ytjhbapgpeimlhaa
open Go.RowKit
set_option linter.unusedVariables false
set_option maxRecDepth 100000

theorem Rd.ha {w : World} {R : Nat} {a : Option Addr} {n cap : Nat} {bs : List Int} {p : Int} (h : Rd w R a n cap bs p) : 0 < n → ∀ b o, a = some ⟨b, o, none⟩ → b < w.heap.size := fun h0 b o hab => by
  obtain ⟨b', o', hab', hcc⟩ := h.b.2.1 0 h0
  rw [hab] at hab'
  simp only [Option.some.injEq, Addr.mk.injEq, and_true] at hab'
  have := block_lt hcc
  omega
theorem Ints.off {S : Nat → Prop} {w w' : World} {a : Option Addr} {n : Nat} {zs : List Int} (h : Ints w a n zs) (t : Touch S w w') (hS : ∀ b o, a = some ⟨b, o, none⟩ → ¬ S b) : Ints w' a n zs := by
  refine ⟨h.1, fun i hi => ?_⟩
  obtain ⟨b, off, hab, hc⟩ := h.2 i hi
  exact ⟨b, off, hab, (World.cell?_of_block (t.block b (block_lt hc) (hS b off hab))).trans hc⟩
theorem FA.off {S : Nat → Prop} {w w' : World} {a c : Option Addr} {n m : Nat} {f : Frm} (h : FA w a n c m f) (t : Touch S w w') (h1 : ∀ b o, a = some ⟨b, o, none⟩ → ¬ S b) (h2 : ∀ b o, c = some ⟨b, o, none⟩ → ¬ S b) : FA w' a n c m f := ⟨h.C.off t h1, h.D.off t h2, h.hn, h.hm⟩
theorem FmN.fa {w W : World} {R : Nat} {a : Option Addr} {n cap : Nat} {bs : List Int} {p q : Int} {B1 nC B2 nD : Nat} {C D : List Int} (h : FmN w W R a n cap bs p q B1 nC B2 nD C D) (K : Int) : FA W (some ⟨B1, 0, none⟩) nC (some ⟨B2, 0, none⟩) nD (C, D, K) := ⟨h.c, h.d, by have := h.c4; omega, by have := h.d4; omega⟩
/-- A form that lies past a place. -/
theorem FA.far {S : Nat → Prop} {w w' : World} {B1 B2 n m lo : Nat} {f : Frm} (h : FA w (some ⟨B1, 0, none⟩) n (some ⟨B2, 0, none⟩) m f) (t : Touch S w w') (hS : ∀ k, S k → k < lo) (h1 : lo ≤ B1) (h2 : lo ≤ B2) : FA w' (some ⟨B1, 0, none⟩) n (some ⟨B2, 0, none⟩) m f :=
  h.off t (fun b o e hs => by simp only [Option.some.injEq, Addr.mk.injEq] at e; have := hS b hs; omega) (fun b o e hs => by simp only [Option.some.injEq, Addr.mk.injEq] at e; have := hS b hs; omega)
theorem FA.setFar {w : World} {B1 B2 n m X : Nat} {f : Frm} (h : FA w (some ⟨B1, 0, none⟩) n (some ⟨B2, 0, none⟩) m f) (h1 : B1 ≠ X) (h2 : B2 ≠ X) (i : Nat) (v : Value) : FA (w.setCell ⟨X, i, none⟩ v) (some ⟨B1, 0, none⟩) n (some ⟨B2, 0, none⟩) m f :=
  ⟨h.C.setFar (fun b o e => by simp only [Option.some.injEq, Addr.mk.injEq] at e; omega) i v, h.D.setFar (fun b o e => by simp only [Option.some.injEq, Addr.mk.injEq] at e; omega) i v, h.hn, h.hm⟩

set_option maxHeartbeats 1600000 in
theorem dPot (a : Option Addr) (n cap : Nat) (bs : List Int) (w : World) (h : BInts w a n bs) (hn : n ≤ cap) (hn1 : n ≤ 1048576) (hc : cap ≤ maxLen) :
    Calls Try.prog 27 #[.slice a n cap] w fun e w' => ∃ v, e = .returned (.int .i64 v) ∧ -1 ≤ v ∧ v ≤ 3 ∧ Below w.heap.size w w' := by
  go_enter Try.func27, Try.ntmps27
  go_wp2_with fail
  refine (open_any _ _ _ bs _ h hn hn1 hc).mono ?_
  rintro e w1 ⟨R, n', cap2, bs', rfl, b1, hR, r1⟩
  go_wp2_with fail
  refine (pick_any R a n' cap2 bs' 0 5 _ r1 (by omega) (by omega) (by omega) (by omega)).mono ?_
  rintro e w2 ⟨r, r0, r5, rfl, t2, R2⟩
  go_wp2
  go_ret
  exact ⟨r - 1, rfl, by omega, by omega, b1.trans (t2.below b1.size (fun k hk => by omega))⟩

set_option maxHeartbeats 1600000 in
theorem dPart (a : Option Addr) (n cap : Nat) (bs : List Int) (w : World) (h : BInts w a n bs) (hn : n ≤ cap) (hn1 : n ≤ 1048576) (hc : cap ≤ maxLen) :
    Calls Try.prog 33 #[.slice a n cap] w fun e w' => ∃ B1 nC cC B2 nD cD f, e = .returned (formV (some ⟨B1, 0, none⟩) nC cC (some ⟨B2, 0, none⟩) nD cD f.2.2) ∧ Below w.heap.size w w' ∧ FA w' (some ⟨B1, 0, none⟩) nC (some ⟨B2, 0, none⟩) nD f := by
  have q0 := Cel.new w [.slice none 0 0, .slice none 0 0, .int .i64 0] 25
  have al := (Below.refl w.heap.size w).alloc (Nat.le_refl _) (.cells #[.slice none 0 0, .slice none 0 0, .int .i64 0] 25)
  go_enter Try.func33, Try.ntmps33
  go_wp2_with fail
  refine (open_any _ _ _ bs _ (h.below al) hn hn1 hc).mono ?_
  rintro e w1 ⟨R, n', cap2, bs', rfl, b1, hR, r1⟩
  rw [World.size_alloc] at hR
  go_wp2_with fail
  refine (form_f R a n' cap2 bs' 0 6 _ r1 (by omega) (by omega) (by omega) (by omega) r1.ha).mono ?_
  rintro e w2 ⟨B1, nC, cC, B2, nD, cD, K, C, D, q, rfl, f2⟩
  have q2 := (q0.below b1).touch f2.t (by omega)
  have hw := (q0.below b1).lt
  have z1 := f2.b1
  have z2 := f2.b2
  have B2' : Below w.heap.size w w2 := (al.trans (b1.mono al.size)).trans (f2.t.below (by omega) (fun k hk => by omega))
  obtain ⟨g0, g1, g2, h0, h1, h2⟩ := q2.trio
  have F2 := f2.fa K
  clear r1 b1 al q0 f2
  go_wp2
  refine bodyPost_ret (v := formV (some ⟨B1, 0, none⟩) nC cC (some ⟨B2, 0, none⟩) nD cD K) (by simp [results, Try.results33, go_sem, g0, g1, g2]) rfl ⟨B1, nC, cC, B2, nD, cD, (C, D, K), rfl, ((B2'.setCell (Nat.le_refl _) _).setCell (Nat.le_refl _) _).setCell (Nat.le_refl _) _, ?_⟩
  exact ((F2.setFar (by omega) (by omega) 0 _).setFar (by omega) (by omega) 1 _).setFar (by omega) (by omega) 2 _

set_option maxHeartbeats 1600000 in
theorem dAdd (a : Option Addr) (n cap : Nat) (bs : List Int) (w : World) (h : BInts w a n bs) (hn : n ≤ cap) (hn1 : n ≤ 1048576) (hc : cap ≤ maxLen) :
    Calls Try.prog 9 #[.slice a n cap] w fun e w' => ∃ a1 n1 c1 a2 n2 c2 f a3 n3 c3 a4 n4 c4 g, e = .returned (.tuple #[formV a1 n1 c1 a2 n2 c2 f.2.2, formV a3 n3 c3 a4 n4 c4 g.2.2]) ∧ Below w.heap.size w w' ∧ FA w' a1 n1 a2 n2 f ∧ FA w' a3 n3 a4 n4 g := by
  have al := ((Below.refl w.heap.size w).alloc (Nat.le_refl _) (.cells #[.slice none 0 0, .slice none 0 0, .int .i64 0] 25)).alloc (by simp) (.cells #[.slice none 0 0, .slice none 0 0, .int .i64 0] 25)
  have q0 := (Cel.new w [.slice none 0 0, .slice none 0 0, .int .i64 0] 25).alloc (.cells #[.slice none 0 0, .slice none 0 0, .int .i64 0] 25)
  have q1 := Cel.new (w.alloc (.cells #[.slice none 0 0, .slice none 0 0, .int .i64 0] 25)) [.slice none 0 0, .slice none 0 0, .int .i64 0] 25
  rw [World.size_alloc] at q1
  go_enter Try.func9, Try.ntmps9
  go_wp2_with fail
  refine (open_any _ _ _ bs _ (h.below al) hn hn1 hc).mono ?_
  rintro e w1 ⟨R, n', cap2, bs', rfl, b1, hR, r1⟩
  rw [World.size_alloc, World.size_alloc] at hR
  go_wp2_with fail
  refine (form_f R a n' cap2 bs' 0 12 _ r1 (by omega) (by omega) (by omega) (by omega) r1.ha).mono ?_
  rintro e w2 ⟨B1, nC, cC, B2, nD, cD, K, C, D, q, rfl, f2⟩
  have u0 := f2.q0
  have u1 := f2.q1
  have hRl := r1.c.lt
  go_wp2_with fail
  refine (form_f R a n' cap2 bs' q 12 _ f2.r (by omega) (by omega) (by omega) (by omega) f2.r.ha).mono ?_
  rintro e w3 ⟨B3, nC', cC', B4, nD', cD', K', C', D', q', rfl, f3⟩
  have q2 := ((q0.below b1).touch f2.t (by omega)).touch f3.t (by omega)
  have q3 := ((q1.below b1).touch f2.t (by omega)).touch f3.t (by omega)
  have hw := (q1.below b1).lt
  have hw2 := f2.t.size
  have z1 := f2.b1
  have z2 := f2.b2
  have z3 := f3.b1
  have z4 := f3.b2
  have T3 := f2.t.trans f3.t
  have BB : Below w.heap.size w w3 := (al.trans (b1.mono al.size)).trans (T3.below (by omega) (fun k hk => by omega))
  have F2 := (f2.fa K).far f3.t (lo := w1.heap.size) (fun k hk => by omega) z1 z2
  have F3 := f3.fa K'
  obtain ⟨g0, g1, g2, h0, h1, h2⟩ := q2.trio
  obtain ⟨g3, g4, g5, h3, h4, h5⟩ := q3.trio
  clear r1 b1 al q0 q1 f2 f3 T3
  go_wp2
  refine bodyPost_ret (v := .tuple #[formV (some ⟨B1, 0, none⟩) nC cC (some ⟨B2, 0, none⟩) nD cD K, formV (some ⟨B3, 0, none⟩) nC' cC' (some ⟨B4, 0, none⟩) nD' cD' K']) (by simp [results, Try.results9, go_sem, g0, g1, g2, g3, g4, g5]) rfl ⟨_, nC, cC, _, nD, cD, (C, D, K), _, nC', cC', _, nD', cD', (C', D', K'), rfl, ?_, ?_, ?_⟩
  · exact (((((BB.setCell (Nat.le_refl _) _).setCell (Nat.le_refl _) _).setCell (Nat.le_refl _) _).setCell (by simp only []; omega) _).setCell (by simp only []; omega) _).setCell (by simp only []; omega) _
  · exact (((((F2.setFar (by omega) (by omega) 0 _).setFar (by omega) (by omega) 1 _).setFar (by omega) (by omega) 2 _).setFar (by omega) (by omega) 0 _).setFar (by omega) (by omega) 1 _).setFar (by omega) (by omega) 2 _
  · exact (((((F3.setFar (by omega) (by omega) 0 _).setFar (by omega) (by omega) 1 _).setFar (by omega) (by omega) 2 _).setFar (by omega) (by omega) 0 _).setFar (by omega) (by omega) 1 _).setFar (by omega) (by omega) 2 _

set_option maxHeartbeats 1600000 in
theorem dAt (a : Option Addr) (n cap : Nat) (bs : List Int) (w : World) (h : BInts w a n bs) (hn : n ≤ cap) (hn1 : n ≤ 1048576) (hc : cap ≤ maxLen) :
    Calls Try.prog 10 #[.slice a n cap] w fun e w' => ∃ a1 n1 c1 a2 n2 c2 f v p cv V u q cu A, e = .returned (.tuple #[formV a1 n1 c1 a2 n2 c2 f.2.2, .slice v p cv, .slice u q cu]) ∧ Below w.heap.size w w' ∧ FA w' a1 n1 a2 n2 f ∧ Ints w' v p V ∧ Ints w' u q A ∧ p ≤ 4 ∧ q ≤ 4 := by
  have q0 := Cel.new w [.slice none 0 0, .slice none 0 0, .int .i64 0] 25
  have al := (Below.refl w.heap.size w).alloc (Nat.le_refl _) (.cells #[.slice none 0 0, .slice none 0 0, .int .i64 0] 25)
  go_enter Try.func10, Try.ntmps10
  go_wp2_with fail
  refine (open_any _ _ _ bs _ (h.below al) hn hn1 hc).mono ?_
  rintro e w1 ⟨R, n', cap2, bs', rfl, b1, hR, r1⟩
  rw [World.size_alloc] at hR
  go_wp2_with fail
  refine (form_f R a n' cap2 bs' 0 12 _ r1 (by omega) (by omega) (by omega) (by omega) r1.ha).mono ?_
  rintro e w2 ⟨B1, nC, cC, B2, nD, cD, K, C, D, q, rfl, f2⟩
  have u0 := f2.q0
  have u1 := f2.q1
  have hRl := r1.c.lt
  go_wp2_with fail
  refine (vals_gen R a n' cap2 bs' q 12 _ f2.r (by omega) (by omega) (by omega) (by omega) f2.r.ha).mono ?_
  rintro e w3 ⟨va, vp, cv, V, q3, rfl, d3⟩
  have u2 := d3.q0
  have u3 := d3.q1
  go_wp2_with fail
  refine (args_gen R a n' cap2 bs' q3 12 _ d3.r (by omega) (by omega) (by omega) (by omega) d3.r.ha).mono ?_
  rintro e w4 ⟨ua, uq, cu, A, q4, rfl, d4⟩
  have hw := (q0.below b1).lt
  have hw2 := f2.t.size
  have hw3 := d3.t.size
  have z1 := f2.b1
  have z2 := f2.b2
  have T3 := f2.t.trans (d3.t.trans d4.t)
  have q2 := (q0.below b1).touch T3 (by omega)
  have BB : Below w.heap.size w w4 := (al.trans (b1.mono al.size)).trans (T3.below (by omega) (fun k hk => by omega))
  have F2 := (f2.fa K).far (d3.t.trans d4.t) (lo := w1.heap.size) (fun k hk => by omega) z1 z2
  have hV := d3.i.off d4.t (fun b o e hs => by have := d3.lo b o e; omega)
  have hA := d4.i
  have l3 := d3.lo
  have l4 := d4.lo
  have p3 := d3.h4
  have p4 := d4.h4
  obtain ⟨g0, g1, g2, h0, h1, h2⟩ := q2.trio
  clear r1 b1 al q0 f2 d3 d4 T3
  go_wp2
  refine bodyPost_ret (v := .tuple #[formV (some ⟨B1, 0, none⟩) nC cC (some ⟨B2, 0, none⟩) nD cD K, .slice va vp cv, .slice ua uq cu]) (by simp [results, Try.results10, go_sem, g0, g1, g2]) rfl ⟨_, nC, cC, _, nD, cD, (C, D, K), va, vp, cv, V, ua, uq, cu, A, rfl, ((BB.setCell (Nat.le_refl _) _).setCell (Nat.le_refl _) _).setCell (Nat.le_refl _) _, ?_, ?_, ?_, p3, p4⟩
  · exact ((F2.setFar (by omega) (by omega) 0 _).setFar (by omega) (by omega) 1 _).setFar (by omega) (by omega) 2 _
  · exact ((hV.setFar (fun b o e => by have := l3 b o e; omega) 0 _).setFar (fun b o e => by have := l3 b o e; omega) 1 _).setFar (fun b o e => by have := l3 b o e; omega) 2 _
  · exact ((hA.setFar (fun b o e => by have := l4 b o e; omega) 0 _).setFar (fun b o e => by have := l4 b o e; omega) 1 _).setFar (fun b o e => by have := l4 b o e; omega) 2 _

end Go.Proofs.Ytjhbapgpeimlhaa
