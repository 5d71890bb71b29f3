/-
  A form that is drawn, now and then with something wrong: whatever the bytes are, two lists of at most three numbers in new memory.
-/
import Derived.Test.YtfkcfjkojfnfnaaGreatDoorDrS
import Derived.Test.YtfkcfjkojfnfnaaGreatDoorDrA
namespace Go.Proofs.YtfkcfjkojfnfnaaGreatDoor
open Go.RowKit
set_option linter.unusedVariables false
set_option maxRecDepth 100000

/-- A form was drawn: its lists lie in new memory, the reader has gone on. -/
structure FmN (w w' : World) (R : Nat) (a : Option Addr) (n cap : Nat) (bs : List Int) (p q : Int) (B1 nC B2 nD : Nat) (C D : List Int) : Prop where
  t : Touch (fun x => x = R) w w'
  r : Rd w' R a n cap bs q
  c : Ints w' (some ⟨B1, 0, none⟩) nC C
  d : Ints w' (some ⟨B2, 0, none⟩) nD D
  c4 : nC ≤ 4
  d4 : nD ≤ 4
  c1 : 1 ≤ nC
  d1 : 1 ≤ nD
  b1 : w.heap.size ≤ B1
  b2 : w.heap.size ≤ B2
  q0 : p ≤ q
  q1 : q ≤ p + 20
theorem Blk.own {W : World} {B base n : Nat} {zs : List Int} (h : Blk W B zs) (hl : zs.length = n) (hb : base ≤ B) (hn : n ≤ 1000) : W.ownsRow base 3 1 (.slice (some ⟨B, 0, none⟩) n n) n (zs.map (Value.int .i64)) := by
  subst hl
  exact ⟨by simp, .inr ⟨B, zs.length, _, rfl, hb, h, Nat.le_refl _, by unfold maxLen; omega, by simp, by rw [List.take_of_length_le (by simp)]⟩⟩
theorem Ints.setFar {W : World} {a : Option Addr} {n B : Nat} {zs : List Int} (h : Ints W a n zs) (hB : ∀ b o, a = some ⟨b, o, none⟩ → b ≠ B) (i : Nat) (v : Value) : Ints (W.setCell ⟨B, i, none⟩ v) a n zs := by
  refine ⟨h.1, fun k hk => ?_⟩
  obtain ⟨b, off, e, hc⟩ := h.2 k hk
  exact ⟨b, off, e, (World.cell?_of_block (Below.heap_setCell W ⟨B, i, none⟩ v b (hB b off e))).trans hc⟩
theorem Ints.cut {W : World} {a : Option Addr} {n k : Nat} {zs : List Int} (h : Ints W a n zs) (hk : k ≤ n) : Ints W a k (zs.take k) := by
  refine ⟨by rw [List.length_take, h.1]; omega, fun i hi => ?_⟩
  obtain ⟨b, off, e, hc⟩ := h.2 i (by omega)
  exact ⟨b, off, e, by rw [hc]; simp [hi]⟩
theorem FmN.set {w W : World} {R : Nat} {a : Option Addr} {n cap : Nat} {bs : List Int} {p q : Int} {B1 nC B2 nD : Nat} {C D : List Int} (h : FmN w W R a n cap bs p q B1 nC B2 nD C D) {B : Nat} (hB : w.heap.size ≤ B) (h1 : B1 ≠ B) (h2 : B2 ≠ B) (hR : R < w.heap.size) (ha : 0 < n → ∀ b o, a = some ⟨b, o, none⟩ → b < w.heap.size) (i : Nat) (v : Value) : FmN w (W.setCell ⟨B, i, none⟩ v) R a n cap bs p q B1 nC B2 nD C D :=
  ⟨h.t.setNewF hB i v, h.r.setNew (by omega) (fun h0 b o e => by have := ha h0 b o e; omega) i v, h.c.setFar (fun b o e => by simp only [Option.some.injEq, Addr.mk.injEq] at e; omega) i v, h.d.setFar (fun b o e => by simp only [Option.some.injEq, Addr.mk.injEq] at e; omega) i v, h.c4, h.d4, h.c1, h.d1, h.b1, h.b2, h.q0, h.q1⟩
theorem bnd.up {M N : Int} {zs : List Int} (h : bnd M zs) (hM : M ≤ N) : bnd N zs := fun i => by have := h i; omega
theorem litF_4 (j : Nat) (hj : j < 4) : -10000001 ≤ ([10000000, -10000000, 1000, 77] : List Int)[j]?.getD 0 ∧ ([10000000, -10000000, 1000, 77] : List Int)[j]?.getD 0 ≤ 10000001 := by
  rcases j with _ | _ | _ | _ | j <;> first | omega | simp
theorem litF_2 (j : Nat) (hj : j < 2) : -10000001 ≤ ([10000001, -10000001] : List Int)[j]?.getD 0 ∧ ([10000001, -10000001] : List Int)[j]?.getD 0 ≤ 10000001 := by
  rcases j with _ | _ | _ | _ | j <;> first | omega | simp
theorem litF_3 (j : Nat) (hj : j < 3) : -10000001 ≤ ([10000001, -10000001, 10000000] : List Int)[j]?.getD 0 ∧ ([10000001, -10000001, 10000000] : List Int)[j]?.getD 0 ≤ 10000001 := by
  rcases j with _ | _ | _ | _ | j <;> first | omega | simp

set_option maxHeartbeats 12800000 in
theorem form_f (R : Nat) (a : Option Addr) (n cap : Nat) (bs : List Int) (p N : Int) (w : World) (hR : Rd w R a n cap bs p) (hp : 0 ≤ p) (hp1 : p ≤ 8000000) (hN : 1 ≤ N) (hN1 : N ≤ 1000) (ha : 0 < n → ∀ b o, a = some ⟨b, o, none⟩ → b < w.heap.size) :
    Calls Tryz.prog 78 #[.pointer (some ⟨R, 0, none⟩), .int .i64 N] w fun e w' => ∃ B1 nC cC B2 nD cD K C D q, e = .returned (formV (some ⟨B1, 0, none⟩) nC cC (some ⟨B2, 0, none⟩) nD cD K) ∧ FmN w w' R a n cap bs p q B1 nC B2 nD C D := by
  have hRl := hR.c.lt
  have bx := Cel.new w [.slice none 0 0, .slice none 0 0, .int .i64 0] 34
  have B0 := (Below.refl w.heap.size w).alloc (Nat.le_refl _) (.cells #[.slice none 0 0, .slice none 0 0, .int .i64 0] 34)
  obtain ⟨i0, hi, hz0, hz1, hz2⟩ := info_parts Tryz.infoInt
  go_enter Tryz.func78, Tryz.ntmps78
  go_wp2_with fail
  refine (small_f R a n cap bs p _ (hR.below B0) hp (by omega) (fun h0 b o e => by have := ha h0 b o e; have := B0.size; omega)).mono ?_
  rintro e w1 ⟨B1, B2, C, D, K, rfl, t1, R1, f1, s1, s2, s3, s4⟩
  have al := (Below.refl w1.heap.size w1).alloc (Nat.le_refl _) (.cells #[.slice (some ⟨B1, 0, none⟩) 3 3, .slice (some ⟨B2, 0, none⟩) 2 2, .int .i64 K] 34)
  have z1 := f1.b1
  have z2 := f1.b2
  have z3 := t1.size
  rw [World.size_alloc] at z1 z2 z3
  have lt1 := f1.k1.lt
  have lt2 := f1.k2.lt
  have s0 : SmI w (w1.alloc (.cells #[.slice (some ⟨B1, 0, none⟩) 3 3, .slice (some ⟨B2, 0, none⟩) 2 2, .int .i64 K] 34)) R a n cap bs (p + 6) w1.heap.size B1 B2 C D K 10000001 :=
    ⟨((Touch.of B0).trans t1).trans (Touch.of al), R1.below al, (f1.below al).mono (by rw [World.size_alloc]; omega), Cel.new w1 _ _, (bx.touch t1 (by omega)).below al, by omega, by omega, by omega, hRl, ha, s1.up (by omega), s2.up (by omega)⟩
  obtain ⟨fb, hfb⟩ : ∃ x, x = w1.heap.size := ⟨_, rfl⟩
  obtain ⟨W2, hW2⟩ : ∃ W, W = w1.alloc (.cells #[.slice (some ⟨B1, 0, none⟩) 3 3, .slice (some ⟨B2, 0, none⟩) 2 2, .int .i64 K] 34) := ⟨_, rfl⟩
  rw [← hfb, ← hW2] at s0
  go_wp2_with fail
  rw [← hfb, ← hW2]
  clear hfb hW2 hR bx B0 t1 R1 f1 al z1 z2 z3 lt1 lt2 s1 s2
  refine (pick_any R a n cap bs (p + 6) 4 _ s0.r (by omega) (by omega) (by omega) (by omega)).mono ?_
  rintro e w3 ⟨r, r0, r1, rfl, t3, R3⟩
  have s := s0.pick t3 R3
  clear s0 t3 R3
  go_upto_if 10 with fail
  go_cut [] (fun wx => ∃ C q, SmI w wx R a n cap bs q fb B1 B2 C D K 10000001 ∧ p ≤ q ∧ q ≤ p + 9)
  case first =>
    by_cases hr : r = 0
    · have hr' : (r == 0) = true := by simpa using hr
      go_upto_region 3 with fail
      clear hr hr' r0 r1
      refine wp_region_ends (fun X => X.cell? ⟨fb, 0, none⟩ = some (.slice (some ⟨B1, 0, none⟩) 3 3)) (fun _ => True) 10 (by kernel_rfl) ?_
      have sd := s.below ((Below.refl _ _).drew)
      obtain ⟨V0, hV0⟩ : ∃ V, V = w3.drew := ⟨_, rfl⟩
      rw [← hV0] at sd ⊢
      clear hV0 s
      have hS0 : (fun X : World => X.cell? ⟨fb, 0, none⟩ = some (.slice (some ⟨B1, 0, none⟩) 3 3)) V0 ∧ True := ⟨sd.cb.cell 0, trivial⟩
      refine tkL (i := 0) rfl hS0 ?_
      refine tkL (i := 1) rfl hS0 ?_
      refine tkL (i := 2) rfl hS0 ?_
      refine tkL (i := 5) rfl hS0 ?_
      clear hS0
      refine wpAnyE_two (i := 3) (j := 4) (by kernel_rfl) rfl rfl (fun Kn hK => ?_) (fun Kn hK => ?_)
      · go_simp
        refine (pick_any R a n cap bs _ 3 _ sd.r (by omega) (by omega) (by omega) (by omega)).mono ?_
        rintro e wA ⟨ri, r0, r1, rfl, t5, R5⟩
        obtain ⟨i, rfl⟩ := Int.eq_ofNat_of_zero_le r0
        have hi : i < 3 := by omega
        have hi' : (i : Int) < 3 := by omega
        clear r0 r1
        have sa := sd.pick t5 R5
        clear t5 R5
        dsimp only
        refine hK.out _ _ ⟨sa.cb.cell 0, fun _ => trivial⟩ ?_
        clear hK
        refine wpAnyE_two (i := 4) (j := 6) (by kernel_rfl) rfl rfl (fun Kn hK => ?_) (fun Kn hK => ?_)
        · go_simp
          have al := (Below.refl wA.heap.size wA).alloc (Nat.le_refl _) (.cells #[.int .i64 10000000, .int .i64 (-10000000), .int .i64 1000, .int .i64 77] 3)
          have lb := Cel.new wA [.int .i64 10000000, .int .i64 (-10000000), .int .i64 1000, .int .i64 77] 3
          have sb := sa.below al
          clear al
          refine hK.out _ _ ⟨sb.cb.cell 0, fun _ => trivial⟩ ?_
          clear hK
          refine wpAnyE_one (i := 6) (by kernel_rfl) rfl (fun Kn hK => ?_)
          go_simp
          refine (pick_any R a n cap bs _ 4 _ sb.r (by omega) (by omega) (by omega) (by omega)).mono ?_
          rintro e wB ⟨rj, r0, r1, rfl, t5, R5⟩
          obtain ⟨j, rfl⟩ := Int.eq_ofNat_of_zero_le r0
          have hj : j < 4 := by omega
          have hj' : (j : Int) < 4 := by omega
          clear r0 r1
          have sc := sb.pick t5 R5
          replace lb := lb.touch t5 (by have h1 := sa.hR; have h2 := sa.t.size; omega)
          clear t5 R5
          dsimp only
          refine hK.out _ _ ⟨sc.cb.cell 0, fun _ => trivial⟩ ?_
          clear hK
          have hS5 : (fun X : World => X.cell? ⟨fb, 0, none⟩ = some (.slice (some ⟨B1, 0, none⟩) 3 3)) wB ∧ True := ⟨sc.cb.cell 0, trivial⟩
          refine tkL (i := 7) rfl hS5 ?_
          have hc := lit_cell (xs := [10000000, -10000000, 1000, 77]) lb hj
          have hy := litF_4 j hj
          generalize ([10000000, -10000000, 1000, 77] : List Int)[j]?.getD 0 = y at hc hy
          refine wpAnyE_one (i := 8) (by kernel_rfl) rfl (fun Kn hK => ?_)
          go_simp
          refine hK.out _ _ ⟨sc.cb.cell 0, fun _ => trivial⟩ ?_
          clear hK
          refine tkL (i := 9) rfl hS5 ?_
          have s6 := sc.setC i hy.1 hy.2
          have kc := sc.f.k1.cell i (by rw [sc.f.l1]; omega)
          have kf := sc.f.k1.free i
          have kl := sc.f.k1.lt
          refine wpAnyE_one (i := 10) (by kernel_rfl) rfl (fun Kn hK => ?_)
          go_simp
          refine hK.out _ _ ⟨s6.cb.cell 0, fun _ => trivial⟩ ?_
          clear hK
          refine wpAnyE_done (by kernel_rfl) ?_ _
          clear hS5 hc kc kf lb
          go_wp2
          go_meet
          case rel => exact ⟨_, _, s6, by omega, by omega⟩
        · go_simp
          refine (pick_any R a n cap bs _ 4 _ sa.r (by omega) (by omega) (by omega) (by omega)).mono ?_
          rintro e wB ⟨rj, r0, r1, rfl, t5, R5⟩
          obtain ⟨j, rfl⟩ := Int.eq_ofNat_of_zero_le r0
          have hj : j < 4 := by omega
          have hj' : (j : Int) < 4 := by omega
          clear r0 r1
          have sb := sa.pick t5 R5
          clear t5 R5
          dsimp only
          refine hK.out _ _ ⟨sb.cb.cell 0, fun _ => trivial⟩ ?_
          clear hK
          refine wpAnyE_one (i := 4) (by kernel_rfl) rfl (fun Kn hK => ?_)
          go_simp
          have al := (Below.refl wB.heap.size wB).alloc (Nat.le_refl _) (.cells #[.int .i64 10000000, .int .i64 (-10000000), .int .i64 1000, .int .i64 77] 3)
          have lb := Cel.new wB [.int .i64 10000000, .int .i64 (-10000000), .int .i64 1000, .int .i64 77] 3
          have sc := sb.below al
          clear al
          refine hK.out _ _ ⟨sc.cb.cell 0, fun _ => trivial⟩ ?_
          clear hK
          have hS5 : (fun X : World => X.cell? ⟨fb, 0, none⟩ = some (.slice (some ⟨B1, 0, none⟩) 3 3)) (wB.alloc (.cells #[.int .i64 10000000, .int .i64 (-10000000), .int .i64 1000, .int .i64 77] 3)) ∧ True := ⟨sc.cb.cell 0, trivial⟩
          refine tkL (i := 7) rfl hS5 ?_
          have hc := lit_cell (xs := [10000000, -10000000, 1000, 77]) lb hj
          have hy := litF_4 j hj
          generalize ([10000000, -10000000, 1000, 77] : List Int)[j]?.getD 0 = y at hc hy
          refine wpAnyE_one (i := 8) (by kernel_rfl) rfl (fun Kn hK => ?_)
          go_simp
          refine hK.out _ _ ⟨sc.cb.cell 0, fun _ => trivial⟩ ?_
          clear hK
          refine tkL (i := 9) rfl hS5 ?_
          have s6 := sc.setC i hy.1 hy.2
          have kc := sc.f.k1.cell i (by rw [sc.f.l1]; omega)
          have kf := sc.f.k1.free i
          have kl := sc.f.k1.lt
          refine wpAnyE_one (i := 10) (by kernel_rfl) rfl (fun Kn hK => ?_)
          go_simp
          refine hK.out _ _ ⟨s6.cb.cell 0, fun _ => trivial⟩ ?_
          clear hK
          refine wpAnyE_done (by kernel_rfl) ?_ _
          clear hS5 hc kc kf lb
          go_wp2
          go_meet
          case rel => exact ⟨_, _, s6, by omega, by omega⟩
      · go_simp
        have al := (Below.refl V0.heap.size V0).alloc (Nat.le_refl _) (.cells #[.int .i64 10000000, .int .i64 (-10000000), .int .i64 1000, .int .i64 77] 3)
        have lb := Cel.new V0 [.int .i64 10000000, .int .i64 (-10000000), .int .i64 1000, .int .i64 77] 3
        have sa := sd.below al
        clear al
        refine hK.out _ _ ⟨sa.cb.cell 0, fun _ => trivial⟩ ?_
        clear hK
        refine wpAnyE_one (i := 3) (by kernel_rfl) rfl (fun Kn hK => ?_)
        go_simp
        refine (pick_any R a n cap bs _ 3 _ sa.r (by omega) (by omega) (by omega) (by omega)).mono ?_
        rintro e wA ⟨ri, r0, r1, rfl, t5, R5⟩
        obtain ⟨i, rfl⟩ := Int.eq_ofNat_of_zero_le r0
        have hi : i < 3 := by omega
        have hi' : (i : Int) < 3 := by omega
        clear r0 r1
        have sb := sa.pick t5 R5
        replace lb := lb.touch t5 (by have h1 := sd.hR; have h2 := sd.t.size; omega)
        clear t5 R5
        dsimp only
        refine hK.out _ _ ⟨sb.cb.cell 0, fun _ => trivial⟩ ?_
        clear hK
        refine wpAnyE_one (i := 6) (by kernel_rfl) rfl (fun Kn hK => ?_)
        go_simp
        refine (pick_any R a n cap bs _ 4 _ sb.r (by omega) (by omega) (by omega) (by omega)).mono ?_
        rintro e wB ⟨rj, r0, r1, rfl, t5, R5⟩
        obtain ⟨j, rfl⟩ := Int.eq_ofNat_of_zero_le r0
        have hj : j < 4 := by omega
        have hj' : (j : Int) < 4 := by omega
        clear r0 r1
        have sc := sb.pick t5 R5
        replace lb := lb.touch t5 (by have h1 := sd.hR; have h2 := sd.t.size; omega)
        clear t5 R5
        dsimp only
        refine hK.out _ _ ⟨sc.cb.cell 0, fun _ => trivial⟩ ?_
        clear hK
        have hS5 : (fun X : World => X.cell? ⟨fb, 0, none⟩ = some (.slice (some ⟨B1, 0, none⟩) 3 3)) wB ∧ True := ⟨sc.cb.cell 0, trivial⟩
        refine tkL (i := 7) rfl hS5 ?_
        have hc := lit_cell (xs := [10000000, -10000000, 1000, 77]) lb hj
        have hy := litF_4 j hj
        generalize ([10000000, -10000000, 1000, 77] : List Int)[j]?.getD 0 = y at hc hy
        refine wpAnyE_one (i := 8) (by kernel_rfl) rfl (fun Kn hK => ?_)
        go_simp
        refine hK.out _ _ ⟨sc.cb.cell 0, fun _ => trivial⟩ ?_
        clear hK
        refine tkL (i := 9) rfl hS5 ?_
        have s6 := sc.setC i hy.1 hy.2
        have kc := sc.f.k1.cell i (by rw [sc.f.l1]; omega)
        have kf := sc.f.k1.free i
        have kl := sc.f.k1.lt
        refine wpAnyE_one (i := 10) (by kernel_rfl) rfl (fun Kn hK => ?_)
        go_simp
        refine hK.out _ _ ⟨s6.cb.cell 0, fun _ => trivial⟩ ?_
        clear hK
        refine wpAnyE_done (by kernel_rfl) ?_ _
        clear hS5 hc kc kf lb
        go_wp2
        go_meet
        case rel => exact ⟨_, _, s6, by omega, by omega⟩
    · have hr' : (r == 0) = false := by simpa using hr
      go_wp2
      go_meet
      case rel => exact ⟨_, _, s, by omega, by omega⟩
  case rest =>
    clear s r0 r1
    obtain ⟨C, q, s0, q0, q1⟩ := hcut
    go_wp2_with fail
    refine (pick_any R a n cap bs q N _ s0.r (by omega) (by omega) (by omega) (by omega)).mono ?_
    rintro e w4 ⟨u, u0, u1, rfl, t4, R4⟩
    have s := s0.pick t4 R4
    clear s0 t4 R4
    by_cases hu : 0 < u
    · have c0 := s.cb.cell 0
      have c1 := s.cb.cell 1
      have c2 := s.cb.cell 2
      have g0 := s.rb.cell 0
      have g1 := s.rb.cell 1
      have g2 := s.rb.cell 2
      have h0 := s.rb.free 0
      have h1 := s.rb.free 1
      have h2 := s.rb.free 2
      simp only [List.getElem?_cons_zero, List.getElem?_cons_succ] at c0 c1 c2 g0 g1 g2
      have l1 := s.cb.lt
      have l2 := s.rb.lt
      have hf := s.hf
      have b1 := s.f.b1
      have b2 := s.f.b2
      have m1 : ¬ w.heap.size = fb := by omega
      have m2 : ¬ fb = w.heap.size := by omega
      go_wp2
      refine bodyPost_ret (v := formV (some ⟨B1, 0, none⟩) 3 3 (some ⟨B2, 0, none⟩) 2 2 K) (by simp [results, Tryz.results78, go_sem, g0, g1, g2]) rfl ⟨B1, 3, 3, B2, 2, 2, K, C, D, q + 1, rfl, ?_⟩
      exact (((FmN.mk s.t s.r (s.f.k1.ints' s.f.l1) (s.f.k2.ints' s.f.l2) (by omega) (by omega) (by omega) (by omega) (by omega) (by omega) (by omega) (by omega)).set (B := w.heap.size) (Nat.le_refl _) (by omega) (by omega) hRl ha 0 _).set (B := w.heap.size) (Nat.le_refl _) (by omega) (by omega) hRl ha 1 _).set (B := w.heap.size) (Nat.le_refl _) (by omega) (by omega) hRl ha 2 _
    · obtain rfl : u = 0 := by omega
      go_wp2_with fail
      refine (pick_any R a n cap bs (q + 1) 4 _ s.r (by omega) (by omega) (by omega) (by omega)).mono ?_
      rintro e w5 ⟨v, v0, v1, rfl, t5, R5⟩
      have s' := s.pick t5 R5
      clear s t5 R5
      have s := s'
      clear s' u0 u1 hu
      rcases (show v = 0 ∨ v = 1 ∨ v = 2 ∨ v = 3 from by omega) with rfl | rfl | rfl | rfl
      · have c0 := s.cb.cell 0
        have c1 := s.cb.cell 1
        have c2 := s.cb.cell 2
        have e0 := s.cb.free 0
        have g0 := s.rb.cell 0
        have g1 := s.rb.cell 1
        have g2 := s.rb.cell 2
        have h0 := s.rb.free 0
        have h1 := s.rb.free 1
        have h2 := s.rb.free 2
        simp only [List.getElem?_cons_zero, List.getElem?_cons_succ] at c0 c1 c2 g0 g1 g2
        have l1 := s.cb.lt
        have l2 := s.rb.lt
        have hf := s.hf
        have b1 := s.f.b1
        have b2 := s.f.b2
        have m1 : ¬ w.heap.size = fb := by omega
        have m2 : ¬ fb = w.heap.size := by omega
        go_wp2
        refine bodyPost_ret (v := formV (some ⟨B1, 0, none⟩) 2 3 (some ⟨B2, 0, none⟩) 2 2 K) (by simp [results, Tryz.results78, go_sem, g0, g1, g2]) rfl ⟨B1, 2, 3, B2, 2, 2, K, C.take 2, D, q + 1 + 1, rfl, ?_⟩
        exact ((((FmN.mk s.t s.r ((s.f.k1.ints' s.f.l1).cut (by omega)) (s.f.k2.ints' s.f.l2) (by omega) (by omega) (by omega) (by omega) (by omega) (by omega) (by omega) (by omega)).set (B := fb) (by omega) s.n1 s.n2 hRl ha 0 _).set (B := w.heap.size) (Nat.le_refl _) (by omega) (by omega) hRl ha 0 _).set (B := w.heap.size) (Nat.le_refl _) (by omega) (by omega) hRl ha 1 _).set (B := w.heap.size) (Nat.le_refl _) (by omega) (by omega) hRl ha 2 _
      · have al := (Below.refl w5.heap.size w5).alloc (Nat.le_refl _) (.cells #[.int .i64 0] 3)
        have sa := s.below al
        have oD := sa.f.k2.own (base := w.heap.size + 1) sa.f.l2 sa.f.b2 (by omega)
        have hsz := s.t.size
        have c1 := s.cb.cell 1
        simp only [List.getElem?_cons_zero, List.getElem?_cons_succ] at c1
        clear al s
        go_wp2_with (at_builtin; refine wpList_append_own _ rfl (.tmp 47) (.tmp 48) 23 rfl (w.heap.size + 1) 3 i0 (.int .i64 0) 1 8 Tryz.underlying23 hi hz0 hz1 hz2 rfl (by decide) _ _ _ rfl oD ⟨w5.heap.size, 0, none⟩ 1 1 [.int .i64 0] rfl rfl ?d1 ?d2 ?d3 ?d4 ?d5 ?_)
        case d1 =>
          intro i u hu
          match i, hu with
          | 0, hu => simp at hu; subst hu; simp [Addr.add]
        case d2 => intro u hu; simp at hu; subst hu; rfl
        case d3 => unfold maxLen; omega
        case d4 => omega
        case d5 => have := sa.hf; have := sa.cb.lt; omega
        intro v' w6 hown hgrow _
        rcases hown.2 with ⟨_, hh⟩ | ⟨g, cap', cur, rfl, hg, hh, hl, _, _, _⟩
        · omega
        have hI : Ints w6 (some ⟨g, 0, none⟩) 3 (D ++ [0]) := by
          refine ⟨by rw [List.length_append, sa.f.l2]; rfl, fun i hi => ⟨g, 0, rfl, ?_⟩⟩
          have := hown.cellAt i (by omega)
          rw [Nat.zero_add, this]
          have e2 : D.map (Value.int .i64) ++ [Value.int .i64 0] = (D ++ [0]).map (Value.int .i64) := by simp
          rw [e2, List.getElem?_map]
          have hl3 : i < (D ++ [0]).length := by rw [List.length_append, sa.f.l2]; exact hi
          rw [List.getElem?_eq_getElem hl3]
          simp [List.getElem?_eq_getElem hl3]
        have hgr : ∀ k, k < (w5.alloc (.cells #[.int .i64 0] 3)).heap.size → k ≠ B2 → w6.heap[k]? = (w5.alloc (.cells #[.int .i64 0] 3)).heap[k]? := fun k hk hne => hgrow.block k hk (fun e => hne (by simpa [Value.ownBlock] using e))
        have T6 : Touch (fun x => x = B2) (w5.alloc (.cells #[.int .i64 0] 3)) w6 := ⟨hgrow.os, hgrow.tape, hgrow.output, hgrow.size, fun k hk hs => hgr k hk hs⟩
        have b2 := sa.f.b2
        have b1 := sa.f.b1
        have t6 : Touch (fun x => x = R) w w6 := ⟨T6.os.trans sa.t.os, T6.tape.trans sa.t.tape, T6.output.trans sa.t.output, Nat.le_trans sa.t.size T6.size, fun k hk hs => (T6.block k (Nat.lt_of_lt_of_le hk sa.t.size) (by omega)).trans (sa.t.block k hk hs)⟩
        have r6 := sa.r.touch T6 (by omega) (fun h0 b o e => by have := ha h0 b o e; omega)
        have cb6 := sa.cb.touch T6 (fun e => sa.n2 e.symm)
        have rb6 := sa.rb.touch T6 (by omega)
        have C6 := (sa.f.k1.touchF T6 sa.f.ne).ints' sa.f.l1
        have hf := sa.hf
        have n1 := sa.n1
        have gfb : g ≠ fb := fun e => by
          have h1 : w6.heap[fb]? = _ := cb6
          rw [← e, hh] at h1
          simp at h1
        have gr : g ≠ w.heap.size := by omega
        have c0 := cb6.cell 0
        have c1' := cb6.cell 1
        have c2 := cb6.cell 2
        have e1 := cb6.free 1
        have r0 := rb6.cell 0
        have r1 := rb6.cell 1
        have r2 := rb6.cell 2
        have g0 := rb6.free 0
        have g1 := rb6.free 1
        have g2 := rb6.free 2
        simp only [List.getElem?_cons_zero, List.getElem?_cons_succ] at c0 c1' c2 r0 r1 r2
        have l1 := cb6.lt
        have l2 := rb6.lt
        have m1 : ¬ w.heap.size = fb := by omega
        have m2 : ¬ fb = w.heap.size := by omega
        have hq := FmN.mk (p := p) t6 r6 C6 hI (by omega) (by omega) (by omega) (by omega) (by omega) (by omega) (by omega) (by omega)
        clear hown hgrow hgr T6 oD sa c1 C6 hI r6 t6 cb6 rb6
        go_wp2
        refine bodyPost_ret (v := formV (some ⟨B1, 0, none⟩) 3 3 (some ⟨g, 0, none⟩) 3 cap' K) (by simp [results, Tryz.results78, go_sem, r0, r1, r2]) rfl ⟨B1, 3, 3, g, 3, cap', K, C, D ++ [0], q + 1 + 1, rfl, ?_⟩
        exact (((hq.set (B := fb) (by omega) n1 gfb hRl ha 1 _).set (B := w.heap.size) (Nat.le_refl _) (by omega) gr hRl ha 0 _).set (B := w.heap.size) (Nat.le_refl _) (by omega) gr hRl ha 1 _).set (B := w.heap.size) (Nat.le_refl _) (by omega) gr hRl ha 2 _
      · have al := (Below.refl w5.heap.size w5).alloc (Nat.le_refl _) (.cells #[.int .i64 10000001, .int .i64 (-10000001), .int .i64 10000000] 3)
        have lb0 := Cel.new w5 [.int .i64 10000001, .int .i64 (-10000001), .int .i64 10000000] 3
        have sa := s.below al
        have hRR := s.hR
        have hsz := s.t.size
        clear al s
        go_wp2_with fail
        refine (pick_any R a n cap bs _ 3 _ sa.r (by omega) (by omega) (by omega) (by omega)).mono ?_
        rintro e w6 ⟨r, r0, r1, rfl, t6, R6⟩
        obtain ⟨j, rfl⟩ := Int.eq_ofNat_of_zero_le r0
        have hj : j < 3 := by omega
        have hj' : (j : Int) < 3 := by omega
        have s := sa.pick t6 R6
        have lb := lb0.touch t6 (by omega)
        have hc := lit_cell (xs := [10000001, -10000001, 10000000]) lb hj
        generalize ([10000001, -10000001, 10000000] : List Int)[j]?.getD 0 = y at hc
        clear r0 r1 sa t6 R6 lb lb0
        have c0 := s.cb.cell 0
        have c1 := s.cb.cell 1
        have c2 := s.cb.cell 2
        have e2 := s.cb.free 2
        have g0 := s.rb.cell 0
        have g1 := s.rb.cell 1
        have g2 := s.rb.cell 2
        have h0 := s.rb.free 0
        have h1 := s.rb.free 1
        have h2 := s.rb.free 2
        simp only [List.getElem?_cons_zero, List.getElem?_cons_succ] at c0 c1 c2 g0 g1 g2
        have l1 := s.cb.lt
        have l2 := s.rb.lt
        have hf := s.hf
        have b1 := s.f.b1
        have b2 := s.f.b2
        have m1 : ¬ w.heap.size = fb := by omega
        have m2 : ¬ fb = w.heap.size := by omega
        go_wp2
        refine bodyPost_ret (v := formV (some ⟨B1, 0, none⟩) 3 3 (some ⟨B2, 0, none⟩) 2 2 y) (by simp [results, Tryz.results78, go_sem, g0, g1, g2]) rfl ⟨B1, 3, 3, B2, 2, 2, y, C, D, q + 1 + 1 + 1, rfl, ?_⟩
        exact ((((FmN.mk s.t s.r (s.f.k1.ints' s.f.l1) (s.f.k2.ints' s.f.l2) (by omega) (by omega) (by omega) (by omega) (by omega) (by omega) (by omega) (by omega)).set (B := fb) (by omega) s.n1 s.n2 hRl ha 2 _).set (B := w.heap.size) (Nat.le_refl _) (by omega) (by omega) hRl ha 0 _).set (B := w.heap.size) (Nat.le_refl _) (by omega) (by omega) hRl ha 1 _).set (B := w.heap.size) (Nat.le_refl _) (by omega) (by omega) hRl ha 2 _
      · go_upto_region 7 with fail
        refine wp_region_ends (fun X => X.cell? ⟨fb, 0, none⟩ = some (.slice (some ⟨B1, 0, none⟩) 3 3)) (fun _ => True) 10 (by kernel_rfl) ?_
        have sd := s.below ((Below.refl _ _).drew)
        obtain ⟨V0, hV0⟩ : ∃ V, V = w5.drew := ⟨_, rfl⟩
        rw [← hV0] at sd ⊢
        clear hV0 s
        have hS0 : (fun X : World => X.cell? ⟨fb, 0, none⟩ = some (.slice (some ⟨B1, 0, none⟩) 3 3)) V0 ∧ True := ⟨sd.cb.cell 0, trivial⟩
        refine tkL (i := 0) rfl hS0 ?_
        refine tkL (i := 1) rfl hS0 ?_
        refine tkL (i := 2) rfl hS0 ?_
        refine tkL (i := 5) rfl hS0 ?_
        clear hS0
        refine wpAnyE_two (i := 3) (j := 4) (by kernel_rfl) rfl rfl (fun Kn hK => ?_) (fun Kn hK => ?_)
        · go_simp
          refine (pick_any R a n cap bs _ 3 _ sd.r (by omega) (by omega) (by omega) (by omega)).mono ?_
          rintro e wA ⟨ri, r0, r1, rfl, t5, R5⟩
          obtain ⟨i, rfl⟩ := Int.eq_ofNat_of_zero_le r0
          have hi : i < 3 := by omega
          have hi' : (i : Int) < 3 := by omega
          clear r0 r1
          have sa := sd.pick t5 R5
          clear t5 R5
          dsimp only
          refine hK.out _ _ ⟨sa.cb.cell 0, fun _ => trivial⟩ ?_
          clear hK
          refine wpAnyE_two (i := 4) (j := 6) (by kernel_rfl) rfl rfl (fun Kn hK => ?_) (fun Kn hK => ?_)
          · go_simp
            have al := (Below.refl wA.heap.size wA).alloc (Nat.le_refl _) (.cells #[.int .i64 10000001, .int .i64 (-10000001)] 3)
            have lb := Cel.new wA [.int .i64 10000001, .int .i64 (-10000001)] 3
            have sb := sa.below al
            clear al
            refine hK.out _ _ ⟨sb.cb.cell 0, fun _ => trivial⟩ ?_
            clear hK
            refine wpAnyE_one (i := 6) (by kernel_rfl) rfl (fun Kn hK => ?_)
            go_simp
            refine (pick_any R a n cap bs _ 2 _ sb.r (by omega) (by omega) (by omega) (by omega)).mono ?_
            rintro e wB ⟨rj, r0, r1, rfl, t5, R5⟩
            obtain ⟨j, rfl⟩ := Int.eq_ofNat_of_zero_le r0
            have hj : j < 2 := by omega
            have hj' : (j : Int) < 2 := by omega
            clear r0 r1
            have sc := sb.pick t5 R5
            replace lb := lb.touch t5 (by have h1 := sa.hR; have h2 := sa.t.size; omega)
            clear t5 R5
            dsimp only
            refine hK.out _ _ ⟨sc.cb.cell 0, fun _ => trivial⟩ ?_
            clear hK
            have hS5 : (fun X : World => X.cell? ⟨fb, 0, none⟩ = some (.slice (some ⟨B1, 0, none⟩) 3 3)) wB ∧ True := ⟨sc.cb.cell 0, trivial⟩
            refine tkL (i := 7) rfl hS5 ?_
            have hc := lit_cell (xs := [10000001, -10000001]) lb hj
            have hy := litF_2 j hj
            generalize ([10000001, -10000001] : List Int)[j]?.getD 0 = y at hc hy
            refine wpAnyE_one (i := 8) (by kernel_rfl) rfl (fun Kn hK => ?_)
            go_simp
            refine hK.out _ _ ⟨sc.cb.cell 0, fun _ => trivial⟩ ?_
            clear hK
            refine tkL (i := 9) rfl hS5 ?_
            have s6 := sc.setC i hy.1 hy.2
            have kc := sc.f.k1.cell i (by rw [sc.f.l1]; omega)
            have kf := sc.f.k1.free i
            have kl := sc.f.k1.lt
            refine wpAnyE_one (i := 10) (by kernel_rfl) rfl (fun Kn hK => ?_)
            go_simp
            refine hK.out _ _ ⟨s6.cb.cell 0, fun _ => trivial⟩ ?_
            clear hK
            refine wpAnyE_done (by kernel_rfl) ?_ _
            clear hS5 hc kc kf lb
            have s := s6
            clear s6
            have c0 := s.cb.cell 0
            have c1 := s.cb.cell 1
            have c2 := s.cb.cell 2
            have g0 := s.rb.cell 0
            have g1 := s.rb.cell 1
            have g2 := s.rb.cell 2
            have h0 := s.rb.free 0
            have h1 := s.rb.free 1
            have h2 := s.rb.free 2
            simp only [List.getElem?_cons_zero, List.getElem?_cons_succ] at c0 c1 c2 g0 g1 g2
            have l1 := s.cb.lt
            have l2 := s.rb.lt
            have hf := s.hf
            have b1 := s.f.b1
            have b2 := s.f.b2
            have m1 : ¬ w.heap.size = fb := by omega
            have m2 : ¬ fb = w.heap.size := by omega
            go_wp2
            refine bodyPost_ret (v := formV (some ⟨B1, 0, none⟩) 3 3 (some ⟨B2, 0, none⟩) 2 2 K) (by simp [results, Tryz.results78, go_sem, g0, g1, g2]) rfl ⟨B1, 3, 3, B2, 2, 2, K, C.set i y, D, q + 1 + 1 + 1 + 1, rfl, ?_⟩
            exact (((FmN.mk s.t s.r (s.f.k1.ints' s.f.l1) (s.f.k2.ints' s.f.l2) (by omega) (by omega) (by omega) (by omega) (by omega) (by omega) (by omega) (by omega)).set (B := w.heap.size) (Nat.le_refl _) (by omega) (by omega) hRl ha 0 _).set (B := w.heap.size) (Nat.le_refl _) (by omega) (by omega) hRl ha 1 _).set (B := w.heap.size) (Nat.le_refl _) (by omega) (by omega) hRl ha 2 _
          · go_simp
            refine (pick_any R a n cap bs _ 2 _ sa.r (by omega) (by omega) (by omega) (by omega)).mono ?_
            rintro e wB ⟨rj, r0, r1, rfl, t5, R5⟩
            obtain ⟨j, rfl⟩ := Int.eq_ofNat_of_zero_le r0
            have hj : j < 2 := by omega
            have hj' : (j : Int) < 2 := by omega
            clear r0 r1
            have sb := sa.pick t5 R5
            clear t5 R5
            dsimp only
            refine hK.out _ _ ⟨sb.cb.cell 0, fun _ => trivial⟩ ?_
            clear hK
            refine wpAnyE_one (i := 4) (by kernel_rfl) rfl (fun Kn hK => ?_)
            go_simp
            have al := (Below.refl wB.heap.size wB).alloc (Nat.le_refl _) (.cells #[.int .i64 10000001, .int .i64 (-10000001)] 3)
            have lb := Cel.new wB [.int .i64 10000001, .int .i64 (-10000001)] 3
            have sc := sb.below al
            clear al
            refine hK.out _ _ ⟨sc.cb.cell 0, fun _ => trivial⟩ ?_
            clear hK
            have hS5 : (fun X : World => X.cell? ⟨fb, 0, none⟩ = some (.slice (some ⟨B1, 0, none⟩) 3 3)) (wB.alloc (.cells #[.int .i64 10000001, .int .i64 (-10000001)] 3)) ∧ True := ⟨sc.cb.cell 0, trivial⟩
            refine tkL (i := 7) rfl hS5 ?_
            have hc := lit_cell (xs := [10000001, -10000001]) lb hj
            have hy := litF_2 j hj
            generalize ([10000001, -10000001] : List Int)[j]?.getD 0 = y at hc hy
            refine wpAnyE_one (i := 8) (by kernel_rfl) rfl (fun Kn hK => ?_)
            go_simp
            refine hK.out _ _ ⟨sc.cb.cell 0, fun _ => trivial⟩ ?_
            clear hK
            refine tkL (i := 9) rfl hS5 ?_
            have s6 := sc.setC i hy.1 hy.2
            have kc := sc.f.k1.cell i (by rw [sc.f.l1]; omega)
            have kf := sc.f.k1.free i
            have kl := sc.f.k1.lt
            refine wpAnyE_one (i := 10) (by kernel_rfl) rfl (fun Kn hK => ?_)
            go_simp
            refine hK.out _ _ ⟨s6.cb.cell 0, fun _ => trivial⟩ ?_
            clear hK
            refine wpAnyE_done (by kernel_rfl) ?_ _
            clear hS5 hc kc kf lb
            have s := s6
            clear s6
            have c0 := s.cb.cell 0
            have c1 := s.cb.cell 1
            have c2 := s.cb.cell 2
            have g0 := s.rb.cell 0
            have g1 := s.rb.cell 1
            have g2 := s.rb.cell 2
            have h0 := s.rb.free 0
            have h1 := s.rb.free 1
            have h2 := s.rb.free 2
            simp only [List.getElem?_cons_zero, List.getElem?_cons_succ] at c0 c1 c2 g0 g1 g2
            have l1 := s.cb.lt
            have l2 := s.rb.lt
            have hf := s.hf
            have b1 := s.f.b1
            have b2 := s.f.b2
            have m1 : ¬ w.heap.size = fb := by omega
            have m2 : ¬ fb = w.heap.size := by omega
            go_wp2
            refine bodyPost_ret (v := formV (some ⟨B1, 0, none⟩) 3 3 (some ⟨B2, 0, none⟩) 2 2 K) (by simp [results, Tryz.results78, go_sem, g0, g1, g2]) rfl ⟨B1, 3, 3, B2, 2, 2, K, C.set i y, D, q + 1 + 1 + 1 + 1, rfl, ?_⟩
            exact (((FmN.mk s.t s.r (s.f.k1.ints' s.f.l1) (s.f.k2.ints' s.f.l2) (by omega) (by omega) (by omega) (by omega) (by omega) (by omega) (by omega) (by omega)).set (B := w.heap.size) (Nat.le_refl _) (by omega) (by omega) hRl ha 0 _).set (B := w.heap.size) (Nat.le_refl _) (by omega) (by omega) hRl ha 1 _).set (B := w.heap.size) (Nat.le_refl _) (by omega) (by omega) hRl ha 2 _
        · go_simp
          have al := (Below.refl V0.heap.size V0).alloc (Nat.le_refl _) (.cells #[.int .i64 10000001, .int .i64 (-10000001)] 3)
          have lb := Cel.new V0 [.int .i64 10000001, .int .i64 (-10000001)] 3
          have sa := sd.below al
          clear al
          refine hK.out _ _ ⟨sa.cb.cell 0, fun _ => trivial⟩ ?_
          clear hK
          refine wpAnyE_one (i := 3) (by kernel_rfl) rfl (fun Kn hK => ?_)
          go_simp
          refine (pick_any R a n cap bs _ 3 _ sa.r (by omega) (by omega) (by omega) (by omega)).mono ?_
          rintro e wA ⟨ri, r0, r1, rfl, t5, R5⟩
          obtain ⟨i, rfl⟩ := Int.eq_ofNat_of_zero_le r0
          have hi : i < 3 := by omega
          have hi' : (i : Int) < 3 := by omega
          clear r0 r1
          have sb := sa.pick t5 R5
          replace lb := lb.touch t5 (by have h1 := sd.hR; have h2 := sd.t.size; omega)
          clear t5 R5
          dsimp only
          refine hK.out _ _ ⟨sb.cb.cell 0, fun _ => trivial⟩ ?_
          clear hK
          refine wpAnyE_one (i := 6) (by kernel_rfl) rfl (fun Kn hK => ?_)
          go_simp
          refine (pick_any R a n cap bs _ 2 _ sb.r (by omega) (by omega) (by omega) (by omega)).mono ?_
          rintro e wB ⟨rj, r0, r1, rfl, t5, R5⟩
          obtain ⟨j, rfl⟩ := Int.eq_ofNat_of_zero_le r0
          have hj : j < 2 := by omega
          have hj' : (j : Int) < 2 := by omega
          clear r0 r1
          have sc := sb.pick t5 R5
          replace lb := lb.touch t5 (by have h1 := sd.hR; have h2 := sd.t.size; omega)
          clear t5 R5
          dsimp only
          refine hK.out _ _ ⟨sc.cb.cell 0, fun _ => trivial⟩ ?_
          clear hK
          have hS5 : (fun X : World => X.cell? ⟨fb, 0, none⟩ = some (.slice (some ⟨B1, 0, none⟩) 3 3)) wB ∧ True := ⟨sc.cb.cell 0, trivial⟩
          refine tkL (i := 7) rfl hS5 ?_
          have hc := lit_cell (xs := [10000001, -10000001]) lb hj
          have hy := litF_2 j hj
          generalize ([10000001, -10000001] : List Int)[j]?.getD 0 = y at hc hy
          refine wpAnyE_one (i := 8) (by kernel_rfl) rfl (fun Kn hK => ?_)
          go_simp
          refine hK.out _ _ ⟨sc.cb.cell 0, fun _ => trivial⟩ ?_
          clear hK
          refine tkL (i := 9) rfl hS5 ?_
          have s6 := sc.setC i hy.1 hy.2
          have kc := sc.f.k1.cell i (by rw [sc.f.l1]; omega)
          have kf := sc.f.k1.free i
          have kl := sc.f.k1.lt
          refine wpAnyE_one (i := 10) (by kernel_rfl) rfl (fun Kn hK => ?_)
          go_simp
          refine hK.out _ _ ⟨s6.cb.cell 0, fun _ => trivial⟩ ?_
          clear hK
          refine wpAnyE_done (by kernel_rfl) ?_ _
          clear hS5 hc kc kf lb
          have s := s6
          clear s6
          have c0 := s.cb.cell 0
          have c1 := s.cb.cell 1
          have c2 := s.cb.cell 2
          have g0 := s.rb.cell 0
          have g1 := s.rb.cell 1
          have g2 := s.rb.cell 2
          have h0 := s.rb.free 0
          have h1 := s.rb.free 1
          have h2 := s.rb.free 2
          simp only [List.getElem?_cons_zero, List.getElem?_cons_succ] at c0 c1 c2 g0 g1 g2
          have l1 := s.cb.lt
          have l2 := s.rb.lt
          have hf := s.hf
          have b1 := s.f.b1
          have b2 := s.f.b2
          have m1 : ¬ w.heap.size = fb := by omega
          have m2 : ¬ fb = w.heap.size := by omega
          go_wp2
          refine bodyPost_ret (v := formV (some ⟨B1, 0, none⟩) 3 3 (some ⟨B2, 0, none⟩) 2 2 K) (by simp [results, Tryz.results78, go_sem, g0, g1, g2]) rfl ⟨B1, 3, 3, B2, 2, 2, K, C.set i y, D, q + 1 + 1 + 1 + 1, rfl, ?_⟩
          exact (((FmN.mk s.t s.r (s.f.k1.ints' s.f.l1) (s.f.k2.ints' s.f.l2) (by omega) (by omega) (by omega) (by omega) (by omega) (by omega) (by omega) (by omega)).set (B := w.heap.size) (Nat.le_refl _) (by omega) (by omega) hRl ha 0 _).set (B := w.heap.size) (Nat.le_refl _) (by omega) (by omega) hRl ha 1 _).set (B := w.heap.size) (Nat.le_refl _) (by omega) (by omega) hRl ha 2 _

end Go.Proofs.YtfkcfjkojfnfnaaGreatDoor
