/-
  Lemmas that the claim's last text rests on.
-/
import Derived.Test.YtemcinobgdphnaaGreatQLC
namespace Go.Proofs.YtemcinobgdphnaaGreat
open Go.RowKit
open World renaming size_alloc → qA
open List renaming getElem?_eq_getElem → qB, getElem?_cons_zero → qC, getElem?_cons_succ → qD
open Nat renaming le_refl → qE
set_option linter.unusedVariables false
set_option maxRecDepth 100000
set_option maxHeartbeats 25600000
variable {B cap cap' n : Nat} {C D zs : List Int} {K k : Int} {W w w' : World} {a ad c : Option Addr}
structure FmN (w w' : World) (R : Nat) (a : Option Addr) (n cap : Nat) (bs : List Int) (p q : Int) (B1 nC B2 nD : Nat) (C D : List Int) : Prop where
 t : Touch (fun x => x = R) w w'
 r : Rd w' R a n cap bs q
 c : Ints w' (some ⟨B1, 0, none⟩) nC C
 d : Ints w' (some ⟨B2, 0, none⟩) nD D
 c4 : nC <= 4
 d4 : nD <= 4
 c1 : 1 <= nC
 d1 : 1 <= nD
 b1 : w.heap.size <= B1
 b2 : w.heap.size <= B2
 q0 : p <= q
 q1 : q <= p + 20
theorem Blk.own {base : Nat} (h : Blk W B zs) (hl : zs.length = n) (hb : base <= B) (hn : n <= 1000) : W.ownsRow base 3 1 (.slice (some ⟨B, 0, none⟩) n n) n (zs.map (Value.int .i64)) := by
 subst hl
 exact ⟨by simp, .inr ⟨B, zs.length, _, rfl, hb, h, qE _, by unfold maxLen; omega, by simp, by rw [List.take_of_length_le (by simp)]⟩⟩
theorem Ints.setFar (h : Ints W a n zs) (hB : ∀ b o, a = some ⟨b, o, none⟩ -> b ≠ B) (i : Nat) (v : Value) : Ints (W.setCell ⟨B, i, none⟩ v) a n zs := by
 refine ⟨h.1, fun k hk => ?_⟩;obtain ⟨b, off, e, hc⟩ := h.2 k hk
 exact ⟨b, off, e, (World.cell?_of_block (Below.heap_setCell W ⟨B, i, none⟩ v b (hB b off e))).trans hc⟩
theorem Ints.cut {k : Nat} (h : Ints W a n zs) (hk : k <= n) : Ints W a k (zs.take k) := by
 refine ⟨by rw [List.length_take, h.1]; omega, fun i hi => ?_⟩;obtain ⟨b, off, e, hc⟩ := h.2 i (by omega)
 exact ⟨b, off, e, by rw [hc]; simp [hi]⟩
theorem FmN.set {R : Nat} {bs : List Int} {p q : Int} {B1 nC B2 nD : Nat} (h : FmN w W R a n cap bs p q B1 nC B2 nD C D) {B : Nat} (hB : w.heap.size <= B) (h1 : B1 ≠ B) (h2 : B2 ≠ B) (hR : R < w.heap.size) (ha : 0 < n -> ∀ b o, a = some ⟨b, o, none⟩ -> b < w.heap.size) (i : Nat) (v : Value) : FmN w (W.setCell ⟨B, i, none⟩ v) R a n cap bs p q B1 nC B2 nD C D :=
 ⟨h.t.setNewF hB i v, h.r.setNew (by omega) (fun h0 b o e => by have := ha h0 b o e; omega) i v, h.c.setFar (fun b o e => by simp only [Option.some.injEq, Addr.mk.injEq] at e; omega) i v, h.d.setFar (fun b o e => by simp only [Option.some.injEq, Addr.mk.injEq] at e; omega) i v, h.c4, h.d4, h.c1, h.d1, h.b1, h.b2, h.q0, h.q1⟩
theorem bnd.up {M N : Int} (h : bnd M zs) (hM : M <= N) : bnd N zs := fun i => by have := h i; omega
theorem litF_4 (j : Nat) (hj : j < 4) : -10000001 <= ([10000000, -10000000, 1000, 77] : List Int)[j]?.getD 0 /\ ([10000000, -10000000, 1000, 77] : List Int)[j]?.getD 0 <= 10000001 := by
 rcases j with _ | _ | _ | _ | j <;> first | omega | simp
theorem litF_2 (j : Nat) (hj : j < 2) : -10000001 <= ([10000001, -10000001] : List Int)[j]?.getD 0 /\ ([10000001, -10000001] : List Int)[j]?.getD 0 <= 10000001 := by
 rcases j with _ | _ | _ | _ | j <;> first | omega | simp
theorem form_f (R : Nat) (a : Option Addr) (n cap : Nat) (bs : List Int) (p N : Int) {w : World} (hR : Rd w R a n cap bs p) (hp : 0 <= p) (hp1 : p <= 8000000) (hN : 1 <= N) (hN1 : N <= 1000) (ha : 0 < n -> ∀ b o, a = some ⟨b, o, none⟩ -> b < w.heap.size) :
  Calls Tryz.prog 121 #[.pointer (some ⟨R, 0, none⟩), .int .i64 N] w fun e w' => ∃ B1 nC cC B2 nD cD K C D q, e = .returned (formV (some ⟨B1, 0, none⟩) nC cC (some ⟨B2, 0, none⟩) nD cD K) /\ FmN w w' R a n cap bs p q B1 nC B2 nD C D := by
 have hRl := hR.c.lt;have bx := Cel.new w [.slice none 0 0, .slice none 0 0, .int .i64 0] 86;have B0 := (Below.refl w.heap.size w).alloc (qE _) (.cells #[.slice none 0 0, .slice none 0 0, .int .i64 0] 86);obtain ⟨i0, hi, hz0, hz1, hz2⟩ := info_parts Tryz.infoInt
 go_enter Tryz.func121, Tryz.ntmps121
 go_wp2_with fail
 refine (small_f R a n cap bs p (hR.below B0) hp (by omega) (fun h0 b o e => by have := ha h0 b o e; have := B0.size; omega)).mono ?_;rintro e w1 ⟨B1, B2, C, D, K, rfl, t1, R1, f1, s1, s2, s3, s4⟩;have al := (Below.refl w1.heap.size w1).alloc (qE _) (.cells #[.slice (some ⟨B1, 0, none⟩) 3 3, .slice (some ⟨B2, 0, none⟩) 2 2, .int .i64 K] 86);have z1 := f1.b1;have z2 := f1.b2;have z3 := t1.size;rw [qA] at z1 z2 z3;have lt1 := f1.k1.lt;have lt2 := f1.k2.lt
 have s0 : SmI w (w1.alloc (.cells #[.slice (some ⟨B1, 0, none⟩) 3 3, .slice (some ⟨B2, 0, none⟩) 2 2, .int .i64 K] 86)) R a n cap bs (p + 6) w1.heap.size B1 B2 C D K 10000001 :=
  ⟨((Touch.of B0).trans t1).trans (Touch.of al), R1.below al, (f1.below al).mono (by rw [qA]; omega), Cel.new w1 _ _, (bx.touch t1 (by omega)).below al, by omega, by omega, by omega, hRl, ha, s1.up (by omega), s2.up (by omega)⟩
 obtain ⟨fb, hfb⟩ : ∃ x, x = w1.heap.size := ⟨_, rfl⟩
 obtain ⟨W2, hW2⟩ : ∃ W, W = w1.alloc (.cells #[.slice (some ⟨B1, 0, none⟩) 3 3, .slice (some ⟨B2, 0, none⟩) 2 2, .int .i64 K] 86) := ⟨_, rfl⟩
 rw [<- hfb, <- hW2] at s0
 go_wp2_with fail
 rw [<- hfb, <- hW2];clear hfb hW2 hR bx B0 t1 R1 f1 al z1 z2 z3 lt1 lt2 s1 s2;refine (pick_any R a n cap bs (p + 6) 4 s0.r).mono ?_;rintro e w3 ⟨r, r0, r1, rfl, t3, R3⟩;have s := s0.pick t3 R3;clear s0 t3 R3
 go_upto_if 10 with fail
 go_cut [] (fun wx => ∃ C q, SmI w wx R a n cap bs q fb B1 B2 C D K 10000001 /\ p <= q /\ q <= p + 9)
 case first =>
  by_cases hr : r = 0
  ·have hr' : (r == 0) = true := by simpa using hr
   go_upto_region 3 with fail
   clear hr hr' r0 r1;refine wp_region_ends (fun X => X.cell? ⟨fb, 0, none⟩ = some (.slice (some ⟨B1, 0, none⟩) 3 3)) (fun _ => True) 10 (by kernel_rfl) ?_;have sd := s.below ((Below.refl _ _).drew);obtain ⟨V0, hV0⟩ : ∃ V, V = w3.drew := ⟨_, rfl⟩
   rw [<- hV0] at sd ⊢;clear hV0 s;have hS0 : (fun X : World => X.cell? ⟨fb, 0, none⟩ = some (.slice (some ⟨B1, 0, none⟩) 3 3)) V0 /\ True := ⟨sd.cb.cell 0, trivial⟩
   refine tkl 0 rfl hS0 ?_;refine tkl 1 rfl hS0 ?_;refine tkl 2 rfl hS0 ?_;refine tkl 5 rfl hS0 ?_;clear hS0;refine wpAnyE_two (i := 3) (j := 4) (by kernel_rfl) rfl rfl (fun Kn hK => ?_) (fun Kn hK => ?_)
   ·go_simp;refine (pick_any R a n cap bs _ 3 sd.r).mono ?_;rintro e wA ⟨ri, r0, r1, rfl, t5, R5⟩;obtain ⟨i, rfl⟩ := Int.eq_ofNat_of_zero_le r0;have hi : i < 3 := by omega
    have hi' : (i : Int) < 3 := by omega
    clear r0 r1;have sa := sd.pick t5 R5;clear t5 R5;dsimp only;refine kk0 hK (sa.cb.cell 0) ?_;clear hK;refine wpAnyE_two (i := 4) (j := 6) (by kernel_rfl) rfl rfl (fun Kn hK => ?_) (fun Kn hK => ?_)
    ·go_simp;have al := (Below.refl wA.heap.size wA).alloc (qE _) (.cells #[.int .i64 10000000, .int .i64 (-10000000), .int .i64 1000, .int .i64 77] 3);have lb := Cel.new wA [.int .i64 10000000, .int .i64 (-10000000), .int .i64 1000, .int .i64 77] 3;have sb := sa.below al;clear al;refine kk0 hK (sb.cb.cell 0) ?_;clear hK;refine wpAnyE_one (i := 6) (by kernel_rfl) rfl (fun Kn hK => ?_);go_simp;refine (pick_any R a n cap bs _ 4 sb.r).mono ?_;rintro e wB ⟨rj, r0, r1, rfl, t5, R5⟩;obtain ⟨j, rfl⟩ := Int.eq_ofNat_of_zero_le r0;have hj : j < 4 := by omega
     have hj' : (j : Int) < 4 := by omega
     clear r0 r1;have sc := sb.pick t5 R5;replace lb := lb.touch t5 (by have h1 := sa.hR; have h2 := sa.t.size; omega);clear t5 R5;dsimp only;refine kk0 hK (sc.cb.cell 0) ?_;clear hK;have hS5 : (fun X : World => X.cell? ⟨fb, 0, none⟩ = some (.slice (some ⟨B1, 0, none⟩) 3 3)) wB /\ True := ⟨sc.cb.cell 0, trivial⟩
     refine tkl 7 rfl hS5 ?_;have hc := lit_cell (xs := [10000000, -10000000, 1000, 77]) lb hj;have hy := litF_4 j hj;generalize ([10000000, -10000000, 1000, 77] : List Int)[j]?.getD 0 = y at hc hy;refine wpAnyE_one (i := 8) (by kernel_rfl) rfl (fun Kn hK => ?_);go_simp;refine kk0 hK (sc.cb.cell 0) ?_;clear hK;refine tkl 9 rfl hS5 ?_;have s6 := sc.setC i hy.1 hy.2;have kc := sc.f.k1.cell i (by rw [sc.f.l1]; omega);have kf := sc.f.k1.free i;have kl := sc.f.k1.lt;refine wpAnyE_one (i := 10) (by kernel_rfl) rfl (fun Kn hK => ?_);go_simp;refine kk0 hK (s6.cb.cell 0) ?_;clear hK;refine wod ?_ _;clear hS5 hc kc kf lb
     go_wp2
     go_meet
     case rel => exact ⟨_, _, s6, by omega, by omega⟩
    go_simp;refine (pick_any R a n cap bs _ 4 sa.r).mono ?_;rintro e wB ⟨rj, r0, r1, rfl, t5, R5⟩;obtain ⟨j, rfl⟩ := Int.eq_ofNat_of_zero_le r0;have hj : j < 4 := by omega
    have hj' : (j : Int) < 4 := by omega
    clear r0 r1;have sb := sa.pick t5 R5;clear t5 R5;dsimp only;refine kk0 hK (sb.cb.cell 0) ?_;clear hK;refine wpAnyE_one (i := 4) (by kernel_rfl) rfl (fun Kn hK => ?_);go_simp;have al := (Below.refl wB.heap.size wB).alloc (qE _) (.cells #[.int .i64 10000000, .int .i64 (-10000000), .int .i64 1000, .int .i64 77] 3);have lb := Cel.new wB [.int .i64 10000000, .int .i64 (-10000000), .int .i64 1000, .int .i64 77] 3;have sc := sb.below al;clear al;refine kk0 hK (sc.cb.cell 0) ?_;clear hK;have hS5 : (fun X : World => X.cell? ⟨fb, 0, none⟩ = some (.slice (some ⟨B1, 0, none⟩) 3 3)) (wB.alloc (.cells #[.int .i64 10000000, .int .i64 (-10000000), .int .i64 1000, .int .i64 77] 3)) /\ True := ⟨sc.cb.cell 0, trivial⟩
    refine tkl 7 rfl hS5 ?_;have hc := lit_cell (xs := [10000000, -10000000, 1000, 77]) lb hj;have hy := litF_4 j hj;generalize ([10000000, -10000000, 1000, 77] : List Int)[j]?.getD 0 = y at hc hy;refine wpAnyE_one (i := 8) (by kernel_rfl) rfl (fun Kn hK => ?_);go_simp;refine kk0 hK (sc.cb.cell 0) ?_;clear hK;refine tkl 9 rfl hS5 ?_;have s6 := sc.setC i hy.1 hy.2;have kc := sc.f.k1.cell i (by rw [sc.f.l1]; omega);have kf := sc.f.k1.free i;have kl := sc.f.k1.lt;refine wpAnyE_one (i := 10) (by kernel_rfl) rfl (fun Kn hK => ?_);go_simp;refine kk0 hK (s6.cb.cell 0) ?_;clear hK;refine wod ?_ _;clear hS5 hc kc kf lb
    go_wp2
    go_meet
    case rel => exact ⟨_, _, s6, by omega, by omega⟩
   go_simp;have al := (Below.refl V0.heap.size V0).alloc (qE _) (.cells #[.int .i64 10000000, .int .i64 (-10000000), .int .i64 1000, .int .i64 77] 3);have lb := Cel.new V0 [.int .i64 10000000, .int .i64 (-10000000), .int .i64 1000, .int .i64 77] 3;have sa := sd.below al;clear al;refine kk0 hK (sa.cb.cell 0) ?_;clear hK;refine wpAnyE_one (i := 3) (by kernel_rfl) rfl (fun Kn hK => ?_);go_simp;refine (pick_any R a n cap bs _ 3 sa.r).mono ?_;rintro e wA ⟨ri, r0, r1, rfl, t5, R5⟩;obtain ⟨i, rfl⟩ := Int.eq_ofNat_of_zero_le r0;have hi : i < 3 := by omega
   have hi' : (i : Int) < 3 := by omega
   clear r0 r1;have sb := sa.pick t5 R5;replace lb := lb.touch t5 (by have h1 := sd.hR; have h2 := sd.t.size; omega);clear t5 R5;dsimp only;refine kk0 hK (sb.cb.cell 0) ?_;clear hK;refine wpAnyE_one (i := 6) (by kernel_rfl) rfl (fun Kn hK => ?_);go_simp;refine (pick_any R a n cap bs _ 4 sb.r).mono ?_;rintro e wB ⟨rj, r0, r1, rfl, t5, R5⟩;obtain ⟨j, rfl⟩ := Int.eq_ofNat_of_zero_le r0;have hj : j < 4 := by omega
   have hj' : (j : Int) < 4 := by omega
   clear r0 r1;have sc := sb.pick t5 R5;replace lb := lb.touch t5 (by have h1 := sd.hR; have h2 := sd.t.size; omega);clear t5 R5;dsimp only;refine kk0 hK (sc.cb.cell 0) ?_;clear hK;have hS5 : (fun X : World => X.cell? ⟨fb, 0, none⟩ = some (.slice (some ⟨B1, 0, none⟩) 3 3)) wB /\ True := ⟨sc.cb.cell 0, trivial⟩
   refine tkl 7 rfl hS5 ?_;have hc := lit_cell (xs := [10000000, -10000000, 1000, 77]) lb hj;have hy := litF_4 j hj;generalize ([10000000, -10000000, 1000, 77] : List Int)[j]?.getD 0 = y at hc hy;refine wpAnyE_one (i := 8) (by kernel_rfl) rfl (fun Kn hK => ?_);go_simp;refine kk0 hK (sc.cb.cell 0) ?_;clear hK;refine tkl 9 rfl hS5 ?_;have s6 := sc.setC i hy.1 hy.2;have kc := sc.f.k1.cell i (by rw [sc.f.l1]; omega);have kf := sc.f.k1.free i;have kl := sc.f.k1.lt;refine wpAnyE_one (i := 10) (by kernel_rfl) rfl (fun Kn hK => ?_);go_simp;refine kk0 hK (s6.cb.cell 0) ?_;clear hK;refine wod ?_ _;clear hS5 hc kc kf lb
   go_wp2
   go_meet
   case rel => exact ⟨_, _, s6, by omega, by omega⟩
  have hr' : (r == 0) = false := by simpa using hr
  go_wp2
  go_meet
  case rel => exact ⟨_, _, s, by omega, by omega⟩
 case rest =>
  clear s r0 r1;obtain ⟨C, q, s0, q0, q1⟩ := hcut
  go_wp2_with fail
  refine (pick_any R a n cap bs q N s0.r).mono ?_;rintro e w4 ⟨u, u0, u1, rfl, t4, R4⟩;have s := s0.pick t4 R4;clear s0 t4 R4
  by_cases hu : 0 < u
  ·have c0 := s.cb.cell 0;have c1 := s.cb.cell 1;have c2 := s.cb.cell 2;have g0 := s.rb.cell 0;have g1 := s.rb.cell 1;have g2 := s.rb.cell 2;have h0 := s.rb.free 0;have h1 := s.rb.free 1;have h2 := s.rb.free 2;simp only [qC, qD] at c0 c1 c2 g0 g1 g2;have l1 := s.cb.lt;have l2 := s.rb.lt;have hf := s.hf;have b1 := s.f.b1;have b2 := s.f.b2;have m1 : ¬ w.heap.size = fb := by omega
   have m2 : ¬ fb = w.heap.size := by omega
   go_wp2
   refine bodyPost_ret (v := formV (some ⟨B1, 0, none⟩) 3 3 (some ⟨B2, 0, none⟩) 2 2 K) (by simp [results, Tryz.results121, go_sem, g0, g1, g2]) rfl ⟨B1, 3, 3, B2, 2, 2, K, C, D, q + 1, rfl, ?_⟩
   exact (((FmN.mk s.t s.r (s.f.k1.ints' s.f.l1) (s.f.k2.ints' s.f.l2) (by omega) (by omega) (by omega) (by omega) (by omega) (by omega) (by omega) (by omega)).set (B := w.heap.size) (qE _) (by omega) (by omega) hRl ha 0 _).set (B := w.heap.size) (qE _) (by omega) (by omega) hRl ha 1 _).set (B := w.heap.size) (qE _) (by omega) (by omega) hRl ha 2 _
  obtain rfl : u = 0 := by omega
  go_wp2_with fail
  refine (pick_any R a n cap bs (q + 1) 4 s.r).mono ?_;rintro e w5 ⟨v, v0, v1, rfl, t5, R5⟩;have s' := s.pick t5 R5;clear s t5 R5;have s := s';clear s' u0 u1 hu
  rcases (show v = 0 \/ v = 1 \/ v = 2 \/ v = 3 from by omega) with rfl | rfl | rfl | rfl
  ·have c0 := s.cb.cell 0;have c1 := s.cb.cell 1;have c2 := s.cb.cell 2;have e0 := s.cb.free 0;have g0 := s.rb.cell 0;have g1 := s.rb.cell 1;have g2 := s.rb.cell 2;have h0 := s.rb.free 0;have h1 := s.rb.free 1;have h2 := s.rb.free 2;simp only [qC, qD] at c0 c1 c2 g0 g1 g2;have l1 := s.cb.lt;have l2 := s.rb.lt;have hf := s.hf;have b1 := s.f.b1;have b2 := s.f.b2;have m1 : ¬ w.heap.size = fb := by omega
   have m2 : ¬ fb = w.heap.size := by omega
   go_wp2
   refine bodyPost_ret (v := formV (some ⟨B1, 0, none⟩) 2 3 (some ⟨B2, 0, none⟩) 2 2 K) (by simp [results, Tryz.results121, go_sem, g0, g1, g2]) rfl ⟨B1, 2, 3, B2, 2, 2, K, C.take 2, D, q + 1 + 1, rfl, ?_⟩
   exact ((((FmN.mk s.t s.r ((s.f.k1.ints' s.f.l1).cut (by omega)) (s.f.k2.ints' s.f.l2) (by omega) (by omega) (by omega) (by omega) (by omega) (by omega) (by omega) (by omega)).set (B := fb) (by omega) s.n1 s.n2 hRl ha 0 _).set (B := w.heap.size) (qE _) (by omega) (by omega) hRl ha 0 _).set (B := w.heap.size) (qE _) (by omega) (by omega) hRl ha 1 _).set (B := w.heap.size) (qE _) (by omega) (by omega) hRl ha 2 _
  ·have al := (Below.refl w5.heap.size w5).alloc (qE _) (.cells #[.int .i64 0] 3);have sa := s.below al;have oD := sa.f.k2.own (base := w.heap.size + 1) sa.f.l2 sa.f.b2 (by omega);have hsz := s.t.size;have c1 := s.cb.cell 1;simp only [qC, qD] at c1;clear al s
   go_wp2_with (at_builtin; refine wpList_append_own _ rfl (.tmp 47) (.tmp 48) 24 rfl (w.heap.size + 1) 3 i0 (.int .i64 0) 1 8 Tryz.underlying24 hi hz0 hz1 hz2 rfl (by decide) _ _ _ rfl oD ⟨w5.heap.size, 0, none⟩ 1 1 [.int .i64 0] rfl rfl ?d1 ?d2 ?d3 ?d4 ?d5 ?_)
   case d1 =>
    intro i u hu
    match i, hu with
    | 0, hu => simp at hu; subst hu; simp [Addr.add]
   case d2 => intro u hu; simp at hu; subst hu; rfl
   case d3 => unfold maxLen; omega
   case d4 => omega
   case d5 => have := sa.hf; have := sa.cb.lt; omega
   intro v' w6 hown hgrow _
   rcases hown.2 with ⟨_, hh⟩ | ⟨g, cap', cur, rfl, hg, hh, hl, _, _, _⟩
   ·omega
   have hI : Ints w6 (some ⟨g, 0, none⟩) 3 (D ++ [0]) := by
    refine ⟨by rw [List.length_append, sa.f.l2]; rfl, fun i hi => ⟨g, 0, rfl, ?_⟩⟩;have := hown.cellAt i (by omega);rw [Nat.zero_add, this];have e2 : D.map (Value.int .i64) ++ [Value.int .i64 0] = (D ++ [0]).map (Value.int .i64) := by simp
    rw [e2, List.getElem?_map];have hl3 : i < (D ++ [0]).length := by rw [List.length_append, sa.f.l2]; exact hi
    rw [qB hl3];simp [qB hl3]
   have hgr : ∀ k, k < (w5.alloc (.cells #[.int .i64 0] 3)).heap.size -> k ≠ B2 -> w6.heap[k]? = (w5.alloc (.cells #[.int .i64 0] 3)).heap[k]? := fun k hk hne => hgrow.block k hk (fun e => hne (by simpa [Value.ownBlock] using e));have T6 : Touch (fun x => x = B2) (w5.alloc (.cells #[.int .i64 0] 3)) w6 := ⟨hgrow.os, hgrow.tape, hgrow.output, hgrow.size, fun k hk hs => hgr k hk hs⟩
   have b2 := sa.f.b2;have b1 := sa.f.b1;have t6 : Touch (fun x => x = R) w w6 := ⟨T6.os.trans sa.t.os, T6.tape.trans sa.t.tape, T6.output.trans sa.t.output, Nat.le_trans sa.t.size T6.size, fun k hk hs => (T6.block k (Nat.lt_of_lt_of_le hk sa.t.size) (by omega)).trans (sa.t.block k hk hs)⟩
   have r6 := sa.r.touch T6 (by omega) (fun h0 b o e => by have := ha h0 b o e; omega);have cb6 := sa.cb.touch T6 (fun e => sa.n2 e.symm);have rb6 := sa.rb.touch T6 (by omega);have C6 := (sa.f.k1.touchF T6 sa.f.ne).ints' sa.f.l1;have hf := sa.hf;have n1 := sa.n1
   have gfb : g ≠ fb := fun e => by
    have h1 : w6.heap[fb]? = _ := cb6;rw [<- e, hh] at h1;simp at h1
   have gr : g ≠ w.heap.size := by omega
   have c0 := cb6.cell 0;have c1' := cb6.cell 1;have c2 := cb6.cell 2;have e1 := cb6.free 1;have r0 := rb6.cell 0;have r1 := rb6.cell 1;have r2 := rb6.cell 2;have g0 := rb6.free 0;have g1 := rb6.free 1;have g2 := rb6.free 2;simp only [qC, qD] at c0 c1' c2 r0 r1 r2;have l1 := cb6.lt;have l2 := rb6.lt;have m1 : ¬ w.heap.size = fb := by omega
   have m2 : ¬ fb = w.heap.size := by omega
   have hq := FmN.mk (p := p) t6 r6 C6 hI (by omega) (by omega) (by omega) (by omega) (by omega) (by omega) (by omega) (by omega);clear hown hgrow hgr T6 oD sa c1 C6 hI r6 t6 cb6 rb6
   go_wp2
   refine bodyPost_ret (v := formV (some ⟨B1, 0, none⟩) 3 3 (some ⟨g, 0, none⟩) 3 cap' K) (by simp [results, Tryz.results121, go_sem, r0, r1, r2]) rfl ⟨B1, 3, 3, g, 3, cap', K, C, D ++ [0], q + 1 + 1, rfl, ?_⟩
   exact (((hq.set (B := fb) (by omega) n1 gfb hRl ha 1 _).set (B := w.heap.size) (qE _) (by omega) gr hRl ha 0 _).set (B := w.heap.size) (qE _) (by omega) gr hRl ha 1 _).set (B := w.heap.size) (qE _) (by omega) gr hRl ha 2 _
  ·have al := (Below.refl w5.heap.size w5).alloc (qE _) (.cells #[.int .i64 10000001, .int .i64 (-10000001), .int .i64 10000000] 3);have lb0 := Cel.new w5 [.int .i64 10000001, .int .i64 (-10000001), .int .i64 10000000] 3;have sa := s.below al;have hRR := s.hR;have hsz := s.t.size;clear al s
   go_wp2_with fail
   refine (pick_any R a n cap bs _ 3 sa.r).mono ?_;rintro e w6 ⟨r, r0, r1, rfl, t6, R6⟩;obtain ⟨j, rfl⟩ := Int.eq_ofNat_of_zero_le r0;have hj : j < 3 := by omega
   have hj' : (j : Int) < 3 := by omega
   have s := sa.pick t6 R6;have lb := lb0.touch t6 (by omega);have hc := lit_cell (xs := [10000001, -10000001, 10000000]) lb hj;generalize ([10000001, -10000001, 10000000] : List Int)[j]?.getD 0 = y at hc;clear r0 r1 sa t6 R6 lb lb0;have c0 := s.cb.cell 0;have c1 := s.cb.cell 1;have c2 := s.cb.cell 2;have e2 := s.cb.free 2;have g0 := s.rb.cell 0;have g1 := s.rb.cell 1;have g2 := s.rb.cell 2;have h0 := s.rb.free 0;have h1 := s.rb.free 1;have h2 := s.rb.free 2;simp only [qC, qD] at c0 c1 c2 g0 g1 g2;have l1 := s.cb.lt;have l2 := s.rb.lt;have hf := s.hf;have b1 := s.f.b1;have b2 := s.f.b2;have m1 : ¬ w.heap.size = fb := by omega
   have m2 : ¬ fb = w.heap.size := by omega
   go_wp2
   refine bodyPost_ret (v := formV (some ⟨B1, 0, none⟩) 3 3 (some ⟨B2, 0, none⟩) 2 2 y) (by simp [results, Tryz.results121, go_sem, g0, g1, g2]) rfl ⟨B1, 3, 3, B2, 2, 2, y, C, D, q + 1 + 1 + 1, rfl, ?_⟩
   exact ((((FmN.mk s.t s.r (s.f.k1.ints' s.f.l1) (s.f.k2.ints' s.f.l2) (by omega) (by omega) (by omega) (by omega) (by omega) (by omega) (by omega) (by omega)).set (B := fb) (by omega) s.n1 s.n2 hRl ha 2 _).set (B := w.heap.size) (qE _) (by omega) (by omega) hRl ha 0 _).set (B := w.heap.size) (qE _) (by omega) (by omega) hRl ha 1 _).set (B := w.heap.size) (qE _) (by omega) (by omega) hRl ha 2 _
  go_upto_region 7 with fail
  refine wp_region_ends (fun X => X.cell? ⟨fb, 0, none⟩ = some (.slice (some ⟨B1, 0, none⟩) 3 3)) (fun _ => True) 10 (by kernel_rfl) ?_;have sd := s.below ((Below.refl _ _).drew);obtain ⟨V0, hV0⟩ : ∃ V, V = w5.drew := ⟨_, rfl⟩
  rw [<- hV0] at sd ⊢;clear hV0 s;have hS0 : (fun X : World => X.cell? ⟨fb, 0, none⟩ = some (.slice (some ⟨B1, 0, none⟩) 3 3)) V0 /\ True := ⟨sd.cb.cell 0, trivial⟩
  refine tkl 0 rfl hS0 ?_;refine tkl 1 rfl hS0 ?_;refine tkl 2 rfl hS0 ?_;refine tkl 5 rfl hS0 ?_;clear hS0;refine wpAnyE_two (i := 3) (j := 4) (by kernel_rfl) rfl rfl (fun Kn hK => ?_) (fun Kn hK => ?_)
  ·go_simp;refine (pick_any R a n cap bs _ 3 sd.r).mono ?_;rintro e wA ⟨ri, r0, r1, rfl, t5, R5⟩;obtain ⟨i, rfl⟩ := Int.eq_ofNat_of_zero_le r0;have hi : i < 3 := by omega
   have hi' : (i : Int) < 3 := by omega
   clear r0 r1;have sa := sd.pick t5 R5;clear t5 R5;dsimp only;refine kk0 hK (sa.cb.cell 0) ?_;clear hK;refine wpAnyE_two (i := 4) (j := 6) (by kernel_rfl) rfl rfl (fun Kn hK => ?_) (fun Kn hK => ?_)
   ·go_simp;have al := (Below.refl wA.heap.size wA).alloc (qE _) (.cells #[.int .i64 10000001, .int .i64 (-10000001)] 3);have lb := Cel.new wA [.int .i64 10000001, .int .i64 (-10000001)] 3;have sb := sa.below al;clear al;refine kk0 hK (sb.cb.cell 0) ?_;clear hK;refine wpAnyE_one (i := 6) (by kernel_rfl) rfl (fun Kn hK => ?_);go_simp;refine (pick_any R a n cap bs _ 2 sb.r).mono ?_;rintro e wB ⟨rj, r0, r1, rfl, t5, R5⟩;obtain ⟨j, rfl⟩ := Int.eq_ofNat_of_zero_le r0;have hj : j < 2 := by omega
    have hj' : (j : Int) < 2 := by omega
    clear r0 r1;have sc := sb.pick t5 R5;replace lb := lb.touch t5 (by have h1 := sa.hR; have h2 := sa.t.size; omega);clear t5 R5;dsimp only;refine kk0 hK (sc.cb.cell 0) ?_;clear hK;have hS5 : (fun X : World => X.cell? ⟨fb, 0, none⟩ = some (.slice (some ⟨B1, 0, none⟩) 3 3)) wB /\ True := ⟨sc.cb.cell 0, trivial⟩
    refine tkl 7 rfl hS5 ?_;have hc := lit_cell (xs := [10000001, -10000001]) lb hj;have hy := litF_2 j hj;generalize ([10000001, -10000001] : List Int)[j]?.getD 0 = y at hc hy;refine wpAnyE_one (i := 8) (by kernel_rfl) rfl (fun Kn hK => ?_);go_simp;refine kk0 hK (sc.cb.cell 0) ?_;clear hK;refine tkl 9 rfl hS5 ?_;have s6 := sc.setC i hy.1 hy.2;have kc := sc.f.k1.cell i (by rw [sc.f.l1]; omega);have kf := sc.f.k1.free i;have kl := sc.f.k1.lt;refine wpAnyE_one (i := 10) (by kernel_rfl) rfl (fun Kn hK => ?_);go_simp;refine kk0 hK (s6.cb.cell 0) ?_;clear hK;refine wod ?_ _;clear hS5 hc kc kf lb;have s := s6;clear s6;have c0 := s.cb.cell 0;have c1 := s.cb.cell 1;have c2 := s.cb.cell 2;have g0 := s.rb.cell 0;have g1 := s.rb.cell 1;have g2 := s.rb.cell 2;have h0 := s.rb.free 0;have h1 := s.rb.free 1;have h2 := s.rb.free 2;simp only [qC, qD] at c0 c1 c2 g0 g1 g2;have l1 := s.cb.lt;have l2 := s.rb.lt;have hf := s.hf;have b1 := s.f.b1;have b2 := s.f.b2;have m1 : ¬ w.heap.size = fb := by omega
    have m2 : ¬ fb = w.heap.size := by omega
    go_wp2
    refine bodyPost_ret (v := formV (some ⟨B1, 0, none⟩) 3 3 (some ⟨B2, 0, none⟩) 2 2 K) (by simp [results, Tryz.results121, go_sem, g0, g1, g2]) rfl ⟨B1, 3, 3, B2, 2, 2, K, C.set i y, D, q + 1 + 1 + 1 + 1, rfl, ?_⟩
    exact (((FmN.mk s.t s.r (s.f.k1.ints' s.f.l1) (s.f.k2.ints' s.f.l2) (by omega) (by omega) (by omega) (by omega) (by omega) (by omega) (by omega) (by omega)).set (B := w.heap.size) (qE _) (by omega) (by omega) hRl ha 0 _).set (B := w.heap.size) (qE _) (by omega) (by omega) hRl ha 1 _).set (B := w.heap.size) (qE _) (by omega) (by omega) hRl ha 2 _
   go_simp;refine (pick_any R a n cap bs _ 2 sa.r).mono ?_;rintro e wB ⟨rj, r0, r1, rfl, t5, R5⟩;obtain ⟨j, rfl⟩ := Int.eq_ofNat_of_zero_le r0;have hj : j < 2 := by omega
   have hj' : (j : Int) < 2 := by omega
   clear r0 r1;have sb := sa.pick t5 R5;clear t5 R5;dsimp only;refine kk0 hK (sb.cb.cell 0) ?_;clear hK;refine wpAnyE_one (i := 4) (by kernel_rfl) rfl (fun Kn hK => ?_);go_simp;have al := (Below.refl wB.heap.size wB).alloc (qE _) (.cells #[.int .i64 10000001, .int .i64 (-10000001)] 3);have lb := Cel.new wB [.int .i64 10000001, .int .i64 (-10000001)] 3;have sc := sb.below al;clear al;refine kk0 hK (sc.cb.cell 0) ?_;clear hK;have hS5 : (fun X : World => X.cell? ⟨fb, 0, none⟩ = some (.slice (some ⟨B1, 0, none⟩) 3 3)) (wB.alloc (.cells #[.int .i64 10000001, .int .i64 (-10000001)] 3)) /\ True := ⟨sc.cb.cell 0, trivial⟩
   refine tkl 7 rfl hS5 ?_;have hc := lit_cell (xs := [10000001, -10000001]) lb hj;have hy := litF_2 j hj;generalize ([10000001, -10000001] : List Int)[j]?.getD 0 = y at hc hy;refine wpAnyE_one (i := 8) (by kernel_rfl) rfl (fun Kn hK => ?_);go_simp;refine kk0 hK (sc.cb.cell 0) ?_;clear hK;refine tkl 9 rfl hS5 ?_;have s6 := sc.setC i hy.1 hy.2;have kc := sc.f.k1.cell i (by rw [sc.f.l1]; omega);have kf := sc.f.k1.free i;have kl := sc.f.k1.lt;refine wpAnyE_one (i := 10) (by kernel_rfl) rfl (fun Kn hK => ?_);go_simp;refine kk0 hK (s6.cb.cell 0) ?_;clear hK;refine wod ?_ _;clear hS5 hc kc kf lb;have s := s6;clear s6;have c0 := s.cb.cell 0;have c1 := s.cb.cell 1;have c2 := s.cb.cell 2;have g0 := s.rb.cell 0;have g1 := s.rb.cell 1;have g2 := s.rb.cell 2;have h0 := s.rb.free 0;have h1 := s.rb.free 1;have h2 := s.rb.free 2;simp only [qC, qD] at c0 c1 c2 g0 g1 g2;have l1 := s.cb.lt;have l2 := s.rb.lt;have hf := s.hf;have b1 := s.f.b1;have b2 := s.f.b2;have m1 : ¬ w.heap.size = fb := by omega
   have m2 : ¬ fb = w.heap.size := by omega
   go_wp2
   refine bodyPost_ret (v := formV (some ⟨B1, 0, none⟩) 3 3 (some ⟨B2, 0, none⟩) 2 2 K) (by simp [results, Tryz.results121, go_sem, g0, g1, g2]) rfl ⟨B1, 3, 3, B2, 2, 2, K, C.set i y, D, q + 1 + 1 + 1 + 1, rfl, ?_⟩
   exact (((FmN.mk s.t s.r (s.f.k1.ints' s.f.l1) (s.f.k2.ints' s.f.l2) (by omega) (by omega) (by omega) (by omega) (by omega) (by omega) (by omega) (by omega)).set (B := w.heap.size) (qE _) (by omega) (by omega) hRl ha 0 _).set (B := w.heap.size) (qE _) (by omega) (by omega) hRl ha 1 _).set (B := w.heap.size) (qE _) (by omega) (by omega) hRl ha 2 _
  go_simp;have al := (Below.refl V0.heap.size V0).alloc (qE _) (.cells #[.int .i64 10000001, .int .i64 (-10000001)] 3);have lb := Cel.new V0 [.int .i64 10000001, .int .i64 (-10000001)] 3;have sa := sd.below al;clear al;refine kk0 hK (sa.cb.cell 0) ?_;clear hK;refine wpAnyE_one (i := 3) (by kernel_rfl) rfl (fun Kn hK => ?_);go_simp;refine (pick_any R a n cap bs _ 3 sa.r).mono ?_;rintro e wA ⟨ri, r0, r1, rfl, t5, R5⟩;obtain ⟨i, rfl⟩ := Int.eq_ofNat_of_zero_le r0;have hi : i < 3 := by omega
  have hi' : (i : Int) < 3 := by omega
  clear r0 r1;have sb := sa.pick t5 R5;replace lb := lb.touch t5 (by have h1 := sd.hR; have h2 := sd.t.size; omega);clear t5 R5;dsimp only;refine kk0 hK (sb.cb.cell 0) ?_;clear hK;refine wpAnyE_one (i := 6) (by kernel_rfl) rfl (fun Kn hK => ?_);go_simp;refine (pick_any R a n cap bs _ 2 sb.r).mono ?_;rintro e wB ⟨rj, r0, r1, rfl, t5, R5⟩;obtain ⟨j, rfl⟩ := Int.eq_ofNat_of_zero_le r0;have hj : j < 2 := by omega
  have hj' : (j : Int) < 2 := by omega
  clear r0 r1;have sc := sb.pick t5 R5;replace lb := lb.touch t5 (by have h1 := sd.hR; have h2 := sd.t.size; omega);clear t5 R5;dsimp only;refine kk0 hK (sc.cb.cell 0) ?_;clear hK;have hS5 : (fun X : World => X.cell? ⟨fb, 0, none⟩ = some (.slice (some ⟨B1, 0, none⟩) 3 3)) wB /\ True := ⟨sc.cb.cell 0, trivial⟩
  refine tkl 7 rfl hS5 ?_;have hc := lit_cell (xs := [10000001, -10000001]) lb hj;have hy := litF_2 j hj;generalize ([10000001, -10000001] : List Int)[j]?.getD 0 = y at hc hy;refine wpAnyE_one (i := 8) (by kernel_rfl) rfl (fun Kn hK => ?_);go_simp;refine kk0 hK (sc.cb.cell 0) ?_;clear hK;refine tkl 9 rfl hS5 ?_;have s6 := sc.setC i hy.1 hy.2;have kc := sc.f.k1.cell i (by rw [sc.f.l1]; omega);have kf := sc.f.k1.free i;have kl := sc.f.k1.lt;refine wpAnyE_one (i := 10) (by kernel_rfl) rfl (fun Kn hK => ?_);go_simp;refine kk0 hK (s6.cb.cell 0) ?_;clear hK;refine wod ?_ _;clear hS5 hc kc kf lb;have s := s6;clear s6;have c0 := s.cb.cell 0;have c1 := s.cb.cell 1;have c2 := s.cb.cell 2;have g0 := s.rb.cell 0;have g1 := s.rb.cell 1;have g2 := s.rb.cell 2;have h0 := s.rb.free 0;have h1 := s.rb.free 1;have h2 := s.rb.free 2;simp only [qC, qD] at c0 c1 c2 g0 g1 g2;have l1 := s.cb.lt;have l2 := s.rb.lt;have hf := s.hf;have b1 := s.f.b1;have b2 := s.f.b2;have m1 : ¬ w.heap.size = fb := by omega
  have m2 : ¬ fb = w.heap.size := by omega
  go_wp2
  refine bodyPost_ret (v := formV (some ⟨B1, 0, none⟩) 3 3 (some ⟨B2, 0, none⟩) 2 2 K) (by simp [results, Tryz.results121, go_sem, g0, g1, g2]) rfl ⟨B1, 3, 3, B2, 2, 2, K, C.set i y, D, q + 1 + 1 + 1 + 1, rfl, ?_⟩
  exact (((FmN.mk s.t s.r (s.f.k1.ints' s.f.l1) (s.f.k2.ints' s.f.l2) (by omega) (by omega) (by omega) (by omega) (by omega) (by omega) (by omega) (by omega)).set (B := w.heap.size) (qE _) (by omega) (by omega) hRl ha 0 _).set (B := w.heap.size) (qE _) (by omega) (by omega) hRl ha 1 _).set (B := w.heap.size) (qE _) (by omega) (by omega) hRl ha 2 _
theorem mulL_len (n : Int) (zs : List Int) : (mulL n zs).length = zs.length := by simp [mulL]
theorem wrap_id {x : Int} (h1 : -1000000000000000000 <= x) (h2 : x <= 1000000000000000000) : IntKind.i64.wrap x = x := by
 simp only [IntKind.wrap, IntKind.signed, IntKind.bits];simp
 omega
structure TimesH (w : World) (a : Option Addr) (cap : Nat) (c : Option Addr) (cap' : Nat) (K : Int) (w' : World) : Prop where
 p : Cel w' w.heap.size [.slice a 3 cap, .slice c 2 cap', .int .i64 K] 86
 r : Cel w' (w.heap.size + 1) [.slice none 0 0, .slice none 0 0, .int .i64 0] 86
 b : Below w.heap.size w w'
theorem TimesH.below {w3 : World} (h : TimesH w a cap c cap' K W) (b : Below W.heap.size W w3) : TimesH w a cap c cap' K w3 :=
 ⟨h.p.below b, h.r.below b, h.b.trans (b.mono h.b.size)⟩
theorem TimesH.drew (h : TimesH w a cap c cap' K W) : TimesH w a cap c cap' K W.drew := ⟨h.p, h.r, h.b.drew⟩
theorem TimesH.alloc (h : TimesH w a cap c cap' K W) (o : Obj) : TimesH w a cap c cap' K (W.alloc o) := h.below (bal)
theorem TimesH.set (h : TimesH w a cap c cap' K W) {X : Nat} (hX : w.heap.size + 1 < X) (i : Nat) (v : Value) : TimesH w a cap c cap' K (W.setCell ⟨X, i, none⟩ v) :=
 ⟨h.p.setOther (by omega) i v, h.r.setOther (by omega) i v, h.b.setCell (by show w.heap.size <= X; omega) v⟩
theorem Cel.trio {x y z : Value} {t : TypeId} (h : Cel w B [x, y, z] t) : w.cell? ⟨B, 0, none⟩ = some x /\ w.cell? ⟨B, 1, none⟩ = some y /\ w.cell? ⟨B, 2, none⟩ = some z /\ w.frozen? ⟨B, 0, none⟩ = false /\ w.frozen? ⟨B, 1, none⟩ = false /\ w.frozen? ⟨B, 2, none⟩ = false := ⟨h.cell 0, h.cell 1, h.cell 2, h.free 0, h.free 1, h.free 2⟩
theorem TimesH.cells (h : TimesH w a cap c cap' K w') :
  w'.cell? ⟨w.heap.size, 0, none⟩ = some (.slice a 3 cap) /\ w'.cell? ⟨w.heap.size, 1, none⟩ = some (.slice c 2 cap') /\ w'.cell? ⟨w.heap.size, 2, none⟩ = some (.int .i64 K) := ⟨h.p.cell 0, h.p.cell 1, h.p.cell 2⟩
theorem TimesH.room (h : TimesH w a cap c cap' K w') :
  w'.cell? ⟨w.heap.size + 1, 0, none⟩ = some (.slice none 0 0) /\ w'.cell? ⟨w.heap.size + 1, 1, none⟩ = some (.slice none 0 0) /\ w'.cell? ⟨w.heap.size + 1, 2, none⟩ = some (.int .i64 0) /\ w'.frozen? ⟨w.heap.size + 1, 0, none⟩ = false /\ w'.frozen? ⟨w.heap.size + 1, 1, none⟩ = false /\ w'.frozen? ⟨w.heap.size + 1, 2, none⟩ = false := ⟨h.r.cell 0, h.r.cell 1, h.r.cell 2, h.r.free 0, h.r.free 1, h.r.free 2⟩
theorem times_any (C D : List Int) {n : Int} {w : World}
  (hC : Ints w a 3 C) (hD : Ints w c 2 D) (tC : bndT 1000000000000000000 n C) (tD : bndT 1000000000000000000 n D) (tK : -1000000000000000000 <= n * K /\ n * K <= 1000000000000000000) :
  Calls Tryz.prog 165 #[formV a 3 cap c 2 cap' K, .int .i64 n] w fun e w' => ∃ B1 B2, e = .returned (formV (some ⟨B1, 0, none⟩) 3 3 (some ⟨B2, 0, none⟩) 2 2 (n * K)) /\ Below w.heap.size w w' /\ w.heap.size <= B1 /\ B1 ≠ B2 /\ w.heap.size <= B2 /\ Blk w' B1 (mulL n C) /\ Blk w' B2 (mulL n D) := by
 obtain ⟨tK1, tK2⟩ := tK
 go_enter Tryz.func165, Tryz.ntmps165
 go_wp2_with fail
 have H0 : TimesH w a cap c cap' K (((w.alloc (Obj.cells #[Value.slice a 3 cap, Value.slice c 2 cap', Value.int IntKind.i64 K] 86)).alloc (Obj.cells #[Value.slice none 0 0, Value.slice none 0 0, Value.int IntKind.i64 0] 86)).drew) :=
  ⟨(Cel.new w _ _).alloc _, by have := Cel.new (w.alloc (Obj.cells #[Value.slice a 3 cap, Value.slice c 2 cap', Value.int IntKind.i64 K] 86)) [.slice none 0 0, .slice none 0 0, .int .i64 0] 86; rw [qA] at this; exact this, ((bal).alloc (by simp) _).drew⟩
 go_region_held3 (fun w' => w'.cell? ⟨w.heap.size, 0, none⟩ = some (.slice a 3 cap) /\ w'.cell? ⟨w.heap.size, 1, none⟩ = some (.slice c 2 cap') /\ w'.cell? ⟨w.heap.size, 2, none⟩ = some (.int .i64 K)) (first | assumption | go_keep)
  (first
   | (go_at_call_of 133 (Value.slice a 3 cap); refine (timesEach_any C (hC.below (TimesH.b (a := a) (c := c) (cap := cap) (cap' := cap') (K := K) (by assumption))) (by omega) tC).mono ?_; rintro e w3 ⟨rfl, b3, k3⟩; have h3 := TimesH.below (w := w) (a := a) (c := c) (cap := cap) (cap' := cap') (K := K) (by assumption) b3; have g3 := h3.cells; obtain ⟨x0, x1, x2, x3, x4, x5⟩ := h3.room)
   | (go_at_call_of 133 (Value.slice c 2 cap'); refine (timesEach_any D (hD.below (TimesH.b (a := a) (c := c) (cap := cap) (cap' := cap') (K := K) (by assumption))) (by omega) tD).mono ?_; rintro e w4 ⟨rfl, b4, k4⟩; have h4 := TimesH.below (w := w) (a := a) (c := c) (cap := cap) (cap' := cap') (K := K) (by assumption) b4; have g4 := h4.cells; obtain ⟨y0, y1, y2, y3, y4, y5⟩ := h4.room))
 have hw := wrap_id tK1 tK2;have e3 : ((w.alloc (Obj.cells #[Value.slice a 3 cap, Value.slice c 2 cap', Value.int IntKind.i64 K] 86)).alloc (Obj.cells #[Value.slice none 0 0, Value.slice none 0 0, Value.int IntKind.i64 0] 86)).drew.heap.size = w.heap.size + 1 + 1 := by show (World.alloc _ _).heap.size = _; rw [qA, qA]
 rw [e3] at k3;have k3' := k3.below b4;have l3 := k3.lt;have l4 := k4.lt;have q0 := h4.r.free 0;clear e3 b3 b4 h3 g3 H0 k3
 go_wp2
 refine bodyPost_ret (v := formV (some ⟨w.heap.size + 1 + 1, 0, none⟩) 3 3 (some ⟨w3.heap.size, 0, none⟩) 2 2 (n * K)) (by simp [results, Tryz.results165, go_sem, y0, y1, y2, hw]) rfl ⟨_, _, rfl, ?_, by omega, by omega, by omega, ?_, ?_⟩
 ·exact ((h4.b.setCell (by simp only []; omega) _).setCell (by simp only []; omega) _).setCell (by simp only []; omega) _
 ·exact ((k3'.so).so).so
 exact ((k4.so).so).so
def keepL (b : Bool) (L : List Int) : List Int := if b then L else []
def keepK (b : Bool) (K : Int) : Int := if b then K else 0
theorem keepL_no (L : List Int) : keepL false L = [] := rfl
theorem keepK_no (K : Int) : keepK false K = 0 := rfl
theorem orN_yes {m : Nat} (C D : List Int) {w : World} (hC : Ints w a n C) (hD : Ints w c m D) (hn : n <= 1048576) (hm : m <= 1048576) (h : formB n m C D K = true) :
  Calls Tryz.prog 166 #[formV a n cap c m cap' K] w fun e w' => e = .returned (formV a n cap c m cap' K) /\ Below w.heap.size w w' := by
 go_enter Tryz.func166, Tryz.ntmps166
 go_wp2_with fail
 refine (iok_any _ _ _ _ _ C D ((hC.alloc _).alloc _) ((hD.alloc _).alloc _) hn hm).mono ?_;rintro e w1 ⟨rfl, b1⟩;have p0 := ((Cel.new w _ _).alloc _).below b1;have p1 := (Cel.new (w.alloc _) _ _).below b1;rw [qA] at p1;have hb : Below w.heap.size w w1 := ((bal).alloc (by simp) _).trans (b1.mono (by simp; omega));have c0 := p0.cell 0;have c1 := p0.cell 1;have c2 := p0.cell 2;have r0 := p1.cell 0;have r1 := p1.cell 1;have r2 := p1.cell 2;have r3 := p1.free 0;have r4 := p1.free 1;have r5 := p1.free 2;simp only [qC, qD] at c0 c1 c2 r0 r1 r2
 go_wp2
 refine bodyPost_ret (v := formV a n cap c m cap' K) (by simp [results, Tryz.results166, go_sem, r0, r1, r2]) rfl ⟨rfl, ?_⟩
 exact ((hb.setCell (by simp only []; omega) _).setCell (by simp only []; omega) _).setCell (by simp only []; omega) _
theorem orN_no {m : Nat} (C D : List Int) {w : World} (hC : Ints w a n C) (hD : Ints w c m D) (hn : n <= 1048576) (hm : m <= 1048576) (h : formB n m C D K = false) :
  Calls Tryz.prog 166 #[formV a n cap c m cap' K] w fun e w' => e = .returned (formV none 0 0 none 0 0 0) /\ Below w.heap.size w w' := by
 go_enter Tryz.func166, Tryz.ntmps166
 go_wp2_with fail
 refine (iok_any _ _ _ _ _ C D ((hC.alloc _).alloc _) ((hD.alloc _).alloc _) hn hm).mono ?_;rintro e w1 ⟨rfl, b1⟩;have p1 := (Cel.new (w.alloc _) _ _).below b1;rw [qA] at p1;have hb : Below w.heap.size w w1 := ((bal).alloc (by simp) _).trans (b1.mono (by simp; omega));have r0 := p1.cell 0;have r1 := p1.cell 1;have r2 := p1.cell 2;have r3 := p1.free 0;have r4 := p1.free 1;have r5 := p1.free 2;simp only [qC, qD] at r0 r1 r2
 go_wp2
 refine bodyPost_ret (v := formV none 0 0 none 0 0 0) (by simp [results, Tryz.results166, go_sem, r0, r1, r2]) rfl ⟨rfl, ?_⟩
 exact ((hb.setCell (by simp only []; omega) _).setCell (by simp only []; omega) _).setCell (by simp only []; omega) _
def timOk (n m : Nat) (C D : List Int) (K k : Int) : Bool := formB n m C D K && inB k (-10000000) 10000000 && formB 3 2 (mulL k C) (mulL k D) (k * K)
theorem tim_bnd (h : bnd 10000000 C) (h1 : -10000000 <= k) (h2 : k <= 10000000) : bndT 1000000000000000000 k C := by
 intro i;have := bndT_of h h1 h2 (by omega) (by omega) i
 omega
theorem tim_num (a1 : -10000000 <= K) (a2 : K <= 10000000) (h1 : -10000000 <= k) (h2 : k <= 10000000) : -1000000000000000000 <= k * K /\ k * K <= 1000000000000000000 := by
 have hx' : k.natAbs <= 10000000 := by omega
 have hy' : K.natAbs <= 10000000 := by omega
 have hm : (k * K).natAbs <= 10000000 * 10000000 := by rw [Int.natAbs_mul]; exact Nat.mul_le_mul hx' hy'
 omega
theorem itim_any (a : Option Addr) (n cap : Nat) (c : Option Addr) (m cap' : Nat) (K : Int) {C D : List Int} (k : Int) (w : World) (hC : Ints w a n C) (hD : Ints w c m D) (hn : n <= 1048576) (hm : m <= 1048576) :
  Calls Tryz.prog 162 #[formV a n cap c m cap' K, .int .i64 k] w fun e w' => Res w w' e (keepL (timOk n m C D K k) (mulL k C)) (keepL (timOk n m C D K k) (mulL k D)) (keepK (timOk n m C D K k) (k * K)) := by
 have bo : ∀ o o' : Obj, Below w.heap.size w ((w.alloc o).alloc o') := fun o o' => (bal).alloc (by simp) _
 cases h1 : formB n m C D K
 ·have ht : timOk n m C D K k = false := by simp [timOk, h1]
  rw [ht, keepL_no, keepL_no, keepK_no]
  go_enter Tryz.func162, Tryz.ntmps162
  go_wp2_with fail
  refine (iok_any _ _ _ _ _ C D ((hC.alloc _).alloc _) ((hD.alloc _).alloc _) hn hm).mono ?_;rintro e w1 ⟨rfl, b1⟩;have p1 := (Cel.new (w.alloc _) _ _).below b1;rw [qA] at p1;have hb : Below w.heap.size w w1 := (bo _ _).trans (b1.mono (by simp; omega));have r0 := p1.cell 0;have r1 := p1.cell 1;have r2 := p1.cell 2;have r3 := p1.free 0;have r4 := p1.free 1;have r5 := p1.free 2;simp only [qC, qD] at r0 r1 r2
  go_wp2
  refine bodyPost_ret (v := formV none 0 0 none 0 0 0) (by simp [results, Tryz.results162, go_sem, r0, r1, r2]) rfl (Res.none rfl ?_)
  exact ((hb.setCell (by simp only []; omega) _).setCell (by simp only []; omega) _).setCell (by simp only []; omega) _
 cases h2 : inB k (-10000000) 10000000
 ·have ht : timOk n m C D K k = false := by simp [timOk, h2]
  rw [ht, keepL_no, keepL_no, keepK_no];have ha : allB 10000000 [k] = false := by rw [allB_one]; exact h2
  go_enter Tryz.func162, Tryz.ntmps162
  go_wp2_with fail
  refine (iok_any _ _ _ _ _ C D ((hC.alloc _).alloc _) ((hD.alloc _).alloc _) hn hm).mono ?_;rintro e w1 ⟨rfl, b1⟩;have p1 := (Cel.new (w.alloc _) _ _).below b1;rw [qA] at p1;have hb : Below w.heap.size w w1 := (bo _ _).trans (b1.mono (by simp; omega));have l1 := p1.lt
  go_wp2_with fail
  refine (within_any (some ⟨w1.heap.size, 0, none⟩) 1 1 [k] ?_ (by omega)).mono ?_
  ·refine ⟨rfl, fun i hi => ⟨w1.heap.size, 0, rfl, ?_⟩⟩;obtain rfl : i = 0 := by omega
   simp [go_sem]
  rintro e w2 ⟨rfl, rfl⟩;have r0 := p1.cell 0;have r1 := p1.cell 1;have r2 := p1.cell 2;have r3 := p1.free 0;have r4 := p1.free 1;have r5 := p1.free 2;simp only [qC, qD] at r0 r1 r2
  go_wp2
  refine bodyPost_ret (v := formV none 0 0 none 0 0 0) (by simp [results, Tryz.results162, go_sem, r0, r1, r2, l1]) rfl (Res.none rfl ?_)
  exact (((hb.setCell (by simp only []; omega) _).setCell (by simp only []; omega) _).setCell (by simp only []; omega) _).alloc (by have := hb.size; rw [size_setCell, size_setCell, size_setCell]; omega) _
 obtain ⟨rfl, rfl, bC, bD, bK1, bK2⟩ := formB_elim h1;obtain ⟨hk1, hk2⟩ := inB_iff.1 h2;have ha : allB 10000000 [k] = true := by rw [allB_one]; exact h2
 have tC := tim_bnd bC hk1 hk2;have tD := tim_bnd bD hk1 hk2;have tK := tim_num bK1 bK2 hk1 hk2;have LC : (mulL k C).length = 3 := by rw [mulL_len]; exact hC.1
 have LD : (mulL k D).length = 2 := by rw [mulL_len]; exact hD.1
 have ht : timOk 3 2 C D K k = formB 3 2 (mulL k C) (mulL k D) (k * K) := by simp [timOk, h1, h2]
 cases h3 : formB 3 2 (mulL k C) (mulL k D) (k * K)
 all_goals
  rw [ht, h3];clear ht
  go_enter Tryz.func162, Tryz.ntmps162
  go_wp2_with fail
  refine (iok_any _ _ _ _ _ C D ((hC.alloc _).alloc _) ((hD.alloc _).alloc _) hn hm).mono ?_;rintro e w1 ⟨rfl, b1⟩;have p0 := ((Cel.new w _ _).alloc _).below b1;have p1 := (Cel.new (w.alloc _) _ _).below b1;rw [qA] at p1;have hb : Below w.heap.size w w1 := (bo _ _).trans (b1.mono (by simp; omega));have l1 := p1.lt;clear b1
  go_wp2_with fail
  refine (within_any (some ⟨w1.heap.size, 0, none⟩) 1 1 [k] ?_ (by omega)).mono ?_
  ·refine ⟨rfl, fun i hi => ⟨w1.heap.size, 0, rfl, ?_⟩⟩;obtain rfl : i = 0 := by omega
   simp [go_sem]
  rintro e w2 ⟨rfl, rfl⟩;have c0 := p0.cell 0;have c1 := p0.cell 1;have c2 := p0.cell 2;simp only [qC, qD] at c0 c1 c2;have l0 := p0.lt
  go_wp2_with fail
  refine (times_any C D ((hC.below hb).alloc _) ((hD.below hb).alloc _) tC tD tK).mono ?_;rintro e w3 ⟨B1, B2, rfl, b3, g1, g2, g3, k1, k2⟩;rw [qA] at g1 g3;have p3 := (p1.alloc _).below b3;have hb3 : Below w.heap.size w w3 := (hb.alloc hb.size _).trans (b3.mono (by have := hb.size; simp; omega));clear b3 c0 c1 c2 p0 p1
  go_wp2_with fail
  first
   | (refine (orN_no (mulL k C) (mulL k D) (k1.ints' LC) (k2.ints' LD) hn hm h3).mono ?_)
   | (refine (orN_yes (mulL k C) (mulL k D) (k1.ints' LC) (k2.ints' LD) hn hm h3).mono ?_)
  rintro e w4 ⟨rfl, b4⟩;have p4 := p3.below b4;have k1' := k1.below b4;have k2' := k2.below b4;have hb4 := btr hb3 b4;have hw1 := hb.size;have r0 := p4.cell 0;have r1 := p4.cell 1;have r2 := p4.cell 2;have r3 := p4.free 0;have r4 := p4.free 1;have r5 := p4.free 2;simp only [qC, qD] at r0 r1 r2;clear b4 p3 p4 k1 k2 hb3 tC tD tK bC bD
  go_wp2
 ·refine bodyPost_ret (v := formV none 0 0 none 0 0 0) (by simp [results, Tryz.results162, go_sem, r0, r1, r2]) rfl (Res.none rfl ?_)
  exact ((hb4.setCell (by simp only []; omega) _).setCell (by simp only []; omega) _).setCell (by simp only []; omega) _
 refine bodyPost_ret (v := formV (some ⟨B1, 0, none⟩) 3 3 (some ⟨B2, 0, none⟩) 2 2 (k * K)) (by simp [results, Tryz.results162, go_sem, r0, r1, r2]) rfl (Res.of (B1 := B1) (B2 := B2) rfl LC LD ?_ (by omega) g2 (by omega) ?_ ?_)
 ·exact ((hb4.setCell (by simp only []; omega) _).setCell (by simp only []; omega) _).setCell (by simp only []; omega) _
 ·exact ((k1'.so).so).so
 exact ((k2'.so).so).so
theorem lin_zero3 (h : C.length = 3) : lin [0, 0, 0] C k = mulL k C := by
 match C, h with
 | [x, y, z], _ => simp [lin, mulL]
theorem lin_zero2 (h : D.length = 2) : lin [0, 0] D k = mulL k D := by
 match D, h with
 | [x, y], _ => simp [lin, mulL]
theorem bnd_lit3 : bnd 1000000000000000000 [0, 0, 0] := fun i => by have := bnd_zeros 3 i; simp only [List.replicate] at this; omega
theorem bnd_lit2 : bnd 1000000000000000000 [0, 0] := fun i => by have := bnd_zeros 2 i; simp only [List.replicate] at this; omega
structure FV where
 a : Option Addr
 n : Nat
 cap : Nat
 c : Option Addr
 m : Nat
 cap' : Nat
 K : Int
 C : List Int
 D : List Int
def FV.ok (f : FV) : Bool := formB f.n f.m f.C f.D f.K
def FV.frm (f : FV) : Frm := (f.C, f.D, f.K)
def noFV : FV := ⟨none, 0, 0, none, 0, 0, 0, [], []⟩
structure FV.At (f : FV) (w : World) : Prop where
 C : Ints w f.a f.n f.C
 D : Ints w f.c f.m f.D
 hn : f.n <= 1048576
 hm : f.m <= 1048576
theorem FV.At.below {f : FV} (h : f.At w) (b : Below w.heap.size w w') : f.At w' := ⟨h.C.below b, h.D.below b, h.hn, h.hm⟩
def FormsG (w : World) (ad : Option Addr) (fs : List FV) : Prop :=
 ∀ i, i < fs.length -> ∃ b off, ad = some ⟨b, off, none⟩ /\ w.cell? ⟨b, off + i * 3, none⟩ = some (.slice (fs[i]?.getD noFV).a (fs[i]?.getD noFV).n (fs[i]?.getD noFV).cap) /\ w.cell? ⟨b, off + i * 3 + 1, none⟩ = some (.slice (fs[i]?.getD noFV).c (fs[i]?.getD noFV).m (fs[i]?.getD noFV).cap') /\ w.cell? ⟨b, off + i * 3 + 2, none⟩ = some (.int .i64 (fs[i]?.getD noFV).K) /\ (fs[i]?.getD noFV).At w
theorem FormsG.below {fs : List FV} (h : FormsG w ad fs) (hb : Below w.heap.size w w') : FormsG w' ad fs := by
 intro i hi;obtain ⟨b, off, e, e0, e1, e2, e3⟩ := h i hi
 exact ⟨b, off, e, (hb.cell (p := ⟨b, off + i * 3, none⟩) (block_lt e0)).trans e0, (hb.cell (p := ⟨b, off + i * 3 + 1, none⟩) (block_lt e0)).trans e1, (hb.cell (p := ⟨b, off + i * 3 + 2, none⟩) (block_lt e0)).trans e2, e3.below hb⟩
theorem FormsG.at {fs : List FV} (h : FormsG w ad fs) (hok : fs.all FV.ok = true) : FormsAt w ad (fs.map FV.frm) /\ ∀ i, i < (fs.map FV.frm).length -> fits 10000000 ((fs.map FV.frm)[i]?.getD ([], [], 0)) := by
 have key : ∀ i, i < fs.length -> (fs.map FV.frm)[i]?.getD ([], [], 0) = (fs[i]?.getD noFV).frm /\ (fs[i]?.getD noFV).ok = true := by
  intro i hi;rw [List.getElem?_map, qB hi];refine ⟨rfl, ?_⟩;rw [List.all_eq_true] at hok
  exact hok _ (List.getElem_mem hi)
 refine ⟨fun i hi => ?_, fun i hi => ?_⟩
 ·rw [List.length_map] at hi;obtain ⟨b, off, e, e0, e1, e2, e3⟩ := h i hi;obtain ⟨k1, k2⟩ := key i hi;obtain ⟨n3, m2, _⟩ := formB_elim k2;have hC := e3.C;have hD := e3.D;rw [n3] at e0 hC;rw [m2] at e1 hD;rw [k1]
  exact ⟨b, off, e, _, _, _, _, e0, e1, e2, hC, hD⟩
 rw [List.length_map] at hi;obtain ⟨b, off, e, e0, e1, e2, e3⟩ := h i hi;obtain ⟨k1, k2⟩ := key i hi;obtain ⟨n3, m2, bC, bD, bK1, bK2⟩ := formB_elim k2;rw [k1]
 exact ⟨by have := e3.C.1; simp only [FV.frm]; omega, by have := e3.D.1; simp only [FV.frm]; omega, bC, bD, bK1, bK2⟩
theorem all_take_succ {fs : List FV} {k : Nat} (h : k < fs.length) (h1 : (fs.take k).all FV.ok = true) (h2 : (fs[k]?.getD noFV).ok = true) : (fs.take (k + 1)).all FV.ok = true := by
 rw [List.take_succ_eq_append_getElem h, List.all_append, h1];rw [qB h] at h2;simpa using h2
theorem all_no {fs : List FV} {k : Nat} (h : k < fs.length) (h2 : (fs[k]?.getD noFV).ok = false) : fs.all FV.ok = false := by
 rw [List.all_eq_false];rw [qB h] at h2
 exact ⟨fs[k], List.getElem_mem h, by simpa using h2⟩
theorem allForms_any (N : Nat) {cap : Nat} (fs : List FV) {w : World} (hN : fs.length = N) (hF : FormsG w ad fs) (hN1 : N <= 1048576) :
  Calls Tryz.prog 163 #[.slice ad N cap] w fun e w' => e = .returned (.bool (fs.all FV.ok)) /\ Below w.heap.size w w' := by
 have HN : Hid (fs.length = N) := hN;clear hN
 go_enter Tryz.func163, Tryz.ntmps163
 go_wp2_with fail
 go_loopw [4, 7] (fun _ i wr => ∃ k : Nat, k <= N /\ i = .int .i64 k /\ Below w.heap.size w wr /\ (fs.take k).all FV.ok = true) (fun _ i _ => N - (intOf i).toNat)
 case atStart => exact ⟨0, Nat.zero_le _, rfl, Below.refl _ _, by simp⟩
 case round =>
  obtain ⟨k, hk, rfl, hb, hall⟩ := hrel;have HA : Hid ((fs.take k).all FV.ok = true) := hall;clear hall
  by_cases hlt : k < N
  ·obtain ⟨b, off, rfl, e0, e1, e2, e3⟩ := (hF.below hb) k (by rw [HN.out]; exact hlt);generalize HG : fs[k]?.getD noFV = g at *;have HG' : Hid (fs[k]?.getD noFV = g) := HG;clear HG hF;obtain ⟨ga, gn, gcap, gc, gm, gcap', gK, gC, gD⟩ := g;obtain ⟨iC, iD, hn, hm⟩ := e3;simp only at e0 e1 e2 iC iD hn hm
   cases hf : formB gn gm gC gD gK
   ·go_wp2_with fail
    refine (iok_any _ _ _ _ _ gC gD (iC.alloc _) (iD.alloc _) hn hm).mono ?_;rintro e w1 ⟨rfl, b1⟩;have B1 := (hb.alloc hb.size _).trans (b1.mono (by have := hb.size; simp; omega))
    go_wp2
    go_ret
    exact ⟨ret_bool (all_no (k := k) (by rw [HN.out]; exact hlt) (by rw [HG'.out]; exact hf)).symm, B1⟩
   go_wp2_with fail
   refine (iok_any _ _ _ _ _ gC gD (iC.alloc _) (iD.alloc _) hn hm).mono ?_;rintro e w1 ⟨rfl, b1⟩;have B1 := (hb.alloc hb.size _).trans (b1.mono (by have := hb.size; simp; omega));clear b1 hb iC iD e0 e1 e2
   go_wp2
   go_roundw
   case rel => exact ⟨k + 1, by omega, by go_num, B1, all_take_succ (by rw [HN.out]; exact hlt) HA.out (by rw [HG'.out]; exact hf)⟩
   case measure => simp [intOf]; omega
  go_wp2
  go_ret
  exact ⟨ret_bool (by have := HA.out; rw [List.take_of_length_le (by rw [HN.out]; omega)] at this; exact this.symm), hb⟩
def addOk (n m : Nat) (C D : List Int) (K : Int) (n2 m2 : Nat) (C2 D2 : List Int) (K2 : Int) : Bool := formB n m C D K && formB n2 m2 C2 D2 K2 && formB 3 2 (lin C C2 1) (lin D D2 1) (K + 1 * K2)
structure H2 (w : World) (a : Option Addr) (n cap : Nat) (c : Option Addr) (m cap' : Nat) (K : Int) (a2 : Option Addr) (n2 cap2 : Nat) (c2 : Option Addr) (m2 cap2' : Nat) (K2 : Int) (w' : World) : Prop where
 p : Cel w' w.heap.size [.slice a n cap, .slice c m cap', .int .i64 K] 86
 q : Cel w' (w.heap.size + 1) [.slice a2 n2 cap2, .slice c2 m2 cap2', .int .i64 K2] 86
 r : Cel w' (w.heap.size + 1 + 1) [.slice none 0 0, .slice none 0 0, .int .i64 0] 86
 b : Below w.heap.size w w'
section
variable {w W w3 : World} {a c a2 c2 : Option Addr} {n cap m cap' n2 cap2 m2 cap2' : Nat} {K K2 : Int}
theorem H2.below (h : H2 w a n cap c m cap' K a2 n2 cap2 c2 m2 cap2' K2 W) (b : Below W.heap.size W w3) : H2 w a n cap c m cap' K a2 n2 cap2 c2 m2 cap2' K2 w3 :=
 ⟨h.p.below b, h.q.below b, h.r.below b, h.b.trans (b.mono h.b.size)⟩
theorem H2.alloc (h : H2 w a n cap c m cap' K a2 n2 cap2 c2 m2 cap2' K2 W) (o : Obj) : H2 w a n cap c m cap' K a2 n2 cap2 c2 m2 cap2' K2 (W.alloc o) := h.below (bal)
theorem H2.new : H2 w a n cap c m cap' K a2 n2 cap2 c2 m2 cap2' K2 (((w.alloc (Obj.cells #[Value.slice a n cap, Value.slice c m cap', Value.int IntKind.i64 K] 86)).alloc (Obj.cells #[Value.slice a2 n2 cap2, Value.slice c2 m2 cap2', Value.int IntKind.i64 K2] 86)).alloc (Obj.cells #[Value.slice none 0 0, Value.slice none 0 0, Value.int IntKind.i64 0] 86)) := by
 have q := (Cel.new (w.alloc (Obj.cells #[Value.slice a n cap, Value.slice c m cap', Value.int IntKind.i64 K] 86)) [.slice a2 n2 cap2, .slice c2 m2 cap2', .int .i64 K2] 86).alloc (Obj.cells #[Value.slice none 0 0, Value.slice none 0 0, Value.int IntKind.i64 0] 86);have r := Cel.new ((w.alloc (Obj.cells #[Value.slice a n cap, Value.slice c m cap', Value.int IntKind.i64 K] 86)).alloc (Obj.cells #[Value.slice a2 n2 cap2, Value.slice c2 m2 cap2', Value.int IntKind.i64 K2] 86)) [.slice none 0 0, .slice none 0 0, .int .i64 0] 86;rw [qA] at q;rw [qA, qA] at r
 exact ⟨((Cel.new w _ _).alloc _).alloc _, q, r, ((bal).alloc (by simp) _).alloc (by simp; omega) _⟩
theorem H2.cells (h : H2 w a n cap c m cap' K a2 n2 cap2 c2 m2 cap2' K2 W) :
  W.cell? ⟨w.heap.size, 0, none⟩ = some (.slice a n cap) /\ W.cell? ⟨w.heap.size, 1, none⟩ = some (.slice c m cap') /\ W.cell? ⟨w.heap.size, 2, none⟩ = some (.int .i64 K) /\
  W.cell? ⟨w.heap.size + 1, 0, none⟩ = some (.slice a2 n2 cap2) /\ W.cell? ⟨w.heap.size + 1, 1, none⟩ = some (.slice c2 m2 cap2') /\ W.cell? ⟨w.heap.size + 1, 2, none⟩ = some (.int .i64 K2) := ⟨h.p.cell 0, h.p.cell 1, h.p.cell 2, h.q.cell 0, h.q.cell 1, h.q.cell 2⟩
theorem H2.room (h : H2 w a n cap c m cap' K a2 n2 cap2 c2 m2 cap2' K2 W) :
  W.cell? ⟨w.heap.size + 1 + 1, 0, none⟩ = some (.slice none 0 0) /\ W.cell? ⟨w.heap.size + 1 + 1, 1, none⟩ = some (.slice none 0 0) /\ W.cell? ⟨w.heap.size + 1 + 1, 2, none⟩ = some (.int .i64 0) /\ W.frozen? ⟨w.heap.size + 1 + 1, 0, none⟩ = false /\ W.frozen? ⟨w.heap.size + 1 + 1, 1, none⟩ = false /\ W.frozen? ⟨w.heap.size + 1 + 1, 2, none⟩ = false := ⟨h.r.cell 0, h.r.cell 1, h.r.cell 2, h.r.free 0, h.r.free 1, h.r.free 2⟩
end
theorem sum_two {C2 D2 : List Int} {K2 : Int} (hC : C.length = 3) (hD : D.length = 2) (hC2 : C2.length = 3) (hD2 : D2.length = 2) :
  sumC [(C, D, K), (C2, D2, K2)] 2 = lin C C2 1 /\ sumD [(C, D, K), (C2, D2, K2)] 2 = lin D D2 1 /\ sumK [(C, D, K), (C2, D2, K2)] 2 = K + 1 * K2 := by
 match C, hC, C2, hC2, D, hD, D2, hD2 with
 | [x, y, z], _, [x', y', z'], _, [u, v], _, [u', v'], _ => simp [sumC, sumD, sumK, lin]
theorem iadd_any (a : Option Addr) (n cap : Nat) (c : Option Addr) (m cap' : Nat) (K : Int) (C D : List Int) (a2 : Option Addr) (n2 cap2 : Nat) (c2 : Option Addr) (m2 cap2' : Nat) (K2 : Int) (C2 D2 : List Int) (w : World) (hC : Ints w a n C) (hD : Ints w c m D) (hC2 : Ints w a2 n2 C2) (hD2 : Ints w c2 m2 D2) (hn : n <= 1048576) (hm : m <= 1048576) (hn2 : n2 <= 1048576) (hm2 : m2 <= 1048576) :
  Calls Tryz.prog 161 #[formV a n cap c m cap' K, formV a2 n2 cap2 c2 m2 cap2' K2] w fun e w' => Res w w' e (keepL (addOk n m C D K n2 m2 C2 D2 K2) (lin C C2 1)) (keepL (addOk n m C D K n2 m2 C2 D2 K2) (lin D D2 1)) (keepK (addOk n m C D K n2 m2 C2 D2 K2) (K + 1 * K2)) := by
 have n0 := H2.new (w := w) (a := a) (n := n) (cap := cap) (c := c) (m := m) (cap' := cap') (K := K) (a2 := a2) (n2 := n2) (cap2 := cap2) (c2 := c2) (m2 := m2) (cap2' := cap2') (K2 := K2);obtain ⟨fs, hfs⟩ : ∃ fs : List FV, fs = [⟨a, n, cap, c, m, cap', K, C, D⟩, ⟨a2, n2, cap2, c2, m2, cap2', K2, C2, D2⟩] := ⟨_, rfl⟩
 have hall : fs.all FV.ok = (formB n m C D K && formB n2 m2 C2 D2 K2) := by rw [hfs]; simp [FV.ok]
 have hlen : fs.length = 2 := by rw [hfs]; rfl
 have hG : ∀ W : World, Below w.heap.size w W -> FormsG (W.alloc (Obj.cells #[Value.slice a n cap, Value.slice c m cap', Value.int IntKind.i64 K, Value.slice a2 n2 cap2, Value.slice c2 m2 cap2', Value.int IntKind.i64 K2] 86)) (some ⟨W.heap.size, 0, none⟩) fs := by
  intro W hb i hi;rw [hfs] at hi ⊢;have hq := Cel.new W [Value.slice a n cap, Value.slice c m cap', Value.int IntKind.i64 K, Value.slice a2 n2 cap2, Value.slice c2 m2 cap2', Value.int IntKind.i64 K2] 86
  match i, hi with
  | 0, _ => exact ⟨_, 0, rfl, hq.cell 0, hq.cell 1, hq.cell 2, ⟨(hC.below hb).alloc _, (hD.below hb).alloc _, hn, hm⟩⟩
  | 1, _ => exact ⟨_, 0, rfl, hq.cell 3, hq.cell 4, hq.cell 5, ⟨(hC2.below hb).alloc _, (hD2.below hb).alloc _, hn2, hm2⟩⟩
 have HG : Hid _ := hG;have HF : Hid _ := hfs;clear hfs hG
 cases h1 : (formB n m C D K && formB n2 m2 C2 D2 K2)
 ·have ht : addOk n m C D K n2 m2 C2 D2 K2 = false := by simp only [addOk, h1, Bool.false_and]
  rw [ht, keepL_no, keepL_no, keepK_no];rw [h1] at hall
  go_enter Tryz.func161, Tryz.ntmps161
  have gg := HG.out _ n0.b;simp only [qA] at gg
  go_wp2_with fail
  refine (allForms_any 2 fs hlen gg (by omega)).mono ?_;rintro e w1 ⟨rfl, b1⟩;have H := (n0.alloc _).below b1;obtain ⟨r0, r1, r2, r3, r4, r5⟩ := H.room;rw [hall]
  go_wp2
  refine bodyPost_ret (v := formV none 0 0 none 0 0 0) (by simp [results, Tryz.results161, go_sem, r0, r1, r2]) rfl (Res.none rfl ?_)
  exact ((H.b.setCell (by simp only []; omega) _).setCell (by simp only []; omega) _).setCell (by simp only []; omega) _
 have h1' := h1;rw [Bool.and_eq_true] at h1';obtain ⟨rfl, rfl, bC, bD, bK1, bK2⟩ := formB_elim h1'.1;obtain ⟨rfl, rfl, bC2, bD2, bK3, bK4⟩ := formB_elim h1'.2;have LC := lin_len (n := 1) hC.1 hC2.1;have LD := lin_len (n := 1) hD.1 hD2.1;have ht : addOk 3 2 C D K 3 2 C2 D2 K2 = formB 3 2 (lin C C2 1) (lin D D2 1) (K + 1 * K2) := by simp only [addOk, h1, Bool.true_and]
 rw [ht];clear ht;rw [h1] at hall;obtain ⟨sC, sD, sK⟩ := sum_two (K := K) (K2 := K2) hC.1 hD.1 hC2.1 hD2.1;have hmap : fs.map FV.frm = [(C, D, K), (C2, D2, K2)] := by rw [HF.out]; rfl
 have HM : Hid _ := hmap;have SC : Hid _ := sC;have SD : Hid _ := sD;have SK : Hid _ := sK;clear hmap sC sD sK h1 h1' bC bD bC2 bD2;obtain ⟨S, hS⟩ : ∃ S, S = K + 1 * K2 := ⟨_, rfl⟩
 have HS : Hid (S = K + 1 * K2) := hS;rw [<- hS];clear hS
 cases h3 : formB 3 2 (lin C C2 1) (lin D D2 1) S
 all_goals
  go_enter Tryz.func161, Tryz.ntmps161
  have gg := HG.out _ n0.b;simp only [qA] at gg
  go_wp2_with fail
  refine (allForms_any 2 fs hlen gg (by omega)).mono ?_;rintro e w1 ⟨rfl, b1⟩;have H1 := (n0.alloc _).below b1;obtain ⟨c0, c1, c2x, c3, c4, c5⟩ := H1.cells;have A1 := H1.r.lt;rw [hall];have fa := (HG.out _ H1.b).at hall;rw [HM.out] at fa;clear gg b1
  go_wp2_with fail
  refine (sum_any _ 2 _ [(C, D, K), (C2, D2, K2)] 10000000 rfl fa.1 fa.2).mono ?_;rintro e w2 ⟨B1, B2, rfl, b2, g1, g2, g3, k1, k2⟩;rw [SC.out] at k1;rw [SD.out] at k2;rw [SK.out, <- HS.out];rw [qA] at g1 g3;have H2' := (H1.alloc _).below b2;clear c0 c1 c2x c3 c4 c5 fa b2
  go_wp2_with fail
  first
   | (refine (orN_no (lin C C2 1) (lin D D2 1) (k1.ints' LC) (k2.ints' LD) hn hm h3).mono ?_)
   | (refine (orN_yes (lin C C2 1) (lin D D2 1) (k1.ints' LC) (k2.ints' LD) hn hm h3).mono ?_)
  rintro e w3 ⟨rfl, b3⟩;have H := H2'.below b3;have k1' := k1.below b3;have k2' := k2.below b3;obtain ⟨r0, r1, r2, r3, r4, r5⟩ := H.room;have A2 := H1.b.size;clear H1 H2' k1 k2 b3 n0 hall
  go_wp2
 ·refine bodyPost_ret (v := formV none 0 0 none 0 0 0) (by simp [results, Tryz.results161, go_sem, r0, r1, r2]) rfl (Res.none rfl ?_)
  exact ((H.b.setCell (by simp only []; omega) _).setCell (by simp only []; omega) _).setCell (by simp only []; omega) _
 refine bodyPost_ret (v := formV (some ⟨B1, 0, none⟩) 3 3 (some ⟨B2, 0, none⟩) 2 2 S) (by simp [results, Tryz.results161, go_sem, r0, r1, r2]) rfl (Res.of (B1 := B1) (B2 := B2) rfl LC LD ?_ (by omega) g2 (by omega) ?_ ?_)
 ·exact ((H.b.setCell (by simp only []; omega) _).setCell (by simp only []; omega) _).setCell (by simp only []; omega) _
 ·exact ((k1'.so).so).so
 exact ((k2'.so).so).so
end Go.Proofs.YtemcinobgdphnaaGreat
