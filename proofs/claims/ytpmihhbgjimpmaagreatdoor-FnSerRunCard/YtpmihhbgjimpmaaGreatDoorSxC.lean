/-
  Lemmas that the claim's last text rests on.
-/
import Derived.Lib.SmallJoins
import Derived.Deep.Slices
import Derived.Deep.AppendLies
import Derived.Test.YtpmihhbgjimpmaaGreatDoorSxB
namespace Go.Proofs.YtpmihhbgjimpmaaGreatDoor
open Go.RowKit Go.ChangeShapes Go.WideShapes Go.ChangeAt Go.Joins Go.Deep
open Option.some renaming injEq → qA
open Addr.mk renaming injEq → qB
open List renaming getElem?_cons_zero → qC, getElem?_cons_succ → qD
open Nat renaming le_refl → qE
set_option linter.unusedVariables false
set_option maxRecDepth 100000
set_option maxHeartbeats 25600000
variable {B B1 B2 R cap cap' m n : Nat} {C D bs zs : List Int} {K p : Int} {S : Nat -> Prop} {W w w' : World} {a c : Option Addr}
structure FmN (w w' : World) (R : Nat) (a : Option Addr) (n cap : Nat) (bs : List Int) (p q : Int) (B1 nC B2 nD : Nat) (C D : List Int) : Prop where
 t : Touch (fun x => x = R) w w'
 r : Rd w' R a n cap bs q
 c : Ints w' (some ⟨B1, 0, none⟩) nC C
 d : Ints w' (some ⟨B2, 0, none⟩) nD D
 c4 : nC <= 4
 d4 : nD <= 4
 c1 : 1 <= nC
 d1 : 1 <= nD
 b1 : w.heap.size <= B1
 b2 : w.heap.size <= B2
 q0 : p <= q
 q1 : q <= p + 20
theorem Blk.own {base : Nat} (h : Blk W B zs) (hl : zs.length = n) (hb : base <= B) (hn : n <= 1000) : W.ownsRow base 3 1 (.slice (some ⟨B, 0, none⟩) n n) n (zs.map (Value.int .i64)) := by
 subst hl
 exact ⟨by simp, .inr ⟨B, zs.length, _, rfl, hb, h, qE _, by unfold maxLen; omega, by simp, by rw [List.take_of_length_le (by simp)]⟩⟩
theorem Ints.setFar (h : Ints W a n zs) (hB : ∀ b o, a = some ⟨b, o, none⟩ -> b ≠ B) (i : Nat) (v : Value) : Ints (W.setCell ⟨B, i, none⟩ v) a n zs := by
 refine ⟨h.1, fun k hk => ?_⟩;obtain ⟨b, off, e, hc⟩ := h.2 k hk
 exact ⟨b, off, e, (World.cell?_of_block (Below.heap_setCell W ⟨B, i, none⟩ v b (hB b off e))).trans hc⟩
theorem Ints.cut {k : Nat} (h : Ints W a n zs) (hk : k <= n) : Ints W a k (zs.take k) := by
 refine ⟨by rw [List.length_take, h.1]; omega, fun i hi => ?_⟩;obtain ⟨b, off, e, hc⟩ := h.2 i (by omega)
 exact ⟨b, off, e, by rw [hc]; simp [hi]⟩
theorem FmN.set {q : Int} {nC nD : Nat} (h : FmN w W R a n cap bs p q B1 nC B2 nD C D) {B : Nat} (hB : w.heap.size <= B) (h1 : B1 ≠ B) (h2 : B2 ≠ B) (hR : R < w.heap.size) (ha : 0 < n -> ∀ b o, a = some ⟨b, o, none⟩ -> b < w.heap.size) (i : Nat) (v : Value) : FmN w (W.setCell ⟨B, i, none⟩ v) R a n cap bs p q B1 nC B2 nD C D :=
 ⟨h.t.setNewF hB i v, h.r.setNew (by omega) (fun h0 b o e => by have := ha h0 b o e; omega) i v, h.c.setFar (fun b o e => by simp only [qA, qB] at e; omega) i v, h.d.setFar (fun b o e => by simp only [qA, qB] at e; omega) i v, h.c4, h.d4, h.c1, h.d1, h.b1, h.b2, h.q0, h.q1⟩
theorem bnd.up {M N : Int} (h : bnd M zs) (hM : M <= N) : bnd N zs := fun i => by have := h i; omega
theorem litF_4 (j : Nat) (hj : j < 4) : -10000001 <= ([10000000, -10000000, 1000, 77] : List Int)[j]?.getD 0 /\ ([10000000, -10000000, 1000, 77] : List Int)[j]?.getD 0 <= 10000001 := by
 rcases j with _ | _ | _ | _ | j <;> first | omega | simp
theorem litF_2 (j : Nat) (hj : j < 2) : -10000001 <= ([10000001, -10000001] : List Int)[j]?.getD 0 /\ ([10000001, -10000001] : List Int)[j]?.getD 0 <= 10000001 := by
 rcases j with _ | _ | _ | _ | j <;> first | omega | simp
theorem form_f (R : Nat) (a : Option Addr) (n cap : Nat) (bs : List Int) (p N : Int) {w : World} (hR : Rd w R a n cap bs p) (hp : 0 <= p) (hp1 : p <= 8000000) (hN : 1 <= N) (hN1 : N <= 1000) (ha : 0 < n -> ∀ b o, a = some ⟨b, o, none⟩ -> b < w.heap.size) :
  Calls Tryz.prog 150 #[.pointer (some ⟨R, 0, none⟩), .int .i64 N] w fun e w' => ∃ B1 nC cC B2 nD cD K C D q, e = .returned (formV (some ⟨B1, 0, none⟩) nC cC (some ⟨B2, 0, none⟩) nD cD K) /\ FmN w w' R a n cap bs p q B1 nC B2 nD C D := by
 have hRl := hR.c.lt;have bx := Cel.new w [.slice none 0 0, .slice none 0 0, .int .i64 0] 95;have B0 := (Below.refl w.heap.size w).alloc (qE _) (.cells #[.slice none 0 0, .slice none 0 0, .int .i64 0] 95);obtain ⟨i0, hi, hz0, hz1, hz2⟩ := info_parts Tryz.infoInt
 go_enter Tryz.func150, Tryz.ntmps150
 go_wp2_with fail
 refine (small_f R a n cap bs p (hR.below B0) hp (by omega) (fun h0 b o e => by have := ha h0 b o e; have := B0.size; omega)).mono ?_;rintro e w1 ⟨B1, B2, C, D, K, rfl, t1, R1, f1, s1, s2, s3, s4⟩;have al := (Below.refl w1.heap.size w1).alloc (qE _) (.cells #[.slice (some ⟨B1, 0, none⟩) 3 3, .slice (some ⟨B2, 0, none⟩) 2 2, .int .i64 K] 95);have z1 := f1.b1;have z2 := f1.b2;have z3 := t1.size;rw [World.size_alloc] at z1 z2 z3;have lt1 := f1.k1.lt;have lt2 := f1.k2.lt
 have s0 : SmI w (w1.alloc (.cells #[.slice (some ⟨B1, 0, none⟩) 3 3, .slice (some ⟨B2, 0, none⟩) 2 2, .int .i64 K] 95)) R a n cap bs (p + 6) w1.heap.size B1 B2 C D K 10000001 :=
  ⟨((Touch.of B0).trans t1).trans (Touch.of al), R1.below al, (f1.below al).mono (by rw [World.size_alloc]; omega), Cel.new w1 _ _, (bx.touch t1 (by omega)).below al, by omega, by omega, by omega, hRl, ha, s1.up (by omega), s2.up (by omega)⟩
 obtain ⟨fb, hfb⟩ : ∃ x, x = w1.heap.size := ⟨_, rfl⟩
 obtain ⟨W2, hW2⟩ : ∃ W, W = w1.alloc (.cells #[.slice (some ⟨B1, 0, none⟩) 3 3, .slice (some ⟨B2, 0, none⟩) 2 2, .int .i64 K] 95) := ⟨_, rfl⟩
 rw [<- hfb, <- hW2] at s0
 go_wp2_with fail
 rw [<- hfb, <- hW2];clear hfb hW2 hR bx B0 t1 R1 f1 al z1 z2 z3 lt1 lt2 s1 s2;refine (pick_any R a n cap bs (p + 6) 4 s0.r).mono ?_;rintro e w3 ⟨r, r0, r1, rfl, t3, R3⟩;have s := s0.pick t3 R3;clear s0 t3 R3
 go_upto_if 10 with fail
 go_cut [] (fun wx => ∃ C q, SmI w wx R a n cap bs q fb B1 B2 C D K 10000001 /\ p <= q /\ q <= p + 9)
 case first =>
  by_cases hr : r = 0
  ·have hr' : (r == 0) = true := by simpa using hr
   go_upto_region 3 with fail
   clear hr hr' r0 r1;refine wp_region_ends (fun X => X.cell? ⟨fb, 0, none⟩ = some (.slice (some ⟨B1, 0, none⟩) 3 3)) (fun _ => True) 10 (by kernel_rfl) ?_;have sd := s.below ((Below.refl _ _).drew);obtain ⟨V0, hV0⟩ : ∃ V, V = w3.drew := ⟨_, rfl⟩
   rw [<- hV0] at sd ⊢;clear hV0 s;have hS0 : (fun X : World => X.cell? ⟨fb, 0, none⟩ = some (.slice (some ⟨B1, 0, none⟩) 3 3)) V0 /\ True := ⟨sd.cb.cell 0, trivial⟩
   refine tkl 0 rfl hS0 ?_;refine tkl 1 rfl hS0 ?_;refine tkl 2 rfl hS0 ?_;refine tkl 5 rfl hS0 ?_;clear hS0;refine wpAnyE_two (i := 3) (j := 4) (by kernel_rfl) rfl rfl (fun Kn hK => ?_) (fun Kn hK => ?_)
   ·go_simp;refine (pick_any R a n cap bs _ 3 sd.r).mono ?_;rintro e wA ⟨ri, r0, r1, rfl, t5, R5⟩;obtain ⟨i, rfl⟩ := Int.eq_ofNat_of_zero_le r0;have hi : i < 3 := by omega
    have hi' : (i : Int) < 3 := by omega
    clear r0 r1;have sa := sd.pick t5 R5;clear t5 R5;dsimp only;refine kk0 hK (sa.cb.cell 0) ?_;clear hK;refine wpAnyE_two (i := 4) (j := 6) (by kernel_rfl) rfl rfl (fun Kn hK => ?_) (fun Kn hK => ?_)
    ·go_simp;have al := (Below.refl wA.heap.size wA).alloc (qE _) (.cells #[.int .i64 10000000, .int .i64 (-10000000), .int .i64 1000, .int .i64 77] 3);have lb := Cel.new wA [.int .i64 10000000, .int .i64 (-10000000), .int .i64 1000, .int .i64 77] 3;have sb := sa.below al;clear al;refine kk0 hK (sb.cb.cell 0) ?_;clear hK;refine wpAnyE_one (i := 6) (by kernel_rfl) rfl (fun Kn hK => ?_);go_simp;refine (pick_any R a n cap bs _ 4 sb.r).mono ?_;rintro e wB ⟨rj, r0, r1, rfl, t5, R5⟩;obtain ⟨j, rfl⟩ := Int.eq_ofNat_of_zero_le r0;have hj : j < 4 := by omega
     have hj' : (j : Int) < 4 := by omega
     clear r0 r1;have sc := sb.pick t5 R5;replace lb := lb.touch t5 (by have h1 := sa.hR; have h2 := sa.t.size; omega);clear t5 R5;dsimp only;refine kk0 hK (sc.cb.cell 0) ?_;clear hK;have hS5 : (fun X : World => X.cell? ⟨fb, 0, none⟩ = some (.slice (some ⟨B1, 0, none⟩) 3 3)) wB /\ True := ⟨sc.cb.cell 0, trivial⟩
     refine tkl 7 rfl hS5 ?_;have hc := lit_cell (xs := [10000000, -10000000, 1000, 77]) lb hj;have hy := litF_4 j hj;generalize ([10000000, -10000000, 1000, 77] : List Int)[j]?.getD 0 = y at hc hy;refine wpAnyE_one (i := 8) (by kernel_rfl) rfl (fun Kn hK => ?_);go_simp;refine kk0 hK (sc.cb.cell 0) ?_;clear hK;refine tkl 9 rfl hS5 ?_;have s6 := sc.setC i hy.1 hy.2;have kc := sc.f.k1.cell i (by rw [sc.f.l1]; omega);have kf := sc.f.k1.free i;have kl := sc.f.k1.lt;refine wpAnyE_one (i := 10) (by kernel_rfl) rfl (fun Kn hK => ?_);go_simp;refine kk0 hK (s6.cb.cell 0) ?_;clear hK;refine wod ?_ _;clear hS5 hc kc kf lb
     go_wp2
     go_meet
     case rel => exact ⟨_, _, s6, by omega, by omega⟩
    go_simp;refine (pick_any R a n cap bs _ 4 sa.r).mono ?_;rintro e wB ⟨rj, r0, r1, rfl, t5, R5⟩;obtain ⟨j, rfl⟩ := Int.eq_ofNat_of_zero_le r0;have hj : j < 4 := by omega
    have hj' : (j : Int) < 4 := by omega
    clear r0 r1;have sb := sa.pick t5 R5;clear t5 R5;dsimp only;refine kk0 hK (sb.cb.cell 0) ?_;clear hK;refine wpAnyE_one (i := 4) (by kernel_rfl) rfl (fun Kn hK => ?_);go_simp;have al := (Below.refl wB.heap.size wB).alloc (qE _) (.cells #[.int .i64 10000000, .int .i64 (-10000000), .int .i64 1000, .int .i64 77] 3);have lb := Cel.new wB [.int .i64 10000000, .int .i64 (-10000000), .int .i64 1000, .int .i64 77] 3;have sc := sb.below al;clear al;refine kk0 hK (sc.cb.cell 0) ?_;clear hK;have hS5 : (fun X : World => X.cell? ⟨fb, 0, none⟩ = some (.slice (some ⟨B1, 0, none⟩) 3 3)) (wB.alloc (.cells #[.int .i64 10000000, .int .i64 (-10000000), .int .i64 1000, .int .i64 77] 3)) /\ True := ⟨sc.cb.cell 0, trivial⟩
    refine tkl 7 rfl hS5 ?_;have hc := lit_cell (xs := [10000000, -10000000, 1000, 77]) lb hj;have hy := litF_4 j hj;generalize ([10000000, -10000000, 1000, 77] : List Int)[j]?.getD 0 = y at hc hy;refine wpAnyE_one (i := 8) (by kernel_rfl) rfl (fun Kn hK => ?_);go_simp;refine kk0 hK (sc.cb.cell 0) ?_;clear hK;refine tkl 9 rfl hS5 ?_;have s6 := sc.setC i hy.1 hy.2;have kc := sc.f.k1.cell i (by rw [sc.f.l1]; omega);have kf := sc.f.k1.free i;have kl := sc.f.k1.lt;refine wpAnyE_one (i := 10) (by kernel_rfl) rfl (fun Kn hK => ?_);go_simp;refine kk0 hK (s6.cb.cell 0) ?_;clear hK;refine wod ?_ _;clear hS5 hc kc kf lb
    go_wp2
    go_meet
    case rel => exact ⟨_, _, s6, by omega, by omega⟩
   go_simp;have al := (Below.refl V0.heap.size V0).alloc (qE _) (.cells #[.int .i64 10000000, .int .i64 (-10000000), .int .i64 1000, .int .i64 77] 3);have lb := Cel.new V0 [.int .i64 10000000, .int .i64 (-10000000), .int .i64 1000, .int .i64 77] 3;have sa := sd.below al;clear al;refine kk0 hK (sa.cb.cell 0) ?_;clear hK;refine wpAnyE_one (i := 3) (by kernel_rfl) rfl (fun Kn hK => ?_);go_simp;refine (pick_any R a n cap bs _ 3 sa.r).mono ?_;rintro e wA ⟨ri, r0, r1, rfl, t5, R5⟩;obtain ⟨i, rfl⟩ := Int.eq_ofNat_of_zero_le r0;have hi : i < 3 := by omega
   have hi' : (i : Int) < 3 := by omega
   clear r0 r1;have sb := sa.pick t5 R5;replace lb := lb.touch t5 (by have h1 := sd.hR; have h2 := sd.t.size; omega);clear t5 R5;dsimp only;refine kk0 hK (sb.cb.cell 0) ?_;clear hK;refine wpAnyE_one (i := 6) (by kernel_rfl) rfl (fun Kn hK => ?_);go_simp;refine (pick_any R a n cap bs _ 4 sb.r).mono ?_;rintro e wB ⟨rj, r0, r1, rfl, t5, R5⟩;obtain ⟨j, rfl⟩ := Int.eq_ofNat_of_zero_le r0;have hj : j < 4 := by omega
   have hj' : (j : Int) < 4 := by omega
   clear r0 r1;have sc := sb.pick t5 R5;replace lb := lb.touch t5 (by have h1 := sd.hR; have h2 := sd.t.size; omega);clear t5 R5;dsimp only;refine kk0 hK (sc.cb.cell 0) ?_;clear hK;have hS5 : (fun X : World => X.cell? ⟨fb, 0, none⟩ = some (.slice (some ⟨B1, 0, none⟩) 3 3)) wB /\ True := ⟨sc.cb.cell 0, trivial⟩
   refine tkl 7 rfl hS5 ?_;have hc := lit_cell (xs := [10000000, -10000000, 1000, 77]) lb hj;have hy := litF_4 j hj;generalize ([10000000, -10000000, 1000, 77] : List Int)[j]?.getD 0 = y at hc hy;refine wpAnyE_one (i := 8) (by kernel_rfl) rfl (fun Kn hK => ?_);go_simp;refine kk0 hK (sc.cb.cell 0) ?_;clear hK;refine tkl 9 rfl hS5 ?_;have s6 := sc.setC i hy.1 hy.2;have kc := sc.f.k1.cell i (by rw [sc.f.l1]; omega);have kf := sc.f.k1.free i;have kl := sc.f.k1.lt;refine wpAnyE_one (i := 10) (by kernel_rfl) rfl (fun Kn hK => ?_);go_simp;refine kk0 hK (s6.cb.cell 0) ?_;clear hK;refine wod ?_ _;clear hS5 hc kc kf lb
   go_wp2
   go_meet
   case rel => exact ⟨_, _, s6, by omega, by omega⟩
  have hr' : (r == 0) = false := by simpa using hr
  go_wp2
  go_meet
  case rel => exact ⟨_, _, s, by omega, by omega⟩
 case rest =>
  clear s r0 r1;obtain ⟨C, q, s0, q0, q1⟩ := hcut
  go_wp2_with fail
  refine (pick_any R a n cap bs q N s0.r).mono ?_;rintro e w4 ⟨u, u0, u1, rfl, t4, R4⟩;have s := s0.pick t4 R4;clear s0 t4 R4
  by_cases hu : 0 < u
  ·have c0 := s.cb.cell 0;have c1 := s.cb.cell 1;have c2 := s.cb.cell 2;have g0 := s.rb.cell 0;have g1 := s.rb.cell 1;have g2 := s.rb.cell 2;have h0 := s.rb.free 0;have h1 := s.rb.free 1;have h2 := s.rb.free 2;simp only [qC, qD] at c0 c1 c2 g0 g1 g2;have l1 := s.cb.lt;have l2 := s.rb.lt;have hf := s.hf;have b1 := s.f.b1;have b2 := s.f.b2;have m1 : ¬ w.heap.size = fb := by omega
   have m2 : ¬ fb = w.heap.size := by omega
   go_wp2
   refine bodyPost_ret (v := formV (some ⟨B1, 0, none⟩) 3 3 (some ⟨B2, 0, none⟩) 2 2 K) (by simp [results, Tryz.results150, go_sem, g0, g1, g2]) rfl ⟨B1, 3, 3, B2, 2, 2, K, C, D, q + 1, rfl, ?_⟩
   exact (((FmN.mk s.t s.r (s.f.k1.ints' s.f.l1) (s.f.k2.ints' s.f.l2) (by omega) (by omega) (by omega) (by omega) (by omega) (by omega) (by omega) (by omega)).set (B := w.heap.size) (qE _) (by omega) (by omega) hRl ha 0 _).set (B := w.heap.size) (qE _) (by omega) (by omega) hRl ha 1 _).set (B := w.heap.size) (qE _) (by omega) (by omega) hRl ha 2 _
  obtain rfl : u = 0 := by omega
  go_wp2_with fail
  refine (pick_any R a n cap bs (q + 1) 4 s.r).mono ?_;rintro e w5 ⟨v, v0, v1, rfl, t5, R5⟩;have s' := s.pick t5 R5;clear s t5 R5;have s := s';clear s' u0 u1 hu
  rcases (show v = 0 \/ v = 1 \/ v = 2 \/ v = 3 from by omega) with rfl | rfl | rfl | rfl
  ·have c0 := s.cb.cell 0;have c1 := s.cb.cell 1;have c2 := s.cb.cell 2;have e0 := s.cb.free 0;have g0 := s.rb.cell 0;have g1 := s.rb.cell 1;have g2 := s.rb.cell 2;have h0 := s.rb.free 0;have h1 := s.rb.free 1;have h2 := s.rb.free 2;simp only [qC, qD] at c0 c1 c2 g0 g1 g2;have l1 := s.cb.lt;have l2 := s.rb.lt;have hf := s.hf;have b1 := s.f.b1;have b2 := s.f.b2;have m1 : ¬ w.heap.size = fb := by omega
   have m2 : ¬ fb = w.heap.size := by omega
   go_wp2
   refine bodyPost_ret (v := formV (some ⟨B1, 0, none⟩) 2 3 (some ⟨B2, 0, none⟩) 2 2 K) (by simp [results, Tryz.results150, go_sem, g0, g1, g2]) rfl ⟨B1, 2, 3, B2, 2, 2, K, C.take 2, D, q + 1 + 1, rfl, ?_⟩
   exact ((((FmN.mk s.t s.r ((s.f.k1.ints' s.f.l1).cut (by omega)) (s.f.k2.ints' s.f.l2) (by omega) (by omega) (by omega) (by omega) (by omega) (by omega) (by omega) (by omega)).set (B := fb) (by omega) s.n1 s.n2 hRl ha 0 _).set (B := w.heap.size) (qE _) (by omega) (by omega) hRl ha 0 _).set (B := w.heap.size) (qE _) (by omega) (by omega) hRl ha 1 _).set (B := w.heap.size) (qE _) (by omega) (by omega) hRl ha 2 _
  ·have al := (Below.refl w5.heap.size w5).alloc (qE _) (.cells #[.int .i64 0] 3);have sa := s.below al;have oD := sa.f.k2.own (base := w.heap.size + 1) sa.f.l2 sa.f.b2 (by omega);have hsz := s.t.size;have c1 := s.cb.cell 1;simp only [qC, qD] at c1;clear al s
   go_wp2_with (at_builtin; refine wpList_append_own _ rfl (.tmp 47) (.tmp 48) 24 rfl (w.heap.size + 1) 3 i0 (.int .i64 0) 1 8 Tryz.underlying24 hi hz0 hz1 hz2 rfl (by decide) _ _ _ rfl oD ⟨w5.heap.size, 0, none⟩ 1 1 [.int .i64 0] rfl rfl ?d1 ?d2 ?d3 ?d4 ?d5 ?_)
   case d1 =>
    intro i u hu
    match i, hu with
    | 0, hu => simp at hu; subst hu; simp [Addr.add]
   case d2 => intro u hu; simp at hu; subst hu; rfl
   case d3 => unfold maxLen; omega
   case d4 => omega
   case d5 => have := sa.hf; have := sa.cb.lt; omega
   intro v' w6 hown hgrow _
   rcases hown.2 with ⟨_, hh⟩ | ⟨g, cap', cur, rfl, hg, hh, hl, _, _, _⟩
   ·omega
   have hI : Ints w6 (some ⟨g, 0, none⟩) 3 (D ++ [0]) := by
    refine ⟨by rw [List.length_append, sa.f.l2]; rfl, fun i hi => ⟨g, 0, rfl, ?_⟩⟩;have := hown.cellAt i (by omega);rw [Nat.zero_add, this];have e2 : D.map (Value.int .i64) ++ [Value.int .i64 0] = (D ++ [0]).map (Value.int .i64) := by simp
    rw [e2, List.getElem?_map];have hl3 : i < (D ++ [0]).length := by rw [List.length_append, sa.f.l2]; exact hi
    rw [List.getElem?_eq_getElem hl3];simp [List.getElem?_eq_getElem hl3]
   have hgr : ∀ k, k < (w5.alloc (.cells #[.int .i64 0] 3)).heap.size -> k ≠ B2 -> w6.heap[k]? = (w5.alloc (.cells #[.int .i64 0] 3)).heap[k]? := fun k hk hne => hgrow.block k hk (fun e => hne (by simpa [Value.ownBlock] using e));have T6 : Touch (fun x => x = B2) (w5.alloc (.cells #[.int .i64 0] 3)) w6 := ⟨hgrow.os, hgrow.tape, hgrow.output, hgrow.size, fun k hk hs => hgr k hk hs⟩
   have b2 := sa.f.b2;have b1 := sa.f.b1;have t6 : Touch (fun x => x = R) w w6 := ⟨T6.os.trans sa.t.os, T6.tape.trans sa.t.tape, T6.output.trans sa.t.output, Nat.le_trans sa.t.size T6.size, fun k hk hs => (T6.block k (Nat.lt_of_lt_of_le hk sa.t.size) (by omega)).trans (sa.t.block k hk hs)⟩
   have r6 := sa.r.touch T6 (by omega) (fun h0 b o e => by have := ha h0 b o e; omega);have cb6 := sa.cb.touch T6 (fun e => sa.n2 e.symm);have rb6 := sa.rb.touch T6 (by omega);have C6 := (sa.f.k1.touchF T6 sa.f.ne).ints' sa.f.l1;have hf := sa.hf;have n1 := sa.n1
   have gfb : g ≠ fb := fun e => by
    have h1 : w6.heap[fb]? = _ := cb6;rw [<- e, hh] at h1;simp at h1
   have gr : g ≠ w.heap.size := by omega
   have c0 := cb6.cell 0;have c1' := cb6.cell 1;have c2 := cb6.cell 2;have e1 := cb6.free 1;have r0 := rb6.cell 0;have r1 := rb6.cell 1;have r2 := rb6.cell 2;have g0 := rb6.free 0;have g1 := rb6.free 1;have g2 := rb6.free 2;simp only [qC, qD] at c0 c1' c2 r0 r1 r2;have l1 := cb6.lt;have l2 := rb6.lt;have m1 : ¬ w.heap.size = fb := by omega
   have m2 : ¬ fb = w.heap.size := by omega
   have hq := FmN.mk (p := p) t6 r6 C6 hI (by omega) (by omega) (by omega) (by omega) (by omega) (by omega) (by omega) (by omega);clear hown hgrow hgr T6 oD sa c1 C6 hI r6 t6 cb6 rb6
   go_wp2
   refine bodyPost_ret (v := formV (some ⟨B1, 0, none⟩) 3 3 (some ⟨g, 0, none⟩) 3 cap' K) (by simp [results, Tryz.results150, go_sem, r0, r1, r2]) rfl ⟨B1, 3, 3, g, 3, cap', K, C, D ++ [0], q + 1 + 1, rfl, ?_⟩
   exact (((hq.set (B := fb) (by omega) n1 gfb hRl ha 1 _).set (B := w.heap.size) (qE _) (by omega) gr hRl ha 0 _).set (B := w.heap.size) (qE _) (by omega) gr hRl ha 1 _).set (B := w.heap.size) (qE _) (by omega) gr hRl ha 2 _
  ·have al := (Below.refl w5.heap.size w5).alloc (qE _) (.cells #[.int .i64 10000001, .int .i64 (-10000001), .int .i64 10000000] 3);have lb0 := Cel.new w5 [.int .i64 10000001, .int .i64 (-10000001), .int .i64 10000000] 3;have sa := s.below al;have hRR := s.hR;have hsz := s.t.size;clear al s
   go_wp2_with fail
   refine (pick_any R a n cap bs _ 3 sa.r).mono ?_;rintro e w6 ⟨r, r0, r1, rfl, t6, R6⟩;obtain ⟨j, rfl⟩ := Int.eq_ofNat_of_zero_le r0;have hj : j < 3 := by omega
   have hj' : (j : Int) < 3 := by omega
   have s := sa.pick t6 R6;have lb := lb0.touch t6 (by omega);have hc := lit_cell (xs := [10000001, -10000001, 10000000]) lb hj;generalize ([10000001, -10000001, 10000000] : List Int)[j]?.getD 0 = y at hc;clear r0 r1 sa t6 R6 lb lb0;have c0 := s.cb.cell 0;have c1 := s.cb.cell 1;have c2 := s.cb.cell 2;have e2 := s.cb.free 2;have g0 := s.rb.cell 0;have g1 := s.rb.cell 1;have g2 := s.rb.cell 2;have h0 := s.rb.free 0;have h1 := s.rb.free 1;have h2 := s.rb.free 2;simp only [qC, qD] at c0 c1 c2 g0 g1 g2;have l1 := s.cb.lt;have l2 := s.rb.lt;have hf := s.hf;have b1 := s.f.b1;have b2 := s.f.b2;have m1 : ¬ w.heap.size = fb := by omega
   have m2 : ¬ fb = w.heap.size := by omega
   go_wp2
   refine bodyPost_ret (v := formV (some ⟨B1, 0, none⟩) 3 3 (some ⟨B2, 0, none⟩) 2 2 y) (by simp [results, Tryz.results150, go_sem, g0, g1, g2]) rfl ⟨B1, 3, 3, B2, 2, 2, y, C, D, q + 1 + 1 + 1, rfl, ?_⟩
   exact ((((FmN.mk s.t s.r (s.f.k1.ints' s.f.l1) (s.f.k2.ints' s.f.l2) (by omega) (by omega) (by omega) (by omega) (by omega) (by omega) (by omega) (by omega)).set (B := fb) (by omega) s.n1 s.n2 hRl ha 2 _).set (B := w.heap.size) (qE _) (by omega) (by omega) hRl ha 0 _).set (B := w.heap.size) (qE _) (by omega) (by omega) hRl ha 1 _).set (B := w.heap.size) (qE _) (by omega) (by omega) hRl ha 2 _
  go_upto_region 7 with fail
  refine wp_region_ends (fun X => X.cell? ⟨fb, 0, none⟩ = some (.slice (some ⟨B1, 0, none⟩) 3 3)) (fun _ => True) 10 (by kernel_rfl) ?_;have sd := s.below ((Below.refl _ _).drew);obtain ⟨V0, hV0⟩ : ∃ V, V = w5.drew := ⟨_, rfl⟩
  rw [<- hV0] at sd ⊢;clear hV0 s;have hS0 : (fun X : World => X.cell? ⟨fb, 0, none⟩ = some (.slice (some ⟨B1, 0, none⟩) 3 3)) V0 /\ True := ⟨sd.cb.cell 0, trivial⟩
  refine tkl 0 rfl hS0 ?_;refine tkl 1 rfl hS0 ?_;refine tkl 2 rfl hS0 ?_;refine tkl 5 rfl hS0 ?_;clear hS0;refine wpAnyE_two (i := 3) (j := 4) (by kernel_rfl) rfl rfl (fun Kn hK => ?_) (fun Kn hK => ?_)
  ·go_simp;refine (pick_any R a n cap bs _ 3 sd.r).mono ?_;rintro e wA ⟨ri, r0, r1, rfl, t5, R5⟩;obtain ⟨i, rfl⟩ := Int.eq_ofNat_of_zero_le r0;have hi : i < 3 := by omega
   have hi' : (i : Int) < 3 := by omega
   clear r0 r1;have sa := sd.pick t5 R5;clear t5 R5;dsimp only;refine kk0 hK (sa.cb.cell 0) ?_;clear hK;refine wpAnyE_two (i := 4) (j := 6) (by kernel_rfl) rfl rfl (fun Kn hK => ?_) (fun Kn hK => ?_)
   ·go_simp;have al := (Below.refl wA.heap.size wA).alloc (qE _) (.cells #[.int .i64 10000001, .int .i64 (-10000001)] 3);have lb := Cel.new wA [.int .i64 10000001, .int .i64 (-10000001)] 3;have sb := sa.below al;clear al;refine kk0 hK (sb.cb.cell 0) ?_;clear hK;refine wpAnyE_one (i := 6) (by kernel_rfl) rfl (fun Kn hK => ?_);go_simp;refine (pick_any R a n cap bs _ 2 sb.r).mono ?_;rintro e wB ⟨rj, r0, r1, rfl, t5, R5⟩;obtain ⟨j, rfl⟩ := Int.eq_ofNat_of_zero_le r0;have hj : j < 2 := by omega
    have hj' : (j : Int) < 2 := by omega
    clear r0 r1;have sc := sb.pick t5 R5;replace lb := lb.touch t5 (by have h1 := sa.hR; have h2 := sa.t.size; omega);clear t5 R5;dsimp only;refine kk0 hK (sc.cb.cell 0) ?_;clear hK;have hS5 : (fun X : World => X.cell? ⟨fb, 0, none⟩ = some (.slice (some ⟨B1, 0, none⟩) 3 3)) wB /\ True := ⟨sc.cb.cell 0, trivial⟩
    refine tkl 7 rfl hS5 ?_;have hc := lit_cell (xs := [10000001, -10000001]) lb hj;have hy := litF_2 j hj;generalize ([10000001, -10000001] : List Int)[j]?.getD 0 = y at hc hy;refine wpAnyE_one (i := 8) (by kernel_rfl) rfl (fun Kn hK => ?_);go_simp;refine kk0 hK (sc.cb.cell 0) ?_;clear hK;refine tkl 9 rfl hS5 ?_;have s6 := sc.setC i hy.1 hy.2;have kc := sc.f.k1.cell i (by rw [sc.f.l1]; omega);have kf := sc.f.k1.free i;have kl := sc.f.k1.lt;refine wpAnyE_one (i := 10) (by kernel_rfl) rfl (fun Kn hK => ?_);go_simp;refine kk0 hK (s6.cb.cell 0) ?_;clear hK;refine wod ?_ _;clear hS5 hc kc kf lb;have s := s6;clear s6;have c0 := s.cb.cell 0;have c1 := s.cb.cell 1;have c2 := s.cb.cell 2;have g0 := s.rb.cell 0;have g1 := s.rb.cell 1;have g2 := s.rb.cell 2;have h0 := s.rb.free 0;have h1 := s.rb.free 1;have h2 := s.rb.free 2;simp only [qC, qD] at c0 c1 c2 g0 g1 g2;have l1 := s.cb.lt;have l2 := s.rb.lt;have hf := s.hf;have b1 := s.f.b1;have b2 := s.f.b2;have m1 : ¬ w.heap.size = fb := by omega
    have m2 : ¬ fb = w.heap.size := by omega
    go_wp2
    refine bodyPost_ret (v := formV (some ⟨B1, 0, none⟩) 3 3 (some ⟨B2, 0, none⟩) 2 2 K) (by simp [results, Tryz.results150, go_sem, g0, g1, g2]) rfl ⟨B1, 3, 3, B2, 2, 2, K, C.set i y, D, q + 1 + 1 + 1 + 1, rfl, ?_⟩
    exact (((FmN.mk s.t s.r (s.f.k1.ints' s.f.l1) (s.f.k2.ints' s.f.l2) (by omega) (by omega) (by omega) (by omega) (by omega) (by omega) (by omega) (by omega)).set (B := w.heap.size) (qE _) (by omega) (by omega) hRl ha 0 _).set (B := w.heap.size) (qE _) (by omega) (by omega) hRl ha 1 _).set (B := w.heap.size) (qE _) (by omega) (by omega) hRl ha 2 _
   go_simp;refine (pick_any R a n cap bs _ 2 sa.r).mono ?_;rintro e wB ⟨rj, r0, r1, rfl, t5, R5⟩;obtain ⟨j, rfl⟩ := Int.eq_ofNat_of_zero_le r0;have hj : j < 2 := by omega
   have hj' : (j : Int) < 2 := by omega
   clear r0 r1;have sb := sa.pick t5 R5;clear t5 R5;dsimp only;refine kk0 hK (sb.cb.cell 0) ?_;clear hK;refine wpAnyE_one (i := 4) (by kernel_rfl) rfl (fun Kn hK => ?_);go_simp;have al := (Below.refl wB.heap.size wB).alloc (qE _) (.cells #[.int .i64 10000001, .int .i64 (-10000001)] 3);have lb := Cel.new wB [.int .i64 10000001, .int .i64 (-10000001)] 3;have sc := sb.below al;clear al;refine kk0 hK (sc.cb.cell 0) ?_;clear hK;have hS5 : (fun X : World => X.cell? ⟨fb, 0, none⟩ = some (.slice (some ⟨B1, 0, none⟩) 3 3)) (wB.alloc (.cells #[.int .i64 10000001, .int .i64 (-10000001)] 3)) /\ True := ⟨sc.cb.cell 0, trivial⟩
   refine tkl 7 rfl hS5 ?_;have hc := lit_cell (xs := [10000001, -10000001]) lb hj;have hy := litF_2 j hj;generalize ([10000001, -10000001] : List Int)[j]?.getD 0 = y at hc hy;refine wpAnyE_one (i := 8) (by kernel_rfl) rfl (fun Kn hK => ?_);go_simp;refine kk0 hK (sc.cb.cell 0) ?_;clear hK;refine tkl 9 rfl hS5 ?_;have s6 := sc.setC i hy.1 hy.2;have kc := sc.f.k1.cell i (by rw [sc.f.l1]; omega);have kf := sc.f.k1.free i;have kl := sc.f.k1.lt;refine wpAnyE_one (i := 10) (by kernel_rfl) rfl (fun Kn hK => ?_);go_simp;refine kk0 hK (s6.cb.cell 0) ?_;clear hK;refine wod ?_ _;clear hS5 hc kc kf lb;have s := s6;clear s6;have c0 := s.cb.cell 0;have c1 := s.cb.cell 1;have c2 := s.cb.cell 2;have g0 := s.rb.cell 0;have g1 := s.rb.cell 1;have g2 := s.rb.cell 2;have h0 := s.rb.free 0;have h1 := s.rb.free 1;have h2 := s.rb.free 2;simp only [qC, qD] at c0 c1 c2 g0 g1 g2;have l1 := s.cb.lt;have l2 := s.rb.lt;have hf := s.hf;have b1 := s.f.b1;have b2 := s.f.b2;have m1 : ¬ w.heap.size = fb := by omega
   have m2 : ¬ fb = w.heap.size := by omega
   go_wp2
   refine bodyPost_ret (v := formV (some ⟨B1, 0, none⟩) 3 3 (some ⟨B2, 0, none⟩) 2 2 K) (by simp [results, Tryz.results150, go_sem, g0, g1, g2]) rfl ⟨B1, 3, 3, B2, 2, 2, K, C.set i y, D, q + 1 + 1 + 1 + 1, rfl, ?_⟩
   exact (((FmN.mk s.t s.r (s.f.k1.ints' s.f.l1) (s.f.k2.ints' s.f.l2) (by omega) (by omega) (by omega) (by omega) (by omega) (by omega) (by omega) (by omega)).set (B := w.heap.size) (qE _) (by omega) (by omega) hRl ha 0 _).set (B := w.heap.size) (qE _) (by omega) (by omega) hRl ha 1 _).set (B := w.heap.size) (qE _) (by omega) (by omega) hRl ha 2 _
  go_simp;have al := (Below.refl V0.heap.size V0).alloc (qE _) (.cells #[.int .i64 10000001, .int .i64 (-10000001)] 3);have lb := Cel.new V0 [.int .i64 10000001, .int .i64 (-10000001)] 3;have sa := sd.below al;clear al;refine kk0 hK (sa.cb.cell 0) ?_;clear hK;refine wpAnyE_one (i := 3) (by kernel_rfl) rfl (fun Kn hK => ?_);go_simp;refine (pick_any R a n cap bs _ 3 sa.r).mono ?_;rintro e wA ⟨ri, r0, r1, rfl, t5, R5⟩;obtain ⟨i, rfl⟩ := Int.eq_ofNat_of_zero_le r0;have hi : i < 3 := by omega
  have hi' : (i : Int) < 3 := by omega
  clear r0 r1;have sb := sa.pick t5 R5;replace lb := lb.touch t5 (by have h1 := sd.hR; have h2 := sd.t.size; omega);clear t5 R5;dsimp only;refine kk0 hK (sb.cb.cell 0) ?_;clear hK;refine wpAnyE_one (i := 6) (by kernel_rfl) rfl (fun Kn hK => ?_);go_simp;refine (pick_any R a n cap bs _ 2 sb.r).mono ?_;rintro e wB ⟨rj, r0, r1, rfl, t5, R5⟩;obtain ⟨j, rfl⟩ := Int.eq_ofNat_of_zero_le r0;have hj : j < 2 := by omega
  have hj' : (j : Int) < 2 := by omega
  clear r0 r1;have sc := sb.pick t5 R5;replace lb := lb.touch t5 (by have h1 := sd.hR; have h2 := sd.t.size; omega);clear t5 R5;dsimp only;refine kk0 hK (sc.cb.cell 0) ?_;clear hK;have hS5 : (fun X : World => X.cell? ⟨fb, 0, none⟩ = some (.slice (some ⟨B1, 0, none⟩) 3 3)) wB /\ True := ⟨sc.cb.cell 0, trivial⟩
  refine tkl 7 rfl hS5 ?_;have hc := lit_cell (xs := [10000001, -10000001]) lb hj;have hy := litF_2 j hj;generalize ([10000001, -10000001] : List Int)[j]?.getD 0 = y at hc hy;refine wpAnyE_one (i := 8) (by kernel_rfl) rfl (fun Kn hK => ?_);go_simp;refine kk0 hK (sc.cb.cell 0) ?_;clear hK;refine tkl 9 rfl hS5 ?_;have s6 := sc.setC i hy.1 hy.2;have kc := sc.f.k1.cell i (by rw [sc.f.l1]; omega);have kf := sc.f.k1.free i;have kl := sc.f.k1.lt;refine wpAnyE_one (i := 10) (by kernel_rfl) rfl (fun Kn hK => ?_);go_simp;refine kk0 hK (s6.cb.cell 0) ?_;clear hK;refine wod ?_ _;clear hS5 hc kc kf lb;have s := s6;clear s6;have c0 := s.cb.cell 0;have c1 := s.cb.cell 1;have c2 := s.cb.cell 2;have g0 := s.rb.cell 0;have g1 := s.rb.cell 1;have g2 := s.rb.cell 2;have h0 := s.rb.free 0;have h1 := s.rb.free 1;have h2 := s.rb.free 2;simp only [qC, qD] at c0 c1 c2 g0 g1 g2;have l1 := s.cb.lt;have l2 := s.rb.lt;have hf := s.hf;have b1 := s.f.b1;have b2 := s.f.b2;have m1 : ¬ w.heap.size = fb := by omega
  have m2 : ¬ fb = w.heap.size := by omega
  go_wp2
  refine bodyPost_ret (v := formV (some ⟨B1, 0, none⟩) 3 3 (some ⟨B2, 0, none⟩) 2 2 K) (by simp [results, Tryz.results150, go_sem, g0, g1, g2]) rfl ⟨B1, 3, 3, B2, 2, 2, K, C.set i y, D, q + 1 + 1 + 1 + 1, rfl, ?_⟩
  exact (((FmN.mk s.t s.r (s.f.k1.ints' s.f.l1) (s.f.k2.ints' s.f.l2) (by omega) (by omega) (by omega) (by omega) (by omega) (by omega) (by omega) (by omega)).set (B := w.heap.size) (qE _) (by omega) (by omega) hRl ha 0 _).set (B := w.heap.size) (qE _) (by omega) (by omega) hRl ha 1 _).set (B := w.heap.size) (qE _) (by omega) (by omega) hRl ha 2 _
theorem wrap_id {x : Int} (h1 : -1000000000000000000 <= x := by omega) (h2 : x <= 1000000000000000000 := by omega) : IntKind.i64.wrap x = x := by
 simp only [IntKind.wrap, IntKind.signed, IntKind.bits];simp
 omega
structure FV where
 a : Option Addr
 n : Nat
 cap : Nat
 c : Option Addr
 m : Nat
 cap' : Nat
 K : Int
 C : List Int
 D : List Int
def noFV : FV := ⟨none, 0, 0, none, 0, 0, 0, [], []⟩
structure FV.At (f : FV) (w : World) : Prop where
 C : Ints w f.a f.n f.C
 D : Ints w f.c f.m f.D
 hn : f.n <= 1048576
 hm : f.m <= 1048576
theorem FV.At.below {f : FV} (h : f.At w) (b : Below w.heap.size w w') : f.At w' := ⟨h.C.below b, h.D.below b, h.hn, h.hm⟩
structure H2 (w : World) (a : Option Addr) (n cap : Nat) (c : Option Addr) (m cap' : Nat) (K : Int) (a2 : Option Addr) (n2 cap2 : Nat) (c2 : Option Addr) (m2 cap2' : Nat) (K2 : Int) (w' : World) : Prop where
 p : Cel w' w.heap.size [.slice a n cap, .slice c m cap', .int .i64 K] 95
 q : Cel w' (w.heap.size + 1) [.slice a2 n2 cap2, .slice c2 m2 cap2', .int .i64 K2] 95
 r : Cel w' (w.heap.size + 1 + 1) [.slice none 0 0, .slice none 0 0, .int .i64 0] 95
 b : Below w.heap.size w w'
section
variable {w W w3 : World} {a c a2 c2 : Option Addr} {n cap m cap' n2 cap2 m2 cap2' : Nat} {K K2 : Int}
end
structure FA (w : World) (a : Option Addr) (n : Nat) (c : Option Addr) (m : Nat) (f : Frm) : Prop where
 C : Ints w a n f.1
 D : Ints w c m f.2.1
 hn : n <= 1048576
 hm : m <= 1048576
theorem FA.below {f : Frm} (h : FA w a n c m f) (b : Below w.heap.size w w') : FA w' a n c m f := ⟨h.C.below b, h.D.below b, h.hn, h.hm⟩
def Mk (w w' : World) (e : Ending) (f : Frm) : Prop := ∃ a n cap c m cap', e = .returned (formV a n cap c m cap' f.2.2) /\ FA w' a n c m f /\ Below w.heap.size w w'
theorem Mk.of {e : Ending} (h : Res w w' e C D K) (h1 : C.length <= 1048576) (h2 : D.length <= 1048576) : Mk w w' e (C, D, K) := by
 obtain ⟨a, n, cap, c, m, cap', B1, B2, he, rfl, rfl, hb, o1, o2, _, _, _⟩ := h
 exact ⟨a, _, cap, c, _, cap', he, ⟨o1.ints, o2.ints, h1, h2⟩, hb⟩
def okP (f : Frm) : Bool := formB f.1.length f.2.1.length f.1 f.2.1 f.2.2
def zeroP : Frm := ([0, 0, 0], [0, 0], 0)
theorem pZero : Calls Tryz.prog 52 #[] w fun e w' => Mk w w' e zeroP := (izero_res w).mono fun e w' h => Mk.of h (by simp) (by simp)
theorem pOk (f : Frm) (a : Option Addr) (n cap : Nat) (c : Option Addr) (m cap' : Nat) (w : World) (hf : FA w a n c m f) :
  Calls Tryz.prog 51 #[formV a n cap c m cap' f.2.2] w fun e w' => e = .returned (.bool (okP f)) /\ Below w.heap.size w w' := by
 obtain rfl := hf.C.1;obtain rfl := hf.D.1
 go_enter Tryz.func51, Tryz.ntmps51
 go_wp2_with fail
 refine (iok_any a cap c cap' f.2.2 f.1 f.2.1 (hf.C.alloc _) (hf.D.alloc _) hf.hn hf.hm).mono ?_;rintro e w1 ⟨rfl, b1⟩
 go_wp2
 go_ret
 exact ⟨rfl, (bal).trans (b1.mono (by simp))⟩
theorem coI_any (xs ys : List Int) {w : World} (h : Ints w a n xs) (h' : Ints w c m ys) (hn : n <= 1048576) (hm : m <= 1048576) :
  Calls Tryz.prog 17 #[.slice a n cap, .slice c m cap'] w fun e w' => e = .returned (.bool (eqB xs ys)) /\ Below w.heap.size w w' := by
 have hx := h.1;have HX : Hid (xs.length = n) := hx;have hy := h'.1;have HY : Hid (ys.length = m) := hy;clear hx hy
 by_cases hc : n = m
 ·subst hc
  go_enter Tryz.func17, Tryz.ntmps17
  go_wp2_with fail
  go_loopw [5] (fun i wr => ∃ k : Nat, k <= n /\ i = .int .i64 k /\ Below w.heap.size w wr /\ xs.take k = ys.take k) (fun i _ => n - (intOf i).toNat)
  case atStart => exact ⟨0, Nat.zero_le _, rfl, Below.refl _ _, rfl⟩
  case round =>
   obtain ⟨k, hk, rfl, hnx, hall⟩ := hrel;have HA : Hid (xs.take k = ys.take k) := hall;clear hall
   by_cases hlt : k < n
   ·obtain ⟨b, off, rfl, hcell⟩ := (h.below hnx).pos (by omega);obtain ⟨b', off', rfl, hcell'⟩ := (h'.below hnx).pos (by omega);have hck := hcell k hlt;have hck' := hcell' k hlt;have hlt' : (k : Int) < (n : Int) := by omega
    clear hcell hcell' h h'
    go_wp2_with fail
    go_quiet (fail)
    cases he : (xs[k]?.getD 0 != ys[k]?.getD 0)
    ·go_wp2
     go_roundw
     case rel => exact ⟨k + 1, by omega, by go_num, below_drewN hnx _, take_same_succ (by rw [HX.out]; exact hlt) (by rw [HY.out]; exact hlt) HA.out (by simpa using he)⟩
     case measure => simp [intOf]; omega
    go_wp2
    go_ret
    exact ⟨ret_bool (by rw [eqB_false (k := k) (by simpa using he)]), below_drewN hnx _⟩
   go_wp2
   go_ret
   exact ⟨ret_bool (by rw [eqB_true HX.out HY.out (by omega) HA.out]), hnx⟩
 have hne : ((n : Int) != (m : Int)) = true := by simp; omega
 go_enter Tryz.func17, Tryz.ntmps17
 go_wp2
 go_ret
 exact ⟨ret_bool (by rw [eqB_len (by rw [HX.out, HY.out]; exact hc)]), Below.refl _ _⟩
theorem coHolds_any : Calls Tryz.prog 14 #[] w fun e w' => e = .returned (.bool true) /\ Below w.heap.size w w' := by
 go_enter Tryz.func14, Tryz.ntmps14
 go_wp2_with fail
 refine (pZero).mono ?_;rintro e w1 ⟨a, n, cap, c, m, cap', rfl, h1, b1⟩
 go_wp2_with fail
 refine (pOk zeroP _ _ _ _ _ _ _ h1).mono ?_;rintro e w2 ⟨rfl, b2⟩;have hz : okP zeroP = true := by decide
 rw [hz]
 go_wp2
 go_ret
 exact ⟨rfl, btr b1 b2⟩
theorem Rd.ha (h : Rd w R a n cap bs p) : 0 < n -> ∀ b o, a = some ⟨b, o, none⟩ -> b < w.heap.size := fun h0 b o hab => by
 obtain ⟨b', o', hab', hcc⟩ := h.b.2.1 0 h0;rw [hab] at hab';simp only [qA, qB, and_true] at hab';have := block_lt hcc
 omega
theorem Ints.off (h : Ints w a n zs) (t : Touch S w w') (hS : ∀ b o, a = some ⟨b, o, none⟩ -> ¬ S b) : Ints w' a n zs := by
 refine ⟨h.1, fun i hi => ?_⟩;obtain ⟨b, off, hab, hc⟩ := h.2 i hi
 exact ⟨b, off, hab, (World.cell?_of_block (t.block b (block_lt hc) (hS b off hab))).trans hc⟩
theorem FA.off {f : Frm} (h : FA w a n c m f) (t : Touch S w w') (h1 : ∀ b o, a = some ⟨b, o, none⟩ -> ¬ S b) (h2 : ∀ b o, c = some ⟨b, o, none⟩ -> ¬ S b) : FA w' a n c m f := ⟨h.C.off t h1, h.D.off t h2, h.hn, h.hm⟩
theorem FmN.fa {q : Int} {nC nD : Nat} (h : FmN w W R a n cap bs p q B1 nC B2 nD C D) (K : Int) : FA W (some ⟨B1, 0, none⟩) nC (some ⟨B2, 0, none⟩) nD (C, D, K) := ⟨h.c, h.d, by have := h.c4; omega, by have := h.d4; omega⟩
theorem FA.far {lo : Nat} {f : Frm} (h : FA w (some ⟨B1, 0, none⟩) n (some ⟨B2, 0, none⟩) m f) (t : Touch S w w') (hS : ∀ k, S k -> k < lo) (h1 : lo <= B1) (h2 : lo <= B2) : FA w' (some ⟨B1, 0, none⟩) n (some ⟨B2, 0, none⟩) m f :=
 h.off t (fun b o e hs => by simp only [qA, qB] at e; have := hS b hs; omega) (fun b o e hs => by simp only [qA, qB] at e; have := hS b hs; omega)
theorem FA.setFar {X : Nat} {f : Frm} (h : FA w (some ⟨B1, 0, none⟩) n (some ⟨B2, 0, none⟩) m f) (h1 : B1 ≠ X) (h2 : B2 ≠ X) (i : Nat) (v : Value) : FA (w.setCell ⟨X, i, none⟩ v) (some ⟨B1, 0, none⟩) n (some ⟨B2, 0, none⟩) m f :=
 ⟨h.C.setFar (fun b o e => by simp only [qA, qB] at e; omega) i v, h.D.setFar (fun b o e => by simp only [qA, qB] at e; omega) i v, h.hn, h.hm⟩
structure LV where
 kind : Int
 pot : Int
 skip : Int
 f : FV
def LV.cs (l : LV) : List Value := [.int .i64 l.kind, .int .i64 l.pot, .int .i64 l.skip, .slice l.f.a l.f.n l.f.cap, .slice l.f.c l.f.m l.f.cap', .int .i64 l.f.K]
def noLV : LV := ⟨0, 0, 0, noFV⟩
def smallB (n m : Nat) (C D : List Int) (K : Int) : Bool := okN 3 2 n C && okN 2 2 m D && inB K (-20) 20
theorem allB_mono {m m' : Int} (h : m <= m') (ha : allB m zs = true) : allB m' zs = true := by
 unfold allB at *;rw [List.all_eq_true] at *;intro x hx;have := inB_iff.1 (ha x hx)
 exact inB_iff.2 (by omega)
theorem small_ok (h : smallB n m C D K = true) : formB n m C D K = true := by
 simp only [smallB, formB, okN, Bool.and_eq_true, decide_eq_true_eq] at *;obtain ⟨⟨⟨h1, h2⟩, h3, h4⟩, h5⟩ := h
 exact ⟨⟨⟨h1, allB_mono (by omega) h2⟩, h3, allB_mono (by omega) h4⟩, inB_iff.2 (by have := inB_iff.1 h5; omega)⟩
theorem small_eq (h : formB n m C D K = true) : smallB n m C D K = (allB 2 C && allB 2 D && inB K (-20) 20) := by
 simp only [formB, okN, Bool.and_eq_true, decide_eq_true_eq] at h;obtain ⟨⟨⟨h1, _⟩, h3, _⟩, _⟩ := h;simp only [smallB, okN, h1, h3, decide_true, Bool.true_and]
theorem sSmall_any (C D : List Int) {w : World} (hC : Ints w a n C) (hD : Ints w c m D) (hn : n <= 1048576) (hm : m <= 1048576) :
  Calls Tryz.prog 152 #[formV a n cap c m cap' K] w fun e w' => e = .returned (.bool (smallB n m C D K)) /\ Below w.heap.size w w' := by
 cases h1 : okN 3 2 n C
 ·go_enter Tryz.func152, Tryz.ntmps152
  go_wp2_with fail
  refine (all_any C (hC.alloc _) hn).mono ?_;rintro e w1 ⟨rfl, rfl⟩
  go_wp2
  go_ret
  exact ⟨ret_bool (by simp [smallB, h1]), bal⟩
 cases h2 : okN 2 2 m D
 ·go_enter Tryz.func152, Tryz.ntmps152
  go_wp2_with fail
  refine (all_any C (hC.alloc _) hn).mono ?_;rintro e w1 ⟨rfl, rfl⟩
  go_wp2_with fail
  refine (all_any D (hD.alloc _) hm).mono ?_;rintro e w1 ⟨rfl, rfl⟩
  go_wp2
  go_ret
  exact ⟨ret_bool (by simp [smallB, h1, h2]), bal⟩
 go_enter Tryz.func152, Tryz.ntmps152
 go_wp2_with fail
 refine (all_any C (hC.alloc _) hn).mono ?_;rintro e w1 ⟨rfl, rfl⟩
 go_wp2_with fail
 refine (all_any D (hD.alloc _) hm).mono ?_;rintro e w1 ⟨rfl, rfl⟩
 go_wp2_with fail
 refine (in_any).mono ?_;rintro e w1 ⟨rfl, rfl⟩
 go_wp2
 go_ret
 exact ⟨ret_bool (by simp [smallB, h1, h2]), bal⟩
def lineB (kind pot skip : Int) (n m : Nat) (C D : List Int) (K : Int) : Bool :=
 if kind = 1 then (pot == 0) && inB skip 1 6 && smallB n m C D K
 else if kind = 2 then inB pot 0 2 && (skip == 0) && smallB n m C D K
 else if kind = 3 then (pot == 0) && (skip == 0) && smallB n m C D K
 else (kind == 4) && (pot == 0) && (skip == 0) && ((n : Int) + m == 0) && (K == 0)
abbrev lineV (kind pot skip : Int) (a : Option Addr) (n cap : Nat) (c : Option Addr) (m cap' : Nat) (K : Int) : Value := .agg #[.int .i64 kind, .int .i64 pot, .int .i64 skip, .slice a n cap, .slice c m cap', .int .i64 K]
theorem Cel.six {x0 x1 x2 x3 x4 x5 : Value} {t : TypeId} (h : Cel w B [x0, x1, x2, x3, x4, x5] t) : w.cell? ⟨B, 0, none⟩ = some x0 /\ w.cell? ⟨B, 1, none⟩ = some x1 /\ w.cell? ⟨B, 2, none⟩ = some x2 /\ w.cell? ⟨B, 3, none⟩ = some x3 /\ w.cell? ⟨B, 4, none⟩ = some x4 /\ w.cell? ⟨B, 5, none⟩ = some x5 := ⟨h.cell 0, h.cell 1, h.cell 2, h.cell 3, h.cell 4, h.cell 5⟩
structure BL (w : World) (B : Nat) (la : List Value) (ty : TypeId) (W : World) : Prop where
 p : Cel W B la ty
 b : Below w.heap.size w W
theorem BL.new (w : World) (la : List Value) (ty : TypeId) : BL w w.heap.size la ty (w.alloc (.cells la.toArray ty)) := ⟨Cel.new w la ty, bal⟩
theorem BL.below {W' : World} {la : List Value} {ty : TypeId} (h : BL w B la ty W) (b : Below W.heap.size W W') : BL w B la ty W' := ⟨h.p.below b, h.b.trans (b.mono h.b.size)⟩
theorem BL.alloc {la : List Value} {ty : TypeId} (h : BL w B la ty W) (o : Obj) : BL w B la ty (W.alloc o) := h.below (bal)
theorem szL_any (kind pot skip : Int) (a : Option Addr) (n cap : Nat) (c : Option Addr) (m cap' : Nat) (K l : Int) (w : World) (hn : n <= maxLen) (hm : m <= maxLen) (h0 : 0 <= l) (hl : l <= 1048576) :
  Calls Tryz.prog 146 #[lineV kind pot skip a n cap c m cap' K, .int .i64 l] w fun e w' => e = .returned (.int .i64 (leftOf (leftOf l n) m)) /\ Below w.heap.size w w' := by
 have g2 := leftOf_ge (leftOf l n) m;have n0 := BL.new w [.int .i64 kind, .int .i64 pot, .int .i64 skip, .slice a n cap, .slice c m cap', .int .i64 K] 208
 by_cases h : leftOf (leftOf l n) m < 0
 ·go_enter Tryz.func146, Tryz.ntmps146
  go_wp2_with fail
  refine (szF_any hn hm h0 hl).mono ?_;rintro e w1 ⟨rfl, b1⟩
  go_wp2
  go_ret
  exact ⟨ret_int (by omega), (n0.below b1).b⟩
 go_enter Tryz.func146, Tryz.ntmps146
 go_wp2_with fail
 refine (szF_any hn hm h0 hl).mono ?_;rintro e w1 ⟨rfl, b1⟩
 go_wp2
 go_ret
 exact ⟨rfl, (n0.below b1).b⟩
def stepV (l : LV) : Value :=
 if l.kind = 1 then .iface 198 (.agg #[.int .i64 l.skip, .slice l.f.a l.f.n l.f.cap, .slice l.f.c l.f.m l.f.cap', .int .i64 l.f.K])
 else if l.kind = 2 then .iface 200 (.agg #[.int .i64 l.pot, .slice l.f.a l.f.n l.f.cap, .slice l.f.c l.f.m l.f.cap', .int .i64 l.f.K])
 else if l.kind = 3 then .iface 202 (.agg #[.slice l.f.a l.f.n l.f.cap, .slice l.f.c l.f.m l.f.cap', .int .i64 l.f.K])
 else if l.kind = 4 then .iface 203 (.agg #[])
 else .nilIface
theorem sline_any {kind pot skip : Int} (C D : List Int) {w : World} (hC : Ints w a n C) (hD : Ints w c m D) (hn : n <= 1048576) (hm : m <= 1048576) :
  Calls Tryz.prog 128 #[lineV kind pot skip a n cap c m cap' K] w fun e w' => e = .returned (.bool (lineB kind pot skip n m C D K)) /\ Below w.heap.size w w' := by
 have n0 := BL.new w [.int .i64 kind, .int .i64 pot, .int .i64 skip, .slice a n cap, .slice c m cap', .int .i64 K] 153
 by_cases hk1 : kind = 1
 ·subst hk1
  by_cases hp : pot = 0
  ·subst hp
   cases hs : inB skip 1 6
   ·go_enter Tryz.func128, Tryz.ntmps128
    go_wp2_with fail
    refine (in_any).mono ?_;rintro e w1 ⟨rfl, rfl⟩;rw [hs]
    go_wp2
    go_ret
    exact ⟨ret_bool (by simp [lineB, hs]), n0.b⟩
   go_enter Tryz.func128, Tryz.ntmps128
   go_wp2_with fail
   refine (in_any).mono ?_;rintro e w1 ⟨rfl, rfl⟩;rw [hs]
   go_wp2_with fail
   refine (sSmall_any C D (hC.below n0.b) (hD.below n0.b) hn hm).mono ?_;rintro e w1 ⟨rfl, b1⟩
   go_wp2
   go_ret
   exact ⟨ret_bool (by simp [lineB, hs]), (n0.below b1).b⟩
  have hp' : (pot == 0) = false := by simp [hp]
  go_enter Tryz.func128, Tryz.ntmps128
  go_wp2
  go_ret
  exact ⟨ret_bool (by simp [lineB, hp]), n0.b⟩
 by_cases hk2 : kind = 2
 ·subst hk2
  cases hp : inB pot 0 2
  ·go_enter Tryz.func128, Tryz.ntmps128
   go_wp2_with fail
   refine (in_any).mono ?_;rintro e w1 ⟨rfl, rfl⟩;rw [hp]
   go_wp2
   go_ret
   exact ⟨ret_bool (by simp [lineB, hp]), n0.b⟩
  by_cases hs : skip = 0
  ·subst hs
   go_enter Tryz.func128, Tryz.ntmps128
   go_wp2_with fail
   refine (in_any).mono ?_;rintro e w1 ⟨rfl, rfl⟩;rw [hp]
   go_wp2_with fail
   refine (sSmall_any C D (hC.below n0.b) (hD.below n0.b) hn hm).mono ?_;rintro e w1 ⟨rfl, b1⟩
   go_wp2
   go_ret
   exact ⟨ret_bool (by simp [lineB, hp]), (n0.below b1).b⟩
  have hs' : (skip == 0) = false := by simp [hs]
  go_enter Tryz.func128, Tryz.ntmps128
  go_wp2_with fail
  refine (in_any).mono ?_;rintro e w1 ⟨rfl, rfl⟩;rw [hp]
  go_wp2
  go_ret
  exact ⟨ret_bool (by simp [lineB, hs]), n0.b⟩
 by_cases hk3 : kind = 3
 ·subst hk3
  by_cases hp : pot = 0
  ·subst hp
   by_cases hs : skip = 0
   ·subst hs
    go_enter Tryz.func128, Tryz.ntmps128
    go_wp2_with fail
    refine (sSmall_any C D (hC.below n0.b) (hD.below n0.b) hn hm).mono ?_;rintro e w1 ⟨rfl, b1⟩
    go_wp2
    go_ret
    exact ⟨ret_bool (by simp [lineB, ]), (n0.below b1).b⟩
   have hs' : (skip == 0) = false := by simp [hs]
   go_enter Tryz.func128, Tryz.ntmps128
   go_wp2
   go_ret
   exact ⟨ret_bool (by simp [lineB, hs]), n0.b⟩
  have hp' : (pot == 0) = false := by simp [hp]
  go_enter Tryz.func128, Tryz.ntmps128
  go_wp2
  go_ret
  exact ⟨ret_bool (by simp [lineB, hp]), n0.b⟩
 have hk1' : (kind == 1) = false := by simp [hk1]
 have hk2' : (kind == 2) = false := by simp [hk2]
 have hk3' : (kind == 3) = false := by simp [hk3]
 by_cases hk4 : kind = 4
 ·subst hk4
  by_cases hp : pot = 0
  ·subst hp
   by_cases hs : skip = 0
   ·subst hs
    by_cases hl : (n : Int) + m = 0
    ·have hl' : ((n : Int) + m == 0) = true := by simp [hl]
     go_enter Tryz.func128, Tryz.ntmps128
     go_wp2
     go_ret
     exact ⟨ret_bool (by simp only [lineB, hl', Int.reduceEq, if_false, beq_self_eq_true, Bool.true_and]), n0.b⟩
    have hl' : ((n : Int) + m == 0) = false := by simpa using hl
    go_enter Tryz.func128, Tryz.ntmps128
    go_wp2
    go_ret
    exact ⟨ret_bool (by simp only [lineB, hl', Int.reduceEq, if_false, beq_self_eq_true, Bool.true_and, Bool.false_and]), n0.b⟩
   have hs' : (skip == 0) = false := by simp [hs]
   go_enter Tryz.func128, Tryz.ntmps128
   go_wp2
   go_ret
   exact ⟨ret_bool (by simp [lineB, hs]), n0.b⟩
  have hp' : (pot == 0) = false := by simp [hp]
  go_enter Tryz.func128, Tryz.ntmps128
  go_wp2
  go_ret
  exact ⟨ret_bool (by simp [lineB, hp]), n0.b⟩
 have hk4' : (kind == 4) = false := by simp [hk4]
 go_enter Tryz.func128, Tryz.ntmps128
 go_wp2
 go_ret
 exact ⟨ret_bool (by simp [lineB, hk1, hk2, hk3, hk4]), n0.b⟩
theorem iSmall_any (C D : List Int) {w : World} (hC : Ints w a n C) (hD : Ints w c m D) (hn : n <= 1048576) (hm : m <= 1048576) :
  Calls Tryz.prog 143 #[formV a n cap c m cap' K] w fun e w' => e = .returned (.bool (smallB n m C D K)) /\ Below w.heap.size w w' := by
 have n0 := BL.new w [.slice a n cap, .slice c m cap', .int .i64 K] 95;obtain ⟨fb, hfb⟩ : ∃ fb, fb = formB n m C D K := ⟨_, rfl⟩
 have HF : Hid (fb = formB n m C D K) := hfb;clear hfb
 go_enter Tryz.func143, Tryz.ntmps143
 go_wp2_with fail
 refine (iok_any _ _ _ _ _ C D (hC.alloc _) (hD.alloc _) hn hm).mono ?_;rintro e w1 ⟨rfl, b1⟩;have n1 := n0.below b1;rw [<- HF.out];clear n0 b1;have c0 := n1.p.cell 0;have c1 := n1.p.cell 1;have c2 := n1.p.cell 2;simp only [qC, qD] at c0 c1 c2
 cases fb
 ·have hs : smallB n m C D K = false := by
   cases hh : smallB n m C D K
   ·rfl
   have := small_ok hh; rw [<- HF.out] at this; cases this
  go_wp2
  go_ret
  exact ⟨ret_bool hs.symm, n1.b⟩
 have HS : Hid _ := small_eq HF.out.symm
 cases h3 : allB 2 C
 ·go_wp2_with fail
  refine (within_any _ _ _ C (hC.below n1.b) hn).mono ?_;rintro e w2 ⟨rfl, rfl⟩;rw [h3]
  go_wp2
  go_ret
  exact ⟨ret_bool (by rw [HS.out, h3]; rfl), n1.b⟩
 cases h4 : allB 2 D
 ·go_wp2_with fail
  refine (within_any _ _ _ C (hC.below n1.b) hn).mono ?_;rintro e w2 ⟨rfl, rfl⟩;rw [h3]
  go_wp2_with fail
  refine (within_any _ _ _ D (hD.below n1.b) hm).mono ?_;rintro e w2 ⟨rfl, rfl⟩;rw [h4]
  go_wp2
  go_ret
  exact ⟨ret_bool (by rw [HS.out, h3, h4]; rfl), n1.b⟩
 go_wp2_with fail
 refine (within_any _ _ _ C (hC.below n1.b) hn).mono ?_;rintro e w2 ⟨rfl, rfl⟩;rw [h3]
 go_wp2_with fail
 refine (within_any _ _ _ D (hD.below n1.b) hm).mono ?_;rintro e w2 ⟨rfl, rfl⟩;rw [h4]
 go_wp2_with fail
 refine (within_any (some ⟨_, 0, none⟩) 1 1 [K] ?_ (by omega)).mono ?_
 ·refine ⟨rfl, fun i hi => ⟨_, 0, rfl, ?_⟩⟩;obtain rfl : i = 0 := by omega
  exact (Cel.new _ [.int .i64 K] _).cell 0
 rintro e w2 ⟨rfl, rfl⟩
 go_wp2
 go_ret
 exact ⟨ret_bool (by rw [allB_one, HS.out, h3, h4]; rfl), (n1.alloc _).b⟩
theorem iNoth_any :
  Calls Tryz.prog 144 #[formV a n cap c m cap' K] w fun e w' => e = .returned (.bool (((n : Int) + m == 0) && (K == 0))) /\ Below w.heap.size w w' := by
 have n0 := BL.new w [.slice a n cap, .slice c m cap', .int .i64 K] 95
 by_cases h1 : (n : Int) = 0
 ·obtain rfl : n = 0 := by omega
  by_cases h2 : (m : Int) = 0
  ·obtain rfl : m = 0 := by omega
   go_enter Tryz.func144, Tryz.ntmps144
   go_wp2
   go_ret
   exact ⟨ret_bool (by simp), n0.b⟩
  have h2' : ((m : Int) == 0) = false := by simpa using h2
  go_enter Tryz.func144, Tryz.ntmps144
  go_wp2
  go_ret
  exact ⟨ret_bool (by simp; omega), n0.b⟩
 have h1' : ((n : Int) == 0) = false := by simpa using h1
 go_enter Tryz.func144, Tryz.ntmps144
 go_wp2
 go_ret
 exact ⟨ret_bool (by simp; omega), n0.b⟩
theorem ret_step {u v : Value} {a b : Bool} (h : u = v) (h' : a = b) : Ending.returned (.tuple #[u, .bool a]) = .returned (.tuple #[v, .bool b]) := by rw [h, h']
theorem istep_any {kind pot skip : Int} (C D : List Int) {w : World} (hC : Ints w a n C) (hD : Ints w c m D) (hn : n <= 1048576) (hm : m <= 1048576) :
  Calls Tryz.prog 113 #[lineV kind pot skip a n cap c m cap' K] w fun e w' => e = .returned (.tuple #[stepV ⟨kind, pot, skip, ⟨a, n, cap, c, m, cap', K, C, D⟩⟩, .bool (lineB kind pot skip n m C D K)]) /\ Below w.heap.size w w' := by
 have n0 := BL.new w [.int .i64 kind, .int .i64 pot, .int .i64 skip, .slice a n cap, .slice c m cap', .int .i64 K] 153
 by_cases hk1 : kind = 1
 ·subst hk1
  by_cases hp : pot = 0
  ·subst hp
   by_cases hs1 : 1 <= skip
   ·by_cases hs2 : skip <= 6
    ·have hs : inB skip 1 6 = true := inB_iff.2 ⟨hs1, hs2⟩
     go_enter Tryz.func113, Tryz.ntmps113
     go_wp2_with fail
     refine (iSmall_any C D (hC.below n0.b) (hD.below n0.b) hn hm).mono ?_;rintro e w1 ⟨rfl, b1⟩;obtain ⟨c0, c1, c2, c3, c4, c5⟩ := (n0.below b1).p.six
     go_wp2
     go_ret2
     exact ⟨ret_step (by simp [stepV]) (by simp [lineB, hs]), (n0.below b1).b⟩
    have hs : inB skip 1 6 = false := inB_not.2 (by omega)
    go_enter Tryz.func113, Tryz.ntmps113
    go_wp2
    go_ret2
    exact ⟨ret_step (by simp [stepV]) (by simp [lineB, hs]), n0.b⟩
   have hs : inB skip 1 6 = false := inB_not.2 (by omega)
   go_enter Tryz.func113, Tryz.ntmps113
   go_wp2
   go_ret2
   exact ⟨ret_step (by simp [stepV]) (by simp [lineB, hs]), n0.b⟩
  have hp' : (pot == 0) = false := by simp [hp]
  go_enter Tryz.func113, Tryz.ntmps113
  go_wp2
  go_ret2
  exact ⟨ret_step (by simp [stepV]) (by simp [lineB, hp]), n0.b⟩
 by_cases hk2 : kind = 2
 ·subst hk2
  by_cases hp1 : 0 <= pot
  ·by_cases hp2 : pot < 3
   ·have hp : inB pot 0 2 = true := inB_iff.2 ⟨hp1, by omega⟩
    by_cases hs : skip = 0
    ·subst hs
     go_enter Tryz.func113, Tryz.ntmps113
     go_wp2_with fail
     refine (place_any).mono ?_;rintro e w1 ⟨rfl, rfl⟩;rw [decide_eq_true (show 0 <= pot /\ pot < 3 from ⟨hp1, hp2⟩)]
     go_wp2_with fail
     refine (iSmall_any C D (hC.below n0.b) (hD.below n0.b) hn hm).mono ?_;rintro e w1 ⟨rfl, b1⟩;obtain ⟨c0, c1, c2, c3, c4, c5⟩ := (n0.below b1).p.six
     go_wp2
     go_ret2
     exact ⟨ret_step (by simp [stepV]) (by simp [lineB, hp]), (n0.below b1).b⟩
    have hs' : (skip == 0) = false := by simp [hs]
    go_enter Tryz.func113, Tryz.ntmps113
    go_wp2_with fail
    refine (place_any).mono ?_;rintro e w1 ⟨rfl, rfl⟩;rw [decide_eq_true (show 0 <= pot /\ pot < 3 from ⟨hp1, hp2⟩)]
    go_wp2
    go_ret2
    exact ⟨ret_step (by simp [stepV]) (by simp [lineB, hs]), n0.b⟩
   have hp : inB pot 0 2 = false := inB_not.2 (by omega)
   go_enter Tryz.func113, Tryz.ntmps113
   go_wp2_with fail
   refine (place_any).mono ?_;rintro e w1 ⟨rfl, rfl⟩;rw [decide_eq_false (show ¬ (0 <= pot /\ pot < 3) by omega)]
   go_wp2
   go_ret2
   exact ⟨ret_step (by simp [stepV]) (by simp [lineB, hp]), n0.b⟩
  have hp : inB pot 0 2 = false := inB_not.2 (by omega)
  go_enter Tryz.func113, Tryz.ntmps113
  go_wp2_with fail
  refine (place_any).mono ?_;rintro e w1 ⟨rfl, rfl⟩;rw [decide_eq_false (show ¬ (0 <= pot /\ pot < 3) by omega)]
  go_wp2
  go_ret2
  exact ⟨ret_step (by simp [stepV]) (by simp [lineB, hp]), n0.b⟩
 by_cases hk3 : kind = 3
 ·subst hk3
  by_cases hp : pot = 0
  ·subst hp
   by_cases hs : skip = 0
   ·subst hs
    go_enter Tryz.func113, Tryz.ntmps113
    go_wp2_with fail
    refine (iSmall_any C D (hC.below n0.b) (hD.below n0.b) hn hm).mono ?_;rintro e w1 ⟨rfl, b1⟩;obtain ⟨c0, c1, c2, c3, c4, c5⟩ := (n0.below b1).p.six
    go_wp2
    go_ret2
    exact ⟨ret_step (by simp [stepV]) (by simp [lineB, ]), (n0.below b1).b⟩
   have hs' : (skip == 0) = false := by simp [hs]
   go_enter Tryz.func113, Tryz.ntmps113
   go_wp2
   go_ret2
   exact ⟨ret_step (by simp [stepV]) (by simp [lineB, hs]), n0.b⟩
  have hp' : (pot == 0) = false := by simp [hp]
  go_enter Tryz.func113, Tryz.ntmps113
  go_wp2
  go_ret2
  exact ⟨ret_step (by simp [stepV]) (by simp [lineB, hp]), n0.b⟩
 have hk1' : (kind == 1) = false := by simp [hk1]
 have hk2' : (kind == 2) = false := by simp [hk2]
 have hk3' : (kind == 3) = false := by simp [hk3]
 by_cases hk4 : kind = 4
 ·subst hk4
  by_cases hp : pot = 0
  ·subst hp
   by_cases hs : skip = 0
   ·subst hs
    go_enter Tryz.func113, Tryz.ntmps113
    go_wp2_with fail
    refine (iNoth_any).mono ?_;rintro e w1 ⟨rfl, b1⟩;obtain ⟨c0, c1, c2, c3, c4, c5⟩ := (n0.below b1).p.six
    go_wp2
    go_ret2
    exact ⟨ret_step (by simp [stepV]) (by simp only [lineB, Int.reduceEq, if_false, beq_self_eq_true, Bool.true_and]), (n0.below b1).b⟩
   have hs' : (skip == 0) = false := by simp [hs]
   go_enter Tryz.func113, Tryz.ntmps113
   go_wp2
   go_ret2
   exact ⟨ret_step (by simp [stepV]) (by simp [lineB, hs]), n0.b⟩
  have hp' : (pot == 0) = false := by simp [hp]
  go_enter Tryz.func113, Tryz.ntmps113
  go_wp2
  go_ret2
  exact ⟨ret_step (by simp [stepV]) (by simp [lineB, hp]), n0.b⟩
 have hk4' : (kind == 4) = false := by simp [hk4]
 go_enter Tryz.func113, Tryz.ntmps113
 go_wp2
 go_ret2
 exact ⟨ret_step (by simp [stepV, hk1, hk2, hk3, hk4]) (by simp [lineB, hk1, hk2, hk3, hk4]), n0.b⟩
def LinesG (w : World) (ad : Option Addr) (ls : List LV) : Prop :=
 ∀ i, i < ls.length -> ∃ b off, ad = some ⟨b, off, none⟩ /\ (∀ r, r < 6 -> w.cell? ⟨b, off + i * 6 + r, none⟩ = (ls[i]?.getD noLV).cs[r]?) /\ (ls[i]?.getD noLV).f.At w
theorem cells_below {b o : Nat} {l : LV} (h : ∀ r, r < 6 -> w.cell? ⟨b, o + r, none⟩ = l.cs[r]?) (hb : Below w.heap.size w w') : ∀ r, r < 6 -> w'.cell? ⟨b, o + r, none⟩ = l.cs[r]? := fun r hr => by
 have hl : b < w.heap.size := by
  have := h 0 (by omega)
  exact block_lt (v := .int .i64 l.kind) (by rw [this]; rfl)
 rw [hb.cell (p := ⟨b, o + r, none⟩) hl]; exact h r hr
theorem LinesG.below {ad : Option Addr} {ls : List LV} (h : LinesG w ad ls) (hb : Below w.heap.size w w') : LinesG w' ad ls := fun i hi => by
 obtain ⟨b, off, e, hc, ha⟩ := h i hi
 exact ⟨b, off, e, cells_below hc hb, ha.below hb⟩
theorem six_of {b o : Nat} {l : LV} (h : ∀ r, r < 6 -> w.cell? ⟨b, o + r, none⟩ = l.cs[r]?) :
  w.cell? ⟨b, o, none⟩ = some (.int .i64 l.kind) /\ w.cell? ⟨b, o + 1, none⟩ = some (.int .i64 l.pot) /\ w.cell? ⟨b, o + 2, none⟩ = some (.int .i64 l.skip) /\ w.cell? ⟨b, o + 3, none⟩ = some (.slice l.f.a l.f.n l.f.cap) /\ w.cell? ⟨b, o + 4, none⟩ = some (.slice l.f.c l.f.m l.f.cap') /\ w.cell? ⟨b, o + 5, none⟩ = some (.int .i64 l.f.K) :=
 ⟨h 0 (by omega), h 1 (by omega), h 2 (by omega), h 3 (by omega), h 4 (by omega), h 5 (by omega)⟩
def six (vs : List Value) (o : Nat) (x0 x1 x2 x3 x4 x5 : Value) : List Value := (((((vs.set o x0).set (o + 1) x1).set (o + 2) x2).set (o + 3) x3).set (o + 4) x4).set (o + 5) x5
end Go.Proofs.YtpmihhbgjimpmaaGreatDoor
