/-
  Plans that are drawn: acts and two lists, all of them in new memory.
-/
import Derived.Test.YtpmihhbgjimpmaaGreatDoorNxH
namespace Go.Proofs.YtpmihhbgjimpmaaGreatDoor
open Go.RowKit
open List renaming set_cons_zero → qA, set_cons_succ → qB, getElem?_cons_zero → qC, getElem?_cons_succ → qD, length_append → qE
open Nat renaming le_refl → qF
set_option linter.unusedVariables false
set_option maxRecDepth 100000
set_option maxHeartbeats 25600000
variable {R c : Nat} {S : Nat -> Prop} {W w : World}
structure Lst (base M : Nat) (W : World) (v : Value) (n : Nat) (xs : List Int) : Prop where
 o : W.ownsRow base 3 1 v n (xs.map (Value.int .i64))
 h : ∀ x, v.ownBlock = some x -> x < M
 l : xs.length = n
section
variable {base M : Nat} {W W' : World} {v : Value} {n : Nat} {xs : List Int}
theorem Lst.below (j : Lst base M W v n xs) (b : Below W.heap.size W W') : Lst base M W' v n xs := ⟨own_belowL j.o b, j.h, j.l⟩
theorem own_offD {e : TypeId} {s m : Nat} {ys : List Value} (h : W.ownsRow base e s v m ys) (hn : ∀ g, v.ownBlock = some g -> ¬ S g) (t : Touch S W W') : W'.ownsRow base e s v m ys := by
 obtain ⟨h1, h2⟩ := h;refine ⟨h1, ?_⟩
 rcases h2 with h2 | ⟨g, cap, cur, rfl, hg, hh, r⟩
 ·exact Or.inl h2
 exact Or.inr ⟨g, cap, cur, rfl, hg, by rw [t.block g (lt_of_block hh) (hn g rfl)]; exact hh, r⟩
theorem Lst.touch (j : Lst base M W v n xs) (t : Touch S W W') (hS : ∀ k, S k -> k < base \/ M <= k) : Lst base M W' v n xs :=
 ⟨own_offD j.o (fun g hg hs => by have h1 := (j.o.lt g hg).1; have h2 := j.h g hg; rcases hS g hs with h | h <;> omega) t, j.h, j.l⟩
theorem Lst.ints {a : Option Addr} (j : Lst base M W (.slice a n c) n xs) : Ints W a n xs /\ ∀ b o, a = some ⟨b, o, none⟩ -> base <= b := by
 have o := j.o;have l := j.l;refine ⟨⟨l, fun i hi => ?_⟩, fun b o' e => ?_⟩
 ·rcases o.2 with ⟨_, h⟩ | ⟨g, cap', cur, hv, _⟩
  ·omega
  simp only [Value.slice.injEq] at hv;refine ⟨g, 0, hv.1, ?_⟩;have e := hv.1;subst e;have := o.cellAt i (by omega);rw [Nat.zero_add, this];have hi2 : i < xs.length := by omega
  simp [hi2]
 rcases o.2 with ⟨hv, _⟩ | ⟨g, cap', cur, hv, hg, _⟩
 ·simp only [Value.slice.injEq] at hv;rw [e] at hv
  cases hv.1
 simp only [Value.slice.injEq] at hv;rw [e] at hv;have e2 := hv.1;simp only [Option.some.injEq, Addr.mk.injEq] at e2
 omega
end
structure Acs (base M : Nat) (W : World) (v : Value) (ss : List L2V) : Prop where
 o : W.ownsRow base 57 1 v ss.length (ss.map L2V.v)
 ac : ∀ i, i < ss.length -> AcQ (fun b => base <= b /\ b < M) W (ss[i]?.getD noL)
 h : ∀ x, v.ownBlock = some x -> x < M
section
variable {base M : Nat} {W W' : World} {v : Value} {ss : List L2V}
theorem Acs.below (j : Acs base M W v ss) (b : Below W.heap.size W W') : Acs base M W' v ss := ⟨own_belowL j.o b, fun i hi => (j.ac i hi).below b, j.h⟩
theorem Acs.touch (j : Acs base M W v ss) (t : Touch S W W') (hS : ∀ k, S k -> k < base \/ M <= k) : Acs base M W' v ss :=
 ⟨own_offD j.o (fun g hg hs => by have h1 := (j.o.lt g hg).1; have h2 := j.h g hg; rcases hS g hs with h | h <;> omega) t, fun i hi => (j.ac i hi).touch t (fun b hb hs => by rcases hS b hs with h | h <;> omega), j.h⟩
theorem Acs.lsg {ad : Option Addr} {N : Nat} (j : Acs base M W (.slice ad N c) ss) (hl : ss.length = N) : LSG W ad ss := by
 intro i hi
 rcases j.o.2 with ⟨hv, h0⟩ | ⟨g, cap', cur, hv, _⟩
 ·omega
 have hv' : ad = some ⟨g, 0, none⟩ := by simp only [Value.slice.injEq] at hv; exact hv.1
 subst hv';refine ⟨g, 0, rfl, ?_, (j.ac i hi).lg⟩;have o := j.o;rw [hl] at o;have := o.cellAt i (by omega);rw [Nat.zero_add, this, List.getElem?_map, List.getElem?_eq_getElem hi];simp
theorem JBs.acs {a : Option Addr} {n cap : Nat} {bs : List Int} {q : Int} (j : JBs w R a n cap bs q v ss W) : Acs w.heap.size W.heap.size W v ss :=
 ⟨j.o, fun i hi => (j.ac i hi).mono (fun b hb => ⟨hb.1, hb.2.1⟩), fun x hx => (j.o.lt x hx).2⟩
theorem Acs.mono {base' M' : Nat} (j : Acs base M W v ss) (h1 : base' <= base) (h2 : M <= M') : Acs base' M' W v ss :=
 ⟨⟨j.o.1, by rcases j.o.2 with h | ⟨g, cap', cur, hv, hg, r⟩; exact .inl h; exact .inr ⟨g, cap', cur, hv, Nat.le_trans h1 hg, r⟩⟩, fun i hi => (j.ac i hi).mono (fun b hb => ⟨by omega, by omega⟩), fun x hx => Nat.lt_of_lt_of_le (j.h x hx) h2⟩
end
theorem Lst.mono {base M base' M' : Nat} {v : Value} {n : Nat} {xs : List Int} (j : Lst base M W v n xs) (h1 : base' <= base) (h2 : M <= M') : Lst base' M' W v n xs :=
 ⟨⟨j.o.1, by rcases j.o.2 with h | ⟨g, cap', cur, hv, hg, r⟩; exact .inl h; exact .inr ⟨g, cap', cur, hv, Nat.le_trans h1 hg, r⟩⟩, fun x hx => Nat.lt_of_lt_of_le (j.h x hx) h2, j.l⟩
structure JPl (wL : World) (R TB : Nat) (a : Option Addr) (n cap : Nat) (bs : List Int) (q : Int) (vs : List Value) (v : Value) (G : List Int) (W : World) : Prop where
 t : Touch (fun x => x = R \/ x = TB) wL W
 r : Rd W R a n cap bs q
 o : W.ownsRow wL.heap.size 3 1 v G.length (G.map (Value.int .i64))
 cb : Cel W TB vs 26
 lR : R < wL.heap.size
 lT : TB < wL.heap.size
 ne : TB ≠ R
 lb : 0 < n -> ∀ b o, a = some ⟨b, o, none⟩ -> b < wL.heap.size /\ b ≠ TB
section
variable {wL W W' : World} {R TB : Nat} {a : Option Addr} {n cap : Nat} {bs : List Int} {q : Int} {vs : List Value} {v : Value} {G : List Int}
theorem JPl.below (j : JPl wL R TB a n cap bs q vs v G W) (b : Below W.heap.size W W') : JPl wL R TB a n cap bs q vs v G W' :=
 ⟨j.t.trans (Touch.of b), j.r.below b, own_belowL j.o b, j.cb.below b, j.lR, j.lT, j.ne, j.lb⟩
theorem JPl.pick {q' : Int} (j : JPl wL R TB a n cap bs q vs v G W) (t : Touch (fun x => x = R) W W') (r : Rd W' R a n cap bs q') : JPl wL R TB a n cap bs q' vs v G W' :=
 ⟨j.t.trans (t.mono (fun k h => Or.inl h)), r, ownsRow_touch j.o t (fun k h => by have := j.lR; omega), j.cb.touch t j.ne, j.lR, j.lT, j.ne, j.lb⟩
theorem JPl.apps {ys : List Int} {g k m : Nat} (j : JPl wL R TB a n cap bs q vs v G W) (hk : G.length = k) (hm : ys.length = m) (hown : W'.ownsRow wL.heap.size 3 1 (.slice (some ⟨g, 0, none⟩) (k + m) c) (k + m) (G.map (Value.int .i64) ++ ys.map (Value.int .i64))) (hg : W.grownBy W' v.ownBlock) : JPl wL R TB a n cap bs q vs (.slice (some ⟨g, 0, none⟩) (k + m) c) (G ++ ys) W' := by
 have hr : ∀ x, v.ownBlock = some x -> wL.heap.size <= x := fun x hx => (j.o.lt x hx).1;have lR := j.lR;have lT := j.lT;have T : Touch (fun x => wL.heap.size <= x) W W' := ⟨hg.os, hg.tape, hg.output, hg.size, fun x hx hs => hg.block x hx (fun e => hs (hr x e.symm))⟩
 refine ⟨j.t.grown hg hr, j.r.touch T (by omega) (fun h0 b o hab => by have := (j.lb h0 b o hab).1; omega), ?_, j.cb.touch T (by omega), j.lR, j.lT, j.ne, j.lb⟩;rw [qE, hk, hm, List.map_append]
 exact hown
theorem JPl.store (j : JPl wL R TB a n cap bs q vs v G W) (i : Nat) (u : Value) : JPl wL R TB a n cap bs q (vs.set i u) v G (W.setCell ⟨TB, i, none⟩ u) := by
 have lT := j.lT;have T : Touch (fun x => x = TB) W (W.setCell ⟨TB, i, none⟩ u) := Touch.setCell (S := fun x => x = TB) (Touch.refl _ _) rfl _
 exact ⟨j.t.trans (T.mono (fun k h => Or.inr h)), j.r.touch T (fun e => j.ne e.symm) (fun h0 b o e h => (j.lb h0 b o e).2 h), ownsRow_touch j.o T (fun k h => by omega), j.cb.set i u, j.lR, j.lT, j.ne, j.lb⟩
theorem JPl.lst {M : Nat} (j : JPl wL R TB a n cap bs q vs v G W) (hM : W.heap.size <= M) : Lst wL.heap.size M W v G.length G := ⟨j.o, fun x hx => Nat.lt_of_lt_of_le (j.o.lt x hx).2 hM, rfl⟩
end
theorem Touch.trans' {TB : Nat} {W' : World} (h : Touch (fun x => x = R) w W) (t : Touch (fun x => x = R \/ x = TB) W W') {w1 : World} (hT : w1.heap.size <= TB) (hw : w.heap.size <= w1.heap.size := by omega) : Touch (fun x => x = R) w W' :=
 ⟨t.os.trans h.os, t.tape.trans h.tape, t.output.trans h.output, Nat.le_trans h.size t.size, fun x hx hs => (t.block x (Nat.lt_of_lt_of_le hx h.size) (fun e => by rcases e with e | e; exact hs e; omega)).trans (h.block x hx hs)⟩
theorem Touch.setOwn {X : Nat} {W' : World} (h : Touch (fun x => x = R) w W) (t : Touch (fun x => x = X) W W') (hX : w.heap.size <= X) : Touch (fun x => x = R) w W' :=
 ⟨t.os.trans h.os, t.tape.trans h.tape, t.output.trans h.output, Nat.le_trans h.size t.size, fun x hx hs => (t.block x (Nat.lt_of_lt_of_le hx h.size) (fun e => by omega)).trans (h.block x hx hs)⟩
structure PlN (w w' : World) (R : Nat) (a : Option Addr) (n cap : Nat) (bs : List Int) (p q : Int) (M1 M2 : Nat) (ad : Option Addr) (N c : Nat) (ss : List L2V) (ga : Option Addr) (gn gc : Nat) (G : List Int) (sa : Option Addr) (sc : Nat) (S : List Int) : Prop where
 t : Touch (fun x => x = R) w w'
 r : Rd w' R a n cap bs q
 A : Acs w.heap.size M1 w' (.slice ad N c) ss
 g : Lst M1 M2 w' (.slice ga gn gc) gn G
 s : Lst M2 w'.heap.size w' (.slice sa 3 sc) 3 S
 m1 : w.heap.size <= M1
 m2 : M1 <= M2
 m3 : M2 <= w'.heap.size
 lN : ss.length = N
 n1 : 1 <= N
 n4 : N <= 4
 g1 : 1 <= gn
 g3 : gn <= 3
 q0 : p <= q
 q1 : q <= p + 350
theorem plan_f (R : Nat) (a : Option Addr) (n cap : Nat) (bs : List Int) (p : Int) {w : World} (hR : Rd w R a n cap bs p) (hp : 0 <= p) (hp1 : p <= 4000000) (ha : 0 < n -> ∀ b o, a = some ⟨b, o, none⟩ -> b < w.heap.size) :
  Calls Tryz.prog 83 #[.pointer (some ⟨R, 0, none⟩)] w fun e w' => ∃ cl ad N c ss ga gn gc G sa sc S M1 M2 q, e = .returned (.agg #[.int .i64 cl, .slice ad N c, .slice ga gn gc, .slice sa 3 sc]) /\ PlN w w' R a n cap bs p q M1 M2 ad N c ss ga gn gc G sa sc S /\ 1 <= cl /\ cl <= 4 := by
 have hRl := hR.c.lt;have q0 := Cel.new w [.int .i64 0, .slice none 0 0, .slice none 0 0, .slice none 0 0] 26;have B0 := (Below.refl w.heap.size w).alloc (qF _) (.cells #[.int .i64 0, .slice none 0 0, .slice none 0 0, .slice none 0 0] 26);obtain ⟨i0, hi, hz0, hz1, hz2⟩ := info_parts Tryz.infoInt
 go_enter Tryz.func83, Tryz.ntmps83
 go_wp2_with fail
 refine (pick_any R a n cap bs p 4 (hR.below B0)).mono ?_;rintro e w1 ⟨u, u0, u1, rfl, t1, R1⟩;have T1 := (Touch.of (S := fun x => x = R) B0).trans t1;have z1 := t1.size;rw [World.size_alloc] at z1;replace q0 := q0.touch t1 (by omega);clear t1 hR B0
 go_wp2_with fail
 refine (acts_f R a n cap bs (p + 1) R1 (by omega) (by omega) R1.ha).mono ?_;rintro e w2 ⟨ad, N, c, ss, q2, rfl, j, hN, hN1, hN4, y0, y1⟩;have HN : Hid (ss.length = N) := hN;have A := j.q.acs;have r2 := j.r;have T2 := T1.trans j.t;have z2 := j.t.size;replace q0 := q0.touch j.t (by omega);clear j hN T1 R1;have al := (Below.refl w2.heap.size w2).alloc (qF _) (.cells #[.int .i64 (1 + u), .slice ad N c, .slice none 0 0, .slice none 0 0] 26);have cb := Cel.new w2 [.int .i64 (1 + u), .slice ad N c, .slice none 0 0, .slice none 0 0] 26;replace A := A.below al;replace r2 := r2.below al;replace T2 := T2.trans (Touch.of al);replace q0 := q0.below al
 go_upto_region 2 with fail
 obtain ⟨w3, hw3⟩ : ∃ W, W = w2.alloc (.cells #[.int .i64 (1 + u), .slice ad N c, .slice none 0 0, .slice none 0 0] 26) := ⟨_, rfl⟩
 have z3 : w2.heap.size + 1 <= w3.heap.size := by rw [hw3, World.size_alloc]; omega
 rw [<- hw3];rw [<- hw3] at A r2 T2 q0 cb;clear hw3 al;obtain ⟨TB, hTB⟩ : ∃ x, x = w2.heap.size := ⟨_, rfl⟩
 rw [<- hTB];rw [<- hTB] at cb A;have x1 : w1.heap.size <= TB := by omega
 have x2 : TB < w3.heap.size := by omega
 clear hTB z2 z3
 go_wp2_with fail
 refine (pick_any R a n cap bs q2 3 r2).mono ?_;rintro e wL ⟨rk, r0, r3, rfl, t3, R3⟩;obtain ⟨rk, rfl⟩ := Int.eq_ofNat_of_zero_le r0;have zL := t3.size;replace A := A.touch t3 (fun k hk => by omega);replace T2 := T2.trans t3;replace q0 := q0.touch t3 (by omega);replace cb := cb.touch t3 (by omega);have jL : JPl wL R TB a n cap bs (q2 + 1) [.int .i64 (1 + u), .slice ad N c, .slice none 0 0, .slice none 0 0] (.slice none 0 0) [] wL := ⟨Touch.refl _ _, R3, World.ownsRow_nil _ _ _ _, cb, by omega, by omega, by omega, fun h0 b o e => by have := ha h0 b o e; exact ⟨by omega, by omega⟩⟩
 clear t3 R3 r2 cb r0
 go_wp2_with fail
 go_loopw [4] (fun i wr => ∃ (k l : Nat) (v : Value) (G : List Int) (q : Int), k + l = rk + 1 /\ i = .int .i64 l /\ G.length = k /\ JPl wL R TB a n cap bs q [.int .i64 (1 + u), .slice ad N c, v, .slice none 0 0] v G wr /\ q2 + 1 <= q /\ q <= q2 + 1 + k) (fun i _ => (intOf i).toNat)
 case atStart => exact ⟨0, rk + 1, _, [], q2 + 1, by omega, by go_num, rfl, jL, by omega, by omega⟩
 case round =>
  clear jL;obtain ⟨k, l, v, G, q, hkl, rfl, hG, j, hq0, hq1⟩ := hrel;have HG : Hid (G.length = k) := hG;clear hG
  by_cases hl : 0 < l
  ·have hl' : (0 : Int) < (l : Int) := by omega
   go_upto_region 5 with fail
   refine wp_region_ends (fun _ => True) (fun X => X.cell? ⟨TB, 2, none⟩ = some v) 9 (by kernel_rfl) ?_;have sd := j.below ((Below.refl _ _).drew);obtain ⟨V0, hV0⟩ : ∃ V, V = wr.drew := ⟨_, rfl⟩
   rw [<- hV0] at sd ⊢;clear hV0 j;have hSS : True /\ (fun X : World => X.cell? ⟨TB, 2, none⟩ = some v) V0 := ⟨trivial, sd.cb.cell 2⟩
   refine tkl 0 rfl hSS ?_;refine tkM (i := 1) rfl rfl hSS ?_;refine tkl 3 rfl hSS ?_;clear hSS;refine wpAnyE_two (i := 2) (j := 4) (by kernel_rfl) rfl rfl (fun Kn hK => ?_) (fun Kn hK => ?_)
   ·go_simp;have al := (Below.refl V0.heap.size V0).alloc (qF _) (.cells #[.int .i64 0, .int .i64 3, .int .i64 9, .int .i64 20, .int .i64 50] 3);have lb := Cel.new V0 [.int .i64 0, .int .i64 3, .int .i64 9, .int .i64 20, .int .i64 50] 3;have nl : V0.heap.size ≠ R := by have h1 := sd.lR; have h2 := sd.t.size; omega
    have sa := sd.below al;clear al;refine hK.out _ _ ⟨trivial, fun _ => sa.cb.cell 2⟩ ?_;clear hK;refine wpAnyE_one (i := 4) (by kernel_rfl) rfl (fun Kn hK => ?_);go_simp;refine (pick_any R a n cap bs _ 5 sa.r).mono ?_;rintro e w5 ⟨rj, r0, r1, rfl, t5, R5⟩;obtain ⟨j, rfl⟩ := Int.eq_ofNat_of_zero_le r0;have hj : j < 5 := by omega
    have hj' : (j : Int) < 5 := by omega
    clear r0 r1;have sb := sa.pick t5 R5;replace lb := lb.touch t5 nl;clear t5 R5 sa sd;dsimp only;refine hK.out _ _ ⟨trivial, fun _ => sb.cb.cell 2⟩ ?_;clear hK;have hSS : True /\ (fun X : World => X.cell? ⟨TB, 2, none⟩ = some v) w5 := ⟨trivial, sb.cb.cell 2⟩
    refine tkl 5 rfl hSS ?_;clear hSS;have hc := lit_cell (xs := [0, 3, 9, 20, 50]) lb hj;generalize ([0, 3, 9, 20, 50] : List Int)[j]?.getD 0 = y at hc;refine wpAnyE_one (i := 6) (by kernel_rfl) rfl (fun Kn hK => ?_);go_simp;refine hK.out _ _ ⟨trivial, fun _ => sb.cb.cell 2⟩ ?_;clear hK;clear hc lb;obtain ⟨V3, hV3⟩ : ∃ V, V = w5 := ⟨_, rfl⟩
    rw [<- hV3] at sb;rw [<- hV3];clear hV3;refine wpAnyE_one (i := 7) (by kernel_rfl) rfl (fun Kn hK => ?_);go_simp;have al := (Below.refl V3.heap.size V3).alloc (qF _) (.cells #[.int .i64 y] 3);have s7 := sb.below al;refine hK.out _ _ ⟨trivial, fun _ => s7.cb.cell 2⟩ ?_;clear hK;have hsz := s7.t.size;clear al;refine wpAnyE_one (i := 8) (by kernel_rfl) rfl (fun Kn hK => ?_);rw [if_pos (by rfl)];refine wp_append_lies _ (.tmp 20) (.tmp 26) 24 rfl wL.heap.size 3 i0 _ 1 8 Tryz.underlying24 hi hz0 hz1 hz2 rfl (by omega) v k (G.map (Value.int .i64)) (by rfl) (by have h := s7.o; rw [HG.out] at h; exact h) ⟨V3.heap.size, 0, none⟩ 1 1 [.int .i64 y] (by rfl) (by rfl) (World.news_of_block (cs := #[.int .i64 y]) (t := 3) (fr := (0, 0)) (heap_alloc_new V3 _)) (by simp [Value.oneCell']) (by omega) (by unfold maxLen; omega) (by omega) hsz _ rfl ?_;intro g c w8 hown hgrow _ _;have s8 := s7.apps (ys := [y]) (m := 1) HG.out rfl hown hgrow;clear hown hgrow;refine hK.out _ _ ⟨trivial, fun _ => s8.cb.cell 2⟩ ?_;clear hK;refine wpAnyE_one (i := 9) (by kernel_rfl) rfl (fun Kn hK => ?_);go_simp;refine hK.out _ _ ⟨trivial, fun _ => s8.cb.cell 2⟩ ?_;clear hK;have f1 := s8.cb.free 2;have c1 := s8.cb.cell 2;have lt1 := s8.cb.lt;simp only [qC, qD] at c1;have s9 := s8.store 2 (.slice (some ⟨g, 0, none⟩) (k + 1) c);simp only [qB, qA] at s9;refine wpAnyE_one (i := 10) (by kernel_rfl) rfl (fun Kn hK => ?_);go_simp
    refine hK.out _ _ ⟨trivial, fun h => absurd h (by decide)⟩ ?_;clear hK;refine wod ?_ _;clear f1 c1 s8 s7
    go_wp2
    go_roundw
    case rel => exact ⟨k + 1, l - 1, _, _, _, by omega, by go_num, by rw [qE, HG.out]; rfl, s9, by omega, by omega⟩
    case measure => simp [intOf]; omega
   go_simp;refine (pick_any R a n cap bs _ 5 sd.r).mono ?_;rintro e w5 ⟨rj, r0, r1, rfl, t5, R5⟩;obtain ⟨j, rfl⟩ := Int.eq_ofNat_of_zero_le r0;have hj : j < 5 := by omega
   have hj' : (j : Int) < 5 := by omega
   clear r0 r1;have sa := sd.pick t5 R5;clear t5 R5 sd;dsimp only;refine hK.out _ _ ⟨trivial, fun _ => sa.cb.cell 2⟩ ?_;clear hK;refine wpAnyE_one (i := 2) (by kernel_rfl) rfl (fun Kn hK => ?_);go_simp;have al := (Below.refl w5.heap.size w5).alloc (qF _) (.cells #[.int .i64 0, .int .i64 3, .int .i64 9, .int .i64 20, .int .i64 50] 3);have lb := Cel.new w5 [.int .i64 0, .int .i64 3, .int .i64 9, .int .i64 20, .int .i64 50] 3;have nl : w5.heap.size ≠ R := by have h1 := sa.lR; have h2 := sa.t.size; omega
   have sb := sa.below al;clear al;refine hK.out _ _ ⟨trivial, fun _ => sb.cb.cell 2⟩ ?_;clear hK;clear sa;have hSS : True /\ (fun X : World => X.cell? ⟨TB, 2, none⟩ = some v) ((w5.alloc (.cells #[.int .i64 0, .int .i64 3, .int .i64 9, .int .i64 20, .int .i64 50] 3))) := ⟨trivial, sb.cb.cell 2⟩
   refine tkl 5 rfl hSS ?_;clear hSS;have hc := lit_cell (xs := [0, 3, 9, 20, 50]) lb hj;generalize ([0, 3, 9, 20, 50] : List Int)[j]?.getD 0 = y at hc;refine wpAnyE_one (i := 6) (by kernel_rfl) rfl (fun Kn hK => ?_);go_simp;refine hK.out _ _ ⟨trivial, fun _ => sb.cb.cell 2⟩ ?_;clear hK;clear hc lb;obtain ⟨V3, hV3⟩ : ∃ V, V = (w5.alloc (.cells #[.int .i64 0, .int .i64 3, .int .i64 9, .int .i64 20, .int .i64 50] 3)) := ⟨_, rfl⟩
   rw [<- hV3] at sb;rw [<- hV3];clear hV3;refine wpAnyE_one (i := 7) (by kernel_rfl) rfl (fun Kn hK => ?_);go_simp;have al := (Below.refl V3.heap.size V3).alloc (qF _) (.cells #[.int .i64 y] 3);have s7 := sb.below al;refine hK.out _ _ ⟨trivial, fun _ => s7.cb.cell 2⟩ ?_;clear hK;have hsz := s7.t.size;clear al;refine wpAnyE_one (i := 8) (by kernel_rfl) rfl (fun Kn hK => ?_);rw [if_pos (by rfl)];refine wp_append_lies _ (.tmp 20) (.tmp 26) 24 rfl wL.heap.size 3 i0 _ 1 8 Tryz.underlying24 hi hz0 hz1 hz2 rfl (by omega) v k (G.map (Value.int .i64)) (by rfl) (by have h := s7.o; rw [HG.out] at h; exact h) ⟨V3.heap.size, 0, none⟩ 1 1 [.int .i64 y] (by rfl) (by rfl) (World.news_of_block (cs := #[.int .i64 y]) (t := 3) (fr := (0, 0)) (heap_alloc_new V3 _)) (by simp [Value.oneCell']) (by omega) (by unfold maxLen; omega) (by omega) hsz _ rfl ?_;intro g c w8 hown hgrow _ _;have s8 := s7.apps (ys := [y]) (m := 1) HG.out rfl hown hgrow;clear hown hgrow;refine hK.out _ _ ⟨trivial, fun _ => s8.cb.cell 2⟩ ?_;clear hK;refine wpAnyE_one (i := 9) (by kernel_rfl) rfl (fun Kn hK => ?_);go_simp;refine hK.out _ _ ⟨trivial, fun _ => s8.cb.cell 2⟩ ?_;clear hK;have f1 := s8.cb.free 2;have c1 := s8.cb.cell 2;have lt1 := s8.cb.lt;simp only [qC, qD] at c1;have s9 := s8.store 2 (.slice (some ⟨g, 0, none⟩) (k + 1) c);simp only [qB, qA] at s9;refine wpAnyE_one (i := 10) (by kernel_rfl) rfl (fun Kn hK => ?_);go_simp
   refine hK.out _ _ ⟨trivial, fun h => absurd h (by decide)⟩ ?_;clear hK;refine wod ?_ _;clear f1 c1 s8 s7
   go_wp2
   go_roundw
   case rel => exact ⟨k + 1, l - 1, _, _, _, by omega, by go_num, by rw [qE, HG.out]; rfl, s9, by omega, by omega⟩
   case measure => simp [intOf]; omega
  have hl' : ¬ (0 : Int) < (l : Int) := by omega
  have hk1 : 1 <= k := by omega
  have hk3 : k <= 3 := by omega
  have zz := j.t.size;replace A := A.touch j.t (fun x hx => by omega);have GL := j.lst (M := wr.heap.size) (qF _);rw [HG.out] at GL;obtain ⟨ga, gc, rfl⟩ := own_slice GL.o;have T3 := T2.trans' j.t x1;replace q0 := q0.touch j.t (by omega);have cb := j.cb;have r3 := j.r;have lbj := j.lb
  go_wp2_with fail
  obtain ⟨w4, hw4⟩ : ∃ W, W = wr := ⟨_, rfl⟩
  rw [<- hw4];rw [<- hw4] at A GL T3 q0 cb r3 zz;clear hw4 j wr T2;have jL : JPl w4 R TB a n cap bs q [.int .i64 (1 + u), .slice ad N c, .slice ga k gc, .slice none 0 0] (.slice none 0 0) [] w4 := ⟨Touch.refl _ _, r3, World.ownsRow_nil _ _ _ _, cb, by omega, by omega, by omega, fun h0 b o e => by have := lbj h0 b o e; exact ⟨by omega, this.2⟩⟩
  clear r3 cb
  go_loopw [5] (fun i wr => ∃ (k' : Nat) (v : Value) (S : List Int) (q' : Int), k' <= 3 /\ i = .int .i64 k' /\ S.length = k' /\ JPl w4 R TB a n cap bs q' [.int .i64 (1 + u), .slice ad N c, .slice ga k gc, v] v S wr /\ q <= q' /\ q' <= q + k') (fun i _ => 3 - (intOf i).toNat)
  case atStart => exact ⟨0, _, [], q, by omega, rfl, rfl, jL, by omega, by omega⟩
  case round =>
   clear jL;obtain ⟨k', v, S, q', hk', rfl, hS, j, v0, v1⟩ := hrel;have HS : Hid (S.length = k') := hS;clear hS
   by_cases hlt : k' < 3
   ·have hlt' : (k' : Int) < 3 := by omega
    go_upto_region 9 with fail
    refine wp_region_ends (fun _ => True) (fun X => X.cell? ⟨TB, 3, none⟩ = some v) 9 (by kernel_rfl) ?_;have sd := j.below ((Below.refl _ _).drew);obtain ⟨V0, hV0⟩ : ∃ V, V = wr.drew := ⟨_, rfl⟩
    rw [<- hV0] at sd ⊢;clear hV0 j;have hSS : True /\ (fun X : World => X.cell? ⟨TB, 3, none⟩ = some v) V0 := ⟨trivial, sd.cb.cell 3⟩
    refine tkl 0 rfl hSS ?_;refine tkM (i := 1) rfl rfl hSS ?_;refine tkl 3 rfl hSS ?_;clear hSS;refine wpAnyE_two (i := 2) (j := 4) (by kernel_rfl) rfl rfl (fun Kn hK => ?_) (fun Kn hK => ?_)
    ·go_simp;have al := (Below.refl V0.heap.size V0).alloc (qF _) (.cells #[.int .i64 0, .int .i64 5, .int .i64 20, .int .i64 60, .int .i64 200, .int .i64 (-8)] 3);have lb := Cel.new V0 [.int .i64 0, .int .i64 5, .int .i64 20, .int .i64 60, .int .i64 200, .int .i64 (-8)] 3;have nl : V0.heap.size ≠ R := by have h1 := sd.lR; have h2 := sd.t.size; omega
     have sa := sd.below al;clear al;refine hK.out _ _ ⟨trivial, fun _ => sa.cb.cell 3⟩ ?_;clear hK;refine wpAnyE_one (i := 4) (by kernel_rfl) rfl (fun Kn hK => ?_);go_simp;refine (pick_any R a n cap bs _ 6 sa.r).mono ?_;rintro e w5 ⟨rj, r0, r1, rfl, t5, R5⟩;obtain ⟨j, rfl⟩ := Int.eq_ofNat_of_zero_le r0;have hj : j < 6 := by omega
     have hj' : (j : Int) < 6 := by omega
     clear r0 r1;have sb := sa.pick t5 R5;replace lb := lb.touch t5 nl;clear t5 R5 sa sd;dsimp only;refine hK.out _ _ ⟨trivial, fun _ => sb.cb.cell 3⟩ ?_;clear hK;have hSS : True /\ (fun X : World => X.cell? ⟨TB, 3, none⟩ = some v) w5 := ⟨trivial, sb.cb.cell 3⟩
     refine tkl 5 rfl hSS ?_;clear hSS;have hc := lit_cell (xs := [0, 5, 20, 60, 200, -8]) lb hj;generalize ([0, 5, 20, 60, 200, -8] : List Int)[j]?.getD 0 = y at hc;refine wpAnyE_one (i := 6) (by kernel_rfl) rfl (fun Kn hK => ?_);go_simp;refine hK.out _ _ ⟨trivial, fun _ => sb.cb.cell 3⟩ ?_;clear hK;clear hc lb;obtain ⟨V3, hV3⟩ : ∃ V, V = w5 := ⟨_, rfl⟩
     rw [<- hV3] at sb;rw [<- hV3];clear hV3;refine wpAnyE_one (i := 7) (by kernel_rfl) rfl (fun Kn hK => ?_);go_simp;have al := (Below.refl V3.heap.size V3).alloc (qF _) (.cells #[.int .i64 y] 3);have s7 := sb.below al;refine hK.out _ _ ⟨trivial, fun _ => s7.cb.cell 3⟩ ?_;clear hK;have hsz := s7.t.size;clear al;refine wpAnyE_one (i := 8) (by kernel_rfl) rfl (fun Kn hK => ?_);rw [if_pos (by rfl)];refine wp_append_lies _ (.tmp 34) (.tmp 40) 24 rfl w4.heap.size 3 i0 _ 1 8 Tryz.underlying24 hi hz0 hz1 hz2 rfl (by omega) v k' (S.map (Value.int .i64)) (by rfl) (by have h := s7.o; rw [HS.out] at h; exact h) ⟨V3.heap.size, 0, none⟩ 1 1 [.int .i64 y] (by rfl) (by rfl) (World.news_of_block (cs := #[.int .i64 y]) (t := 3) (fr := (0, 0)) (heap_alloc_new V3 _)) (by simp [Value.oneCell']) (by omega) (by unfold maxLen; omega) (by omega) hsz _ rfl ?_;intro g c w8 hown hgrow _ _;have s8 := s7.apps (ys := [y]) (m := 1) HS.out rfl hown hgrow;clear hown hgrow;refine hK.out _ _ ⟨trivial, fun _ => s8.cb.cell 3⟩ ?_;clear hK;refine wpAnyE_one (i := 9) (by kernel_rfl) rfl (fun Kn hK => ?_);go_simp;refine hK.out _ _ ⟨trivial, fun _ => s8.cb.cell 3⟩ ?_;clear hK;have f1 := s8.cb.free 3;have c1 := s8.cb.cell 3;have lt1 := s8.cb.lt;simp only [qC, qD] at c1;have s9 := s8.store 3 (.slice (some ⟨g, 0, none⟩) (k' + 1) c);simp only [qB, qA] at s9;refine wpAnyE_one (i := 10) (by kernel_rfl) rfl (fun Kn hK => ?_);go_simp
     refine hK.out _ _ ⟨trivial, fun h => absurd h (by decide)⟩ ?_;clear hK;refine wod ?_ _;clear f1 c1 s8 s7
     go_wp2
     go_roundw
     case rel => exact ⟨k' + 1, _, _, _, by omega, by go_num, by rw [qE, HS.out]; rfl, s9, by omega, by omega⟩
     case measure => simp [intOf]; omega
    go_simp;refine (pick_any R a n cap bs _ 6 sd.r).mono ?_;rintro e w5 ⟨rj, r0, r1, rfl, t5, R5⟩;obtain ⟨j, rfl⟩ := Int.eq_ofNat_of_zero_le r0;have hj : j < 6 := by omega
    have hj' : (j : Int) < 6 := by omega
    clear r0 r1;have sa := sd.pick t5 R5;clear t5 R5 sd;dsimp only;refine hK.out _ _ ⟨trivial, fun _ => sa.cb.cell 3⟩ ?_;clear hK;refine wpAnyE_one (i := 2) (by kernel_rfl) rfl (fun Kn hK => ?_);go_simp;have al := (Below.refl w5.heap.size w5).alloc (qF _) (.cells #[.int .i64 0, .int .i64 5, .int .i64 20, .int .i64 60, .int .i64 200, .int .i64 (-8)] 3);have lb := Cel.new w5 [.int .i64 0, .int .i64 5, .int .i64 20, .int .i64 60, .int .i64 200, .int .i64 (-8)] 3;have nl : w5.heap.size ≠ R := by have h1 := sa.lR; have h2 := sa.t.size; omega
    have sb := sa.below al;clear al;refine hK.out _ _ ⟨trivial, fun _ => sb.cb.cell 3⟩ ?_;clear hK;clear sa;have hSS : True /\ (fun X : World => X.cell? ⟨TB, 3, none⟩ = some v) ((w5.alloc (.cells #[.int .i64 0, .int .i64 5, .int .i64 20, .int .i64 60, .int .i64 200, .int .i64 (-8)] 3))) := ⟨trivial, sb.cb.cell 3⟩
    refine tkl 5 rfl hSS ?_;clear hSS;have hc := lit_cell (xs := [0, 5, 20, 60, 200, -8]) lb hj;generalize ([0, 5, 20, 60, 200, -8] : List Int)[j]?.getD 0 = y at hc;refine wpAnyE_one (i := 6) (by kernel_rfl) rfl (fun Kn hK => ?_);go_simp;refine hK.out _ _ ⟨trivial, fun _ => sb.cb.cell 3⟩ ?_;clear hK;clear hc lb;obtain ⟨V3, hV3⟩ : ∃ V, V = (w5.alloc (.cells #[.int .i64 0, .int .i64 5, .int .i64 20, .int .i64 60, .int .i64 200, .int .i64 (-8)] 3)) := ⟨_, rfl⟩
    rw [<- hV3] at sb;rw [<- hV3];clear hV3;refine wpAnyE_one (i := 7) (by kernel_rfl) rfl (fun Kn hK => ?_);go_simp;have al := (Below.refl V3.heap.size V3).alloc (qF _) (.cells #[.int .i64 y] 3);have s7 := sb.below al;refine hK.out _ _ ⟨trivial, fun _ => s7.cb.cell 3⟩ ?_;clear hK;have hsz := s7.t.size;clear al;refine wpAnyE_one (i := 8) (by kernel_rfl) rfl (fun Kn hK => ?_);rw [if_pos (by rfl)];refine wp_append_lies _ (.tmp 34) (.tmp 40) 24 rfl w4.heap.size 3 i0 _ 1 8 Tryz.underlying24 hi hz0 hz1 hz2 rfl (by omega) v k' (S.map (Value.int .i64)) (by rfl) (by have h := s7.o; rw [HS.out] at h; exact h) ⟨V3.heap.size, 0, none⟩ 1 1 [.int .i64 y] (by rfl) (by rfl) (World.news_of_block (cs := #[.int .i64 y]) (t := 3) (fr := (0, 0)) (heap_alloc_new V3 _)) (by simp [Value.oneCell']) (by omega) (by unfold maxLen; omega) (by omega) hsz _ rfl ?_;intro g c w8 hown hgrow _ _;have s8 := s7.apps (ys := [y]) (m := 1) HS.out rfl hown hgrow;clear hown hgrow;refine hK.out _ _ ⟨trivial, fun _ => s8.cb.cell 3⟩ ?_;clear hK;refine wpAnyE_one (i := 9) (by kernel_rfl) rfl (fun Kn hK => ?_);go_simp;refine hK.out _ _ ⟨trivial, fun _ => s8.cb.cell 3⟩ ?_;clear hK;have f1 := s8.cb.free 3;have c1 := s8.cb.cell 3;have lt1 := s8.cb.lt;simp only [qC, qD] at c1;have s9 := s8.store 3 (.slice (some ⟨g, 0, none⟩) (k' + 1) c);simp only [qB, qA] at s9;refine wpAnyE_one (i := 10) (by kernel_rfl) rfl (fun Kn hK => ?_);go_simp
    refine hK.out _ _ ⟨trivial, fun h => absurd h (by decide)⟩ ?_;clear hK;refine wod ?_ _;clear f1 c1 s8 s7
    go_wp2
    go_roundw
    case rel => exact ⟨k' + 1, _, _, _, by omega, by go_num, by rw [qE, HS.out]; rfl, s9, by omega, by omega⟩
    case measure => simp [intOf]; omega
   obtain rfl : k' = 3 := by omega
   have z4 := j.t.size;have SL := j.lst (M := wr.heap.size) (qF _);rw [HS.out] at SL;obtain ⟨sa, sc, rfl⟩ := own_slice SL.o;replace A := A.touch j.t (fun x hx => by omega);replace GL := GL.touch j.t (fun x hx => by omega);replace T3 := T3.trans' j.t x1;replace q0 := q0.touch j.t (by omega);have cb := j.cb;have r3 := j.r;have g0 := cb.cell 0;have g1 := cb.cell 1;have g2 := cb.cell 2;have g3 := cb.cell 3;have e0 := q0.cell 0;have e1 := q0.cell 1;have e2 := q0.cell 2;have e3 := q0.cell 3;have f0 := q0.free 0;have f1 := q0.free 1;have f2 := q0.free 2;have f3 := q0.free 3;have lq := q0.lt;simp only [qC, qD] at g0 g1 g2 g3 e0 e1 e2 e3;clear j cb
   go_wp2
   have TS : Touch (fun x => x = w.heap.size) wr ((((wr.setCell ⟨w.heap.size, 0, none⟩ (.int .i64 (1 + u))).setCell ⟨w.heap.size, 1, none⟩ (.slice ad N c)).setCell ⟨w.heap.size, 2, none⟩ (.slice ga k gc)).setCell ⟨w.heap.size, 3, none⟩ (.slice sa 3 sc)) := Touch.setCell (S := fun x => x = w.heap.size) (Touch.setCell (S := fun x => x = w.heap.size) (Touch.setCell (S := fun x => x = w.heap.size) (Touch.setCell (S := fun x => x = w.heap.size) (Touch.refl _ _) rfl _) rfl _) rfl _) rfl _;have hsz := TS.size;refine bodyPost_ret (v := .agg #[.int .i64 (1 + u), .slice ad N c, .slice ga k gc, .slice sa 3 sc]) (by simp [results, Tryz.results83, go_sem, e0, e1, e2, e3]) rfl ⟨1 + u, ad, N, c, ss, ga, k, gc, G, sa, sc, S, TB, w4.heap.size, q', rfl, ⟨?_, r3.touch TS (by omega) (fun h0 b o e hs => by have := ha h0 b o e; omega), (A.touch TS (fun x hx => by omega)).mono (by omega) (qF _), (GL.touch TS (fun x hx => by omega)).mono (by omega) (qF _), (SL.touch TS (fun x hx => by omega)).mono (qF _) hsz, by omega, by omega, by omega, HN.out, hN1, hN4, hk1, hk3, by omega, by omega⟩, by omega, by omega⟩
   exact (T3.setOwn TS (by omega))
end Go.Proofs.YtpmihhbgjimpmaaGreatDoor
