/-
  Plans that are drawn, whatever may be wrong with them.
-/
import Derived.Test.YtfkcfjkojfnfnaaDoorDrPl
namespace Go.Proofs.YtfkcfjkojfnfnaaDoor
open Go.RowKit
set_option linter.unusedVariables false
set_option maxRecDepth 100000

/-- A plan all of whose blocks are newer than a mark. -/
structure PlF (base : Nat) (W : World) (ad : Option Addr) (N : Nat) (ss : List L2V) (ga : Option Addr) (gn : Nat) (G : List Int) (sa : Option Addr) (sn : Nat) (S : List Int) : Prop where
  oc : ∀ i, i < ss.length → ∃ b off, ad = some ⟨b, off, none⟩ ∧ base ≤ b ∧ W.cell? ⟨b, off + i, none⟩ = some (ss[i]?.getD noL).v
  ac : ∀ i, i < ss.length → AcQ (fun b => base ≤ b) W (ss[i]?.getD noL)
  g : Ints W ga gn G
  gl : ∀ b o, ga = some ⟨b, o, none⟩ → base ≤ b
  s : Ints W sa sn S
  sl : ∀ b o, sa = some ⟨b, o, none⟩ → base ≤ b
  lN : ss.length = N
  n5 : N ≤ 5
  g6 : gn ≤ 6
  s3 : sn ≤ 3
section
variable {base : Nat} {W W' : World} {ad : Option Addr} {N : Nat} {ss : List L2V} {ga : Option Addr} {gn : Nat} {G : List Int} {sa : Option Addr} {sn : Nat} {S : List Int}
theorem PlF.touch {Q : Nat → Prop} (h : PlF base W ad N ss ga gn G sa sn S) (t : Touch Q W W') (hQ : ∀ k, Q k → k < base) : PlF base W' ad N ss ga gn G sa sn S :=
  ⟨fun i hi => by obtain ⟨b, off, e, hb, hc⟩ := h.oc i hi; exact ⟨b, off, e, hb, (World.cell?_of_block (t.block b (block_lt hc) (fun hs => by have := hQ b hs; omega))).trans hc⟩,
   fun i hi => (h.ac i hi).touch t (fun b hb hs => by have := hQ b hs; omega), h.g.off t (fun b o e hs => by have := hQ b hs; have := h.gl b o e; omega), h.gl, h.s.off t (fun b o e hs => by have := hQ b hs; have := h.sl b o e; omega), h.sl, h.lN, h.n5, h.g6, h.s3⟩
theorem PlF.at (h : PlF base W ad N ss ga gn G sa sn S) : PlAt W ad N ss ga gn G sa sn S :=
  ⟨fun i hi => by obtain ⟨b, off, e, _, hc⟩ := h.oc i hi; exact ⟨b, off, e, hc, (h.ac i hi).lg⟩, h.lN, by have := h.n5; omega, h.g, by have := h.g6; omega, h.s, by have := h.s3; omega⟩
theorem PlF.of {b1 M1 c : Nat} (A : Acs b1 M1 W (.slice ad N c) ss) (g : Ints W ga gn G) (gl : ∀ b o, ga = some ⟨b, o, none⟩ → base ≤ b) (s : Ints W sa sn S) (sl : ∀ b o, sa = some ⟨b, o, none⟩ → base ≤ b) (h1 : base ≤ b1) (lN : ss.length = N) (n5 : N ≤ 5) (g6 : gn ≤ 6) (s3 : sn ≤ 3) : PlF base W ad N ss ga gn G sa sn S :=
  ⟨fun i hi => by
    obtain ⟨b, off, e, hc, _⟩ := A.lsg lN i hi
    refine ⟨b, off, e, ?_, hc⟩
    rcases A.o.2 with ⟨_, h0⟩ | ⟨g', cap', cur, hv, hg, _⟩
    · omega
    · simp only [Value.slice.injEq] at hv
      have e2 := hv.1
      rw [e] at e2
      simp only [Option.some.injEq, Addr.mk.injEq] at e2
      omega, fun i hi => (A.ac i hi).mono (fun b hb => by omega), g, gl, s, sl, lN, n5, g6, s3⟩
end
theorem Lst.take2 {base M : Nat} {W : World} {sa : Option Addr} {sc : Nat} {S : List Int} (j : Lst base M W (.slice sa 3 sc) 3 S) : Lst base M W (.slice sa 2 sc) 2 (S.take 2) ∧ 3 ≤ sc := by
  have l := j.l
  rcases j.o.2 with ⟨hv, h0⟩ | ⟨g, cap', cur, hv, hg, hh, hc, hm, hs, ht⟩
  · omega
  · have e := hv
    simp only [Value.slice.injEq] at e
    obtain ⟨rfl, _, rfl⟩ := e
    refine ⟨⟨⟨by simp [l], .inr ⟨g, sc, cur, rfl, hg, hh, by omega, hm, hs, ?_⟩⟩, j.h, by simp [l]⟩, hc⟩
    have e2 : cur.toList.take (2 * 1) = (cur.toList.take (3 * 1)).take 2 := by rw [List.take_take]; rfl
    rw [e2, ht, List.map_take]
theorem Lst.put {base M g c : Nat} {W : World} {n : Nat} {xs : List Int} (j : Lst base M W (.slice (some ⟨g, 0, none⟩) n c) n xs) (i : Nat) (y : Int) : Lst base M (W.setCell ⟨g, i, none⟩ (.int .i64 y)) (.slice (some ⟨g, 0, none⟩) n c) n (xs.set i y) :=
  ⟨by rw [List.map_set]; exact (World.ownsRow.stored j.o i (.int .i64 y)).1, j.h, by rw [List.length_set]; exact j.l⟩
theorem Lst.some {base M : Nat} {W : World} {a : Option Addr} {n c : Nat} {xs : List Int} (j : Lst base M W (.slice a n c) n xs) (h0 : 0 < n) : ∃ g, a = some ⟨g, 0, none⟩ ∧ base ≤ g ∧ g < M := by
  rcases j.o.2 with ⟨_, h⟩ | ⟨g, cap', cur, hv, hg, _⟩
  · omega
  · simp only [Value.slice.injEq] at hv
    refine ⟨g, hv.1, hg, j.h g ?_⟩
    rw [hv.1]
    rfl

set_option maxHeartbeats 12800000 in
theorem anyplan_f (R : Nat) (a : Option Addr) (n cap : Nat) (bs : List Int) (p M : Int) (w : World) (hR : Rd w R a n cap bs p) (hp : 0 ≤ p) (hp1 : p ≤ 3000000) (hM : 1 ≤ M) (hM1 : M ≤ 1000) (ha : 0 < n → ∀ b o, a = some ⟨b, o, none⟩ → b < w.heap.size) :
    Calls Tryd.prog 70 #[.pointer (some ⟨R, 0, none⟩), .int .i64 M] w fun e w' => ∃ cl ad N c ss ga gn gc G sa sn sc S q, e = .returned (.agg #[.int .i64 cl, .slice ad N c, .slice ga gn gc, .slice sa sn sc]) ∧ Touch (fun x => x = R) w w' ∧ Rd w' R a n cap bs q ∧ PlF (w.heap.size + 1) w' ad N ss ga gn G sa sn S ∧ p ≤ q ∧ q ≤ p + 900 := by
  have hRl := hR.c.lt
  have q0 := Cel.new w [.int .i64 0, .slice none 0 0, .slice none 0 0, .slice none 0 0] 55
  have B0 := (Below.refl w.heap.size w).alloc (Nat.le_refl _) (.cells #[.int .i64 0, .slice none 0 0, .slice none 0 0, .slice none 0 0] 55)
  obtain ⟨i0, hi, hz0, hz1, hz2⟩ := info_parts Tryd.infoInt
  go_enter Tryd.func70, Tryd.ntmps70
  go_wp2_with fail
  refine (plan_f R a n cap bs p _ (hR.below B0) (by omega) (by omega) (hR.below B0).ha).mono ?_
  rintro e w1 ⟨cl, ad, N, c, ss, ga, gn, gc, G, sa, sc, S, M1, M2, q, rfl, d, k1, k4⟩
  have T := (Touch.of (S := fun x => x = R) B0).trans d.t
  have z1 := d.t.size
  have m1 := d.m1
  rw [World.size_alloc] at z1 m1
  have A := d.A.mono (base' := w.heap.size + 1) (by rw [World.size_alloc]; omega) (Nat.le_refl _)
  have g := d.g
  have s := d.s
  have rd := d.r
  have m2 := d.m2
  have m3 := d.m3
  have HN : Hid (ss.length = N) := d.lN
  have n1 := d.n1
  have n4 := d.n4
  have g1 := d.g1
  have g3 := d.g3
  have u0 := d.q0
  have u1 := d.q1
  replace q0 := q0.touch d.t (by omega)
  clear d hR B0
  have al := (Below.refl w1.heap.size w1).alloc (Nat.le_refl _) (.cells #[.int .i64 cl, .slice ad N c, .slice ga gn gc, .slice sa 3 sc] 55)
  have cb := Cel.new w1 [.int .i64 cl, .slice ad N c, .slice ga gn gc, .slice sa 3 sc] 55
  replace A := A.below al
  replace g := g.below al
  replace s := s.below al
  replace rd := rd.below al
  replace T := T.trans (Touch.of al)
  replace q0 := q0.below al
  go_upto_region 2 with fail
  obtain ⟨w2, hw2⟩ : ∃ W, W = w1.alloc (.cells #[.int .i64 cl, .slice ad N c, .slice ga gn gc, .slice sa 3 sc] 55) := ⟨_, rfl⟩
  have z2 : w1.heap.size + 1 ≤ w2.heap.size := by rw [hw2, World.size_alloc]; omega
  rw [← hw2]
  rw [← hw2] at A g s rd T q0 cb
  clear hw2 al
  obtain ⟨TB, hTB⟩ : ∃ x, x = w1.heap.size := ⟨_, rfl⟩
  rw [← hTB]
  rw [← hTB] at cb s m3
  have x1 : w.heap.size + 1 ≤ TB := by omega
  have x2 : TB < w2.heap.size := by omega
  clear hTB
  go_wp2_with fail
  refine (pick_any R a n cap bs (q) M _ rd (by omega) (by omega) (by omega) (by omega)).mono ?_
  rintro e w6 ⟨u, u0, u1, rfl, t5, R5⟩
  have zzw6 := t5.size
  clear rd
  replace A := A.touch t5 (fun k hk => by omega)
  replace g := g.touch t5 (fun k hk => by omega)
  replace s := s.touch t5 (fun k hk => by omega)
  replace cb := cb.touch t5 (by omega)
  replace q0 := q0.touch t5 (by omega)
  replace T := T.trans t5
  have rd := R5
  by_cases hu : 0 < u
  · have c0 := cb.cell 0
    have e0 := q0.cell 0
    have f0 := q0.free 0
    have c1 := cb.cell 1
    have e1 := q0.cell 1
    have f1 := q0.free 1
    have c2 := cb.cell 2
    have e2 := q0.cell 2
    have f2 := q0.free 2
    have c3 := cb.cell 3
    have e3 := q0.cell 3
    have f3 := q0.free 3
    have lq := q0.lt
    simp only [List.getElem?_cons_zero, List.getElem?_cons_succ] at c0 c1 c2 c3 e0 e1 e2 e3
    go_wp2
    have TS : Touch (fun x => x = w.heap.size) w6 ((((w6.setCell ⟨w.heap.size, 0, none⟩ (.int .i64 cl)).setCell ⟨w.heap.size, 1, none⟩ (.slice ad N c)).setCell ⟨w.heap.size, 2, none⟩ (.slice ga gn gc)).setCell ⟨w.heap.size, 3, none⟩ (.slice sa 3 sc)) := Touch.setCell (S := fun x => x = w.heap.size) (Touch.setCell (S := fun x => x = w.heap.size) (Touch.setCell (S := fun x => x = w.heap.size) (Touch.setCell (S := fun x => x = w.heap.size) (Touch.refl _ _) rfl _) rfl _) rfl _) rfl _
    have PF : PlF (w.heap.size + 1) w6 ad N ss ga gn G sa 3 S := PlF.of A g.ints.1 (fun b o e => by have := g.ints.2 b o e; omega) s.ints.1 (fun b o e => by have := s.ints.2 b o e; omega) (by omega) HN.out (by omega) (by omega) (by omega)
    refine bodyPost_ret (v := .agg #[.int .i64 cl, .slice ad N c, .slice ga gn gc, .slice sa 3 sc]) (by simp [results, Tryd.results70, go_sem, e0, e1, e2, e3]) rfl ⟨cl, ad, N, c, ss, ga, gn, gc, G, sa, 3, sc, S, q + 1, rfl, T.setOwn TS (by omega), rd.touch TS (by omega) (fun h0 b o e hs => by have := ha h0 b o e; omega), PF.touch TS (fun k hk => by omega), by omega, by omega⟩
  obtain rfl : u = 0 := by omega
  go_wp2_with fail
  refine (pick_any R a n cap bs (q + 1) 5 _ rd (by omega) (by omega) (by omega) (by omega)).mono ?_
  rintro e w7 ⟨v, v0, v1, rfl, t5, R5⟩
  have zzw7 := t5.size
  clear rd
  replace A := A.touch t5 (fun k hk => by omega)
  replace g := g.touch t5 (fun k hk => by omega)
  replace s := s.touch t5 (fun k hk => by omega)
  replace cb := cb.touch t5 (by omega)
  replace q0 := q0.touch t5 (by omega)
  replace T := T.trans t5
  have rd := R5
  rcases (show v = 0 ∨ v = 1 ∨ v = 2 ∨ v = 3 ∨ v = 4 from by omega) with rfl | rfl | rfl | rfl | rfl
  · have al := (Below.refl w7.heap.size w7).alloc (Nat.le_refl _) (.cells #[.int .i64 0, .int .i64 5, .int .i64 (-1)] 3)
    have lb := Cel.new w7 [.int .i64 0, .int .i64 5, .int .i64 (-1)] 3
    have zb := T.size
    replace A := A.below al
    replace g := g.below al
    replace s := s.below al
    replace cb := cb.below al
    replace q0 := q0.below al
    replace rd := rd.below al
    replace T := T.trans (Touch.of al)
    have nl : w7.heap.size ≠ R := by omega
    clear al
    go_wp2_with fail
    refine (pick_any R a n cap bs (q + 1 + 1) 3 _ rd (by omega) (by omega) (by omega) (by omega)).mono ?_
    rintro e w8 ⟨j, j0, j1, rfl, t5, R5⟩
    obtain ⟨j, rfl⟩ := Int.eq_ofNat_of_zero_le j0
    have zz9 := t5.size
    replace lb := lb.touch t5 nl
    clear rd
    replace A := A.touch t5 (fun k hk => by omega)
    replace g := g.touch t5 (fun k hk => by omega)
    replace s := s.touch t5 (fun k hk => by omega)
    replace cb := cb.touch t5 (by omega)
    replace q0 := q0.touch t5 (by omega)
    replace T := T.trans t5
    have rd := R5
    have hj : j < 3 := by omega
    have hj' : (j : Int) < 3 := by omega
    have hc := lit_cell (xs := [0, 5, -1]) lb (j := j) (by simp only [List.length_cons, List.length_nil]; omega)
    generalize ([0, 5, -1] : List Int)[j]?.getD 0 = y at hc
    clear lb
    have cc := cb.cell 0
    have fc := cb.free 0
    have lc := cb.lt
    simp only [List.getElem?_cons_zero] at cc
    go_upto_region 14 with fail
    clear hc cc fc lc
    have TT : Touch (fun x => x = TB) w8 (w8.setCell ⟨TB, 0, none⟩ (.int .i64 y)) := Touch.setCell (S := fun x => x = TB) (Touch.refl _ _) rfl _
    replace A := A.touch TT (fun k hk => by omega)
    replace g := g.touch TT (fun k hk => by omega)
    replace s := s.touch TT (fun k hk => by omega)
    replace cb := cb.set 0 (.int .i64 y)
    simp only [List.set_cons_zero] at cb
    replace q0 := q0.setOther (B' := TB) (by omega) 0 (.int .i64 y)
    replace rd := rd.setNew (B := TB) (by omega) (fun h0 b o e => by have := ha h0 b o e; omega) 0 (.int .i64 y)
    replace T := T.setOwn TT (by omega)
    clear TT
    obtain ⟨w9, hw9⟩ : ∃ W, W = w8.setCell ⟨TB, 0, none⟩ (.int .i64 y) := ⟨_, rfl⟩
    rw [← hw9]
    rw [← hw9] at A g s cb q0 rd T
    clear hw9
    have c0 := cb.cell 0
    have e0 := q0.cell 0
    have f0 := q0.free 0
    have c1 := cb.cell 1
    have e1 := q0.cell 1
    have f1 := q0.free 1
    have c2 := cb.cell 2
    have e2 := q0.cell 2
    have f2 := q0.free 2
    have c3 := cb.cell 3
    have e3 := q0.cell 3
    have f3 := q0.free 3
    have lq := q0.lt
    simp only [List.getElem?_cons_zero, List.getElem?_cons_succ] at c0 c1 c2 c3 e0 e1 e2 e3
    go_wp2
    have TS : Touch (fun x => x = w.heap.size) w9 ((((w9.setCell ⟨w.heap.size, 0, none⟩ (.int .i64 y)).setCell ⟨w.heap.size, 1, none⟩ (.slice ad N c)).setCell ⟨w.heap.size, 2, none⟩ (.slice ga gn gc)).setCell ⟨w.heap.size, 3, none⟩ (.slice sa 3 sc)) := Touch.setCell (S := fun x => x = w.heap.size) (Touch.setCell (S := fun x => x = w.heap.size) (Touch.setCell (S := fun x => x = w.heap.size) (Touch.setCell (S := fun x => x = w.heap.size) (Touch.refl _ _) rfl _) rfl _) rfl _) rfl _
    have PF : PlF (w.heap.size + 1) w9 ad N ss ga gn G sa 3 S := PlF.of A g.ints.1 (fun b o e => by have := g.ints.2 b o e; omega) s.ints.1 (fun b o e => by have := s.ints.2 b o e; omega) (by omega) HN.out (by omega) (by omega) (by omega)
    refine bodyPost_ret (v := .agg #[.int .i64 y, .slice ad N c, .slice ga gn gc, .slice sa 3 sc]) (by simp [results, Tryd.results70, go_sem, e0, e1, e2, e3]) rfl ⟨y, ad, N, c, ss, ga, gn, gc, G, sa, 3, sc, S, q + 1 + 1 + 1, rfl, T.setOwn TS (by omega), rd.touch TS (by omega) (fun h0 b o e hs => by have := ha h0 b o e; omega), PF.touch TS (fun k hk => by omega), by omega, by omega⟩
  · have zb := T.size
    go_wp2_with fail
    refine (anyacts_f R a n cap bs (q + 1 + 1) 1 _ rd (by omega) (by omega) (by omega) (by omega) rd.ha).mono ?_
    rintro e w8 ⟨ad', N', c', ss', q', rfl, j, hN', hN5, v0, v1⟩
    have HN' : Hid (ss'.length = N') := hN'
    clear hN' rd
    have A' := j.acs
    have t5 := j.t
    have zz9 := t5.size
    have R5 := j.r
    clear j
    replace A := A.touch t5 (fun k hk => by omega)
    replace g := g.touch t5 (fun k hk => by omega)
    replace s := s.touch t5 (fun k hk => by omega)
    replace cb := cb.touch t5 (by omega)
    replace q0 := q0.touch t5 (by omega)
    replace T := T.trans t5
    have rd := R5
    clear A
    have A := A'
    clear A'
    have cc := cb.cell 1
    have fc := cb.free 1
    have lc := cb.lt
    simp only [List.getElem?_cons_zero, List.getElem?_cons_succ] at cc
    go_upto_region 14 with fail
    clear cc fc lc
    have TT : Touch (fun x => x = TB) w8 (w8.setCell ⟨TB, 1, none⟩ (.slice ad' N' c')) := Touch.setCell (S := fun x => x = TB) (Touch.refl _ _) rfl _
    replace A := A.touch TT (fun k hk => by omega)
    replace g := g.touch TT (fun k hk => by omega)
    replace s := s.touch TT (fun k hk => by omega)
    replace cb := cb.set 1 (.slice ad' N' c')
    simp only [List.set_cons_succ, List.set_cons_zero] at cb
    replace q0 := q0.setOther (B' := TB) (by omega) 1 (.slice ad' N' c')
    replace rd := rd.setNew (B := TB) (by omega) (fun h0 b o e => by have := ha h0 b o e; omega) 1 (.slice ad' N' c')
    replace T := T.setOwn TT (by omega)
    clear TT
    obtain ⟨w9, hw9⟩ : ∃ W, W = w8.setCell ⟨TB, 1, none⟩ (.slice ad' N' c') := ⟨_, rfl⟩
    rw [← hw9]
    rw [← hw9] at A g s cb q0 rd T
    clear hw9
    have c0 := cb.cell 0
    have e0 := q0.cell 0
    have f0 := q0.free 0
    have c1 := cb.cell 1
    have e1 := q0.cell 1
    have f1 := q0.free 1
    have c2 := cb.cell 2
    have e2 := q0.cell 2
    have f2 := q0.free 2
    have c3 := cb.cell 3
    have e3 := q0.cell 3
    have f3 := q0.free 3
    have lq := q0.lt
    simp only [List.getElem?_cons_zero, List.getElem?_cons_succ] at c0 c1 c2 c3 e0 e1 e2 e3
    go_wp2
    have TS : Touch (fun x => x = w.heap.size) w9 ((((w9.setCell ⟨w.heap.size, 0, none⟩ (.int .i64 cl)).setCell ⟨w.heap.size, 1, none⟩ (.slice ad' N' c')).setCell ⟨w.heap.size, 2, none⟩ (.slice ga gn gc)).setCell ⟨w.heap.size, 3, none⟩ (.slice sa 3 sc)) := Touch.setCell (S := fun x => x = w.heap.size) (Touch.setCell (S := fun x => x = w.heap.size) (Touch.setCell (S := fun x => x = w.heap.size) (Touch.setCell (S := fun x => x = w.heap.size) (Touch.refl _ _) rfl _) rfl _) rfl _) rfl _
    have PF : PlF (w.heap.size + 1) w9 ad' N' ss' ga gn G sa 3 S := PlF.of A g.ints.1 (fun b o e => by have := g.ints.2 b o e; omega) s.ints.1 (fun b o e => by have := s.ints.2 b o e; omega) (by omega) HN'.out (by omega) (by omega) (by omega)
    refine bodyPost_ret (v := .agg #[.int .i64 cl, .slice ad' N' c', .slice ga gn gc, .slice sa 3 sc]) (by simp [results, Tryd.results70, go_sem, e0, e1, e2, e3]) rfl ⟨cl, ad', N', c', ss', ga, gn, gc, G, sa, 3, sc, S, q', rfl, T.setOwn TS (by omega), rd.touch TS (by omega) (fun h0 b o e hs => by have := ha h0 b o e; omega), PF.touch TS (fun k hk => by omega), by omega, by omega⟩
  · have zb := T.size
    go_upto_region 11 with fail
    refine wp_region_ends (fun _ => True) (fun X => X.cell? ⟨TB, 2, none⟩ = some (.slice ga gn gc)) 9 (by kernel_rfl) ?_
    have dr : Below w7.heap.size w7 w7.drew := (Below.refl _ _).drew
    have zd := dr.size
    replace A := A.below dr
    replace g := g.below dr
    replace s := s.below dr
    replace cb := cb.below dr
    replace q0 := q0.below dr
    replace rd := rd.below dr
    replace T := T.trans (Touch.of dr)
    clear dr
    obtain ⟨w8, hw8⟩ : ∃ W, W = w7.drew := ⟨_, rfl⟩
    rw [← hw8]
    rw [← hw8] at A g s cb q0 rd T zd
    clear hw8
    have hSS : True ∧ (fun X : World => X.cell? ⟨TB, 2, none⟩ = some (.slice ga gn gc)) w8 := ⟨trivial, cb.cell 2⟩
    refine tkL (i := 0) rfl hSS ?_
    refine tkM (i := 1) rfl rfl hSS ?_
    refine tkL (i := 3) rfl hSS ?_
    clear hSS
    refine wpAnyE_two (i := 2) (j := 4) (by kernel_rfl) rfl rfl (fun Kn hK => ?_) (fun Kn hK => ?_)
    · go_simp
      have al := (Below.refl w8.heap.size w8).alloc (Nat.le_refl _) (.cells #[.int .i64 (-1), .int .i64 51, .int .i64 3, .int .i64 3] 3)
      have lb := Cel.new w8 [.int .i64 (-1), .int .i64 51, .int .i64 3, .int .i64 3] 3
      have nl : w8.heap.size ≠ R := by omega
      replace A := A.below al
      replace g := g.below al
      replace s := s.below al
      replace cb := cb.below al
      replace q0 := q0.below al
      replace rd := rd.below al
      replace T := T.trans (Touch.of al)
      clear al
      obtain ⟨w9, hw9⟩ : ∃ W, W = w8.alloc (.cells #[.int .i64 (-1), .int .i64 51, .int .i64 3, .int .i64 3] 3) := ⟨_, rfl⟩
      rw [← hw9]
      rw [← hw9] at A g s cb q0 rd T lb
      clear hw9
      obtain ⟨XL, hXL⟩ : ∃ x, x = w8.heap.size := ⟨_, rfl⟩
      rw [← hXL]
      rw [← hXL] at lb nl
      clear hXL
      refine hK.out _ _ ⟨trivial, fun _ => cb.cell 2⟩ ?_
      clear hK
      refine wpAnyE_one (i := 4) (by kernel_rfl) rfl (fun Kn hK => ?_)
      go_simp
      refine (pick_any R a n cap bs (q + 1 + 1) 4 _ rd (by omega) (by omega) (by omega) (by omega)).mono ?_
      rintro e w10 ⟨j, j0, j1, rfl, t5, R5⟩
      obtain ⟨j, rfl⟩ := Int.eq_ofNat_of_zero_le j0
      have zz9 := t5.size
      replace lb := lb.touch t5 nl
      clear rd
      replace A := A.touch t5 (fun k hk => by omega)
      replace g := g.touch t5 (fun k hk => by omega)
      replace s := s.touch t5 (fun k hk => by omega)
      replace cb := cb.touch t5 (by omega)
      replace q0 := q0.touch t5 (by omega)
      replace T := T.trans t5
      have rd := R5
      clear t5 R5 j0
      dsimp only
      refine hK.out _ _ ⟨trivial, fun _ => cb.cell 2⟩ ?_
      clear hK
      have hj : j < 4 := by omega
      have hj' : (j : Int) < 4 := by omega
      have hSS : True ∧ (fun X : World => X.cell? ⟨TB, 2, none⟩ = some (.slice ga gn gc)) w10 := ⟨trivial, cb.cell 2⟩
      refine tkL (i := 5) rfl hSS ?_
      clear hSS
      have hc := lit_cell (xs := [-1, 51, 3, 3]) lb (j := j) (by simp only [List.length_cons, List.length_nil]; omega)
      generalize ([-1, 51, 3, 3] : List Int)[j]?.getD 0 = y at hc
      refine wpAnyE_one (i := 6) (by kernel_rfl) rfl (fun Kn hK => ?_)
      go_simp
      refine hK.out _ _ ⟨trivial, fun _ => cb.cell 2⟩ ?_
      clear hK
      clear hc lb
      refine wpAnyE_one (i := 7) (by kernel_rfl) rfl (fun Kn hK => ?_)
      go_simp
      have al := (Below.refl w10.heap.size w10).alloc (Nat.le_refl _) (.cells #[.int .i64 y, .int .i64 4, .int .i64 4] 3)
      replace A := A.below al
      replace g := g.below al
      replace s := s.below al
      replace cb := cb.below al
      replace q0 := q0.below al
      replace rd := rd.below al
      replace T := T.trans (Touch.of al)
      have hn9 := heap_alloc_new w10 (.cells #[.int .i64 y, .int .i64 4, .int .i64 4] 3)
      have zA := al.size
      clear al
      obtain ⟨w11, hw11⟩ : ∃ W, W = w10.alloc (.cells #[.int .i64 y, .int .i64 4, .int .i64 4] 3) := ⟨_, rfl⟩
      rw [← hw11]
      rw [← hw11] at A g s cb q0 rd T hn9 zA
      clear hw11
      refine hK.out _ _ ⟨trivial, fun _ => cb.cell 2⟩ ?_
      clear hK
      have lcb := cb.lt
      have hM1 : M1 ≤ w11.heap.size := by omega
      refine wpAnyE_one (i := 8) (by kernel_rfl) rfl (fun Kn hK => ?_)
      rw [if_pos (by rfl)]
      refine wp_append_lies _ (.tmp 35) (.tmp 41) 23 rfl M1 3 i0 _ 1 8 Tryd.underlying23 hi hz0 hz1 hz2 rfl (by omega) (.slice ga gn gc) gn (G.map (Value.int .i64)) (by rfl) g.o ⟨w10.heap.size, 0, none⟩ 3 3 [.int .i64 y, .int .i64 4, .int .i64 4] (by rfl) (by rfl) (World.news_of_block (cs := #[.int .i64 y, .int .i64 4, .int .i64 4]) (t := 3) (fr := (0, 0)) hn9) (by simp [Value.oneCell']) (by omega) (by unfold maxLen; omega) (by omega) hM1 _ rfl ?_
      intro g9 c9 w30 hown hgrow hat9 _
      have gh := g.h
      have go := fun x hx => (g.o.lt x hx).1
      have Tg : Touch (fun x => (Value.slice ga gn gc).ownBlock = some x) w11 w30 := ⟨hgrow.os, hgrow.tape, hgrow.output, hgrow.size, fun z hz hn => hgrow.block z hz (fun e => hn e.symm)⟩
      have zg := hgrow.size
      have hg9 : g9 ≠ TB ∧ g9 ≠ w.heap.size ∧ w.heap.size + 1 ≤ g9 := by (rcases hat9 with h | h; have h1 := gh _ h; have h2 := go _ h; exact ⟨by omega, by omega, by omega⟩; exact ⟨by omega, by omega, by omega⟩)
      replace A := A.touch Tg (fun k hk => by have h1 := gh k hk; have h2 := go k hk; omega)
      replace s := s.touch Tg (fun k hk => by have h1 := gh k hk; have h2 := go k hk; omega)
      replace cb := cb.touch Tg (fun e => by have h1 := gh _ e; have h2 := go _ e; omega)
      replace q0 := q0.touch Tg (fun e => by have h1 := gh _ e; have h2 := go _ e; omega)
      replace rd := rd.touch Tg (fun e => by have h1 := gh _ e; have h2 := go _ e; omega) (fun h0 b o e hs => by have h1 := gh _ hs; have h2 := go _ hs; have := ha h0 b o e; omega)
      replace T := T.grown hgrow (fun z hz => by have h2 := go _ hz; omega)
      have gl := g.l
      have g' : Lst M1 w30.heap.size w30 (.slice (some ⟨g9, 0, none⟩) (gn + 3) c9) (gn + 3) (G ++ [y, 4, 4]) := ⟨by rw [List.map_append]; exact hown, fun x hx => (hown.lt x hx).2, by rw [List.length_append, gl]; rfl⟩
      clear g Tg hgrow hown hn9 gh go gl
      have g := g'
      clear g'
      refine hK.out _ _ ⟨trivial, fun _ => cb.cell 2⟩ ?_
      clear hK
      refine wpAnyE_one (i := 9) (by kernel_rfl) rfl (fun Kn hK => ?_)
      go_simp
      refine hK.out _ _ ⟨trivial, fun _ => cb.cell 2⟩ ?_
      clear hK
      have cc := cb.cell 2
      have fc := cb.free 2
      have lc := cb.lt
      simp only [List.getElem?_cons_zero, List.getElem?_cons_succ] at cc
      refine wpAnyE_one (i := 10) (by kernel_rfl) rfl (fun Kn hK => ?_)
      go_simp
      clear cc fc lc
      have TT : Touch (fun x => x = TB) w30 (w30.setCell ⟨TB, 2, none⟩ (.slice (some ⟨g9, 0, none⟩) (gn + 3) c9)) := Touch.setCell (S := fun x => x = TB) (Touch.refl _ _) rfl _
      replace A := A.touch TT (fun k hk => by omega)
      replace s := s.touch TT (fun k hk => by omega)
      replace cb := cb.set 2 (.slice (some ⟨g9, 0, none⟩) (gn + 3) c9)
      simp only [List.set_cons_succ, List.set_cons_zero] at cb
      replace q0 := q0.setOther (B' := TB) (by omega) 2 (.slice (some ⟨g9, 0, none⟩) (gn + 3) c9)
      replace rd := rd.setNew (B := TB) (by omega) (fun h0 b o e => by have := ha h0 b o e; omega) 2 (.slice (some ⟨g9, 0, none⟩) (gn + 3) c9)
      replace T := T.setOwn TT (by omega)
      have gi := g.ints.1.setFar (B := TB) (fun b o e => by (have e' : (some ⟨g9, 0, none⟩ : Option Addr) = some ⟨b, o, none⟩ := e; simp only [Option.some.injEq, Addr.mk.injEq] at e'; omega)) 2 (.slice (some ⟨g9, 0, none⟩) (gn + 3) c9)
      clear g TT
      refine hK.out _ _ ⟨trivial, fun h => absurd h (by decide)⟩ ?_
      clear hK
      refine wpAnyE_done (by kernel_rfl) ?_ _
      obtain ⟨w12, hw12⟩ : ∃ W, W = w30.setCell ⟨TB, 2, none⟩ (.slice (some ⟨g9, 0, none⟩) (gn + 3) c9) := ⟨_, rfl⟩
      rw [← hw12]
      rw [← hw12] at A gi s cb q0 rd T
      clear hw12
      have c0 := cb.cell 0
      have e0 := q0.cell 0
      have f0 := q0.free 0
      have c1 := cb.cell 1
      have e1 := q0.cell 1
      have f1 := q0.free 1
      have c2 := cb.cell 2
      have e2 := q0.cell 2
      have f2 := q0.free 2
      have c3 := cb.cell 3
      have e3 := q0.cell 3
      have f3 := q0.free 3
      have lq := q0.lt
      simp only [List.getElem?_cons_zero, List.getElem?_cons_succ] at c0 c1 c2 c3 e0 e1 e2 e3
      go_wp2
      have TS : Touch (fun x => x = w.heap.size) w12 ((((w12.setCell ⟨w.heap.size, 0, none⟩ (.int .i64 cl)).setCell ⟨w.heap.size, 1, none⟩ (.slice ad N c)).setCell ⟨w.heap.size, 2, none⟩ (.slice (some ⟨g9, 0, none⟩) (gn + 3) c9)).setCell ⟨w.heap.size, 3, none⟩ (.slice sa 3 sc)) := Touch.setCell (S := fun x => x = w.heap.size) (Touch.setCell (S := fun x => x = w.heap.size) (Touch.setCell (S := fun x => x = w.heap.size) (Touch.setCell (S := fun x => x = w.heap.size) (Touch.refl _ _) rfl _) rfl _) rfl _) rfl _
      have PF : PlF (w.heap.size + 1) w12 ad N ss (some ⟨g9, 0, none⟩) (gn + 3) (G ++ [y, 4, 4]) sa 3 S := PlF.of A gi (fun b o e => by (have e' : (some ⟨g9, 0, none⟩ : Option Addr) = some ⟨b, o, none⟩ := e; simp only [Option.some.injEq, Addr.mk.injEq] at e'; omega)) s.ints.1 (fun b o e => by have := s.ints.2 b o e; omega) (by omega) HN.out (by omega) (by omega) (by omega)
      refine bodyPost_ret (v := .agg #[.int .i64 cl, .slice ad N c, .slice (some ⟨g9, 0, none⟩) (gn + 3) c9, .slice sa 3 sc]) (by simp [results, Tryd.results70, go_sem, e0, e1, e2, e3]) rfl ⟨cl, ad, N, c, ss, (some ⟨g9, 0, none⟩), (gn + 3), c9, (G ++ [y, 4, 4]), sa, 3, sc, S, q + 1 + 1 + 1, rfl, T.setOwn TS (by omega), rd.touch TS (by omega) (fun h0 b o e hs => by have := ha h0 b o e; omega), PF.touch TS (fun k hk => by omega), by omega, by omega⟩
    · go_simp
      refine (pick_any R a n cap bs (q + 1 + 1) 4 _ rd (by omega) (by omega) (by omega) (by omega)).mono ?_
      rintro e w9 ⟨j, j0, j1, rfl, t5, R5⟩
      obtain ⟨j, rfl⟩ := Int.eq_ofNat_of_zero_le j0
      have zz9 := t5.size
      clear rd
      replace A := A.touch t5 (fun k hk => by omega)
      replace g := g.touch t5 (fun k hk => by omega)
      replace s := s.touch t5 (fun k hk => by omega)
      replace cb := cb.touch t5 (by omega)
      replace q0 := q0.touch t5 (by omega)
      replace T := T.trans t5
      have rd := R5
      clear t5 R5 j0
      dsimp only
      refine hK.out _ _ ⟨trivial, fun _ => cb.cell 2⟩ ?_
      clear hK
      refine wpAnyE_one (i := 2) (by kernel_rfl) rfl (fun Kn hK => ?_)
      go_simp
      have al := (Below.refl w9.heap.size w9).alloc (Nat.le_refl _) (.cells #[.int .i64 (-1), .int .i64 51, .int .i64 3, .int .i64 3] 3)
      have lb := Cel.new w9 [.int .i64 (-1), .int .i64 51, .int .i64 3, .int .i64 3] 3
      have nl : w9.heap.size ≠ R := by omega
      replace A := A.below al
      replace g := g.below al
      replace s := s.below al
      replace cb := cb.below al
      replace q0 := q0.below al
      replace rd := rd.below al
      replace T := T.trans (Touch.of al)
      clear al
      obtain ⟨w10, hw10⟩ : ∃ W, W = w9.alloc (.cells #[.int .i64 (-1), .int .i64 51, .int .i64 3, .int .i64 3] 3) := ⟨_, rfl⟩
      rw [← hw10]
      rw [← hw10] at A g s cb q0 rd T lb
      clear hw10
      obtain ⟨XL, hXL⟩ : ∃ x, x = w9.heap.size := ⟨_, rfl⟩
      rw [← hXL]
      rw [← hXL] at lb nl
      clear hXL
      refine hK.out _ _ ⟨trivial, fun _ => cb.cell 2⟩ ?_
      clear hK
      have hj : j < 4 := by omega
      have hj' : (j : Int) < 4 := by omega
      have hSS : True ∧ (fun X : World => X.cell? ⟨TB, 2, none⟩ = some (.slice ga gn gc)) w10 := ⟨trivial, cb.cell 2⟩
      refine tkL (i := 5) rfl hSS ?_
      clear hSS
      have hc := lit_cell (xs := [-1, 51, 3, 3]) lb (j := j) (by simp only [List.length_cons, List.length_nil]; omega)
      generalize ([-1, 51, 3, 3] : List Int)[j]?.getD 0 = y at hc
      refine wpAnyE_one (i := 6) (by kernel_rfl) rfl (fun Kn hK => ?_)
      go_simp
      refine hK.out _ _ ⟨trivial, fun _ => cb.cell 2⟩ ?_
      clear hK
      clear hc lb
      refine wpAnyE_one (i := 7) (by kernel_rfl) rfl (fun Kn hK => ?_)
      go_simp
      have al := (Below.refl w10.heap.size w10).alloc (Nat.le_refl _) (.cells #[.int .i64 y, .int .i64 4, .int .i64 4] 3)
      replace A := A.below al
      replace g := g.below al
      replace s := s.below al
      replace cb := cb.below al
      replace q0 := q0.below al
      replace rd := rd.below al
      replace T := T.trans (Touch.of al)
      have hn9 := heap_alloc_new w10 (.cells #[.int .i64 y, .int .i64 4, .int .i64 4] 3)
      have zA := al.size
      clear al
      obtain ⟨w11, hw11⟩ : ∃ W, W = w10.alloc (.cells #[.int .i64 y, .int .i64 4, .int .i64 4] 3) := ⟨_, rfl⟩
      rw [← hw11]
      rw [← hw11] at A g s cb q0 rd T hn9 zA
      clear hw11
      refine hK.out _ _ ⟨trivial, fun _ => cb.cell 2⟩ ?_
      clear hK
      have lcb := cb.lt
      have hM1 : M1 ≤ w11.heap.size := by omega
      refine wpAnyE_one (i := 8) (by kernel_rfl) rfl (fun Kn hK => ?_)
      rw [if_pos (by rfl)]
      refine wp_append_lies _ (.tmp 35) (.tmp 41) 23 rfl M1 3 i0 _ 1 8 Tryd.underlying23 hi hz0 hz1 hz2 rfl (by omega) (.slice ga gn gc) gn (G.map (Value.int .i64)) (by rfl) g.o ⟨w10.heap.size, 0, none⟩ 3 3 [.int .i64 y, .int .i64 4, .int .i64 4] (by rfl) (by rfl) (World.news_of_block (cs := #[.int .i64 y, .int .i64 4, .int .i64 4]) (t := 3) (fr := (0, 0)) hn9) (by simp [Value.oneCell']) (by omega) (by unfold maxLen; omega) (by omega) hM1 _ rfl ?_
      intro g9 c9 w30 hown hgrow hat9 _
      have gh := g.h
      have go := fun x hx => (g.o.lt x hx).1
      have Tg : Touch (fun x => (Value.slice ga gn gc).ownBlock = some x) w11 w30 := ⟨hgrow.os, hgrow.tape, hgrow.output, hgrow.size, fun z hz hn => hgrow.block z hz (fun e => hn e.symm)⟩
      have zg := hgrow.size
      have hg9 : g9 ≠ TB ∧ g9 ≠ w.heap.size ∧ w.heap.size + 1 ≤ g9 := by (rcases hat9 with h | h; have h1 := gh _ h; have h2 := go _ h; exact ⟨by omega, by omega, by omega⟩; exact ⟨by omega, by omega, by omega⟩)
      replace A := A.touch Tg (fun k hk => by have h1 := gh k hk; have h2 := go k hk; omega)
      replace s := s.touch Tg (fun k hk => by have h1 := gh k hk; have h2 := go k hk; omega)
      replace cb := cb.touch Tg (fun e => by have h1 := gh _ e; have h2 := go _ e; omega)
      replace q0 := q0.touch Tg (fun e => by have h1 := gh _ e; have h2 := go _ e; omega)
      replace rd := rd.touch Tg (fun e => by have h1 := gh _ e; have h2 := go _ e; omega) (fun h0 b o e hs => by have h1 := gh _ hs; have h2 := go _ hs; have := ha h0 b o e; omega)
      replace T := T.grown hgrow (fun z hz => by have h2 := go _ hz; omega)
      have gl := g.l
      have g' : Lst M1 w30.heap.size w30 (.slice (some ⟨g9, 0, none⟩) (gn + 3) c9) (gn + 3) (G ++ [y, 4, 4]) := ⟨by rw [List.map_append]; exact hown, fun x hx => (hown.lt x hx).2, by rw [List.length_append, gl]; rfl⟩
      clear g Tg hgrow hown hn9 gh go gl
      have g := g'
      clear g'
      refine hK.out _ _ ⟨trivial, fun _ => cb.cell 2⟩ ?_
      clear hK
      refine wpAnyE_one (i := 9) (by kernel_rfl) rfl (fun Kn hK => ?_)
      go_simp
      refine hK.out _ _ ⟨trivial, fun _ => cb.cell 2⟩ ?_
      clear hK
      have cc := cb.cell 2
      have fc := cb.free 2
      have lc := cb.lt
      simp only [List.getElem?_cons_zero, List.getElem?_cons_succ] at cc
      refine wpAnyE_one (i := 10) (by kernel_rfl) rfl (fun Kn hK => ?_)
      go_simp
      clear cc fc lc
      have TT : Touch (fun x => x = TB) w30 (w30.setCell ⟨TB, 2, none⟩ (.slice (some ⟨g9, 0, none⟩) (gn + 3) c9)) := Touch.setCell (S := fun x => x = TB) (Touch.refl _ _) rfl _
      replace A := A.touch TT (fun k hk => by omega)
      replace s := s.touch TT (fun k hk => by omega)
      replace cb := cb.set 2 (.slice (some ⟨g9, 0, none⟩) (gn + 3) c9)
      simp only [List.set_cons_succ, List.set_cons_zero] at cb
      replace q0 := q0.setOther (B' := TB) (by omega) 2 (.slice (some ⟨g9, 0, none⟩) (gn + 3) c9)
      replace rd := rd.setNew (B := TB) (by omega) (fun h0 b o e => by have := ha h0 b o e; omega) 2 (.slice (some ⟨g9, 0, none⟩) (gn + 3) c9)
      replace T := T.setOwn TT (by omega)
      have gi := g.ints.1.setFar (B := TB) (fun b o e => by (have e' : (some ⟨g9, 0, none⟩ : Option Addr) = some ⟨b, o, none⟩ := e; simp only [Option.some.injEq, Addr.mk.injEq] at e'; omega)) 2 (.slice (some ⟨g9, 0, none⟩) (gn + 3) c9)
      clear g TT
      refine hK.out _ _ ⟨trivial, fun h => absurd h (by decide)⟩ ?_
      clear hK
      refine wpAnyE_done (by kernel_rfl) ?_ _
      obtain ⟨w12, hw12⟩ : ∃ W, W = w30.setCell ⟨TB, 2, none⟩ (.slice (some ⟨g9, 0, none⟩) (gn + 3) c9) := ⟨_, rfl⟩
      rw [← hw12]
      rw [← hw12] at A gi s cb q0 rd T
      clear hw12
      have c0 := cb.cell 0
      have e0 := q0.cell 0
      have f0 := q0.free 0
      have c1 := cb.cell 1
      have e1 := q0.cell 1
      have f1 := q0.free 1
      have c2 := cb.cell 2
      have e2 := q0.cell 2
      have f2 := q0.free 2
      have c3 := cb.cell 3
      have e3 := q0.cell 3
      have f3 := q0.free 3
      have lq := q0.lt
      simp only [List.getElem?_cons_zero, List.getElem?_cons_succ] at c0 c1 c2 c3 e0 e1 e2 e3
      go_wp2
      have TS : Touch (fun x => x = w.heap.size) w12 ((((w12.setCell ⟨w.heap.size, 0, none⟩ (.int .i64 cl)).setCell ⟨w.heap.size, 1, none⟩ (.slice ad N c)).setCell ⟨w.heap.size, 2, none⟩ (.slice (some ⟨g9, 0, none⟩) (gn + 3) c9)).setCell ⟨w.heap.size, 3, none⟩ (.slice sa 3 sc)) := Touch.setCell (S := fun x => x = w.heap.size) (Touch.setCell (S := fun x => x = w.heap.size) (Touch.setCell (S := fun x => x = w.heap.size) (Touch.setCell (S := fun x => x = w.heap.size) (Touch.refl _ _) rfl _) rfl _) rfl _) rfl _
      have PF : PlF (w.heap.size + 1) w12 ad N ss (some ⟨g9, 0, none⟩) (gn + 3) (G ++ [y, 4, 4]) sa 3 S := PlF.of A gi (fun b o e => by (have e' : (some ⟨g9, 0, none⟩ : Option Addr) = some ⟨b, o, none⟩ := e; simp only [Option.some.injEq, Addr.mk.injEq] at e'; omega)) s.ints.1 (fun b o e => by have := s.ints.2 b o e; omega) (by omega) HN.out (by omega) (by omega) (by omega)
      refine bodyPost_ret (v := .agg #[.int .i64 cl, .slice ad N c, .slice (some ⟨g9, 0, none⟩) (gn + 3) c9, .slice sa 3 sc]) (by simp [results, Tryd.results70, go_sem, e0, e1, e2, e3]) rfl ⟨cl, ad, N, c, ss, (some ⟨g9, 0, none⟩), (gn + 3), c9, (G ++ [y, 4, 4]), sa, 3, sc, S, q + 1 + 1 + 1, rfl, T.setOwn TS (by omega), rd.touch TS (by omega) (fun h0 b o e hs => by have := ha h0 b o e; omega), PF.touch TS (fun k hk => by omega), by omega, by omega⟩
  · have zb := T.size
    go_upto_region 13 with fail
    refine wp_region_ends (fun X => X.cell? ⟨TB, 3, none⟩ = some (.slice sa 3 sc)) (fun _ => True) 8 (by kernel_rfl) ?_
    have dr : Below w7.heap.size w7 w7.drew := (Below.refl _ _).drew
    have zd := dr.size
    replace A := A.below dr
    replace g := g.below dr
    replace s := s.below dr
    replace cb := cb.below dr
    replace q0 := q0.below dr
    replace rd := rd.below dr
    replace T := T.trans (Touch.of dr)
    clear dr
    obtain ⟨w8, hw8⟩ : ∃ W, W = w7.drew := ⟨_, rfl⟩
    rw [← hw8]
    rw [← hw8] at A g s cb q0 rd T zd
    clear hw8
    have hSS : (fun X : World => X.cell? ⟨TB, 3, none⟩ = some (.slice sa 3 sc)) w8 ∧ True := ⟨cb.cell 3, trivial⟩
    refine tkL (i := 0) rfl hSS ?_
    refine tkL (i := 1) rfl hSS ?_
    refine tkL (i := 3) rfl hSS ?_
    clear hSS
    refine wpAnyE_two (i := 2) (j := 4) (by kernel_rfl) rfl rfl (fun Kn hK => ?_) (fun Kn hK => ?_)
    · go_simp
      have al := (Below.refl w8.heap.size w8).alloc (Nat.le_refl _) (.cells #[.int .i64 1001, .int .i64 (-1000), .int .i64 1000] 3)
      have lb := Cel.new w8 [.int .i64 1001, .int .i64 (-1000), .int .i64 1000] 3
      have nl : w8.heap.size ≠ R := by omega
      replace A := A.below al
      replace g := g.below al
      replace s := s.below al
      replace cb := cb.below al
      replace q0 := q0.below al
      replace rd := rd.below al
      replace T := T.trans (Touch.of al)
      clear al
      obtain ⟨w9, hw9⟩ : ∃ W, W = w8.alloc (.cells #[.int .i64 1001, .int .i64 (-1000), .int .i64 1000] 3) := ⟨_, rfl⟩
      rw [← hw9]
      rw [← hw9] at A g s cb q0 rd T lb
      clear hw9
      obtain ⟨XL, hXL⟩ : ∃ x, x = w8.heap.size := ⟨_, rfl⟩
      rw [← hXL]
      rw [← hXL] at lb nl
      clear hXL
      refine hK.out _ _ ⟨cb.cell 3, fun _ => trivial⟩ ?_
      clear hK
      refine wpAnyE_one (i := 4) (by kernel_rfl) rfl (fun Kn hK => ?_)
      go_simp
      refine (pick_any R a n cap bs (q + 1 + 1) 3 _ rd (by omega) (by omega) (by omega) (by omega)).mono ?_
      rintro e w10 ⟨j, j0, j1, rfl, t5, R5⟩
      obtain ⟨j, rfl⟩ := Int.eq_ofNat_of_zero_le j0
      have zz9 := t5.size
      replace lb := lb.touch t5 nl
      clear rd
      replace A := A.touch t5 (fun k hk => by omega)
      replace g := g.touch t5 (fun k hk => by omega)
      replace s := s.touch t5 (fun k hk => by omega)
      replace cb := cb.touch t5 (by omega)
      replace q0 := q0.touch t5 (by omega)
      replace T := T.trans t5
      have rd := R5
      clear t5 R5 j0
      dsimp only
      refine hK.out _ _ ⟨cb.cell 3, fun _ => trivial⟩ ?_
      clear hK
      have hj : j < 3 := by omega
      have hj' : (j : Int) < 3 := by omega
      have hSS : (fun X : World => X.cell? ⟨TB, 3, none⟩ = some (.slice sa 3 sc)) w10 ∧ True := ⟨cb.cell 3, trivial⟩
      refine tkL (i := 5) rfl hSS ?_
      clear hSS
      have hc := lit_cell (xs := [1001, -1000, 1000]) lb (j := j) (by simp only [List.length_cons, List.length_nil]; omega)
      generalize ([1001, -1000, 1000] : List Int)[j]?.getD 0 = y at hc
      refine wpAnyE_one (i := 6) (by kernel_rfl) rfl (fun Kn hK => ?_)
      go_simp
      refine hK.out _ _ ⟨cb.cell 3, fun _ => trivial⟩ ?_
      clear hK
      clear hc lb
      obtain ⟨gs, rfl, y5, y6⟩ := s.some (by omega)
      have cs := s.o.cellAt 0 (by omega)
      have fs := s.o.frozenAt 0
      have hs3 := s.l
      rw [List.getElem?_map, List.getElem?_eq_getElem (by omega)] at cs
      have cs' : w10.cell? ⟨gs, 0, none⟩ = some (.int .i64 (S[0]'(by omega))) := cs
      generalize S[0]'(by omega) = y9 at cs'
      clear cs
      refine wpAnyE_one (i := 7) (by kernel_rfl) rfl (fun Kn hK => ?_)
      go_simp
      refine hK.out _ _ ⟨cb.cell 3, fun _ => trivial⟩ ?_
      clear hK
      refine wpAnyE_one (i := 8) (by kernel_rfl) rfl (fun Kn hK => ?_)
      go_simp
      clear cs' fs
      have s' := s.put 0 y
      have TT : Touch (fun x => x = gs) w10 (w10.setCell ⟨gs, 0, none⟩ (.int .i64 y)) := Touch.setCell (S := fun x => x = gs) (Touch.refl _ _) rfl _
      replace A := A.touch TT (fun k hk => by omega)
      replace g := g.touch TT (fun k hk => by omega)
      replace cb := cb.setOther (B' := gs) (by omega) 0 (.int .i64 y)
      replace q0 := q0.setOther (B' := gs) (by omega) 0 (.int .i64 y)
      replace rd := rd.setNew (B := gs) (by omega) (fun h0 b o e => by have := ha h0 b o e; omega) 0 (.int .i64 y)
      replace T := T.setOwn TT (by omega)
      clear TT
      clear s
      have s := s'
      clear s'
      refine hK.out _ _ ⟨cb.cell 3, fun _ => trivial⟩ ?_
      clear hK
      refine wpAnyE_done (by kernel_rfl) ?_ _
      obtain ⟨w11, hw11⟩ : ∃ W, W = w10.setCell ⟨gs, 0, none⟩ (.int .i64 y) := ⟨_, rfl⟩
      rw [← hw11]
      rw [← hw11] at A g s cb q0 rd T
      clear hw11
      have c0 := cb.cell 0
      have e0 := q0.cell 0
      have f0 := q0.free 0
      have c1 := cb.cell 1
      have e1 := q0.cell 1
      have f1 := q0.free 1
      have c2 := cb.cell 2
      have e2 := q0.cell 2
      have f2 := q0.free 2
      have c3 := cb.cell 3
      have e3 := q0.cell 3
      have f3 := q0.free 3
      have lq := q0.lt
      simp only [List.getElem?_cons_zero, List.getElem?_cons_succ] at c0 c1 c2 c3 e0 e1 e2 e3
      go_wp2
      have TS : Touch (fun x => x = w.heap.size) w11 ((((w11.setCell ⟨w.heap.size, 0, none⟩ (.int .i64 cl)).setCell ⟨w.heap.size, 1, none⟩ (.slice ad N c)).setCell ⟨w.heap.size, 2, none⟩ (.slice ga gn gc)).setCell ⟨w.heap.size, 3, none⟩ (.slice (some ⟨gs, 0, none⟩) 3 sc)) := Touch.setCell (S := fun x => x = w.heap.size) (Touch.setCell (S := fun x => x = w.heap.size) (Touch.setCell (S := fun x => x = w.heap.size) (Touch.setCell (S := fun x => x = w.heap.size) (Touch.refl _ _) rfl _) rfl _) rfl _) rfl _
      have PF : PlF (w.heap.size + 1) w11 ad N ss ga gn G (some ⟨gs, 0, none⟩) 3 (S.set 0 y) := PlF.of A g.ints.1 (fun b o e => by have := g.ints.2 b o e; omega) s.ints.1 (fun b o e => by have := s.ints.2 b o e; omega) (by omega) HN.out (by omega) (by omega) (by omega)
      refine bodyPost_ret (v := .agg #[.int .i64 cl, .slice ad N c, .slice ga gn gc, .slice (some ⟨gs, 0, none⟩) 3 sc]) (by simp [results, Tryd.results70, go_sem, e0, e1, e2, e3]) rfl ⟨cl, ad, N, c, ss, ga, gn, gc, G, (some ⟨gs, 0, none⟩), 3, sc, (S.set 0 y), q + 1 + 1 + 1, rfl, T.setOwn TS (by omega), rd.touch TS (by omega) (fun h0 b o e hs => by have := ha h0 b o e; omega), PF.touch TS (fun k hk => by omega), by omega, by omega⟩
    · go_simp
      refine (pick_any R a n cap bs (q + 1 + 1) 3 _ rd (by omega) (by omega) (by omega) (by omega)).mono ?_
      rintro e w9 ⟨j, j0, j1, rfl, t5, R5⟩
      obtain ⟨j, rfl⟩ := Int.eq_ofNat_of_zero_le j0
      have zz9 := t5.size
      clear rd
      replace A := A.touch t5 (fun k hk => by omega)
      replace g := g.touch t5 (fun k hk => by omega)
      replace s := s.touch t5 (fun k hk => by omega)
      replace cb := cb.touch t5 (by omega)
      replace q0 := q0.touch t5 (by omega)
      replace T := T.trans t5
      have rd := R5
      clear t5 R5 j0
      dsimp only
      refine hK.out _ _ ⟨cb.cell 3, fun _ => trivial⟩ ?_
      clear hK
      refine wpAnyE_one (i := 2) (by kernel_rfl) rfl (fun Kn hK => ?_)
      go_simp
      have al := (Below.refl w9.heap.size w9).alloc (Nat.le_refl _) (.cells #[.int .i64 1001, .int .i64 (-1000), .int .i64 1000] 3)
      have lb := Cel.new w9 [.int .i64 1001, .int .i64 (-1000), .int .i64 1000] 3
      have nl : w9.heap.size ≠ R := by omega
      replace A := A.below al
      replace g := g.below al
      replace s := s.below al
      replace cb := cb.below al
      replace q0 := q0.below al
      replace rd := rd.below al
      replace T := T.trans (Touch.of al)
      clear al
      obtain ⟨w10, hw10⟩ : ∃ W, W = w9.alloc (.cells #[.int .i64 1001, .int .i64 (-1000), .int .i64 1000] 3) := ⟨_, rfl⟩
      rw [← hw10]
      rw [← hw10] at A g s cb q0 rd T lb
      clear hw10
      obtain ⟨XL, hXL⟩ : ∃ x, x = w9.heap.size := ⟨_, rfl⟩
      rw [← hXL]
      rw [← hXL] at lb nl
      clear hXL
      refine hK.out _ _ ⟨cb.cell 3, fun _ => trivial⟩ ?_
      clear hK
      have hj : j < 3 := by omega
      have hj' : (j : Int) < 3 := by omega
      have hSS : (fun X : World => X.cell? ⟨TB, 3, none⟩ = some (.slice sa 3 sc)) w10 ∧ True := ⟨cb.cell 3, trivial⟩
      refine tkL (i := 5) rfl hSS ?_
      clear hSS
      have hc := lit_cell (xs := [1001, -1000, 1000]) lb (j := j) (by simp only [List.length_cons, List.length_nil]; omega)
      generalize ([1001, -1000, 1000] : List Int)[j]?.getD 0 = y at hc
      refine wpAnyE_one (i := 6) (by kernel_rfl) rfl (fun Kn hK => ?_)
      go_simp
      refine hK.out _ _ ⟨cb.cell 3, fun _ => trivial⟩ ?_
      clear hK
      clear hc lb
      obtain ⟨gs, rfl, y5, y6⟩ := s.some (by omega)
      have cs := s.o.cellAt 0 (by omega)
      have fs := s.o.frozenAt 0
      have hs3 := s.l
      rw [List.getElem?_map, List.getElem?_eq_getElem (by omega)] at cs
      have cs' : w10.cell? ⟨gs, 0, none⟩ = some (.int .i64 (S[0]'(by omega))) := cs
      generalize S[0]'(by omega) = y9 at cs'
      clear cs
      refine wpAnyE_one (i := 7) (by kernel_rfl) rfl (fun Kn hK => ?_)
      go_simp
      refine hK.out _ _ ⟨cb.cell 3, fun _ => trivial⟩ ?_
      clear hK
      refine wpAnyE_one (i := 8) (by kernel_rfl) rfl (fun Kn hK => ?_)
      go_simp
      clear cs' fs
      have s' := s.put 0 y
      have TT : Touch (fun x => x = gs) w10 (w10.setCell ⟨gs, 0, none⟩ (.int .i64 y)) := Touch.setCell (S := fun x => x = gs) (Touch.refl _ _) rfl _
      replace A := A.touch TT (fun k hk => by omega)
      replace g := g.touch TT (fun k hk => by omega)
      replace cb := cb.setOther (B' := gs) (by omega) 0 (.int .i64 y)
      replace q0 := q0.setOther (B' := gs) (by omega) 0 (.int .i64 y)
      replace rd := rd.setNew (B := gs) (by omega) (fun h0 b o e => by have := ha h0 b o e; omega) 0 (.int .i64 y)
      replace T := T.setOwn TT (by omega)
      clear TT
      clear s
      have s := s'
      clear s'
      refine hK.out _ _ ⟨cb.cell 3, fun _ => trivial⟩ ?_
      clear hK
      refine wpAnyE_done (by kernel_rfl) ?_ _
      obtain ⟨w11, hw11⟩ : ∃ W, W = w10.setCell ⟨gs, 0, none⟩ (.int .i64 y) := ⟨_, rfl⟩
      rw [← hw11]
      rw [← hw11] at A g s cb q0 rd T
      clear hw11
      have c0 := cb.cell 0
      have e0 := q0.cell 0
      have f0 := q0.free 0
      have c1 := cb.cell 1
      have e1 := q0.cell 1
      have f1 := q0.free 1
      have c2 := cb.cell 2
      have e2 := q0.cell 2
      have f2 := q0.free 2
      have c3 := cb.cell 3
      have e3 := q0.cell 3
      have f3 := q0.free 3
      have lq := q0.lt
      simp only [List.getElem?_cons_zero, List.getElem?_cons_succ] at c0 c1 c2 c3 e0 e1 e2 e3
      go_wp2
      have TS : Touch (fun x => x = w.heap.size) w11 ((((w11.setCell ⟨w.heap.size, 0, none⟩ (.int .i64 cl)).setCell ⟨w.heap.size, 1, none⟩ (.slice ad N c)).setCell ⟨w.heap.size, 2, none⟩ (.slice ga gn gc)).setCell ⟨w.heap.size, 3, none⟩ (.slice (some ⟨gs, 0, none⟩) 3 sc)) := Touch.setCell (S := fun x => x = w.heap.size) (Touch.setCell (S := fun x => x = w.heap.size) (Touch.setCell (S := fun x => x = w.heap.size) (Touch.setCell (S := fun x => x = w.heap.size) (Touch.refl _ _) rfl _) rfl _) rfl _) rfl _
      have PF : PlF (w.heap.size + 1) w11 ad N ss ga gn G (some ⟨gs, 0, none⟩) 3 (S.set 0 y) := PlF.of A g.ints.1 (fun b o e => by have := g.ints.2 b o e; omega) s.ints.1 (fun b o e => by have := s.ints.2 b o e; omega) (by omega) HN.out (by omega) (by omega) (by omega)
      refine bodyPost_ret (v := .agg #[.int .i64 cl, .slice ad N c, .slice ga gn gc, .slice (some ⟨gs, 0, none⟩) 3 sc]) (by simp [results, Tryd.results70, go_sem, e0, e1, e2, e3]) rfl ⟨cl, ad, N, c, ss, ga, gn, gc, G, (some ⟨gs, 0, none⟩), 3, sc, (S.set 0 y), q + 1 + 1 + 1, rfl, T.setOwn TS (by omega), rd.touch TS (by omega) (fun h0 b o e hs => by have := ha h0 b o e; omega), PF.touch TS (fun k hk => by omega), by omega, by omega⟩
  · have zb := T.size
    obtain ⟨s2, hsc⟩ := s.take2
    obtain ⟨gs, rfl, y5, y6⟩ := s.some (by omega)
    clear s
    have s := s2
    clear s2
    have cc := cb.cell 3
    have fc := cb.free 3
    have lc := cb.lt
    simp only [List.getElem?_cons_zero, List.getElem?_cons_succ] at cc
    have hsc' : (2 : Int) ≤ (sc : Int) := by omega
    go_upto_region 14 with fail
    clear cc fc lc
    have TT : Touch (fun x => x = TB) w7 (w7.setCell ⟨TB, 3, none⟩ (.slice (some ⟨gs, 0, none⟩) 2 sc)) := Touch.setCell (S := fun x => x = TB) (Touch.refl _ _) rfl _
    replace A := A.touch TT (fun k hk => by omega)
    replace g := g.touch TT (fun k hk => by omega)
    replace s := s.touch TT (fun k hk => by omega)
    replace cb := cb.set 3 (.slice (some ⟨gs, 0, none⟩) 2 sc)
    simp only [List.set_cons_succ, List.set_cons_zero] at cb
    replace q0 := q0.setOther (B' := TB) (by omega) 3 (.slice (some ⟨gs, 0, none⟩) 2 sc)
    replace rd := rd.setNew (B := TB) (by omega) (fun h0 b o e => by have := ha h0 b o e; omega) 3 (.slice (some ⟨gs, 0, none⟩) 2 sc)
    replace T := T.setOwn TT (by omega)
    clear TT
    obtain ⟨w8, hw8⟩ : ∃ W, W = w7.setCell ⟨TB, 3, none⟩ (.slice (some ⟨gs, 0, none⟩) 2 sc) := ⟨_, rfl⟩
    rw [← hw8]
    rw [← hw8] at A g s cb q0 rd T
    clear hw8
    have c0 := cb.cell 0
    have e0 := q0.cell 0
    have f0 := q0.free 0
    have c1 := cb.cell 1
    have e1 := q0.cell 1
    have f1 := q0.free 1
    have c2 := cb.cell 2
    have e2 := q0.cell 2
    have f2 := q0.free 2
    have c3 := cb.cell 3
    have e3 := q0.cell 3
    have f3 := q0.free 3
    have lq := q0.lt
    simp only [List.getElem?_cons_zero, List.getElem?_cons_succ] at c0 c1 c2 c3 e0 e1 e2 e3
    go_wp2
    have TS : Touch (fun x => x = w.heap.size) w8 ((((w8.setCell ⟨w.heap.size, 0, none⟩ (.int .i64 cl)).setCell ⟨w.heap.size, 1, none⟩ (.slice ad N c)).setCell ⟨w.heap.size, 2, none⟩ (.slice ga gn gc)).setCell ⟨w.heap.size, 3, none⟩ (.slice (some ⟨gs, 0, none⟩) 2 sc)) := Touch.setCell (S := fun x => x = w.heap.size) (Touch.setCell (S := fun x => x = w.heap.size) (Touch.setCell (S := fun x => x = w.heap.size) (Touch.setCell (S := fun x => x = w.heap.size) (Touch.refl _ _) rfl _) rfl _) rfl _) rfl _
    have PF : PlF (w.heap.size + 1) w8 ad N ss ga gn G (some ⟨gs, 0, none⟩) 2 (S.take 2) := PlF.of A g.ints.1 (fun b o e => by have := g.ints.2 b o e; omega) s.ints.1 (fun b o e => by have := s.ints.2 b o e; omega) (by omega) HN.out (by omega) (by omega) (by omega)
    refine bodyPost_ret (v := .agg #[.int .i64 cl, .slice ad N c, .slice ga gn gc, .slice (some ⟨gs, 0, none⟩) 2 sc]) (by simp [results, Tryd.results70, go_sem, e0, e1, e2, e3]) rfl ⟨cl, ad, N, c, ss, ga, gn, gc, G, (some ⟨gs, 0, none⟩), 2, sc, (S.take 2), q + 1 + 1, rfl, T.setOwn TS (by omega), rd.touch TS (by omega) (fun h0 b o e hs => by have := ha h0 b o e; omega), PF.touch TS (fun k hk => by omega), by omega, by omega⟩

end Go.Proofs.YtfkcfjkojfnfnaaDoor
