/-
  Lemmas that the claim's last text rests on.
-/
import Derived.Test.YtemcinobgdphnaaGreatQLQ
namespace Go.Proofs.YtemcinobgdphnaaGreat
open Go.RowKit Go.Deep
open Option.some renaming injEq → qA
open Addr.mk renaming injEq → qB
open World renaming size_alloc → qC
open List renaming setIfInBounds_toArray → qD, set_cons_zero → qE, set_cons_succ → qF, getElem_cons_zero → qG, getElem_cons_succ → qH, getElem?_cons_zero → qI, getElem?_cons_succ → qJ, getElem_toArray → qK
open Nat renaming le_refl → qL
set_option linter.unusedVariables false
set_option maxRecDepth 100000
set_option maxHeartbeats 25600000
theorem JTr.capk {wL W : World} {R TB : Nat} {a : Option Addr} {n cap : Nat} {bs : List Int} {q : Int} {bv v' : Value} {G : List Int} {g k c : Nat} (j : JTr wL R TB a n cap bs q bv v' (.slice (some ⟨g, 0, none⟩) k c) G W) : k <= c := by
 rcases j.o.2 with ⟨h, _⟩ | ⟨g', cap', cur, e, _, _, hl, _⟩
 ·cases h
 simp only [Value.slice.injEq, qA, qB, and_true] at e;obtain ⟨_, rfl, rfl⟩ := e
 exact hl
theorem treaty_g (R : Nat) (a : Option Addr) (n cap : Nat) (bs : List Int) (p N : Int) {w : World} (hR : Rd w R a n cap bs p) (hp : 0 <= p) (hp1 : p <= 8000000) (hN : 1 <= N) (hN1 : N <= 1000) (ha : 0 < n -> ∀ b o, a = some ⟨b, o, none⟩ -> b < w.heap.size) :
  Calls Tryz.prog 41 #[.pointer (some ⟨R, 0, none⟩), .int .i64 N] w fun e w' => ∃ ba bn bc ga gn gc B G q, e = .returned (treV ba bn bc ga gn gc) /\ TrN w w' R a n cap bs p q ba bn B ga gn G /\ gn <= gc := by
 have hRl := hR.c.lt;have rb := Cel.new w [.slice none 0 0, .slice none 0 0] 26;have B0 := (Below.refl w.heap.size w).alloc (qL _) (.cells #[.slice none 0 0, .slice none 0 0] 26);obtain ⟨i0, hi, hz0, hz1, hz2⟩ := info_parts Tryz.infoInt
 go_enter Tryz.func41, Tryz.ntmps41
 go_wp2_with fail
 refine (vals_gen R a n cap bs p 99 (hR.below B0) (by omega) (by omega) (by omega) (by omega) (hR.below B0).ha).mono ?_;rintro e w1 ⟨ba, bn, bc, B, q1, rfl, d1⟩;have u0 := d1.q0;have u1 := d1.q1;have b4 := d1.h4;have z3 := d1.t.size;have lb0 := d1.lo;rw [qC] at z3 lb0;have al := (Below.refl w1.heap.size w1).alloc (qL _) (.cells #[.slice ba bn bc, .slice none 0 0] 26);have rb1 := (rb.touch d1.t (by omega)).below al;have bI := d1.i.below al;have r1 := d1.r.below al;have cb := Cel.new w1 [.slice ba bn bc, .slice none 0 0] 26;have tw1 := ((Touch.of (S := fun x => x = R) B0).trans d1.t).trans (Touch.of al);have lb1 := d1.hi;obtain ⟨TB, hTB⟩ : ∃ x, x = w1.heap.size := ⟨_, rfl⟩
 obtain ⟨W2, hW2⟩ : ∃ W, W = w1.alloc (.cells #[.slice ba bn bc, .slice none 0 0] 26) := ⟨_, rfl⟩
 have hTB1 : w.heap.size < TB := by omega
 have cbl : TB < W2.heap.size := by rw [hW2, hTB, qC]; omega
 rw [<- hW2] at rb1 bI r1 cb tw1;rw [<- hTB] at cb lb1
 go_wp2_with fail
 rw [<- hW2, <- hTB];clear hTB hW2 hR rb B0 d1 al;refine (pick_any R a n cap bs q1 3 r1).mono ?_;rintro e wL ⟨r, r0, r3, rfl, t3, R3⟩;obtain ⟨rk, rfl⟩ := Int.eq_ofNat_of_zero_le r0;have hRT : R < TB := by omega
 have hRt : TB ≠ R := by omega
 have rbL := rb1.touch t3 (by omega);have bIL := bI.off t3 (fun b o e hs => by have := lb0 b o e; omega);have cbL := cb.touch t3 hRt;have tw := tw1.trans t3;have wLs := t3.size
 have jL : JTr wL R TB a n cap bs (q1 + 1) (.slice ba bn bc) (.slice none 0 0) (.slice none 0 0) [] wL :=
  ⟨Touch.refl _ _, R3, World.ownsRow_nil _ _ _ _, cbL, by omega, by omega, hRt, fun h0 b o e => by have := ha h0 b o e; exact ⟨by omega, by omega⟩, fun i => by simp⟩
 have hb := bIL;have lb' : ∀ b o, ba = some ⟨b, o, none⟩ -> w.heap.size <= b /\ b ≠ R := fun b o e => by have := lb0 b o e; exact ⟨by omega, by omega⟩
 have lbn : ∀ b o, ba = some ⟨b, o, none⟩ -> w.heap.size < b := fun b o e => by have := lb0 b o e; omega
 clear rb1 bI r1 cb tw1 t3 R3 cbL bIL r0;have HBX : ∀ b o, ba = some ⟨b, o, none⟩ -> b ≠ TB := fun b o e => by have := lb1 b o e; omega
 have lbu : ∀ b o, ba = some ⟨b, o, none⟩ -> b < TB := lb1;clear lb1
 go_wp2_with fail
 go_loopw [6] (fun i wr => ∃ (k l : Nat) (v : Value) (G : List Int) (q : Int) (z : Nat), k + l = rk + 1 /\ z = 0 /\ i = .int .i64 l /\ G.length = k /\ JTr wL R TB a n cap bs q (.slice ba bn bc) v v G wr /\ q1 + 1 <= q /\ q <= q1 + 1 + k) (fun i _ => (intOf i).toNat)
 case atStart => exact ⟨0, rk + 1, _, [], q1 + 1, 0, by omega, rfl, by go_num, rfl, jL, by omega, by omega⟩
 case round =>
  clear jL;obtain ⟨k, l, v, G, q, _, hkl, _, rfl, hG, j, hq0, hq1⟩ := hrel;have HG : Hid (G.length = k) := hG;clear hG
  by_cases hl : 0 < l
  ·have hl' : (0 : Int) < (l : Int) := by omega
   go_upto_region 5 with fail
   refine wp_region_ends (fun _ => True) (fun X => X.cell? ⟨TB, 1, none⟩ = some v) 9 (by kernel_rfl) ?_;have sd := j.below ((Below.refl _ _).drew);obtain ⟨V0, hV0⟩ : ∃ V, V = wr.drew := ⟨_, rfl⟩
   rw [<- hV0] at sd ⊢;clear hV0 j;have hSS : True /\ (fun X : World => X.cell? ⟨TB, 1, none⟩ = some v) V0 := ⟨trivial, sd.cb.cell 1⟩
   refine tkl 0 rfl hSS ?_;refine tkM (i := 1) rfl rfl hSS ?_;refine tkl 3 rfl hSS ?_;clear hSS;refine wpAnyE_two (i := 2) (j := 4) (by kernel_rfl) rfl rfl (fun Kn hK => ?_) (fun Kn hK => ?_)
   ·go_simp;have al := (Below.refl V0.heap.size V0).alloc (qL _) (.cells #[.int .i64 0, .int .i64 3, .int .i64 10, .int .i64 30, .int .i64 50] 3);have lb := Cel.new V0 [.int .i64 0, .int .i64 3, .int .i64 10, .int .i64 30, .int .i64 50] 3;have nl : V0.heap.size ≠ R := by have h1 := sd.lR; have h2 := sd.t.size; omega
    have sa := sd.below al;clear al;refine hK.out _ _ ⟨trivial, fun _ => sa.cb.cell 1⟩ ?_;clear hK;refine wpAnyE_one (i := 4) (by kernel_rfl) rfl (fun Kn hK => ?_);go_simp;refine (pick_any R a n cap bs _ 5 sa.r).mono ?_;rintro e w5 ⟨rj, r0, r1, rfl, t5, R5⟩;obtain ⟨j, rfl⟩ := Int.eq_ofNat_of_zero_le r0;have hj : j < 5 := by omega
    have hj' : (j : Int) < 5 := by omega
    clear r0 r1;have sb := sa.pick t5 R5;replace lb := lb.touch t5 nl;clear t5 R5 sa sd;dsimp only;refine hK.out _ _ ⟨trivial, fun _ => sb.cb.cell 1⟩ ?_;clear hK;have hSS : True /\ (fun X : World => X.cell? ⟨TB, 1, none⟩ = some v) w5 := ⟨trivial, sb.cb.cell 1⟩
    refine tkl 5 rfl hSS ?_;clear hSS;have hc := lit_cell (xs := [0, 3, 10, 30, 50]) lb hj;have hy := litT_5 j hj;generalize ([0, 3, 10, 30, 50] : List Int)[j]?.getD 0 = y at hc hy;refine wpAnyE_one (i := 6) (by kernel_rfl) rfl (fun Kn hK => ?_);go_simp;refine hK.out _ _ ⟨trivial, fun _ => sb.cb.cell 1⟩ ?_;clear hK;clear hc lb;obtain ⟨V3, hV3⟩ : ∃ V, V = w5 := ⟨_, rfl⟩
    rw [<- hV3] at sb;rw [<- hV3];clear hV3;refine wpAnyE_one (i := 7) (by kernel_rfl) rfl (fun Kn hK => ?_);go_simp;have al := (Below.refl V3.heap.size V3).alloc (qL _) (.cells #[.int .i64 y] 3);have s7 := sb.below al;refine hK.out _ _ ⟨trivial, fun _ => s7.cb.cell 1⟩ ?_;clear hK;have hsz := s7.t.size;clear al;refine wpAnyE_one (i := 8) (by kernel_rfl) rfl (fun Kn hK => ?_);rw [if_pos (by rfl)];refine wp_append_lies _ (.tmp 18) (.tmp 24) 24 rfl wL.heap.size 3 i0 _ 1 8 Tryz.underlying24 hi hz0 hz1 hz2 rfl (by omega) v k (G.map (Value.int .i64)) (by rfl) (by have h := s7.o; rw [HG.out] at h; exact h) ⟨V3.heap.size, 0, none⟩ 1 1 [.int .i64 y] (by rfl) (by rfl) (World.news_of_block (cs := #[.int .i64 y]) (t := 3) (fr := (0, 0)) (heap_alloc_new V3 _)) (by simp [Value.oneCell']) (by omega) (by unfold maxLen; omega) (by omega) hsz (V3.heap.size + 1) (by rw [qC]) ?_;intro g c w8 hown hgrow _ _;have s8 := s7.app HG.out hy.1 hy.2 hown hgrow;clear hown hgrow;refine hK.out _ _ ⟨trivial, fun _ => s8.cb.cell 1⟩ ?_;clear hK;refine wpAnyE_one (i := 9) (by kernel_rfl) rfl (fun Kn hK => ?_);go_simp;refine hK.out _ _ ⟨trivial, fun _ => s8.cb.cell 1⟩ ?_;clear hK;have f1 := s8.cb.free 1;have c1 := s8.cb.cell 1;have lt1 := s8.cb.lt;simp only [qI, qJ] at c1;have s9 := s8.store;refine wpAnyE_one (i := 10) (by kernel_rfl) rfl (fun Kn hK => ?_);go_simp;refine hK.out _ _ ⟨trivial, fun h => absurd h (by decide)⟩ ?_;clear hK;refine wod ?_ _
    clear f1 c1 s8 s7
    go_wp2
    go_roundw
    case rel => exact ⟨k + 1, l - 1, _, _, _, _, by omega, by omega, by go_num, by show _ = _; rw [List.length_append, HG.out]; rfl, s9, by omega, by omega⟩
    case measure => simp [intOf]; omega
   go_simp;refine (pick_any R a n cap bs _ 5 sd.r).mono ?_;rintro e w5 ⟨rj, r0, r1, rfl, t5, R5⟩;obtain ⟨j, rfl⟩ := Int.eq_ofNat_of_zero_le r0;have hj : j < 5 := by omega
   have hj' : (j : Int) < 5 := by omega
   clear r0 r1;have sa := sd.pick t5 R5;clear t5 R5 sd;dsimp only;refine hK.out _ _ ⟨trivial, fun _ => sa.cb.cell 1⟩ ?_;clear hK;refine wpAnyE_one (i := 2) (by kernel_rfl) rfl (fun Kn hK => ?_);go_simp;have al := (Below.refl w5.heap.size w5).alloc (qL _) (.cells #[.int .i64 0, .int .i64 3, .int .i64 10, .int .i64 30, .int .i64 50] 3);have lb := Cel.new w5 [.int .i64 0, .int .i64 3, .int .i64 10, .int .i64 30, .int .i64 50] 3;have nl : w5.heap.size ≠ R := by have h1 := sa.lR; have h2 := sa.t.size; omega
   have sb := sa.below al;clear al;refine hK.out _ _ ⟨trivial, fun _ => sb.cb.cell 1⟩ ?_;clear hK;clear sa;have hSS : True /\ (fun X : World => X.cell? ⟨TB, 1, none⟩ = some v) (w5.alloc (.cells #[.int .i64 0, .int .i64 3, .int .i64 10, .int .i64 30, .int .i64 50] 3)) := ⟨trivial, sb.cb.cell 1⟩
   refine tkl 5 rfl hSS ?_;clear hSS;have hc := lit_cell (xs := [0, 3, 10, 30, 50]) lb hj;have hy := litT_5 j hj;generalize ([0, 3, 10, 30, 50] : List Int)[j]?.getD 0 = y at hc hy;refine wpAnyE_one (i := 6) (by kernel_rfl) rfl (fun Kn hK => ?_);go_simp;refine hK.out _ _ ⟨trivial, fun _ => sb.cb.cell 1⟩ ?_;clear hK;clear hc lb;obtain ⟨V3, hV3⟩ : ∃ V, V = (w5.alloc (.cells #[.int .i64 0, .int .i64 3, .int .i64 10, .int .i64 30, .int .i64 50] 3)) := ⟨_, rfl⟩
   rw [<- hV3] at sb;rw [<- hV3];clear hV3;refine wpAnyE_one (i := 7) (by kernel_rfl) rfl (fun Kn hK => ?_);go_simp;have al := (Below.refl V3.heap.size V3).alloc (qL _) (.cells #[.int .i64 y] 3);have s7 := sb.below al;refine hK.out _ _ ⟨trivial, fun _ => s7.cb.cell 1⟩ ?_;clear hK;have hsz := s7.t.size;clear al;refine wpAnyE_one (i := 8) (by kernel_rfl) rfl (fun Kn hK => ?_);rw [if_pos (by rfl)];refine wp_append_lies _ (.tmp 18) (.tmp 24) 24 rfl wL.heap.size 3 i0 _ 1 8 Tryz.underlying24 hi hz0 hz1 hz2 rfl (by omega) v k (G.map (Value.int .i64)) (by rfl) (by have h := s7.o; rw [HG.out] at h; exact h) ⟨V3.heap.size, 0, none⟩ 1 1 [.int .i64 y] (by rfl) (by rfl) (World.news_of_block (cs := #[.int .i64 y]) (t := 3) (fr := (0, 0)) (heap_alloc_new V3 _)) (by simp [Value.oneCell']) (by omega) (by unfold maxLen; omega) (by omega) hsz (V3.heap.size + 1) (by rw [qC]) ?_;intro g c w8 hown hgrow _ _;have s8 := s7.app HG.out hy.1 hy.2 hown hgrow;clear hown hgrow;refine hK.out _ _ ⟨trivial, fun _ => s8.cb.cell 1⟩ ?_;clear hK;refine wpAnyE_one (i := 9) (by kernel_rfl) rfl (fun Kn hK => ?_);go_simp;refine hK.out _ _ ⟨trivial, fun _ => s8.cb.cell 1⟩ ?_;clear hK;have f1 := s8.cb.free 1;have c1 := s8.cb.cell 1;have lt1 := s8.cb.lt;simp only [qI, qJ] at c1;have s9 := s8.store;refine wpAnyE_one (i := 10) (by kernel_rfl) rfl (fun Kn hK => ?_);go_simp;refine hK.out _ _ ⟨trivial, fun h => absurd h (by decide)⟩ ?_;clear hK;refine wod ?_ _
   clear f1 c1 s8 s7
   go_wp2
   go_roundw
   case rel => exact ⟨k + 1, l - 1, _, _, _, _, by omega, by omega, by go_num, by show _ = _; rw [List.length_append, HG.out]; rfl, s9, by omega, by omega⟩
   case measure => simp [intOf]; omega
  have hl' : ¬ (0 : Int) < (l : Int) := by omega
  have hl0 : l = 0 := by omega
  have hk1 : 0 < k := by omega
  have hk3 : k <= 3 := by omega
  go_wp2_with fail
  refine (pick_any R a n cap bs q N j.r).mono ?_;rintro e w6 ⟨u, x0, x1, rfl, t6, R6⟩;replace j := j.pick t6 R6;clear t6 R6;obtain ⟨g, c, rfl, hg, hgI, hgf, hgl⟩ := j.ints (by rw [HG.out]; omega);rw [HG.out] at hgI j;have hcap : k <= c := j.capk
  by_cases hu : 0 < u
  ·have hbI := hb.off j.t (fun b o e h => h.elim (fun h => (lb' b o e).2 h) (fun h => HBX b o e h));have rb9 := rbL.touch j.t (by omega);have tw9 : Touch (fun x => x = R) w w6 := ⟨j.t.os.trans tw.os, j.t.tape.trans tw.tape, j.t.output.trans tw.output, Nat.le_trans tw.size j.t.size, fun x hx hs => (j.t.block x (Nat.lt_of_lt_of_le hx tw.size) (by omega)).trans (tw.block x hx hs)⟩
   have hN : TrN w w6 R a n cap bs p _ ba bn _ (some ⟨g, 0, none⟩) k _ := ⟨tw9, j.r, hbI, hgI.ints, by omega, by omega, fun b o e => (lb' b o e).1, fun b o e => by simp only [qA, qB] at e; omega, j.gB, by omega, by omega, ⟨_, hgI, fun h0 => ⟨by omega, fun b o e => by have := lbu b o e; omega⟩⟩⟩
   have d0 := j.cb.cell 0;have d1 := j.cb.cell 1;have e0 := rb9.cell 0;have e1 := rb9.cell 1;have f0 := rb9.free 0;have f1 := rb9.free 1;have ll := rb9.lt;simp only [qI, qJ] at d0 d1 e0 e1
   go_wp2
   have hZ := (hN.set (X := w.heap.size) (qL _) (fun b o e => by have := hN.lb b o e; have := lbn b o e; omega) (fun b o e => by simp only [qA, qB] at e; omega) hRl ha 0 (.slice ba bn bc)).set (X := w.heap.size) (qL _) (fun b o e => by have := lbn b o e; omega) (fun b o e => by simp only [qA, qB] at e; omega) hRl ha 1 (.slice (some ⟨g, 0, none⟩) k c);refine bodyPost_ret (v := treV ba bn bc (some ⟨g, 0, none⟩) k c) (by simp [results, Tryz.results41, go_sem, e0, e1]) rfl ⟨ba, bn, bc, (some ⟨g, 0, none⟩), k, c, _, _, _, rfl, hZ, by omega⟩
  obtain rfl : u = 0 := by omega
  clear hgI hgf
  go_wp2_with fail
  refine (pick_any R a n cap bs (q + 1) 3 j.r).mono ?_;rintro e w7 ⟨s, y0, y1, rfl, t7, R7⟩;replace j := j.pick t7 R7;have z7 := t7.size;clear t7 R7 x0 x1 hu
  rcases (show s = 0 \/ s = 1 \/ s = 2 from by omega) with rfl | rfl | rfl
  ·go_wp2_with fail
   refine (vals_gen R a n cap bs (q + 1 + 1) 1 j.r (by omega) (by omega) (by omega) (by omega) j.r.ha).mono ?_;rintro e w8 ⟨ba2, bn2, bc2, B2, q8, rfl, d8⟩;have v0 := d8.q0;have v1 := d8.q1;have b42 := d8.h4;have hsz := j.t.size;have lT := j.lT;replace j := j.pick d8.t d8.r;have lb2 := d8.lo;have i8 := d8.i;clear d8;obtain ⟨g2, c2, e2, hg2, hI2, hf2, hl2⟩ := j.ints (by rw [HG.out]; omega);simp only [Value.slice.injEq, qA, qB, and_true] at e2;obtain ⟨rfl, hkk, rfl⟩ := e2;clear hkk;rw [HG.out] at hI2;have c0 := j.cb.cell 0;have f0' := j.cb.free 0;have ltb := j.cb.lt;simp only [qI] at c0;have T9 : Touch (fun x => x = R \/ x = TB) wL (w8.setCell ⟨TB, 0, none⟩ (.slice ba2 bn2 bc2)) := Touch.setCell (S := fun x => x = R \/ x = TB) j.t (Or.inr rfl) _;have r9 := j.r.setNew (B := TB) (fun e => hRt e) (fun h0 b o e => (j.lb h0 b o e).2) 0 (.slice ba2 bn2 bc2);have cb9 := j.cb.set 0 (.slice ba2 bn2 bc2);have IS9 := hI2.setOther (X := TB) (fun _ e => by omega) 0 (.slice ba2 bn2 bc2);have i9 := i8.setFar (B := TB) (fun b o e => by have := lb2 b o e; omega) 0 (.slice ba2 bn2 bc2);have gB9 := j.gB;replace lbn : ∀ b o, ba2 = some ⟨b, o, none⟩ -> w.heap.size < b := fun b o e => by have := lb2 b o e; omega
   clear j hI2 hf2 i8 hb lb' HBX
   go_upto_region 14 with fail
   obtain ⟨W9, hW9⟩ : ∃ V, V = w8.setCell ⟨TB, 0, none⟩ (.slice ba2 bn2 bc2) := ⟨_, rfl⟩
   rw [<- hW9] at T9 r9 cb9 IS9 i9 ⊢;clear hW9 c0 f0' ltb;have rb9 := rbL.touch T9 (by omega);have tw9 : Touch (fun x => x = R) w W9 := ⟨T9.os.trans tw.os, T9.tape.trans tw.tape, T9.output.trans tw.output, Nat.le_trans tw.size T9.size, fun x hx hs => (T9.block x (Nat.lt_of_lt_of_le hx tw.size) (by omega)).trans (tw.block x hx hs)⟩
   have hN : TrN w W9 R a n cap bs p _ ba2 bn2 _ (some ⟨g, 0, none⟩) k _ := ⟨tw9, r9, i9, IS9.ints, by omega, by omega, fun b o e => by have := lbn b o e; omega, fun b o e => by simp only [qA, qB] at e; omega, gB9, by omega, by omega, ⟨_, IS9, fun h0 => ⟨by omega, fun b o e => by have := lb2 b o e; omega⟩⟩⟩
   have d0 := cb9.cell 0;have d1 := cb9.cell 1;have e0 := rb9.cell 0;have e1 := rb9.cell 1;have f0 := rb9.free 0;have f1 := rb9.free 1;have ll := rb9.lt;simp only [qI, qJ] at d0 d1 e0 e1
   go_wp2
   have hZ := (hN.set (X := w.heap.size) (qL _) (fun b o e => by have := hN.lb b o e; have := lbn b o e; omega) (fun b o e => by simp only [qA, qB] at e; omega) hRl ha 0 (.slice ba2 bn2 bc2)).set (X := w.heap.size) (qL _) (fun b o e => by have := lbn b o e; omega) (fun b o e => by simp only [qA, qB] at e; omega) hRl ha 1 (.slice (some ⟨g, 0, none⟩) k c);refine bodyPost_ret (v := treV ba2 bn2 bc2 (some ⟨g, 0, none⟩) k c) (by simp [results, Tryz.results41, go_sem, e0, e1]) rfl ⟨ba2, bn2, bc2, (some ⟨g, 0, none⟩), k, c, _, _, _, rfl, hZ, by omega⟩
  ·have al := (Below.refl w7.heap.size w7).alloc (qL _) (.cells #[] 3);have hsz := j.t.size;have lT := j.lT;replace j := j.below al;have c1 := j.cb.cell 1;have f1' := j.cb.free 1;have ltb := j.cb.lt;simp only [qI, qJ] at c1;have T9 : Touch (fun x => x = R \/ x = TB) wL ((w7.alloc (.cells #[] 3)).setCell ⟨TB, 1, none⟩ (.slice (some ⟨w7.heap.size, 0, none⟩) 0 0)) := Touch.setCell (S := fun x => x = R \/ x = TB) j.t (Or.inr rfl) _;have r9 := j.r.setNew (B := TB) (fun e => hRt e) (fun h0 b o e => (j.lb h0 b o e).2) 1 (.slice (some ⟨w7.heap.size, 0, none⟩) 0 0);have cb9 := j.cb.set 1 (.slice (some ⟨w7.heap.size, 0, none⟩) 0 0);have IS9 : OwnX ((w7.alloc (.cells #[] 3)).setCell ⟨TB, 1, none⟩ (.slice (some ⟨w7.heap.size, 0, none⟩) 0 0)) (some ⟨w7.heap.size, 0, none⟩) w7.heap.size 0 [] := OwnX.nil _ _ _;have gB9 : bnd 51 [] := fun i => by simp
   have hb9 := hb.off T9 (fun b o e h => h.elim (fun h => (lb' b o e).2 h) (fun h => HBX b o e h));clear j al hb
   go_upto_region 14 with fail
   obtain ⟨W9, hW9⟩ : ∃ V, V = (w7.alloc (.cells #[] 3)).setCell ⟨TB, 1, none⟩ (.slice (some ⟨w7.heap.size, 0, none⟩) 0 0) := ⟨_, rfl⟩
   rw [<- hW9] at T9 r9 cb9 IS9 hb9 ⊢;clear hW9 c1 f1' ltb;have rb9 := rbL.touch T9 (by omega);have tw9 : Touch (fun x => x = R) w W9 := ⟨T9.os.trans tw.os, T9.tape.trans tw.tape, T9.output.trans tw.output, Nat.le_trans tw.size T9.size, fun x hx hs => (T9.block x (Nat.lt_of_lt_of_le hx tw.size) (by omega)).trans (tw.block x hx hs)⟩
   have hN : TrN w W9 R a n cap bs p _ ba bn _ (some ⟨w7.heap.size, 0, none⟩) 0 _ := ⟨tw9, r9, hb9, IS9.ints, by omega, by omega, fun b o e => (lb' b o e).1, fun b o e => by simp only [qA, qB] at e; omega, gB9, by omega, by omega, ⟨_, IS9, fun h0 => ⟨by omega, fun b o e => by have := lbu b o e; omega⟩⟩⟩
   have d0 := cb9.cell 0;have d1 := cb9.cell 1;have e0 := rb9.cell 0;have e1 := rb9.cell 1;have f0 := rb9.free 0;have f1 := rb9.free 1;have ll := rb9.lt;simp only [qI, qJ] at d0 d1 e0 e1
   go_wp2
   have hZ := (hN.set (X := w.heap.size) (qL _) (fun b o e => by have := hN.lb b o e; have := lbn b o e; omega) (fun b o e => by simp only [qA, qB] at e; omega) hRl ha 0 (.slice ba bn bc)).set (X := w.heap.size) (qL _) (fun b o e => by have := lbn b o e; omega) (fun b o e => by simp only [qA, qB] at e; omega) hRl ha 1 (.slice (some ⟨w7.heap.size, 0, none⟩) 0 0);refine bodyPost_ret (v := treV ba bn bc (some ⟨w7.heap.size, 0, none⟩) 0 0) (by simp [results, Tryz.results41, go_sem, e0, e1]) rfl ⟨ba, bn, bc, (some ⟨w7.heap.size, 0, none⟩), 0, 0, _, _, _, rfl, hZ, by omega⟩
  go_upto_region 9 with fail
  refine wp_region_ends (fun X => X.cell? ⟨TB, 1, none⟩ = some (.slice (some ⟨g, 0, none⟩) k c)) (fun _ => True) 8 (by kernel_rfl) ?_;have sd := j.below ((Below.refl _ _).drew);obtain ⟨V0, hV0⟩ : ∃ V, V = w7.drew := ⟨_, rfl⟩
  rw [<- hV0] at sd ⊢;clear hV0 j;have hSS : (fun X : World => X.cell? ⟨TB, 1, none⟩ = some (.slice (some ⟨g, 0, none⟩) k c)) V0 /\ True := ⟨sd.cb.cell 1, trivial⟩
  refine tkl 0 rfl hSS ?_;refine tkl 1 rfl hSS ?_;refine tkl 3 rfl hSS ?_;clear hSS;refine wpAnyE_two (i := 2) (j := 4) (by kernel_rfl) rfl rfl (fun Kn hK => ?_) (fun Kn hK => ?_)
  ·go_simp;have al := (Below.refl V0.heap.size V0).alloc (qL _) (.cells #[.int .i64 (-1), .int .i64 51] 3);have lb := Cel.new V0 [.int .i64 (-1), .int .i64 51] 3;have nl : V0.heap.size ≠ R := by have h1 := sd.lR; have h2 := sd.t.size; omega
   have sa := sd.below al;clear al;refine kk0 hK (sa.cb.cell 1) ?_;clear hK;refine wpAnyE_one (i := 4) (by kernel_rfl) rfl (fun Kn hK => ?_);go_simp;refine (pick_any R a n cap bs _ 2 sa.r).mono ?_;rintro e w8 ⟨ri2, r0, r1, rfl, t5, R5⟩;obtain ⟨i2, rfl⟩ := Int.eq_ofNat_of_zero_le r0;have hi2 : i2 < 2 := by omega
   have hi2' : (i2 : Int) < 2 := by omega
   clear r0 r1;have sb := sa.pick t5 R5;replace lb := lb.touch t5 nl;clear t5 R5 sa sd;dsimp only;refine kk0 hK (sb.cb.cell 1) ?_;clear hK;have hSS : (fun X : World => X.cell? ⟨TB, 1, none⟩ = some (.slice (some ⟨g, 0, none⟩) k c)) w8 /\ True := ⟨sb.cb.cell 1, trivial⟩
   refine tkl 5 rfl hSS ?_;have hc := lit_cell (xs := [-1, 51]) lb hi2;have hy := litT_2 i2 hi2;generalize ([-1, 51] : List Int)[i2]?.getD 0 = y at hc hy;refine wpAnyE_one (i := 6) (by kernel_rfl) rfl (fun Kn hK => ?_);go_simp;refine kk0 hK (sb.cb.cell 1) ?_;clear hK;clear hc lb;refine tkl 7 rfl hSS ?_;clear hSS;obtain ⟨g2, c2, e2, hg2, hI2, hf2, hl2⟩ := sb.ints (by rw [HG.out]; omega);simp only [Value.slice.injEq, qA, qB, and_true] at e2;obtain ⟨rfl, hkk, rfl⟩ := e2;clear hkk;rw [HG.out] at hI2;have kc : (w8).cell? ⟨g, 0, none⟩ = some (.int .i64 (G[0]?.getD 0)) := (hI2.pos (by omega)).2.1 0 (by omega);have kf := hf2 0;have lTB := sb.lT;have nTB : g ≠ TB := by omega
   have cb9 := sb.cb.setOther (B' := g) (fun e => nTB e.symm) 0 (.int .i64 y);have IS9 := hI2.set (i := 0) (by omega) y;refine wpAnyE_one (i := 8) (by kernel_rfl) rfl (fun Kn hK => ?_);go_simp;refine kk0 hK (cb9.cell 1) ?_;clear hK;refine wod ?_ _;clear kc kf;have T9 : Touch (fun x => x = R \/ x = TB) wL ((w8).setCell ⟨g, 0, none⟩ (.int .i64 y)) := sb.t.setNewF hg2 0 _;have r9 := sb.r.setNew (B := g) (by omega) (fun h0 b o e => by have := (sb.lb h0 b o e).1; omega) 0 (.int .i64 y);have gB9 := sb.gB.set 0 hy.1 hy.2;clear sb hI2 hf2;obtain ⟨W9, hW9⟩ : ∃ V, V = (w8).setCell ⟨g, 0, none⟩ (.int .i64 y) := ⟨_, rfl⟩
   rw [<- hW9] at cb9 IS9 T9 r9;rw [<- hW9];clear hW9;have rb9 := rbL.touch T9 (by omega);have tw9 : Touch (fun x => x = R) w W9 := ⟨T9.os.trans tw.os, T9.tape.trans tw.tape, T9.output.trans tw.output, Nat.le_trans tw.size T9.size, fun x hx hs => (T9.block x (Nat.lt_of_lt_of_le hx tw.size) (by omega)).trans (tw.block x hx hs)⟩
   have hN : TrN w W9 R a n cap bs p _ ba bn _ (some ⟨g, 0, none⟩) k _ := ⟨tw9, r9, hb.off T9 (fun b o e h => h.elim (fun h => (lb' b o e).2 h) (fun h => HBX b o e h)), IS9.ints, by omega, by omega, fun b o e => (lb' b o e).1, fun b o e => by simp only [qA, qB] at e; omega, gB9, by omega, by omega, ⟨_, IS9, fun h0 => ⟨by omega, fun b o e => by have := lbu b o e; omega⟩⟩⟩
   have d0 := cb9.cell 0;have d1 := cb9.cell 1;have e0 := rb9.cell 0;have e1 := rb9.cell 1;have f0 := rb9.free 0;have f1 := rb9.free 1;have ll := rb9.lt;simp only [qI, qJ] at d0 d1 e0 e1
   go_wp2
   have hZ := (hN.set (X := w.heap.size) (qL _) (fun b o e => by have := hN.lb b o e; have := lbn b o e; omega) (fun b o e => by simp only [qA, qB] at e; omega) hRl ha 0 (.slice ba bn bc)).set (X := w.heap.size) (qL _) (fun b o e => by have := lbn b o e; omega) (fun b o e => by simp only [qA, qB] at e; omega) hRl ha 1 (.slice (some ⟨g, 0, none⟩) k c);refine bodyPost_ret (v := treV ba bn bc (some ⟨g, 0, none⟩) k c) (by simp [results, Tryz.results41, go_sem, e0, e1]) rfl ⟨ba, bn, bc, (some ⟨g, 0, none⟩), k, c, _, _, _, rfl, hZ, by omega⟩
  go_simp;refine (pick_any R a n cap bs _ 2 sd.r).mono ?_;rintro e w8 ⟨ri2, r0, r1, rfl, t5, R5⟩;obtain ⟨i2, rfl⟩ := Int.eq_ofNat_of_zero_le r0;have hi2 : i2 < 2 := by omega
  have hi2' : (i2 : Int) < 2 := by omega
  clear r0 r1;have sa := sd.pick t5 R5;clear t5 R5 sd;dsimp only;refine kk0 hK (sa.cb.cell 1) ?_;clear hK;refine wpAnyE_one (i := 2) (by kernel_rfl) rfl (fun Kn hK => ?_);go_simp;have al := (Below.refl w8.heap.size w8).alloc (qL _) (.cells #[.int .i64 (-1), .int .i64 51] 3);have lb := Cel.new w8 [.int .i64 (-1), .int .i64 51] 3;have nl : w8.heap.size ≠ R := by have h1 := sa.lR; have h2 := sa.t.size; omega
  have sb := sa.below al;clear al;refine kk0 hK (sb.cb.cell 1) ?_;clear hK;clear sa;have hSS : (fun X : World => X.cell? ⟨TB, 1, none⟩ = some (.slice (some ⟨g, 0, none⟩) k c)) (w8.alloc (.cells #[.int .i64 (-1), .int .i64 51] 3)) /\ True := ⟨sb.cb.cell 1, trivial⟩
  refine tkl 5 rfl hSS ?_;have hc := lit_cell (xs := [-1, 51]) lb hi2;have hy := litT_2 i2 hi2;generalize ([-1, 51] : List Int)[i2]?.getD 0 = y at hc hy;refine wpAnyE_one (i := 6) (by kernel_rfl) rfl (fun Kn hK => ?_);go_simp;refine kk0 hK (sb.cb.cell 1) ?_;clear hK;clear hc lb;refine tkl 7 rfl hSS ?_;clear hSS;obtain ⟨g2, c2, e2, hg2, hI2, hf2, hl2⟩ := sb.ints (by rw [HG.out]; omega);simp only [Value.slice.injEq, qA, qB, and_true] at e2;obtain ⟨rfl, hkk, rfl⟩ := e2;clear hkk;rw [HG.out] at hI2;have kc : ((w8.alloc (.cells #[.int .i64 (-1), .int .i64 51] 3))).cell? ⟨g, 0, none⟩ = some (.int .i64 (G[0]?.getD 0)) := (hI2.pos (by omega)).2.1 0 (by omega);have kf := hf2 0;have lTB := sb.lT;have nTB : g ≠ TB := by omega
  have cb9 := sb.cb.setOther (B' := g) (fun e => nTB e.symm) 0 (.int .i64 y);have IS9 := hI2.set (i := 0) (by omega) y;refine wpAnyE_one (i := 8) (by kernel_rfl) rfl (fun Kn hK => ?_);go_simp;refine kk0 hK (cb9.cell 1) ?_;clear hK;refine wod ?_ _;clear kc kf;have T9 : Touch (fun x => x = R \/ x = TB) wL (((w8.alloc (.cells #[.int .i64 (-1), .int .i64 51] 3))).setCell ⟨g, 0, none⟩ (.int .i64 y)) := sb.t.setNewF hg2 0 _;have r9 := sb.r.setNew (B := g) (by omega) (fun h0 b o e => by have := (sb.lb h0 b o e).1; omega) 0 (.int .i64 y);have gB9 := sb.gB.set 0 hy.1 hy.2;clear sb hI2 hf2;obtain ⟨W9, hW9⟩ : ∃ V, V = ((w8.alloc (.cells #[.int .i64 (-1), .int .i64 51] 3))).setCell ⟨g, 0, none⟩ (.int .i64 y) := ⟨_, rfl⟩
  rw [<- hW9] at cb9 IS9 T9 r9;rw [<- hW9];clear hW9;have rb9 := rbL.touch T9 (by omega);have tw9 : Touch (fun x => x = R) w W9 := ⟨T9.os.trans tw.os, T9.tape.trans tw.tape, T9.output.trans tw.output, Nat.le_trans tw.size T9.size, fun x hx hs => (T9.block x (Nat.lt_of_lt_of_le hx tw.size) (by omega)).trans (tw.block x hx hs)⟩
  have hN : TrN w W9 R a n cap bs p _ ba bn _ (some ⟨g, 0, none⟩) k _ := ⟨tw9, r9, hb.off T9 (fun b o e h => h.elim (fun h => (lb' b o e).2 h) (fun h => HBX b o e h)), IS9.ints, by omega, by omega, fun b o e => (lb' b o e).1, fun b o e => by simp only [qA, qB] at e; omega, gB9, by omega, by omega, ⟨_, IS9, fun h0 => ⟨by omega, fun b o e => by have := lbu b o e; omega⟩⟩⟩
  have d0 := cb9.cell 0;have d1 := cb9.cell 1;have e0 := rb9.cell 0;have e1 := rb9.cell 1;have f0 := rb9.free 0;have f1 := rb9.free 1;have ll := rb9.lt;simp only [qI, qJ] at d0 d1 e0 e1
  go_wp2
  have hZ := (hN.set (X := w.heap.size) (qL _) (fun b o e => by have := hN.lb b o e; have := lbn b o e; omega) (fun b o e => by simp only [qA, qB] at e; omega) hRl ha 0 (.slice ba bn bc)).set (X := w.heap.size) (qL _) (fun b o e => by have := lbn b o e; omega) (fun b o e => by simp only [qA, qB] at e; omega) hRl ha 1 (.slice (some ⟨g, 0, none⟩) k c);refine bodyPost_ret (v := treV ba bn bc (some ⟨g, 0, none⟩) k c) (by simp [results, Tryz.results41, go_sem, e0, e1]) rfl ⟨ba, bn, bc, (some ⟨g, 0, none⟩), k, c, _, _, _, rfl, hZ, by omega⟩
theorem dLocC {a : Option Addr} {n cap : Nat} (bs : List Int) {w : World} (h : BInts w a n bs) (hn : n <= cap) (hn1 : n <= 1048576) (hc : cap <= maxLen) :
  Calls Tryz.prog 8 #[.slice a n cap] w fun e w' => ∃ ad N c ss ba bn bc ga gn gc B G s ea en ec E k ua un uc U, e = .returned (.tuple #[.slice ad N c, treV ba bn bc ga gn gc, .int .i64 s, .slice ea en ec, .int .i64 k, .slice ua un uc]) /\ Below w.heap.size w w' /\ ss.length = N /\ N <= 5 /\ Ints w' ba bn B /\ bn <= 4 /\ gn <= 3 /\ bnd 51 G /\ Ints w' ea en E /\ en <= 4 /\ Ints w' ua un U /\ un <= 4 /\ 0 <= s /\ s <= 3 /\ 0 <= k /\ k <= 5 /\ (∃ gb L, OwnX w' ga gb gn G /\ (0 < gn -> w.heap.size <= gb /\ L <= gb /\ (∀ b o, ba = some ⟨b, o, none⟩ -> b ≠ gb) /\ (∀ b o, ea = some ⟨b, o, none⟩ -> b ≠ gb) /\ ∀ b o, ua = some ⟨b, o, none⟩ -> b ≠ gb) /\ ∀ (S : Nat -> Prop) (W : World), Touch S w' W -> (∀ k, S k -> L <= k) -> LSG W ad ss) /\ gn <= gc := by
 have qt := Cel.new w [.slice none 0 0, .slice none 0 0] 26;have al := (Below.refl w.heap.size w).alloc (qL _) (.cells #[.slice none 0 0, .slice none 0 0] 26)
 go_enter Tryz.func8, Tryz.ntmps8
 go_wp2_with fail
 refine (open_any bs (h.below al) hn hn1 hc).mono ?_;rintro e w1 ⟨R, n', cap2, bs', rfl, b1, hR, r1⟩;simp only [qC] at hR;replace qt := qt.below b1;have hRl := r1.c.lt;have BB := btr al b1
 go_wp2_with fail
 have rd0 := r1.ha;refine (anyacts_f R a n' cap2 bs' 0 16 r1 (by omega) (by omega) (by omega) (by omega) r1.ha).mono ?_;rintro e w2 ⟨ad, N, c, ss, q, rfl, j, hN, hN5, y0, y1⟩;have HN : Hid (ss.length = N) := hN;have z2 := j.t.size;replace qt := qt.touch j.t (by omega);have T2 := j.t;have rd := j.r;clear hN
 go_wp2_with fail
 refine (treaty_g R a n' cap2 bs' q 16 rd (by omega) (by omega) (by omega) (by omega) rd.ha).mono ?_;rintro e w3 ⟨ba, bn, bc, ga, gn, gc, B, G, q3, rfl, tr, hcapg⟩;have z3 := tr.t.size;replace qt := qt.touch tr.t (by omega);have T3 := tr.t;clear rd;have rd := tr.r;have x0 := tr.q0;have x1 := tr.q1;have tb := tr.b;have b4 := tr.b4;have g3 := tr.g3;have gB := tr.gB;obtain ⟨gb, og, hgb⟩ := tr.gx;have lba := tr.lb;clear tr;have bx := (Below.refl w3.heap.size w3).alloc (qL _) (.cells #[.slice ba bn bc, .slice ga gn gc] 26);have qx := Cel.new w3 [.slice ba bn bc, .slice ga gn gc] 26;replace qt := qt.below bx;replace T3 := T3.trans (Touch.of bx);replace rd := rd.below bx;replace tb := tb.below bx;replace og := og.below bx
 go_upto_region 4 with fail
 obtain ⟨w4, hw4⟩ : ∃ W, W = w3.alloc (.cells #[.slice ba bn bc, .slice ga gn gc] 26) := ⟨_, rfl⟩
 have z4 : w3.heap.size + 1 <= w4.heap.size := by rw [hw4, qC]; omega
 rw [<- hw4];rw [<- hw4] at qt qx T3 rd tb og;clear hw4 bx;obtain ⟨X, hX⟩ : ∃ x, x = w3.heap.size := ⟨_, rfl⟩
 rw [<- hX];rw [<- hX] at qx;have v1 : w3.heap.size <= X := by omega
 have v2 : X < w4.heap.size := by omega
 clear hX;have hgl : 0 < gn -> gb < w4.heap.size := fun h0 => og.lt h0
 have hbl : 0 < bn -> ∀ b o, ba = some ⟨b, o, none⟩ -> b < w4.heap.size := fun h0 b o e => by
  obtain ⟨b', o', e', hc⟩ := tb.2 0 h0;rw [e] at e';simp only [qA, qB, and_true] at e';have := block_lt hc
  omega
 go_wp2_with fail
 refine (added_own R a n' cap2 bs' q3 16 rd (by omega) (by omega) (by omega) (by omega) rd.ha).mono ?_;rintro e w5 ⟨ea, en, ec, E, q5, rfl, dn, AB, oE⟩;have x2 := dn.q0;have x3 := dn.q1;have e4 := dn.h4;have e1 := dn.h1;have eA := (oE.pos (by omega)).1;have lAB := dn.lo AB 0 eA;have z5 := dn.t.size;replace qt := qt.touch dn.t (by omega);replace qx := qx.touch dn.t (by omega);have T5 := dn.t;have hAB := oE.lt (by omega);clear rd;have rd := dn.r;clear dn;have hL := acts_late j HN.out (T3.trans T5) (fun k hk => .inl (by omega))
 go_wp2_with fail
 refine (scatpins_any ss HN.out hL (by omega)).mono ?_;rintro e w6 ⟨b6, hp⟩
 obtain ⟨Gp, pn, pc, rfl, hp3, hpc⟩ : ∃ Gp pn pc, e = .returned (.slice (some ⟨Gp, 0, none⟩) pn pc) /\ pn <= 3 /\ ∀ i, i < pn -> ∃ b, At2 w6 Gp i (.bool b) /\ w5.heap.size <= Gp := by
  rcases hp with ⟨_, G, rfl⟩ | ⟨_, G, cG, rfl, lo, oG⟩
  ·exact ⟨G, 0, 0, rfl, by omega, fun i hi => by omega⟩
  refine ⟨G, 3, cG, rfl, by omega, fun i hi => ?_⟩;obtain ⟨cur, hc, hv⟩ := oG
  exact ⟨_, (hc.cell i).trans (hv i hi), lo⟩
 have z6 := b6.size;replace qt := qt.below b6;replace qx := qx.below b6;replace rd := rd.below b6;replace oE := oE.below b6;have T6 : Touch (fun x => x = R) w2 w6 := (T3.trans T5).trans (Touch.of b6);have tb6 := (tb.off T5 (fun b o e hs => by have := lba b o e; omega)).below b6;have og6 := (og.touch T5 (fun h0 hs => by have := (hgb h0).1; omega)).below b6;clear hp hL b6 tb og T3 T5;subst eA
 go_wp2_with fail
 go_loopw [13] (fun i wr => ∃ (k : Nat) (q' : Int) (E' : List Int), k <= pn /\ k <= en /\ i = .int .i64 k /\ Touch (fun x => x = R \/ x = AB) w6 wr /\ Rd wr R a n' cap2 bs' q' /\ q5 <= q' /\ q' <= q5 + k /\ OwnX wr (some ⟨AB, 0, none⟩) AB en E') (fun i _ => pn - (intOf i).toNat)
 case atStart => exact ⟨0, q5, E, by omega, by omega, rfl, Touch.refl _ _, rd, by omega, by omega, oE⟩
 case round =>
  obtain ⟨k, q', E', hk1, hk2, rfl, t, rd', y2, y3, oE'⟩ := hrel;have zr := t.size
  go_upto_region 7 with fail
  go_cut [33] from 24 to 47 (fun v wx => v = .bool (decide (k < pn) && decide (k < en)) /\ wx = wr)
  case first =>
   by_cases c1 : k < pn
   ·have i1 : (k : Int) < (pn : Int) := by omega
    by_cases c2 : k < en
    ·have i2 : (k : Int) < (en : Int) := by omega
     go_wp2_with fail
     go_meet
     case rel => exact ⟨by simp [c1, c2], rfl⟩
    have i2 : ¬ (k : Int) < (en : Int) := by omega
    go_wp2_with fail
    go_meet
    case rel => exact ⟨by simp [c1, c2], rfl⟩
   have i1 : ¬ (k : Int) < (pn : Int) := by omega
   go_wp2_with fail
   go_meet
   case rel => exact ⟨by simp [c1], rfl⟩
  case rest =>
   obtain ⟨rfl, rfl⟩ := hcut
   by_cases cc : k < pn /\ k < en
   ·obtain ⟨c1, c2⟩ := cc;rw [show (decide (k < pn) && decide (k < en)) = true from by simp [c1, c2]];have i1 : (k : Int) < (pn : Int) := by omega
    have i2 : (k : Int) < (en : Int) := by omega
    obtain ⟨b, hb, lo⟩ := hpc k c1;have hb' : wc.cell? ⟨Gp, k, none⟩ = some (.bool b) := (World.cell?_of_block (t.block Gp (block_lt hb) (fun hs => by (rcases hs with hs | hs <;> omega)))).trans hb
    cases b
    ·go_wp2
     go_roundw
     case rel => exact ⟨k + 1, q', E', by omega, by omega, by go_num, t, rd', by omega, by omega, oE'⟩
     case measure => simp [intOf]; omega
    go_wp2_with fail
    refine (pick_any R a n' cap2 bs' q' 8 rd').mono ?_;rintro e w7 ⟨x, u0, u1, rfl, t7, R7⟩;have t8 := t.trans (t7.mono (fun _ h => Or.inl h));have o7 := oE'.touch t7 (fun _ => by omega)
    by_cases hu : x > 0
    ·obtain ⟨_, cl, fr⟩ := o7.pos (by omega);have ck := cl k c2;have fk := fr k;have o8 := o7.set (i := k) c2 0;have t9 := t8.setCell (B := AB) (i := k) (Or.inr rfl) (.int .i64 0);have R9 := R7.touch (Touch.setCell (S := fun x => x = AB) (Touch.refl _ _) (B := AB) (i := k) rfl (.int .i64 0)) (by omega) (fun h0 b o hab => by have := rd0 h0 b o hab; omega);clear hb'
     go_wp2
     go_roundw
     case rel => exact ⟨k + 1, q' + 1, _, by omega, by omega, by go_num, t9, R9, by omega, by omega, o8⟩
     case measure => simp [intOf]; omega
    have hu' : ¬ x > 0 := hu
    go_wp2
    go_roundw
    case rel => exact ⟨k + 1, q' + 1, E', by omega, by omega, by go_num, t8, R7, by omega, by omega, o7⟩
    case measure => simp [intOf]; omega
   skip
   rw [show (decide (k < pn) && decide (k < en)) = false from by simp only [Bool.and_eq_false_iff, decide_eq_false_iff_not]; omega]
   go_wp2_with fail
   refine (pick_any R a n' cap2 bs' q' 3 rd').mono ?_;rintro e w8 ⟨x, u0, u1, rfl, t8, R8⟩;have z8 := t8.size;have i8 := (oE'.touch t8 (fun _ => by omega)).ints
   go_upto_if 50 with fail
   go_cut [11] (fun v wx => ∃ (fa : Option Addr) (fn fc : Nat) (F : List Int), v = .slice fa fn fc /\ fn <= 4 /\ Ints wx fa fn F /\ (∀ b o, fa = some ⟨b, o, none⟩ -> w4.heap.size <= b) /\ Below w8.heap.size w8 wx)
   case first =>
    by_cases hu : x > 0
    ·have lz := lit000 w8;have az := (Below.refl w8.heap.size w8).alloc (qL _) (.cells #[.int .i64 0, .int .i64 0, .int .i64 0] 3)
     go_wp2_with fail
     go_meet
     case rel => exact ⟨_, 3, 3, _, rfl, by omega, lz, fun b o e => by (simp only [qA, qB] at e; omega), az⟩
    have hu' : ¬ x > 0 := hu
    go_wp2_with fail
    go_meet
    case rel => exact ⟨_, en, ec, E', rfl, e4, i8, fun b o e => by (simp only [qA, qB] at e; omega), Below.refl _ _⟩
   case rest =>
    obtain ⟨fa, fn, fc, F, rfl, f4, hF, lF, bY⟩ := hcut;have tY : Touch (fun x => x = R) _ _ := t8.trans (Touch.of bY);have rY := R8.below bY;clear i8
    skip
    have gw1 : IntKind.i64.wrap ((gn : Int) + 1) = (gn : Int) + 1 := wrap_id (by omega) (by omega);have gw2 : IntKind.i64.wrap ((N : Int) + 1) = (N : Int) + 1 := wrap_id (by omega) (by omega);have TA := t.trans (tY.mono (fun _ h => Or.inl h));have zA := TA.size;have qxY := qx.touch TA (fun hs => by (rcases hs with hs | hs <;> omega));have qtY := qt.touch TA (fun hs => by (rcases hs with hs | hs <;> omega))
    go_upto_region 13 with fail
    have KP : Hid (∀ W : World, Touch (fun x => x = R \/ x = w.heap.size) wc W -> (W.cell? ⟨X, 0, none⟩ = some (.slice ba bn bc) /\ W.cell? ⟨X, 1, none⟩ = some (.slice ga gn gc))) := fun W hW => by
     have qq := qxY.touch hW (fun hs => by (rcases hs with hs | hs <;> omega))
     exact ⟨qq.cell 0, qq.cell 1⟩
    have d0 : Touch (fun x => x = R) wc wc.drew := Touch.of (Below.refl _ _).drew;have r0 := rY.below (Below.refl _ _).drew;refine wp_region_ends (fun W => W.cell? ⟨X, 0, none⟩ = some (.slice ba bn bc) /\ W.cell? ⟨X, 1, none⟩ = some (.slice ga gn gc)) (fun _ => True) 21 (by kernel_rfl) ?_;have hSS := And.intro (KP.out _ (d0.mono (fun _ h => Or.inl h))) True.intro;obtain ⟨V0, hV0⟩ : ∃ V, V = wc.drew := ⟨_, rfl⟩
    rw [<- hV0] at hSS d0 r0 ⊢;clear hV0;refine tkl 0 rfl hSS ?_;refine tkl 1 rfl hSS ?_;refine tkl 2 rfl hSS ?_;refine tkl 3 rfl hSS ?_;simp only [Act.put, qD, qF, qE, qK, qH, qG];refine tkl 4 rfl hSS ?_;refine tkl 5 rfl hSS ?_;refine tkl 6 rfl hSS ?_;refine tkl 8 rfl hSS ?_;simp only [Act.put, qD, qF, qE, qK, qH, qG];refine tkl 9 rfl hSS ?_;refine tkl 10 rfl hSS ?_;refine tkl 11 rfl hSS ?_;refine tkl 12 rfl hSS ?_;simp only [Act.put, qD, qF, qE, qK, qH, qG];refine tkl 14 rfl hSS ?_;refine wo1 7 rfl fun K hK => ?_;go_simp;refine (pick_any R a n' cap2 bs' (q' + 1) ((gn : Int) + 1) r0).mono ?_;rintro ee V1 ⟨si, s0, s1, rfl, t1, r1'⟩;have d1 := d0.trans t1;clear hSS;have hSS := And.intro (KP.out _ (d1.mono (fun _ h => Or.inl h))) True.intro;(try dsimp only);refine kk0 hK (hSS.1) ?_;refine wo1 13 rfl fun K hK => ?_;go_simp;refine (pick_any R a n' cap2 bs' (q' + 1 + 1) ((N : Int) + 1) r1').mono ?_;rintro ee V2 ⟨ki, k0, k1, rfl, t2, r2'⟩;have d2 := d1.trans t2;clear hSS;have hSS := And.intro (KP.out _ (d2.mono (fun _ h => Or.inl h))) True.intro;(try dsimp only);refine kk0 hK (hSS.1) ?_;refine wo1 15 rfl fun K hK => ?_;go_simp
    refine (args_gen R a n' cap2 bs' (q' + 1 + 1 + 1) 16 r2' (by omega) (by omega) (by omega) (by omega) r2'.ha).mono ?_;rintro ee V3 ⟨ua, un, uc, U, qz, rfl, dz⟩;have d3 := d2.trans dz.t;have zd := d2.size;have iU := dz.i;have lU := dz.lo;have u4 := dz.h4;clear hSS;have hSS := And.intro (KP.out _ (d3.mono (fun _ h => Or.inl h))) True.intro;(try dsimp only);refine kk0 hK (hSS.1) ?_;refine wo1 16 rfl fun K hK => ?_;go_simp;refine kk0 hK (hSS.1) ?_;have q3 := qtY.touch d3 (by omega);obtain ⟨c0, c1, c2, c3⟩ : V3.cell? ⟨w.heap.size, 0, none⟩ = some (.slice none 0 0) /\ V3.cell? ⟨w.heap.size, 1, none⟩ = some (.slice none 0 0) /\ V3.frozen? ⟨w.heap.size, 0, none⟩ = false /\ V3.frozen? ⟨w.heap.size, 1, none⟩ = false := ⟨q3.cell 0, q3.cell 1, q3.free 0, q3.free 1⟩
    have z3' := (q3.set 0 (.slice ba bn bc)).set 1 (.slice ga gn gc);have e0 := z3'.cell 0;have e1' := z3'.cell 1;simp only [qI, qJ, qE, qF] at e0 e1';have TS : Touch (fun x => x = w.heap.size) V3 ((V3.setCell ⟨w.heap.size, 0, none⟩ (.slice ba bn bc)).setCell ⟨w.heap.size, 1, none⟩ (.slice ga gn gc)) := Touch.setCell (Touch.setCell (S := fun x => x = w.heap.size) (Touch.refl _ _) rfl _) rfl _;have TW : Touch (fun x => x = R \/ x = w.heap.size) wc ((V3.setCell ⟨w.heap.size, 0, none⟩ (.slice ba bn bc)).setCell ⟨w.heap.size, 1, none⟩ (.slice ga gn gc)) := (d3.mono (fun _ h => Or.inl h)).trans (TS.mono (fun _ h => Or.inr h));have S2 := KP.out _ TW;refine wo1 17 rfl fun K hK => ?_;go_simp;refine kk0 hK (S2) ?_;refine wo1 18 rfl fun K hK => ?_;go_simp;refine kk0 hK (S2) ?_;refine wo1 19 rfl fun K hK => ?_;go_simp;refine kk0 hK (S2) ?_;refine wo1 20 rfl fun K hK => ?_;go_simp;refine kk0 hK (S2) ?_;refine wo1 21 rfl fun K hK => ?_;go_simp;refine kk0 hK (S2) ?_;refine wod ?_ _;have TZ : Touch (fun x => x = R \/ x = AB \/ x = w.heap.size) w6 ((V3.setCell ⟨w.heap.size, 0, none⟩ (.slice ba bn bc)).setCell ⟨w.heap.size, 1, none⟩ (.slice ga gn gc)) := (TA.mono (fun _ h => h.imp id Or.inl)).trans (TW.mono (fun _ h => h.imp id Or.inr))
    have T26 : Touch (fun x => x < w1.heap.size \/ w2.heap.size <= x) w2 ((V3.setCell ⟨w.heap.size, 0, none⟩ (.slice ba bn bc)).setCell ⟨w.heap.size, 1, none⟩ (.slice ga gn gc)) := (T6.mono (fun x h => Or.inl (by have h : x = R := h; omega))).trans (TZ.mono (fun x h => by (rcases h with h | h | h) <;> omega));have BW : Below w.heap.size w ((V3.setCell ⟨w.heap.size, 0, none⟩ (.slice ba bn bc)).setCell ⟨w.heap.size, 1, none⟩ (.slice ga gn gc)) := BB.trans (((T2.mono (T := fun x => w.heap.size <= x) (fun x h => by have h : x = R := h; omega)).trans ((T6.mono (fun x h => by have h : x = R := h; omega)).trans (TZ.mono (fun x h => by (rcases h with h | h | h) <;> omega)))).below BB.size (fun k hk => hk));have ib := tb6.off' TZ (fun h0 b o e hs => by have := lba b o e; have := hbl h0 b o e; (rcases hs with hs | hs | hs) <;> omega);have og9 := og6.touch TZ (fun h0 hs => by have := (hgb h0).1; have := hgl h0; (rcases hs with hs | hs | hs) <;> omega);have iF := hF.off TW (fun b o e hs => by have := lF b o e; (rcases hs with hs | hs) <;> omega);have iU' := iU.off TS (fun b o e hs => by have := lU b o e; have hs : b = w.heap.size := hs; omega)
    have hlate : ∀ (S : Nat -> Prop) (W : World), Touch S ((V3.setCell ⟨w.heap.size, 0, none⟩ (.slice ba bn bc)).setCell ⟨w.heap.size, 1, none⟩ (.slice ga gn gc)) W -> (∀ k, S k -> w2.heap.size <= k) -> LSG W ad ss := fun S W hW hS => acts_late (S := fun x => x < w1.heap.size \/ w2.heap.size <= x) j HN.out (T26.trans (hW.mono (fun k hk => Or.inr (hS k hk)))) (fun k h => h);clear hSS S2 KP TS TZ T26 q3 z3' c0 c1 c2 c3 d0 d1 d2 d3 t1 t2 dz
    go_wp2
    exact bodyPost_ret (v := .tuple #[.slice ad N c, treV ba bn bc ga gn gc, .int .i64 si, .slice fa fn fc, .int .i64 ki, .slice ua un uc]) (by simp [results, Tryz.results8, go_sem, e0, e1']) rfl ⟨ad, N, c, ss, ba, bn, bc, ga, gn, gc, B, G, si, fa, fn, fc, F, ki, ua, un, uc, U, rfl, BW, HN.out, hN5, ib, b4, g3, gB, iF, f4, iU', u4, s0, by omega, k0, by omega, ⟨gb, w2.heap.size, og9, fun h0 => ⟨by have := (hgb h0).1; omega, (hgb h0).1, (hgb h0).2, fun b o e => by have := lF b o e; have := hgl h0; omega, fun b o e => by have := lU b o e; have := hgl h0; omega⟩, hlate⟩, hcapg⟩
section
variable {P : Program} {n : Nat} {α : Type}
def roundLeft (B : Nat) (Kp : World -> World -> Prop) (I : List α -> World -> Prop) (Ix : Code -> List α -> World -> Prop) (xs : List α) (W : World) : Exit -> Act -> World -> Prop
 | .normal, _, W' => KeepsFrom B W W' /\ Kp W W' /\ I xs W'
 | .ret, _, W' => KeepsFrom B W W' /\ Kp W W' /\ Ix .ret xs W'
 | .exit id, _, W' => KeepsFrom B W W' /\ Kp W W' /\ Ix (.exit id) xs W'
 | .goto t, _, W' => KeepsFrom B W W' /\ Kp W W' /\ Ix (.goto t) xs W'
 | _, _, _ => False
theorem wpIn_rowsL {g : Operand} {ps : Array Tmp} {assign body : Code} {Q : Exit -> Act -> World -> Prop} {a : Act} {w : World} {gf : Nat} {lb : Array Value}
  (hg : a.eval g = .func (.func gf) #[] lb) (eg : ∀ args w, (callFunc gf args).run P w = .ok (.enter gf args) w)
  {encs : α -> Array Value} (hps : ∀ x, (encs x).size = ps.size) (A : List α -> α -> World -> Prop) (Kp : World -> World -> Prop) (Sx Sp : List α -> Prop) (I : List α -> World -> Prop) (Ix : Code -> List α -> World -> Prop)
  (hI : ∀ pre X Y, I pre X -> Below X.heap.size X Y -> I pre Y) (hIb : ∀ pre X l r r', I pre X -> X.heap[l]? = some (.loop r) -> w.heap.size < l -> I pre (X.putObj l (.loop r')))
  (hXb : ∀ c pre X l r r', Ix c pre X -> X.heap[l]? = some (.loop r) -> w.heap.size < l -> Ix c pre (X.putObj l (.loop r')))
  (hKb : ∀ X l r r', X.heap[l]? = some (.loop r) -> Kp X (X.putObj l (.loop r'))) (hKt : ∀ X Y Z, Kp X Y -> Kp Y Z -> Kp X Z) (h0 : I [] w)
  (hseq : ∀ (l : Nat) (J D : List α -> World -> Prop) (W : World), (∀ pre X Y, J pre X -> Below X.heap.size X Y -> J pre Y) -> Below w.heap.size w W -> J [] W ->
   (∀ m pre x X, J pre X -> A pre x X -> YieldAt Fence.wide m P l (encs x) X fun e Y => ∃ b : Bool, e = .returned (.bool b) /\ ((b = true /\ J (pre ++ [x]) Y) \/ (b = false /\ D (pre ++ [x]) Y)) /\ Kp X Y) ->
   CallsIn Fence.wide (n - 1) P gf (#[.func (.yield l) #[] #[]] ++ lb) W fun e Y => (∃ v, e = .returned v) /\ ((∃ xs, Sx xs /\ J xs Y) \/ ∃ xs, Sp xs /\ D xs Y))
  (hround : ∀ (m l : Nat) (pre : List α) (x : α) (X : World) (r : Loop), I pre X -> A pre x X -> X.heap[l]? = some (.loop r) -> w.heap.size < l ->
   assign.wpIn (Fence.wide.inRound l) m P (Exit.then (fun a' Y => KeepsFrom w.heap.size X Y /\ Kp X Y /\ body.wpIn (Fence.wide.inRound l) m P (roundLeft w.heap.size Kp I Ix (pre ++ [x]) (Y.putObj l (.loop { r with state := .busy }))) a' (Y.putObj l (.loop { r with state := .busy }))) (fun _ _ _ => False))
    { tmps := (ps.zip (encs x)).foldl (fun t (p, v) => t.setIfInBounds p v) a.tmps, defers := [] } X)
  (hdone : ∀ (D : Nat) (xs : List α) (W : World), w.heap.size <= D -> Sx xs -> I xs W -> W.heap[D]? = some (.deferred (some [])) -> Q .normal { a with defers := { target := .collected D, args := #[] } :: a.defers } W)
  (hstop : ∀ (D : Nat) (c : Code) (xs : List α) (W : World), w.heap.size <= D -> Sp xs -> Ix c xs W -> W.heap[D]? = some (.deferred (some [])) -> c.wpIn Fence.wide n P Q { a with defers := { target := .collected D, args := #[] } :: a.defers } W) :
  (Code.rangeFunc g ps assign body).wpIn Fence.wide n P Q a w := by
 refine wpIn_rangeFunc ?_;intro fn _;obtain ⟨r0, hr0⟩ : ∃ r0 : Loop, r0 = { state := .ready, pending := none, fn, tmps := a.tmps, params := ps, assign, body, defers := w.heap.size } := ⟨_, rfl⟩
 obtain ⟨W1, hW1⟩ : ∃ W1, W1 = (w.alloc (.deferred (some []))).alloc (.loop r0) := ⟨_, rfl⟩
 have b1 : Below w.heap.size w W1 := by rw [hW1]; exact ((Below.refl _ w).alloc (qL _) _).alloc (by simp) _
 have hL : W1.heap[w.heap.size + 1]? = some (.loop r0) := by
  rw [hW1]; have := World.alloc_heap_new (w.alloc (.deferred (some []))) (.loop r0); rwa [qC] at this
 have hD : W1.heap[w.heap.size]? = some (.deferred (some [])) := by
  rw [hW1]; exact (Below.heap_alloc _ _ _ (by simp)).trans (World.alloc_heap_new w _)
 refine ⟨w.heap.size + 1, [{ target := .collected w.heap.size, args := #[] }], W1, { target := .fn (.func gf) lb, args := #[.func (.yield (w.heap.size + 1)) #[] #[]] }, W1, gf, #[.func (.yield (w.heap.size + 1)) #[] #[]] ++ lb, W1, ?_, ?_, ?_, ?_, ?_, ?_⟩
 ·rw [hW1, hr0]; exact run_enterLoop_outer _ _ _ _ _
 ·simp only [resolve, hg];simp [go_sem]
 ·intro f' _; trivial
 ·simp [invoke, go_sem, eg]
 ·intro h; simp [Fence.wide] at h
 refine (hseq (w.heap.size + 1) (fun pre W => I pre W /\ W.heap[w.heap.size + 1]? = some (.loop r0) /\ W.heap[w.heap.size]? = some (.deferred (some [])))
  (fun pre W => ∃ c, Ix c pre W /\ W.heap[w.heap.size + 1]? = some (.loop { r0 with state := .done, pending := some c }) /\ W.heap[w.heap.size]? = some (.deferred (some []))) W1 ?_ b1 ⟨hI _ _ _ h0 b1, hL, hD⟩ ?_).mono ?_
 ·rintro pre X Y ⟨i1, i2, i3⟩ hb
  exact ⟨hI _ _ _ i1 hb, (hb.block _ (Array.getElem?_eq_some_iff.1 i2).1).trans i2, (hb.block _ (Array.getElem?_eq_some_iff.1 i3).1).trans i3⟩
 ·rintro m pre x X ⟨i1, i2, i3⟩ hA;have hy := run_yield (P := P) (args := encs x) i2 (by rw [hr0]; exact hps x);rw [hr0] at hy;refine ⟨fn, _, assign, body, hy, roundIn_of_wpIn trivial (wpIn_mono (hround m _ pre x X r0 i1 hA i2 (by omega)) ?_)⟩;rintro e a' Y hp
  cases e with
  | normal =>
   obtain ⟨k1, k2, hb⟩ := hp;have j2 := k1.same _ _ (by omega) i2 rfl;have j3 := k1.same _ _ (qL _) i3 rfl;refine ⟨_, run_beginRound j2 (by rw [hr0]), wpIn_mono hb ?_⟩;have hl : w.heap.size + 1 < Y.heap.size := (Array.getElem?_eq_some_iff.1 j2).1
   have left : ∀ (c : Code) (Z : World), KeepsFrom w.heap.size (Y.putObj (w.heap.size + 1) (.loop { r0 with state := .busy })) Z -> Kp (Y.putObj (w.heap.size + 1) (.loop { r0 with state := .busy })) Z -> Ix c (pre ++ [x]) Z ->
     ∃ v w', (Instr.endRound (w.heap.size + 1) (some c)).run P Z = .ok v w' /\ (∃ b : Bool, (Ending.returned v) = .returned (.bool b) /\ ((b = true /\ I (pre ++ [x]) w' /\ w'.heap[w.heap.size + 1]? = some (.loop r0) /\ w'.heap[w.heap.size]? = some (.deferred (some []))) \/ (b = false /\ ∃ c, Ix c (pre ++ [x]) w' /\ w'.heap[w.heap.size + 1]? = some (.loop { r0 with state := .done, pending := some c }) /\ w'.heap[w.heap.size]? = some (.deferred (some [])))) /\ Kp X w') := by
    intro c Z q1 q2 q3;have m2 := q1.same _ _ (by omega) (World.putObj_heap_same (o := .loop { r0 with state := .busy }) hl) rfl;have m3 := q1.same _ _ (qL _) ((World.putObj_heap_other (by omega)).trans j3) rfl;have hz : w.heap.size + 1 < Z.heap.size := (Array.getElem?_eq_some_iff.1 m2).1;refine ⟨_, _, run_endRound (some c) m2, false, rfl, Or.inr ⟨rfl, c, hXb _ _ _ _ _ _ q3 m2 (by omega), ?_, (World.putObj_heap_other (by omega)).trans m3⟩, hKt _ _ _ (hKt _ _ _ (hKt _ _ _ k2 (hKb _ _ _ _ j2)) q2) (hKb _ _ _ _ m2)⟩;rw [World.putObj_heap_same hz]
    rfl
   rintro e a'' Z hq
   cases e with
   | normal =>
    obtain ⟨q1, q2, q3⟩ := hq;have m2 := q1.same _ _ (by omega) (World.putObj_heap_same (o := .loop { r0 with state := .busy }) hl) rfl;have m3 := q1.same _ _ (qL _) ((World.putObj_heap_other (by omega)).trans j3) rfl;have hz : w.heap.size + 1 < Z.heap.size := (Array.getElem?_eq_some_iff.1 m2).1;refine ⟨_, _, run_endRound none m2, true, rfl, Or.inl ⟨rfl, hIb _ _ _ _ _ q3 m2 (by omega), ?_, (World.putObj_heap_other (by omega)).trans m3⟩, hKt _ _ _ (hKt _ _ _ (hKt _ _ _ k2 (hKb _ _ _ _ j2)) q2) (hKb _ _ _ _ m2)⟩;rw [World.putObj_heap_same hz, hr0]
    rfl
   | ret => exact left _ Z hq.1 hq.2.1 hq.2.2
   | exit id => exact left _ Z hq.1 hq.2.1 hq.2.2
   | goto t => exact left _ Z hq.1 hq.2.1 hq.2.2
   | panic c => exact hq.elim
   | outgrown => exact hq.elim
  | ret => exact hp.elim
  | exit id => exact hp.elim
  | goto t => exact hp.elim
  | panic c => exact hp.elim
  | outgrown => exact hp.elim
 rintro e W2 ⟨⟨v, rfl⟩, ⟨xs, hS, i1, i2, i3⟩ | ⟨xs, hS, c, i1, i2, i3⟩⟩
 ·exact ⟨none, _, by have := run_endLoop (P := P) i2 (by rw [hr0]; simp); rw [hr0] at this; rw [hr0] at i2; exact this, hdone _ xs _ (qL _) hS (hIb _ _ _ _ _ i1 i2 (by omega)) ((World.putObj_heap_other (by omega)).trans i3)⟩
 exact ⟨some c, _, run_endLoop (P := P) i2 (by simp), hstop _ c xs _ (qL _) hS (hXb _ _ _ _ _ _ i1 i2 (by omega)) ((World.putObj_heap_other (by omega)).trans i3)⟩
end
end Go.Proofs.YtemcinobgdphnaaGreat
