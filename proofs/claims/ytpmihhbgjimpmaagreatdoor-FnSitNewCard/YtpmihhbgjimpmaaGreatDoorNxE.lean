/-
  Lemmas that the claim's last text rests on.
-/
import Derived.Test.YtpmihhbgjimpmaaGreatDoorNxD
namespace Go.Proofs.YtpmihhbgjimpmaaGreatDoor
open Go.RowKit
open Option.some renaming injEq → qA
open Addr.mk renaming injEq → qB
open List renaming length_append → qC
open Nat renaming le_refl → qD
set_option linter.unusedVariables false
set_option maxRecDepth 100000
set_option maxHeartbeats 25600000
variable {C D : List Int} {K : Int} {W : World} {base m n : Nat} {xs : List Value}
abbrev lnV (l : LV) : Value := .agg #[.int .i64 l.kind, .int .i64 l.pot, .int .i64 l.skip, .slice l.f.a l.f.n l.f.cap, .slice l.f.c l.f.m l.f.cap', .int .i64 l.f.K]
theorem allB_of {m : Int} {zs : List Int} (h : bnd m zs) : allB m zs = true := by
 unfold allB;rw [List.all_eq_true];intro x hx;obtain ⟨i, hi, rfl⟩ := List.getElem_of_mem hx;have := h i;rw [List.getElem?_eq_getElem hi] at this
 exact inB_iff.2 this
theorem small_of (hC : bnd 2 C) (hD : bnd 2 D) (h1 : -20 <= K) (h2 : K <= 20) : smallB 3 2 C D K = true := by
 unfold smallB okN;rw [allB_of hC, allB_of hD, inB_iff.2 ⟨h1, h2⟩]
 rfl
theorem lok1 {skip : Int} (h : smallB n m C D K = true) (h1 : 1 <= skip) (h2 : skip <= 6) : lineB 1 0 skip n m C D K = true := by
 unfold lineB;rw [if_pos rfl, h, inB_iff.2 ⟨h1, h2⟩]
 rfl
theorem lok2 {pot : Int} (h : smallB n m C D K = true) (h1 : 0 <= pot) (h2 : pot <= 2) : lineB 2 pot 0 n m C D K = true := by
 unfold lineB;rw [if_neg (by decide), if_pos rfl, h, inB_iff.2 ⟨h1, h2⟩]
 rfl
theorem lok3 (h : smallB n m C D K = true) : lineB 3 0 0 n m C D K = true := by
 unfold lineB;rw [if_neg (by decide), if_neg (by decide), if_pos rfl, h]
 rfl
theorem Ints.blk {B o : Nat} {zs : List Int} (h : Ints W (some ⟨B, o, none⟩) n zs) (hn : 0 < n) : B < W.heap.size := by
 obtain ⟨b, off, e, hc⟩ := h.2 0 hn;simp only [qA, qB] at e;have := block_lt hc
 omega
structure LnN (w w' : World) (R : Nat) (a : Option Addr) (n cap : Nat) (bs : List Int) (p q : Int) (l : LV) : Prop where
 t : Touch (fun x => x = R) w w'
 r : Rd w' R a n cap bs q
 at' : l.f.At w'
 la : ∀ b o, l.f.a = some ⟨b, o, none⟩ -> w.heap.size <= b /\ b < w'.heap.size
 lc : ∀ b o, l.f.c = some ⟨b, o, none⟩ -> w.heap.size <= b /\ b < w'.heap.size
 ok : l.ok = true
 q0 : p <= q
 q1 : q <= p + 12
theorem line_f (R : Nat) (a : Option Addr) (n cap : Nat) (bs : List Int) (p : Int) {w : World} (rd : Rd w R a n cap bs p) (hp : 0 <= p) (hp1 : p <= 8000000) (ha : 0 < n -> ∀ b o, a = some ⟨b, o, none⟩ -> b < w.heap.size) :
  Calls Tryz.prog 171 #[.pointer (some ⟨R, 0, none⟩)] w fun e w' => ∃ l q, e = .returned (lnV l) /\ LnN w w' R a n cap bs p q l := by
 have hRl := rd.c.lt;have ha0 := ha;have q0 := Cel.new w [.int .i64 0, .int .i64 0, .int .i64 0, .slice none 0 0, .slice none 0 0, .int .i64 0] 153;have al := (Below.refl w.heap.size w).alloc (qD _) (.cells #[.int .i64 0, .int .i64 0, .int .i64 0, .slice none 0 0, .slice none 0 0, .int .i64 0] 153);have nq0 : w.heap.size ≠ R := by omega
 have TT : Touch (fun x => x = R) w (w.alloc (.cells #[.int .i64 0, .int .i64 0, .int .i64 0, .slice none 0 0, .slice none 0 0, .int .i64 0] 153)) := Touch.of al;replace rd := rd.below al;clear al
 go_enter Tryz.func171, Tryz.ntmps171
 go_wp2_with fail
 generalize (w.alloc (.cells #[.int .i64 0, .int .i64 0, .int .i64 0, .slice none 0 0, .slice none 0 0, .int .i64 0] 153)) = W2 at TT rd q0 ⊢;refine (pick_any R a n cap bs (p) 7 rd).mono ?_;rintro e w3 ⟨rj, hj0, hj1, rfl, t5, R5⟩;obtain ⟨j, rfl⟩ := Int.eq_ofNat_of_zero_le hj0;clear hj0;replace q0 := q0.touch t5 nq0;replace TT := TT.trans t5;replace rd := R5;clear t5 R5
 rcases (show j = 0 \/ j = 1 \/ j = 2 \/ j = 3 \/ j = 4 \/ j = 5 \/ j = 6 from by omega) with rfl | rfl | rfl | rfl | rfl | rfl | rfl
 iterate 2
  ·go_wp2_with fail
   refine (pick_any R a n cap bs (p + 1) 3 rd).mono ?_;rintro e w4 ⟨ri, hi0, hi1, rfl, t5, R5⟩;obtain ⟨i, rfl⟩ := Int.eq_ofNat_of_zero_le hi0;clear hi0;replace q0 := q0.touch t5 nq0;replace TT := TT.trans t5;replace rd := R5;clear t5 R5
   go_wp2_with fail
   have xA := q0.lt;refine (small_f R a n cap bs (p + 1 + 1) rd (by omega) (by omega) rd.ha).mono ?_;rintro e w5 ⟨BA, DA, LCA, LDA, KA, rfl, t5, R5, f5, sCA, sDA, sKA1, sKA2⟩;have zA1 : w.heap.size <= BA := Nat.le_trans TT.size f5.b1;have zA2 : w.heap.size <= DA := Nat.le_trans TT.size f5.b2;have lCA := f5.l1;have lDA := f5.l2;have GA : FA w5 (some ⟨BA, 0, none⟩) 3 (some ⟨DA, 0, none⟩) 2 (LCA, LDA, KA) := ⟨f5.k1.ints' f5.l1, f5.k2.ints' f5.l2, by omega, by omega⟩
   have ltCA := f5.k1.lt;have ltDA := f5.k2.lt;have nCDA := f5.ne;have yA1 := f5.b1;have yA2 := f5.b2;clear f5;replace q0 := q0.touch t5 nq0;replace TT := TT.trans t5;replace rd := R5;clear t5 R5;obtain ⟨gq0_0, gq0_1, gq0_2, gq0_3, gq0_4, gq0_5⟩ := q0.c6;have fq0_0 := q0.free 0;have fq0_1 := q0.free 1;have fq0_2 := q0.free 2;have fq0_3 := q0.free 3;have fq0_4 := q0.free 4;have fq0_5 := q0.free 5;have lq0 := q0.lt
   go_wp2
   clear gq0_0 gq0_1 gq0_2 gq0_3 gq0_4 gq0_5 fq0_0 fq0_1 fq0_2 fq0_3 fq0_4 fq0_5 lq0;have hwt := TT.size;have hlq := q0.lt;replace q0 := q0.set 0 (.int .i64 1);replace GA := GA.setFar (X := w.heap.size) (by omega) (by omega) 0 (.int .i64 1);replace rd := rd.setNew (B := w.heap.size) (by omega) (fun h0 b o e => by have := ha0 h0 b o e; omega) 0 (.int .i64 1);replace TT := TT.setNewF (B := w.heap.size) (by omega) 0 (.int .i64 1);replace q0 := q0.set 1 (.int .i64 0);replace GA := GA.setFar (X := w.heap.size) (by omega) (by omega) 1 (.int .i64 0);replace rd := rd.setNew (B := w.heap.size) (by omega) (fun h0 b o e => by have := ha0 h0 b o e; omega) 1 (.int .i64 0);replace TT := TT.setNewF (B := w.heap.size) (by omega) 1 (.int .i64 0);replace q0 := q0.set 2 (.int .i64 (1 + (i : Int)));replace GA := GA.setFar (X := w.heap.size) (by omega) (by omega) 2 (.int .i64 (1 + (i : Int)));replace rd := rd.setNew (B := w.heap.size) (by omega) (fun h0 b o e => by have := ha0 h0 b o e; omega) 2 (.int .i64 (1 + (i : Int)));replace TT := TT.setNewF (B := w.heap.size) (by omega) 2 (.int .i64 (1 + (i : Int)));replace q0 := q0.set 3 (.slice (some ⟨BA, 0, none⟩) 3 3);replace GA := GA.setFar (X := w.heap.size) (by omega) (by omega) 3 (.slice (some ⟨BA, 0, none⟩) 3 3);replace rd := rd.setNew (B := w.heap.size) (by omega) (fun h0 b o e => by have := ha0 h0 b o e; omega) 3 (.slice (some ⟨BA, 0, none⟩) 3 3);replace TT := TT.setNewF (B := w.heap.size) (by omega) 3 (.slice (some ⟨BA, 0, none⟩) 3 3)
   replace q0 := q0.set 4 (.slice (some ⟨DA, 0, none⟩) 2 2);replace GA := GA.setFar (X := w.heap.size) (by omega) (by omega) 4 (.slice (some ⟨DA, 0, none⟩) 2 2);replace rd := rd.setNew (B := w.heap.size) (by omega) (fun h0 b o e => by have := ha0 h0 b o e; omega) 4 (.slice (some ⟨DA, 0, none⟩) 2 2);replace TT := TT.setNewF (B := w.heap.size) (by omega) 4 (.slice (some ⟨DA, 0, none⟩) 2 2);replace q0 := q0.set 5 (.int .i64 KA);replace GA := GA.setFar (X := w.heap.size) (by omega) (by omega) 5 (.int .i64 KA);replace rd := rd.setNew (B := w.heap.size) (by omega) (fun h0 b o e => by have := ha0 h0 b o e; omega) 5 (.int .i64 KA);replace TT := TT.setNewF (B := w.heap.size) (by omega) 5 (.int .i64 KA);generalize ((((((w5.setCell ⟨w.heap.size, 0, none⟩ (.int .i64 1)).setCell ⟨w.heap.size, 1, none⟩ (.int .i64 0)).setCell ⟨w.heap.size, 2, none⟩ (.int .i64 (1 + (i : Int)))).setCell ⟨w.heap.size, 3, none⟩ (.slice (some ⟨BA, 0, none⟩) 3 3)).setCell ⟨w.heap.size, 4, none⟩ (.slice (some ⟨DA, 0, none⟩) 2 2)).setCell ⟨w.heap.size, 5, none⟩ (.int .i64 KA)) = W6 at TT rd q0 GA ⊢;have hws := TT.size;have u0 : W6.cell? ⟨w.heap.size, 0, none⟩ = some (.int .i64 1) := q0.cell 0;have u1 : W6.cell? ⟨w.heap.size, 1, none⟩ = some (.int .i64 0) := q0.cell 1;have u2 : W6.cell? ⟨w.heap.size, 2, none⟩ = some (.int .i64 (1 + (i : Int))) := q0.cell 2;have u3 : W6.cell? ⟨w.heap.size, 3, none⟩ = some (.slice (some ⟨BA, 0, none⟩) 3 3) := q0.cell 3
   have u4 : W6.cell? ⟨w.heap.size, 4, none⟩ = some (.slice (some ⟨DA, 0, none⟩) 2 2) := q0.cell 4;have u5 : W6.cell? ⟨w.heap.size, 5, none⟩ = some (.int .i64 KA) := q0.cell 5;refine bodyPost_ret (v := lnV ⟨1, 0, (1 + (i : Int)), ⟨some ⟨BA, 0, none⟩, 3, 3, some ⟨DA, 0, none⟩, 2, 2, KA, LCA, LDA⟩⟩) (by simp [results, Tryz.results171, go_sem, u0, u1, u2, u3, u4, u5]) rfl ⟨⟨1, 0, (1 + (i : Int)), ⟨some ⟨BA, 0, none⟩, 3, 3, some ⟨DA, 0, none⟩, 2, 2, KA, LCA, LDA⟩⟩, _, rfl, ⟨TT, rd, ⟨GA.C, GA.D, by simp only []; omega, by simp only []; omega⟩, fun b o e => by simp only [qA, qB] at e; have hb := GA.C.blk (by omega); omega, fun b o e => by simp only [qA, qB] at e; have hb := GA.D.blk (by omega); omega, lok1 (skip := 1 + (i : Int)) (small_of sCA sDA sKA1 sKA2) (by omega) (by omega), by omega, by omega⟩⟩
 iterate 3
  ·go_wp2_with fail
   have xA := q0.lt;refine (small_f R a n cap bs (p + 1) rd (by omega) (by omega) rd.ha).mono ?_;rintro e w4 ⟨BA, DA, LCA, LDA, KA, rfl, t5, R5, f5, sCA, sDA, sKA1, sKA2⟩;have zA1 : w.heap.size <= BA := Nat.le_trans TT.size f5.b1;have zA2 : w.heap.size <= DA := Nat.le_trans TT.size f5.b2;have lCA := f5.l1;have lDA := f5.l2;have GA : FA w4 (some ⟨BA, 0, none⟩) 3 (some ⟨DA, 0, none⟩) 2 (LCA, LDA, KA) := ⟨f5.k1.ints' f5.l1, f5.k2.ints' f5.l2, by omega, by omega⟩
   have ltCA := f5.k1.lt;have ltDA := f5.k2.lt;have nCDA := f5.ne;have yA1 := f5.b1;have yA2 := f5.b2;clear f5;replace q0 := q0.touch t5 nq0;replace TT := TT.trans t5;replace rd := R5;clear t5 R5;have hwt := TT.size;have hlq := q0.lt;have al := (Below.refl w4.heap.size w4).alloc (qD _) (.cells #[.slice (some ⟨BA, 0, none⟩) 3 3, .slice (some ⟨DA, 0, none⟩) 2 2, .int .i64 KA] 95);have qf := Cel.new w4 [.slice (some ⟨BA, 0, none⟩) 3 3, .slice (some ⟨DA, 0, none⟩) 2 2, .int .i64 KA] 95;replace q0 := q0.below al;replace GA := GA.below al;replace TT := TT.trans (Touch.of al);replace rd := rd.below al;clear al
   go_wp2_with fail
   generalize (w4.alloc (.cells #[.slice (some ⟨BA, 0, none⟩) 3 3, .slice (some ⟨DA, 0, none⟩) 2 2, .int .i64 KA] 95)) = W5 at TT rd q0 GA qf ⊢;obtain ⟨XF, hXF⟩ : ∃ x, x = w4.heap.size := ⟨_, rfl⟩
   rw [<- hXF];rw [<- hXF] at qf hwt;have nqf : XF ≠ R := by omega
   have hXw : w.heap.size < XF := by omega
   have nXB : BA ≠ XF := by omega
   have nXD : DA ≠ XF := by omega
   clear hXF;refine (pick_any R a n cap bs (p + 1 + 6) 3 rd).mono ?_;rintro e w6 ⟨rk, hk0, hk1, rfl, t5, R5⟩;obtain ⟨k, rfl⟩ := Int.eq_ofNat_of_zero_le hk0;clear hk0;replace q0 := q0.touch t5 nq0;replace GA := GA.far t5 (lo := w.heap.size) (fun k hk => by omega) zA1 zA2;replace qf := qf.touch t5 nqf;replace TT := TT.trans t5;replace rd := R5;clear t5 R5
   by_cases hk : (k : Int) = 0
   ·have hk' : ¬ (0 : Int) < (k : Int) := by omega
    go_upto_region 11 with fail
    refine wp_region_ends (fun X => X.cell? ⟨XF, 0, none⟩ = some (.slice (some ⟨BA, 0, none⟩) 3 3) /\ X.cell? ⟨XF, 1, none⟩ = some (.slice (some ⟨DA, 0, none⟩) 2 2) /\ X.cell? ⟨XF, 2, none⟩ = some (.int .i64 KA)) (fun _ => True) 5 (by kernel_rfl) ?_;have dr : Below w6.heap.size w6 w6.drew := (Below.refl _ _).drew;replace q0 := q0.below dr;replace GA := GA.below dr;replace qf := qf.below dr;replace TT := TT.trans (Touch.of dr);replace rd := rd.below dr;clear dr;generalize w6.drew = V7 at TT rd q0 GA qf ⊢;have hSS : (fun X : World => X.cell? ⟨XF, 0, none⟩ = some (.slice (some ⟨BA, 0, none⟩) 3 3) /\ X.cell? ⟨XF, 1, none⟩ = some (.slice (some ⟨DA, 0, none⟩) 2 2) /\ X.cell? ⟨XF, 2, none⟩ = some (.int .i64 KA)) V7 /\ True := ⟨⟨qf.cell 0, qf.cell 1, qf.cell 2⟩, trivial⟩
    refine tkl 0 rfl hSS ?_;refine tkl 2 rfl hSS ?_;refine wpAnyE_one (i := 1) (by kernel_rfl) rfl (fun Kn hK => ?_);go_simp;refine (pick_any R a n cap bs (p + 1 + 6 + 1) 3 rd).mono ?_;rintro e w8 ⟨ri, hi0, hi1, rfl, t5, R5⟩;obtain ⟨i, rfl⟩ := Int.eq_ofNat_of_zero_le hi0;clear hi0;replace q0 := q0.touch t5 nq0;replace GA := GA.far t5 (lo := w.heap.size) (fun k hk => by omega) zA1 zA2;replace qf := qf.touch t5 nqf;replace TT := TT.trans t5;replace rd := R5;clear t5 R5;dsimp only;clear hSS;have hSS : (fun X : World => X.cell? ⟨XF, 0, none⟩ = some (.slice (some ⟨BA, 0, none⟩) 3 3) /\ X.cell? ⟨XF, 1, none⟩ = some (.slice (some ⟨DA, 0, none⟩) 2 2) /\ X.cell? ⟨XF, 2, none⟩ = some (.int .i64 KA)) w8 /\ True := ⟨⟨qf.cell 0, qf.cell 1, qf.cell 2⟩, trivial⟩
    refine kk0 hK (hSS.1) ?_;clear hK;refine tkl 3 rfl hSS ?_;refine wpAnyE_one (i := 4) (by kernel_rfl) rfl (fun Kn hK => ?_);obtain ⟨gq0_0, gq0_1, gq0_2, gq0_3, gq0_4, gq0_5⟩ := q0.c6;have fq0_0 := q0.free 0;have fq0_1 := q0.free 1;have fq0_2 := q0.free 2;have fq0_3 := q0.free 3;have fq0_4 := q0.free 4;have fq0_5 := q0.free 5;have lq0 := q0.lt;go_simp;clear gq0_0 gq0_1 gq0_2 gq0_3 gq0_4 gq0_5 fq0_0 fq0_1 fq0_2 fq0_3 fq0_4 fq0_5 lq0;have hwt2 := TT.size;have hlq2 := q0.lt;replace q0 := q0.set 0 (.int .i64 2);replace GA := GA.setFar (X := w.heap.size) (by omega) (by omega) 0 (.int .i64 2);replace qf := qf.setOther (B' := w.heap.size) (by omega) 0 (.int .i64 2);replace rd := rd.setNew (B := w.heap.size) (by omega) (fun h0 b o e => by have := ha0 h0 b o e; omega) 0 (.int .i64 2);replace TT := TT.setNewF (B := w.heap.size) (by omega) 0 (.int .i64 2);replace q0 := q0.set 1 (.int .i64 (i : Int));replace GA := GA.setFar (X := w.heap.size) (by omega) (by omega) 1 (.int .i64 (i : Int));replace qf := qf.setOther (B' := w.heap.size) (by omega) 1 (.int .i64 (i : Int));replace rd := rd.setNew (B := w.heap.size) (by omega) (fun h0 b o e => by have := ha0 h0 b o e; omega) 1 (.int .i64 (i : Int));replace TT := TT.setNewF (B := w.heap.size) (by omega) 1 (.int .i64 (i : Int));replace q0 := q0.set 2 (.int .i64 0);replace GA := GA.setFar (X := w.heap.size) (by omega) (by omega) 2 (.int .i64 0);replace qf := qf.setOther (B' := w.heap.size) (by omega) 2 (.int .i64 0)
    replace rd := rd.setNew (B := w.heap.size) (by omega) (fun h0 b o e => by have := ha0 h0 b o e; omega) 2 (.int .i64 0);replace TT := TT.setNewF (B := w.heap.size) (by omega) 2 (.int .i64 0);replace q0 := q0.set 3 (.slice (some ⟨BA, 0, none⟩) 3 3);replace GA := GA.setFar (X := w.heap.size) (by omega) (by omega) 3 (.slice (some ⟨BA, 0, none⟩) 3 3);replace qf := qf.setOther (B' := w.heap.size) (by omega) 3 (.slice (some ⟨BA, 0, none⟩) 3 3);replace rd := rd.setNew (B := w.heap.size) (by omega) (fun h0 b o e => by have := ha0 h0 b o e; omega) 3 (.slice (some ⟨BA, 0, none⟩) 3 3);replace TT := TT.setNewF (B := w.heap.size) (by omega) 3 (.slice (some ⟨BA, 0, none⟩) 3 3);replace q0 := q0.set 4 (.slice (some ⟨DA, 0, none⟩) 2 2);replace GA := GA.setFar (X := w.heap.size) (by omega) (by omega) 4 (.slice (some ⟨DA, 0, none⟩) 2 2);replace qf := qf.setOther (B' := w.heap.size) (by omega) 4 (.slice (some ⟨DA, 0, none⟩) 2 2);replace rd := rd.setNew (B := w.heap.size) (by omega) (fun h0 b o e => by have := ha0 h0 b o e; omega) 4 (.slice (some ⟨DA, 0, none⟩) 2 2);replace TT := TT.setNewF (B := w.heap.size) (by omega) 4 (.slice (some ⟨DA, 0, none⟩) 2 2);replace q0 := q0.set 5 (.int .i64 KA);replace GA := GA.setFar (X := w.heap.size) (by omega) (by omega) 5 (.int .i64 KA);replace qf := qf.setOther (B' := w.heap.size) (by omega) 5 (.int .i64 KA);replace rd := rd.setNew (B := w.heap.size) (by omega) (fun h0 b o e => by have := ha0 h0 b o e; omega) 5 (.int .i64 KA)
    replace TT := TT.setNewF (B := w.heap.size) (by omega) 5 (.int .i64 KA);generalize ((((((w8.setCell ⟨w.heap.size, 0, none⟩ (.int .i64 2)).setCell ⟨w.heap.size, 1, none⟩ (.int .i64 (i : Int))).setCell ⟨w.heap.size, 2, none⟩ (.int .i64 0)).setCell ⟨w.heap.size, 3, none⟩ (.slice (some ⟨BA, 0, none⟩) 3 3)).setCell ⟨w.heap.size, 4, none⟩ (.slice (some ⟨DA, 0, none⟩) 2 2)).setCell ⟨w.heap.size, 5, none⟩ (.int .i64 KA)) = W9 at TT rd q0 GA qf ⊢;clear hSS;have hSS : (fun X : World => X.cell? ⟨XF, 0, none⟩ = some (.slice (some ⟨BA, 0, none⟩) 3 3) /\ X.cell? ⟨XF, 1, none⟩ = some (.slice (some ⟨DA, 0, none⟩) 2 2) /\ X.cell? ⟨XF, 2, none⟩ = some (.int .i64 KA)) W9 /\ True := ⟨⟨qf.cell 0, qf.cell 1, qf.cell 2⟩, trivial⟩
    refine kk0 hK (hSS.1) ?_;clear hK;refine wod ?_ _;clear hSS
    go_wp2
    have hws := TT.size;have u0 : W9.cell? ⟨w.heap.size, 0, none⟩ = some (.int .i64 2) := q0.cell 0;have u1 : W9.cell? ⟨w.heap.size, 1, none⟩ = some (.int .i64 (i : Int)) := q0.cell 1;have u2 : W9.cell? ⟨w.heap.size, 2, none⟩ = some (.int .i64 0) := q0.cell 2;have u3 : W9.cell? ⟨w.heap.size, 3, none⟩ = some (.slice (some ⟨BA, 0, none⟩) 3 3) := q0.cell 3;have u4 : W9.cell? ⟨w.heap.size, 4, none⟩ = some (.slice (some ⟨DA, 0, none⟩) 2 2) := q0.cell 4;have u5 : W9.cell? ⟨w.heap.size, 5, none⟩ = some (.int .i64 KA) := q0.cell 5;refine bodyPost_ret (v := lnV ⟨2, (i : Int), 0, ⟨some ⟨BA, 0, none⟩, 3, 3, some ⟨DA, 0, none⟩, 2, 2, KA, LCA, LDA⟩⟩) (by simp [results, Tryz.results171, go_sem, u0, u1, u2, u3, u4, u5]) rfl ⟨⟨2, (i : Int), 0, ⟨some ⟨BA, 0, none⟩, 3, 3, some ⟨DA, 0, none⟩, 2, 2, KA, LCA, LDA⟩⟩, _, rfl, ⟨TT, rd, ⟨GA.C, GA.D, by simp only []; omega, by simp only []; omega⟩, fun b o e => by simp only [qA, qB] at e; have hb := GA.C.blk (by omega); omega, fun b o e => by simp only [qA, qB] at e; have hb := GA.D.blk (by omega); omega, lok2 (pot := (i : Int)) (small_of sCA sDA sKA1 sKA2) (by omega) (by omega), by omega, by omega⟩⟩
   have hk' : (0 : Int) < (k : Int) := by omega
   obtain ⟨gqf_0, gqf_1, gqf_2⟩ := qf.c3;have fqf_0 := qf.free 0;have fqf_1 := qf.free 1;have fqf_2 := qf.free 2;have lqf := qf.lt
   go_upto_region 11 with fail
   clear gqf_0 gqf_1 gqf_2 fqf_0 fqf_1 fqf_2 lqf;have hwz := TT.size;have ltF := qf.lt;obtain ⟨BM, hBM⟩ : ∃ x, x = w6.heap.size := ⟨_, rfl⟩
   rw [<- hBM];rw [<- hBM] at hwz ltF;have nXM : BM ≠ XF := by omega
   have nRM : BM ≠ R := by omega
   replace q0 := q0.setOther (B' := XF) (by omega) 0 (.slice (some ⟨BM, 0, none⟩) 3 3);replace GA := GA.setFar (X := XF) (by omega) (by omega) 0 (.slice (some ⟨BM, 0, none⟩) 3 3);replace qf := qf.set 0 (.slice (some ⟨BM, 0, none⟩) 3 3);replace rd := rd.setNew (B := XF) (by omega) (fun h0 b o e => by have := ha0 h0 b o e; omega) 0 (.slice (some ⟨BM, 0, none⟩) 3 3);replace TT := TT.setNewF (B := XF) (by omega) 0 (.slice (some ⟨BM, 0, none⟩) 3 3);have al := (Below.refl (w6.setCell ⟨XF, 0, none⟩ (.slice (some ⟨BM, 0, none⟩) 3 3)).heap.size (w6.setCell ⟨XF, 0, none⟩ (.slice (some ⟨BM, 0, none⟩) 3 3))).alloc (qD _) (.cells #[.int .i64 0, .int .i64 0, .int .i64 0] 3);have kz : Blk ((w6.setCell ⟨XF, 0, none⟩ (.slice (some ⟨BM, 0, none⟩) 3 3)).alloc (.cells #[.int .i64 0, .int .i64 0, .int .i64 0] 3)) (w6.setCell ⟨XF, 0, none⟩ (.slice (some ⟨BM, 0, none⟩) 3 3)).heap.size [0, 0, 0] := heap_alloc_new (w6.setCell ⟨XF, 0, none⟩ (.slice (some ⟨BM, 0, none⟩) 3 3)) _;rw [show (w6.setCell ⟨XF, 0, none⟩ (.slice (some ⟨BM, 0, none⟩) 3 3)).heap.size = BM from by rw [size_setCell]; exact hBM.symm] at kz;clear hBM;replace q0 := q0.below al;replace GA := GA.below al;replace qf := qf.below al;replace TT := TT.trans (Touch.of al);replace rd := rd.below al;clear al;have hzl := kz.lt
   have GM : FA ((w6.setCell ⟨XF, 0, none⟩ (.slice (some ⟨BM, 0, none⟩) 3 3)).alloc (.cells #[.int .i64 0, .int .i64 0, .int .i64 0] 3)) (some ⟨BM, 0, none⟩) 3 (some ⟨DA, 0, none⟩) 2 ([0, 0, 0], LDA, KA) := ⟨kz.ints' rfl, GA.D, by omega, by omega⟩
   clear kz GA;have zM1 : w.heap.size <= BM := hwz;have zM2 := zA2;have hBMw : w.heap.size < BM := by omega
   generalize ((w6.setCell ⟨XF, 0, none⟩ (.slice (some ⟨BM, 0, none⟩) 3 3)).alloc (.cells #[.int .i64 0, .int .i64 0, .int .i64 0] 3)) = W7 at TT rd q0 qf GM ⊢;refine wp_region_ends (fun X => X.cell? ⟨XF, 0, none⟩ = some (.slice (some ⟨BM, 0, none⟩) 3 3) /\ X.cell? ⟨XF, 1, none⟩ = some (.slice (some ⟨DA, 0, none⟩) 2 2) /\ X.cell? ⟨XF, 2, none⟩ = some (.int .i64 KA)) (fun _ => True) 5 (by kernel_rfl) ?_;have dr : Below W7.heap.size W7 W7.drew := (Below.refl _ _).drew;replace q0 := q0.below dr;replace qf := qf.below dr;replace GM := GM.below dr;replace TT := TT.trans (Touch.of dr);replace rd := rd.below dr;clear dr;generalize W7.drew = V8 at TT rd q0 qf GM ⊢;have hSS : (fun X : World => X.cell? ⟨XF, 0, none⟩ = some (.slice (some ⟨BM, 0, none⟩) 3 3) /\ X.cell? ⟨XF, 1, none⟩ = some (.slice (some ⟨DA, 0, none⟩) 2 2) /\ X.cell? ⟨XF, 2, none⟩ = some (.int .i64 KA)) V8 /\ True := ⟨⟨qf.cell 0, qf.cell 1, qf.cell 2⟩, trivial⟩
   refine tkl 0 rfl hSS ?_;refine tkl 2 rfl hSS ?_;refine wpAnyE_one (i := 1) (by kernel_rfl) rfl (fun Kn hK => ?_);go_simp;refine (pick_any R a n cap bs (p + 1 + 6 + 1) 3 rd).mono ?_;rintro e w9 ⟨ri, hi0, hi1, rfl, t5, R5⟩;obtain ⟨i, rfl⟩ := Int.eq_ofNat_of_zero_le hi0;clear hi0;replace q0 := q0.touch t5 nq0;replace qf := qf.touch t5 nqf;replace GM := GM.far t5 (lo := w.heap.size) (fun k hk => by omega) zM1 zM2;replace TT := TT.trans t5;replace rd := R5;clear t5 R5;dsimp only;clear hSS;have hSS : (fun X : World => X.cell? ⟨XF, 0, none⟩ = some (.slice (some ⟨BM, 0, none⟩) 3 3) /\ X.cell? ⟨XF, 1, none⟩ = some (.slice (some ⟨DA, 0, none⟩) 2 2) /\ X.cell? ⟨XF, 2, none⟩ = some (.int .i64 KA)) w9 /\ True := ⟨⟨qf.cell 0, qf.cell 1, qf.cell 2⟩, trivial⟩
   refine kk0 hK (hSS.1) ?_;clear hK;refine tkl 3 rfl hSS ?_;refine wpAnyE_one (i := 4) (by kernel_rfl) rfl (fun Kn hK => ?_);obtain ⟨gq0_0, gq0_1, gq0_2, gq0_3, gq0_4, gq0_5⟩ := q0.c6;have fq0_0 := q0.free 0;have fq0_1 := q0.free 1;have fq0_2 := q0.free 2;have fq0_3 := q0.free 3;have fq0_4 := q0.free 4;have fq0_5 := q0.free 5;have lq0 := q0.lt;go_simp;clear gq0_0 gq0_1 gq0_2 gq0_3 gq0_4 gq0_5 fq0_0 fq0_1 fq0_2 fq0_3 fq0_4 fq0_5 lq0;have hwt2 := TT.size;have hlq2 := q0.lt;replace q0 := q0.set 0 (.int .i64 2);replace qf := qf.setOther (B' := w.heap.size) (by omega) 0 (.int .i64 2);replace GM := GM.setFar (X := w.heap.size) (by omega) (by omega) 0 (.int .i64 2);replace rd := rd.setNew (B := w.heap.size) (by omega) (fun h0 b o e => by have := ha0 h0 b o e; omega) 0 (.int .i64 2);replace TT := TT.setNewF (B := w.heap.size) (by omega) 0 (.int .i64 2);replace q0 := q0.set 1 (.int .i64 (i : Int));replace qf := qf.setOther (B' := w.heap.size) (by omega) 1 (.int .i64 (i : Int));replace GM := GM.setFar (X := w.heap.size) (by omega) (by omega) 1 (.int .i64 (i : Int));replace rd := rd.setNew (B := w.heap.size) (by omega) (fun h0 b o e => by have := ha0 h0 b o e; omega) 1 (.int .i64 (i : Int));replace TT := TT.setNewF (B := w.heap.size) (by omega) 1 (.int .i64 (i : Int));replace q0 := q0.set 2 (.int .i64 0);replace qf := qf.setOther (B' := w.heap.size) (by omega) 2 (.int .i64 0);replace GM := GM.setFar (X := w.heap.size) (by omega) (by omega) 2 (.int .i64 0)
   replace rd := rd.setNew (B := w.heap.size) (by omega) (fun h0 b o e => by have := ha0 h0 b o e; omega) 2 (.int .i64 0);replace TT := TT.setNewF (B := w.heap.size) (by omega) 2 (.int .i64 0);replace q0 := q0.set 3 (.slice (some ⟨BM, 0, none⟩) 3 3);replace qf := qf.setOther (B' := w.heap.size) (by omega) 3 (.slice (some ⟨BM, 0, none⟩) 3 3);replace GM := GM.setFar (X := w.heap.size) (by omega) (by omega) 3 (.slice (some ⟨BM, 0, none⟩) 3 3);replace rd := rd.setNew (B := w.heap.size) (by omega) (fun h0 b o e => by have := ha0 h0 b o e; omega) 3 (.slice (some ⟨BM, 0, none⟩) 3 3);replace TT := TT.setNewF (B := w.heap.size) (by omega) 3 (.slice (some ⟨BM, 0, none⟩) 3 3);replace q0 := q0.set 4 (.slice (some ⟨DA, 0, none⟩) 2 2);replace qf := qf.setOther (B' := w.heap.size) (by omega) 4 (.slice (some ⟨DA, 0, none⟩) 2 2);replace GM := GM.setFar (X := w.heap.size) (by omega) (by omega) 4 (.slice (some ⟨DA, 0, none⟩) 2 2);replace rd := rd.setNew (B := w.heap.size) (by omega) (fun h0 b o e => by have := ha0 h0 b o e; omega) 4 (.slice (some ⟨DA, 0, none⟩) 2 2);replace TT := TT.setNewF (B := w.heap.size) (by omega) 4 (.slice (some ⟨DA, 0, none⟩) 2 2);replace q0 := q0.set 5 (.int .i64 KA);replace qf := qf.setOther (B' := w.heap.size) (by omega) 5 (.int .i64 KA);replace GM := GM.setFar (X := w.heap.size) (by omega) (by omega) 5 (.int .i64 KA);replace rd := rd.setNew (B := w.heap.size) (by omega) (fun h0 b o e => by have := ha0 h0 b o e; omega) 5 (.int .i64 KA)
   replace TT := TT.setNewF (B := w.heap.size) (by omega) 5 (.int .i64 KA);generalize ((((((w9.setCell ⟨w.heap.size, 0, none⟩ (.int .i64 2)).setCell ⟨w.heap.size, 1, none⟩ (.int .i64 (i : Int))).setCell ⟨w.heap.size, 2, none⟩ (.int .i64 0)).setCell ⟨w.heap.size, 3, none⟩ (.slice (some ⟨BM, 0, none⟩) 3 3)).setCell ⟨w.heap.size, 4, none⟩ (.slice (some ⟨DA, 0, none⟩) 2 2)).setCell ⟨w.heap.size, 5, none⟩ (.int .i64 KA)) = W10 at TT rd q0 qf GM ⊢;clear hSS;have hSS : (fun X : World => X.cell? ⟨XF, 0, none⟩ = some (.slice (some ⟨BM, 0, none⟩) 3 3) /\ X.cell? ⟨XF, 1, none⟩ = some (.slice (some ⟨DA, 0, none⟩) 2 2) /\ X.cell? ⟨XF, 2, none⟩ = some (.int .i64 KA)) W10 /\ True := ⟨⟨qf.cell 0, qf.cell 1, qf.cell 2⟩, trivial⟩
   refine kk0 hK (hSS.1) ?_;clear hK;refine wod ?_ _;clear hSS
   go_wp2
   have hws := TT.size;have u0 : W10.cell? ⟨w.heap.size, 0, none⟩ = some (.int .i64 2) := q0.cell 0;have u1 : W10.cell? ⟨w.heap.size, 1, none⟩ = some (.int .i64 (i : Int)) := q0.cell 1;have u2 : W10.cell? ⟨w.heap.size, 2, none⟩ = some (.int .i64 0) := q0.cell 2;have u3 : W10.cell? ⟨w.heap.size, 3, none⟩ = some (.slice (some ⟨BM, 0, none⟩) 3 3) := q0.cell 3;have u4 : W10.cell? ⟨w.heap.size, 4, none⟩ = some (.slice (some ⟨DA, 0, none⟩) 2 2) := q0.cell 4;have u5 : W10.cell? ⟨w.heap.size, 5, none⟩ = some (.int .i64 KA) := q0.cell 5;refine bodyPost_ret (v := lnV ⟨2, (i : Int), 0, ⟨some ⟨BM, 0, none⟩, 3, 3, some ⟨DA, 0, none⟩, 2, 2, KA, [0, 0, 0], LDA⟩⟩) (by simp [results, Tryz.results171, go_sem, u0, u1, u2, u3, u4, u5]) rfl ⟨⟨2, (i : Int), 0, ⟨some ⟨BM, 0, none⟩, 3, 3, some ⟨DA, 0, none⟩, 2, 2, KA, [0, 0, 0], LDA⟩⟩, _, rfl, ⟨TT, rd, ⟨GM.C, GM.D, by simp only []; omega, by simp only []; omega⟩, fun b o e => by simp only [qA, qB] at e; have hb := GM.C.blk (by omega); omega, fun b o e => by simp only [qA, qB] at e; have hb := GM.D.blk (by omega); omega, lok2 (pot := (i : Int)) (small_of (fun i => by rcases i with _ | _ | _ | i <;> simp) sDA sKA1 sKA2) (by omega) (by omega), by omega, by omega⟩⟩
 ·go_wp2_with fail
  have xA := q0.lt;refine (small_f R a n cap bs (p + 1) rd (by omega) (by omega) rd.ha).mono ?_;rintro e w4 ⟨BA, DA, LCA, LDA, KA, rfl, t5, R5, f5, sCA, sDA, sKA1, sKA2⟩;have zA1 : w.heap.size <= BA := Nat.le_trans TT.size f5.b1;have zA2 : w.heap.size <= DA := Nat.le_trans TT.size f5.b2;have lCA := f5.l1;have lDA := f5.l2;have GA : FA w4 (some ⟨BA, 0, none⟩) 3 (some ⟨DA, 0, none⟩) 2 (LCA, LDA, KA) := ⟨f5.k1.ints' f5.l1, f5.k2.ints' f5.l2, by omega, by omega⟩
  have ltCA := f5.k1.lt;have ltDA := f5.k2.lt;have nCDA := f5.ne;have yA1 := f5.b1;have yA2 := f5.b2;clear f5;replace q0 := q0.touch t5 nq0;replace TT := TT.trans t5;replace rd := R5;clear t5 R5;obtain ⟨gq0_0, gq0_1, gq0_2, gq0_3, gq0_4, gq0_5⟩ := q0.c6;have fq0_0 := q0.free 0;have fq0_1 := q0.free 1;have fq0_2 := q0.free 2;have fq0_3 := q0.free 3;have fq0_4 := q0.free 4;have fq0_5 := q0.free 5;have lq0 := q0.lt
  go_wp2
  clear gq0_0 gq0_1 gq0_2 gq0_3 gq0_4 gq0_5 fq0_0 fq0_1 fq0_2 fq0_3 fq0_4 fq0_5 lq0;have hwt := TT.size;have hlq := q0.lt;replace q0 := q0.set 0 (.int .i64 3);replace GA := GA.setFar (X := w.heap.size) (by omega) (by omega) 0 (.int .i64 3);replace rd := rd.setNew (B := w.heap.size) (by omega) (fun h0 b o e => by have := ha0 h0 b o e; omega) 0 (.int .i64 3);replace TT := TT.setNewF (B := w.heap.size) (by omega) 0 (.int .i64 3);replace q0 := q0.set 1 (.int .i64 0);replace GA := GA.setFar (X := w.heap.size) (by omega) (by omega) 1 (.int .i64 0);replace rd := rd.setNew (B := w.heap.size) (by omega) (fun h0 b o e => by have := ha0 h0 b o e; omega) 1 (.int .i64 0);replace TT := TT.setNewF (B := w.heap.size) (by omega) 1 (.int .i64 0);replace q0 := q0.set 2 (.int .i64 0);replace GA := GA.setFar (X := w.heap.size) (by omega) (by omega) 2 (.int .i64 0);replace rd := rd.setNew (B := w.heap.size) (by omega) (fun h0 b o e => by have := ha0 h0 b o e; omega) 2 (.int .i64 0);replace TT := TT.setNewF (B := w.heap.size) (by omega) 2 (.int .i64 0);replace q0 := q0.set 3 (.slice (some ⟨BA, 0, none⟩) 3 3);replace GA := GA.setFar (X := w.heap.size) (by omega) (by omega) 3 (.slice (some ⟨BA, 0, none⟩) 3 3);replace rd := rd.setNew (B := w.heap.size) (by omega) (fun h0 b o e => by have := ha0 h0 b o e; omega) 3 (.slice (some ⟨BA, 0, none⟩) 3 3);replace TT := TT.setNewF (B := w.heap.size) (by omega) 3 (.slice (some ⟨BA, 0, none⟩) 3 3);replace q0 := q0.set 4 (.slice (some ⟨DA, 0, none⟩) 2 2)
  replace GA := GA.setFar (X := w.heap.size) (by omega) (by omega) 4 (.slice (some ⟨DA, 0, none⟩) 2 2);replace rd := rd.setNew (B := w.heap.size) (by omega) (fun h0 b o e => by have := ha0 h0 b o e; omega) 4 (.slice (some ⟨DA, 0, none⟩) 2 2);replace TT := TT.setNewF (B := w.heap.size) (by omega) 4 (.slice (some ⟨DA, 0, none⟩) 2 2);replace q0 := q0.set 5 (.int .i64 KA);replace GA := GA.setFar (X := w.heap.size) (by omega) (by omega) 5 (.int .i64 KA);replace rd := rd.setNew (B := w.heap.size) (by omega) (fun h0 b o e => by have := ha0 h0 b o e; omega) 5 (.int .i64 KA);replace TT := TT.setNewF (B := w.heap.size) (by omega) 5 (.int .i64 KA);generalize ((((((w4.setCell ⟨w.heap.size, 0, none⟩ (.int .i64 3)).setCell ⟨w.heap.size, 1, none⟩ (.int .i64 0)).setCell ⟨w.heap.size, 2, none⟩ (.int .i64 0)).setCell ⟨w.heap.size, 3, none⟩ (.slice (some ⟨BA, 0, none⟩) 3 3)).setCell ⟨w.heap.size, 4, none⟩ (.slice (some ⟨DA, 0, none⟩) 2 2)).setCell ⟨w.heap.size, 5, none⟩ (.int .i64 KA)) = W5 at TT rd q0 GA ⊢;have hws := TT.size;have u0 : W5.cell? ⟨w.heap.size, 0, none⟩ = some (.int .i64 3) := q0.cell 0;have u1 : W5.cell? ⟨w.heap.size, 1, none⟩ = some (.int .i64 0) := q0.cell 1;have u2 : W5.cell? ⟨w.heap.size, 2, none⟩ = some (.int .i64 0) := q0.cell 2;have u3 : W5.cell? ⟨w.heap.size, 3, none⟩ = some (.slice (some ⟨BA, 0, none⟩) 3 3) := q0.cell 3;have u4 : W5.cell? ⟨w.heap.size, 4, none⟩ = some (.slice (some ⟨DA, 0, none⟩) 2 2) := q0.cell 4
  have u5 : W5.cell? ⟨w.heap.size, 5, none⟩ = some (.int .i64 KA) := q0.cell 5;refine bodyPost_ret (v := lnV ⟨3, 0, 0, ⟨some ⟨BA, 0, none⟩, 3, 3, some ⟨DA, 0, none⟩, 2, 2, KA, LCA, LDA⟩⟩) (by simp [results, Tryz.results171, go_sem, u0, u1, u2, u3, u4, u5]) rfl ⟨⟨3, 0, 0, ⟨some ⟨BA, 0, none⟩, 3, 3, some ⟨DA, 0, none⟩, 2, 2, KA, LCA, LDA⟩⟩, _, rfl, ⟨TT, rd, ⟨GA.C, GA.D, by simp only []; omega, by simp only []; omega⟩, fun b o e => by simp only [qA, qB] at e; have hb := GA.C.blk (by omega); omega, fun b o e => by simp only [qA, qB] at e; have hb := GA.D.blk (by omega); omega, lok3 (small_of sCA sDA sKA1 sKA2), by omega, by omega⟩⟩
 obtain ⟨gq0_0, gq0_1, gq0_2, gq0_3, gq0_4, gq0_5⟩ := q0.c6;have fq0_0 := q0.free 0;have fq0_1 := q0.free 1;have fq0_2 := q0.free 2;have fq0_3 := q0.free 3;have fq0_4 := q0.free 4;have fq0_5 := q0.free 5;have lq0 := q0.lt
 go_wp2
 clear gq0_0 gq0_1 gq0_2 gq0_3 gq0_4 gq0_5 fq0_0 fq0_1 fq0_2 fq0_3 fq0_4 fq0_5 lq0;have hwt := TT.size;have hlq := q0.lt;replace q0 := q0.set 0 (.int .i64 4);replace rd := rd.setNew (B := w.heap.size) (by omega) (fun h0 b o e => by have := ha0 h0 b o e; omega) 0 (.int .i64 4);replace TT := TT.setNewF (B := w.heap.size) (by omega) 0 (.int .i64 4);replace q0 := q0.set 1 (.int .i64 0);replace rd := rd.setNew (B := w.heap.size) (by omega) (fun h0 b o e => by have := ha0 h0 b o e; omega) 1 (.int .i64 0);replace TT := TT.setNewF (B := w.heap.size) (by omega) 1 (.int .i64 0);replace q0 := q0.set 2 (.int .i64 0);replace rd := rd.setNew (B := w.heap.size) (by omega) (fun h0 b o e => by have := ha0 h0 b o e; omega) 2 (.int .i64 0);replace TT := TT.setNewF (B := w.heap.size) (by omega) 2 (.int .i64 0);replace q0 := q0.set 3 (.slice none 0 0);replace rd := rd.setNew (B := w.heap.size) (by omega) (fun h0 b o e => by have := ha0 h0 b o e; omega) 3 (.slice none 0 0);replace TT := TT.setNewF (B := w.heap.size) (by omega) 3 (.slice none 0 0);replace q0 := q0.set 4 (.slice none 0 0);replace rd := rd.setNew (B := w.heap.size) (by omega) (fun h0 b o e => by have := ha0 h0 b o e; omega) 4 (.slice none 0 0);replace TT := TT.setNewF (B := w.heap.size) (by omega) 4 (.slice none 0 0);replace q0 := q0.set 5 (.int .i64 0);replace rd := rd.setNew (B := w.heap.size) (by omega) (fun h0 b o e => by have := ha0 h0 b o e; omega) 5 (.int .i64 0)
 replace TT := TT.setNewF (B := w.heap.size) (by omega) 5 (.int .i64 0);generalize ((((((w3.setCell ⟨w.heap.size, 0, none⟩ (.int .i64 4)).setCell ⟨w.heap.size, 1, none⟩ (.int .i64 0)).setCell ⟨w.heap.size, 2, none⟩ (.int .i64 0)).setCell ⟨w.heap.size, 3, none⟩ (.slice none 0 0)).setCell ⟨w.heap.size, 4, none⟩ (.slice none 0 0)).setCell ⟨w.heap.size, 5, none⟩ (.int .i64 0)) = W4 at TT rd q0 ⊢;have hws := TT.size;have u0 : W4.cell? ⟨w.heap.size, 0, none⟩ = some (.int .i64 4) := q0.cell 0;have u1 : W4.cell? ⟨w.heap.size, 1, none⟩ = some (.int .i64 0) := q0.cell 1;have u2 : W4.cell? ⟨w.heap.size, 2, none⟩ = some (.int .i64 0) := q0.cell 2;have u3 : W4.cell? ⟨w.heap.size, 3, none⟩ = some (.slice none 0 0) := q0.cell 3;have u4 : W4.cell? ⟨w.heap.size, 4, none⟩ = some (.slice none 0 0) := q0.cell 4;have u5 : W4.cell? ⟨w.heap.size, 5, none⟩ = some (.int .i64 0) := q0.cell 5;refine bodyPost_ret (v := lnV ⟨4, 0, 0, ⟨none, 0, 0, none, 0, 0, 0, [], []⟩⟩) (by simp [results, Tryz.results171, go_sem, u0, u1, u2, u3, u4, u5]) rfl ⟨⟨4, 0, 0, ⟨none, 0, 0, none, 0, 0, 0, [], []⟩⟩, _, rfl, ⟨TT, rd, ⟨⟨rfl, fun i hi => absurd hi (Nat.not_lt_zero _)⟩, ⟨rfl, fun i hi => absurd hi (Nat.not_lt_zero _)⟩, Nat.zero_le _, Nat.zero_le _⟩, (fun b o e => by cases e), (fun b o e => by cases e), by decide, by omega, by omega⟩⟩
theorem flatL_at : ∀ (ls : List LV) (i : Nat), i < ls.length -> ∀ r, r < 6 -> (ls.flatMap LV.cs)[i * 6 + r]? = (ls[i]?.getD noLV).cs[r]? := by
 intro ls
 induction ls with
 | nil => intro i hi; simp at hi
 | cons g gs ih =>
  intro i hi r hr
  rcases i with _ | i
  ·simp only [List.flatMap_cons, Nat.zero_mul, Nat.zero_add, List.getElem?_cons_zero, Option.getD_some];rw [List.getElem?_append_left (by simp [LV.cs]; omega)]
  simp only [List.flatMap_cons, List.getElem?_cons_succ];rw [List.getElem?_append_right (by simp [LV.cs]; omega)];have e : (i + 1) * 6 + r - g.cs.length = i * 6 + r := by simp [LV.cs]; omega
  rw [e]
  exact ih i (by simpa using hi) r hr
theorem flatL_len (ls : List LV) : (ls.flatMap LV.cs).length = ls.length * 6 := by
 induction ls with
 | nil => rfl
 | cons g gs ih => rw [List.flatMap_cons, qC, ih]; simp [LV.cs]; omega
theorem flatL_one (ls : List LV) : ∀ u ∈ ls.flatMap LV.cs, u.oneCell' = true := by
 intro u hu;obtain ⟨l, _, h⟩ := List.mem_flatMap.1 hu;simp only [LV.cs, List.mem_cons, List.not_mem_nil, or_false] at h
 rcases h with rfl | rfl | rfl | rfl | rfl | rfl <;> rfl
theorem linesG_own {N cap : Nat} {ad : Option Addr} {ls : List LV} (h : W.ownsRow base 153 6 (.slice ad N cap) N (ls.flatMap LV.cs)) (hl : ls.length = N) (ha : ∀ i, i < ls.length -> (ls[i]?.getD noLV).f.At W) : LinesG W ad ls := by
 intro i hi
 rcases h.2 with ⟨hv, h0⟩ | ⟨g, cap', cur, hv, _⟩
 ·omega
 simp only [Value.slice.injEq, true_and] at hv;obtain ⟨rfl, rfl⟩ := hv;refine ⟨g, 0, rfl, fun r hr => ?_, ha i hi⟩;have := h.cellAt (i * 6 + r) (by omega);rw [flatL_at ls i hi r hr] at this;rw [<- this, Nat.zero_add]
theorem own_slice {s : Nat} {e : TypeId} {v : Value} (h : W.ownsRow base e s v m xs) : ∃ ad c, v = .slice ad m c := by
 rcases h.2 with ⟨hv, h0⟩ | ⟨g, cap, cur, hv, _⟩
 ·exact ⟨none, 0, by rw [hv, h0]⟩
 exact ⟨_, _, hv⟩
structure JL (wL : World) (R : Nat) (a : Option Addr) (n cap : Nat) (bs : List Int) (q : Int) (v : Value) (ls : List LV) (W : World) : Prop where
 t : Touch (fun x => x = R) wL W
 r : Rd W R a n cap bs q
 o : W.ownsRow wL.heap.size 153 6 v ls.length (ls.flatMap LV.cs)
 at' : ∀ i, i < ls.length -> (ls[i]?.getD noLV).f.At W
 na : ∀ i, i < ls.length -> ∀ b o, (ls[i]?.getD noLV).f.a = some ⟨b, o, none⟩ -> wL.heap.size <= b /\ b < W.heap.size /\ v.ownBlock ≠ some b
 nc : ∀ i, i < ls.length -> ∀ b o, (ls[i]?.getD noLV).f.c = some ⟨b, o, none⟩ -> wL.heap.size <= b /\ b < W.heap.size /\ v.ownBlock ≠ some b
 lR : R < wL.heap.size
 lb : 0 < n -> ∀ b o, a = some ⟨b, o, none⟩ -> b < wL.heap.size
section
variable {wL W W' : World} {R : Nat} {a : Option Addr} {n cap : Nat} {bs : List Int} {q : Int} {v : Value} {ls : List LV}
theorem own_belowL {e : TypeId} {s : Nat} (h : W.ownsRow base e s v m xs) (b : Below W.heap.size W W') : W'.ownsRow base e s v m xs := by
 obtain ⟨h1, h2⟩ := h;refine ⟨h1, ?_⟩
 rcases h2 with h2 | ⟨g, cap, cur, hv, hg, hh, r⟩
 ·exact Or.inl h2
 exact Or.inr ⟨g, cap, cur, hv, hg, by rw [b.block g (lt_of_block hh)]; exact hh, r⟩
theorem JL.below (j : JL wL R a n cap bs q v ls W) (b : Below W.heap.size W W') : JL wL R a n cap bs q v ls W' :=
 ⟨j.t.trans (Touch.of b), j.r.below b, own_belowL j.o b, fun i hi => (j.at' i hi).below b, fun i hi x o e => by have h := j.na i hi x o e; have := b.size; exact ⟨h.1, by omega, h.2.2⟩, fun i hi x o e => by have h := j.nc i hi x o e; have := b.size; exact ⟨h.1, by omega, h.2.2⟩, j.lR, j.lb⟩
theorem FV.At.off {S : Nat -> Prop} {f : FV} (h : f.At W) (t : Touch S W W') (h1 : ∀ b o, f.a = some ⟨b, o, none⟩ -> ¬ S b) (h2 : ∀ b o, f.c = some ⟨b, o, none⟩ -> ¬ S b) : f.At W' := ⟨h.C.off t h1, h.D.off t h2, h.hn, h.hm⟩
theorem JL.pick {q' : Int} (j : JL wL R a n cap bs q v ls W) (t : Touch (fun x => x = R) W W') (r : Rd W' R a n cap bs q') : JL wL R a n cap bs q' v ls W' := by
 have lR := j.lR
 exact ⟨j.t.trans t, r, ownsRow_touch j.o t (fun k h => by omega), fun i hi => (j.at' i hi).off t (fun b o e h => by have := (j.na i hi b o e).1; omega) (fun b o e h => by have := (j.nc i hi b o e).1; omega), fun i hi x o e => by have h := j.na i hi x o e; have := t.size; exact ⟨h.1, by omega, h.2.2⟩, fun i hi x o e => by have h := j.nc i hi x o e; have := t.size; exact ⟨h.1, by omega, h.2.2⟩, j.lR, j.lb⟩
theorem JL.g {ad : Option Addr} {N c : Nat} (j : JL wL R a n cap bs q (.slice ad N c) ls W) (hl : ls.length = N) : LinesG W ad ls := linesG_own (by have h := j.o; rw [hl] at h; exact h) hl j.at'
theorem JL.app {l : LV} {g c k : Nat} {H : Nat} (j : JL wL R a n cap bs q v ls W) (hk : ls.length = k) (hl : l.f.At W) (la : ∀ b o, l.f.a = some ⟨b, o, none⟩ -> wL.heap.size <= b /\ b < H /\ v.ownBlock ≠ some b) (lc : ∀ b o, l.f.c = some ⟨b, o, none⟩ -> wL.heap.size <= b /\ b < H /\ v.ownBlock ≠ some b) (hH : H <= W.heap.size) (hsz : ∀ i, i < ls.length -> (∀ b o, (ls[i]?.getD noLV).f.a = some ⟨b, o, none⟩ -> b < H) /\ (∀ b o, (ls[i]?.getD noLV).f.c = some ⟨b, o, none⟩ -> b < H))
  (hown : W'.ownsRow wL.heap.size 153 6 (.slice (some ⟨g, 0, none⟩) (k + 1) c) (k + 1) (ls.flatMap LV.cs ++ l.cs)) (hg : W.grownBy W' v.ownBlock) (hat : v.ownBlock = some g \/ H <= g) : JL wL R a n cap bs q (.slice (some ⟨g, 0, none⟩) (k + 1) c) (ls ++ [l]) W' := by
 have hr : ∀ x, v.ownBlock = some x -> wL.heap.size <= x := fun x hx => (j.o.lt x hx).1;have lR := j.lR;have T : Touch (fun x => v.ownBlock = some x) W W' := ⟨hg.os, hg.tape, hg.output, hg.size, fun x hx hs => hg.block x hx (fun e => hs e.symm)⟩
 have hn : ∀ b, v.ownBlock ≠ some b -> b < H -> (Value.slice (some ⟨g, 0, none⟩) (k + 1) c).ownBlock ≠ some b := fun b h1 h2 e => by
  simp only [Value.ownBlock, qA] at e
  rcases hat with h | h
  ·rw [h] at h1; exact h1 (by rw [e])
  omega
 have key : ∀ i, i < (ls ++ [l]).length -> (i < ls.length /\ (ls ++ [l])[i]?.getD noLV = ls[i]?.getD noLV) \/ (ls ++ [l])[i]?.getD noLV = l := fun i hi => by
  by_cases h : i < ls.length
  ·left; exact ⟨h, by rw [List.getElem?_append_left h]⟩
  right
  have : i = ls.length := by rw [qC] at hi; simp at hi; omega
  subst this;simp
 have hs := hg.size;refine ⟨j.t.grown hg hr, j.r.touch T (fun e => by have := hr _ e; omega) (fun h0 b o hab e => by have := j.lb h0 b o hab; have := hr _ e; omega), ?_, fun i hi => ?_, fun i hi b o e => ?_, fun i hi b o e => ?_, j.lR, j.lb⟩
 ·rw [qC, hk, List.flatMap_append];simpa using hown
 ·rcases key i hi with ⟨h, e⟩ | e
  ·rw [e]; exact (j.at' i h).off T (fun b o e h' => (j.na i h b o e).2.2 h') (fun b o e h' => (j.nc i h b o e).2.2 h')
  rw [e]; exact hl.off T (fun b o e h' => (la b o e).2.2 h') (fun b o e h' => (lc b o e).2.2 h')
 ·rcases key i hi with ⟨h, e'⟩ | e'
  ·rw [e'] at e; have h3 := j.na i h b o e; exact ⟨h3.1, by omega, hn b h3.2.2 ((hsz i h).1 b o e)⟩
  rw [e'] at e; have h3 := la b o e; exact ⟨h3.1, by omega, hn b h3.2.2 h3.2.1⟩
 rcases key i hi with ⟨h, e'⟩ | e'
 ·rw [e'] at e; have h3 := j.nc i h b o e; exact ⟨h3.1, by omega, hn b h3.2.2 ((hsz i h).2 b o e)⟩
 rw [e'] at e; have h3 := lc b o e; exact ⟨h3.1, by omega, hn b h3.2.2 h3.2.1⟩
end
theorem newsL {g cap k : Nat} (h : W.ownsRow base 153 6 (.slice (some ⟨g, 0, none⟩) k cap) k xs) : ∀ j u, xs[j]? = some u -> W.cell? ((⟨g, 0, none⟩ : Addr).add j) = some u := fun j u hu => by
 have hj : j < k * 6 := by
  have h1 := h.1
  have : j < xs.length := by
   rcases Nat.lt_or_ge j xs.length with h | h
   ·exact h
   rw [List.getElem?_eq_none h] at hu; cases hu
  omega
 have := h.cellAt j hj;rw [hu] at this
 have hadd : (⟨g, 0, none⟩ : Addr).add j = ⟨g, j, none⟩ := by
  by_cases h0 : j = 0
  ·subst h0; simp [Addr.add]
  simp [Addr.add, h0]
 rw [hadd]; exact this
theorem Tryz.infoLn : (Tryz.prog.info? 153).map (fun i => (i.zero, i.size, i.bytes)) = some (some (.agg #[.int .i64 0, .int .i64 0, .int .i64 0, .slice none 0 0, .slice none 0 0, .int .i64 0]), 6, 80) := by kernel_rfl
theorem wp_copyL {o : Oper} {a : Act} {K : Act -> World -> Prop} {Q : Exit -> Act -> World -> Prop} (s x : Operand) (ho : o.op = .call { callee := .builtin .append, args := #[s, x], argTypes := #[57, 57] }) (base base' L k : Nat) (ad : Option Addr) (cap : Nat) (ls : List LV)
  (hs : a.eval s = .slice (some ⟨L, 0, none⟩) 0 0) (hown : W.ownsRow base 153 6 (.slice (some ⟨L, 0, none⟩) 0 0) 0 []) (hx : a.eval x = .slice ad k cap) (hb : W.ownsRow base' 153 6 (.slice ad k cap) k (ls.flatMap LV.cs)) (hl : ls.length = k) (hn : k <= 1000) (hbase : base <= W.heap.size)
  (h : ∀ v' W1, Below base W W1 -> Touch (fun z => z = L) W W1 -> W1.ownsRow base 153 6 v' k (ls.flatMap LV.cs) -> (∀ B, v'.ownBlock = some B -> B = L \/ W.heap.size <= B) -> K (a.put o.dst v') W1) : o.wp Tryz.prog a W K Q := by
 by_cases h0 : 0 < k
 ·obtain ⟨i0, hi, hz0, hz1, hz2⟩ := info_parts Tryz.infoLn
  rcases hb.2 with ⟨_, h1⟩ | ⟨g, cap', cur, hv, _⟩
  ·omega
  simp only [Value.slice.injEq, true_and] at hv;obtain ⟨rfl, rfl⟩ := hv;refine wp_append_lies _ s x 57 ho base 153 i0 _ 6 80 Tryz.underlying57 hi hz0 hz1 hz2 rfl (by omega) _ 0 [] hs hown ⟨g, 0, none⟩ k cap (ls.flatMap LV.cs) hx (by rw [flatL_len, hl]) (newsL hb) (flatL_one ls) h0 (by unfold maxLen; omega) (by omega) hbase _ rfl ?_;intro g' cp W1 ho1 hg hat hlt;have hL : ∀ z, (Value.slice (some ⟨L, 0, none⟩) 0 0).ownBlock = some z -> base <= z := fun z hz => (hown.lt z hz).1;simp only [Nat.zero_add] at ho1 ⊢;refine h _ W1 ((Below.refl base W).grown hg hbase hL) ⟨hg.os, hg.tape, hg.output, hg.size, fun z hz hn => hg.block z hz (fun e => hn (by simpa [Value.ownBlock] using e))⟩ (by simpa using ho1) (fun B hB => ?_);simp only [Value.ownBlock, qA] at hB hat
  omega
 obtain rfl : k = 0 := by omega
 have hls : ls = [] := List.eq_nil_of_length_eq_zero hl;subst hls;obtain ⟨dst, op, ty, pos, after, guard⟩ := o;dsimp only at ho;subst ho;unfold Oper.wp execOp;simp only [resolve, invoke, builtin, Sem.run_bind, Sem.run_pure, Result.andThen_ok, List.map_toArray, List.map_cons, List.map_nil, hs, hx]
 cases ad
 ·go_simp
  exact h _ W (Below.refl _ _) (Touch.refl _ _) hown (fun B hB => by simp only [Value.ownBlock, qA] at hB; omega)
 go_simp
 exact h _ W (Below.refl _ _) (Touch.refl _ _) hown (fun B hB => by simp only [Value.ownBlock, qA] at hB; omega)
end Go.Proofs.YtpmihhbgjimpmaaGreatDoor
