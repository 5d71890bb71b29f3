/-
  A line that is drawn: always one that is ok; its form lies in new memory.
-/
import Derived.Test.YtfkcfjkojfnfnaaGreatDoorDrL
import Derived.Test.YtfkcfjkojfnfnaaGreatDoorAct
namespace Go.Proofs.YtfkcfjkojfnfnaaGreatDoor
open Go.RowKit
set_option linter.unusedVariables false
set_option maxRecDepth 100000

/-- A line as a value. -/
abbrev lnV (l : LV) : Value := .agg #[.int .i64 l.kind, .int .i64 l.pot, .int .i64 l.skip, .slice l.f.a l.f.n l.f.cap, .slice l.f.c l.f.m l.f.cap', .int .i64 l.f.K]
theorem allB_of {m : Int} {zs : List Int} (h : bnd m zs) : allB m zs = true := by
  unfold allB
  rw [List.all_eq_true]
  intro x hx
  obtain ⟨i, hi, rfl⟩ := List.getElem_of_mem hx
  have := h i
  rw [List.getElem?_eq_getElem hi] at this
  exact inB_iff.2 this
theorem small_of {C D : List Int} {K : Int} (hC : bnd 2 C) (hD : bnd 2 D) (h1 : -20 ≤ K) (h2 : K ≤ 20) : smallB 3 2 C D K = true := by
  unfold smallB okN
  rw [allB_of hC, allB_of hD, inB_iff.2 ⟨h1, h2⟩]
  rfl
theorem lok1 {n m : Nat} {C D : List Int} {K skip : Int} (h : smallB n m C D K = true) (h1 : 1 ≤ skip) (h2 : skip ≤ 6) : lineB 1 0 skip n m C D K = true := by
  unfold lineB
  rw [if_pos rfl, h, inB_iff.2 ⟨h1, h2⟩]
  rfl
theorem lok2 {n m : Nat} {C D : List Int} {K pot : Int} (h : smallB n m C D K = true) (h1 : 0 ≤ pot) (h2 : pot ≤ 2) : lineB 2 pot 0 n m C D K = true := by
  unfold lineB
  rw [if_neg (by decide), if_pos rfl, h, inB_iff.2 ⟨h1, h2⟩]
  rfl
theorem lok3 {n m : Nat} {C D : List Int} {K : Int} (h : smallB n m C D K = true) : lineB 3 0 0 n m C D K = true := by
  unfold lineB
  rw [if_neg (by decide), if_neg (by decide), if_pos rfl, h]
  rfl
theorem Ints.blk {W : World} {B o n : Nat} {zs : List Int} (h : Ints W (some ⟨B, o, none⟩) n zs) (hn : 0 < n) : B < W.heap.size := by
  obtain ⟨b, off, e, hc⟩ := h.2 0 hn
  simp only [Option.some.injEq, Addr.mk.injEq] at e
  have := block_lt hc
  omega
/-- A line was drawn: it is ok, its lists lie in new memory, the reader has gone on. -/
structure LnN (w w' : World) (R : Nat) (a : Option Addr) (n cap : Nat) (bs : List Int) (p q : Int) (l : LV) : Prop where
  t : Touch (fun x => x = R) w w'
  r : Rd w' R a n cap bs q
  at' : l.f.At w'
  la : ∀ b o, l.f.a = some ⟨b, o, none⟩ → w.heap.size ≤ b ∧ b < w'.heap.size
  lc : ∀ b o, l.f.c = some ⟨b, o, none⟩ → w.heap.size ≤ b ∧ b < w'.heap.size
  ok : l.ok = true
  q0 : p ≤ q
  q1 : q ≤ p + 12

set_option maxHeartbeats 12800000 in
theorem line_f (R : Nat) (a : Option Addr) (n cap : Nat) (bs : List Int) (p : Int) (w : World) (rd : Rd w R a n cap bs p) (hp : 0 ≤ p) (hp1 : p ≤ 8000000) (ha : 0 < n → ∀ b o, a = some ⟨b, o, none⟩ → b < w.heap.size) :
    Calls Tryz.prog 58 #[.pointer (some ⟨R, 0, none⟩)] w fun e w' => ∃ l q, e = .returned (lnV l) ∧ LnN w w' R a n cap bs p q l := by
  have hRl := rd.c.lt
  have ha0 := ha
  have q0 := Cel.new w [.int .i64 0, .int .i64 0, .int .i64 0, .slice none 0 0, .slice none 0 0, .int .i64 0] 36
  have al := (Below.refl w.heap.size w).alloc (Nat.le_refl _) (.cells #[.int .i64 0, .int .i64 0, .int .i64 0, .slice none 0 0, .slice none 0 0, .int .i64 0] 36)
  have nq0 : w.heap.size ≠ R := by omega
  have TT : Touch (fun x => x = R) w (w.alloc (.cells #[.int .i64 0, .int .i64 0, .int .i64 0, .slice none 0 0, .slice none 0 0, .int .i64 0] 36)) := Touch.of al
  replace rd := rd.below al
  clear al
  go_enter Tryz.func58, Tryz.ntmps58
  go_wp2_with fail
  obtain ⟨W2, hW2⟩ : ∃ W, W = (w.alloc (.cells #[.int .i64 0, .int .i64 0, .int .i64 0, .slice none 0 0, .slice none 0 0, .int .i64 0] 36)) := ⟨_, rfl⟩
  rw [← hW2]
  rw [← hW2] at TT rd q0
  clear hW2
  refine (pick_any R a n cap bs (p) 7 _ rd (by omega) (by omega) (by omega) (by omega)).mono ?_
  rintro e w3 ⟨rj, hj0, hj1, rfl, t5, R5⟩
  obtain ⟨j, rfl⟩ := Int.eq_ofNat_of_zero_le hj0
  clear hj0
  replace q0 := q0.touch t5 nq0
  replace TT := TT.trans t5
  replace rd := R5
  clear t5 R5
  rcases (show j = 0 ∨ j = 1 ∨ j = 2 ∨ j = 3 ∨ j = 4 ∨ j = 5 ∨ j = 6 from by omega) with rfl | rfl | rfl | rfl | rfl | rfl | rfl
  · go_wp2_with fail
    refine (pick_any R a n cap bs (p + 1) 3 _ rd (by omega) (by omega) (by omega) (by omega)).mono ?_
    rintro e w4 ⟨ri, hi0, hi1, rfl, t5, R5⟩
    obtain ⟨i, rfl⟩ := Int.eq_ofNat_of_zero_le hi0
    clear hi0
    replace q0 := q0.touch t5 nq0
    replace TT := TT.trans t5
    replace rd := R5
    clear t5 R5
    go_wp2_with fail
    have xA := q0.lt
    refine (small_f R a n cap bs (p + 1 + 1) _ rd (by omega) (by omega) rd.ha).mono ?_
    rintro e w5 ⟨BA, DA, LCA, LDA, KA, rfl, t5, R5, f5, sCA, sDA, sKA1, sKA2⟩
    have zA1 : w.heap.size ≤ BA := Nat.le_trans TT.size f5.b1
    have zA2 : w.heap.size ≤ DA := Nat.le_trans TT.size f5.b2
    have lCA := f5.l1
    have lDA := f5.l2
    have GA : FA w5 (some ⟨BA, 0, none⟩) 3 (some ⟨DA, 0, none⟩) 2 (LCA, LDA, KA) := ⟨f5.k1.ints' f5.l1, f5.k2.ints' f5.l2, by omega, by omega⟩
    have ltCA := f5.k1.lt
    have ltDA := f5.k2.lt
    have nCDA := f5.ne
    have yA1 := f5.b1
    have yA2 := f5.b2
    clear f5
    replace q0 := q0.touch t5 nq0
    replace TT := TT.trans t5
    replace rd := R5
    clear t5 R5
    have gq0_0 := q0.cell 0
    have gq0_1 := q0.cell 1
    have gq0_2 := q0.cell 2
    have gq0_3 := q0.cell 3
    have gq0_4 := q0.cell 4
    have gq0_5 := q0.cell 5
    simp only [List.getElem?_cons_zero, List.getElem?_cons_succ] at gq0_0 gq0_1 gq0_2 gq0_3 gq0_4 gq0_5
    have fq0_0 := q0.free 0
    have fq0_1 := q0.free 1
    have fq0_2 := q0.free 2
    have fq0_3 := q0.free 3
    have fq0_4 := q0.free 4
    have fq0_5 := q0.free 5
    have lq0 := q0.lt
    go_wp2
    clear gq0_0 gq0_1 gq0_2 gq0_3 gq0_4 gq0_5 fq0_0 fq0_1 fq0_2 fq0_3 fq0_4 fq0_5 lq0
    have hwt := TT.size
    have hlq := q0.lt
    replace q0 := q0.set 0 (.int .i64 1)
    replace GA := GA.setFar (X := w.heap.size) (by omega) (by omega) 0 (.int .i64 1)
    replace rd := rd.setNew (B := w.heap.size) (by omega) (fun h0 b o e => by have := ha0 h0 b o e; omega) 0 (.int .i64 1)
    replace TT := TT.setNewF (B := w.heap.size) (by omega) 0 (.int .i64 1)
    replace q0 := q0.set 1 (.int .i64 0)
    replace GA := GA.setFar (X := w.heap.size) (by omega) (by omega) 1 (.int .i64 0)
    replace rd := rd.setNew (B := w.heap.size) (by omega) (fun h0 b o e => by have := ha0 h0 b o e; omega) 1 (.int .i64 0)
    replace TT := TT.setNewF (B := w.heap.size) (by omega) 1 (.int .i64 0)
    replace q0 := q0.set 2 (.int .i64 (1 + (i : Int)))
    replace GA := GA.setFar (X := w.heap.size) (by omega) (by omega) 2 (.int .i64 (1 + (i : Int)))
    replace rd := rd.setNew (B := w.heap.size) (by omega) (fun h0 b o e => by have := ha0 h0 b o e; omega) 2 (.int .i64 (1 + (i : Int)))
    replace TT := TT.setNewF (B := w.heap.size) (by omega) 2 (.int .i64 (1 + (i : Int)))
    replace q0 := q0.set 3 (.slice (some ⟨BA, 0, none⟩) 3 3)
    replace GA := GA.setFar (X := w.heap.size) (by omega) (by omega) 3 (.slice (some ⟨BA, 0, none⟩) 3 3)
    replace rd := rd.setNew (B := w.heap.size) (by omega) (fun h0 b o e => by have := ha0 h0 b o e; omega) 3 (.slice (some ⟨BA, 0, none⟩) 3 3)
    replace TT := TT.setNewF (B := w.heap.size) (by omega) 3 (.slice (some ⟨BA, 0, none⟩) 3 3)
    replace q0 := q0.set 4 (.slice (some ⟨DA, 0, none⟩) 2 2)
    replace GA := GA.setFar (X := w.heap.size) (by omega) (by omega) 4 (.slice (some ⟨DA, 0, none⟩) 2 2)
    replace rd := rd.setNew (B := w.heap.size) (by omega) (fun h0 b o e => by have := ha0 h0 b o e; omega) 4 (.slice (some ⟨DA, 0, none⟩) 2 2)
    replace TT := TT.setNewF (B := w.heap.size) (by omega) 4 (.slice (some ⟨DA, 0, none⟩) 2 2)
    replace q0 := q0.set 5 (.int .i64 KA)
    replace GA := GA.setFar (X := w.heap.size) (by omega) (by omega) 5 (.int .i64 KA)
    replace rd := rd.setNew (B := w.heap.size) (by omega) (fun h0 b o e => by have := ha0 h0 b o e; omega) 5 (.int .i64 KA)
    replace TT := TT.setNewF (B := w.heap.size) (by omega) 5 (.int .i64 KA)
    obtain ⟨W6, hW6⟩ : ∃ W, W = ((((((w5.setCell ⟨w.heap.size, 0, none⟩ (.int .i64 1)).setCell ⟨w.heap.size, 1, none⟩ (.int .i64 0)).setCell ⟨w.heap.size, 2, none⟩ (.int .i64 (1 + (i : Int)))).setCell ⟨w.heap.size, 3, none⟩ (.slice (some ⟨BA, 0, none⟩) 3 3)).setCell ⟨w.heap.size, 4, none⟩ (.slice (some ⟨DA, 0, none⟩) 2 2)).setCell ⟨w.heap.size, 5, none⟩ (.int .i64 KA)) := ⟨_, rfl⟩
    rw [← hW6]
    rw [← hW6] at TT rd q0 GA
    clear hW6
    have hws := TT.size
    have u0 : W6.cell? ⟨w.heap.size, 0, none⟩ = some (.int .i64 1) := q0.cell 0
    have u1 : W6.cell? ⟨w.heap.size, 1, none⟩ = some (.int .i64 0) := q0.cell 1
    have u2 : W6.cell? ⟨w.heap.size, 2, none⟩ = some (.int .i64 (1 + (i : Int))) := q0.cell 2
    have u3 : W6.cell? ⟨w.heap.size, 3, none⟩ = some (.slice (some ⟨BA, 0, none⟩) 3 3) := q0.cell 3
    have u4 : W6.cell? ⟨w.heap.size, 4, none⟩ = some (.slice (some ⟨DA, 0, none⟩) 2 2) := q0.cell 4
    have u5 : W6.cell? ⟨w.heap.size, 5, none⟩ = some (.int .i64 KA) := q0.cell 5
    refine bodyPost_ret (v := lnV ⟨1, 0, (1 + (i : Int)), ⟨some ⟨BA, 0, none⟩, 3, 3, some ⟨DA, 0, none⟩, 2, 2, KA, LCA, LDA⟩⟩) (by simp [results, Tryz.results58, go_sem, u0, u1, u2, u3, u4, u5]) rfl ⟨⟨1, 0, (1 + (i : Int)), ⟨some ⟨BA, 0, none⟩, 3, 3, some ⟨DA, 0, none⟩, 2, 2, KA, LCA, LDA⟩⟩, _, rfl, ⟨TT, rd, ⟨GA.C, GA.D, by simp only []; omega, by simp only []; omega⟩, fun b o e => by simp only [Option.some.injEq, Addr.mk.injEq] at e; have hb := GA.C.blk (by omega); omega, fun b o e => by simp only [Option.some.injEq, Addr.mk.injEq] at e; have hb := GA.D.blk (by omega); omega, lok1 (skip := 1 + (i : Int)) (small_of sCA sDA sKA1 sKA2) (by omega) (by omega), by omega, by omega⟩⟩
  · go_wp2_with fail
    refine (pick_any R a n cap bs (p + 1) 3 _ rd (by omega) (by omega) (by omega) (by omega)).mono ?_
    rintro e w4 ⟨ri, hi0, hi1, rfl, t5, R5⟩
    obtain ⟨i, rfl⟩ := Int.eq_ofNat_of_zero_le hi0
    clear hi0
    replace q0 := q0.touch t5 nq0
    replace TT := TT.trans t5
    replace rd := R5
    clear t5 R5
    go_wp2_with fail
    have xA := q0.lt
    refine (small_f R a n cap bs (p + 1 + 1) _ rd (by omega) (by omega) rd.ha).mono ?_
    rintro e w5 ⟨BA, DA, LCA, LDA, KA, rfl, t5, R5, f5, sCA, sDA, sKA1, sKA2⟩
    have zA1 : w.heap.size ≤ BA := Nat.le_trans TT.size f5.b1
    have zA2 : w.heap.size ≤ DA := Nat.le_trans TT.size f5.b2
    have lCA := f5.l1
    have lDA := f5.l2
    have GA : FA w5 (some ⟨BA, 0, none⟩) 3 (some ⟨DA, 0, none⟩) 2 (LCA, LDA, KA) := ⟨f5.k1.ints' f5.l1, f5.k2.ints' f5.l2, by omega, by omega⟩
    have ltCA := f5.k1.lt
    have ltDA := f5.k2.lt
    have nCDA := f5.ne
    have yA1 := f5.b1
    have yA2 := f5.b2
    clear f5
    replace q0 := q0.touch t5 nq0
    replace TT := TT.trans t5
    replace rd := R5
    clear t5 R5
    have gq0_0 := q0.cell 0
    have gq0_1 := q0.cell 1
    have gq0_2 := q0.cell 2
    have gq0_3 := q0.cell 3
    have gq0_4 := q0.cell 4
    have gq0_5 := q0.cell 5
    simp only [List.getElem?_cons_zero, List.getElem?_cons_succ] at gq0_0 gq0_1 gq0_2 gq0_3 gq0_4 gq0_5
    have fq0_0 := q0.free 0
    have fq0_1 := q0.free 1
    have fq0_2 := q0.free 2
    have fq0_3 := q0.free 3
    have fq0_4 := q0.free 4
    have fq0_5 := q0.free 5
    have lq0 := q0.lt
    go_wp2
    clear gq0_0 gq0_1 gq0_2 gq0_3 gq0_4 gq0_5 fq0_0 fq0_1 fq0_2 fq0_3 fq0_4 fq0_5 lq0
    have hwt := TT.size
    have hlq := q0.lt
    replace q0 := q0.set 0 (.int .i64 1)
    replace GA := GA.setFar (X := w.heap.size) (by omega) (by omega) 0 (.int .i64 1)
    replace rd := rd.setNew (B := w.heap.size) (by omega) (fun h0 b o e => by have := ha0 h0 b o e; omega) 0 (.int .i64 1)
    replace TT := TT.setNewF (B := w.heap.size) (by omega) 0 (.int .i64 1)
    replace q0 := q0.set 1 (.int .i64 0)
    replace GA := GA.setFar (X := w.heap.size) (by omega) (by omega) 1 (.int .i64 0)
    replace rd := rd.setNew (B := w.heap.size) (by omega) (fun h0 b o e => by have := ha0 h0 b o e; omega) 1 (.int .i64 0)
    replace TT := TT.setNewF (B := w.heap.size) (by omega) 1 (.int .i64 0)
    replace q0 := q0.set 2 (.int .i64 (1 + (i : Int)))
    replace GA := GA.setFar (X := w.heap.size) (by omega) (by omega) 2 (.int .i64 (1 + (i : Int)))
    replace rd := rd.setNew (B := w.heap.size) (by omega) (fun h0 b o e => by have := ha0 h0 b o e; omega) 2 (.int .i64 (1 + (i : Int)))
    replace TT := TT.setNewF (B := w.heap.size) (by omega) 2 (.int .i64 (1 + (i : Int)))
    replace q0 := q0.set 3 (.slice (some ⟨BA, 0, none⟩) 3 3)
    replace GA := GA.setFar (X := w.heap.size) (by omega) (by omega) 3 (.slice (some ⟨BA, 0, none⟩) 3 3)
    replace rd := rd.setNew (B := w.heap.size) (by omega) (fun h0 b o e => by have := ha0 h0 b o e; omega) 3 (.slice (some ⟨BA, 0, none⟩) 3 3)
    replace TT := TT.setNewF (B := w.heap.size) (by omega) 3 (.slice (some ⟨BA, 0, none⟩) 3 3)
    replace q0 := q0.set 4 (.slice (some ⟨DA, 0, none⟩) 2 2)
    replace GA := GA.setFar (X := w.heap.size) (by omega) (by omega) 4 (.slice (some ⟨DA, 0, none⟩) 2 2)
    replace rd := rd.setNew (B := w.heap.size) (by omega) (fun h0 b o e => by have := ha0 h0 b o e; omega) 4 (.slice (some ⟨DA, 0, none⟩) 2 2)
    replace TT := TT.setNewF (B := w.heap.size) (by omega) 4 (.slice (some ⟨DA, 0, none⟩) 2 2)
    replace q0 := q0.set 5 (.int .i64 KA)
    replace GA := GA.setFar (X := w.heap.size) (by omega) (by omega) 5 (.int .i64 KA)
    replace rd := rd.setNew (B := w.heap.size) (by omega) (fun h0 b o e => by have := ha0 h0 b o e; omega) 5 (.int .i64 KA)
    replace TT := TT.setNewF (B := w.heap.size) (by omega) 5 (.int .i64 KA)
    obtain ⟨W6, hW6⟩ : ∃ W, W = ((((((w5.setCell ⟨w.heap.size, 0, none⟩ (.int .i64 1)).setCell ⟨w.heap.size, 1, none⟩ (.int .i64 0)).setCell ⟨w.heap.size, 2, none⟩ (.int .i64 (1 + (i : Int)))).setCell ⟨w.heap.size, 3, none⟩ (.slice (some ⟨BA, 0, none⟩) 3 3)).setCell ⟨w.heap.size, 4, none⟩ (.slice (some ⟨DA, 0, none⟩) 2 2)).setCell ⟨w.heap.size, 5, none⟩ (.int .i64 KA)) := ⟨_, rfl⟩
    rw [← hW6]
    rw [← hW6] at TT rd q0 GA
    clear hW6
    have hws := TT.size
    have u0 : W6.cell? ⟨w.heap.size, 0, none⟩ = some (.int .i64 1) := q0.cell 0
    have u1 : W6.cell? ⟨w.heap.size, 1, none⟩ = some (.int .i64 0) := q0.cell 1
    have u2 : W6.cell? ⟨w.heap.size, 2, none⟩ = some (.int .i64 (1 + (i : Int))) := q0.cell 2
    have u3 : W6.cell? ⟨w.heap.size, 3, none⟩ = some (.slice (some ⟨BA, 0, none⟩) 3 3) := q0.cell 3
    have u4 : W6.cell? ⟨w.heap.size, 4, none⟩ = some (.slice (some ⟨DA, 0, none⟩) 2 2) := q0.cell 4
    have u5 : W6.cell? ⟨w.heap.size, 5, none⟩ = some (.int .i64 KA) := q0.cell 5
    refine bodyPost_ret (v := lnV ⟨1, 0, (1 + (i : Int)), ⟨some ⟨BA, 0, none⟩, 3, 3, some ⟨DA, 0, none⟩, 2, 2, KA, LCA, LDA⟩⟩) (by simp [results, Tryz.results58, go_sem, u0, u1, u2, u3, u4, u5]) rfl ⟨⟨1, 0, (1 + (i : Int)), ⟨some ⟨BA, 0, none⟩, 3, 3, some ⟨DA, 0, none⟩, 2, 2, KA, LCA, LDA⟩⟩, _, rfl, ⟨TT, rd, ⟨GA.C, GA.D, by simp only []; omega, by simp only []; omega⟩, fun b o e => by simp only [Option.some.injEq, Addr.mk.injEq] at e; have hb := GA.C.blk (by omega); omega, fun b o e => by simp only [Option.some.injEq, Addr.mk.injEq] at e; have hb := GA.D.blk (by omega); omega, lok1 (skip := 1 + (i : Int)) (small_of sCA sDA sKA1 sKA2) (by omega) (by omega), by omega, by omega⟩⟩
  · go_wp2_with fail
    have xA := q0.lt
    refine (small_f R a n cap bs (p + 1) _ rd (by omega) (by omega) rd.ha).mono ?_
    rintro e w4 ⟨BA, DA, LCA, LDA, KA, rfl, t5, R5, f5, sCA, sDA, sKA1, sKA2⟩
    have zA1 : w.heap.size ≤ BA := Nat.le_trans TT.size f5.b1
    have zA2 : w.heap.size ≤ DA := Nat.le_trans TT.size f5.b2
    have lCA := f5.l1
    have lDA := f5.l2
    have GA : FA w4 (some ⟨BA, 0, none⟩) 3 (some ⟨DA, 0, none⟩) 2 (LCA, LDA, KA) := ⟨f5.k1.ints' f5.l1, f5.k2.ints' f5.l2, by omega, by omega⟩
    have ltCA := f5.k1.lt
    have ltDA := f5.k2.lt
    have nCDA := f5.ne
    have yA1 := f5.b1
    have yA2 := f5.b2
    clear f5
    replace q0 := q0.touch t5 nq0
    replace TT := TT.trans t5
    replace rd := R5
    clear t5 R5
    have hwt := TT.size
    have hlq := q0.lt
    have al := (Below.refl w4.heap.size w4).alloc (Nat.le_refl _) (.cells #[.slice (some ⟨BA, 0, none⟩) 3 3, .slice (some ⟨DA, 0, none⟩) 2 2, .int .i64 KA] 34)
    have qf := Cel.new w4 [.slice (some ⟨BA, 0, none⟩) 3 3, .slice (some ⟨DA, 0, none⟩) 2 2, .int .i64 KA] 34
    replace q0 := q0.below al
    replace GA := GA.below al
    replace TT := TT.trans (Touch.of al)
    replace rd := rd.below al
    clear al
    go_wp2_with fail
    obtain ⟨W5, hW5⟩ : ∃ W, W = (w4.alloc (.cells #[.slice (some ⟨BA, 0, none⟩) 3 3, .slice (some ⟨DA, 0, none⟩) 2 2, .int .i64 KA] 34)) := ⟨_, rfl⟩
    rw [← hW5]
    rw [← hW5] at TT rd q0 GA qf
    clear hW5
    obtain ⟨XF, hXF⟩ : ∃ x, x = w4.heap.size := ⟨_, rfl⟩
    rw [← hXF]
    rw [← hXF] at qf hwt
    have nqf : XF ≠ R := by omega
    have hXw : w.heap.size < XF := by omega
    have nXB : BA ≠ XF := by omega
    have nXD : DA ≠ XF := by omega
    clear hXF
    refine (pick_any R a n cap bs (p + 1 + 6) 3 _ rd (by omega) (by omega) (by omega) (by omega)).mono ?_
    rintro e w6 ⟨rk, hk0, hk1, rfl, t5, R5⟩
    obtain ⟨k, rfl⟩ := Int.eq_ofNat_of_zero_le hk0
    clear hk0
    replace q0 := q0.touch t5 nq0
    replace GA := GA.far t5 (lo := w.heap.size) (fun k hk => by omega) zA1 zA2
    replace qf := qf.touch t5 nqf
    replace TT := TT.trans t5
    replace rd := R5
    clear t5 R5
    by_cases hk : (k : Int) = 0
    · have hk' : ¬ (0 : Int) < (k : Int) := by omega
      go_upto_region 11 with fail
      refine wp_region_ends (fun X => X.cell? ⟨XF, 0, none⟩ = some (.slice (some ⟨BA, 0, none⟩) 3 3) ∧ X.cell? ⟨XF, 1, none⟩ = some (.slice (some ⟨DA, 0, none⟩) 2 2) ∧ X.cell? ⟨XF, 2, none⟩ = some (.int .i64 KA)) (fun _ => True) 5 (by kernel_rfl) ?_
      have dr : Below w6.heap.size w6 w6.drew := (Below.refl _ _).drew
      replace q0 := q0.below dr
      replace GA := GA.below dr
      replace qf := qf.below dr
      replace TT := TT.trans (Touch.of dr)
      replace rd := rd.below dr
      clear dr
      obtain ⟨V7, hV7⟩ : ∃ W, W = w6.drew := ⟨_, rfl⟩
      rw [← hV7]
      rw [← hV7] at TT rd q0 GA qf
      clear hV7
      have hSS : (fun X : World => X.cell? ⟨XF, 0, none⟩ = some (.slice (some ⟨BA, 0, none⟩) 3 3) ∧ X.cell? ⟨XF, 1, none⟩ = some (.slice (some ⟨DA, 0, none⟩) 2 2) ∧ X.cell? ⟨XF, 2, none⟩ = some (.int .i64 KA)) V7 ∧ True := ⟨⟨qf.cell 0, qf.cell 1, qf.cell 2⟩, trivial⟩
      refine tkL (i := 0) rfl hSS ?_
      refine tkL (i := 2) rfl hSS ?_
      refine wpAnyE_one (i := 1) (by kernel_rfl) rfl (fun Kn hK => ?_)
      go_simp
      refine (pick_any R a n cap bs (p + 1 + 6 + 1) 3 _ rd (by omega) (by omega) (by omega) (by omega)).mono ?_
      rintro e w8 ⟨ri, hi0, hi1, rfl, t5, R5⟩
      obtain ⟨i, rfl⟩ := Int.eq_ofNat_of_zero_le hi0
      clear hi0
      replace q0 := q0.touch t5 nq0
      replace GA := GA.far t5 (lo := w.heap.size) (fun k hk => by omega) zA1 zA2
      replace qf := qf.touch t5 nqf
      replace TT := TT.trans t5
      replace rd := R5
      clear t5 R5
      dsimp only
      clear hSS
      have hSS : (fun X : World => X.cell? ⟨XF, 0, none⟩ = some (.slice (some ⟨BA, 0, none⟩) 3 3) ∧ X.cell? ⟨XF, 1, none⟩ = some (.slice (some ⟨DA, 0, none⟩) 2 2) ∧ X.cell? ⟨XF, 2, none⟩ = some (.int .i64 KA)) w8 ∧ True := ⟨⟨qf.cell 0, qf.cell 1, qf.cell 2⟩, trivial⟩
      refine hK.out _ _ ⟨hSS.1, fun _ => trivial⟩ ?_
      clear hK
      refine tkL (i := 3) rfl hSS ?_
      refine wpAnyE_one (i := 4) (by kernel_rfl) rfl (fun Kn hK => ?_)
      have gq0_0 := q0.cell 0
      have gq0_1 := q0.cell 1
      have gq0_2 := q0.cell 2
      have gq0_3 := q0.cell 3
      have gq0_4 := q0.cell 4
      have gq0_5 := q0.cell 5
      simp only [List.getElem?_cons_zero, List.getElem?_cons_succ] at gq0_0 gq0_1 gq0_2 gq0_3 gq0_4 gq0_5
      have fq0_0 := q0.free 0
      have fq0_1 := q0.free 1
      have fq0_2 := q0.free 2
      have fq0_3 := q0.free 3
      have fq0_4 := q0.free 4
      have fq0_5 := q0.free 5
      have lq0 := q0.lt
      go_simp
      clear gq0_0 gq0_1 gq0_2 gq0_3 gq0_4 gq0_5 fq0_0 fq0_1 fq0_2 fq0_3 fq0_4 fq0_5 lq0
      have hwt2 := TT.size
      have hlq2 := q0.lt
      replace q0 := q0.set 0 (.int .i64 2)
      replace GA := GA.setFar (X := w.heap.size) (by omega) (by omega) 0 (.int .i64 2)
      replace qf := qf.setOther (B' := w.heap.size) (by omega) 0 (.int .i64 2)
      replace rd := rd.setNew (B := w.heap.size) (by omega) (fun h0 b o e => by have := ha0 h0 b o e; omega) 0 (.int .i64 2)
      replace TT := TT.setNewF (B := w.heap.size) (by omega) 0 (.int .i64 2)
      replace q0 := q0.set 1 (.int .i64 (i : Int))
      replace GA := GA.setFar (X := w.heap.size) (by omega) (by omega) 1 (.int .i64 (i : Int))
      replace qf := qf.setOther (B' := w.heap.size) (by omega) 1 (.int .i64 (i : Int))
      replace rd := rd.setNew (B := w.heap.size) (by omega) (fun h0 b o e => by have := ha0 h0 b o e; omega) 1 (.int .i64 (i : Int))
      replace TT := TT.setNewF (B := w.heap.size) (by omega) 1 (.int .i64 (i : Int))
      replace q0 := q0.set 2 (.int .i64 0)
      replace GA := GA.setFar (X := w.heap.size) (by omega) (by omega) 2 (.int .i64 0)
      replace qf := qf.setOther (B' := w.heap.size) (by omega) 2 (.int .i64 0)
      replace rd := rd.setNew (B := w.heap.size) (by omega) (fun h0 b o e => by have := ha0 h0 b o e; omega) 2 (.int .i64 0)
      replace TT := TT.setNewF (B := w.heap.size) (by omega) 2 (.int .i64 0)
      replace q0 := q0.set 3 (.slice (some ⟨BA, 0, none⟩) 3 3)
      replace GA := GA.setFar (X := w.heap.size) (by omega) (by omega) 3 (.slice (some ⟨BA, 0, none⟩) 3 3)
      replace qf := qf.setOther (B' := w.heap.size) (by omega) 3 (.slice (some ⟨BA, 0, none⟩) 3 3)
      replace rd := rd.setNew (B := w.heap.size) (by omega) (fun h0 b o e => by have := ha0 h0 b o e; omega) 3 (.slice (some ⟨BA, 0, none⟩) 3 3)
      replace TT := TT.setNewF (B := w.heap.size) (by omega) 3 (.slice (some ⟨BA, 0, none⟩) 3 3)
      replace q0 := q0.set 4 (.slice (some ⟨DA, 0, none⟩) 2 2)
      replace GA := GA.setFar (X := w.heap.size) (by omega) (by omega) 4 (.slice (some ⟨DA, 0, none⟩) 2 2)
      replace qf := qf.setOther (B' := w.heap.size) (by omega) 4 (.slice (some ⟨DA, 0, none⟩) 2 2)
      replace rd := rd.setNew (B := w.heap.size) (by omega) (fun h0 b o e => by have := ha0 h0 b o e; omega) 4 (.slice (some ⟨DA, 0, none⟩) 2 2)
      replace TT := TT.setNewF (B := w.heap.size) (by omega) 4 (.slice (some ⟨DA, 0, none⟩) 2 2)
      replace q0 := q0.set 5 (.int .i64 KA)
      replace GA := GA.setFar (X := w.heap.size) (by omega) (by omega) 5 (.int .i64 KA)
      replace qf := qf.setOther (B' := w.heap.size) (by omega) 5 (.int .i64 KA)
      replace rd := rd.setNew (B := w.heap.size) (by omega) (fun h0 b o e => by have := ha0 h0 b o e; omega) 5 (.int .i64 KA)
      replace TT := TT.setNewF (B := w.heap.size) (by omega) 5 (.int .i64 KA)
      obtain ⟨W9, hW9⟩ : ∃ W, W = ((((((w8.setCell ⟨w.heap.size, 0, none⟩ (.int .i64 2)).setCell ⟨w.heap.size, 1, none⟩ (.int .i64 (i : Int))).setCell ⟨w.heap.size, 2, none⟩ (.int .i64 0)).setCell ⟨w.heap.size, 3, none⟩ (.slice (some ⟨BA, 0, none⟩) 3 3)).setCell ⟨w.heap.size, 4, none⟩ (.slice (some ⟨DA, 0, none⟩) 2 2)).setCell ⟨w.heap.size, 5, none⟩ (.int .i64 KA)) := ⟨_, rfl⟩
      rw [← hW9]
      rw [← hW9] at TT rd q0 GA qf
      clear hW9
      clear hSS
      have hSS : (fun X : World => X.cell? ⟨XF, 0, none⟩ = some (.slice (some ⟨BA, 0, none⟩) 3 3) ∧ X.cell? ⟨XF, 1, none⟩ = some (.slice (some ⟨DA, 0, none⟩) 2 2) ∧ X.cell? ⟨XF, 2, none⟩ = some (.int .i64 KA)) W9 ∧ True := ⟨⟨qf.cell 0, qf.cell 1, qf.cell 2⟩, trivial⟩
      refine hK.out _ _ ⟨hSS.1, fun _ => trivial⟩ ?_
      clear hK
      refine wpAnyE_done (by kernel_rfl) ?_ _
      clear hSS
      go_wp2
      have hws := TT.size
      have u0 : W9.cell? ⟨w.heap.size, 0, none⟩ = some (.int .i64 2) := q0.cell 0
      have u1 : W9.cell? ⟨w.heap.size, 1, none⟩ = some (.int .i64 (i : Int)) := q0.cell 1
      have u2 : W9.cell? ⟨w.heap.size, 2, none⟩ = some (.int .i64 0) := q0.cell 2
      have u3 : W9.cell? ⟨w.heap.size, 3, none⟩ = some (.slice (some ⟨BA, 0, none⟩) 3 3) := q0.cell 3
      have u4 : W9.cell? ⟨w.heap.size, 4, none⟩ = some (.slice (some ⟨DA, 0, none⟩) 2 2) := q0.cell 4
      have u5 : W9.cell? ⟨w.heap.size, 5, none⟩ = some (.int .i64 KA) := q0.cell 5
      refine bodyPost_ret (v := lnV ⟨2, (i : Int), 0, ⟨some ⟨BA, 0, none⟩, 3, 3, some ⟨DA, 0, none⟩, 2, 2, KA, LCA, LDA⟩⟩) (by simp [results, Tryz.results58, go_sem, u0, u1, u2, u3, u4, u5]) rfl ⟨⟨2, (i : Int), 0, ⟨some ⟨BA, 0, none⟩, 3, 3, some ⟨DA, 0, none⟩, 2, 2, KA, LCA, LDA⟩⟩, _, rfl, ⟨TT, rd, ⟨GA.C, GA.D, by simp only []; omega, by simp only []; omega⟩, fun b o e => by simp only [Option.some.injEq, Addr.mk.injEq] at e; have hb := GA.C.blk (by omega); omega, fun b o e => by simp only [Option.some.injEq, Addr.mk.injEq] at e; have hb := GA.D.blk (by omega); omega, lok2 (pot := (i : Int)) (small_of sCA sDA sKA1 sKA2) (by omega) (by omega), by omega, by omega⟩⟩
    · have hk' : (0 : Int) < (k : Int) := by omega
      have gqf_0 := qf.cell 0
      have gqf_1 := qf.cell 1
      have gqf_2 := qf.cell 2
      simp only [List.getElem?_cons_zero, List.getElem?_cons_succ] at gqf_0 gqf_1 gqf_2
      have fqf_0 := qf.free 0
      have fqf_1 := qf.free 1
      have fqf_2 := qf.free 2
      have lqf := qf.lt
      go_upto_region 11 with fail
      clear gqf_0 gqf_1 gqf_2 fqf_0 fqf_1 fqf_2 lqf
      have hwz := TT.size
      have ltF := qf.lt
      obtain ⟨BM, hBM⟩ : ∃ x, x = w6.heap.size := ⟨_, rfl⟩
      rw [← hBM]
      rw [← hBM] at hwz ltF
      have nXM : BM ≠ XF := by omega
      have nRM : BM ≠ R := by omega
      replace q0 := q0.setOther (B' := XF) (by omega) 0 (.slice (some ⟨BM, 0, none⟩) 3 3)
      replace GA := GA.setFar (X := XF) (by omega) (by omega) 0 (.slice (some ⟨BM, 0, none⟩) 3 3)
      replace qf := qf.set 0 (.slice (some ⟨BM, 0, none⟩) 3 3)
      replace rd := rd.setNew (B := XF) (by omega) (fun h0 b o e => by have := ha0 h0 b o e; omega) 0 (.slice (some ⟨BM, 0, none⟩) 3 3)
      replace TT := TT.setNewF (B := XF) (by omega) 0 (.slice (some ⟨BM, 0, none⟩) 3 3)
      have al := (Below.refl (w6.setCell ⟨XF, 0, none⟩ (.slice (some ⟨BM, 0, none⟩) 3 3)).heap.size (w6.setCell ⟨XF, 0, none⟩ (.slice (some ⟨BM, 0, none⟩) 3 3))).alloc (Nat.le_refl _) (.cells #[.int .i64 0, .int .i64 0, .int .i64 0] 3)
      have kz : Blk ((w6.setCell ⟨XF, 0, none⟩ (.slice (some ⟨BM, 0, none⟩) 3 3)).alloc (.cells #[.int .i64 0, .int .i64 0, .int .i64 0] 3)) (w6.setCell ⟨XF, 0, none⟩ (.slice (some ⟨BM, 0, none⟩) 3 3)).heap.size [0, 0, 0] := heap_alloc_new (w6.setCell ⟨XF, 0, none⟩ (.slice (some ⟨BM, 0, none⟩) 3 3)) _
      rw [show (w6.setCell ⟨XF, 0, none⟩ (.slice (some ⟨BM, 0, none⟩) 3 3)).heap.size = BM from by rw [size_setCell]; exact hBM.symm] at kz
      clear hBM
      replace q0 := q0.below al
      replace GA := GA.below al
      replace qf := qf.below al
      replace TT := TT.trans (Touch.of al)
      replace rd := rd.below al
      clear al
      have hzl := kz.lt
      have GM : FA ((w6.setCell ⟨XF, 0, none⟩ (.slice (some ⟨BM, 0, none⟩) 3 3)).alloc (.cells #[.int .i64 0, .int .i64 0, .int .i64 0] 3)) (some ⟨BM, 0, none⟩) 3 (some ⟨DA, 0, none⟩) 2 ([0, 0, 0], LDA, KA) := ⟨kz.ints' rfl, GA.D, by omega, by omega⟩
      clear kz GA
      have zM1 : w.heap.size ≤ BM := hwz
      have zM2 := zA2
      have hBMw : w.heap.size < BM := by omega
      obtain ⟨W7, hW7⟩ : ∃ W, W = ((w6.setCell ⟨XF, 0, none⟩ (.slice (some ⟨BM, 0, none⟩) 3 3)).alloc (.cells #[.int .i64 0, .int .i64 0, .int .i64 0] 3)) := ⟨_, rfl⟩
      rw [← hW7]
      rw [← hW7] at TT rd q0 qf GM
      clear hW7
      refine wp_region_ends (fun X => X.cell? ⟨XF, 0, none⟩ = some (.slice (some ⟨BM, 0, none⟩) 3 3) ∧ X.cell? ⟨XF, 1, none⟩ = some (.slice (some ⟨DA, 0, none⟩) 2 2) ∧ X.cell? ⟨XF, 2, none⟩ = some (.int .i64 KA)) (fun _ => True) 5 (by kernel_rfl) ?_
      have dr : Below W7.heap.size W7 W7.drew := (Below.refl _ _).drew
      replace q0 := q0.below dr
      replace qf := qf.below dr
      replace GM := GM.below dr
      replace TT := TT.trans (Touch.of dr)
      replace rd := rd.below dr
      clear dr
      obtain ⟨V8, hV8⟩ : ∃ W, W = W7.drew := ⟨_, rfl⟩
      rw [← hV8]
      rw [← hV8] at TT rd q0 qf GM
      clear hV8
      have hSS : (fun X : World => X.cell? ⟨XF, 0, none⟩ = some (.slice (some ⟨BM, 0, none⟩) 3 3) ∧ X.cell? ⟨XF, 1, none⟩ = some (.slice (some ⟨DA, 0, none⟩) 2 2) ∧ X.cell? ⟨XF, 2, none⟩ = some (.int .i64 KA)) V8 ∧ True := ⟨⟨qf.cell 0, qf.cell 1, qf.cell 2⟩, trivial⟩
      refine tkL (i := 0) rfl hSS ?_
      refine tkL (i := 2) rfl hSS ?_
      refine wpAnyE_one (i := 1) (by kernel_rfl) rfl (fun Kn hK => ?_)
      go_simp
      refine (pick_any R a n cap bs (p + 1 + 6 + 1) 3 _ rd (by omega) (by omega) (by omega) (by omega)).mono ?_
      rintro e w9 ⟨ri, hi0, hi1, rfl, t5, R5⟩
      obtain ⟨i, rfl⟩ := Int.eq_ofNat_of_zero_le hi0
      clear hi0
      replace q0 := q0.touch t5 nq0
      replace qf := qf.touch t5 nqf
      replace GM := GM.far t5 (lo := w.heap.size) (fun k hk => by omega) zM1 zM2
      replace TT := TT.trans t5
      replace rd := R5
      clear t5 R5
      dsimp only
      clear hSS
      have hSS : (fun X : World => X.cell? ⟨XF, 0, none⟩ = some (.slice (some ⟨BM, 0, none⟩) 3 3) ∧ X.cell? ⟨XF, 1, none⟩ = some (.slice (some ⟨DA, 0, none⟩) 2 2) ∧ X.cell? ⟨XF, 2, none⟩ = some (.int .i64 KA)) w9 ∧ True := ⟨⟨qf.cell 0, qf.cell 1, qf.cell 2⟩, trivial⟩
      refine hK.out _ _ ⟨hSS.1, fun _ => trivial⟩ ?_
      clear hK
      refine tkL (i := 3) rfl hSS ?_
      refine wpAnyE_one (i := 4) (by kernel_rfl) rfl (fun Kn hK => ?_)
      have gq0_0 := q0.cell 0
      have gq0_1 := q0.cell 1
      have gq0_2 := q0.cell 2
      have gq0_3 := q0.cell 3
      have gq0_4 := q0.cell 4
      have gq0_5 := q0.cell 5
      simp only [List.getElem?_cons_zero, List.getElem?_cons_succ] at gq0_0 gq0_1 gq0_2 gq0_3 gq0_4 gq0_5
      have fq0_0 := q0.free 0
      have fq0_1 := q0.free 1
      have fq0_2 := q0.free 2
      have fq0_3 := q0.free 3
      have fq0_4 := q0.free 4
      have fq0_5 := q0.free 5
      have lq0 := q0.lt
      go_simp
      clear gq0_0 gq0_1 gq0_2 gq0_3 gq0_4 gq0_5 fq0_0 fq0_1 fq0_2 fq0_3 fq0_4 fq0_5 lq0
      have hwt2 := TT.size
      have hlq2 := q0.lt
      replace q0 := q0.set 0 (.int .i64 2)
      replace qf := qf.setOther (B' := w.heap.size) (by omega) 0 (.int .i64 2)
      replace GM := GM.setFar (X := w.heap.size) (by omega) (by omega) 0 (.int .i64 2)
      replace rd := rd.setNew (B := w.heap.size) (by omega) (fun h0 b o e => by have := ha0 h0 b o e; omega) 0 (.int .i64 2)
      replace TT := TT.setNewF (B := w.heap.size) (by omega) 0 (.int .i64 2)
      replace q0 := q0.set 1 (.int .i64 (i : Int))
      replace qf := qf.setOther (B' := w.heap.size) (by omega) 1 (.int .i64 (i : Int))
      replace GM := GM.setFar (X := w.heap.size) (by omega) (by omega) 1 (.int .i64 (i : Int))
      replace rd := rd.setNew (B := w.heap.size) (by omega) (fun h0 b o e => by have := ha0 h0 b o e; omega) 1 (.int .i64 (i : Int))
      replace TT := TT.setNewF (B := w.heap.size) (by omega) 1 (.int .i64 (i : Int))
      replace q0 := q0.set 2 (.int .i64 0)
      replace qf := qf.setOther (B' := w.heap.size) (by omega) 2 (.int .i64 0)
      replace GM := GM.setFar (X := w.heap.size) (by omega) (by omega) 2 (.int .i64 0)
      replace rd := rd.setNew (B := w.heap.size) (by omega) (fun h0 b o e => by have := ha0 h0 b o e; omega) 2 (.int .i64 0)
      replace TT := TT.setNewF (B := w.heap.size) (by omega) 2 (.int .i64 0)
      replace q0 := q0.set 3 (.slice (some ⟨BM, 0, none⟩) 3 3)
      replace qf := qf.setOther (B' := w.heap.size) (by omega) 3 (.slice (some ⟨BM, 0, none⟩) 3 3)
      replace GM := GM.setFar (X := w.heap.size) (by omega) (by omega) 3 (.slice (some ⟨BM, 0, none⟩) 3 3)
      replace rd := rd.setNew (B := w.heap.size) (by omega) (fun h0 b o e => by have := ha0 h0 b o e; omega) 3 (.slice (some ⟨BM, 0, none⟩) 3 3)
      replace TT := TT.setNewF (B := w.heap.size) (by omega) 3 (.slice (some ⟨BM, 0, none⟩) 3 3)
      replace q0 := q0.set 4 (.slice (some ⟨DA, 0, none⟩) 2 2)
      replace qf := qf.setOther (B' := w.heap.size) (by omega) 4 (.slice (some ⟨DA, 0, none⟩) 2 2)
      replace GM := GM.setFar (X := w.heap.size) (by omega) (by omega) 4 (.slice (some ⟨DA, 0, none⟩) 2 2)
      replace rd := rd.setNew (B := w.heap.size) (by omega) (fun h0 b o e => by have := ha0 h0 b o e; omega) 4 (.slice (some ⟨DA, 0, none⟩) 2 2)
      replace TT := TT.setNewF (B := w.heap.size) (by omega) 4 (.slice (some ⟨DA, 0, none⟩) 2 2)
      replace q0 := q0.set 5 (.int .i64 KA)
      replace qf := qf.setOther (B' := w.heap.size) (by omega) 5 (.int .i64 KA)
      replace GM := GM.setFar (X := w.heap.size) (by omega) (by omega) 5 (.int .i64 KA)
      replace rd := rd.setNew (B := w.heap.size) (by omega) (fun h0 b o e => by have := ha0 h0 b o e; omega) 5 (.int .i64 KA)
      replace TT := TT.setNewF (B := w.heap.size) (by omega) 5 (.int .i64 KA)
      obtain ⟨W10, hW10⟩ : ∃ W, W = ((((((w9.setCell ⟨w.heap.size, 0, none⟩ (.int .i64 2)).setCell ⟨w.heap.size, 1, none⟩ (.int .i64 (i : Int))).setCell ⟨w.heap.size, 2, none⟩ (.int .i64 0)).setCell ⟨w.heap.size, 3, none⟩ (.slice (some ⟨BM, 0, none⟩) 3 3)).setCell ⟨w.heap.size, 4, none⟩ (.slice (some ⟨DA, 0, none⟩) 2 2)).setCell ⟨w.heap.size, 5, none⟩ (.int .i64 KA)) := ⟨_, rfl⟩
      rw [← hW10]
      rw [← hW10] at TT rd q0 qf GM
      clear hW10
      clear hSS
      have hSS : (fun X : World => X.cell? ⟨XF, 0, none⟩ = some (.slice (some ⟨BM, 0, none⟩) 3 3) ∧ X.cell? ⟨XF, 1, none⟩ = some (.slice (some ⟨DA, 0, none⟩) 2 2) ∧ X.cell? ⟨XF, 2, none⟩ = some (.int .i64 KA)) W10 ∧ True := ⟨⟨qf.cell 0, qf.cell 1, qf.cell 2⟩, trivial⟩
      refine hK.out _ _ ⟨hSS.1, fun _ => trivial⟩ ?_
      clear hK
      refine wpAnyE_done (by kernel_rfl) ?_ _
      clear hSS
      go_wp2
      have hws := TT.size
      have u0 : W10.cell? ⟨w.heap.size, 0, none⟩ = some (.int .i64 2) := q0.cell 0
      have u1 : W10.cell? ⟨w.heap.size, 1, none⟩ = some (.int .i64 (i : Int)) := q0.cell 1
      have u2 : W10.cell? ⟨w.heap.size, 2, none⟩ = some (.int .i64 0) := q0.cell 2
      have u3 : W10.cell? ⟨w.heap.size, 3, none⟩ = some (.slice (some ⟨BM, 0, none⟩) 3 3) := q0.cell 3
      have u4 : W10.cell? ⟨w.heap.size, 4, none⟩ = some (.slice (some ⟨DA, 0, none⟩) 2 2) := q0.cell 4
      have u5 : W10.cell? ⟨w.heap.size, 5, none⟩ = some (.int .i64 KA) := q0.cell 5
      refine bodyPost_ret (v := lnV ⟨2, (i : Int), 0, ⟨some ⟨BM, 0, none⟩, 3, 3, some ⟨DA, 0, none⟩, 2, 2, KA, [0, 0, 0], LDA⟩⟩) (by simp [results, Tryz.results58, go_sem, u0, u1, u2, u3, u4, u5]) rfl ⟨⟨2, (i : Int), 0, ⟨some ⟨BM, 0, none⟩, 3, 3, some ⟨DA, 0, none⟩, 2, 2, KA, [0, 0, 0], LDA⟩⟩, _, rfl, ⟨TT, rd, ⟨GM.C, GM.D, by simp only []; omega, by simp only []; omega⟩, fun b o e => by simp only [Option.some.injEq, Addr.mk.injEq] at e; have hb := GM.C.blk (by omega); omega, fun b o e => by simp only [Option.some.injEq, Addr.mk.injEq] at e; have hb := GM.D.blk (by omega); omega, lok2 (pot := (i : Int)) (small_of (fun i => by rcases i with _ | _ | _ | i <;> simp) sDA sKA1 sKA2) (by omega) (by omega), by omega, by omega⟩⟩
  · go_wp2_with fail
    have xA := q0.lt
    refine (small_f R a n cap bs (p + 1) _ rd (by omega) (by omega) rd.ha).mono ?_
    rintro e w4 ⟨BA, DA, LCA, LDA, KA, rfl, t5, R5, f5, sCA, sDA, sKA1, sKA2⟩
    have zA1 : w.heap.size ≤ BA := Nat.le_trans TT.size f5.b1
    have zA2 : w.heap.size ≤ DA := Nat.le_trans TT.size f5.b2
    have lCA := f5.l1
    have lDA := f5.l2
    have GA : FA w4 (some ⟨BA, 0, none⟩) 3 (some ⟨DA, 0, none⟩) 2 (LCA, LDA, KA) := ⟨f5.k1.ints' f5.l1, f5.k2.ints' f5.l2, by omega, by omega⟩
    have ltCA := f5.k1.lt
    have ltDA := f5.k2.lt
    have nCDA := f5.ne
    have yA1 := f5.b1
    have yA2 := f5.b2
    clear f5
    replace q0 := q0.touch t5 nq0
    replace TT := TT.trans t5
    replace rd := R5
    clear t5 R5
    have hwt := TT.size
    have hlq := q0.lt
    have al := (Below.refl w4.heap.size w4).alloc (Nat.le_refl _) (.cells #[.slice (some ⟨BA, 0, none⟩) 3 3, .slice (some ⟨DA, 0, none⟩) 2 2, .int .i64 KA] 34)
    have qf := Cel.new w4 [.slice (some ⟨BA, 0, none⟩) 3 3, .slice (some ⟨DA, 0, none⟩) 2 2, .int .i64 KA] 34
    replace q0 := q0.below al
    replace GA := GA.below al
    replace TT := TT.trans (Touch.of al)
    replace rd := rd.below al
    clear al
    go_wp2_with fail
    obtain ⟨W5, hW5⟩ : ∃ W, W = (w4.alloc (.cells #[.slice (some ⟨BA, 0, none⟩) 3 3, .slice (some ⟨DA, 0, none⟩) 2 2, .int .i64 KA] 34)) := ⟨_, rfl⟩
    rw [← hW5]
    rw [← hW5] at TT rd q0 GA qf
    clear hW5
    obtain ⟨XF, hXF⟩ : ∃ x, x = w4.heap.size := ⟨_, rfl⟩
    rw [← hXF]
    rw [← hXF] at qf hwt
    have nqf : XF ≠ R := by omega
    have hXw : w.heap.size < XF := by omega
    have nXB : BA ≠ XF := by omega
    have nXD : DA ≠ XF := by omega
    clear hXF
    refine (pick_any R a n cap bs (p + 1 + 6) 3 _ rd (by omega) (by omega) (by omega) (by omega)).mono ?_
    rintro e w6 ⟨rk, hk0, hk1, rfl, t5, R5⟩
    obtain ⟨k, rfl⟩ := Int.eq_ofNat_of_zero_le hk0
    clear hk0
    replace q0 := q0.touch t5 nq0
    replace GA := GA.far t5 (lo := w.heap.size) (fun k hk => by omega) zA1 zA2
    replace qf := qf.touch t5 nqf
    replace TT := TT.trans t5
    replace rd := R5
    clear t5 R5
    by_cases hk : (k : Int) = 0
    · have hk' : ¬ (0 : Int) < (k : Int) := by omega
      go_upto_region 11 with fail
      refine wp_region_ends (fun X => X.cell? ⟨XF, 0, none⟩ = some (.slice (some ⟨BA, 0, none⟩) 3 3) ∧ X.cell? ⟨XF, 1, none⟩ = some (.slice (some ⟨DA, 0, none⟩) 2 2) ∧ X.cell? ⟨XF, 2, none⟩ = some (.int .i64 KA)) (fun _ => True) 5 (by kernel_rfl) ?_
      have dr : Below w6.heap.size w6 w6.drew := (Below.refl _ _).drew
      replace q0 := q0.below dr
      replace GA := GA.below dr
      replace qf := qf.below dr
      replace TT := TT.trans (Touch.of dr)
      replace rd := rd.below dr
      clear dr
      obtain ⟨V7, hV7⟩ : ∃ W, W = w6.drew := ⟨_, rfl⟩
      rw [← hV7]
      rw [← hV7] at TT rd q0 GA qf
      clear hV7
      have hSS : (fun X : World => X.cell? ⟨XF, 0, none⟩ = some (.slice (some ⟨BA, 0, none⟩) 3 3) ∧ X.cell? ⟨XF, 1, none⟩ = some (.slice (some ⟨DA, 0, none⟩) 2 2) ∧ X.cell? ⟨XF, 2, none⟩ = some (.int .i64 KA)) V7 ∧ True := ⟨⟨qf.cell 0, qf.cell 1, qf.cell 2⟩, trivial⟩
      refine tkL (i := 0) rfl hSS ?_
      refine tkL (i := 2) rfl hSS ?_
      refine wpAnyE_one (i := 1) (by kernel_rfl) rfl (fun Kn hK => ?_)
      go_simp
      refine (pick_any R a n cap bs (p + 1 + 6 + 1) 3 _ rd (by omega) (by omega) (by omega) (by omega)).mono ?_
      rintro e w8 ⟨ri, hi0, hi1, rfl, t5, R5⟩
      obtain ⟨i, rfl⟩ := Int.eq_ofNat_of_zero_le hi0
      clear hi0
      replace q0 := q0.touch t5 nq0
      replace GA := GA.far t5 (lo := w.heap.size) (fun k hk => by omega) zA1 zA2
      replace qf := qf.touch t5 nqf
      replace TT := TT.trans t5
      replace rd := R5
      clear t5 R5
      dsimp only
      clear hSS
      have hSS : (fun X : World => X.cell? ⟨XF, 0, none⟩ = some (.slice (some ⟨BA, 0, none⟩) 3 3) ∧ X.cell? ⟨XF, 1, none⟩ = some (.slice (some ⟨DA, 0, none⟩) 2 2) ∧ X.cell? ⟨XF, 2, none⟩ = some (.int .i64 KA)) w8 ∧ True := ⟨⟨qf.cell 0, qf.cell 1, qf.cell 2⟩, trivial⟩
      refine hK.out _ _ ⟨hSS.1, fun _ => trivial⟩ ?_
      clear hK
      refine tkL (i := 3) rfl hSS ?_
      refine wpAnyE_one (i := 4) (by kernel_rfl) rfl (fun Kn hK => ?_)
      have gq0_0 := q0.cell 0
      have gq0_1 := q0.cell 1
      have gq0_2 := q0.cell 2
      have gq0_3 := q0.cell 3
      have gq0_4 := q0.cell 4
      have gq0_5 := q0.cell 5
      simp only [List.getElem?_cons_zero, List.getElem?_cons_succ] at gq0_0 gq0_1 gq0_2 gq0_3 gq0_4 gq0_5
      have fq0_0 := q0.free 0
      have fq0_1 := q0.free 1
      have fq0_2 := q0.free 2
      have fq0_3 := q0.free 3
      have fq0_4 := q0.free 4
      have fq0_5 := q0.free 5
      have lq0 := q0.lt
      go_simp
      clear gq0_0 gq0_1 gq0_2 gq0_3 gq0_4 gq0_5 fq0_0 fq0_1 fq0_2 fq0_3 fq0_4 fq0_5 lq0
      have hwt2 := TT.size
      have hlq2 := q0.lt
      replace q0 := q0.set 0 (.int .i64 2)
      replace GA := GA.setFar (X := w.heap.size) (by omega) (by omega) 0 (.int .i64 2)
      replace qf := qf.setOther (B' := w.heap.size) (by omega) 0 (.int .i64 2)
      replace rd := rd.setNew (B := w.heap.size) (by omega) (fun h0 b o e => by have := ha0 h0 b o e; omega) 0 (.int .i64 2)
      replace TT := TT.setNewF (B := w.heap.size) (by omega) 0 (.int .i64 2)
      replace q0 := q0.set 1 (.int .i64 (i : Int))
      replace GA := GA.setFar (X := w.heap.size) (by omega) (by omega) 1 (.int .i64 (i : Int))
      replace qf := qf.setOther (B' := w.heap.size) (by omega) 1 (.int .i64 (i : Int))
      replace rd := rd.setNew (B := w.heap.size) (by omega) (fun h0 b o e => by have := ha0 h0 b o e; omega) 1 (.int .i64 (i : Int))
      replace TT := TT.setNewF (B := w.heap.size) (by omega) 1 (.int .i64 (i : Int))
      replace q0 := q0.set 2 (.int .i64 0)
      replace GA := GA.setFar (X := w.heap.size) (by omega) (by omega) 2 (.int .i64 0)
      replace qf := qf.setOther (B' := w.heap.size) (by omega) 2 (.int .i64 0)
      replace rd := rd.setNew (B := w.heap.size) (by omega) (fun h0 b o e => by have := ha0 h0 b o e; omega) 2 (.int .i64 0)
      replace TT := TT.setNewF (B := w.heap.size) (by omega) 2 (.int .i64 0)
      replace q0 := q0.set 3 (.slice (some ⟨BA, 0, none⟩) 3 3)
      replace GA := GA.setFar (X := w.heap.size) (by omega) (by omega) 3 (.slice (some ⟨BA, 0, none⟩) 3 3)
      replace qf := qf.setOther (B' := w.heap.size) (by omega) 3 (.slice (some ⟨BA, 0, none⟩) 3 3)
      replace rd := rd.setNew (B := w.heap.size) (by omega) (fun h0 b o e => by have := ha0 h0 b o e; omega) 3 (.slice (some ⟨BA, 0, none⟩) 3 3)
      replace TT := TT.setNewF (B := w.heap.size) (by omega) 3 (.slice (some ⟨BA, 0, none⟩) 3 3)
      replace q0 := q0.set 4 (.slice (some ⟨DA, 0, none⟩) 2 2)
      replace GA := GA.setFar (X := w.heap.size) (by omega) (by omega) 4 (.slice (some ⟨DA, 0, none⟩) 2 2)
      replace qf := qf.setOther (B' := w.heap.size) (by omega) 4 (.slice (some ⟨DA, 0, none⟩) 2 2)
      replace rd := rd.setNew (B := w.heap.size) (by omega) (fun h0 b o e => by have := ha0 h0 b o e; omega) 4 (.slice (some ⟨DA, 0, none⟩) 2 2)
      replace TT := TT.setNewF (B := w.heap.size) (by omega) 4 (.slice (some ⟨DA, 0, none⟩) 2 2)
      replace q0 := q0.set 5 (.int .i64 KA)
      replace GA := GA.setFar (X := w.heap.size) (by omega) (by omega) 5 (.int .i64 KA)
      replace qf := qf.setOther (B' := w.heap.size) (by omega) 5 (.int .i64 KA)
      replace rd := rd.setNew (B := w.heap.size) (by omega) (fun h0 b o e => by have := ha0 h0 b o e; omega) 5 (.int .i64 KA)
      replace TT := TT.setNewF (B := w.heap.size) (by omega) 5 (.int .i64 KA)
      obtain ⟨W9, hW9⟩ : ∃ W, W = ((((((w8.setCell ⟨w.heap.size, 0, none⟩ (.int .i64 2)).setCell ⟨w.heap.size, 1, none⟩ (.int .i64 (i : Int))).setCell ⟨w.heap.size, 2, none⟩ (.int .i64 0)).setCell ⟨w.heap.size, 3, none⟩ (.slice (some ⟨BA, 0, none⟩) 3 3)).setCell ⟨w.heap.size, 4, none⟩ (.slice (some ⟨DA, 0, none⟩) 2 2)).setCell ⟨w.heap.size, 5, none⟩ (.int .i64 KA)) := ⟨_, rfl⟩
      rw [← hW9]
      rw [← hW9] at TT rd q0 GA qf
      clear hW9
      clear hSS
      have hSS : (fun X : World => X.cell? ⟨XF, 0, none⟩ = some (.slice (some ⟨BA, 0, none⟩) 3 3) ∧ X.cell? ⟨XF, 1, none⟩ = some (.slice (some ⟨DA, 0, none⟩) 2 2) ∧ X.cell? ⟨XF, 2, none⟩ = some (.int .i64 KA)) W9 ∧ True := ⟨⟨qf.cell 0, qf.cell 1, qf.cell 2⟩, trivial⟩
      refine hK.out _ _ ⟨hSS.1, fun _ => trivial⟩ ?_
      clear hK
      refine wpAnyE_done (by kernel_rfl) ?_ _
      clear hSS
      go_wp2
      have hws := TT.size
      have u0 : W9.cell? ⟨w.heap.size, 0, none⟩ = some (.int .i64 2) := q0.cell 0
      have u1 : W9.cell? ⟨w.heap.size, 1, none⟩ = some (.int .i64 (i : Int)) := q0.cell 1
      have u2 : W9.cell? ⟨w.heap.size, 2, none⟩ = some (.int .i64 0) := q0.cell 2
      have u3 : W9.cell? ⟨w.heap.size, 3, none⟩ = some (.slice (some ⟨BA, 0, none⟩) 3 3) := q0.cell 3
      have u4 : W9.cell? ⟨w.heap.size, 4, none⟩ = some (.slice (some ⟨DA, 0, none⟩) 2 2) := q0.cell 4
      have u5 : W9.cell? ⟨w.heap.size, 5, none⟩ = some (.int .i64 KA) := q0.cell 5
      refine bodyPost_ret (v := lnV ⟨2, (i : Int), 0, ⟨some ⟨BA, 0, none⟩, 3, 3, some ⟨DA, 0, none⟩, 2, 2, KA, LCA, LDA⟩⟩) (by simp [results, Tryz.results58, go_sem, u0, u1, u2, u3, u4, u5]) rfl ⟨⟨2, (i : Int), 0, ⟨some ⟨BA, 0, none⟩, 3, 3, some ⟨DA, 0, none⟩, 2, 2, KA, LCA, LDA⟩⟩, _, rfl, ⟨TT, rd, ⟨GA.C, GA.D, by simp only []; omega, by simp only []; omega⟩, fun b o e => by simp only [Option.some.injEq, Addr.mk.injEq] at e; have hb := GA.C.blk (by omega); omega, fun b o e => by simp only [Option.some.injEq, Addr.mk.injEq] at e; have hb := GA.D.blk (by omega); omega, lok2 (pot := (i : Int)) (small_of sCA sDA sKA1 sKA2) (by omega) (by omega), by omega, by omega⟩⟩
    · have hk' : (0 : Int) < (k : Int) := by omega
      have gqf_0 := qf.cell 0
      have gqf_1 := qf.cell 1
      have gqf_2 := qf.cell 2
      simp only [List.getElem?_cons_zero, List.getElem?_cons_succ] at gqf_0 gqf_1 gqf_2
      have fqf_0 := qf.free 0
      have fqf_1 := qf.free 1
      have fqf_2 := qf.free 2
      have lqf := qf.lt
      go_upto_region 11 with fail
      clear gqf_0 gqf_1 gqf_2 fqf_0 fqf_1 fqf_2 lqf
      have hwz := TT.size
      have ltF := qf.lt
      obtain ⟨BM, hBM⟩ : ∃ x, x = w6.heap.size := ⟨_, rfl⟩
      rw [← hBM]
      rw [← hBM] at hwz ltF
      have nXM : BM ≠ XF := by omega
      have nRM : BM ≠ R := by omega
      replace q0 := q0.setOther (B' := XF) (by omega) 0 (.slice (some ⟨BM, 0, none⟩) 3 3)
      replace GA := GA.setFar (X := XF) (by omega) (by omega) 0 (.slice (some ⟨BM, 0, none⟩) 3 3)
      replace qf := qf.set 0 (.slice (some ⟨BM, 0, none⟩) 3 3)
      replace rd := rd.setNew (B := XF) (by omega) (fun h0 b o e => by have := ha0 h0 b o e; omega) 0 (.slice (some ⟨BM, 0, none⟩) 3 3)
      replace TT := TT.setNewF (B := XF) (by omega) 0 (.slice (some ⟨BM, 0, none⟩) 3 3)
      have al := (Below.refl (w6.setCell ⟨XF, 0, none⟩ (.slice (some ⟨BM, 0, none⟩) 3 3)).heap.size (w6.setCell ⟨XF, 0, none⟩ (.slice (some ⟨BM, 0, none⟩) 3 3))).alloc (Nat.le_refl _) (.cells #[.int .i64 0, .int .i64 0, .int .i64 0] 3)
      have kz : Blk ((w6.setCell ⟨XF, 0, none⟩ (.slice (some ⟨BM, 0, none⟩) 3 3)).alloc (.cells #[.int .i64 0, .int .i64 0, .int .i64 0] 3)) (w6.setCell ⟨XF, 0, none⟩ (.slice (some ⟨BM, 0, none⟩) 3 3)).heap.size [0, 0, 0] := heap_alloc_new (w6.setCell ⟨XF, 0, none⟩ (.slice (some ⟨BM, 0, none⟩) 3 3)) _
      rw [show (w6.setCell ⟨XF, 0, none⟩ (.slice (some ⟨BM, 0, none⟩) 3 3)).heap.size = BM from by rw [size_setCell]; exact hBM.symm] at kz
      clear hBM
      replace q0 := q0.below al
      replace GA := GA.below al
      replace qf := qf.below al
      replace TT := TT.trans (Touch.of al)
      replace rd := rd.below al
      clear al
      have hzl := kz.lt
      have GM : FA ((w6.setCell ⟨XF, 0, none⟩ (.slice (some ⟨BM, 0, none⟩) 3 3)).alloc (.cells #[.int .i64 0, .int .i64 0, .int .i64 0] 3)) (some ⟨BM, 0, none⟩) 3 (some ⟨DA, 0, none⟩) 2 ([0, 0, 0], LDA, KA) := ⟨kz.ints' rfl, GA.D, by omega, by omega⟩
      clear kz GA
      have zM1 : w.heap.size ≤ BM := hwz
      have zM2 := zA2
      have hBMw : w.heap.size < BM := by omega
      obtain ⟨W7, hW7⟩ : ∃ W, W = ((w6.setCell ⟨XF, 0, none⟩ (.slice (some ⟨BM, 0, none⟩) 3 3)).alloc (.cells #[.int .i64 0, .int .i64 0, .int .i64 0] 3)) := ⟨_, rfl⟩
      rw [← hW7]
      rw [← hW7] at TT rd q0 qf GM
      clear hW7
      refine wp_region_ends (fun X => X.cell? ⟨XF, 0, none⟩ = some (.slice (some ⟨BM, 0, none⟩) 3 3) ∧ X.cell? ⟨XF, 1, none⟩ = some (.slice (some ⟨DA, 0, none⟩) 2 2) ∧ X.cell? ⟨XF, 2, none⟩ = some (.int .i64 KA)) (fun _ => True) 5 (by kernel_rfl) ?_
      have dr : Below W7.heap.size W7 W7.drew := (Below.refl _ _).drew
      replace q0 := q0.below dr
      replace qf := qf.below dr
      replace GM := GM.below dr
      replace TT := TT.trans (Touch.of dr)
      replace rd := rd.below dr
      clear dr
      obtain ⟨V8, hV8⟩ : ∃ W, W = W7.drew := ⟨_, rfl⟩
      rw [← hV8]
      rw [← hV8] at TT rd q0 qf GM
      clear hV8
      have hSS : (fun X : World => X.cell? ⟨XF, 0, none⟩ = some (.slice (some ⟨BM, 0, none⟩) 3 3) ∧ X.cell? ⟨XF, 1, none⟩ = some (.slice (some ⟨DA, 0, none⟩) 2 2) ∧ X.cell? ⟨XF, 2, none⟩ = some (.int .i64 KA)) V8 ∧ True := ⟨⟨qf.cell 0, qf.cell 1, qf.cell 2⟩, trivial⟩
      refine tkL (i := 0) rfl hSS ?_
      refine tkL (i := 2) rfl hSS ?_
      refine wpAnyE_one (i := 1) (by kernel_rfl) rfl (fun Kn hK => ?_)
      go_simp
      refine (pick_any R a n cap bs (p + 1 + 6 + 1) 3 _ rd (by omega) (by omega) (by omega) (by omega)).mono ?_
      rintro e w9 ⟨ri, hi0, hi1, rfl, t5, R5⟩
      obtain ⟨i, rfl⟩ := Int.eq_ofNat_of_zero_le hi0
      clear hi0
      replace q0 := q0.touch t5 nq0
      replace qf := qf.touch t5 nqf
      replace GM := GM.far t5 (lo := w.heap.size) (fun k hk => by omega) zM1 zM2
      replace TT := TT.trans t5
      replace rd := R5
      clear t5 R5
      dsimp only
      clear hSS
      have hSS : (fun X : World => X.cell? ⟨XF, 0, none⟩ = some (.slice (some ⟨BM, 0, none⟩) 3 3) ∧ X.cell? ⟨XF, 1, none⟩ = some (.slice (some ⟨DA, 0, none⟩) 2 2) ∧ X.cell? ⟨XF, 2, none⟩ = some (.int .i64 KA)) w9 ∧ True := ⟨⟨qf.cell 0, qf.cell 1, qf.cell 2⟩, trivial⟩
      refine hK.out _ _ ⟨hSS.1, fun _ => trivial⟩ ?_
      clear hK
      refine tkL (i := 3) rfl hSS ?_
      refine wpAnyE_one (i := 4) (by kernel_rfl) rfl (fun Kn hK => ?_)
      have gq0_0 := q0.cell 0
      have gq0_1 := q0.cell 1
      have gq0_2 := q0.cell 2
      have gq0_3 := q0.cell 3
      have gq0_4 := q0.cell 4
      have gq0_5 := q0.cell 5
      simp only [List.getElem?_cons_zero, List.getElem?_cons_succ] at gq0_0 gq0_1 gq0_2 gq0_3 gq0_4 gq0_5
      have fq0_0 := q0.free 0
      have fq0_1 := q0.free 1
      have fq0_2 := q0.free 2
      have fq0_3 := q0.free 3
      have fq0_4 := q0.free 4
      have fq0_5 := q0.free 5
      have lq0 := q0.lt
      go_simp
      clear gq0_0 gq0_1 gq0_2 gq0_3 gq0_4 gq0_5 fq0_0 fq0_1 fq0_2 fq0_3 fq0_4 fq0_5 lq0
      have hwt2 := TT.size
      have hlq2 := q0.lt
      replace q0 := q0.set 0 (.int .i64 2)
      replace qf := qf.setOther (B' := w.heap.size) (by omega) 0 (.int .i64 2)
      replace GM := GM.setFar (X := w.heap.size) (by omega) (by omega) 0 (.int .i64 2)
      replace rd := rd.setNew (B := w.heap.size) (by omega) (fun h0 b o e => by have := ha0 h0 b o e; omega) 0 (.int .i64 2)
      replace TT := TT.setNewF (B := w.heap.size) (by omega) 0 (.int .i64 2)
      replace q0 := q0.set 1 (.int .i64 (i : Int))
      replace qf := qf.setOther (B' := w.heap.size) (by omega) 1 (.int .i64 (i : Int))
      replace GM := GM.setFar (X := w.heap.size) (by omega) (by omega) 1 (.int .i64 (i : Int))
      replace rd := rd.setNew (B := w.heap.size) (by omega) (fun h0 b o e => by have := ha0 h0 b o e; omega) 1 (.int .i64 (i : Int))
      replace TT := TT.setNewF (B := w.heap.size) (by omega) 1 (.int .i64 (i : Int))
      replace q0 := q0.set 2 (.int .i64 0)
      replace qf := qf.setOther (B' := w.heap.size) (by omega) 2 (.int .i64 0)
      replace GM := GM.setFar (X := w.heap.size) (by omega) (by omega) 2 (.int .i64 0)
      replace rd := rd.setNew (B := w.heap.size) (by omega) (fun h0 b o e => by have := ha0 h0 b o e; omega) 2 (.int .i64 0)
      replace TT := TT.setNewF (B := w.heap.size) (by omega) 2 (.int .i64 0)
      replace q0 := q0.set 3 (.slice (some ⟨BM, 0, none⟩) 3 3)
      replace qf := qf.setOther (B' := w.heap.size) (by omega) 3 (.slice (some ⟨BM, 0, none⟩) 3 3)
      replace GM := GM.setFar (X := w.heap.size) (by omega) (by omega) 3 (.slice (some ⟨BM, 0, none⟩) 3 3)
      replace rd := rd.setNew (B := w.heap.size) (by omega) (fun h0 b o e => by have := ha0 h0 b o e; omega) 3 (.slice (some ⟨BM, 0, none⟩) 3 3)
      replace TT := TT.setNewF (B := w.heap.size) (by omega) 3 (.slice (some ⟨BM, 0, none⟩) 3 3)
      replace q0 := q0.set 4 (.slice (some ⟨DA, 0, none⟩) 2 2)
      replace qf := qf.setOther (B' := w.heap.size) (by omega) 4 (.slice (some ⟨DA, 0, none⟩) 2 2)
      replace GM := GM.setFar (X := w.heap.size) (by omega) (by omega) 4 (.slice (some ⟨DA, 0, none⟩) 2 2)
      replace rd := rd.setNew (B := w.heap.size) (by omega) (fun h0 b o e => by have := ha0 h0 b o e; omega) 4 (.slice (some ⟨DA, 0, none⟩) 2 2)
      replace TT := TT.setNewF (B := w.heap.size) (by omega) 4 (.slice (some ⟨DA, 0, none⟩) 2 2)
      replace q0 := q0.set 5 (.int .i64 KA)
      replace qf := qf.setOther (B' := w.heap.size) (by omega) 5 (.int .i64 KA)
      replace GM := GM.setFar (X := w.heap.size) (by omega) (by omega) 5 (.int .i64 KA)
      replace rd := rd.setNew (B := w.heap.size) (by omega) (fun h0 b o e => by have := ha0 h0 b o e; omega) 5 (.int .i64 KA)
      replace TT := TT.setNewF (B := w.heap.size) (by omega) 5 (.int .i64 KA)
      obtain ⟨W10, hW10⟩ : ∃ W, W = ((((((w9.setCell ⟨w.heap.size, 0, none⟩ (.int .i64 2)).setCell ⟨w.heap.size, 1, none⟩ (.int .i64 (i : Int))).setCell ⟨w.heap.size, 2, none⟩ (.int .i64 0)).setCell ⟨w.heap.size, 3, none⟩ (.slice (some ⟨BM, 0, none⟩) 3 3)).setCell ⟨w.heap.size, 4, none⟩ (.slice (some ⟨DA, 0, none⟩) 2 2)).setCell ⟨w.heap.size, 5, none⟩ (.int .i64 KA)) := ⟨_, rfl⟩
      rw [← hW10]
      rw [← hW10] at TT rd q0 qf GM
      clear hW10
      clear hSS
      have hSS : (fun X : World => X.cell? ⟨XF, 0, none⟩ = some (.slice (some ⟨BM, 0, none⟩) 3 3) ∧ X.cell? ⟨XF, 1, none⟩ = some (.slice (some ⟨DA, 0, none⟩) 2 2) ∧ X.cell? ⟨XF, 2, none⟩ = some (.int .i64 KA)) W10 ∧ True := ⟨⟨qf.cell 0, qf.cell 1, qf.cell 2⟩, trivial⟩
      refine hK.out _ _ ⟨hSS.1, fun _ => trivial⟩ ?_
      clear hK
      refine wpAnyE_done (by kernel_rfl) ?_ _
      clear hSS
      go_wp2
      have hws := TT.size
      have u0 : W10.cell? ⟨w.heap.size, 0, none⟩ = some (.int .i64 2) := q0.cell 0
      have u1 : W10.cell? ⟨w.heap.size, 1, none⟩ = some (.int .i64 (i : Int)) := q0.cell 1
      have u2 : W10.cell? ⟨w.heap.size, 2, none⟩ = some (.int .i64 0) := q0.cell 2
      have u3 : W10.cell? ⟨w.heap.size, 3, none⟩ = some (.slice (some ⟨BM, 0, none⟩) 3 3) := q0.cell 3
      have u4 : W10.cell? ⟨w.heap.size, 4, none⟩ = some (.slice (some ⟨DA, 0, none⟩) 2 2) := q0.cell 4
      have u5 : W10.cell? ⟨w.heap.size, 5, none⟩ = some (.int .i64 KA) := q0.cell 5
      refine bodyPost_ret (v := lnV ⟨2, (i : Int), 0, ⟨some ⟨BM, 0, none⟩, 3, 3, some ⟨DA, 0, none⟩, 2, 2, KA, [0, 0, 0], LDA⟩⟩) (by simp [results, Tryz.results58, go_sem, u0, u1, u2, u3, u4, u5]) rfl ⟨⟨2, (i : Int), 0, ⟨some ⟨BM, 0, none⟩, 3, 3, some ⟨DA, 0, none⟩, 2, 2, KA, [0, 0, 0], LDA⟩⟩, _, rfl, ⟨TT, rd, ⟨GM.C, GM.D, by simp only []; omega, by simp only []; omega⟩, fun b o e => by simp only [Option.some.injEq, Addr.mk.injEq] at e; have hb := GM.C.blk (by omega); omega, fun b o e => by simp only [Option.some.injEq, Addr.mk.injEq] at e; have hb := GM.D.blk (by omega); omega, lok2 (pot := (i : Int)) (small_of (fun i => by rcases i with _ | _ | _ | i <;> simp) sDA sKA1 sKA2) (by omega) (by omega), by omega, by omega⟩⟩
  · go_wp2_with fail
    have xA := q0.lt
    refine (small_f R a n cap bs (p + 1) _ rd (by omega) (by omega) rd.ha).mono ?_
    rintro e w4 ⟨BA, DA, LCA, LDA, KA, rfl, t5, R5, f5, sCA, sDA, sKA1, sKA2⟩
    have zA1 : w.heap.size ≤ BA := Nat.le_trans TT.size f5.b1
    have zA2 : w.heap.size ≤ DA := Nat.le_trans TT.size f5.b2
    have lCA := f5.l1
    have lDA := f5.l2
    have GA : FA w4 (some ⟨BA, 0, none⟩) 3 (some ⟨DA, 0, none⟩) 2 (LCA, LDA, KA) := ⟨f5.k1.ints' f5.l1, f5.k2.ints' f5.l2, by omega, by omega⟩
    have ltCA := f5.k1.lt
    have ltDA := f5.k2.lt
    have nCDA := f5.ne
    have yA1 := f5.b1
    have yA2 := f5.b2
    clear f5
    replace q0 := q0.touch t5 nq0
    replace TT := TT.trans t5
    replace rd := R5
    clear t5 R5
    have hwt := TT.size
    have hlq := q0.lt
    have al := (Below.refl w4.heap.size w4).alloc (Nat.le_refl _) (.cells #[.slice (some ⟨BA, 0, none⟩) 3 3, .slice (some ⟨DA, 0, none⟩) 2 2, .int .i64 KA] 34)
    have qf := Cel.new w4 [.slice (some ⟨BA, 0, none⟩) 3 3, .slice (some ⟨DA, 0, none⟩) 2 2, .int .i64 KA] 34
    replace q0 := q0.below al
    replace GA := GA.below al
    replace TT := TT.trans (Touch.of al)
    replace rd := rd.below al
    clear al
    go_wp2_with fail
    obtain ⟨W5, hW5⟩ : ∃ W, W = (w4.alloc (.cells #[.slice (some ⟨BA, 0, none⟩) 3 3, .slice (some ⟨DA, 0, none⟩) 2 2, .int .i64 KA] 34)) := ⟨_, rfl⟩
    rw [← hW5]
    rw [← hW5] at TT rd q0 GA qf
    clear hW5
    obtain ⟨XF, hXF⟩ : ∃ x, x = w4.heap.size := ⟨_, rfl⟩
    rw [← hXF]
    rw [← hXF] at qf hwt
    have nqf : XF ≠ R := by omega
    have hXw : w.heap.size < XF := by omega
    have nXB : BA ≠ XF := by omega
    have nXD : DA ≠ XF := by omega
    clear hXF
    refine (pick_any R a n cap bs (p + 1 + 6) 3 _ rd (by omega) (by omega) (by omega) (by omega)).mono ?_
    rintro e w6 ⟨rk, hk0, hk1, rfl, t5, R5⟩
    obtain ⟨k, rfl⟩ := Int.eq_ofNat_of_zero_le hk0
    clear hk0
    replace q0 := q0.touch t5 nq0
    replace GA := GA.far t5 (lo := w.heap.size) (fun k hk => by omega) zA1 zA2
    replace qf := qf.touch t5 nqf
    replace TT := TT.trans t5
    replace rd := R5
    clear t5 R5
    by_cases hk : (k : Int) = 0
    · have hk' : ¬ (0 : Int) < (k : Int) := by omega
      go_upto_region 11 with fail
      refine wp_region_ends (fun X => X.cell? ⟨XF, 0, none⟩ = some (.slice (some ⟨BA, 0, none⟩) 3 3) ∧ X.cell? ⟨XF, 1, none⟩ = some (.slice (some ⟨DA, 0, none⟩) 2 2) ∧ X.cell? ⟨XF, 2, none⟩ = some (.int .i64 KA)) (fun _ => True) 5 (by kernel_rfl) ?_
      have dr : Below w6.heap.size w6 w6.drew := (Below.refl _ _).drew
      replace q0 := q0.below dr
      replace GA := GA.below dr
      replace qf := qf.below dr
      replace TT := TT.trans (Touch.of dr)
      replace rd := rd.below dr
      clear dr
      obtain ⟨V7, hV7⟩ : ∃ W, W = w6.drew := ⟨_, rfl⟩
      rw [← hV7]
      rw [← hV7] at TT rd q0 GA qf
      clear hV7
      have hSS : (fun X : World => X.cell? ⟨XF, 0, none⟩ = some (.slice (some ⟨BA, 0, none⟩) 3 3) ∧ X.cell? ⟨XF, 1, none⟩ = some (.slice (some ⟨DA, 0, none⟩) 2 2) ∧ X.cell? ⟨XF, 2, none⟩ = some (.int .i64 KA)) V7 ∧ True := ⟨⟨qf.cell 0, qf.cell 1, qf.cell 2⟩, trivial⟩
      refine tkL (i := 0) rfl hSS ?_
      refine tkL (i := 2) rfl hSS ?_
      refine wpAnyE_one (i := 1) (by kernel_rfl) rfl (fun Kn hK => ?_)
      go_simp
      refine (pick_any R a n cap bs (p + 1 + 6 + 1) 3 _ rd (by omega) (by omega) (by omega) (by omega)).mono ?_
      rintro e w8 ⟨ri, hi0, hi1, rfl, t5, R5⟩
      obtain ⟨i, rfl⟩ := Int.eq_ofNat_of_zero_le hi0
      clear hi0
      replace q0 := q0.touch t5 nq0
      replace GA := GA.far t5 (lo := w.heap.size) (fun k hk => by omega) zA1 zA2
      replace qf := qf.touch t5 nqf
      replace TT := TT.trans t5
      replace rd := R5
      clear t5 R5
      dsimp only
      clear hSS
      have hSS : (fun X : World => X.cell? ⟨XF, 0, none⟩ = some (.slice (some ⟨BA, 0, none⟩) 3 3) ∧ X.cell? ⟨XF, 1, none⟩ = some (.slice (some ⟨DA, 0, none⟩) 2 2) ∧ X.cell? ⟨XF, 2, none⟩ = some (.int .i64 KA)) w8 ∧ True := ⟨⟨qf.cell 0, qf.cell 1, qf.cell 2⟩, trivial⟩
      refine hK.out _ _ ⟨hSS.1, fun _ => trivial⟩ ?_
      clear hK
      refine tkL (i := 3) rfl hSS ?_
      refine wpAnyE_one (i := 4) (by kernel_rfl) rfl (fun Kn hK => ?_)
      have gq0_0 := q0.cell 0
      have gq0_1 := q0.cell 1
      have gq0_2 := q0.cell 2
      have gq0_3 := q0.cell 3
      have gq0_4 := q0.cell 4
      have gq0_5 := q0.cell 5
      simp only [List.getElem?_cons_zero, List.getElem?_cons_succ] at gq0_0 gq0_1 gq0_2 gq0_3 gq0_4 gq0_5
      have fq0_0 := q0.free 0
      have fq0_1 := q0.free 1
      have fq0_2 := q0.free 2
      have fq0_3 := q0.free 3
      have fq0_4 := q0.free 4
      have fq0_5 := q0.free 5
      have lq0 := q0.lt
      go_simp
      clear gq0_0 gq0_1 gq0_2 gq0_3 gq0_4 gq0_5 fq0_0 fq0_1 fq0_2 fq0_3 fq0_4 fq0_5 lq0
      have hwt2 := TT.size
      have hlq2 := q0.lt
      replace q0 := q0.set 0 (.int .i64 2)
      replace GA := GA.setFar (X := w.heap.size) (by omega) (by omega) 0 (.int .i64 2)
      replace qf := qf.setOther (B' := w.heap.size) (by omega) 0 (.int .i64 2)
      replace rd := rd.setNew (B := w.heap.size) (by omega) (fun h0 b o e => by have := ha0 h0 b o e; omega) 0 (.int .i64 2)
      replace TT := TT.setNewF (B := w.heap.size) (by omega) 0 (.int .i64 2)
      replace q0 := q0.set 1 (.int .i64 (i : Int))
      replace GA := GA.setFar (X := w.heap.size) (by omega) (by omega) 1 (.int .i64 (i : Int))
      replace qf := qf.setOther (B' := w.heap.size) (by omega) 1 (.int .i64 (i : Int))
      replace rd := rd.setNew (B := w.heap.size) (by omega) (fun h0 b o e => by have := ha0 h0 b o e; omega) 1 (.int .i64 (i : Int))
      replace TT := TT.setNewF (B := w.heap.size) (by omega) 1 (.int .i64 (i : Int))
      replace q0 := q0.set 2 (.int .i64 0)
      replace GA := GA.setFar (X := w.heap.size) (by omega) (by omega) 2 (.int .i64 0)
      replace qf := qf.setOther (B' := w.heap.size) (by omega) 2 (.int .i64 0)
      replace rd := rd.setNew (B := w.heap.size) (by omega) (fun h0 b o e => by have := ha0 h0 b o e; omega) 2 (.int .i64 0)
      replace TT := TT.setNewF (B := w.heap.size) (by omega) 2 (.int .i64 0)
      replace q0 := q0.set 3 (.slice (some ⟨BA, 0, none⟩) 3 3)
      replace GA := GA.setFar (X := w.heap.size) (by omega) (by omega) 3 (.slice (some ⟨BA, 0, none⟩) 3 3)
      replace qf := qf.setOther (B' := w.heap.size) (by omega) 3 (.slice (some ⟨BA, 0, none⟩) 3 3)
      replace rd := rd.setNew (B := w.heap.size) (by omega) (fun h0 b o e => by have := ha0 h0 b o e; omega) 3 (.slice (some ⟨BA, 0, none⟩) 3 3)
      replace TT := TT.setNewF (B := w.heap.size) (by omega) 3 (.slice (some ⟨BA, 0, none⟩) 3 3)
      replace q0 := q0.set 4 (.slice (some ⟨DA, 0, none⟩) 2 2)
      replace GA := GA.setFar (X := w.heap.size) (by omega) (by omega) 4 (.slice (some ⟨DA, 0, none⟩) 2 2)
      replace qf := qf.setOther (B' := w.heap.size) (by omega) 4 (.slice (some ⟨DA, 0, none⟩) 2 2)
      replace rd := rd.setNew (B := w.heap.size) (by omega) (fun h0 b o e => by have := ha0 h0 b o e; omega) 4 (.slice (some ⟨DA, 0, none⟩) 2 2)
      replace TT := TT.setNewF (B := w.heap.size) (by omega) 4 (.slice (some ⟨DA, 0, none⟩) 2 2)
      replace q0 := q0.set 5 (.int .i64 KA)
      replace GA := GA.setFar (X := w.heap.size) (by omega) (by omega) 5 (.int .i64 KA)
      replace qf := qf.setOther (B' := w.heap.size) (by omega) 5 (.int .i64 KA)
      replace rd := rd.setNew (B := w.heap.size) (by omega) (fun h0 b o e => by have := ha0 h0 b o e; omega) 5 (.int .i64 KA)
      replace TT := TT.setNewF (B := w.heap.size) (by omega) 5 (.int .i64 KA)
      obtain ⟨W9, hW9⟩ : ∃ W, W = ((((((w8.setCell ⟨w.heap.size, 0, none⟩ (.int .i64 2)).setCell ⟨w.heap.size, 1, none⟩ (.int .i64 (i : Int))).setCell ⟨w.heap.size, 2, none⟩ (.int .i64 0)).setCell ⟨w.heap.size, 3, none⟩ (.slice (some ⟨BA, 0, none⟩) 3 3)).setCell ⟨w.heap.size, 4, none⟩ (.slice (some ⟨DA, 0, none⟩) 2 2)).setCell ⟨w.heap.size, 5, none⟩ (.int .i64 KA)) := ⟨_, rfl⟩
      rw [← hW9]
      rw [← hW9] at TT rd q0 GA qf
      clear hW9
      clear hSS
      have hSS : (fun X : World => X.cell? ⟨XF, 0, none⟩ = some (.slice (some ⟨BA, 0, none⟩) 3 3) ∧ X.cell? ⟨XF, 1, none⟩ = some (.slice (some ⟨DA, 0, none⟩) 2 2) ∧ X.cell? ⟨XF, 2, none⟩ = some (.int .i64 KA)) W9 ∧ True := ⟨⟨qf.cell 0, qf.cell 1, qf.cell 2⟩, trivial⟩
      refine hK.out _ _ ⟨hSS.1, fun _ => trivial⟩ ?_
      clear hK
      refine wpAnyE_done (by kernel_rfl) ?_ _
      clear hSS
      go_wp2
      have hws := TT.size
      have u0 : W9.cell? ⟨w.heap.size, 0, none⟩ = some (.int .i64 2) := q0.cell 0
      have u1 : W9.cell? ⟨w.heap.size, 1, none⟩ = some (.int .i64 (i : Int)) := q0.cell 1
      have u2 : W9.cell? ⟨w.heap.size, 2, none⟩ = some (.int .i64 0) := q0.cell 2
      have u3 : W9.cell? ⟨w.heap.size, 3, none⟩ = some (.slice (some ⟨BA, 0, none⟩) 3 3) := q0.cell 3
      have u4 : W9.cell? ⟨w.heap.size, 4, none⟩ = some (.slice (some ⟨DA, 0, none⟩) 2 2) := q0.cell 4
      have u5 : W9.cell? ⟨w.heap.size, 5, none⟩ = some (.int .i64 KA) := q0.cell 5
      refine bodyPost_ret (v := lnV ⟨2, (i : Int), 0, ⟨some ⟨BA, 0, none⟩, 3, 3, some ⟨DA, 0, none⟩, 2, 2, KA, LCA, LDA⟩⟩) (by simp [results, Tryz.results58, go_sem, u0, u1, u2, u3, u4, u5]) rfl ⟨⟨2, (i : Int), 0, ⟨some ⟨BA, 0, none⟩, 3, 3, some ⟨DA, 0, none⟩, 2, 2, KA, LCA, LDA⟩⟩, _, rfl, ⟨TT, rd, ⟨GA.C, GA.D, by simp only []; omega, by simp only []; omega⟩, fun b o e => by simp only [Option.some.injEq, Addr.mk.injEq] at e; have hb := GA.C.blk (by omega); omega, fun b o e => by simp only [Option.some.injEq, Addr.mk.injEq] at e; have hb := GA.D.blk (by omega); omega, lok2 (pot := (i : Int)) (small_of sCA sDA sKA1 sKA2) (by omega) (by omega), by omega, by omega⟩⟩
    · have hk' : (0 : Int) < (k : Int) := by omega
      have gqf_0 := qf.cell 0
      have gqf_1 := qf.cell 1
      have gqf_2 := qf.cell 2
      simp only [List.getElem?_cons_zero, List.getElem?_cons_succ] at gqf_0 gqf_1 gqf_2
      have fqf_0 := qf.free 0
      have fqf_1 := qf.free 1
      have fqf_2 := qf.free 2
      have lqf := qf.lt
      go_upto_region 11 with fail
      clear gqf_0 gqf_1 gqf_2 fqf_0 fqf_1 fqf_2 lqf
      have hwz := TT.size
      have ltF := qf.lt
      obtain ⟨BM, hBM⟩ : ∃ x, x = w6.heap.size := ⟨_, rfl⟩
      rw [← hBM]
      rw [← hBM] at hwz ltF
      have nXM : BM ≠ XF := by omega
      have nRM : BM ≠ R := by omega
      replace q0 := q0.setOther (B' := XF) (by omega) 0 (.slice (some ⟨BM, 0, none⟩) 3 3)
      replace GA := GA.setFar (X := XF) (by omega) (by omega) 0 (.slice (some ⟨BM, 0, none⟩) 3 3)
      replace qf := qf.set 0 (.slice (some ⟨BM, 0, none⟩) 3 3)
      replace rd := rd.setNew (B := XF) (by omega) (fun h0 b o e => by have := ha0 h0 b o e; omega) 0 (.slice (some ⟨BM, 0, none⟩) 3 3)
      replace TT := TT.setNewF (B := XF) (by omega) 0 (.slice (some ⟨BM, 0, none⟩) 3 3)
      have al := (Below.refl (w6.setCell ⟨XF, 0, none⟩ (.slice (some ⟨BM, 0, none⟩) 3 3)).heap.size (w6.setCell ⟨XF, 0, none⟩ (.slice (some ⟨BM, 0, none⟩) 3 3))).alloc (Nat.le_refl _) (.cells #[.int .i64 0, .int .i64 0, .int .i64 0] 3)
      have kz : Blk ((w6.setCell ⟨XF, 0, none⟩ (.slice (some ⟨BM, 0, none⟩) 3 3)).alloc (.cells #[.int .i64 0, .int .i64 0, .int .i64 0] 3)) (w6.setCell ⟨XF, 0, none⟩ (.slice (some ⟨BM, 0, none⟩) 3 3)).heap.size [0, 0, 0] := heap_alloc_new (w6.setCell ⟨XF, 0, none⟩ (.slice (some ⟨BM, 0, none⟩) 3 3)) _
      rw [show (w6.setCell ⟨XF, 0, none⟩ (.slice (some ⟨BM, 0, none⟩) 3 3)).heap.size = BM from by rw [size_setCell]; exact hBM.symm] at kz
      clear hBM
      replace q0 := q0.below al
      replace GA := GA.below al
      replace qf := qf.below al
      replace TT := TT.trans (Touch.of al)
      replace rd := rd.below al
      clear al
      have hzl := kz.lt
      have GM : FA ((w6.setCell ⟨XF, 0, none⟩ (.slice (some ⟨BM, 0, none⟩) 3 3)).alloc (.cells #[.int .i64 0, .int .i64 0, .int .i64 0] 3)) (some ⟨BM, 0, none⟩) 3 (some ⟨DA, 0, none⟩) 2 ([0, 0, 0], LDA, KA) := ⟨kz.ints' rfl, GA.D, by omega, by omega⟩
      clear kz GA
      have zM1 : w.heap.size ≤ BM := hwz
      have zM2 := zA2
      have hBMw : w.heap.size < BM := by omega
      obtain ⟨W7, hW7⟩ : ∃ W, W = ((w6.setCell ⟨XF, 0, none⟩ (.slice (some ⟨BM, 0, none⟩) 3 3)).alloc (.cells #[.int .i64 0, .int .i64 0, .int .i64 0] 3)) := ⟨_, rfl⟩
      rw [← hW7]
      rw [← hW7] at TT rd q0 qf GM
      clear hW7
      refine wp_region_ends (fun X => X.cell? ⟨XF, 0, none⟩ = some (.slice (some ⟨BM, 0, none⟩) 3 3) ∧ X.cell? ⟨XF, 1, none⟩ = some (.slice (some ⟨DA, 0, none⟩) 2 2) ∧ X.cell? ⟨XF, 2, none⟩ = some (.int .i64 KA)) (fun _ => True) 5 (by kernel_rfl) ?_
      have dr : Below W7.heap.size W7 W7.drew := (Below.refl _ _).drew
      replace q0 := q0.below dr
      replace qf := qf.below dr
      replace GM := GM.below dr
      replace TT := TT.trans (Touch.of dr)
      replace rd := rd.below dr
      clear dr
      obtain ⟨V8, hV8⟩ : ∃ W, W = W7.drew := ⟨_, rfl⟩
      rw [← hV8]
      rw [← hV8] at TT rd q0 qf GM
      clear hV8
      have hSS : (fun X : World => X.cell? ⟨XF, 0, none⟩ = some (.slice (some ⟨BM, 0, none⟩) 3 3) ∧ X.cell? ⟨XF, 1, none⟩ = some (.slice (some ⟨DA, 0, none⟩) 2 2) ∧ X.cell? ⟨XF, 2, none⟩ = some (.int .i64 KA)) V8 ∧ True := ⟨⟨qf.cell 0, qf.cell 1, qf.cell 2⟩, trivial⟩
      refine tkL (i := 0) rfl hSS ?_
      refine tkL (i := 2) rfl hSS ?_
      refine wpAnyE_one (i := 1) (by kernel_rfl) rfl (fun Kn hK => ?_)
      go_simp
      refine (pick_any R a n cap bs (p + 1 + 6 + 1) 3 _ rd (by omega) (by omega) (by omega) (by omega)).mono ?_
      rintro e w9 ⟨ri, hi0, hi1, rfl, t5, R5⟩
      obtain ⟨i, rfl⟩ := Int.eq_ofNat_of_zero_le hi0
      clear hi0
      replace q0 := q0.touch t5 nq0
      replace qf := qf.touch t5 nqf
      replace GM := GM.far t5 (lo := w.heap.size) (fun k hk => by omega) zM1 zM2
      replace TT := TT.trans t5
      replace rd := R5
      clear t5 R5
      dsimp only
      clear hSS
      have hSS : (fun X : World => X.cell? ⟨XF, 0, none⟩ = some (.slice (some ⟨BM, 0, none⟩) 3 3) ∧ X.cell? ⟨XF, 1, none⟩ = some (.slice (some ⟨DA, 0, none⟩) 2 2) ∧ X.cell? ⟨XF, 2, none⟩ = some (.int .i64 KA)) w9 ∧ True := ⟨⟨qf.cell 0, qf.cell 1, qf.cell 2⟩, trivial⟩
      refine hK.out _ _ ⟨hSS.1, fun _ => trivial⟩ ?_
      clear hK
      refine tkL (i := 3) rfl hSS ?_
      refine wpAnyE_one (i := 4) (by kernel_rfl) rfl (fun Kn hK => ?_)
      have gq0_0 := q0.cell 0
      have gq0_1 := q0.cell 1
      have gq0_2 := q0.cell 2
      have gq0_3 := q0.cell 3
      have gq0_4 := q0.cell 4
      have gq0_5 := q0.cell 5
      simp only [List.getElem?_cons_zero, List.getElem?_cons_succ] at gq0_0 gq0_1 gq0_2 gq0_3 gq0_4 gq0_5
      have fq0_0 := q0.free 0
      have fq0_1 := q0.free 1
      have fq0_2 := q0.free 2
      have fq0_3 := q0.free 3
      have fq0_4 := q0.free 4
      have fq0_5 := q0.free 5
      have lq0 := q0.lt
      go_simp
      clear gq0_0 gq0_1 gq0_2 gq0_3 gq0_4 gq0_5 fq0_0 fq0_1 fq0_2 fq0_3 fq0_4 fq0_5 lq0
      have hwt2 := TT.size
      have hlq2 := q0.lt
      replace q0 := q0.set 0 (.int .i64 2)
      replace qf := qf.setOther (B' := w.heap.size) (by omega) 0 (.int .i64 2)
      replace GM := GM.setFar (X := w.heap.size) (by omega) (by omega) 0 (.int .i64 2)
      replace rd := rd.setNew (B := w.heap.size) (by omega) (fun h0 b o e => by have := ha0 h0 b o e; omega) 0 (.int .i64 2)
      replace TT := TT.setNewF (B := w.heap.size) (by omega) 0 (.int .i64 2)
      replace q0 := q0.set 1 (.int .i64 (i : Int))
      replace qf := qf.setOther (B' := w.heap.size) (by omega) 1 (.int .i64 (i : Int))
      replace GM := GM.setFar (X := w.heap.size) (by omega) (by omega) 1 (.int .i64 (i : Int))
      replace rd := rd.setNew (B := w.heap.size) (by omega) (fun h0 b o e => by have := ha0 h0 b o e; omega) 1 (.int .i64 (i : Int))
      replace TT := TT.setNewF (B := w.heap.size) (by omega) 1 (.int .i64 (i : Int))
      replace q0 := q0.set 2 (.int .i64 0)
      replace qf := qf.setOther (B' := w.heap.size) (by omega) 2 (.int .i64 0)
      replace GM := GM.setFar (X := w.heap.size) (by omega) (by omega) 2 (.int .i64 0)
      replace rd := rd.setNew (B := w.heap.size) (by omega) (fun h0 b o e => by have := ha0 h0 b o e; omega) 2 (.int .i64 0)
      replace TT := TT.setNewF (B := w.heap.size) (by omega) 2 (.int .i64 0)
      replace q0 := q0.set 3 (.slice (some ⟨BM, 0, none⟩) 3 3)
      replace qf := qf.setOther (B' := w.heap.size) (by omega) 3 (.slice (some ⟨BM, 0, none⟩) 3 3)
      replace GM := GM.setFar (X := w.heap.size) (by omega) (by omega) 3 (.slice (some ⟨BM, 0, none⟩) 3 3)
      replace rd := rd.setNew (B := w.heap.size) (by omega) (fun h0 b o e => by have := ha0 h0 b o e; omega) 3 (.slice (some ⟨BM, 0, none⟩) 3 3)
      replace TT := TT.setNewF (B := w.heap.size) (by omega) 3 (.slice (some ⟨BM, 0, none⟩) 3 3)
      replace q0 := q0.set 4 (.slice (some ⟨DA, 0, none⟩) 2 2)
      replace qf := qf.setOther (B' := w.heap.size) (by omega) 4 (.slice (some ⟨DA, 0, none⟩) 2 2)
      replace GM := GM.setFar (X := w.heap.size) (by omega) (by omega) 4 (.slice (some ⟨DA, 0, none⟩) 2 2)
      replace rd := rd.setNew (B := w.heap.size) (by omega) (fun h0 b o e => by have := ha0 h0 b o e; omega) 4 (.slice (some ⟨DA, 0, none⟩) 2 2)
      replace TT := TT.setNewF (B := w.heap.size) (by omega) 4 (.slice (some ⟨DA, 0, none⟩) 2 2)
      replace q0 := q0.set 5 (.int .i64 KA)
      replace qf := qf.setOther (B' := w.heap.size) (by omega) 5 (.int .i64 KA)
      replace GM := GM.setFar (X := w.heap.size) (by omega) (by omega) 5 (.int .i64 KA)
      replace rd := rd.setNew (B := w.heap.size) (by omega) (fun h0 b o e => by have := ha0 h0 b o e; omega) 5 (.int .i64 KA)
      replace TT := TT.setNewF (B := w.heap.size) (by omega) 5 (.int .i64 KA)
      obtain ⟨W10, hW10⟩ : ∃ W, W = ((((((w9.setCell ⟨w.heap.size, 0, none⟩ (.int .i64 2)).setCell ⟨w.heap.size, 1, none⟩ (.int .i64 (i : Int))).setCell ⟨w.heap.size, 2, none⟩ (.int .i64 0)).setCell ⟨w.heap.size, 3, none⟩ (.slice (some ⟨BM, 0, none⟩) 3 3)).setCell ⟨w.heap.size, 4, none⟩ (.slice (some ⟨DA, 0, none⟩) 2 2)).setCell ⟨w.heap.size, 5, none⟩ (.int .i64 KA)) := ⟨_, rfl⟩
      rw [← hW10]
      rw [← hW10] at TT rd q0 qf GM
      clear hW10
      clear hSS
      have hSS : (fun X : World => X.cell? ⟨XF, 0, none⟩ = some (.slice (some ⟨BM, 0, none⟩) 3 3) ∧ X.cell? ⟨XF, 1, none⟩ = some (.slice (some ⟨DA, 0, none⟩) 2 2) ∧ X.cell? ⟨XF, 2, none⟩ = some (.int .i64 KA)) W10 ∧ True := ⟨⟨qf.cell 0, qf.cell 1, qf.cell 2⟩, trivial⟩
      refine hK.out _ _ ⟨hSS.1, fun _ => trivial⟩ ?_
      clear hK
      refine wpAnyE_done (by kernel_rfl) ?_ _
      clear hSS
      go_wp2
      have hws := TT.size
      have u0 : W10.cell? ⟨w.heap.size, 0, none⟩ = some (.int .i64 2) := q0.cell 0
      have u1 : W10.cell? ⟨w.heap.size, 1, none⟩ = some (.int .i64 (i : Int)) := q0.cell 1
      have u2 : W10.cell? ⟨w.heap.size, 2, none⟩ = some (.int .i64 0) := q0.cell 2
      have u3 : W10.cell? ⟨w.heap.size, 3, none⟩ = some (.slice (some ⟨BM, 0, none⟩) 3 3) := q0.cell 3
      have u4 : W10.cell? ⟨w.heap.size, 4, none⟩ = some (.slice (some ⟨DA, 0, none⟩) 2 2) := q0.cell 4
      have u5 : W10.cell? ⟨w.heap.size, 5, none⟩ = some (.int .i64 KA) := q0.cell 5
      refine bodyPost_ret (v := lnV ⟨2, (i : Int), 0, ⟨some ⟨BM, 0, none⟩, 3, 3, some ⟨DA, 0, none⟩, 2, 2, KA, [0, 0, 0], LDA⟩⟩) (by simp [results, Tryz.results58, go_sem, u0, u1, u2, u3, u4, u5]) rfl ⟨⟨2, (i : Int), 0, ⟨some ⟨BM, 0, none⟩, 3, 3, some ⟨DA, 0, none⟩, 2, 2, KA, [0, 0, 0], LDA⟩⟩, _, rfl, ⟨TT, rd, ⟨GM.C, GM.D, by simp only []; omega, by simp only []; omega⟩, fun b o e => by simp only [Option.some.injEq, Addr.mk.injEq] at e; have hb := GM.C.blk (by omega); omega, fun b o e => by simp only [Option.some.injEq, Addr.mk.injEq] at e; have hb := GM.D.blk (by omega); omega, lok2 (pot := (i : Int)) (small_of (fun i => by rcases i with _ | _ | _ | i <;> simp) sDA sKA1 sKA2) (by omega) (by omega), by omega, by omega⟩⟩
  · go_wp2_with fail
    have xA := q0.lt
    refine (small_f R a n cap bs (p + 1) _ rd (by omega) (by omega) rd.ha).mono ?_
    rintro e w4 ⟨BA, DA, LCA, LDA, KA, rfl, t5, R5, f5, sCA, sDA, sKA1, sKA2⟩
    have zA1 : w.heap.size ≤ BA := Nat.le_trans TT.size f5.b1
    have zA2 : w.heap.size ≤ DA := Nat.le_trans TT.size f5.b2
    have lCA := f5.l1
    have lDA := f5.l2
    have GA : FA w4 (some ⟨BA, 0, none⟩) 3 (some ⟨DA, 0, none⟩) 2 (LCA, LDA, KA) := ⟨f5.k1.ints' f5.l1, f5.k2.ints' f5.l2, by omega, by omega⟩
    have ltCA := f5.k1.lt
    have ltDA := f5.k2.lt
    have nCDA := f5.ne
    have yA1 := f5.b1
    have yA2 := f5.b2
    clear f5
    replace q0 := q0.touch t5 nq0
    replace TT := TT.trans t5
    replace rd := R5
    clear t5 R5
    have gq0_0 := q0.cell 0
    have gq0_1 := q0.cell 1
    have gq0_2 := q0.cell 2
    have gq0_3 := q0.cell 3
    have gq0_4 := q0.cell 4
    have gq0_5 := q0.cell 5
    simp only [List.getElem?_cons_zero, List.getElem?_cons_succ] at gq0_0 gq0_1 gq0_2 gq0_3 gq0_4 gq0_5
    have fq0_0 := q0.free 0
    have fq0_1 := q0.free 1
    have fq0_2 := q0.free 2
    have fq0_3 := q0.free 3
    have fq0_4 := q0.free 4
    have fq0_5 := q0.free 5
    have lq0 := q0.lt
    go_wp2
    clear gq0_0 gq0_1 gq0_2 gq0_3 gq0_4 gq0_5 fq0_0 fq0_1 fq0_2 fq0_3 fq0_4 fq0_5 lq0
    have hwt := TT.size
    have hlq := q0.lt
    replace q0 := q0.set 0 (.int .i64 3)
    replace GA := GA.setFar (X := w.heap.size) (by omega) (by omega) 0 (.int .i64 3)
    replace rd := rd.setNew (B := w.heap.size) (by omega) (fun h0 b o e => by have := ha0 h0 b o e; omega) 0 (.int .i64 3)
    replace TT := TT.setNewF (B := w.heap.size) (by omega) 0 (.int .i64 3)
    replace q0 := q0.set 1 (.int .i64 0)
    replace GA := GA.setFar (X := w.heap.size) (by omega) (by omega) 1 (.int .i64 0)
    replace rd := rd.setNew (B := w.heap.size) (by omega) (fun h0 b o e => by have := ha0 h0 b o e; omega) 1 (.int .i64 0)
    replace TT := TT.setNewF (B := w.heap.size) (by omega) 1 (.int .i64 0)
    replace q0 := q0.set 2 (.int .i64 0)
    replace GA := GA.setFar (X := w.heap.size) (by omega) (by omega) 2 (.int .i64 0)
    replace rd := rd.setNew (B := w.heap.size) (by omega) (fun h0 b o e => by have := ha0 h0 b o e; omega) 2 (.int .i64 0)
    replace TT := TT.setNewF (B := w.heap.size) (by omega) 2 (.int .i64 0)
    replace q0 := q0.set 3 (.slice (some ⟨BA, 0, none⟩) 3 3)
    replace GA := GA.setFar (X := w.heap.size) (by omega) (by omega) 3 (.slice (some ⟨BA, 0, none⟩) 3 3)
    replace rd := rd.setNew (B := w.heap.size) (by omega) (fun h0 b o e => by have := ha0 h0 b o e; omega) 3 (.slice (some ⟨BA, 0, none⟩) 3 3)
    replace TT := TT.setNewF (B := w.heap.size) (by omega) 3 (.slice (some ⟨BA, 0, none⟩) 3 3)
    replace q0 := q0.set 4 (.slice (some ⟨DA, 0, none⟩) 2 2)
    replace GA := GA.setFar (X := w.heap.size) (by omega) (by omega) 4 (.slice (some ⟨DA, 0, none⟩) 2 2)
    replace rd := rd.setNew (B := w.heap.size) (by omega) (fun h0 b o e => by have := ha0 h0 b o e; omega) 4 (.slice (some ⟨DA, 0, none⟩) 2 2)
    replace TT := TT.setNewF (B := w.heap.size) (by omega) 4 (.slice (some ⟨DA, 0, none⟩) 2 2)
    replace q0 := q0.set 5 (.int .i64 KA)
    replace GA := GA.setFar (X := w.heap.size) (by omega) (by omega) 5 (.int .i64 KA)
    replace rd := rd.setNew (B := w.heap.size) (by omega) (fun h0 b o e => by have := ha0 h0 b o e; omega) 5 (.int .i64 KA)
    replace TT := TT.setNewF (B := w.heap.size) (by omega) 5 (.int .i64 KA)
    obtain ⟨W5, hW5⟩ : ∃ W, W = ((((((w4.setCell ⟨w.heap.size, 0, none⟩ (.int .i64 3)).setCell ⟨w.heap.size, 1, none⟩ (.int .i64 0)).setCell ⟨w.heap.size, 2, none⟩ (.int .i64 0)).setCell ⟨w.heap.size, 3, none⟩ (.slice (some ⟨BA, 0, none⟩) 3 3)).setCell ⟨w.heap.size, 4, none⟩ (.slice (some ⟨DA, 0, none⟩) 2 2)).setCell ⟨w.heap.size, 5, none⟩ (.int .i64 KA)) := ⟨_, rfl⟩
    rw [← hW5]
    rw [← hW5] at TT rd q0 GA
    clear hW5
    have hws := TT.size
    have u0 : W5.cell? ⟨w.heap.size, 0, none⟩ = some (.int .i64 3) := q0.cell 0
    have u1 : W5.cell? ⟨w.heap.size, 1, none⟩ = some (.int .i64 0) := q0.cell 1
    have u2 : W5.cell? ⟨w.heap.size, 2, none⟩ = some (.int .i64 0) := q0.cell 2
    have u3 : W5.cell? ⟨w.heap.size, 3, none⟩ = some (.slice (some ⟨BA, 0, none⟩) 3 3) := q0.cell 3
    have u4 : W5.cell? ⟨w.heap.size, 4, none⟩ = some (.slice (some ⟨DA, 0, none⟩) 2 2) := q0.cell 4
    have u5 : W5.cell? ⟨w.heap.size, 5, none⟩ = some (.int .i64 KA) := q0.cell 5
    refine bodyPost_ret (v := lnV ⟨3, 0, 0, ⟨some ⟨BA, 0, none⟩, 3, 3, some ⟨DA, 0, none⟩, 2, 2, KA, LCA, LDA⟩⟩) (by simp [results, Tryz.results58, go_sem, u0, u1, u2, u3, u4, u5]) rfl ⟨⟨3, 0, 0, ⟨some ⟨BA, 0, none⟩, 3, 3, some ⟨DA, 0, none⟩, 2, 2, KA, LCA, LDA⟩⟩, _, rfl, ⟨TT, rd, ⟨GA.C, GA.D, by simp only []; omega, by simp only []; omega⟩, fun b o e => by simp only [Option.some.injEq, Addr.mk.injEq] at e; have hb := GA.C.blk (by omega); omega, fun b o e => by simp only [Option.some.injEq, Addr.mk.injEq] at e; have hb := GA.D.blk (by omega); omega, lok3 (small_of sCA sDA sKA1 sKA2), by omega, by omega⟩⟩
  · have gq0_0 := q0.cell 0
    have gq0_1 := q0.cell 1
    have gq0_2 := q0.cell 2
    have gq0_3 := q0.cell 3
    have gq0_4 := q0.cell 4
    have gq0_5 := q0.cell 5
    simp only [List.getElem?_cons_zero, List.getElem?_cons_succ] at gq0_0 gq0_1 gq0_2 gq0_3 gq0_4 gq0_5
    have fq0_0 := q0.free 0
    have fq0_1 := q0.free 1
    have fq0_2 := q0.free 2
    have fq0_3 := q0.free 3
    have fq0_4 := q0.free 4
    have fq0_5 := q0.free 5
    have lq0 := q0.lt
    go_wp2
    clear gq0_0 gq0_1 gq0_2 gq0_3 gq0_4 gq0_5 fq0_0 fq0_1 fq0_2 fq0_3 fq0_4 fq0_5 lq0
    have hwt := TT.size
    have hlq := q0.lt
    replace q0 := q0.set 0 (.int .i64 4)
    replace rd := rd.setNew (B := w.heap.size) (by omega) (fun h0 b o e => by have := ha0 h0 b o e; omega) 0 (.int .i64 4)
    replace TT := TT.setNewF (B := w.heap.size) (by omega) 0 (.int .i64 4)
    replace q0 := q0.set 1 (.int .i64 0)
    replace rd := rd.setNew (B := w.heap.size) (by omega) (fun h0 b o e => by have := ha0 h0 b o e; omega) 1 (.int .i64 0)
    replace TT := TT.setNewF (B := w.heap.size) (by omega) 1 (.int .i64 0)
    replace q0 := q0.set 2 (.int .i64 0)
    replace rd := rd.setNew (B := w.heap.size) (by omega) (fun h0 b o e => by have := ha0 h0 b o e; omega) 2 (.int .i64 0)
    replace TT := TT.setNewF (B := w.heap.size) (by omega) 2 (.int .i64 0)
    replace q0 := q0.set 3 (.slice none 0 0)
    replace rd := rd.setNew (B := w.heap.size) (by omega) (fun h0 b o e => by have := ha0 h0 b o e; omega) 3 (.slice none 0 0)
    replace TT := TT.setNewF (B := w.heap.size) (by omega) 3 (.slice none 0 0)
    replace q0 := q0.set 4 (.slice none 0 0)
    replace rd := rd.setNew (B := w.heap.size) (by omega) (fun h0 b o e => by have := ha0 h0 b o e; omega) 4 (.slice none 0 0)
    replace TT := TT.setNewF (B := w.heap.size) (by omega) 4 (.slice none 0 0)
    replace q0 := q0.set 5 (.int .i64 0)
    replace rd := rd.setNew (B := w.heap.size) (by omega) (fun h0 b o e => by have := ha0 h0 b o e; omega) 5 (.int .i64 0)
    replace TT := TT.setNewF (B := w.heap.size) (by omega) 5 (.int .i64 0)
    obtain ⟨W4, hW4⟩ : ∃ W, W = ((((((w3.setCell ⟨w.heap.size, 0, none⟩ (.int .i64 4)).setCell ⟨w.heap.size, 1, none⟩ (.int .i64 0)).setCell ⟨w.heap.size, 2, none⟩ (.int .i64 0)).setCell ⟨w.heap.size, 3, none⟩ (.slice none 0 0)).setCell ⟨w.heap.size, 4, none⟩ (.slice none 0 0)).setCell ⟨w.heap.size, 5, none⟩ (.int .i64 0)) := ⟨_, rfl⟩
    rw [← hW4]
    rw [← hW4] at TT rd q0
    clear hW4
    have hws := TT.size
    have u0 : W4.cell? ⟨w.heap.size, 0, none⟩ = some (.int .i64 4) := q0.cell 0
    have u1 : W4.cell? ⟨w.heap.size, 1, none⟩ = some (.int .i64 0) := q0.cell 1
    have u2 : W4.cell? ⟨w.heap.size, 2, none⟩ = some (.int .i64 0) := q0.cell 2
    have u3 : W4.cell? ⟨w.heap.size, 3, none⟩ = some (.slice none 0 0) := q0.cell 3
    have u4 : W4.cell? ⟨w.heap.size, 4, none⟩ = some (.slice none 0 0) := q0.cell 4
    have u5 : W4.cell? ⟨w.heap.size, 5, none⟩ = some (.int .i64 0) := q0.cell 5
    refine bodyPost_ret (v := lnV ⟨4, 0, 0, ⟨none, 0, 0, none, 0, 0, 0, [], []⟩⟩) (by simp [results, Tryz.results58, go_sem, u0, u1, u2, u3, u4, u5]) rfl ⟨⟨4, 0, 0, ⟨none, 0, 0, none, 0, 0, 0, [], []⟩⟩, _, rfl, ⟨TT, rd, ⟨⟨rfl, fun i hi => absurd hi (Nat.not_lt_zero _)⟩, ⟨rfl, fun i hi => absurd hi (Nat.not_lt_zero _)⟩, Nat.zero_le _, Nat.zero_le _⟩, (fun b o e => by cases e), (fun b o e => by cases e), by decide, by omega, by omega⟩⟩

end Go.Proofs.YtfkcfjkojfnfnaaGreatDoor
