/-
  Lemmas that the claim's last text rests on: DrLn, DrJl, DrAc, DrAy, RunD.
-/
import Derived.Test.YtfkcfjkojfnfnaaDoorDrL
import Derived.Test.YtfkcfjkojfnfnaaDoorJResTextCardA
import Derived.Deep.AppendLies
namespace Go.Proofs.YtfkcfjkojfnfnaaDoor
open Go.RowKit
set_option linter.unusedVariables false
set_option maxRecDepth 100000

/-- A line as a value. -/
abbrev lnV (l : LV) : Value := .agg #[.int .i64 l.kind, .int .i64 l.pot, .int .i64 l.skip, .slice l.f.a l.f.n l.f.cap, .slice l.f.c l.f.m l.f.cap', .int .i64 l.f.K]
theorem allB_of {m : Int} {zs : List Int} (h : bnd m zs) : allB m zs = true := by
  unfold allB
  rw [List.all_eq_true]
  intro x hx
  obtain ⟨i, hi, rfl⟩ := List.getElem_of_mem hx
  have := h i
  rw [List.getElem?_eq_getElem hi] at this
  exact inB_iff.2 this
theorem small_of {C D : List Int} {K : Int} (hC : bnd 2 C) (hD : bnd 2 D) (h1 : -20 ≤ K) (h2 : K ≤ 20) : smallB 3 2 C D K = true := by
  unfold smallB okN
  rw [allB_of hC, allB_of hD, inB_iff.2 ⟨h1, h2⟩]
  rfl
theorem lok1 {n m : Nat} {C D : List Int} {K skip : Int} (h : smallB n m C D K = true) (h1 : 1 ≤ skip) (h2 : skip ≤ 6) : lineB 1 0 skip n m C D K = true := by
  unfold lineB
  rw [if_pos rfl, h, inB_iff.2 ⟨h1, h2⟩]
  rfl
theorem lok2 {n m : Nat} {C D : List Int} {K pot : Int} (h : smallB n m C D K = true) (h1 : 0 ≤ pot) (h2 : pot ≤ 2) : lineB 2 pot 0 n m C D K = true := by
  unfold lineB
  rw [if_neg (by decide), if_pos rfl, h, inB_iff.2 ⟨h1, h2⟩]
  rfl
theorem lok3 {n m : Nat} {C D : List Int} {K : Int} (h : smallB n m C D K = true) : lineB 3 0 0 n m C D K = true := by
  unfold lineB
  rw [if_neg (by decide), if_neg (by decide), if_pos rfl, h]
  rfl
theorem Ints.blk {W : World} {B o n : Nat} {zs : List Int} (h : Ints W (some ⟨B, o, none⟩) n zs) (hn : 0 < n) : B < W.heap.size := by
  obtain ⟨b, off, e, hc⟩ := h.2 0 hn
  simp only [Option.some.injEq, Addr.mk.injEq] at e
  have := block_lt hc
  omega
/-- A line was drawn: it is ok, its lists lie in new memory, the reader has gone on. -/
structure LnN (w w' : World) (R : Nat) (a : Option Addr) (n cap : Nat) (bs : List Int) (p q : Int) (l : LV) : Prop where
  t : Touch (fun x => x = R) w w'
  r : Rd w' R a n cap bs q
  at' : l.f.At w'
  la : ∀ b o, l.f.a = some ⟨b, o, none⟩ → w.heap.size ≤ b ∧ b < w'.heap.size
  lc : ∀ b o, l.f.c = some ⟨b, o, none⟩ → w.heap.size ≤ b ∧ b < w'.heap.size
  ok : l.ok = true
  q0 : p ≤ q
  q1 : q ≤ p + 12

set_option maxHeartbeats 12800000 in
theorem line_f (R : Nat) (a : Option Addr) (n cap : Nat) (bs : List Int) (p : Int) (w : World) (rd : Rd w R a n cap bs p) (hp : 0 ≤ p) (hp1 : p ≤ 8000000) (ha : 0 < n → ∀ b o, a = some ⟨b, o, none⟩ → b < w.heap.size) :
    Calls Tryd.prog 112 #[.pointer (some ⟨R, 0, none⟩)] w fun e w' => ∃ l q, e = .returned (lnV l) ∧ LnN w w' R a n cap bs p q l := by
  have hRl := rd.c.lt
  have ha0 := ha
  have q0 := Cel.new w [.int .i64 0, .int .i64 0, .int .i64 0, .slice none 0 0, .slice none 0 0, .int .i64 0] 94
  have al := (Below.refl w.heap.size w).alloc (Nat.le_refl _) (.cells #[.int .i64 0, .int .i64 0, .int .i64 0, .slice none 0 0, .slice none 0 0, .int .i64 0] 94)
  have nq0 : w.heap.size ≠ R := by omega
  have TT : Touch (fun x => x = R) w (w.alloc (.cells #[.int .i64 0, .int .i64 0, .int .i64 0, .slice none 0 0, .slice none 0 0, .int .i64 0] 94)) := Touch.of al
  replace rd := rd.below al
  clear al
  go_enter Tryd.func112, Tryd.ntmps112
  go_wp2_with fail
  obtain ⟨W2, hW2⟩ : ∃ W, W = (w.alloc (.cells #[.int .i64 0, .int .i64 0, .int .i64 0, .slice none 0 0, .slice none 0 0, .int .i64 0] 94)) := ⟨_, rfl⟩
  rw [← hW2]
  rw [← hW2] at TT rd q0
  clear hW2
  refine (pick_any R a n cap bs (p) 7 _ rd (by omega) (by omega) (by omega) (by omega)).mono ?_
  rintro e w3 ⟨rj, hj0, hj1, rfl, t5, R5⟩
  obtain ⟨j, rfl⟩ := Int.eq_ofNat_of_zero_le hj0
  clear hj0
  replace q0 := q0.touch t5 nq0
  replace TT := TT.trans t5
  replace rd := R5
  clear t5 R5
  rcases (show j = 0 ∨ j = 1 ∨ j = 2 ∨ j = 3 ∨ j = 4 ∨ j = 5 ∨ j = 6 from by omega) with rfl | rfl | rfl | rfl | rfl | rfl | rfl
  · go_wp2_with fail
    refine (pick_any R a n cap bs (p + 1) 3 _ rd (by omega) (by omega) (by omega) (by omega)).mono ?_
    rintro e w4 ⟨ri, hi0, hi1, rfl, t5, R5⟩
    obtain ⟨i, rfl⟩ := Int.eq_ofNat_of_zero_le hi0
    clear hi0
    replace q0 := q0.touch t5 nq0
    replace TT := TT.trans t5
    replace rd := R5
    clear t5 R5
    go_wp2_with fail
    have xA := q0.lt
    refine (small_f R a n cap bs (p + 1 + 1) _ rd (by omega) (by omega) rd.ha).mono ?_
    rintro e w5 ⟨BA, DA, LCA, LDA, KA, rfl, t5, R5, f5, sCA, sDA, sKA1, sKA2⟩
    have zA1 : w.heap.size ≤ BA := Nat.le_trans TT.size f5.b1
    have zA2 : w.heap.size ≤ DA := Nat.le_trans TT.size f5.b2
    have lCA := f5.l1
    have lDA := f5.l2
    have GA : FA w5 (some ⟨BA, 0, none⟩) 3 (some ⟨DA, 0, none⟩) 2 (LCA, LDA, KA) := ⟨f5.k1.ints' f5.l1, f5.k2.ints' f5.l2, by omega, by omega⟩
    have ltCA := f5.k1.lt
    have ltDA := f5.k2.lt
    have nCDA := f5.ne
    have yA1 := f5.b1
    have yA2 := f5.b2
    clear f5
    replace q0 := q0.touch t5 nq0
    replace TT := TT.trans t5
    replace rd := R5
    clear t5 R5
    have gq0_0 := q0.cell 0
    have gq0_1 := q0.cell 1
    have gq0_2 := q0.cell 2
    have gq0_3 := q0.cell 3
    have gq0_4 := q0.cell 4
    have gq0_5 := q0.cell 5
    simp only [List.getElem?_cons_zero, List.getElem?_cons_succ] at gq0_0 gq0_1 gq0_2 gq0_3 gq0_4 gq0_5
    have fq0_0 := q0.free 0
    have fq0_1 := q0.free 1
    have fq0_2 := q0.free 2
    have fq0_3 := q0.free 3
    have fq0_4 := q0.free 4
    have fq0_5 := q0.free 5
    have lq0 := q0.lt
    go_wp2
    clear gq0_0 gq0_1 gq0_2 gq0_3 gq0_4 gq0_5 fq0_0 fq0_1 fq0_2 fq0_3 fq0_4 fq0_5 lq0
    have hwt := TT.size
    have hlq := q0.lt
    replace q0 := q0.set 0 (.int .i64 1)
    replace GA := GA.setFar (X := w.heap.size) (by omega) (by omega) 0 (.int .i64 1)
    replace rd := rd.setNew (B := w.heap.size) (by omega) (fun h0 b o e => by have := ha0 h0 b o e; omega) 0 (.int .i64 1)
    replace TT := TT.setNewF (B := w.heap.size) (by omega) 0 (.int .i64 1)
    replace q0 := q0.set 1 (.int .i64 0)
    replace GA := GA.setFar (X := w.heap.size) (by omega) (by omega) 1 (.int .i64 0)
    replace rd := rd.setNew (B := w.heap.size) (by omega) (fun h0 b o e => by have := ha0 h0 b o e; omega) 1 (.int .i64 0)
    replace TT := TT.setNewF (B := w.heap.size) (by omega) 1 (.int .i64 0)
    replace q0 := q0.set 2 (.int .i64 (1 + (i : Int)))
    replace GA := GA.setFar (X := w.heap.size) (by omega) (by omega) 2 (.int .i64 (1 + (i : Int)))
    replace rd := rd.setNew (B := w.heap.size) (by omega) (fun h0 b o e => by have := ha0 h0 b o e; omega) 2 (.int .i64 (1 + (i : Int)))
    replace TT := TT.setNewF (B := w.heap.size) (by omega) 2 (.int .i64 (1 + (i : Int)))
    replace q0 := q0.set 3 (.slice (some ⟨BA, 0, none⟩) 3 3)
    replace GA := GA.setFar (X := w.heap.size) (by omega) (by omega) 3 (.slice (some ⟨BA, 0, none⟩) 3 3)
    replace rd := rd.setNew (B := w.heap.size) (by omega) (fun h0 b o e => by have := ha0 h0 b o e; omega) 3 (.slice (some ⟨BA, 0, none⟩) 3 3)
    replace TT := TT.setNewF (B := w.heap.size) (by omega) 3 (.slice (some ⟨BA, 0, none⟩) 3 3)
    replace q0 := q0.set 4 (.slice (some ⟨DA, 0, none⟩) 2 2)
    replace GA := GA.setFar (X := w.heap.size) (by omega) (by omega) 4 (.slice (some ⟨DA, 0, none⟩) 2 2)
    replace rd := rd.setNew (B := w.heap.size) (by omega) (fun h0 b o e => by have := ha0 h0 b o e; omega) 4 (.slice (some ⟨DA, 0, none⟩) 2 2)
    replace TT := TT.setNewF (B := w.heap.size) (by omega) 4 (.slice (some ⟨DA, 0, none⟩) 2 2)
    replace q0 := q0.set 5 (.int .i64 KA)
    replace GA := GA.setFar (X := w.heap.size) (by omega) (by omega) 5 (.int .i64 KA)
    replace rd := rd.setNew (B := w.heap.size) (by omega) (fun h0 b o e => by have := ha0 h0 b o e; omega) 5 (.int .i64 KA)
    replace TT := TT.setNewF (B := w.heap.size) (by omega) 5 (.int .i64 KA)
    obtain ⟨W6, hW6⟩ : ∃ W, W = ((((((w5.setCell ⟨w.heap.size, 0, none⟩ (.int .i64 1)).setCell ⟨w.heap.size, 1, none⟩ (.int .i64 0)).setCell ⟨w.heap.size, 2, none⟩ (.int .i64 (1 + (i : Int)))).setCell ⟨w.heap.size, 3, none⟩ (.slice (some ⟨BA, 0, none⟩) 3 3)).setCell ⟨w.heap.size, 4, none⟩ (.slice (some ⟨DA, 0, none⟩) 2 2)).setCell ⟨w.heap.size, 5, none⟩ (.int .i64 KA)) := ⟨_, rfl⟩
    rw [← hW6]
    rw [← hW6] at TT rd q0 GA
    clear hW6
    have hws := TT.size
    have u0 : W6.cell? ⟨w.heap.size, 0, none⟩ = some (.int .i64 1) := q0.cell 0
    have u1 : W6.cell? ⟨w.heap.size, 1, none⟩ = some (.int .i64 0) := q0.cell 1
    have u2 : W6.cell? ⟨w.heap.size, 2, none⟩ = some (.int .i64 (1 + (i : Int))) := q0.cell 2
    have u3 : W6.cell? ⟨w.heap.size, 3, none⟩ = some (.slice (some ⟨BA, 0, none⟩) 3 3) := q0.cell 3
    have u4 : W6.cell? ⟨w.heap.size, 4, none⟩ = some (.slice (some ⟨DA, 0, none⟩) 2 2) := q0.cell 4
    have u5 : W6.cell? ⟨w.heap.size, 5, none⟩ = some (.int .i64 KA) := q0.cell 5
    refine bodyPost_ret (v := lnV ⟨1, 0, (1 + (i : Int)), ⟨some ⟨BA, 0, none⟩, 3, 3, some ⟨DA, 0, none⟩, 2, 2, KA, LCA, LDA⟩⟩) (by simp [results, Tryd.results112, go_sem, u0, u1, u2, u3, u4, u5]) rfl ⟨⟨1, 0, (1 + (i : Int)), ⟨some ⟨BA, 0, none⟩, 3, 3, some ⟨DA, 0, none⟩, 2, 2, KA, LCA, LDA⟩⟩, _, rfl, ⟨TT, rd, ⟨GA.C, GA.D, by simp only []; omega, by simp only []; omega⟩, fun b o e => by simp only [Option.some.injEq, Addr.mk.injEq] at e; have hb := GA.C.blk (by omega); omega, fun b o e => by simp only [Option.some.injEq, Addr.mk.injEq] at e; have hb := GA.D.blk (by omega); omega, lok1 (skip := 1 + (i : Int)) (small_of sCA sDA sKA1 sKA2) (by omega) (by omega), by omega, by omega⟩⟩
  · go_wp2_with fail
    refine (pick_any R a n cap bs (p + 1) 3 _ rd (by omega) (by omega) (by omega) (by omega)).mono ?_
    rintro e w4 ⟨ri, hi0, hi1, rfl, t5, R5⟩
    obtain ⟨i, rfl⟩ := Int.eq_ofNat_of_zero_le hi0
    clear hi0
    replace q0 := q0.touch t5 nq0
    replace TT := TT.trans t5
    replace rd := R5
    clear t5 R5
    go_wp2_with fail
    have xA := q0.lt
    refine (small_f R a n cap bs (p + 1 + 1) _ rd (by omega) (by omega) rd.ha).mono ?_
    rintro e w5 ⟨BA, DA, LCA, LDA, KA, rfl, t5, R5, f5, sCA, sDA, sKA1, sKA2⟩
    have zA1 : w.heap.size ≤ BA := Nat.le_trans TT.size f5.b1
    have zA2 : w.heap.size ≤ DA := Nat.le_trans TT.size f5.b2
    have lCA := f5.l1
    have lDA := f5.l2
    have GA : FA w5 (some ⟨BA, 0, none⟩) 3 (some ⟨DA, 0, none⟩) 2 (LCA, LDA, KA) := ⟨f5.k1.ints' f5.l1, f5.k2.ints' f5.l2, by omega, by omega⟩
    have ltCA := f5.k1.lt
    have ltDA := f5.k2.lt
    have nCDA := f5.ne
    have yA1 := f5.b1
    have yA2 := f5.b2
    clear f5
    replace q0 := q0.touch t5 nq0
    replace TT := TT.trans t5
    replace rd := R5
    clear t5 R5
    have gq0_0 := q0.cell 0
    have gq0_1 := q0.cell 1
    have gq0_2 := q0.cell 2
    have gq0_3 := q0.cell 3
    have gq0_4 := q0.cell 4
    have gq0_5 := q0.cell 5
    simp only [List.getElem?_cons_zero, List.getElem?_cons_succ] at gq0_0 gq0_1 gq0_2 gq0_3 gq0_4 gq0_5
    have fq0_0 := q0.free 0
    have fq0_1 := q0.free 1
    have fq0_2 := q0.free 2
    have fq0_3 := q0.free 3
    have fq0_4 := q0.free 4
    have fq0_5 := q0.free 5
    have lq0 := q0.lt
    go_wp2
    clear gq0_0 gq0_1 gq0_2 gq0_3 gq0_4 gq0_5 fq0_0 fq0_1 fq0_2 fq0_3 fq0_4 fq0_5 lq0
    have hwt := TT.size
    have hlq := q0.lt
    replace q0 := q0.set 0 (.int .i64 1)
    replace GA := GA.setFar (X := w.heap.size) (by omega) (by omega) 0 (.int .i64 1)
    replace rd := rd.setNew (B := w.heap.size) (by omega) (fun h0 b o e => by have := ha0 h0 b o e; omega) 0 (.int .i64 1)
    replace TT := TT.setNewF (B := w.heap.size) (by omega) 0 (.int .i64 1)
    replace q0 := q0.set 1 (.int .i64 0)
    replace GA := GA.setFar (X := w.heap.size) (by omega) (by omega) 1 (.int .i64 0)
    replace rd := rd.setNew (B := w.heap.size) (by omega) (fun h0 b o e => by have := ha0 h0 b o e; omega) 1 (.int .i64 0)
    replace TT := TT.setNewF (B := w.heap.size) (by omega) 1 (.int .i64 0)
    replace q0 := q0.set 2 (.int .i64 (1 + (i : Int)))
    replace GA := GA.setFar (X := w.heap.size) (by omega) (by omega) 2 (.int .i64 (1 + (i : Int)))
    replace rd := rd.setNew (B := w.heap.size) (by omega) (fun h0 b o e => by have := ha0 h0 b o e; omega) 2 (.int .i64 (1 + (i : Int)))
    replace TT := TT.setNewF (B := w.heap.size) (by omega) 2 (.int .i64 (1 + (i : Int)))
    replace q0 := q0.set 3 (.slice (some ⟨BA, 0, none⟩) 3 3)
    replace GA := GA.setFar (X := w.heap.size) (by omega) (by omega) 3 (.slice (some ⟨BA, 0, none⟩) 3 3)
    replace rd := rd.setNew (B := w.heap.size) (by omega) (fun h0 b o e => by have := ha0 h0 b o e; omega) 3 (.slice (some ⟨BA, 0, none⟩) 3 3)
    replace TT := TT.setNewF (B := w.heap.size) (by omega) 3 (.slice (some ⟨BA, 0, none⟩) 3 3)
    replace q0 := q0.set 4 (.slice (some ⟨DA, 0, none⟩) 2 2)
    replace GA := GA.setFar (X := w.heap.size) (by omega) (by omega) 4 (.slice (some ⟨DA, 0, none⟩) 2 2)
    replace rd := rd.setNew (B := w.heap.size) (by omega) (fun h0 b o e => by have := ha0 h0 b o e; omega) 4 (.slice (some ⟨DA, 0, none⟩) 2 2)
    replace TT := TT.setNewF (B := w.heap.size) (by omega) 4 (.slice (some ⟨DA, 0, none⟩) 2 2)
    replace q0 := q0.set 5 (.int .i64 KA)
    replace GA := GA.setFar (X := w.heap.size) (by omega) (by omega) 5 (.int .i64 KA)
    replace rd := rd.setNew (B := w.heap.size) (by omega) (fun h0 b o e => by have := ha0 h0 b o e; omega) 5 (.int .i64 KA)
    replace TT := TT.setNewF (B := w.heap.size) (by omega) 5 (.int .i64 KA)
    obtain ⟨W6, hW6⟩ : ∃ W, W = ((((((w5.setCell ⟨w.heap.size, 0, none⟩ (.int .i64 1)).setCell ⟨w.heap.size, 1, none⟩ (.int .i64 0)).setCell ⟨w.heap.size, 2, none⟩ (.int .i64 (1 + (i : Int)))).setCell ⟨w.heap.size, 3, none⟩ (.slice (some ⟨BA, 0, none⟩) 3 3)).setCell ⟨w.heap.size, 4, none⟩ (.slice (some ⟨DA, 0, none⟩) 2 2)).setCell ⟨w.heap.size, 5, none⟩ (.int .i64 KA)) := ⟨_, rfl⟩
    rw [← hW6]
    rw [← hW6] at TT rd q0 GA
    clear hW6
    have hws := TT.size
    have u0 : W6.cell? ⟨w.heap.size, 0, none⟩ = some (.int .i64 1) := q0.cell 0
    have u1 : W6.cell? ⟨w.heap.size, 1, none⟩ = some (.int .i64 0) := q0.cell 1
    have u2 : W6.cell? ⟨w.heap.size, 2, none⟩ = some (.int .i64 (1 + (i : Int))) := q0.cell 2
    have u3 : W6.cell? ⟨w.heap.size, 3, none⟩ = some (.slice (some ⟨BA, 0, none⟩) 3 3) := q0.cell 3
    have u4 : W6.cell? ⟨w.heap.size, 4, none⟩ = some (.slice (some ⟨DA, 0, none⟩) 2 2) := q0.cell 4
    have u5 : W6.cell? ⟨w.heap.size, 5, none⟩ = some (.int .i64 KA) := q0.cell 5
    refine bodyPost_ret (v := lnV ⟨1, 0, (1 + (i : Int)), ⟨some ⟨BA, 0, none⟩, 3, 3, some ⟨DA, 0, none⟩, 2, 2, KA, LCA, LDA⟩⟩) (by simp [results, Tryd.results112, go_sem, u0, u1, u2, u3, u4, u5]) rfl ⟨⟨1, 0, (1 + (i : Int)), ⟨some ⟨BA, 0, none⟩, 3, 3, some ⟨DA, 0, none⟩, 2, 2, KA, LCA, LDA⟩⟩, _, rfl, ⟨TT, rd, ⟨GA.C, GA.D, by simp only []; omega, by simp only []; omega⟩, fun b o e => by simp only [Option.some.injEq, Addr.mk.injEq] at e; have hb := GA.C.blk (by omega); omega, fun b o e => by simp only [Option.some.injEq, Addr.mk.injEq] at e; have hb := GA.D.blk (by omega); omega, lok1 (skip := 1 + (i : Int)) (small_of sCA sDA sKA1 sKA2) (by omega) (by omega), by omega, by omega⟩⟩
  · go_wp2_with fail
    have xA := q0.lt
    refine (small_f R a n cap bs (p + 1) _ rd (by omega) (by omega) rd.ha).mono ?_
    rintro e w4 ⟨BA, DA, LCA, LDA, KA, rfl, t5, R5, f5, sCA, sDA, sKA1, sKA2⟩
    have zA1 : w.heap.size ≤ BA := Nat.le_trans TT.size f5.b1
    have zA2 : w.heap.size ≤ DA := Nat.le_trans TT.size f5.b2
    have lCA := f5.l1
    have lDA := f5.l2
    have GA : FA w4 (some ⟨BA, 0, none⟩) 3 (some ⟨DA, 0, none⟩) 2 (LCA, LDA, KA) := ⟨f5.k1.ints' f5.l1, f5.k2.ints' f5.l2, by omega, by omega⟩
    have ltCA := f5.k1.lt
    have ltDA := f5.k2.lt
    have nCDA := f5.ne
    have yA1 := f5.b1
    have yA2 := f5.b2
    clear f5
    replace q0 := q0.touch t5 nq0
    replace TT := TT.trans t5
    replace rd := R5
    clear t5 R5
    have hwt := TT.size
    have hlq := q0.lt
    have al := (Below.refl w4.heap.size w4).alloc (Nat.le_refl _) (.cells #[.slice (some ⟨BA, 0, none⟩) 3 3, .slice (some ⟨DA, 0, none⟩) 2 2, .int .i64 KA] 25)
    have qf := Cel.new w4 [.slice (some ⟨BA, 0, none⟩) 3 3, .slice (some ⟨DA, 0, none⟩) 2 2, .int .i64 KA] 25
    replace q0 := q0.below al
    replace GA := GA.below al
    replace TT := TT.trans (Touch.of al)
    replace rd := rd.below al
    clear al
    go_wp2_with fail
    obtain ⟨W5, hW5⟩ : ∃ W, W = (w4.alloc (.cells #[.slice (some ⟨BA, 0, none⟩) 3 3, .slice (some ⟨DA, 0, none⟩) 2 2, .int .i64 KA] 25)) := ⟨_, rfl⟩
    rw [← hW5]
    rw [← hW5] at TT rd q0 GA qf
    clear hW5
    obtain ⟨XF, hXF⟩ : ∃ x, x = w4.heap.size := ⟨_, rfl⟩
    rw [← hXF]
    rw [← hXF] at qf hwt
    have nqf : XF ≠ R := by omega
    have hXw : w.heap.size < XF := by omega
    have nXB : BA ≠ XF := by omega
    have nXD : DA ≠ XF := by omega
    clear hXF
    refine (pick_any R a n cap bs (p + 1 + 6) 3 _ rd (by omega) (by omega) (by omega) (by omega)).mono ?_
    rintro e w6 ⟨rk, hk0, hk1, rfl, t5, R5⟩
    obtain ⟨k, rfl⟩ := Int.eq_ofNat_of_zero_le hk0
    clear hk0
    replace q0 := q0.touch t5 nq0
    replace GA := GA.far t5 (lo := w.heap.size) (fun k hk => by omega) zA1 zA2
    replace qf := qf.touch t5 nqf
    replace TT := TT.trans t5
    replace rd := R5
    clear t5 R5
    by_cases hk : (k : Int) = 0
    · have hk' : ¬ (0 : Int) < (k : Int) := by omega
      go_upto_region 11 with fail
      refine wp_region_ends (fun X => X.cell? ⟨XF, 0, none⟩ = some (.slice (some ⟨BA, 0, none⟩) 3 3) ∧ X.cell? ⟨XF, 1, none⟩ = some (.slice (some ⟨DA, 0, none⟩) 2 2) ∧ X.cell? ⟨XF, 2, none⟩ = some (.int .i64 KA)) (fun _ => True) 5 (by kernel_rfl) ?_
      have dr : Below w6.heap.size w6 w6.drew := (Below.refl _ _).drew
      replace q0 := q0.below dr
      replace GA := GA.below dr
      replace qf := qf.below dr
      replace TT := TT.trans (Touch.of dr)
      replace rd := rd.below dr
      clear dr
      obtain ⟨V7, hV7⟩ : ∃ W, W = w6.drew := ⟨_, rfl⟩
      rw [← hV7]
      rw [← hV7] at TT rd q0 GA qf
      clear hV7
      have hSS : (fun X : World => X.cell? ⟨XF, 0, none⟩ = some (.slice (some ⟨BA, 0, none⟩) 3 3) ∧ X.cell? ⟨XF, 1, none⟩ = some (.slice (some ⟨DA, 0, none⟩) 2 2) ∧ X.cell? ⟨XF, 2, none⟩ = some (.int .i64 KA)) V7 ∧ True := ⟨⟨qf.cell 0, qf.cell 1, qf.cell 2⟩, trivial⟩
      refine tkL (i := 0) rfl hSS ?_
      refine tkL (i := 2) rfl hSS ?_
      refine wpAnyE_one (i := 1) (by kernel_rfl) rfl (fun Kn hK => ?_)
      go_simp
      refine (pick_any R a n cap bs (p + 1 + 6 + 1) 3 _ rd (by omega) (by omega) (by omega) (by omega)).mono ?_
      rintro e w8 ⟨ri, hi0, hi1, rfl, t5, R5⟩
      obtain ⟨i, rfl⟩ := Int.eq_ofNat_of_zero_le hi0
      clear hi0
      replace q0 := q0.touch t5 nq0
      replace GA := GA.far t5 (lo := w.heap.size) (fun k hk => by omega) zA1 zA2
      replace qf := qf.touch t5 nqf
      replace TT := TT.trans t5
      replace rd := R5
      clear t5 R5
      dsimp only
      clear hSS
      have hSS : (fun X : World => X.cell? ⟨XF, 0, none⟩ = some (.slice (some ⟨BA, 0, none⟩) 3 3) ∧ X.cell? ⟨XF, 1, none⟩ = some (.slice (some ⟨DA, 0, none⟩) 2 2) ∧ X.cell? ⟨XF, 2, none⟩ = some (.int .i64 KA)) w8 ∧ True := ⟨⟨qf.cell 0, qf.cell 1, qf.cell 2⟩, trivial⟩
      refine hK.out _ _ ⟨hSS.1, fun _ => trivial⟩ ?_
      clear hK
      refine tkL (i := 3) rfl hSS ?_
      refine wpAnyE_one (i := 4) (by kernel_rfl) rfl (fun Kn hK => ?_)
      have gq0_0 := q0.cell 0
      have gq0_1 := q0.cell 1
      have gq0_2 := q0.cell 2
      have gq0_3 := q0.cell 3
      have gq0_4 := q0.cell 4
      have gq0_5 := q0.cell 5
      simp only [List.getElem?_cons_zero, List.getElem?_cons_succ] at gq0_0 gq0_1 gq0_2 gq0_3 gq0_4 gq0_5
      have fq0_0 := q0.free 0
      have fq0_1 := q0.free 1
      have fq0_2 := q0.free 2
      have fq0_3 := q0.free 3
      have fq0_4 := q0.free 4
      have fq0_5 := q0.free 5
      have lq0 := q0.lt
      go_simp
      clear gq0_0 gq0_1 gq0_2 gq0_3 gq0_4 gq0_5 fq0_0 fq0_1 fq0_2 fq0_3 fq0_4 fq0_5 lq0
      have hwt2 := TT.size
      have hlq2 := q0.lt
      replace q0 := q0.set 0 (.int .i64 2)
      replace GA := GA.setFar (X := w.heap.size) (by omega) (by omega) 0 (.int .i64 2)
      replace qf := qf.setOther (B' := w.heap.size) (by omega) 0 (.int .i64 2)
      replace rd := rd.setNew (B := w.heap.size) (by omega) (fun h0 b o e => by have := ha0 h0 b o e; omega) 0 (.int .i64 2)
      replace TT := TT.setNewF (B := w.heap.size) (by omega) 0 (.int .i64 2)
      replace q0 := q0.set 1 (.int .i64 (i : Int))
      replace GA := GA.setFar (X := w.heap.size) (by omega) (by omega) 1 (.int .i64 (i : Int))
      replace qf := qf.setOther (B' := w.heap.size) (by omega) 1 (.int .i64 (i : Int))
      replace rd := rd.setNew (B := w.heap.size) (by omega) (fun h0 b o e => by have := ha0 h0 b o e; omega) 1 (.int .i64 (i : Int))
      replace TT := TT.setNewF (B := w.heap.size) (by omega) 1 (.int .i64 (i : Int))
      replace q0 := q0.set 2 (.int .i64 0)
      replace GA := GA.setFar (X := w.heap.size) (by omega) (by omega) 2 (.int .i64 0)
      replace qf := qf.setOther (B' := w.heap.size) (by omega) 2 (.int .i64 0)
      replace rd := rd.setNew (B := w.heap.size) (by omega) (fun h0 b o e => by have := ha0 h0 b o e; omega) 2 (.int .i64 0)
      replace TT := TT.setNewF (B := w.heap.size) (by omega) 2 (.int .i64 0)
      replace q0 := q0.set 3 (.slice (some ⟨BA, 0, none⟩) 3 3)
      replace GA := GA.setFar (X := w.heap.size) (by omega) (by omega) 3 (.slice (some ⟨BA, 0, none⟩) 3 3)
      replace qf := qf.setOther (B' := w.heap.size) (by omega) 3 (.slice (some ⟨BA, 0, none⟩) 3 3)
      replace rd := rd.setNew (B := w.heap.size) (by omega) (fun h0 b o e => by have := ha0 h0 b o e; omega) 3 (.slice (some ⟨BA, 0, none⟩) 3 3)
      replace TT := TT.setNewF (B := w.heap.size) (by omega) 3 (.slice (some ⟨BA, 0, none⟩) 3 3)
      replace q0 := q0.set 4 (.slice (some ⟨DA, 0, none⟩) 2 2)
      replace GA := GA.setFar (X := w.heap.size) (by omega) (by omega) 4 (.slice (some ⟨DA, 0, none⟩) 2 2)
      replace qf := qf.setOther (B' := w.heap.size) (by omega) 4 (.slice (some ⟨DA, 0, none⟩) 2 2)
      replace rd := rd.setNew (B := w.heap.size) (by omega) (fun h0 b o e => by have := ha0 h0 b o e; omega) 4 (.slice (some ⟨DA, 0, none⟩) 2 2)
      replace TT := TT.setNewF (B := w.heap.size) (by omega) 4 (.slice (some ⟨DA, 0, none⟩) 2 2)
      replace q0 := q0.set 5 (.int .i64 KA)
      replace GA := GA.setFar (X := w.heap.size) (by omega) (by omega) 5 (.int .i64 KA)
      replace qf := qf.setOther (B' := w.heap.size) (by omega) 5 (.int .i64 KA)
      replace rd := rd.setNew (B := w.heap.size) (by omega) (fun h0 b o e => by have := ha0 h0 b o e; omega) 5 (.int .i64 KA)
      replace TT := TT.setNewF (B := w.heap.size) (by omega) 5 (.int .i64 KA)
      obtain ⟨W9, hW9⟩ : ∃ W, W = ((((((w8.setCell ⟨w.heap.size, 0, none⟩ (.int .i64 2)).setCell ⟨w.heap.size, 1, none⟩ (.int .i64 (i : Int))).setCell ⟨w.heap.size, 2, none⟩ (.int .i64 0)).setCell ⟨w.heap.size, 3, none⟩ (.slice (some ⟨BA, 0, none⟩) 3 3)).setCell ⟨w.heap.size, 4, none⟩ (.slice (some ⟨DA, 0, none⟩) 2 2)).setCell ⟨w.heap.size, 5, none⟩ (.int .i64 KA)) := ⟨_, rfl⟩
      rw [← hW9]
      rw [← hW9] at TT rd q0 GA qf
      clear hW9
      clear hSS
      have hSS : (fun X : World => X.cell? ⟨XF, 0, none⟩ = some (.slice (some ⟨BA, 0, none⟩) 3 3) ∧ X.cell? ⟨XF, 1, none⟩ = some (.slice (some ⟨DA, 0, none⟩) 2 2) ∧ X.cell? ⟨XF, 2, none⟩ = some (.int .i64 KA)) W9 ∧ True := ⟨⟨qf.cell 0, qf.cell 1, qf.cell 2⟩, trivial⟩
      refine hK.out _ _ ⟨hSS.1, fun _ => trivial⟩ ?_
      clear hK
      refine wpAnyE_done (by kernel_rfl) ?_ _
      clear hSS
      go_wp2
      have hws := TT.size
      have u0 : W9.cell? ⟨w.heap.size, 0, none⟩ = some (.int .i64 2) := q0.cell 0
      have u1 : W9.cell? ⟨w.heap.size, 1, none⟩ = some (.int .i64 (i : Int)) := q0.cell 1
      have u2 : W9.cell? ⟨w.heap.size, 2, none⟩ = some (.int .i64 0) := q0.cell 2
      have u3 : W9.cell? ⟨w.heap.size, 3, none⟩ = some (.slice (some ⟨BA, 0, none⟩) 3 3) := q0.cell 3
      have u4 : W9.cell? ⟨w.heap.size, 4, none⟩ = some (.slice (some ⟨DA, 0, none⟩) 2 2) := q0.cell 4
      have u5 : W9.cell? ⟨w.heap.size, 5, none⟩ = some (.int .i64 KA) := q0.cell 5
      refine bodyPost_ret (v := lnV ⟨2, (i : Int), 0, ⟨some ⟨BA, 0, none⟩, 3, 3, some ⟨DA, 0, none⟩, 2, 2, KA, LCA, LDA⟩⟩) (by simp [results, Tryd.results112, go_sem, u0, u1, u2, u3, u4, u5]) rfl ⟨⟨2, (i : Int), 0, ⟨some ⟨BA, 0, none⟩, 3, 3, some ⟨DA, 0, none⟩, 2, 2, KA, LCA, LDA⟩⟩, _, rfl, ⟨TT, rd, ⟨GA.C, GA.D, by simp only []; omega, by simp only []; omega⟩, fun b o e => by simp only [Option.some.injEq, Addr.mk.injEq] at e; have hb := GA.C.blk (by omega); omega, fun b o e => by simp only [Option.some.injEq, Addr.mk.injEq] at e; have hb := GA.D.blk (by omega); omega, lok2 (pot := (i : Int)) (small_of sCA sDA sKA1 sKA2) (by omega) (by omega), by omega, by omega⟩⟩
    · have hk' : (0 : Int) < (k : Int) := by omega
      have gqf_0 := qf.cell 0
      have gqf_1 := qf.cell 1
      have gqf_2 := qf.cell 2
      simp only [List.getElem?_cons_zero, List.getElem?_cons_succ] at gqf_0 gqf_1 gqf_2
      have fqf_0 := qf.free 0
      have fqf_1 := qf.free 1
      have fqf_2 := qf.free 2
      have lqf := qf.lt
      go_upto_region 11 with fail
      clear gqf_0 gqf_1 gqf_2 fqf_0 fqf_1 fqf_2 lqf
      have hwz := TT.size
      have ltF := qf.lt
      obtain ⟨BM, hBM⟩ : ∃ x, x = w6.heap.size := ⟨_, rfl⟩
      rw [← hBM]
      rw [← hBM] at hwz ltF
      have nXM : BM ≠ XF := by omega
      have nRM : BM ≠ R := by omega
      replace q0 := q0.setOther (B' := XF) (by omega) 0 (.slice (some ⟨BM, 0, none⟩) 3 3)
      replace GA := GA.setFar (X := XF) (by omega) (by omega) 0 (.slice (some ⟨BM, 0, none⟩) 3 3)
      replace qf := qf.set 0 (.slice (some ⟨BM, 0, none⟩) 3 3)
      replace rd := rd.setNew (B := XF) (by omega) (fun h0 b o e => by have := ha0 h0 b o e; omega) 0 (.slice (some ⟨BM, 0, none⟩) 3 3)
      replace TT := TT.setNewF (B := XF) (by omega) 0 (.slice (some ⟨BM, 0, none⟩) 3 3)
      have al := (Below.refl (w6.setCell ⟨XF, 0, none⟩ (.slice (some ⟨BM, 0, none⟩) 3 3)).heap.size (w6.setCell ⟨XF, 0, none⟩ (.slice (some ⟨BM, 0, none⟩) 3 3))).alloc (Nat.le_refl _) (.cells #[.int .i64 0, .int .i64 0, .int .i64 0] 3)
      have kz : Blk ((w6.setCell ⟨XF, 0, none⟩ (.slice (some ⟨BM, 0, none⟩) 3 3)).alloc (.cells #[.int .i64 0, .int .i64 0, .int .i64 0] 3)) (w6.setCell ⟨XF, 0, none⟩ (.slice (some ⟨BM, 0, none⟩) 3 3)).heap.size [0, 0, 0] := heap_alloc_new (w6.setCell ⟨XF, 0, none⟩ (.slice (some ⟨BM, 0, none⟩) 3 3)) _
      rw [show (w6.setCell ⟨XF, 0, none⟩ (.slice (some ⟨BM, 0, none⟩) 3 3)).heap.size = BM from by rw [size_setCell]; exact hBM.symm] at kz
      clear hBM
      replace q0 := q0.below al
      replace GA := GA.below al
      replace qf := qf.below al
      replace TT := TT.trans (Touch.of al)
      replace rd := rd.below al
      clear al
      have hzl := kz.lt
      have GM : FA ((w6.setCell ⟨XF, 0, none⟩ (.slice (some ⟨BM, 0, none⟩) 3 3)).alloc (.cells #[.int .i64 0, .int .i64 0, .int .i64 0] 3)) (some ⟨BM, 0, none⟩) 3 (some ⟨DA, 0, none⟩) 2 ([0, 0, 0], LDA, KA) := ⟨kz.ints' rfl, GA.D, by omega, by omega⟩
      clear kz GA
      have zM1 : w.heap.size ≤ BM := hwz
      have zM2 := zA2
      have hBMw : w.heap.size < BM := by omega
      obtain ⟨W7, hW7⟩ : ∃ W, W = ((w6.setCell ⟨XF, 0, none⟩ (.slice (some ⟨BM, 0, none⟩) 3 3)).alloc (.cells #[.int .i64 0, .int .i64 0, .int .i64 0] 3)) := ⟨_, rfl⟩
      rw [← hW7]
      rw [← hW7] at TT rd q0 qf GM
      clear hW7
      refine wp_region_ends (fun X => X.cell? ⟨XF, 0, none⟩ = some (.slice (some ⟨BM, 0, none⟩) 3 3) ∧ X.cell? ⟨XF, 1, none⟩ = some (.slice (some ⟨DA, 0, none⟩) 2 2) ∧ X.cell? ⟨XF, 2, none⟩ = some (.int .i64 KA)) (fun _ => True) 5 (by kernel_rfl) ?_
      have dr : Below W7.heap.size W7 W7.drew := (Below.refl _ _).drew
      replace q0 := q0.below dr
      replace qf := qf.below dr
      replace GM := GM.below dr
      replace TT := TT.trans (Touch.of dr)
      replace rd := rd.below dr
      clear dr
      obtain ⟨V8, hV8⟩ : ∃ W, W = W7.drew := ⟨_, rfl⟩
      rw [← hV8]
      rw [← hV8] at TT rd q0 qf GM
      clear hV8
      have hSS : (fun X : World => X.cell? ⟨XF, 0, none⟩ = some (.slice (some ⟨BM, 0, none⟩) 3 3) ∧ X.cell? ⟨XF, 1, none⟩ = some (.slice (some ⟨DA, 0, none⟩) 2 2) ∧ X.cell? ⟨XF, 2, none⟩ = some (.int .i64 KA)) V8 ∧ True := ⟨⟨qf.cell 0, qf.cell 1, qf.cell 2⟩, trivial⟩
      refine tkL (i := 0) rfl hSS ?_
      refine tkL (i := 2) rfl hSS ?_
      refine wpAnyE_one (i := 1) (by kernel_rfl) rfl (fun Kn hK => ?_)
      go_simp
      refine (pick_any R a n cap bs (p + 1 + 6 + 1) 3 _ rd (by omega) (by omega) (by omega) (by omega)).mono ?_
      rintro e w9 ⟨ri, hi0, hi1, rfl, t5, R5⟩
      obtain ⟨i, rfl⟩ := Int.eq_ofNat_of_zero_le hi0
      clear hi0
      replace q0 := q0.touch t5 nq0
      replace qf := qf.touch t5 nqf
      replace GM := GM.far t5 (lo := w.heap.size) (fun k hk => by omega) zM1 zM2
      replace TT := TT.trans t5
      replace rd := R5
      clear t5 R5
      dsimp only
      clear hSS
      have hSS : (fun X : World => X.cell? ⟨XF, 0, none⟩ = some (.slice (some ⟨BM, 0, none⟩) 3 3) ∧ X.cell? ⟨XF, 1, none⟩ = some (.slice (some ⟨DA, 0, none⟩) 2 2) ∧ X.cell? ⟨XF, 2, none⟩ = some (.int .i64 KA)) w9 ∧ True := ⟨⟨qf.cell 0, qf.cell 1, qf.cell 2⟩, trivial⟩
      refine hK.out _ _ ⟨hSS.1, fun _ => trivial⟩ ?_
      clear hK
      refine tkL (i := 3) rfl hSS ?_
      refine wpAnyE_one (i := 4) (by kernel_rfl) rfl (fun Kn hK => ?_)
      have gq0_0 := q0.cell 0
      have gq0_1 := q0.cell 1
      have gq0_2 := q0.cell 2
      have gq0_3 := q0.cell 3
      have gq0_4 := q0.cell 4
      have gq0_5 := q0.cell 5
      simp only [List.getElem?_cons_zero, List.getElem?_cons_succ] at gq0_0 gq0_1 gq0_2 gq0_3 gq0_4 gq0_5
      have fq0_0 := q0.free 0
      have fq0_1 := q0.free 1
      have fq0_2 := q0.free 2
      have fq0_3 := q0.free 3
      have fq0_4 := q0.free 4
      have fq0_5 := q0.free 5
      have lq0 := q0.lt
      go_simp
      clear gq0_0 gq0_1 gq0_2 gq0_3 gq0_4 gq0_5 fq0_0 fq0_1 fq0_2 fq0_3 fq0_4 fq0_5 lq0
      have hwt2 := TT.size
      have hlq2 := q0.lt
      replace q0 := q0.set 0 (.int .i64 2)
      replace qf := qf.setOther (B' := w.heap.size) (by omega) 0 (.int .i64 2)
      replace GM := GM.setFar (X := w.heap.size) (by omega) (by omega) 0 (.int .i64 2)
      replace rd := rd.setNew (B := w.heap.size) (by omega) (fun h0 b o e => by have := ha0 h0 b o e; omega) 0 (.int .i64 2)
      replace TT := TT.setNewF (B := w.heap.size) (by omega) 0 (.int .i64 2)
      replace q0 := q0.set 1 (.int .i64 (i : Int))
      replace qf := qf.setOther (B' := w.heap.size) (by omega) 1 (.int .i64 (i : Int))
      replace GM := GM.setFar (X := w.heap.size) (by omega) (by omega) 1 (.int .i64 (i : Int))
      replace rd := rd.setNew (B := w.heap.size) (by omega) (fun h0 b o e => by have := ha0 h0 b o e; omega) 1 (.int .i64 (i : Int))
      replace TT := TT.setNewF (B := w.heap.size) (by omega) 1 (.int .i64 (i : Int))
      replace q0 := q0.set 2 (.int .i64 0)
      replace qf := qf.setOther (B' := w.heap.size) (by omega) 2 (.int .i64 0)
      replace GM := GM.setFar (X := w.heap.size) (by omega) (by omega) 2 (.int .i64 0)
      replace rd := rd.setNew (B := w.heap.size) (by omega) (fun h0 b o e => by have := ha0 h0 b o e; omega) 2 (.int .i64 0)
      replace TT := TT.setNewF (B := w.heap.size) (by omega) 2 (.int .i64 0)
      replace q0 := q0.set 3 (.slice (some ⟨BM, 0, none⟩) 3 3)
      replace qf := qf.setOther (B' := w.heap.size) (by omega) 3 (.slice (some ⟨BM, 0, none⟩) 3 3)
      replace GM := GM.setFar (X := w.heap.size) (by omega) (by omega) 3 (.slice (some ⟨BM, 0, none⟩) 3 3)
      replace rd := rd.setNew (B := w.heap.size) (by omega) (fun h0 b o e => by have := ha0 h0 b o e; omega) 3 (.slice (some ⟨BM, 0, none⟩) 3 3)
      replace TT := TT.setNewF (B := w.heap.size) (by omega) 3 (.slice (some ⟨BM, 0, none⟩) 3 3)
      replace q0 := q0.set 4 (.slice (some ⟨DA, 0, none⟩) 2 2)
      replace qf := qf.setOther (B' := w.heap.size) (by omega) 4 (.slice (some ⟨DA, 0, none⟩) 2 2)
      replace GM := GM.setFar (X := w.heap.size) (by omega) (by omega) 4 (.slice (some ⟨DA, 0, none⟩) 2 2)
      replace rd := rd.setNew (B := w.heap.size) (by omega) (fun h0 b o e => by have := ha0 h0 b o e; omega) 4 (.slice (some ⟨DA, 0, none⟩) 2 2)
      replace TT := TT.setNewF (B := w.heap.size) (by omega) 4 (.slice (some ⟨DA, 0, none⟩) 2 2)
      replace q0 := q0.set 5 (.int .i64 KA)
      replace qf := qf.setOther (B' := w.heap.size) (by omega) 5 (.int .i64 KA)
      replace GM := GM.setFar (X := w.heap.size) (by omega) (by omega) 5 (.int .i64 KA)
      replace rd := rd.setNew (B := w.heap.size) (by omega) (fun h0 b o e => by have := ha0 h0 b o e; omega) 5 (.int .i64 KA)
      replace TT := TT.setNewF (B := w.heap.size) (by omega) 5 (.int .i64 KA)
      obtain ⟨W10, hW10⟩ : ∃ W, W = ((((((w9.setCell ⟨w.heap.size, 0, none⟩ (.int .i64 2)).setCell ⟨w.heap.size, 1, none⟩ (.int .i64 (i : Int))).setCell ⟨w.heap.size, 2, none⟩ (.int .i64 0)).setCell ⟨w.heap.size, 3, none⟩ (.slice (some ⟨BM, 0, none⟩) 3 3)).setCell ⟨w.heap.size, 4, none⟩ (.slice (some ⟨DA, 0, none⟩) 2 2)).setCell ⟨w.heap.size, 5, none⟩ (.int .i64 KA)) := ⟨_, rfl⟩
      rw [← hW10]
      rw [← hW10] at TT rd q0 qf GM
      clear hW10
      clear hSS
      have hSS : (fun X : World => X.cell? ⟨XF, 0, none⟩ = some (.slice (some ⟨BM, 0, none⟩) 3 3) ∧ X.cell? ⟨XF, 1, none⟩ = some (.slice (some ⟨DA, 0, none⟩) 2 2) ∧ X.cell? ⟨XF, 2, none⟩ = some (.int .i64 KA)) W10 ∧ True := ⟨⟨qf.cell 0, qf.cell 1, qf.cell 2⟩, trivial⟩
      refine hK.out _ _ ⟨hSS.1, fun _ => trivial⟩ ?_
      clear hK
      refine wpAnyE_done (by kernel_rfl) ?_ _
      clear hSS
      go_wp2
      have hws := TT.size
      have u0 : W10.cell? ⟨w.heap.size, 0, none⟩ = some (.int .i64 2) := q0.cell 0
      have u1 : W10.cell? ⟨w.heap.size, 1, none⟩ = some (.int .i64 (i : Int)) := q0.cell 1
      have u2 : W10.cell? ⟨w.heap.size, 2, none⟩ = some (.int .i64 0) := q0.cell 2
      have u3 : W10.cell? ⟨w.heap.size, 3, none⟩ = some (.slice (some ⟨BM, 0, none⟩) 3 3) := q0.cell 3
      have u4 : W10.cell? ⟨w.heap.size, 4, none⟩ = some (.slice (some ⟨DA, 0, none⟩) 2 2) := q0.cell 4
      have u5 : W10.cell? ⟨w.heap.size, 5, none⟩ = some (.int .i64 KA) := q0.cell 5
      refine bodyPost_ret (v := lnV ⟨2, (i : Int), 0, ⟨some ⟨BM, 0, none⟩, 3, 3, some ⟨DA, 0, none⟩, 2, 2, KA, [0, 0, 0], LDA⟩⟩) (by simp [results, Tryd.results112, go_sem, u0, u1, u2, u3, u4, u5]) rfl ⟨⟨2, (i : Int), 0, ⟨some ⟨BM, 0, none⟩, 3, 3, some ⟨DA, 0, none⟩, 2, 2, KA, [0, 0, 0], LDA⟩⟩, _, rfl, ⟨TT, rd, ⟨GM.C, GM.D, by simp only []; omega, by simp only []; omega⟩, fun b o e => by simp only [Option.some.injEq, Addr.mk.injEq] at e; have hb := GM.C.blk (by omega); omega, fun b o e => by simp only [Option.some.injEq, Addr.mk.injEq] at e; have hb := GM.D.blk (by omega); omega, lok2 (pot := (i : Int)) (small_of (fun i => by rcases i with _ | _ | _ | i <;> simp) sDA sKA1 sKA2) (by omega) (by omega), by omega, by omega⟩⟩
  · go_wp2_with fail
    have xA := q0.lt
    refine (small_f R a n cap bs (p + 1) _ rd (by omega) (by omega) rd.ha).mono ?_
    rintro e w4 ⟨BA, DA, LCA, LDA, KA, rfl, t5, R5, f5, sCA, sDA, sKA1, sKA2⟩
    have zA1 : w.heap.size ≤ BA := Nat.le_trans TT.size f5.b1
    have zA2 : w.heap.size ≤ DA := Nat.le_trans TT.size f5.b2
    have lCA := f5.l1
    have lDA := f5.l2
    have GA : FA w4 (some ⟨BA, 0, none⟩) 3 (some ⟨DA, 0, none⟩) 2 (LCA, LDA, KA) := ⟨f5.k1.ints' f5.l1, f5.k2.ints' f5.l2, by omega, by omega⟩
    have ltCA := f5.k1.lt
    have ltDA := f5.k2.lt
    have nCDA := f5.ne
    have yA1 := f5.b1
    have yA2 := f5.b2
    clear f5
    replace q0 := q0.touch t5 nq0
    replace TT := TT.trans t5
    replace rd := R5
    clear t5 R5
    have hwt := TT.size
    have hlq := q0.lt
    have al := (Below.refl w4.heap.size w4).alloc (Nat.le_refl _) (.cells #[.slice (some ⟨BA, 0, none⟩) 3 3, .slice (some ⟨DA, 0, none⟩) 2 2, .int .i64 KA] 25)
    have qf := Cel.new w4 [.slice (some ⟨BA, 0, none⟩) 3 3, .slice (some ⟨DA, 0, none⟩) 2 2, .int .i64 KA] 25
    replace q0 := q0.below al
    replace GA := GA.below al
    replace TT := TT.trans (Touch.of al)
    replace rd := rd.below al
    clear al
    go_wp2_with fail
    obtain ⟨W5, hW5⟩ : ∃ W, W = (w4.alloc (.cells #[.slice (some ⟨BA, 0, none⟩) 3 3, .slice (some ⟨DA, 0, none⟩) 2 2, .int .i64 KA] 25)) := ⟨_, rfl⟩
    rw [← hW5]
    rw [← hW5] at TT rd q0 GA qf
    clear hW5
    obtain ⟨XF, hXF⟩ : ∃ x, x = w4.heap.size := ⟨_, rfl⟩
    rw [← hXF]
    rw [← hXF] at qf hwt
    have nqf : XF ≠ R := by omega
    have hXw : w.heap.size < XF := by omega
    have nXB : BA ≠ XF := by omega
    have nXD : DA ≠ XF := by omega
    clear hXF
    refine (pick_any R a n cap bs (p + 1 + 6) 3 _ rd (by omega) (by omega) (by omega) (by omega)).mono ?_
    rintro e w6 ⟨rk, hk0, hk1, rfl, t5, R5⟩
    obtain ⟨k, rfl⟩ := Int.eq_ofNat_of_zero_le hk0
    clear hk0
    replace q0 := q0.touch t5 nq0
    replace GA := GA.far t5 (lo := w.heap.size) (fun k hk => by omega) zA1 zA2
    replace qf := qf.touch t5 nqf
    replace TT := TT.trans t5
    replace rd := R5
    clear t5 R5
    by_cases hk : (k : Int) = 0
    · have hk' : ¬ (0 : Int) < (k : Int) := by omega
      go_upto_region 11 with fail
      refine wp_region_ends (fun X => X.cell? ⟨XF, 0, none⟩ = some (.slice (some ⟨BA, 0, none⟩) 3 3) ∧ X.cell? ⟨XF, 1, none⟩ = some (.slice (some ⟨DA, 0, none⟩) 2 2) ∧ X.cell? ⟨XF, 2, none⟩ = some (.int .i64 KA)) (fun _ => True) 5 (by kernel_rfl) ?_
      have dr : Below w6.heap.size w6 w6.drew := (Below.refl _ _).drew
      replace q0 := q0.below dr
      replace GA := GA.below dr
      replace qf := qf.below dr
      replace TT := TT.trans (Touch.of dr)
      replace rd := rd.below dr
      clear dr
      obtain ⟨V7, hV7⟩ : ∃ W, W = w6.drew := ⟨_, rfl⟩
      rw [← hV7]
      rw [← hV7] at TT rd q0 GA qf
      clear hV7
      have hSS : (fun X : World => X.cell? ⟨XF, 0, none⟩ = some (.slice (some ⟨BA, 0, none⟩) 3 3) ∧ X.cell? ⟨XF, 1, none⟩ = some (.slice (some ⟨DA, 0, none⟩) 2 2) ∧ X.cell? ⟨XF, 2, none⟩ = some (.int .i64 KA)) V7 ∧ True := ⟨⟨qf.cell 0, qf.cell 1, qf.cell 2⟩, trivial⟩
      refine tkL (i := 0) rfl hSS ?_
      refine tkL (i := 2) rfl hSS ?_
      refine wpAnyE_one (i := 1) (by kernel_rfl) rfl (fun Kn hK => ?_)
      go_simp
      refine (pick_any R a n cap bs (p + 1 + 6 + 1) 3 _ rd (by omega) (by omega) (by omega) (by omega)).mono ?_
      rintro e w8 ⟨ri, hi0, hi1, rfl, t5, R5⟩
      obtain ⟨i, rfl⟩ := Int.eq_ofNat_of_zero_le hi0
      clear hi0
      replace q0 := q0.touch t5 nq0
      replace GA := GA.far t5 (lo := w.heap.size) (fun k hk => by omega) zA1 zA2
      replace qf := qf.touch t5 nqf
      replace TT := TT.trans t5
      replace rd := R5
      clear t5 R5
      dsimp only
      clear hSS
      have hSS : (fun X : World => X.cell? ⟨XF, 0, none⟩ = some (.slice (some ⟨BA, 0, none⟩) 3 3) ∧ X.cell? ⟨XF, 1, none⟩ = some (.slice (some ⟨DA, 0, none⟩) 2 2) ∧ X.cell? ⟨XF, 2, none⟩ = some (.int .i64 KA)) w8 ∧ True := ⟨⟨qf.cell 0, qf.cell 1, qf.cell 2⟩, trivial⟩
      refine hK.out _ _ ⟨hSS.1, fun _ => trivial⟩ ?_
      clear hK
      refine tkL (i := 3) rfl hSS ?_
      refine wpAnyE_one (i := 4) (by kernel_rfl) rfl (fun Kn hK => ?_)
      have gq0_0 := q0.cell 0
      have gq0_1 := q0.cell 1
      have gq0_2 := q0.cell 2
      have gq0_3 := q0.cell 3
      have gq0_4 := q0.cell 4
      have gq0_5 := q0.cell 5
      simp only [List.getElem?_cons_zero, List.getElem?_cons_succ] at gq0_0 gq0_1 gq0_2 gq0_3 gq0_4 gq0_5
      have fq0_0 := q0.free 0
      have fq0_1 := q0.free 1
      have fq0_2 := q0.free 2
      have fq0_3 := q0.free 3
      have fq0_4 := q0.free 4
      have fq0_5 := q0.free 5
      have lq0 := q0.lt
      go_simp
      clear gq0_0 gq0_1 gq0_2 gq0_3 gq0_4 gq0_5 fq0_0 fq0_1 fq0_2 fq0_3 fq0_4 fq0_5 lq0
      have hwt2 := TT.size
      have hlq2 := q0.lt
      replace q0 := q0.set 0 (.int .i64 2)
      replace GA := GA.setFar (X := w.heap.size) (by omega) (by omega) 0 (.int .i64 2)
      replace qf := qf.setOther (B' := w.heap.size) (by omega) 0 (.int .i64 2)
      replace rd := rd.setNew (B := w.heap.size) (by omega) (fun h0 b o e => by have := ha0 h0 b o e; omega) 0 (.int .i64 2)
      replace TT := TT.setNewF (B := w.heap.size) (by omega) 0 (.int .i64 2)
      replace q0 := q0.set 1 (.int .i64 (i : Int))
      replace GA := GA.setFar (X := w.heap.size) (by omega) (by omega) 1 (.int .i64 (i : Int))
      replace qf := qf.setOther (B' := w.heap.size) (by omega) 1 (.int .i64 (i : Int))
      replace rd := rd.setNew (B := w.heap.size) (by omega) (fun h0 b o e => by have := ha0 h0 b o e; omega) 1 (.int .i64 (i : Int))
      replace TT := TT.setNewF (B := w.heap.size) (by omega) 1 (.int .i64 (i : Int))
      replace q0 := q0.set 2 (.int .i64 0)
      replace GA := GA.setFar (X := w.heap.size) (by omega) (by omega) 2 (.int .i64 0)
      replace qf := qf.setOther (B' := w.heap.size) (by omega) 2 (.int .i64 0)
      replace rd := rd.setNew (B := w.heap.size) (by omega) (fun h0 b o e => by have := ha0 h0 b o e; omega) 2 (.int .i64 0)
      replace TT := TT.setNewF (B := w.heap.size) (by omega) 2 (.int .i64 0)
      replace q0 := q0.set 3 (.slice (some ⟨BA, 0, none⟩) 3 3)
      replace GA := GA.setFar (X := w.heap.size) (by omega) (by omega) 3 (.slice (some ⟨BA, 0, none⟩) 3 3)
      replace qf := qf.setOther (B' := w.heap.size) (by omega) 3 (.slice (some ⟨BA, 0, none⟩) 3 3)
      replace rd := rd.setNew (B := w.heap.size) (by omega) (fun h0 b o e => by have := ha0 h0 b o e; omega) 3 (.slice (some ⟨BA, 0, none⟩) 3 3)
      replace TT := TT.setNewF (B := w.heap.size) (by omega) 3 (.slice (some ⟨BA, 0, none⟩) 3 3)
      replace q0 := q0.set 4 (.slice (some ⟨DA, 0, none⟩) 2 2)
      replace GA := GA.setFar (X := w.heap.size) (by omega) (by omega) 4 (.slice (some ⟨DA, 0, none⟩) 2 2)
      replace qf := qf.setOther (B' := w.heap.size) (by omega) 4 (.slice (some ⟨DA, 0, none⟩) 2 2)
      replace rd := rd.setNew (B := w.heap.size) (by omega) (fun h0 b o e => by have := ha0 h0 b o e; omega) 4 (.slice (some ⟨DA, 0, none⟩) 2 2)
      replace TT := TT.setNewF (B := w.heap.size) (by omega) 4 (.slice (some ⟨DA, 0, none⟩) 2 2)
      replace q0 := q0.set 5 (.int .i64 KA)
      replace GA := GA.setFar (X := w.heap.size) (by omega) (by omega) 5 (.int .i64 KA)
      replace qf := qf.setOther (B' := w.heap.size) (by omega) 5 (.int .i64 KA)
      replace rd := rd.setNew (B := w.heap.size) (by omega) (fun h0 b o e => by have := ha0 h0 b o e; omega) 5 (.int .i64 KA)
      replace TT := TT.setNewF (B := w.heap.size) (by omega) 5 (.int .i64 KA)
      obtain ⟨W9, hW9⟩ : ∃ W, W = ((((((w8.setCell ⟨w.heap.size, 0, none⟩ (.int .i64 2)).setCell ⟨w.heap.size, 1, none⟩ (.int .i64 (i : Int))).setCell ⟨w.heap.size, 2, none⟩ (.int .i64 0)).setCell ⟨w.heap.size, 3, none⟩ (.slice (some ⟨BA, 0, none⟩) 3 3)).setCell ⟨w.heap.size, 4, none⟩ (.slice (some ⟨DA, 0, none⟩) 2 2)).setCell ⟨w.heap.size, 5, none⟩ (.int .i64 KA)) := ⟨_, rfl⟩
      rw [← hW9]
      rw [← hW9] at TT rd q0 GA qf
      clear hW9
      clear hSS
      have hSS : (fun X : World => X.cell? ⟨XF, 0, none⟩ = some (.slice (some ⟨BA, 0, none⟩) 3 3) ∧ X.cell? ⟨XF, 1, none⟩ = some (.slice (some ⟨DA, 0, none⟩) 2 2) ∧ X.cell? ⟨XF, 2, none⟩ = some (.int .i64 KA)) W9 ∧ True := ⟨⟨qf.cell 0, qf.cell 1, qf.cell 2⟩, trivial⟩
      refine hK.out _ _ ⟨hSS.1, fun _ => trivial⟩ ?_
      clear hK
      refine wpAnyE_done (by kernel_rfl) ?_ _
      clear hSS
      go_wp2
      have hws := TT.size
      have u0 : W9.cell? ⟨w.heap.size, 0, none⟩ = some (.int .i64 2) := q0.cell 0
      have u1 : W9.cell? ⟨w.heap.size, 1, none⟩ = some (.int .i64 (i : Int)) := q0.cell 1
      have u2 : W9.cell? ⟨w.heap.size, 2, none⟩ = some (.int .i64 0) := q0.cell 2
      have u3 : W9.cell? ⟨w.heap.size, 3, none⟩ = some (.slice (some ⟨BA, 0, none⟩) 3 3) := q0.cell 3
      have u4 : W9.cell? ⟨w.heap.size, 4, none⟩ = some (.slice (some ⟨DA, 0, none⟩) 2 2) := q0.cell 4
      have u5 : W9.cell? ⟨w.heap.size, 5, none⟩ = some (.int .i64 KA) := q0.cell 5
      refine bodyPost_ret (v := lnV ⟨2, (i : Int), 0, ⟨some ⟨BA, 0, none⟩, 3, 3, some ⟨DA, 0, none⟩, 2, 2, KA, LCA, LDA⟩⟩) (by simp [results, Tryd.results112, go_sem, u0, u1, u2, u3, u4, u5]) rfl ⟨⟨2, (i : Int), 0, ⟨some ⟨BA, 0, none⟩, 3, 3, some ⟨DA, 0, none⟩, 2, 2, KA, LCA, LDA⟩⟩, _, rfl, ⟨TT, rd, ⟨GA.C, GA.D, by simp only []; omega, by simp only []; omega⟩, fun b o e => by simp only [Option.some.injEq, Addr.mk.injEq] at e; have hb := GA.C.blk (by omega); omega, fun b o e => by simp only [Option.some.injEq, Addr.mk.injEq] at e; have hb := GA.D.blk (by omega); omega, lok2 (pot := (i : Int)) (small_of sCA sDA sKA1 sKA2) (by omega) (by omega), by omega, by omega⟩⟩
    · have hk' : (0 : Int) < (k : Int) := by omega
      have gqf_0 := qf.cell 0
      have gqf_1 := qf.cell 1
      have gqf_2 := qf.cell 2
      simp only [List.getElem?_cons_zero, List.getElem?_cons_succ] at gqf_0 gqf_1 gqf_2
      have fqf_0 := qf.free 0
      have fqf_1 := qf.free 1
      have fqf_2 := qf.free 2
      have lqf := qf.lt
      go_upto_region 11 with fail
      clear gqf_0 gqf_1 gqf_2 fqf_0 fqf_1 fqf_2 lqf
      have hwz := TT.size
      have ltF := qf.lt
      obtain ⟨BM, hBM⟩ : ∃ x, x = w6.heap.size := ⟨_, rfl⟩
      rw [← hBM]
      rw [← hBM] at hwz ltF
      have nXM : BM ≠ XF := by omega
      have nRM : BM ≠ R := by omega
      replace q0 := q0.setOther (B' := XF) (by omega) 0 (.slice (some ⟨BM, 0, none⟩) 3 3)
      replace GA := GA.setFar (X := XF) (by omega) (by omega) 0 (.slice (some ⟨BM, 0, none⟩) 3 3)
      replace qf := qf.set 0 (.slice (some ⟨BM, 0, none⟩) 3 3)
      replace rd := rd.setNew (B := XF) (by omega) (fun h0 b o e => by have := ha0 h0 b o e; omega) 0 (.slice (some ⟨BM, 0, none⟩) 3 3)
      replace TT := TT.setNewF (B := XF) (by omega) 0 (.slice (some ⟨BM, 0, none⟩) 3 3)
      have al := (Below.refl (w6.setCell ⟨XF, 0, none⟩ (.slice (some ⟨BM, 0, none⟩) 3 3)).heap.size (w6.setCell ⟨XF, 0, none⟩ (.slice (some ⟨BM, 0, none⟩) 3 3))).alloc (Nat.le_refl _) (.cells #[.int .i64 0, .int .i64 0, .int .i64 0] 3)
      have kz : Blk ((w6.setCell ⟨XF, 0, none⟩ (.slice (some ⟨BM, 0, none⟩) 3 3)).alloc (.cells #[.int .i64 0, .int .i64 0, .int .i64 0] 3)) (w6.setCell ⟨XF, 0, none⟩ (.slice (some ⟨BM, 0, none⟩) 3 3)).heap.size [0, 0, 0] := heap_alloc_new (w6.setCell ⟨XF, 0, none⟩ (.slice (some ⟨BM, 0, none⟩) 3 3)) _
      rw [show (w6.setCell ⟨XF, 0, none⟩ (.slice (some ⟨BM, 0, none⟩) 3 3)).heap.size = BM from by rw [size_setCell]; exact hBM.symm] at kz
      clear hBM
      replace q0 := q0.below al
      replace GA := GA.below al
      replace qf := qf.below al
      replace TT := TT.trans (Touch.of al)
      replace rd := rd.below al
      clear al
      have hzl := kz.lt
      have GM : FA ((w6.setCell ⟨XF, 0, none⟩ (.slice (some ⟨BM, 0, none⟩) 3 3)).alloc (.cells #[.int .i64 0, .int .i64 0, .int .i64 0] 3)) (some ⟨BM, 0, none⟩) 3 (some ⟨DA, 0, none⟩) 2 ([0, 0, 0], LDA, KA) := ⟨kz.ints' rfl, GA.D, by omega, by omega⟩
      clear kz GA
      have zM1 : w.heap.size ≤ BM := hwz
      have zM2 := zA2
      have hBMw : w.heap.size < BM := by omega
      obtain ⟨W7, hW7⟩ : ∃ W, W = ((w6.setCell ⟨XF, 0, none⟩ (.slice (some ⟨BM, 0, none⟩) 3 3)).alloc (.cells #[.int .i64 0, .int .i64 0, .int .i64 0] 3)) := ⟨_, rfl⟩
      rw [← hW7]
      rw [← hW7] at TT rd q0 qf GM
      clear hW7
      refine wp_region_ends (fun X => X.cell? ⟨XF, 0, none⟩ = some (.slice (some ⟨BM, 0, none⟩) 3 3) ∧ X.cell? ⟨XF, 1, none⟩ = some (.slice (some ⟨DA, 0, none⟩) 2 2) ∧ X.cell? ⟨XF, 2, none⟩ = some (.int .i64 KA)) (fun _ => True) 5 (by kernel_rfl) ?_
      have dr : Below W7.heap.size W7 W7.drew := (Below.refl _ _).drew
      replace q0 := q0.below dr
      replace qf := qf.below dr
      replace GM := GM.below dr
      replace TT := TT.trans (Touch.of dr)
      replace rd := rd.below dr
      clear dr
      obtain ⟨V8, hV8⟩ : ∃ W, W = W7.drew := ⟨_, rfl⟩
      rw [← hV8]
      rw [← hV8] at TT rd q0 qf GM
      clear hV8
      have hSS : (fun X : World => X.cell? ⟨XF, 0, none⟩ = some (.slice (some ⟨BM, 0, none⟩) 3 3) ∧ X.cell? ⟨XF, 1, none⟩ = some (.slice (some ⟨DA, 0, none⟩) 2 2) ∧ X.cell? ⟨XF, 2, none⟩ = some (.int .i64 KA)) V8 ∧ True := ⟨⟨qf.cell 0, qf.cell 1, qf.cell 2⟩, trivial⟩
      refine tkL (i := 0) rfl hSS ?_
      refine tkL (i := 2) rfl hSS ?_
      refine wpAnyE_one (i := 1) (by kernel_rfl) rfl (fun Kn hK => ?_)
      go_simp
      refine (pick_any R a n cap bs (p + 1 + 6 + 1) 3 _ rd (by omega) (by omega) (by omega) (by omega)).mono ?_
      rintro e w9 ⟨ri, hi0, hi1, rfl, t5, R5⟩
      obtain ⟨i, rfl⟩ := Int.eq_ofNat_of_zero_le hi0
      clear hi0
      replace q0 := q0.touch t5 nq0
      replace qf := qf.touch t5 nqf
      replace GM := GM.far t5 (lo := w.heap.size) (fun k hk => by omega) zM1 zM2
      replace TT := TT.trans t5
      replace rd := R5
      clear t5 R5
      dsimp only
      clear hSS
      have hSS : (fun X : World => X.cell? ⟨XF, 0, none⟩ = some (.slice (some ⟨BM, 0, none⟩) 3 3) ∧ X.cell? ⟨XF, 1, none⟩ = some (.slice (some ⟨DA, 0, none⟩) 2 2) ∧ X.cell? ⟨XF, 2, none⟩ = some (.int .i64 KA)) w9 ∧ True := ⟨⟨qf.cell 0, qf.cell 1, qf.cell 2⟩, trivial⟩
      refine hK.out _ _ ⟨hSS.1, fun _ => trivial⟩ ?_
      clear hK
      refine tkL (i := 3) rfl hSS ?_
      refine wpAnyE_one (i := 4) (by kernel_rfl) rfl (fun Kn hK => ?_)
      have gq0_0 := q0.cell 0
      have gq0_1 := q0.cell 1
      have gq0_2 := q0.cell 2
      have gq0_3 := q0.cell 3
      have gq0_4 := q0.cell 4
      have gq0_5 := q0.cell 5
      simp only [List.getElem?_cons_zero, List.getElem?_cons_succ] at gq0_0 gq0_1 gq0_2 gq0_3 gq0_4 gq0_5
      have fq0_0 := q0.free 0
      have fq0_1 := q0.free 1
      have fq0_2 := q0.free 2
      have fq0_3 := q0.free 3
      have fq0_4 := q0.free 4
      have fq0_5 := q0.free 5
      have lq0 := q0.lt
      go_simp
      clear gq0_0 gq0_1 gq0_2 gq0_3 gq0_4 gq0_5 fq0_0 fq0_1 fq0_2 fq0_3 fq0_4 fq0_5 lq0
      have hwt2 := TT.size
      have hlq2 := q0.lt
      replace q0 := q0.set 0 (.int .i64 2)
      replace qf := qf.setOther (B' := w.heap.size) (by omega) 0 (.int .i64 2)
      replace GM := GM.setFar (X := w.heap.size) (by omega) (by omega) 0 (.int .i64 2)
      replace rd := rd.setNew (B := w.heap.size) (by omega) (fun h0 b o e => by have := ha0 h0 b o e; omega) 0 (.int .i64 2)
      replace TT := TT.setNewF (B := w.heap.size) (by omega) 0 (.int .i64 2)
      replace q0 := q0.set 1 (.int .i64 (i : Int))
      replace qf := qf.setOther (B' := w.heap.size) (by omega) 1 (.int .i64 (i : Int))
      replace GM := GM.setFar (X := w.heap.size) (by omega) (by omega) 1 (.int .i64 (i : Int))
      replace rd := rd.setNew (B := w.heap.size) (by omega) (fun h0 b o e => by have := ha0 h0 b o e; omega) 1 (.int .i64 (i : Int))
      replace TT := TT.setNewF (B := w.heap.size) (by omega) 1 (.int .i64 (i : Int))
      replace q0 := q0.set 2 (.int .i64 0)
      replace qf := qf.setOther (B' := w.heap.size) (by omega) 2 (.int .i64 0)
      replace GM := GM.setFar (X := w.heap.size) (by omega) (by omega) 2 (.int .i64 0)
      replace rd := rd.setNew (B := w.heap.size) (by omega) (fun h0 b o e => by have := ha0 h0 b o e; omega) 2 (.int .i64 0)
      replace TT := TT.setNewF (B := w.heap.size) (by omega) 2 (.int .i64 0)
      replace q0 := q0.set 3 (.slice (some ⟨BM, 0, none⟩) 3 3)
      replace qf := qf.setOther (B' := w.heap.size) (by omega) 3 (.slice (some ⟨BM, 0, none⟩) 3 3)
      replace GM := GM.setFar (X := w.heap.size) (by omega) (by omega) 3 (.slice (some ⟨BM, 0, none⟩) 3 3)
      replace rd := rd.setNew (B := w.heap.size) (by omega) (fun h0 b o e => by have := ha0 h0 b o e; omega) 3 (.slice (some ⟨BM, 0, none⟩) 3 3)
      replace TT := TT.setNewF (B := w.heap.size) (by omega) 3 (.slice (some ⟨BM, 0, none⟩) 3 3)
      replace q0 := q0.set 4 (.slice (some ⟨DA, 0, none⟩) 2 2)
      replace qf := qf.setOther (B' := w.heap.size) (by omega) 4 (.slice (some ⟨DA, 0, none⟩) 2 2)
      replace GM := GM.setFar (X := w.heap.size) (by omega) (by omega) 4 (.slice (some ⟨DA, 0, none⟩) 2 2)
      replace rd := rd.setNew (B := w.heap.size) (by omega) (fun h0 b o e => by have := ha0 h0 b o e; omega) 4 (.slice (some ⟨DA, 0, none⟩) 2 2)
      replace TT := TT.setNewF (B := w.heap.size) (by omega) 4 (.slice (some ⟨DA, 0, none⟩) 2 2)
      replace q0 := q0.set 5 (.int .i64 KA)
      replace qf := qf.setOther (B' := w.heap.size) (by omega) 5 (.int .i64 KA)
      replace GM := GM.setFar (X := w.heap.size) (by omega) (by omega) 5 (.int .i64 KA)
      replace rd := rd.setNew (B := w.heap.size) (by omega) (fun h0 b o e => by have := ha0 h0 b o e; omega) 5 (.int .i64 KA)
      replace TT := TT.setNewF (B := w.heap.size) (by omega) 5 (.int .i64 KA)
      obtain ⟨W10, hW10⟩ : ∃ W, W = ((((((w9.setCell ⟨w.heap.size, 0, none⟩ (.int .i64 2)).setCell ⟨w.heap.size, 1, none⟩ (.int .i64 (i : Int))).setCell ⟨w.heap.size, 2, none⟩ (.int .i64 0)).setCell ⟨w.heap.size, 3, none⟩ (.slice (some ⟨BM, 0, none⟩) 3 3)).setCell ⟨w.heap.size, 4, none⟩ (.slice (some ⟨DA, 0, none⟩) 2 2)).setCell ⟨w.heap.size, 5, none⟩ (.int .i64 KA)) := ⟨_, rfl⟩
      rw [← hW10]
      rw [← hW10] at TT rd q0 qf GM
      clear hW10
      clear hSS
      have hSS : (fun X : World => X.cell? ⟨XF, 0, none⟩ = some (.slice (some ⟨BM, 0, none⟩) 3 3) ∧ X.cell? ⟨XF, 1, none⟩ = some (.slice (some ⟨DA, 0, none⟩) 2 2) ∧ X.cell? ⟨XF, 2, none⟩ = some (.int .i64 KA)) W10 ∧ True := ⟨⟨qf.cell 0, qf.cell 1, qf.cell 2⟩, trivial⟩
      refine hK.out _ _ ⟨hSS.1, fun _ => trivial⟩ ?_
      clear hK
      refine wpAnyE_done (by kernel_rfl) ?_ _
      clear hSS
      go_wp2
      have hws := TT.size
      have u0 : W10.cell? ⟨w.heap.size, 0, none⟩ = some (.int .i64 2) := q0.cell 0
      have u1 : W10.cell? ⟨w.heap.size, 1, none⟩ = some (.int .i64 (i : Int)) := q0.cell 1
      have u2 : W10.cell? ⟨w.heap.size, 2, none⟩ = some (.int .i64 0) := q0.cell 2
      have u3 : W10.cell? ⟨w.heap.size, 3, none⟩ = some (.slice (some ⟨BM, 0, none⟩) 3 3) := q0.cell 3
      have u4 : W10.cell? ⟨w.heap.size, 4, none⟩ = some (.slice (some ⟨DA, 0, none⟩) 2 2) := q0.cell 4
      have u5 : W10.cell? ⟨w.heap.size, 5, none⟩ = some (.int .i64 KA) := q0.cell 5
      refine bodyPost_ret (v := lnV ⟨2, (i : Int), 0, ⟨some ⟨BM, 0, none⟩, 3, 3, some ⟨DA, 0, none⟩, 2, 2, KA, [0, 0, 0], LDA⟩⟩) (by simp [results, Tryd.results112, go_sem, u0, u1, u2, u3, u4, u5]) rfl ⟨⟨2, (i : Int), 0, ⟨some ⟨BM, 0, none⟩, 3, 3, some ⟨DA, 0, none⟩, 2, 2, KA, [0, 0, 0], LDA⟩⟩, _, rfl, ⟨TT, rd, ⟨GM.C, GM.D, by simp only []; omega, by simp only []; omega⟩, fun b o e => by simp only [Option.some.injEq, Addr.mk.injEq] at e; have hb := GM.C.blk (by omega); omega, fun b o e => by simp only [Option.some.injEq, Addr.mk.injEq] at e; have hb := GM.D.blk (by omega); omega, lok2 (pot := (i : Int)) (small_of (fun i => by rcases i with _ | _ | _ | i <;> simp) sDA sKA1 sKA2) (by omega) (by omega), by omega, by omega⟩⟩
  · go_wp2_with fail
    have xA := q0.lt
    refine (small_f R a n cap bs (p + 1) _ rd (by omega) (by omega) rd.ha).mono ?_
    rintro e w4 ⟨BA, DA, LCA, LDA, KA, rfl, t5, R5, f5, sCA, sDA, sKA1, sKA2⟩
    have zA1 : w.heap.size ≤ BA := Nat.le_trans TT.size f5.b1
    have zA2 : w.heap.size ≤ DA := Nat.le_trans TT.size f5.b2
    have lCA := f5.l1
    have lDA := f5.l2
    have GA : FA w4 (some ⟨BA, 0, none⟩) 3 (some ⟨DA, 0, none⟩) 2 (LCA, LDA, KA) := ⟨f5.k1.ints' f5.l1, f5.k2.ints' f5.l2, by omega, by omega⟩
    have ltCA := f5.k1.lt
    have ltDA := f5.k2.lt
    have nCDA := f5.ne
    have yA1 := f5.b1
    have yA2 := f5.b2
    clear f5
    replace q0 := q0.touch t5 nq0
    replace TT := TT.trans t5
    replace rd := R5
    clear t5 R5
    have hwt := TT.size
    have hlq := q0.lt
    have al := (Below.refl w4.heap.size w4).alloc (Nat.le_refl _) (.cells #[.slice (some ⟨BA, 0, none⟩) 3 3, .slice (some ⟨DA, 0, none⟩) 2 2, .int .i64 KA] 25)
    have qf := Cel.new w4 [.slice (some ⟨BA, 0, none⟩) 3 3, .slice (some ⟨DA, 0, none⟩) 2 2, .int .i64 KA] 25
    replace q0 := q0.below al
    replace GA := GA.below al
    replace TT := TT.trans (Touch.of al)
    replace rd := rd.below al
    clear al
    go_wp2_with fail
    obtain ⟨W5, hW5⟩ : ∃ W, W = (w4.alloc (.cells #[.slice (some ⟨BA, 0, none⟩) 3 3, .slice (some ⟨DA, 0, none⟩) 2 2, .int .i64 KA] 25)) := ⟨_, rfl⟩
    rw [← hW5]
    rw [← hW5] at TT rd q0 GA qf
    clear hW5
    obtain ⟨XF, hXF⟩ : ∃ x, x = w4.heap.size := ⟨_, rfl⟩
    rw [← hXF]
    rw [← hXF] at qf hwt
    have nqf : XF ≠ R := by omega
    have hXw : w.heap.size < XF := by omega
    have nXB : BA ≠ XF := by omega
    have nXD : DA ≠ XF := by omega
    clear hXF
    refine (pick_any R a n cap bs (p + 1 + 6) 3 _ rd (by omega) (by omega) (by omega) (by omega)).mono ?_
    rintro e w6 ⟨rk, hk0, hk1, rfl, t5, R5⟩
    obtain ⟨k, rfl⟩ := Int.eq_ofNat_of_zero_le hk0
    clear hk0
    replace q0 := q0.touch t5 nq0
    replace GA := GA.far t5 (lo := w.heap.size) (fun k hk => by omega) zA1 zA2
    replace qf := qf.touch t5 nqf
    replace TT := TT.trans t5
    replace rd := R5
    clear t5 R5
    by_cases hk : (k : Int) = 0
    · have hk' : ¬ (0 : Int) < (k : Int) := by omega
      go_upto_region 11 with fail
      refine wp_region_ends (fun X => X.cell? ⟨XF, 0, none⟩ = some (.slice (some ⟨BA, 0, none⟩) 3 3) ∧ X.cell? ⟨XF, 1, none⟩ = some (.slice (some ⟨DA, 0, none⟩) 2 2) ∧ X.cell? ⟨XF, 2, none⟩ = some (.int .i64 KA)) (fun _ => True) 5 (by kernel_rfl) ?_
      have dr : Below w6.heap.size w6 w6.drew := (Below.refl _ _).drew
      replace q0 := q0.below dr
      replace GA := GA.below dr
      replace qf := qf.below dr
      replace TT := TT.trans (Touch.of dr)
      replace rd := rd.below dr
      clear dr
      obtain ⟨V7, hV7⟩ : ∃ W, W = w6.drew := ⟨_, rfl⟩
      rw [← hV7]
      rw [← hV7] at TT rd q0 GA qf
      clear hV7
      have hSS : (fun X : World => X.cell? ⟨XF, 0, none⟩ = some (.slice (some ⟨BA, 0, none⟩) 3 3) ∧ X.cell? ⟨XF, 1, none⟩ = some (.slice (some ⟨DA, 0, none⟩) 2 2) ∧ X.cell? ⟨XF, 2, none⟩ = some (.int .i64 KA)) V7 ∧ True := ⟨⟨qf.cell 0, qf.cell 1, qf.cell 2⟩, trivial⟩
      refine tkL (i := 0) rfl hSS ?_
      refine tkL (i := 2) rfl hSS ?_
      refine wpAnyE_one (i := 1) (by kernel_rfl) rfl (fun Kn hK => ?_)
      go_simp
      refine (pick_any R a n cap bs (p + 1 + 6 + 1) 3 _ rd (by omega) (by omega) (by omega) (by omega)).mono ?_
      rintro e w8 ⟨ri, hi0, hi1, rfl, t5, R5⟩
      obtain ⟨i, rfl⟩ := Int.eq_ofNat_of_zero_le hi0
      clear hi0
      replace q0 := q0.touch t5 nq0
      replace GA := GA.far t5 (lo := w.heap.size) (fun k hk => by omega) zA1 zA2
      replace qf := qf.touch t5 nqf
      replace TT := TT.trans t5
      replace rd := R5
      clear t5 R5
      dsimp only
      clear hSS
      have hSS : (fun X : World => X.cell? ⟨XF, 0, none⟩ = some (.slice (some ⟨BA, 0, none⟩) 3 3) ∧ X.cell? ⟨XF, 1, none⟩ = some (.slice (some ⟨DA, 0, none⟩) 2 2) ∧ X.cell? ⟨XF, 2, none⟩ = some (.int .i64 KA)) w8 ∧ True := ⟨⟨qf.cell 0, qf.cell 1, qf.cell 2⟩, trivial⟩
      refine hK.out _ _ ⟨hSS.1, fun _ => trivial⟩ ?_
      clear hK
      refine tkL (i := 3) rfl hSS ?_
      refine wpAnyE_one (i := 4) (by kernel_rfl) rfl (fun Kn hK => ?_)
      have gq0_0 := q0.cell 0
      have gq0_1 := q0.cell 1
      have gq0_2 := q0.cell 2
      have gq0_3 := q0.cell 3
      have gq0_4 := q0.cell 4
      have gq0_5 := q0.cell 5
      simp only [List.getElem?_cons_zero, List.getElem?_cons_succ] at gq0_0 gq0_1 gq0_2 gq0_3 gq0_4 gq0_5
      have fq0_0 := q0.free 0
      have fq0_1 := q0.free 1
      have fq0_2 := q0.free 2
      have fq0_3 := q0.free 3
      have fq0_4 := q0.free 4
      have fq0_5 := q0.free 5
      have lq0 := q0.lt
      go_simp
      clear gq0_0 gq0_1 gq0_2 gq0_3 gq0_4 gq0_5 fq0_0 fq0_1 fq0_2 fq0_3 fq0_4 fq0_5 lq0
      have hwt2 := TT.size
      have hlq2 := q0.lt
      replace q0 := q0.set 0 (.int .i64 2)
      replace GA := GA.setFar (X := w.heap.size) (by omega) (by omega) 0 (.int .i64 2)
      replace qf := qf.setOther (B' := w.heap.size) (by omega) 0 (.int .i64 2)
      replace rd := rd.setNew (B := w.heap.size) (by omega) (fun h0 b o e => by have := ha0 h0 b o e; omega) 0 (.int .i64 2)
      replace TT := TT.setNewF (B := w.heap.size) (by omega) 0 (.int .i64 2)
      replace q0 := q0.set 1 (.int .i64 (i : Int))
      replace GA := GA.setFar (X := w.heap.size) (by omega) (by omega) 1 (.int .i64 (i : Int))
      replace qf := qf.setOther (B' := w.heap.size) (by omega) 1 (.int .i64 (i : Int))
      replace rd := rd.setNew (B := w.heap.size) (by omega) (fun h0 b o e => by have := ha0 h0 b o e; omega) 1 (.int .i64 (i : Int))
      replace TT := TT.setNewF (B := w.heap.size) (by omega) 1 (.int .i64 (i : Int))
      replace q0 := q0.set 2 (.int .i64 0)
      replace GA := GA.setFar (X := w.heap.size) (by omega) (by omega) 2 (.int .i64 0)
      replace qf := qf.setOther (B' := w.heap.size) (by omega) 2 (.int .i64 0)
      replace rd := rd.setNew (B := w.heap.size) (by omega) (fun h0 b o e => by have := ha0 h0 b o e; omega) 2 (.int .i64 0)
      replace TT := TT.setNewF (B := w.heap.size) (by omega) 2 (.int .i64 0)
      replace q0 := q0.set 3 (.slice (some ⟨BA, 0, none⟩) 3 3)
      replace GA := GA.setFar (X := w.heap.size) (by omega) (by omega) 3 (.slice (some ⟨BA, 0, none⟩) 3 3)
      replace qf := qf.setOther (B' := w.heap.size) (by omega) 3 (.slice (some ⟨BA, 0, none⟩) 3 3)
      replace rd := rd.setNew (B := w.heap.size) (by omega) (fun h0 b o e => by have := ha0 h0 b o e; omega) 3 (.slice (some ⟨BA, 0, none⟩) 3 3)
      replace TT := TT.setNewF (B := w.heap.size) (by omega) 3 (.slice (some ⟨BA, 0, none⟩) 3 3)
      replace q0 := q0.set 4 (.slice (some ⟨DA, 0, none⟩) 2 2)
      replace GA := GA.setFar (X := w.heap.size) (by omega) (by omega) 4 (.slice (some ⟨DA, 0, none⟩) 2 2)
      replace qf := qf.setOther (B' := w.heap.size) (by omega) 4 (.slice (some ⟨DA, 0, none⟩) 2 2)
      replace rd := rd.setNew (B := w.heap.size) (by omega) (fun h0 b o e => by have := ha0 h0 b o e; omega) 4 (.slice (some ⟨DA, 0, none⟩) 2 2)
      replace TT := TT.setNewF (B := w.heap.size) (by omega) 4 (.slice (some ⟨DA, 0, none⟩) 2 2)
      replace q0 := q0.set 5 (.int .i64 KA)
      replace GA := GA.setFar (X := w.heap.size) (by omega) (by omega) 5 (.int .i64 KA)
      replace qf := qf.setOther (B' := w.heap.size) (by omega) 5 (.int .i64 KA)
      replace rd := rd.setNew (B := w.heap.size) (by omega) (fun h0 b o e => by have := ha0 h0 b o e; omega) 5 (.int .i64 KA)
      replace TT := TT.setNewF (B := w.heap.size) (by omega) 5 (.int .i64 KA)
      obtain ⟨W9, hW9⟩ : ∃ W, W = ((((((w8.setCell ⟨w.heap.size, 0, none⟩ (.int .i64 2)).setCell ⟨w.heap.size, 1, none⟩ (.int .i64 (i : Int))).setCell ⟨w.heap.size, 2, none⟩ (.int .i64 0)).setCell ⟨w.heap.size, 3, none⟩ (.slice (some ⟨BA, 0, none⟩) 3 3)).setCell ⟨w.heap.size, 4, none⟩ (.slice (some ⟨DA, 0, none⟩) 2 2)).setCell ⟨w.heap.size, 5, none⟩ (.int .i64 KA)) := ⟨_, rfl⟩
      rw [← hW9]
      rw [← hW9] at TT rd q0 GA qf
      clear hW9
      clear hSS
      have hSS : (fun X : World => X.cell? ⟨XF, 0, none⟩ = some (.slice (some ⟨BA, 0, none⟩) 3 3) ∧ X.cell? ⟨XF, 1, none⟩ = some (.slice (some ⟨DA, 0, none⟩) 2 2) ∧ X.cell? ⟨XF, 2, none⟩ = some (.int .i64 KA)) W9 ∧ True := ⟨⟨qf.cell 0, qf.cell 1, qf.cell 2⟩, trivial⟩
      refine hK.out _ _ ⟨hSS.1, fun _ => trivial⟩ ?_
      clear hK
      refine wpAnyE_done (by kernel_rfl) ?_ _
      clear hSS
      go_wp2
      have hws := TT.size
      have u0 : W9.cell? ⟨w.heap.size, 0, none⟩ = some (.int .i64 2) := q0.cell 0
      have u1 : W9.cell? ⟨w.heap.size, 1, none⟩ = some (.int .i64 (i : Int)) := q0.cell 1
      have u2 : W9.cell? ⟨w.heap.size, 2, none⟩ = some (.int .i64 0) := q0.cell 2
      have u3 : W9.cell? ⟨w.heap.size, 3, none⟩ = some (.slice (some ⟨BA, 0, none⟩) 3 3) := q0.cell 3
      have u4 : W9.cell? ⟨w.heap.size, 4, none⟩ = some (.slice (some ⟨DA, 0, none⟩) 2 2) := q0.cell 4
      have u5 : W9.cell? ⟨w.heap.size, 5, none⟩ = some (.int .i64 KA) := q0.cell 5
      refine bodyPost_ret (v := lnV ⟨2, (i : Int), 0, ⟨some ⟨BA, 0, none⟩, 3, 3, some ⟨DA, 0, none⟩, 2, 2, KA, LCA, LDA⟩⟩) (by simp [results, Tryd.results112, go_sem, u0, u1, u2, u3, u4, u5]) rfl ⟨⟨2, (i : Int), 0, ⟨some ⟨BA, 0, none⟩, 3, 3, some ⟨DA, 0, none⟩, 2, 2, KA, LCA, LDA⟩⟩, _, rfl, ⟨TT, rd, ⟨GA.C, GA.D, by simp only []; omega, by simp only []; omega⟩, fun b o e => by simp only [Option.some.injEq, Addr.mk.injEq] at e; have hb := GA.C.blk (by omega); omega, fun b o e => by simp only [Option.some.injEq, Addr.mk.injEq] at e; have hb := GA.D.blk (by omega); omega, lok2 (pot := (i : Int)) (small_of sCA sDA sKA1 sKA2) (by omega) (by omega), by omega, by omega⟩⟩
    · have hk' : (0 : Int) < (k : Int) := by omega
      have gqf_0 := qf.cell 0
      have gqf_1 := qf.cell 1
      have gqf_2 := qf.cell 2
      simp only [List.getElem?_cons_zero, List.getElem?_cons_succ] at gqf_0 gqf_1 gqf_2
      have fqf_0 := qf.free 0
      have fqf_1 := qf.free 1
      have fqf_2 := qf.free 2
      have lqf := qf.lt
      go_upto_region 11 with fail
      clear gqf_0 gqf_1 gqf_2 fqf_0 fqf_1 fqf_2 lqf
      have hwz := TT.size
      have ltF := qf.lt
      obtain ⟨BM, hBM⟩ : ∃ x, x = w6.heap.size := ⟨_, rfl⟩
      rw [← hBM]
      rw [← hBM] at hwz ltF
      have nXM : BM ≠ XF := by omega
      have nRM : BM ≠ R := by omega
      replace q0 := q0.setOther (B' := XF) (by omega) 0 (.slice (some ⟨BM, 0, none⟩) 3 3)
      replace GA := GA.setFar (X := XF) (by omega) (by omega) 0 (.slice (some ⟨BM, 0, none⟩) 3 3)
      replace qf := qf.set 0 (.slice (some ⟨BM, 0, none⟩) 3 3)
      replace rd := rd.setNew (B := XF) (by omega) (fun h0 b o e => by have := ha0 h0 b o e; omega) 0 (.slice (some ⟨BM, 0, none⟩) 3 3)
      replace TT := TT.setNewF (B := XF) (by omega) 0 (.slice (some ⟨BM, 0, none⟩) 3 3)
      have al := (Below.refl (w6.setCell ⟨XF, 0, none⟩ (.slice (some ⟨BM, 0, none⟩) 3 3)).heap.size (w6.setCell ⟨XF, 0, none⟩ (.slice (some ⟨BM, 0, none⟩) 3 3))).alloc (Nat.le_refl _) (.cells #[.int .i64 0, .int .i64 0, .int .i64 0] 3)
      have kz : Blk ((w6.setCell ⟨XF, 0, none⟩ (.slice (some ⟨BM, 0, none⟩) 3 3)).alloc (.cells #[.int .i64 0, .int .i64 0, .int .i64 0] 3)) (w6.setCell ⟨XF, 0, none⟩ (.slice (some ⟨BM, 0, none⟩) 3 3)).heap.size [0, 0, 0] := heap_alloc_new (w6.setCell ⟨XF, 0, none⟩ (.slice (some ⟨BM, 0, none⟩) 3 3)) _
      rw [show (w6.setCell ⟨XF, 0, none⟩ (.slice (some ⟨BM, 0, none⟩) 3 3)).heap.size = BM from by rw [size_setCell]; exact hBM.symm] at kz
      clear hBM
      replace q0 := q0.below al
      replace GA := GA.below al
      replace qf := qf.below al
      replace TT := TT.trans (Touch.of al)
      replace rd := rd.below al
      clear al
      have hzl := kz.lt
      have GM : FA ((w6.setCell ⟨XF, 0, none⟩ (.slice (some ⟨BM, 0, none⟩) 3 3)).alloc (.cells #[.int .i64 0, .int .i64 0, .int .i64 0] 3)) (some ⟨BM, 0, none⟩) 3 (some ⟨DA, 0, none⟩) 2 ([0, 0, 0], LDA, KA) := ⟨kz.ints' rfl, GA.D, by omega, by omega⟩
      clear kz GA
      have zM1 : w.heap.size ≤ BM := hwz
      have zM2 := zA2
      have hBMw : w.heap.size < BM := by omega
      obtain ⟨W7, hW7⟩ : ∃ W, W = ((w6.setCell ⟨XF, 0, none⟩ (.slice (some ⟨BM, 0, none⟩) 3 3)).alloc (.cells #[.int .i64 0, .int .i64 0, .int .i64 0] 3)) := ⟨_, rfl⟩
      rw [← hW7]
      rw [← hW7] at TT rd q0 qf GM
      clear hW7
      refine wp_region_ends (fun X => X.cell? ⟨XF, 0, none⟩ = some (.slice (some ⟨BM, 0, none⟩) 3 3) ∧ X.cell? ⟨XF, 1, none⟩ = some (.slice (some ⟨DA, 0, none⟩) 2 2) ∧ X.cell? ⟨XF, 2, none⟩ = some (.int .i64 KA)) (fun _ => True) 5 (by kernel_rfl) ?_
      have dr : Below W7.heap.size W7 W7.drew := (Below.refl _ _).drew
      replace q0 := q0.below dr
      replace qf := qf.below dr
      replace GM := GM.below dr
      replace TT := TT.trans (Touch.of dr)
      replace rd := rd.below dr
      clear dr
      obtain ⟨V8, hV8⟩ : ∃ W, W = W7.drew := ⟨_, rfl⟩
      rw [← hV8]
      rw [← hV8] at TT rd q0 qf GM
      clear hV8
      have hSS : (fun X : World => X.cell? ⟨XF, 0, none⟩ = some (.slice (some ⟨BM, 0, none⟩) 3 3) ∧ X.cell? ⟨XF, 1, none⟩ = some (.slice (some ⟨DA, 0, none⟩) 2 2) ∧ X.cell? ⟨XF, 2, none⟩ = some (.int .i64 KA)) V8 ∧ True := ⟨⟨qf.cell 0, qf.cell 1, qf.cell 2⟩, trivial⟩
      refine tkL (i := 0) rfl hSS ?_
      refine tkL (i := 2) rfl hSS ?_
      refine wpAnyE_one (i := 1) (by kernel_rfl) rfl (fun Kn hK => ?_)
      go_simp
      refine (pick_any R a n cap bs (p + 1 + 6 + 1) 3 _ rd (by omega) (by omega) (by omega) (by omega)).mono ?_
      rintro e w9 ⟨ri, hi0, hi1, rfl, t5, R5⟩
      obtain ⟨i, rfl⟩ := Int.eq_ofNat_of_zero_le hi0
      clear hi0
      replace q0 := q0.touch t5 nq0
      replace qf := qf.touch t5 nqf
      replace GM := GM.far t5 (lo := w.heap.size) (fun k hk => by omega) zM1 zM2
      replace TT := TT.trans t5
      replace rd := R5
      clear t5 R5
      dsimp only
      clear hSS
      have hSS : (fun X : World => X.cell? ⟨XF, 0, none⟩ = some (.slice (some ⟨BM, 0, none⟩) 3 3) ∧ X.cell? ⟨XF, 1, none⟩ = some (.slice (some ⟨DA, 0, none⟩) 2 2) ∧ X.cell? ⟨XF, 2, none⟩ = some (.int .i64 KA)) w9 ∧ True := ⟨⟨qf.cell 0, qf.cell 1, qf.cell 2⟩, trivial⟩
      refine hK.out _ _ ⟨hSS.1, fun _ => trivial⟩ ?_
      clear hK
      refine tkL (i := 3) rfl hSS ?_
      refine wpAnyE_one (i := 4) (by kernel_rfl) rfl (fun Kn hK => ?_)
      have gq0_0 := q0.cell 0
      have gq0_1 := q0.cell 1
      have gq0_2 := q0.cell 2
      have gq0_3 := q0.cell 3
      have gq0_4 := q0.cell 4
      have gq0_5 := q0.cell 5
      simp only [List.getElem?_cons_zero, List.getElem?_cons_succ] at gq0_0 gq0_1 gq0_2 gq0_3 gq0_4 gq0_5
      have fq0_0 := q0.free 0
      have fq0_1 := q0.free 1
      have fq0_2 := q0.free 2
      have fq0_3 := q0.free 3
      have fq0_4 := q0.free 4
      have fq0_5 := q0.free 5
      have lq0 := q0.lt
      go_simp
      clear gq0_0 gq0_1 gq0_2 gq0_3 gq0_4 gq0_5 fq0_0 fq0_1 fq0_2 fq0_3 fq0_4 fq0_5 lq0
      have hwt2 := TT.size
      have hlq2 := q0.lt
      replace q0 := q0.set 0 (.int .i64 2)
      replace qf := qf.setOther (B' := w.heap.size) (by omega) 0 (.int .i64 2)
      replace GM := GM.setFar (X := w.heap.size) (by omega) (by omega) 0 (.int .i64 2)
      replace rd := rd.setNew (B := w.heap.size) (by omega) (fun h0 b o e => by have := ha0 h0 b o e; omega) 0 (.int .i64 2)
      replace TT := TT.setNewF (B := w.heap.size) (by omega) 0 (.int .i64 2)
      replace q0 := q0.set 1 (.int .i64 (i : Int))
      replace qf := qf.setOther (B' := w.heap.size) (by omega) 1 (.int .i64 (i : Int))
      replace GM := GM.setFar (X := w.heap.size) (by omega) (by omega) 1 (.int .i64 (i : Int))
      replace rd := rd.setNew (B := w.heap.size) (by omega) (fun h0 b o e => by have := ha0 h0 b o e; omega) 1 (.int .i64 (i : Int))
      replace TT := TT.setNewF (B := w.heap.size) (by omega) 1 (.int .i64 (i : Int))
      replace q0 := q0.set 2 (.int .i64 0)
      replace qf := qf.setOther (B' := w.heap.size) (by omega) 2 (.int .i64 0)
      replace GM := GM.setFar (X := w.heap.size) (by omega) (by omega) 2 (.int .i64 0)
      replace rd := rd.setNew (B := w.heap.size) (by omega) (fun h0 b o e => by have := ha0 h0 b o e; omega) 2 (.int .i64 0)
      replace TT := TT.setNewF (B := w.heap.size) (by omega) 2 (.int .i64 0)
      replace q0 := q0.set 3 (.slice (some ⟨BM, 0, none⟩) 3 3)
      replace qf := qf.setOther (B' := w.heap.size) (by omega) 3 (.slice (some ⟨BM, 0, none⟩) 3 3)
      replace GM := GM.setFar (X := w.heap.size) (by omega) (by omega) 3 (.slice (some ⟨BM, 0, none⟩) 3 3)
      replace rd := rd.setNew (B := w.heap.size) (by omega) (fun h0 b o e => by have := ha0 h0 b o e; omega) 3 (.slice (some ⟨BM, 0, none⟩) 3 3)
      replace TT := TT.setNewF (B := w.heap.size) (by omega) 3 (.slice (some ⟨BM, 0, none⟩) 3 3)
      replace q0 := q0.set 4 (.slice (some ⟨DA, 0, none⟩) 2 2)
      replace qf := qf.setOther (B' := w.heap.size) (by omega) 4 (.slice (some ⟨DA, 0, none⟩) 2 2)
      replace GM := GM.setFar (X := w.heap.size) (by omega) (by omega) 4 (.slice (some ⟨DA, 0, none⟩) 2 2)
      replace rd := rd.setNew (B := w.heap.size) (by omega) (fun h0 b o e => by have := ha0 h0 b o e; omega) 4 (.slice (some ⟨DA, 0, none⟩) 2 2)
      replace TT := TT.setNewF (B := w.heap.size) (by omega) 4 (.slice (some ⟨DA, 0, none⟩) 2 2)
      replace q0 := q0.set 5 (.int .i64 KA)
      replace qf := qf.setOther (B' := w.heap.size) (by omega) 5 (.int .i64 KA)
      replace GM := GM.setFar (X := w.heap.size) (by omega) (by omega) 5 (.int .i64 KA)
      replace rd := rd.setNew (B := w.heap.size) (by omega) (fun h0 b o e => by have := ha0 h0 b o e; omega) 5 (.int .i64 KA)
      replace TT := TT.setNewF (B := w.heap.size) (by omega) 5 (.int .i64 KA)
      obtain ⟨W10, hW10⟩ : ∃ W, W = ((((((w9.setCell ⟨w.heap.size, 0, none⟩ (.int .i64 2)).setCell ⟨w.heap.size, 1, none⟩ (.int .i64 (i : Int))).setCell ⟨w.heap.size, 2, none⟩ (.int .i64 0)).setCell ⟨w.heap.size, 3, none⟩ (.slice (some ⟨BM, 0, none⟩) 3 3)).setCell ⟨w.heap.size, 4, none⟩ (.slice (some ⟨DA, 0, none⟩) 2 2)).setCell ⟨w.heap.size, 5, none⟩ (.int .i64 KA)) := ⟨_, rfl⟩
      rw [← hW10]
      rw [← hW10] at TT rd q0 qf GM
      clear hW10
      clear hSS
      have hSS : (fun X : World => X.cell? ⟨XF, 0, none⟩ = some (.slice (some ⟨BM, 0, none⟩) 3 3) ∧ X.cell? ⟨XF, 1, none⟩ = some (.slice (some ⟨DA, 0, none⟩) 2 2) ∧ X.cell? ⟨XF, 2, none⟩ = some (.int .i64 KA)) W10 ∧ True := ⟨⟨qf.cell 0, qf.cell 1, qf.cell 2⟩, trivial⟩
      refine hK.out _ _ ⟨hSS.1, fun _ => trivial⟩ ?_
      clear hK
      refine wpAnyE_done (by kernel_rfl) ?_ _
      clear hSS
      go_wp2
      have hws := TT.size
      have u0 : W10.cell? ⟨w.heap.size, 0, none⟩ = some (.int .i64 2) := q0.cell 0
      have u1 : W10.cell? ⟨w.heap.size, 1, none⟩ = some (.int .i64 (i : Int)) := q0.cell 1
      have u2 : W10.cell? ⟨w.heap.size, 2, none⟩ = some (.int .i64 0) := q0.cell 2
      have u3 : W10.cell? ⟨w.heap.size, 3, none⟩ = some (.slice (some ⟨BM, 0, none⟩) 3 3) := q0.cell 3
      have u4 : W10.cell? ⟨w.heap.size, 4, none⟩ = some (.slice (some ⟨DA, 0, none⟩) 2 2) := q0.cell 4
      have u5 : W10.cell? ⟨w.heap.size, 5, none⟩ = some (.int .i64 KA) := q0.cell 5
      refine bodyPost_ret (v := lnV ⟨2, (i : Int), 0, ⟨some ⟨BM, 0, none⟩, 3, 3, some ⟨DA, 0, none⟩, 2, 2, KA, [0, 0, 0], LDA⟩⟩) (by simp [results, Tryd.results112, go_sem, u0, u1, u2, u3, u4, u5]) rfl ⟨⟨2, (i : Int), 0, ⟨some ⟨BM, 0, none⟩, 3, 3, some ⟨DA, 0, none⟩, 2, 2, KA, [0, 0, 0], LDA⟩⟩, _, rfl, ⟨TT, rd, ⟨GM.C, GM.D, by simp only []; omega, by simp only []; omega⟩, fun b o e => by simp only [Option.some.injEq, Addr.mk.injEq] at e; have hb := GM.C.blk (by omega); omega, fun b o e => by simp only [Option.some.injEq, Addr.mk.injEq] at e; have hb := GM.D.blk (by omega); omega, lok2 (pot := (i : Int)) (small_of (fun i => by rcases i with _ | _ | _ | i <;> simp) sDA sKA1 sKA2) (by omega) (by omega), by omega, by omega⟩⟩
  · go_wp2_with fail
    have xA := q0.lt
    refine (small_f R a n cap bs (p + 1) _ rd (by omega) (by omega) rd.ha).mono ?_
    rintro e w4 ⟨BA, DA, LCA, LDA, KA, rfl, t5, R5, f5, sCA, sDA, sKA1, sKA2⟩
    have zA1 : w.heap.size ≤ BA := Nat.le_trans TT.size f5.b1
    have zA2 : w.heap.size ≤ DA := Nat.le_trans TT.size f5.b2
    have lCA := f5.l1
    have lDA := f5.l2
    have GA : FA w4 (some ⟨BA, 0, none⟩) 3 (some ⟨DA, 0, none⟩) 2 (LCA, LDA, KA) := ⟨f5.k1.ints' f5.l1, f5.k2.ints' f5.l2, by omega, by omega⟩
    have ltCA := f5.k1.lt
    have ltDA := f5.k2.lt
    have nCDA := f5.ne
    have yA1 := f5.b1
    have yA2 := f5.b2
    clear f5
    replace q0 := q0.touch t5 nq0
    replace TT := TT.trans t5
    replace rd := R5
    clear t5 R5
    have gq0_0 := q0.cell 0
    have gq0_1 := q0.cell 1
    have gq0_2 := q0.cell 2
    have gq0_3 := q0.cell 3
    have gq0_4 := q0.cell 4
    have gq0_5 := q0.cell 5
    simp only [List.getElem?_cons_zero, List.getElem?_cons_succ] at gq0_0 gq0_1 gq0_2 gq0_3 gq0_4 gq0_5
    have fq0_0 := q0.free 0
    have fq0_1 := q0.free 1
    have fq0_2 := q0.free 2
    have fq0_3 := q0.free 3
    have fq0_4 := q0.free 4
    have fq0_5 := q0.free 5
    have lq0 := q0.lt
    go_wp2
    clear gq0_0 gq0_1 gq0_2 gq0_3 gq0_4 gq0_5 fq0_0 fq0_1 fq0_2 fq0_3 fq0_4 fq0_5 lq0
    have hwt := TT.size
    have hlq := q0.lt
    replace q0 := q0.set 0 (.int .i64 3)
    replace GA := GA.setFar (X := w.heap.size) (by omega) (by omega) 0 (.int .i64 3)
    replace rd := rd.setNew (B := w.heap.size) (by omega) (fun h0 b o e => by have := ha0 h0 b o e; omega) 0 (.int .i64 3)
    replace TT := TT.setNewF (B := w.heap.size) (by omega) 0 (.int .i64 3)
    replace q0 := q0.set 1 (.int .i64 0)
    replace GA := GA.setFar (X := w.heap.size) (by omega) (by omega) 1 (.int .i64 0)
    replace rd := rd.setNew (B := w.heap.size) (by omega) (fun h0 b o e => by have := ha0 h0 b o e; omega) 1 (.int .i64 0)
    replace TT := TT.setNewF (B := w.heap.size) (by omega) 1 (.int .i64 0)
    replace q0 := q0.set 2 (.int .i64 0)
    replace GA := GA.setFar (X := w.heap.size) (by omega) (by omega) 2 (.int .i64 0)
    replace rd := rd.setNew (B := w.heap.size) (by omega) (fun h0 b o e => by have := ha0 h0 b o e; omega) 2 (.int .i64 0)
    replace TT := TT.setNewF (B := w.heap.size) (by omega) 2 (.int .i64 0)
    replace q0 := q0.set 3 (.slice (some ⟨BA, 0, none⟩) 3 3)
    replace GA := GA.setFar (X := w.heap.size) (by omega) (by omega) 3 (.slice (some ⟨BA, 0, none⟩) 3 3)
    replace rd := rd.setNew (B := w.heap.size) (by omega) (fun h0 b o e => by have := ha0 h0 b o e; omega) 3 (.slice (some ⟨BA, 0, none⟩) 3 3)
    replace TT := TT.setNewF (B := w.heap.size) (by omega) 3 (.slice (some ⟨BA, 0, none⟩) 3 3)
    replace q0 := q0.set 4 (.slice (some ⟨DA, 0, none⟩) 2 2)
    replace GA := GA.setFar (X := w.heap.size) (by omega) (by omega) 4 (.slice (some ⟨DA, 0, none⟩) 2 2)
    replace rd := rd.setNew (B := w.heap.size) (by omega) (fun h0 b o e => by have := ha0 h0 b o e; omega) 4 (.slice (some ⟨DA, 0, none⟩) 2 2)
    replace TT := TT.setNewF (B := w.heap.size) (by omega) 4 (.slice (some ⟨DA, 0, none⟩) 2 2)
    replace q0 := q0.set 5 (.int .i64 KA)
    replace GA := GA.setFar (X := w.heap.size) (by omega) (by omega) 5 (.int .i64 KA)
    replace rd := rd.setNew (B := w.heap.size) (by omega) (fun h0 b o e => by have := ha0 h0 b o e; omega) 5 (.int .i64 KA)
    replace TT := TT.setNewF (B := w.heap.size) (by omega) 5 (.int .i64 KA)
    obtain ⟨W5, hW5⟩ : ∃ W, W = ((((((w4.setCell ⟨w.heap.size, 0, none⟩ (.int .i64 3)).setCell ⟨w.heap.size, 1, none⟩ (.int .i64 0)).setCell ⟨w.heap.size, 2, none⟩ (.int .i64 0)).setCell ⟨w.heap.size, 3, none⟩ (.slice (some ⟨BA, 0, none⟩) 3 3)).setCell ⟨w.heap.size, 4, none⟩ (.slice (some ⟨DA, 0, none⟩) 2 2)).setCell ⟨w.heap.size, 5, none⟩ (.int .i64 KA)) := ⟨_, rfl⟩
    rw [← hW5]
    rw [← hW5] at TT rd q0 GA
    clear hW5
    have hws := TT.size
    have u0 : W5.cell? ⟨w.heap.size, 0, none⟩ = some (.int .i64 3) := q0.cell 0
    have u1 : W5.cell? ⟨w.heap.size, 1, none⟩ = some (.int .i64 0) := q0.cell 1
    have u2 : W5.cell? ⟨w.heap.size, 2, none⟩ = some (.int .i64 0) := q0.cell 2
    have u3 : W5.cell? ⟨w.heap.size, 3, none⟩ = some (.slice (some ⟨BA, 0, none⟩) 3 3) := q0.cell 3
    have u4 : W5.cell? ⟨w.heap.size, 4, none⟩ = some (.slice (some ⟨DA, 0, none⟩) 2 2) := q0.cell 4
    have u5 : W5.cell? ⟨w.heap.size, 5, none⟩ = some (.int .i64 KA) := q0.cell 5
    refine bodyPost_ret (v := lnV ⟨3, 0, 0, ⟨some ⟨BA, 0, none⟩, 3, 3, some ⟨DA, 0, none⟩, 2, 2, KA, LCA, LDA⟩⟩) (by simp [results, Tryd.results112, go_sem, u0, u1, u2, u3, u4, u5]) rfl ⟨⟨3, 0, 0, ⟨some ⟨BA, 0, none⟩, 3, 3, some ⟨DA, 0, none⟩, 2, 2, KA, LCA, LDA⟩⟩, _, rfl, ⟨TT, rd, ⟨GA.C, GA.D, by simp only []; omega, by simp only []; omega⟩, fun b o e => by simp only [Option.some.injEq, Addr.mk.injEq] at e; have hb := GA.C.blk (by omega); omega, fun b o e => by simp only [Option.some.injEq, Addr.mk.injEq] at e; have hb := GA.D.blk (by omega); omega, lok3 (small_of sCA sDA sKA1 sKA2), by omega, by omega⟩⟩
  · have gq0_0 := q0.cell 0
    have gq0_1 := q0.cell 1
    have gq0_2 := q0.cell 2
    have gq0_3 := q0.cell 3
    have gq0_4 := q0.cell 4
    have gq0_5 := q0.cell 5
    simp only [List.getElem?_cons_zero, List.getElem?_cons_succ] at gq0_0 gq0_1 gq0_2 gq0_3 gq0_4 gq0_5
    have fq0_0 := q0.free 0
    have fq0_1 := q0.free 1
    have fq0_2 := q0.free 2
    have fq0_3 := q0.free 3
    have fq0_4 := q0.free 4
    have fq0_5 := q0.free 5
    have lq0 := q0.lt
    go_wp2
    clear gq0_0 gq0_1 gq0_2 gq0_3 gq0_4 gq0_5 fq0_0 fq0_1 fq0_2 fq0_3 fq0_4 fq0_5 lq0
    have hwt := TT.size
    have hlq := q0.lt
    replace q0 := q0.set 0 (.int .i64 4)
    replace rd := rd.setNew (B := w.heap.size) (by omega) (fun h0 b o e => by have := ha0 h0 b o e; omega) 0 (.int .i64 4)
    replace TT := TT.setNewF (B := w.heap.size) (by omega) 0 (.int .i64 4)
    replace q0 := q0.set 1 (.int .i64 0)
    replace rd := rd.setNew (B := w.heap.size) (by omega) (fun h0 b o e => by have := ha0 h0 b o e; omega) 1 (.int .i64 0)
    replace TT := TT.setNewF (B := w.heap.size) (by omega) 1 (.int .i64 0)
    replace q0 := q0.set 2 (.int .i64 0)
    replace rd := rd.setNew (B := w.heap.size) (by omega) (fun h0 b o e => by have := ha0 h0 b o e; omega) 2 (.int .i64 0)
    replace TT := TT.setNewF (B := w.heap.size) (by omega) 2 (.int .i64 0)
    replace q0 := q0.set 3 (.slice none 0 0)
    replace rd := rd.setNew (B := w.heap.size) (by omega) (fun h0 b o e => by have := ha0 h0 b o e; omega) 3 (.slice none 0 0)
    replace TT := TT.setNewF (B := w.heap.size) (by omega) 3 (.slice none 0 0)
    replace q0 := q0.set 4 (.slice none 0 0)
    replace rd := rd.setNew (B := w.heap.size) (by omega) (fun h0 b o e => by have := ha0 h0 b o e; omega) 4 (.slice none 0 0)
    replace TT := TT.setNewF (B := w.heap.size) (by omega) 4 (.slice none 0 0)
    replace q0 := q0.set 5 (.int .i64 0)
    replace rd := rd.setNew (B := w.heap.size) (by omega) (fun h0 b o e => by have := ha0 h0 b o e; omega) 5 (.int .i64 0)
    replace TT := TT.setNewF (B := w.heap.size) (by omega) 5 (.int .i64 0)
    obtain ⟨W4, hW4⟩ : ∃ W, W = ((((((w3.setCell ⟨w.heap.size, 0, none⟩ (.int .i64 4)).setCell ⟨w.heap.size, 1, none⟩ (.int .i64 0)).setCell ⟨w.heap.size, 2, none⟩ (.int .i64 0)).setCell ⟨w.heap.size, 3, none⟩ (.slice none 0 0)).setCell ⟨w.heap.size, 4, none⟩ (.slice none 0 0)).setCell ⟨w.heap.size, 5, none⟩ (.int .i64 0)) := ⟨_, rfl⟩
    rw [← hW4]
    rw [← hW4] at TT rd q0
    clear hW4
    have hws := TT.size
    have u0 : W4.cell? ⟨w.heap.size, 0, none⟩ = some (.int .i64 4) := q0.cell 0
    have u1 : W4.cell? ⟨w.heap.size, 1, none⟩ = some (.int .i64 0) := q0.cell 1
    have u2 : W4.cell? ⟨w.heap.size, 2, none⟩ = some (.int .i64 0) := q0.cell 2
    have u3 : W4.cell? ⟨w.heap.size, 3, none⟩ = some (.slice none 0 0) := q0.cell 3
    have u4 : W4.cell? ⟨w.heap.size, 4, none⟩ = some (.slice none 0 0) := q0.cell 4
    have u5 : W4.cell? ⟨w.heap.size, 5, none⟩ = some (.int .i64 0) := q0.cell 5
    refine bodyPost_ret (v := lnV ⟨4, 0, 0, ⟨none, 0, 0, none, 0, 0, 0, [], []⟩⟩) (by simp [results, Tryd.results112, go_sem, u0, u1, u2, u3, u4, u5]) rfl ⟨⟨4, 0, 0, ⟨none, 0, 0, none, 0, 0, 0, [], []⟩⟩, _, rfl, ⟨TT, rd, ⟨⟨rfl, fun i hi => absurd hi (Nat.not_lt_zero _)⟩, ⟨rfl, fun i hi => absurd hi (Nat.not_lt_zero _)⟩, Nat.zero_le _, Nat.zero_le _⟩, (fun b o e => by cases e), (fun b o e => by cases e), by decide, by omega, by omega⟩⟩

end Go.Proofs.YtfkcfjkojfnfnaaDoor
namespace Go.Proofs.YtfkcfjkojfnfnaaDoor
open Go.RowKit
set_option linter.unusedVariables false
set_option maxRecDepth 100000

theorem flatL_at : ∀ (ls : List LV) (i : Nat), i < ls.length → ∀ r, r < 6 → (ls.flatMap LV.cs)[i * 6 + r]? = (ls[i]?.getD noLV).cs[r]? := by
  intro ls
  induction ls with
  | nil => intro i hi; simp at hi
  | cons g gs ih =>
    intro i hi r hr
    rcases i with _ | i
    · simp only [List.flatMap_cons, Nat.zero_mul, Nat.zero_add, List.getElem?_cons_zero, Option.getD_some]
      rw [List.getElem?_append_left (by simp [LV.cs]; omega)]
    · simp only [List.flatMap_cons, List.getElem?_cons_succ]
      rw [List.getElem?_append_right (by simp [LV.cs]; omega)]
      have e : (i + 1) * 6 + r - g.cs.length = i * 6 + r := by simp [LV.cs]; omega
      rw [e]
      exact ih i (by simpa using hi) r hr
theorem flatL_len (ls : List LV) : (ls.flatMap LV.cs).length = ls.length * 6 := by
  induction ls with
  | nil => rfl
  | cons g gs ih => rw [List.flatMap_cons, List.length_append, ih]; simp [LV.cs]; omega
theorem flatL_one (ls : List LV) : ∀ u ∈ ls.flatMap LV.cs, u.oneCell' = true := by
  intro u hu
  obtain ⟨l, _, h⟩ := List.mem_flatMap.1 hu
  simp only [LV.cs, List.mem_cons, List.not_mem_nil, or_false] at h
  rcases h with rfl | rfl | rfl | rfl | rfl | rfl <;> rfl
theorem linesG_own {W : World} {base N cap : Nat} {ad : Option Addr} {ls : List LV} (h : W.ownsRow base 94 6 (.slice ad N cap) N (ls.flatMap LV.cs)) (hl : ls.length = N) (ha : ∀ i, i < ls.length → (ls[i]?.getD noLV).f.At W) : LinesG W ad ls := by
  intro i hi
  rcases h.2 with ⟨hv, h0⟩ | ⟨g, cap', cur, hv, _⟩
  · omega
  · simp only [Value.slice.injEq, true_and] at hv
    obtain ⟨rfl, rfl⟩ := hv
    refine ⟨g, 0, rfl, fun r hr => ?_, ha i hi⟩
    have := h.cellAt (i * 6 + r) (by omega)
    rw [flatL_at ls i hi r hr] at this
    rw [← this, Nat.zero_add]

theorem own_slice {W : World} {base m s : Nat} {e : TypeId} {v : Value} {xs : List Value} (h : W.ownsRow base e s v m xs) : ∃ ad c, v = .slice ad m c := by
  rcases h.2 with ⟨hv, h0⟩ | ⟨g, cap, cur, hv, _⟩
  · exact ⟨none, 0, by rw [hv, h0]⟩
  · exact ⟨_, _, hv⟩
/-- An act that is being drawn. -/
structure JL (wL : World) (R : Nat) (a : Option Addr) (n cap : Nat) (bs : List Int) (q : Int) (v : Value) (ls : List LV) (W : World) : Prop where
  t : Touch (fun x => x = R) wL W
  r : Rd W R a n cap bs q
  o : W.ownsRow wL.heap.size 94 6 v ls.length (ls.flatMap LV.cs)
  at' : ∀ i, i < ls.length → (ls[i]?.getD noLV).f.At W
  na : ∀ i, i < ls.length → ∀ b o, (ls[i]?.getD noLV).f.a = some ⟨b, o, none⟩ → wL.heap.size ≤ b ∧ b < W.heap.size ∧ v.ownBlock ≠ some b
  nc : ∀ i, i < ls.length → ∀ b o, (ls[i]?.getD noLV).f.c = some ⟨b, o, none⟩ → wL.heap.size ≤ b ∧ b < W.heap.size ∧ v.ownBlock ≠ some b
  lR : R < wL.heap.size
  lb : 0 < n → ∀ b o, a = some ⟨b, o, none⟩ → b < wL.heap.size
section
variable {wL W W' : World} {R : Nat} {a : Option Addr} {n cap : Nat} {bs : List Int} {q : Int} {v : Value} {ls : List LV}
theorem own_belowL {base : Nat} {e : TypeId} {s : Nat} {m : Nat} {xs : List Value} (h : W.ownsRow base e s v m xs) (b : Below W.heap.size W W') : W'.ownsRow base e s v m xs := by
  obtain ⟨h1, h2⟩ := h
  refine ⟨h1, ?_⟩
  rcases h2 with h2 | ⟨g, cap, cur, hv, hg, hh, r⟩
  · exact Or.inl h2
  · exact Or.inr ⟨g, cap, cur, hv, hg, by rw [b.block g (lt_of_block hh)]; exact hh, r⟩
theorem JL.below (j : JL wL R a n cap bs q v ls W) (b : Below W.heap.size W W') : JL wL R a n cap bs q v ls W' :=
  ⟨j.t.trans (Touch.of b), j.r.below b, own_belowL j.o b, fun i hi => (j.at' i hi).below b, fun i hi x o e => by have h := j.na i hi x o e; have := b.size; exact ⟨h.1, by omega, h.2.2⟩, fun i hi x o e => by have h := j.nc i hi x o e; have := b.size; exact ⟨h.1, by omega, h.2.2⟩, j.lR, j.lb⟩
theorem FV.At.off {S : Nat → Prop} {f : FV} (h : f.At W) (t : Touch S W W') (h1 : ∀ b o, f.a = some ⟨b, o, none⟩ → ¬ S b) (h2 : ∀ b o, f.c = some ⟨b, o, none⟩ → ¬ S b) : f.At W' := ⟨h.C.off t h1, h.D.off t h2, h.hn, h.hm⟩
theorem JL.pick {q' : Int} (j : JL wL R a n cap bs q v ls W) (t : Touch (fun x => x = R) W W') (r : Rd W' R a n cap bs q') : JL wL R a n cap bs q' v ls W' := by
  have lR := j.lR
  exact ⟨j.t.trans t, r, ownsRow_touch j.o t (fun k h => by omega), fun i hi => (j.at' i hi).off t (fun b o e h => by have := (j.na i hi b o e).1; omega) (fun b o e h => by have := (j.nc i hi b o e).1; omega), fun i hi x o e => by have h := j.na i hi x o e; have := t.size; exact ⟨h.1, by omega, h.2.2⟩, fun i hi x o e => by have h := j.nc i hi x o e; have := t.size; exact ⟨h.1, by omega, h.2.2⟩, j.lR, j.lb⟩
theorem JL.g {ad : Option Addr} {N c : Nat} (j : JL wL R a n cap bs q (.slice ad N c) ls W) (hl : ls.length = N) : LinesG W ad ls := linesG_own (by have h := j.o; rw [hl] at h; exact h) hl j.at'
/-- A line is put behind the others. -/
theorem JL.app {l : LV} {g c k : Nat} {H : Nat} (j : JL wL R a n cap bs q v ls W) (hk : ls.length = k) (hl : l.f.At W) (la : ∀ b o, l.f.a = some ⟨b, o, none⟩ → wL.heap.size ≤ b ∧ b < H ∧ v.ownBlock ≠ some b) (lc : ∀ b o, l.f.c = some ⟨b, o, none⟩ → wL.heap.size ≤ b ∧ b < H ∧ v.ownBlock ≠ some b) (hH : H ≤ W.heap.size) (hsz : ∀ i, i < ls.length → (∀ b o, (ls[i]?.getD noLV).f.a = some ⟨b, o, none⟩ → b < H) ∧ (∀ b o, (ls[i]?.getD noLV).f.c = some ⟨b, o, none⟩ → b < H))
    (hown : W'.ownsRow wL.heap.size 94 6 (.slice (some ⟨g, 0, none⟩) (k + 1) c) (k + 1) (ls.flatMap LV.cs ++ l.cs)) (hg : W.grownBy W' v.ownBlock) (hat : v.ownBlock = some g ∨ H ≤ g) : JL wL R a n cap bs q (.slice (some ⟨g, 0, none⟩) (k + 1) c) (ls ++ [l]) W' := by
  have hr : ∀ x, v.ownBlock = some x → wL.heap.size ≤ x := fun x hx => (j.o.lt x hx).1
  have lR := j.lR
  have T : Touch (fun x => v.ownBlock = some x) W W' := ⟨hg.os, hg.tape, hg.output, hg.size, fun x hx hs => hg.block x hx (fun e => hs e.symm)⟩
  have hn : ∀ b, v.ownBlock ≠ some b → b < H → (Value.slice (some ⟨g, 0, none⟩) (k + 1) c).ownBlock ≠ some b := fun b h1 h2 e => by
    simp only [Value.ownBlock, Option.some.injEq] at e
    rcases hat with h | h
    · rw [h] at h1; exact h1 (by rw [e])
    · omega
  have key : ∀ i, i < (ls ++ [l]).length → (i < ls.length ∧ (ls ++ [l])[i]?.getD noLV = ls[i]?.getD noLV) ∨ (ls ++ [l])[i]?.getD noLV = l := fun i hi => by
    by_cases h : i < ls.length
    · left; exact ⟨h, by rw [List.getElem?_append_left h]⟩
    · right
      have : i = ls.length := by rw [List.length_append] at hi; simp at hi; omega
      subst this
      simp
  have hs := hg.size
  refine ⟨j.t.grown hg hr, j.r.touch T (fun e => by have := hr _ e; omega) (fun h0 b o hab e => by have := j.lb h0 b o hab; have := hr _ e; omega), ?_, fun i hi => ?_, fun i hi b o e => ?_, fun i hi b o e => ?_, j.lR, j.lb⟩
  · rw [List.length_append, hk, List.flatMap_append]
    simpa using hown
  · rcases key i hi with ⟨h, e⟩ | e
    · rw [e]; exact (j.at' i h).off T (fun b o e h' => (j.na i h b o e).2.2 h') (fun b o e h' => (j.nc i h b o e).2.2 h')
    · rw [e]; exact hl.off T (fun b o e h' => (la b o e).2.2 h') (fun b o e h' => (lc b o e).2.2 h')
  · rcases key i hi with ⟨h, e'⟩ | e'
    · rw [e'] at e; have h3 := j.na i h b o e; exact ⟨h3.1, by omega, hn b h3.2.2 ((hsz i h).1 b o e)⟩
    · rw [e'] at e; have h3 := la b o e; exact ⟨h3.1, by omega, hn b h3.2.2 h3.2.1⟩
  · rcases key i hi with ⟨h, e'⟩ | e'
    · rw [e'] at e; have h3 := j.nc i h b o e; exact ⟨h3.1, by omega, hn b h3.2.2 ((hsz i h).2 b o e)⟩
    · rw [e'] at e; have h3 := lc b o e; exact ⟨h3.1, by omega, hn b h3.2.2 h3.2.1⟩
end

theorem newsL {W : World} {base g cap k : Nat} {xs : List Value} (h : W.ownsRow base 94 6 (.slice (some ⟨g, 0, none⟩) k cap) k xs) : ∀ j u, xs[j]? = some u → W.cell? ((⟨g, 0, none⟩ : Addr).add j) = some u := fun j u hu => by
  have hj : j < k * 6 := by
    have h1 := h.1
    have : j < xs.length := by
      rcases Nat.lt_or_ge j xs.length with h | h
      · exact h
      · rw [List.getElem?_eq_none h] at hu; cases hu
    omega
  have := h.cellAt j hj
  rw [hu] at this
  have hadd : (⟨g, 0, none⟩ : Addr).add j = ⟨g, j, none⟩ := by
    by_cases h0 : j = 0
    · subst h0; simp [Addr.add]
    · simp [Addr.add, h0]
  rw [hadd]; exact this

theorem Tryd.infoLn : (Tryd.prog.info? 94).map (fun i => (i.zero, i.size, i.bytes)) = some (some (.agg #[.int .i64 0, .int .i64 0, .int .i64 0, .slice none 0 0, .slice none 0 0, .int .i64 0]), 6, 80) := by kernel_rfl

set_option maxHeartbeats 1600000 in
/-- Lines are copied behind an empty literal. -/
theorem wp_copyL {o : Oper} {a : Act} {K : Act → World → Prop} {Q : Exit → Act → World → Prop} {W : World} (s x : Operand) (ho : o.op = .call { callee := .builtin .append, args := #[s, x], argTypes := #[43, 43] }) (base base' L k : Nat) (ad : Option Addr) (cap : Nat) (ls : List LV)
    (hs : a.eval s = .slice (some ⟨L, 0, none⟩) 0 0) (hown : W.ownsRow base 94 6 (.slice (some ⟨L, 0, none⟩) 0 0) 0 []) (hx : a.eval x = .slice ad k cap) (hb : W.ownsRow base' 94 6 (.slice ad k cap) k (ls.flatMap LV.cs)) (hl : ls.length = k) (hn : k ≤ 1000) (hbase : base ≤ W.heap.size)
    (h : ∀ v' W1, Below base W W1 → Touch (fun z => z = L) W W1 → W1.ownsRow base 94 6 v' k (ls.flatMap LV.cs) → (∀ B, v'.ownBlock = some B → B = L ∨ W.heap.size ≤ B) → K (a.put o.dst v') W1) : o.wp Tryd.prog a W K Q := by
  by_cases h0 : 0 < k
  · obtain ⟨i0, hi, hz0, hz1, hz2⟩ := info_parts Tryd.infoLn
    rcases hb.2 with ⟨_, h1⟩ | ⟨g, cap', cur, hv, _⟩
    · omega
    simp only [Value.slice.injEq, true_and] at hv
    obtain ⟨rfl, rfl⟩ := hv
    refine wp_append_lies _ s x 43 ho base 94 i0 _ 6 80 Tryd.underlying43 hi hz0 hz1 hz2 rfl (by omega) _ 0 [] hs hown ⟨g, 0, none⟩ k cap (ls.flatMap LV.cs) hx (by rw [flatL_len, hl]) (newsL hb) (flatL_one ls) h0 (by unfold maxLen; omega) (by omega) hbase _ rfl ?_
    intro g' cp W1 ho1 hg hat hlt
    have hL : ∀ z, (Value.slice (some ⟨L, 0, none⟩) 0 0).ownBlock = some z → base ≤ z := fun z hz => (hown.lt z hz).1
    simp only [Nat.zero_add] at ho1 ⊢
    refine h _ W1 ((Below.refl base W).grown hg hbase hL) ⟨hg.os, hg.tape, hg.output, hg.size, fun z hz hn => hg.block z hz (fun e => hn (by simpa [Value.ownBlock] using e))⟩ (by simpa using ho1) (fun B hB => ?_)
    simp only [Value.ownBlock, Option.some.injEq] at hB hat
    omega
  · obtain rfl : k = 0 := by omega
    have hls : ls = [] := List.eq_nil_of_length_eq_zero hl
    subst hls
    obtain ⟨dst, op, ty, pos, after, guard⟩ := o
    dsimp only at ho
    subst ho
    unfold Oper.wp execOp
    simp only [resolve, invoke, builtin, Sem.run_bind, Sem.run_pure, Result.andThen_ok, List.map_toArray, List.map_cons, List.map_nil, hs, hx]
    cases ad
    · go_simp
      exact h _ W (Below.refl _ _) (Touch.refl _ _) hown (fun B hB => by simp only [Value.ownBlock, Option.some.injEq] at hB; omega)
    · go_simp
      exact h _ W (Below.refl _ _) (Touch.refl _ _) hown (fun B hB => by simp only [Value.ownBlock, Option.some.injEq] at hB; omega)

end Go.Proofs.YtfkcfjkojfnfnaaDoor
namespace Go.Proofs.YtfkcfjkojfnfnaaDoor
open Go.RowKit
set_option linter.unusedVariables false
set_option maxRecDepth 100000

theorem at_app {W : World} {ls : List LV} {l : LV} (h : ∀ i, i < ls.length → (ls[i]?.getD noLV).f.At W) (hl : l.f.At W) : ∀ i, i < (ls ++ [l]).length → ((ls ++ [l])[i]?.getD noLV).f.At W := fun i hi => by
  by_cases h1 : i < ls.length
  · rw [List.getElem?_append_left h1]; exact h i h1
  · have h9 : i = ls.length := by rw [List.length_append] at hi; simp at hi; omega
    subst h9
    simpa using hl

set_option maxHeartbeats 12800000 in
theorem act_f (R : Nat) (a : Option Addr) (n cap : Nat) (bs : List Int) (p : Int) (w : World) (rd : Rd w R a n cap bs p) (hp : 0 ≤ p) (hp1 : p ≤ 7000000) (ha : 0 < n → ∀ b o, a = some ⟨b, o, none⟩ → b < w.heap.size) :
    Calls Tryd.prog 90 #[.pointer (some ⟨R, 0, none⟩)] w fun e w' => ∃ ad N c ls q, e = .returned (.slice ad N c) ∧ JL w R a n cap bs q (.slice ad N c) ls w' ∧ ls.length = N ∧ actB N ls = true ∧ p ≤ q ∧ q ≤ p + 80 := by
  have hRl := rd.c.lt
  have TT : Touch (fun x => x = R) w w := Touch.refl _ _
  go_enter Tryd.func90, Tryd.ntmps90
  go_wp2_with fail
  refine (pick_any R a n cap bs (p) 2 _ rd (by omega) (by omega) (by omega) (by omega)).mono ?_
  rintro e w2 ⟨rv, hv0, hv1, rfl, t5, R5⟩
  obtain ⟨v, rfl⟩ := Int.eq_ofNat_of_zero_le hv0
  clear hv0
  replace TT := TT.trans t5
  replace rd := R5
  clear t5 R5
  go_wp2_with fail
  refine (pick_any R a n cap bs (p + 1) 8 _ rd (by omega) (by omega) (by omega) (by omega)).mono ?_
  rintro e w3 ⟨rj, hj0, hj1, rfl, t5, R5⟩
  obtain ⟨j, rfl⟩ := Int.eq_ofNat_of_zero_le hj0
  clear hj0
  replace TT := TT.trans t5
  replace rd := R5
  clear t5 R5
  rcases (show j = 0 ∨ j = 1 ∨ j = 2 ∨ j = 3 ∨ j = 4 ∨ j = 5 ∨ 6 ≤ j from by omega) with rfl | rfl | rfl | rfl | rfl | rfl | hj6
  · go_wp2_with fail
    have xA := TT.size
    refine (num_f (-1) 0 0 _).mono ?_
    rintro e w4 ⟨BA, DA, rfl, b5, f5⟩
    go_wp2_with fail
    refine (with_f BA DA v 1 0 _ _ _ _ f5 (by omega)).mono ?_
    rintro e w5 ⟨rfl, t6, f6⟩
    have lo6 := f5.b1
    replace b5 := b5.trans (t6.below (B := w3.heap.size) b5.size (fun z hz => by omega))
    clear f5 t6 lo6
    have f5 := f6
    clear f6
    have yA1 := f5.b1
    have yA2 := f5.b2
    have GA : FA w5 (some ⟨BA, 0, none⟩) 3 (some ⟨DA, 0, none⟩) 2 (([0, 0, 0]).set v 1, [-1, 0], 0) := ⟨f5.k1.ints' f5.l1, f5.k2.ints' f5.l2, by omega, by omega⟩
    clear f5
    replace TT := TT.trans (Touch.of b5)
    replace rd := rd.below b5
    clear b5
    have zA1 : w.heap.size ≤ BA := by omega
    have zA2 : w.heap.size ≤ DA := by omega
    go_wp2_with fail
    have xE := TT.size
    refine (num_f (-1) 0 0 _).mono ?_
    rintro e w6 ⟨BE, DE, rfl, b5, f5⟩
    have yE1 := f5.b1
    have yE2 := f5.b2
    have GE : FA w6 (some ⟨BE, 0, none⟩) 3 (some ⟨DE, 0, none⟩) 2 ([0, 0, 0], [-1, 0], 0) := ⟨f5.k1.ints' f5.l1, f5.k2.ints' f5.l2, by omega, by omega⟩
    clear f5
    replace GA := GA.below b5
    replace TT := TT.trans (Touch.of b5)
    replace rd := rd.below b5
    clear b5
    have zE1 : w.heap.size ≤ BE := by omega
    have zE2 : w.heap.size ≤ DE := by omega
    go_wp2_with fail
    have xF := TT.size
    refine (num_f 1 0 0 _).mono ?_
    rintro e w7 ⟨BF, DF, rfl, b5, f5⟩
    have yF1 := f5.b1
    have yF2 := f5.b2
    have GF : FA w7 (some ⟨BF, 0, none⟩) 3 (some ⟨DF, 0, none⟩) 2 ([0, 0, 0], [1, 0], 0) := ⟨f5.k1.ints' f5.l1, f5.k2.ints' f5.l2, by omega, by omega⟩
    clear f5
    replace GA := GA.below b5
    replace GE := GE.below b5
    replace TT := TT.trans (Touch.of b5)
    replace rd := rd.below b5
    clear b5
    have zF1 : w.heap.size ≤ BF := by omega
    have zF2 : w.heap.size ≤ DF := by omega
    go_wp2_with fail
    have xH := TT.size
    refine (num_f 1 0 (-9) _).mono ?_
    rintro e w8 ⟨BH, DH, rfl, b5, f5⟩
    have yH1 := f5.b1
    have yH2 := f5.b2
    have GH : FA w8 (some ⟨BH, 0, none⟩) 3 (some ⟨DH, 0, none⟩) 2 ([0, 0, 0], [1, 0], -9) := ⟨f5.k1.ints' f5.l1, f5.k2.ints' f5.l2, by omega, by omega⟩
    clear f5
    replace GA := GA.below b5
    replace GE := GE.below b5
    replace GF := GF.below b5
    replace TT := TT.trans (Touch.of b5)
    replace rd := rd.below b5
    clear b5
    have zH1 : w.heap.size ≤ BH := by omega
    have zH2 : w.heap.size ≤ DH := by omega
    have tA1 := GA.C.blk (by omega)
    have tA2 := GA.D.blk (by omega)
    have tE1 := GE.C.blk (by omega)
    have tE2 := GE.D.blk (by omega)
    have tF1 := GF.C.blk (by omega)
    have tF2 := GF.D.blk (by omega)
    have tH1 := GH.C.blk (by omega)
    have tH2 := GH.D.blk (by omega)
    have hsz := TT.size
    have al := (Below.refl w8.heap.size w8).alloc (Nat.le_refl _) (.cells #[.int .i64 1, .int .i64 0, .int .i64 2, .slice (some ⟨BA, 0, none⟩) 3 3, .slice (some ⟨DA, 0, none⟩) 2 2, .int .i64 0, .int .i64 2, .int .i64 (v : Int), .int .i64 0, .slice (some ⟨BE, 0, none⟩) 3 3, .slice (some ⟨DE, 0, none⟩) 2 2, .int .i64 0, .int .i64 3, .int .i64 0, .int .i64 0, .slice (some ⟨BF, 0, none⟩) 3 3, .slice (some ⟨DF, 0, none⟩) 2 2, .int .i64 0, .int .i64 1, .int .i64 0, .int .i64 1, .slice (some ⟨BH, 0, none⟩) 3 3, .slice (some ⟨DH, 0, none⟩) 2 2, .int .i64 (-9), .int .i64 4, .int .i64 0, .int .i64 0, .slice none 0 0, .slice none 0 0, .int .i64 0] 94)
    have o := World.ownsRow_lit (base := w.heap.size) (e := 94) (size := 6) w8 #[.int .i64 1, .int .i64 0, .int .i64 2, .slice (some ⟨BA, 0, none⟩) 3 3, .slice (some ⟨DA, 0, none⟩) 2 2, .int .i64 0, .int .i64 2, .int .i64 (v : Int), .int .i64 0, .slice (some ⟨BE, 0, none⟩) 3 3, .slice (some ⟨DE, 0, none⟩) 2 2, .int .i64 0, .int .i64 3, .int .i64 0, .int .i64 0, .slice (some ⟨BF, 0, none⟩) 3 3, .slice (some ⟨DF, 0, none⟩) 2 2, .int .i64 0, .int .i64 1, .int .i64 0, .int .i64 1, .slice (some ⟨BH, 0, none⟩) 3 3, .slice (some ⟨DH, 0, none⟩) 2 2, .int .i64 (-9), .int .i64 4, .int .i64 0, .int .i64 0, .slice none 0 0, .slice none 0 0, .int .i64 0] 5 hsz (by unfold maxLen; omega) rfl
    have hws := al.size
    replace GA := GA.below al
    replace GE := GE.below al
    replace GF := GF.below al
    replace GH := GH.below al
    replace TT := TT.trans (Touch.of al)
    replace rd := rd.below al
    clear al
    go_wp2
    go_ret
    refine ⟨_, 5, 5, [⟨1, 0, 2, ⟨some ⟨BA, 0, none⟩, 3, 3, some ⟨DA, 0, none⟩, 2, 2, 0, ([0, 0, 0]).set v 1, [-1, 0]⟩⟩, ⟨2, (v : Int), 0, ⟨some ⟨BE, 0, none⟩, 3, 3, some ⟨DE, 0, none⟩, 2, 2, 0, [0, 0, 0], [-1, 0]⟩⟩, ⟨3, 0, 0, ⟨some ⟨BF, 0, none⟩, 3, 3, some ⟨DF, 0, none⟩, 2, 2, 0, [0, 0, 0], [1, 0]⟩⟩, ⟨1, 0, 1, ⟨some ⟨BH, 0, none⟩, 3, 3, some ⟨DH, 0, none⟩, 2, 2, (-9), [0, 0, 0], [1, 0]⟩⟩, ⟨4, 0, 0, noFV⟩], _, rfl, ⟨TT, rd, o, fun i hi => ?_, fun i hi b o e => ?_, fun i hi b o e => ?_, hRl, ha⟩, rfl, by rcases v with _ | _ | v; rfl; rfl; omega, by omega, by omega⟩
    · rcases i with _ | _ | _ | _ | _ | i
      · exact ⟨GA.C, GA.D, show 3 ≤ 1048576 by omega, show 2 ≤ 1048576 by omega⟩
      · exact ⟨GE.C, GE.D, show 3 ≤ 1048576 by omega, show 2 ≤ 1048576 by omega⟩
      · exact ⟨GF.C, GF.D, show 3 ≤ 1048576 by omega, show 2 ≤ 1048576 by omega⟩
      · exact ⟨GH.C, GH.D, show 3 ≤ 1048576 by omega, show 2 ≤ 1048576 by omega⟩
      · exact ⟨⟨rfl, fun i hi => absurd hi (Nat.not_lt_zero _)⟩, ⟨rfl, fun i hi => absurd hi (Nat.not_lt_zero _)⟩, Nat.zero_le _, Nat.zero_le _⟩
      · simp only [List.length_cons, List.length_nil] at hi; omega
    · rcases i with _ | _ | _ | _ | _ | i
      · have e9 : (some ⟨BA, 0, none⟩ : Option Addr) = some ⟨b, o, none⟩ := e; simp only [Option.some.injEq, Addr.mk.injEq] at e9; exact ⟨by omega, by omega, by simp only [Value.ownBlock, ne_eq, Option.some.injEq]; omega⟩
      · have e9 : (some ⟨BE, 0, none⟩ : Option Addr) = some ⟨b, o, none⟩ := e; simp only [Option.some.injEq, Addr.mk.injEq] at e9; exact ⟨by omega, by omega, by simp only [Value.ownBlock, ne_eq, Option.some.injEq]; omega⟩
      · have e9 : (some ⟨BF, 0, none⟩ : Option Addr) = some ⟨b, o, none⟩ := e; simp only [Option.some.injEq, Addr.mk.injEq] at e9; exact ⟨by omega, by omega, by simp only [Value.ownBlock, ne_eq, Option.some.injEq]; omega⟩
      · have e9 : (some ⟨BH, 0, none⟩ : Option Addr) = some ⟨b, o, none⟩ := e; simp only [Option.some.injEq, Addr.mk.injEq] at e9; exact ⟨by omega, by omega, by simp only [Value.ownBlock, ne_eq, Option.some.injEq]; omega⟩
      · cases e
      · simp only [List.length_cons, List.length_nil] at hi; omega
    · rcases i with _ | _ | _ | _ | _ | i
      · have e9 : (some ⟨DA, 0, none⟩ : Option Addr) = some ⟨b, o, none⟩ := e; simp only [Option.some.injEq, Addr.mk.injEq] at e9; exact ⟨by omega, by omega, by simp only [Value.ownBlock, ne_eq, Option.some.injEq]; omega⟩
      · have e9 : (some ⟨DE, 0, none⟩ : Option Addr) = some ⟨b, o, none⟩ := e; simp only [Option.some.injEq, Addr.mk.injEq] at e9; exact ⟨by omega, by omega, by simp only [Value.ownBlock, ne_eq, Option.some.injEq]; omega⟩
      · have e9 : (some ⟨DF, 0, none⟩ : Option Addr) = some ⟨b, o, none⟩ := e; simp only [Option.some.injEq, Addr.mk.injEq] at e9; exact ⟨by omega, by omega, by simp only [Value.ownBlock, ne_eq, Option.some.injEq]; omega⟩
      · have e9 : (some ⟨DH, 0, none⟩ : Option Addr) = some ⟨b, o, none⟩ := e; simp only [Option.some.injEq, Addr.mk.injEq] at e9; exact ⟨by omega, by omega, by simp only [Value.ownBlock, ne_eq, Option.some.injEq]; omega⟩
      · cases e
      · simp only [List.length_cons, List.length_nil] at hi; omega
  · go_wp2_with fail
    have xA := TT.size
    refine (num_f (-1) 0 0 _).mono ?_
    rintro e w4 ⟨BA, DA, rfl, b5, f5⟩
    go_wp2_with fail
    refine (with_f BA DA v 1 0 _ _ _ _ f5 (by omega)).mono ?_
    rintro e w5 ⟨rfl, t6, f6⟩
    have lo6 := f5.b1
    replace b5 := b5.trans (t6.below (B := w3.heap.size) b5.size (fun z hz => by omega))
    clear f5 t6 lo6
    have f5 := f6
    clear f6
    have yA1 := f5.b1
    have yA2 := f5.b2
    have GA : FA w5 (some ⟨BA, 0, none⟩) 3 (some ⟨DA, 0, none⟩) 2 (([0, 0, 0]).set v 1, [-1, 0], 0) := ⟨f5.k1.ints' f5.l1, f5.k2.ints' f5.l2, by omega, by omega⟩
    clear f5
    replace TT := TT.trans (Touch.of b5)
    replace rd := rd.below b5
    clear b5
    have zA1 : w.heap.size ≤ BA := by omega
    have zA2 : w.heap.size ≤ DA := by omega
    go_wp2_with fail
    have xE := TT.size
    refine (num_f (-1) 0 0 _).mono ?_
    rintro e w6 ⟨BE, DE, rfl, b5, f5⟩
    have yE1 := f5.b1
    have yE2 := f5.b2
    have GE : FA w6 (some ⟨BE, 0, none⟩) 3 (some ⟨DE, 0, none⟩) 2 ([0, 0, 0], [-1, 0], 0) := ⟨f5.k1.ints' f5.l1, f5.k2.ints' f5.l2, by omega, by omega⟩
    clear f5
    replace GA := GA.below b5
    replace TT := TT.trans (Touch.of b5)
    replace rd := rd.below b5
    clear b5
    have zE1 : w.heap.size ≤ BE := by omega
    have zE2 : w.heap.size ≤ DE := by omega
    go_wp2_with fail
    have xF := TT.size
    refine (num_f 1 0 0 _).mono ?_
    rintro e w7 ⟨BF, DF, rfl, b5, f5⟩
    have yF1 := f5.b1
    have yF2 := f5.b2
    have GF : FA w7 (some ⟨BF, 0, none⟩) 3 (some ⟨DF, 0, none⟩) 2 ([0, 0, 0], [1, 0], 0) := ⟨f5.k1.ints' f5.l1, f5.k2.ints' f5.l2, by omega, by omega⟩
    clear f5
    replace GA := GA.below b5
    replace GE := GE.below b5
    replace TT := TT.trans (Touch.of b5)
    replace rd := rd.below b5
    clear b5
    have zF1 : w.heap.size ≤ BF := by omega
    have zF2 : w.heap.size ≤ DF := by omega
    go_wp2_with fail
    have xH := TT.size
    refine (num_f 1 0 (-9) _).mono ?_
    rintro e w8 ⟨BH, DH, rfl, b5, f5⟩
    have yH1 := f5.b1
    have yH2 := f5.b2
    have GH : FA w8 (some ⟨BH, 0, none⟩) 3 (some ⟨DH, 0, none⟩) 2 ([0, 0, 0], [1, 0], -9) := ⟨f5.k1.ints' f5.l1, f5.k2.ints' f5.l2, by omega, by omega⟩
    clear f5
    replace GA := GA.below b5
    replace GE := GE.below b5
    replace GF := GF.below b5
    replace TT := TT.trans (Touch.of b5)
    replace rd := rd.below b5
    clear b5
    have zH1 : w.heap.size ≤ BH := by omega
    have zH2 : w.heap.size ≤ DH := by omega
    have tA1 := GA.C.blk (by omega)
    have tA2 := GA.D.blk (by omega)
    have tE1 := GE.C.blk (by omega)
    have tE2 := GE.D.blk (by omega)
    have tF1 := GF.C.blk (by omega)
    have tF2 := GF.D.blk (by omega)
    have tH1 := GH.C.blk (by omega)
    have tH2 := GH.D.blk (by omega)
    have hsz := TT.size
    have al := (Below.refl w8.heap.size w8).alloc (Nat.le_refl _) (.cells #[.int .i64 1, .int .i64 0, .int .i64 2, .slice (some ⟨BA, 0, none⟩) 3 3, .slice (some ⟨DA, 0, none⟩) 2 2, .int .i64 0, .int .i64 2, .int .i64 (v : Int), .int .i64 0, .slice (some ⟨BE, 0, none⟩) 3 3, .slice (some ⟨DE, 0, none⟩) 2 2, .int .i64 0, .int .i64 3, .int .i64 0, .int .i64 0, .slice (some ⟨BF, 0, none⟩) 3 3, .slice (some ⟨DF, 0, none⟩) 2 2, .int .i64 0, .int .i64 1, .int .i64 0, .int .i64 1, .slice (some ⟨BH, 0, none⟩) 3 3, .slice (some ⟨DH, 0, none⟩) 2 2, .int .i64 (-9), .int .i64 4, .int .i64 0, .int .i64 0, .slice none 0 0, .slice none 0 0, .int .i64 0] 94)
    have o := World.ownsRow_lit (base := w.heap.size) (e := 94) (size := 6) w8 #[.int .i64 1, .int .i64 0, .int .i64 2, .slice (some ⟨BA, 0, none⟩) 3 3, .slice (some ⟨DA, 0, none⟩) 2 2, .int .i64 0, .int .i64 2, .int .i64 (v : Int), .int .i64 0, .slice (some ⟨BE, 0, none⟩) 3 3, .slice (some ⟨DE, 0, none⟩) 2 2, .int .i64 0, .int .i64 3, .int .i64 0, .int .i64 0, .slice (some ⟨BF, 0, none⟩) 3 3, .slice (some ⟨DF, 0, none⟩) 2 2, .int .i64 0, .int .i64 1, .int .i64 0, .int .i64 1, .slice (some ⟨BH, 0, none⟩) 3 3, .slice (some ⟨DH, 0, none⟩) 2 2, .int .i64 (-9), .int .i64 4, .int .i64 0, .int .i64 0, .slice none 0 0, .slice none 0 0, .int .i64 0] 5 hsz (by unfold maxLen; omega) rfl
    have hws := al.size
    replace GA := GA.below al
    replace GE := GE.below al
    replace GF := GF.below al
    replace GH := GH.below al
    replace TT := TT.trans (Touch.of al)
    replace rd := rd.below al
    clear al
    go_wp2
    go_ret
    refine ⟨_, 5, 5, [⟨1, 0, 2, ⟨some ⟨BA, 0, none⟩, 3, 3, some ⟨DA, 0, none⟩, 2, 2, 0, ([0, 0, 0]).set v 1, [-1, 0]⟩⟩, ⟨2, (v : Int), 0, ⟨some ⟨BE, 0, none⟩, 3, 3, some ⟨DE, 0, none⟩, 2, 2, 0, [0, 0, 0], [-1, 0]⟩⟩, ⟨3, 0, 0, ⟨some ⟨BF, 0, none⟩, 3, 3, some ⟨DF, 0, none⟩, 2, 2, 0, [0, 0, 0], [1, 0]⟩⟩, ⟨1, 0, 1, ⟨some ⟨BH, 0, none⟩, 3, 3, some ⟨DH, 0, none⟩, 2, 2, (-9), [0, 0, 0], [1, 0]⟩⟩, ⟨4, 0, 0, noFV⟩], _, rfl, ⟨TT, rd, o, fun i hi => ?_, fun i hi b o e => ?_, fun i hi b o e => ?_, hRl, ha⟩, rfl, by rcases v with _ | _ | v; rfl; rfl; omega, by omega, by omega⟩
    · rcases i with _ | _ | _ | _ | _ | i
      · exact ⟨GA.C, GA.D, show 3 ≤ 1048576 by omega, show 2 ≤ 1048576 by omega⟩
      · exact ⟨GE.C, GE.D, show 3 ≤ 1048576 by omega, show 2 ≤ 1048576 by omega⟩
      · exact ⟨GF.C, GF.D, show 3 ≤ 1048576 by omega, show 2 ≤ 1048576 by omega⟩
      · exact ⟨GH.C, GH.D, show 3 ≤ 1048576 by omega, show 2 ≤ 1048576 by omega⟩
      · exact ⟨⟨rfl, fun i hi => absurd hi (Nat.not_lt_zero _)⟩, ⟨rfl, fun i hi => absurd hi (Nat.not_lt_zero _)⟩, Nat.zero_le _, Nat.zero_le _⟩
      · simp only [List.length_cons, List.length_nil] at hi; omega
    · rcases i with _ | _ | _ | _ | _ | i
      · have e9 : (some ⟨BA, 0, none⟩ : Option Addr) = some ⟨b, o, none⟩ := e; simp only [Option.some.injEq, Addr.mk.injEq] at e9; exact ⟨by omega, by omega, by simp only [Value.ownBlock, ne_eq, Option.some.injEq]; omega⟩
      · have e9 : (some ⟨BE, 0, none⟩ : Option Addr) = some ⟨b, o, none⟩ := e; simp only [Option.some.injEq, Addr.mk.injEq] at e9; exact ⟨by omega, by omega, by simp only [Value.ownBlock, ne_eq, Option.some.injEq]; omega⟩
      · have e9 : (some ⟨BF, 0, none⟩ : Option Addr) = some ⟨b, o, none⟩ := e; simp only [Option.some.injEq, Addr.mk.injEq] at e9; exact ⟨by omega, by omega, by simp only [Value.ownBlock, ne_eq, Option.some.injEq]; omega⟩
      · have e9 : (some ⟨BH, 0, none⟩ : Option Addr) = some ⟨b, o, none⟩ := e; simp only [Option.some.injEq, Addr.mk.injEq] at e9; exact ⟨by omega, by omega, by simp only [Value.ownBlock, ne_eq, Option.some.injEq]; omega⟩
      · cases e
      · simp only [List.length_cons, List.length_nil] at hi; omega
    · rcases i with _ | _ | _ | _ | _ | i
      · have e9 : (some ⟨DA, 0, none⟩ : Option Addr) = some ⟨b, o, none⟩ := e; simp only [Option.some.injEq, Addr.mk.injEq] at e9; exact ⟨by omega, by omega, by simp only [Value.ownBlock, ne_eq, Option.some.injEq]; omega⟩
      · have e9 : (some ⟨DE, 0, none⟩ : Option Addr) = some ⟨b, o, none⟩ := e; simp only [Option.some.injEq, Addr.mk.injEq] at e9; exact ⟨by omega, by omega, by simp only [Value.ownBlock, ne_eq, Option.some.injEq]; omega⟩
      · have e9 : (some ⟨DF, 0, none⟩ : Option Addr) = some ⟨b, o, none⟩ := e; simp only [Option.some.injEq, Addr.mk.injEq] at e9; exact ⟨by omega, by omega, by simp only [Value.ownBlock, ne_eq, Option.some.injEq]; omega⟩
      · have e9 : (some ⟨DH, 0, none⟩ : Option Addr) = some ⟨b, o, none⟩ := e; simp only [Option.some.injEq, Addr.mk.injEq] at e9; exact ⟨by omega, by omega, by simp only [Value.ownBlock, ne_eq, Option.some.injEq]; omega⟩
      · cases e
      · simp only [List.length_cons, List.length_nil] at hi; omega
  · go_wp2_with fail
    have xA := TT.size
    refine (num_f 1 0 0 _).mono ?_
    rintro e w4 ⟨BA, DA, rfl, b5, f5⟩
    have yA1 := f5.b1
    have yA2 := f5.b2
    have GA : FA w4 (some ⟨BA, 0, none⟩) 3 (some ⟨DA, 0, none⟩) 2 ([0, 0, 0], [1, 0], 0) := ⟨f5.k1.ints' f5.l1, f5.k2.ints' f5.l2, by omega, by omega⟩
    clear f5
    replace TT := TT.trans (Touch.of b5)
    replace rd := rd.below b5
    clear b5
    have zA1 : w.heap.size ≤ BA := by omega
    have zA2 : w.heap.size ≤ DA := by omega
    have tA1 := GA.C.blk (by omega)
    have tA2 := GA.D.blk (by omega)
    have hsz := TT.size
    have al := (Below.refl w4.heap.size w4).alloc (Nat.le_refl _) (.cells #[.int .i64 2, .int .i64 (v : Int), .int .i64 0, .slice (some ⟨BA, 0, none⟩) 3 3, .slice (some ⟨DA, 0, none⟩) 2 2, .int .i64 0] 94)
    have o := World.ownsRow_lit (base := w.heap.size) (e := 94) (size := 6) w4 #[.int .i64 2, .int .i64 (v : Int), .int .i64 0, .slice (some ⟨BA, 0, none⟩) 3 3, .slice (some ⟨DA, 0, none⟩) 2 2, .int .i64 0] 1 hsz (by unfold maxLen; omega) rfl
    have hws := al.size
    replace GA := GA.below al
    replace TT := TT.trans (Touch.of al)
    replace rd := rd.below al
    clear al
    go_wp2
    go_ret
    refine ⟨_, 1, 1, [⟨2, (v : Int), 0, ⟨some ⟨BA, 0, none⟩, 3, 3, some ⟨DA, 0, none⟩, 2, 2, 0, [0, 0, 0], [1, 0]⟩⟩], _, rfl, ⟨TT, rd, o, fun i hi => ?_, fun i hi b o e => ?_, fun i hi b o e => ?_, hRl, ha⟩, rfl, by rcases v with _ | _ | v; rfl; rfl; omega, by omega, by omega⟩
    · rcases i with _ | i
      · exact ⟨GA.C, GA.D, show 3 ≤ 1048576 by omega, show 2 ≤ 1048576 by omega⟩
      · simp only [List.length_cons, List.length_nil] at hi; omega
    · rcases i with _ | i
      · have e9 : (some ⟨BA, 0, none⟩ : Option Addr) = some ⟨b, o, none⟩ := e; simp only [Option.some.injEq, Addr.mk.injEq] at e9; exact ⟨by omega, by omega, by simp only [Value.ownBlock, ne_eq, Option.some.injEq]; omega⟩
      · simp only [List.length_cons, List.length_nil] at hi; omega
    · rcases i with _ | i
      · have e9 : (some ⟨DA, 0, none⟩ : Option Addr) = some ⟨b, o, none⟩ := e; simp only [Option.some.injEq, Addr.mk.injEq] at e9; exact ⟨by omega, by omega, by simp only [Value.ownBlock, ne_eq, Option.some.injEq]; omega⟩
      · simp only [List.length_cons, List.length_nil] at hi; omega
  · go_wp2_with fail
    have xA := TT.size
    refine (num_f (-1) 0 0 _).mono ?_
    rintro e w4 ⟨BA, DA, rfl, b5, f5⟩
    go_wp2_with fail
    refine (with_f BA DA v 1 0 _ _ _ _ f5 (by omega)).mono ?_
    rintro e w5 ⟨rfl, t6, f6⟩
    have lo6 := f5.b1
    replace b5 := b5.trans (t6.below (B := w3.heap.size) b5.size (fun z hz => by omega))
    clear f5 t6 lo6
    have f5 := f6
    clear f6
    have yA1 := f5.b1
    have yA2 := f5.b2
    have GA : FA w5 (some ⟨BA, 0, none⟩) 3 (some ⟨DA, 0, none⟩) 2 (([0, 0, 0]).set v 1, [-1, 0], 0) := ⟨f5.k1.ints' f5.l1, f5.k2.ints' f5.l2, by omega, by omega⟩
    clear f5
    replace TT := TT.trans (Touch.of b5)
    replace rd := rd.below b5
    clear b5
    have zA1 : w.heap.size ≤ BA := by omega
    have zA2 : w.heap.size ≤ DA := by omega
    go_wp2_with fail
    have xE := TT.size
    refine (num_f (-1) 0 0 _).mono ?_
    rintro e w6 ⟨BE, DE, rfl, b5, f5⟩
    have yE1 := f5.b1
    have yE2 := f5.b2
    have GE : FA w6 (some ⟨BE, 0, none⟩) 3 (some ⟨DE, 0, none⟩) 2 ([0, 0, 0], [-1, 0], 0) := ⟨f5.k1.ints' f5.l1, f5.k2.ints' f5.l2, by omega, by omega⟩
    clear f5
    replace GA := GA.below b5
    replace TT := TT.trans (Touch.of b5)
    replace rd := rd.below b5
    clear b5
    have zE1 : w.heap.size ≤ BE := by omega
    have zE2 : w.heap.size ≤ DE := by omega
    go_wp2_with fail
    have xF := TT.size
    refine (num_f 1 0 0 _).mono ?_
    rintro e w7 ⟨BF, DF, rfl, b5, f5⟩
    have yF1 := f5.b1
    have yF2 := f5.b2
    have GF : FA w7 (some ⟨BF, 0, none⟩) 3 (some ⟨DF, 0, none⟩) 2 ([0, 0, 0], [1, 0], 0) := ⟨f5.k1.ints' f5.l1, f5.k2.ints' f5.l2, by omega, by omega⟩
    clear f5
    replace GA := GA.below b5
    replace GE := GE.below b5
    replace TT := TT.trans (Touch.of b5)
    replace rd := rd.below b5
    clear b5
    have zF1 : w.heap.size ≤ BF := by omega
    have zF2 : w.heap.size ≤ DF := by omega
    have tA1 := GA.C.blk (by omega)
    have tA2 := GA.D.blk (by omega)
    have tE1 := GE.C.blk (by omega)
    have tE2 := GE.D.blk (by omega)
    have tF1 := GF.C.blk (by omega)
    have tF2 := GF.D.blk (by omega)
    have hsz := TT.size
    have al := (Below.refl w7.heap.size w7).alloc (Nat.le_refl _) (.cells #[.int .i64 1, .int .i64 0, .int .i64 2, .slice (some ⟨BA, 0, none⟩) 3 3, .slice (some ⟨DA, 0, none⟩) 2 2, .int .i64 0, .int .i64 2, .int .i64 (v : Int), .int .i64 0, .slice (some ⟨BE, 0, none⟩) 3 3, .slice (some ⟨DE, 0, none⟩) 2 2, .int .i64 0, .int .i64 2, .int .i64 (1 - (v : Int)), .int .i64 0, .slice (some ⟨BF, 0, none⟩) 3 3, .slice (some ⟨DF, 0, none⟩) 2 2, .int .i64 0] 94)
    have o := World.ownsRow_lit (base := w.heap.size) (e := 94) (size := 6) w7 #[.int .i64 1, .int .i64 0, .int .i64 2, .slice (some ⟨BA, 0, none⟩) 3 3, .slice (some ⟨DA, 0, none⟩) 2 2, .int .i64 0, .int .i64 2, .int .i64 (v : Int), .int .i64 0, .slice (some ⟨BE, 0, none⟩) 3 3, .slice (some ⟨DE, 0, none⟩) 2 2, .int .i64 0, .int .i64 2, .int .i64 (1 - (v : Int)), .int .i64 0, .slice (some ⟨BF, 0, none⟩) 3 3, .slice (some ⟨DF, 0, none⟩) 2 2, .int .i64 0] 3 hsz (by unfold maxLen; omega) rfl
    have hws := al.size
    replace GA := GA.below al
    replace GE := GE.below al
    replace GF := GF.below al
    replace TT := TT.trans (Touch.of al)
    replace rd := rd.below al
    clear al
    go_wp2
    go_ret
    refine ⟨_, 3, 3, [⟨1, 0, 2, ⟨some ⟨BA, 0, none⟩, 3, 3, some ⟨DA, 0, none⟩, 2, 2, 0, ([0, 0, 0]).set v 1, [-1, 0]⟩⟩, ⟨2, (v : Int), 0, ⟨some ⟨BE, 0, none⟩, 3, 3, some ⟨DE, 0, none⟩, 2, 2, 0, [0, 0, 0], [-1, 0]⟩⟩, ⟨2, (1 - (v : Int)), 0, ⟨some ⟨BF, 0, none⟩, 3, 3, some ⟨DF, 0, none⟩, 2, 2, 0, [0, 0, 0], [1, 0]⟩⟩], _, rfl, ⟨TT, rd, o, fun i hi => ?_, fun i hi b o e => ?_, fun i hi b o e => ?_, hRl, ha⟩, rfl, by rcases v with _ | _ | v; rfl; rfl; omega, by omega, by omega⟩
    · rcases i with _ | _ | _ | i
      · exact ⟨GA.C, GA.D, show 3 ≤ 1048576 by omega, show 2 ≤ 1048576 by omega⟩
      · exact ⟨GE.C, GE.D, show 3 ≤ 1048576 by omega, show 2 ≤ 1048576 by omega⟩
      · exact ⟨GF.C, GF.D, show 3 ≤ 1048576 by omega, show 2 ≤ 1048576 by omega⟩
      · simp only [List.length_cons, List.length_nil] at hi; omega
    · rcases i with _ | _ | _ | i
      · have e9 : (some ⟨BA, 0, none⟩ : Option Addr) = some ⟨b, o, none⟩ := e; simp only [Option.some.injEq, Addr.mk.injEq] at e9; exact ⟨by omega, by omega, by simp only [Value.ownBlock, ne_eq, Option.some.injEq]; omega⟩
      · have e9 : (some ⟨BE, 0, none⟩ : Option Addr) = some ⟨b, o, none⟩ := e; simp only [Option.some.injEq, Addr.mk.injEq] at e9; exact ⟨by omega, by omega, by simp only [Value.ownBlock, ne_eq, Option.some.injEq]; omega⟩
      · have e9 : (some ⟨BF, 0, none⟩ : Option Addr) = some ⟨b, o, none⟩ := e; simp only [Option.some.injEq, Addr.mk.injEq] at e9; exact ⟨by omega, by omega, by simp only [Value.ownBlock, ne_eq, Option.some.injEq]; omega⟩
      · simp only [List.length_cons, List.length_nil] at hi; omega
    · rcases i with _ | _ | _ | i
      · have e9 : (some ⟨DA, 0, none⟩ : Option Addr) = some ⟨b, o, none⟩ := e; simp only [Option.some.injEq, Addr.mk.injEq] at e9; exact ⟨by omega, by omega, by simp only [Value.ownBlock, ne_eq, Option.some.injEq]; omega⟩
      · have e9 : (some ⟨DE, 0, none⟩ : Option Addr) = some ⟨b, o, none⟩ := e; simp only [Option.some.injEq, Addr.mk.injEq] at e9; exact ⟨by omega, by omega, by simp only [Value.ownBlock, ne_eq, Option.some.injEq]; omega⟩
      · have e9 : (some ⟨DF, 0, none⟩ : Option Addr) = some ⟨b, o, none⟩ := e; simp only [Option.some.injEq, Addr.mk.injEq] at e9; exact ⟨by omega, by omega, by simp only [Value.ownBlock, ne_eq, Option.some.injEq]; omega⟩
      · simp only [List.length_cons, List.length_nil] at hi; omega
  · go_wp2_with fail
    have xA := TT.size
    refine (num_f 0 0 0 _).mono ?_
    rintro e w4 ⟨BA, DA, rfl, b5, f5⟩
    go_wp2_with fail
    refine (with_f BA DA 2 1 0 _ _ _ _ f5 (by omega)).mono ?_
    rintro e w5 ⟨rfl, t6, f6⟩
    have lo6 := f5.b1
    replace b5 := b5.trans (t6.below (B := w3.heap.size) b5.size (fun z hz => by omega))
    clear f5 t6 lo6
    have f5 := f6
    clear f6
    have yA1 := f5.b1
    have yA2 := f5.b2
    have GA : FA w5 (some ⟨BA, 0, none⟩) 3 (some ⟨DA, 0, none⟩) 2 (([0, 0, 0]).set 2 1, [0, 0], 0) := ⟨f5.k1.ints' f5.l1, f5.k2.ints' f5.l2, by omega, by omega⟩
    clear f5
    replace TT := TT.trans (Touch.of b5)
    replace rd := rd.below b5
    clear b5
    have zA1 : w.heap.size ≤ BA := by omega
    have zA2 : w.heap.size ≤ DA := by omega
    have tA1 := GA.C.blk (by omega)
    have tA2 := GA.D.blk (by omega)
    have hsz := TT.size
    have al := (Below.refl w5.heap.size w5).alloc (Nat.le_refl _) (.cells #[.int .i64 3, .int .i64 0, .int .i64 0, .slice (some ⟨BA, 0, none⟩) 3 3, .slice (some ⟨DA, 0, none⟩) 2 2, .int .i64 0] 94)
    have o := World.ownsRow_lit (base := w.heap.size) (e := 94) (size := 6) w5 #[.int .i64 3, .int .i64 0, .int .i64 0, .slice (some ⟨BA, 0, none⟩) 3 3, .slice (some ⟨DA, 0, none⟩) 2 2, .int .i64 0] 1 hsz (by unfold maxLen; omega) rfl
    have hws := al.size
    replace GA := GA.below al
    replace TT := TT.trans (Touch.of al)
    replace rd := rd.below al
    clear al
    go_wp2
    go_ret
    refine ⟨_, 1, 1, [⟨3, 0, 0, ⟨some ⟨BA, 0, none⟩, 3, 3, some ⟨DA, 0, none⟩, 2, 2, 0, ([0, 0, 0]).set 2 1, [0, 0]⟩⟩], _, rfl, ⟨TT, rd, o, fun i hi => ?_, fun i hi b o e => ?_, fun i hi b o e => ?_, hRl, ha⟩, rfl, rfl, by omega, by omega⟩
    · rcases i with _ | i
      · exact ⟨GA.C, GA.D, show 3 ≤ 1048576 by omega, show 2 ≤ 1048576 by omega⟩
      · simp only [List.length_cons, List.length_nil] at hi; omega
    · rcases i with _ | i
      · have e9 : (some ⟨BA, 0, none⟩ : Option Addr) = some ⟨b, o, none⟩ := e; simp only [Option.some.injEq, Addr.mk.injEq] at e9; exact ⟨by omega, by omega, by simp only [Value.ownBlock, ne_eq, Option.some.injEq]; omega⟩
      · simp only [List.length_cons, List.length_nil] at hi; omega
    · rcases i with _ | i
      · have e9 : (some ⟨DA, 0, none⟩ : Option Addr) = some ⟨b, o, none⟩ := e; simp only [Option.some.injEq, Addr.mk.injEq] at e9; exact ⟨by omega, by omega, by simp only [Value.ownBlock, ne_eq, Option.some.injEq]; omega⟩
      · simp only [List.length_cons, List.length_nil] at hi; omega
  · go_wp2_with fail
    have xA := TT.size
    refine (num_f 0 1 5 _).mono ?_
    rintro e w4 ⟨BA, DA, rfl, b5, f5⟩
    go_wp2_with fail
    refine (with_f BA DA 0 1 5 _ _ _ _ f5 (by omega)).mono ?_
    rintro e w5 ⟨rfl, t6, f6⟩
    have lo6 := f5.b1
    replace b5 := b5.trans (t6.below (B := w3.heap.size) b5.size (fun z hz => by omega))
    clear f5 t6 lo6
    have f5 := f6
    clear f6
    go_wp2_with fail
    refine (with_f BA DA 1 (-1) 5 _ _ _ _ f5 (by omega)).mono ?_
    rintro e w6 ⟨rfl, t6, f6⟩
    have lo6 := f5.b1
    replace b5 := b5.trans (t6.below (B := w3.heap.size) b5.size (fun z hz => by omega))
    clear f5 t6 lo6
    have f5 := f6
    clear f6
    have yA1 := f5.b1
    have yA2 := f5.b2
    have GA : FA w6 (some ⟨BA, 0, none⟩) 3 (some ⟨DA, 0, none⟩) 2 ((([0, 0, 0]).set 0 1).set 1 (-1), [0, 1], 5) := ⟨f5.k1.ints' f5.l1, f5.k2.ints' f5.l2, by omega, by omega⟩
    clear f5
    replace TT := TT.trans (Touch.of b5)
    replace rd := rd.below b5
    clear b5
    have zA1 : w.heap.size ≤ BA := by omega
    have zA2 : w.heap.size ≤ DA := by omega
    go_wp2_with fail
    have xE := TT.size
    refine (num_f 0 0 1 _).mono ?_
    rintro e w7 ⟨BE, DE, rfl, b5, f5⟩
    have yE1 := f5.b1
    have yE2 := f5.b2
    have GE : FA w7 (some ⟨BE, 0, none⟩) 3 (some ⟨DE, 0, none⟩) 2 ([0, 0, 0], [0, 0], 1) := ⟨f5.k1.ints' f5.l1, f5.k2.ints' f5.l2, by omega, by omega⟩
    clear f5
    replace GA := GA.below b5
    replace TT := TT.trans (Touch.of b5)
    replace rd := rd.below b5
    clear b5
    have zE1 : w.heap.size ≤ BE := by omega
    have zE2 : w.heap.size ≤ DE := by omega
    have tA1 := GA.C.blk (by omega)
    have tA2 := GA.D.blk (by omega)
    have tE1 := GE.C.blk (by omega)
    have tE2 := GE.D.blk (by omega)
    have hsz := TT.size
    have al := (Below.refl w7.heap.size w7).alloc (Nat.le_refl _) (.cells #[.int .i64 1, .int .i64 0, .int .i64 1, .slice (some ⟨BA, 0, none⟩) 3 3, .slice (some ⟨DA, 0, none⟩) 2 2, .int .i64 5, .int .i64 2, .int .i64 2, .int .i64 0, .slice (some ⟨BE, 0, none⟩) 3 3, .slice (some ⟨DE, 0, none⟩) 2 2, .int .i64 1] 94)
    have o := World.ownsRow_lit (base := w.heap.size) (e := 94) (size := 6) w7 #[.int .i64 1, .int .i64 0, .int .i64 1, .slice (some ⟨BA, 0, none⟩) 3 3, .slice (some ⟨DA, 0, none⟩) 2 2, .int .i64 5, .int .i64 2, .int .i64 2, .int .i64 0, .slice (some ⟨BE, 0, none⟩) 3 3, .slice (some ⟨DE, 0, none⟩) 2 2, .int .i64 1] 2 hsz (by unfold maxLen; omega) rfl
    have hws := al.size
    replace GA := GA.below al
    replace GE := GE.below al
    replace TT := TT.trans (Touch.of al)
    replace rd := rd.below al
    clear al
    go_wp2
    go_ret
    refine ⟨_, 2, 2, [⟨1, 0, 1, ⟨some ⟨BA, 0, none⟩, 3, 3, some ⟨DA, 0, none⟩, 2, 2, 5, (([0, 0, 0]).set 0 1).set 1 (-1), [0, 1]⟩⟩, ⟨2, 2, 0, ⟨some ⟨BE, 0, none⟩, 3, 3, some ⟨DE, 0, none⟩, 2, 2, 1, [0, 0, 0], [0, 0]⟩⟩], _, rfl, ⟨TT, rd, o, fun i hi => ?_, fun i hi b o e => ?_, fun i hi b o e => ?_, hRl, ha⟩, rfl, rfl, by omega, by omega⟩
    · rcases i with _ | _ | i
      · exact ⟨GA.C, GA.D, show 3 ≤ 1048576 by omega, show 2 ≤ 1048576 by omega⟩
      · exact ⟨GE.C, GE.D, show 3 ≤ 1048576 by omega, show 2 ≤ 1048576 by omega⟩
      · simp only [List.length_cons, List.length_nil] at hi; omega
    · rcases i with _ | _ | i
      · have e9 : (some ⟨BA, 0, none⟩ : Option Addr) = some ⟨b, o, none⟩ := e; simp only [Option.some.injEq, Addr.mk.injEq] at e9; exact ⟨by omega, by omega, by simp only [Value.ownBlock, ne_eq, Option.some.injEq]; omega⟩
      · have e9 : (some ⟨BE, 0, none⟩ : Option Addr) = some ⟨b, o, none⟩ := e; simp only [Option.some.injEq, Addr.mk.injEq] at e9; exact ⟨by omega, by omega, by simp only [Value.ownBlock, ne_eq, Option.some.injEq]; omega⟩
      · simp only [List.length_cons, List.length_nil] at hi; omega
    · rcases i with _ | _ | i
      · have e9 : (some ⟨DA, 0, none⟩ : Option Addr) = some ⟨b, o, none⟩ := e; simp only [Option.some.injEq, Addr.mk.injEq] at e9; exact ⟨by omega, by omega, by simp only [Value.ownBlock, ne_eq, Option.some.injEq]; omega⟩
      · have e9 : (some ⟨DE, 0, none⟩ : Option Addr) = some ⟨b, o, none⟩ := e; simp only [Option.some.injEq, Addr.mk.injEq] at e9; exact ⟨by omega, by omega, by simp only [Value.ownBlock, ne_eq, Option.some.injEq]; omega⟩
      · simp only [List.length_cons, List.length_nil] at hi; omega
  · have h1 : ¬ j = 0 := by omega
    have h2 : ¬ j = 1 := by omega
    have h3 : ¬ j = 2 := by omega
    have h4 : ¬ j = 3 := by omega
    have h5 : ¬ j = 4 := by omega
    have h6 : ¬ j = 5 := by omega
    have e0 : ((j : Int) == 0) = false := by simp; omega
    have e1 : ((j : Int) == 1) = false := by simp; omega
    have e2 : ((j : Int) == 2) = false := by simp; omega
    have e3 : ((j : Int) == 3) = false := by simp; omega
    have e4 : ((j : Int) == 4) = false := by simp; omega
    have e5 : ((j : Int) == 5) = false := by simp; omega
    clear h1 h2 h3 h4 h5 h6
    have hsz := TT.size
    have al := (Below.refl w3.heap.size w3).alloc (Nat.le_refl _) (.cells #[] 94)
    have o0 := World.ownsRow_lit (base := w.heap.size) (e := 94) (size := 6) w3 #[] 0 hsz (by unfold maxLen; omega) rfl
    replace TT := TT.trans (Touch.of al)
    replace rd := rd.below al
    clear al
    have j0 : JL w R a n cap bs (p + 1 + 1) (.slice (some ⟨w3.heap.size, 0, none⟩) 0 0) [] (w3.alloc (.cells #[] 94)) := ⟨TT, rd, o0, fun i hi => by simp at hi, fun i hi => by simp at hi, fun i hi => by simp at hi, hRl, ha⟩
    clear o0 TT rd
    go_wp2_with fail
    refine (pick_any R a n cap bs (p + 1 + 1) 5 _ j0.r (by omega) (by omega) (by omega) (by omega)).mono ?_
    rintro e wS ⟨rk, k0, k1, rfl, t5, R5⟩
    obtain ⟨rk, rfl⟩ := Int.eq_ofNat_of_zero_le k0
    replace j0 := j0.pick t5 R5
    clear t5 R5 k0 hsz hj6
    obtain ⟨i0, hi, hz0, hz1, hz2⟩ := info_parts Tryd.infoLn
    go_wp2_with fail
    go_loopw [4, 5] (fun v i wr => ∃ (l : Nat) (ls : List LV) (q : Int), i = .int .i64 l ∧ ls.length + l ≤ 5 ∧ JL w R a n cap bs q v ls wr ∧ actB ls.length ls = true ∧ p ≤ q ∧ q + 12 * l ≤ p + 70) (fun _ i _ => (intOf i).toNat)
    case atStart => exact ⟨rk + 1, [], _, by go_num, by simp; omega, j0, rfl, by omega, by omega⟩
    case round =>
      clear j0
      obtain ⟨m, ls, q, rfl, hlm, j, hact, hq0, hq1⟩ := hrel
      by_cases hm : 0 < m
      · have hm' : (0 : Int) < (m : Int) := by omega
        obtain ⟨k, hk⟩ : ∃ k, k = ls.length := ⟨_, rfl⟩
        have HK : Hid (ls.length = k) := hk.symm
        have hlm' : k + m ≤ 5 := by omega
        obtain ⟨vad, vcap, rfl⟩ := own_slice j.o
        rw [← hk] at j
        rw [← hk]
        clear hk hlm
        have hvb := fun x hx => ((j.o.lt x hx).2 : x < wr.heap.size)
        have HAct : Hid (actB ls.length ls = true) := hact
        clear hact
        go_wp2_with fail
        refine (line_f R a n cap bs q _ j.r (by omega) (by omega) j.r.ha).mono ?_
        rintro e w5 ⟨l, q5, rfl, d5⟩
        have hszL := j.t.size
        replace j := j.pick d5.t d5.r
        have hl := d5.at'
        have la := d5.la
        have lc := d5.lc
        have v0 := d5.q0
        have v1 := d5.q1
        have hs5 := d5.t.size
        clear d5
        have al := (Below.refl w5.heap.size w5).alloc (Nat.le_refl _) (.cells #[.int .i64 l.kind, .int .i64 l.pot, .int .i64 l.skip, .slice l.f.a l.f.n l.f.cap, .slice l.f.c l.f.m l.f.cap', .int .i64 l.f.K] 94)
        have qb := Cel.new w5 [.int .i64 l.kind, .int .i64 l.pot, .int .i64 l.skip, .slice l.f.a l.f.n l.f.cap, .slice l.f.c l.f.m l.f.cap', .int .i64 l.f.K] 94
        replace j := j.below al
        replace hl := hl.below al
        have hs6 := al.size
        clear al
        go_upto_region 19 with fail
        obtain ⟨W6, hW6⟩ : ∃ W, W = w5.alloc (.cells #[.int .i64 l.kind, .int .i64 l.pot, .int .i64 l.skip, .slice l.f.a l.f.n l.f.cap, .slice l.f.c l.f.m l.f.cap', .int .i64 l.f.K] 94) := ⟨_, rfl⟩
        rw [← hW6]
        rw [← hW6] at j qb hl hs6
        clear hW6
        obtain ⟨XB, hXB⟩ : ∃ x, x = w5.heap.size := ⟨_, rfl⟩
        rw [← hXB]
        rw [← hXB] at qb
        clear hXB
        go_cut [78] (fun b wx => b = .bool (actB (k + 1) (ls ++ [l])) ∧ Below W6.heap.size W6 wx)
        case first =>
          refine wp_region_ends (fun X => X.cell? ⟨XB, 0, none⟩ = some (.int .i64 l.kind) ∧ X.cell? ⟨XB, 1, none⟩ = some (.int .i64 l.pot) ∧ X.cell? ⟨XB, 2, none⟩ = some (.int .i64 l.skip) ∧ X.cell? ⟨XB, 3, none⟩ = some (.slice l.f.a l.f.n l.f.cap) ∧ X.cell? ⟨XB, 4, none⟩ = some (.slice l.f.c l.f.m l.f.cap') ∧ X.cell? ⟨XB, 5, none⟩ = some (.int .i64 l.f.K)) (fun _ => True) 7 (by kernel_rfl) ?_
          have HV : Below W6.heap.size W6 W6.drew := (Below.refl _ _).drew
          replace j := j.below HV
          replace qb := qb.below HV
          replace hl := hl.below HV
          obtain ⟨V0, hV0⟩ : ∃ V, V = W6.drew := ⟨_, rfl⟩
          rw [← hV0]
          have hVW : Below W6.heap.size W6 V0 := by rw [hV0]; exact HV
          rw [← hV0] at j qb hl
          clear hV0 HV
          have HV := Below.refl V0.heap.size V0
          obtain ⟨Z0, hZ0⟩ : ∃ z, z = V0.heap.size := ⟨_, rfl⟩
          have HZ : Hid (Z0 = V0.heap.size) := hZ0
          clear hZ0
          have ATS : Hid (∀ i, i < (ls ++ [l]).length → ((ls ++ [l])[i]?.getD noLV).f.At V0) := fun i hi => at_app j.at' hl i hi
          have KP : Hid (∀ X, Below V0.heap.size V0 X → X.cell? ⟨XB, 0, none⟩ = some (.int .i64 l.kind) ∧ X.cell? ⟨XB, 1, none⟩ = some (.int .i64 l.pot) ∧ X.cell? ⟨XB, 2, none⟩ = some (.int .i64 l.skip) ∧ X.cell? ⟨XB, 3, none⟩ = some (.slice l.f.a l.f.n l.f.cap) ∧ X.cell? ⟨XB, 4, none⟩ = some (.slice l.f.c l.f.m l.f.cap') ∧ X.cell? ⟨XB, 5, none⟩ = some (.int .i64 l.f.K)) := fun X hX => by have h := qb.below hX; exact ⟨h.cell 0, h.cell 1, h.cell 2, h.cell 3, h.cell 4, h.cell 5⟩
          have hSS := And.intro (KP.out V0 HV) True.intro
          refine tkL (i := 1) rfl hSS ?_
          refine tkL (i := 3) rfl hSS ?_
          clear hSS
          refine wpAnyE_two (i := 0) (j := 4) (by kernel_rfl) rfl rfl (fun Kn hK => ?_) (fun Kn hK => ?_)
          · go_simp
            have al := (Below.refl V0.heap.size V0).alloc (Nat.le_refl _) (.cells #[] 94)
            have hsz := HV.size
            have o0 := World.ownsRow_lit (base := Z0) (e := 94) (size := 6) V0 #[] 0 (by rw [HZ.out]; exact hsz) (by unfold maxLen; omega) rfl
            replace HV := HV.trans (al.mono hsz)
            clear al
            obtain ⟨Y1, hY1⟩ : ∃ V, V = V0.alloc (.cells #[] 94) := ⟨_, rfl⟩
            rw [← hY1]
            rw [← hY1] at HV o0
            clear hY1
            obtain ⟨L0, hL0⟩ : ∃ x, x = V0.heap.size := ⟨_, rfl⟩
            rw [← hL0]
            rw [← hL0] at o0
            clear hL0 hsz
            have ltL0 : L0 < Y1.heap.size := (o0.lt L0 rfl).2
            refine hK.out _ _ ⟨KP.out _ HV, fun _ => trivial⟩ ?_
            clear hK
            refine wpAnyE_two (i := 2) (j := 4) (by kernel_rfl) rfl rfl (fun Kn hK => ?_) (fun Kn hK => ?_)
            · rw [if_pos (by rfl)]
              refine wp_copyL (.tmp 72) (.tmp 73) rfl Z0 w.heap.size L0 k vad vcap ls (by rfl) o0 (by rfl) (by have h := (j.below HV).o; rw [HK.out] at h; exact h) HK.out (by omega) (by rw [HZ.out]; exact HV.size) ?_
              intro v2 Y2 b2 t2 o2 _
              rw [HZ.out] at b2
              replace HV := HV.trans b2
              clear b2 t2 o0 ltL0
              refine hK.out _ _ ⟨KP.out _ HV, fun _ => trivial⟩ ?_
              clear hK
              refine wpAnyE_one (i := 4) (by kernel_rfl) rfl (fun Kn hK => ?_)
              go_simp
              have al := (Below.refl Y2.heap.size Y2).alloc (Nat.le_refl _) (.cells #[.int .i64 l.kind, .int .i64 l.pot, .int .i64 l.skip, .slice l.f.a l.f.n l.f.cap, .slice l.f.c l.f.m l.f.cap', .int .i64 l.f.K] 94)
              have hsz := HV.size
              have c4 := Cel.new Y2 [.int .i64 l.kind, .int .i64 l.pot, .int .i64 l.skip, .slice l.f.a l.f.n l.f.cap, .slice l.f.c l.f.m l.f.cap', .int .i64 l.f.K] 94
              replace o2 := own_belowL o2 al
              replace HV := HV.trans (al.mono hsz)
              clear al
              obtain ⟨Y3, hY3⟩ : ∃ V, V = Y2.alloc (.cells #[.int .i64 l.kind, .int .i64 l.pot, .int .i64 l.skip, .slice l.f.a l.f.n l.f.cap, .slice l.f.c l.f.m l.f.cap', .int .i64 l.f.K] 94) := ⟨_, rfl⟩
              rw [← hY3]
              rw [← hY3] at HV c4 o2
              clear hY3
              obtain ⟨L4, hL4⟩ : ∃ x, x = Y2.heap.size := ⟨_, rfl⟩
              rw [← hL4]
              rw [← hL4] at c4
              clear hL4 hsz
              have lt4 := c4.lt
              refine hK.out _ _ ⟨KP.out _ HV, fun _ => trivial⟩ ?_
              clear hK
              refine wpAnyE_one (i := 5) (by kernel_rfl) rfl (fun Kn hK => ?_)
              rw [if_pos (by rfl)]
              obtain ⟨a2, cp2, rfl⟩ := own_slice o2
              refine wp_append_lies _ (.tmp 74) (.tmp 76) 43 rfl Z0 94 i0 _ 6 80 Tryd.underlying43 hi hz0 hz1 hz2 rfl (by omega) (.slice a2 k cp2) k (ls.flatMap LV.cs) (by rfl) o2 ⟨L4, 0, none⟩ 1 1 l.cs (by rfl) (by rfl) (World.news_of_block (cs := #[.int .i64 l.kind, .int .i64 l.pot, .int .i64 l.skip, .slice l.f.a l.f.n l.f.cap, .slice l.f.c l.f.m l.f.cap', .int .i64 l.f.K]) (t := 94) (fr := (0, 0)) c4) (by have h := flatL_one [l]; simpa using h) (by omega) (by unfold maxLen; omega) (by omega) (by rw [HZ.out]; exact HV.size) _ rfl ?_
              intro g5 cp5 Y4 hown hgrow _ _
              replace HV := HV.trans ((Below.refl V0.heap.size Y3).grown hgrow HV.size (fun z hz => by have h := (o2.lt z hz).1; rw [HZ.out] at h; exact h))
              have g5G : LinesG Y4 (some ⟨g5, 0, none⟩) (ls ++ [l]) := linesG_own (base := Z0) (by rw [List.flatMap_append]; simpa using hown) (by rw [List.length_append, HK.out]; rfl) (fun i hi => (ATS.out i hi).below HV)
              clear hown hgrow o2 c4
              refine hK.out _ _ ⟨KP.out _ HV, fun _ => trivial⟩ ?_
              clear hK
              refine wpAnyE_one (i := 6) (by kernel_rfl) rfl (fun Kn hK => ?_)
              go_simp
              refine (sact_any _ (k + 1) cp5 (ls ++ [l]) _ (by rw [List.length_append, HK.out]; rfl) g5G (by omega)).mono ?_
              rintro e Y5 ⟨rfl, b6⟩
              replace HV := HV.trans (b6.mono HV.size)
              clear b6 g5G
              dsimp only
              refine hK.out _ _ ⟨KP.out _ HV, fun _ => trivial⟩ ?_
              clear hK
              refine wpAnyE_done (by kernel_rfl) ?_ _
              clear KP ATS
              go_wp2_with fail
              go_meet
              case rel => exact ⟨rfl, hVW.trans (HV.mono hVW.size)⟩
            · go_simp
              have al := (Below.refl Y1.heap.size Y1).alloc (Nat.le_refl _) (.cells #[.int .i64 l.kind, .int .i64 l.pot, .int .i64 l.skip, .slice l.f.a l.f.n l.f.cap, .slice l.f.c l.f.m l.f.cap', .int .i64 l.f.K] 94)
              have hsz := HV.size
              have c4 := Cel.new Y1 [.int .i64 l.kind, .int .i64 l.pot, .int .i64 l.skip, .slice l.f.a l.f.n l.f.cap, .slice l.f.c l.f.m l.f.cap', .int .i64 l.f.K] 94
              replace o0 := own_belowL o0 al
              replace HV := HV.trans (al.mono hsz)
              clear al
              obtain ⟨Y2, hY2⟩ : ∃ V, V = Y1.alloc (.cells #[.int .i64 l.kind, .int .i64 l.pot, .int .i64 l.skip, .slice l.f.a l.f.n l.f.cap, .slice l.f.c l.f.m l.f.cap', .int .i64 l.f.K] 94) := ⟨_, rfl⟩
              rw [← hY2]
              rw [← hY2] at HV c4 o0
              clear hY2
              obtain ⟨L4, hL4⟩ : ∃ x, x = Y1.heap.size := ⟨_, rfl⟩
              rw [← hL4]
              rw [← hL4] at c4
              have n04 : L4 ≠ L0 := by omega
              clear hL4 hsz
              have lt4 := c4.lt
              clear ltL0
              have ltL0 : L0 < Y2.heap.size := (o0.lt L0 rfl).2
              refine hK.out _ _ ⟨KP.out _ HV, fun _ => trivial⟩ ?_
              clear hK
              refine wpAnyE_one (i := 2) (by kernel_rfl) rfl (fun Kn hK => ?_)
              rw [if_pos (by rfl)]
              refine wp_copyL (.tmp 72) (.tmp 73) rfl Z0 w.heap.size L0 k vad vcap ls (by rfl) o0 (by rfl) (by have h := (j.below HV).o; rw [HK.out] at h; exact h) HK.out (by omega) (by rw [HZ.out]; exact HV.size) ?_
              intro v2 Y3 b2 t2 o2 _
              replace c4 := c4.touch t2 n04
              clear lt4
              rw [HZ.out] at b2
              replace HV := HV.trans b2
              clear b2 t2 o0 ltL0
              refine hK.out _ _ ⟨KP.out _ HV, fun _ => trivial⟩ ?_
              clear hK
              refine wpAnyE_one (i := 5) (by kernel_rfl) rfl (fun Kn hK => ?_)
              rw [if_pos (by rfl)]
              obtain ⟨a2, cp2, rfl⟩ := own_slice o2
              refine wp_append_lies _ (.tmp 74) (.tmp 76) 43 rfl Z0 94 i0 _ 6 80 Tryd.underlying43 hi hz0 hz1 hz2 rfl (by omega) (.slice a2 k cp2) k (ls.flatMap LV.cs) (by rfl) o2 ⟨L4, 0, none⟩ 1 1 l.cs (by rfl) (by rfl) (World.news_of_block (cs := #[.int .i64 l.kind, .int .i64 l.pot, .int .i64 l.skip, .slice l.f.a l.f.n l.f.cap, .slice l.f.c l.f.m l.f.cap', .int .i64 l.f.K]) (t := 94) (fr := (0, 0)) c4) (by have h := flatL_one [l]; simpa using h) (by omega) (by unfold maxLen; omega) (by omega) (by rw [HZ.out]; exact HV.size) _ rfl ?_
              intro g5 cp5 Y4 hown hgrow _ _
              replace HV := HV.trans ((Below.refl V0.heap.size Y3).grown hgrow HV.size (fun z hz => by have h := (o2.lt z hz).1; rw [HZ.out] at h; exact h))
              have g5G : LinesG Y4 (some ⟨g5, 0, none⟩) (ls ++ [l]) := linesG_own (base := Z0) (by rw [List.flatMap_append]; simpa using hown) (by rw [List.length_append, HK.out]; rfl) (fun i hi => (ATS.out i hi).below HV)
              clear hown hgrow o2 c4
              refine hK.out _ _ ⟨KP.out _ HV, fun _ => trivial⟩ ?_
              clear hK
              refine wpAnyE_one (i := 6) (by kernel_rfl) rfl (fun Kn hK => ?_)
              go_simp
              refine (sact_any _ (k + 1) cp5 (ls ++ [l]) _ (by rw [List.length_append, HK.out]; rfl) g5G (by omega)).mono ?_
              rintro e Y5 ⟨rfl, b6⟩
              replace HV := HV.trans (b6.mono HV.size)
              clear b6 g5G
              dsimp only
              refine hK.out _ _ ⟨KP.out _ HV, fun _ => trivial⟩ ?_
              clear hK
              refine wpAnyE_done (by kernel_rfl) ?_ _
              clear KP ATS
              go_wp2_with fail
              go_meet
              case rel => exact ⟨rfl, hVW.trans (HV.mono hVW.size)⟩
          · go_simp
            have al := (Below.refl V0.heap.size V0).alloc (Nat.le_refl _) (.cells #[.int .i64 l.kind, .int .i64 l.pot, .int .i64 l.skip, .slice l.f.a l.f.n l.f.cap, .slice l.f.c l.f.m l.f.cap', .int .i64 l.f.K] 94)
            have hsz := HV.size
            have c4 := Cel.new V0 [.int .i64 l.kind, .int .i64 l.pot, .int .i64 l.skip, .slice l.f.a l.f.n l.f.cap, .slice l.f.c l.f.m l.f.cap', .int .i64 l.f.K] 94
            replace HV := HV.trans (al.mono hsz)
            clear al
            obtain ⟨Y1, hY1⟩ : ∃ V, V = V0.alloc (.cells #[.int .i64 l.kind, .int .i64 l.pot, .int .i64 l.skip, .slice l.f.a l.f.n l.f.cap, .slice l.f.c l.f.m l.f.cap', .int .i64 l.f.K] 94) := ⟨_, rfl⟩
            rw [← hY1]
            rw [← hY1] at HV c4
            clear hY1
            obtain ⟨L4, hL4⟩ : ∃ x, x = V0.heap.size := ⟨_, rfl⟩
            rw [← hL4]
            rw [← hL4] at c4
            clear hL4 hsz
            have lt4 := c4.lt
            refine hK.out _ _ ⟨KP.out _ HV, fun _ => trivial⟩ ?_
            clear hK
            refine wpAnyE_one (i := 0) (by kernel_rfl) rfl (fun Kn hK => ?_)
            go_simp
            have al := (Below.refl Y1.heap.size Y1).alloc (Nat.le_refl _) (.cells #[] 94)
            have hsz := HV.size
            have o0 := World.ownsRow_lit (base := Z0) (e := 94) (size := 6) Y1 #[] 0 (by rw [HZ.out]; exact hsz) (by unfold maxLen; omega) rfl
            replace c4 := c4.below al
            replace HV := HV.trans (al.mono hsz)
            clear al
            obtain ⟨Y2, hY2⟩ : ∃ V, V = Y1.alloc (.cells #[] 94) := ⟨_, rfl⟩
            rw [← hY2]
            rw [← hY2] at HV o0 c4
            clear hY2
            obtain ⟨L0, hL0⟩ : ∃ x, x = Y1.heap.size := ⟨_, rfl⟩
            rw [← hL0]
            rw [← hL0] at o0
            have n04 : L4 ≠ L0 := by omega
            clear hL0 hsz
            have ltL0 : L0 < Y2.heap.size := (o0.lt L0 rfl).2
            clear lt4
            have lt4 := c4.lt
            refine hK.out _ _ ⟨KP.out _ HV, fun _ => trivial⟩ ?_
            clear hK
            refine wpAnyE_one (i := 2) (by kernel_rfl) rfl (fun Kn hK => ?_)
            rw [if_pos (by rfl)]
            refine wp_copyL (.tmp 72) (.tmp 73) rfl Z0 w.heap.size L0 k vad vcap ls (by rfl) o0 (by rfl) (by have h := (j.below HV).o; rw [HK.out] at h; exact h) HK.out (by omega) (by rw [HZ.out]; exact HV.size) ?_
            intro v2 Y3 b2 t2 o2 _
            replace c4 := c4.touch t2 n04
            clear lt4
            rw [HZ.out] at b2
            replace HV := HV.trans b2
            clear b2 t2 o0 ltL0
            refine hK.out _ _ ⟨KP.out _ HV, fun _ => trivial⟩ ?_
            clear hK
            refine wpAnyE_one (i := 5) (by kernel_rfl) rfl (fun Kn hK => ?_)
            rw [if_pos (by rfl)]
            obtain ⟨a2, cp2, rfl⟩ := own_slice o2
            refine wp_append_lies _ (.tmp 74) (.tmp 76) 43 rfl Z0 94 i0 _ 6 80 Tryd.underlying43 hi hz0 hz1 hz2 rfl (by omega) (.slice a2 k cp2) k (ls.flatMap LV.cs) (by rfl) o2 ⟨L4, 0, none⟩ 1 1 l.cs (by rfl) (by rfl) (World.news_of_block (cs := #[.int .i64 l.kind, .int .i64 l.pot, .int .i64 l.skip, .slice l.f.a l.f.n l.f.cap, .slice l.f.c l.f.m l.f.cap', .int .i64 l.f.K]) (t := 94) (fr := (0, 0)) c4) (by have h := flatL_one [l]; simpa using h) (by omega) (by unfold maxLen; omega) (by omega) (by rw [HZ.out]; exact HV.size) _ rfl ?_
            intro g5 cp5 Y4 hown hgrow _ _
            replace HV := HV.trans ((Below.refl V0.heap.size Y3).grown hgrow HV.size (fun z hz => by have h := (o2.lt z hz).1; rw [HZ.out] at h; exact h))
            have g5G : LinesG Y4 (some ⟨g5, 0, none⟩) (ls ++ [l]) := linesG_own (base := Z0) (by rw [List.flatMap_append]; simpa using hown) (by rw [List.length_append, HK.out]; rfl) (fun i hi => (ATS.out i hi).below HV)
            clear hown hgrow o2 c4
            refine hK.out _ _ ⟨KP.out _ HV, fun _ => trivial⟩ ?_
            clear hK
            refine wpAnyE_one (i := 6) (by kernel_rfl) rfl (fun Kn hK => ?_)
            go_simp
            refine (sact_any _ (k + 1) cp5 (ls ++ [l]) _ (by rw [List.length_append, HK.out]; rfl) g5G (by omega)).mono ?_
            rintro e Y5 ⟨rfl, b6⟩
            replace HV := HV.trans (b6.mono HV.size)
            clear b6 g5G
            dsimp only
            refine hK.out _ _ ⟨KP.out _ HV, fun _ => trivial⟩ ?_
            clear hK
            refine wpAnyE_done (by kernel_rfl) ?_ _
            clear KP ATS
            go_wp2_with fail
            go_meet
            case rel => exact ⟨rfl, hVW.trans (HV.mono hVW.size)⟩
        case rest =>
          obtain ⟨rfl, HV⟩ := hcut
          replace j := j.below HV
          replace qb := qb.below HV
          replace hl := hl.below HV
          have hs7 := HV.size
          clear HV
          cases h9 : actB (k + 1) (ls ++ [l])
          · go_wp2
            go_roundw
            case rel => exact ⟨m - 1, ls, q5, by go_num, by rw [HK.out]; omega, j, HAct.out, by omega, by omega⟩
            case measure => simp [intOf]; omega
          · have SZ : ∀ i, i < ls.length → (∀ b o, (ls[i]?.getD noLV).f.a = some ⟨b, o, none⟩ → b < wc.heap.size) ∧ (∀ b o, (ls[i]?.getD noLV).f.c = some ⟨b, o, none⟩ → b < wc.heap.size) := fun i hi => ⟨fun b o e => (j.na i hi b o e).2.1, fun b o e => (j.nc i hi b o e).2.1⟩
            have al := (Below.refl wc.heap.size wc).alloc (Nat.le_refl _) (.cells #[.int .i64 l.kind, .int .i64 l.pot, .int .i64 l.skip, .slice l.f.a l.f.n l.f.cap, .slice l.f.c l.f.m l.f.cap', .int .i64 l.f.K] 94)
            have ja := j.below al
            have hla := hl.below al
            have b0 := qb.cell 0
            have b1 := qb.cell 1
            have b2 := qb.cell 2
            have b3 := qb.cell 3
            have b4 := qb.cell 4
            have b5 := qb.cell 5
            simp only [List.getElem?_cons_zero, List.getElem?_cons_succ] at b0 b1 b2 b3 b4 b5
            have hszA := ja.t.size
            clear al j hl
            go_wp2_with (at_builtin; refine wpList_append_lies _ rfl (.tmp 79) (.tmp 81) 43 rfl w.heap.size 94 i0 _ 6 80 Tryd.underlying43 hi hz0 hz1 hz2 rfl (by omega) (.slice vad k vcap) k (ls.flatMap LV.cs) (by rfl) (by have h := ja.o; rw [HK.out] at h; exact h) ⟨wc.heap.size, 0, none⟩ 1 1 l.cs (by rfl) (by rfl) (World.news_of_block (cs := #[.int .i64 l.kind, .int .i64 l.pot, .int .i64 l.skip, .slice l.f.a l.f.n l.f.cap, .slice l.f.c l.f.m l.f.cap', .int .i64 l.f.K]) (t := 94) (fr := (0, 0)) (heap_alloc_new wc _)) (by have h := flatL_one [l]; simpa using h) (by omega) (by unfold maxLen; omega) (by omega) hszA (wc.heap.size + 1) (by rw [World.size_alloc]) ?_)
            intro g9 cp9 w9 hown hgrow hat _
            have jn := ja.app (H := wc.heap.size) HK.out hla (fun b o e => by (have h := la b o e; exact ⟨by omega, by omega, fun e2 => by have := hvb b e2; omega⟩)) (fun b o e => by (have h := lc b o e; exact ⟨by omega, by omega, fun e2 => by have := hvb b e2; omega⟩)) (by rw [World.size_alloc]; omega) SZ hown hgrow (by rcases hat with h | h; exact .inl h; exact .inr (by omega))
            clear hown hgrow ja hla b0 b1 b2 b3 b4 b5
            go_wp2
            go_roundw
            case rel => exact ⟨m - 1, ls ++ [l], q5, by go_num, by rw [List.length_append, HK.out]; simp; omega, jn, by rw [List.length_append, HK.out]; exact h9, by omega, by omega⟩
            case measure => simp [intOf]; omega
      · have hm' : ¬ (0 : Int) < (m : Int) := by omega
        obtain ⟨vad, vcap, rfl⟩ := own_slice j.o
        go_wp2
        go_ret
        exact ⟨vad, ls.length, vcap, rfl, by first | exact ⟨ls, ⟨q, j, by first | exact ⟨rfl, hact, by omega, by omega⟩ | omega⟩⟩ | (refine ⟨ls, ?_⟩; trace_state; simp [hact]; exact ⟨q, j, by omega, by omega⟩)⟩

end Go.Proofs.YtfkcfjkojfnfnaaDoor
namespace Go.Proofs.YtfkcfjkojfnfnaaDoor
open Go.RowKit
set_option linter.unusedVariables false
set_option maxRecDepth 100000

theorem flatL_set : ∀ (ls : List LV) (k r : Nat) (l' : LV) (u : Value), k < ls.length → r < 6 → l'.cs = (ls[k]?.getD noLV).cs.set r u → (ls.set k l').flatMap LV.cs = (ls.flatMap LV.cs).set (k * 6 + r) u := by
  intro ls
  induction ls with
  | nil => intro k r l' u hk; simp at hk
  | cons g gs ih =>
    intro k r l' u hk hr hc
    rcases k with _ | k
    · simp only [List.getElem?_cons_zero, Option.getD_some] at hc
      simp only [List.set_cons_zero, List.flatMap_cons, Nat.zero_mul, Nat.zero_add, hc]
      rw [List.set_append_left _ _ (by simp [LV.cs]; omega)]
    · simp only [List.getElem?_cons_succ] at hc
      simp only [List.set_cons_succ, List.flatMap_cons]
      rw [ih k r l' u (by simpa using hk) hr hc, List.set_append_right _ _ (by simp [LV.cs]; omega)]
      have e : (k + 1) * 6 + r - g.cs.length = k * 6 + r := by simp [LV.cs]; omega
      rw [e]
theorem two_lv {P : LV → Prop} {l m : LV} (h0 : P l) (h1 : P m) : ∀ i, i < [l, m].length → P ([l, m][i]?.getD noLV) := fun i hi => by
  rcases i with _ | _ | i
  · exact h0
  · exact h1
  · simp only [List.length_cons, List.length_nil] at hi; omega
/-- How long a slice is. -/
def lenOf : Value → Nat
  | .slice _ n _ => n
  | _ => 0
theorem getD_set {ls : List LV} {k i : Nat} {l' : LV} (hk : k < ls.length) : (ls.set k l')[i]?.getD noLV = if i = k then l' else ls[i]?.getD noLV := by
  by_cases h : i = k
  · subst h; rw [if_pos rfl, List.getElem?_set_self hk]; rfl
  · rw [if_neg h, List.getElem?_set_ne (fun e => h e.symm)]
section
variable {wL W W' : World} {R : Nat} {a : Option Addr} {n cap : Nat} {bs : List Int} {q : Int} {v : Value} {ls : List LV}
/-- A number of a line is changed. -/
theorem JL.set {g N c k r : Nat} {l' : LV} {u : Value} (j : JL wL R a n cap bs q (.slice (some ⟨g, 0, none⟩) N c) ls W) (hN : ls.length = N) (hk : k < ls.length) (hr : r < 6) (hc : l'.cs = (ls[k]?.getD noLV).cs.set r u) (h1 : u.oneCell' = true)
    (hat : l'.f.At W) (ha : ∀ b o, l'.f.a = some ⟨b, o, none⟩ → wL.heap.size ≤ b ∧ b < W.heap.size ∧ g ≠ b) (hcc : ∀ b o, l'.f.c = some ⟨b, o, none⟩ → wL.heap.size ≤ b ∧ b < W.heap.size ∧ g ≠ b) : JL wL R a n cap bs q (.slice (some ⟨g, 0, none⟩) N c) (ls.set k l') (W.setCell ⟨g, k * 6 + r, none⟩ u) := by
  have hg := j.o.lt g rfl
  have lR := j.lR
  have T : Touch (fun x => x = g) W (W.setCell ⟨g, k * 6 + r, none⟩ u) := Touch.setCell (S := fun x => x = g) (Touch.refl _ _) rfl _
  have o := j.o
  rw [hN] at o
  have hs : (W.setCell ⟨g, k * 6 + r, none⟩ u).heap.size = W.heap.size := size_setCell _ _ _
  have nb : ∀ i, i < ls.length → ∀ b o, (ls[i]?.getD noLV).f.a = some ⟨b, o, none⟩ → ¬ b = g := fun i hi b o e h => (j.na i hi b o e).2.2 (by rw [h]; rfl)
  have nb2 : ∀ i, i < ls.length → ∀ b o, (ls[i]?.getD noLV).f.c = some ⟨b, o, none⟩ → ¬ b = g := fun i hi b o e h => (j.nc i hi b o e).2.2 (by rw [h]; rfl)
  refine ⟨j.t.setNewF hg.1 _ _, j.r.touch T (by omega) (fun h0 b o e h => by have := j.lb h0 b o e; omega), ?_, fun i hi => ?_, fun i hi b o e => ?_, fun i hi b o e => ?_, j.lR, j.lb⟩
  · rw [List.length_set, hN, flatL_set ls k r l' u hk hr hc]
    exact (World.ownsRow.stored o (k * 6 + r) u).1
  · rw [List.length_set] at hi
    rw [getD_set hk]
    by_cases h : i = k
    · rw [if_pos h]; exact hat.off T (fun b o e h2 => (ha b o e).2.2 h2.symm) (fun b o e h2 => (hcc b o e).2.2 h2.symm)
    · rw [if_neg h]; exact (j.at' i hi).off T (nb i hi) (nb2 i hi)
  · rw [List.length_set] at hi
    rw [getD_set hk] at e
    by_cases h : i = k
    · rw [if_pos h] at e; have h3 := ha b o e; exact ⟨h3.1, by omega, fun e2 => h3.2.2 (by simpa [Value.ownBlock] using e2)⟩
    · rw [if_neg h] at e; have h3 := j.na i hi b o e; exact ⟨h3.1, by omega, h3.2.2⟩
  · rw [List.length_set] at hi
    rw [getD_set hk] at e
    by_cases h : i = k
    · rw [if_pos h] at e; have h3 := hcc b o e; exact ⟨h3.1, by omega, fun e2 => h3.2.2 (by simpa [Value.ownBlock] using e2)⟩
    · rw [if_neg h] at e; have h3 := j.nc i hi b o e; exact ⟨h3.1, by omega, h3.2.2⟩
/-- Lines are put behind the others. -/
theorem JL.apps {ns : List LV} {g c k m : Nat} {H : Nat} (j : JL wL R a n cap bs q v ls W) (hk : ls.length = k) (hm : ns.length = m) (hl : ∀ i, i < ns.length → (ns[i]?.getD noLV).f.At W) (la : ∀ i, i < ns.length → ∀ b o, (ns[i]?.getD noLV).f.a = some ⟨b, o, none⟩ → wL.heap.size ≤ b ∧ b < H ∧ v.ownBlock ≠ some b) (lc : ∀ i, i < ns.length → ∀ b o, (ns[i]?.getD noLV).f.c = some ⟨b, o, none⟩ → wL.heap.size ≤ b ∧ b < H ∧ v.ownBlock ≠ some b) (hH : H ≤ W.heap.size) (hsz : ∀ i, i < ls.length → (∀ b o, (ls[i]?.getD noLV).f.a = some ⟨b, o, none⟩ → b < H) ∧ (∀ b o, (ls[i]?.getD noLV).f.c = some ⟨b, o, none⟩ → b < H))
    (hown : W'.ownsRow wL.heap.size 94 6 (.slice (some ⟨g, 0, none⟩) (k + m) c) (k + m) (ls.flatMap LV.cs ++ ns.flatMap LV.cs)) (hg : W.grownBy W' v.ownBlock) (hat : v.ownBlock = some g ∨ H ≤ g) : JL wL R a n cap bs q (.slice (some ⟨g, 0, none⟩) (k + m) c) (ls ++ ns) W' := by
  have hr : ∀ x, v.ownBlock = some x → wL.heap.size ≤ x := fun x hx => (j.o.lt x hx).1
  have lR := j.lR
  have T : Touch (fun x => v.ownBlock = some x) W W' := ⟨hg.os, hg.tape, hg.output, hg.size, fun x hx hs => hg.block x hx (fun e => hs e.symm)⟩
  have hn : ∀ b, v.ownBlock ≠ some b → b < H → (Value.slice (some ⟨g, 0, none⟩) (k + m) c).ownBlock ≠ some b := fun b h1 h2 e => by
    simp only [Value.ownBlock, Option.some.injEq] at e
    rcases hat with h | h
    · rw [h] at h1; exact h1 (by rw [e])
    · omega
  have key : ∀ i, i < (ls ++ ns).length → (i < ls.length ∧ (ls ++ ns)[i]?.getD noLV = ls[i]?.getD noLV) ∨ (i - ls.length < ns.length ∧ (ls ++ ns)[i]?.getD noLV = ns[i - ls.length]?.getD noLV) := fun i hi => by
    by_cases h : i < ls.length
    · left; exact ⟨h, by rw [List.getElem?_append_left h]⟩
    · right
      rw [List.length_append] at hi
      exact ⟨by omega, by rw [List.getElem?_append_right (by omega)]⟩
  have hs := hg.size
  refine ⟨j.t.grown hg hr, j.r.touch T (fun e => by have := hr _ e; omega) (fun h0 b o hab e => by have := j.lb h0 b o hab; have := hr _ e; omega), ?_, fun i hi => ?_, fun i hi b o e => ?_, fun i hi b o e => ?_, j.lR, j.lb⟩
  · rw [List.length_append, hk, hm, List.flatMap_append]
    exact hown
  · rcases key i hi with ⟨h, e⟩ | ⟨h, e⟩
    · rw [e]; exact (j.at' i h).off T (fun b o e h' => (j.na i h b o e).2.2 h') (fun b o e h' => (j.nc i h b o e).2.2 h')
    · rw [e]; exact (hl _ h).off T (fun b o e h' => (la _ h b o e).2.2 h') (fun b o e h' => (lc _ h b o e).2.2 h')
  · rcases key i hi with ⟨h, e'⟩ | ⟨h, e'⟩
    · rw [e'] at e; have h3 := j.na i h b o e; exact ⟨h3.1, by omega, hn b h3.2.2 ((hsz i h).1 b o e)⟩
    · rw [e'] at e; have h3 := la _ h b o e; exact ⟨h3.1, by omega, hn b h3.2.2 h3.2.1⟩
  · rcases key i hi with ⟨h, e'⟩ | ⟨h, e'⟩
    · rw [e'] at e; have h3 := j.nc i h b o e; exact ⟨h3.1, by omega, hn b h3.2.2 ((hsz i h).2 b o e)⟩
    · rw [e'] at e; have h3 := lc _ h b o e; exact ⟨h3.1, by omega, hn b h3.2.2 h3.2.1⟩
end

set_option maxHeartbeats 6400000 in
theorem any_f (R : Nat) (a : Option Addr) (n cap : Nat) (bs : List Int) (p M : Int) (w : World) (rd : Rd w R a n cap bs p) (hp : 0 ≤ p) (hp1 : p ≤ 7000000) (hM : 1 ≤ M) (hM1 : M ≤ 1000) (ha : 0 < n → ∀ b o, a = some ⟨b, o, none⟩ → b < w.heap.size) :
    Calls Tryd.prog 59 #[.pointer (some ⟨R, 0, none⟩), .int .i64 M] w fun e w' => ∃ ad N c ls q, e = .returned (.slice ad N c) ∧ JL w R a n cap bs q (.slice ad N c) ls w' ∧ ls.length = N ∧ N ≤ 8 ∧ p ≤ q ∧ q ≤ p + 120 := by
  have hRl := rd.c.lt
  obtain ⟨i0, hi, hz0, hz1, hz2⟩ := info_parts Tryd.infoLn
  go_enter Tryd.func59, Tryd.ntmps59
  go_wp2_with fail
  refine (act_f R a n cap bs p _ rd hp (by omega) ha).mono ?_
  rintro e w1 ⟨ad, N, c, ls, q, rfl, j, hN, hok, q0, q1⟩
  have HN : Hid (ls.length = N) := hN
  have hN6 : N ≤ 6 := by unfold actB at hok; simp only [Bool.and_eq_true, decide_eq_true_eq] at hok; omega
  clear hN hok rd
  by_cases h0 : N = 0
  · subst h0
    go_wp2
    go_ret
    exact ⟨_, 0, _, ls, q, rfl, j, HN.out, by omega, by omega, by omega⟩
  have h0' : ((N : Int) == 0) = false := by simp; omega
  have hNp : 0 < N := by omega
  obtain ⟨g, rfl⟩ : ∃ g, ad = some ⟨g, 0, none⟩ := by
    rcases j.o.2 with ⟨_, h⟩ | ⟨g, cap', cur, hv, _⟩
    · rw [HN.out] at h; omega
    · simp only [Value.slice.injEq] at hv
      exact ⟨g, hv.1⟩
  go_wp2_with fail
  refine (pick_any R a n cap bs (q) M _ j.r (by omega) (by omega) (by omega) (by omega)).mono ?_
  rintro e w2 ⟨ru, hu0, hu1, rfl, t5, R5⟩
  obtain ⟨u, rfl⟩ := Int.eq_ofNat_of_zero_le hu0
  replace j := j.pick t5 R5
  clear t5 R5 hu0
  by_cases hu : 0 < u
  · have hu' : (0 : Int) < (u : Int) := by omega
    go_wp2
    go_ret
    exact ⟨_, N, c, ls, _, rfl, j, HN.out, by omega, by omega, by omega⟩
  have hu' : ¬ (0 : Int) < (u : Int) := by omega
  go_wp2_with fail
  refine (pick_any R a n cap bs (q + 1) (N : Int) _ j.r (by omega) (by omega) (by omega) (by omega)).mono ?_
  rintro e w4 ⟨rk, hk0, hk1, rfl, t5, R5⟩
  obtain ⟨k, rfl⟩ := Int.eq_ofNat_of_zero_le hk0
  replace j := j.pick t5 R5
  clear t5 R5 hk0
  have hkN : k < N := by omega
  have hkN' : (k : Int) < (N : Int) := by omega
  go_wp2_with fail
  refine (pick_any R a n cap bs (q + 1 + 1) 6 _ j.r (by omega) (by omega) (by omega) (by omega)).mono ?_
  rintro e w5 ⟨rs, hs0, hs1, rfl, t5, R5⟩
  obtain ⟨s, rfl⟩ := Int.eq_ofNat_of_zero_le hs0
  replace j := j.pick t5 R5
  clear t5 R5 hs0
  rcases (show s = 0 ∨ s = 1 ∨ s = 2 ∨ s = 3 ∨ s = 4 ∨ s = 5 from by omega) with rfl | rfl | rfl | rfl | rfl | rfl
  · have al := (Below.refl w5.heap.size w5).alloc (Nat.le_refl _) (.cells #[.int .i64 0, .int .i64 5, .int .i64 4, .int .i64 1] 3)
    have lb := Cel.new w5 [.int .i64 0, .int .i64 5, .int .i64 4, .int .i64 1] 3
    have hsz := j.t.size
    have nl : w5.heap.size ≠ R := by have := j.lR; omega
    replace j := j.below al
    clear al
    go_wp2_with fail
    refine (pick_any R a n cap bs (q + 1 + 1 + 1) 4 _ j.r (by omega) (by omega) (by omega) (by omega)).mono ?_
    rintro e w6 ⟨ri, hi0, hi1, rfl, t5, R5⟩
    obtain ⟨i, rfl⟩ := Int.eq_ofNat_of_zero_le hi0
    replace j := j.pick t5 R5
    replace lb := lb.touch t5 nl
    clear t5 R5 hi0
    have hi' : (i : Int) < 4 := by omega
    have hc := lit_cell (xs := [0, 5, 4, 1]) lb (j := i) (by simp only [List.length_cons, List.length_nil]; omega)
    generalize ([0, 5, 4, 1] : List Int)[i]?.getD 0 = y at hc
    clear lb
    have o := j.o
    rw [HN.out] at o
    have cc := o.cellAt (k * 6 + 0) (by omega)
    rw [flatL_at ls k (by rw [HN.out]; exact hkN) 0 (by omega)] at cc
    have cc' : w6.cell? ⟨g, k * 6 + 0, none⟩ = some (.int .i64 (ls[k]?.getD noLV).kind) := cc
    have ff : w6.frozen? ⟨g, k * 6 + 0, none⟩ = false := o.frozenAt _
    clear cc o
    rw [Nat.add_zero] at cc' ff
    obtain ⟨l, hl⟩ : ∃ l, l = ls[k]?.getD noLV := ⟨_, rfl⟩
    have j' := j.set (k := k) (r := 0) (l' := ⟨y, l.pot, l.skip, l.f⟩) (u := .int .i64 y) HN.out (by rw [HN.out]; exact hkN) (by omega) (by rw [← hl]; rfl) rfl (by rw [hl]; exact j.at' k (by rw [HN.out]; exact hkN)) (fun b o e => by (have h := j.na k (by rw [HN.out]; exact hkN) b o (by rw [← hl]; exact e); exact ⟨h.1, h.2.1, fun e2 => h.2.2 (by rw [e2]; rfl)⟩)) (fun b o e => by (have h := j.nc k (by rw [HN.out]; exact hkN) b o (by rw [← hl]; exact e); exact ⟨h.1, h.2.1, fun e2 => h.2.2 (by rw [e2]; rfl)⟩))
    clear j hl
    rw [Nat.add_zero] at j'
    go_wp2
    go_ret
    exact ⟨_, N, c, _, _, rfl, j', by rw [List.length_set]; exact HN.out, by omega, by omega, by omega⟩
  · have al := (Below.refl w5.heap.size w5).alloc (Nat.le_refl _) (.cells #[.int .i64 (-1), .int .i64 3, .int .i64 2] 3)
    have lb := Cel.new w5 [.int .i64 (-1), .int .i64 3, .int .i64 2] 3
    have hsz := j.t.size
    have nl : w5.heap.size ≠ R := by have := j.lR; omega
    replace j := j.below al
    clear al
    go_wp2_with fail
    refine (pick_any R a n cap bs (q + 1 + 1 + 1) 3 _ j.r (by omega) (by omega) (by omega) (by omega)).mono ?_
    rintro e w6 ⟨ri, hi0, hi1, rfl, t5, R5⟩
    obtain ⟨i, rfl⟩ := Int.eq_ofNat_of_zero_le hi0
    replace j := j.pick t5 R5
    replace lb := lb.touch t5 nl
    clear t5 R5 hi0
    have hi' : (i : Int) < 3 := by omega
    have hc := lit_cell (xs := [-1, 3, 2]) lb (j := i) (by simp only [List.length_cons, List.length_nil]; omega)
    generalize ([-1, 3, 2] : List Int)[i]?.getD 0 = y at hc
    clear lb
    have o := j.o
    rw [HN.out] at o
    have cc := o.cellAt (k * 6 + 1) (by omega)
    rw [flatL_at ls k (by rw [HN.out]; exact hkN) 1 (by omega)] at cc
    have cc' : w6.cell? ⟨g, k * 6 + 1, none⟩ = some (.int .i64 (ls[k]?.getD noLV).pot) := cc
    have ff : w6.frozen? ⟨g, k * 6 + 1, none⟩ = false := o.frozenAt _
    clear cc o
    obtain ⟨l, hl⟩ : ∃ l, l = ls[k]?.getD noLV := ⟨_, rfl⟩
    have j' := j.set (k := k) (r := 1) (l' := ⟨l.kind, y, l.skip, l.f⟩) (u := .int .i64 y) HN.out (by rw [HN.out]; exact hkN) (by omega) (by rw [← hl]; rfl) rfl (by rw [hl]; exact j.at' k (by rw [HN.out]; exact hkN)) (fun b o e => by (have h := j.na k (by rw [HN.out]; exact hkN) b o (by rw [← hl]; exact e); exact ⟨h.1, h.2.1, fun e2 => h.2.2 (by rw [e2]; rfl)⟩)) (fun b o e => by (have h := j.nc k (by rw [HN.out]; exact hkN) b o (by rw [← hl]; exact e); exact ⟨h.1, h.2.1, fun e2 => h.2.2 (by rw [e2]; rfl)⟩))
    clear j hl
    go_wp2
    go_ret
    exact ⟨_, N, c, _, _, rfl, j', by rw [List.length_set]; exact HN.out, by omega, by omega, by omega⟩
  · have al := (Below.refl w5.heap.size w5).alloc (Nat.le_refl _) (.cells #[.int .i64 0, .int .i64 (-1), .int .i64 7, .int .i64 6] 3)
    have lb := Cel.new w5 [.int .i64 0, .int .i64 (-1), .int .i64 7, .int .i64 6] 3
    have hsz := j.t.size
    have nl : w5.heap.size ≠ R := by have := j.lR; omega
    replace j := j.below al
    clear al
    go_wp2_with fail
    refine (pick_any R a n cap bs (q + 1 + 1 + 1) 4 _ j.r (by omega) (by omega) (by omega) (by omega)).mono ?_
    rintro e w6 ⟨ri, hi0, hi1, rfl, t5, R5⟩
    obtain ⟨i, rfl⟩ := Int.eq_ofNat_of_zero_le hi0
    replace j := j.pick t5 R5
    replace lb := lb.touch t5 nl
    clear t5 R5 hi0
    have hi' : (i : Int) < 4 := by omega
    have hc := lit_cell (xs := [0, -1, 7, 6]) lb (j := i) (by simp only [List.length_cons, List.length_nil]; omega)
    generalize ([0, -1, 7, 6] : List Int)[i]?.getD 0 = y at hc
    clear lb
    have o := j.o
    rw [HN.out] at o
    have cc := o.cellAt (k * 6 + 2) (by omega)
    rw [flatL_at ls k (by rw [HN.out]; exact hkN) 2 (by omega)] at cc
    have cc' : w6.cell? ⟨g, k * 6 + 2, none⟩ = some (.int .i64 (ls[k]?.getD noLV).skip) := cc
    have ff : w6.frozen? ⟨g, k * 6 + 2, none⟩ = false := o.frozenAt _
    clear cc o
    obtain ⟨l, hl⟩ : ∃ l, l = ls[k]?.getD noLV := ⟨_, rfl⟩
    have j' := j.set (k := k) (r := 2) (l' := ⟨l.kind, l.pot, y, l.f⟩) (u := .int .i64 y) HN.out (by rw [HN.out]; exact hkN) (by omega) (by rw [← hl]; rfl) rfl (by rw [hl]; exact j.at' k (by rw [HN.out]; exact hkN)) (fun b o e => by (have h := j.na k (by rw [HN.out]; exact hkN) b o (by rw [← hl]; exact e); exact ⟨h.1, h.2.1, fun e2 => h.2.2 (by rw [e2]; rfl)⟩)) (fun b o e => by (have h := j.nc k (by rw [HN.out]; exact hkN) b o (by rw [← hl]; exact e); exact ⟨h.1, h.2.1, fun e2 => h.2.2 (by rw [e2]; rfl)⟩))
    clear j hl
    go_wp2
    go_ret
    exact ⟨_, N, c, _, _, rfl, j', by rw [List.length_set]; exact HN.out, by omega, by omega, by omega⟩
  · go_wp2_with fail
    refine (form_f R a n cap bs (q + 1 + 1 + 1) 2 _ j.r (by omega) (by omega) (by omega) (by omega) j.r.ha).mono ?_
    rintro e w6 ⟨B1, nC, cC, B2, nD, cD, K, LC, LD, q6, rfl, fm⟩
    have hsz5 := (j.o.lt g rfl).2
    have hszL := j.t.size
    replace j := j.pick fm.t fm.r
    have y0 := fm.q0
    have y1 := fm.q1
    have z1 := fm.b1
    have z2 := fm.b2
    have GF := fm.fa K
    have s1 := GF.C.blk fm.c1
    have s2 := GF.D.blk fm.d1
    clear fm
    have o := j.o
    rw [HN.out] at o
    obtain ⟨l, hl⟩ : ∃ l, l = ls[k]?.getD noLV := ⟨_, rfl⟩
    have hkl : k < ls.length := by rw [HN.out]; exact hkN
    have d3 := o.cellAt (k * 6 + 3) (by omega)
    rw [flatL_at ls k hkl 3 (by omega), ← hl] at d3
    have e3 : w6.cell? ⟨g, k * 6 + 3, none⟩ = some (.slice l.f.a l.f.n l.f.cap) := d3
    have f3 : w6.frozen? ⟨g, k * 6 + 3, none⟩ = false := o.frozenAt _
    have d4 := o.cellAt (k * 6 + 4) (by omega)
    rw [flatL_at ls k hkl 4 (by omega), ← hl] at d4
    have e4 : w6.cell? ⟨g, k * 6 + 4, none⟩ = some (.slice l.f.c l.f.m l.f.cap') := d4
    have f4 : w6.frozen? ⟨g, k * 6 + 4, none⟩ = false := o.frozenAt _
    have d5 := o.cellAt (k * 6 + 5) (by omega)
    rw [flatL_at ls k hkl 5 (by omega), ← hl] at d5
    have e5 : w6.cell? ⟨g, k * 6 + 5, none⟩ = some (.int .i64 l.f.K) := d5
    have f5 : w6.frozen? ⟨g, k * 6 + 5, none⟩ = false := o.frozenAt _
    clear d3 d4 d5 o
    have hat := j.at' k hkl
    rw [← hl] at hat
    have hna := j.na k hkl
    have hnc := j.nc k hkl
    rw [← hl] at hna hnc
    have fa1 : ∀ b o, (some ⟨B1, 0, none⟩ : Option Addr) = some ⟨b, o, none⟩ → w.heap.size ≤ b ∧ b < w6.heap.size ∧ g ≠ b := fun b o e => by (simp only [Option.some.injEq, Addr.mk.injEq] at e; exact ⟨by omega, by omega, by omega⟩)
    have fa2 : ∀ b o, (some ⟨B2, 0, none⟩ : Option Addr) = some ⟨b, o, none⟩ → w.heap.size ≤ b ∧ b < w6.heap.size ∧ g ≠ b := fun b o e => by (simp only [Option.some.injEq, Addr.mk.injEq] at e; exact ⟨by omega, by omega, by omega⟩)
    have fo2 : ∀ b o, l.f.c = some ⟨b, o, none⟩ → w.heap.size ≤ b ∧ b < w6.heap.size ∧ g ≠ b := fun b o e => ⟨(hnc b o e).1, (hnc b o e).2.1, fun e2 => (hnc b o e).2.2 (by rw [e2]; rfl)⟩
    have j1 := j.set (k := k) (r := 3) (l' := ⟨l.kind, l.pot, l.skip, ⟨some ⟨B1, 0, none⟩, nC, cC, l.f.c, l.f.m, l.f.cap', l.f.K, LC, l.f.D⟩⟩) (u := .slice (some ⟨B1, 0, none⟩) nC cC) HN.out hkl (by omega) (by rw [← hl]; rfl) rfl ⟨GF.C, hat.D, GF.hn, hat.hm⟩ fa1 fo2
    have sz1 : (w6.setCell ⟨g, k * 6 + 3, none⟩ (.slice (some ⟨B1, 0, none⟩) nC cC)).heap.size = w6.heap.size := size_setCell _ _ _
    have T1 : Touch (fun x => x = g) w6 (w6.setCell ⟨g, k * 6 + 3, none⟩ (.slice (some ⟨B1, 0, none⟩) nC cC)) := Touch.setCell (S := fun x => x = g) (Touch.refl _ _) rfl _
    have GF1 := GF.off T1 (fun b o e h => (fa1 b o e).2.2 h.symm) (fun b o e h => (fa2 b o e).2.2 h.symm)
    have j2 := j1.set (k := k) (r := 4) (l' := ⟨l.kind, l.pot, l.skip, ⟨some ⟨B1, 0, none⟩, nC, cC, some ⟨B2, 0, none⟩, nD, cD, l.f.K, LC, LD⟩⟩) (u := .slice (some ⟨B2, 0, none⟩) nD cD) (by rw [List.length_set]; exact HN.out) (by rw [List.length_set]; exact hkl) (by omega) (by rw [getD_set hkl, if_pos rfl]; rfl) rfl ⟨GF1.C, GF1.D, GF1.hn, GF1.hm⟩ (by rw [sz1]; exact fa1) (by rw [sz1]; exact fa2)
    have sz2 : ((w6.setCell ⟨g, k * 6 + 3, none⟩ (.slice (some ⟨B1, 0, none⟩) nC cC)).setCell ⟨g, k * 6 + 4, none⟩ (.slice (some ⟨B2, 0, none⟩) nD cD)).heap.size = w6.heap.size := by rw [size_setCell]; exact sz1
    have T2 : Touch (fun x => x = g) w6 ((w6.setCell ⟨g, k * 6 + 3, none⟩ (.slice (some ⟨B1, 0, none⟩) nC cC)).setCell ⟨g, k * 6 + 4, none⟩ (.slice (some ⟨B2, 0, none⟩) nD cD)) := Touch.setCell (S := fun x => x = g) T1 rfl _
    have GF2 := GF.off T2 (fun b o e h => (fa1 b o e).2.2 h.symm) (fun b o e h => (fa2 b o e).2.2 h.symm)
    have hk2 : k < (ls.set k ⟨l.kind, l.pot, l.skip, ⟨some ⟨B1, 0, none⟩, nC, cC, l.f.c, l.f.m, l.f.cap', l.f.K, LC, l.f.D⟩⟩).length := by rw [List.length_set]; exact hkl
    have j3 := j2.set (k := k) (r := 5) (l' := ⟨l.kind, l.pot, l.skip, ⟨some ⟨B1, 0, none⟩, nC, cC, some ⟨B2, 0, none⟩, nD, cD, K, LC, LD⟩⟩) (u := .int .i64 K) (by rw [List.length_set, List.length_set]; exact HN.out) (by rw [List.length_set]; exact hk2) (by omega) (by rw [getD_set hk2, if_pos rfl]; rfl) rfl ⟨GF2.C, GF2.D, GF2.hn, GF2.hm⟩ (by rw [sz2]; exact fa1) (by rw [sz2]; exact fa2)
    clear j j1 j2 GF GF1 GF2 T1 T2 hl hat hna hnc
    go_wp2
    go_ret
    exact ⟨_, N, c, _, _, rfl, j3, by rw [List.length_set, List.length_set, List.length_set]; exact HN.out, by omega, by omega, by omega⟩
  · have HKN : Hid (k < N) := hkN
    go_wp2_with fail
    go_loopw [5] (fun v wr => ∃ (g' N' c' : Nat) (ls' : List LV) (q' : Int), v = .slice (some ⟨g', 0, none⟩) N' c' ∧ N ≤ N' ∧ N' ≤ 7 ∧ ls'.length = N' ∧ q' = q + 1 + 1 + 1 ∧ JL w R a n cap bs q' v ls' wr) (fun v _ => 8 - (lenOf v))
    case atStart => exact ⟨g, N, c, ls, _, rfl, by omega, by omega, HN.out, rfl, j⟩
    case round =>
      clear j
      obtain ⟨g', N', c', ls', q', rfl, hNN, hN7, hL, hq', j⟩ := hrel
      have HL : Hid (ls'.length = N') := hL
      clear hL
      by_cases h7 : N' ≤ 6
      · have h7' : (N' : Int) ≤ 6 := by omega
        have hkN2 : (k : Int) < (N' : Int) := by omega
        have hkl : k < ls'.length := by rw [HL.out]; omega
        obtain ⟨b', o', e', hc, hat⟩ := j.g HL.out k hkl
        simp only [Option.some.injEq, Addr.mk.injEq, and_true] at e'
        obtain ⟨rfl, rfl⟩ := e'
        obtain ⟨l, hl⟩ : ∃ l, l = ls'[k]?.getD noLV := ⟨_, rfl⟩
        rw [← hl] at hc hat
        have hna := j.na k hkl
        have hnc := j.nc k hkl
        rw [← hl] at hna hnc
        clear hl
        obtain ⟨x0, x1, x2, x3, x4, x5⟩ := six_of hc
        simp only [Nat.zero_add] at x0 x1 x2 x3 x4 x5
        clear hc
        have SZ : ∀ i, i < ls'.length → (∀ b o, (ls'[i]?.getD noLV).f.a = some ⟨b, o, none⟩ → b < wr.heap.size) ∧ (∀ b o, (ls'[i]?.getD noLV).f.c = some ⟨b, o, none⟩ → b < wr.heap.size) := fun i hi => ⟨fun b o e => (j.na i hi b o e).2.1, fun b o e => (j.nc i hi b o e).2.1⟩
        have al := (Below.refl wr.heap.size wr).alloc (Nat.le_refl _) (.cells #[.int .i64 l.kind, .int .i64 l.pot, .int .i64 l.skip, .slice l.f.a l.f.n l.f.cap, .slice l.f.c l.f.m l.f.cap', .int .i64 l.f.K] 94)
        have ja := j.below al
        have hla := hat.below al
        have hszA := ja.t.size
        clear al j hat
        go_wp2_with (at_builtin; refine wpList_append_lies _ rfl (.tmp 80) (.tmp 85) 43 rfl w.heap.size 94 i0 _ 6 80 Tryd.underlying43 hi hz0 hz1 hz2 rfl (by omega) (.slice (some ⟨g', 0, none⟩) N' c') N' (ls'.flatMap LV.cs) (by rfl) (by have h := ja.o; rw [HL.out] at h; exact h) ⟨wr.heap.size, 0, none⟩ 1 1 l.cs (by rfl) (by rfl) (World.news_of_block (cs := #[.int .i64 l.kind, .int .i64 l.pot, .int .i64 l.skip, .slice l.f.a l.f.n l.f.cap, .slice l.f.c l.f.m l.f.cap', .int .i64 l.f.K]) (t := 94) (fr := (0, 0)) (heap_alloc_new wr _)) (by have h := flatL_one [l]; simpa using h) (by omega) (by unfold maxLen; omega) (by omega) hszA (wr.heap.size + 1) (by rw [World.size_alloc]) ?_)
        intro g9 cp9 w9 hown hgrow hat9 _
        have jn := ja.app (H := wr.heap.size) HL.out hla hna hnc (by rw [World.size_alloc]; omega) SZ hown hgrow (by rcases hat9 with h | h; exact .inl h; exact .inr (by omega))
        clear hown hgrow ja hla x0 x1 x2 x3 x4 x5 hna hnc SZ
        go_wp2
        go_roundw
        case rel => exact ⟨g9, N' + 1, cp9, ls' ++ [l], _, rfl, by omega, by omega, by rw [List.length_append, HL.out]; rfl, hq', jn⟩
        case measure => simp [lenOf]; omega
      · have h7' : ¬ (N' : Int) ≤ 6 := by omega
        go_wp2
        go_ret
        exact ⟨_, N', c', rfl, by first | exact ⟨ls', ⟨q', j, by first | exact ⟨HL.out, by omega, by omega, by omega⟩ | omega⟩⟩ | (refine ⟨ls', ?_⟩; simp [HL.out]; exact ⟨q', j, by omega⟩) | (refine ⟨ls', ⟨q', j, ?_⟩, HL.out, ?_⟩ <;> omega)⟩
  · have hgW := (j.o.lt g rfl).2
    have hlo := j.t.size
    have hRR := j.lR
    go_wp2_with fail
    refine (small_f R a n cap bs (q + 1 + 1 + 1) _ j.r (by omega) (by omega) j.r.ha).mono ?_
    rintro e w6 ⟨BA, DA, LCA, LDA, KA, rfl, t5, R5, f5, _, _, _, _⟩
    have zA1 := f5.b1
    have zA2 := f5.b2
    have lA1 := f5.k1.lt
    have lA2 := f5.k2.lt
    have sA := t5.size
    have GA : FA w6 (some ⟨BA, 0, none⟩) 3 (some ⟨DA, 0, none⟩) 2 (LCA, LDA, KA) := ⟨f5.k1.ints' f5.l1, f5.k2.ints' f5.l2, by omega, by omega⟩
    replace j := j.pick t5 R5
    clear t5 R5 f5
    go_wp2_with fail
    refine (small_f R a n cap bs (q + 1 + 1 + 1 + 6) _ j.r (by omega) (by omega) j.r.ha).mono ?_
    rintro e w7 ⟨BE, DE, LCE, LDE, KE, rfl, t5, R5, f5, _, _, _, _⟩
    have zE1 := f5.b1
    have zE2 := f5.b2
    have lE1 := f5.k1.lt
    have lE2 := f5.k2.lt
    have sE := t5.size
    have GE : FA w7 (some ⟨BE, 0, none⟩) 3 (some ⟨DE, 0, none⟩) 2 (LCE, LDE, KE) := ⟨f5.k1.ints' f5.l1, f5.k2.ints' f5.l2, by omega, by omega⟩
    replace GA := GA.far t5 (lo := w5.heap.size) (fun k hk => by omega) zA1 zA2
    replace j := j.pick t5 R5
    clear t5 R5 f5
    have SZ : ∀ i, i < ls.length → (∀ b o, (ls[i]?.getD noLV).f.a = some ⟨b, o, none⟩ → b < w7.heap.size) ∧ (∀ b o, (ls[i]?.getD noLV).f.c = some ⟨b, o, none⟩ → b < w7.heap.size) := fun i hi => ⟨fun b o e => (j.na i hi b o e).2.1, fun b o e => (j.nc i hi b o e).2.1⟩
    have al := (Below.refl w7.heap.size w7).alloc (Nat.le_refl _) (.cells #[.int .i64 1, .int .i64 0, .int .i64 1, .slice (some ⟨BA, 0, none⟩) 3 3, .slice (some ⟨DA, 0, none⟩) 2 2, .int .i64 KA, .int .i64 1, .int .i64 0, .int .i64 1, .slice (some ⟨BE, 0, none⟩) 3 3, .slice (some ⟨DE, 0, none⟩) 2 2, .int .i64 KE] 94)
    have ja := j.below al
    replace GA := GA.below al
    replace GE := GE.below al
    have hszA := ja.t.size
    clear al j
    go_wp2_with (at_builtin; refine wpList_append_lies _ rfl (.tmp 25) (.tmp 32) 43 rfl w.heap.size 94 i0 _ 6 80 Tryd.underlying43 hi hz0 hz1 hz2 rfl (by omega) (.slice (some ⟨g, 0, none⟩) N c) N (ls.flatMap LV.cs) (by rfl) (by have h := ja.o; rw [HN.out] at h; exact h) ⟨w7.heap.size, 0, none⟩ 2 2 [.int .i64 1, .int .i64 0, .int .i64 1, .slice (some ⟨BA, 0, none⟩) 3 3, .slice (some ⟨DA, 0, none⟩) 2 2, .int .i64 KA, .int .i64 1, .int .i64 0, .int .i64 1, .slice (some ⟨BE, 0, none⟩) 3 3, .slice (some ⟨DE, 0, none⟩) 2 2, .int .i64 KE] (by rfl) (by rfl) (World.news_of_block (cs := #[.int .i64 1, .int .i64 0, .int .i64 1, .slice (some ⟨BA, 0, none⟩) 3 3, .slice (some ⟨DA, 0, none⟩) 2 2, .int .i64 KA, .int .i64 1, .int .i64 0, .int .i64 1, .slice (some ⟨BE, 0, none⟩) 3 3, .slice (some ⟨DE, 0, none⟩) 2 2, .int .i64 KE]) (t := 94) (fr := (0, 0)) (heap_alloc_new w7 _)) (by simp [Value.oneCell']) (by omega) (by unfold maxLen; omega) (by omega) hszA (w7.heap.size + 1) (by rw [World.size_alloc]) ?_)
    intro g9 cp9 w9 hown hgrow hat9 _
    have jn := ja.apps (ns := [⟨1, 0, 1, ⟨some ⟨BA, 0, none⟩, 3, 3, some ⟨DA, 0, none⟩, 2, 2, KA, LCA, LDA⟩⟩, ⟨1, 0, 1, ⟨some ⟨BE, 0, none⟩, 3, 3, some ⟨DE, 0, none⟩, 2, 2, KE, LCE, LDE⟩⟩]) (H := w7.heap.size) HN.out rfl (fun i hi => by (rcases i with _ | _ | i; exact ⟨GA.C, GA.D, GA.hn, GA.hm⟩; exact ⟨GE.C, GE.D, GE.hn, GE.hm⟩; simp only [List.length_cons, List.length_nil] at hi; omega)) (two_lv (P := fun x => ∀ b o, x.f.a = some ⟨b, o, none⟩ → w.heap.size ≤ b ∧ b < w7.heap.size ∧ (Value.slice (some ⟨g, 0, none⟩) N c).ownBlock ≠ some b) (fun b o e => by have e9 : (some ⟨BA, 0, none⟩ : Option Addr) = some ⟨b, o, none⟩ := e; simp only [Option.some.injEq, Addr.mk.injEq] at e9; exact ⟨by omega, by omega, by simp only [Value.ownBlock, ne_eq, Option.some.injEq]; omega⟩) (fun b o e => by have e9 : (some ⟨BE, 0, none⟩ : Option Addr) = some ⟨b, o, none⟩ := e; simp only [Option.some.injEq, Addr.mk.injEq] at e9; exact ⟨by omega, by omega, by simp only [Value.ownBlock, ne_eq, Option.some.injEq]; omega⟩)) (two_lv (P := fun x => ∀ b o, x.f.c = some ⟨b, o, none⟩ → w.heap.size ≤ b ∧ b < w7.heap.size ∧ (Value.slice (some ⟨g, 0, none⟩) N c).ownBlock ≠ some b) (fun b o e => by have e9 : (some ⟨DA, 0, none⟩ : Option Addr) = some ⟨b, o, none⟩ := e; simp only [Option.some.injEq, Addr.mk.injEq] at e9; exact ⟨by omega, by omega, by simp only [Value.ownBlock, ne_eq, Option.some.injEq]; omega⟩) (fun b o e => by have e9 : (some ⟨DE, 0, none⟩ : Option Addr) = some ⟨b, o, none⟩ := e; simp only [Option.some.injEq, Addr.mk.injEq] at e9; exact ⟨by omega, by omega, by simp only [Value.ownBlock, ne_eq, Option.some.injEq]; omega⟩)) (by rw [World.size_alloc]; omega) SZ hown hgrow (by rcases hat9 with h | h; exact .inl h; exact .inr (by omega))
    clear hown hgrow ja SZ
    go_wp2
    go_ret
    exact ⟨_, N + 2, cp9, _, _, rfl, jn, by rw [List.length_append, HN.out]; rfl, by omega, by omega, by omega⟩


end Go.Proofs.YtfkcfjkojfnfnaaDoor
namespace Go.Proofs.YtfkcfjkojfnfnaaDoor
open Go.RowKit
set_option linter.unusedVariables false
set_option maxRecDepth 100000

theorem pRun (ad : Option Addr) (N cap : Nat) (ls : List LV) (v : Option Addr) (p cv : Nat) (V : List Int) (u : Option Addr) (q cu : Nat) (U : List Int) (w : World) (hN : ls.length = N) (hF : LinesG w ad ls) (hN1 : N ≤ 1048576) (hV : Ints w v p V) (hU : Ints w u q U) (hp : p ≤ 1048576) (hq : q ≤ 1048576) :
    Calls Tryd.prog 25 #[.slice ad N cap, .slice v p cv, .slice u q cu] w fun e w' => RunM w w' e (runCode N ls p V q U) (runTells N ls p V q U) (runPots N ls p V q U) :=
  (irun_any ad N cap ls v p cv V u q cu U w hN hF hN1 hV hU hp hq).mono fun e w' h => RunM.of h

theorem qRun (ad : Option Addr) (N cap : Nat) (ls : List LV) (v : Option Addr) (p cv : Nat) (V : List Int) (u : Option Addr) (q cu : Nat) (U : List Int) (w : World) (hN : ls.length = N) (hF : LinesG w ad ls) (hN1 : N ≤ 1048576) (hV : Ints w v p V) (hU : Ints w u q U) (hp : p ≤ 1048576) (hq : q ≤ 1048576) :
    Calls Tryd.prog 26 #[.slice ad N cap, .slice v p cv, .slice u q cu] w fun e w' => RunM w w' e (runCode N ls p V q U) (runTells N ls p V q U) (runPots N ls p V q U) :=
  (srun_any ad N cap ls v p cv V u q cu U w hN hF hN1 hV hU hp hq).mono fun e w' h => RunM.of h

/-- Two results are the same. -/
def coRB (c d : Int) (xs ys : List Int) : Bool := (c == d) && eqB xs ys
theorem coRB_same (c : Int) (xs : List Int) : coRB c c xs xs = true := by simp [coRB, eqB]

set_option maxHeartbeats 800000 in
theorem coR_any (c d : Int) (a : Option Addr) (n cap : Nat) (b : Option Addr) (m cap' : Nat) (xs ys : List Int) (w : World) (h : Ints w a n xs) (h' : Ints w b m ys) (hn : n ≤ 1048576) (hm : m ≤ 1048576) :
    Calls Tryd.prog 22 #[resV c a n cap, resV d b m cap'] w fun e w' => e = .returned (.bool (coRB c d xs ys)) ∧ Below w.heap.size w w' := by
  cases h1 : (c == d)
  · go_enter Tryd.func22, Tryd.ntmps22
    go_wp2
    go_ret
    exact ⟨ret_bool (by simp [coRB, h1]), ((Below.refl _ _).alloc (Nat.le_refl _) _).alloc (by simp) _⟩
  · go_enter Tryd.func22, Tryd.ntmps22
    go_wp2_with fail
    refine (coI_any _ _ _ _ _ _ xs ys _ ((h.alloc _).alloc _) ((h'.alloc _).alloc _) hn hm).mono ?_
    rintro e w1 ⟨rfl, b1⟩
    go_wp2
    go_ret
    exact ⟨ret_bool (by simp [coRB, h1]), (((Below.refl _ _).alloc (Nat.le_refl _) _).alloc (by simp) _).trans (b1.mono (by simp; omega))⟩

set_option maxHeartbeats 1600000 in
theorem dRun (a : Option Addr) (n cap : Nat) (bs : List Int) (w : World) (h : BInts w a n bs) (hn : n ≤ cap) (hn1 : n ≤ 1048576) (hc : cap ≤ maxLen) :
    Calls Tryd.prog 24 #[.slice a n cap] w fun e w' => ∃ ad N c ls va p cv V ua q cu A base, e = .returned (.tuple #[.slice ad N c, .slice va p cv, .slice ua q cu]) ∧ Below w.heap.size w w' ∧ LinesG w' ad ls ∧ ls.length = N ∧ N ≤ 8 ∧ w'.ownsRow base 94 6 (.slice ad N c) N (ls.flatMap LV.cs) ∧ Ints w' va p V ∧ Ints w' ua q A ∧ p ≤ 4 ∧ q ≤ 4 := by
  go_enter Tryd.func24, Tryd.ntmps24
  go_wp2_with fail
  refine (open_any _ _ _ bs _ h hn hn1 hc).mono ?_
  rintro e w1 ⟨R, n', cap2, bs', rfl, b1, hR, r1⟩
  have hRl := r1.c.lt
  go_wp2_with fail
  refine (any_f R a n' cap2 bs' 0 16 _ r1 (by omega) (by omega) (by omega) (by omega) r1.ha).mono ?_
  rintro e w2 ⟨ad, N, c, ls, q, rfl, j, hN, hN8, q0, q1⟩
  go_wp2_with fail
  refine (vals_gen R a n' cap2 bs' q 16 _ j.r (by omega) (by omega) (by omega) (by omega) j.r.ha).mono ?_
  rintro e w3 ⟨va, vp, cv, V, q3, rfl, d3⟩
  have u2 := d3.q0
  have u3 := d3.q1
  have hsz := j.t.size
  replace j := j.pick d3.t d3.r
  go_wp2_with fail
  refine (args_gen R a n' cap2 bs' q3 16 _ d3.r (by omega) (by omega) (by omega) (by omega) d3.r.ha).mono ?_
  rintro e w4 ⟨ua, uq, cu, A, q4, rfl, d4⟩
  replace j := j.pick d4.t d4.r
  have hV := d3.i.off d4.t (fun b o e hs => by have := d3.lo b o e; omega)
  have BB : Below w.heap.size w w4 := b1.trans (j.t.below (by have := b1.size; omega) (fun k hk => by omega))
  have o := j.o
  rw [hN] at o
  have hG := j.g hN
  have hA := d4.i
  have p3 := d3.h4
  have p4 := d4.h4
  clear r1 b1 d3 d4
  go_wp2
  go_ret3
  exact ⟨_, N, c, ls, _, vp, cv, V, _, uq, cu, A, _, rfl, BB, hG, hN, hN8, o, hV, hA, p3, p4⟩

end Go.Proofs.YtfkcfjkojfnfnaaDoor
