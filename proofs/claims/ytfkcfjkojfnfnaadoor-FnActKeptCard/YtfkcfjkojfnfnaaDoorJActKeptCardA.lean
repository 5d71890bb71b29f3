/-
  Lemmas that the claim's last text rests on: DrL, DrLn, DrJl, DrAc, DrAy, RunD, Dig, ResP, Txt, Shelf, TxtI, Twn, TxtJ, ResOkW.
-/
import Derived.Test.YtfkcfjkojfnfnaaDoorDrFm
import Derived.Test.YtfkcfjkojfnfnaaDoorFvC
import Derived.Test.YtfkcfjkojfnfnaaDoorAct
import Derived.Deep.AppendLies
import Derived.Test.YtfkcfjkojfnfnaaDoorRunC
import Derived.Test.YtfkcfjkojfnfnaaDoorBase
import Derived.Lib.ItoaNum
import Derived.Lib.ItoaLen
import Derived.Laws.IdiomStrings
import Derived.Test.YtfkcfjkojfnfnaaDoorForms
import Derived.Test.YtfkcfjkojfnfnaaDoorOpen
import Derived.Lib.Join
import Derived.Shelf.Strings.OnBuilder
import Derived.Shelf.LaysM
import Derived.Shelf.Strconv.Itoa3
import Derived.Ground.Names2Prog
import Derived.Ground.SlgnProg
import Derived.Test.YtfkcfjkojfnfnaaDoorProg
import Derived.Lib.AppendIntMem
namespace Go.Proofs.YtfkcfjkojfnfnaaDoor
open Go.RowKit
set_option linter.unusedVariables false
set_option maxRecDepth 100000

theorem Rd.ha {w : World} {R : Nat} {a : Option Addr} {n cap : Nat} {bs : List Int} {p : Int} (h : Rd w R a n cap bs p) : 0 < n → ∀ b o, a = some ⟨b, o, none⟩ → b < w.heap.size := fun h0 b o hab => by
  obtain ⟨b', o', hab', hcc⟩ := h.b.2.1 0 h0
  rw [hab] at hab'
  simp only [Option.some.injEq, Addr.mk.injEq, and_true] at hab'
  have := block_lt hcc
  omega
theorem Ints.off {S : Nat → Prop} {w w' : World} {a : Option Addr} {n : Nat} {zs : List Int} (h : Ints w a n zs) (t : Touch S w w') (hS : ∀ b o, a = some ⟨b, o, none⟩ → ¬ S b) : Ints w' a n zs := by
  refine ⟨h.1, fun i hi => ?_⟩
  obtain ⟨b, off, hab, hc⟩ := h.2 i hi
  exact ⟨b, off, hab, (World.cell?_of_block (t.block b (block_lt hc) (hS b off hab))).trans hc⟩
theorem FA.off {S : Nat → Prop} {w w' : World} {a c : Option Addr} {n m : Nat} {f : Frm} (h : FA w a n c m f) (t : Touch S w w') (h1 : ∀ b o, a = some ⟨b, o, none⟩ → ¬ S b) (h2 : ∀ b o, c = some ⟨b, o, none⟩ → ¬ S b) : FA w' a n c m f := ⟨h.C.off t h1, h.D.off t h2, h.hn, h.hm⟩
theorem FmN.fa {w W : World} {R : Nat} {a : Option Addr} {n cap : Nat} {bs : List Int} {p q : Int} {B1 nC B2 nD : Nat} {C D : List Int} (h : FmN w W R a n cap bs p q B1 nC B2 nD C D) (K : Int) : FA W (some ⟨B1, 0, none⟩) nC (some ⟨B2, 0, none⟩) nD (C, D, K) := ⟨h.c, h.d, by have := h.c4; omega, by have := h.d4; omega⟩
/-- A form that lies past a place. -/
theorem FA.far {S : Nat → Prop} {w w' : World} {B1 B2 n m lo : Nat} {f : Frm} (h : FA w (some ⟨B1, 0, none⟩) n (some ⟨B2, 0, none⟩) m f) (t : Touch S w w') (hS : ∀ k, S k → k < lo) (h1 : lo ≤ B1) (h2 : lo ≤ B2) : FA w' (some ⟨B1, 0, none⟩) n (some ⟨B2, 0, none⟩) m f :=
  h.off t (fun b o e hs => by simp only [Option.some.injEq, Addr.mk.injEq] at e; have := hS b hs; omega) (fun b o e hs => by simp only [Option.some.injEq, Addr.mk.injEq] at e; have := hS b hs; omega)
theorem FA.setFar {w : World} {B1 B2 n m X : Nat} {f : Frm} (h : FA w (some ⟨B1, 0, none⟩) n (some ⟨B2, 0, none⟩) m f) (h1 : B1 ≠ X) (h2 : B2 ≠ X) (i : Nat) (v : Value) : FA (w.setCell ⟨X, i, none⟩ v) (some ⟨B1, 0, none⟩) n (some ⟨B2, 0, none⟩) m f :=
  ⟨h.C.setFar (fun b o e => by simp only [Option.some.injEq, Addr.mk.injEq] at e; omega) i v, h.D.setFar (fun b o e => by simp only [Option.some.injEq, Addr.mk.injEq] at e; omega) i v, h.hn, h.hm⟩

end Go.Proofs.YtfkcfjkojfnfnaaDoor
namespace Go.Proofs.YtfkcfjkojfnfnaaDoor
open Go.RowKit
set_option linter.unusedVariables false
set_option maxRecDepth 100000

/-- A line as a value. -/
abbrev lnV (l : LV) : Value := .agg #[.int .i64 l.kind, .int .i64 l.pot, .int .i64 l.skip, .slice l.f.a l.f.n l.f.cap, .slice l.f.c l.f.m l.f.cap', .int .i64 l.f.K]
theorem allB_of {m : Int} {zs : List Int} (h : bnd m zs) : allB m zs = true := by
  unfold allB
  rw [List.all_eq_true]
  intro x hx
  obtain ⟨i, hi, rfl⟩ := List.getElem_of_mem hx
  have := h i
  rw [List.getElem?_eq_getElem hi] at this
  exact inB_iff.2 this
theorem small_of {C D : List Int} {K : Int} (hC : bnd 2 C) (hD : bnd 2 D) (h1 : -20 ≤ K) (h2 : K ≤ 20) : smallB 3 2 C D K = true := by
  unfold smallB okN
  rw [allB_of hC, allB_of hD, inB_iff.2 ⟨h1, h2⟩]
  rfl
theorem lok1 {n m : Nat} {C D : List Int} {K skip : Int} (h : smallB n m C D K = true) (h1 : 1 ≤ skip) (h2 : skip ≤ 6) : lineB 1 0 skip n m C D K = true := by
  unfold lineB
  rw [if_pos rfl, h, inB_iff.2 ⟨h1, h2⟩]
  rfl
theorem lok2 {n m : Nat} {C D : List Int} {K pot : Int} (h : smallB n m C D K = true) (h1 : 0 ≤ pot) (h2 : pot ≤ 2) : lineB 2 pot 0 n m C D K = true := by
  unfold lineB
  rw [if_neg (by decide), if_pos rfl, h, inB_iff.2 ⟨h1, h2⟩]
  rfl
theorem lok3 {n m : Nat} {C D : List Int} {K : Int} (h : smallB n m C D K = true) : lineB 3 0 0 n m C D K = true := by
  unfold lineB
  rw [if_neg (by decide), if_neg (by decide), if_pos rfl, h]
  rfl
theorem Ints.blk {W : World} {B o n : Nat} {zs : List Int} (h : Ints W (some ⟨B, o, none⟩) n zs) (hn : 0 < n) : B < W.heap.size := by
  obtain ⟨b, off, e, hc⟩ := h.2 0 hn
  simp only [Option.some.injEq, Addr.mk.injEq] at e
  have := block_lt hc
  omega
/-- A line was drawn: it is ok, its lists lie in new memory, the reader has gone on. -/
structure LnN (w w' : World) (R : Nat) (a : Option Addr) (n cap : Nat) (bs : List Int) (p q : Int) (l : LV) : Prop where
  t : Touch (fun x => x = R) w w'
  r : Rd w' R a n cap bs q
  at' : l.f.At w'
  la : ∀ b o, l.f.a = some ⟨b, o, none⟩ → w.heap.size ≤ b ∧ b < w'.heap.size
  lc : ∀ b o, l.f.c = some ⟨b, o, none⟩ → w.heap.size ≤ b ∧ b < w'.heap.size
  ok : l.ok = true
  q0 : p ≤ q
  q1 : q ≤ p + 12

set_option maxHeartbeats 12800000 in
theorem line_f (R : Nat) (a : Option Addr) (n cap : Nat) (bs : List Int) (p : Int) (w : World) (rd : Rd w R a n cap bs p) (hp : 0 ≤ p) (hp1 : p ≤ 8000000) (ha : 0 < n → ∀ b o, a = some ⟨b, o, none⟩ → b < w.heap.size) :
    Calls Tryd.prog 112 #[.pointer (some ⟨R, 0, none⟩)] w fun e w' => ∃ l q, e = .returned (lnV l) ∧ LnN w w' R a n cap bs p q l := by
  have hRl := rd.c.lt
  have ha0 := ha
  have q0 := Cel.new w [.int .i64 0, .int .i64 0, .int .i64 0, .slice none 0 0, .slice none 0 0, .int .i64 0] 94
  have al := (Below.refl w.heap.size w).alloc (Nat.le_refl _) (.cells #[.int .i64 0, .int .i64 0, .int .i64 0, .slice none 0 0, .slice none 0 0, .int .i64 0] 94)
  have nq0 : w.heap.size ≠ R := by omega
  have TT : Touch (fun x => x = R) w (w.alloc (.cells #[.int .i64 0, .int .i64 0, .int .i64 0, .slice none 0 0, .slice none 0 0, .int .i64 0] 94)) := Touch.of al
  replace rd := rd.below al
  clear al
  go_enter Tryd.func112, Tryd.ntmps112
  go_wp2_with fail
  obtain ⟨W2, hW2⟩ : ∃ W, W = (w.alloc (.cells #[.int .i64 0, .int .i64 0, .int .i64 0, .slice none 0 0, .slice none 0 0, .int .i64 0] 94)) := ⟨_, rfl⟩
  rw [← hW2]
  rw [← hW2] at TT rd q0
  clear hW2
  refine (pick_any R a n cap bs (p) 7 _ rd (by omega) (by omega) (by omega) (by omega)).mono ?_
  rintro e w3 ⟨rj, hj0, hj1, rfl, t5, R5⟩
  obtain ⟨j, rfl⟩ := Int.eq_ofNat_of_zero_le hj0
  clear hj0
  replace q0 := q0.touch t5 nq0
  replace TT := TT.trans t5
  replace rd := R5
  clear t5 R5
  rcases (show j = 0 ∨ j = 1 ∨ j = 2 ∨ j = 3 ∨ j = 4 ∨ j = 5 ∨ j = 6 from by omega) with rfl | rfl | rfl | rfl | rfl | rfl | rfl
  · go_wp2_with fail
    refine (pick_any R a n cap bs (p + 1) 3 _ rd (by omega) (by omega) (by omega) (by omega)).mono ?_
    rintro e w4 ⟨ri, hi0, hi1, rfl, t5, R5⟩
    obtain ⟨i, rfl⟩ := Int.eq_ofNat_of_zero_le hi0
    clear hi0
    replace q0 := q0.touch t5 nq0
    replace TT := TT.trans t5
    replace rd := R5
    clear t5 R5
    go_wp2_with fail
    have xA := q0.lt
    refine (small_f R a n cap bs (p + 1 + 1) _ rd (by omega) (by omega) rd.ha).mono ?_
    rintro e w5 ⟨BA, DA, LCA, LDA, KA, rfl, t5, R5, f5, sCA, sDA, sKA1, sKA2⟩
    have zA1 : w.heap.size ≤ BA := Nat.le_trans TT.size f5.b1
    have zA2 : w.heap.size ≤ DA := Nat.le_trans TT.size f5.b2
    have lCA := f5.l1
    have lDA := f5.l2
    have GA : FA w5 (some ⟨BA, 0, none⟩) 3 (some ⟨DA, 0, none⟩) 2 (LCA, LDA, KA) := ⟨f5.k1.ints' f5.l1, f5.k2.ints' f5.l2, by omega, by omega⟩
    have ltCA := f5.k1.lt
    have ltDA := f5.k2.lt
    have nCDA := f5.ne
    have yA1 := f5.b1
    have yA2 := f5.b2
    clear f5
    replace q0 := q0.touch t5 nq0
    replace TT := TT.trans t5
    replace rd := R5
    clear t5 R5
    have gq0_0 := q0.cell 0
    have gq0_1 := q0.cell 1
    have gq0_2 := q0.cell 2
    have gq0_3 := q0.cell 3
    have gq0_4 := q0.cell 4
    have gq0_5 := q0.cell 5
    simp only [List.getElem?_cons_zero, List.getElem?_cons_succ] at gq0_0 gq0_1 gq0_2 gq0_3 gq0_4 gq0_5
    have fq0_0 := q0.free 0
    have fq0_1 := q0.free 1
    have fq0_2 := q0.free 2
    have fq0_3 := q0.free 3
    have fq0_4 := q0.free 4
    have fq0_5 := q0.free 5
    have lq0 := q0.lt
    go_wp2
    clear gq0_0 gq0_1 gq0_2 gq0_3 gq0_4 gq0_5 fq0_0 fq0_1 fq0_2 fq0_3 fq0_4 fq0_5 lq0
    have hwt := TT.size
    have hlq := q0.lt
    replace q0 := q0.set 0 (.int .i64 1)
    replace GA := GA.setFar (X := w.heap.size) (by omega) (by omega) 0 (.int .i64 1)
    replace rd := rd.setNew (B := w.heap.size) (by omega) (fun h0 b o e => by have := ha0 h0 b o e; omega) 0 (.int .i64 1)
    replace TT := TT.setNewF (B := w.heap.size) (by omega) 0 (.int .i64 1)
    replace q0 := q0.set 1 (.int .i64 0)
    replace GA := GA.setFar (X := w.heap.size) (by omega) (by omega) 1 (.int .i64 0)
    replace rd := rd.setNew (B := w.heap.size) (by omega) (fun h0 b o e => by have := ha0 h0 b o e; omega) 1 (.int .i64 0)
    replace TT := TT.setNewF (B := w.heap.size) (by omega) 1 (.int .i64 0)
    replace q0 := q0.set 2 (.int .i64 (1 + (i : Int)))
    replace GA := GA.setFar (X := w.heap.size) (by omega) (by omega) 2 (.int .i64 (1 + (i : Int)))
    replace rd := rd.setNew (B := w.heap.size) (by omega) (fun h0 b o e => by have := ha0 h0 b o e; omega) 2 (.int .i64 (1 + (i : Int)))
    replace TT := TT.setNewF (B := w.heap.size) (by omega) 2 (.int .i64 (1 + (i : Int)))
    replace q0 := q0.set 3 (.slice (some ⟨BA, 0, none⟩) 3 3)
    replace GA := GA.setFar (X := w.heap.size) (by omega) (by omega) 3 (.slice (some ⟨BA, 0, none⟩) 3 3)
    replace rd := rd.setNew (B := w.heap.size) (by omega) (fun h0 b o e => by have := ha0 h0 b o e; omega) 3 (.slice (some ⟨BA, 0, none⟩) 3 3)
    replace TT := TT.setNewF (B := w.heap.size) (by omega) 3 (.slice (some ⟨BA, 0, none⟩) 3 3)
    replace q0 := q0.set 4 (.slice (some ⟨DA, 0, none⟩) 2 2)
    replace GA := GA.setFar (X := w.heap.size) (by omega) (by omega) 4 (.slice (some ⟨DA, 0, none⟩) 2 2)
    replace rd := rd.setNew (B := w.heap.size) (by omega) (fun h0 b o e => by have := ha0 h0 b o e; omega) 4 (.slice (some ⟨DA, 0, none⟩) 2 2)
    replace TT := TT.setNewF (B := w.heap.size) (by omega) 4 (.slice (some ⟨DA, 0, none⟩) 2 2)
    replace q0 := q0.set 5 (.int .i64 KA)
    replace GA := GA.setFar (X := w.heap.size) (by omega) (by omega) 5 (.int .i64 KA)
    replace rd := rd.setNew (B := w.heap.size) (by omega) (fun h0 b o e => by have := ha0 h0 b o e; omega) 5 (.int .i64 KA)
    replace TT := TT.setNewF (B := w.heap.size) (by omega) 5 (.int .i64 KA)
    obtain ⟨W6, hW6⟩ : ∃ W, W = ((((((w5.setCell ⟨w.heap.size, 0, none⟩ (.int .i64 1)).setCell ⟨w.heap.size, 1, none⟩ (.int .i64 0)).setCell ⟨w.heap.size, 2, none⟩ (.int .i64 (1 + (i : Int)))).setCell ⟨w.heap.size, 3, none⟩ (.slice (some ⟨BA, 0, none⟩) 3 3)).setCell ⟨w.heap.size, 4, none⟩ (.slice (some ⟨DA, 0, none⟩) 2 2)).setCell ⟨w.heap.size, 5, none⟩ (.int .i64 KA)) := ⟨_, rfl⟩
    rw [← hW6]
    rw [← hW6] at TT rd q0 GA
    clear hW6
    have hws := TT.size
    have u0 : W6.cell? ⟨w.heap.size, 0, none⟩ = some (.int .i64 1) := q0.cell 0
    have u1 : W6.cell? ⟨w.heap.size, 1, none⟩ = some (.int .i64 0) := q0.cell 1
    have u2 : W6.cell? ⟨w.heap.size, 2, none⟩ = some (.int .i64 (1 + (i : Int))) := q0.cell 2
    have u3 : W6.cell? ⟨w.heap.size, 3, none⟩ = some (.slice (some ⟨BA, 0, none⟩) 3 3) := q0.cell 3
    have u4 : W6.cell? ⟨w.heap.size, 4, none⟩ = some (.slice (some ⟨DA, 0, none⟩) 2 2) := q0.cell 4
    have u5 : W6.cell? ⟨w.heap.size, 5, none⟩ = some (.int .i64 KA) := q0.cell 5
    refine bodyPost_ret (v := lnV ⟨1, 0, (1 + (i : Int)), ⟨some ⟨BA, 0, none⟩, 3, 3, some ⟨DA, 0, none⟩, 2, 2, KA, LCA, LDA⟩⟩) (by simp [results, Tryd.results112, go_sem, u0, u1, u2, u3, u4, u5]) rfl ⟨⟨1, 0, (1 + (i : Int)), ⟨some ⟨BA, 0, none⟩, 3, 3, some ⟨DA, 0, none⟩, 2, 2, KA, LCA, LDA⟩⟩, _, rfl, ⟨TT, rd, ⟨GA.C, GA.D, by simp only []; omega, by simp only []; omega⟩, fun b o e => by simp only [Option.some.injEq, Addr.mk.injEq] at e; have hb := GA.C.blk (by omega); omega, fun b o e => by simp only [Option.some.injEq, Addr.mk.injEq] at e; have hb := GA.D.blk (by omega); omega, lok1 (skip := 1 + (i : Int)) (small_of sCA sDA sKA1 sKA2) (by omega) (by omega), by omega, by omega⟩⟩
  · go_wp2_with fail
    refine (pick_any R a n cap bs (p + 1) 3 _ rd (by omega) (by omega) (by omega) (by omega)).mono ?_
    rintro e w4 ⟨ri, hi0, hi1, rfl, t5, R5⟩
    obtain ⟨i, rfl⟩ := Int.eq_ofNat_of_zero_le hi0
    clear hi0
    replace q0 := q0.touch t5 nq0
    replace TT := TT.trans t5
    replace rd := R5
    clear t5 R5
    go_wp2_with fail
    have xA := q0.lt
    refine (small_f R a n cap bs (p + 1 + 1) _ rd (by omega) (by omega) rd.ha).mono ?_
    rintro e w5 ⟨BA, DA, LCA, LDA, KA, rfl, t5, R5, f5, sCA, sDA, sKA1, sKA2⟩
    have zA1 : w.heap.size ≤ BA := Nat.le_trans TT.size f5.b1
    have zA2 : w.heap.size ≤ DA := Nat.le_trans TT.size f5.b2
    have lCA := f5.l1
    have lDA := f5.l2
    have GA : FA w5 (some ⟨BA, 0, none⟩) 3 (some ⟨DA, 0, none⟩) 2 (LCA, LDA, KA) := ⟨f5.k1.ints' f5.l1, f5.k2.ints' f5.l2, by omega, by omega⟩
    have ltCA := f5.k1.lt
    have ltDA := f5.k2.lt
    have nCDA := f5.ne
    have yA1 := f5.b1
    have yA2 := f5.b2
    clear f5
    replace q0 := q0.touch t5 nq0
    replace TT := TT.trans t5
    replace rd := R5
    clear t5 R5
    have gq0_0 := q0.cell 0
    have gq0_1 := q0.cell 1
    have gq0_2 := q0.cell 2
    have gq0_3 := q0.cell 3
    have gq0_4 := q0.cell 4
    have gq0_5 := q0.cell 5
    simp only [List.getElem?_cons_zero, List.getElem?_cons_succ] at gq0_0 gq0_1 gq0_2 gq0_3 gq0_4 gq0_5
    have fq0_0 := q0.free 0
    have fq0_1 := q0.free 1
    have fq0_2 := q0.free 2
    have fq0_3 := q0.free 3
    have fq0_4 := q0.free 4
    have fq0_5 := q0.free 5
    have lq0 := q0.lt
    go_wp2
    clear gq0_0 gq0_1 gq0_2 gq0_3 gq0_4 gq0_5 fq0_0 fq0_1 fq0_2 fq0_3 fq0_4 fq0_5 lq0
    have hwt := TT.size
    have hlq := q0.lt
    replace q0 := q0.set 0 (.int .i64 1)
    replace GA := GA.setFar (X := w.heap.size) (by omega) (by omega) 0 (.int .i64 1)
    replace rd := rd.setNew (B := w.heap.size) (by omega) (fun h0 b o e => by have := ha0 h0 b o e; omega) 0 (.int .i64 1)
    replace TT := TT.setNewF (B := w.heap.size) (by omega) 0 (.int .i64 1)
    replace q0 := q0.set 1 (.int .i64 0)
    replace GA := GA.setFar (X := w.heap.size) (by omega) (by omega) 1 (.int .i64 0)
    replace rd := rd.setNew (B := w.heap.size) (by omega) (fun h0 b o e => by have := ha0 h0 b o e; omega) 1 (.int .i64 0)
    replace TT := TT.setNewF (B := w.heap.size) (by omega) 1 (.int .i64 0)
    replace q0 := q0.set 2 (.int .i64 (1 + (i : Int)))
    replace GA := GA.setFar (X := w.heap.size) (by omega) (by omega) 2 (.int .i64 (1 + (i : Int)))
    replace rd := rd.setNew (B := w.heap.size) (by omega) (fun h0 b o e => by have := ha0 h0 b o e; omega) 2 (.int .i64 (1 + (i : Int)))
    replace TT := TT.setNewF (B := w.heap.size) (by omega) 2 (.int .i64 (1 + (i : Int)))
    replace q0 := q0.set 3 (.slice (some ⟨BA, 0, none⟩) 3 3)
    replace GA := GA.setFar (X := w.heap.size) (by omega) (by omega) 3 (.slice (some ⟨BA, 0, none⟩) 3 3)
    replace rd := rd.setNew (B := w.heap.size) (by omega) (fun h0 b o e => by have := ha0 h0 b o e; omega) 3 (.slice (some ⟨BA, 0, none⟩) 3 3)
    replace TT := TT.setNewF (B := w.heap.size) (by omega) 3 (.slice (some ⟨BA, 0, none⟩) 3 3)
    replace q0 := q0.set 4 (.slice (some ⟨DA, 0, none⟩) 2 2)
    replace GA := GA.setFar (X := w.heap.size) (by omega) (by omega) 4 (.slice (some ⟨DA, 0, none⟩) 2 2)
    replace rd := rd.setNew (B := w.heap.size) (by omega) (fun h0 b o e => by have := ha0 h0 b o e; omega) 4 (.slice (some ⟨DA, 0, none⟩) 2 2)
    replace TT := TT.setNewF (B := w.heap.size) (by omega) 4 (.slice (some ⟨DA, 0, none⟩) 2 2)
    replace q0 := q0.set 5 (.int .i64 KA)
    replace GA := GA.setFar (X := w.heap.size) (by omega) (by omega) 5 (.int .i64 KA)
    replace rd := rd.setNew (B := w.heap.size) (by omega) (fun h0 b o e => by have := ha0 h0 b o e; omega) 5 (.int .i64 KA)
    replace TT := TT.setNewF (B := w.heap.size) (by omega) 5 (.int .i64 KA)
    obtain ⟨W6, hW6⟩ : ∃ W, W = ((((((w5.setCell ⟨w.heap.size, 0, none⟩ (.int .i64 1)).setCell ⟨w.heap.size, 1, none⟩ (.int .i64 0)).setCell ⟨w.heap.size, 2, none⟩ (.int .i64 (1 + (i : Int)))).setCell ⟨w.heap.size, 3, none⟩ (.slice (some ⟨BA, 0, none⟩) 3 3)).setCell ⟨w.heap.size, 4, none⟩ (.slice (some ⟨DA, 0, none⟩) 2 2)).setCell ⟨w.heap.size, 5, none⟩ (.int .i64 KA)) := ⟨_, rfl⟩
    rw [← hW6]
    rw [← hW6] at TT rd q0 GA
    clear hW6
    have hws := TT.size
    have u0 : W6.cell? ⟨w.heap.size, 0, none⟩ = some (.int .i64 1) := q0.cell 0
    have u1 : W6.cell? ⟨w.heap.size, 1, none⟩ = some (.int .i64 0) := q0.cell 1
    have u2 : W6.cell? ⟨w.heap.size, 2, none⟩ = some (.int .i64 (1 + (i : Int))) := q0.cell 2
    have u3 : W6.cell? ⟨w.heap.size, 3, none⟩ = some (.slice (some ⟨BA, 0, none⟩) 3 3) := q0.cell 3
    have u4 : W6.cell? ⟨w.heap.size, 4, none⟩ = some (.slice (some ⟨DA, 0, none⟩) 2 2) := q0.cell 4
    have u5 : W6.cell? ⟨w.heap.size, 5, none⟩ = some (.int .i64 KA) := q0.cell 5
    refine bodyPost_ret (v := lnV ⟨1, 0, (1 + (i : Int)), ⟨some ⟨BA, 0, none⟩, 3, 3, some ⟨DA, 0, none⟩, 2, 2, KA, LCA, LDA⟩⟩) (by simp [results, Tryd.results112, go_sem, u0, u1, u2, u3, u4, u5]) rfl ⟨⟨1, 0, (1 + (i : Int)), ⟨some ⟨BA, 0, none⟩, 3, 3, some ⟨DA, 0, none⟩, 2, 2, KA, LCA, LDA⟩⟩, _, rfl, ⟨TT, rd, ⟨GA.C, GA.D, by simp only []; omega, by simp only []; omega⟩, fun b o e => by simp only [Option.some.injEq, Addr.mk.injEq] at e; have hb := GA.C.blk (by omega); omega, fun b o e => by simp only [Option.some.injEq, Addr.mk.injEq] at e; have hb := GA.D.blk (by omega); omega, lok1 (skip := 1 + (i : Int)) (small_of sCA sDA sKA1 sKA2) (by omega) (by omega), by omega, by omega⟩⟩
  · go_wp2_with fail
    have xA := q0.lt
    refine (small_f R a n cap bs (p + 1) _ rd (by omega) (by omega) rd.ha).mono ?_
    rintro e w4 ⟨BA, DA, LCA, LDA, KA, rfl, t5, R5, f5, sCA, sDA, sKA1, sKA2⟩
    have zA1 : w.heap.size ≤ BA := Nat.le_trans TT.size f5.b1
    have zA2 : w.heap.size ≤ DA := Nat.le_trans TT.size f5.b2
    have lCA := f5.l1
    have lDA := f5.l2
    have GA : FA w4 (some ⟨BA, 0, none⟩) 3 (some ⟨DA, 0, none⟩) 2 (LCA, LDA, KA) := ⟨f5.k1.ints' f5.l1, f5.k2.ints' f5.l2, by omega, by omega⟩
    have ltCA := f5.k1.lt
    have ltDA := f5.k2.lt
    have nCDA := f5.ne
    have yA1 := f5.b1
    have yA2 := f5.b2
    clear f5
    replace q0 := q0.touch t5 nq0
    replace TT := TT.trans t5
    replace rd := R5
    clear t5 R5
    have hwt := TT.size
    have hlq := q0.lt
    have al := (Below.refl w4.heap.size w4).alloc (Nat.le_refl _) (.cells #[.slice (some ⟨BA, 0, none⟩) 3 3, .slice (some ⟨DA, 0, none⟩) 2 2, .int .i64 KA] 25)
    have qf := Cel.new w4 [.slice (some ⟨BA, 0, none⟩) 3 3, .slice (some ⟨DA, 0, none⟩) 2 2, .int .i64 KA] 25
    replace q0 := q0.below al
    replace GA := GA.below al
    replace TT := TT.trans (Touch.of al)
    replace rd := rd.below al
    clear al
    go_wp2_with fail
    obtain ⟨W5, hW5⟩ : ∃ W, W = (w4.alloc (.cells #[.slice (some ⟨BA, 0, none⟩) 3 3, .slice (some ⟨DA, 0, none⟩) 2 2, .int .i64 KA] 25)) := ⟨_, rfl⟩
    rw [← hW5]
    rw [← hW5] at TT rd q0 GA qf
    clear hW5
    obtain ⟨XF, hXF⟩ : ∃ x, x = w4.heap.size := ⟨_, rfl⟩
    rw [← hXF]
    rw [← hXF] at qf hwt
    have nqf : XF ≠ R := by omega
    have hXw : w.heap.size < XF := by omega
    have nXB : BA ≠ XF := by omega
    have nXD : DA ≠ XF := by omega
    clear hXF
    refine (pick_any R a n cap bs (p + 1 + 6) 3 _ rd (by omega) (by omega) (by omega) (by omega)).mono ?_
    rintro e w6 ⟨rk, hk0, hk1, rfl, t5, R5⟩
    obtain ⟨k, rfl⟩ := Int.eq_ofNat_of_zero_le hk0
    clear hk0
    replace q0 := q0.touch t5 nq0
    replace GA := GA.far t5 (lo := w.heap.size) (fun k hk => by omega) zA1 zA2
    replace qf := qf.touch t5 nqf
    replace TT := TT.trans t5
    replace rd := R5
    clear t5 R5
    by_cases hk : (k : Int) = 0
    · have hk' : ¬ (0 : Int) < (k : Int) := by omega
      go_upto_region 11 with fail
      refine wp_region_ends (fun X => X.cell? ⟨XF, 0, none⟩ = some (.slice (some ⟨BA, 0, none⟩) 3 3) ∧ X.cell? ⟨XF, 1, none⟩ = some (.slice (some ⟨DA, 0, none⟩) 2 2) ∧ X.cell? ⟨XF, 2, none⟩ = some (.int .i64 KA)) (fun _ => True) 5 (by kernel_rfl) ?_
      have dr : Below w6.heap.size w6 w6.drew := (Below.refl _ _).drew
      replace q0 := q0.below dr
      replace GA := GA.below dr
      replace qf := qf.below dr
      replace TT := TT.trans (Touch.of dr)
      replace rd := rd.below dr
      clear dr
      obtain ⟨V7, hV7⟩ : ∃ W, W = w6.drew := ⟨_, rfl⟩
      rw [← hV7]
      rw [← hV7] at TT rd q0 GA qf
      clear hV7
      have hSS : (fun X : World => X.cell? ⟨XF, 0, none⟩ = some (.slice (some ⟨BA, 0, none⟩) 3 3) ∧ X.cell? ⟨XF, 1, none⟩ = some (.slice (some ⟨DA, 0, none⟩) 2 2) ∧ X.cell? ⟨XF, 2, none⟩ = some (.int .i64 KA)) V7 ∧ True := ⟨⟨qf.cell 0, qf.cell 1, qf.cell 2⟩, trivial⟩
      refine tkL (i := 0) rfl hSS ?_
      refine tkL (i := 2) rfl hSS ?_
      refine wpAnyE_one (i := 1) (by kernel_rfl) rfl (fun Kn hK => ?_)
      go_simp
      refine (pick_any R a n cap bs (p + 1 + 6 + 1) 3 _ rd (by omega) (by omega) (by omega) (by omega)).mono ?_
      rintro e w8 ⟨ri, hi0, hi1, rfl, t5, R5⟩
      obtain ⟨i, rfl⟩ := Int.eq_ofNat_of_zero_le hi0
      clear hi0
      replace q0 := q0.touch t5 nq0
      replace GA := GA.far t5 (lo := w.heap.size) (fun k hk => by omega) zA1 zA2
      replace qf := qf.touch t5 nqf
      replace TT := TT.trans t5
      replace rd := R5
      clear t5 R5
      dsimp only
      clear hSS
      have hSS : (fun X : World => X.cell? ⟨XF, 0, none⟩ = some (.slice (some ⟨BA, 0, none⟩) 3 3) ∧ X.cell? ⟨XF, 1, none⟩ = some (.slice (some ⟨DA, 0, none⟩) 2 2) ∧ X.cell? ⟨XF, 2, none⟩ = some (.int .i64 KA)) w8 ∧ True := ⟨⟨qf.cell 0, qf.cell 1, qf.cell 2⟩, trivial⟩
      refine hK.out _ _ ⟨hSS.1, fun _ => trivial⟩ ?_
      clear hK
      refine tkL (i := 3) rfl hSS ?_
      refine wpAnyE_one (i := 4) (by kernel_rfl) rfl (fun Kn hK => ?_)
      have gq0_0 := q0.cell 0
      have gq0_1 := q0.cell 1
      have gq0_2 := q0.cell 2
      have gq0_3 := q0.cell 3
      have gq0_4 := q0.cell 4
      have gq0_5 := q0.cell 5
      simp only [List.getElem?_cons_zero, List.getElem?_cons_succ] at gq0_0 gq0_1 gq0_2 gq0_3 gq0_4 gq0_5
      have fq0_0 := q0.free 0
      have fq0_1 := q0.free 1
      have fq0_2 := q0.free 2
      have fq0_3 := q0.free 3
      have fq0_4 := q0.free 4
      have fq0_5 := q0.free 5
      have lq0 := q0.lt
      go_simp
      clear gq0_0 gq0_1 gq0_2 gq0_3 gq0_4 gq0_5 fq0_0 fq0_1 fq0_2 fq0_3 fq0_4 fq0_5 lq0
      have hwt2 := TT.size
      have hlq2 := q0.lt
      replace q0 := q0.set 0 (.int .i64 2)
      replace GA := GA.setFar (X := w.heap.size) (by omega) (by omega) 0 (.int .i64 2)
      replace qf := qf.setOther (B' := w.heap.size) (by omega) 0 (.int .i64 2)
      replace rd := rd.setNew (B := w.heap.size) (by omega) (fun h0 b o e => by have := ha0 h0 b o e; omega) 0 (.int .i64 2)
      replace TT := TT.setNewF (B := w.heap.size) (by omega) 0 (.int .i64 2)
      replace q0 := q0.set 1 (.int .i64 (i : Int))
      replace GA := GA.setFar (X := w.heap.size) (by omega) (by omega) 1 (.int .i64 (i : Int))
      replace qf := qf.setOther (B' := w.heap.size) (by omega) 1 (.int .i64 (i : Int))
      replace rd := rd.setNew (B := w.heap.size) (by omega) (fun h0 b o e => by have := ha0 h0 b o e; omega) 1 (.int .i64 (i : Int))
      replace TT := TT.setNewF (B := w.heap.size) (by omega) 1 (.int .i64 (i : Int))
      replace q0 := q0.set 2 (.int .i64 0)
      replace GA := GA.setFar (X := w.heap.size) (by omega) (by omega) 2 (.int .i64 0)
      replace qf := qf.setOther (B' := w.heap.size) (by omega) 2 (.int .i64 0)
      replace rd := rd.setNew (B := w.heap.size) (by omega) (fun h0 b o e => by have := ha0 h0 b o e; omega) 2 (.int .i64 0)
      replace TT := TT.setNewF (B := w.heap.size) (by omega) 2 (.int .i64 0)
      replace q0 := q0.set 3 (.slice (some ⟨BA, 0, none⟩) 3 3)
      replace GA := GA.setFar (X := w.heap.size) (by omega) (by omega) 3 (.slice (some ⟨BA, 0, none⟩) 3 3)
      replace qf := qf.setOther (B' := w.heap.size) (by omega) 3 (.slice (some ⟨BA, 0, none⟩) 3 3)
      replace rd := rd.setNew (B := w.heap.size) (by omega) (fun h0 b o e => by have := ha0 h0 b o e; omega) 3 (.slice (some ⟨BA, 0, none⟩) 3 3)
      replace TT := TT.setNewF (B := w.heap.size) (by omega) 3 (.slice (some ⟨BA, 0, none⟩) 3 3)
      replace q0 := q0.set 4 (.slice (some ⟨DA, 0, none⟩) 2 2)
      replace GA := GA.setFar (X := w.heap.size) (by omega) (by omega) 4 (.slice (some ⟨DA, 0, none⟩) 2 2)
      replace qf := qf.setOther (B' := w.heap.size) (by omega) 4 (.slice (some ⟨DA, 0, none⟩) 2 2)
      replace rd := rd.setNew (B := w.heap.size) (by omega) (fun h0 b o e => by have := ha0 h0 b o e; omega) 4 (.slice (some ⟨DA, 0, none⟩) 2 2)
      replace TT := TT.setNewF (B := w.heap.size) (by omega) 4 (.slice (some ⟨DA, 0, none⟩) 2 2)
      replace q0 := q0.set 5 (.int .i64 KA)
      replace GA := GA.setFar (X := w.heap.size) (by omega) (by omega) 5 (.int .i64 KA)
      replace qf := qf.setOther (B' := w.heap.size) (by omega) 5 (.int .i64 KA)
      replace rd := rd.setNew (B := w.heap.size) (by omega) (fun h0 b o e => by have := ha0 h0 b o e; omega) 5 (.int .i64 KA)
      replace TT := TT.setNewF (B := w.heap.size) (by omega) 5 (.int .i64 KA)
      obtain ⟨W9, hW9⟩ : ∃ W, W = ((((((w8.setCell ⟨w.heap.size, 0, none⟩ (.int .i64 2)).setCell ⟨w.heap.size, 1, none⟩ (.int .i64 (i : Int))).setCell ⟨w.heap.size, 2, none⟩ (.int .i64 0)).setCell ⟨w.heap.size, 3, none⟩ (.slice (some ⟨BA, 0, none⟩) 3 3)).setCell ⟨w.heap.size, 4, none⟩ (.slice (some ⟨DA, 0, none⟩) 2 2)).setCell ⟨w.heap.size, 5, none⟩ (.int .i64 KA)) := ⟨_, rfl⟩
      rw [← hW9]
      rw [← hW9] at TT rd q0 GA qf
      clear hW9
      clear hSS
      have hSS : (fun X : World => X.cell? ⟨XF, 0, none⟩ = some (.slice (some ⟨BA, 0, none⟩) 3 3) ∧ X.cell? ⟨XF, 1, none⟩ = some (.slice (some ⟨DA, 0, none⟩) 2 2) ∧ X.cell? ⟨XF, 2, none⟩ = some (.int .i64 KA)) W9 ∧ True := ⟨⟨qf.cell 0, qf.cell 1, qf.cell 2⟩, trivial⟩
      refine hK.out _ _ ⟨hSS.1, fun _ => trivial⟩ ?_
      clear hK
      refine wpAnyE_done (by kernel_rfl) ?_ _
      clear hSS
      go_wp2
      have hws := TT.size
      have u0 : W9.cell? ⟨w.heap.size, 0, none⟩ = some (.int .i64 2) := q0.cell 0
      have u1 : W9.cell? ⟨w.heap.size, 1, none⟩ = some (.int .i64 (i : Int)) := q0.cell 1
      have u2 : W9.cell? ⟨w.heap.size, 2, none⟩ = some (.int .i64 0) := q0.cell 2
      have u3 : W9.cell? ⟨w.heap.size, 3, none⟩ = some (.slice (some ⟨BA, 0, none⟩) 3 3) := q0.cell 3
      have u4 : W9.cell? ⟨w.heap.size, 4, none⟩ = some (.slice (some ⟨DA, 0, none⟩) 2 2) := q0.cell 4
      have u5 : W9.cell? ⟨w.heap.size, 5, none⟩ = some (.int .i64 KA) := q0.cell 5
      refine bodyPost_ret (v := lnV ⟨2, (i : Int), 0, ⟨some ⟨BA, 0, none⟩, 3, 3, some ⟨DA, 0, none⟩, 2, 2, KA, LCA, LDA⟩⟩) (by simp [results, Tryd.results112, go_sem, u0, u1, u2, u3, u4, u5]) rfl ⟨⟨2, (i : Int), 0, ⟨some ⟨BA, 0, none⟩, 3, 3, some ⟨DA, 0, none⟩, 2, 2, KA, LCA, LDA⟩⟩, _, rfl, ⟨TT, rd, ⟨GA.C, GA.D, by simp only []; omega, by simp only []; omega⟩, fun b o e => by simp only [Option.some.injEq, Addr.mk.injEq] at e; have hb := GA.C.blk (by omega); omega, fun b o e => by simp only [Option.some.injEq, Addr.mk.injEq] at e; have hb := GA.D.blk (by omega); omega, lok2 (pot := (i : Int)) (small_of sCA sDA sKA1 sKA2) (by omega) (by omega), by omega, by omega⟩⟩
    · have hk' : (0 : Int) < (k : Int) := by omega
      have gqf_0 := qf.cell 0
      have gqf_1 := qf.cell 1
      have gqf_2 := qf.cell 2
      simp only [List.getElem?_cons_zero, List.getElem?_cons_succ] at gqf_0 gqf_1 gqf_2
      have fqf_0 := qf.free 0
      have fqf_1 := qf.free 1
      have fqf_2 := qf.free 2
      have lqf := qf.lt
      go_upto_region 11 with fail
      clear gqf_0 gqf_1 gqf_2 fqf_0 fqf_1 fqf_2 lqf
      have hwz := TT.size
      have ltF := qf.lt
      obtain ⟨BM, hBM⟩ : ∃ x, x = w6.heap.size := ⟨_, rfl⟩
      rw [← hBM]
      rw [← hBM] at hwz ltF
      have nXM : BM ≠ XF := by omega
      have nRM : BM ≠ R := by omega
      replace q0 := q0.setOther (B' := XF) (by omega) 0 (.slice (some ⟨BM, 0, none⟩) 3 3)
      replace GA := GA.setFar (X := XF) (by omega) (by omega) 0 (.slice (some ⟨BM, 0, none⟩) 3 3)
      replace qf := qf.set 0 (.slice (some ⟨BM, 0, none⟩) 3 3)
      replace rd := rd.setNew (B := XF) (by omega) (fun h0 b o e => by have := ha0 h0 b o e; omega) 0 (.slice (some ⟨BM, 0, none⟩) 3 3)
      replace TT := TT.setNewF (B := XF) (by omega) 0 (.slice (some ⟨BM, 0, none⟩) 3 3)
      have al := (Below.refl (w6.setCell ⟨XF, 0, none⟩ (.slice (some ⟨BM, 0, none⟩) 3 3)).heap.size (w6.setCell ⟨XF, 0, none⟩ (.slice (some ⟨BM, 0, none⟩) 3 3))).alloc (Nat.le_refl _) (.cells #[.int .i64 0, .int .i64 0, .int .i64 0] 3)
      have kz : Blk ((w6.setCell ⟨XF, 0, none⟩ (.slice (some ⟨BM, 0, none⟩) 3 3)).alloc (.cells #[.int .i64 0, .int .i64 0, .int .i64 0] 3)) (w6.setCell ⟨XF, 0, none⟩ (.slice (some ⟨BM, 0, none⟩) 3 3)).heap.size [0, 0, 0] := heap_alloc_new (w6.setCell ⟨XF, 0, none⟩ (.slice (some ⟨BM, 0, none⟩) 3 3)) _
      rw [show (w6.setCell ⟨XF, 0, none⟩ (.slice (some ⟨BM, 0, none⟩) 3 3)).heap.size = BM from by rw [size_setCell]; exact hBM.symm] at kz
      clear hBM
      replace q0 := q0.below al
      replace GA := GA.below al
      replace qf := qf.below al
      replace TT := TT.trans (Touch.of al)
      replace rd := rd.below al
      clear al
      have hzl := kz.lt
      have GM : FA ((w6.setCell ⟨XF, 0, none⟩ (.slice (some ⟨BM, 0, none⟩) 3 3)).alloc (.cells #[.int .i64 0, .int .i64 0, .int .i64 0] 3)) (some ⟨BM, 0, none⟩) 3 (some ⟨DA, 0, none⟩) 2 ([0, 0, 0], LDA, KA) := ⟨kz.ints' rfl, GA.D, by omega, by omega⟩
      clear kz GA
      have zM1 : w.heap.size ≤ BM := hwz
      have zM2 := zA2
      have hBMw : w.heap.size < BM := by omega
      obtain ⟨W7, hW7⟩ : ∃ W, W = ((w6.setCell ⟨XF, 0, none⟩ (.slice (some ⟨BM, 0, none⟩) 3 3)).alloc (.cells #[.int .i64 0, .int .i64 0, .int .i64 0] 3)) := ⟨_, rfl⟩
      rw [← hW7]
      rw [← hW7] at TT rd q0 qf GM
      clear hW7
      refine wp_region_ends (fun X => X.cell? ⟨XF, 0, none⟩ = some (.slice (some ⟨BM, 0, none⟩) 3 3) ∧ X.cell? ⟨XF, 1, none⟩ = some (.slice (some ⟨DA, 0, none⟩) 2 2) ∧ X.cell? ⟨XF, 2, none⟩ = some (.int .i64 KA)) (fun _ => True) 5 (by kernel_rfl) ?_
      have dr : Below W7.heap.size W7 W7.drew := (Below.refl _ _).drew
      replace q0 := q0.below dr
      replace qf := qf.below dr
      replace GM := GM.below dr
      replace TT := TT.trans (Touch.of dr)
      replace rd := rd.below dr
      clear dr
      obtain ⟨V8, hV8⟩ : ∃ W, W = W7.drew := ⟨_, rfl⟩
      rw [← hV8]
      rw [← hV8] at TT rd q0 qf GM
      clear hV8
      have hSS : (fun X : World => X.cell? ⟨XF, 0, none⟩ = some (.slice (some ⟨BM, 0, none⟩) 3 3) ∧ X.cell? ⟨XF, 1, none⟩ = some (.slice (some ⟨DA, 0, none⟩) 2 2) ∧ X.cell? ⟨XF, 2, none⟩ = some (.int .i64 KA)) V8 ∧ True := ⟨⟨qf.cell 0, qf.cell 1, qf.cell 2⟩, trivial⟩
      refine tkL (i := 0) rfl hSS ?_
      refine tkL (i := 2) rfl hSS ?_
      refine wpAnyE_one (i := 1) (by kernel_rfl) rfl (fun Kn hK => ?_)
      go_simp
      refine (pick_any R a n cap bs (p + 1 + 6 + 1) 3 _ rd (by omega) (by omega) (by omega) (by omega)).mono ?_
      rintro e w9 ⟨ri, hi0, hi1, rfl, t5, R5⟩
      obtain ⟨i, rfl⟩ := Int.eq_ofNat_of_zero_le hi0
      clear hi0
      replace q0 := q0.touch t5 nq0
      replace qf := qf.touch t5 nqf
      replace GM := GM.far t5 (lo := w.heap.size) (fun k hk => by omega) zM1 zM2
      replace TT := TT.trans t5
      replace rd := R5
      clear t5 R5
      dsimp only
      clear hSS
      have hSS : (fun X : World => X.cell? ⟨XF, 0, none⟩ = some (.slice (some ⟨BM, 0, none⟩) 3 3) ∧ X.cell? ⟨XF, 1, none⟩ = some (.slice (some ⟨DA, 0, none⟩) 2 2) ∧ X.cell? ⟨XF, 2, none⟩ = some (.int .i64 KA)) w9 ∧ True := ⟨⟨qf.cell 0, qf.cell 1, qf.cell 2⟩, trivial⟩
      refine hK.out _ _ ⟨hSS.1, fun _ => trivial⟩ ?_
      clear hK
      refine tkL (i := 3) rfl hSS ?_
      refine wpAnyE_one (i := 4) (by kernel_rfl) rfl (fun Kn hK => ?_)
      have gq0_0 := q0.cell 0
      have gq0_1 := q0.cell 1
      have gq0_2 := q0.cell 2
      have gq0_3 := q0.cell 3
      have gq0_4 := q0.cell 4
      have gq0_5 := q0.cell 5
      simp only [List.getElem?_cons_zero, List.getElem?_cons_succ] at gq0_0 gq0_1 gq0_2 gq0_3 gq0_4 gq0_5
      have fq0_0 := q0.free 0
      have fq0_1 := q0.free 1
      have fq0_2 := q0.free 2
      have fq0_3 := q0.free 3
      have fq0_4 := q0.free 4
      have fq0_5 := q0.free 5
      have lq0 := q0.lt
      go_simp
      clear gq0_0 gq0_1 gq0_2 gq0_3 gq0_4 gq0_5 fq0_0 fq0_1 fq0_2 fq0_3 fq0_4 fq0_5 lq0
      have hwt2 := TT.size
      have hlq2 := q0.lt
      replace q0 := q0.set 0 (.int .i64 2)
      replace qf := qf.setOther (B' := w.heap.size) (by omega) 0 (.int .i64 2)
      replace GM := GM.setFar (X := w.heap.size) (by omega) (by omega) 0 (.int .i64 2)
      replace rd := rd.setNew (B := w.heap.size) (by omega) (fun h0 b o e => by have := ha0 h0 b o e; omega) 0 (.int .i64 2)
      replace TT := TT.setNewF (B := w.heap.size) (by omega) 0 (.int .i64 2)
      replace q0 := q0.set 1 (.int .i64 (i : Int))
      replace qf := qf.setOther (B' := w.heap.size) (by omega) 1 (.int .i64 (i : Int))
      replace GM := GM.setFar (X := w.heap.size) (by omega) (by omega) 1 (.int .i64 (i : Int))
      replace rd := rd.setNew (B := w.heap.size) (by omega) (fun h0 b o e => by have := ha0 h0 b o e; omega) 1 (.int .i64 (i : Int))
      replace TT := TT.setNewF (B := w.heap.size) (by omega) 1 (.int .i64 (i : Int))
      replace q0 := q0.set 2 (.int .i64 0)
      replace qf := qf.setOther (B' := w.heap.size) (by omega) 2 (.int .i64 0)
      replace GM := GM.setFar (X := w.heap.size) (by omega) (by omega) 2 (.int .i64 0)
      replace rd := rd.setNew (B := w.heap.size) (by omega) (fun h0 b o e => by have := ha0 h0 b o e; omega) 2 (.int .i64 0)
      replace TT := TT.setNewF (B := w.heap.size) (by omega) 2 (.int .i64 0)
      replace q0 := q0.set 3 (.slice (some ⟨BM, 0, none⟩) 3 3)
      replace qf := qf.setOther (B' := w.heap.size) (by omega) 3 (.slice (some ⟨BM, 0, none⟩) 3 3)
      replace GM := GM.setFar (X := w.heap.size) (by omega) (by omega) 3 (.slice (some ⟨BM, 0, none⟩) 3 3)
      replace rd := rd.setNew (B := w.heap.size) (by omega) (fun h0 b o e => by have := ha0 h0 b o e; omega) 3 (.slice (some ⟨BM, 0, none⟩) 3 3)
      replace TT := TT.setNewF (B := w.heap.size) (by omega) 3 (.slice (some ⟨BM, 0, none⟩) 3 3)
      replace q0 := q0.set 4 (.slice (some ⟨DA, 0, none⟩) 2 2)
      replace qf := qf.setOther (B' := w.heap.size) (by omega) 4 (.slice (some ⟨DA, 0, none⟩) 2 2)
      replace GM := GM.setFar (X := w.heap.size) (by omega) (by omega) 4 (.slice (some ⟨DA, 0, none⟩) 2 2)
      replace rd := rd.setNew (B := w.heap.size) (by omega) (fun h0 b o e => by have := ha0 h0 b o e; omega) 4 (.slice (some ⟨DA, 0, none⟩) 2 2)
      replace TT := TT.setNewF (B := w.heap.size) (by omega) 4 (.slice (some ⟨DA, 0, none⟩) 2 2)
      replace q0 := q0.set 5 (.int .i64 KA)
      replace qf := qf.setOther (B' := w.heap.size) (by omega) 5 (.int .i64 KA)
      replace GM := GM.setFar (X := w.heap.size) (by omega) (by omega) 5 (.int .i64 KA)
      replace rd := rd.setNew (B := w.heap.size) (by omega) (fun h0 b o e => by have := ha0 h0 b o e; omega) 5 (.int .i64 KA)
      replace TT := TT.setNewF (B := w.heap.size) (by omega) 5 (.int .i64 KA)
      obtain ⟨W10, hW10⟩ : ∃ W, W = ((((((w9.setCell ⟨w.heap.size, 0, none⟩ (.int .i64 2)).setCell ⟨w.heap.size, 1, none⟩ (.int .i64 (i : Int))).setCell ⟨w.heap.size, 2, none⟩ (.int .i64 0)).setCell ⟨w.heap.size, 3, none⟩ (.slice (some ⟨BM, 0, none⟩) 3 3)).setCell ⟨w.heap.size, 4, none⟩ (.slice (some ⟨DA, 0, none⟩) 2 2)).setCell ⟨w.heap.size, 5, none⟩ (.int .i64 KA)) := ⟨_, rfl⟩
      rw [← hW10]
      rw [← hW10] at TT rd q0 qf GM
      clear hW10
      clear hSS
      have hSS : (fun X : World => X.cell? ⟨XF, 0, none⟩ = some (.slice (some ⟨BM, 0, none⟩) 3 3) ∧ X.cell? ⟨XF, 1, none⟩ = some (.slice (some ⟨DA, 0, none⟩) 2 2) ∧ X.cell? ⟨XF, 2, none⟩ = some (.int .i64 KA)) W10 ∧ True := ⟨⟨qf.cell 0, qf.cell 1, qf.cell 2⟩, trivial⟩
      refine hK.out _ _ ⟨hSS.1, fun _ => trivial⟩ ?_
      clear hK
      refine wpAnyE_done (by kernel_rfl) ?_ _
      clear hSS
      go_wp2
      have hws := TT.size
      have u0 : W10.cell? ⟨w.heap.size, 0, none⟩ = some (.int .i64 2) := q0.cell 0
      have u1 : W10.cell? ⟨w.heap.size, 1, none⟩ = some (.int .i64 (i : Int)) := q0.cell 1
      have u2 : W10.cell? ⟨w.heap.size, 2, none⟩ = some (.int .i64 0) := q0.cell 2
      have u3 : W10.cell? ⟨w.heap.size, 3, none⟩ = some (.slice (some ⟨BM, 0, none⟩) 3 3) := q0.cell 3
      have u4 : W10.cell? ⟨w.heap.size, 4, none⟩ = some (.slice (some ⟨DA, 0, none⟩) 2 2) := q0.cell 4
      have u5 : W10.cell? ⟨w.heap.size, 5, none⟩ = some (.int .i64 KA) := q0.cell 5
      refine bodyPost_ret (v := lnV ⟨2, (i : Int), 0, ⟨some ⟨BM, 0, none⟩, 3, 3, some ⟨DA, 0, none⟩, 2, 2, KA, [0, 0, 0], LDA⟩⟩) (by simp [results, Tryd.results112, go_sem, u0, u1, u2, u3, u4, u5]) rfl ⟨⟨2, (i : Int), 0, ⟨some ⟨BM, 0, none⟩, 3, 3, some ⟨DA, 0, none⟩, 2, 2, KA, [0, 0, 0], LDA⟩⟩, _, rfl, ⟨TT, rd, ⟨GM.C, GM.D, by simp only []; omega, by simp only []; omega⟩, fun b o e => by simp only [Option.some.injEq, Addr.mk.injEq] at e; have hb := GM.C.blk (by omega); omega, fun b o e => by simp only [Option.some.injEq, Addr.mk.injEq] at e; have hb := GM.D.blk (by omega); omega, lok2 (pot := (i : Int)) (small_of (fun i => by rcases i with _ | _ | _ | i <;> simp) sDA sKA1 sKA2) (by omega) (by omega), by omega, by omega⟩⟩
  · go_wp2_with fail
    have xA := q0.lt
    refine (small_f R a n cap bs (p + 1) _ rd (by omega) (by omega) rd.ha).mono ?_
    rintro e w4 ⟨BA, DA, LCA, LDA, KA, rfl, t5, R5, f5, sCA, sDA, sKA1, sKA2⟩
    have zA1 : w.heap.size ≤ BA := Nat.le_trans TT.size f5.b1
    have zA2 : w.heap.size ≤ DA := Nat.le_trans TT.size f5.b2
    have lCA := f5.l1
    have lDA := f5.l2
    have GA : FA w4 (some ⟨BA, 0, none⟩) 3 (some ⟨DA, 0, none⟩) 2 (LCA, LDA, KA) := ⟨f5.k1.ints' f5.l1, f5.k2.ints' f5.l2, by omega, by omega⟩
    have ltCA := f5.k1.lt
    have ltDA := f5.k2.lt
    have nCDA := f5.ne
    have yA1 := f5.b1
    have yA2 := f5.b2
    clear f5
    replace q0 := q0.touch t5 nq0
    replace TT := TT.trans t5
    replace rd := R5
    clear t5 R5
    have hwt := TT.size
    have hlq := q0.lt
    have al := (Below.refl w4.heap.size w4).alloc (Nat.le_refl _) (.cells #[.slice (some ⟨BA, 0, none⟩) 3 3, .slice (some ⟨DA, 0, none⟩) 2 2, .int .i64 KA] 25)
    have qf := Cel.new w4 [.slice (some ⟨BA, 0, none⟩) 3 3, .slice (some ⟨DA, 0, none⟩) 2 2, .int .i64 KA] 25
    replace q0 := q0.below al
    replace GA := GA.below al
    replace TT := TT.trans (Touch.of al)
    replace rd := rd.below al
    clear al
    go_wp2_with fail
    obtain ⟨W5, hW5⟩ : ∃ W, W = (w4.alloc (.cells #[.slice (some ⟨BA, 0, none⟩) 3 3, .slice (some ⟨DA, 0, none⟩) 2 2, .int .i64 KA] 25)) := ⟨_, rfl⟩
    rw [← hW5]
    rw [← hW5] at TT rd q0 GA qf
    clear hW5
    obtain ⟨XF, hXF⟩ : ∃ x, x = w4.heap.size := ⟨_, rfl⟩
    rw [← hXF]
    rw [← hXF] at qf hwt
    have nqf : XF ≠ R := by omega
    have hXw : w.heap.size < XF := by omega
    have nXB : BA ≠ XF := by omega
    have nXD : DA ≠ XF := by omega
    clear hXF
    refine (pick_any R a n cap bs (p + 1 + 6) 3 _ rd (by omega) (by omega) (by omega) (by omega)).mono ?_
    rintro e w6 ⟨rk, hk0, hk1, rfl, t5, R5⟩
    obtain ⟨k, rfl⟩ := Int.eq_ofNat_of_zero_le hk0
    clear hk0
    replace q0 := q0.touch t5 nq0
    replace GA := GA.far t5 (lo := w.heap.size) (fun k hk => by omega) zA1 zA2
    replace qf := qf.touch t5 nqf
    replace TT := TT.trans t5
    replace rd := R5
    clear t5 R5
    by_cases hk : (k : Int) = 0
    · have hk' : ¬ (0 : Int) < (k : Int) := by omega
      go_upto_region 11 with fail
      refine wp_region_ends (fun X => X.cell? ⟨XF, 0, none⟩ = some (.slice (some ⟨BA, 0, none⟩) 3 3) ∧ X.cell? ⟨XF, 1, none⟩ = some (.slice (some ⟨DA, 0, none⟩) 2 2) ∧ X.cell? ⟨XF, 2, none⟩ = some (.int .i64 KA)) (fun _ => True) 5 (by kernel_rfl) ?_
      have dr : Below w6.heap.size w6 w6.drew := (Below.refl _ _).drew
      replace q0 := q0.below dr
      replace GA := GA.below dr
      replace qf := qf.below dr
      replace TT := TT.trans (Touch.of dr)
      replace rd := rd.below dr
      clear dr
      obtain ⟨V7, hV7⟩ : ∃ W, W = w6.drew := ⟨_, rfl⟩
      rw [← hV7]
      rw [← hV7] at TT rd q0 GA qf
      clear hV7
      have hSS : (fun X : World => X.cell? ⟨XF, 0, none⟩ = some (.slice (some ⟨BA, 0, none⟩) 3 3) ∧ X.cell? ⟨XF, 1, none⟩ = some (.slice (some ⟨DA, 0, none⟩) 2 2) ∧ X.cell? ⟨XF, 2, none⟩ = some (.int .i64 KA)) V7 ∧ True := ⟨⟨qf.cell 0, qf.cell 1, qf.cell 2⟩, trivial⟩
      refine tkL (i := 0) rfl hSS ?_
      refine tkL (i := 2) rfl hSS ?_
      refine wpAnyE_one (i := 1) (by kernel_rfl) rfl (fun Kn hK => ?_)
      go_simp
      refine (pick_any R a n cap bs (p + 1 + 6 + 1) 3 _ rd (by omega) (by omega) (by omega) (by omega)).mono ?_
      rintro e w8 ⟨ri, hi0, hi1, rfl, t5, R5⟩
      obtain ⟨i, rfl⟩ := Int.eq_ofNat_of_zero_le hi0
      clear hi0
      replace q0 := q0.touch t5 nq0
      replace GA := GA.far t5 (lo := w.heap.size) (fun k hk => by omega) zA1 zA2
      replace qf := qf.touch t5 nqf
      replace TT := TT.trans t5
      replace rd := R5
      clear t5 R5
      dsimp only
      clear hSS
      have hSS : (fun X : World => X.cell? ⟨XF, 0, none⟩ = some (.slice (some ⟨BA, 0, none⟩) 3 3) ∧ X.cell? ⟨XF, 1, none⟩ = some (.slice (some ⟨DA, 0, none⟩) 2 2) ∧ X.cell? ⟨XF, 2, none⟩ = some (.int .i64 KA)) w8 ∧ True := ⟨⟨qf.cell 0, qf.cell 1, qf.cell 2⟩, trivial⟩
      refine hK.out _ _ ⟨hSS.1, fun _ => trivial⟩ ?_
      clear hK
      refine tkL (i := 3) rfl hSS ?_
      refine wpAnyE_one (i := 4) (by kernel_rfl) rfl (fun Kn hK => ?_)
      have gq0_0 := q0.cell 0
      have gq0_1 := q0.cell 1
      have gq0_2 := q0.cell 2
      have gq0_3 := q0.cell 3
      have gq0_4 := q0.cell 4
      have gq0_5 := q0.cell 5
      simp only [List.getElem?_cons_zero, List.getElem?_cons_succ] at gq0_0 gq0_1 gq0_2 gq0_3 gq0_4 gq0_5
      have fq0_0 := q0.free 0
      have fq0_1 := q0.free 1
      have fq0_2 := q0.free 2
      have fq0_3 := q0.free 3
      have fq0_4 := q0.free 4
      have fq0_5 := q0.free 5
      have lq0 := q0.lt
      go_simp
      clear gq0_0 gq0_1 gq0_2 gq0_3 gq0_4 gq0_5 fq0_0 fq0_1 fq0_2 fq0_3 fq0_4 fq0_5 lq0
      have hwt2 := TT.size
      have hlq2 := q0.lt
      replace q0 := q0.set 0 (.int .i64 2)
      replace GA := GA.setFar (X := w.heap.size) (by omega) (by omega) 0 (.int .i64 2)
      replace qf := qf.setOther (B' := w.heap.size) (by omega) 0 (.int .i64 2)
      replace rd := rd.setNew (B := w.heap.size) (by omega) (fun h0 b o e => by have := ha0 h0 b o e; omega) 0 (.int .i64 2)
      replace TT := TT.setNewF (B := w.heap.size) (by omega) 0 (.int .i64 2)
      replace q0 := q0.set 1 (.int .i64 (i : Int))
      replace GA := GA.setFar (X := w.heap.size) (by omega) (by omega) 1 (.int .i64 (i : Int))
      replace qf := qf.setOther (B' := w.heap.size) (by omega) 1 (.int .i64 (i : Int))
      replace rd := rd.setNew (B := w.heap.size) (by omega) (fun h0 b o e => by have := ha0 h0 b o e; omega) 1 (.int .i64 (i : Int))
      replace TT := TT.setNewF (B := w.heap.size) (by omega) 1 (.int .i64 (i : Int))
      replace q0 := q0.set 2 (.int .i64 0)
      replace GA := GA.setFar (X := w.heap.size) (by omega) (by omega) 2 (.int .i64 0)
      replace qf := qf.setOther (B' := w.heap.size) (by omega) 2 (.int .i64 0)
      replace rd := rd.setNew (B := w.heap.size) (by omega) (fun h0 b o e => by have := ha0 h0 b o e; omega) 2 (.int .i64 0)
      replace TT := TT.setNewF (B := w.heap.size) (by omega) 2 (.int .i64 0)
      replace q0 := q0.set 3 (.slice (some ⟨BA, 0, none⟩) 3 3)
      replace GA := GA.setFar (X := w.heap.size) (by omega) (by omega) 3 (.slice (some ⟨BA, 0, none⟩) 3 3)
      replace qf := qf.setOther (B' := w.heap.size) (by omega) 3 (.slice (some ⟨BA, 0, none⟩) 3 3)
      replace rd := rd.setNew (B := w.heap.size) (by omega) (fun h0 b o e => by have := ha0 h0 b o e; omega) 3 (.slice (some ⟨BA, 0, none⟩) 3 3)
      replace TT := TT.setNewF (B := w.heap.size) (by omega) 3 (.slice (some ⟨BA, 0, none⟩) 3 3)
      replace q0 := q0.set 4 (.slice (some ⟨DA, 0, none⟩) 2 2)
      replace GA := GA.setFar (X := w.heap.size) (by omega) (by omega) 4 (.slice (some ⟨DA, 0, none⟩) 2 2)
      replace qf := qf.setOther (B' := w.heap.size) (by omega) 4 (.slice (some ⟨DA, 0, none⟩) 2 2)
      replace rd := rd.setNew (B := w.heap.size) (by omega) (fun h0 b o e => by have := ha0 h0 b o e; omega) 4 (.slice (some ⟨DA, 0, none⟩) 2 2)
      replace TT := TT.setNewF (B := w.heap.size) (by omega) 4 (.slice (some ⟨DA, 0, none⟩) 2 2)
      replace q0 := q0.set 5 (.int .i64 KA)
      replace GA := GA.setFar (X := w.heap.size) (by omega) (by omega) 5 (.int .i64 KA)
      replace qf := qf.setOther (B' := w.heap.size) (by omega) 5 (.int .i64 KA)
      replace rd := rd.setNew (B := w.heap.size) (by omega) (fun h0 b o e => by have := ha0 h0 b o e; omega) 5 (.int .i64 KA)
      replace TT := TT.setNewF (B := w.heap.size) (by omega) 5 (.int .i64 KA)
      obtain ⟨W9, hW9⟩ : ∃ W, W = ((((((w8.setCell ⟨w.heap.size, 0, none⟩ (.int .i64 2)).setCell ⟨w.heap.size, 1, none⟩ (.int .i64 (i : Int))).setCell ⟨w.heap.size, 2, none⟩ (.int .i64 0)).setCell ⟨w.heap.size, 3, none⟩ (.slice (some ⟨BA, 0, none⟩) 3 3)).setCell ⟨w.heap.size, 4, none⟩ (.slice (some ⟨DA, 0, none⟩) 2 2)).setCell ⟨w.heap.size, 5, none⟩ (.int .i64 KA)) := ⟨_, rfl⟩
      rw [← hW9]
      rw [← hW9] at TT rd q0 GA qf
      clear hW9
      clear hSS
      have hSS : (fun X : World => X.cell? ⟨XF, 0, none⟩ = some (.slice (some ⟨BA, 0, none⟩) 3 3) ∧ X.cell? ⟨XF, 1, none⟩ = some (.slice (some ⟨DA, 0, none⟩) 2 2) ∧ X.cell? ⟨XF, 2, none⟩ = some (.int .i64 KA)) W9 ∧ True := ⟨⟨qf.cell 0, qf.cell 1, qf.cell 2⟩, trivial⟩
      refine hK.out _ _ ⟨hSS.1, fun _ => trivial⟩ ?_
      clear hK
      refine wpAnyE_done (by kernel_rfl) ?_ _
      clear hSS
      go_wp2
      have hws := TT.size
      have u0 : W9.cell? ⟨w.heap.size, 0, none⟩ = some (.int .i64 2) := q0.cell 0
      have u1 : W9.cell? ⟨w.heap.size, 1, none⟩ = some (.int .i64 (i : Int)) := q0.cell 1
      have u2 : W9.cell? ⟨w.heap.size, 2, none⟩ = some (.int .i64 0) := q0.cell 2
      have u3 : W9.cell? ⟨w.heap.size, 3, none⟩ = some (.slice (some ⟨BA, 0, none⟩) 3 3) := q0.cell 3
      have u4 : W9.cell? ⟨w.heap.size, 4, none⟩ = some (.slice (some ⟨DA, 0, none⟩) 2 2) := q0.cell 4
      have u5 : W9.cell? ⟨w.heap.size, 5, none⟩ = some (.int .i64 KA) := q0.cell 5
      refine bodyPost_ret (v := lnV ⟨2, (i : Int), 0, ⟨some ⟨BA, 0, none⟩, 3, 3, some ⟨DA, 0, none⟩, 2, 2, KA, LCA, LDA⟩⟩) (by simp [results, Tryd.results112, go_sem, u0, u1, u2, u3, u4, u5]) rfl ⟨⟨2, (i : Int), 0, ⟨some ⟨BA, 0, none⟩, 3, 3, some ⟨DA, 0, none⟩, 2, 2, KA, LCA, LDA⟩⟩, _, rfl, ⟨TT, rd, ⟨GA.C, GA.D, by simp only []; omega, by simp only []; omega⟩, fun b o e => by simp only [Option.some.injEq, Addr.mk.injEq] at e; have hb := GA.C.blk (by omega); omega, fun b o e => by simp only [Option.some.injEq, Addr.mk.injEq] at e; have hb := GA.D.blk (by omega); omega, lok2 (pot := (i : Int)) (small_of sCA sDA sKA1 sKA2) (by omega) (by omega), by omega, by omega⟩⟩
    · have hk' : (0 : Int) < (k : Int) := by omega
      have gqf_0 := qf.cell 0
      have gqf_1 := qf.cell 1
      have gqf_2 := qf.cell 2
      simp only [List.getElem?_cons_zero, List.getElem?_cons_succ] at gqf_0 gqf_1 gqf_2
      have fqf_0 := qf.free 0
      have fqf_1 := qf.free 1
      have fqf_2 := qf.free 2
      have lqf := qf.lt
      go_upto_region 11 with fail
      clear gqf_0 gqf_1 gqf_2 fqf_0 fqf_1 fqf_2 lqf
      have hwz := TT.size
      have ltF := qf.lt
      obtain ⟨BM, hBM⟩ : ∃ x, x = w6.heap.size := ⟨_, rfl⟩
      rw [← hBM]
      rw [← hBM] at hwz ltF
      have nXM : BM ≠ XF := by omega
      have nRM : BM ≠ R := by omega
      replace q0 := q0.setOther (B' := XF) (by omega) 0 (.slice (some ⟨BM, 0, none⟩) 3 3)
      replace GA := GA.setFar (X := XF) (by omega) (by omega) 0 (.slice (some ⟨BM, 0, none⟩) 3 3)
      replace qf := qf.set 0 (.slice (some ⟨BM, 0, none⟩) 3 3)
      replace rd := rd.setNew (B := XF) (by omega) (fun h0 b o e => by have := ha0 h0 b o e; omega) 0 (.slice (some ⟨BM, 0, none⟩) 3 3)
      replace TT := TT.setNewF (B := XF) (by omega) 0 (.slice (some ⟨BM, 0, none⟩) 3 3)
      have al := (Below.refl (w6.setCell ⟨XF, 0, none⟩ (.slice (some ⟨BM, 0, none⟩) 3 3)).heap.size (w6.setCell ⟨XF, 0, none⟩ (.slice (some ⟨BM, 0, none⟩) 3 3))).alloc (Nat.le_refl _) (.cells #[.int .i64 0, .int .i64 0, .int .i64 0] 3)
      have kz : Blk ((w6.setCell ⟨XF, 0, none⟩ (.slice (some ⟨BM, 0, none⟩) 3 3)).alloc (.cells #[.int .i64 0, .int .i64 0, .int .i64 0] 3)) (w6.setCell ⟨XF, 0, none⟩ (.slice (some ⟨BM, 0, none⟩) 3 3)).heap.size [0, 0, 0] := heap_alloc_new (w6.setCell ⟨XF, 0, none⟩ (.slice (some ⟨BM, 0, none⟩) 3 3)) _
      rw [show (w6.setCell ⟨XF, 0, none⟩ (.slice (some ⟨BM, 0, none⟩) 3 3)).heap.size = BM from by rw [size_setCell]; exact hBM.symm] at kz
      clear hBM
      replace q0 := q0.below al
      replace GA := GA.below al
      replace qf := qf.below al
      replace TT := TT.trans (Touch.of al)
      replace rd := rd.below al
      clear al
      have hzl := kz.lt
      have GM : FA ((w6.setCell ⟨XF, 0, none⟩ (.slice (some ⟨BM, 0, none⟩) 3 3)).alloc (.cells #[.int .i64 0, .int .i64 0, .int .i64 0] 3)) (some ⟨BM, 0, none⟩) 3 (some ⟨DA, 0, none⟩) 2 ([0, 0, 0], LDA, KA) := ⟨kz.ints' rfl, GA.D, by omega, by omega⟩
      clear kz GA
      have zM1 : w.heap.size ≤ BM := hwz
      have zM2 := zA2
      have hBMw : w.heap.size < BM := by omega
      obtain ⟨W7, hW7⟩ : ∃ W, W = ((w6.setCell ⟨XF, 0, none⟩ (.slice (some ⟨BM, 0, none⟩) 3 3)).alloc (.cells #[.int .i64 0, .int .i64 0, .int .i64 0] 3)) := ⟨_, rfl⟩
      rw [← hW7]
      rw [← hW7] at TT rd q0 qf GM
      clear hW7
      refine wp_region_ends (fun X => X.cell? ⟨XF, 0, none⟩ = some (.slice (some ⟨BM, 0, none⟩) 3 3) ∧ X.cell? ⟨XF, 1, none⟩ = some (.slice (some ⟨DA, 0, none⟩) 2 2) ∧ X.cell? ⟨XF, 2, none⟩ = some (.int .i64 KA)) (fun _ => True) 5 (by kernel_rfl) ?_
      have dr : Below W7.heap.size W7 W7.drew := (Below.refl _ _).drew
      replace q0 := q0.below dr
      replace qf := qf.below dr
      replace GM := GM.below dr
      replace TT := TT.trans (Touch.of dr)
      replace rd := rd.below dr
      clear dr
      obtain ⟨V8, hV8⟩ : ∃ W, W = W7.drew := ⟨_, rfl⟩
      rw [← hV8]
      rw [← hV8] at TT rd q0 qf GM
      clear hV8
      have hSS : (fun X : World => X.cell? ⟨XF, 0, none⟩ = some (.slice (some ⟨BM, 0, none⟩) 3 3) ∧ X.cell? ⟨XF, 1, none⟩ = some (.slice (some ⟨DA, 0, none⟩) 2 2) ∧ X.cell? ⟨XF, 2, none⟩ = some (.int .i64 KA)) V8 ∧ True := ⟨⟨qf.cell 0, qf.cell 1, qf.cell 2⟩, trivial⟩
      refine tkL (i := 0) rfl hSS ?_
      refine tkL (i := 2) rfl hSS ?_
      refine wpAnyE_one (i := 1) (by kernel_rfl) rfl (fun Kn hK => ?_)
      go_simp
      refine (pick_any R a n cap bs (p + 1 + 6 + 1) 3 _ rd (by omega) (by omega) (by omega) (by omega)).mono ?_
      rintro e w9 ⟨ri, hi0, hi1, rfl, t5, R5⟩
      obtain ⟨i, rfl⟩ := Int.eq_ofNat_of_zero_le hi0
      clear hi0
      replace q0 := q0.touch t5 nq0
      replace qf := qf.touch t5 nqf
      replace GM := GM.far t5 (lo := w.heap.size) (fun k hk => by omega) zM1 zM2
      replace TT := TT.trans t5
      replace rd := R5
      clear t5 R5
      dsimp only
      clear hSS
      have hSS : (fun X : World => X.cell? ⟨XF, 0, none⟩ = some (.slice (some ⟨BM, 0, none⟩) 3 3) ∧ X.cell? ⟨XF, 1, none⟩ = some (.slice (some ⟨DA, 0, none⟩) 2 2) ∧ X.cell? ⟨XF, 2, none⟩ = some (.int .i64 KA)) w9 ∧ True := ⟨⟨qf.cell 0, qf.cell 1, qf.cell 2⟩, trivial⟩
      refine hK.out _ _ ⟨hSS.1, fun _ => trivial⟩ ?_
      clear hK
      refine tkL (i := 3) rfl hSS ?_
      refine wpAnyE_one (i := 4) (by kernel_rfl) rfl (fun Kn hK => ?_)
      have gq0_0 := q0.cell 0
      have gq0_1 := q0.cell 1
      have gq0_2 := q0.cell 2
      have gq0_3 := q0.cell 3
      have gq0_4 := q0.cell 4
      have gq0_5 := q0.cell 5
      simp only [List.getElem?_cons_zero, List.getElem?_cons_succ] at gq0_0 gq0_1 gq0_2 gq0_3 gq0_4 gq0_5
      have fq0_0 := q0.free 0
      have fq0_1 := q0.free 1
      have fq0_2 := q0.free 2
      have fq0_3 := q0.free 3
      have fq0_4 := q0.free 4
      have fq0_5 := q0.free 5
      have lq0 := q0.lt
      go_simp
      clear gq0_0 gq0_1 gq0_2 gq0_3 gq0_4 gq0_5 fq0_0 fq0_1 fq0_2 fq0_3 fq0_4 fq0_5 lq0
      have hwt2 := TT.size
      have hlq2 := q0.lt
      replace q0 := q0.set 0 (.int .i64 2)
      replace qf := qf.setOther (B' := w.heap.size) (by omega) 0 (.int .i64 2)
      replace GM := GM.setFar (X := w.heap.size) (by omega) (by omega) 0 (.int .i64 2)
      replace rd := rd.setNew (B := w.heap.size) (by omega) (fun h0 b o e => by have := ha0 h0 b o e; omega) 0 (.int .i64 2)
      replace TT := TT.setNewF (B := w.heap.size) (by omega) 0 (.int .i64 2)
      replace q0 := q0.set 1 (.int .i64 (i : Int))
      replace qf := qf.setOther (B' := w.heap.size) (by omega) 1 (.int .i64 (i : Int))
      replace GM := GM.setFar (X := w.heap.size) (by omega) (by omega) 1 (.int .i64 (i : Int))
      replace rd := rd.setNew (B := w.heap.size) (by omega) (fun h0 b o e => by have := ha0 h0 b o e; omega) 1 (.int .i64 (i : Int))
      replace TT := TT.setNewF (B := w.heap.size) (by omega) 1 (.int .i64 (i : Int))
      replace q0 := q0.set 2 (.int .i64 0)
      replace qf := qf.setOther (B' := w.heap.size) (by omega) 2 (.int .i64 0)
      replace GM := GM.setFar (X := w.heap.size) (by omega) (by omega) 2 (.int .i64 0)
      replace rd := rd.setNew (B := w.heap.size) (by omega) (fun h0 b o e => by have := ha0 h0 b o e; omega) 2 (.int .i64 0)
      replace TT := TT.setNewF (B := w.heap.size) (by omega) 2 (.int .i64 0)
      replace q0 := q0.set 3 (.slice (some ⟨BM, 0, none⟩) 3 3)
      replace qf := qf.setOther (B' := w.heap.size) (by omega) 3 (.slice (some ⟨BM, 0, none⟩) 3 3)
      replace GM := GM.setFar (X := w.heap.size) (by omega) (by omega) 3 (.slice (some ⟨BM, 0, none⟩) 3 3)
      replace rd := rd.setNew (B := w.heap.size) (by omega) (fun h0 b o e => by have := ha0 h0 b o e; omega) 3 (.slice (some ⟨BM, 0, none⟩) 3 3)
      replace TT := TT.setNewF (B := w.heap.size) (by omega) 3 (.slice (some ⟨BM, 0, none⟩) 3 3)
      replace q0 := q0.set 4 (.slice (some ⟨DA, 0, none⟩) 2 2)
      replace qf := qf.setOther (B' := w.heap.size) (by omega) 4 (.slice (some ⟨DA, 0, none⟩) 2 2)
      replace GM := GM.setFar (X := w.heap.size) (by omega) (by omega) 4 (.slice (some ⟨DA, 0, none⟩) 2 2)
      replace rd := rd.setNew (B := w.heap.size) (by omega) (fun h0 b o e => by have := ha0 h0 b o e; omega) 4 (.slice (some ⟨DA, 0, none⟩) 2 2)
      replace TT := TT.setNewF (B := w.heap.size) (by omega) 4 (.slice (some ⟨DA, 0, none⟩) 2 2)
      replace q0 := q0.set 5 (.int .i64 KA)
      replace qf := qf.setOther (B' := w.heap.size) (by omega) 5 (.int .i64 KA)
      replace GM := GM.setFar (X := w.heap.size) (by omega) (by omega) 5 (.int .i64 KA)
      replace rd := rd.setNew (B := w.heap.size) (by omega) (fun h0 b o e => by have := ha0 h0 b o e; omega) 5 (.int .i64 KA)
      replace TT := TT.setNewF (B := w.heap.size) (by omega) 5 (.int .i64 KA)
      obtain ⟨W10, hW10⟩ : ∃ W, W = ((((((w9.setCell ⟨w.heap.size, 0, none⟩ (.int .i64 2)).setCell ⟨w.heap.size, 1, none⟩ (.int .i64 (i : Int))).setCell ⟨w.heap.size, 2, none⟩ (.int .i64 0)).setCell ⟨w.heap.size, 3, none⟩ (.slice (some ⟨BM, 0, none⟩) 3 3)).setCell ⟨w.heap.size, 4, none⟩ (.slice (some ⟨DA, 0, none⟩) 2 2)).setCell ⟨w.heap.size, 5, none⟩ (.int .i64 KA)) := ⟨_, rfl⟩
      rw [← hW10]
      rw [← hW10] at TT rd q0 qf GM
      clear hW10
      clear hSS
      have hSS : (fun X : World => X.cell? ⟨XF, 0, none⟩ = some (.slice (some ⟨BM, 0, none⟩) 3 3) ∧ X.cell? ⟨XF, 1, none⟩ = some (.slice (some ⟨DA, 0, none⟩) 2 2) ∧ X.cell? ⟨XF, 2, none⟩ = some (.int .i64 KA)) W10 ∧ True := ⟨⟨qf.cell 0, qf.cell 1, qf.cell 2⟩, trivial⟩
      refine hK.out _ _ ⟨hSS.1, fun _ => trivial⟩ ?_
      clear hK
      refine wpAnyE_done (by kernel_rfl) ?_ _
      clear hSS
      go_wp2
      have hws := TT.size
      have u0 : W10.cell? ⟨w.heap.size, 0, none⟩ = some (.int .i64 2) := q0.cell 0
      have u1 : W10.cell? ⟨w.heap.size, 1, none⟩ = some (.int .i64 (i : Int)) := q0.cell 1
      have u2 : W10.cell? ⟨w.heap.size, 2, none⟩ = some (.int .i64 0) := q0.cell 2
      have u3 : W10.cell? ⟨w.heap.size, 3, none⟩ = some (.slice (some ⟨BM, 0, none⟩) 3 3) := q0.cell 3
      have u4 : W10.cell? ⟨w.heap.size, 4, none⟩ = some (.slice (some ⟨DA, 0, none⟩) 2 2) := q0.cell 4
      have u5 : W10.cell? ⟨w.heap.size, 5, none⟩ = some (.int .i64 KA) := q0.cell 5
      refine bodyPost_ret (v := lnV ⟨2, (i : Int), 0, ⟨some ⟨BM, 0, none⟩, 3, 3, some ⟨DA, 0, none⟩, 2, 2, KA, [0, 0, 0], LDA⟩⟩) (by simp [results, Tryd.results112, go_sem, u0, u1, u2, u3, u4, u5]) rfl ⟨⟨2, (i : Int), 0, ⟨some ⟨BM, 0, none⟩, 3, 3, some ⟨DA, 0, none⟩, 2, 2, KA, [0, 0, 0], LDA⟩⟩, _, rfl, ⟨TT, rd, ⟨GM.C, GM.D, by simp only []; omega, by simp only []; omega⟩, fun b o e => by simp only [Option.some.injEq, Addr.mk.injEq] at e; have hb := GM.C.blk (by omega); omega, fun b o e => by simp only [Option.some.injEq, Addr.mk.injEq] at e; have hb := GM.D.blk (by omega); omega, lok2 (pot := (i : Int)) (small_of (fun i => by rcases i with _ | _ | _ | i <;> simp) sDA sKA1 sKA2) (by omega) (by omega), by omega, by omega⟩⟩
  · go_wp2_with fail
    have xA := q0.lt
    refine (small_f R a n cap bs (p + 1) _ rd (by omega) (by omega) rd.ha).mono ?_
    rintro e w4 ⟨BA, DA, LCA, LDA, KA, rfl, t5, R5, f5, sCA, sDA, sKA1, sKA2⟩
    have zA1 : w.heap.size ≤ BA := Nat.le_trans TT.size f5.b1
    have zA2 : w.heap.size ≤ DA := Nat.le_trans TT.size f5.b2
    have lCA := f5.l1
    have lDA := f5.l2
    have GA : FA w4 (some ⟨BA, 0, none⟩) 3 (some ⟨DA, 0, none⟩) 2 (LCA, LDA, KA) := ⟨f5.k1.ints' f5.l1, f5.k2.ints' f5.l2, by omega, by omega⟩
    have ltCA := f5.k1.lt
    have ltDA := f5.k2.lt
    have nCDA := f5.ne
    have yA1 := f5.b1
    have yA2 := f5.b2
    clear f5
    replace q0 := q0.touch t5 nq0
    replace TT := TT.trans t5
    replace rd := R5
    clear t5 R5
    have hwt := TT.size
    have hlq := q0.lt
    have al := (Below.refl w4.heap.size w4).alloc (Nat.le_refl _) (.cells #[.slice (some ⟨BA, 0, none⟩) 3 3, .slice (some ⟨DA, 0, none⟩) 2 2, .int .i64 KA] 25)
    have qf := Cel.new w4 [.slice (some ⟨BA, 0, none⟩) 3 3, .slice (some ⟨DA, 0, none⟩) 2 2, .int .i64 KA] 25
    replace q0 := q0.below al
    replace GA := GA.below al
    replace TT := TT.trans (Touch.of al)
    replace rd := rd.below al
    clear al
    go_wp2_with fail
    obtain ⟨W5, hW5⟩ : ∃ W, W = (w4.alloc (.cells #[.slice (some ⟨BA, 0, none⟩) 3 3, .slice (some ⟨DA, 0, none⟩) 2 2, .int .i64 KA] 25)) := ⟨_, rfl⟩
    rw [← hW5]
    rw [← hW5] at TT rd q0 GA qf
    clear hW5
    obtain ⟨XF, hXF⟩ : ∃ x, x = w4.heap.size := ⟨_, rfl⟩
    rw [← hXF]
    rw [← hXF] at qf hwt
    have nqf : XF ≠ R := by omega
    have hXw : w.heap.size < XF := by omega
    have nXB : BA ≠ XF := by omega
    have nXD : DA ≠ XF := by omega
    clear hXF
    refine (pick_any R a n cap bs (p + 1 + 6) 3 _ rd (by omega) (by omega) (by omega) (by omega)).mono ?_
    rintro e w6 ⟨rk, hk0, hk1, rfl, t5, R5⟩
    obtain ⟨k, rfl⟩ := Int.eq_ofNat_of_zero_le hk0
    clear hk0
    replace q0 := q0.touch t5 nq0
    replace GA := GA.far t5 (lo := w.heap.size) (fun k hk => by omega) zA1 zA2
    replace qf := qf.touch t5 nqf
    replace TT := TT.trans t5
    replace rd := R5
    clear t5 R5
    by_cases hk : (k : Int) = 0
    · have hk' : ¬ (0 : Int) < (k : Int) := by omega
      go_upto_region 11 with fail
      refine wp_region_ends (fun X => X.cell? ⟨XF, 0, none⟩ = some (.slice (some ⟨BA, 0, none⟩) 3 3) ∧ X.cell? ⟨XF, 1, none⟩ = some (.slice (some ⟨DA, 0, none⟩) 2 2) ∧ X.cell? ⟨XF, 2, none⟩ = some (.int .i64 KA)) (fun _ => True) 5 (by kernel_rfl) ?_
      have dr : Below w6.heap.size w6 w6.drew := (Below.refl _ _).drew
      replace q0 := q0.below dr
      replace GA := GA.below dr
      replace qf := qf.below dr
      replace TT := TT.trans (Touch.of dr)
      replace rd := rd.below dr
      clear dr
      obtain ⟨V7, hV7⟩ : ∃ W, W = w6.drew := ⟨_, rfl⟩
      rw [← hV7]
      rw [← hV7] at TT rd q0 GA qf
      clear hV7
      have hSS : (fun X : World => X.cell? ⟨XF, 0, none⟩ = some (.slice (some ⟨BA, 0, none⟩) 3 3) ∧ X.cell? ⟨XF, 1, none⟩ = some (.slice (some ⟨DA, 0, none⟩) 2 2) ∧ X.cell? ⟨XF, 2, none⟩ = some (.int .i64 KA)) V7 ∧ True := ⟨⟨qf.cell 0, qf.cell 1, qf.cell 2⟩, trivial⟩
      refine tkL (i := 0) rfl hSS ?_
      refine tkL (i := 2) rfl hSS ?_
      refine wpAnyE_one (i := 1) (by kernel_rfl) rfl (fun Kn hK => ?_)
      go_simp
      refine (pick_any R a n cap bs (p + 1 + 6 + 1) 3 _ rd (by omega) (by omega) (by omega) (by omega)).mono ?_
      rintro e w8 ⟨ri, hi0, hi1, rfl, t5, R5⟩
      obtain ⟨i, rfl⟩ := Int.eq_ofNat_of_zero_le hi0
      clear hi0
      replace q0 := q0.touch t5 nq0
      replace GA := GA.far t5 (lo := w.heap.size) (fun k hk => by omega) zA1 zA2
      replace qf := qf.touch t5 nqf
      replace TT := TT.trans t5
      replace rd := R5
      clear t5 R5
      dsimp only
      clear hSS
      have hSS : (fun X : World => X.cell? ⟨XF, 0, none⟩ = some (.slice (some ⟨BA, 0, none⟩) 3 3) ∧ X.cell? ⟨XF, 1, none⟩ = some (.slice (some ⟨DA, 0, none⟩) 2 2) ∧ X.cell? ⟨XF, 2, none⟩ = some (.int .i64 KA)) w8 ∧ True := ⟨⟨qf.cell 0, qf.cell 1, qf.cell 2⟩, trivial⟩
      refine hK.out _ _ ⟨hSS.1, fun _ => trivial⟩ ?_
      clear hK
      refine tkL (i := 3) rfl hSS ?_
      refine wpAnyE_one (i := 4) (by kernel_rfl) rfl (fun Kn hK => ?_)
      have gq0_0 := q0.cell 0
      have gq0_1 := q0.cell 1
      have gq0_2 := q0.cell 2
      have gq0_3 := q0.cell 3
      have gq0_4 := q0.cell 4
      have gq0_5 := q0.cell 5
      simp only [List.getElem?_cons_zero, List.getElem?_cons_succ] at gq0_0 gq0_1 gq0_2 gq0_3 gq0_4 gq0_5
      have fq0_0 := q0.free 0
      have fq0_1 := q0.free 1
      have fq0_2 := q0.free 2
      have fq0_3 := q0.free 3
      have fq0_4 := q0.free 4
      have fq0_5 := q0.free 5
      have lq0 := q0.lt
      go_simp
      clear gq0_0 gq0_1 gq0_2 gq0_3 gq0_4 gq0_5 fq0_0 fq0_1 fq0_2 fq0_3 fq0_4 fq0_5 lq0
      have hwt2 := TT.size
      have hlq2 := q0.lt
      replace q0 := q0.set 0 (.int .i64 2)
      replace GA := GA.setFar (X := w.heap.size) (by omega) (by omega) 0 (.int .i64 2)
      replace qf := qf.setOther (B' := w.heap.size) (by omega) 0 (.int .i64 2)
      replace rd := rd.setNew (B := w.heap.size) (by omega) (fun h0 b o e => by have := ha0 h0 b o e; omega) 0 (.int .i64 2)
      replace TT := TT.setNewF (B := w.heap.size) (by omega) 0 (.int .i64 2)
      replace q0 := q0.set 1 (.int .i64 (i : Int))
      replace GA := GA.setFar (X := w.heap.size) (by omega) (by omega) 1 (.int .i64 (i : Int))
      replace qf := qf.setOther (B' := w.heap.size) (by omega) 1 (.int .i64 (i : Int))
      replace rd := rd.setNew (B := w.heap.size) (by omega) (fun h0 b o e => by have := ha0 h0 b o e; omega) 1 (.int .i64 (i : Int))
      replace TT := TT.setNewF (B := w.heap.size) (by omega) 1 (.int .i64 (i : Int))
      replace q0 := q0.set 2 (.int .i64 0)
      replace GA := GA.setFar (X := w.heap.size) (by omega) (by omega) 2 (.int .i64 0)
      replace qf := qf.setOther (B' := w.heap.size) (by omega) 2 (.int .i64 0)
      replace rd := rd.setNew (B := w.heap.size) (by omega) (fun h0 b o e => by have := ha0 h0 b o e; omega) 2 (.int .i64 0)
      replace TT := TT.setNewF (B := w.heap.size) (by omega) 2 (.int .i64 0)
      replace q0 := q0.set 3 (.slice (some ⟨BA, 0, none⟩) 3 3)
      replace GA := GA.setFar (X := w.heap.size) (by omega) (by omega) 3 (.slice (some ⟨BA, 0, none⟩) 3 3)
      replace qf := qf.setOther (B' := w.heap.size) (by omega) 3 (.slice (some ⟨BA, 0, none⟩) 3 3)
      replace rd := rd.setNew (B := w.heap.size) (by omega) (fun h0 b o e => by have := ha0 h0 b o e; omega) 3 (.slice (some ⟨BA, 0, none⟩) 3 3)
      replace TT := TT.setNewF (B := w.heap.size) (by omega) 3 (.slice (some ⟨BA, 0, none⟩) 3 3)
      replace q0 := q0.set 4 (.slice (some ⟨DA, 0, none⟩) 2 2)
      replace GA := GA.setFar (X := w.heap.size) (by omega) (by omega) 4 (.slice (some ⟨DA, 0, none⟩) 2 2)
      replace qf := qf.setOther (B' := w.heap.size) (by omega) 4 (.slice (some ⟨DA, 0, none⟩) 2 2)
      replace rd := rd.setNew (B := w.heap.size) (by omega) (fun h0 b o e => by have := ha0 h0 b o e; omega) 4 (.slice (some ⟨DA, 0, none⟩) 2 2)
      replace TT := TT.setNewF (B := w.heap.size) (by omega) 4 (.slice (some ⟨DA, 0, none⟩) 2 2)
      replace q0 := q0.set 5 (.int .i64 KA)
      replace GA := GA.setFar (X := w.heap.size) (by omega) (by omega) 5 (.int .i64 KA)
      replace qf := qf.setOther (B' := w.heap.size) (by omega) 5 (.int .i64 KA)
      replace rd := rd.setNew (B := w.heap.size) (by omega) (fun h0 b o e => by have := ha0 h0 b o e; omega) 5 (.int .i64 KA)
      replace TT := TT.setNewF (B := w.heap.size) (by omega) 5 (.int .i64 KA)
      obtain ⟨W9, hW9⟩ : ∃ W, W = ((((((w8.setCell ⟨w.heap.size, 0, none⟩ (.int .i64 2)).setCell ⟨w.heap.size, 1, none⟩ (.int .i64 (i : Int))).setCell ⟨w.heap.size, 2, none⟩ (.int .i64 0)).setCell ⟨w.heap.size, 3, none⟩ (.slice (some ⟨BA, 0, none⟩) 3 3)).setCell ⟨w.heap.size, 4, none⟩ (.slice (some ⟨DA, 0, none⟩) 2 2)).setCell ⟨w.heap.size, 5, none⟩ (.int .i64 KA)) := ⟨_, rfl⟩
      rw [← hW9]
      rw [← hW9] at TT rd q0 GA qf
      clear hW9
      clear hSS
      have hSS : (fun X : World => X.cell? ⟨XF, 0, none⟩ = some (.slice (some ⟨BA, 0, none⟩) 3 3) ∧ X.cell? ⟨XF, 1, none⟩ = some (.slice (some ⟨DA, 0, none⟩) 2 2) ∧ X.cell? ⟨XF, 2, none⟩ = some (.int .i64 KA)) W9 ∧ True := ⟨⟨qf.cell 0, qf.cell 1, qf.cell 2⟩, trivial⟩
      refine hK.out _ _ ⟨hSS.1, fun _ => trivial⟩ ?_
      clear hK
      refine wpAnyE_done (by kernel_rfl) ?_ _
      clear hSS
      go_wp2
      have hws := TT.size
      have u0 : W9.cell? ⟨w.heap.size, 0, none⟩ = some (.int .i64 2) := q0.cell 0
      have u1 : W9.cell? ⟨w.heap.size, 1, none⟩ = some (.int .i64 (i : Int)) := q0.cell 1
      have u2 : W9.cell? ⟨w.heap.size, 2, none⟩ = some (.int .i64 0) := q0.cell 2
      have u3 : W9.cell? ⟨w.heap.size, 3, none⟩ = some (.slice (some ⟨BA, 0, none⟩) 3 3) := q0.cell 3
      have u4 : W9.cell? ⟨w.heap.size, 4, none⟩ = some (.slice (some ⟨DA, 0, none⟩) 2 2) := q0.cell 4
      have u5 : W9.cell? ⟨w.heap.size, 5, none⟩ = some (.int .i64 KA) := q0.cell 5
      refine bodyPost_ret (v := lnV ⟨2, (i : Int), 0, ⟨some ⟨BA, 0, none⟩, 3, 3, some ⟨DA, 0, none⟩, 2, 2, KA, LCA, LDA⟩⟩) (by simp [results, Tryd.results112, go_sem, u0, u1, u2, u3, u4, u5]) rfl ⟨⟨2, (i : Int), 0, ⟨some ⟨BA, 0, none⟩, 3, 3, some ⟨DA, 0, none⟩, 2, 2, KA, LCA, LDA⟩⟩, _, rfl, ⟨TT, rd, ⟨GA.C, GA.D, by simp only []; omega, by simp only []; omega⟩, fun b o e => by simp only [Option.some.injEq, Addr.mk.injEq] at e; have hb := GA.C.blk (by omega); omega, fun b o e => by simp only [Option.some.injEq, Addr.mk.injEq] at e; have hb := GA.D.blk (by omega); omega, lok2 (pot := (i : Int)) (small_of sCA sDA sKA1 sKA2) (by omega) (by omega), by omega, by omega⟩⟩
    · have hk' : (0 : Int) < (k : Int) := by omega
      have gqf_0 := qf.cell 0
      have gqf_1 := qf.cell 1
      have gqf_2 := qf.cell 2
      simp only [List.getElem?_cons_zero, List.getElem?_cons_succ] at gqf_0 gqf_1 gqf_2
      have fqf_0 := qf.free 0
      have fqf_1 := qf.free 1
      have fqf_2 := qf.free 2
      have lqf := qf.lt
      go_upto_region 11 with fail
      clear gqf_0 gqf_1 gqf_2 fqf_0 fqf_1 fqf_2 lqf
      have hwz := TT.size
      have ltF := qf.lt
      obtain ⟨BM, hBM⟩ : ∃ x, x = w6.heap.size := ⟨_, rfl⟩
      rw [← hBM]
      rw [← hBM] at hwz ltF
      have nXM : BM ≠ XF := by omega
      have nRM : BM ≠ R := by omega
      replace q0 := q0.setOther (B' := XF) (by omega) 0 (.slice (some ⟨BM, 0, none⟩) 3 3)
      replace GA := GA.setFar (X := XF) (by omega) (by omega) 0 (.slice (some ⟨BM, 0, none⟩) 3 3)
      replace qf := qf.set 0 (.slice (some ⟨BM, 0, none⟩) 3 3)
      replace rd := rd.setNew (B := XF) (by omega) (fun h0 b o e => by have := ha0 h0 b o e; omega) 0 (.slice (some ⟨BM, 0, none⟩) 3 3)
      replace TT := TT.setNewF (B := XF) (by omega) 0 (.slice (some ⟨BM, 0, none⟩) 3 3)
      have al := (Below.refl (w6.setCell ⟨XF, 0, none⟩ (.slice (some ⟨BM, 0, none⟩) 3 3)).heap.size (w6.setCell ⟨XF, 0, none⟩ (.slice (some ⟨BM, 0, none⟩) 3 3))).alloc (Nat.le_refl _) (.cells #[.int .i64 0, .int .i64 0, .int .i64 0] 3)
      have kz : Blk ((w6.setCell ⟨XF, 0, none⟩ (.slice (some ⟨BM, 0, none⟩) 3 3)).alloc (.cells #[.int .i64 0, .int .i64 0, .int .i64 0] 3)) (w6.setCell ⟨XF, 0, none⟩ (.slice (some ⟨BM, 0, none⟩) 3 3)).heap.size [0, 0, 0] := heap_alloc_new (w6.setCell ⟨XF, 0, none⟩ (.slice (some ⟨BM, 0, none⟩) 3 3)) _
      rw [show (w6.setCell ⟨XF, 0, none⟩ (.slice (some ⟨BM, 0, none⟩) 3 3)).heap.size = BM from by rw [size_setCell]; exact hBM.symm] at kz
      clear hBM
      replace q0 := q0.below al
      replace GA := GA.below al
      replace qf := qf.below al
      replace TT := TT.trans (Touch.of al)
      replace rd := rd.below al
      clear al
      have hzl := kz.lt
      have GM : FA ((w6.setCell ⟨XF, 0, none⟩ (.slice (some ⟨BM, 0, none⟩) 3 3)).alloc (.cells #[.int .i64 0, .int .i64 0, .int .i64 0] 3)) (some ⟨BM, 0, none⟩) 3 (some ⟨DA, 0, none⟩) 2 ([0, 0, 0], LDA, KA) := ⟨kz.ints' rfl, GA.D, by omega, by omega⟩
      clear kz GA
      have zM1 : w.heap.size ≤ BM := hwz
      have zM2 := zA2
      have hBMw : w.heap.size < BM := by omega
      obtain ⟨W7, hW7⟩ : ∃ W, W = ((w6.setCell ⟨XF, 0, none⟩ (.slice (some ⟨BM, 0, none⟩) 3 3)).alloc (.cells #[.int .i64 0, .int .i64 0, .int .i64 0] 3)) := ⟨_, rfl⟩
      rw [← hW7]
      rw [← hW7] at TT rd q0 qf GM
      clear hW7
      refine wp_region_ends (fun X => X.cell? ⟨XF, 0, none⟩ = some (.slice (some ⟨BM, 0, none⟩) 3 3) ∧ X.cell? ⟨XF, 1, none⟩ = some (.slice (some ⟨DA, 0, none⟩) 2 2) ∧ X.cell? ⟨XF, 2, none⟩ = some (.int .i64 KA)) (fun _ => True) 5 (by kernel_rfl) ?_
      have dr : Below W7.heap.size W7 W7.drew := (Below.refl _ _).drew
      replace q0 := q0.below dr
      replace qf := qf.below dr
      replace GM := GM.below dr
      replace TT := TT.trans (Touch.of dr)
      replace rd := rd.below dr
      clear dr
      obtain ⟨V8, hV8⟩ : ∃ W, W = W7.drew := ⟨_, rfl⟩
      rw [← hV8]
      rw [← hV8] at TT rd q0 qf GM
      clear hV8
      have hSS : (fun X : World => X.cell? ⟨XF, 0, none⟩ = some (.slice (some ⟨BM, 0, none⟩) 3 3) ∧ X.cell? ⟨XF, 1, none⟩ = some (.slice (some ⟨DA, 0, none⟩) 2 2) ∧ X.cell? ⟨XF, 2, none⟩ = some (.int .i64 KA)) V8 ∧ True := ⟨⟨qf.cell 0, qf.cell 1, qf.cell 2⟩, trivial⟩
      refine tkL (i := 0) rfl hSS ?_
      refine tkL (i := 2) rfl hSS ?_
      refine wpAnyE_one (i := 1) (by kernel_rfl) rfl (fun Kn hK => ?_)
      go_simp
      refine (pick_any R a n cap bs (p + 1 + 6 + 1) 3 _ rd (by omega) (by omega) (by omega) (by omega)).mono ?_
      rintro e w9 ⟨ri, hi0, hi1, rfl, t5, R5⟩
      obtain ⟨i, rfl⟩ := Int.eq_ofNat_of_zero_le hi0
      clear hi0
      replace q0 := q0.touch t5 nq0
      replace qf := qf.touch t5 nqf
      replace GM := GM.far t5 (lo := w.heap.size) (fun k hk => by omega) zM1 zM2
      replace TT := TT.trans t5
      replace rd := R5
      clear t5 R5
      dsimp only
      clear hSS
      have hSS : (fun X : World => X.cell? ⟨XF, 0, none⟩ = some (.slice (some ⟨BM, 0, none⟩) 3 3) ∧ X.cell? ⟨XF, 1, none⟩ = some (.slice (some ⟨DA, 0, none⟩) 2 2) ∧ X.cell? ⟨XF, 2, none⟩ = some (.int .i64 KA)) w9 ∧ True := ⟨⟨qf.cell 0, qf.cell 1, qf.cell 2⟩, trivial⟩
      refine hK.out _ _ ⟨hSS.1, fun _ => trivial⟩ ?_
      clear hK
      refine tkL (i := 3) rfl hSS ?_
      refine wpAnyE_one (i := 4) (by kernel_rfl) rfl (fun Kn hK => ?_)
      have gq0_0 := q0.cell 0
      have gq0_1 := q0.cell 1
      have gq0_2 := q0.cell 2
      have gq0_3 := q0.cell 3
      have gq0_4 := q0.cell 4
      have gq0_5 := q0.cell 5
      simp only [List.getElem?_cons_zero, List.getElem?_cons_succ] at gq0_0 gq0_1 gq0_2 gq0_3 gq0_4 gq0_5
      have fq0_0 := q0.free 0
      have fq0_1 := q0.free 1
      have fq0_2 := q0.free 2
      have fq0_3 := q0.free 3
      have fq0_4 := q0.free 4
      have fq0_5 := q0.free 5
      have lq0 := q0.lt
      go_simp
      clear gq0_0 gq0_1 gq0_2 gq0_3 gq0_4 gq0_5 fq0_0 fq0_1 fq0_2 fq0_3 fq0_4 fq0_5 lq0
      have hwt2 := TT.size
      have hlq2 := q0.lt
      replace q0 := q0.set 0 (.int .i64 2)
      replace qf := qf.setOther (B' := w.heap.size) (by omega) 0 (.int .i64 2)
      replace GM := GM.setFar (X := w.heap.size) (by omega) (by omega) 0 (.int .i64 2)
      replace rd := rd.setNew (B := w.heap.size) (by omega) (fun h0 b o e => by have := ha0 h0 b o e; omega) 0 (.int .i64 2)
      replace TT := TT.setNewF (B := w.heap.size) (by omega) 0 (.int .i64 2)
      replace q0 := q0.set 1 (.int .i64 (i : Int))
      replace qf := qf.setOther (B' := w.heap.size) (by omega) 1 (.int .i64 (i : Int))
      replace GM := GM.setFar (X := w.heap.size) (by omega) (by omega) 1 (.int .i64 (i : Int))
      replace rd := rd.setNew (B := w.heap.size) (by omega) (fun h0 b o e => by have := ha0 h0 b o e; omega) 1 (.int .i64 (i : Int))
      replace TT := TT.setNewF (B := w.heap.size) (by omega) 1 (.int .i64 (i : Int))
      replace q0 := q0.set 2 (.int .i64 0)
      replace qf := qf.setOther (B' := w.heap.size) (by omega) 2 (.int .i64 0)
      replace GM := GM.setFar (X := w.heap.size) (by omega) (by omega) 2 (.int .i64 0)
      replace rd := rd.setNew (B := w.heap.size) (by omega) (fun h0 b o e => by have := ha0 h0 b o e; omega) 2 (.int .i64 0)
      replace TT := TT.setNewF (B := w.heap.size) (by omega) 2 (.int .i64 0)
      replace q0 := q0.set 3 (.slice (some ⟨BM, 0, none⟩) 3 3)
      replace qf := qf.setOther (B' := w.heap.size) (by omega) 3 (.slice (some ⟨BM, 0, none⟩) 3 3)
      replace GM := GM.setFar (X := w.heap.size) (by omega) (by omega) 3 (.slice (some ⟨BM, 0, none⟩) 3 3)
      replace rd := rd.setNew (B := w.heap.size) (by omega) (fun h0 b o e => by have := ha0 h0 b o e; omega) 3 (.slice (some ⟨BM, 0, none⟩) 3 3)
      replace TT := TT.setNewF (B := w.heap.size) (by omega) 3 (.slice (some ⟨BM, 0, none⟩) 3 3)
      replace q0 := q0.set 4 (.slice (some ⟨DA, 0, none⟩) 2 2)
      replace qf := qf.setOther (B' := w.heap.size) (by omega) 4 (.slice (some ⟨DA, 0, none⟩) 2 2)
      replace GM := GM.setFar (X := w.heap.size) (by omega) (by omega) 4 (.slice (some ⟨DA, 0, none⟩) 2 2)
      replace rd := rd.setNew (B := w.heap.size) (by omega) (fun h0 b o e => by have := ha0 h0 b o e; omega) 4 (.slice (some ⟨DA, 0, none⟩) 2 2)
      replace TT := TT.setNewF (B := w.heap.size) (by omega) 4 (.slice (some ⟨DA, 0, none⟩) 2 2)
      replace q0 := q0.set 5 (.int .i64 KA)
      replace qf := qf.setOther (B' := w.heap.size) (by omega) 5 (.int .i64 KA)
      replace GM := GM.setFar (X := w.heap.size) (by omega) (by omega) 5 (.int .i64 KA)
      replace rd := rd.setNew (B := w.heap.size) (by omega) (fun h0 b o e => by have := ha0 h0 b o e; omega) 5 (.int .i64 KA)
      replace TT := TT.setNewF (B := w.heap.size) (by omega) 5 (.int .i64 KA)
      obtain ⟨W10, hW10⟩ : ∃ W, W = ((((((w9.setCell ⟨w.heap.size, 0, none⟩ (.int .i64 2)).setCell ⟨w.heap.size, 1, none⟩ (.int .i64 (i : Int))).setCell ⟨w.heap.size, 2, none⟩ (.int .i64 0)).setCell ⟨w.heap.size, 3, none⟩ (.slice (some ⟨BM, 0, none⟩) 3 3)).setCell ⟨w.heap.size, 4, none⟩ (.slice (some ⟨DA, 0, none⟩) 2 2)).setCell ⟨w.heap.size, 5, none⟩ (.int .i64 KA)) := ⟨_, rfl⟩
      rw [← hW10]
      rw [← hW10] at TT rd q0 qf GM
      clear hW10
      clear hSS
      have hSS : (fun X : World => X.cell? ⟨XF, 0, none⟩ = some (.slice (some ⟨BM, 0, none⟩) 3 3) ∧ X.cell? ⟨XF, 1, none⟩ = some (.slice (some ⟨DA, 0, none⟩) 2 2) ∧ X.cell? ⟨XF, 2, none⟩ = some (.int .i64 KA)) W10 ∧ True := ⟨⟨qf.cell 0, qf.cell 1, qf.cell 2⟩, trivial⟩
      refine hK.out _ _ ⟨hSS.1, fun _ => trivial⟩ ?_
      clear hK
      refine wpAnyE_done (by kernel_rfl) ?_ _
      clear hSS
      go_wp2
      have hws := TT.size
      have u0 : W10.cell? ⟨w.heap.size, 0, none⟩ = some (.int .i64 2) := q0.cell 0
      have u1 : W10.cell? ⟨w.heap.size, 1, none⟩ = some (.int .i64 (i : Int)) := q0.cell 1
      have u2 : W10.cell? ⟨w.heap.size, 2, none⟩ = some (.int .i64 0) := q0.cell 2
      have u3 : W10.cell? ⟨w.heap.size, 3, none⟩ = some (.slice (some ⟨BM, 0, none⟩) 3 3) := q0.cell 3
      have u4 : W10.cell? ⟨w.heap.size, 4, none⟩ = some (.slice (some ⟨DA, 0, none⟩) 2 2) := q0.cell 4
      have u5 : W10.cell? ⟨w.heap.size, 5, none⟩ = some (.int .i64 KA) := q0.cell 5
      refine bodyPost_ret (v := lnV ⟨2, (i : Int), 0, ⟨some ⟨BM, 0, none⟩, 3, 3, some ⟨DA, 0, none⟩, 2, 2, KA, [0, 0, 0], LDA⟩⟩) (by simp [results, Tryd.results112, go_sem, u0, u1, u2, u3, u4, u5]) rfl ⟨⟨2, (i : Int), 0, ⟨some ⟨BM, 0, none⟩, 3, 3, some ⟨DA, 0, none⟩, 2, 2, KA, [0, 0, 0], LDA⟩⟩, _, rfl, ⟨TT, rd, ⟨GM.C, GM.D, by simp only []; omega, by simp only []; omega⟩, fun b o e => by simp only [Option.some.injEq, Addr.mk.injEq] at e; have hb := GM.C.blk (by omega); omega, fun b o e => by simp only [Option.some.injEq, Addr.mk.injEq] at e; have hb := GM.D.blk (by omega); omega, lok2 (pot := (i : Int)) (small_of (fun i => by rcases i with _ | _ | _ | i <;> simp) sDA sKA1 sKA2) (by omega) (by omega), by omega, by omega⟩⟩
  · go_wp2_with fail
    have xA := q0.lt
    refine (small_f R a n cap bs (p + 1) _ rd (by omega) (by omega) rd.ha).mono ?_
    rintro e w4 ⟨BA, DA, LCA, LDA, KA, rfl, t5, R5, f5, sCA, sDA, sKA1, sKA2⟩
    have zA1 : w.heap.size ≤ BA := Nat.le_trans TT.size f5.b1
    have zA2 : w.heap.size ≤ DA := Nat.le_trans TT.size f5.b2
    have lCA := f5.l1
    have lDA := f5.l2
    have GA : FA w4 (some ⟨BA, 0, none⟩) 3 (some ⟨DA, 0, none⟩) 2 (LCA, LDA, KA) := ⟨f5.k1.ints' f5.l1, f5.k2.ints' f5.l2, by omega, by omega⟩
    have ltCA := f5.k1.lt
    have ltDA := f5.k2.lt
    have nCDA := f5.ne
    have yA1 := f5.b1
    have yA2 := f5.b2
    clear f5
    replace q0 := q0.touch t5 nq0
    replace TT := TT.trans t5
    replace rd := R5
    clear t5 R5
    have gq0_0 := q0.cell 0
    have gq0_1 := q0.cell 1
    have gq0_2 := q0.cell 2
    have gq0_3 := q0.cell 3
    have gq0_4 := q0.cell 4
    have gq0_5 := q0.cell 5
    simp only [List.getElem?_cons_zero, List.getElem?_cons_succ] at gq0_0 gq0_1 gq0_2 gq0_3 gq0_4 gq0_5
    have fq0_0 := q0.free 0
    have fq0_1 := q0.free 1
    have fq0_2 := q0.free 2
    have fq0_3 := q0.free 3
    have fq0_4 := q0.free 4
    have fq0_5 := q0.free 5
    have lq0 := q0.lt
    go_wp2
    clear gq0_0 gq0_1 gq0_2 gq0_3 gq0_4 gq0_5 fq0_0 fq0_1 fq0_2 fq0_3 fq0_4 fq0_5 lq0
    have hwt := TT.size
    have hlq := q0.lt
    replace q0 := q0.set 0 (.int .i64 3)
    replace GA := GA.setFar (X := w.heap.size) (by omega) (by omega) 0 (.int .i64 3)
    replace rd := rd.setNew (B := w.heap.size) (by omega) (fun h0 b o e => by have := ha0 h0 b o e; omega) 0 (.int .i64 3)
    replace TT := TT.setNewF (B := w.heap.size) (by omega) 0 (.int .i64 3)
    replace q0 := q0.set 1 (.int .i64 0)
    replace GA := GA.setFar (X := w.heap.size) (by omega) (by omega) 1 (.int .i64 0)
    replace rd := rd.setNew (B := w.heap.size) (by omega) (fun h0 b o e => by have := ha0 h0 b o e; omega) 1 (.int .i64 0)
    replace TT := TT.setNewF (B := w.heap.size) (by omega) 1 (.int .i64 0)
    replace q0 := q0.set 2 (.int .i64 0)
    replace GA := GA.setFar (X := w.heap.size) (by omega) (by omega) 2 (.int .i64 0)
    replace rd := rd.setNew (B := w.heap.size) (by omega) (fun h0 b o e => by have := ha0 h0 b o e; omega) 2 (.int .i64 0)
    replace TT := TT.setNewF (B := w.heap.size) (by omega) 2 (.int .i64 0)
    replace q0 := q0.set 3 (.slice (some ⟨BA, 0, none⟩) 3 3)
    replace GA := GA.setFar (X := w.heap.size) (by omega) (by omega) 3 (.slice (some ⟨BA, 0, none⟩) 3 3)
    replace rd := rd.setNew (B := w.heap.size) (by omega) (fun h0 b o e => by have := ha0 h0 b o e; omega) 3 (.slice (some ⟨BA, 0, none⟩) 3 3)
    replace TT := TT.setNewF (B := w.heap.size) (by omega) 3 (.slice (some ⟨BA, 0, none⟩) 3 3)
    replace q0 := q0.set 4 (.slice (some ⟨DA, 0, none⟩) 2 2)
    replace GA := GA.setFar (X := w.heap.size) (by omega) (by omega) 4 (.slice (some ⟨DA, 0, none⟩) 2 2)
    replace rd := rd.setNew (B := w.heap.size) (by omega) (fun h0 b o e => by have := ha0 h0 b o e; omega) 4 (.slice (some ⟨DA, 0, none⟩) 2 2)
    replace TT := TT.setNewF (B := w.heap.size) (by omega) 4 (.slice (some ⟨DA, 0, none⟩) 2 2)
    replace q0 := q0.set 5 (.int .i64 KA)
    replace GA := GA.setFar (X := w.heap.size) (by omega) (by omega) 5 (.int .i64 KA)
    replace rd := rd.setNew (B := w.heap.size) (by omega) (fun h0 b o e => by have := ha0 h0 b o e; omega) 5 (.int .i64 KA)
    replace TT := TT.setNewF (B := w.heap.size) (by omega) 5 (.int .i64 KA)
    obtain ⟨W5, hW5⟩ : ∃ W, W = ((((((w4.setCell ⟨w.heap.size, 0, none⟩ (.int .i64 3)).setCell ⟨w.heap.size, 1, none⟩ (.int .i64 0)).setCell ⟨w.heap.size, 2, none⟩ (.int .i64 0)).setCell ⟨w.heap.size, 3, none⟩ (.slice (some ⟨BA, 0, none⟩) 3 3)).setCell ⟨w.heap.size, 4, none⟩ (.slice (some ⟨DA, 0, none⟩) 2 2)).setCell ⟨w.heap.size, 5, none⟩ (.int .i64 KA)) := ⟨_, rfl⟩
    rw [← hW5]
    rw [← hW5] at TT rd q0 GA
    clear hW5
    have hws := TT.size
    have u0 : W5.cell? ⟨w.heap.size, 0, none⟩ = some (.int .i64 3) := q0.cell 0
    have u1 : W5.cell? ⟨w.heap.size, 1, none⟩ = some (.int .i64 0) := q0.cell 1
    have u2 : W5.cell? ⟨w.heap.size, 2, none⟩ = some (.int .i64 0) := q0.cell 2
    have u3 : W5.cell? ⟨w.heap.size, 3, none⟩ = some (.slice (some ⟨BA, 0, none⟩) 3 3) := q0.cell 3
    have u4 : W5.cell? ⟨w.heap.size, 4, none⟩ = some (.slice (some ⟨DA, 0, none⟩) 2 2) := q0.cell 4
    have u5 : W5.cell? ⟨w.heap.size, 5, none⟩ = some (.int .i64 KA) := q0.cell 5
    refine bodyPost_ret (v := lnV ⟨3, 0, 0, ⟨some ⟨BA, 0, none⟩, 3, 3, some ⟨DA, 0, none⟩, 2, 2, KA, LCA, LDA⟩⟩) (by simp [results, Tryd.results112, go_sem, u0, u1, u2, u3, u4, u5]) rfl ⟨⟨3, 0, 0, ⟨some ⟨BA, 0, none⟩, 3, 3, some ⟨DA, 0, none⟩, 2, 2, KA, LCA, LDA⟩⟩, _, rfl, ⟨TT, rd, ⟨GA.C, GA.D, by simp only []; omega, by simp only []; omega⟩, fun b o e => by simp only [Option.some.injEq, Addr.mk.injEq] at e; have hb := GA.C.blk (by omega); omega, fun b o e => by simp only [Option.some.injEq, Addr.mk.injEq] at e; have hb := GA.D.blk (by omega); omega, lok3 (small_of sCA sDA sKA1 sKA2), by omega, by omega⟩⟩
  · have gq0_0 := q0.cell 0
    have gq0_1 := q0.cell 1
    have gq0_2 := q0.cell 2
    have gq0_3 := q0.cell 3
    have gq0_4 := q0.cell 4
    have gq0_5 := q0.cell 5
    simp only [List.getElem?_cons_zero, List.getElem?_cons_succ] at gq0_0 gq0_1 gq0_2 gq0_3 gq0_4 gq0_5
    have fq0_0 := q0.free 0
    have fq0_1 := q0.free 1
    have fq0_2 := q0.free 2
    have fq0_3 := q0.free 3
    have fq0_4 := q0.free 4
    have fq0_5 := q0.free 5
    have lq0 := q0.lt
    go_wp2
    clear gq0_0 gq0_1 gq0_2 gq0_3 gq0_4 gq0_5 fq0_0 fq0_1 fq0_2 fq0_3 fq0_4 fq0_5 lq0
    have hwt := TT.size
    have hlq := q0.lt
    replace q0 := q0.set 0 (.int .i64 4)
    replace rd := rd.setNew (B := w.heap.size) (by omega) (fun h0 b o e => by have := ha0 h0 b o e; omega) 0 (.int .i64 4)
    replace TT := TT.setNewF (B := w.heap.size) (by omega) 0 (.int .i64 4)
    replace q0 := q0.set 1 (.int .i64 0)
    replace rd := rd.setNew (B := w.heap.size) (by omega) (fun h0 b o e => by have := ha0 h0 b o e; omega) 1 (.int .i64 0)
    replace TT := TT.setNewF (B := w.heap.size) (by omega) 1 (.int .i64 0)
    replace q0 := q0.set 2 (.int .i64 0)
    replace rd := rd.setNew (B := w.heap.size) (by omega) (fun h0 b o e => by have := ha0 h0 b o e; omega) 2 (.int .i64 0)
    replace TT := TT.setNewF (B := w.heap.size) (by omega) 2 (.int .i64 0)
    replace q0 := q0.set 3 (.slice none 0 0)
    replace rd := rd.setNew (B := w.heap.size) (by omega) (fun h0 b o e => by have := ha0 h0 b o e; omega) 3 (.slice none 0 0)
    replace TT := TT.setNewF (B := w.heap.size) (by omega) 3 (.slice none 0 0)
    replace q0 := q0.set 4 (.slice none 0 0)
    replace rd := rd.setNew (B := w.heap.size) (by omega) (fun h0 b o e => by have := ha0 h0 b o e; omega) 4 (.slice none 0 0)
    replace TT := TT.setNewF (B := w.heap.size) (by omega) 4 (.slice none 0 0)
    replace q0 := q0.set 5 (.int .i64 0)
    replace rd := rd.setNew (B := w.heap.size) (by omega) (fun h0 b o e => by have := ha0 h0 b o e; omega) 5 (.int .i64 0)
    replace TT := TT.setNewF (B := w.heap.size) (by omega) 5 (.int .i64 0)
    obtain ⟨W4, hW4⟩ : ∃ W, W = ((((((w3.setCell ⟨w.heap.size, 0, none⟩ (.int .i64 4)).setCell ⟨w.heap.size, 1, none⟩ (.int .i64 0)).setCell ⟨w.heap.size, 2, none⟩ (.int .i64 0)).setCell ⟨w.heap.size, 3, none⟩ (.slice none 0 0)).setCell ⟨w.heap.size, 4, none⟩ (.slice none 0 0)).setCell ⟨w.heap.size, 5, none⟩ (.int .i64 0)) := ⟨_, rfl⟩
    rw [← hW4]
    rw [← hW4] at TT rd q0
    clear hW4
    have hws := TT.size
    have u0 : W4.cell? ⟨w.heap.size, 0, none⟩ = some (.int .i64 4) := q0.cell 0
    have u1 : W4.cell? ⟨w.heap.size, 1, none⟩ = some (.int .i64 0) := q0.cell 1
    have u2 : W4.cell? ⟨w.heap.size, 2, none⟩ = some (.int .i64 0) := q0.cell 2
    have u3 : W4.cell? ⟨w.heap.size, 3, none⟩ = some (.slice none 0 0) := q0.cell 3
    have u4 : W4.cell? ⟨w.heap.size, 4, none⟩ = some (.slice none 0 0) := q0.cell 4
    have u5 : W4.cell? ⟨w.heap.size, 5, none⟩ = some (.int .i64 0) := q0.cell 5
    refine bodyPost_ret (v := lnV ⟨4, 0, 0, ⟨none, 0, 0, none, 0, 0, 0, [], []⟩⟩) (by simp [results, Tryd.results112, go_sem, u0, u1, u2, u3, u4, u5]) rfl ⟨⟨4, 0, 0, ⟨none, 0, 0, none, 0, 0, 0, [], []⟩⟩, _, rfl, ⟨TT, rd, ⟨⟨rfl, fun i hi => absurd hi (Nat.not_lt_zero _)⟩, ⟨rfl, fun i hi => absurd hi (Nat.not_lt_zero _)⟩, Nat.zero_le _, Nat.zero_le _⟩, (fun b o e => by cases e), (fun b o e => by cases e), by decide, by omega, by omega⟩⟩

end Go.Proofs.YtfkcfjkojfnfnaaDoor
namespace Go.Proofs.YtfkcfjkojfnfnaaDoor
open Go.RowKit
set_option linter.unusedVariables false
set_option maxRecDepth 100000

theorem flatL_at : ∀ (ls : List LV) (i : Nat), i < ls.length → ∀ r, r < 6 → (ls.flatMap LV.cs)[i * 6 + r]? = (ls[i]?.getD noLV).cs[r]? := by
  intro ls
  induction ls with
  | nil => intro i hi; simp at hi
  | cons g gs ih =>
    intro i hi r hr
    rcases i with _ | i
    · simp only [List.flatMap_cons, Nat.zero_mul, Nat.zero_add, List.getElem?_cons_zero, Option.getD_some]
      rw [List.getElem?_append_left (by simp [LV.cs]; omega)]
    · simp only [List.flatMap_cons, List.getElem?_cons_succ]
      rw [List.getElem?_append_right (by simp [LV.cs]; omega)]
      have e : (i + 1) * 6 + r - g.cs.length = i * 6 + r := by simp [LV.cs]; omega
      rw [e]
      exact ih i (by simpa using hi) r hr
theorem flatL_len (ls : List LV) : (ls.flatMap LV.cs).length = ls.length * 6 := by
  induction ls with
  | nil => rfl
  | cons g gs ih => rw [List.flatMap_cons, List.length_append, ih]; simp [LV.cs]; omega
theorem flatL_one (ls : List LV) : ∀ u ∈ ls.flatMap LV.cs, u.oneCell' = true := by
  intro u hu
  obtain ⟨l, _, h⟩ := List.mem_flatMap.1 hu
  simp only [LV.cs, List.mem_cons, List.not_mem_nil, or_false] at h
  rcases h with rfl | rfl | rfl | rfl | rfl | rfl <;> rfl
theorem linesG_own {W : World} {base N cap : Nat} {ad : Option Addr} {ls : List LV} (h : W.ownsRow base 94 6 (.slice ad N cap) N (ls.flatMap LV.cs)) (hl : ls.length = N) (ha : ∀ i, i < ls.length → (ls[i]?.getD noLV).f.At W) : LinesG W ad ls := by
  intro i hi
  rcases h.2 with ⟨hv, h0⟩ | ⟨g, cap', cur, hv, _⟩
  · omega
  · simp only [Value.slice.injEq, true_and] at hv
    obtain ⟨rfl, rfl⟩ := hv
    refine ⟨g, 0, rfl, fun r hr => ?_, ha i hi⟩
    have := h.cellAt (i * 6 + r) (by omega)
    rw [flatL_at ls i hi r hr] at this
    rw [← this, Nat.zero_add]

theorem own_slice {W : World} {base m s : Nat} {e : TypeId} {v : Value} {xs : List Value} (h : W.ownsRow base e s v m xs) : ∃ ad c, v = .slice ad m c := by
  rcases h.2 with ⟨hv, h0⟩ | ⟨g, cap, cur, hv, _⟩
  · exact ⟨none, 0, by rw [hv, h0]⟩
  · exact ⟨_, _, hv⟩
/-- An act that is being drawn. -/
structure JL (wL : World) (R : Nat) (a : Option Addr) (n cap : Nat) (bs : List Int) (q : Int) (v : Value) (ls : List LV) (W : World) : Prop where
  t : Touch (fun x => x = R) wL W
  r : Rd W R a n cap bs q
  o : W.ownsRow wL.heap.size 94 6 v ls.length (ls.flatMap LV.cs)
  at' : ∀ i, i < ls.length → (ls[i]?.getD noLV).f.At W
  na : ∀ i, i < ls.length → ∀ b o, (ls[i]?.getD noLV).f.a = some ⟨b, o, none⟩ → wL.heap.size ≤ b ∧ b < W.heap.size ∧ v.ownBlock ≠ some b
  nc : ∀ i, i < ls.length → ∀ b o, (ls[i]?.getD noLV).f.c = some ⟨b, o, none⟩ → wL.heap.size ≤ b ∧ b < W.heap.size ∧ v.ownBlock ≠ some b
  lR : R < wL.heap.size
  lb : 0 < n → ∀ b o, a = some ⟨b, o, none⟩ → b < wL.heap.size
section
variable {wL W W' : World} {R : Nat} {a : Option Addr} {n cap : Nat} {bs : List Int} {q : Int} {v : Value} {ls : List LV}
theorem own_belowL {base : Nat} {e : TypeId} {s : Nat} {m : Nat} {xs : List Value} (h : W.ownsRow base e s v m xs) (b : Below W.heap.size W W') : W'.ownsRow base e s v m xs := by
  obtain ⟨h1, h2⟩ := h
  refine ⟨h1, ?_⟩
  rcases h2 with h2 | ⟨g, cap, cur, hv, hg, hh, r⟩
  · exact Or.inl h2
  · exact Or.inr ⟨g, cap, cur, hv, hg, by rw [b.block g (lt_of_block hh)]; exact hh, r⟩
theorem JL.below (j : JL wL R a n cap bs q v ls W) (b : Below W.heap.size W W') : JL wL R a n cap bs q v ls W' :=
  ⟨j.t.trans (Touch.of b), j.r.below b, own_belowL j.o b, fun i hi => (j.at' i hi).below b, fun i hi x o e => by have h := j.na i hi x o e; have := b.size; exact ⟨h.1, by omega, h.2.2⟩, fun i hi x o e => by have h := j.nc i hi x o e; have := b.size; exact ⟨h.1, by omega, h.2.2⟩, j.lR, j.lb⟩
theorem FV.At.off {S : Nat → Prop} {f : FV} (h : f.At W) (t : Touch S W W') (h1 : ∀ b o, f.a = some ⟨b, o, none⟩ → ¬ S b) (h2 : ∀ b o, f.c = some ⟨b, o, none⟩ → ¬ S b) : f.At W' := ⟨h.C.off t h1, h.D.off t h2, h.hn, h.hm⟩
theorem JL.pick {q' : Int} (j : JL wL R a n cap bs q v ls W) (t : Touch (fun x => x = R) W W') (r : Rd W' R a n cap bs q') : JL wL R a n cap bs q' v ls W' := by
  have lR := j.lR
  exact ⟨j.t.trans t, r, ownsRow_touch j.o t (fun k h => by omega), fun i hi => (j.at' i hi).off t (fun b o e h => by have := (j.na i hi b o e).1; omega) (fun b o e h => by have := (j.nc i hi b o e).1; omega), fun i hi x o e => by have h := j.na i hi x o e; have := t.size; exact ⟨h.1, by omega, h.2.2⟩, fun i hi x o e => by have h := j.nc i hi x o e; have := t.size; exact ⟨h.1, by omega, h.2.2⟩, j.lR, j.lb⟩
theorem JL.g {ad : Option Addr} {N c : Nat} (j : JL wL R a n cap bs q (.slice ad N c) ls W) (hl : ls.length = N) : LinesG W ad ls := linesG_own (by have h := j.o; rw [hl] at h; exact h) hl j.at'
/-- A line is put behind the others. -/
theorem JL.app {l : LV} {g c k : Nat} {H : Nat} (j : JL wL R a n cap bs q v ls W) (hk : ls.length = k) (hl : l.f.At W) (la : ∀ b o, l.f.a = some ⟨b, o, none⟩ → wL.heap.size ≤ b ∧ b < H ∧ v.ownBlock ≠ some b) (lc : ∀ b o, l.f.c = some ⟨b, o, none⟩ → wL.heap.size ≤ b ∧ b < H ∧ v.ownBlock ≠ some b) (hH : H ≤ W.heap.size) (hsz : ∀ i, i < ls.length → (∀ b o, (ls[i]?.getD noLV).f.a = some ⟨b, o, none⟩ → b < H) ∧ (∀ b o, (ls[i]?.getD noLV).f.c = some ⟨b, o, none⟩ → b < H))
    (hown : W'.ownsRow wL.heap.size 94 6 (.slice (some ⟨g, 0, none⟩) (k + 1) c) (k + 1) (ls.flatMap LV.cs ++ l.cs)) (hg : W.grownBy W' v.ownBlock) (hat : v.ownBlock = some g ∨ H ≤ g) : JL wL R a n cap bs q (.slice (some ⟨g, 0, none⟩) (k + 1) c) (ls ++ [l]) W' := by
  have hr : ∀ x, v.ownBlock = some x → wL.heap.size ≤ x := fun x hx => (j.o.lt x hx).1
  have lR := j.lR
  have T : Touch (fun x => v.ownBlock = some x) W W' := ⟨hg.os, hg.tape, hg.output, hg.size, fun x hx hs => hg.block x hx (fun e => hs e.symm)⟩
  have hn : ∀ b, v.ownBlock ≠ some b → b < H → (Value.slice (some ⟨g, 0, none⟩) (k + 1) c).ownBlock ≠ some b := fun b h1 h2 e => by
    simp only [Value.ownBlock, Option.some.injEq] at e
    rcases hat with h | h
    · rw [h] at h1; exact h1 (by rw [e])
    · omega
  have key : ∀ i, i < (ls ++ [l]).length → (i < ls.length ∧ (ls ++ [l])[i]?.getD noLV = ls[i]?.getD noLV) ∨ (ls ++ [l])[i]?.getD noLV = l := fun i hi => by
    by_cases h : i < ls.length
    · left; exact ⟨h, by rw [List.getElem?_append_left h]⟩
    · right
      have : i = ls.length := by rw [List.length_append] at hi; simp at hi; omega
      subst this
      simp
  have hs := hg.size
  refine ⟨j.t.grown hg hr, j.r.touch T (fun e => by have := hr _ e; omega) (fun h0 b o hab e => by have := j.lb h0 b o hab; have := hr _ e; omega), ?_, fun i hi => ?_, fun i hi b o e => ?_, fun i hi b o e => ?_, j.lR, j.lb⟩
  · rw [List.length_append, hk, List.flatMap_append]
    simpa using hown
  · rcases key i hi with ⟨h, e⟩ | e
    · rw [e]; exact (j.at' i h).off T (fun b o e h' => (j.na i h b o e).2.2 h') (fun b o e h' => (j.nc i h b o e).2.2 h')
    · rw [e]; exact hl.off T (fun b o e h' => (la b o e).2.2 h') (fun b o e h' => (lc b o e).2.2 h')
  · rcases key i hi with ⟨h, e'⟩ | e'
    · rw [e'] at e; have h3 := j.na i h b o e; exact ⟨h3.1, by omega, hn b h3.2.2 ((hsz i h).1 b o e)⟩
    · rw [e'] at e; have h3 := la b o e; exact ⟨h3.1, by omega, hn b h3.2.2 h3.2.1⟩
  · rcases key i hi with ⟨h, e'⟩ | e'
    · rw [e'] at e; have h3 := j.nc i h b o e; exact ⟨h3.1, by omega, hn b h3.2.2 ((hsz i h).2 b o e)⟩
    · rw [e'] at e; have h3 := lc b o e; exact ⟨h3.1, by omega, hn b h3.2.2 h3.2.1⟩
end

theorem newsL {W : World} {base g cap k : Nat} {xs : List Value} (h : W.ownsRow base 94 6 (.slice (some ⟨g, 0, none⟩) k cap) k xs) : ∀ j u, xs[j]? = some u → W.cell? ((⟨g, 0, none⟩ : Addr).add j) = some u := fun j u hu => by
  have hj : j < k * 6 := by
    have h1 := h.1
    have : j < xs.length := by
      rcases Nat.lt_or_ge j xs.length with h | h
      · exact h
      · rw [List.getElem?_eq_none h] at hu; cases hu
    omega
  have := h.cellAt j hj
  rw [hu] at this
  have hadd : (⟨g, 0, none⟩ : Addr).add j = ⟨g, j, none⟩ := by
    by_cases h0 : j = 0
    · subst h0; simp [Addr.add]
    · simp [Addr.add, h0]
  rw [hadd]; exact this

theorem Tryd.infoLn : (Tryd.prog.info? 94).map (fun i => (i.zero, i.size, i.bytes)) = some (some (.agg #[.int .i64 0, .int .i64 0, .int .i64 0, .slice none 0 0, .slice none 0 0, .int .i64 0]), 6, 80) := by kernel_rfl

set_option maxHeartbeats 1600000 in
/-- Lines are copied behind an empty literal. -/
theorem wp_copyL {o : Oper} {a : Act} {K : Act → World → Prop} {Q : Exit → Act → World → Prop} {W : World} (s x : Operand) (ho : o.op = .call { callee := .builtin .append, args := #[s, x], argTypes := #[43, 43] }) (base base' L k : Nat) (ad : Option Addr) (cap : Nat) (ls : List LV)
    (hs : a.eval s = .slice (some ⟨L, 0, none⟩) 0 0) (hown : W.ownsRow base 94 6 (.slice (some ⟨L, 0, none⟩) 0 0) 0 []) (hx : a.eval x = .slice ad k cap) (hb : W.ownsRow base' 94 6 (.slice ad k cap) k (ls.flatMap LV.cs)) (hl : ls.length = k) (hn : k ≤ 1000) (hbase : base ≤ W.heap.size)
    (h : ∀ v' W1, Below base W W1 → Touch (fun z => z = L) W W1 → W1.ownsRow base 94 6 v' k (ls.flatMap LV.cs) → (∀ B, v'.ownBlock = some B → B = L ∨ W.heap.size ≤ B) → K (a.put o.dst v') W1) : o.wp Tryd.prog a W K Q := by
  by_cases h0 : 0 < k
  · obtain ⟨i0, hi, hz0, hz1, hz2⟩ := info_parts Tryd.infoLn
    rcases hb.2 with ⟨_, h1⟩ | ⟨g, cap', cur, hv, _⟩
    · omega
    simp only [Value.slice.injEq, true_and] at hv
    obtain ⟨rfl, rfl⟩ := hv
    refine wp_append_lies _ s x 43 ho base 94 i0 _ 6 80 Tryd.underlying43 hi hz0 hz1 hz2 rfl (by omega) _ 0 [] hs hown ⟨g, 0, none⟩ k cap (ls.flatMap LV.cs) hx (by rw [flatL_len, hl]) (newsL hb) (flatL_one ls) h0 (by unfold maxLen; omega) (by omega) hbase _ rfl ?_
    intro g' cp W1 ho1 hg hat hlt
    have hL : ∀ z, (Value.slice (some ⟨L, 0, none⟩) 0 0).ownBlock = some z → base ≤ z := fun z hz => (hown.lt z hz).1
    simp only [Nat.zero_add] at ho1 ⊢
    refine h _ W1 ((Below.refl base W).grown hg hbase hL) ⟨hg.os, hg.tape, hg.output, hg.size, fun z hz hn => hg.block z hz (fun e => hn (by simpa [Value.ownBlock] using e))⟩ (by simpa using ho1) (fun B hB => ?_)
    simp only [Value.ownBlock, Option.some.injEq] at hB hat
    omega
  · obtain rfl : k = 0 := by omega
    have hls : ls = [] := List.eq_nil_of_length_eq_zero hl
    subst hls
    obtain ⟨dst, op, ty, pos, after, guard⟩ := o
    dsimp only at ho
    subst ho
    unfold Oper.wp execOp
    simp only [resolve, invoke, builtin, Sem.run_bind, Sem.run_pure, Result.andThen_ok, List.map_toArray, List.map_cons, List.map_nil, hs, hx]
    cases ad
    · go_simp
      exact h _ W (Below.refl _ _) (Touch.refl _ _) hown (fun B hB => by simp only [Value.ownBlock, Option.some.injEq] at hB; omega)
    · go_simp
      exact h _ W (Below.refl _ _) (Touch.refl _ _) hown (fun B hB => by simp only [Value.ownBlock, Option.some.injEq] at hB; omega)

end Go.Proofs.YtfkcfjkojfnfnaaDoor
namespace Go.Proofs.YtfkcfjkojfnfnaaDoor
open Go.RowKit
set_option linter.unusedVariables false
set_option maxRecDepth 100000

theorem at_app {W : World} {ls : List LV} {l : LV} (h : ∀ i, i < ls.length → (ls[i]?.getD noLV).f.At W) (hl : l.f.At W) : ∀ i, i < (ls ++ [l]).length → ((ls ++ [l])[i]?.getD noLV).f.At W := fun i hi => by
  by_cases h1 : i < ls.length
  · rw [List.getElem?_append_left h1]; exact h i h1
  · have h9 : i = ls.length := by rw [List.length_append] at hi; simp at hi; omega
    subst h9
    simpa using hl

set_option maxHeartbeats 12800000 in
theorem act_f (R : Nat) (a : Option Addr) (n cap : Nat) (bs : List Int) (p : Int) (w : World) (rd : Rd w R a n cap bs p) (hp : 0 ≤ p) (hp1 : p ≤ 7000000) (ha : 0 < n → ∀ b o, a = some ⟨b, o, none⟩ → b < w.heap.size) :
    Calls Tryd.prog 90 #[.pointer (some ⟨R, 0, none⟩)] w fun e w' => ∃ ad N c ls q, e = .returned (.slice ad N c) ∧ JL w R a n cap bs q (.slice ad N c) ls w' ∧ ls.length = N ∧ actB N ls = true ∧ p ≤ q ∧ q ≤ p + 80 := by
  have hRl := rd.c.lt
  have TT : Touch (fun x => x = R) w w := Touch.refl _ _
  go_enter Tryd.func90, Tryd.ntmps90
  go_wp2_with fail
  refine (pick_any R a n cap bs (p) 2 _ rd (by omega) (by omega) (by omega) (by omega)).mono ?_
  rintro e w2 ⟨rv, hv0, hv1, rfl, t5, R5⟩
  obtain ⟨v, rfl⟩ := Int.eq_ofNat_of_zero_le hv0
  clear hv0
  replace TT := TT.trans t5
  replace rd := R5
  clear t5 R5
  go_wp2_with fail
  refine (pick_any R a n cap bs (p + 1) 8 _ rd (by omega) (by omega) (by omega) (by omega)).mono ?_
  rintro e w3 ⟨rj, hj0, hj1, rfl, t5, R5⟩
  obtain ⟨j, rfl⟩ := Int.eq_ofNat_of_zero_le hj0
  clear hj0
  replace TT := TT.trans t5
  replace rd := R5
  clear t5 R5
  rcases (show j = 0 ∨ j = 1 ∨ j = 2 ∨ j = 3 ∨ j = 4 ∨ j = 5 ∨ 6 ≤ j from by omega) with rfl | rfl | rfl | rfl | rfl | rfl | hj6
  · go_wp2_with fail
    have xA := TT.size
    refine (num_f (-1) 0 0 _).mono ?_
    rintro e w4 ⟨BA, DA, rfl, b5, f5⟩
    go_wp2_with fail
    refine (with_f BA DA v 1 0 _ _ _ _ f5 (by omega)).mono ?_
    rintro e w5 ⟨rfl, t6, f6⟩
    have lo6 := f5.b1
    replace b5 := b5.trans (t6.below (B := w3.heap.size) b5.size (fun z hz => by omega))
    clear f5 t6 lo6
    have f5 := f6
    clear f6
    have yA1 := f5.b1
    have yA2 := f5.b2
    have GA : FA w5 (some ⟨BA, 0, none⟩) 3 (some ⟨DA, 0, none⟩) 2 (([0, 0, 0]).set v 1, [-1, 0], 0) := ⟨f5.k1.ints' f5.l1, f5.k2.ints' f5.l2, by omega, by omega⟩
    clear f5
    replace TT := TT.trans (Touch.of b5)
    replace rd := rd.below b5
    clear b5
    have zA1 : w.heap.size ≤ BA := by omega
    have zA2 : w.heap.size ≤ DA := by omega
    go_wp2_with fail
    have xE := TT.size
    refine (num_f (-1) 0 0 _).mono ?_
    rintro e w6 ⟨BE, DE, rfl, b5, f5⟩
    have yE1 := f5.b1
    have yE2 := f5.b2
    have GE : FA w6 (some ⟨BE, 0, none⟩) 3 (some ⟨DE, 0, none⟩) 2 ([0, 0, 0], [-1, 0], 0) := ⟨f5.k1.ints' f5.l1, f5.k2.ints' f5.l2, by omega, by omega⟩
    clear f5
    replace GA := GA.below b5
    replace TT := TT.trans (Touch.of b5)
    replace rd := rd.below b5
    clear b5
    have zE1 : w.heap.size ≤ BE := by omega
    have zE2 : w.heap.size ≤ DE := by omega
    go_wp2_with fail
    have xF := TT.size
    refine (num_f 1 0 0 _).mono ?_
    rintro e w7 ⟨BF, DF, rfl, b5, f5⟩
    have yF1 := f5.b1
    have yF2 := f5.b2
    have GF : FA w7 (some ⟨BF, 0, none⟩) 3 (some ⟨DF, 0, none⟩) 2 ([0, 0, 0], [1, 0], 0) := ⟨f5.k1.ints' f5.l1, f5.k2.ints' f5.l2, by omega, by omega⟩
    clear f5
    replace GA := GA.below b5
    replace GE := GE.below b5
    replace TT := TT.trans (Touch.of b5)
    replace rd := rd.below b5
    clear b5
    have zF1 : w.heap.size ≤ BF := by omega
    have zF2 : w.heap.size ≤ DF := by omega
    go_wp2_with fail
    have xH := TT.size
    refine (num_f 1 0 (-9) _).mono ?_
    rintro e w8 ⟨BH, DH, rfl, b5, f5⟩
    have yH1 := f5.b1
    have yH2 := f5.b2
    have GH : FA w8 (some ⟨BH, 0, none⟩) 3 (some ⟨DH, 0, none⟩) 2 ([0, 0, 0], [1, 0], -9) := ⟨f5.k1.ints' f5.l1, f5.k2.ints' f5.l2, by omega, by omega⟩
    clear f5
    replace GA := GA.below b5
    replace GE := GE.below b5
    replace GF := GF.below b5
    replace TT := TT.trans (Touch.of b5)
    replace rd := rd.below b5
    clear b5
    have zH1 : w.heap.size ≤ BH := by omega
    have zH2 : w.heap.size ≤ DH := by omega
    have tA1 := GA.C.blk (by omega)
    have tA2 := GA.D.blk (by omega)
    have tE1 := GE.C.blk (by omega)
    have tE2 := GE.D.blk (by omega)
    have tF1 := GF.C.blk (by omega)
    have tF2 := GF.D.blk (by omega)
    have tH1 := GH.C.blk (by omega)
    have tH2 := GH.D.blk (by omega)
    have hsz := TT.size
    have al := (Below.refl w8.heap.size w8).alloc (Nat.le_refl _) (.cells #[.int .i64 1, .int .i64 0, .int .i64 2, .slice (some ⟨BA, 0, none⟩) 3 3, .slice (some ⟨DA, 0, none⟩) 2 2, .int .i64 0, .int .i64 2, .int .i64 (v : Int), .int .i64 0, .slice (some ⟨BE, 0, none⟩) 3 3, .slice (some ⟨DE, 0, none⟩) 2 2, .int .i64 0, .int .i64 3, .int .i64 0, .int .i64 0, .slice (some ⟨BF, 0, none⟩) 3 3, .slice (some ⟨DF, 0, none⟩) 2 2, .int .i64 0, .int .i64 1, .int .i64 0, .int .i64 1, .slice (some ⟨BH, 0, none⟩) 3 3, .slice (some ⟨DH, 0, none⟩) 2 2, .int .i64 (-9), .int .i64 4, .int .i64 0, .int .i64 0, .slice none 0 0, .slice none 0 0, .int .i64 0] 94)
    have o := World.ownsRow_lit (base := w.heap.size) (e := 94) (size := 6) w8 #[.int .i64 1, .int .i64 0, .int .i64 2, .slice (some ⟨BA, 0, none⟩) 3 3, .slice (some ⟨DA, 0, none⟩) 2 2, .int .i64 0, .int .i64 2, .int .i64 (v : Int), .int .i64 0, .slice (some ⟨BE, 0, none⟩) 3 3, .slice (some ⟨DE, 0, none⟩) 2 2, .int .i64 0, .int .i64 3, .int .i64 0, .int .i64 0, .slice (some ⟨BF, 0, none⟩) 3 3, .slice (some ⟨DF, 0, none⟩) 2 2, .int .i64 0, .int .i64 1, .int .i64 0, .int .i64 1, .slice (some ⟨BH, 0, none⟩) 3 3, .slice (some ⟨DH, 0, none⟩) 2 2, .int .i64 (-9), .int .i64 4, .int .i64 0, .int .i64 0, .slice none 0 0, .slice none 0 0, .int .i64 0] 5 hsz (by unfold maxLen; omega) rfl
    have hws := al.size
    replace GA := GA.below al
    replace GE := GE.below al
    replace GF := GF.below al
    replace GH := GH.below al
    replace TT := TT.trans (Touch.of al)
    replace rd := rd.below al
    clear al
    go_wp2
    go_ret
    refine ⟨_, 5, 5, [⟨1, 0, 2, ⟨some ⟨BA, 0, none⟩, 3, 3, some ⟨DA, 0, none⟩, 2, 2, 0, ([0, 0, 0]).set v 1, [-1, 0]⟩⟩, ⟨2, (v : Int), 0, ⟨some ⟨BE, 0, none⟩, 3, 3, some ⟨DE, 0, none⟩, 2, 2, 0, [0, 0, 0], [-1, 0]⟩⟩, ⟨3, 0, 0, ⟨some ⟨BF, 0, none⟩, 3, 3, some ⟨DF, 0, none⟩, 2, 2, 0, [0, 0, 0], [1, 0]⟩⟩, ⟨1, 0, 1, ⟨some ⟨BH, 0, none⟩, 3, 3, some ⟨DH, 0, none⟩, 2, 2, (-9), [0, 0, 0], [1, 0]⟩⟩, ⟨4, 0, 0, noFV⟩], _, rfl, ⟨TT, rd, o, fun i hi => ?_, fun i hi b o e => ?_, fun i hi b o e => ?_, hRl, ha⟩, rfl, by rcases v with _ | _ | v; rfl; rfl; omega, by omega, by omega⟩
    · rcases i with _ | _ | _ | _ | _ | i
      · exact ⟨GA.C, GA.D, show 3 ≤ 1048576 by omega, show 2 ≤ 1048576 by omega⟩
      · exact ⟨GE.C, GE.D, show 3 ≤ 1048576 by omega, show 2 ≤ 1048576 by omega⟩
      · exact ⟨GF.C, GF.D, show 3 ≤ 1048576 by omega, show 2 ≤ 1048576 by omega⟩
      · exact ⟨GH.C, GH.D, show 3 ≤ 1048576 by omega, show 2 ≤ 1048576 by omega⟩
      · exact ⟨⟨rfl, fun i hi => absurd hi (Nat.not_lt_zero _)⟩, ⟨rfl, fun i hi => absurd hi (Nat.not_lt_zero _)⟩, Nat.zero_le _, Nat.zero_le _⟩
      · simp only [List.length_cons, List.length_nil] at hi; omega
    · rcases i with _ | _ | _ | _ | _ | i
      · have e9 : (some ⟨BA, 0, none⟩ : Option Addr) = some ⟨b, o, none⟩ := e; simp only [Option.some.injEq, Addr.mk.injEq] at e9; exact ⟨by omega, by omega, by simp only [Value.ownBlock, ne_eq, Option.some.injEq]; omega⟩
      · have e9 : (some ⟨BE, 0, none⟩ : Option Addr) = some ⟨b, o, none⟩ := e; simp only [Option.some.injEq, Addr.mk.injEq] at e9; exact ⟨by omega, by omega, by simp only [Value.ownBlock, ne_eq, Option.some.injEq]; omega⟩
      · have e9 : (some ⟨BF, 0, none⟩ : Option Addr) = some ⟨b, o, none⟩ := e; simp only [Option.some.injEq, Addr.mk.injEq] at e9; exact ⟨by omega, by omega, by simp only [Value.ownBlock, ne_eq, Option.some.injEq]; omega⟩
      · have e9 : (some ⟨BH, 0, none⟩ : Option Addr) = some ⟨b, o, none⟩ := e; simp only [Option.some.injEq, Addr.mk.injEq] at e9; exact ⟨by omega, by omega, by simp only [Value.ownBlock, ne_eq, Option.some.injEq]; omega⟩
      · cases e
      · simp only [List.length_cons, List.length_nil] at hi; omega
    · rcases i with _ | _ | _ | _ | _ | i
      · have e9 : (some ⟨DA, 0, none⟩ : Option Addr) = some ⟨b, o, none⟩ := e; simp only [Option.some.injEq, Addr.mk.injEq] at e9; exact ⟨by omega, by omega, by simp only [Value.ownBlock, ne_eq, Option.some.injEq]; omega⟩
      · have e9 : (some ⟨DE, 0, none⟩ : Option Addr) = some ⟨b, o, none⟩ := e; simp only [Option.some.injEq, Addr.mk.injEq] at e9; exact ⟨by omega, by omega, by simp only [Value.ownBlock, ne_eq, Option.some.injEq]; omega⟩
      · have e9 : (some ⟨DF, 0, none⟩ : Option Addr) = some ⟨b, o, none⟩ := e; simp only [Option.some.injEq, Addr.mk.injEq] at e9; exact ⟨by omega, by omega, by simp only [Value.ownBlock, ne_eq, Option.some.injEq]; omega⟩
      · have e9 : (some ⟨DH, 0, none⟩ : Option Addr) = some ⟨b, o, none⟩ := e; simp only [Option.some.injEq, Addr.mk.injEq] at e9; exact ⟨by omega, by omega, by simp only [Value.ownBlock, ne_eq, Option.some.injEq]; omega⟩
      · cases e
      · simp only [List.length_cons, List.length_nil] at hi; omega
  · go_wp2_with fail
    have xA := TT.size
    refine (num_f (-1) 0 0 _).mono ?_
    rintro e w4 ⟨BA, DA, rfl, b5, f5⟩
    go_wp2_with fail
    refine (with_f BA DA v 1 0 _ _ _ _ f5 (by omega)).mono ?_
    rintro e w5 ⟨rfl, t6, f6⟩
    have lo6 := f5.b1
    replace b5 := b5.trans (t6.below (B := w3.heap.size) b5.size (fun z hz => by omega))
    clear f5 t6 lo6
    have f5 := f6
    clear f6
    have yA1 := f5.b1
    have yA2 := f5.b2
    have GA : FA w5 (some ⟨BA, 0, none⟩) 3 (some ⟨DA, 0, none⟩) 2 (([0, 0, 0]).set v 1, [-1, 0], 0) := ⟨f5.k1.ints' f5.l1, f5.k2.ints' f5.l2, by omega, by omega⟩
    clear f5
    replace TT := TT.trans (Touch.of b5)
    replace rd := rd.below b5
    clear b5
    have zA1 : w.heap.size ≤ BA := by omega
    have zA2 : w.heap.size ≤ DA := by omega
    go_wp2_with fail
    have xE := TT.size
    refine (num_f (-1) 0 0 _).mono ?_
    rintro e w6 ⟨BE, DE, rfl, b5, f5⟩
    have yE1 := f5.b1
    have yE2 := f5.b2
    have GE : FA w6 (some ⟨BE, 0, none⟩) 3 (some ⟨DE, 0, none⟩) 2 ([0, 0, 0], [-1, 0], 0) := ⟨f5.k1.ints' f5.l1, f5.k2.ints' f5.l2, by omega, by omega⟩
    clear f5
    replace GA := GA.below b5
    replace TT := TT.trans (Touch.of b5)
    replace rd := rd.below b5
    clear b5
    have zE1 : w.heap.size ≤ BE := by omega
    have zE2 : w.heap.size ≤ DE := by omega
    go_wp2_with fail
    have xF := TT.size
    refine (num_f 1 0 0 _).mono ?_
    rintro e w7 ⟨BF, DF, rfl, b5, f5⟩
    have yF1 := f5.b1
    have yF2 := f5.b2
    have GF : FA w7 (some ⟨BF, 0, none⟩) 3 (some ⟨DF, 0, none⟩) 2 ([0, 0, 0], [1, 0], 0) := ⟨f5.k1.ints' f5.l1, f5.k2.ints' f5.l2, by omega, by omega⟩
    clear f5
    replace GA := GA.below b5
    replace GE := GE.below b5
    replace TT := TT.trans (Touch.of b5)
    replace rd := rd.below b5
    clear b5
    have zF1 : w.heap.size ≤ BF := by omega
    have zF2 : w.heap.size ≤ DF := by omega
    go_wp2_with fail
    have xH := TT.size
    refine (num_f 1 0 (-9) _).mono ?_
    rintro e w8 ⟨BH, DH, rfl, b5, f5⟩
    have yH1 := f5.b1
    have yH2 := f5.b2
    have GH : FA w8 (some ⟨BH, 0, none⟩) 3 (some ⟨DH, 0, none⟩) 2 ([0, 0, 0], [1, 0], -9) := ⟨f5.k1.ints' f5.l1, f5.k2.ints' f5.l2, by omega, by omega⟩
    clear f5
    replace GA := GA.below b5
    replace GE := GE.below b5
    replace GF := GF.below b5
    replace TT := TT.trans (Touch.of b5)
    replace rd := rd.below b5
    clear b5
    have zH1 : w.heap.size ≤ BH := by omega
    have zH2 : w.heap.size ≤ DH := by omega
    have tA1 := GA.C.blk (by omega)
    have tA2 := GA.D.blk (by omega)
    have tE1 := GE.C.blk (by omega)
    have tE2 := GE.D.blk (by omega)
    have tF1 := GF.C.blk (by omega)
    have tF2 := GF.D.blk (by omega)
    have tH1 := GH.C.blk (by omega)
    have tH2 := GH.D.blk (by omega)
    have hsz := TT.size
    have al := (Below.refl w8.heap.size w8).alloc (Nat.le_refl _) (.cells #[.int .i64 1, .int .i64 0, .int .i64 2, .slice (some ⟨BA, 0, none⟩) 3 3, .slice (some ⟨DA, 0, none⟩) 2 2, .int .i64 0, .int .i64 2, .int .i64 (v : Int), .int .i64 0, .slice (some ⟨BE, 0, none⟩) 3 3, .slice (some ⟨DE, 0, none⟩) 2 2, .int .i64 0, .int .i64 3, .int .i64 0, .int .i64 0, .slice (some ⟨BF, 0, none⟩) 3 3, .slice (some ⟨DF, 0, none⟩) 2 2, .int .i64 0, .int .i64 1, .int .i64 0, .int .i64 1, .slice (some ⟨BH, 0, none⟩) 3 3, .slice (some ⟨DH, 0, none⟩) 2 2, .int .i64 (-9), .int .i64 4, .int .i64 0, .int .i64 0, .slice none 0 0, .slice none 0 0, .int .i64 0] 94)
    have o := World.ownsRow_lit (base := w.heap.size) (e := 94) (size := 6) w8 #[.int .i64 1, .int .i64 0, .int .i64 2, .slice (some ⟨BA, 0, none⟩) 3 3, .slice (some ⟨DA, 0, none⟩) 2 2, .int .i64 0, .int .i64 2, .int .i64 (v : Int), .int .i64 0, .slice (some ⟨BE, 0, none⟩) 3 3, .slice (some ⟨DE, 0, none⟩) 2 2, .int .i64 0, .int .i64 3, .int .i64 0, .int .i64 0, .slice (some ⟨BF, 0, none⟩) 3 3, .slice (some ⟨DF, 0, none⟩) 2 2, .int .i64 0, .int .i64 1, .int .i64 0, .int .i64 1, .slice (some ⟨BH, 0, none⟩) 3 3, .slice (some ⟨DH, 0, none⟩) 2 2, .int .i64 (-9), .int .i64 4, .int .i64 0, .int .i64 0, .slice none 0 0, .slice none 0 0, .int .i64 0] 5 hsz (by unfold maxLen; omega) rfl
    have hws := al.size
    replace GA := GA.below al
    replace GE := GE.below al
    replace GF := GF.below al
    replace GH := GH.below al
    replace TT := TT.trans (Touch.of al)
    replace rd := rd.below al
    clear al
    go_wp2
    go_ret
    refine ⟨_, 5, 5, [⟨1, 0, 2, ⟨some ⟨BA, 0, none⟩, 3, 3, some ⟨DA, 0, none⟩, 2, 2, 0, ([0, 0, 0]).set v 1, [-1, 0]⟩⟩, ⟨2, (v : Int), 0, ⟨some ⟨BE, 0, none⟩, 3, 3, some ⟨DE, 0, none⟩, 2, 2, 0, [0, 0, 0], [-1, 0]⟩⟩, ⟨3, 0, 0, ⟨some ⟨BF, 0, none⟩, 3, 3, some ⟨DF, 0, none⟩, 2, 2, 0, [0, 0, 0], [1, 0]⟩⟩, ⟨1, 0, 1, ⟨some ⟨BH, 0, none⟩, 3, 3, some ⟨DH, 0, none⟩, 2, 2, (-9), [0, 0, 0], [1, 0]⟩⟩, ⟨4, 0, 0, noFV⟩], _, rfl, ⟨TT, rd, o, fun i hi => ?_, fun i hi b o e => ?_, fun i hi b o e => ?_, hRl, ha⟩, rfl, by rcases v with _ | _ | v; rfl; rfl; omega, by omega, by omega⟩
    · rcases i with _ | _ | _ | _ | _ | i
      · exact ⟨GA.C, GA.D, show 3 ≤ 1048576 by omega, show 2 ≤ 1048576 by omega⟩
      · exact ⟨GE.C, GE.D, show 3 ≤ 1048576 by omega, show 2 ≤ 1048576 by omega⟩
      · exact ⟨GF.C, GF.D, show 3 ≤ 1048576 by omega, show 2 ≤ 1048576 by omega⟩
      · exact ⟨GH.C, GH.D, show 3 ≤ 1048576 by omega, show 2 ≤ 1048576 by omega⟩
      · exact ⟨⟨rfl, fun i hi => absurd hi (Nat.not_lt_zero _)⟩, ⟨rfl, fun i hi => absurd hi (Nat.not_lt_zero _)⟩, Nat.zero_le _, Nat.zero_le _⟩
      · simp only [List.length_cons, List.length_nil] at hi; omega
    · rcases i with _ | _ | _ | _ | _ | i
      · have e9 : (some ⟨BA, 0, none⟩ : Option Addr) = some ⟨b, o, none⟩ := e; simp only [Option.some.injEq, Addr.mk.injEq] at e9; exact ⟨by omega, by omega, by simp only [Value.ownBlock, ne_eq, Option.some.injEq]; omega⟩
      · have e9 : (some ⟨BE, 0, none⟩ : Option Addr) = some ⟨b, o, none⟩ := e; simp only [Option.some.injEq, Addr.mk.injEq] at e9; exact ⟨by omega, by omega, by simp only [Value.ownBlock, ne_eq, Option.some.injEq]; omega⟩
      · have e9 : (some ⟨BF, 0, none⟩ : Option Addr) = some ⟨b, o, none⟩ := e; simp only [Option.some.injEq, Addr.mk.injEq] at e9; exact ⟨by omega, by omega, by simp only [Value.ownBlock, ne_eq, Option.some.injEq]; omega⟩
      · have e9 : (some ⟨BH, 0, none⟩ : Option Addr) = some ⟨b, o, none⟩ := e; simp only [Option.some.injEq, Addr.mk.injEq] at e9; exact ⟨by omega, by omega, by simp only [Value.ownBlock, ne_eq, Option.some.injEq]; omega⟩
      · cases e
      · simp only [List.length_cons, List.length_nil] at hi; omega
    · rcases i with _ | _ | _ | _ | _ | i
      · have e9 : (some ⟨DA, 0, none⟩ : Option Addr) = some ⟨b, o, none⟩ := e; simp only [Option.some.injEq, Addr.mk.injEq] at e9; exact ⟨by omega, by omega, by simp only [Value.ownBlock, ne_eq, Option.some.injEq]; omega⟩
      · have e9 : (some ⟨DE, 0, none⟩ : Option Addr) = some ⟨b, o, none⟩ := e; simp only [Option.some.injEq, Addr.mk.injEq] at e9; exact ⟨by omega, by omega, by simp only [Value.ownBlock, ne_eq, Option.some.injEq]; omega⟩
      · have e9 : (some ⟨DF, 0, none⟩ : Option Addr) = some ⟨b, o, none⟩ := e; simp only [Option.some.injEq, Addr.mk.injEq] at e9; exact ⟨by omega, by omega, by simp only [Value.ownBlock, ne_eq, Option.some.injEq]; omega⟩
      · have e9 : (some ⟨DH, 0, none⟩ : Option Addr) = some ⟨b, o, none⟩ := e; simp only [Option.some.injEq, Addr.mk.injEq] at e9; exact ⟨by omega, by omega, by simp only [Value.ownBlock, ne_eq, Option.some.injEq]; omega⟩
      · cases e
      · simp only [List.length_cons, List.length_nil] at hi; omega
  · go_wp2_with fail
    have xA := TT.size
    refine (num_f 1 0 0 _).mono ?_
    rintro e w4 ⟨BA, DA, rfl, b5, f5⟩
    have yA1 := f5.b1
    have yA2 := f5.b2
    have GA : FA w4 (some ⟨BA, 0, none⟩) 3 (some ⟨DA, 0, none⟩) 2 ([0, 0, 0], [1, 0], 0) := ⟨f5.k1.ints' f5.l1, f5.k2.ints' f5.l2, by omega, by omega⟩
    clear f5
    replace TT := TT.trans (Touch.of b5)
    replace rd := rd.below b5
    clear b5
    have zA1 : w.heap.size ≤ BA := by omega
    have zA2 : w.heap.size ≤ DA := by omega
    have tA1 := GA.C.blk (by omega)
    have tA2 := GA.D.blk (by omega)
    have hsz := TT.size
    have al := (Below.refl w4.heap.size w4).alloc (Nat.le_refl _) (.cells #[.int .i64 2, .int .i64 (v : Int), .int .i64 0, .slice (some ⟨BA, 0, none⟩) 3 3, .slice (some ⟨DA, 0, none⟩) 2 2, .int .i64 0] 94)
    have o := World.ownsRow_lit (base := w.heap.size) (e := 94) (size := 6) w4 #[.int .i64 2, .int .i64 (v : Int), .int .i64 0, .slice (some ⟨BA, 0, none⟩) 3 3, .slice (some ⟨DA, 0, none⟩) 2 2, .int .i64 0] 1 hsz (by unfold maxLen; omega) rfl
    have hws := al.size
    replace GA := GA.below al
    replace TT := TT.trans (Touch.of al)
    replace rd := rd.below al
    clear al
    go_wp2
    go_ret
    refine ⟨_, 1, 1, [⟨2, (v : Int), 0, ⟨some ⟨BA, 0, none⟩, 3, 3, some ⟨DA, 0, none⟩, 2, 2, 0, [0, 0, 0], [1, 0]⟩⟩], _, rfl, ⟨TT, rd, o, fun i hi => ?_, fun i hi b o e => ?_, fun i hi b o e => ?_, hRl, ha⟩, rfl, by rcases v with _ | _ | v; rfl; rfl; omega, by omega, by omega⟩
    · rcases i with _ | i
      · exact ⟨GA.C, GA.D, show 3 ≤ 1048576 by omega, show 2 ≤ 1048576 by omega⟩
      · simp only [List.length_cons, List.length_nil] at hi; omega
    · rcases i with _ | i
      · have e9 : (some ⟨BA, 0, none⟩ : Option Addr) = some ⟨b, o, none⟩ := e; simp only [Option.some.injEq, Addr.mk.injEq] at e9; exact ⟨by omega, by omega, by simp only [Value.ownBlock, ne_eq, Option.some.injEq]; omega⟩
      · simp only [List.length_cons, List.length_nil] at hi; omega
    · rcases i with _ | i
      · have e9 : (some ⟨DA, 0, none⟩ : Option Addr) = some ⟨b, o, none⟩ := e; simp only [Option.some.injEq, Addr.mk.injEq] at e9; exact ⟨by omega, by omega, by simp only [Value.ownBlock, ne_eq, Option.some.injEq]; omega⟩
      · simp only [List.length_cons, List.length_nil] at hi; omega
  · go_wp2_with fail
    have xA := TT.size
    refine (num_f (-1) 0 0 _).mono ?_
    rintro e w4 ⟨BA, DA, rfl, b5, f5⟩
    go_wp2_with fail
    refine (with_f BA DA v 1 0 _ _ _ _ f5 (by omega)).mono ?_
    rintro e w5 ⟨rfl, t6, f6⟩
    have lo6 := f5.b1
    replace b5 := b5.trans (t6.below (B := w3.heap.size) b5.size (fun z hz => by omega))
    clear f5 t6 lo6
    have f5 := f6
    clear f6
    have yA1 := f5.b1
    have yA2 := f5.b2
    have GA : FA w5 (some ⟨BA, 0, none⟩) 3 (some ⟨DA, 0, none⟩) 2 (([0, 0, 0]).set v 1, [-1, 0], 0) := ⟨f5.k1.ints' f5.l1, f5.k2.ints' f5.l2, by omega, by omega⟩
    clear f5
    replace TT := TT.trans (Touch.of b5)
    replace rd := rd.below b5
    clear b5
    have zA1 : w.heap.size ≤ BA := by omega
    have zA2 : w.heap.size ≤ DA := by omega
    go_wp2_with fail
    have xE := TT.size
    refine (num_f (-1) 0 0 _).mono ?_
    rintro e w6 ⟨BE, DE, rfl, b5, f5⟩
    have yE1 := f5.b1
    have yE2 := f5.b2
    have GE : FA w6 (some ⟨BE, 0, none⟩) 3 (some ⟨DE, 0, none⟩) 2 ([0, 0, 0], [-1, 0], 0) := ⟨f5.k1.ints' f5.l1, f5.k2.ints' f5.l2, by omega, by omega⟩
    clear f5
    replace GA := GA.below b5
    replace TT := TT.trans (Touch.of b5)
    replace rd := rd.below b5
    clear b5
    have zE1 : w.heap.size ≤ BE := by omega
    have zE2 : w.heap.size ≤ DE := by omega
    go_wp2_with fail
    have xF := TT.size
    refine (num_f 1 0 0 _).mono ?_
    rintro e w7 ⟨BF, DF, rfl, b5, f5⟩
    have yF1 := f5.b1
    have yF2 := f5.b2
    have GF : FA w7 (some ⟨BF, 0, none⟩) 3 (some ⟨DF, 0, none⟩) 2 ([0, 0, 0], [1, 0], 0) := ⟨f5.k1.ints' f5.l1, f5.k2.ints' f5.l2, by omega, by omega⟩
    clear f5
    replace GA := GA.below b5
    replace GE := GE.below b5
    replace TT := TT.trans (Touch.of b5)
    replace rd := rd.below b5
    clear b5
    have zF1 : w.heap.size ≤ BF := by omega
    have zF2 : w.heap.size ≤ DF := by omega
    have tA1 := GA.C.blk (by omega)
    have tA2 := GA.D.blk (by omega)
    have tE1 := GE.C.blk (by omega)
    have tE2 := GE.D.blk (by omega)
    have tF1 := GF.C.blk (by omega)
    have tF2 := GF.D.blk (by omega)
    have hsz := TT.size
    have al := (Below.refl w7.heap.size w7).alloc (Nat.le_refl _) (.cells #[.int .i64 1, .int .i64 0, .int .i64 2, .slice (some ⟨BA, 0, none⟩) 3 3, .slice (some ⟨DA, 0, none⟩) 2 2, .int .i64 0, .int .i64 2, .int .i64 (v : Int), .int .i64 0, .slice (some ⟨BE, 0, none⟩) 3 3, .slice (some ⟨DE, 0, none⟩) 2 2, .int .i64 0, .int .i64 2, .int .i64 (1 - (v : Int)), .int .i64 0, .slice (some ⟨BF, 0, none⟩) 3 3, .slice (some ⟨DF, 0, none⟩) 2 2, .int .i64 0] 94)
    have o := World.ownsRow_lit (base := w.heap.size) (e := 94) (size := 6) w7 #[.int .i64 1, .int .i64 0, .int .i64 2, .slice (some ⟨BA, 0, none⟩) 3 3, .slice (some ⟨DA, 0, none⟩) 2 2, .int .i64 0, .int .i64 2, .int .i64 (v : Int), .int .i64 0, .slice (some ⟨BE, 0, none⟩) 3 3, .slice (some ⟨DE, 0, none⟩) 2 2, .int .i64 0, .int .i64 2, .int .i64 (1 - (v : Int)), .int .i64 0, .slice (some ⟨BF, 0, none⟩) 3 3, .slice (some ⟨DF, 0, none⟩) 2 2, .int .i64 0] 3 hsz (by unfold maxLen; omega) rfl
    have hws := al.size
    replace GA := GA.below al
    replace GE := GE.below al
    replace GF := GF.below al
    replace TT := TT.trans (Touch.of al)
    replace rd := rd.below al
    clear al
    go_wp2
    go_ret
    refine ⟨_, 3, 3, [⟨1, 0, 2, ⟨some ⟨BA, 0, none⟩, 3, 3, some ⟨DA, 0, none⟩, 2, 2, 0, ([0, 0, 0]).set v 1, [-1, 0]⟩⟩, ⟨2, (v : Int), 0, ⟨some ⟨BE, 0, none⟩, 3, 3, some ⟨DE, 0, none⟩, 2, 2, 0, [0, 0, 0], [-1, 0]⟩⟩, ⟨2, (1 - (v : Int)), 0, ⟨some ⟨BF, 0, none⟩, 3, 3, some ⟨DF, 0, none⟩, 2, 2, 0, [0, 0, 0], [1, 0]⟩⟩], _, rfl, ⟨TT, rd, o, fun i hi => ?_, fun i hi b o e => ?_, fun i hi b o e => ?_, hRl, ha⟩, rfl, by rcases v with _ | _ | v; rfl; rfl; omega, by omega, by omega⟩
    · rcases i with _ | _ | _ | i
      · exact ⟨GA.C, GA.D, show 3 ≤ 1048576 by omega, show 2 ≤ 1048576 by omega⟩
      · exact ⟨GE.C, GE.D, show 3 ≤ 1048576 by omega, show 2 ≤ 1048576 by omega⟩
      · exact ⟨GF.C, GF.D, show 3 ≤ 1048576 by omega, show 2 ≤ 1048576 by omega⟩
      · simp only [List.length_cons, List.length_nil] at hi; omega
    · rcases i with _ | _ | _ | i
      · have e9 : (some ⟨BA, 0, none⟩ : Option Addr) = some ⟨b, o, none⟩ := e; simp only [Option.some.injEq, Addr.mk.injEq] at e9; exact ⟨by omega, by omega, by simp only [Value.ownBlock, ne_eq, Option.some.injEq]; omega⟩
      · have e9 : (some ⟨BE, 0, none⟩ : Option Addr) = some ⟨b, o, none⟩ := e; simp only [Option.some.injEq, Addr.mk.injEq] at e9; exact ⟨by omega, by omega, by simp only [Value.ownBlock, ne_eq, Option.some.injEq]; omega⟩
      · have e9 : (some ⟨BF, 0, none⟩ : Option Addr) = some ⟨b, o, none⟩ := e; simp only [Option.some.injEq, Addr.mk.injEq] at e9; exact ⟨by omega, by omega, by simp only [Value.ownBlock, ne_eq, Option.some.injEq]; omega⟩
      · simp only [List.length_cons, List.length_nil] at hi; omega
    · rcases i with _ | _ | _ | i
      · have e9 : (some ⟨DA, 0, none⟩ : Option Addr) = some ⟨b, o, none⟩ := e; simp only [Option.some.injEq, Addr.mk.injEq] at e9; exact ⟨by omega, by omega, by simp only [Value.ownBlock, ne_eq, Option.some.injEq]; omega⟩
      · have e9 : (some ⟨DE, 0, none⟩ : Option Addr) = some ⟨b, o, none⟩ := e; simp only [Option.some.injEq, Addr.mk.injEq] at e9; exact ⟨by omega, by omega, by simp only [Value.ownBlock, ne_eq, Option.some.injEq]; omega⟩
      · have e9 : (some ⟨DF, 0, none⟩ : Option Addr) = some ⟨b, o, none⟩ := e; simp only [Option.some.injEq, Addr.mk.injEq] at e9; exact ⟨by omega, by omega, by simp only [Value.ownBlock, ne_eq, Option.some.injEq]; omega⟩
      · simp only [List.length_cons, List.length_nil] at hi; omega
  · go_wp2_with fail
    have xA := TT.size
    refine (num_f 0 0 0 _).mono ?_
    rintro e w4 ⟨BA, DA, rfl, b5, f5⟩
    go_wp2_with fail
    refine (with_f BA DA 2 1 0 _ _ _ _ f5 (by omega)).mono ?_
    rintro e w5 ⟨rfl, t6, f6⟩
    have lo6 := f5.b1
    replace b5 := b5.trans (t6.below (B := w3.heap.size) b5.size (fun z hz => by omega))
    clear f5 t6 lo6
    have f5 := f6
    clear f6
    have yA1 := f5.b1
    have yA2 := f5.b2
    have GA : FA w5 (some ⟨BA, 0, none⟩) 3 (some ⟨DA, 0, none⟩) 2 (([0, 0, 0]).set 2 1, [0, 0], 0) := ⟨f5.k1.ints' f5.l1, f5.k2.ints' f5.l2, by omega, by omega⟩
    clear f5
    replace TT := TT.trans (Touch.of b5)
    replace rd := rd.below b5
    clear b5
    have zA1 : w.heap.size ≤ BA := by omega
    have zA2 : w.heap.size ≤ DA := by omega
    have tA1 := GA.C.blk (by omega)
    have tA2 := GA.D.blk (by omega)
    have hsz := TT.size
    have al := (Below.refl w5.heap.size w5).alloc (Nat.le_refl _) (.cells #[.int .i64 3, .int .i64 0, .int .i64 0, .slice (some ⟨BA, 0, none⟩) 3 3, .slice (some ⟨DA, 0, none⟩) 2 2, .int .i64 0] 94)
    have o := World.ownsRow_lit (base := w.heap.size) (e := 94) (size := 6) w5 #[.int .i64 3, .int .i64 0, .int .i64 0, .slice (some ⟨BA, 0, none⟩) 3 3, .slice (some ⟨DA, 0, none⟩) 2 2, .int .i64 0] 1 hsz (by unfold maxLen; omega) rfl
    have hws := al.size
    replace GA := GA.below al
    replace TT := TT.trans (Touch.of al)
    replace rd := rd.below al
    clear al
    go_wp2
    go_ret
    refine ⟨_, 1, 1, [⟨3, 0, 0, ⟨some ⟨BA, 0, none⟩, 3, 3, some ⟨DA, 0, none⟩, 2, 2, 0, ([0, 0, 0]).set 2 1, [0, 0]⟩⟩], _, rfl, ⟨TT, rd, o, fun i hi => ?_, fun i hi b o e => ?_, fun i hi b o e => ?_, hRl, ha⟩, rfl, rfl, by omega, by omega⟩
    · rcases i with _ | i
      · exact ⟨GA.C, GA.D, show 3 ≤ 1048576 by omega, show 2 ≤ 1048576 by omega⟩
      · simp only [List.length_cons, List.length_nil] at hi; omega
    · rcases i with _ | i
      · have e9 : (some ⟨BA, 0, none⟩ : Option Addr) = some ⟨b, o, none⟩ := e; simp only [Option.some.injEq, Addr.mk.injEq] at e9; exact ⟨by omega, by omega, by simp only [Value.ownBlock, ne_eq, Option.some.injEq]; omega⟩
      · simp only [List.length_cons, List.length_nil] at hi; omega
    · rcases i with _ | i
      · have e9 : (some ⟨DA, 0, none⟩ : Option Addr) = some ⟨b, o, none⟩ := e; simp only [Option.some.injEq, Addr.mk.injEq] at e9; exact ⟨by omega, by omega, by simp only [Value.ownBlock, ne_eq, Option.some.injEq]; omega⟩
      · simp only [List.length_cons, List.length_nil] at hi; omega
  · go_wp2_with fail
    have xA := TT.size
    refine (num_f 0 1 5 _).mono ?_
    rintro e w4 ⟨BA, DA, rfl, b5, f5⟩
    go_wp2_with fail
    refine (with_f BA DA 0 1 5 _ _ _ _ f5 (by omega)).mono ?_
    rintro e w5 ⟨rfl, t6, f6⟩
    have lo6 := f5.b1
    replace b5 := b5.trans (t6.below (B := w3.heap.size) b5.size (fun z hz => by omega))
    clear f5 t6 lo6
    have f5 := f6
    clear f6
    go_wp2_with fail
    refine (with_f BA DA 1 (-1) 5 _ _ _ _ f5 (by omega)).mono ?_
    rintro e w6 ⟨rfl, t6, f6⟩
    have lo6 := f5.b1
    replace b5 := b5.trans (t6.below (B := w3.heap.size) b5.size (fun z hz => by omega))
    clear f5 t6 lo6
    have f5 := f6
    clear f6
    have yA1 := f5.b1
    have yA2 := f5.b2
    have GA : FA w6 (some ⟨BA, 0, none⟩) 3 (some ⟨DA, 0, none⟩) 2 ((([0, 0, 0]).set 0 1).set 1 (-1), [0, 1], 5) := ⟨f5.k1.ints' f5.l1, f5.k2.ints' f5.l2, by omega, by omega⟩
    clear f5
    replace TT := TT.trans (Touch.of b5)
    replace rd := rd.below b5
    clear b5
    have zA1 : w.heap.size ≤ BA := by omega
    have zA2 : w.heap.size ≤ DA := by omega
    go_wp2_with fail
    have xE := TT.size
    refine (num_f 0 0 1 _).mono ?_
    rintro e w7 ⟨BE, DE, rfl, b5, f5⟩
    have yE1 := f5.b1
    have yE2 := f5.b2
    have GE : FA w7 (some ⟨BE, 0, none⟩) 3 (some ⟨DE, 0, none⟩) 2 ([0, 0, 0], [0, 0], 1) := ⟨f5.k1.ints' f5.l1, f5.k2.ints' f5.l2, by omega, by omega⟩
    clear f5
    replace GA := GA.below b5
    replace TT := TT.trans (Touch.of b5)
    replace rd := rd.below b5
    clear b5
    have zE1 : w.heap.size ≤ BE := by omega
    have zE2 : w.heap.size ≤ DE := by omega
    have tA1 := GA.C.blk (by omega)
    have tA2 := GA.D.blk (by omega)
    have tE1 := GE.C.blk (by omega)
    have tE2 := GE.D.blk (by omega)
    have hsz := TT.size
    have al := (Below.refl w7.heap.size w7).alloc (Nat.le_refl _) (.cells #[.int .i64 1, .int .i64 0, .int .i64 1, .slice (some ⟨BA, 0, none⟩) 3 3, .slice (some ⟨DA, 0, none⟩) 2 2, .int .i64 5, .int .i64 2, .int .i64 2, .int .i64 0, .slice (some ⟨BE, 0, none⟩) 3 3, .slice (some ⟨DE, 0, none⟩) 2 2, .int .i64 1] 94)
    have o := World.ownsRow_lit (base := w.heap.size) (e := 94) (size := 6) w7 #[.int .i64 1, .int .i64 0, .int .i64 1, .slice (some ⟨BA, 0, none⟩) 3 3, .slice (some ⟨DA, 0, none⟩) 2 2, .int .i64 5, .int .i64 2, .int .i64 2, .int .i64 0, .slice (some ⟨BE, 0, none⟩) 3 3, .slice (some ⟨DE, 0, none⟩) 2 2, .int .i64 1] 2 hsz (by unfold maxLen; omega) rfl
    have hws := al.size
    replace GA := GA.below al
    replace GE := GE.below al
    replace TT := TT.trans (Touch.of al)
    replace rd := rd.below al
    clear al
    go_wp2
    go_ret
    refine ⟨_, 2, 2, [⟨1, 0, 1, ⟨some ⟨BA, 0, none⟩, 3, 3, some ⟨DA, 0, none⟩, 2, 2, 5, (([0, 0, 0]).set 0 1).set 1 (-1), [0, 1]⟩⟩, ⟨2, 2, 0, ⟨some ⟨BE, 0, none⟩, 3, 3, some ⟨DE, 0, none⟩, 2, 2, 1, [0, 0, 0], [0, 0]⟩⟩], _, rfl, ⟨TT, rd, o, fun i hi => ?_, fun i hi b o e => ?_, fun i hi b o e => ?_, hRl, ha⟩, rfl, rfl, by omega, by omega⟩
    · rcases i with _ | _ | i
      · exact ⟨GA.C, GA.D, show 3 ≤ 1048576 by omega, show 2 ≤ 1048576 by omega⟩
      · exact ⟨GE.C, GE.D, show 3 ≤ 1048576 by omega, show 2 ≤ 1048576 by omega⟩
      · simp only [List.length_cons, List.length_nil] at hi; omega
    · rcases i with _ | _ | i
      · have e9 : (some ⟨BA, 0, none⟩ : Option Addr) = some ⟨b, o, none⟩ := e; simp only [Option.some.injEq, Addr.mk.injEq] at e9; exact ⟨by omega, by omega, by simp only [Value.ownBlock, ne_eq, Option.some.injEq]; omega⟩
      · have e9 : (some ⟨BE, 0, none⟩ : Option Addr) = some ⟨b, o, none⟩ := e; simp only [Option.some.injEq, Addr.mk.injEq] at e9; exact ⟨by omega, by omega, by simp only [Value.ownBlock, ne_eq, Option.some.injEq]; omega⟩
      · simp only [List.length_cons, List.length_nil] at hi; omega
    · rcases i with _ | _ | i
      · have e9 : (some ⟨DA, 0, none⟩ : Option Addr) = some ⟨b, o, none⟩ := e; simp only [Option.some.injEq, Addr.mk.injEq] at e9; exact ⟨by omega, by omega, by simp only [Value.ownBlock, ne_eq, Option.some.injEq]; omega⟩
      · have e9 : (some ⟨DE, 0, none⟩ : Option Addr) = some ⟨b, o, none⟩ := e; simp only [Option.some.injEq, Addr.mk.injEq] at e9; exact ⟨by omega, by omega, by simp only [Value.ownBlock, ne_eq, Option.some.injEq]; omega⟩
      · simp only [List.length_cons, List.length_nil] at hi; omega
  · have h1 : ¬ j = 0 := by omega
    have h2 : ¬ j = 1 := by omega
    have h3 : ¬ j = 2 := by omega
    have h4 : ¬ j = 3 := by omega
    have h5 : ¬ j = 4 := by omega
    have h6 : ¬ j = 5 := by omega
    have e0 : ((j : Int) == 0) = false := by simp; omega
    have e1 : ((j : Int) == 1) = false := by simp; omega
    have e2 : ((j : Int) == 2) = false := by simp; omega
    have e3 : ((j : Int) == 3) = false := by simp; omega
    have e4 : ((j : Int) == 4) = false := by simp; omega
    have e5 : ((j : Int) == 5) = false := by simp; omega
    clear h1 h2 h3 h4 h5 h6
    have hsz := TT.size
    have al := (Below.refl w3.heap.size w3).alloc (Nat.le_refl _) (.cells #[] 94)
    have o0 := World.ownsRow_lit (base := w.heap.size) (e := 94) (size := 6) w3 #[] 0 hsz (by unfold maxLen; omega) rfl
    replace TT := TT.trans (Touch.of al)
    replace rd := rd.below al
    clear al
    have j0 : JL w R a n cap bs (p + 1 + 1) (.slice (some ⟨w3.heap.size, 0, none⟩) 0 0) [] (w3.alloc (.cells #[] 94)) := ⟨TT, rd, o0, fun i hi => by simp at hi, fun i hi => by simp at hi, fun i hi => by simp at hi, hRl, ha⟩
    clear o0 TT rd
    go_wp2_with fail
    refine (pick_any R a n cap bs (p + 1 + 1) 5 _ j0.r (by omega) (by omega) (by omega) (by omega)).mono ?_
    rintro e wS ⟨rk, k0, k1, rfl, t5, R5⟩
    obtain ⟨rk, rfl⟩ := Int.eq_ofNat_of_zero_le k0
    replace j0 := j0.pick t5 R5
    clear t5 R5 k0 hsz hj6
    obtain ⟨i0, hi, hz0, hz1, hz2⟩ := info_parts Tryd.infoLn
    go_wp2_with fail
    go_loopw [4, 5] (fun v i wr => ∃ (l : Nat) (ls : List LV) (q : Int), i = .int .i64 l ∧ ls.length + l ≤ 5 ∧ JL w R a n cap bs q v ls wr ∧ actB ls.length ls = true ∧ p ≤ q ∧ q + 12 * l ≤ p + 70) (fun _ i _ => (intOf i).toNat)
    case atStart => exact ⟨rk + 1, [], _, by go_num, by simp; omega, j0, rfl, by omega, by omega⟩
    case round =>
      clear j0
      obtain ⟨m, ls, q, rfl, hlm, j, hact, hq0, hq1⟩ := hrel
      by_cases hm : 0 < m
      · have hm' : (0 : Int) < (m : Int) := by omega
        obtain ⟨k, hk⟩ : ∃ k, k = ls.length := ⟨_, rfl⟩
        have HK : Hid (ls.length = k) := hk.symm
        have hlm' : k + m ≤ 5 := by omega
        obtain ⟨vad, vcap, rfl⟩ := own_slice j.o
        rw [← hk] at j
        rw [← hk]
        clear hk hlm
        have hvb := fun x hx => ((j.o.lt x hx).2 : x < wr.heap.size)
        have HAct : Hid (actB ls.length ls = true) := hact
        clear hact
        go_wp2_with fail
        refine (line_f R a n cap bs q _ j.r (by omega) (by omega) j.r.ha).mono ?_
        rintro e w5 ⟨l, q5, rfl, d5⟩
        have hszL := j.t.size
        replace j := j.pick d5.t d5.r
        have hl := d5.at'
        have la := d5.la
        have lc := d5.lc
        have v0 := d5.q0
        have v1 := d5.q1
        have hs5 := d5.t.size
        clear d5
        have al := (Below.refl w5.heap.size w5).alloc (Nat.le_refl _) (.cells #[.int .i64 l.kind, .int .i64 l.pot, .int .i64 l.skip, .slice l.f.a l.f.n l.f.cap, .slice l.f.c l.f.m l.f.cap', .int .i64 l.f.K] 94)
        have qb := Cel.new w5 [.int .i64 l.kind, .int .i64 l.pot, .int .i64 l.skip, .slice l.f.a l.f.n l.f.cap, .slice l.f.c l.f.m l.f.cap', .int .i64 l.f.K] 94
        replace j := j.below al
        replace hl := hl.below al
        have hs6 := al.size
        clear al
        go_upto_region 19 with fail
        obtain ⟨W6, hW6⟩ : ∃ W, W = w5.alloc (.cells #[.int .i64 l.kind, .int .i64 l.pot, .int .i64 l.skip, .slice l.f.a l.f.n l.f.cap, .slice l.f.c l.f.m l.f.cap', .int .i64 l.f.K] 94) := ⟨_, rfl⟩
        rw [← hW6]
        rw [← hW6] at j qb hl hs6
        clear hW6
        obtain ⟨XB, hXB⟩ : ∃ x, x = w5.heap.size := ⟨_, rfl⟩
        rw [← hXB]
        rw [← hXB] at qb
        clear hXB
        go_cut [78] (fun b wx => b = .bool (actB (k + 1) (ls ++ [l])) ∧ Below W6.heap.size W6 wx)
        case first =>
          refine wp_region_ends (fun X => X.cell? ⟨XB, 0, none⟩ = some (.int .i64 l.kind) ∧ X.cell? ⟨XB, 1, none⟩ = some (.int .i64 l.pot) ∧ X.cell? ⟨XB, 2, none⟩ = some (.int .i64 l.skip) ∧ X.cell? ⟨XB, 3, none⟩ = some (.slice l.f.a l.f.n l.f.cap) ∧ X.cell? ⟨XB, 4, none⟩ = some (.slice l.f.c l.f.m l.f.cap') ∧ X.cell? ⟨XB, 5, none⟩ = some (.int .i64 l.f.K)) (fun _ => True) 7 (by kernel_rfl) ?_
          have HV : Below W6.heap.size W6 W6.drew := (Below.refl _ _).drew
          replace j := j.below HV
          replace qb := qb.below HV
          replace hl := hl.below HV
          obtain ⟨V0, hV0⟩ : ∃ V, V = W6.drew := ⟨_, rfl⟩
          rw [← hV0]
          have hVW : Below W6.heap.size W6 V0 := by rw [hV0]; exact HV
          rw [← hV0] at j qb hl
          clear hV0 HV
          have HV := Below.refl V0.heap.size V0
          obtain ⟨Z0, hZ0⟩ : ∃ z, z = V0.heap.size := ⟨_, rfl⟩
          have HZ : Hid (Z0 = V0.heap.size) := hZ0
          clear hZ0
          have ATS : Hid (∀ i, i < (ls ++ [l]).length → ((ls ++ [l])[i]?.getD noLV).f.At V0) := fun i hi => at_app j.at' hl i hi
          have KP : Hid (∀ X, Below V0.heap.size V0 X → X.cell? ⟨XB, 0, none⟩ = some (.int .i64 l.kind) ∧ X.cell? ⟨XB, 1, none⟩ = some (.int .i64 l.pot) ∧ X.cell? ⟨XB, 2, none⟩ = some (.int .i64 l.skip) ∧ X.cell? ⟨XB, 3, none⟩ = some (.slice l.f.a l.f.n l.f.cap) ∧ X.cell? ⟨XB, 4, none⟩ = some (.slice l.f.c l.f.m l.f.cap') ∧ X.cell? ⟨XB, 5, none⟩ = some (.int .i64 l.f.K)) := fun X hX => by have h := qb.below hX; exact ⟨h.cell 0, h.cell 1, h.cell 2, h.cell 3, h.cell 4, h.cell 5⟩
          have hSS := And.intro (KP.out V0 HV) True.intro
          refine tkL (i := 1) rfl hSS ?_
          refine tkL (i := 3) rfl hSS ?_
          clear hSS
          refine wpAnyE_two (i := 0) (j := 4) (by kernel_rfl) rfl rfl (fun Kn hK => ?_) (fun Kn hK => ?_)
          · go_simp
            have al := (Below.refl V0.heap.size V0).alloc (Nat.le_refl _) (.cells #[] 94)
            have hsz := HV.size
            have o0 := World.ownsRow_lit (base := Z0) (e := 94) (size := 6) V0 #[] 0 (by rw [HZ.out]; exact hsz) (by unfold maxLen; omega) rfl
            replace HV := HV.trans (al.mono hsz)
            clear al
            obtain ⟨Y1, hY1⟩ : ∃ V, V = V0.alloc (.cells #[] 94) := ⟨_, rfl⟩
            rw [← hY1]
            rw [← hY1] at HV o0
            clear hY1
            obtain ⟨L0, hL0⟩ : ∃ x, x = V0.heap.size := ⟨_, rfl⟩
            rw [← hL0]
            rw [← hL0] at o0
            clear hL0 hsz
            have ltL0 : L0 < Y1.heap.size := (o0.lt L0 rfl).2
            refine hK.out _ _ ⟨KP.out _ HV, fun _ => trivial⟩ ?_
            clear hK
            refine wpAnyE_two (i := 2) (j := 4) (by kernel_rfl) rfl rfl (fun Kn hK => ?_) (fun Kn hK => ?_)
            · rw [if_pos (by rfl)]
              refine wp_copyL (.tmp 72) (.tmp 73) rfl Z0 w.heap.size L0 k vad vcap ls (by rfl) o0 (by rfl) (by have h := (j.below HV).o; rw [HK.out] at h; exact h) HK.out (by omega) (by rw [HZ.out]; exact HV.size) ?_
              intro v2 Y2 b2 t2 o2 _
              rw [HZ.out] at b2
              replace HV := HV.trans b2
              clear b2 t2 o0 ltL0
              refine hK.out _ _ ⟨KP.out _ HV, fun _ => trivial⟩ ?_
              clear hK
              refine wpAnyE_one (i := 4) (by kernel_rfl) rfl (fun Kn hK => ?_)
              go_simp
              have al := (Below.refl Y2.heap.size Y2).alloc (Nat.le_refl _) (.cells #[.int .i64 l.kind, .int .i64 l.pot, .int .i64 l.skip, .slice l.f.a l.f.n l.f.cap, .slice l.f.c l.f.m l.f.cap', .int .i64 l.f.K] 94)
              have hsz := HV.size
              have c4 := Cel.new Y2 [.int .i64 l.kind, .int .i64 l.pot, .int .i64 l.skip, .slice l.f.a l.f.n l.f.cap, .slice l.f.c l.f.m l.f.cap', .int .i64 l.f.K] 94
              replace o2 := own_belowL o2 al
              replace HV := HV.trans (al.mono hsz)
              clear al
              obtain ⟨Y3, hY3⟩ : ∃ V, V = Y2.alloc (.cells #[.int .i64 l.kind, .int .i64 l.pot, .int .i64 l.skip, .slice l.f.a l.f.n l.f.cap, .slice l.f.c l.f.m l.f.cap', .int .i64 l.f.K] 94) := ⟨_, rfl⟩
              rw [← hY3]
              rw [← hY3] at HV c4 o2
              clear hY3
              obtain ⟨L4, hL4⟩ : ∃ x, x = Y2.heap.size := ⟨_, rfl⟩
              rw [← hL4]
              rw [← hL4] at c4
              clear hL4 hsz
              have lt4 := c4.lt
              refine hK.out _ _ ⟨KP.out _ HV, fun _ => trivial⟩ ?_
              clear hK
              refine wpAnyE_one (i := 5) (by kernel_rfl) rfl (fun Kn hK => ?_)
              rw [if_pos (by rfl)]
              obtain ⟨a2, cp2, rfl⟩ := own_slice o2
              refine wp_append_lies _ (.tmp 74) (.tmp 76) 43 rfl Z0 94 i0 _ 6 80 Tryd.underlying43 hi hz0 hz1 hz2 rfl (by omega) (.slice a2 k cp2) k (ls.flatMap LV.cs) (by rfl) o2 ⟨L4, 0, none⟩ 1 1 l.cs (by rfl) (by rfl) (World.news_of_block (cs := #[.int .i64 l.kind, .int .i64 l.pot, .int .i64 l.skip, .slice l.f.a l.f.n l.f.cap, .slice l.f.c l.f.m l.f.cap', .int .i64 l.f.K]) (t := 94) (fr := (0, 0)) c4) (by have h := flatL_one [l]; simpa using h) (by omega) (by unfold maxLen; omega) (by omega) (by rw [HZ.out]; exact HV.size) _ rfl ?_
              intro g5 cp5 Y4 hown hgrow _ _
              replace HV := HV.trans ((Below.refl V0.heap.size Y3).grown hgrow HV.size (fun z hz => by have h := (o2.lt z hz).1; rw [HZ.out] at h; exact h))
              have g5G : LinesG Y4 (some ⟨g5, 0, none⟩) (ls ++ [l]) := linesG_own (base := Z0) (by rw [List.flatMap_append]; simpa using hown) (by rw [List.length_append, HK.out]; rfl) (fun i hi => (ATS.out i hi).below HV)
              clear hown hgrow o2 c4
              refine hK.out _ _ ⟨KP.out _ HV, fun _ => trivial⟩ ?_
              clear hK
              refine wpAnyE_one (i := 6) (by kernel_rfl) rfl (fun Kn hK => ?_)
              go_simp
              refine (sact_any _ (k + 1) cp5 (ls ++ [l]) _ (by rw [List.length_append, HK.out]; rfl) g5G (by omega)).mono ?_
              rintro e Y5 ⟨rfl, b6⟩
              replace HV := HV.trans (b6.mono HV.size)
              clear b6 g5G
              dsimp only
              refine hK.out _ _ ⟨KP.out _ HV, fun _ => trivial⟩ ?_
              clear hK
              refine wpAnyE_done (by kernel_rfl) ?_ _
              clear KP ATS
              go_wp2_with fail
              go_meet
              case rel => exact ⟨rfl, hVW.trans (HV.mono hVW.size)⟩
            · go_simp
              have al := (Below.refl Y1.heap.size Y1).alloc (Nat.le_refl _) (.cells #[.int .i64 l.kind, .int .i64 l.pot, .int .i64 l.skip, .slice l.f.a l.f.n l.f.cap, .slice l.f.c l.f.m l.f.cap', .int .i64 l.f.K] 94)
              have hsz := HV.size
              have c4 := Cel.new Y1 [.int .i64 l.kind, .int .i64 l.pot, .int .i64 l.skip, .slice l.f.a l.f.n l.f.cap, .slice l.f.c l.f.m l.f.cap', .int .i64 l.f.K] 94
              replace o0 := own_belowL o0 al
              replace HV := HV.trans (al.mono hsz)
              clear al
              obtain ⟨Y2, hY2⟩ : ∃ V, V = Y1.alloc (.cells #[.int .i64 l.kind, .int .i64 l.pot, .int .i64 l.skip, .slice l.f.a l.f.n l.f.cap, .slice l.f.c l.f.m l.f.cap', .int .i64 l.f.K] 94) := ⟨_, rfl⟩
              rw [← hY2]
              rw [← hY2] at HV c4 o0
              clear hY2
              obtain ⟨L4, hL4⟩ : ∃ x, x = Y1.heap.size := ⟨_, rfl⟩
              rw [← hL4]
              rw [← hL4] at c4
              have n04 : L4 ≠ L0 := by omega
              clear hL4 hsz
              have lt4 := c4.lt
              clear ltL0
              have ltL0 : L0 < Y2.heap.size := (o0.lt L0 rfl).2
              refine hK.out _ _ ⟨KP.out _ HV, fun _ => trivial⟩ ?_
              clear hK
              refine wpAnyE_one (i := 2) (by kernel_rfl) rfl (fun Kn hK => ?_)
              rw [if_pos (by rfl)]
              refine wp_copyL (.tmp 72) (.tmp 73) rfl Z0 w.heap.size L0 k vad vcap ls (by rfl) o0 (by rfl) (by have h := (j.below HV).o; rw [HK.out] at h; exact h) HK.out (by omega) (by rw [HZ.out]; exact HV.size) ?_
              intro v2 Y3 b2 t2 o2 _
              replace c4 := c4.touch t2 n04
              clear lt4
              rw [HZ.out] at b2
              replace HV := HV.trans b2
              clear b2 t2 o0 ltL0
              refine hK.out _ _ ⟨KP.out _ HV, fun _ => trivial⟩ ?_
              clear hK
              refine wpAnyE_one (i := 5) (by kernel_rfl) rfl (fun Kn hK => ?_)
              rw [if_pos (by rfl)]
              obtain ⟨a2, cp2, rfl⟩ := own_slice o2
              refine wp_append_lies _ (.tmp 74) (.tmp 76) 43 rfl Z0 94 i0 _ 6 80 Tryd.underlying43 hi hz0 hz1 hz2 rfl (by omega) (.slice a2 k cp2) k (ls.flatMap LV.cs) (by rfl) o2 ⟨L4, 0, none⟩ 1 1 l.cs (by rfl) (by rfl) (World.news_of_block (cs := #[.int .i64 l.kind, .int .i64 l.pot, .int .i64 l.skip, .slice l.f.a l.f.n l.f.cap, .slice l.f.c l.f.m l.f.cap', .int .i64 l.f.K]) (t := 94) (fr := (0, 0)) c4) (by have h := flatL_one [l]; simpa using h) (by omega) (by unfold maxLen; omega) (by omega) (by rw [HZ.out]; exact HV.size) _ rfl ?_
              intro g5 cp5 Y4 hown hgrow _ _
              replace HV := HV.trans ((Below.refl V0.heap.size Y3).grown hgrow HV.size (fun z hz => by have h := (o2.lt z hz).1; rw [HZ.out] at h; exact h))
              have g5G : LinesG Y4 (some ⟨g5, 0, none⟩) (ls ++ [l]) := linesG_own (base := Z0) (by rw [List.flatMap_append]; simpa using hown) (by rw [List.length_append, HK.out]; rfl) (fun i hi => (ATS.out i hi).below HV)
              clear hown hgrow o2 c4
              refine hK.out _ _ ⟨KP.out _ HV, fun _ => trivial⟩ ?_
              clear hK
              refine wpAnyE_one (i := 6) (by kernel_rfl) rfl (fun Kn hK => ?_)
              go_simp
              refine (sact_any _ (k + 1) cp5 (ls ++ [l]) _ (by rw [List.length_append, HK.out]; rfl) g5G (by omega)).mono ?_
              rintro e Y5 ⟨rfl, b6⟩
              replace HV := HV.trans (b6.mono HV.size)
              clear b6 g5G
              dsimp only
              refine hK.out _ _ ⟨KP.out _ HV, fun _ => trivial⟩ ?_
              clear hK
              refine wpAnyE_done (by kernel_rfl) ?_ _
              clear KP ATS
              go_wp2_with fail
              go_meet
              case rel => exact ⟨rfl, hVW.trans (HV.mono hVW.size)⟩
          · go_simp
            have al := (Below.refl V0.heap.size V0).alloc (Nat.le_refl _) (.cells #[.int .i64 l.kind, .int .i64 l.pot, .int .i64 l.skip, .slice l.f.a l.f.n l.f.cap, .slice l.f.c l.f.m l.f.cap', .int .i64 l.f.K] 94)
            have hsz := HV.size
            have c4 := Cel.new V0 [.int .i64 l.kind, .int .i64 l.pot, .int .i64 l.skip, .slice l.f.a l.f.n l.f.cap, .slice l.f.c l.f.m l.f.cap', .int .i64 l.f.K] 94
            replace HV := HV.trans (al.mono hsz)
            clear al
            obtain ⟨Y1, hY1⟩ : ∃ V, V = V0.alloc (.cells #[.int .i64 l.kind, .int .i64 l.pot, .int .i64 l.skip, .slice l.f.a l.f.n l.f.cap, .slice l.f.c l.f.m l.f.cap', .int .i64 l.f.K] 94) := ⟨_, rfl⟩
            rw [← hY1]
            rw [← hY1] at HV c4
            clear hY1
            obtain ⟨L4, hL4⟩ : ∃ x, x = V0.heap.size := ⟨_, rfl⟩
            rw [← hL4]
            rw [← hL4] at c4
            clear hL4 hsz
            have lt4 := c4.lt
            refine hK.out _ _ ⟨KP.out _ HV, fun _ => trivial⟩ ?_
            clear hK
            refine wpAnyE_one (i := 0) (by kernel_rfl) rfl (fun Kn hK => ?_)
            go_simp
            have al := (Below.refl Y1.heap.size Y1).alloc (Nat.le_refl _) (.cells #[] 94)
            have hsz := HV.size
            have o0 := World.ownsRow_lit (base := Z0) (e := 94) (size := 6) Y1 #[] 0 (by rw [HZ.out]; exact hsz) (by unfold maxLen; omega) rfl
            replace c4 := c4.below al
            replace HV := HV.trans (al.mono hsz)
            clear al
            obtain ⟨Y2, hY2⟩ : ∃ V, V = Y1.alloc (.cells #[] 94) := ⟨_, rfl⟩
            rw [← hY2]
            rw [← hY2] at HV o0 c4
            clear hY2
            obtain ⟨L0, hL0⟩ : ∃ x, x = Y1.heap.size := ⟨_, rfl⟩
            rw [← hL0]
            rw [← hL0] at o0
            have n04 : L4 ≠ L0 := by omega
            clear hL0 hsz
            have ltL0 : L0 < Y2.heap.size := (o0.lt L0 rfl).2
            clear lt4
            have lt4 := c4.lt
            refine hK.out _ _ ⟨KP.out _ HV, fun _ => trivial⟩ ?_
            clear hK
            refine wpAnyE_one (i := 2) (by kernel_rfl) rfl (fun Kn hK => ?_)
            rw [if_pos (by rfl)]
            refine wp_copyL (.tmp 72) (.tmp 73) rfl Z0 w.heap.size L0 k vad vcap ls (by rfl) o0 (by rfl) (by have h := (j.below HV).o; rw [HK.out] at h; exact h) HK.out (by omega) (by rw [HZ.out]; exact HV.size) ?_
            intro v2 Y3 b2 t2 o2 _
            replace c4 := c4.touch t2 n04
            clear lt4
            rw [HZ.out] at b2
            replace HV := HV.trans b2
            clear b2 t2 o0 ltL0
            refine hK.out _ _ ⟨KP.out _ HV, fun _ => trivial⟩ ?_
            clear hK
            refine wpAnyE_one (i := 5) (by kernel_rfl) rfl (fun Kn hK => ?_)
            rw [if_pos (by rfl)]
            obtain ⟨a2, cp2, rfl⟩ := own_slice o2
            refine wp_append_lies _ (.tmp 74) (.tmp 76) 43 rfl Z0 94 i0 _ 6 80 Tryd.underlying43 hi hz0 hz1 hz2 rfl (by omega) (.slice a2 k cp2) k (ls.flatMap LV.cs) (by rfl) o2 ⟨L4, 0, none⟩ 1 1 l.cs (by rfl) (by rfl) (World.news_of_block (cs := #[.int .i64 l.kind, .int .i64 l.pot, .int .i64 l.skip, .slice l.f.a l.f.n l.f.cap, .slice l.f.c l.f.m l.f.cap', .int .i64 l.f.K]) (t := 94) (fr := (0, 0)) c4) (by have h := flatL_one [l]; simpa using h) (by omega) (by unfold maxLen; omega) (by omega) (by rw [HZ.out]; exact HV.size) _ rfl ?_
            intro g5 cp5 Y4 hown hgrow _ _
            replace HV := HV.trans ((Below.refl V0.heap.size Y3).grown hgrow HV.size (fun z hz => by have h := (o2.lt z hz).1; rw [HZ.out] at h; exact h))
            have g5G : LinesG Y4 (some ⟨g5, 0, none⟩) (ls ++ [l]) := linesG_own (base := Z0) (by rw [List.flatMap_append]; simpa using hown) (by rw [List.length_append, HK.out]; rfl) (fun i hi => (ATS.out i hi).below HV)
            clear hown hgrow o2 c4
            refine hK.out _ _ ⟨KP.out _ HV, fun _ => trivial⟩ ?_
            clear hK
            refine wpAnyE_one (i := 6) (by kernel_rfl) rfl (fun Kn hK => ?_)
            go_simp
            refine (sact_any _ (k + 1) cp5 (ls ++ [l]) _ (by rw [List.length_append, HK.out]; rfl) g5G (by omega)).mono ?_
            rintro e Y5 ⟨rfl, b6⟩
            replace HV := HV.trans (b6.mono HV.size)
            clear b6 g5G
            dsimp only
            refine hK.out _ _ ⟨KP.out _ HV, fun _ => trivial⟩ ?_
            clear hK
            refine wpAnyE_done (by kernel_rfl) ?_ _
            clear KP ATS
            go_wp2_with fail
            go_meet
            case rel => exact ⟨rfl, hVW.trans (HV.mono hVW.size)⟩
        case rest =>
          obtain ⟨rfl, HV⟩ := hcut
          replace j := j.below HV
          replace qb := qb.below HV
          replace hl := hl.below HV
          have hs7 := HV.size
          clear HV
          cases h9 : actB (k + 1) (ls ++ [l])
          · go_wp2
            go_roundw
            case rel => exact ⟨m - 1, ls, q5, by go_num, by rw [HK.out]; omega, j, HAct.out, by omega, by omega⟩
            case measure => simp [intOf]; omega
          · have SZ : ∀ i, i < ls.length → (∀ b o, (ls[i]?.getD noLV).f.a = some ⟨b, o, none⟩ → b < wc.heap.size) ∧ (∀ b o, (ls[i]?.getD noLV).f.c = some ⟨b, o, none⟩ → b < wc.heap.size) := fun i hi => ⟨fun b o e => (j.na i hi b o e).2.1, fun b o e => (j.nc i hi b o e).2.1⟩
            have al := (Below.refl wc.heap.size wc).alloc (Nat.le_refl _) (.cells #[.int .i64 l.kind, .int .i64 l.pot, .int .i64 l.skip, .slice l.f.a l.f.n l.f.cap, .slice l.f.c l.f.m l.f.cap', .int .i64 l.f.K] 94)
            have ja := j.below al
            have hla := hl.below al
            have b0 := qb.cell 0
            have b1 := qb.cell 1
            have b2 := qb.cell 2
            have b3 := qb.cell 3
            have b4 := qb.cell 4
            have b5 := qb.cell 5
            simp only [List.getElem?_cons_zero, List.getElem?_cons_succ] at b0 b1 b2 b3 b4 b5
            have hszA := ja.t.size
            clear al j hl
            go_wp2_with (at_builtin; refine wpList_append_lies _ rfl (.tmp 79) (.tmp 81) 43 rfl w.heap.size 94 i0 _ 6 80 Tryd.underlying43 hi hz0 hz1 hz2 rfl (by omega) (.slice vad k vcap) k (ls.flatMap LV.cs) (by rfl) (by have h := ja.o; rw [HK.out] at h; exact h) ⟨wc.heap.size, 0, none⟩ 1 1 l.cs (by rfl) (by rfl) (World.news_of_block (cs := #[.int .i64 l.kind, .int .i64 l.pot, .int .i64 l.skip, .slice l.f.a l.f.n l.f.cap, .slice l.f.c l.f.m l.f.cap', .int .i64 l.f.K]) (t := 94) (fr := (0, 0)) (heap_alloc_new wc _)) (by have h := flatL_one [l]; simpa using h) (by omega) (by unfold maxLen; omega) (by omega) hszA (wc.heap.size + 1) (by rw [World.size_alloc]) ?_)
            intro g9 cp9 w9 hown hgrow hat _
            have jn := ja.app (H := wc.heap.size) HK.out hla (fun b o e => by (have h := la b o e; exact ⟨by omega, by omega, fun e2 => by have := hvb b e2; omega⟩)) (fun b o e => by (have h := lc b o e; exact ⟨by omega, by omega, fun e2 => by have := hvb b e2; omega⟩)) (by rw [World.size_alloc]; omega) SZ hown hgrow (by rcases hat with h | h; exact .inl h; exact .inr (by omega))
            clear hown hgrow ja hla b0 b1 b2 b3 b4 b5
            go_wp2
            go_roundw
            case rel => exact ⟨m - 1, ls ++ [l], q5, by go_num, by rw [List.length_append, HK.out]; simp; omega, jn, by rw [List.length_append, HK.out]; exact h9, by omega, by omega⟩
            case measure => simp [intOf]; omega
      · have hm' : ¬ (0 : Int) < (m : Int) := by omega
        obtain ⟨vad, vcap, rfl⟩ := own_slice j.o
        go_wp2
        go_ret
        exact ⟨vad, ls.length, vcap, rfl, by first | exact ⟨ls, ⟨q, j, by first | exact ⟨rfl, hact, by omega, by omega⟩ | omega⟩⟩ | (refine ⟨ls, ?_⟩; trace_state; simp [hact]; exact ⟨q, j, by omega, by omega⟩)⟩

end Go.Proofs.YtfkcfjkojfnfnaaDoor
namespace Go.Proofs.YtfkcfjkojfnfnaaDoor
open Go.RowKit
set_option linter.unusedVariables false
set_option maxRecDepth 100000

theorem flatL_set : ∀ (ls : List LV) (k r : Nat) (l' : LV) (u : Value), k < ls.length → r < 6 → l'.cs = (ls[k]?.getD noLV).cs.set r u → (ls.set k l').flatMap LV.cs = (ls.flatMap LV.cs).set (k * 6 + r) u := by
  intro ls
  induction ls with
  | nil => intro k r l' u hk; simp at hk
  | cons g gs ih =>
    intro k r l' u hk hr hc
    rcases k with _ | k
    · simp only [List.getElem?_cons_zero, Option.getD_some] at hc
      simp only [List.set_cons_zero, List.flatMap_cons, Nat.zero_mul, Nat.zero_add, hc]
      rw [List.set_append_left _ _ (by simp [LV.cs]; omega)]
    · simp only [List.getElem?_cons_succ] at hc
      simp only [List.set_cons_succ, List.flatMap_cons]
      rw [ih k r l' u (by simpa using hk) hr hc, List.set_append_right _ _ (by simp [LV.cs]; omega)]
      have e : (k + 1) * 6 + r - g.cs.length = k * 6 + r := by simp [LV.cs]; omega
      rw [e]
theorem two_lv {P : LV → Prop} {l m : LV} (h0 : P l) (h1 : P m) : ∀ i, i < [l, m].length → P ([l, m][i]?.getD noLV) := fun i hi => by
  rcases i with _ | _ | i
  · exact h0
  · exact h1
  · simp only [List.length_cons, List.length_nil] at hi; omega
/-- How long a slice is. -/
def lenOf : Value → Nat
  | .slice _ n _ => n
  | _ => 0
theorem getD_set {ls : List LV} {k i : Nat} {l' : LV} (hk : k < ls.length) : (ls.set k l')[i]?.getD noLV = if i = k then l' else ls[i]?.getD noLV := by
  by_cases h : i = k
  · subst h; rw [if_pos rfl, List.getElem?_set_self hk]; rfl
  · rw [if_neg h, List.getElem?_set_ne (fun e => h e.symm)]
section
variable {wL W W' : World} {R : Nat} {a : Option Addr} {n cap : Nat} {bs : List Int} {q : Int} {v : Value} {ls : List LV}
/-- A number of a line is changed. -/
theorem JL.set {g N c k r : Nat} {l' : LV} {u : Value} (j : JL wL R a n cap bs q (.slice (some ⟨g, 0, none⟩) N c) ls W) (hN : ls.length = N) (hk : k < ls.length) (hr : r < 6) (hc : l'.cs = (ls[k]?.getD noLV).cs.set r u) (h1 : u.oneCell' = true)
    (hat : l'.f.At W) (ha : ∀ b o, l'.f.a = some ⟨b, o, none⟩ → wL.heap.size ≤ b ∧ b < W.heap.size ∧ g ≠ b) (hcc : ∀ b o, l'.f.c = some ⟨b, o, none⟩ → wL.heap.size ≤ b ∧ b < W.heap.size ∧ g ≠ b) : JL wL R a n cap bs q (.slice (some ⟨g, 0, none⟩) N c) (ls.set k l') (W.setCell ⟨g, k * 6 + r, none⟩ u) := by
  have hg := j.o.lt g rfl
  have lR := j.lR
  have T : Touch (fun x => x = g) W (W.setCell ⟨g, k * 6 + r, none⟩ u) := Touch.setCell (S := fun x => x = g) (Touch.refl _ _) rfl _
  have o := j.o
  rw [hN] at o
  have hs : (W.setCell ⟨g, k * 6 + r, none⟩ u).heap.size = W.heap.size := size_setCell _ _ _
  have nb : ∀ i, i < ls.length → ∀ b o, (ls[i]?.getD noLV).f.a = some ⟨b, o, none⟩ → ¬ b = g := fun i hi b o e h => (j.na i hi b o e).2.2 (by rw [h]; rfl)
  have nb2 : ∀ i, i < ls.length → ∀ b o, (ls[i]?.getD noLV).f.c = some ⟨b, o, none⟩ → ¬ b = g := fun i hi b o e h => (j.nc i hi b o e).2.2 (by rw [h]; rfl)
  refine ⟨j.t.setNewF hg.1 _ _, j.r.touch T (by omega) (fun h0 b o e h => by have := j.lb h0 b o e; omega), ?_, fun i hi => ?_, fun i hi b o e => ?_, fun i hi b o e => ?_, j.lR, j.lb⟩
  · rw [List.length_set, hN, flatL_set ls k r l' u hk hr hc]
    exact (World.ownsRow.stored o (k * 6 + r) u).1
  · rw [List.length_set] at hi
    rw [getD_set hk]
    by_cases h : i = k
    · rw [if_pos h]; exact hat.off T (fun b o e h2 => (ha b o e).2.2 h2.symm) (fun b o e h2 => (hcc b o e).2.2 h2.symm)
    · rw [if_neg h]; exact (j.at' i hi).off T (nb i hi) (nb2 i hi)
  · rw [List.length_set] at hi
    rw [getD_set hk] at e
    by_cases h : i = k
    · rw [if_pos h] at e; have h3 := ha b o e; exact ⟨h3.1, by omega, fun e2 => h3.2.2 (by simpa [Value.ownBlock] using e2)⟩
    · rw [if_neg h] at e; have h3 := j.na i hi b o e; exact ⟨h3.1, by omega, h3.2.2⟩
  · rw [List.length_set] at hi
    rw [getD_set hk] at e
    by_cases h : i = k
    · rw [if_pos h] at e; have h3 := hcc b o e; exact ⟨h3.1, by omega, fun e2 => h3.2.2 (by simpa [Value.ownBlock] using e2)⟩
    · rw [if_neg h] at e; have h3 := j.nc i hi b o e; exact ⟨h3.1, by omega, h3.2.2⟩
/-- Lines are put behind the others. -/
theorem JL.apps {ns : List LV} {g c k m : Nat} {H : Nat} (j : JL wL R a n cap bs q v ls W) (hk : ls.length = k) (hm : ns.length = m) (hl : ∀ i, i < ns.length → (ns[i]?.getD noLV).f.At W) (la : ∀ i, i < ns.length → ∀ b o, (ns[i]?.getD noLV).f.a = some ⟨b, o, none⟩ → wL.heap.size ≤ b ∧ b < H ∧ v.ownBlock ≠ some b) (lc : ∀ i, i < ns.length → ∀ b o, (ns[i]?.getD noLV).f.c = some ⟨b, o, none⟩ → wL.heap.size ≤ b ∧ b < H ∧ v.ownBlock ≠ some b) (hH : H ≤ W.heap.size) (hsz : ∀ i, i < ls.length → (∀ b o, (ls[i]?.getD noLV).f.a = some ⟨b, o, none⟩ → b < H) ∧ (∀ b o, (ls[i]?.getD noLV).f.c = some ⟨b, o, none⟩ → b < H))
    (hown : W'.ownsRow wL.heap.size 94 6 (.slice (some ⟨g, 0, none⟩) (k + m) c) (k + m) (ls.flatMap LV.cs ++ ns.flatMap LV.cs)) (hg : W.grownBy W' v.ownBlock) (hat : v.ownBlock = some g ∨ H ≤ g) : JL wL R a n cap bs q (.slice (some ⟨g, 0, none⟩) (k + m) c) (ls ++ ns) W' := by
  have hr : ∀ x, v.ownBlock = some x → wL.heap.size ≤ x := fun x hx => (j.o.lt x hx).1
  have lR := j.lR
  have T : Touch (fun x => v.ownBlock = some x) W W' := ⟨hg.os, hg.tape, hg.output, hg.size, fun x hx hs => hg.block x hx (fun e => hs e.symm)⟩
  have hn : ∀ b, v.ownBlock ≠ some b → b < H → (Value.slice (some ⟨g, 0, none⟩) (k + m) c).ownBlock ≠ some b := fun b h1 h2 e => by
    simp only [Value.ownBlock, Option.some.injEq] at e
    rcases hat with h | h
    · rw [h] at h1; exact h1 (by rw [e])
    · omega
  have key : ∀ i, i < (ls ++ ns).length → (i < ls.length ∧ (ls ++ ns)[i]?.getD noLV = ls[i]?.getD noLV) ∨ (i - ls.length < ns.length ∧ (ls ++ ns)[i]?.getD noLV = ns[i - ls.length]?.getD noLV) := fun i hi => by
    by_cases h : i < ls.length
    · left; exact ⟨h, by rw [List.getElem?_append_left h]⟩
    · right
      rw [List.length_append] at hi
      exact ⟨by omega, by rw [List.getElem?_append_right (by omega)]⟩
  have hs := hg.size
  refine ⟨j.t.grown hg hr, j.r.touch T (fun e => by have := hr _ e; omega) (fun h0 b o hab e => by have := j.lb h0 b o hab; have := hr _ e; omega), ?_, fun i hi => ?_, fun i hi b o e => ?_, fun i hi b o e => ?_, j.lR, j.lb⟩
  · rw [List.length_append, hk, hm, List.flatMap_append]
    exact hown
  · rcases key i hi with ⟨h, e⟩ | ⟨h, e⟩
    · rw [e]; exact (j.at' i h).off T (fun b o e h' => (j.na i h b o e).2.2 h') (fun b o e h' => (j.nc i h b o e).2.2 h')
    · rw [e]; exact (hl _ h).off T (fun b o e h' => (la _ h b o e).2.2 h') (fun b o e h' => (lc _ h b o e).2.2 h')
  · rcases key i hi with ⟨h, e'⟩ | ⟨h, e'⟩
    · rw [e'] at e; have h3 := j.na i h b o e; exact ⟨h3.1, by omega, hn b h3.2.2 ((hsz i h).1 b o e)⟩
    · rw [e'] at e; have h3 := la _ h b o e; exact ⟨h3.1, by omega, hn b h3.2.2 h3.2.1⟩
  · rcases key i hi with ⟨h, e'⟩ | ⟨h, e'⟩
    · rw [e'] at e; have h3 := j.nc i h b o e; exact ⟨h3.1, by omega, hn b h3.2.2 ((hsz i h).2 b o e)⟩
    · rw [e'] at e; have h3 := lc _ h b o e; exact ⟨h3.1, by omega, hn b h3.2.2 h3.2.1⟩
end

set_option maxHeartbeats 6400000 in
theorem any_f (R : Nat) (a : Option Addr) (n cap : Nat) (bs : List Int) (p M : Int) (w : World) (rd : Rd w R a n cap bs p) (hp : 0 ≤ p) (hp1 : p ≤ 7000000) (hM : 1 ≤ M) (hM1 : M ≤ 1000) (ha : 0 < n → ∀ b o, a = some ⟨b, o, none⟩ → b < w.heap.size) :
    Calls Tryd.prog 59 #[.pointer (some ⟨R, 0, none⟩), .int .i64 M] w fun e w' => ∃ ad N c ls q, e = .returned (.slice ad N c) ∧ JL w R a n cap bs q (.slice ad N c) ls w' ∧ ls.length = N ∧ N ≤ 8 ∧ p ≤ q ∧ q ≤ p + 120 := by
  have hRl := rd.c.lt
  obtain ⟨i0, hi, hz0, hz1, hz2⟩ := info_parts Tryd.infoLn
  go_enter Tryd.func59, Tryd.ntmps59
  go_wp2_with fail
  refine (act_f R a n cap bs p _ rd hp (by omega) ha).mono ?_
  rintro e w1 ⟨ad, N, c, ls, q, rfl, j, hN, hok, q0, q1⟩
  have HN : Hid (ls.length = N) := hN
  have hN6 : N ≤ 6 := by unfold actB at hok; simp only [Bool.and_eq_true, decide_eq_true_eq] at hok; omega
  clear hN hok rd
  by_cases h0 : N = 0
  · subst h0
    go_wp2
    go_ret
    exact ⟨_, 0, _, ls, q, rfl, j, HN.out, by omega, by omega, by omega⟩
  have h0' : ((N : Int) == 0) = false := by simp; omega
  have hNp : 0 < N := by omega
  obtain ⟨g, rfl⟩ : ∃ g, ad = some ⟨g, 0, none⟩ := by
    rcases j.o.2 with ⟨_, h⟩ | ⟨g, cap', cur, hv, _⟩
    · rw [HN.out] at h; omega
    · simp only [Value.slice.injEq] at hv
      exact ⟨g, hv.1⟩
  go_wp2_with fail
  refine (pick_any R a n cap bs (q) M _ j.r (by omega) (by omega) (by omega) (by omega)).mono ?_
  rintro e w2 ⟨ru, hu0, hu1, rfl, t5, R5⟩
  obtain ⟨u, rfl⟩ := Int.eq_ofNat_of_zero_le hu0
  replace j := j.pick t5 R5
  clear t5 R5 hu0
  by_cases hu : 0 < u
  · have hu' : (0 : Int) < (u : Int) := by omega
    go_wp2
    go_ret
    exact ⟨_, N, c, ls, _, rfl, j, HN.out, by omega, by omega, by omega⟩
  have hu' : ¬ (0 : Int) < (u : Int) := by omega
  go_wp2_with fail
  refine (pick_any R a n cap bs (q + 1) (N : Int) _ j.r (by omega) (by omega) (by omega) (by omega)).mono ?_
  rintro e w4 ⟨rk, hk0, hk1, rfl, t5, R5⟩
  obtain ⟨k, rfl⟩ := Int.eq_ofNat_of_zero_le hk0
  replace j := j.pick t5 R5
  clear t5 R5 hk0
  have hkN : k < N := by omega
  have hkN' : (k : Int) < (N : Int) := by omega
  go_wp2_with fail
  refine (pick_any R a n cap bs (q + 1 + 1) 6 _ j.r (by omega) (by omega) (by omega) (by omega)).mono ?_
  rintro e w5 ⟨rs, hs0, hs1, rfl, t5, R5⟩
  obtain ⟨s, rfl⟩ := Int.eq_ofNat_of_zero_le hs0
  replace j := j.pick t5 R5
  clear t5 R5 hs0
  rcases (show s = 0 ∨ s = 1 ∨ s = 2 ∨ s = 3 ∨ s = 4 ∨ s = 5 from by omega) with rfl | rfl | rfl | rfl | rfl | rfl
  · have al := (Below.refl w5.heap.size w5).alloc (Nat.le_refl _) (.cells #[.int .i64 0, .int .i64 5, .int .i64 4, .int .i64 1] 3)
    have lb := Cel.new w5 [.int .i64 0, .int .i64 5, .int .i64 4, .int .i64 1] 3
    have hsz := j.t.size
    have nl : w5.heap.size ≠ R := by have := j.lR; omega
    replace j := j.below al
    clear al
    go_wp2_with fail
    refine (pick_any R a n cap bs (q + 1 + 1 + 1) 4 _ j.r (by omega) (by omega) (by omega) (by omega)).mono ?_
    rintro e w6 ⟨ri, hi0, hi1, rfl, t5, R5⟩
    obtain ⟨i, rfl⟩ := Int.eq_ofNat_of_zero_le hi0
    replace j := j.pick t5 R5
    replace lb := lb.touch t5 nl
    clear t5 R5 hi0
    have hi' : (i : Int) < 4 := by omega
    have hc := lit_cell (xs := [0, 5, 4, 1]) lb (j := i) (by simp only [List.length_cons, List.length_nil]; omega)
    generalize ([0, 5, 4, 1] : List Int)[i]?.getD 0 = y at hc
    clear lb
    have o := j.o
    rw [HN.out] at o
    have cc := o.cellAt (k * 6 + 0) (by omega)
    rw [flatL_at ls k (by rw [HN.out]; exact hkN) 0 (by omega)] at cc
    have cc' : w6.cell? ⟨g, k * 6 + 0, none⟩ = some (.int .i64 (ls[k]?.getD noLV).kind) := cc
    have ff : w6.frozen? ⟨g, k * 6 + 0, none⟩ = false := o.frozenAt _
    clear cc o
    rw [Nat.add_zero] at cc' ff
    obtain ⟨l, hl⟩ : ∃ l, l = ls[k]?.getD noLV := ⟨_, rfl⟩
    have j' := j.set (k := k) (r := 0) (l' := ⟨y, l.pot, l.skip, l.f⟩) (u := .int .i64 y) HN.out (by rw [HN.out]; exact hkN) (by omega) (by rw [← hl]; rfl) rfl (by rw [hl]; exact j.at' k (by rw [HN.out]; exact hkN)) (fun b o e => by (have h := j.na k (by rw [HN.out]; exact hkN) b o (by rw [← hl]; exact e); exact ⟨h.1, h.2.1, fun e2 => h.2.2 (by rw [e2]; rfl)⟩)) (fun b o e => by (have h := j.nc k (by rw [HN.out]; exact hkN) b o (by rw [← hl]; exact e); exact ⟨h.1, h.2.1, fun e2 => h.2.2 (by rw [e2]; rfl)⟩))
    clear j hl
    rw [Nat.add_zero] at j'
    go_wp2
    go_ret
    exact ⟨_, N, c, _, _, rfl, j', by rw [List.length_set]; exact HN.out, by omega, by omega, by omega⟩
  · have al := (Below.refl w5.heap.size w5).alloc (Nat.le_refl _) (.cells #[.int .i64 (-1), .int .i64 3, .int .i64 2] 3)
    have lb := Cel.new w5 [.int .i64 (-1), .int .i64 3, .int .i64 2] 3
    have hsz := j.t.size
    have nl : w5.heap.size ≠ R := by have := j.lR; omega
    replace j := j.below al
    clear al
    go_wp2_with fail
    refine (pick_any R a n cap bs (q + 1 + 1 + 1) 3 _ j.r (by omega) (by omega) (by omega) (by omega)).mono ?_
    rintro e w6 ⟨ri, hi0, hi1, rfl, t5, R5⟩
    obtain ⟨i, rfl⟩ := Int.eq_ofNat_of_zero_le hi0
    replace j := j.pick t5 R5
    replace lb := lb.touch t5 nl
    clear t5 R5 hi0
    have hi' : (i : Int) < 3 := by omega
    have hc := lit_cell (xs := [-1, 3, 2]) lb (j := i) (by simp only [List.length_cons, List.length_nil]; omega)
    generalize ([-1, 3, 2] : List Int)[i]?.getD 0 = y at hc
    clear lb
    have o := j.o
    rw [HN.out] at o
    have cc := o.cellAt (k * 6 + 1) (by omega)
    rw [flatL_at ls k (by rw [HN.out]; exact hkN) 1 (by omega)] at cc
    have cc' : w6.cell? ⟨g, k * 6 + 1, none⟩ = some (.int .i64 (ls[k]?.getD noLV).pot) := cc
    have ff : w6.frozen? ⟨g, k * 6 + 1, none⟩ = false := o.frozenAt _
    clear cc o
    obtain ⟨l, hl⟩ : ∃ l, l = ls[k]?.getD noLV := ⟨_, rfl⟩
    have j' := j.set (k := k) (r := 1) (l' := ⟨l.kind, y, l.skip, l.f⟩) (u := .int .i64 y) HN.out (by rw [HN.out]; exact hkN) (by omega) (by rw [← hl]; rfl) rfl (by rw [hl]; exact j.at' k (by rw [HN.out]; exact hkN)) (fun b o e => by (have h := j.na k (by rw [HN.out]; exact hkN) b o (by rw [← hl]; exact e); exact ⟨h.1, h.2.1, fun e2 => h.2.2 (by rw [e2]; rfl)⟩)) (fun b o e => by (have h := j.nc k (by rw [HN.out]; exact hkN) b o (by rw [← hl]; exact e); exact ⟨h.1, h.2.1, fun e2 => h.2.2 (by rw [e2]; rfl)⟩))
    clear j hl
    go_wp2
    go_ret
    exact ⟨_, N, c, _, _, rfl, j', by rw [List.length_set]; exact HN.out, by omega, by omega, by omega⟩
  · have al := (Below.refl w5.heap.size w5).alloc (Nat.le_refl _) (.cells #[.int .i64 0, .int .i64 (-1), .int .i64 7, .int .i64 6] 3)
    have lb := Cel.new w5 [.int .i64 0, .int .i64 (-1), .int .i64 7, .int .i64 6] 3
    have hsz := j.t.size
    have nl : w5.heap.size ≠ R := by have := j.lR; omega
    replace j := j.below al
    clear al
    go_wp2_with fail
    refine (pick_any R a n cap bs (q + 1 + 1 + 1) 4 _ j.r (by omega) (by omega) (by omega) (by omega)).mono ?_
    rintro e w6 ⟨ri, hi0, hi1, rfl, t5, R5⟩
    obtain ⟨i, rfl⟩ := Int.eq_ofNat_of_zero_le hi0
    replace j := j.pick t5 R5
    replace lb := lb.touch t5 nl
    clear t5 R5 hi0
    have hi' : (i : Int) < 4 := by omega
    have hc := lit_cell (xs := [0, -1, 7, 6]) lb (j := i) (by simp only [List.length_cons, List.length_nil]; omega)
    generalize ([0, -1, 7, 6] : List Int)[i]?.getD 0 = y at hc
    clear lb
    have o := j.o
    rw [HN.out] at o
    have cc := o.cellAt (k * 6 + 2) (by omega)
    rw [flatL_at ls k (by rw [HN.out]; exact hkN) 2 (by omega)] at cc
    have cc' : w6.cell? ⟨g, k * 6 + 2, none⟩ = some (.int .i64 (ls[k]?.getD noLV).skip) := cc
    have ff : w6.frozen? ⟨g, k * 6 + 2, none⟩ = false := o.frozenAt _
    clear cc o
    obtain ⟨l, hl⟩ : ∃ l, l = ls[k]?.getD noLV := ⟨_, rfl⟩
    have j' := j.set (k := k) (r := 2) (l' := ⟨l.kind, l.pot, y, l.f⟩) (u := .int .i64 y) HN.out (by rw [HN.out]; exact hkN) (by omega) (by rw [← hl]; rfl) rfl (by rw [hl]; exact j.at' k (by rw [HN.out]; exact hkN)) (fun b o e => by (have h := j.na k (by rw [HN.out]; exact hkN) b o (by rw [← hl]; exact e); exact ⟨h.1, h.2.1, fun e2 => h.2.2 (by rw [e2]; rfl)⟩)) (fun b o e => by (have h := j.nc k (by rw [HN.out]; exact hkN) b o (by rw [← hl]; exact e); exact ⟨h.1, h.2.1, fun e2 => h.2.2 (by rw [e2]; rfl)⟩))
    clear j hl
    go_wp2
    go_ret
    exact ⟨_, N, c, _, _, rfl, j', by rw [List.length_set]; exact HN.out, by omega, by omega, by omega⟩
  · go_wp2_with fail
    refine (form_f R a n cap bs (q + 1 + 1 + 1) 2 _ j.r (by omega) (by omega) (by omega) (by omega) j.r.ha).mono ?_
    rintro e w6 ⟨B1, nC, cC, B2, nD, cD, K, LC, LD, q6, rfl, fm⟩
    have hsz5 := (j.o.lt g rfl).2
    have hszL := j.t.size
    replace j := j.pick fm.t fm.r
    have y0 := fm.q0
    have y1 := fm.q1
    have z1 := fm.b1
    have z2 := fm.b2
    have GF := fm.fa K
    have s1 := GF.C.blk fm.c1
    have s2 := GF.D.blk fm.d1
    clear fm
    have o := j.o
    rw [HN.out] at o
    obtain ⟨l, hl⟩ : ∃ l, l = ls[k]?.getD noLV := ⟨_, rfl⟩
    have hkl : k < ls.length := by rw [HN.out]; exact hkN
    have d3 := o.cellAt (k * 6 + 3) (by omega)
    rw [flatL_at ls k hkl 3 (by omega), ← hl] at d3
    have e3 : w6.cell? ⟨g, k * 6 + 3, none⟩ = some (.slice l.f.a l.f.n l.f.cap) := d3
    have f3 : w6.frozen? ⟨g, k * 6 + 3, none⟩ = false := o.frozenAt _
    have d4 := o.cellAt (k * 6 + 4) (by omega)
    rw [flatL_at ls k hkl 4 (by omega), ← hl] at d4
    have e4 : w6.cell? ⟨g, k * 6 + 4, none⟩ = some (.slice l.f.c l.f.m l.f.cap') := d4
    have f4 : w6.frozen? ⟨g, k * 6 + 4, none⟩ = false := o.frozenAt _
    have d5 := o.cellAt (k * 6 + 5) (by omega)
    rw [flatL_at ls k hkl 5 (by omega), ← hl] at d5
    have e5 : w6.cell? ⟨g, k * 6 + 5, none⟩ = some (.int .i64 l.f.K) := d5
    have f5 : w6.frozen? ⟨g, k * 6 + 5, none⟩ = false := o.frozenAt _
    clear d3 d4 d5 o
    have hat := j.at' k hkl
    rw [← hl] at hat
    have hna := j.na k hkl
    have hnc := j.nc k hkl
    rw [← hl] at hna hnc
    have fa1 : ∀ b o, (some ⟨B1, 0, none⟩ : Option Addr) = some ⟨b, o, none⟩ → w.heap.size ≤ b ∧ b < w6.heap.size ∧ g ≠ b := fun b o e => by (simp only [Option.some.injEq, Addr.mk.injEq] at e; exact ⟨by omega, by omega, by omega⟩)
    have fa2 : ∀ b o, (some ⟨B2, 0, none⟩ : Option Addr) = some ⟨b, o, none⟩ → w.heap.size ≤ b ∧ b < w6.heap.size ∧ g ≠ b := fun b o e => by (simp only [Option.some.injEq, Addr.mk.injEq] at e; exact ⟨by omega, by omega, by omega⟩)
    have fo2 : ∀ b o, l.f.c = some ⟨b, o, none⟩ → w.heap.size ≤ b ∧ b < w6.heap.size ∧ g ≠ b := fun b o e => ⟨(hnc b o e).1, (hnc b o e).2.1, fun e2 => (hnc b o e).2.2 (by rw [e2]; rfl)⟩
    have j1 := j.set (k := k) (r := 3) (l' := ⟨l.kind, l.pot, l.skip, ⟨some ⟨B1, 0, none⟩, nC, cC, l.f.c, l.f.m, l.f.cap', l.f.K, LC, l.f.D⟩⟩) (u := .slice (some ⟨B1, 0, none⟩) nC cC) HN.out hkl (by omega) (by rw [← hl]; rfl) rfl ⟨GF.C, hat.D, GF.hn, hat.hm⟩ fa1 fo2
    have sz1 : (w6.setCell ⟨g, k * 6 + 3, none⟩ (.slice (some ⟨B1, 0, none⟩) nC cC)).heap.size = w6.heap.size := size_setCell _ _ _
    have T1 : Touch (fun x => x = g) w6 (w6.setCell ⟨g, k * 6 + 3, none⟩ (.slice (some ⟨B1, 0, none⟩) nC cC)) := Touch.setCell (S := fun x => x = g) (Touch.refl _ _) rfl _
    have GF1 := GF.off T1 (fun b o e h => (fa1 b o e).2.2 h.symm) (fun b o e h => (fa2 b o e).2.2 h.symm)
    have j2 := j1.set (k := k) (r := 4) (l' := ⟨l.kind, l.pot, l.skip, ⟨some ⟨B1, 0, none⟩, nC, cC, some ⟨B2, 0, none⟩, nD, cD, l.f.K, LC, LD⟩⟩) (u := .slice (some ⟨B2, 0, none⟩) nD cD) (by rw [List.length_set]; exact HN.out) (by rw [List.length_set]; exact hkl) (by omega) (by rw [getD_set hkl, if_pos rfl]; rfl) rfl ⟨GF1.C, GF1.D, GF1.hn, GF1.hm⟩ (by rw [sz1]; exact fa1) (by rw [sz1]; exact fa2)
    have sz2 : ((w6.setCell ⟨g, k * 6 + 3, none⟩ (.slice (some ⟨B1, 0, none⟩) nC cC)).setCell ⟨g, k * 6 + 4, none⟩ (.slice (some ⟨B2, 0, none⟩) nD cD)).heap.size = w6.heap.size := by rw [size_setCell]; exact sz1
    have T2 : Touch (fun x => x = g) w6 ((w6.setCell ⟨g, k * 6 + 3, none⟩ (.slice (some ⟨B1, 0, none⟩) nC cC)).setCell ⟨g, k * 6 + 4, none⟩ (.slice (some ⟨B2, 0, none⟩) nD cD)) := Touch.setCell (S := fun x => x = g) T1 rfl _
    have GF2 := GF.off T2 (fun b o e h => (fa1 b o e).2.2 h.symm) (fun b o e h => (fa2 b o e).2.2 h.symm)
    have hk2 : k < (ls.set k ⟨l.kind, l.pot, l.skip, ⟨some ⟨B1, 0, none⟩, nC, cC, l.f.c, l.f.m, l.f.cap', l.f.K, LC, l.f.D⟩⟩).length := by rw [List.length_set]; exact hkl
    have j3 := j2.set (k := k) (r := 5) (l' := ⟨l.kind, l.pot, l.skip, ⟨some ⟨B1, 0, none⟩, nC, cC, some ⟨B2, 0, none⟩, nD, cD, K, LC, LD⟩⟩) (u := .int .i64 K) (by rw [List.length_set, List.length_set]; exact HN.out) (by rw [List.length_set]; exact hk2) (by omega) (by rw [getD_set hk2, if_pos rfl]; rfl) rfl ⟨GF2.C, GF2.D, GF2.hn, GF2.hm⟩ (by rw [sz2]; exact fa1) (by rw [sz2]; exact fa2)
    clear j j1 j2 GF GF1 GF2 T1 T2 hl hat hna hnc
    go_wp2
    go_ret
    exact ⟨_, N, c, _, _, rfl, j3, by rw [List.length_set, List.length_set, List.length_set]; exact HN.out, by omega, by omega, by omega⟩
  · have HKN : Hid (k < N) := hkN
    go_wp2_with fail
    go_loopw [5] (fun v wr => ∃ (g' N' c' : Nat) (ls' : List LV) (q' : Int), v = .slice (some ⟨g', 0, none⟩) N' c' ∧ N ≤ N' ∧ N' ≤ 7 ∧ ls'.length = N' ∧ q' = q + 1 + 1 + 1 ∧ JL w R a n cap bs q' v ls' wr) (fun v _ => 8 - (lenOf v))
    case atStart => exact ⟨g, N, c, ls, _, rfl, by omega, by omega, HN.out, rfl, j⟩
    case round =>
      clear j
      obtain ⟨g', N', c', ls', q', rfl, hNN, hN7, hL, hq', j⟩ := hrel
      have HL : Hid (ls'.length = N') := hL
      clear hL
      by_cases h7 : N' ≤ 6
      · have h7' : (N' : Int) ≤ 6 := by omega
        have hkN2 : (k : Int) < (N' : Int) := by omega
        have hkl : k < ls'.length := by rw [HL.out]; omega
        obtain ⟨b', o', e', hc, hat⟩ := j.g HL.out k hkl
        simp only [Option.some.injEq, Addr.mk.injEq, and_true] at e'
        obtain ⟨rfl, rfl⟩ := e'
        obtain ⟨l, hl⟩ : ∃ l, l = ls'[k]?.getD noLV := ⟨_, rfl⟩
        rw [← hl] at hc hat
        have hna := j.na k hkl
        have hnc := j.nc k hkl
        rw [← hl] at hna hnc
        clear hl
        obtain ⟨x0, x1, x2, x3, x4, x5⟩ := six_of hc
        simp only [Nat.zero_add] at x0 x1 x2 x3 x4 x5
        clear hc
        have SZ : ∀ i, i < ls'.length → (∀ b o, (ls'[i]?.getD noLV).f.a = some ⟨b, o, none⟩ → b < wr.heap.size) ∧ (∀ b o, (ls'[i]?.getD noLV).f.c = some ⟨b, o, none⟩ → b < wr.heap.size) := fun i hi => ⟨fun b o e => (j.na i hi b o e).2.1, fun b o e => (j.nc i hi b o e).2.1⟩
        have al := (Below.refl wr.heap.size wr).alloc (Nat.le_refl _) (.cells #[.int .i64 l.kind, .int .i64 l.pot, .int .i64 l.skip, .slice l.f.a l.f.n l.f.cap, .slice l.f.c l.f.m l.f.cap', .int .i64 l.f.K] 94)
        have ja := j.below al
        have hla := hat.below al
        have hszA := ja.t.size
        clear al j hat
        go_wp2_with (at_builtin; refine wpList_append_lies _ rfl (.tmp 80) (.tmp 85) 43 rfl w.heap.size 94 i0 _ 6 80 Tryd.underlying43 hi hz0 hz1 hz2 rfl (by omega) (.slice (some ⟨g', 0, none⟩) N' c') N' (ls'.flatMap LV.cs) (by rfl) (by have h := ja.o; rw [HL.out] at h; exact h) ⟨wr.heap.size, 0, none⟩ 1 1 l.cs (by rfl) (by rfl) (World.news_of_block (cs := #[.int .i64 l.kind, .int .i64 l.pot, .int .i64 l.skip, .slice l.f.a l.f.n l.f.cap, .slice l.f.c l.f.m l.f.cap', .int .i64 l.f.K]) (t := 94) (fr := (0, 0)) (heap_alloc_new wr _)) (by have h := flatL_one [l]; simpa using h) (by omega) (by unfold maxLen; omega) (by omega) hszA (wr.heap.size + 1) (by rw [World.size_alloc]) ?_)
        intro g9 cp9 w9 hown hgrow hat9 _
        have jn := ja.app (H := wr.heap.size) HL.out hla hna hnc (by rw [World.size_alloc]; omega) SZ hown hgrow (by rcases hat9 with h | h; exact .inl h; exact .inr (by omega))
        clear hown hgrow ja hla x0 x1 x2 x3 x4 x5 hna hnc SZ
        go_wp2
        go_roundw
        case rel => exact ⟨g9, N' + 1, cp9, ls' ++ [l], _, rfl, by omega, by omega, by rw [List.length_append, HL.out]; rfl, hq', jn⟩
        case measure => simp [lenOf]; omega
      · have h7' : ¬ (N' : Int) ≤ 6 := by omega
        go_wp2
        go_ret
        exact ⟨_, N', c', rfl, by first | exact ⟨ls', ⟨q', j, by first | exact ⟨HL.out, by omega, by omega, by omega⟩ | omega⟩⟩ | (refine ⟨ls', ?_⟩; simp [HL.out]; exact ⟨q', j, by omega⟩) | (refine ⟨ls', ⟨q', j, ?_⟩, HL.out, ?_⟩ <;> omega)⟩
  · have hgW := (j.o.lt g rfl).2
    have hlo := j.t.size
    have hRR := j.lR
    go_wp2_with fail
    refine (small_f R a n cap bs (q + 1 + 1 + 1) _ j.r (by omega) (by omega) j.r.ha).mono ?_
    rintro e w6 ⟨BA, DA, LCA, LDA, KA, rfl, t5, R5, f5, _, _, _, _⟩
    have zA1 := f5.b1
    have zA2 := f5.b2
    have lA1 := f5.k1.lt
    have lA2 := f5.k2.lt
    have sA := t5.size
    have GA : FA w6 (some ⟨BA, 0, none⟩) 3 (some ⟨DA, 0, none⟩) 2 (LCA, LDA, KA) := ⟨f5.k1.ints' f5.l1, f5.k2.ints' f5.l2, by omega, by omega⟩
    replace j := j.pick t5 R5
    clear t5 R5 f5
    go_wp2_with fail
    refine (small_f R a n cap bs (q + 1 + 1 + 1 + 6) _ j.r (by omega) (by omega) j.r.ha).mono ?_
    rintro e w7 ⟨BE, DE, LCE, LDE, KE, rfl, t5, R5, f5, _, _, _, _⟩
    have zE1 := f5.b1
    have zE2 := f5.b2
    have lE1 := f5.k1.lt
    have lE2 := f5.k2.lt
    have sE := t5.size
    have GE : FA w7 (some ⟨BE, 0, none⟩) 3 (some ⟨DE, 0, none⟩) 2 (LCE, LDE, KE) := ⟨f5.k1.ints' f5.l1, f5.k2.ints' f5.l2, by omega, by omega⟩
    replace GA := GA.far t5 (lo := w5.heap.size) (fun k hk => by omega) zA1 zA2
    replace j := j.pick t5 R5
    clear t5 R5 f5
    have SZ : ∀ i, i < ls.length → (∀ b o, (ls[i]?.getD noLV).f.a = some ⟨b, o, none⟩ → b < w7.heap.size) ∧ (∀ b o, (ls[i]?.getD noLV).f.c = some ⟨b, o, none⟩ → b < w7.heap.size) := fun i hi => ⟨fun b o e => (j.na i hi b o e).2.1, fun b o e => (j.nc i hi b o e).2.1⟩
    have al := (Below.refl w7.heap.size w7).alloc (Nat.le_refl _) (.cells #[.int .i64 1, .int .i64 0, .int .i64 1, .slice (some ⟨BA, 0, none⟩) 3 3, .slice (some ⟨DA, 0, none⟩) 2 2, .int .i64 KA, .int .i64 1, .int .i64 0, .int .i64 1, .slice (some ⟨BE, 0, none⟩) 3 3, .slice (some ⟨DE, 0, none⟩) 2 2, .int .i64 KE] 94)
    have ja := j.below al
    replace GA := GA.below al
    replace GE := GE.below al
    have hszA := ja.t.size
    clear al j
    go_wp2_with (at_builtin; refine wpList_append_lies _ rfl (.tmp 25) (.tmp 32) 43 rfl w.heap.size 94 i0 _ 6 80 Tryd.underlying43 hi hz0 hz1 hz2 rfl (by omega) (.slice (some ⟨g, 0, none⟩) N c) N (ls.flatMap LV.cs) (by rfl) (by have h := ja.o; rw [HN.out] at h; exact h) ⟨w7.heap.size, 0, none⟩ 2 2 [.int .i64 1, .int .i64 0, .int .i64 1, .slice (some ⟨BA, 0, none⟩) 3 3, .slice (some ⟨DA, 0, none⟩) 2 2, .int .i64 KA, .int .i64 1, .int .i64 0, .int .i64 1, .slice (some ⟨BE, 0, none⟩) 3 3, .slice (some ⟨DE, 0, none⟩) 2 2, .int .i64 KE] (by rfl) (by rfl) (World.news_of_block (cs := #[.int .i64 1, .int .i64 0, .int .i64 1, .slice (some ⟨BA, 0, none⟩) 3 3, .slice (some ⟨DA, 0, none⟩) 2 2, .int .i64 KA, .int .i64 1, .int .i64 0, .int .i64 1, .slice (some ⟨BE, 0, none⟩) 3 3, .slice (some ⟨DE, 0, none⟩) 2 2, .int .i64 KE]) (t := 94) (fr := (0, 0)) (heap_alloc_new w7 _)) (by simp [Value.oneCell']) (by omega) (by unfold maxLen; omega) (by omega) hszA (w7.heap.size + 1) (by rw [World.size_alloc]) ?_)
    intro g9 cp9 w9 hown hgrow hat9 _
    have jn := ja.apps (ns := [⟨1, 0, 1, ⟨some ⟨BA, 0, none⟩, 3, 3, some ⟨DA, 0, none⟩, 2, 2, KA, LCA, LDA⟩⟩, ⟨1, 0, 1, ⟨some ⟨BE, 0, none⟩, 3, 3, some ⟨DE, 0, none⟩, 2, 2, KE, LCE, LDE⟩⟩]) (H := w7.heap.size) HN.out rfl (fun i hi => by (rcases i with _ | _ | i; exact ⟨GA.C, GA.D, GA.hn, GA.hm⟩; exact ⟨GE.C, GE.D, GE.hn, GE.hm⟩; simp only [List.length_cons, List.length_nil] at hi; omega)) (two_lv (P := fun x => ∀ b o, x.f.a = some ⟨b, o, none⟩ → w.heap.size ≤ b ∧ b < w7.heap.size ∧ (Value.slice (some ⟨g, 0, none⟩) N c).ownBlock ≠ some b) (fun b o e => by have e9 : (some ⟨BA, 0, none⟩ : Option Addr) = some ⟨b, o, none⟩ := e; simp only [Option.some.injEq, Addr.mk.injEq] at e9; exact ⟨by omega, by omega, by simp only [Value.ownBlock, ne_eq, Option.some.injEq]; omega⟩) (fun b o e => by have e9 : (some ⟨BE, 0, none⟩ : Option Addr) = some ⟨b, o, none⟩ := e; simp only [Option.some.injEq, Addr.mk.injEq] at e9; exact ⟨by omega, by omega, by simp only [Value.ownBlock, ne_eq, Option.some.injEq]; omega⟩)) (two_lv (P := fun x => ∀ b o, x.f.c = some ⟨b, o, none⟩ → w.heap.size ≤ b ∧ b < w7.heap.size ∧ (Value.slice (some ⟨g, 0, none⟩) N c).ownBlock ≠ some b) (fun b o e => by have e9 : (some ⟨DA, 0, none⟩ : Option Addr) = some ⟨b, o, none⟩ := e; simp only [Option.some.injEq, Addr.mk.injEq] at e9; exact ⟨by omega, by omega, by simp only [Value.ownBlock, ne_eq, Option.some.injEq]; omega⟩) (fun b o e => by have e9 : (some ⟨DE, 0, none⟩ : Option Addr) = some ⟨b, o, none⟩ := e; simp only [Option.some.injEq, Addr.mk.injEq] at e9; exact ⟨by omega, by omega, by simp only [Value.ownBlock, ne_eq, Option.some.injEq]; omega⟩)) (by rw [World.size_alloc]; omega) SZ hown hgrow (by rcases hat9 with h | h; exact .inl h; exact .inr (by omega))
    clear hown hgrow ja SZ
    go_wp2
    go_ret
    exact ⟨_, N + 2, cp9, _, _, rfl, jn, by rw [List.length_append, HN.out]; rfl, by omega, by omega, by omega⟩


end Go.Proofs.YtfkcfjkojfnfnaaDoor
namespace Go.Proofs.YtfkcfjkojfnfnaaDoor
open Go.RowKit
set_option linter.unusedVariables false
set_option maxRecDepth 100000

theorem pRun (ad : Option Addr) (N cap : Nat) (ls : List LV) (v : Option Addr) (p cv : Nat) (V : List Int) (u : Option Addr) (q cu : Nat) (U : List Int) (w : World) (hN : ls.length = N) (hF : LinesG w ad ls) (hN1 : N ≤ 1048576) (hV : Ints w v p V) (hU : Ints w u q U) (hp : p ≤ 1048576) (hq : q ≤ 1048576) :
    Calls Tryd.prog 25 #[.slice ad N cap, .slice v p cv, .slice u q cu] w fun e w' => RunM w w' e (runCode N ls p V q U) (runTells N ls p V q U) (runPots N ls p V q U) :=
  (irun_any ad N cap ls v p cv V u q cu U w hN hF hN1 hV hU hp hq).mono fun e w' h => RunM.of h

theorem qRun (ad : Option Addr) (N cap : Nat) (ls : List LV) (v : Option Addr) (p cv : Nat) (V : List Int) (u : Option Addr) (q cu : Nat) (U : List Int) (w : World) (hN : ls.length = N) (hF : LinesG w ad ls) (hN1 : N ≤ 1048576) (hV : Ints w v p V) (hU : Ints w u q U) (hp : p ≤ 1048576) (hq : q ≤ 1048576) :
    Calls Tryd.prog 26 #[.slice ad N cap, .slice v p cv, .slice u q cu] w fun e w' => RunM w w' e (runCode N ls p V q U) (runTells N ls p V q U) (runPots N ls p V q U) :=
  (srun_any ad N cap ls v p cv V u q cu U w hN hF hN1 hV hU hp hq).mono fun e w' h => RunM.of h

/-- Two results are the same. -/
def coRB (c d : Int) (xs ys : List Int) : Bool := (c == d) && eqB xs ys
theorem coRB_same (c : Int) (xs : List Int) : coRB c c xs xs = true := by simp [coRB, eqB]

set_option maxHeartbeats 800000 in
theorem coR_any (c d : Int) (a : Option Addr) (n cap : Nat) (b : Option Addr) (m cap' : Nat) (xs ys : List Int) (w : World) (h : Ints w a n xs) (h' : Ints w b m ys) (hn : n ≤ 1048576) (hm : m ≤ 1048576) :
    Calls Tryd.prog 22 #[resV c a n cap, resV d b m cap'] w fun e w' => e = .returned (.bool (coRB c d xs ys)) ∧ Below w.heap.size w w' := by
  cases h1 : (c == d)
  · go_enter Tryd.func22, Tryd.ntmps22
    go_wp2
    go_ret
    exact ⟨ret_bool (by simp [coRB, h1]), ((Below.refl _ _).alloc (Nat.le_refl _) _).alloc (by simp) _⟩
  · go_enter Tryd.func22, Tryd.ntmps22
    go_wp2_with fail
    refine (coI_any _ _ _ _ _ _ xs ys _ ((h.alloc _).alloc _) ((h'.alloc _).alloc _) hn hm).mono ?_
    rintro e w1 ⟨rfl, b1⟩
    go_wp2
    go_ret
    exact ⟨ret_bool (by simp [coRB, h1]), (((Below.refl _ _).alloc (Nat.le_refl _) _).alloc (by simp) _).trans (b1.mono (by simp; omega))⟩

set_option maxHeartbeats 1600000 in
theorem dRun (a : Option Addr) (n cap : Nat) (bs : List Int) (w : World) (h : BInts w a n bs) (hn : n ≤ cap) (hn1 : n ≤ 1048576) (hc : cap ≤ maxLen) :
    Calls Tryd.prog 24 #[.slice a n cap] w fun e w' => ∃ ad N c ls va p cv V ua q cu A base, e = .returned (.tuple #[.slice ad N c, .slice va p cv, .slice ua q cu]) ∧ Below w.heap.size w w' ∧ LinesG w' ad ls ∧ ls.length = N ∧ N ≤ 8 ∧ w'.ownsRow base 94 6 (.slice ad N c) N (ls.flatMap LV.cs) ∧ Ints w' va p V ∧ Ints w' ua q A ∧ p ≤ 4 ∧ q ≤ 4 := by
  go_enter Tryd.func24, Tryd.ntmps24
  go_wp2_with fail
  refine (open_any _ _ _ bs _ h hn hn1 hc).mono ?_
  rintro e w1 ⟨R, n', cap2, bs', rfl, b1, hR, r1⟩
  have hRl := r1.c.lt
  go_wp2_with fail
  refine (any_f R a n' cap2 bs' 0 16 _ r1 (by omega) (by omega) (by omega) (by omega) r1.ha).mono ?_
  rintro e w2 ⟨ad, N, c, ls, q, rfl, j, hN, hN8, q0, q1⟩
  go_wp2_with fail
  refine (vals_gen R a n' cap2 bs' q 16 _ j.r (by omega) (by omega) (by omega) (by omega) j.r.ha).mono ?_
  rintro e w3 ⟨va, vp, cv, V, q3, rfl, d3⟩
  have u2 := d3.q0
  have u3 := d3.q1
  have hsz := j.t.size
  replace j := j.pick d3.t d3.r
  go_wp2_with fail
  refine (args_gen R a n' cap2 bs' q3 16 _ d3.r (by omega) (by omega) (by omega) (by omega) d3.r.ha).mono ?_
  rintro e w4 ⟨ua, uq, cu, A, q4, rfl, d4⟩
  replace j := j.pick d4.t d4.r
  have hV := d3.i.off d4.t (fun b o e hs => by have := d3.lo b o e; omega)
  have BB : Below w.heap.size w w4 := b1.trans (j.t.below (by have := b1.size; omega) (fun k hk => by omega))
  have o := j.o
  rw [hN] at o
  have hG := j.g hN
  have hA := d4.i
  have p3 := d3.h4
  have p4 := d4.h4
  clear r1 b1 d3 d4
  go_wp2
  go_ret3
  exact ⟨_, N, c, ls, _, vp, cv, V, _, uq, cu, A, _, rfl, BB, hG, hN, hN8, o, hV, hA, p3, p4⟩

end Go.Proofs.YtfkcfjkojfnfnaaDoor
namespace Go.Proofs.YtfkcfjkojfnfnaaDoor
open Go.RowKit
set_option linter.unusedVariables false

theorem dec_step {k : Nat} (h : ¬ k < 10) : Lib.decDigits k = Lib.decDigits (k / 10) ++ [UInt8.ofNat (48 + k % 10)] := by
  rw [Lib.decDigits, dif_neg h]
theorem dec_one {k : Nat} (h : k < 10) : Lib.decDigits k = [UInt8.ofNat (48 + k)] := by
  rw [Lib.decDigits, dif_pos h]

/-- Two strings together. -/
theorem cat_str (a b : List UInt8) : ((⟨a.toArray⟩ : ByteArray) ++ (⟨b.toArray⟩ : ByteArray)) = ⟨(a ++ b).toArray⟩ := by
  apply ByteArray.ext
  simp
theorem cat_one (x : UInt8) (b : List UInt8) : ((⟨#[x]⟩ : ByteArray) ++ (⟨b.toArray⟩ : ByteArray)) = ⟨(x :: b).toArray⟩ := cat_str [x] b
theorem u8_add (m : Nat) (h : m < 10) : (48 : UInt8) + UInt8.ofNat m = UInt8.ofNat (48 + m) := by
  simp

set_option maxRecDepth 100000 in
set_option maxHeartbeats 800000 in
theorem digits_pos (N : Nat) (w : World) (hN : N ≤ 1000000000000000000) :
    Calls Tryd.prog 49 #[.int .i64 N] w fun e w' => e = .returned (.string ⟨(Lib.decDigits N).toArray⟩) ∧ Below w.heap.size w w' := by
  go_enter Tryd.func49, Tryd.ntmps49
  go_wp2_with fail
  go_loopw [0, 3] (fun n s wr => ∃ (k : Nat) (l : List UInt8), n = .int .i64 k ∧ s = .string ⟨l.toArray⟩ ∧ k + l.length ≤ N ∧ Lib.decDigits N = Lib.decDigits k ++ l ∧ Below w.heap.size w wr) (fun n _ _ => (intOf n).toNat)
  case atStart => exact ⟨N, [], rfl, rfl, Nat.le_refl _, by simp, Below.refl _ _⟩
  case round =>
    obtain ⟨k, l, rfl, rfl, hk, hd, hb⟩ := hrel
    have HD : Hid _ := hd
    clear hd
    have hll : l.length ≤ 1000000000000000000 := by omega
    have hkk : k ≤ 1000000000000000000 := by omega
    by_cases h9 : 9 < k
    · have hcv : (convert 22 9 (.slice (some ⟨wr.heap.size, 0, none⟩) 1 1)).run Tryd.prog (wr.alloc (.cells #[.int .u8 (48 + (k : Int) % 10)] 5)) = .ok (.string ⟨#[UInt8.ofNat (48 + k % 10)]⟩) (wr.alloc (.cells #[.int .u8 (48 + (k : Int) % 10)] 5)) := run_convert_bytes_back (P := Tryd.prog) (wr.alloc (.cells #[.int .u8 (48 + (k : Int) % 10)] 5)) 22 9 5 ⟨wr.heap.size, 0, none⟩ 1 [UInt8.ofNat (48 + k % 10)] Tryd.underlying22 Tryd.underlying5 Tryd.underlying9 (fun j hj => by
        have : j = 0 := by simpa using hj
        subst this
        have hm : 48 + k % 10 < 256 := by omega
        simp [go_sem, Addr.add, Nat.mod_eq_of_lt hm])
      go_wp2
      go_roundw
      case rel => exact ⟨k / 10, UInt8.ofNat (48 + k % 10) :: l, by go_num, by rw [u8_add _ (by omega), cat_one], by rw [List.length_cons]; omega, by rw [HD.out, dec_step (by omega), List.append_assoc]; rfl, hb.alloc hb.size _⟩
      case measure => simp [intOf]; omega
    · have hcv : (convert 22 9 (.slice (some ⟨wr.heap.size, 0, none⟩) 1 1)).run Tryd.prog (wr.alloc (.cells #[.int .u8 (48 + (k : Int))] 5)) = .ok (.string ⟨#[UInt8.ofNat (48 + k)]⟩) (wr.alloc (.cells #[.int .u8 (48 + (k : Int))] 5)) := run_convert_bytes_back (P := Tryd.prog) (wr.alloc (.cells #[.int .u8 (48 + (k : Int))] 5)) 22 9 5 ⟨wr.heap.size, 0, none⟩ 1 [UInt8.ofNat (48 + k)] Tryd.underlying22 Tryd.underlying5 Tryd.underlying9 (fun j hj => by
        have : j = 0 := by simpa using hj
        subst this
        have hm : 48 + k < 256 := by omega
        simp [go_sem, Addr.add, Nat.mod_eq_of_lt hm])
      go_wp2
      go_ret
      exact ⟨by rw [u8_add _ (by omega), cat_one, HD.out, dec_one (by omega)]; rfl, hb.alloc hb.size _⟩

set_option maxRecDepth 100000 in
set_option maxHeartbeats 800000 in
theorem digits_any (n : Int) (w : World) (h0 : -1000000000000000000 ≤ n) (h1 : n ≤ 1000000000000000000) :
    Calls Tryd.prog 49 #[.int .i64 n] w fun e w' => e = .returned (.string ⟨(Lib.itoa n).toArray⟩) ∧ Below w.heap.size w w' := by
  by_cases hn : n < 0
  · have e : Lib.itoa n = 45 :: Lib.decDigits n.natAbs := by rw [Lib.itoa, if_pos hn]
    have hl : (Lib.decDigits n.natAbs).length ≤ 21 := by
      have := Lib.itoa_length_le n (by omega) (by omega)
      rw [e, List.length_cons] at this
      omega
    have HE : Hid _ := e
    clear e
    go_enter Tryd.func49, Tryd.ntmps49
    go_wp2_with fail
    refine (show Calls Tryd.prog 49 #[.int .i64 (-n)] w _ from (by have := digits_pos n.natAbs w (by omega); rw [show ((n.natAbs : Nat) : Int) = -n by omega] at this; exact this)).mono ?_
    rintro e w1 ⟨rfl, b1⟩
    go_wp2
    go_ret
    exact ⟨by rw [HE.out]; exact congrArg (fun x => Ending.returned (.string x)) (cat_one _ _), b1⟩
  · have e : Lib.itoa n = Lib.decDigits n.toNat := by rw [Lib.itoa, if_neg hn]
    rw [e]
    have := digits_pos n.toNat w (by omega)
    rwa [show ((n.toNat : Nat) : Int) = n by omega] at this

end Go.Proofs.YtfkcfjkojfnfnaaDoor
namespace Go.Proofs.YtfkcfjkojfnfnaaDoor
open Go.ChangeShapes Go.WideShapes Go.ChangeAt Go.RowKit Go.Joins
set_option linter.unusedVariables false
set_option maxRecDepth 100000

/-- A result as a value. -/
abbrev resP (code : Int) (a : Option Addr) (n cap : Nat) : Value := .agg #[.int .i64 code, .slice a n cap]

theorem open_res {H : Type} {enc : TypeId × Value → H} {W : World} {r : Reach} {b0 : Nat} {v : Value} {d : DataW H} {p : List MemPlace}
    (hv : Value.okWide Tryd.prog W r b0 36 v) (h : DataW.Trod enc Tryd.prog W 0 (fun _ => true) true 36 v d p) :
    ∃ code a n cap C, v = resP code a n cap ∧ (Lit.int .i64 code).wf = true ∧ Ints W a n C ∧ n ≤ maxLen := by
  obtain ⟨v0, v1, y0, y1, k, rfl, -, -, h0, h1⟩ := open_agg2 Tryd.underlying36 (by kernel_rfl) (by kernel_rfl) hv h
  obtain ⟨code, rfl, wc⟩ := open_num h0
  obtain ⟨a, n, cap, C, rfl, hC, hn⟩ := open_row h1
  exact ⟨code, a, n, cap, C, rfl, wc, hC, hn⟩

end Go.Proofs.YtfkcfjkojfnfnaaDoor
namespace Go.Proofs.YtfkcfjkojfnfnaaDoor
open Go.RowKit
set_option linter.unusedVariables false
set_option maxRecDepth 100000

def wordL (c : Int) : List UInt8 := if c = 1 then [100, 111, 110, 101] else if c = 2 then [115, 116, 111, 112, 112, 101, 100] else if c = 3 then [111, 118, 101, 114] else []
def tailL (zs : List Int) : List UInt8 := Lib.joinTail [32] (zs.map Lib.itoa)
def resOkB (c : Int) (n : Nat) (zs : List Int) : Bool := inB c 1 3 && (decide (c = 1 ∨ n = 0) && (decide (n ≤ 6) && allB 999999999999 zs))
def resText (c : Int) (n : Nat) (zs : List Int) : List UInt8 := if resOkB c n zs = true then wordL c ++ tailL zs else []
theorem tail_step {zs : List Int} {k : Nat} (h : k < zs.length) : tailL (zs.take (k + 1)) = tailL (zs.take k) ++ ([32] ++ Lib.itoa (zs[k]?.getD 0)) := by
  unfold tailL Lib.joinTail
  rw [List.take_succ_eq_append_getElem h, List.getElem?_eq_getElem h, List.map_append, List.map_append, List.flatten_append]
  simp only [List.map_cons, List.map_nil, List.flatten_cons, List.flatten_nil, List.append_nil, Option.getD_some]
theorem tail_nil : tailL [] = [] := rfl
theorem tail_end {zs : List Int} {k : Nat} (h : zs.length ≤ k) : tailL (zs.take k) = tailL zs := by rw [List.take_of_length_le h]
theorem resText_no {c : Int} {n : Nat} {zs : List Int} (h : resOkB c n zs = false) : resText c n zs = [] := by rw [resText, h]; rfl
theorem resText_yes {c : Int} {n : Nat} {zs : List Int} (h : resOkB c n zs = true) : resText c n zs = wordL c ++ tailL zs := by rw [resText, if_pos h]
theorem word_len (c : Int) : (wordL c).length ≤ 7 := by
  unfold wordL
  split
  · decide
  · split
    · decide
    · split <;> decide

theorem allB_bnd' {m : Int} {zs : List Int} (hm : 0 ≤ m) (h : allB m zs = true) : ∀ i : Nat, -m ≤ zs[i]?.getD 0 ∧ zs[i]?.getD 0 ≤ m := by
  intro i
  by_cases hi : i < zs.length
  · unfold allB at h
    rw [List.all_eq_true] at h
    have := inB_iff.1 (h zs[i] (List.getElem_mem hi))
    rw [List.getElem?_eq_getElem hi]
    simpa using this
  · rw [List.getElem?_eq_none (by omega)]
    simp; omega

theorem ret_str {a b : List UInt8} (h : a = b) : Ending.returned (.string ⟨a.toArray⟩) = .returned (.string ⟨b.toArray⟩) := by rw [h]

set_option maxHeartbeats 1600000 in
theorem stext_any (c : Int) (a : Option Addr) (n cap : Nat) (zs : List Int) (w : World) (hC : Ints w a n zs) (hn : n ≤ 1048576) :
    Calls Tryd.prog 21 #[resP c a n cap] w fun e w' => e = .returned (.string ⟨(resText c n zs).toArray⟩) ∧ Below w.heap.size w w' := by
  have HL : Hid (zs.length = n) := hC.1
  have B0 := ((Below.refl w.heap.size w).alloc (Nat.le_refl _) (.cells #[.int .i64 c, .slice a n cap] 36)).alloc (by simp) (.cells #[.string ⟨#[]⟩, .string ⟨#[100, 111, 110, 101]⟩, .string ⟨#[115, 116, 111, 112, 112, 101, 100]⟩, .string ⟨#[111, 118, 101, 114]⟩] 9)
  cases h1 : inB c 1 3
  · have HR : Hid _ := resText_no (c := c) (n := n) (zs := zs) (by simp [resOkB, h1])
    go_enter Tryd.func21, Tryd.ntmps21
    go_wp2_with fail
    refine (in_any _ _ _ _).mono ?_
    rintro e w1 ⟨rfl, rfl⟩
    rw [h1]
    go_wp2
    go_ret
    exact ⟨by rw [HR.out]; rfl, B0⟩
  have c13 := inB_iff.1 h1
  have H1 : Hid _ := h1
  by_cases h2 : c = 1 ∨ n = 0
  · by_cases h3 : n ≤ 6
    · cases h4 : allB 999999999999 zs
      · have h4' : okN (n : Int) 999999999999 n zs = false := by rw [okN_is rfl, h4]
        have HR : Hid _ := resText_no (c := c) (n := n) (zs := zs) (by simp [resOkB, h4])
        rcases h2 with rfl | rfl
        · go_enter Tryd.func21, Tryd.ntmps21
          go_wp2_with fail
          refine (in_any _ _ _ _).mono ?_
          rintro e w1 ⟨rfl, rfl⟩
          rw [h1]
          go_wp2_with fail
          refine (all_any _ _ _ zs _ _ _ (hC.below B0) hn (by omega) (by omega)).mono ?_
          rintro e w1 ⟨rfl, rfl⟩
          rw [h4']
          go_wp2
          go_ret
          exact ⟨by rw [HR.out]; rfl, B0⟩
        · exfalso
          have : zs = [] := List.eq_nil_of_length_eq_zero HL.out
          subst this
          cases h4
      · have H4 : Hid (okN (n : Int) 999999999999 n zs = true) := by show _ = _; rw [okN_is rfl, h4]
        have HR : Hid _ := resText_yes (c := c) (n := n) (zs := zs) (by simp [resOkB, h1, h2, h3, h4])
        have BZ : Hid (∀ i : Nat, -999999999999 ≤ zs[i]?.getD 0 ∧ zs[i]?.getD 0 ≤ 999999999999) := allB_bnd' (by omega) h4
        clear h1 h4
        by_cases e1 : c = 1
        · subst e1
          clear h2
          go_enter Tryd.func21, Tryd.ntmps21
          go_wp2_with fail
          refine (in_any _ _ _ _).mono ?_
          rintro e w1 ⟨rfl, rfl⟩
          rw [H1.out]
          go_wp2_with fail
          refine (all_any _ _ _ zs _ _ _ (hC.below B0) hn (by omega) (by omega)).mono ?_
          rintro e w1 ⟨rfl, rfl⟩
          rw [H4.out]
          obtain ⟨W, hW⟩ : ∃ W, W = (w.alloc (.cells #[.int .i64 1, .slice a n cap] 36)).alloc (.cells #[.string ⟨#[]⟩, .string ⟨#[100, 111, 110, 101]⟩, .string ⟨#[115, 116, 111, 112, 112, 101, 100]⟩, .string ⟨#[111, 118, 101, 114]⟩] 9) := ⟨_, rfl⟩
          have bx : Cel W w.heap.size [.int .i64 1, .slice a n cap] 36 := by rw [hW]; exact (Cel.new w _ _).alloc _
          have wd : Cel W (w.heap.size + 1) [.string ⟨#[]⟩, .string ⟨#[100, 111, 110, 101]⟩, .string ⟨#[115, 116, 111, 112, 112, 101, 100]⟩, .string ⟨#[111, 118, 101, 114]⟩] 9 := by rw [hW]; have := Cel.new (w.alloc (.cells #[.int .i64 1, .slice a n cap] 36)) [.string ⟨#[]⟩, .string ⟨#[100, 111, 110, 101]⟩, .string ⟨#[115, 116, 111, 112, 112, 101, 100]⟩, .string ⟨#[111, 118, 101, 114]⟩] 9; rwa [World.size_alloc] at this
          rw [← hW] at B0 ⊢
          clear hW
          have k0 := bx.cell 0
          have k1 := bx.cell 1
          have k2 := wd.cell 1
          simp only [List.getElem?_cons_zero, List.getElem?_cons_succ] at k0 k1 k2
          have hW := hC.below B0
          clear hC wd
          go_wp2_with fail
          go_loopw [4, 5] (fun s i wr => ∃ (k : Nat) (L : List UInt8), k ≤ n ∧ i = .int .i64 k ∧ s = .string ⟨L.toArray⟩ ∧ L = wordL 1 ++ tailL (zs.take k) ∧ L.length ≤ 7 + 22 * k ∧ Below W.heap.size W wr) (fun _ i _ => n - (intOf i).toNat)
          case atStart => exact ⟨0, wordL 1, Nat.zero_le _, rfl, rfl, by simp [tail_nil], by decide, Below.refl _ _⟩
          case round =>
            obtain ⟨k, L, hk, rfl, rfl, hL, hlen, hb⟩ := hrel
            have HLL : Hid _ := hL
            clear hL
            have hlen' : L.length ≤ 1000 := by omega
            have kk1 := (bx.below hb).cell 1
            simp only [List.getElem?_cons_zero, List.getElem?_cons_succ] at kk1
            by_cases hlt : k < n
            · obtain ⟨b, off, rfl, hcell⟩ := (hW.below hb).pos (by omega)
              have hck : wr.cell? ⟨b, off + k, none⟩ = some (.int .i64 (zs[k]?.getD 0)) := by rw [hcell k hlt]; simp
              have HT : Hid _ := tail_step (zs := zs) (k := k) (by rw [HL.out]; exact hlt)
              have hz := BZ.out k
              generalize HG : zs[k]?.getD 0 = z at *
              clear HG hcell
              obtain ⟨z1, z2⟩ := hz
              have hI := Lib.itoa_length_le z (by omega) (by omega)
              generalize HGI : Lib.itoa z = I at *
              have HGI' : Hid _ := HGI
              clear HGI
              go_wp2_with fail
              refine (digits_any z _ (by omega) (by omega)).mono ?_
              rintro e w2 ⟨rfl, b2⟩
              rw [HGI'.out]
              go_wp2
              go_roundw
              case rel => exact ⟨k + 1, L ++ [32] ++ I, by omega, by go_num, by rw [show (⟨#[32]⟩ : ByteArray) = ⟨[32].toArray⟩ from rfl, cat_str, cat_str], by rw [HT.out, HLL.out, List.append_assoc, List.append_assoc], by rw [List.length_append, List.length_append, List.length_cons, List.length_nil]; omega, hb.trans (b2.mono hb.size)⟩
              case measure => simp [intOf]; omega
            · go_wp2
              go_ret
              exact ⟨by rw [HR.out, HLL.out, tail_end (by rw [HL.out]; omega)]; rfl, B0.trans (hb.mono B0.size)⟩
        · have hn0 : n ≤ 0 := by omega
          clear h2
          by_cases e2 : c = 2
          · subst e2
            go_enter Tryd.func21, Tryd.ntmps21
            go_wp2_with fail
            refine (in_any _ _ _ _).mono ?_
            rintro e w1 ⟨rfl, rfl⟩
            rw [H1.out]
            go_wp2_with fail
            refine (all_any _ _ _ zs _ _ _ (hC.below B0) hn (by omega) (by omega)).mono ?_
            rintro e w1 ⟨rfl, rfl⟩
            rw [H4.out]
            obtain ⟨W, hW⟩ : ∃ W, W = (w.alloc (.cells #[.int .i64 2, .slice a n cap] 36)).alloc (.cells #[.string ⟨#[]⟩, .string ⟨#[100, 111, 110, 101]⟩, .string ⟨#[115, 116, 111, 112, 112, 101, 100]⟩, .string ⟨#[111, 118, 101, 114]⟩] 9) := ⟨_, rfl⟩
            have bx : Cel W w.heap.size [.int .i64 2, .slice a n cap] 36 := by rw [hW]; exact (Cel.new w _ _).alloc _
            have wd : Cel W (w.heap.size + 1) [.string ⟨#[]⟩, .string ⟨#[100, 111, 110, 101]⟩, .string ⟨#[115, 116, 111, 112, 112, 101, 100]⟩, .string ⟨#[111, 118, 101, 114]⟩] 9 := by rw [hW]; have := Cel.new (w.alloc (.cells #[.int .i64 2, .slice a n cap] 36)) [.string ⟨#[]⟩, .string ⟨#[100, 111, 110, 101]⟩, .string ⟨#[115, 116, 111, 112, 112, 101, 100]⟩, .string ⟨#[111, 118, 101, 114]⟩] 9; rwa [World.size_alloc] at this
            rw [← hW] at B0 ⊢
            clear hW
            have k0 := bx.cell 0
            have k1 := bx.cell 1
            have k2 := wd.cell 2
            simp only [List.getElem?_cons_zero, List.getElem?_cons_succ] at k0 k1 k2
            have hW := hC.below B0
            clear hC wd
            go_wp2_with fail
            go_loopw [4, 5] (fun s i wr => ∃ (k : Nat) (L : List UInt8), k ≤ n ∧ i = .int .i64 k ∧ s = .string ⟨L.toArray⟩ ∧ L = wordL 2 ++ tailL (zs.take k) ∧ L.length ≤ 7 + 22 * k ∧ Below W.heap.size W wr) (fun _ i _ => n - (intOf i).toNat)
            case atStart => exact ⟨0, wordL 2, Nat.zero_le _, rfl, rfl, by simp [tail_nil], by decide, Below.refl _ _⟩
            case round =>
              obtain ⟨k, L, hk, rfl, rfl, hL, hlen, hb⟩ := hrel
              have HLL : Hid _ := hL
              clear hL
              have hlen' : L.length ≤ 1000 := by omega
              have kk1 := (bx.below hb).cell 1
              simp only [List.getElem?_cons_zero, List.getElem?_cons_succ] at kk1
              by_cases hlt : k < n
              · exfalso; omega
              · go_wp2
                go_ret
                exact ⟨by rw [HR.out, HLL.out, tail_end (by rw [HL.out]; omega)]; rfl, B0.trans (hb.mono B0.size)⟩
          · obtain rfl : c = 3 := by omega
            go_enter Tryd.func21, Tryd.ntmps21
            go_wp2_with fail
            refine (in_any _ _ _ _).mono ?_
            rintro e w1 ⟨rfl, rfl⟩
            rw [H1.out]
            go_wp2_with fail
            refine (all_any _ _ _ zs _ _ _ (hC.below B0) hn (by omega) (by omega)).mono ?_
            rintro e w1 ⟨rfl, rfl⟩
            rw [H4.out]
            obtain ⟨W, hW⟩ : ∃ W, W = (w.alloc (.cells #[.int .i64 3, .slice a n cap] 36)).alloc (.cells #[.string ⟨#[]⟩, .string ⟨#[100, 111, 110, 101]⟩, .string ⟨#[115, 116, 111, 112, 112, 101, 100]⟩, .string ⟨#[111, 118, 101, 114]⟩] 9) := ⟨_, rfl⟩
            have bx : Cel W w.heap.size [.int .i64 3, .slice a n cap] 36 := by rw [hW]; exact (Cel.new w _ _).alloc _
            have wd : Cel W (w.heap.size + 1) [.string ⟨#[]⟩, .string ⟨#[100, 111, 110, 101]⟩, .string ⟨#[115, 116, 111, 112, 112, 101, 100]⟩, .string ⟨#[111, 118, 101, 114]⟩] 9 := by rw [hW]; have := Cel.new (w.alloc (.cells #[.int .i64 3, .slice a n cap] 36)) [.string ⟨#[]⟩, .string ⟨#[100, 111, 110, 101]⟩, .string ⟨#[115, 116, 111, 112, 112, 101, 100]⟩, .string ⟨#[111, 118, 101, 114]⟩] 9; rwa [World.size_alloc] at this
            rw [← hW] at B0 ⊢
            clear hW
            have k0 := bx.cell 0
            have k1 := bx.cell 1
            have k2 := wd.cell 3
            simp only [List.getElem?_cons_zero, List.getElem?_cons_succ] at k0 k1 k2
            have hW := hC.below B0
            clear hC wd
            go_wp2_with fail
            go_loopw [4, 5] (fun s i wr => ∃ (k : Nat) (L : List UInt8), k ≤ n ∧ i = .int .i64 k ∧ s = .string ⟨L.toArray⟩ ∧ L = wordL 3 ++ tailL (zs.take k) ∧ L.length ≤ 7 + 22 * k ∧ Below W.heap.size W wr) (fun _ i _ => n - (intOf i).toNat)
            case atStart => exact ⟨0, wordL 3, Nat.zero_le _, rfl, rfl, by simp [tail_nil], by decide, Below.refl _ _⟩
            case round =>
              obtain ⟨k, L, hk, rfl, rfl, hL, hlen, hb⟩ := hrel
              have HLL : Hid _ := hL
              clear hL
              have hlen' : L.length ≤ 1000 := by omega
              have kk1 := (bx.below hb).cell 1
              simp only [List.getElem?_cons_zero, List.getElem?_cons_succ] at kk1
              by_cases hlt : k < n
              · exfalso; omega
              · go_wp2
                go_ret
                exact ⟨by rw [HR.out, HLL.out, tail_end (by rw [HL.out]; omega)]; rfl, B0.trans (hb.mono B0.size)⟩
    · have HR : Hid _ := resText_no (c := c) (n := n) (zs := zs) (by simp [resOkB, h3])
      obtain rfl : c = 1 := by omega
      go_enter Tryd.func21, Tryd.ntmps21
      go_wp2_with fail
      refine (in_any _ _ _ _).mono ?_
      rintro e w1 ⟨rfl, rfl⟩
      rw [h1]
      go_wp2
      go_ret
      exact ⟨by rw [HR.out]; rfl, B0⟩
  · have HR : Hid _ := resText_no (c := c) (n := n) (zs := zs) (by simp [resOkB, h2])
    have hc1 : (c != 1) = true := by simp; omega
    have hn0 : (0 : Int) < n := by omega
    go_enter Tryd.func21, Tryd.ntmps21
    go_wp2_with fail
    refine (in_any _ _ _ _).mono ?_
    rintro e w1 ⟨rfl, rfl⟩
    rw [h1]
    go_wp2
    go_ret
    exact ⟨by rw [HR.out]; rfl, B0⟩

end Go.Proofs.YtfkcfjkojfnfnaaDoor
namespace Go.Proofs
open Go.Shelf
def Tryd.lays156_ren : Go.Shelf.Ren := ⟨fun | 156 => 79 | 165 => 100 | 166 => 101 | 169 => 102 | 240 => 117 | 241 => 118 | 276 => 131 | 277 => 132 | n => n, fun | 31 => 69 | 9 => 9 | 3 => 3 | 4 => 4 | 0 => 0 | 20 => 20 | 72 => 136 | 76 => 114 | 70 => 134 | 37 => 22 | 75 => 113 | 127 => 155 | 164 => 167 | 5 => 5 | 80 => 66 | n => n, fun | n => n⟩
theorem Tryd.lays156 : Go.Proofs.Lays.n156 Tryd.prog Tryd.lays156_ren := {
  mixed := by kernel_rfl
  f156 := Tryd.func79.trans (congrArg some (by kernel_rfl))
  f165 := Tryd.func100.trans (congrArg some (by kernel_rfl))
  f166 := Tryd.func101.trans (congrArg some (by kernel_rfl))
  f169 := Tryd.func102.trans (congrArg some (by kernel_rfl))
  f240 := Tryd.func117.trans (congrArg some (by kernel_rfl))
  f241 := Tryd.func118.trans (congrArg some (by kernel_rfl))
  f276 := Tryd.func131.trans (congrArg some (by kernel_rfl))
  f277 := Tryd.func132.trans (congrArg some (by kernel_rfl))
  t0 := Tryd.underlying0
  a0 := Tryd.isAgg0
  z0 := Tryd.sizeOf0
  v0 := Tryd.zeroValue0
  t3 := Tryd.underlying3
  a3 := Tryd.isAgg3
  z3 := Tryd.sizeOf3
  v3 := Tryd.zeroValue3
  t4 := Tryd.underlying4
  a4 := Tryd.isAgg4
  z4 := Tryd.sizeOf4
  v4 := Tryd.zeroValue4
  t9 := Tryd.underlying9
  a9 := Tryd.isAgg9
  z9 := Tryd.sizeOf9
  v9 := Tryd.zeroValue9
  t20 := Tryd.underlying20
  a20 := Tryd.isAgg20
  z20 := Tryd.sizeOf20
  v20 := Tryd.zeroValue20
  t31 := Tryd.underlying69
  a31 := Tryd.isAgg69
  z31 := Tryd.sizeOf69
  v31 := Tryd.zeroValue69
  t37 := Tryd.underlying22
  a37 := Tryd.isAgg22
  z37 := Tryd.sizeOf22
  v37 := Tryd.zeroValue22
  t70 := Tryd.underlying134
  a70 := Tryd.isAgg134
  z70 := Tryd.sizeOf134
  v70 := Tryd.zeroValue134
  t72 := Tryd.underlying136
  a72 := Tryd.isAgg136
  z72 := Tryd.sizeOf136
  v72 := Tryd.zeroValue136
  t75 := Tryd.underlying113
  a75 := Tryd.isAgg113
  z75 := Tryd.sizeOf113
  v75 := Tryd.zeroValue113
  t76 := Tryd.underlying114
  a76 := Tryd.isAgg114
  z76 := Tryd.sizeOf114
  v76 := Tryd.zeroValue114
  t127 := Tryd.underlying155
  a127 := Tryd.isAgg155
  z127 := Tryd.sizeOf155
  v127 := Tryd.zeroValue155
  t164 := Tryd.underlying167
  a164 := Tryd.isAgg167
  z164 := Tryd.sizeOf167
  v164 := Tryd.zeroValue167 }
theorem Tryd.Builder_Extra_156 : Builder.Extra Tryd.prog Tryd.lays156_ren := {
  sizeBuilder := by kernel_rfl
  liesBuilder := by kernel_rfl
  t5 := Tryd.underlying5
  a5 := Tryd.isAgg5
  z5 := Tryd.sizeOf5
  v5 := Tryd.zeroValue5
  infoByte := by kernel_rfl
  cellsByte := by kernel_rfl
  sizeByte := by kernel_rfl
  neB5 := by decide }
open Go.RowKit in
theorem Tryd.strings_Join_none (a : Option Addr) (c : Nat) (sep : ByteArray) (w : World) :
    Calls Tryd.prog 79 #[.slice a 0 c, .string sep] w fun e w' => e = .returned (.string ⟨#[]⟩) ∧ w' = w := Any.strings_Join_none Tryd.lays156 Tryd.Builder_Extra_156 a c sep w
open Go.RowKit in
theorem Tryd.strings_Join (bk o c : Nat) (xs : List ByteArray) (sep : ByteArray) (w : World) (hcells : ∀ (j : Nat) x, xs[j]? = some x → w.cell? ⟨bk, o + j, none⟩ = some (.string x)) (hbk : bk < w.heap.size) (hN : xs.length ≤ 140737488355328) (hcap : xs.length ≤ c) (hlen : (Lib.join (xs.map (·.data.toList)) sep.data.toList).length ≤ 140737488355328) :
    Calls Tryd.prog 79 #[.slice (some ⟨bk, o, none⟩) xs.length c, .string sep] w fun e w' => e = .returned (.string ⟨(Lib.join (xs.map (·.data.toList)) sep.data.toList).toArray⟩) ∧ Below w.heap.size w w' := Any.strings_Join Tryd.lays156 Tryd.Builder_Extra_156 bk o c xs sep w hcells hbk hN hcap hlen
def Tryd.laysM171_ren : Go.Shelf.Ren := ⟨fun | 171 => 83 | 243 => 103 | 246 => 119 | 283 => 133 | 284 => 134 | 285 => 135 | 286 => 136 | 129 => 146 | 317 => 145 | 318 => 147 | 319 => 148 | 320 => 149 | 337 => 154 | 338 => 155 | n => n, fun | 3 => 3 | 9 => 9 | 2 => 2 | 4 => 4 | 171 => 170 | 0 => 0 | 53 => 171 | 37 => 22 | 5 => 5 | 173 => 174 | 212 => 184 | 51 => 185 | 20 => 20 | 213 => 186 | 46 => 178 | 232 => 201 | 233 => 202 | n => n, fun | 17 => 3 | 18 => 6 | 19 => 7 | n => n⟩
theorem Tryd.laysM171 : Go.Proofs.LaysM.n171 Tryd.prog Tryd.laysM171_ren := {
  mixed := by kernel_rfl
  f129 := Tryd.func146.trans (congrArg some (by kernel_rfl))
  f171 := Tryd.func83.trans (congrArg some (by kernel_rfl))
  f243 := Tryd.func103.trans (congrArg some (by kernel_rfl))
  f246 := Tryd.func119.trans (congrArg some (by kernel_rfl))
  f283 := Tryd.func133.trans (congrArg some (by kernel_rfl))
  f284 := Tryd.func134.trans (congrArg some (by kernel_rfl))
  f285 := Tryd.func135.trans (congrArg some (by kernel_rfl))
  f286 := Tryd.func136.trans (congrArg some (by kernel_rfl))
  f317 := Tryd.func145.trans (congrArg some (by kernel_rfl))
  f318 := Tryd.func147.trans (congrArg some (by kernel_rfl))
  f319 := Tryd.func148.trans (congrArg some (by kernel_rfl))
  f320 := Tryd.func149.trans (congrArg some (by kernel_rfl))
  f337 := Tryd.func154.trans (congrArg some (by kernel_rfl))
  f338 := Tryd.func155.trans (congrArg some (by kernel_rfl))
  t0 := Tryd.underlying0
  a0 := Tryd.isAgg0
  z0 := Tryd.sizeOf0
  v0 := Tryd.zeroValue0
  t2 := Tryd.underlying2
  a2 := Tryd.isAgg2
  z2 := Tryd.sizeOf2
  v2 := Tryd.zeroValue2
  t3 := Tryd.underlying3
  a3 := Tryd.isAgg3
  z3 := Tryd.sizeOf3
  v3 := Tryd.zeroValue3
  t4 := Tryd.underlying4
  a4 := Tryd.isAgg4
  z4 := Tryd.sizeOf4
  v4 := Tryd.zeroValue4
  t5 := Tryd.underlying5
  a5 := Tryd.isAgg5
  z5 := Tryd.sizeOf5
  v5 := Tryd.zeroValue5
  t9 := Tryd.underlying9
  a9 := Tryd.isAgg9
  z9 := Tryd.sizeOf9
  v9 := Tryd.zeroValue9
  t20 := Tryd.underlying20
  a20 := Tryd.isAgg20
  z20 := Tryd.sizeOf20
  v20 := Tryd.zeroValue20
  t37 := Tryd.underlying22
  a37 := Tryd.isAgg22
  z37 := Tryd.sizeOf22
  v37 := Tryd.zeroValue22
  t46 := Tryd.underlying178
  a46 := Tryd.isAgg178
  z46 := Tryd.sizeOf178
  v46 := Tryd.zeroValue178
  t51 := Tryd.underlying185
  a51 := Tryd.isAgg185
  z51 := Tryd.sizeOf185
  v51 := Tryd.zeroValue185
  t53 := Tryd.underlying171
  a53 := Tryd.isAgg171
  z53 := Tryd.sizeOf171
  v53 := Tryd.zeroValue171
  t171 := Tryd.underlying170
  a171 := Tryd.isAgg170
  z171 := Tryd.sizeOf170
  v171 := Tryd.zeroValue170
  t173 := Tryd.underlying174
  a173 := Tryd.isAgg174
  z173 := Tryd.sizeOf174
  v173 := Tryd.zeroValue174
  t212 := Tryd.underlying184
  a212 := Tryd.isAgg184
  z212 := Tryd.sizeOf184
  v212 := Tryd.zeroValue184
  t213 := Tryd.underlying186
  a213 := Tryd.isAgg186
  z213 := Tryd.sizeOf186
  t232 := Tryd.underlying201
  a232 := Tryd.isAgg201
  z232 := Tryd.sizeOf201
  v232 := Tryd.zeroValue201
  t233 := Tryd.underlying202
  a233 := Tryd.isAgg202
  z233 := Tryd.sizeOf202
  v233 := Tryd.zeroValue202
  g17 := by kernel_rfl
  g18 := by kernel_rfl
  g19 := by kernel_rfl
  i0 := by kernel_rfl
  i2 := by kernel_rfl
  i3 := by kernel_rfl
  i4 := by kernel_rfl
  i5 := by kernel_rfl
  i9 := by kernel_rfl
  i20 := by kernel_rfl
  i37 := by kernel_rfl
  i46 := by kernel_rfl
  i51 := by kernel_rfl
  i53 := by kernel_rfl
  i171 := by kernel_rfl
  i173 := by kernel_rfl
  i212 := by kernel_rfl
  i232 := by kernel_rfl
  i233 := by kernel_rfl
  m17 := by kernel_rfl
  m18 := by kernel_rfl
  m19 := by kernel_rfl }
open Go.RowKit Go.Sort Go.Lib in
theorem Tryd.strconv_Itoa (n : Int) (h0 : -9223372036854775808 ≤ n) (h1 : n ≤ 9223372036854775807) (w : World) (htab : Lib.TabIs Tryd.prog w "internal/strconv.uint64pow10" .u64 Lib.pow10Tab) :
    Calls Tryd.prog 83 #[.int .i64 n] w fun e w' => e = .returned (.string ⟨(Lib.itoa n).toArray⟩) ∧ ∃ k os, w' = grow (w.drewN k) os := Any.strconv_Itoa Tryd.laysM171 n h0 h1 w htab
end Go.Proofs
namespace Go.Proofs.YtfkcfjkojfnfnaaDoor
open Go.RowKit
set_option linter.unusedVariables false
set_option maxRecDepth 100000

/-- A list of strings that has been made since w, and grows; old memory is as it was. -/
structure JT (w : World) (v : Value) (xs : List ByteArray) (W : World) : Prop where
  b : Below w.heap.size w W
  o : W.ownsRow w.heap.size 9 1 v xs.length (xs.map Value.string)
theorem JT.one (w : World) (x : ByteArray) : JT w (.slice (some ⟨w.heap.size, 0, none⟩) 1 1) [x] (w.alloc (.cells #[.string x] 9)) :=
  ⟨(Below.refl _ _).alloc (Nat.le_refl _) _, World.ownsRow_lit w #[.string x] 1 (Nat.le_refl _) (by unfold maxLen; omega) rfl⟩
theorem JT.alloc {w W : World} {v : Value} {xs : List ByteArray} (j : JT w v xs W) (o : Obj) : JT w v xs (W.alloc o) := ⟨j.b.alloc j.b.size _, j.o.alloc o⟩
theorem JT.below {w W W' : World} {v : Value} {xs : List ByteArray} (j : JT w v xs W) (h : Below W.heap.size W W') : JT w v xs W' := by
  refine ⟨j.b.trans (h.mono j.b.size), j.o.1, ?_⟩
  rcases j.o.2 with h2 | ⟨g, cap, cur, hv, hg, hh, r⟩
  · exact Or.inl h2
  · exact Or.inr ⟨g, cap, cur, hv, hg, by rw [h.block g (lt_of_block hh)]; exact hh, r⟩
theorem JT.app {w W W' : World} {v : Value} {xs : List ByteArray} {y : ByteArray} {g cap k : Nat} {o : Obj} (j : JT w v xs W) (hk : xs.length = k) (hown : W'.ownsRow w.heap.size 9 1 (.slice (some ⟨g, 0, none⟩) (k + 1) cap) (k + 1) (xs.map Value.string ++ [.string y])) (hg : (W.alloc o).grownBy W' v.ownBlock) :
    JT w (.slice (some ⟨g, 0, none⟩) (k + 1) cap) (xs ++ [y]) W' := by
  refine ⟨(j.alloc o).b.grown hg (j.alloc o).b.size (fun k hk => ((j.alloc o).o.lt k hk).1), ?_⟩
  rw [List.length_append, hk, List.map_append]
  exact hown
theorem JT.cells {w W : World} {v : Value} {xs : List ByteArray} {k : Nat} (j : JT w v xs W) (hk : xs.length = k) (h0 : 0 < k) : ∃ g cap, v = .slice (some ⟨g, 0, none⟩) k cap ∧ k ≤ cap ∧ g < W.heap.size ∧ ∀ (i : Nat) x, xs[i]? = some x → W.cell? ⟨g, 0 + i, none⟩ = some (.string x) := by
  subst hk
  rcases j.o.2 with ⟨hv, h⟩ | ⟨g, cap', cur, rfl, hg, hh, hl, _, _⟩
  · omega
  · refine ⟨g, cap', rfl, hl, lt_of_block hh, fun i x hx => ?_⟩
    have hi := (List.getElem?_eq_some_iff.1 hx).1
    have := j.o.cellAt i (by omega)
    rw [Nat.zero_add, this]
    simp [hx]

theorem newsS (w : World) (x : Value) (t : TypeId) : ∀ j u, [x][j]? = some u → (w.alloc (.cells #[x] t)).cell? ((⟨w.heap.size, 0, none⟩ : Addr).add j) = some u := fun j u hu => by
  match j, hu with
  | 0, hu =>
    simp only [List.getElem?_cons_zero, Option.some.injEq] at hu
    subst hu
    simp [Addr.add]
theorem oneS (x : ByteArray) : ∀ u ∈ [Value.string x], u.oneCell' = true := fun u hu => by
  simp at hu; subst hu; rfl
theorem Tryd.infoStr : (Tryd.prog.info? 9).map (fun i => (i.zero, i.size, i.bytes)) = some (some (.string ⟨#[]⟩), 1, 16) := by kernel_rfl

theorem word_any (c : Int) (w : World) : Calls Tryd.prog 52 #[.int .i64 c] w fun e w' => e = .returned (.string ⟨(wordL c).toArray⟩) ∧ w' = w := by
  by_cases h1 : c = 1
  · subst h1
    go_enter Tryd.func52, Tryd.ntmps52
    go_wp2
    go_ret
    exact ⟨rfl, rfl⟩
  have h1' : (c == 1) = false := by simp [h1]
  by_cases h2 : c = 2
  · subst h2
    go_enter Tryd.func52, Tryd.ntmps52
    go_wp2
    go_ret
    exact ⟨rfl, rfl⟩
  have h2' : (c == 2) = false := by simp [h2]
  by_cases h3 : c = 3
  · subst h3
    go_enter Tryd.func52, Tryd.ntmps52
    go_wp2
    go_ret
    exact ⟨rfl, rfl⟩
  have h3' : (c == 3) = false := by simp [h3]
  have e : wordL c = [] := by rw [wordL, if_neg h1, if_neg h2, if_neg h3]
  rw [e]
  go_enter Tryd.func52, Tryd.ntmps52
  go_wp2
  go_ret
  exact ⟨rfl, rfl⟩

/-- The words of a result. -/
def wordsL (c : Int) (zs : List Int) : List ByteArray := ⟨(wordL c).toArray⟩ :: zs.map fun z => ⟨(Lib.itoa z).toArray⟩
theorem words_join (c : Int) (zs : List Int) : Lib.join ((wordsL c zs).map (·.data.toList)) [32] = wordL c ++ tailL zs := by
  rw [wordsL, List.map_cons, Lib.join_cons, tailL, List.map_map]
  rfl
theorem words_step {c : Int} {zs : List Int} {k : Nat} (h : k < zs.length) : wordsL c (zs.take (k + 1)) = wordsL c (zs.take k) ++ [⟨(Lib.itoa (zs[k]?.getD 0)).toArray⟩] := by
  rw [wordsL, wordsL, List.take_succ_eq_append_getElem h, List.getElem?_eq_getElem h, List.map_append]
  rfl
theorem words_len (c : Int) (zs : List Int) : (wordsL c zs).length = zs.length + 1 := by simp [wordsL]
theorem tail_len {zs : List Int} (hb : ∀ i : Nat, -999999999999 ≤ zs[i]?.getD 0 ∧ zs[i]?.getD 0 ≤ 999999999999) : ∀ k, k ≤ zs.length → (tailL (zs.take k)).length ≤ 22 * k
  | 0, _ => by simp [tailL, Lib.joinTail]
  | k + 1, h => by
    have ih := tail_len hb k (by omega)
    have hz := hb k
    have := Lib.itoa_length_le (zs[k]?.getD 0) (by omega) (by omega)
    rw [tail_step (by omega), List.length_append, List.length_append]
    simp only [List.length_cons, List.length_nil]
    omega

end Go.Proofs.YtfkcfjkojfnfnaaDoor
namespace Go.Proofs.YtfkcfjkojfnfnaaDoor
open Go.RowKit
set_option linter.unusedVariables false
set_option maxRecDepth 100000

def wordsT (l : List UInt8) (zs : List Int) : List ByteArray := ⟨l.toArray⟩ :: zs.map fun z => ⟨(Lib.itoa z).toArray⟩
theorem wordsT_join (l : List UInt8) (zs : List Int) : Lib.join ((wordsT l zs).map (·.data.toList)) [32] = l ++ tailL zs := by
  rw [wordsT, List.map_cons, Lib.join_cons, tailL, List.map_map]
  rfl
theorem wordsT_step {l : List UInt8} {zs : List Int} {k : Nat} (h : k < zs.length) : wordsT l (zs.take (k + 1)) = wordsT l (zs.take k) ++ [⟨(Lib.itoa (zs[k]?.getD 0)).toArray⟩] := by
  rw [wordsT, wordsT, List.take_succ_eq_append_getElem h, List.getElem?_eq_getElem h, List.map_append]
  rfl
set_option maxHeartbeats 3200000 in
theorem itwn_any (l : List UInt8) (a : Option Addr) (n cap : Nat) (zs : List Int) (w : World) (hC : Ints w a n zs) (hn : n ≤ 1000) (hl : l.length ≤ 1000) (hz : ∀ i : Nat, -999999999999 ≤ zs[i]?.getD 0 ∧ zs[i]?.getD 0 ≤ 999999999999) (hT : Lib.TabBelow Tryd.prog w.heap.size w "internal/strconv.uint64pow10" .u64 Lib.pow10Tab) :
    Calls Tryd.prog 54 #[.string ⟨l.toArray⟩, .slice a n cap] w fun e w' => e = .returned (.string ⟨(l ++ tailL zs).toArray⟩) ∧ Below w.heap.size w w' := by
  have HL : Hid (zs.length = n) := hC.1
  have HTB : Hid _ := hT
  have BZ : Hid (∀ i : Nat, -999999999999 ≤ zs[i]?.getD 0 ∧ zs[i]?.getD 0 ≤ 999999999999) := hz
  have HLL : Hid (l.length ≤ 1000) := hl
  clear hT hz hl
  obtain ⟨i0, hi, hz0, hz1, hz2⟩ := info_parts Tryd.infoStr
  obtain ⟨S, hS⟩ : ∃ S : ByteArray, S = ⟨l.toArray⟩ := ⟨_, rfl⟩
  have HS0 : Hid (S = ⟨l.toArray⟩) := hS
  rw [← hS]
  clear hS
  go_enter Tryd.func54, Tryd.ntmps54
  go_wp2_with fail
  go_loopw [5, 7, 12] (fun v _ i wr => ∃ (k : Nat) (xs : List ByteArray), k ≤ n ∧ i = .int .i64 k ∧ xs.length = k + 1 ∧ xs = wordsT l (zs.take k) ∧ JT w v xs wr) (fun _ _ i _ => n - (intOf i).toNat)
  case atStart => exact ⟨0, _, Nat.zero_le _, rfl, rfl, by rw [HS0.out]; rfl, JT.one w S⟩
  case round =>
    obtain ⟨k, xs, hk, rfl, hxl, hxs, j⟩ := hrel
    have HXL : Hid _ := hxl
    have HXS : Hid _ := hxs
    clear hxl hxs
    have hjb := j.b.size
    by_cases hlt : k < n
    · obtain ⟨b, off, rfl, hcell⟩ := (hC.below j.b).pos (by omega)
      have hck : wr.cell? ⟨b, off + k, none⟩ = some (.int .i64 (zs[k]?.getD 0)) := by rw [hcell k hlt]; simp
      have HS : Hid _ := wordsT_step (l := l) (zs := zs) (k := k) (by rw [HL.out]; exact hlt)
      have hz := BZ.out k
      generalize HG : zs[k]?.getD 0 = z at hck HS hz
      clear HG hcell
      obtain ⟨z1, z2⟩ := hz
      have tab : Lib.TabIs Tryd.prog wr "internal/strconv.uint64pow10" .u64 Lib.pow10Tab := HTB.out wr j.b
      go_wp2_with fail
      refine (Tryd.strconv_Itoa z (by omega) (by omega) _ tab).mono ?_
      rintro e w2 ⟨rfl, q, os, hw2⟩
      have b2 : Below wr.heap.size wr w2 := by rw [hw2]; exact Lib.below_grow _ _ (Nat.le_refl _) _ _
      clear hw2 tab
      have j2 := j.below b2
      have jo := j2.o
      rw [HXL.out] at jo
      have hjb2 := j2.b.size
      clear b2 j
      obtain ⟨I, hI⟩ : ∃ I : ByteArray, I = ⟨(Lib.itoa z).toArray⟩ := ⟨_, rfl⟩
      rw [← hI]
      have HI : Hid _ := hI
      clear hI
      go_wp2_with (at_builtin; go_must (refine wpList_append_lies _ rfl (.tmp 16) (.tmp 19) 69 rfl w.heap.size 9 i0 (.string ⟨#[]⟩) 1 16 Tryd.underlying69 hi hz0 hz1 hz2 rfl (by decide) _ _ _ rfl (jo.alloc _) ⟨w2.heap.size, 0, none⟩ 1 1 [.string I] rfl rfl (newsS _ _ _) (oneS _) (by omega) (by unfold maxLen; omega) (by omega) (by rw [World.size_alloc]; omega) _ rfl ?_); intro g cp w3 hown hgrow hat hlt1)
      have j3 := j2.app HXL.out hown hgrow
      clear hown hgrow jo j2 hat
      go_wp2
      go_roundw
      case rel => exact ⟨k + 1, _, by omega, by go_num, by rw [List.length_append, HXL.out]; rfl, by rw [HS.out, HXS.out, HI.out], j3⟩
      case measure => simp [intOf]; omega
    · obtain rfl : k = n := by omega
      obtain ⟨g, gc, rfl, hcap, hg, hcs⟩ := j.cells HXL.out (by omega)
      have HJ := Tryd.strings_Join g 0 gc xs ⟨#[32]⟩ wr hcs hg (by rw [HXL.out]; omega) (by rw [HXL.out]; exact hcap) (by
        rw [HXS.out, List.take_of_length_le (by rw [HL.out]; exact Nat.le_refl _)]
        have := wordsT_join l zs
        rw [show (⟨#[32]⟩ : ByteArray).data.toList = [32] from rfl, this, List.length_append]
        have := tail_len BZ.out zs.length (Nat.le_refl _)
        rw [List.take_length] at this
        have := HLL.out
        have := HL.out
        omega)
      rw [HXL.out] at HJ
      have jb := j.b
      clear hcs hcap hg j
      go_wp2_with fail
      refine HJ.mono ?_
      rintro e w2 ⟨rfl, b2⟩
      have B2 := jb.trans (b2.mono (by omega))
      go_wp2
      go_ret
      refine ⟨?_, B2⟩
      rw [← wordsT_join l zs, HXS.out, List.take_of_length_le (by rw [HL.out]; exact Nat.le_refl _)]
      rfl

end Go.Proofs.YtfkcfjkojfnfnaaDoor
namespace Go.Proofs.YtfkcfjkojfnfnaaDoor
open Go.RowKit
set_option linter.unusedVariables false
set_option maxRecDepth 100000

set_option maxHeartbeats 3200000 in
theorem itext_any (c : Int) (a : Option Addr) (n cap : Nat) (zs : List Int) (w : World) (hC : Ints w a n zs) (hn : n ≤ 1048576) (hT : Lib.TabBelow Tryd.prog w.heap.size w "internal/strconv.uint64pow10" .u64 Lib.pow10Tab) :
    Calls Tryd.prog 17 #[resP c a n cap] w fun e w' => e = .returned (.string ⟨(resText c n zs).toArray⟩) ∧ Below w.heap.size w w' := by
  have HL : Hid (zs.length = n) := hC.1
  have HTB : Hid _ := hT
  clear hT
  have B0 := (Below.refl w.heap.size w).alloc (Nat.le_refl _) (.cells #[.int .i64 c, .slice a n cap] 36)
  obtain ⟨i0, hi, hz0, hz1, hz2⟩ := info_parts Tryd.infoStr
  cases h1 : inB c 1 3
  · have HR : Hid _ := resText_no (c := c) (n := n) (zs := zs) (by simp [resOkB, h1])
    have c13 := inB_not.1 h1
    have hw : (⟨(wordL c).toArray⟩ : ByteArray) = ⟨#[]⟩ := by rw [wordL, if_neg (by omega), if_neg (by omega), if_neg (by omega)]
    have HW : Hid _ := hw
    clear hw h1
    go_enter Tryd.func17, Tryd.ntmps17
    go_wp2_with fail
    refine (word_any _ _).mono ?_
    rintro e w1 ⟨rfl, rfl⟩
    rw [HW.out]
    go_wp2
    go_ret
    exact ⟨by rw [HR.out]; rfl, B0⟩
  have c13 := inB_iff.1 h1
  by_cases h2 : c = 1 ∨ n = 0
  · by_cases h3 : n ≤ 6
    · cases h4 : allB 999999999999 zs
      · have HR : Hid _ := resText_no (c := c) (n := n) (zs := zs) (by simp [resOkB, h4])
        rcases h2 with rfl | rfl
        · go_enter Tryd.func17, Tryd.ntmps17
          go_wp2_with fail
          refine (word_any _ _).mono ?_
          rintro e w1 ⟨rfl, rfl⟩
          rw [show (⟨(wordL 1).toArray⟩ : ByteArray) = ⟨#[100, 111, 110, 101]⟩ from rfl]
          go_wp2_with fail
          refine (within_any _ _ _ zs _ _ (hC.below B0) hn (by omega) (by omega)).mono ?_
          rintro e w1 ⟨rfl, rfl⟩
          rw [h4]
          go_wp2
          go_ret
          exact ⟨by rw [HR.out]; rfl, B0⟩
        · exfalso
          have : zs = [] := List.eq_nil_of_length_eq_zero HL.out
          subst this
          cases h4
      · have H4 : Hid (allB 999999999999 zs = true) := h4
        have HR : Hid _ := resText_yes (c := c) (n := n) (zs := zs) (by simp [resOkB, h1, h2, h3, h4])
        have BZ : Hid (∀ i : Nat, -999999999999 ≤ zs[i]?.getD 0 ∧ zs[i]?.getD 0 ≤ 999999999999) := allB_bnd' (by omega) h4
        clear h1 h4
        by_cases e1 : c = 1
        · subst e1
          clear h2
          go_enter Tryd.func17, Tryd.ntmps17
          go_wp2_with fail
          refine (word_any _ _).mono ?_
          rintro e w1 ⟨rfl, rfl⟩
          rw [show (⟨(wordL 1).toArray⟩ : ByteArray) = ⟨#[100, 111, 110, 101]⟩ from rfl]
          go_wp2_with fail
          refine (within_any _ _ _ zs _ _ (hC.below B0) hn (by omega) (by omega)).mono ?_
          rintro e w1 ⟨rfl, rfl⟩
          rw [H4.out]
          obtain ⟨W, hW⟩ : ∃ W, W = w.alloc (.cells #[.int .i64 1, .slice a n cap] 36) := ⟨_, rfl⟩
          have bx : Cel W w.heap.size [.int .i64 1, .slice a n cap] 36 := by rw [hW]; exact Cel.new w _ _
          rw [← hW] at B0 ⊢
          clear hW
          have k1 := bx.cell 1
          simp only [List.getElem?_cons_zero, List.getElem?_cons_succ] at k1
          have hCW := hC.below B0
          clear hC
          go_wp2_with fail
          refine (itwn_any (wordL 1) a n cap zs W hCW (by omega) (by have := word_len 1; omega) BZ.out (fun X hX => HTB.out X (B0.trans (hX.mono B0.size)))).mono ?_
          rintro e w2 ⟨rfl, b2⟩
          have B2 := B0.trans (b2.mono B0.size)
          obtain ⟨Z, hZ⟩ : ∃ Z : ByteArray, Z = ⟨(wordL 1 ++ tailL zs).toArray⟩ := ⟨_, rfl⟩
          have HZ : Hid (Z = ⟨(wordL 1 ++ tailL zs).toArray⟩) := hZ
          rw [← hZ]
          clear hZ k1 bx hCW
          go_wp2
          go_ret
          exact ⟨by rw [HR.out, HZ.out]; rfl, B2⟩
        · have hn0 : n ≤ 0 := by omega
          have hn0' : ((n : Int) == 0) = true := by simp; omega
          clear h2
          by_cases e2 : c = 2
          · subst e2
            go_enter Tryd.func17, Tryd.ntmps17
            go_wp2_with fail
            refine (word_any _ _).mono ?_
            rintro e w1 ⟨rfl, rfl⟩
            rw [show (⟨(wordL 2).toArray⟩ : ByteArray) = ⟨#[115, 116, 111, 112, 112, 101, 100]⟩ from rfl]
            go_wp2_with fail
            refine (within_any _ _ _ zs _ _ (hC.below B0) hn (by omega) (by omega)).mono ?_
            rintro e w1 ⟨rfl, rfl⟩
            rw [H4.out]
            obtain ⟨W, hW⟩ : ∃ W, W = w.alloc (.cells #[.int .i64 2, .slice a n cap] 36) := ⟨_, rfl⟩
            have bx : Cel W w.heap.size [.int .i64 2, .slice a n cap] 36 := by rw [hW]; exact Cel.new w _ _
            rw [← hW] at B0 ⊢
            clear hW
            have k1 := bx.cell 1
            simp only [List.getElem?_cons_zero, List.getElem?_cons_succ] at k1
            have hCW := hC.below B0
            clear hC
            go_wp2_with fail
            refine (itwn_any (wordL 2) a n cap zs W hCW (by omega) (by have := word_len 2; omega) BZ.out (fun X hX => HTB.out X (B0.trans (hX.mono B0.size)))).mono ?_
            rintro e w2 ⟨rfl, b2⟩
            have B2 := B0.trans (b2.mono B0.size)
            obtain ⟨Z, hZ⟩ : ∃ Z : ByteArray, Z = ⟨(wordL 2 ++ tailL zs).toArray⟩ := ⟨_, rfl⟩
            have HZ : Hid (Z = ⟨(wordL 2 ++ tailL zs).toArray⟩) := hZ
            rw [← hZ]
            clear hZ k1 bx hCW
            go_wp2
            go_ret
            exact ⟨by rw [HR.out, HZ.out]; rfl, B2⟩
          · obtain rfl : c = 3 := by omega
            go_enter Tryd.func17, Tryd.ntmps17
            go_wp2_with fail
            refine (word_any _ _).mono ?_
            rintro e w1 ⟨rfl, rfl⟩
            rw [show (⟨(wordL 3).toArray⟩ : ByteArray) = ⟨#[111, 118, 101, 114]⟩ from rfl]
            go_wp2_with fail
            refine (within_any _ _ _ zs _ _ (hC.below B0) hn (by omega) (by omega)).mono ?_
            rintro e w1 ⟨rfl, rfl⟩
            rw [H4.out]
            obtain ⟨W, hW⟩ : ∃ W, W = w.alloc (.cells #[.int .i64 3, .slice a n cap] 36) := ⟨_, rfl⟩
            have bx : Cel W w.heap.size [.int .i64 3, .slice a n cap] 36 := by rw [hW]; exact Cel.new w _ _
            rw [← hW] at B0 ⊢
            clear hW
            have k1 := bx.cell 1
            simp only [List.getElem?_cons_zero, List.getElem?_cons_succ] at k1
            have hCW := hC.below B0
            clear hC
            go_wp2_with fail
            refine (itwn_any (wordL 3) a n cap zs W hCW (by omega) (by have := word_len 3; omega) BZ.out (fun X hX => HTB.out X (B0.trans (hX.mono B0.size)))).mono ?_
            rintro e w2 ⟨rfl, b2⟩
            have B2 := B0.trans (b2.mono B0.size)
            obtain ⟨Z, hZ⟩ : ∃ Z : ByteArray, Z = ⟨(wordL 3 ++ tailL zs).toArray⟩ := ⟨_, rfl⟩
            have HZ : Hid (Z = ⟨(wordL 3 ++ tailL zs).toArray⟩) := hZ
            rw [← hZ]
            clear hZ k1 bx hCW
            go_wp2
            go_ret
            exact ⟨by rw [HR.out, HZ.out]; rfl, B2⟩
    · have HR : Hid _ := resText_no (c := c) (n := n) (zs := zs) (by simp [resOkB, h3])
      obtain rfl : c = 1 := by omega
      go_enter Tryd.func17, Tryd.ntmps17
      go_wp2_with fail
      refine (word_any _ _).mono ?_
      rintro e w1 ⟨rfl, rfl⟩
      rw [show (⟨(wordL 1).toArray⟩ : ByteArray) = ⟨#[100, 111, 110, 101]⟩ from rfl]
      go_wp2
      go_ret
      exact ⟨by rw [HR.out]; rfl, B0⟩
  · have HR : Hid _ := resText_no (c := c) (n := n) (zs := zs) (by simp [resOkB, h2])
    have hn0 : ((n : Int) == 0) = false := by simp; omega
    clear h1
    by_cases e2 : c = 2
    · subst e2
      go_enter Tryd.func17, Tryd.ntmps17
      go_wp2_with fail
      refine (word_any _ _).mono ?_
      rintro e w1 ⟨rfl, rfl⟩
      rw [show (⟨(wordL 2).toArray⟩ : ByteArray) = ⟨#[115, 116, 111, 112, 112, 101, 100]⟩ from rfl]
      go_wp2
      go_ret
      exact ⟨by rw [HR.out]; rfl, B0⟩
    · obtain rfl : c = 3 := by omega
      go_enter Tryd.func17, Tryd.ntmps17
      go_wp2_with fail
      refine (word_any _ _).mono ?_
      rintro e w1 ⟨rfl, rfl⟩
      rw [show (⟨(wordL 3).toArray⟩ : ByteArray) = ⟨#[111, 118, 101, 114]⟩ from rfl]
      go_wp2
      go_ret
      exact ⟨by rw [HR.out]; rfl, B0⟩

end Go.Proofs.YtfkcfjkojfnfnaaDoor
namespace Go.Proofs.YtfkcfjkojfnfnaaDoor
open Go.RowKit
set_option linter.unusedVariables false
set_option maxRecDepth 100000

/-- A text is not empty. -/
def fullB (l : List UInt8) : Bool := !(⟨l.toArray⟩ : ByteArray).toList.isEmpty

set_option maxHeartbeats 800000 in
theorem iresok_any (c : Int) (a : Option Addr) (n cap : Nat) (zs : List Int) (w : World) (hC : Ints w a n zs) (hn : n ≤ 1048576) (hT : Lib.TabBelow Tryd.prog w.heap.size w "internal/strconv.uint64pow10" .u64 Lib.pow10Tab) :
    Calls Tryd.prog 23 #[resP c a n cap] w fun e w' => e = .returned (.bool (fullB (resText c n zs))) ∧ Below w.heap.size w w' := by
  obtain ⟨T, hTx⟩ : ∃ T : ByteArray, T = ⟨(resText c n zs).toArray⟩ := ⟨_, rfl⟩
  have HTX : Hid _ := hTx
  have HT : Hid _ := hT
  clear hTx hT
  have B0 := (Below.refl w.heap.size w).alloc (Nat.le_refl _) (.cells #[.int .i64 c, .slice a n cap] 36)
  go_enter Tryd.func23, Tryd.ntmps23
  go_wp2_with fail
  refine (itext_any _ _ _ _ zs _ (hC.alloc _) hn (fun w' h' => HT.out w' (B0.trans (h'.mono B0.size)))).mono ?_
  rintro e w1 ⟨rfl, b1⟩
  rw [← HTX.out]
  go_wp2
  go_ret
  exact ⟨by rw [fullB, ← HTX.out]; rfl, B0.trans (b1.mono B0.size)⟩

end Go.Proofs.YtfkcfjkojfnfnaaDoor
