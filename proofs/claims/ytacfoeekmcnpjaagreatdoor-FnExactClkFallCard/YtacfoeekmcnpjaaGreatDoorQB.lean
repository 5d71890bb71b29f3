/-
  Lemmas that the claim's last text rests on.
-/
import Derived.Deep.Slices
import Derived.Deep.AppendLies
import Derived.Lib.SliceRun
import Derived.Test.YtacfoeekmcnpjaaGreatDoorQA
namespace Go.Proofs.YtacfoeekmcnpjaaGreatDoor
open Go.RowKit Go.ChangeShapes Go.WideShapes Go.ChangeAt Go.Joins Go.Deep
open List renaming getElem?_eq_getElem → qA, getElem?_cons_zero → qB, getElem?_cons_succ → qC, length_map → qE
open Nat renaming le_refl → qD
set_option linter.unusedVariables false
set_option maxRecDepth 100000
set_option maxHeartbeats 25600000
variable {B cap cap' fuel lo lo' m n tc tn : Nat} {C D xs zs : List Int} {K k q x : Int} {S : Nat -> Prop} {W W' w w' : World} {a ad c ta : Option Addr} {h : Bool} {t : TypeId}
theorem mulL_len (n : Int) (zs : List Int) : (mulL n zs).length = zs.length := by simp [mulL]
theorem wrap_id (h1 : -1000000000000000000 <= x) (h2 : x <= 1000000000000000000) : IntKind.i64.wrap x = x := by
 simp only [IntKind.wrap, IntKind.signed, IntKind.bits]
 simp
 omega
structure TimesH (w : World) (a : Option Addr) (cap : Nat) (c : Option Addr) (cap' : Nat) (K : Int) (w' : World) : Prop where
 p : Cel w' w.heap.size [.slice a 3 cap, .slice c 2 cap', .int .i64 K] 151
 r : Cel w' (w.heap.size + 1) [.slice none 0 0, .slice none 0 0, .int .i64 0] 151
 b : Below w.heap.size w w'
theorem TimesH.below {w3 : World} (h : TimesH w a cap c cap' K W) (b : Below W.heap.size W w3) : TimesH w a cap c cap' K w3 :=
 ⟨h.p.below b, h.r.below b, h.b.trans (b.mono h.b.size)⟩
theorem TimesH.drew (h : TimesH w a cap c cap' K W) : TimesH w a cap c cap' K W.drew := ⟨h.p, h.r, h.b.drew⟩
theorem TimesH.alloc (h : TimesH w a cap c cap' K W) (o : Obj) : TimesH w a cap c cap' K (W.alloc o) := h.below (bal)
theorem TimesH.set (h : TimesH w a cap c cap' K W) {X : Nat} (hX : w.heap.size + 1 < X) (i : Nat) (v : Value) : TimesH w a cap c cap' K (W.setCell ⟨X, i, none⟩ v) :=
 ⟨h.p.setOther (by omega) i v, h.r.setOther (by omega) i v, h.b.setCell (by show w.heap.size <= X; omega) v⟩
theorem Cel.trio {x y z : Value} (h : Cel w B [x, y, z] t) : w.cell? ⟨B, 0, none⟩ = some x /\ w.cell? ⟨B, 1, none⟩ = some y /\ w.cell? ⟨B, 2, none⟩ = some z /\ w.frozen? ⟨B, 0, none⟩ = false /\ w.frozen? ⟨B, 1, none⟩ = false /\ w.frozen? ⟨B, 2, none⟩ = false := ⟨h.cell 0, h.cell 1, h.cell 2, h.free 0, h.free 1, h.free 2⟩
theorem TimesH.cells (h : TimesH w a cap c cap' K w') :
  w'.cell? ⟨w.heap.size, 0, none⟩ = some (.slice a 3 cap) /\ w'.cell? ⟨w.heap.size, 1, none⟩ = some (.slice c 2 cap') /\ w'.cell? ⟨w.heap.size, 2, none⟩ = some (.int .i64 K) := ⟨h.p.cell 0, h.p.cell 1, h.p.cell 2⟩
theorem TimesH.room (h : TimesH w a cap c cap' K w') :
  w'.cell? ⟨w.heap.size + 1, 0, none⟩ = some (.slice none 0 0) /\ w'.cell? ⟨w.heap.size + 1, 1, none⟩ = some (.slice none 0 0) /\ w'.cell? ⟨w.heap.size + 1, 2, none⟩ = some (.int .i64 0) /\ w'.frozen? ⟨w.heap.size + 1, 0, none⟩ = false /\ w'.frozen? ⟨w.heap.size + 1, 1, none⟩ = false /\ w'.frozen? ⟨w.heap.size + 1, 2, none⟩ = false := ⟨h.r.cell 0, h.r.cell 1, h.r.cell 2, h.r.free 0, h.r.free 1, h.r.free 2⟩
theorem times_any (C D : List Int) {n : Int} {w : World}
  (hC : Ints w a 3 C) (hD : Ints w c 2 D) (tC : bndT 1000000000000000000 n C) (tD : bndT 1000000000000000000 n D) (tK : -1000000000000000000 <= n * K /\ n * K <= 1000000000000000000) :
  Calls Tryz.prog 309 #[formV a 3 cap c 2 cap' K, .int .i64 n] w fun e w' => ∃ B1 B2, e = .returned (formV (some ⟨B1, 0, none⟩) 3 3 (some ⟨B2, 0, none⟩) 2 2 (n * K)) /\ Below w.heap.size w w' /\ w.heap.size <= B1 /\ B1 ≠ B2 /\ w.heap.size <= B2 /\ Blk w' B1 (mulL n C) /\ Blk w' B2 (mulL n D) := by
 obtain ⟨tK1, tK2⟩ := tK
 go_enter Tryz.func309, Tryz.ntmps309
 go_wp2_with fail
 have H0 : TimesH w a cap c cap' K (((w.alloc (Obj.cells #[Value.slice a 3 cap, Value.slice c 2 cap', Value.int IntKind.i64 K] 151)).alloc (Obj.cells #[Value.slice none 0 0, Value.slice none 0 0, Value.int IntKind.i64 0] 151)).drew) :=
  ⟨(Cel.new w _ _).alloc _, by have := Cel.new (w.alloc (Obj.cells #[Value.slice a 3 cap, Value.slice c 2 cap', Value.int IntKind.i64 K] 151)) [.slice none 0 0, .slice none 0 0, .int .i64 0] 151; rw [World.size_alloc] at this; exact this, ((bal).alloc (by simp) _).drew⟩
 go_region_held3 (fun w' => w'.cell? ⟨w.heap.size, 0, none⟩ = some (.slice a 3 cap) /\ w'.cell? ⟨w.heap.size, 1, none⟩ = some (.slice c 2 cap') /\ w'.cell? ⟨w.heap.size, 2, none⟩ = some (.int .i64 K)) (first | assumption | go_keep)
  (first
   | (go_at_call_of 281 (Value.slice a 3 cap); refine (timesEach_any C (hC.below (TimesH.b (a := a) (c := c) (cap := cap) (cap' := cap') (K := K) (by assumption))) (by omega) tC).mono ?_; rintro e w3 ⟨rfl, b3, k3⟩; have h3 := TimesH.below (w := w) (a := a) (c := c) (cap := cap) (cap' := cap') (K := K) (by assumption) b3; have g3 := h3.cells; obtain ⟨x0, x1, x2, x3, x4, x5⟩ := h3.room)
   | (go_at_call_of 281 (Value.slice c 2 cap'); refine (timesEach_any D (hD.below (TimesH.b (a := a) (c := c) (cap := cap) (cap' := cap') (K := K) (by assumption))) (by omega) tD).mono ?_; rintro e w4 ⟨rfl, b4, k4⟩; have h4 := TimesH.below (w := w) (a := a) (c := c) (cap := cap) (cap' := cap') (K := K) (by assumption) b4; have g4 := h4.cells; obtain ⟨y0, y1, y2, y3, y4, y5⟩ := h4.room))
 have hw := wrap_id tK1 tK2
 have e3 : ((w.alloc (Obj.cells #[Value.slice a 3 cap, Value.slice c 2 cap', Value.int IntKind.i64 K] 151)).alloc (Obj.cells #[Value.slice none 0 0, Value.slice none 0 0, Value.int IntKind.i64 0] 151)).drew.heap.size = w.heap.size + 1 + 1 := by show (World.alloc _ _).heap.size = _; rw [World.size_alloc, World.size_alloc]
 rw [e3] at k3
 have k3' := k3.below b4
 have l3 := k3.lt
 have l4 := k4.lt
 have q0 := h4.r.free 0
 clear e3 b3 b4 h3 g3 H0 k3
 go_wp2
 refine bodyPost_ret (v := formV (some ⟨w.heap.size + 1 + 1, 0, none⟩) 3 3 (some ⟨w3.heap.size, 0, none⟩) 2 2 (n * K)) (by simp [results, Tryz.results309, go_sem, y0, y1, y2, hw]) rfl ⟨_, _, rfl, ?_, by omega, by omega, by omega, ?_, ?_⟩
 ·exact ((h4.b.setCell (by simp only []; omega) _).setCell (by simp only []; omega) _).setCell (by simp only []; omega) _
 ·exact ((k3'.so).so).so
 ·exact ((k4.so).so).so
def keepL (b : Bool) (L : List Int) : List Int := if b then L else []
def keepK (b : Bool) (K : Int) : Int := if b then K else 0
theorem keepL_no (L : List Int) : keepL false L = [] := rfl
theorem keepK_no (K : Int) : keepK false K = 0 := rfl
theorem orN_yes (C D : List Int) {w : World} (hC : Ints w a n C) (hD : Ints w c m D) (hn : n <= 1048576) (hm : m <= 1048576) (h : formB n m C D K = true) :
  Calls Tryz.prog 310 #[formV a n cap c m cap' K] w fun e w' => e = .returned (formV a n cap c m cap' K) /\ Below w.heap.size w w' := by
 go_enter Tryz.func310, Tryz.ntmps310
 go_wp2_with fail
 refine (iok_any C D ((hC.alloc _).alloc _) ((hD.alloc _).alloc _) hn hm).mono ?_
 rintro e w1 ⟨rfl, b1⟩
 have p0 := ((Cel.new w _ _).alloc _).below b1
 have p1 := (Cel.new (w.alloc _) _ _).below b1
 rw [World.size_alloc] at p1
 have hb : Below w.heap.size w w1 := ((bal).alloc (by simp) _).trans (b1.mono (by simp; omega))
 have c0 := p0.cell 0
 have c1 := p0.cell 1
 have c2 := p0.cell 2
 have r0 := p1.cell 0
 have r1 := p1.cell 1
 have r2 := p1.cell 2
 have r3 := p1.free 0
 have r4 := p1.free 1
 have r5 := p1.free 2
 simp only [qB, qC] at c0 c1 c2 r0 r1 r2
 go_wp2
 refine bodyPost_ret (v := formV a n cap c m cap' K) (by simp [results, Tryz.results310, go_sem, r0, r1, r2]) rfl ⟨rfl, ?_⟩
 exact ((hb.setCell (by simp only []; omega) _).setCell (by simp only []; omega) _).setCell (by simp only []; omega) _
theorem orN_no (C D : List Int) {w : World} (hC : Ints w a n C) (hD : Ints w c m D) (hn : n <= 1048576) (hm : m <= 1048576) (h : formB n m C D K = false) :
  Calls Tryz.prog 310 #[formV a n cap c m cap' K] w fun e w' => e = .returned (formV none 0 0 none 0 0 0) /\ Below w.heap.size w w' := by
 go_enter Tryz.func310, Tryz.ntmps310
 go_wp2_with fail
 refine (iok_any C D ((hC.alloc _).alloc _) ((hD.alloc _).alloc _) hn hm).mono ?_
 rintro e w1 ⟨rfl, b1⟩
 have p1 := (Cel.new (w.alloc _) _ _).below b1
 rw [World.size_alloc] at p1
 have hb : Below w.heap.size w w1 := ((bal).alloc (by simp) _).trans (b1.mono (by simp; omega))
 have r0 := p1.cell 0
 have r1 := p1.cell 1
 have r2 := p1.cell 2
 have r3 := p1.free 0
 have r4 := p1.free 1
 have r5 := p1.free 2
 simp only [qB, qC] at r0 r1 r2
 go_wp2
 refine bodyPost_ret (v := formV none 0 0 none 0 0 0) (by simp [results, Tryz.results310, go_sem, r0, r1, r2]) rfl ⟨rfl, ?_⟩
 exact ((hb.setCell (by simp only []; omega) _).setCell (by simp only []; omega) _).setCell (by simp only []; omega) _
def timOk (n m : Nat) (C D : List Int) (K k : Int) : Bool := formB n m C D K && inB k (-10000000) 10000000 && formB 3 2 (mulL k C) (mulL k D) (k * K)
theorem tim_bnd (h : bnd 10000000 C) (h1 : -10000000 <= k) (h2 : k <= 10000000) : bndT 1000000000000000000 k C := by
 intro i
 have := bndT_of h h1 h2 (by omega) (by omega) i
 omega
theorem tim_num (a1 : -10000000 <= K) (a2 : K <= 10000000) (h1 : -10000000 <= k) (h2 : k <= 10000000) : -1000000000000000000 <= k * K /\ k * K <= 1000000000000000000 := by
 have hx' : k.natAbs <= 10000000 := by omega
 have hy' : K.natAbs <= 10000000 := by omega
 have hm : (k * K).natAbs <= 10000000 * 10000000 := by rw [Int.natAbs_mul]; exact Nat.mul_le_mul hx' hy'
 omega
theorem itim_any (a : Option Addr) (n cap : Nat) (c : Option Addr) (m cap' : Nat) (K : Int) {C D : List Int} (k : Int) (w : World) (hC : Ints w a n C) (hD : Ints w c m D) (hn : n <= 1048576) (hm : m <= 1048576) :
  Calls Tryz.prog 306 #[formV a n cap c m cap' K, .int .i64 k] w fun e w' => Res w w' e (keepL (timOk n m C D K k) (mulL k C)) (keepL (timOk n m C D K k) (mulL k D)) (keepK (timOk n m C D K k) (k * K)) := by
 have bo : ∀ o o' : Obj, Below w.heap.size w ((w.alloc o).alloc o') := fun o o' => (bal).alloc (by simp) _
 cases h1 : formB n m C D K
 ·have ht : timOk n m C D K k = false := by simp [timOk, h1]
  rw [ht, keepL_no, keepL_no, keepK_no]
  go_enter Tryz.func306, Tryz.ntmps306
  go_wp2_with fail
  refine (iok_any C D ((hC.alloc _).alloc _) ((hD.alloc _).alloc _) hn hm).mono ?_
  rintro e w1 ⟨rfl, b1⟩
  have p1 := (Cel.new (w.alloc _) _ _).below b1
  rw [World.size_alloc] at p1
  have hb : Below w.heap.size w w1 := (bo _ _).trans (b1.mono (by simp; omega))
  have r0 := p1.cell 0
  have r1 := p1.cell 1
  have r2 := p1.cell 2
  have r3 := p1.free 0
  have r4 := p1.free 1
  have r5 := p1.free 2
  simp only [qB, qC] at r0 r1 r2
  go_wp2
  refine bodyPost_ret (v := formV none 0 0 none 0 0 0) (by simp [results, Tryz.results306, go_sem, r0, r1, r2]) rfl (Res.none rfl ?_)
  exact ((hb.setCell (by simp only []; omega) _).setCell (by simp only []; omega) _).setCell (by simp only []; omega) _
 ·cases h2 : inB k (-10000000) 10000000
  ·have ht : timOk n m C D K k = false := by simp [timOk, h2]
   rw [ht, keepL_no, keepL_no, keepK_no]
   have ha : allB 10000000 [k] = false := by rw [allB_one]; exact h2
   go_enter Tryz.func306, Tryz.ntmps306
   go_wp2_with fail
   refine (iok_any C D ((hC.alloc _).alloc _) ((hD.alloc _).alloc _) hn hm).mono ?_
   rintro e w1 ⟨rfl, b1⟩
   have p1 := (Cel.new (w.alloc _) _ _).below b1
   rw [World.size_alloc] at p1
   have hb : Below w.heap.size w w1 := (bo _ _).trans (b1.mono (by simp; omega))
   have l1 := p1.lt
   go_wp2_with fail
   refine (within_any (some ⟨w1.heap.size, 0, none⟩) 1 1 [k] ?_ (by omega) (by omega) (by omega)).mono ?_
   ·refine ⟨rfl, fun i hi => ⟨w1.heap.size, 0, rfl, ?_⟩⟩
    obtain rfl : i = 0 := by omega
    simp [go_sem]
   rintro e w2 ⟨rfl, rfl⟩
   have r0 := p1.cell 0
   have r1 := p1.cell 1
   have r2 := p1.cell 2
   have r3 := p1.free 0
   have r4 := p1.free 1
   have r5 := p1.free 2
   simp only [qB, qC] at r0 r1 r2
   go_wp2
   refine bodyPost_ret (v := formV none 0 0 none 0 0 0) (by simp [results, Tryz.results306, go_sem, r0, r1, r2, l1]) rfl (Res.none rfl ?_)
   exact (((hb.setCell (by simp only []; omega) _).setCell (by simp only []; omega) _).setCell (by simp only []; omega) _).alloc (by have := hb.size; rw [size_setCell, size_setCell, size_setCell]; omega) _
  ·obtain ⟨rfl, rfl, bC, bD, bK1, bK2⟩ := formB_elim h1
   obtain ⟨hk1, hk2⟩ := inB_iff.1 h2
   have ha : allB 10000000 [k] = true := by rw [allB_one]; exact h2
   have tC := tim_bnd bC hk1 hk2
   have tD := tim_bnd bD hk1 hk2
   have tK := tim_num bK1 bK2 hk1 hk2
   have LC : (mulL k C).length = 3 := by rw [mulL_len]; exact hC.1
   have LD : (mulL k D).length = 2 := by rw [mulL_len]; exact hD.1
   have ht : timOk 3 2 C D K k = formB 3 2 (mulL k C) (mulL k D) (k * K) := by simp [timOk, h1, h2]
   cases h3 : formB 3 2 (mulL k C) (mulL k D) (k * K)
   all_goals
    rw [ht, h3]
    clear ht
    go_enter Tryz.func306, Tryz.ntmps306
    go_wp2_with fail
    refine (iok_any C D ((hC.alloc _).alloc _) ((hD.alloc _).alloc _) hn hm).mono ?_
    rintro e w1 ⟨rfl, b1⟩
    have p0 := ((Cel.new w _ _).alloc _).below b1
    have p1 := (Cel.new (w.alloc _) _ _).below b1
    rw [World.size_alloc] at p1
    have hb : Below w.heap.size w w1 := (bo _ _).trans (b1.mono (by simp; omega))
    have l1 := p1.lt
    clear b1
    go_wp2_with fail
    refine (within_any (some ⟨w1.heap.size, 0, none⟩) 1 1 [k] ?_ (by omega) (by omega) (by omega)).mono ?_
    ·refine ⟨rfl, fun i hi => ⟨w1.heap.size, 0, rfl, ?_⟩⟩
     obtain rfl : i = 0 := by omega
     simp [go_sem]
    rintro e w2 ⟨rfl, rfl⟩
    have c0 := p0.cell 0
    have c1 := p0.cell 1
    have c2 := p0.cell 2
    simp only [qB, qC] at c0 c1 c2
    have l0 := p0.lt
    go_wp2_with fail
    refine (times_any C D ((hC.below hb).alloc _) ((hD.below hb).alloc _) tC tD tK).mono ?_
    rintro e w3 ⟨B1, B2, rfl, b3, g1, g2, g3, k1, k2⟩
    rw [World.size_alloc] at g1 g3
    have p3 := (p1.alloc _).below b3
    have hb3 : Below w.heap.size w w3 := (hb.alloc hb.size _).trans (b3.mono (by have := hb.size; simp; omega))
    clear b3 c0 c1 c2 p0 p1
    go_wp2_with fail
    first
     | (refine (orN_no (mulL k C) (mulL k D) (k1.ints' LC) (k2.ints' LD) hn hm h3).mono ?_)
     | (refine (orN_yes (mulL k C) (mulL k D) (k1.ints' LC) (k2.ints' LD) hn hm h3).mono ?_)
    rintro e w4 ⟨rfl, b4⟩
    have p4 := p3.below b4
    have k1' := k1.below b4
    have k2' := k2.below b4
    have hb4 := btr hb3 b4
    have hw1 := hb.size
    have r0 := p4.cell 0
    have r1 := p4.cell 1
    have r2 := p4.cell 2
    have r3 := p4.free 0
    have r4 := p4.free 1
    have r5 := p4.free 2
    simp only [qB, qC] at r0 r1 r2
    clear b4 p3 p4 k1 k2 hb3 tC tD tK bC bD
    go_wp2
   ·refine bodyPost_ret (v := formV none 0 0 none 0 0 0) (by simp [results, Tryz.results306, go_sem, r0, r1, r2]) rfl (Res.none rfl ?_)
    exact ((hb4.setCell (by simp only []; omega) _).setCell (by simp only []; omega) _).setCell (by simp only []; omega) _
   ·refine bodyPost_ret (v := formV (some ⟨B1, 0, none⟩) 3 3 (some ⟨B2, 0, none⟩) 2 2 (k * K)) (by simp [results, Tryz.results306, go_sem, r0, r1, r2]) rfl (Res.of (B1 := B1) (B2 := B2) rfl LC LD ?_ (by omega) g2 (by omega) ?_ ?_)
    ·exact ((hb4.setCell (by simp only []; omega) _).setCell (by simp only []; omega) _).setCell (by simp only []; omega) _
    ·exact ((k1'.so).so).so
    ·exact ((k2'.so).so).so
theorem lin_zero3 (h : C.length = 3) : lin [0, 0, 0] C k = mulL k C := by
 match C, h with
 | [x, y, z], _ => simp [lin, mulL]
theorem lin_zero2 (h : D.length = 2) : lin [0, 0] D k = mulL k D := by
 match D, h with
 | [x, y], _ => simp [lin, mulL]
theorem bnd_lit3 : bnd 1000000000000000000 [0, 0, 0] := fun i => by have := bnd_zeros 3 i; simp only [List.replicate] at this; omega
theorem bnd_lit2 : bnd 1000000000000000000 [0, 0] := fun i => by have := bnd_zeros 2 i; simp only [List.replicate] at this; omega
structure FV where
 a : Option Addr
 n : Nat
 cap : Nat
 c : Option Addr
 m : Nat
 cap' : Nat
 K : Int
 C : List Int
 D : List Int
def FV.cs (f : FV) : List Value := [.slice f.a f.n f.cap, .slice f.c f.m f.cap', .int .i64 f.K]
def FV.ok (f : FV) : Bool := formB f.n f.m f.C f.D f.K
def FV.frm (f : FV) : Frm := (f.C, f.D, f.K)
def noFV : FV := ⟨none, 0, 0, none, 0, 0, 0, [], []⟩
structure FV.At (f : FV) (w : World) : Prop where
 C : Ints w f.a f.n f.C
 D : Ints w f.c f.m f.D
 hn : f.n <= 1048576
 hm : f.m <= 1048576
theorem FV.At.below {f : FV} (h : f.At w) (b : Below w.heap.size w w') : f.At w' := ⟨h.C.below b, h.D.below b, h.hn, h.hm⟩
def FormsG (w : World) (ad : Option Addr) (fs : List FV) : Prop :=
 ∀ i, i < fs.length -> ∃ b off, ad = some ⟨b, off, none⟩ /\ w.cell? ⟨b, off + i * 3, none⟩ = some (.slice (fs[i]?.getD noFV).a (fs[i]?.getD noFV).n (fs[i]?.getD noFV).cap) /\ w.cell? ⟨b, off + i * 3 + 1, none⟩ = some (.slice (fs[i]?.getD noFV).c (fs[i]?.getD noFV).m (fs[i]?.getD noFV).cap') /\ w.cell? ⟨b, off + i * 3 + 2, none⟩ = some (.int .i64 (fs[i]?.getD noFV).K) /\ (fs[i]?.getD noFV).At w
theorem FormsG.below {fs : List FV} (h : FormsG w ad fs) (hb : Below w.heap.size w w') : FormsG w' ad fs := by
 intro i hi
 obtain ⟨b, off, e, e0, e1, e2, e3⟩ := h i hi
 exact ⟨b, off, e, (hb.cell (p := ⟨b, off + i * 3, none⟩) (block_lt e0)).trans e0, (hb.cell (p := ⟨b, off + i * 3 + 1, none⟩) (block_lt e0)).trans e1, (hb.cell (p := ⟨b, off + i * 3 + 2, none⟩) (block_lt e0)).trans e2, e3.below hb⟩
theorem FormsG.at {fs : List FV} (h : FormsG w ad fs) (hok : fs.all FV.ok = true) : FormsAt w ad (fs.map FV.frm) /\ ∀ i, i < (fs.map FV.frm).length -> fits 10000000 ((fs.map FV.frm)[i]?.getD ([], [], 0)) := by
 have key : ∀ i, i < fs.length -> (fs.map FV.frm)[i]?.getD ([], [], 0) = (fs[i]?.getD noFV).frm /\ (fs[i]?.getD noFV).ok = true := by
  intro i hi
  rw [List.getElem?_map, qA hi]
  refine ⟨rfl, ?_⟩
  rw [List.all_eq_true] at hok
  exact hok _ (List.getElem_mem hi)
 refine ⟨fun i hi => ?_, fun i hi => ?_⟩
 ·rw [qE] at hi
  obtain ⟨b, off, e, e0, e1, e2, e3⟩ := h i hi
  obtain ⟨k1, k2⟩ := key i hi
  obtain ⟨n3, m2, _⟩ := formB_elim k2
  have hC := e3.C
  have hD := e3.D
  rw [n3] at e0 hC
  rw [m2] at e1 hD
  rw [k1]
  exact ⟨b, off, e, _, _, _, _, e0, e1, e2, hC, hD⟩
 ·rw [qE] at hi
  obtain ⟨b, off, e, e0, e1, e2, e3⟩ := h i hi
  obtain ⟨k1, k2⟩ := key i hi
  obtain ⟨n3, m2, bC, bD, bK1, bK2⟩ := formB_elim k2
  rw [k1]
  exact ⟨by have := e3.C.1; simp only [FV.frm]; omega, by have := e3.D.1; simp only [FV.frm]; omega, bC, bD, bK1, bK2⟩
theorem all_take_succ {fs : List FV} {k : Nat} (h : k < fs.length) (h1 : (fs.take k).all FV.ok = true) (h2 : (fs[k]?.getD noFV).ok = true) : (fs.take (k + 1)).all FV.ok = true := by
 rw [List.take_succ_eq_append_getElem h, List.all_append, h1]
 rw [qA h] at h2
 simpa using h2
theorem all_no {fs : List FV} {k : Nat} (h : k < fs.length) (h2 : (fs[k]?.getD noFV).ok = false) : fs.all FV.ok = false := by
 rw [List.all_eq_false]
 rw [qA h] at h2
 exact ⟨fs[k], List.getElem_mem h, by simpa using h2⟩
theorem allForms_any (N : Nat) {cap : Nat} (fs : List FV) {w : World} (hN : fs.length = N) (hF : FormsG w ad fs) (hN1 : N <= 1048576) :
  Calls Tryz.prog 307 #[.slice ad N cap] w fun e w' => e = .returned (.bool (fs.all FV.ok)) /\ Below w.heap.size w w' := by
 have HN : Hid (fs.length = N) := hN
 clear hN
 go_enter Tryz.func307, Tryz.ntmps307
 go_wp2_with fail
 go_loopw [4, 7] (fun _ i wr => ∃ k : Nat, k <= N /\ i = .int .i64 k /\ Below w.heap.size w wr /\ (fs.take k).all FV.ok = true) (fun _ i _ => N - (intOf i).toNat)
 case atStart => exact ⟨0, Nat.zero_le _, rfl, Below.refl _ _, by simp⟩
 case round =>
  obtain ⟨k, hk, rfl, hb, hall⟩ := hrel
  have HA : Hid ((fs.take k).all FV.ok = true) := hall
  clear hall
  by_cases hlt : k < N
  ·obtain ⟨b, off, rfl, e0, e1, e2, e3⟩ := (hF.below hb) k (by rw [HN.out]; exact hlt)
   generalize HG : fs[k]?.getD noFV = g at *
   have HG' : Hid (fs[k]?.getD noFV = g) := HG
   clear HG hF
   obtain ⟨ga, gn, gcap, gc, gm, gcap', gK, gC, gD⟩ := g
   obtain ⟨iC, iD, hn, hm⟩ := e3
   simp only at e0 e1 e2 iC iD hn hm
   cases hf : formB gn gm gC gD gK
   ·go_wp2_with fail
    refine (iok_any gC gD (iC.alloc _) (iD.alloc _) hn hm).mono ?_
    rintro e w1 ⟨rfl, b1⟩
    have B1 := (hb.alloc hb.size _).trans (b1.mono (by have := hb.size; simp; omega))
    go_wp2
    go_ret
    exact ⟨ret_bool (all_no (k := k) (by rw [HN.out]; exact hlt) (by rw [HG'.out]; exact hf)).symm, B1⟩
   ·go_wp2_with fail
    refine (iok_any gC gD (iC.alloc _) (iD.alloc _) hn hm).mono ?_
    rintro e w1 ⟨rfl, b1⟩
    have B1 := (hb.alloc hb.size _).trans (b1.mono (by have := hb.size; simp; omega))
    clear b1 hb iC iD e0 e1 e2
    go_wp2
    go_roundw
    case rel => exact ⟨k + 1, by omega, by go_num, B1, all_take_succ (by rw [HN.out]; exact hlt) HA.out (by rw [HG'.out]; exact hf)⟩
    case measure => simp [intOf]; omega
  ·go_wp2
   go_ret
   exact ⟨ret_bool (by have := HA.out; rw [List.take_of_length_le (by rw [HN.out]; omega)] at this; exact this.symm), hb⟩
def addOk (n m : Nat) (C D : List Int) (K : Int) (n2 m2 : Nat) (C2 D2 : List Int) (K2 : Int) : Bool := formB n m C D K && formB n2 m2 C2 D2 K2 && formB 3 2 (lin C C2 1) (lin D D2 1) (K + 1 * K2)
structure H2 (w : World) (a : Option Addr) (n cap : Nat) (c : Option Addr) (m cap' : Nat) (K : Int) (a2 : Option Addr) (n2 cap2 : Nat) (c2 : Option Addr) (m2 cap2' : Nat) (K2 : Int) (w' : World) : Prop where
 p : Cel w' w.heap.size [.slice a n cap, .slice c m cap', .int .i64 K] 151
 q : Cel w' (w.heap.size + 1) [.slice a2 n2 cap2, .slice c2 m2 cap2', .int .i64 K2] 151
 r : Cel w' (w.heap.size + 1 + 1) [.slice none 0 0, .slice none 0 0, .int .i64 0] 151
 b : Below w.heap.size w w'
section
variable {w W w3 : World} {a c a2 c2 : Option Addr} {n cap m cap' n2 cap2 m2 cap2' : Nat} {K K2 : Int}
theorem H2.below (h : H2 w a n cap c m cap' K a2 n2 cap2 c2 m2 cap2' K2 W) (b : Below W.heap.size W w3) : H2 w a n cap c m cap' K a2 n2 cap2 c2 m2 cap2' K2 w3 :=
 ⟨h.p.below b, h.q.below b, h.r.below b, h.b.trans (b.mono h.b.size)⟩
theorem H2.alloc (h : H2 w a n cap c m cap' K a2 n2 cap2 c2 m2 cap2' K2 W) (o : Obj) : H2 w a n cap c m cap' K a2 n2 cap2 c2 m2 cap2' K2 (W.alloc o) := h.below (bal)
theorem H2.new : H2 w a n cap c m cap' K a2 n2 cap2 c2 m2 cap2' K2 (((w.alloc (Obj.cells #[Value.slice a n cap, Value.slice c m cap', Value.int IntKind.i64 K] 151)).alloc (Obj.cells #[Value.slice a2 n2 cap2, Value.slice c2 m2 cap2', Value.int IntKind.i64 K2] 151)).alloc (Obj.cells #[Value.slice none 0 0, Value.slice none 0 0, Value.int IntKind.i64 0] 151)) := by
 have q := (Cel.new (w.alloc (Obj.cells #[Value.slice a n cap, Value.slice c m cap', Value.int IntKind.i64 K] 151)) [.slice a2 n2 cap2, .slice c2 m2 cap2', .int .i64 K2] 151).alloc (Obj.cells #[Value.slice none 0 0, Value.slice none 0 0, Value.int IntKind.i64 0] 151)
 have r := Cel.new ((w.alloc (Obj.cells #[Value.slice a n cap, Value.slice c m cap', Value.int IntKind.i64 K] 151)).alloc (Obj.cells #[Value.slice a2 n2 cap2, Value.slice c2 m2 cap2', Value.int IntKind.i64 K2] 151)) [.slice none 0 0, .slice none 0 0, .int .i64 0] 151
 rw [World.size_alloc] at q
 rw [World.size_alloc, World.size_alloc] at r
 exact ⟨((Cel.new w _ _).alloc _).alloc _, q, r, ((bal).alloc (by simp) _).alloc (by simp; omega) _⟩
theorem H2.cells (h : H2 w a n cap c m cap' K a2 n2 cap2 c2 m2 cap2' K2 W) :
  W.cell? ⟨w.heap.size, 0, none⟩ = some (.slice a n cap) /\ W.cell? ⟨w.heap.size, 1, none⟩ = some (.slice c m cap') /\ W.cell? ⟨w.heap.size, 2, none⟩ = some (.int .i64 K) /\
  W.cell? ⟨w.heap.size + 1, 0, none⟩ = some (.slice a2 n2 cap2) /\ W.cell? ⟨w.heap.size + 1, 1, none⟩ = some (.slice c2 m2 cap2') /\ W.cell? ⟨w.heap.size + 1, 2, none⟩ = some (.int .i64 K2) := ⟨h.p.cell 0, h.p.cell 1, h.p.cell 2, h.q.cell 0, h.q.cell 1, h.q.cell 2⟩
theorem H2.room (h : H2 w a n cap c m cap' K a2 n2 cap2 c2 m2 cap2' K2 W) :
  W.cell? ⟨w.heap.size + 1 + 1, 0, none⟩ = some (.slice none 0 0) /\ W.cell? ⟨w.heap.size + 1 + 1, 1, none⟩ = some (.slice none 0 0) /\ W.cell? ⟨w.heap.size + 1 + 1, 2, none⟩ = some (.int .i64 0) /\ W.frozen? ⟨w.heap.size + 1 + 1, 0, none⟩ = false /\ W.frozen? ⟨w.heap.size + 1 + 1, 1, none⟩ = false /\ W.frozen? ⟨w.heap.size + 1 + 1, 2, none⟩ = false := ⟨h.r.cell 0, h.r.cell 1, h.r.cell 2, h.r.free 0, h.r.free 1, h.r.free 2⟩
end
theorem sum_two {C2 D2 : List Int} {K2 : Int} (hC : C.length = 3) (hD : D.length = 2) (hC2 : C2.length = 3) (hD2 : D2.length = 2) :
  sumC [(C, D, K), (C2, D2, K2)] 2 = lin C C2 1 /\ sumD [(C, D, K), (C2, D2, K2)] 2 = lin D D2 1 /\ sumK [(C, D, K), (C2, D2, K2)] 2 = K + 1 * K2 := by
 match C, hC, C2, hC2, D, hD, D2, hD2 with
 | [x, y, z], _, [x', y', z'], _, [u, v], _, [u', v'], _ => simp [sumC, sumD, sumK, lin]
theorem iadd_any (a : Option Addr) (n cap : Nat) (c : Option Addr) (m cap' : Nat) (K : Int) (C D : List Int) (a2 : Option Addr) (n2 cap2 : Nat) (c2 : Option Addr) (m2 cap2' : Nat) (K2 : Int) (C2 D2 : List Int) (w : World) (hC : Ints w a n C) (hD : Ints w c m D) (hC2 : Ints w a2 n2 C2) (hD2 : Ints w c2 m2 D2) (hn : n <= 1048576) (hm : m <= 1048576) (hn2 : n2 <= 1048576) (hm2 : m2 <= 1048576) :
  Calls Tryz.prog 305 #[formV a n cap c m cap' K, formV a2 n2 cap2 c2 m2 cap2' K2] w fun e w' => Res w w' e (keepL (addOk n m C D K n2 m2 C2 D2 K2) (lin C C2 1)) (keepL (addOk n m C D K n2 m2 C2 D2 K2) (lin D D2 1)) (keepK (addOk n m C D K n2 m2 C2 D2 K2) (K + 1 * K2)) := by
 have n0 := H2.new (w := w) (a := a) (n := n) (cap := cap) (c := c) (m := m) (cap' := cap') (K := K) (a2 := a2) (n2 := n2) (cap2 := cap2) (c2 := c2) (m2 := m2) (cap2' := cap2') (K2 := K2)
 obtain ⟨fs, hfs⟩ : ∃ fs : List FV, fs = [⟨a, n, cap, c, m, cap', K, C, D⟩, ⟨a2, n2, cap2, c2, m2, cap2', K2, C2, D2⟩] := ⟨_, rfl⟩
 have hall : fs.all FV.ok = (formB n m C D K && formB n2 m2 C2 D2 K2) := by rw [hfs]; simp [FV.ok]
 have hlen : fs.length = 2 := by rw [hfs]; rfl
 have hG : ∀ W : World, Below w.heap.size w W -> FormsG (W.alloc (Obj.cells #[Value.slice a n cap, Value.slice c m cap', Value.int IntKind.i64 K, Value.slice a2 n2 cap2, Value.slice c2 m2 cap2', Value.int IntKind.i64 K2] 151)) (some ⟨W.heap.size, 0, none⟩) fs := by
  intro W hb i hi
  rw [hfs] at hi ⊢
  have hq := Cel.new W [Value.slice a n cap, Value.slice c m cap', Value.int IntKind.i64 K, Value.slice a2 n2 cap2, Value.slice c2 m2 cap2', Value.int IntKind.i64 K2] 151
  match i, hi with
  | 0, _ => exact ⟨_, 0, rfl, hq.cell 0, hq.cell 1, hq.cell 2, ⟨(hC.below hb).alloc _, (hD.below hb).alloc _, hn, hm⟩⟩
  | 1, _ => exact ⟨_, 0, rfl, hq.cell 3, hq.cell 4, hq.cell 5, ⟨(hC2.below hb).alloc _, (hD2.below hb).alloc _, hn2, hm2⟩⟩
 have HG : Hid _ := hG
 have HF : Hid _ := hfs
 clear hfs hG
 cases h1 : (formB n m C D K && formB n2 m2 C2 D2 K2)
 ·have ht : addOk n m C D K n2 m2 C2 D2 K2 = false := by simp only [addOk, h1, Bool.false_and]
  rw [ht, keepL_no, keepL_no, keepK_no]
  rw [h1] at hall
  go_enter Tryz.func305, Tryz.ntmps305
  have gg := HG.out _ n0.b
  simp only [World.size_alloc] at gg
  go_wp2_with fail
  refine (allForms_any 2 fs hlen gg (by omega)).mono ?_
  rintro e w1 ⟨rfl, b1⟩
  have H := (n0.alloc _).below b1
  obtain ⟨r0, r1, r2, r3, r4, r5⟩ := H.room
  rw [hall]
  go_wp2
  refine bodyPost_ret (v := formV none 0 0 none 0 0 0) (by simp [results, Tryz.results305, go_sem, r0, r1, r2]) rfl (Res.none rfl ?_)
  exact ((H.b.setCell (by simp only []; omega) _).setCell (by simp only []; omega) _).setCell (by simp only []; omega) _
 ·have h1' := h1
  rw [Bool.and_eq_true] at h1'
  obtain ⟨rfl, rfl, bC, bD, bK1, bK2⟩ := formB_elim h1'.1
  obtain ⟨rfl, rfl, bC2, bD2, bK3, bK4⟩ := formB_elim h1'.2
  have LC := lin_len (n := 1) hC.1 hC2.1
  have LD := lin_len (n := 1) hD.1 hD2.1
  have ht : addOk 3 2 C D K 3 2 C2 D2 K2 = formB 3 2 (lin C C2 1) (lin D D2 1) (K + 1 * K2) := by simp only [addOk, h1, Bool.true_and]
  rw [ht]
  clear ht
  rw [h1] at hall
  obtain ⟨sC, sD, sK⟩ := sum_two (K := K) (K2 := K2) hC.1 hD.1 hC2.1 hD2.1
  have hmap : fs.map FV.frm = [(C, D, K), (C2, D2, K2)] := by rw [HF.out]; rfl
  have HM : Hid _ := hmap
  have SC : Hid _ := sC
  have SD : Hid _ := sD
  have SK : Hid _ := sK
  clear hmap sC sD sK h1 h1' bC bD bC2 bD2
  obtain ⟨S, hS⟩ : ∃ S, S = K + 1 * K2 := ⟨_, rfl⟩
  have HS : Hid (S = K + 1 * K2) := hS
  rw [<- hS]
  clear hS
  cases h3 : formB 3 2 (lin C C2 1) (lin D D2 1) S
  all_goals
   go_enter Tryz.func305, Tryz.ntmps305
   have gg := HG.out _ n0.b
   simp only [World.size_alloc] at gg
   go_wp2_with fail
   refine (allForms_any 2 fs hlen gg (by omega)).mono ?_
   rintro e w1 ⟨rfl, b1⟩
   have H1 := (n0.alloc _).below b1
   obtain ⟨c0, c1, c2x, c3, c4, c5⟩ := H1.cells
   have A1 := H1.r.lt
   rw [hall]
   have fa := (HG.out _ H1.b).at hall
   rw [HM.out] at fa
   clear gg b1
   go_wp2_with fail
   refine (sum_any _ 2 _ [(C, D, K), (C2, D2, K2)] 10000000 rfl fa.1 fa.2 (by omega) (by omega) (by omega)).mono ?_
   rintro e w2 ⟨B1, B2, rfl, b2, g1, g2, g3, k1, k2⟩
   rw [SC.out] at k1
   rw [SD.out] at k2
   rw [SK.out, <- HS.out]
   rw [World.size_alloc] at g1 g3
   have H2' := (H1.alloc _).below b2
   clear c0 c1 c2x c3 c4 c5 fa b2
   go_wp2_with fail
   first
    | (refine (orN_no (lin C C2 1) (lin D D2 1) (k1.ints' LC) (k2.ints' LD) hn hm h3).mono ?_)
    | (refine (orN_yes (lin C C2 1) (lin D D2 1) (k1.ints' LC) (k2.ints' LD) hn hm h3).mono ?_)
   rintro e w3 ⟨rfl, b3⟩
   have H := H2'.below b3
   have k1' := k1.below b3
   have k2' := k2.below b3
   obtain ⟨r0, r1, r2, r3, r4, r5⟩ := H.room
   have A2 := H1.b.size
   clear H1 H2' k1 k2 b3 n0 hall
   go_wp2
  ·refine bodyPost_ret (v := formV none 0 0 none 0 0 0) (by simp [results, Tryz.results305, go_sem, r0, r1, r2]) rfl (Res.none rfl ?_)
   exact ((H.b.setCell (by simp only []; omega) _).setCell (by simp only []; omega) _).setCell (by simp only []; omega) _
  ·refine bodyPost_ret (v := formV (some ⟨B1, 0, none⟩) 3 3 (some ⟨B2, 0, none⟩) 2 2 S) (by simp [results, Tryz.results305, go_sem, r0, r1, r2]) rfl (Res.of (B1 := B1) (B2 := B2) rfl LC LD ?_ (by omega) g2 (by omega) ?_ ?_)
   ·exact ((H.b.setCell (by simp only []; omega) _).setCell (by simp only []; omega) _).setCell (by simp only []; omega) _
   ·exact ((k1'.so).so).so
   ·exact ((k2'.so).so).so
theorem open_cells3 {H : Type} {enc : TypeId × Value -> H} {f0 f1 f2 : Field} {cs : List Value} {x : DataW H × List MemPlace} (hs : Tryz.prog.underlying t = some (.struct #[f0, f1, f2])) (hone : oneCellFields Tryz.prog #[f0, f1, f2] = true) (hC : Tryz.prog.cellsOf t = 3)
  (hf : DataW.trod enc Tryz.prog W 0 (fun _ => true) true fuel t cs = some x) :
  ∃ v0 v1 v2 y0 y1 y2 n, cs = [v0, v1, v2] /\ DataW.trod enc Tryz.prog W 0 (fun _ => true) true n f0.type [v0] = some y0 /\ DataW.trod enc Tryz.prog W 0 (fun _ => true) true n f1.type [v1] = some y1 /\ DataW.trod enc Tryz.prog W 0 (fun _ => true) true n f2.type [v2] = some y2 := by
 obtain ⟨y0, y1, y2, n, _, hl, h0, h1, h2⟩ := trod_struct3 hs hf
 obtain ⟨o0, k0⟩ := hone_of hone 0 f0 rfl
 obtain ⟨o1, k1⟩ := hone_of hone 1 f1 rfl
 obtain ⟨o2, k2⟩ := hone_of hone 2 f2 rfl
 have hl' : cs.length = 3 := hl.trans hC
 match cs, hl' with
 | [c0, c1, c2], _ => exact ⟨c0, c1, c2, y0, y1, y2, n, rfl, by simpa [o0, k0] using h0, by simpa [o1, k1] using h1, by simpa [o2, k2] using h2⟩
theorem open_formC {H : Type} {enc : TypeId × Value -> H} {cs : List Value} {x : DataW H × List MemPlace}
  (hf : DataW.trod enc Tryz.prog W 0 (fun _ => true) true fuel 263 cs = some x) :
  ∃ f : FV, cs = f.cs /\ Ints W f.a f.n f.C /\ Ints W f.c f.m f.D /\ f.n <= maxLen /\ f.m <= maxLen := by
 obtain ⟨v0, v1, v2, y0, y1, y2, k, rfl, h0, h1, h2⟩ := open_cells3 Tryz.underlying263 (by kernel_rfl) (by kernel_rfl) hf
 obtain ⟨a, n, cap, C, rfl, hC, hn⟩ := open_row h0
 obtain ⟨c, m, cap', D, rfl, hD, hm⟩ := open_row h1
 obtain ⟨K, rfl, wK⟩ := open_num h2
 exact ⟨⟨a, n, cap, c, m, cap', K, C, D⟩, rfl, hC, hD, hn, hm⟩
theorem cells_at {b off : Nat} {cs : List Value} (h : W.cells? 0 ⟨b, off, none⟩ n = some cs) (i : Nat) (hi : i < n) : W.cell? ⟨b, off + i, none⟩ = cs[i]? := by
 have := (World.cells?_some h).2.2 i hi
 by_cases h0 : i = 0
 ·subst h0; simpa [Addr.add] using this
 ·simpa [Addr.add, h0] using this
theorem open_sliceC {α : Type} (d0 : α) (cf : α -> List Value) {H : Type} {enc : TypeId × Value -> H} {W : World} (R : α -> Prop) {S E : TypeId} {c : Nat} (hc : 0 < c) (hS : Tryz.prog.underlying S = some (.slice E)) (hE : Tryz.prog.cellsOf E = c) (hlen : ∀ a, (cf a).length = c)
  (hel : ∀ (fuel : Nat) (cs : List Value) (x : DataW H × List MemPlace), DataW.trod enc Tryz.prog W 0 (fun _ => true) true fuel E cs = some x -> ∃ a, cs = cf a /\ R a) {fuel : Nat} {v : Value} {y : DataW H × List MemPlace}
  (hf : DataW.trod enc Tryz.prog W 0 (fun _ => true) true fuel S [v] = some y) :
  ∃ (ad : Option Addr) (N cap : Nat) (xs : List α), v = .slice ad N cap /\ xs.length = N /\ N <= maxLen /\ ∀ i, i < xs.length -> ∃ b off, ad = some ⟨b, off, none⟩ /\ (∀ r, r < c -> W.cell? ⟨b, off + i * c + r, none⟩ = (cf (xs[i]?.getD d0))[r]?) /\ R (xs[i]?.getD d0) := by
 rcases open_slice hS hf with ⟨hcs, _⟩ | ⟨a, len, cap, m, n, D, Pl, hcs, _, hl, hm, hmm, _, hall⟩
 ·simp at hcs
  exact ⟨none, 0, 0, [], hcs, rfl, by unfold maxLen; omega, fun i hi => by simp at hi⟩
 ·simp at hcs
  obtain rfl : m = cap := by simpa using hmm
  rw [hE] at hall
  have hex : ∀ i, i < len -> ∃ f : α, W.cells? 0 (a.add (i * c)) c = some (cf f) /\ R f := fun i hi => by
   obtain ⟨cs', h1, h2⟩ := hall i (by omega)
   obtain ⟨f, rfl, h3⟩ := hel _ _ _ h2
   exact ⟨f, h1, h3⟩
  have : ∃ F : Nat -> α, ∀ i, i < len -> W.cells? 0 (a.add (i * c)) c = some (cf (F i)) /\ R (F i) := by
   classical
   refine ⟨fun i => if hi : i < len then Classical.choose (hex i hi) else d0, fun i hi => ?_⟩
   simp only [dif_pos hi]
   exact Classical.choose_spec (hex i hi)
  obtain ⟨F, hF⟩ := this
  refine ⟨some a, len, m, (List.range len).map F, hcs, by simp, by omega, fun i hi => ?_⟩
  have hi' : i < len := by simpa using hi
  have hg : ((List.range len).map F)[i]?.getD d0 = F i := by simp [hi']
  rw [hg]
  obtain ⟨h1, h2⟩ := hF i hi'
  obtain ⟨b, off, spot⟩ := a
  have hspot : spot = none := by
   have h0 := (World.cells?_some (hF 0 (by omega)).1).2.2 0 hc
   have h3 : ∃ x, (cf (F 0))[0]? = some x := ⟨_, qA (by rw [hlen]; exact hc)⟩
   obtain ⟨x, h3⟩ := h3
   rw [h3] at h0
   simpa [Addr.add] using World.cell?_spot h0
  subst hspot
  have hadd : (⟨b, off, none⟩ : Addr).add (i * c) = ⟨b, off + i * c, none⟩ := by
   by_cases h0 : i * c = 0
   ·rw [h0]; simp [Addr.add]
   ·simp [Addr.add, h0]
  rw [hadd] at h1
  exact ⟨b, off, rfl, fun r hr => cells_at h1 r hr, h2⟩
structure IV where
 a : Option Addr
 n : Nat
 cap : Nat
 x : List Int
def noI : IV := ⟨none, 0, 0, []⟩
def IV.v (s : IV) : Value := .slice s.a s.n s.cap
def IM (w : World) (s : IV) : Prop := Ints w s.a s.n s.x /\ s.n <= maxLen
def IG (w : World) (s : IV) : Prop := Ints w s.a s.n s.x /\ s.n <= 1048576
def IS (s : IV) : Prop := s.n <= 1048576
def IK (w : World) (lo : Nat) (s : IV) : Prop := ∃ B, s.a = some ⟨B, 0, none⟩ /\ lo <= B /\ Blk w B s.x /\ s.x.length = s.n /\ s.n <= 1048576
def copiesI (s t : IV) : Prop := t.n = s.n /\ t.x = s.x
def sameI (s t : IV) : Prop := s.x = t.x
theorem IM.below {s : IV} (h : IM w s) (hb : Below w.heap.size w w') : IM w' s := ⟨h.1.below hb, h.2⟩
theorem IG.below {s : IV} (h : IG w s) (hb : Below w.heap.size w w') : IG w' s := ⟨h.1.below hb, h.2⟩
theorem IM.g {s : IV} (h : IM w s) (hs : IS s) : IG w s := ⟨h.1, hs⟩
theorem IK.below {s : IV} (h : IK w lo s) (hb : Below w.heap.size w w') : IK w' lo s := by
 obtain ⟨B, h1, h2, h3, h4⟩ := h
 exact ⟨B, h1, h2, h3.below hb, h4⟩
theorem IK.touch {s : IV} (h : IK w lo s) (t : Touch S w w') (hs : ∀ k, S k -> k < lo) : IK w' lo s := by
 obtain ⟨B, h1, h2, h3, h4⟩ := h
 refine ⟨B, h1, h2, ?_, h4⟩
 unfold Blk at *
 rw [t.block B (lt_of_block h3) (fun hh => by have := hs _ hh; omega)]; exact h3
theorem IK.mono {s : IV} (h : IK w lo s) (hl : lo' <= lo) : IK w lo' s := by
 obtain ⟨B, h1, h2, h3⟩ := h
 exact ⟨B, h1, by omega, h3⟩
theorem IK.g {s : IV} (h : IK w lo s) : IG w s := by
 obtain ⟨B, h1, h2, h3, h4, h5⟩ := h
 refine ⟨?_, h5⟩
 rw [h1, <- h4]; exact h3.ints
theorem szI_ex (x : List Int) {l : Int} {w : World} (h : IM w ⟨a, n, cap, x⟩) (h0 : 0 <= l) (hl : l <= 1048576) :
  Calls Tryz.prog 76 #[.slice a n cap, .int .i64 l] w fun e w' => ∃ r, e = .returned (.int .i64 r) /\ -1 <= r /\ r <= 1048576 /\ (0 <= r -> IS ⟨a, n, cap, x⟩) /\ Below w.heap.size w w' := by
 refine (sz_any a n cap l w h.2 h0 hl).mono ?_
 rintro e w' ⟨rfl, rfl⟩
 refine ⟨_, rfl, leftOf_ge _ _, ?_, fun hr => ?_, Below.refl _ _⟩
 ·by_cases hh : 0 <= leftOf l n
  ·have := leftOf_le hh; omega
  ·omega
 ·have := leftOf_le hr
  show n <= 1048576
  omega
def ISG (w : World) (ad : Option Addr) (ss : List IV) : Prop :=
 ∀ i, i < ss.length -> ∃ b off, ad = some ⟨b, off, none⟩ /\ w.cell? ⟨b, off + i, none⟩ = some (ss[i]?.getD noI).v /\ IG w (ss[i]?.getD noI)
theorem ISG.below {ss : List IV} (h : ISG w ad ss) (hb : Below w.heap.size w w') : ISG w' ad ss := fun i hi => by
 obtain ⟨b, off, e, hc, hr⟩ := h i hi
 exact ⟨b, off, e, by rw [hb.cell (p := ⟨b, off + i, none⟩) (block_lt hc)]; exact hc, hr.below hb⟩
def copiesIS (ss ts : List IV) : Prop := ∀ i, i < ts.length -> copiesI (ss[i]?.getD noI) (ts[i]?.getD noI)
theorem Tryz.infoI : (Tryz.prog.info? 23).map (fun i => (i.zero, i.size, i.bytes)) = some (some (.slice none 0 0), 1, 24) := by kernel_rfl
structure DV where
 q : Int
 c : Int
 t : IV
def noD : DV := ⟨0, 0, noI⟩
def DV.cs (f : DV) : List Value := [.int .i64 f.q, .int .i64 f.c, IV.v f.t]
def DM (w : World) (f : DV) : Prop := IM w f.t /\ True
def DG (w : World) (f : DV) : Prop := IG w f.t /\ True
def DZ (f : DV) : Prop := IS f.t /\ True
def DK (w : World) (lo : Nat) (f : DV) : Prop := IK w lo f.t /\ True
def copiesD (f g : DV) : Prop := g.q = f.q /\ g.c = f.c /\ copiesI f.t g.t /\ True
def sameD (f g : DV) : Prop := f.q = g.q /\ f.c = g.c /\ sameI f.t g.t /\ True
theorem DM.below {f : DV} (h : DM w f) (hb : Below w.heap.size w w') : DM w' f := ⟨h.1.below hb, trivial⟩
theorem DG.below {f : DV} (h : DG w f) (hb : Below w.heap.size w w') : DG w' f := ⟨h.1.below hb, trivial⟩
theorem DM.g {f : DV} (h : DM w f) (hs : DZ f) : DG w f := ⟨(h.1).g hs.1, trivial⟩
theorem DK.below {f : DV} (h : DK w lo f) (hb : Below w.heap.size w w') : DK w' lo f := ⟨h.1.below hb, trivial⟩
theorem DK.touch {f : DV} (h : DK w lo f) (t : Touch S w w') (hs : ∀ k, S k -> k < lo) : DK w' lo f := ⟨h.1.touch t hs, trivial⟩
theorem DK.mono {f : DV} (h : DK w lo f) (hl : lo' <= lo) : DK w lo' f := ⟨h.1.mono hl, trivial⟩
theorem DK.g {f : DV} (h : DK w lo f) : DG w f := ⟨h.1.g, trivial⟩
abbrev doV (s c : Int) (a : Option Addr) (n cap : Nat) : Value := .agg #[.int .i64 s, .int .i64 c, .slice a n cap]
theorem open_cells2 {H : Type} {enc : TypeId × Value -> H} {f0 f1 : Field} {cs : List Value} {x : DataW H × List MemPlace} (hs : Tryz.prog.underlying t = some (.struct #[f0, f1])) (hone : oneCellFields Tryz.prog #[f0, f1] = true) (hC : Tryz.prog.cellsOf t = 2)
  (hf : DataW.trod enc Tryz.prog W 0 (fun _ => true) true fuel t cs = some x) :
  ∃ v0 v1 y0 y1 n, cs = [v0, v1] /\ DataW.trod enc Tryz.prog W 0 (fun _ => true) true n f0.type [v0] = some y0 /\ DataW.trod enc Tryz.prog W 0 (fun _ => true) true n f1.type [v1] = some y1 := by
 obtain ⟨y0, y1, n, _, hl, h0, h1⟩ := trod_struct2 hs hf
 obtain ⟨o0, k0⟩ := hone_of hone 0 f0 rfl
 obtain ⟨o1, k1⟩ := hone_of hone 1 f1 rfl
 have hl' : cs.length = 2 := hl.trans hC
 match cs, hl' with
 | [c0, c1], _ => exact ⟨c0, c1, y0, y1, n, rfl, by simpa [o0, k0] using h0, by simpa [o1, k1] using h1⟩
theorem open_DC {H : Type} {enc : TypeId × Value -> H} {cs : List Value} {x : DataW H × List MemPlace}
  (hf : DataW.trod enc Tryz.prog W 0 (fun _ => true) true fuel 210 cs = some x) :
  ∃ f : DV, cs = f.cs /\ DM W f := by
 obtain ⟨y0, y1, n, _, hl, h0, h1⟩ := trod_struct2 Tryz.underlying210 hf
 have hC : Tryz.prog.cellsOf 210 = 3 := by kernel_rfl
 have hl' : cs.length = 3 := hl.trans hC
 match cs, hl' with
 | [c0, c1, c2], _ =>
  have k3 : Tryz.prog.cellsOf 3 = 1 := by kernel_rfl
  have k57 : Tryz.prog.cellsOf 135 = 2 := by kernel_rfl
  simp only [k3, k57, List.drop_zero, List.drop_succ_cons, List.take_succ_cons, List.take_zero] at h0 h1
  obtain ⟨s, rfl, ws⟩ := open_num h0
  obtain ⟨v0, v1, z0, z1, k, e, r0, r1⟩ := open_cells2 Tryz.underlying135 (by kernel_rfl) (by kernel_rfl) h1
  obtain ⟨c, rfl, wc⟩ := open_num r0
  obtain ⟨a, m, cap, C, rfl, hC, hm⟩ := open_row r1
  simp only [List.cons.injEq, and_true] at e
  obtain ⟨rfl, rfl⟩ := e
  exact ⟨⟨s, c, ⟨a, m, cap, C⟩⟩, rfl, ⟨hC, hm⟩, trivial⟩
theorem szD_ex {s c : Int} (tx : List Int) {l : Int} {w : World} (h : DM w ⟨s, c, ⟨ta, tn, tc, tx⟩⟩) (h0 : 0 <= l) (hl : l <= 1048576) :
  Calls Tryz.prog 160 #[doV s c ta tn tc, .int .i64 l] w fun e w' => ∃ r, e = .returned (.int .i64 r) /\ -1 <= r /\ r <= 1048576 /\ (0 <= r -> DZ ⟨s, c, ⟨ta, tn, tc, tx⟩⟩) /\ Below w.heap.size w w' := by
 have hn : tn <= maxLen := h.1.2
 clear h
 have g1 := leftOf_ge l tn
 have B0 := (Below.refl w.heap.size w).alloc (qD _) (.cells #[.int .i64 s, .int .i64 c, .slice ta tn tc] 210)
 obtain ⟨r, hr⟩ : ∃ r, r = leftOf l tn := ⟨_, rfl⟩
 have HR : Hid _ := hr
 rw [<- hr] at g1
 clear hr
 go_enter Tryz.func160, Tryz.ntmps160
 go_wp2_with fail
 refine (szR_any hn h0 hl).mono ?_
 rintro e w1 ⟨rfl, b1⟩
 rw [<- HR.out]
 have B1 := btr B0 b1
 by_cases h : r < 0
 ·go_wp2
  go_ret
  exact ⟨-1, rfl, by omega, by omega, fun h => by omega, B1⟩
 ·have h' : 0 <= r := by omega
  have z := leftOf_le (l := l) (n := tn) (by rw [<- HR.out]; exact h')
  rw [<- HR.out] at z
  have HZ : Hid (tn <= 1048576) := by show _ <= _; omega
  have hr2 : r <= 1048576 := by omega
  clear z
  go_wp2
  go_ret
  exact ⟨r, rfl, by omega, hr2, fun _ => ⟨HZ.out, trivial⟩, B1⟩
theorem toD_ex {s c : Int} (tx : List Int) {w : World} (h : DG w ⟨s, c, ⟨ta, tn, tc, tx⟩⟩) :
  Calls Tryz.prog 166 #[doV s c ta tn tc] w fun e w' => ∃ Pt Qt, e = .returned (doV s c Pt tn tn) /\ Below w.heap.size w w' /\ DK w' w.heap.size ⟨s, c, ⟨Pt, tn, tn, Qt⟩⟩ /\ copiesD ⟨s, c, ⟨ta, tn, tc, tx⟩⟩ ⟨s, c, ⟨Pt, tn, tn, Qt⟩⟩ := by
 have hC : Ints w ta tn tx := h.1.1
 have hn : tn <= 1048576 := h.1.2
 clear h
 have HL : Hid (tx.length = tn) := hC.1
 go_enter Tryz.func166, Tryz.ntmps166
 go_wp2_with fail
 refine (toR_any tx (((hC.alloc _).alloc _).alloc _) hn).mono ?_
 rintro e w1 ⟨B1, rfl, b1, lB, k1⟩
 have p1 := ((Cel.new (w.alloc _) _ _).alloc _).below b1
 have p2 := (Cel.new ((w.alloc _).alloc _) _ _).below b1
 rw [World.size_alloc] at p1
 rw [World.size_alloc, World.size_alloc] at p2
 rw [World.size_alloc, World.size_alloc, World.size_alloc] at lB
 have s1 := k1.lt
 have BB : Below w.heap.size w w1 := (((bal).alloc (by simp) _).alloc (by simp; omega) _).trans (b1.mono (by simp; omega))
 clear b1
 have g0 := p2.cell 0
 have g1 := p2.cell 1
 have g2 := p2.cell 2
 have f1 := p2.free 1
 have f2 := p2.free 2
 have e0 := p1.cell 0
 have e1 := p1.cell 1
 have e2 := p1.cell 2
 have h0 := p1.free 0
 have h1 := p1.free 1
 have h2 := p1.free 2
 simp only [qB, qC] at g0 g1 g2 e0 e1 e2
 have hlt1 : w.heap.size + 1 < w1.heap.size := by omega
 have hlt2 : w.heap.size + 1 + 1 < w1.heap.size := by omega
 go_wp2
 refine bodyPost_ret (v := doV s c (some ⟨B1, 0, none⟩) tn tn) (by simp [results, Tryz.results166, go_sem, e0, e1, e2]) rfl ⟨_, tx, rfl, ?_, ⟨⟨B1, rfl, by show _ <= _; omega, ?_, HL.out, hn⟩, trivial⟩, rfl, rfl, ⟨rfl, rfl⟩, trivial⟩
 ·exact ((((BB.setCell (by simp only []; omega) _).setCell (by simp only []; omega) _).setCell (by simp only []; omega) _).setCell (by simp only []; omega) _).setCell (by simp only []; omega) _
 ·exact ((((k1.so).so).so).so).so
theorem eqD_ex {s c : Int} (tx : List Int) {s' c' : Int} {ta' : Option Addr} {tn' tc' : Nat} (tx' : List Int) {w : World} (h : DG w ⟨s, c, ⟨ta, tn, tc, tx⟩⟩) (h' : DG w ⟨s', c', ⟨ta', tn', tc', tx'⟩⟩) (hs : sameD ⟨s, c, ⟨ta, tn, tc, tx⟩⟩ ⟨s', c', ⟨ta', tn', tc', tx'⟩⟩) :
  Calls Tryz.prog 172 #[doV s c ta tn tc, doV s' c' ta' tn' tc'] w fun e w' => e = .returned (.bool true) /\ Below w.heap.size w w' := by
 obtain ⟨e1, e2, e3, -⟩ := hs
 have e1' : s = s' := e1
 have e2' : c = c' := e2
 have e3' : tx = tx' := e3
 have hI : Ints w ta tn tx := h.1.1
 have hI' : Ints w ta' tn' tx' := h'.1.1
 have hz : tn <= 1048576 := h.1.2
 have en : tn = tn' := by rw [<- hI.1, <- hI'.1, e3']
 clear h h' e1 e2 e3
 subst e1' e2' e3' en
 have hc : (s != s) = false := by simp
 have x0 := (Cel.new w [.int .i64 s, .int .i64 c, .slice ta tn tc] 219).alloc (.cells #[.int .i64 s, .int .i64 c, .slice ta' tn tc'] 219)
 have y0 := Cel.new (w.alloc (.cells #[.int .i64 s, .int .i64 c, .slice ta tn tc] 219)) [.int .i64 s, .int .i64 c, .slice ta' tn tc'] 219
 rw [World.size_alloc] at y0
 obtain ⟨a0, a1, a2, -, -, -⟩ := x0.trio
 obtain ⟨b0, b1, b2, -, -, -⟩ := y0.trio
 go_enter Tryz.func172, Tryz.ntmps172
 go_wp2_with fail
 refine (eqR_same tx ((hI.alloc _).alloc _) ((hI'.alloc _).alloc _) hz).mono ?_
 rintro e w1 ⟨rfl, bb⟩
 go_wp2
 go_ret
 exact ⟨rfl, ((bal).alloc (by simp) _).trans (bb.mono (by simp; omega))⟩
abbrev clV (cl sq ac : Int) (a : Option Addr) (n cap : Nat) : Value := .agg #[.int .i64 cl, .int .i64 sq, .int .i64 ac, .slice a n cap]
theorem Cel.quadC {x y z u : Value} (h : Cel w B [x, y, z, u] t) : w.cell? ⟨B, 0, none⟩ = some x /\ w.cell? ⟨B, 1, none⟩ = some y /\ w.cell? ⟨B, 2, none⟩ = some z /\ w.cell? ⟨B, 3, none⟩ = some u := ⟨h.cell 0, h.cell 1, h.cell 2, h.cell 3⟩
theorem szC_any (cl sq ac : Int) (a : Option Addr) (n cap : Nat) (l : Int) (w : World) (hn : n <= maxLen) (h0 : 0 <= l) (hl : l <= 1048576) :
  Calls Tryz.prog 161 #[clV cl sq ac a n cap, .int .i64 l] w fun e w' => e = .returned (.int .i64 (leftOf l n)) /\ Below w.heap.size w w' := by
 have g1 := leftOf_ge l n
 by_cases h : leftOf l n < 0
 ·go_enter Tryz.func161, Tryz.ntmps161
  go_wp2_with fail
  refine (sz_any _ _ _ _ _ hn h0 hl).mono ?_
  rintro e w1 ⟨rfl, rfl⟩
  go_wp2
  go_ret
  exact ⟨ret_int (by omega), bal⟩
 ·go_enter Tryz.func161, Tryz.ntmps161
  go_wp2_with fail
  refine (sz_any _ _ _ _ _ hn h0 hl).mono ?_
  rintro e w1 ⟨rfl, rfl⟩
  go_wp2
  go_ret
  exact ⟨ret_int rfl, bal⟩
theorem toC_any (cl sq ac : Int) (a : Option Addr) (n cap : Nat) (C : List Int) (w : World) (hC : Ints w a n C) (hn : n <= 1048576) :
  Calls Tryz.prog 167 #[clV cl sq ac a n cap] w fun e w' => ∃ B1, e = .returned (clV cl sq ac (some ⟨B1, 0, none⟩) n n) /\ Below w.heap.size w w' /\ w.heap.size <= B1 /\ Blk w' B1 C := by
 go_enter Tryz.func167, Tryz.ntmps167
 go_wp2_with fail
 refine (to_any _ (((hC.alloc _).alloc _).alloc _) hn).mono ?_
 rintro e w1 ⟨rfl, b1, k1⟩
 have p1 := ((Cel.new (w.alloc _) _ _).alloc _).below b1
 have p2 := (Cel.new ((w.alloc _).alloc _) _ _).below b1
 rw [World.size_alloc] at p1
 rw [World.size_alloc, World.size_alloc] at p2
 rw [World.size_alloc, World.size_alloc, World.size_alloc] at k1
 have s1 := k1.lt
 have B1 : Below w.heap.size w w1 := (((bal).alloc (by simp) _).alloc (by simp; omega) _).trans (b1.mono (by simp; omega))
 clear b1
 have g0 := p2.cell 0
 have g1 := p2.cell 1
 have g2 := p2.cell 2
 have g3 := p2.cell 3
 have f3 := p2.free 3
 have e0 := p1.cell 0
 have e1 := p1.cell 1
 have e2 := p1.cell 2
 have e3 := p1.cell 3
 have h0 := p1.free 0
 have h1 := p1.free 1
 have h2 := p1.free 2
 have h3 := p1.free 3
 simp only [qB, qC] at g0 g1 g2 g3 e0 e1 e2 e3
 have hlt1 : w.heap.size + 1 < w1.heap.size := by omega
 have hlt2 : w.heap.size + 1 + 1 < w1.heap.size := by omega
 go_wp2
 refine bodyPost_ret (v := clV cl sq ac (some ⟨w.heap.size + 1 + 1 + 1, 0, none⟩) n n) (by simp [results, Tryz.results167, go_sem, e0, e1, e2, e3]) rfl ⟨_, rfl, ?_, by omega, ?_⟩
 ·exact ((((B1.setCell (by simp only []; omega) _).setCell (by simp only []; omega) _).setCell (by simp only []; omega) _).setCell (by simp only []; omega) _).setCell (by simp only []; omega) _
 ·exact ((((k1.so).so).so).so).so
theorem eqC_same (cl sq ac : Int) (a : Option Addr) (n cap : Nat) (a' : Option Addr) (cap' : Nat) (tl : List Int) (w : World) (h : Ints w a n tl) (h' : Ints w a' n tl) (hn : n <= 1048576) :
  Calls Tryz.prog 173 #[clV cl sq ac a n cap, clV cl sq ac a' n cap'] w fun e w' => e = .returned (.bool true) /\ Below w.heap.size w w' := by
 have h1 : (cl != cl) = false := by simp
 have h2 : (sq != sq) = false := by simp
 have h3 : (ac != ac) = false := by simp
 have HE := eqB_refl tl
 go_enter Tryz.func173, Tryz.ntmps173
 go_wp2_with fail
 refine (eq_any tl tl ((h.alloc _).alloc _) ((h'.alloc _).alloc _) hn hn).mono ?_
 rintro e w1 ⟨rfl, b1⟩
 rw [HE]
 go_wp2
 go_ret
 exact ⟨rfl, ((bal).alloc (by simp) _).trans (b1.mono (by simp; omega))⟩
structure QV where
 x : Int
 q : Int
 c : Int
 t : IV
def noQ : QV := ⟨0, 0, 0, noI⟩
def QV.cs (f : QV) : List Value := [.int .i64 f.x, .int .i64 f.q, .int .i64 f.c, IV.v f.t]
def QM (w : World) (f : QV) : Prop := IM w f.t /\ True
def QG (w : World) (f : QV) : Prop := IG w f.t /\ True
def QZ (f : QV) : Prop := IS f.t /\ True
def QK (w : World) (lo : Nat) (f : QV) : Prop := IK w lo f.t /\ True
def copiesQ (f g : QV) : Prop := g.x = f.x /\ g.q = f.q /\ g.c = f.c /\ copiesI f.t g.t /\ True
def sameQ (f g : QV) : Prop := f.x = g.x /\ f.q = g.q /\ f.c = g.c /\ sameI f.t g.t /\ True
theorem QM.below {f : QV} (h : QM w f) (hb : Below w.heap.size w w') : QM w' f := ⟨h.1.below hb, trivial⟩
theorem QG.below {f : QV} (h : QG w f) (hb : Below w.heap.size w w') : QG w' f := ⟨h.1.below hb, trivial⟩
theorem QM.g {f : QV} (h : QM w f) (hs : QZ f) : QG w f := ⟨(h.1).g hs.1, trivial⟩
theorem QK.below {f : QV} (h : QK w lo f) (hb : Below w.heap.size w w') : QK w' lo f := ⟨h.1.below hb, trivial⟩
theorem QK.touch {f : QV} (h : QK w lo f) (t : Touch S w w') (hs : ∀ k, S k -> k < lo) : QK w' lo f := ⟨h.1.touch t hs, trivial⟩
theorem QK.mono {f : QV} (h : QK w lo f) (hl : lo' <= lo) : QK w lo' f := ⟨h.1.mono hl, trivial⟩
theorem QK.g {f : QV} (h : QK w lo f) : QG w f := ⟨h.1.g, trivial⟩
theorem open_cells4 {H : Type} {enc : TypeId × Value -> H} {f0 f1 f2 f3 : Field} {cs : List Value} {x : DataW H × List MemPlace} (hs : Tryz.prog.underlying t = some (.struct #[f0, f1, f2, f3])) (hone : oneCellFields Tryz.prog #[f0, f1, f2, f3] = true) (hC : Tryz.prog.cellsOf t = 4)
  (hf : DataW.trod enc Tryz.prog W 0 (fun _ => true) true fuel t cs = some x) :
  ∃ v0 v1 v2 v3 y0 y1 y2 y3 n, cs = [v0, v1, v2, v3] /\ DataW.trod enc Tryz.prog W 0 (fun _ => true) true n f0.type [v0] = some y0 /\ DataW.trod enc Tryz.prog W 0 (fun _ => true) true n f1.type [v1] = some y1 /\ DataW.trod enc Tryz.prog W 0 (fun _ => true) true n f2.type [v2] = some y2 /\ DataW.trod enc Tryz.prog W 0 (fun _ => true) true n f3.type [v3] = some y3 := by
 obtain ⟨y0, y1, y2, y3, n, _, hl, h0, h1, h2, h3⟩ := trod_struct4 hs hf
 obtain ⟨o0, k0⟩ := hone_of hone 0 f0 rfl
 obtain ⟨o1, k1⟩ := hone_of hone 1 f1 rfl
 obtain ⟨o2, k2⟩ := hone_of hone 2 f2 rfl
 obtain ⟨o3, k3⟩ := hone_of hone 3 f3 rfl
 have hl' : cs.length = 4 := hl.trans hC
 match cs, hl' with
 | [c0, c1, c2, c3], _ => exact ⟨c0, c1, c2, c3, y0, y1, y2, y3, n, rfl, by simpa [o0, k0] using h0, by simpa [o1, k1] using h1, by simpa [o2, k2] using h2, by simpa [o3, k3] using h3⟩
theorem open_QC {H : Type} {enc : TypeId × Value -> H} {cs : List Value} {x : DataW H × List MemPlace}
  (hf : DataW.trod enc Tryz.prog W 0 (fun _ => true) true fuel 134 cs = some x) :
  ∃ f : QV, cs = f.cs /\ QM W f := by
 obtain ⟨v0, v1, v2, v3, y0, y1, y2, y3, k, rfl, h0, h1, h2, h3⟩ := open_cells4 Tryz.underlying134 (by kernel_rfl) (by kernel_rfl) hf
 obtain ⟨x, rfl, _⟩ := open_num h0
 obtain ⟨q, rfl, _⟩ := open_num h1
 obtain ⟨c, rfl, _⟩ := open_num h2
 obtain ⟨a, m, cap, C, rfl, hC, hm⟩ := open_row h3
 exact ⟨⟨x, q, c, ⟨a, m, cap, C⟩⟩, rfl, ⟨hC, hm⟩, trivial⟩
theorem szQ_ex {c : Int} (tx : List Int) {l : Int} {w : World} (h : QM w ⟨x, q, c, ⟨ta, tn, tc, tx⟩⟩) (h0 : 0 <= l) (hl : l <= 1048576) :
  Calls Tryz.prog 161 #[clV x q c ta tn tc, .int .i64 l] w fun e w' => ∃ r, e = .returned (.int .i64 r) /\ -1 <= r /\ r <= 1048576 /\ (0 <= r -> QZ ⟨x, q, c, ⟨ta, tn, tc, tx⟩⟩) /\ Below w.heap.size w w' := by
 refine (szC_any x q c ta tn tc l w h.1.2 h0 hl).mono ?_
 rintro e w' ⟨rfl, b⟩
 refine ⟨_, rfl, leftOf_ge _ _, ?_, fun hr => ?_, b⟩
 ·by_cases hh : 0 <= leftOf l tn
  ·have := leftOf_le hh; omega
  ·omega
 ·have := leftOf_le hr
  exact ⟨by show tn <= 1048576; omega, trivial⟩
theorem toQ_ex {c : Int} (tx : List Int) {w : World} (h : QG w ⟨x, q, c, ⟨ta, tn, tc, tx⟩⟩) :
  Calls Tryz.prog 167 #[clV x q c ta tn tc] w fun e w' => ∃ Pt Qt, e = .returned (clV x q c Pt tn tn) /\ Below w.heap.size w w' /\ QK w' w.heap.size ⟨x, q, c, ⟨Pt, tn, tn, Qt⟩⟩ /\ copiesQ ⟨x, q, c, ⟨ta, tn, tc, tx⟩⟩ ⟨x, q, c, ⟨Pt, tn, tn, Qt⟩⟩ := by
 refine (toC_any x q c ta tn tc tx w h.1.1 h.1.2).mono ?_
 rintro e w' ⟨B1, rfl, b, lB, k⟩
 exact ⟨_, tx, rfl, b, ⟨⟨B1, rfl, lB, k, h.1.1.1, h.1.2⟩, trivial⟩, rfl, rfl, rfl, ⟨rfl, rfl⟩, trivial⟩
theorem eqQ_ex {c : Int} (tx : List Int) {x' q' c' : Int} {ta' : Option Addr} {tn' tc' : Nat} (tx' : List Int) {w : World} (h : QG w ⟨x, q, c, ⟨ta, tn, tc, tx⟩⟩) (h' : QG w ⟨x', q', c', ⟨ta', tn', tc', tx'⟩⟩) (hs : sameQ ⟨x, q, c, ⟨ta, tn, tc, tx⟩⟩ ⟨x', q', c', ⟨ta', tn', tc', tx'⟩⟩) :
  Calls Tryz.prog 173 #[clV x q c ta tn tc, clV x' q' c' ta' tn' tc'] w fun e w' => e = .returned (.bool true) /\ Below w.heap.size w w' := by
 obtain ⟨e1, e2, e3, e4, -⟩ := hs
 have e1' : x = x' := e1
 have e2' : q = q' := e2
 have e3' : c = c' := e3
 have e4' : tx = tx' := e4
 have hI : Ints w ta tn tx := h.1.1
 have hI' : Ints w ta' tn' tx' := h'.1.1
 have en : tn = tn' := by rw [<- hI.1, <- hI'.1, e4']
 have hz : tn <= 1048576 := h.1.2
 clear h h' e1 e2 e3 e4
 subst e1' e2' e3' e4' en
 exact eqC_same x q c ta tn tc ta' tc' tx w hI hI' hz
structure GV where
 h : Bool
 t : IV
 u : IV
def noG : GV := ⟨false, noI, noI⟩
def GV.cs (f : GV) : List Value := [.bool f.h, IV.v f.t, IV.v f.u]
def GM (w : World) (f : GV) : Prop := IM w f.t /\ IM w f.u /\ True
def GG (w : World) (f : GV) : Prop := IG w f.t /\ IG w f.u /\ True
def GZ (f : GV) : Prop := IS f.t /\ IS f.u /\ True
def GK (w : World) (lo : Nat) (f : GV) : Prop := IK w lo f.t /\ IK w lo f.u /\ True
def copiesG (f g : GV) : Prop := g.h = f.h /\ copiesI f.t g.t /\ copiesI f.u g.u /\ True
def sameG (f g : GV) : Prop := f.h = g.h /\ sameI f.t g.t /\ sameI f.u g.u /\ True
theorem GM.below {f : GV} (h : GM w f) (hb : Below w.heap.size w w') : GM w' f := ⟨h.1.below hb, h.2.1.below hb, trivial⟩
theorem GG.below {f : GV} (h : GG w f) (hb : Below w.heap.size w w') : GG w' f := ⟨h.1.below hb, h.2.1.below hb, trivial⟩
theorem GM.g {f : GV} (h : GM w f) (hs : GZ f) : GG w f := ⟨(h.1).g hs.1, (h.2.1).g hs.2.1, trivial⟩
theorem GK.below {f : GV} (h : GK w lo f) (hb : Below w.heap.size w w') : GK w' lo f := ⟨h.1.below hb, h.2.1.below hb, trivial⟩
theorem GK.touch {f : GV} (h : GK w lo f) (t : Touch S w w') (hs : ∀ k, S k -> k < lo) : GK w' lo f := ⟨h.1.touch t hs, h.2.1.touch t hs, trivial⟩
theorem GK.mono {f : GV} (h : GK w lo f) (hl : lo' <= lo) : GK w lo' f := ⟨h.1.mono hl, h.2.1.mono hl, trivial⟩
theorem GK.g {f : GV} (h : GK w lo f) : GG w f := ⟨h.1.g, h.2.1.g, trivial⟩
abbrev gtV (h : Bool) (a : Option Addr) (n cap : Nat) (c : Option Addr) (m cap' : Nat) : Value := .agg #[.bool h, .slice a n cap, .slice c m cap']
theorem open_GC {H : Type} {enc : TypeId × Value -> H} {cs : List Value} {x : DataW H × List MemPlace}
  (hf : DataW.trod enc Tryz.prog W 0 (fun _ => true) true fuel 214 cs = some x) :
  ∃ f : GV, cs = f.cs /\ GM W f := by
 obtain ⟨v0, v1, v2, y0, y1, y2, k, rfl, h0, h1, h2⟩ := open_cells3 Tryz.underlying214 (by kernel_rfl) (by kernel_rfl) hf
 obtain ⟨b, e, _⟩ := DataW.trod_bool Tryz.underlying4 h0
 obtain rfl : v0 = .bool b := by simpa using e
 obtain ⟨a, m, cap, C, rfl, hC, hm⟩ := open_row h1
 obtain ⟨a', m', cap', C', rfl, hC', hm'⟩ := open_row h2
 exact ⟨⟨b, ⟨a, m, cap, C⟩, ⟨a', m', cap', C'⟩⟩, rfl, ⟨hC, hm⟩, ⟨hC', hm'⟩, trivial⟩
theorem szG_ex (tx : List Int) {ua : Option Addr} {un uc : Nat} (ux : List Int) {l : Int} {w : World} (hM : GM w ⟨h, ⟨ta, tn, tc, tx⟩, ⟨ua, un, uc, ux⟩⟩) (h0 : 0 <= l) (hl : l <= 1048576) :
  Calls Tryz.prog 162 #[gtV h ta tn tc ua un uc, .int .i64 l] w fun e w' => ∃ r, e = .returned (.int .i64 r) /\ -1 <= r /\ r <= 1048576 /\ (0 <= r -> GZ ⟨h, ⟨ta, tn, tc, tx⟩, ⟨ua, un, uc, ux⟩⟩) /\ Below w.heap.size w w' := by
 have h1 : IM w ⟨ta, tn, tc, tx⟩ := hM.1
 have h2 : IM w ⟨ua, un, uc, ux⟩ := hM.2.1
 clear hM
 have n0 := Cel.new w [.bool h, .slice ta tn tc, .slice ua un uc] 214
 have B0 := (Below.refl w.heap.size w).alloc (qD _) (.cells #[.bool h, .slice ta tn tc, .slice ua un uc] 214)
 go_enter Tryz.func162, Tryz.ntmps162
 go_wp2_with fail
 refine (szI_ex tx (h1.below B0) h0 hl).mono ?_
 rintro e w1 ⟨r1, rfl, p1, q1, s1, b1⟩
 have B1 := btr B0 b1
 have n1 := n0.below b1
 obtain ⟨c0, c1, c2, -, -, -⟩ := n1.trio
 clear n0 B0 b1
 by_cases g1 : r1 < 0
 ·go_wp2
  go_ret
  exact ⟨-1, rfl, by omega, by omega, fun h => by omega, B1⟩
 have g1' : 0 <= r1 := by omega
 have S1 : Hid _ := s1 g1'
 clear s1 g1
 go_wp2_with fail
 refine (szI_ex ux (h2.below B1) g1' q1).mono ?_
 rintro e w2 ⟨r2, rfl, p2, q2, s2, b2⟩
 have B2 := btr B1 b2
 clear c0 c1 c2 n1 B1 b2
 by_cases g2 : r2 < 0
 ·go_wp2
  go_ret
  exact ⟨-1, rfl, by omega, by omega, fun h => by omega, B2⟩
 have g2' : 0 <= r2 := by omega
 have S2 : Hid _ := s2 g2'
 clear s2 g2
 go_wp2
 go_ret
 exact ⟨r2, rfl, by omega, q2, fun _ => ⟨S1.out, S2.out, trivial⟩, B2⟩
theorem toG_ex (tx : List Int) {ua : Option Addr} {un uc : Nat} (ux : List Int) {w : World} (hG : GG w ⟨h, ⟨ta, tn, tc, tx⟩, ⟨ua, un, uc, ux⟩⟩) :
  Calls Tryz.prog 168 #[gtV h ta tn tc ua un uc] w fun e w' => ∃ Pt Qt Pu Qu, e = .returned (gtV h Pt tn tn Pu un un) /\ Below w.heap.size w w' /\ GK w' w.heap.size ⟨h, ⟨Pt, tn, tn, Qt⟩, ⟨Pu, un, un, Qu⟩⟩ /\ copiesG ⟨h, ⟨ta, tn, tc, tx⟩, ⟨ua, un, uc, ux⟩⟩ ⟨h, ⟨Pt, tn, tn, Qt⟩, ⟨Pu, un, un, Qu⟩⟩ := by
 have hC : Ints w ta tn tx := hG.1.1
 have hn : tn <= 1048576 := hG.1.2
 have hD : Ints w ua un ux := hG.2.1.1
 have hm : un <= 1048576 := hG.2.1.2
 clear hG
 have L1 : Hid (tx.length = tn) := hC.1
 have L2 : Hid (ux.length = un) := hD.1
 go_enter Tryz.func168, Tryz.ntmps168
 go_wp2_with fail
 refine (to_any tx (((hC.alloc _).alloc _).alloc _) hn).mono ?_
 rintro e w1 ⟨rfl, b1, k1⟩
 have p0 := (((Cel.new w _ _).alloc _).alloc _).below b1
 have p1 := ((Cel.new (w.alloc _) _ _).alloc _).below b1
 have p2 := (Cel.new ((w.alloc _).alloc _) _ _).below b1
 rw [World.size_alloc] at p1
 rw [World.size_alloc, World.size_alloc] at p2
 rw [World.size_alloc, World.size_alloc, World.size_alloc] at k1
 have s1 := k1.lt
 have B1 : Below w.heap.size w w1 := (((bal).alloc (by simp) _).alloc (by simp; omega) _).trans (b1.mono (by simp; omega))
 clear b1
 obtain ⟨c0, c1, c2, -, -, -⟩ := p0.trio
 obtain ⟨d0, d1, d2, -, -, -⟩ := p2.trio
 have f0 := p2.free 1
 go_wp2_with fail
 have B2 := B1.setCell (p := ⟨w.heap.size + 1 + 1, 1, none⟩) (by show w.heap.size <= w.heap.size + 1 + 1; omega) (Value.slice (some ⟨w.heap.size + 1 + 1 + 1, 0, none⟩) tn tn)
 refine (to_any ux (hD.below B2) hm).mono ?_
 rintro e w2 ⟨rfl, b2, k2⟩
 clear c0 c1 c2 d0 d1 d2 f0
 have q1 := (p1.so).below b2
 have q2 := (p2.set _ _).below b2
 have k1' := (k1.setOther (B' := w.heap.size + 1 + 1) (by omega) 1 _).below b2
 have B3 := btr B2 b2
 have s2 := k2.lt
 rw [size_setCell] at k2 s2
 clear p0 p1 p2 k1 b2 B1 B2
 simp only [List.set_cons_zero, List.set_cons_succ] at q2
 obtain ⟨d0, d1, d2, -, -, -⟩ := q2.trio
 obtain ⟨e0, e1, e2, -, -, -⟩ := q1.trio
 have f0 := q2.free 2
 have g0 := q1.free 0
 have g1 := q1.free 1
 have g2 := q1.free 2
 have hlt1 : w.heap.size + 1 < w2.heap.size := by omega
 have hlt2 : w.heap.size + 1 + 1 < w2.heap.size := by omega
 go_wp2
 refine bodyPost_ret (v := gtV h (some ⟨w.heap.size + 1 + 1 + 1, 0, none⟩) tn tn (some ⟨w1.heap.size, 0, none⟩) un un) (by simp [results, Tryz.results168, go_sem, e0, e1, e2]) rfl ⟨_, tx, _, ux, rfl, ?_, ⟨⟨_, rfl, by show _ <= _; omega, ?_, L1.out, hn⟩, ⟨_, rfl, by show _ <= _; omega, ?_, L2.out, hm⟩, trivial⟩, rfl, ⟨rfl, rfl⟩, ⟨rfl, rfl⟩, trivial⟩
 ·exact (((B3.setCell (by simp only []; omega) _).setCell (by simp only []; omega) _).setCell (by simp only []; omega) _).setCell (by simp only []; omega) _
 ·exact (((k1'.so).so).so).so
 ·exact (((k2.so).so).so).so
theorem eqG_ex (tx : List Int) {ua : Option Addr} {un uc : Nat} (ux : List Int) {h' : Bool} {ta' : Option Addr} {tn' tc' : Nat} (tx' : List Int) {ua' : Option Addr} {un' uc' : Nat} (ux' : List Int) {w : World} (hA : GG w ⟨h, ⟨ta, tn, tc, tx⟩, ⟨ua, un, uc, ux⟩⟩) (hB : GG w ⟨h', ⟨ta', tn', tc', tx'⟩, ⟨ua', un', uc', ux'⟩⟩) (hs : sameG ⟨h, ⟨ta, tn, tc, tx⟩, ⟨ua, un, uc, ux⟩⟩ ⟨h', ⟨ta', tn', tc', tx'⟩, ⟨ua', un', uc', ux'⟩⟩) :
  Calls Tryz.prog 174 #[gtV h ta tn tc ua un uc, gtV h' ta' tn' tc' ua' un' uc'] w fun e w' => e = .returned (.bool true) /\ Below w.heap.size w w' := by
 obtain ⟨e1, e2, e3, -⟩ := hs
 have e1' : h = h' := e1
 have e2' : tx = tx' := e2
 have e3' : ux = ux' := e3
 have i1 : Ints w ta tn tx := hA.1.1
 have z1 : tn <= 1048576 := hA.1.2
 have i2 : Ints w ua un ux := hA.2.1.1
 have z2 : un <= 1048576 := hA.2.1.2
 have j1 : Ints w ta' tn' tx' := hB.1.1
 have j2 : Ints w ua' un' ux' := hB.2.1.1
 have m1 : tn = tn' := by rw [<- i1.1, <- j1.1, e2']
 have m2 : un = un' := by rw [<- i2.1, <- j2.1, e3']
 clear hA hB e1 e2 e3
 subst e1' e2' e3' m1 m2
 have hc : (h != h) = false := by cases h <;> rfl
 have HE := eqB_refl tx
 have HF := eqB_refl ux
 have x0 := (Cel.new w [.bool h, .slice ta tn tc, .slice ua un uc] 222).alloc (.cells #[.bool h, .slice ta' tn tc', .slice ua' un uc'] 222)
 have y0 := Cel.new (w.alloc (.cells #[.bool h, .slice ta tn tc, .slice ua un uc] 222)) [.bool h, .slice ta' tn tc', .slice ua' un uc'] 222
 rw [World.size_alloc] at y0
 have B0 := ((Below.refl w.heap.size w).alloc (qD _) (.cells #[.bool h, .slice ta tn tc, .slice ua un uc] 222)).alloc (by simp) (.cells #[.bool h, .slice ta' tn tc', .slice ua' un uc'] 222)
 go_enter Tryz.func174, Tryz.ntmps174
 go_wp2_with fail
 refine (eq_any tx tx (i1.below B0) (j1.below B0) z1 z1).mono ?_
 rintro e w1 ⟨rfl, b1⟩
 rw [HE]
 have B1 := btr B0 b1
 have x1 := x0.below b1
 have y1 := y0.below b1
 clear x0 y0 B0 b1
 obtain ⟨a0, a1, a2, -, -, -⟩ := x1.trio
 obtain ⟨c0, c1, c2, -, -, -⟩ := y1.trio
 go_wp2_with fail
 refine (eq_any ux ux (i2.below B1) (j2.below B1) z2 z2).mono ?_
 rintro e w2 ⟨rfl, b2⟩
 rw [HF]
 have B2 := btr B1 b2
 go_wp2
 go_ret
 exact ⟨rfl, B2⟩
structure JA (w : World) (v : Value) (xs : List Int) (W : World) : Prop where
 b : Below w.heap.size w W
 o : W.ownsRow w.heap.size 3 1 v xs.length (xs.map (Value.int .i64))
theorem JA.lit (w : World) : JA w (.slice (some ⟨w.heap.size, 0, none⟩) 0 0) [] (w.alloc (.cells #[] 3)) :=
 ⟨bal, World.ownsRow_lit w #[] 0 (qD _) (by unfold maxLen; omega) rfl⟩
theorem JA.alloc {v : Value} (j : JA w v xs W) (o : Obj) : JA w v xs (W.alloc o) := ⟨j.b.alloc j.b.size _, j.o.alloc o⟩
theorem JA.own {v v' : Value} {ys : List Int} (j : JA w v xs W) (o : W'.ownsRow w.heap.size 3 1 v' ys.length (ys.map (Value.int .i64))) (g : W.grownBy W' v.ownBlock) : JA w v' ys W' :=
 ⟨j.b.grown g j.b.size (fun k hk => (j.o.lt k hk).1), o⟩
theorem JA.ints {v : Value} (j : JA w v xs W) : ∃ a cap, v = .slice a xs.length cap /\ xs.length <= cap /\ Ints W a xs.length xs /\ (∀ b o, a = some ⟨b, o, none⟩ -> w.heap.size <= b /\ b < W.heap.size) := by
 rcases j.o.2 with ⟨hv, h⟩ | ⟨g, cap', cur, rfl, hg, hh, hl, _, _⟩
 ·rw [h]
  have : xs = [] := List.eq_nil_of_length_eq_zero h
  subst this
  exact ⟨none, 0, hv, qD _, ⟨rfl, fun i hi => by omega⟩, fun b o e => by cases e⟩
 ·refine ⟨some ⟨g, 0, none⟩, cap', rfl, hl, ⟨rfl, fun i hi => ⟨g, 0, rfl, ?_⟩⟩, fun b o e => ?_⟩
  ·have := j.o.cellAt i (by omega)
   rw [Nat.zero_add, this]
   simp [hi]
  ·simp only [Option.some.injEq, Addr.mk.injEq, and_true] at e
   obtain ⟨rfl, rfl⟩ := e
   exact ⟨hg, lt_of_block hh⟩
theorem news1 (w : World) {x : Value} {t : TypeId} : ∀ j u, [x][j]? = some u -> (w.alloc (.cells #[x] t)).cell? ((⟨w.heap.size, 0, none⟩ : Addr).add j) = some u := fun j u hu => by
 match j, hu with
 | 0, hu =>
  simp only [qB, Option.some.injEq] at hu
  subst hu
  simp [Addr.add]
theorem one1 {k : IntKind} : ∀ u ∈ [Value.int k x], u.oneCell' = true := fun u hu => by
 simp at hu; subst hu; rfl
theorem JA.app {v : Value} {y : Int} {g k : Nat} {o : Obj} (j : JA w v xs W) (hk : xs.length = k) (hown : W'.ownsRow w.heap.size 3 1 (.slice (some ⟨g, 0, none⟩) (k + 1) cap) (k + 1) (xs.map (Value.int .i64) ++ [.int .i64 y])) (hg : (W.alloc o).grownBy W' v.ownBlock) :
  JA w (.slice (some ⟨g, 0, none⟩) (k + 1) cap) (xs ++ [y]) W' := by
 refine (j.alloc o).own ?_ hg
 rw [List.length_append, hk, List.map_append]
 exact hown
def OwnX (W : World) (a : Option Addr) (B n : Nat) (zs : List Int) : Prop :=
 zs.length = n /\ (n = 0 \/ (a = some ⟨B, 0, none⟩ /\ ∃ cur : List Value, Cel W B cur 3 /\ ∀ i, i < n -> cur[i]? = some (.int .i64 (zs[i]?.getD 0))))
theorem OwnX.ints (h : OwnX W a B n zs) : Ints W a n zs := by
 refine ⟨h.1, fun i hi => ?_⟩
 rcases h.2 with h0 | ⟨rfl, cur, hc, hv⟩
 ·omega
 ·refine ⟨B, 0, rfl, ?_⟩
  rw [Nat.zero_add, hc.cell i, hv i hi]
  simp
theorem OwnX.below (h : OwnX W a B n zs) (b : Below W.heap.size W W') : OwnX W' a B n zs := by
 refine ⟨h.1, ?_⟩
 rcases h.2 with h0 | ⟨e, cur, hc, hv⟩
 ·exact .inl h0
 ·exact .inr ⟨e, cur, hc.below b, hv⟩
theorem OwnX.touch (h : OwnX W a B n zs) (t : Touch S W W') (hn : 0 < n -> ¬ S B) : OwnX W' a B n zs := by
 refine ⟨h.1, ?_⟩
 rcases h.2 with h0 | ⟨e, cur, hc, hv⟩
 ·exact .inl h0
 ·by_cases h0 : 0 < n
  ·exact .inr ⟨e, cur, hc.touch t (hn h0), hv⟩
  ·exact .inl (by omega)
theorem OwnX.lt (h : OwnX W a B n zs) (hn : 0 < n) : B < W.heap.size := by
 rcases h.2 with h0 | ⟨e, cur, hc, hv⟩
 ·omega
 ·exact hc.lt
theorem OwnX.setOther {X : Nat} (h : OwnX W a B n zs) (hX : 0 < n -> X ≠ B) (i : Nat) (v : Value) : OwnX (W.setCell ⟨X, i, none⟩ v) a B n zs := by
 refine h.touch (S := fun k => k = X) (Touch.setCell (S := fun k => k = X) (Touch.refl _ _) rfl v) (fun h0 e => hX h0 e.symm)
theorem OwnX.nil (W : World) (a : Option Addr) (B : Nat) : OwnX W a B 0 [] := ⟨rfl, .inl rfl⟩
theorem OwnX.pos (h : OwnX W a B n zs) (hn : 0 < n) : a = some ⟨B, 0, none⟩ /\ (∀ i, i < n -> W.cell? ⟨B, i, none⟩ = some (.int .i64 (zs[i]?.getD 0))) /\ ∀ i, W.frozen? ⟨B, i, none⟩ = false := by
 rcases h.2 with h0 | ⟨rfl, cur, hc, hv⟩
 ·omega
 ·exact ⟨rfl, fun i hi => by rw [hc.cell i, hv i hi], fun i => hc.free i⟩
theorem OwnX.set (h : OwnX W a B n zs) {i : Nat} (hi : i < n) (x : Int) : OwnX (W.setCell ⟨B, i, none⟩ (.int .i64 x)) a B n (zs.set i x) := by
 refine ⟨by rw [List.length_set]; exact h.1, ?_⟩
 rcases h.2 with h0 | ⟨e, cur, hc, hv⟩
 ·omega
 ·refine .inr ⟨e, cur.set i (.int .i64 x), hc.set _ _, fun j hj => ?_⟩
  have hl : i < cur.length := by
   have := hv i hi
   exact (List.getElem?_eq_some_iff.1 this).1
  have hz := h.1
  by_cases e : j = i
  ·subst e
   rw [List.getElem?_set_self hl, List.getElem?_set_self (by omega)]; rfl
  ·rw [List.getElem?_set_ne (by omega), hv j hj, List.getElem?_set_ne (by omega)]
theorem JA.ownx {v : Value} (j : JA w v xs W) (hn : xs.length = n) : ∃ a cap B, v = .slice a n cap /\ OwnX W a B n xs /\ (0 < n -> w.heap.size <= B) := by
 subst hn
 rcases j.o.2 with ⟨hv, h⟩ | ⟨g, cap', cur, rfl, hg, hh, hl, _, hs, ht⟩
 ·rw [h]
  have : xs = [] := List.eq_nil_of_length_eq_zero h
  subst this
  exact ⟨none, 0, 0, hv, OwnX.nil _ _ _, fun h => by omega⟩
 ·refine ⟨some ⟨g, 0, none⟩, cap', g, rfl, ⟨rfl, .inr ⟨rfl, cur.toList, by unfold Cel; simpa using hh, fun i hi => ?_⟩⟩, fun _ => hg⟩
  have h1 : (cur.toList.take (xs.length * 1))[i]? = (xs.map (Value.int .i64))[i]? := by rw [ht]
  rw [List.getElem?_take, if_pos (by omega)] at h1
  rw [h1]
  simp [hi]
theorem markX_any (B : Nat) (zs : List Int) {k : Int} {w : World} (h : OwnX w a B n zs) (hn : n <= 1048576) (hk0 : 0 <= k) (hk : k <= 1000000000000000) :
  Calls Tryz.prog 18 #[.slice a n cap, .int .i64 k] w fun e w' => e = .returned (.int .i64 (k + n)) /\ Touch (fun x => x = B /\ 0 < n) w w' /\ OwnX w' a B n (ramp k n) := by
 have HZ : Hid (zs.length = n) := h.1
 go_enter Tryz.func18, Tryz.ntmps18
 go_wp2_with fail
 go_loopw [1, 5] (fun kk i wr => ∃ j : Nat, j <= n /\ i = .int .i64 j /\ kk = .int .i64 (k + j) /\ Touch (fun x => x = B /\ 0 < n) w wr /\ OwnX wr a B n (marked k zs j)) (fun _ i _ => n - (intOf i).toNat)
 case atStart => exact ⟨0, Nat.zero_le _, rfl, by simp, Touch.refl _ _, by rw [marked_zero]; exact h⟩
 case round =>
  obtain ⟨j, hj, rfl, rfl, ht, ho⟩ := hrel
  by_cases hlt : j < n
  ·obtain ⟨rfl, hcs, hfs⟩ := ho.pos (by omega)
   have hc := hcs j hlt
   have hf := hfs j
   have R : OwnX (wr.setCell ⟨B, j, none⟩ (.int .i64 (k + j))) (some ⟨B, 0, none⟩) B n (marked k zs (j + 1)) := by
    have := ho.set hlt (k + j)
    rwa [marked_succ k zs j (by rw [HZ.out]; exact hlt)] at this
   have R2 : Touch (fun x => x = B /\ 0 < n) w (wr.setCell ⟨B, j, none⟩ (.int .i64 (k + j))) := ht.setCell ⟨rfl, by omega⟩ _
   clear h ho hcs hfs
   go_wp2
   go_roundw
   case rel => exact ⟨j + 1, by omega, by go_num, by go_num, R2, R⟩
   case measure => simp [intOf]; omega
  ·go_wp2
   go_ret
   obtain rfl : j = n := by omega
   exact ⟨rfl, ht, by rw [marked_end k zs j (by rw [HZ.out]; exact qD _)] at ho; exact ho⟩
theorem newsI {b off : Nat} (h : ∀ i, i < n -> w.cell? ⟨b, off + i, none⟩ = some (.int .i64 (zs.getD i 0))) (hl : zs.length = n) : ∀ j u, (zs.map (Value.int .i64))[j]? = some u -> w.cell? ((⟨b, off, none⟩ : Addr).add j) = some u := fun j u hu => by
 have hj : j < n := by
  have := (List.getElem?_eq_some_iff.1 hu).1
  simpa [hl] using this
 have hadd : (⟨b, off, none⟩ : Addr).add j = ⟨b, off + j, none⟩ := by
  by_cases h0 : j = 0
  ·subst h0; simp [Addr.add]
  ·simp [Addr.add, h0]
 rw [hadd, h j hj]
 rw [List.getElem?_map, qA (by omega)] at hu
 simp only [Option.map_some, Option.some.injEq] at hu
 rw [<- hu]
 simp [hl, hj]
theorem oneI : ∀ u ∈ zs.map (Value.int .i64), u.oneCell' = true := fun u hu => by
 obtain ⟨x, _, rfl⟩ := List.mem_map.1 hu
 rfl
theorem JA.copied {g : Nat} (hn : zs.length = n) (hown : W'.ownsRow w.heap.size 3 1 (.slice (some ⟨g, 0, none⟩) (0 + n) cap) (0 + n) ([] ++ zs.map (Value.int .i64))) (hg : (w.alloc (.cells #[] 3)).grownBy W' (Value.ownBlock (.slice (some ⟨w.heap.size, 0, none⟩) 0 0))) :
  JA w (.slice (some ⟨g, 0, none⟩) n cap) zs W' := by
 have h0 := JA.lit w
 refine h0.own (ys := zs) ?_ hg
 rw [hn]
 simpa using hown
theorem clone_any (n cap : Nat) (zs : List Int) (w : World) (h : Ints w a n zs) (hn : n <= 1048576) (h0 : 0 < n) :
  Calls Tryz.prog 151 #[.slice a n cap] w fun e w' => ∃ v, e = .returned v /\ JA w v zs w' := by
 have HZ : Hid (zs.length = n) := h.1
 obtain ⟨i0, hi, hz0, hz1, hz2⟩ := info_parts Tryz.infoInt
 obtain ⟨b, off, rfl, hcell⟩ := h.pos h0
 have hcl : ∀ i, i < n -> (w.alloc (.cells #[] 3)).cell? ⟨b, off + i, none⟩ = some (.int .i64 (zs.getD i 0)) := fun i hi => by
  rw [((Below.refl w.heap.size w).alloc (qD _) _).cell (p := ⟨b, off + i, none⟩) (block_lt (hcell i hi))]; exact hcell i hi
 have HC : Hid _ := newsI hcl HZ.out
 have HL : Hid ((zs.map (Value.int .i64)).length = n * 1) := by show _ = _; rw [qE, HZ.out, Nat.mul_one]
 have HJ : Hid _ := (JA.lit w).o
 clear hcl hcell h
 have hnil : ∀ w, (binOp .eql 23 (.slice (some ⟨b, off, none⟩) n cap) (.slice none 0 0)).run Tryz.prog w = .ok (.bool false) w := fun w => Go.Lib.run_eql_slice_nil w _ _ _ _ _ _ _ Tryz.underlying23
 go_enter Tryz.func151, Tryz.ntmps151
 go_wp2_with (at_builtin; go_must (refine wpList_append_lies _ rfl (.tmp 5) (.tmp 6) 23 rfl w.heap.size 3 i0 (.int .i64 0) 1 8 Tryz.underlying23 hi hz0 hz1 hz2 rfl (by decide) _ 0 [] rfl HJ.out ⟨b, off, none⟩ n cap (zs.map (Value.int .i64)) rfl HL.out HC.out (oneI) h0 (by unfold maxLen; omega) (by omega) (by rw [World.size_alloc]; omega) _ rfl ?_); intro g cp w1 hown hgrow hat hlt1)
 have j := JA.copied HZ.out hown hgrow
 clear hown hgrow
 go_wp2
 go_ret
 exact ⟨_, rfl, j⟩
theorem cloneN_any (zs : List Int) {w : World} (h : Blk w B zs) (hl : zs.length = n) (hn : n <= 1048576) :
  Calls Tryz.prog 151 #[.slice (some ⟨B, 0, none⟩) n cap] w fun e w' => ∃ a' cap' B', e = .returned (.slice a' n cap') /\ Below w.heap.size w w' /\ OwnX w' a' B' n zs /\ (0 < n -> w.heap.size <= B') := by
 by_cases h0 : 0 < n
 ·refine (clone_any n cap zs w (h.ints' hl) hn h0).mono ?_
  rintro e w' ⟨v, rfl, j⟩
  obtain ⟨a, c, B', rfl, o, g⟩ := j.ownx hl
  exact ⟨a, c, B', rfl, j.b, o, g⟩
 ·obtain rfl : n = 0 := by omega
  have hz : zs = [] := List.eq_nil_of_length_eq_zero hl
  subst hz
  have hnil : ∀ w, (binOp .eql 23 (.slice (some ⟨B, 0, none⟩) 0 cap) (.slice none 0 0)).run Tryz.prog w = .ok (.bool false) w := fun w => Go.Lib.run_eql_slice_nil w _ _ _ _ _ _ _ Tryz.underlying23
  have B0 := (Below.refl w.heap.size w).alloc (qD _) (.cells #[] 3)
  clear h
  go_enter Tryz.func151, Tryz.ntmps151
  go_wp2
  go_ret
  exact ⟨_, _, 0, rfl, B0, OwnX.nil _ _ _, fun h => by omega⟩
theorem icopRes_any {c : Int} (zs : List Int) {w : World} (h : Blk w B zs) (hl : zs.length = n) (hn : n <= 1048576) :
  Calls Tryz.prog 346 #[resP c (some ⟨B, 0, none⟩) n cap] w fun e w' => ∃ a' cap' B', e = .returned (resP c a' n cap') /\ Below w.heap.size w w' /\ OwnX w' a' B' n zs /\ (0 < n -> w.heap.size <= B') := by
 have p0 := (Cel.new w [.int .i64 c, .slice (some ⟨B, 0, none⟩) n cap] 104).alloc (.cells #[.int .i64 0, .slice none 0 0] 104)
 have r0 := Cel.new (w.alloc (.cells #[.int .i64 c, .slice (some ⟨B, 0, none⟩) n cap] 104)) [.int .i64 0, .slice none 0 0] 104
 rw [World.size_alloc] at r0
 have B0 := ((Below.refl w.heap.size w).alloc (qD _) (.cells #[.int .i64 c, .slice (some ⟨B, 0, none⟩) n cap] 104)).alloc (by simp) (.cells #[.int .i64 0, .slice none 0 0] 104)
 have HL : Hid _ := hl
 clear hl
 go_enter Tryz.func346, Tryz.ntmps346
 go_upto_region 1 with fail
 obtain ⟨W0, hW0⟩ : ∃ W, W = (w.alloc (.cells #[.int .i64 c, .slice (some ⟨B, 0, none⟩) n cap] 104)).alloc (.cells #[.int .i64 0, .slice none 0 0] 104) := ⟨_, rfl⟩
 rw [<- hW0] at p0 r0 B0 ⊢
 clear hW0
 have c0 := p0.cell 0
 have c1 := p0.cell 1
 have d0 := r0.cell 0
 have d1 := r0.cell 1
 simp only [qB, qC] at c0 c1 d0 d1
 go_region_with (first | (go_at_call 151; refine (cloneN_any zs (by exact (h.below B0).below (Below.refl _ _).drew) HL.out hn).mono ?_; rintro ee w1 ⟨a', cap', B', rfl, bd1, o1, g1⟩; have b1 := below_of_drew bd1; have p1 := p0.below b1; have r1 := r0.below b1; have e0 := p1.cell 0; have e1 := p1.cell 1; have f0 := r1.cell 0; have f1 := r1.cell 1; have z0 := r1.free 0; have z1 := r1.free 1; simp only [qB, qC] at e0 e1 f0 f1))
 all_goals
  have s1 := r1.lt
  have s0 := r0.lt
  have hsz : W0.heap.size <= W0.drew.heap.size := qD _
  go_wp2
  refine bodyPost_ret (v := resP c a' n cap') (by simp [results, Tryz.results346, go_sem, f0, f1]) rfl ⟨a', cap', B', rfl, ?_, ?_, ?_⟩
  ·exact ((btr B0 b1).setCell (by simp only []; omega) _).setCell (by simp only []; omega) _
  ·refine (o1.setOther (fun h0 => ?_) _ _).setOther (fun h0 => ?_) _ _
   ·have := g1 h0; have : W0.heap.size <= B' := this; omega
   ·have := g1 h0; have : W0.heap.size <= B' := this; omega
  ·intro h0; have := g1 h0; have : W0.heap.size <= B' := this; omega
def three (cs : List (List Value)) : Prop := ∀ c ∈ cs, c.length = 3
theorem Tryz.infoForm : (Tryz.prog.info? 151).map (fun i => (i.zero, i.size, i.bytes)) = some (some (.agg #[.slice none 0 0, .slice none 0 0, .int .i64 0]), 3, 56) := by kernel_rfl
def intoC (C : List Int) (fs : List FV) : Nat -> List Int
 | 0 => [0, 0, 0]
 | k + 1 => lin (intoC C fs k) (fs[k]?.getD noFV).C (C[k]?.getD 0)
def intoD (C D : List Int) (fs : List FV) : Nat -> List Int
 | 0 => D
 | k + 1 => lin (intoD C D fs k) (fs[k]?.getD noFV).D (C[k]?.getD 0)
def intoK (C : List Int) (K : Int) (fs : List FV) : Nat -> Int
 | 0 => K
 | k + 1 => intoK C K fs k + C[k]?.getD 0 * (fs[k]?.getD noFV).K
theorem lin_mul (xs ys : List Int) (n : Int) : List.zipWith (· + ·) xs (mulL n ys) = lin xs ys n := by
 simp [lin, mulL, List.zipWith_map_right]
def terms (C D : List Int) (K : Int) (fs : List FV) : List Frm := ([0, 0, 0], D, K) :: (List.range 3).map fun i => (mulL (C[i]?.getD 0) (fs[i]?.getD noFV).C, mulL (C[i]?.getD 0) (fs[i]?.getD noFV).D, C[i]?.getD 0 * (fs[i]?.getD noFV).K)
theorem zip0 (h : xs.length = 3) : List.zipWith (· + ·) [0, 0, 0] xs = xs := by
 match xs, h with
 | [x, y, z], _ => simp
theorem zip02 (h : xs.length = 2) : List.zipWith (· + ·) [0, 0] xs = xs := by
 match xs, h with
 | [x, y], _ => simp
theorem terms_sum {fs : List FV} (hD : D.length = 2) :
  sumC (terms C D K fs) 4 = intoC C fs 3 /\ sumD (terms C D K fs) 4 = intoD C D fs 3 /\ sumK (terms C D K fs) 4 = intoK C K fs 3 := by
 have t0 : (terms C D K fs)[0]? = some ([0, 0, 0], D, K) := rfl
 have t1 : (terms C D K fs)[1]? = some (mulL (C[0]?.getD 0) (fs[0]?.getD noFV).C, mulL (C[0]?.getD 0) (fs[0]?.getD noFV).D, C[0]?.getD 0 * (fs[0]?.getD noFV).K) := rfl
 have t2 : (terms C D K fs)[2]? = some (mulL (C[1]?.getD 0) (fs[1]?.getD noFV).C, mulL (C[1]?.getD 0) (fs[1]?.getD noFV).D, C[1]?.getD 0 * (fs[1]?.getD noFV).K) := rfl
 have t3 : (terms C D K fs)[3]? = some (mulL (C[2]?.getD 0) (fs[2]?.getD noFV).C, mulL (C[2]?.getD 0) (fs[2]?.getD noFV).D, C[2]?.getD 0 * (fs[2]?.getD noFV).K) := rfl
 refine ⟨?_, ?_, ?_⟩
 ·simp only [sumC, t0, t1, t2, t3, Option.getD_some, intoC]
  rw [zip0 (xs := [0, 0, 0]) rfl, lin_mul, lin_mul, lin_mul]
 ·simp only [sumD, t0, t1, t2, t3, Option.getD_some, intoD]
  rw [zip02 hD, lin_mul, lin_mul, lin_mul]
 ·simp only [sumK, t0, t1, t2, t3, Option.getD_some, intoK]
  omega
theorem without_any :
  Calls Tryz.prog 308 #[formV a n cap c m cap' K] w fun e w' => ∃ P, e = .returned (formV (some ⟨P, 0, none⟩) 3 3 c m cap' K) /\ Below w.heap.size w w' /\ w.heap.size <= P /\ Blk w' P [0, 0, 0] := by
 have hm3 := make3
 go_enter Tryz.func308, Tryz.ntmps308
 go_wp2_with fail
 go_region
 go_wp2
 exact bodyPost_ret (v := formV (some ⟨w.heap.size + 1 + 1, 0, none⟩) 3 3 c m cap' K) (by simp [results, Tryz.results308, go_sem]) rfl ⟨_, rfl, (((bal).alloc (by simp) _).alloc (by simp; omega) _).drew, by omega, three2 w⟩
theorem lin_bnd {M P n : Int} {ys : List Int} {k : Nat} (h1 : xs.length = k) (h2 : ys.length = k) (hx : bnd M xs) (hy : bndT P n ys) (h0 : 0 <= M + P) : bnd (M + P) (lin xs ys n) := by
 intro i
 by_cases hi : i < k
 ·rw [lin_get h1 h2 hi]
  have := hx i
  have := hy i
  omega
 ·have : (lin xs ys n)[i]? = none := List.getElem?_eq_none (by rw [lin_len h1 h2]; omega)
  rw [this]
  simp only [Option.getD_none]
  omega
theorem mul_bnd {y : Int} (a1 : -10000000 <= x) (a2 : x <= 10000000) (h1 : -10000000 <= y) (h2 : y <= 10000000) : -100000000000000 <= x * y /\ x * y <= 100000000000000 := by
 have hx' : x.natAbs <= 10000000 := by omega
 have hy' : y.natAbs <= 10000000 := by omega
 have hm : (x * y).natAbs <= 10000000 * 10000000 := by rw [Int.natAbs_mul]; exact Nat.mul_le_mul hx' hy'
 omega
theorem mulT_bnd (h : bnd 10000000 C) (h1 : -10000000 <= k) (h2 : k <= 10000000) : bndT 100000000000000 k C := by
 intro i
 have := h i
 exact mul_bnd h1 h2 this.1 this.2
structure OkF (g : FV) : Prop where
 n : g.n = 3
 m : g.m = 2
 lC : g.C.length = 3
 lD : g.D.length = 2
 bC : bnd 10000000 g.C
 bD : bnd 10000000 g.D
 k1 : -10000000 <= g.K
 k2 : g.K <= 10000000
theorem OkF.of {g : FV} (h : g.At w) (ok : g.ok = true) : OkF g := by
 obtain ⟨n3, m2, bC, bD, bK1, bK2⟩ := formB_elim ok
 exact ⟨n3, m2, by have := h.C.1; omega, by have := h.D.1; omega, bC, bD, bK1, bK2⟩
structure IntoF (C D : List Int) (K : Int) (fs : List FV) (k : Nat) : Prop where
 lC : (intoC C fs k).length = 3
 lD : (intoD C D fs k).length = 2
 bC : bnd (k * 100000000000000) (intoC C fs k)
 bD : bnd (10000000 + k * 100000000000000) (intoD C D fs k)
 k1 : -(10000000 + k * 100000000000000) <= intoK C K fs k
 k2 : intoK C K fs k <= 10000000 + k * 100000000000000
theorem IntoF.of {fs : List FV} (hD : D.length = 2) (bC : bnd 10000000 C) (bD : bnd 10000000 D) (k1 : -10000000 <= K) (k2 : K <= 10000000) (ho : ∀ i, i < 3 -> OkF (fs[i]?.getD noFV)) : ∀ k : Nat, k <= 3 -> IntoF C D K fs k
 | 0, _ => ⟨rfl, hD, by simpa [intoC] using bnd_zeros 3, by simpa [intoD] using bD, by simpa [intoK] using k1, by simpa [intoK] using k2⟩
 | k + 1, hk => by
  have ih := IntoF.of hD bC bD k1 k2 ho k (by omega)
  have g := ho k (by omega)
  have bc := bC k
  have e : ((k + 1 : Nat) : Int) = k + 1 := by omega
  have tC := mulT_bnd g.bC bc.1 bc.2
  have tD := mulT_bnd g.bD bc.1 bc.2
  have tK := mul_bnd bc.1 bc.2 g.k1 g.k2
  have i1 := ih.k1
  have i2 := ih.k2
  refine ⟨lin_len ih.lC g.lC, lin_len ih.lD g.lD, ?_, ?_, ?_, ?_⟩
  ·have := lin_bnd ih.lC g.lC ih.bC tC (by omega)
   intro i
   have := this i
   simp only [intoC]
   omega
  ·have := lin_bnd ih.lD g.lD ih.bD tD (by omega)
   intro i
   have := this i
   simp only [intoD]
   omega
  ·simp only [intoK]; omega
  ·simp only [intoK]; omega
def intoOk (n m : Nat) (C D : List Int) (K : Int) (N : Nat) (fs : List FV) : Bool := formB n m C D K && decide (N = 3) && fs.all FV.ok && formB 3 2 (intoC C fs 3) (intoD C D fs 3) (intoK C K fs 3)
structure IH (w : World) (a : Option Addr) (n cap : Nat) (c : Option Addr) (m cap' : Nat) (K : Int) (w' : World) : Prop where
 p : Cel w' w.heap.size [.slice a n cap, .slice c m cap', .int .i64 K] 151
 r : Cel w' (w.heap.size + 1) [.slice none 0 0, .slice none 0 0, .int .i64 0] 151
 b : Below w.heap.size w w'
section
variable {w W w3 : World} {a c : Option Addr} {n cap m cap' : Nat} {K : Int}
theorem IH.below (h : IH w a n cap c m cap' K W) (b : Below W.heap.size W w3) : IH w a n cap c m cap' K w3 := ⟨h.p.below b, h.r.below b, h.b.trans (b.mono h.b.size)⟩
theorem IH.drew (h : IH w a n cap c m cap' K W) : IH w a n cap c m cap' K W.drew := ⟨h.p, h.r, h.b.drew⟩
theorem IH.alloc (h : IH w a n cap c m cap' K W) (o : Obj) : IH w a n cap c m cap' K (W.alloc o) := h.below (bal)
theorem IH.set (h : IH w a n cap c m cap' K W) {X : Nat} (hX : w.heap.size + 1 < X) (i : Nat) (v : Value) : IH w a n cap c m cap' K (W.setCell ⟨X, i, none⟩ v) :=
 ⟨h.p.setOther (by omega) i v, h.r.setOther (by omega) i v, h.b.setCell (by show w.heap.size <= X; omega) v⟩
theorem IH.new : IH w a n cap c m cap' K ((w.alloc (Obj.cells #[Value.slice a n cap, Value.slice c m cap', Value.int IntKind.i64 K] 151)).alloc (Obj.cells #[Value.slice none 0 0, Value.slice none 0 0, Value.int IntKind.i64 0] 151)) :=
 ⟨(Cel.new w _ _).alloc _, by have := Cel.new (w.alloc (Obj.cells #[Value.slice a n cap, Value.slice c m cap', Value.int IntKind.i64 K] 151)) [.slice none 0 0, .slice none 0 0, .int .i64 0] 151; rw [World.size_alloc] at this; exact this, (bal).alloc (by simp) _⟩
theorem IH.cells (h : IH w a n cap c m cap' K W) :
  W.cell? ⟨w.heap.size, 0, none⟩ = some (.slice a n cap) /\ W.cell? ⟨w.heap.size, 1, none⟩ = some (.slice c m cap') /\ W.cell? ⟨w.heap.size, 2, none⟩ = some (.int .i64 K) := ⟨h.p.cell 0, h.p.cell 1, h.p.cell 2⟩
theorem IH.room (h : IH w a n cap c m cap' K W) :
  W.cell? ⟨w.heap.size + 1, 0, none⟩ = some (.slice none 0 0) /\ W.cell? ⟨w.heap.size + 1, 1, none⟩ = some (.slice none 0 0) /\ W.cell? ⟨w.heap.size + 1, 2, none⟩ = some (.int .i64 0) /\ W.frozen? ⟨w.heap.size + 1, 0, none⟩ = false /\ W.frozen? ⟨w.heap.size + 1, 1, none⟩ = false /\ W.frozen? ⟨w.heap.size + 1, 2, none⟩ = false := ⟨h.r.cell 0, h.r.cell 1, h.r.cell 2, h.r.free 0, h.r.free 1, h.r.free 2⟩
theorem IH.none (h : IH w a n cap c m cap' K W) : Res w (((W.setCell ⟨w.heap.size + 1, 0, Option.none⟩ (.slice Option.none 0 0)).setCell ⟨w.heap.size + 1, 1, Option.none⟩ (.slice Option.none 0 0)).setCell ⟨w.heap.size + 1, 2, Option.none⟩ (.int .i64 0)) (.returned (formV Option.none 0 0 Option.none 0 0 0)) [] [] 0 :=
 Res.none rfl (((h.b.setCell (by simp only []; omega) _).setCell (by simp only []; omega) _).setCell (by simp only []; omega) _)
end
theorem sinto_no (a : Option Addr) (n cap : Nat) (c : Option Addr) (m cap' : Nat) (K : Int) (C D : List Int) (ad : Option Addr) (N capN : Nat) (fs : List FV) (w : World) (hC : Ints w a n C) (hD : Ints w c m D) (hn : n <= 1048576) (hm : m <= 1048576)
  (hN : fs.length = N) (hF : FormsG w ad fs) (hN1 : N <= 1048576) (hno : (formB n m C D K && decide (N = 3) && fs.all FV.ok) = false) :
  Calls Tryz.prog 227 #[formV a n cap c m cap' K, .slice ad N capN] w fun e w' => Res w w' e [] [] 0 := by
 have n0 := IH.new (w := w) (a := a) (n := n) (cap := cap) (c := c) (m := m) (cap' := cap') (K := K)
 have HN : Hid (fs.length = N) := hN
 clear hN
 cases h1 : formB n m C D K
 ·clear hno
  go_enter Tryz.func227, Tryz.ntmps227
  go_wp2_with fail
  refine (sok_any C D (hC.below n0.b) (hD.below n0.b) hn hm).mono ?_
  rintro e w1 ⟨rfl, b1⟩
  have H := n0.below b1
  obtain ⟨r0, r1, r2, r3, r4, r5⟩ := H.room
  go_wp2
  exact bodyPost_ret (v := formV none 0 0 none 0 0 0) (by simp [results, Tryz.results227, go_sem, r0, r1, r2]) rfl H.none
 ·by_cases h2 : (N : Int) = 3
  ·obtain rfl : N = 3 := by omega
   have hno' : fs.all FV.ok = false := by simpa [h1] using hno
   clear hno h2
   have f0 := hF 0 (by rw [HN.out]; omega)
   have f1 := hF 1 (by rw [HN.out]; omega)
   have f2 := hF 2 (by rw [HN.out]; omega)
   obtain ⟨b, off, rfl, p0, p1, p2, A0⟩ := f0
   obtain ⟨b', off', hb', q0, q1, q2, A1⟩ := f1
   simp only [Option.some.injEq, Addr.mk.injEq, and_true] at hb'
   obtain ⟨rfl, rfl⟩ := hb'
   obtain ⟨b', off', hb', r0, r1, r2, A2⟩ := f2
   simp only [Option.some.injEq, Addr.mk.injEq, and_true] at hb'
   obtain ⟨rfl, rfl⟩ := hb'
   have hor : (fs[0]?.getD noFV).ok = false \/ (fs[1]?.getD noFV).ok = false \/ (fs[2]?.getD noFV).ok = false := by
    match fs, HN.out with
    | [x, y, z], _ =>
     simp only [List.all_cons, List.all_nil, Bool.and_true] at hno'
     simp only [qB, qC, Option.getD_some]
     revert hno'
     cases x.ok <;> cases y.ok <;> cases z.ok <;> simp
   generalize fs[0]?.getD noFV = x at *
   generalize fs[1]?.getD noFV = y at *
   generalize fs[2]?.getD noFV = z at *
   obtain ⟨xa, xn, xcap, xc, xm, xcap', xK, xC, xD⟩ := x
   obtain ⟨ya, yn, ycap, yc, ym, ycap', yK, yC, yD⟩ := y
   obtain ⟨za, zn, zcap, zc, zm, zcap', zK, zC, zD⟩ := z
   obtain ⟨x1, x2, x3, x4⟩ := A0
   obtain ⟨y1, y2, y3, y4⟩ := A1
   obtain ⟨z1, z2, z3, z4⟩ := A2
   simp only [FV.ok] at p0 p1 p2 q0 q1 q2 r0 r1 r2 hor x1 x2 x3 x4 y1 y2 y3 y4 z1 z2 z3 z4
   have lb := block_lt p0
   have nb := n0.b
   clear hF hno'
   rw [Nat.zero_mul, Nat.add_zero] at p0 p1 p2
   rw [Nat.one_mul] at q0 q1 q2
   have e6 : off + 2 * 3 = off + 6 := rfl
   rw [e6] at r0 r1 r2
   cases hx : formB xn xm xC xD xK
   ·go_enter Tryz.func227, Tryz.ntmps227
    go_wp2_with fail
    refine (sok_any C D (hC.below n0.b) (hD.below n0.b) hn hm).mono ?_
    rintro e w1 ⟨rfl, b1⟩
    have H1 := n0.below b1
    have s0 := (H1.b.cell (p := ⟨b, off, none⟩) lb).trans p0
    have s1 := (H1.b.cell (p := ⟨b, off + 1, none⟩) lb).trans p1
    have s2 := (H1.b.cell (p := ⟨b, off + 2, none⟩) lb).trans p2
    go_wp2_with fail
    refine (sok_any xC xD (x1.below H1.b) (x2.below H1.b) x3 x4).mono ?_
    rintro e w2 ⟨rfl, b2⟩
    have H2 := H1.below b2
    obtain ⟨g0, g1, g2, g3, g4, g5⟩ := H2.room
    go_wp2
    exact bodyPost_ret (v := formV none 0 0 none 0 0 0) (by simp [results, Tryz.results227, go_sem, g0, g1, g2]) rfl H2.none
   ·cases hy : formB yn ym yC yD yK
    ·go_enter Tryz.func227, Tryz.ntmps227
     go_wp2_with fail
     refine (sok_any C D (hC.below n0.b) (hD.below n0.b) hn hm).mono ?_
     rintro e w1 ⟨rfl, b1⟩
     have H1 := n0.below b1
     have s0 := (H1.b.cell (p := ⟨b, off, none⟩) lb).trans p0
     have s1 := (H1.b.cell (p := ⟨b, off + 1, none⟩) lb).trans p1
     have s2 := (H1.b.cell (p := ⟨b, off + 2, none⟩) lb).trans p2
     go_wp2_with fail
     refine (sok_any xC xD (x1.below H1.b) (x2.below H1.b) x3 x4).mono ?_
     rintro e w2 ⟨rfl, b2⟩
     have H2 := H1.below b2
     have t0 := (H2.b.cell (p := ⟨b, off + 3, none⟩) lb).trans q0
     have t1 := (H2.b.cell (p := ⟨b, off + 3 + 1, none⟩) lb).trans q1
     have t2 := (H2.b.cell (p := ⟨b, off + 3 + 2, none⟩) lb).trans q2
     go_wp2_with fail
     refine (sok_any yC yD (y1.below H2.b) (y2.below H2.b) y3 y4).mono ?_
     rintro e w3 ⟨rfl, b3⟩
     have H3 := H2.below b3
     obtain ⟨g0, g1, g2, g3, g4, g5⟩ := H3.room
     go_wp2
     exact bodyPost_ret (v := formV none 0 0 none 0 0 0) (by simp [results, Tryz.results227, go_sem, g0, g1, g2]) rfl H3.none
    ·have hz : formB zn zm zC zD zK = false := by simpa [hx, hy] using hor
     go_enter Tryz.func227, Tryz.ntmps227
     go_wp2_with fail
     refine (sok_any C D (hC.below n0.b) (hD.below n0.b) hn hm).mono ?_
     rintro e w1 ⟨rfl, b1⟩
     have H1 := n0.below b1
     have s0 := (H1.b.cell (p := ⟨b, off, none⟩) lb).trans p0
     have s1 := (H1.b.cell (p := ⟨b, off + 1, none⟩) lb).trans p1
     have s2 := (H1.b.cell (p := ⟨b, off + 2, none⟩) lb).trans p2
     go_wp2_with fail
     refine (sok_any xC xD (x1.below H1.b) (x2.below H1.b) x3 x4).mono ?_
     rintro e w2 ⟨rfl, b2⟩
     have H2 := H1.below b2
     have t0 := (H2.b.cell (p := ⟨b, off + 3, none⟩) lb).trans q0
     have t1 := (H2.b.cell (p := ⟨b, off + 3 + 1, none⟩) lb).trans q1
     have t2 := (H2.b.cell (p := ⟨b, off + 3 + 2, none⟩) lb).trans q2
     go_wp2_with fail
     refine (sok_any yC yD (y1.below H2.b) (y2.below H2.b) y3 y4).mono ?_
     rintro e w3 ⟨rfl, b3⟩
     have H3 := H2.below b3
     have u0 := (H3.b.cell (p := ⟨b, off + 6, none⟩) lb).trans r0
     have u1 := (H3.b.cell (p := ⟨b, off + 6 + 1, none⟩) lb).trans r1
     have u2 := (H3.b.cell (p := ⟨b, off + 6 + 2, none⟩) lb).trans r2
     go_wp2_with fail
     refine (sok_any zC zD (z1.below H3.b) (z2.below H3.b) z3 z4).mono ?_
     rintro e w4 ⟨rfl, b4⟩
     have H4 := H3.below b4
     obtain ⟨g0, g1, g2, g3, g4, g5⟩ := H4.room
     go_wp2
     exact bodyPost_ret (v := formV none 0 0 none 0 0 0) (by simp [results, Tryz.results227, go_sem, g0, g1, g2]) rfl H4.none
  ·clear hno
   have h2' : ((N : Int) != 3) = true := by simpa using h2
   go_enter Tryz.func227, Tryz.ntmps227
   go_wp2_with fail
   refine (sok_any C D (hC.below n0.b) (hD.below n0.b) hn hm).mono ?_
   rintro e w1 ⟨rfl, b1⟩
   have H := n0.below b1
   obtain ⟨r0, r1, r2, r3, r4, r5⟩ := H.room
   go_wp2
   exact bodyPost_ret (v := formV none 0 0 none 0 0 0) (by simp [results, Tryz.results227, go_sem, r0, r1, r2]) rfl H.none
end Go.Proofs.YtacfoeekmcnpjaaGreatDoor
