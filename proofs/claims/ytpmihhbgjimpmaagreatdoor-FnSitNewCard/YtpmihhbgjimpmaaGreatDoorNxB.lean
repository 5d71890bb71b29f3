/-
  Lemmas that the claim's last text rests on.
-/
import Derived.RegionTactic
import Derived.Lib.SmallJoins
import Derived.Deep.Slices
import Derived.Test.YtpmihhbgjimpmaaGreatDoorNxA
namespace Go.Proofs.YtpmihhbgjimpmaaGreatDoor
open Go.RowKit Go.ChangeShapes Go.WideShapes Go.ChangeAt Go.Joins Go.Deep
open World renaming size_alloc → qA
open List renaming getElem?_eq_getElem → qB, getElem?_cons_zero → qC, getElem?_cons_succ → qD, length_map → qE
set_option linter.unusedVariables false
set_option maxRecDepth 100000
set_option maxHeartbeats 25600000
variable {B cap cap' m n : Nat} {C D zs : List Int} {K : Int} {W W' w w' : World} {a ad c : Option Addr} {f : Nat -> Bool}
theorem mulL_len (n : Int) (zs : List Int) : (mulL n zs).length = zs.length := by simp [mulL]
theorem wrap_id {x : Int} (h1 : -1000000000000000000 <= x) (h2 : x <= 1000000000000000000) : IntKind.i64.wrap x = x := by
 simp only [IntKind.wrap, IntKind.signed, IntKind.bits];simp
 omega
structure TimesH (w : World) (a : Option Addr) (cap : Nat) (c : Option Addr) (cap' : Nat) (K : Int) (w' : World) : Prop where
 p : Cel w' w.heap.size [.slice a 3 cap, .slice c 2 cap', .int .i64 K] 95
 r : Cel w' (w.heap.size + 1) [.slice none 0 0, .slice none 0 0, .int .i64 0] 95
 b : Below w.heap.size w w'
theorem TimesH.below {w3 : World} (h : TimesH w a cap c cap' K W) (b : Below W.heap.size W w3) : TimesH w a cap c cap' K w3 :=
 ⟨h.p.below b, h.r.below b, h.b.trans (b.mono h.b.size)⟩
theorem Cel.trio {x y z : Value} {t : TypeId} (h : Cel w B [x, y, z] t) : w.cell? ⟨B, 0, none⟩ = some x /\ w.cell? ⟨B, 1, none⟩ = some y /\ w.cell? ⟨B, 2, none⟩ = some z /\ w.frozen? ⟨B, 0, none⟩ = false /\ w.frozen? ⟨B, 1, none⟩ = false /\ w.frozen? ⟨B, 2, none⟩ = false := ⟨h.cell 0, h.cell 1, h.cell 2, h.free 0, h.free 1, h.free 2⟩
theorem TimesH.cells (h : TimesH w a cap c cap' K w') :
  w'.cell? ⟨w.heap.size, 0, none⟩ = some (.slice a 3 cap) /\ w'.cell? ⟨w.heap.size, 1, none⟩ = some (.slice c 2 cap') /\ w'.cell? ⟨w.heap.size, 2, none⟩ = some (.int .i64 K) := ⟨h.p.cell 0, h.p.cell 1, h.p.cell 2⟩
theorem TimesH.room (h : TimesH w a cap c cap' K w') :
  w'.cell? ⟨w.heap.size + 1, 0, none⟩ = some (.slice none 0 0) /\ w'.cell? ⟨w.heap.size + 1, 1, none⟩ = some (.slice none 0 0) /\ w'.cell? ⟨w.heap.size + 1, 2, none⟩ = some (.int .i64 0) /\ w'.frozen? ⟨w.heap.size + 1, 0, none⟩ = false /\ w'.frozen? ⟨w.heap.size + 1, 1, none⟩ = false /\ w'.frozen? ⟨w.heap.size + 1, 2, none⟩ = false := ⟨h.r.cell 0, h.r.cell 1, h.r.cell 2, h.r.free 0, h.r.free 1, h.r.free 2⟩
theorem times_any (C D : List Int) {n : Int} {w : World}
  (hC : Ints w a 3 C) (hD : Ints w c 2 D) (tC : bndT 1000000000000000000 n C) (tD : bndT 1000000000000000000 n D) (tK : -1000000000000000000 <= n * K /\ n * K <= 1000000000000000000) :
  Calls Tryz.prog 195 #[formV a 3 cap c 2 cap' K, .int .i64 n] w fun e w' => ∃ B1 B2, e = .returned (formV (some ⟨B1, 0, none⟩) 3 3 (some ⟨B2, 0, none⟩) 2 2 (n * K)) /\ Below w.heap.size w w' /\ w.heap.size <= B1 /\ B1 ≠ B2 /\ w.heap.size <= B2 /\ Blk w' B1 (mulL n C) /\ Blk w' B2 (mulL n D) := by
 obtain ⟨tK1, tK2⟩ := tK
 go_enter Tryz.func195, Tryz.ntmps195
 go_wp2_with fail
 have H0 : TimesH w a cap c cap' K (((w.alloc (Obj.cells #[Value.slice a 3 cap, Value.slice c 2 cap', Value.int IntKind.i64 K] 95)).alloc (Obj.cells #[Value.slice none 0 0, Value.slice none 0 0, Value.int IntKind.i64 0] 95)).drew) :=
  ⟨(Cel.new w _ _).alloc _, by have := Cel.new (w.alloc (Obj.cells #[Value.slice a 3 cap, Value.slice c 2 cap', Value.int IntKind.i64 K] 95)) [.slice none 0 0, .slice none 0 0, .int .i64 0] 95; rw [qA] at this; exact this, ((bal).alloc (by simp) _).drew⟩
 go_region_held3 (fun w' => w'.cell? ⟨w.heap.size, 0, none⟩ = some (.slice a 3 cap) /\ w'.cell? ⟨w.heap.size, 1, none⟩ = some (.slice c 2 cap') /\ w'.cell? ⟨w.heap.size, 2, none⟩ = some (.int .i64 K)) (first | assumption | go_keep)
  (first
   | (go_at_call_of 173 (Value.slice a 3 cap); refine (timesEach_any C (hC.below (TimesH.b (a := a) (c := c) (cap := cap) (cap' := cap') (K := K) (by assumption))) (by omega) tC).mono ?_; rintro e w3 ⟨rfl, b3, k3⟩; have h3 := TimesH.below (w := w) (a := a) (c := c) (cap := cap) (cap' := cap') (K := K) (by assumption) b3; have g3 := h3.cells; obtain ⟨x0, x1, x2, x3, x4, x5⟩ := h3.room)
   | (go_at_call_of 173 (Value.slice c 2 cap'); refine (timesEach_any D (hD.below (TimesH.b (a := a) (c := c) (cap := cap) (cap' := cap') (K := K) (by assumption))) (by omega) tD).mono ?_; rintro e w4 ⟨rfl, b4, k4⟩; have h4 := TimesH.below (w := w) (a := a) (c := c) (cap := cap) (cap' := cap') (K := K) (by assumption) b4; have g4 := h4.cells; obtain ⟨y0, y1, y2, y3, y4, y5⟩ := h4.room))
 have hw := wrap_id tK1 tK2;have e3 : ((w.alloc (Obj.cells #[Value.slice a 3 cap, Value.slice c 2 cap', Value.int IntKind.i64 K] 95)).alloc (Obj.cells #[Value.slice none 0 0, Value.slice none 0 0, Value.int IntKind.i64 0] 95)).drew.heap.size = w.heap.size + 1 + 1 := by show (World.alloc _ _).heap.size = _; rw [qA, qA]
 rw [e3] at k3;have k3' := k3.below b4;have l3 := k3.lt;have l4 := k4.lt;have q0 := h4.r.free 0;clear e3 b3 b4 h3 g3 H0 k3
 go_wp2
 refine bodyPost_ret (v := formV (some ⟨w.heap.size + 1 + 1, 0, none⟩) 3 3 (some ⟨w3.heap.size, 0, none⟩) 2 2 (n * K)) (by simp [results, Tryz.results195, go_sem, y0, y1, y2, hw]) rfl ⟨_, _, rfl, ?_, by omega, by omega, by omega, ?_, ?_⟩
 ·exact ((h4.b.setCell (by simp only []; omega) _).setCell (by simp only []; omega) _).setCell (by simp only []; omega) _
 ·exact ((k3'.so).so).so
 exact ((k4.so).so).so
def keepL (b : Bool) (L : List Int) : List Int := if b then L else []
def keepK (b : Bool) (K : Int) : Int := if b then K else 0
theorem keepL_no (L : List Int) : keepL false L = [] := rfl
theorem keepK_no (K : Int) : keepK false K = 0 := rfl
theorem orN_yes (C D : List Int) {w : World} (hC : Ints w a n C) (hD : Ints w c m D) (hn : n <= 1048576) (hm : m <= 1048576) (h : formB n m C D K = true) :
  Calls Tryz.prog 196 #[formV a n cap c m cap' K] w fun e w' => e = .returned (formV a n cap c m cap' K) /\ Below w.heap.size w w' := by
 go_enter Tryz.func196, Tryz.ntmps196
 go_wp2_with fail
 refine (iok_any _ _ _ _ _ C D ((hC.alloc _).alloc _) ((hD.alloc _).alloc _) hn hm).mono ?_;rintro e w1 ⟨rfl, b1⟩;have p0 := ((Cel.new w _ _).alloc _).below b1;have p1 := (Cel.new (w.alloc _) _ _).below b1;rw [qA] at p1;have hb : Below w.heap.size w w1 := ((bal).alloc (by simp) _).trans (b1.mono (by simp; omega));have c0 := p0.cell 0;have c1 := p0.cell 1;have c2 := p0.cell 2;have r0 := p1.cell 0;have r1 := p1.cell 1;have r2 := p1.cell 2;have r3 := p1.free 0;have r4 := p1.free 1;have r5 := p1.free 2;simp only [qC, qD] at c0 c1 c2 r0 r1 r2
 go_wp2
 refine bodyPost_ret (v := formV a n cap c m cap' K) (by simp [results, Tryz.results196, go_sem, r0, r1, r2]) rfl ⟨rfl, ?_⟩
 exact ((hb.setCell (by simp only []; omega) _).setCell (by simp only []; omega) _).setCell (by simp only []; omega) _
theorem orN_no (C D : List Int) {w : World} (hC : Ints w a n C) (hD : Ints w c m D) (hn : n <= 1048576) (hm : m <= 1048576) (h : formB n m C D K = false) :
  Calls Tryz.prog 196 #[formV a n cap c m cap' K] w fun e w' => e = .returned (formV none 0 0 none 0 0 0) /\ Below w.heap.size w w' := by
 go_enter Tryz.func196, Tryz.ntmps196
 go_wp2_with fail
 refine (iok_any _ _ _ _ _ C D ((hC.alloc _).alloc _) ((hD.alloc _).alloc _) hn hm).mono ?_;rintro e w1 ⟨rfl, b1⟩;have p1 := (Cel.new (w.alloc _) _ _).below b1;rw [qA] at p1;have hb : Below w.heap.size w w1 := ((bal).alloc (by simp) _).trans (b1.mono (by simp; omega));have r0 := p1.cell 0;have r1 := p1.cell 1;have r2 := p1.cell 2;have r3 := p1.free 0;have r4 := p1.free 1;have r5 := p1.free 2;simp only [qC, qD] at r0 r1 r2
 go_wp2
 refine bodyPost_ret (v := formV none 0 0 none 0 0 0) (by simp [results, Tryz.results196, go_sem, r0, r1, r2]) rfl ⟨rfl, ?_⟩
 exact ((hb.setCell (by simp only []; omega) _).setCell (by simp only []; omega) _).setCell (by simp only []; omega) _
def timOk (n m : Nat) (C D : List Int) (K k : Int) : Bool := formB n m C D K && inB k (-10000000) 10000000 && formB 3 2 (mulL k C) (mulL k D) (k * K)
theorem tim_bnd {k : Int} (h : bnd 10000000 C) (h1 : -10000000 <= k) (h2 : k <= 10000000) : bndT 1000000000000000000 k C := by
 intro i;have := bndT_of h h1 h2 (by omega) (by omega) i
 omega
theorem tim_num {k : Int} (a1 : -10000000 <= K) (a2 : K <= 10000000) (h1 : -10000000 <= k) (h2 : k <= 10000000) : -1000000000000000000 <= k * K /\ k * K <= 1000000000000000000 := by
 have hx' : k.natAbs <= 10000000 := by omega
 have hy' : K.natAbs <= 10000000 := by omega
 have hm : (k * K).natAbs <= 10000000 * 10000000 := by rw [Int.natAbs_mul]; exact Nat.mul_le_mul hx' hy'
 omega
theorem itim_any (a : Option Addr) (n cap : Nat) (c : Option Addr) (m cap' : Nat) (K : Int) {C D : List Int} (k : Int) (w : World) (hC : Ints w a n C) (hD : Ints w c m D) (hn : n <= 1048576) (hm : m <= 1048576) :
  Calls Tryz.prog 192 #[formV a n cap c m cap' K, .int .i64 k] w fun e w' => Res w w' e (keepL (timOk n m C D K k) (mulL k C)) (keepL (timOk n m C D K k) (mulL k D)) (keepK (timOk n m C D K k) (k * K)) := by
 have bo : ∀ o o' : Obj, Below w.heap.size w ((w.alloc o).alloc o') := fun o o' => (bal).alloc (by simp) _
 cases h1 : formB n m C D K
 ·have ht : timOk n m C D K k = false := by simp [timOk, h1]
  rw [ht, keepL_no, keepL_no, keepK_no]
  go_enter Tryz.func192, Tryz.ntmps192
  go_wp2_with fail
  refine (iok_any _ _ _ _ _ C D ((hC.alloc _).alloc _) ((hD.alloc _).alloc _) hn hm).mono ?_;rintro e w1 ⟨rfl, b1⟩;have p1 := (Cel.new (w.alloc _) _ _).below b1;rw [qA] at p1;have hb : Below w.heap.size w w1 := (bo _ _).trans (b1.mono (by simp; omega));have r0 := p1.cell 0;have r1 := p1.cell 1;have r2 := p1.cell 2;have r3 := p1.free 0;have r4 := p1.free 1;have r5 := p1.free 2;simp only [qC, qD] at r0 r1 r2
  go_wp2
  refine bodyPost_ret (v := formV none 0 0 none 0 0 0) (by simp [results, Tryz.results192, go_sem, r0, r1, r2]) rfl (Res.none rfl ?_)
  exact ((hb.setCell (by simp only []; omega) _).setCell (by simp only []; omega) _).setCell (by simp only []; omega) _
 cases h2 : inB k (-10000000) 10000000
 ·have ht : timOk n m C D K k = false := by simp [timOk, h2]
  rw [ht, keepL_no, keepL_no, keepK_no];have ha : allB 10000000 [k] = false := by rw [allB_one]; exact h2
  go_enter Tryz.func192, Tryz.ntmps192
  go_wp2_with fail
  refine (iok_any _ _ _ _ _ C D ((hC.alloc _).alloc _) ((hD.alloc _).alloc _) hn hm).mono ?_;rintro e w1 ⟨rfl, b1⟩;have p1 := (Cel.new (w.alloc _) _ _).below b1;rw [qA] at p1;have hb : Below w.heap.size w w1 := (bo _ _).trans (b1.mono (by simp; omega));have l1 := p1.lt
  go_wp2_with fail
  refine (within_any (some ⟨w1.heap.size, 0, none⟩) 1 1 [k] ?_ (by omega)).mono ?_
  ·refine ⟨rfl, fun i hi => ⟨w1.heap.size, 0, rfl, ?_⟩⟩;obtain rfl : i = 0 := by omega
   simp [go_sem]
  rintro e w2 ⟨rfl, rfl⟩;have r0 := p1.cell 0;have r1 := p1.cell 1;have r2 := p1.cell 2;have r3 := p1.free 0;have r4 := p1.free 1;have r5 := p1.free 2;simp only [qC, qD] at r0 r1 r2
  go_wp2
  refine bodyPost_ret (v := formV none 0 0 none 0 0 0) (by simp [results, Tryz.results192, go_sem, r0, r1, r2, l1]) rfl (Res.none rfl ?_)
  exact (((hb.setCell (by simp only []; omega) _).setCell (by simp only []; omega) _).setCell (by simp only []; omega) _).alloc (by have := hb.size; rw [size_setCell, size_setCell, size_setCell]; omega) _
 obtain ⟨rfl, rfl, bC, bD, bK1, bK2⟩ := formB_elim h1;obtain ⟨hk1, hk2⟩ := inB_iff.1 h2;have ha : allB 10000000 [k] = true := by rw [allB_one]; exact h2
 have tC := tim_bnd bC hk1 hk2;have tD := tim_bnd bD hk1 hk2;have tK := tim_num bK1 bK2 hk1 hk2;have LC : (mulL k C).length = 3 := by rw [mulL_len]; exact hC.1
 have LD : (mulL k D).length = 2 := by rw [mulL_len]; exact hD.1
 have ht : timOk 3 2 C D K k = formB 3 2 (mulL k C) (mulL k D) (k * K) := by simp [timOk, h1, h2]
 cases h3 : formB 3 2 (mulL k C) (mulL k D) (k * K)
 all_goals
  rw [ht, h3];clear ht
  go_enter Tryz.func192, Tryz.ntmps192
  go_wp2_with fail
  refine (iok_any _ _ _ _ _ C D ((hC.alloc _).alloc _) ((hD.alloc _).alloc _) hn hm).mono ?_;rintro e w1 ⟨rfl, b1⟩;have p0 := ((Cel.new w _ _).alloc _).below b1;have p1 := (Cel.new (w.alloc _) _ _).below b1;rw [qA] at p1;have hb : Below w.heap.size w w1 := (bo _ _).trans (b1.mono (by simp; omega));have l1 := p1.lt;clear b1
  go_wp2_with fail
  refine (within_any (some ⟨w1.heap.size, 0, none⟩) 1 1 [k] ?_ (by omega)).mono ?_
  ·refine ⟨rfl, fun i hi => ⟨w1.heap.size, 0, rfl, ?_⟩⟩;obtain rfl : i = 0 := by omega
   simp [go_sem]
  rintro e w2 ⟨rfl, rfl⟩;have c0 := p0.cell 0;have c1 := p0.cell 1;have c2 := p0.cell 2;simp only [qC, qD] at c0 c1 c2;have l0 := p0.lt
  go_wp2_with fail
  refine (times_any C D ((hC.below hb).alloc _) ((hD.below hb).alloc _) tC tD tK).mono ?_;rintro e w3 ⟨B1, B2, rfl, b3, g1, g2, g3, k1, k2⟩;rw [qA] at g1 g3;have p3 := (p1.alloc _).below b3;have hb3 : Below w.heap.size w w3 := (hb.alloc hb.size _).trans (b3.mono (by have := hb.size; simp; omega));clear b3 c0 c1 c2 p0 p1
  go_wp2_with fail
  first
   | (refine (orN_no (mulL k C) (mulL k D) (k1.ints' LC) (k2.ints' LD) hn hm h3).mono ?_)
   | (refine (orN_yes (mulL k C) (mulL k D) (k1.ints' LC) (k2.ints' LD) hn hm h3).mono ?_)
  rintro e w4 ⟨rfl, b4⟩;have p4 := p3.below b4;have k1' := k1.below b4;have k2' := k2.below b4;have hb4 := btr hb3 b4;have hw1 := hb.size;have r0 := p4.cell 0;have r1 := p4.cell 1;have r2 := p4.cell 2;have r3 := p4.free 0;have r4 := p4.free 1;have r5 := p4.free 2;simp only [qC, qD] at r0 r1 r2;clear b4 p3 p4 k1 k2 hb3 tC tD tK bC bD
  go_wp2
 ·refine bodyPost_ret (v := formV none 0 0 none 0 0 0) (by simp [results, Tryz.results192, go_sem, r0, r1, r2]) rfl (Res.none rfl ?_)
  exact ((hb4.setCell (by simp only []; omega) _).setCell (by simp only []; omega) _).setCell (by simp only []; omega) _
 refine bodyPost_ret (v := formV (some ⟨B1, 0, none⟩) 3 3 (some ⟨B2, 0, none⟩) 2 2 (k * K)) (by simp [results, Tryz.results192, go_sem, r0, r1, r2]) rfl (Res.of (B1 := B1) (B2 := B2) rfl LC LD ?_ (by omega) g2 (by omega) ?_ ?_)
 ·exact ((hb4.setCell (by simp only []; omega) _).setCell (by simp only []; omega) _).setCell (by simp only []; omega) _
 ·exact ((k1'.so).so).so
 exact ((k2'.so).so).so
structure FV where
 a : Option Addr
 n : Nat
 cap : Nat
 c : Option Addr
 m : Nat
 cap' : Nat
 K : Int
 C : List Int
 D : List Int
def FV.ok (f : FV) : Bool := formB f.n f.m f.C f.D f.K
def FV.frm (f : FV) : Frm := (f.C, f.D, f.K)
def noFV : FV := ⟨none, 0, 0, none, 0, 0, 0, [], []⟩
structure FV.At (f : FV) (w : World) : Prop where
 C : Ints w f.a f.n f.C
 D : Ints w f.c f.m f.D
 hn : f.n <= 1048576
 hm : f.m <= 1048576
theorem FV.At.below {f : FV} (h : f.At w) (b : Below w.heap.size w w') : f.At w' := ⟨h.C.below b, h.D.below b, h.hn, h.hm⟩
def FormsG (w : World) (ad : Option Addr) (fs : List FV) : Prop :=
 ∀ i, i < fs.length -> ∃ b off, ad = some ⟨b, off, none⟩ /\ w.cell? ⟨b, off + i * 3, none⟩ = some (.slice (fs[i]?.getD noFV).a (fs[i]?.getD noFV).n (fs[i]?.getD noFV).cap) /\ w.cell? ⟨b, off + i * 3 + 1, none⟩ = some (.slice (fs[i]?.getD noFV).c (fs[i]?.getD noFV).m (fs[i]?.getD noFV).cap') /\ w.cell? ⟨b, off + i * 3 + 2, none⟩ = some (.int .i64 (fs[i]?.getD noFV).K) /\ (fs[i]?.getD noFV).At w
theorem FormsG.below {fs : List FV} (h : FormsG w ad fs) (hb : Below w.heap.size w w') : FormsG w' ad fs := by
 intro i hi;obtain ⟨b, off, e, e0, e1, e2, e3⟩ := h i hi
 exact ⟨b, off, e, (hb.cell (p := ⟨b, off + i * 3, none⟩) (block_lt e0)).trans e0, (hb.cell (p := ⟨b, off + i * 3 + 1, none⟩) (block_lt e0)).trans e1, (hb.cell (p := ⟨b, off + i * 3 + 2, none⟩) (block_lt e0)).trans e2, e3.below hb⟩
theorem FormsG.at {fs : List FV} (h : FormsG w ad fs) (hok : fs.all FV.ok = true) : FormsAt w ad (fs.map FV.frm) /\ ∀ i, i < (fs.map FV.frm).length -> fits 10000000 ((fs.map FV.frm)[i]?.getD ([], [], 0)) := by
 have key : ∀ i, i < fs.length -> (fs.map FV.frm)[i]?.getD ([], [], 0) = (fs[i]?.getD noFV).frm /\ (fs[i]?.getD noFV).ok = true := by
  intro i hi;rw [List.getElem?_map, qB hi];refine ⟨rfl, ?_⟩;rw [List.all_eq_true] at hok
  exact hok _ (List.getElem_mem hi)
 refine ⟨fun i hi => ?_, fun i hi => ?_⟩
 ·rw [qE] at hi;obtain ⟨b, off, e, e0, e1, e2, e3⟩ := h i hi;obtain ⟨k1, k2⟩ := key i hi;obtain ⟨n3, m2, _⟩ := formB_elim k2;have hC := e3.C;have hD := e3.D;rw [n3] at e0 hC;rw [m2] at e1 hD;rw [k1]
  exact ⟨b, off, e, _, _, _, _, e0, e1, e2, hC, hD⟩
 rw [qE] at hi;obtain ⟨b, off, e, e0, e1, e2, e3⟩ := h i hi;obtain ⟨k1, k2⟩ := key i hi;obtain ⟨n3, m2, bC, bD, bK1, bK2⟩ := formB_elim k2;rw [k1]
 exact ⟨by have := e3.C.1; simp only [FV.frm]; omega, by have := e3.D.1; simp only [FV.frm]; omega, bC, bD, bK1, bK2⟩
theorem all_take_succ {fs : List FV} {k : Nat} (h : k < fs.length) (h1 : (fs.take k).all FV.ok = true) (h2 : (fs[k]?.getD noFV).ok = true) : (fs.take (k + 1)).all FV.ok = true := by
 rw [List.take_succ_eq_append_getElem h, List.all_append, h1];rw [qB h] at h2;simpa using h2
theorem all_no {fs : List FV} {k : Nat} (h : k < fs.length) (h2 : (fs[k]?.getD noFV).ok = false) : fs.all FV.ok = false := by
 rw [List.all_eq_false];rw [qB h] at h2
 exact ⟨fs[k], List.getElem_mem h, by simpa using h2⟩
theorem allForms_any (N : Nat) {cap : Nat} (fs : List FV) {w : World} (hN : fs.length = N) (hF : FormsG w ad fs) (hN1 : N <= 1048576) :
  Calls Tryz.prog 193 #[.slice ad N cap] w fun e w' => e = .returned (.bool (fs.all FV.ok)) /\ Below w.heap.size w w' := by
 have HN : Hid (fs.length = N) := hN;clear hN
 go_enter Tryz.func193, Tryz.ntmps193
 go_wp2_with fail
 go_loopw [4, 7] (fun _ i wr => ∃ k : Nat, k <= N /\ i = .int .i64 k /\ Below w.heap.size w wr /\ (fs.take k).all FV.ok = true) (fun _ i _ => N - (intOf i).toNat)
 case atStart => exact ⟨0, Nat.zero_le _, rfl, Below.refl _ _, by simp⟩
 case round =>
  obtain ⟨k, hk, rfl, hb, hall⟩ := hrel;have HA : Hid ((fs.take k).all FV.ok = true) := hall;clear hall
  by_cases hlt : k < N
  ·obtain ⟨b, off, rfl, e0, e1, e2, e3⟩ := (hF.below hb) k (by rw [HN.out]; exact hlt);generalize HG : fs[k]?.getD noFV = g at *;have HG' : Hid (fs[k]?.getD noFV = g) := HG;clear HG hF;obtain ⟨ga, gn, gcap, gc, gm, gcap', gK, gC, gD⟩ := g;obtain ⟨iC, iD, hn, hm⟩ := e3;simp only at e0 e1 e2 iC iD hn hm
   cases hf : formB gn gm gC gD gK
   ·go_wp2_with fail
    refine (iok_any _ _ _ _ _ gC gD (iC.alloc _) (iD.alloc _) hn hm).mono ?_;rintro e w1 ⟨rfl, b1⟩;have B1 := (hb.alloc hb.size _).trans (b1.mono (by have := hb.size; simp; omega))
    go_wp2
    go_ret
    exact ⟨ret_bool (all_no (k := k) (by rw [HN.out]; exact hlt) (by rw [HG'.out]; exact hf)).symm, B1⟩
   go_wp2_with fail
   refine (iok_any _ _ _ _ _ gC gD (iC.alloc _) (iD.alloc _) hn hm).mono ?_;rintro e w1 ⟨rfl, b1⟩;have B1 := (hb.alloc hb.size _).trans (b1.mono (by have := hb.size; simp; omega));clear b1 hb iC iD e0 e1 e2
   go_wp2
   go_roundw
   case rel => exact ⟨k + 1, by omega, by go_num, B1, all_take_succ (by rw [HN.out]; exact hlt) HA.out (by rw [HG'.out]; exact hf)⟩
   case measure => simp [intOf]; omega
  go_wp2
  go_ret
  exact ⟨ret_bool (by have := HA.out; rw [List.take_of_length_le (by rw [HN.out]; omega)] at this; exact this.symm), hb⟩
def addOk (n m : Nat) (C D : List Int) (K : Int) (n2 m2 : Nat) (C2 D2 : List Int) (K2 : Int) : Bool := formB n m C D K && formB n2 m2 C2 D2 K2 && formB 3 2 (lin C C2 1) (lin D D2 1) (K + 1 * K2)
structure H2 (w : World) (a : Option Addr) (n cap : Nat) (c : Option Addr) (m cap' : Nat) (K : Int) (a2 : Option Addr) (n2 cap2 : Nat) (c2 : Option Addr) (m2 cap2' : Nat) (K2 : Int) (w' : World) : Prop where
 p : Cel w' w.heap.size [.slice a n cap, .slice c m cap', .int .i64 K] 95
 q : Cel w' (w.heap.size + 1) [.slice a2 n2 cap2, .slice c2 m2 cap2', .int .i64 K2] 95
 r : Cel w' (w.heap.size + 1 + 1) [.slice none 0 0, .slice none 0 0, .int .i64 0] 95
 b : Below w.heap.size w w'
section
variable {w W w3 : World} {a c a2 c2 : Option Addr} {n cap m cap' n2 cap2 m2 cap2' : Nat} {K K2 : Int}
theorem H2.below (h : H2 w a n cap c m cap' K a2 n2 cap2 c2 m2 cap2' K2 W) (b : Below W.heap.size W w3) : H2 w a n cap c m cap' K a2 n2 cap2 c2 m2 cap2' K2 w3 :=
 ⟨h.p.below b, h.q.below b, h.r.below b, h.b.trans (b.mono h.b.size)⟩
theorem H2.alloc (h : H2 w a n cap c m cap' K a2 n2 cap2 c2 m2 cap2' K2 W) (o : Obj) : H2 w a n cap c m cap' K a2 n2 cap2 c2 m2 cap2' K2 (W.alloc o) := h.below (bal)
theorem H2.new : H2 w a n cap c m cap' K a2 n2 cap2 c2 m2 cap2' K2 (((w.alloc (Obj.cells #[Value.slice a n cap, Value.slice c m cap', Value.int IntKind.i64 K] 95)).alloc (Obj.cells #[Value.slice a2 n2 cap2, Value.slice c2 m2 cap2', Value.int IntKind.i64 K2] 95)).alloc (Obj.cells #[Value.slice none 0 0, Value.slice none 0 0, Value.int IntKind.i64 0] 95)) := by
 have q := (Cel.new (w.alloc (Obj.cells #[Value.slice a n cap, Value.slice c m cap', Value.int IntKind.i64 K] 95)) [.slice a2 n2 cap2, .slice c2 m2 cap2', .int .i64 K2] 95).alloc (Obj.cells #[Value.slice none 0 0, Value.slice none 0 0, Value.int IntKind.i64 0] 95);have r := Cel.new ((w.alloc (Obj.cells #[Value.slice a n cap, Value.slice c m cap', Value.int IntKind.i64 K] 95)).alloc (Obj.cells #[Value.slice a2 n2 cap2, Value.slice c2 m2 cap2', Value.int IntKind.i64 K2] 95)) [.slice none 0 0, .slice none 0 0, .int .i64 0] 95;rw [qA] at q;rw [qA, qA] at r
 exact ⟨((Cel.new w _ _).alloc _).alloc _, q, r, ((bal).alloc (by simp) _).alloc (by simp; omega) _⟩
theorem H2.cells (h : H2 w a n cap c m cap' K a2 n2 cap2 c2 m2 cap2' K2 W) :
  W.cell? ⟨w.heap.size, 0, none⟩ = some (.slice a n cap) /\ W.cell? ⟨w.heap.size, 1, none⟩ = some (.slice c m cap') /\ W.cell? ⟨w.heap.size, 2, none⟩ = some (.int .i64 K) /\
  W.cell? ⟨w.heap.size + 1, 0, none⟩ = some (.slice a2 n2 cap2) /\ W.cell? ⟨w.heap.size + 1, 1, none⟩ = some (.slice c2 m2 cap2') /\ W.cell? ⟨w.heap.size + 1, 2, none⟩ = some (.int .i64 K2) := ⟨h.p.cell 0, h.p.cell 1, h.p.cell 2, h.q.cell 0, h.q.cell 1, h.q.cell 2⟩
theorem H2.room (h : H2 w a n cap c m cap' K a2 n2 cap2 c2 m2 cap2' K2 W) :
  W.cell? ⟨w.heap.size + 1 + 1, 0, none⟩ = some (.slice none 0 0) /\ W.cell? ⟨w.heap.size + 1 + 1, 1, none⟩ = some (.slice none 0 0) /\ W.cell? ⟨w.heap.size + 1 + 1, 2, none⟩ = some (.int .i64 0) /\ W.frozen? ⟨w.heap.size + 1 + 1, 0, none⟩ = false /\ W.frozen? ⟨w.heap.size + 1 + 1, 1, none⟩ = false /\ W.frozen? ⟨w.heap.size + 1 + 1, 2, none⟩ = false := ⟨h.r.cell 0, h.r.cell 1, h.r.cell 2, h.r.free 0, h.r.free 1, h.r.free 2⟩
end
theorem sum_two {C2 D2 : List Int} {K2 : Int} (hC : C.length = 3) (hD : D.length = 2) (hC2 : C2.length = 3) (hD2 : D2.length = 2) :
  sumC [(C, D, K), (C2, D2, K2)] 2 = lin C C2 1 /\ sumD [(C, D, K), (C2, D2, K2)] 2 = lin D D2 1 /\ sumK [(C, D, K), (C2, D2, K2)] 2 = K + 1 * K2 := by
 match C, hC, C2, hC2, D, hD, D2, hD2 with
 | [x, y, z], _, [x', y', z'], _, [u, v], _, [u', v'], _ => simp [sumC, sumD, sumK, lin]
theorem iadd_any (a : Option Addr) (n cap : Nat) (c : Option Addr) (m cap' : Nat) (K : Int) (C D : List Int) (a2 : Option Addr) (n2 cap2 : Nat) (c2 : Option Addr) (m2 cap2' : Nat) (K2 : Int) (C2 D2 : List Int) (w : World) (hC : Ints w a n C) (hD : Ints w c m D) (hC2 : Ints w a2 n2 C2) (hD2 : Ints w c2 m2 D2) (hn : n <= 1048576) (hm : m <= 1048576) (hn2 : n2 <= 1048576) (hm2 : m2 <= 1048576) :
  Calls Tryz.prog 191 #[formV a n cap c m cap' K, formV a2 n2 cap2 c2 m2 cap2' K2] w fun e w' => Res w w' e (keepL (addOk n m C D K n2 m2 C2 D2 K2) (lin C C2 1)) (keepL (addOk n m C D K n2 m2 C2 D2 K2) (lin D D2 1)) (keepK (addOk n m C D K n2 m2 C2 D2 K2) (K + 1 * K2)) := by
 have n0 := H2.new (w := w) (a := a) (n := n) (cap := cap) (c := c) (m := m) (cap' := cap') (K := K) (a2 := a2) (n2 := n2) (cap2 := cap2) (c2 := c2) (m2 := m2) (cap2' := cap2') (K2 := K2);obtain ⟨fs, hfs⟩ : ∃ fs : List FV, fs = [⟨a, n, cap, c, m, cap', K, C, D⟩, ⟨a2, n2, cap2, c2, m2, cap2', K2, C2, D2⟩] := ⟨_, rfl⟩
 have hall : fs.all FV.ok = (formB n m C D K && formB n2 m2 C2 D2 K2) := by rw [hfs]; simp [FV.ok]
 have hlen : fs.length = 2 := by rw [hfs]; rfl
 have hG : ∀ W : World, Below w.heap.size w W -> FormsG (W.alloc (Obj.cells #[Value.slice a n cap, Value.slice c m cap', Value.int IntKind.i64 K, Value.slice a2 n2 cap2, Value.slice c2 m2 cap2', Value.int IntKind.i64 K2] 95)) (some ⟨W.heap.size, 0, none⟩) fs := by
  intro W hb i hi;rw [hfs] at hi ⊢;have hq := Cel.new W [Value.slice a n cap, Value.slice c m cap', Value.int IntKind.i64 K, Value.slice a2 n2 cap2, Value.slice c2 m2 cap2', Value.int IntKind.i64 K2] 95
  match i, hi with
  | 0, _ => exact ⟨_, 0, rfl, hq.cell 0, hq.cell 1, hq.cell 2, ⟨(hC.below hb).alloc _, (hD.below hb).alloc _, hn, hm⟩⟩
  | 1, _ => exact ⟨_, 0, rfl, hq.cell 3, hq.cell 4, hq.cell 5, ⟨(hC2.below hb).alloc _, (hD2.below hb).alloc _, hn2, hm2⟩⟩
 have HG : Hid _ := hG;have HF : Hid _ := hfs;clear hfs hG
 cases h1 : (formB n m C D K && formB n2 m2 C2 D2 K2)
 ·have ht : addOk n m C D K n2 m2 C2 D2 K2 = false := by simp only [addOk, h1, Bool.false_and]
  rw [ht, keepL_no, keepL_no, keepK_no];rw [h1] at hall
  go_enter Tryz.func191, Tryz.ntmps191
  have gg := HG.out _ n0.b;simp only [qA] at gg
  go_wp2_with fail
  refine (allForms_any 2 fs hlen gg (by omega)).mono ?_;rintro e w1 ⟨rfl, b1⟩;have H := (n0.alloc _).below b1;obtain ⟨r0, r1, r2, r3, r4, r5⟩ := H.room;rw [hall]
  go_wp2
  refine bodyPost_ret (v := formV none 0 0 none 0 0 0) (by simp [results, Tryz.results191, go_sem, r0, r1, r2]) rfl (Res.none rfl ?_)
  exact ((H.b.setCell (by simp only []; omega) _).setCell (by simp only []; omega) _).setCell (by simp only []; omega) _
 have h1' := h1;rw [Bool.and_eq_true] at h1';obtain ⟨rfl, rfl, bC, bD, bK1, bK2⟩ := formB_elim h1'.1;obtain ⟨rfl, rfl, bC2, bD2, bK3, bK4⟩ := formB_elim h1'.2;have LC := lin_len (n := 1) hC.1 hC2.1;have LD := lin_len (n := 1) hD.1 hD2.1;have ht : addOk 3 2 C D K 3 2 C2 D2 K2 = formB 3 2 (lin C C2 1) (lin D D2 1) (K + 1 * K2) := by simp only [addOk, h1, Bool.true_and]
 rw [ht];clear ht;rw [h1] at hall;obtain ⟨sC, sD, sK⟩ := sum_two (K := K) (K2 := K2) hC.1 hD.1 hC2.1 hD2.1;have hmap : fs.map FV.frm = [(C, D, K), (C2, D2, K2)] := by rw [HF.out]; rfl
 have HM : Hid _ := hmap;have SC : Hid _ := sC;have SD : Hid _ := sD;have SK : Hid _ := sK;clear hmap sC sD sK h1 h1' bC bD bC2 bD2;obtain ⟨S, hS⟩ : ∃ S, S = K + 1 * K2 := ⟨_, rfl⟩
 have HS : Hid (S = K + 1 * K2) := hS;rw [<- hS];clear hS
 cases h3 : formB 3 2 (lin C C2 1) (lin D D2 1) S
 all_goals
  go_enter Tryz.func191, Tryz.ntmps191
  have gg := HG.out _ n0.b;simp only [qA] at gg
  go_wp2_with fail
  refine (allForms_any 2 fs hlen gg (by omega)).mono ?_;rintro e w1 ⟨rfl, b1⟩;have H1 := (n0.alloc _).below b1;obtain ⟨c0, c1, c2x, c3, c4, c5⟩ := H1.cells;have A1 := H1.r.lt;rw [hall];have fa := (HG.out _ H1.b).at hall;rw [HM.out] at fa;clear gg b1
  go_wp2_with fail
  refine (sum_any _ 2 _ [(C, D, K), (C2, D2, K2)] 10000000 rfl fa.1 fa.2).mono ?_;rintro e w2 ⟨B1, B2, rfl, b2, g1, g2, g3, k1, k2⟩;rw [SC.out] at k1;rw [SD.out] at k2;rw [SK.out, <- HS.out];rw [qA] at g1 g3;have H2' := (H1.alloc _).below b2;clear c0 c1 c2x c3 c4 c5 fa b2
  go_wp2_with fail
  first
   | (refine (orN_no (lin C C2 1) (lin D D2 1) (k1.ints' LC) (k2.ints' LD) hn hm h3).mono ?_)
   | (refine (orN_yes (lin C C2 1) (lin D D2 1) (k1.ints' LC) (k2.ints' LD) hn hm h3).mono ?_)
  rintro e w3 ⟨rfl, b3⟩;have H := H2'.below b3;have k1' := k1.below b3;have k2' := k2.below b3;obtain ⟨r0, r1, r2, r3, r4, r5⟩ := H.room;have A2 := H1.b.size;clear H1 H2' k1 k2 b3 n0 hall
  go_wp2
 ·refine bodyPost_ret (v := formV none 0 0 none 0 0 0) (by simp [results, Tryz.results191, go_sem, r0, r1, r2]) rfl (Res.none rfl ?_)
  exact ((H.b.setCell (by simp only []; omega) _).setCell (by simp only []; omega) _).setCell (by simp only []; omega) _
 refine bodyPost_ret (v := formV (some ⟨B1, 0, none⟩) 3 3 (some ⟨B2, 0, none⟩) 2 2 S) (by simp [results, Tryz.results191, go_sem, r0, r1, r2]) rfl (Res.of (B1 := B1) (B2 := B2) rfl LC LD ?_ (by omega) g2 (by omega) ?_ ?_)
 ·exact ((H.b.setCell (by simp only []; omega) _).setCell (by simp only []; omega) _).setCell (by simp only []; omega) _
 ·exact ((k1'.so).so).so
 exact ((k2'.so).so).so
theorem newsI {b off : Nat} (h : ∀ i, i < n -> w.cell? ⟨b, off + i, none⟩ = some (.int .i64 (zs.getD i 0))) (hl : zs.length = n) : ∀ j u, (zs.map (Value.int .i64))[j]? = some u -> w.cell? ((⟨b, off, none⟩ : Addr).add j) = some u := fun j u hu => by
 have hj : j < n := by
  have := (List.getElem?_eq_some_iff.1 hu).1;simpa [hl] using this
 have hadd : (⟨b, off, none⟩ : Addr).add j = ⟨b, off + j, none⟩ := by
  by_cases h0 : j = 0
  ·subst h0; simp [Addr.add]
  simp [Addr.add, h0]
 rw [hadd, h j hj];rw [List.getElem?_map, qB (by omega)] at hu;simp only [Option.map_some, Option.some.injEq] at hu;rw [<- hu];simp [hl, hj]
theorem oneI : ∀ u ∈ zs.map (Value.int .i64), u.oneCell' = true := fun u hu => by
 obtain ⟨x, _, rfl⟩ := List.mem_map.1 hu
 rfl
theorem JA.copied {g : Nat} (hn : zs.length = n) (hown : W'.ownsRow w.heap.size 3 1 (.slice (some ⟨g, 0, none⟩) (0 + n) cap) (0 + n) ([] ++ zs.map (Value.int .i64))) (hg : (w.alloc (.cells #[] 3)).grownBy W' (Value.ownBlock (.slice (some ⟨w.heap.size, 0, none⟩) 0 0))) :
  JA w (.slice (some ⟨g, 0, none⟩) n cap) zs W' := by
 have h0 := JA.lit w;refine h0.own (ys := zs) ?_ hg;rw [hn];simpa using hown
theorem clone_any (n cap : Nat) (zs : List Int) {w : World} (h : Ints w a n zs) (hn : n <= 1048576 := by omega) (h0 : 0 < n := by omega) :
  Calls Tryz.prog 43 #[.slice a n cap] w fun e w' => ∃ v, e = .returned v /\ JA w v zs w' := by
 have HZ : Hid (zs.length = n) := h.1;obtain ⟨i0, hi, hz0, hz1, hz2⟩ := info_parts Tryz.infoInt;obtain ⟨b, off, rfl, hcell⟩ := h.pos h0
 have hcl : ∀ i, i < n -> (w.alloc (.cells #[] 3)).cell? ⟨b, off + i, none⟩ = some (.int .i64 (zs.getD i 0)) := fun i hi => by
  rw [((Below.refl w.heap.size w).alloc (Nat.le_refl _) _).cell (p := ⟨b, off + i, none⟩) (block_lt (hcell i hi))]; exact hcell i hi
 have HC : Hid _ := newsI hcl HZ.out;have HL : Hid ((zs.map (Value.int .i64)).length = n * 1) := by show _ = _; rw [qE, HZ.out, Nat.mul_one]
 have HJ : Hid _ := (JA.lit w).o;clear hcl hcell h;have hnil : ∀ w, (binOp .eql 24 (.slice (some ⟨b, off, none⟩) n cap) (.slice none 0 0)).run Tryz.prog w = .ok (.bool false) w := fun w => Go.Lib.run_eql_slice_nil w _ _ _ _ _ _ _ Tryz.underlying24
 go_enter Tryz.func43, Tryz.ntmps43
 go_wp2_with (at_builtin; go_must (refine wpList_append_lies _ rfl (.tmp 5) (.tmp 6) 24 rfl w.heap.size 3 i0 (.int .i64 0) 1 8 Tryz.underlying24 hi hz0 hz1 hz2 rfl (by decide) _ 0 [] rfl HJ.out ⟨b, off, none⟩ n cap (zs.map (Value.int .i64)) rfl HL.out HC.out (oneI) h0 (by unfold maxLen; omega) (by omega) (by rw [qA]; omega) _ rfl ?_); intro g cp w1 hown hgrow hat hlt1)
 have j := JA.copied HZ.out hown hgrow;clear hown hgrow
 go_wp2
 go_ret
 exact ⟨_, rfl, j⟩
abbrev sitV (u f : Bool) (r : Int) (ba : Option Addr) (bn bc : Nat) (aa : Option Addr) (an ac : Nat) (da : Option Addr) (dn dc : Nat) : Value := .agg #[.bool u, .bool f, .int .i64 r, .slice ba bn bc, .slice aa an ac, .slice da dn dc]
def DX (W : World) (a : Option Addr) (B n : Nat) (f : Nat -> Int × Int) : Prop :=
 n = 0 \/ (a = some ⟨B, 0, none⟩ /\ ∃ cur : List Value, Cel W B cur 101 /\ ∀ i, i < n -> cur[i * 3]? = some (.int .i64 (f i).1) /\ cur[i * 3 + 1]? = some (.int .i64 (f i).2) /\ cur[i * 3 + 2]? = some (.slice none 0 0))
theorem DX.zero (W : World) (a : Option Addr) (B : Nat) (f : Nat -> Int × Int) : DX W a B 0 f := .inl rfl
theorem DX.lt {f : Nat -> Int × Int} (h : DX W a B n f) (hn : 0 < n) : B < W.heap.size := by
 rcases h with h | ⟨_, cur, hc, _⟩
 ·omega
 exact hc.lt
theorem DX.touch {S : Nat -> Prop} {f : Nat -> Int × Int} (h : DX W a B n f) (t : Touch S W W') (hn : 0 < n -> ¬ S B) : DX W' a B n f := by
 rcases h with h | ⟨e, cur, hc, hv⟩
 ·exact .inl h
 rcases Nat.eq_zero_or_pos n with h0 | h0
 ·exact .inl h0
 exact .inr ⟨e, cur, hc.touch t (hn h0), hv⟩
theorem DX.below {f : Nat -> Int × Int} (h : DX W a B n f) (b : Below W.heap.size W W') : DX W' a B n f := h.touch (S := fun _ => False) (Touch.of b) (fun _ h => h)
structure SitX (W : World) (ba : Option Addr) (B1 bn : Nat) (Bs : List Int) (aa : Option Addr) (B2 an : Nat) (As : List Int) (da : Option Addr) (B3 dn : Nat) (f : Nat -> Int × Int) : Prop where
 o1 : OwnX W ba B1 bn Bs
 o2 : OwnX W aa B2 an As
 d : DX W da B3 dn f
 n12 : 0 < bn -> 0 < an -> B1 ≠ B2
 n13 : 0 < bn -> 0 < dn -> B1 ≠ B3
 n23 : 0 < an -> 0 < dn -> B2 ≠ B3
 z1 : bn <= 3
 z2 : an <= 3
 z3 : dn <= 4
theorem Cel.six6 {x y z u v t' : Value} {t : TypeId} (h : Cel w B [x, y, z, u, v, t'] t) : w.cell? ⟨B, 0, none⟩ = some x /\ w.cell? ⟨B, 1, none⟩ = some y /\ w.cell? ⟨B, 2, none⟩ = some z /\ w.cell? ⟨B, 3, none⟩ = some u /\ w.cell? ⟨B, 4, none⟩ = some v /\ w.cell? ⟨B, 5, none⟩ = some t' := ⟨h.cell 0, h.cell 1, h.cell 2, h.cell 3, h.cell 4, h.cell 5⟩
abbrev clkV (u : Bool) (r : Int) (ba : Option Addr) (bn bc : Nat) (da : Option Addr) (dn dc : Nat) (ga : Option Addr) (gn gc : Nat) : Value := .agg #[.bool u, .int .i64 r, .slice ba bn bc, .slice da dn dc, .slice none 0 0, .slice ga gn gc]
def GX (W : World) (a : Option Addr) (B n : Nat) (f : Nat -> Bool) : Prop :=
 n = 0 \/ (a = some ⟨B, 0, none⟩ /\ ∃ cur : List Value, Cel W B cur 85 /\ ∀ i, i < n -> cur[i * 3]? = some (.bool (f i)) /\ cur[i * 3 + 1]? = some (.slice none 0 0) /\ cur[i * 3 + 2]? = some (.slice none 0 0))
theorem GX.zero (W : World) (a : Option Addr) (B : Nat) (f : Nat -> Bool) : GX W a B 0 f := .inl rfl
theorem GX.lt (h : GX W a B n f) (hn : 0 < n) : B < W.heap.size := by
 rcases h with h | ⟨_, cur, hc, _⟩
 ·omega
 exact hc.lt
theorem GX.touch {S : Nat -> Prop} (h : GX W a B n f) (t : Touch S W W') (hn : 0 < n -> ¬ S B) : GX W' a B n f := by
 rcases h with h | ⟨e, cur, hc, hv⟩
 ·exact .inl h
 rcases Nat.eq_zero_or_pos n with h0 | h0
 ·exact .inl h0
 exact .inr ⟨e, cur, hc.touch t (hn h0), hv⟩
theorem GX.below (h : GX W a B n f) (b : Below W.heap.size W W') : GX W' a B n f := h.touch (S := fun _ => False) (Touch.of b) (fun _ h => h)
/-! Calls that wait, where there are none. -/
structure ClkX (W : World) (ba : Option Addr) (B1 bn : Nat) (Bs : List Int) (da : Option Addr) (B2 dn : Nat) (f : Nat -> Int × Int) (ga : Option Addr) (B3 gn : Nat) (g : Nat -> Bool) : Prop where
 o : OwnX W ba B1 bn Bs
 d : DX W da B2 dn f
 g : GX W ga B3 gn g
 n12 : 0 < bn -> 0 < dn -> B1 ≠ B2
 n13 : 0 < bn -> 0 < gn -> B1 ≠ B3
 n23 : 0 < dn -> 0 < gn -> B2 ≠ B3
 z1 : bn <= 3
 z2 : dn <= 4
 z3 : gn <= 3
section
variable {P : Program} {ops : Array Oper} {Q : Exit -> Act -> World -> Prop} {md : Region.Mode} {S0 S : World -> Prop} {s : Nat}
def wpAnyE (P : Program) (md : Region.Mode) (ops : Array Oper) (Q : Exit -> Act -> World -> Prop) (S0 S : World -> Prop) (s : Nat) : Nat -> Array Bool -> Act -> World -> Prop
 | 0, listed, a, w => Region.ready md ops listed = [] /\ Q .normal a w
 | fuel + 1, listed, a, w =>
  (Region.ready md ops listed = [] -> Q .normal a w) /\
  ∀ i ∈ Region.ready md ops listed, wpOp P ops Q i (fun a' w' => (S0 w' /\ ((listed.setIfInBounds i true).getD s true = false -> S w')) /\ wpAnyE P md ops Q S0 S s fuel (listed.setIfInBounds i true) a' w') a w
theorem wpAny_of_ends : ∀ (fuel : Nat) (listed : Array Bool) (a : Act) (w : World), wpAnyE P md ops Q S0 S s fuel listed a w -> wpAny P md ops Q fuel listed a w
 | 0, _, _, _, h => h
 | fuel + 1, _, _, _, h => ⟨h.1, fun i hi => wpOp_mono (fun a' w' h' => wpAny_of_ends fuel _ a' w' h'.2) (h.2 i hi)⟩
theorem not_waits {i j : Nat} {listed : Array Bool} {oj : Oper} (hr : i ∈ Region.ready md ops listed) (hall : ∀ e ∈ oj.after, Region.binds md e = true -> listed.getD e.on false = true) : ∀ e ∈ oj.after, Region.binds md e = true -> e.on ≠ i := fun e he hb heq => by
 have h1 := hall e he hb;have h0 := (mem_ready.1 hr).1;rw [heq] at h1
 rcases Nat.lt_or_ge i listed.size with h' | h'
 ·simp [h'] at h0 h1; rw [h0] at h1; cases h1
 simp [Array.getElem?_eq_none h'] at h1
theorem wpAnyE_first0 {i : Nat} {oi : Oper} {v : Value} (hi : ops[i]? = some oi) (hsel : ∀ (j : Nat) (o : Oper) cs b, ops[j]? = some o -> o.op ≠ .select cs b)
  (hQ : ∀ c a w, Q (.panic c) (a.put oi.dst v) w -> Q (.panic c) a w) (his : i ≠ s) :
  ∀ (fuel : Nat) (listed : Array Bool) (a : Act) (w : World),
   (∀ j oj, ops[j]? = some oj -> j ≠ i -> listed.getD j true = false -> (∀ e ∈ oj.after, Region.binds md e = true -> e.on ≠ i) -> oi.apart ops oj = true) ->
   i ∈ Region.ready md ops listed -> YieldsIf P ops S0 oi v a -> (S0 w /\ (listed.getD s true = false -> S w)) ->
   wpAnyE P md ops Q S0 S s fuel (listed.setIfInBounds i true) (a.put oi.dst v) w -> wpAnyE P md ops Q S0 S s (fuel + 1) listed a w := by
 intro fuel
 induction fuel with
 | zero =>
  intro listed a w _ hr hy hS H;refine ⟨fun h => (by rw [h] at hr; cases hr), fun j hj => ?_⟩
  by_cases hji : j = i
  ·subst hji; exact hy.wpOp hi hS.1 ⟨⟨hS.1, fun h => hS.2 (by rw [getD_set_ne true his] at h; exact h)⟩, H⟩
  have := ready_mono hj hji;rw [H.1] at this
  cases this
 | succ fuel ih =>
  intro listed a w hfree hr hy hS H;refine ⟨fun h => (by rw [h] at hr; cases hr), fun j hj => ?_⟩
  by_cases hji : j = i
  ·subst hji; exact hy.wpOp hi hS.1 ⟨⟨hS.1, fun h => hS.2 (by rw [getD_set_ne true his] at h; exact h)⟩, H⟩
  have h1 := H.2 j (ready_mono hj hji);obtain ⟨hjun, oj, hoj, hall⟩ := mem_ready.1 hj;have h2 := wpOp_putIf hoj (hfree j oj hoj hji hjun (not_waits (i := i) (j := j) hr hall)) (fun cs b => hsel i oi cs b hi) (fun cs b => hsel j oj cs b hoj) hQ hy h1
  have hfree' : ∀ k ok, ops[k]? = some ok -> k ≠ i -> (listed.setIfInBounds j true).getD k true = false ->
    (∀ e ∈ ok.after, Region.binds md e = true -> e.on ≠ i) -> oi.apart ops ok = true := fun k ok hk hki hun hno => by
   refine hfree k ok hk hki ?_ hno
   by_cases hjk : j = k
   ·subst hjk; exact hjun
   rw [getD_set_ne true hjk] at hun; exact hun
  refine wpOp_mono (fun a' w' h3 => ?_) h2;have hS' : S0 w' /\ ((listed.setIfInBounds j true).getD s true = false -> S w') := ⟨h3.2.1.1, fun h => h3.2.1.2 (by rw [Array.setIfInBounds_comm _ _ (Ne.symm hji), getD_set_ne true his]; exact h)⟩
  refine ⟨hS', ih (listed.setIfInBounds j true) a' w' hfree' (ready_mono hr (Ne.symm hji)) h3.1 hS' ?_⟩;rw [Array.setIfInBounds_comm _ _ hji]
  exact h3.2.2
theorem wpAnyE_first1 {i : Nat} {oi os : Oper} {v : Value} (hi : ops[i]? = some oi) (hsel : ∀ (j : Nat) (o : Oper) cs b, ops[j]? = some o -> o.op ≠ .select cs b)
  (hQ : ∀ c a w, Q (.panic c) (a.put oi.dst v) w -> Q (.panic c) a w) (his : i ≠ s) (hos : ops[s]? = some os) (hw : ∃ e ∈ os.after, Region.binds md e = true /\ e.on = i) :
  ∀ (fuel : Nat) (listed : Array Bool) (a : Act) (w : World),
   (∀ j oj, ops[j]? = some oj -> j ≠ i -> listed.getD j true = false -> (∀ e ∈ oj.after, Region.binds md e = true -> e.on ≠ i) -> oi.apart ops oj = true) ->
   i ∈ Region.ready md ops listed -> listed.getD s true = false -> YieldsIf P ops S oi v a -> (S0 w /\ (listed.getD s true = false -> S w)) ->
   wpAnyE P md ops Q S0 S s fuel (listed.setIfInBounds i true) (a.put oi.dst v) w -> wpAnyE P md ops Q S0 S s (fuel + 1) listed a w := by
 intro fuel
 induction fuel with
 | zero =>
  intro listed a w _ hr hls hy hS H;refine ⟨fun h => (by rw [h] at hr; cases hr), fun j hj => ?_⟩
  by_cases hji : j = i
  ·subst hji; exact hy.wpOp hi (hS.2 hls) ⟨⟨hS.1, fun h => hS.2 (by rw [getD_set_ne true his] at h; exact h)⟩, H⟩
  have := ready_mono hj hji;rw [H.1] at this
  cases this
 | succ fuel ih =>
  intro listed a w hfree hr hls hy hS H;refine ⟨fun h => (by rw [h] at hr; cases hr), fun j hj => ?_⟩
  by_cases hji : j = i
  ·subst hji; exact hy.wpOp hi (hS.2 hls) ⟨⟨hS.1, fun h => hS.2 (by rw [getD_set_ne true his] at h; exact h)⟩, H⟩
  have h1 := H.2 j (ready_mono hj hji);obtain ⟨hjun, oj, hoj, hall⟩ := mem_ready.1 hj;have hnot := not_waits (i := i) (j := j) hr hall
  have hjs : j ≠ s := fun e => by
   subst e;rw [hos] at hoj;obtain ⟨x, hx, hb, ho⟩ := hw;rw [Option.some.injEq] at hoj;subst hoj
   exact hnot x hx hb ho
  have h2 := wpOp_putIf hoj (hfree j oj hoj hji hjun hnot) (fun cs b => hsel i oi cs b hi) (fun cs b => hsel j oj cs b hoj) hQ hy h1
  have hfree' : ∀ k ok, ops[k]? = some ok -> k ≠ i -> (listed.setIfInBounds j true).getD k true = false ->
    (∀ e ∈ ok.after, Region.binds md e = true -> e.on ≠ i) -> oi.apart ops ok = true := fun k ok hk hki hun hno => by
   refine hfree k ok hk hki ?_ hno
   by_cases hjk : j = k
   ·subst hjk; exact hjun
   rw [getD_set_ne true hjk] at hun; exact hun
  have hls' : (listed.setIfInBounds j true).getD s true = false := by rw [getD_set_ne true hjs]; exact hls
  refine wpOp_mono (fun a' w' h3 => ?_) h2;have hS' : S0 w' /\ ((listed.setIfInBounds j true).getD s true = false -> S w') := ⟨h3.2.1.1, fun h => h3.2.1.2 (by rw [Array.setIfInBounds_comm _ _ (Ne.symm hji), getD_set_ne true his]; exact h)⟩
  refine ⟨hS', ih (listed.setIfInBounds j true) a' w' hfree' (ready_mono hr (Ne.symm hji)) hls' h3.1 hS' ?_⟩;rw [Array.setIfInBounds_comm _ _ hji]
  exact h3.2.2
theorem wpAnyE_take0 {i : Nat} {oi : Oper} {v : Value} {fuel : Nat} {listed : Array Bool} {a : Act} {w : World} (hi : ops[i]? = some oi)
  (hs : Region.noSelect ops = true) (hf : Region.free md ops listed i = true) (hr : (Region.ready md ops listed).contains i = true) (his : i ≠ s)
  (hQ : ∀ c a w, Q (.panic c) (a.put oi.dst v) w -> Q (.panic c) a w) (hy : YieldsIf P ops S0 oi v a) (hS : S0 w /\ S w)
  (h : wpAnyE P md ops Q S0 S s fuel (listed.setIfInBounds i true) (a.put oi.dst v) w) : wpAnyE P md ops Q S0 S s (fuel + 1) listed a w :=
 wpAnyE_first0 hi (Region.noSelect_spec hs) hQ his fuel listed a w (Region.free_spec hi hf) (by simpa using hr) hy ⟨hS.1, fun _ => hS.2⟩ h
theorem wpAnyE_take1 {i : Nat} {oi os : Oper} {v : Value} {fuel : Nat} {listed : Array Bool} {a : Act} {w : World} (hi : ops[i]? = some oi) (hos : ops[s]? = some os)
  (hs : Region.noSelect ops = true) (hf : Region.free md ops listed i = true) (hr : (Region.ready md ops listed).contains i = true) (his : i ≠ s) (hls : listed.getD s true = false)
  (hw : ∃ e ∈ os.after, Region.binds md e = true /\ e.on = i)
  (hQ : ∀ c a w, Q (.panic c) (a.put oi.dst v) w -> Q (.panic c) a w) (hy : YieldsIf P ops S oi v a) (hS : S0 w /\ S w)
  (h : wpAnyE P md ops Q S0 S s fuel (listed.setIfInBounds i true) (a.put oi.dst v) w) : wpAnyE P md ops Q S0 S s (fuel + 1) listed a w :=
 wpAnyE_first1 hi (Region.noSelect_spec hs) hQ his hos hw fuel listed a w (Region.free_spec hi hf) (by simpa using hr) hls hy ⟨hS.1, fun _ => hS.2⟩ h
theorem kk0 {S0 : World -> Prop} {c : Prop} {R K : Act -> World -> Prop} (hK : Shut (∀ a w, (S0 w /\ (c -> True)) -> R a w -> K a w)) {a : Act} {w : World} (h : S0 w) (hr : R a w) : K a w := hK.out a w ⟨h, fun _ => trivial⟩ hr
theorem tkE {i : Nat} {oi : Oper} {v : Value} {fuel : Nat} {listed : Array Bool} {a : Act} {w : World} (hi : ops[i]? = some oi) (hy : YieldsIf P ops S0 oi v a) (hS : S0 w /\ S w)
  (h : wpAnyE P md ops Q S0 S s fuel (listed.setIfInBounds i true) (a.put oi.dst v) w)
  (hs : Region.noSelect ops = true := by kernel_rfl) (hf : Region.free md ops listed i = true := by kernel_rfl) (hr : (Region.ready md ops listed).contains i = true := by kernel_rfl) (his : i ≠ s := by decide)
  (hQ : ∀ c a w, Q (.panic c) (a.put oi.dst v) w -> Q (.panic c) a w := by exact fun _ _ _ h => h) : wpAnyE P md ops Q S0 S s (fuel + 1) listed a w :=
 wpAnyE_take0 hi hs hf hr his hQ hy hS h
theorem tkl (i : Nat) {oi : Oper} {v : Value} {fuel : Nat} {listed : Array Bool} {a : Act} {w : World} (hi : ops[i]? = some oi) (hS : S0 w /\ S w)
  (h : wpAnyE P md ops Q S0 S s fuel (listed.setIfInBounds i true) (a.put oi.dst v) w)
  (hw : Region.wanted oi (yielded ops a.tmps) = true := by rfl)
  (hy : ∀ w, S0 w -> (execOp a.eval oi).run P w = .ok (.value v) w := by (intro wz hSw; (try dsimp only at hSw); go_simp; try (with_reducible rfl)))
  (hs : Region.noSelect ops = true := by kernel_rfl) (hf : Region.free md ops listed i = true := by kernel_rfl) (hr : (Region.ready md ops listed).contains i = true := by kernel_rfl) (his : i ≠ s := by decide)
  (hQ : ∀ c a w, Q (.panic c) (a.put oi.dst v) w -> Q (.panic c) a w := by exact fun _ _ _ h => h) : wpAnyE P md ops Q S0 S s (fuel + 1) listed a w :=
 wpAnyE_take0 hi hs hf hr his hQ (Or.inl ⟨hw, hy⟩) hS h
theorem tku (i : Nat) {oi : Oper} {fuel : Nat} {listed : Array Bool} {a : Act} {w : World} (hi : ops[i]? = some oi) (hS : S0 w /\ S w)
  (h : wpAnyE P md ops Q S0 S s fuel (listed.setIfInBounds i true) (a.put oi.dst undef) w)
  (hw : Region.wanted oi (yielded ops a.tmps) = false := by kernel_rfl)
  (hs : Region.noSelect ops = true := by kernel_rfl) (hf : Region.free md ops listed i = true := by kernel_rfl) (hr : (Region.ready md ops listed).contains i = true := by kernel_rfl) (his : i ≠ s := by decide)
  (hQ : ∀ c a w, Q (.panic c) (a.put oi.dst undef) w -> Q (.panic c) a w := by exact fun _ _ _ h => h) : wpAnyE P md ops Q S0 S s (fuel + 1) listed a w :=
 wpAnyE_take0 hi hs hf hr his hQ (Or.inr ⟨hw, rfl⟩) hS h
theorem tkM {i : Nat} {oi os : Oper} {v : Value} {fuel : Nat} {listed : Array Bool} {a : Act} {w : World} (hi : ops[i]? = some oi) (hos : ops[s]? = some os) (hS : S0 w /\ S w)
  (h : wpAnyE P md ops Q S0 S s fuel (listed.setIfInBounds i true) (a.put oi.dst v) w)
  (hw : Region.wanted oi (yielded ops a.tmps) = true := by rfl)
  (hy : ∀ w, S w -> (execOp a.eval oi).run P w = .ok (.value v) w := by (intro wz hSw; (try dsimp only at hSw); go_simp; try (with_reducible rfl)))
  (hs : Region.noSelect ops = true := by kernel_rfl) (hf : Region.free md ops listed i = true := by kernel_rfl) (hr : (Region.ready md ops listed).contains i = true := by kernel_rfl) (his : i ≠ s := by decide)
  (hls : listed.getD s true = false := by rfl) (hb : ∃ e ∈ os.after, Region.binds md e = true /\ e.on = i := by simp [Region.binds])
  (hQ : ∀ c a w, Q (.panic c) (a.put oi.dst v) w -> Q (.panic c) a w := by exact fun _ _ _ h => h) : wpAnyE P md ops Q S0 S s (fuel + 1) listed a w :=
 wpAnyE_take1 hi hos hs hf hr his hls hb hQ (Or.inl ⟨hw, hy⟩) hS h
theorem wpAnyE_one {i : Nat} {o : Oper} {fuel : Nat} {listed : Array Bool} {a : Act} {w : World} (hr : Region.ready md ops listed = [i]) (ho : ops[i]? = some o)
  (h : ∀ K' : Act -> World -> Prop, Shut (∀ a w, (S0 w /\ ((listed.setIfInBounds i true).getD s true = false -> S w)) -> wpAnyE P md ops Q S0 S s fuel (listed.setIfInBounds i true) a w -> K' a w) -> if Region.wanted o (yielded ops a.tmps) = true then Oper.wp P o a w K' Q else K' (a.put o.dst undef) w) : wpAnyE P md ops Q S0 S s (fuel + 1) listed a w := by
 refine ⟨fun h0 => (by rw [hr] at h0; cases h0), fun j hj => ?_⟩;rw [hr] at hj
 rcases List.mem_cons.1 hj with rfl | hj
 ·exact wpOp_step ho (fun K' hK => h K' (fun a w hS hW => hK a w ⟨hS, hW⟩))
 cases hj
theorem wo1 (i : Nat) {o : Oper} {fuel : Nat} {listed : Array Bool} {a : Act} {w : World} (ho : ops[i]? = some o)
  (h : ∀ K' : Act -> World -> Prop, Shut (∀ a w, (S0 w /\ ((listed.setIfInBounds i true).getD s true = false -> S w)) -> wpAnyE P md ops Q S0 S s fuel (listed.setIfInBounds i true) a w -> K' a w) -> if Region.wanted o (yielded ops a.tmps) = true then Oper.wp P o a w K' Q else K' (a.put o.dst undef) w) (hr : Region.ready md ops listed = [i] := by kernel_rfl) : wpAnyE P md ops Q S0 S s (fuel + 1) listed a w := by
 refine ⟨fun h0 => (by rw [hr] at h0; cases h0), fun j hj => ?_⟩;rw [hr] at hj
 rcases List.mem_cons.1 hj with rfl | hj
 ·exact wpOp_step ho (fun K' hK => h K' (fun a w hS hW => hK a w ⟨hS, hW⟩))
 cases hj
theorem wpAnyE_two {i j : Nat} {oi oj : Oper} {fuel : Nat} {listed : Array Bool} {a : Act} {w : World} (hr : Region.ready md ops listed = [i, j]) (hi : ops[i]? = some oi) (hj : ops[j]? = some oj)
  (h1 : ∀ K' : Act -> World -> Prop, Shut (∀ a w, (S0 w /\ ((listed.setIfInBounds i true).getD s true = false -> S w)) -> wpAnyE P md ops Q S0 S s fuel (listed.setIfInBounds i true) a w -> K' a w) -> if Region.wanted oi (yielded ops a.tmps) = true then Oper.wp P oi a w K' Q else K' (a.put oi.dst undef) w)
  (h2 : ∀ K' : Act -> World -> Prop, Shut (∀ a w, (S0 w /\ ((listed.setIfInBounds j true).getD s true = false -> S w)) -> wpAnyE P md ops Q S0 S s fuel (listed.setIfInBounds j true) a w -> K' a w) -> if Region.wanted oj (yielded ops a.tmps) = true then Oper.wp P oj a w K' Q else K' (a.put oj.dst undef) w) : wpAnyE P md ops Q S0 S s (fuel + 1) listed a w := by
 refine ⟨fun h0 => (by rw [hr] at h0; cases h0), fun z hz => ?_⟩;rw [hr] at hz
 rcases List.mem_cons.1 hz with rfl | hz
 ·exact wpOp_step hi (fun K' hK => h1 K' (fun a w hS hW => hK a w ⟨hS, hW⟩))
 rcases List.mem_cons.1 hz with rfl | hz
 ·exact wpOp_step hj (fun K' hK => h2 K' (fun a w hS hW => hK a w ⟨hS, hW⟩))
 cases hz
theorem wo2 (i j : Nat) {oi oj : Oper} {fuel : Nat} {listed : Array Bool} {a : Act} {w : World} (hi : ops[i]? = some oi) (hj : ops[j]? = some oj)
  (h1 : ∀ K' : Act -> World -> Prop, Shut (∀ a w, (S0 w /\ ((listed.setIfInBounds i true).getD s true = false -> S w)) -> wpAnyE P md ops Q S0 S s fuel (listed.setIfInBounds i true) a w -> K' a w) -> if Region.wanted oi (yielded ops a.tmps) = true then Oper.wp P oi a w K' Q else K' (a.put oi.dst undef) w)
  (h2 : ∀ K' : Act -> World -> Prop, Shut (∀ a w, (S0 w /\ ((listed.setIfInBounds j true).getD s true = false -> S w)) -> wpAnyE P md ops Q S0 S s fuel (listed.setIfInBounds j true) a w -> K' a w) -> if Region.wanted oj (yielded ops a.tmps) = true then Oper.wp P oj a w K' Q else K' (a.put oj.dst undef) w) (hr : Region.ready md ops listed = [i, j] := by kernel_rfl) : wpAnyE P md ops Q S0 S s (fuel + 1) listed a w := by
 refine ⟨fun h0 => (by rw [hr] at h0; cases h0), fun z hz => ?_⟩;rw [hr] at hz
 rcases List.mem_cons.1 hz with rfl | hz
 ·exact wpOp_step hi (fun K' hK => h1 K' (fun a w hS hW => hK a w ⟨hS, hW⟩))
 rcases List.mem_cons.1 hz with rfl | hz
 ·exact wpOp_step hj (fun K' hK => h2 K' (fun a w hS hW => hK a w ⟨hS, hW⟩))
 cases hz
theorem wpAnyE_done {listed : Array Bool} {a : Act} {w : World} (hr : Region.ready md ops listed = []) (h : Q .normal a w) : ∀ fuel, wpAnyE P md ops Q S0 S s fuel listed a w
 | 0 => ⟨hr, h⟩
 | _ + 1 => ⟨fun _ => h, by rw [hr]; simp⟩
theorem wp_region_ends {id : Nat} {a : Act} {w : World} (S0 S : World -> Prop) (s : Nat) (hm : P.follows .mixedOrders = true)
  (h : wpAnyE P .any ops Q S0 S s ops.size (Array.replicate ops.size false) a w.drew) : (Code.region id ops true).wp P Q a w :=
 wp_region_any hm (wpAny_of_ends _ _ _ _ h)
theorem wod {listed : Array Bool} {a : Act} {w : World} (h : Q .normal a w) (fuel : Nat) (hr : Region.ready md ops listed = [] := by kernel_rfl) : wpAnyE P md ops Q S0 S s fuel listed a w := wpAnyE_done hr h fuel
end
structure LV where
 kind : Int
 pot : Int
 skip : Int
 f : FV
def LV.cs (l : LV) : List Value := [.int .i64 l.kind, .int .i64 l.pot, .int .i64 l.skip, .slice l.f.a l.f.n l.f.cap, .slice l.f.c l.f.m l.f.cap', .int .i64 l.f.K]
def noLV : LV := ⟨0, 0, 0, noFV⟩
def smallB (n m : Nat) (C D : List Int) (K : Int) : Bool := okN 3 2 n C && okN 2 2 m D && inB K (-20) 20
theorem allB_mono {m m' : Int} (h : m <= m') (ha : allB m zs = true) : allB m' zs = true := by
 unfold allB at *;rw [List.all_eq_true] at *;intro x hx;have := inB_iff.1 (ha x hx)
 exact inB_iff.2 (by omega)
theorem small_ok (h : smallB n m C D K = true) : formB n m C D K = true := by
 simp only [smallB, formB, okN, Bool.and_eq_true, decide_eq_true_eq] at *;obtain ⟨⟨⟨h1, h2⟩, h3, h4⟩, h5⟩ := h
 exact ⟨⟨⟨h1, allB_mono (by omega) h2⟩, h3, allB_mono (by omega) h4⟩, inB_iff.2 (by have := inB_iff.1 h5; omega)⟩
theorem small_eq (h : formB n m C D K = true) : smallB n m C D K = (allB 2 C && allB 2 D && inB K (-20) 20) := by
 simp only [formB, okN, Bool.and_eq_true, decide_eq_true_eq] at h;obtain ⟨⟨⟨h1, _⟩, h3, _⟩, _⟩ := h;simp only [smallB, okN, h1, h3, decide_true, Bool.true_and]
theorem sSmall_any (C D : List Int) {w : World} (hC : Ints w a n C) (hD : Ints w c m D) (hn : n <= 1048576) (hm : m <= 1048576) :
  Calls Tryz.prog 152 #[formV a n cap c m cap' K] w fun e w' => e = .returned (.bool (smallB n m C D K)) /\ Below w.heap.size w w' := by
 cases h1 : okN 3 2 n C
 ·go_enter Tryz.func152, Tryz.ntmps152
  go_wp2_with fail
  refine (all_any C (hC.alloc _) hn).mono ?_;rintro e w1 ⟨rfl, rfl⟩
  go_wp2
  go_ret
  exact ⟨ret_bool (by simp [smallB, h1]), bal⟩
 cases h2 : okN 2 2 m D
 ·go_enter Tryz.func152, Tryz.ntmps152
  go_wp2_with fail
  refine (all_any C (hC.alloc _) hn).mono ?_;rintro e w1 ⟨rfl, rfl⟩
  go_wp2_with fail
  refine (all_any D (hD.alloc _) hm).mono ?_;rintro e w1 ⟨rfl, rfl⟩
  go_wp2
  go_ret
  exact ⟨ret_bool (by simp [smallB, h1, h2]), bal⟩
 go_enter Tryz.func152, Tryz.ntmps152
 go_wp2_with fail
 refine (all_any C (hC.alloc _) hn).mono ?_;rintro e w1 ⟨rfl, rfl⟩
 go_wp2_with fail
 refine (all_any D (hD.alloc _) hm).mono ?_;rintro e w1 ⟨rfl, rfl⟩
 go_wp2_with fail
 refine (in_any).mono ?_;rintro e w1 ⟨rfl, rfl⟩
 go_wp2
 go_ret
 exact ⟨ret_bool (by simp [smallB, h1, h2]), bal⟩
def lineB (kind pot skip : Int) (n m : Nat) (C D : List Int) (K : Int) : Bool :=
 if kind = 1 then (pot == 0) && inB skip 1 6 && smallB n m C D K
 else if kind = 2 then inB pot 0 2 && (skip == 0) && smallB n m C D K
 else if kind = 3 then (pot == 0) && (skip == 0) && smallB n m C D K
 else (kind == 4) && (pot == 0) && (skip == 0) && ((n : Int) + m == 0) && (K == 0)
end Go.Proofs.YtpmihhbgjimpmaaGreatDoor
