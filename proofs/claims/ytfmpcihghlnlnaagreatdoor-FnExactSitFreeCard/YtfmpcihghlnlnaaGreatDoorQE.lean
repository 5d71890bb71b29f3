/-
  Lemmas that the claim's last text rests on.
-/
import Derived.Deep.Slices
import Derived.Test.YtfmpcihghlnlnaaGreatDoorQD
namespace Go.Proofs.YtfmpcihghlnlnaaGreatDoor
open Go.RowKit Go.ChangeShapes Go.WideShapes Go.ChangeAt Go.Joins Go.Deep
open World renaming size_alloc → qA
open List renaming getElem?_eq_getElem → qB
set_option linter.unusedVariables false
set_option maxRecDepth 100000
set_option maxHeartbeats 25600000
variable {B N k lo : Nat} {W w w' : World} {ad : Option Addr}
structure FV where
 a : Option Addr
 n : Nat
 cap : Nat
 c : Option Addr
 m : Nat
 cap' : Nat
 K : Int
 C : List Int
 D : List Int
def FV.v (f : FV) : Value := formV f.a f.n f.cap f.c f.m f.cap' f.K
def FV.cs (f : FV) : List Value := [.slice f.a f.n f.cap, .slice f.c f.m f.cap', .int .i64 f.K]
def FV.ok (f : FV) : Bool := formB f.n f.m f.C f.D f.K
def FV.frm (f : FV) : Frm := (f.C, f.D, f.K)
def noFV : FV := ⟨none, 0, 0, none, 0, 0, 0, [], []⟩
structure FV.At (f : FV) (w : World) : Prop where
 C : Ints w f.a f.n f.C
 D : Ints w f.c f.m f.D
 hn : f.n <= 1048576
 hm : f.m <= 1048576
theorem FV.At.below {f : FV} (h : f.At w) (b : Below w.heap.size w w') : f.At w' := ⟨h.C.below b, h.D.below b, h.hn, h.hm⟩
def FormsG (w : World) (ad : Option Addr) (fs : List FV) : Prop :=
 ∀ i, i < fs.length -> ∃ b off, ad = some ⟨b, off, none⟩ /\ w.cell? ⟨b, off + i * 3, none⟩ = some (.slice (fs[i]?.getD noFV).a (fs[i]?.getD noFV).n (fs[i]?.getD noFV).cap) /\ w.cell? ⟨b, off + i * 3 + 1, none⟩ = some (.slice (fs[i]?.getD noFV).c (fs[i]?.getD noFV).m (fs[i]?.getD noFV).cap') /\ w.cell? ⟨b, off + i * 3 + 2, none⟩ = some (.int .i64 (fs[i]?.getD noFV).K) /\ (fs[i]?.getD noFV).At w
theorem FormsG.below {fs : List FV} (h : FormsG w ad fs) (hb : Below w.heap.size w w') : FormsG w' ad fs := by
 intro i hi;obtain ⟨b, off, e, e0, e1, e2, e3⟩ := h i hi
 exact ⟨b, off, e, (hb.cell (p := ⟨b, off + i * 3, none⟩) (block_lt e0)).trans e0, (hb.cell (p := ⟨b, off + i * 3 + 1, none⟩) (block_lt e0)).trans e1, (hb.cell (p := ⟨b, off + i * 3 + 2, none⟩) (block_lt e0)).trans e2, e3.below hb⟩
theorem FormsG.at {fs : List FV} (h : FormsG w ad fs) (hok : fs.all FV.ok = true) : FormsAt w ad (fs.map FV.frm) /\ ∀ i, i < (fs.map FV.frm).length -> fits 10000000 ((fs.map FV.frm)[i]?.getD ([], [], 0)) := by
 have key : ∀ i, i < fs.length -> (fs.map FV.frm)[i]?.getD ([], [], 0) = (fs[i]?.getD noFV).frm /\ (fs[i]?.getD noFV).ok = true := by
  intro i hi;rw [List.getElem?_map, qB hi];refine ⟨rfl, ?_⟩;rw [List.all_eq_true] at hok
  exact hok _ (List.getElem_mem hi)
 refine ⟨fun i hi => ?_, fun i hi => ?_⟩
 ·rw [List.length_map] at hi;obtain ⟨b, off, e, e0, e1, e2, e3⟩ := h i hi;obtain ⟨k1, k2⟩ := key i hi;obtain ⟨n3, m2, _⟩ := formB_elim k2;have hC := e3.C;have hD := e3.D;rw [n3] at e0 hC;rw [m2] at e1 hD;rw [k1]
  exact ⟨b, off, e, _, _, _, _, e0, e1, e2, hC, hD⟩
 rw [List.length_map] at hi;obtain ⟨b, off, e, e0, e1, e2, e3⟩ := h i hi;obtain ⟨k1, k2⟩ := key i hi;obtain ⟨n3, m2, bC, bD, bK1, bK2⟩ := formB_elim k2;rw [k1]
 exact ⟨by have := e3.C.1; simp only [FV.frm]; omega, by have := e3.D.1; simp only [FV.frm]; omega, bC, bD, bK1, bK2⟩
theorem all_take_succ {fs : List FV} (h : k < fs.length) (h1 : (fs.take k).all FV.ok = true) (h2 : (fs[k]?.getD noFV).ok = true) : (fs.take (k + 1)).all FV.ok = true := by
 rw [List.take_succ_eq_append_getElem h, List.all_append, h1];rw [qB h] at h2;simpa using h2
theorem all_no {fs : List FV} (h : k < fs.length) (h2 : (fs[k]?.getD noFV).ok = false) : fs.all FV.ok = false := by
 rw [List.all_eq_false];rw [qB h] at h2
 exact ⟨fs[k], List.getElem_mem h, by simpa using h2⟩
theorem allForms_any (N : Nat) {cap : Nat} (fs : List FV) {w : World} (hN : fs.length = N) (hF : FormsG w ad fs) (hN1 : N <= 1048576) :
  Calls Tryz.prog 181 #[.slice ad N cap] w fun e w' => e = .returned (.bool (fs.all FV.ok)) /\ Below w.heap.size w w' := by
 have HN : Hid (fs.length = N) := hN;clear hN
 go_enter Tryz.func181, Tryz.ntmps181
 go_wp2_with fail
 go_loopw [4, 7] (fun _ i wr => ∃ k : Nat, k <= N /\ i = .int .i64 k /\ Below w.heap.size w wr /\ (fs.take k).all FV.ok = true) (fun _ i _ => N - (intOf i).toNat)
 case atStart => exact ⟨0, Nat.zero_le _, rfl, Below.refl _ _, by simp⟩
 case round =>
  obtain ⟨k, hk, rfl, hb, hall⟩ := hrel;have HA : Hid ((fs.take k).all FV.ok = true) := hall;clear hall
  by_cases hlt : k < N
  ·obtain ⟨b, off, rfl, e0, e1, e2, e3⟩ := (hF.below hb) k (by rw [HN.out]; exact hlt);generalize HG : fs[k]?.getD noFV = g at *;have HG' : Hid (fs[k]?.getD noFV = g) := HG;clear HG hF;obtain ⟨ga, gn, gcap, gc, gm, gcap', gK, gC, gD⟩ := g;obtain ⟨iC, iD, hn, hm⟩ := e3;simp only at e0 e1 e2 iC iD hn hm
   cases hf : formB gn gm gC gD gK
   ·go_wp2_with fail
    refine (iok_any gC gD (iC.alloc _) (iD.alloc _) hn hm).mono ?_;rintro e w1 ⟨rfl, b1⟩;have B1 := (hb.alloc hb.size _).trans (b1.mono (by have := hb.size; simp; omega))
    go_wp2
    go_ret
    exact ⟨ret_bool (all_no (k := k) (by rw [HN.out]; exact hlt) (by rw [HG'.out]; exact hf)).symm, B1⟩
   go_wp2_with fail
   refine (iok_any gC gD (iC.alloc _) (iD.alloc _) hn hm).mono ?_;rintro e w1 ⟨rfl, b1⟩;have B1 := (hb.alloc hb.size _).trans (b1.mono (by have := hb.size; simp; omega));clear b1 hb iC iD e0 e1 e2
   go_wp2
   go_roundw
   case rel => exact ⟨k + 1, by omega, by go_num, B1, all_take_succ (by rw [HN.out]; exact hlt) HA.out (by rw [HG'.out]; exact hf)⟩
   case measure => simp [intOf]; omega
  go_wp2
  go_ret
  exact ⟨ret_bool (by have := HA.out; rw [List.take_of_length_le (by rw [HN.out]; omega)] at this; exact this.symm), hb⟩
def addOk (n m : Nat) (C D : List Int) (K : Int) (n2 m2 : Nat) (C2 D2 : List Int) (K2 : Int) : Bool := formB n m C D K && formB n2 m2 C2 D2 K2 && formB 3 2 (lin C C2 1) (lin D D2 1) (K + 1 * K2)
structure H2 (w : World) (a : Option Addr) (n cap : Nat) (c : Option Addr) (m cap' : Nat) (K : Int) (a2 : Option Addr) (n2 cap2 : Nat) (c2 : Option Addr) (m2 cap2' : Nat) (K2 : Int) (w' : World) : Prop where
 p : Cel w' w.heap.size [.slice a n cap, .slice c m cap', .int .i64 K] 106
 q : Cel w' (w.heap.size + 1) [.slice a2 n2 cap2, .slice c2 m2 cap2', .int .i64 K2] 106
 r : Cel w' (w.heap.size + 1 + 1) [.slice none 0 0, .slice none 0 0, .int .i64 0] 106
 b : Below w.heap.size w w'
section
variable {w W w3 : World} {a c a2 c2 : Option Addr} {n cap m cap' n2 cap2 m2 cap2' : Nat} {K K2 : Int}
theorem H2.below (h : H2 w a n cap c m cap' K a2 n2 cap2 c2 m2 cap2' K2 W) (b : Below W.heap.size W w3) : H2 w a n cap c m cap' K a2 n2 cap2 c2 m2 cap2' K2 w3 :=
 ⟨h.p.below b, h.q.below b, h.r.below b, h.b.trans (b.mono h.b.size)⟩
theorem H2.alloc (h : H2 w a n cap c m cap' K a2 n2 cap2 c2 m2 cap2' K2 W) (o : Obj) : H2 w a n cap c m cap' K a2 n2 cap2 c2 m2 cap2' K2 (W.alloc o) := h.below (bal)
theorem H2.new : H2 w a n cap c m cap' K a2 n2 cap2 c2 m2 cap2' K2 (((w.alloc (Obj.cells #[Value.slice a n cap, Value.slice c m cap', Value.int IntKind.i64 K] 106)).alloc (Obj.cells #[Value.slice a2 n2 cap2, Value.slice c2 m2 cap2', Value.int IntKind.i64 K2] 106)).alloc (Obj.cells #[Value.slice none 0 0, Value.slice none 0 0, Value.int IntKind.i64 0] 106)) := by
 have q := (Cel.new (w.alloc (Obj.cells #[Value.slice a n cap, Value.slice c m cap', Value.int IntKind.i64 K] 106)) [.slice a2 n2 cap2, .slice c2 m2 cap2', .int .i64 K2] 106).alloc (Obj.cells #[Value.slice none 0 0, Value.slice none 0 0, Value.int IntKind.i64 0] 106);have r := Cel.new ((w.alloc (Obj.cells #[Value.slice a n cap, Value.slice c m cap', Value.int IntKind.i64 K] 106)).alloc (Obj.cells #[Value.slice a2 n2 cap2, Value.slice c2 m2 cap2', Value.int IntKind.i64 K2] 106)) [.slice none 0 0, .slice none 0 0, .int .i64 0] 106;rw [qA] at q;rw [qA, qA] at r
 exact ⟨((Cel.new w _ _).alloc _).alloc _, q, r, ((bal).alloc (by simp) _).alloc (by simp; omega) _⟩
theorem H2.cells (h : H2 w a n cap c m cap' K a2 n2 cap2 c2 m2 cap2' K2 W) :
  W.cell? ⟨w.heap.size, 0, none⟩ = some (.slice a n cap) /\ W.cell? ⟨w.heap.size, 1, none⟩ = some (.slice c m cap') /\ W.cell? ⟨w.heap.size, 2, none⟩ = some (.int .i64 K) /\
  W.cell? ⟨w.heap.size + 1, 0, none⟩ = some (.slice a2 n2 cap2) /\ W.cell? ⟨w.heap.size + 1, 1, none⟩ = some (.slice c2 m2 cap2') /\ W.cell? ⟨w.heap.size + 1, 2, none⟩ = some (.int .i64 K2) := ⟨h.p.cell 0, h.p.cell 1, h.p.cell 2, h.q.cell 0, h.q.cell 1, h.q.cell 2⟩
theorem H2.room (h : H2 w a n cap c m cap' K a2 n2 cap2 c2 m2 cap2' K2 W) :
  W.cell? ⟨w.heap.size + 1 + 1, 0, none⟩ = some (.slice none 0 0) /\ W.cell? ⟨w.heap.size + 1 + 1, 1, none⟩ = some (.slice none 0 0) /\ W.cell? ⟨w.heap.size + 1 + 1, 2, none⟩ = some (.int .i64 0) /\ W.frozen? ⟨w.heap.size + 1 + 1, 0, none⟩ = false /\ W.frozen? ⟨w.heap.size + 1 + 1, 1, none⟩ = false /\ W.frozen? ⟨w.heap.size + 1 + 1, 2, none⟩ = false := ⟨h.r.cell 0, h.r.cell 1, h.r.cell 2, h.r.free 0, h.r.free 1, h.r.free 2⟩
end
theorem sum_two {C D C2 D2 : List Int} {K K2 : Int} (hC : C.length = 3) (hD : D.length = 2) (hC2 : C2.length = 3) (hD2 : D2.length = 2) :
  sumC [(C, D, K), (C2, D2, K2)] 2 = lin C C2 1 /\ sumD [(C, D, K), (C2, D2, K2)] 2 = lin D D2 1 /\ sumK [(C, D, K), (C2, D2, K2)] 2 = K + 1 * K2 := by
 match C, hC, C2, hC2, D, hD, D2, hD2 with
 | [x, y, z], _, [x', y', z'], _, [u, v], _, [u', v'], _ => simp [sumC, sumD, sumK, lin]
theorem iadd_any (a : Option Addr) (n cap : Nat) (c : Option Addr) (m cap' : Nat) (K : Int) (C D : List Int) (a2 : Option Addr) (n2 cap2 : Nat) (c2 : Option Addr) (m2 cap2' : Nat) (K2 : Int) (C2 D2 : List Int) (w : World) (hC : Ints w a n C) (hD : Ints w c m D) (hC2 : Ints w a2 n2 C2) (hD2 : Ints w c2 m2 D2) (hn : n <= 1048576) (hm : m <= 1048576) (hn2 : n2 <= 1048576) (hm2 : m2 <= 1048576) :
  Calls Tryz.prog 179 #[formV a n cap c m cap' K, formV a2 n2 cap2 c2 m2 cap2' K2] w fun e w' => Res w w' e (keepL (addOk n m C D K n2 m2 C2 D2 K2) (lin C C2 1)) (keepL (addOk n m C D K n2 m2 C2 D2 K2) (lin D D2 1)) (keepK (addOk n m C D K n2 m2 C2 D2 K2) (K + 1 * K2)) := by
 have n0 := H2.new (w := w) (a := a) (n := n) (cap := cap) (c := c) (m := m) (cap' := cap') (K := K) (a2 := a2) (n2 := n2) (cap2 := cap2) (c2 := c2) (m2 := m2) (cap2' := cap2') (K2 := K2);obtain ⟨fs, hfs⟩ : ∃ fs : List FV, fs = [⟨a, n, cap, c, m, cap', K, C, D⟩, ⟨a2, n2, cap2, c2, m2, cap2', K2, C2, D2⟩] := ⟨_, rfl⟩
 have hall : fs.all FV.ok = (formB n m C D K && formB n2 m2 C2 D2 K2) := by rw [hfs]; simp [FV.ok]
 have hlen : fs.length = 2 := by rw [hfs]; rfl
 have hG : ∀ W : World, Below w.heap.size w W -> FormsG (W.alloc (Obj.cells #[Value.slice a n cap, Value.slice c m cap', Value.int IntKind.i64 K, Value.slice a2 n2 cap2, Value.slice c2 m2 cap2', Value.int IntKind.i64 K2] 106)) (some ⟨W.heap.size, 0, none⟩) fs := by
  intro W hb i hi;rw [hfs] at hi ⊢;have hq := Cel.new W [Value.slice a n cap, Value.slice c m cap', Value.int IntKind.i64 K, Value.slice a2 n2 cap2, Value.slice c2 m2 cap2', Value.int IntKind.i64 K2] 106
  match i, hi with
  | 0, _ => exact ⟨_, 0, rfl, hq.cell 0, hq.cell 1, hq.cell 2, ⟨(hC.below hb).alloc _, (hD.below hb).alloc _, hn, hm⟩⟩
  | 1, _ => exact ⟨_, 0, rfl, hq.cell 3, hq.cell 4, hq.cell 5, ⟨(hC2.below hb).alloc _, (hD2.below hb).alloc _, hn2, hm2⟩⟩
 have HG : Hid _ := hG;have HF : Hid _ := hfs;clear hfs hG
 cases h1 : (formB n m C D K && formB n2 m2 C2 D2 K2)
 ·have ht : addOk n m C D K n2 m2 C2 D2 K2 = false := by simp only [addOk, h1, Bool.false_and]
  rw [ht, keepL_no, keepL_no, keepK_no];rw [h1] at hall
  go_enter Tryz.func179, Tryz.ntmps179
  have gg := HG.out _ n0.b;simp only [qA] at gg
  go_wp2_with fail
  refine (allForms_any 2 fs hlen gg (by omega)).mono ?_;rintro e w1 ⟨rfl, b1⟩;have H := (n0.alloc _).below b1;obtain ⟨r0, r1, r2, r3, r4, r5⟩ := H.room;rw [hall]
  go_wp2
  refine bodyPost_ret (v := formV none 0 0 none 0 0 0) (by simp [results, Tryz.results179, go_sem, r0, r1, r2]) rfl (Res.none rfl ?_)
  exact ((H.b.setCell (by simp only []; omega) _).setCell (by simp only []; omega) _).setCell (by simp only []; omega) _
 have h1' := h1;rw [Bool.and_eq_true] at h1';obtain ⟨rfl, rfl, bC, bD, bK1, bK2⟩ := formB_elim h1'.1;obtain ⟨rfl, rfl, bC2, bD2, bK3, bK4⟩ := formB_elim h1'.2;have LC := lin_len (n := 1) hC.1 hC2.1;have LD := lin_len (n := 1) hD.1 hD2.1;have ht : addOk 3 2 C D K 3 2 C2 D2 K2 = formB 3 2 (lin C C2 1) (lin D D2 1) (K + 1 * K2) := by simp only [addOk, h1, Bool.true_and]
 rw [ht];clear ht;rw [h1] at hall;obtain ⟨sC, sD, sK⟩ := sum_two (K := K) (K2 := K2) hC.1 hD.1 hC2.1 hD2.1;have hmap : fs.map FV.frm = [(C, D, K), (C2, D2, K2)] := by rw [HF.out]; rfl
 have HM : Hid _ := hmap;have SC : Hid _ := sC;have SD : Hid _ := sD;have SK : Hid _ := sK;clear hmap sC sD sK h1 h1' bC bD bC2 bD2;obtain ⟨S, hS⟩ : ∃ S, S = K + 1 * K2 := ⟨_, rfl⟩
 have HS : Hid (S = K + 1 * K2) := hS;rw [<- hS];clear hS
 cases h3 : formB 3 2 (lin C C2 1) (lin D D2 1) S
 all_goals
  go_enter Tryz.func179, Tryz.ntmps179
  have gg := HG.out _ n0.b;simp only [qA] at gg
  go_wp2_with fail
  refine (allForms_any 2 fs hlen gg (by omega)).mono ?_;rintro e w1 ⟨rfl, b1⟩;have H1 := (n0.alloc _).below b1;obtain ⟨c0, c1, c2x, c3, c4, c5⟩ := H1.cells;have A1 := H1.r.lt;rw [hall];have fa := (HG.out _ H1.b).at hall;rw [HM.out] at fa;clear gg b1
  go_wp2_with fail
  refine (sum_any _ 2 _ [(C, D, K), (C2, D2, K2)] 10000000 rfl fa.1 fa.2).mono ?_;rintro e w2 ⟨B1, B2, rfl, b2, g1, g2, g3, k1, k2⟩;rw [SC.out] at k1;rw [SD.out] at k2;rw [SK.out, <- HS.out];rw [qA] at g1 g3;have H2' := (H1.alloc _).below b2;clear c0 c1 c2x c3 c4 c5 fa b2
  go_wp2_with fail
  first
   | (refine (orN_no (lin C C2 1) (lin D D2 1) (k1.ints' LC) (k2.ints' LD) hn hm h3).mono ?_)
   | (refine (orN_yes (lin C C2 1) (lin D D2 1) (k1.ints' LC) (k2.ints' LD) hn hm h3).mono ?_)
  rintro e w3 ⟨rfl, b3⟩;have H := H2'.below b3;have k1' := k1.below b3;have k2' := k2.below b3;obtain ⟨r0, r1, r2, r3, r4, r5⟩ := H.room;have A2 := H1.b.size;clear H1 H2' k1 k2 b3 n0 hall
  go_wp2
 ·refine bodyPost_ret (v := formV none 0 0 none 0 0 0) (by simp [results, Tryz.results179, go_sem, r0, r1, r2]) rfl (Res.none rfl ?_)
  exact ((H.b.setCell (by simp only []; omega) _).setCell (by simp only []; omega) _).setCell (by simp only []; omega) _
 refine bodyPost_ret (v := formV (some ⟨B1, 0, none⟩) 3 3 (some ⟨B2, 0, none⟩) 2 2 S) (by simp [results, Tryz.results179, go_sem, r0, r1, r2]) rfl (Res.of (B1 := B1) (B2 := B2) rfl LC LD ?_ (by omega) g2 (by omega) ?_ ?_)
 ·exact ((H.b.setCell (by simp only []; omega) _).setCell (by simp only []; omega) _).setCell (by simp only []; omega) _
 ·exact ((k1'.so).so).so
 exact ((k2'.so).so).so
def FormsM (w : World) (ad : Option Addr) (fs : List FV) : Prop :=
 ∀ i, i < fs.length -> ∃ b off, ad = some ⟨b, off, none⟩ /\ w.cell? ⟨b, off + i * 3, none⟩ = some (.slice (fs[i]?.getD noFV).a (fs[i]?.getD noFV).n (fs[i]?.getD noFV).cap) /\ w.cell? ⟨b, off + i * 3 + 1, none⟩ = some (.slice (fs[i]?.getD noFV).c (fs[i]?.getD noFV).m (fs[i]?.getD noFV).cap') /\ w.cell? ⟨b, off + i * 3 + 2, none⟩ = some (.int .i64 (fs[i]?.getD noFV).K) /\
  Ints w (fs[i]?.getD noFV).a (fs[i]?.getD noFV).n (fs[i]?.getD noFV).C /\ Ints w (fs[i]?.getD noFV).c (fs[i]?.getD noFV).m (fs[i]?.getD noFV).D /\ (fs[i]?.getD noFV).n <= maxLen /\ (fs[i]?.getD noFV).m <= maxLen
theorem FormsM.below {fs : List FV} (h : FormsM w ad fs) (hb : Below w.heap.size w w') : FormsM w' ad fs := by
 intro i hi;obtain ⟨b, off, e, e0, e1, e2, e3, e4, e5⟩ := h i hi
 exact ⟨b, off, e, (hb.cell (p := ⟨b, off + i * 3, none⟩) (block_lt e0)).trans e0, (hb.cell (p := ⟨b, off + i * 3 + 1, none⟩) (block_lt e0)).trans e1, (hb.cell (p := ⟨b, off + i * 3 + 2, none⟩) (block_lt e0)).trans e2, e3.below hb, e4.below hb, e5⟩
theorem FormsM.g {fs : List FV} (h : FormsM w ad fs) (hs : ∀ i, i < fs.length -> (fs[i]?.getD noFV).n <= 1048576 /\ (fs[i]?.getD noFV).m <= 1048576) : FormsG w ad fs := by
 intro i hi;obtain ⟨b, off, e, e0, e1, e2, e3, e4, e5⟩ := h i hi
 exact ⟨b, off, e, e0, e1, e2, ⟨e3, e4, (hs i hi).1, (hs i hi).2⟩⟩
theorem open_cells3 {H : Type} {enc : TypeId × Value -> H} {fuel : Nat} {t : TypeId} {f0 f1 f2 : Field} {cs : List Value} {x : DataW H × List MemPlace} (hs : Tryz.prog.underlying t = some (.struct #[f0, f1, f2])) (hone : oneCellFields Tryz.prog #[f0, f1, f2] = true) (hC : Tryz.prog.cellsOf t = 3)
  (hf : DataW.trod enc Tryz.prog W 0 (fun _ => true) true fuel t cs = some x) :
  ∃ v0 v1 v2 y0 y1 y2 n, cs = [v0, v1, v2] /\ DataW.trod enc Tryz.prog W 0 (fun _ => true) true n f0.type [v0] = some y0 /\ DataW.trod enc Tryz.prog W 0 (fun _ => true) true n f1.type [v1] = some y1 /\ DataW.trod enc Tryz.prog W 0 (fun _ => true) true n f2.type [v2] = some y2 := by
 obtain ⟨y0, y1, y2, n, _, hl, h0, h1, h2⟩ := trod_struct3 hs hf;obtain ⟨o0, k0⟩ := hone_of hone 0 f0 rfl;obtain ⟨o1, k1⟩ := hone_of hone 1 f1 rfl;obtain ⟨o2, k2⟩ := hone_of hone 2 f2 rfl;have hl' : cs.length = 3 := hl.trans hC
 match cs, hl' with
 | [c0, c1, c2], _ => exact ⟨c0, c1, c2, y0, y1, y2, n, rfl, by simpa [o0, k0] using h0, by simpa [o1, k1] using h1, by simpa [o2, k2] using h2⟩
theorem open_formC {H : Type} {enc : TypeId × Value -> H} {fuel : Nat} {cs : List Value} {x : DataW H × List MemPlace}
  (hf : DataW.trod enc Tryz.prog W 0 (fun _ => true) true fuel 100 cs = some x) :
  ∃ f : FV, cs = f.cs /\ Ints W f.a f.n f.C /\ Ints W f.c f.m f.D /\ f.n <= maxLen /\ f.m <= maxLen := by
 obtain ⟨v0, v1, v2, y0, y1, y2, k, rfl, h0, h1, h2⟩ := open_cells3 Tryz.underlying100 (by kernel_rfl) (by kernel_rfl) hf;obtain ⟨a, n, cap, C, rfl, hC, hn⟩ := open_row h0;obtain ⟨c, m, cap', D, rfl, hD, hm⟩ := open_row h1;obtain ⟨K, rfl, wK⟩ := open_num h2
 exact ⟨⟨a, n, cap, c, m, cap', K, C, D⟩, rfl, hC, hD, hn, hm⟩
theorem cells_at {b off n : Nat} {cs : List Value} (h : W.cells? 0 ⟨b, off, none⟩ n = some cs) (i : Nat) (hi : i < n) : W.cell? ⟨b, off + i, none⟩ = cs[i]? := by
 have := (World.cells?_some h).2.2 i hi
 by_cases h0 : i = 0
 ·subst h0; simpa [Addr.add] using this
 simpa [Addr.add, h0] using this
theorem open_sliceC {α : Type} (d0 : α) (cf : α -> List Value) {H : Type} {enc : TypeId × Value -> H} {W : World} (R : α -> Prop) {S E : TypeId} {c : Nat} (hc : 0 < c) (hS : Tryz.prog.underlying S = some (.slice E)) (hE : Tryz.prog.cellsOf E = c) (hlen : ∀ a, (cf a).length = c)
  (hel : ∀ (fuel : Nat) (cs : List Value) (x : DataW H × List MemPlace), DataW.trod enc Tryz.prog W 0 (fun _ => true) true fuel E cs = some x -> ∃ a, cs = cf a /\ R a) {fuel : Nat} {v : Value} {y : DataW H × List MemPlace}
  (hf : DataW.trod enc Tryz.prog W 0 (fun _ => true) true fuel S [v] = some y) :
  ∃ (ad : Option Addr) (N cap : Nat) (xs : List α), v = .slice ad N cap /\ xs.length = N /\ N <= maxLen /\ ∀ i, i < xs.length -> ∃ b off, ad = some ⟨b, off, none⟩ /\ (∀ r, r < c -> W.cell? ⟨b, off + i * c + r, none⟩ = (cf (xs[i]?.getD d0))[r]?) /\ R (xs[i]?.getD d0) := by
 rcases open_slice hS hf with ⟨hcs, _⟩ | ⟨a, len, cap, m, n, D, Pl, hcs, _, hl, hm, hmm, _, hall⟩
 ·simp at hcs
  exact ⟨none, 0, 0, [], hcs, rfl, by unfold maxLen; omega, fun i hi => by simp at hi⟩
 simp at hcs;obtain rfl : m = cap := by simpa using hmm
 rw [hE] at hall
 have hex : ∀ i, i < len -> ∃ f : α, W.cells? 0 (a.add (i * c)) c = some (cf f) /\ R f := fun i hi => by
  obtain ⟨cs', h1, h2⟩ := hall i (by omega);obtain ⟨f, rfl, h3⟩ := hel _ _ _ h2
  exact ⟨f, h1, h3⟩
 have : ∃ F : Nat -> α, ∀ i, i < len -> W.cells? 0 (a.add (i * c)) c = some (cf (F i)) /\ R (F i) := by
  classical
  refine ⟨fun i => if hi : i < len then Classical.choose (hex i hi) else d0, fun i hi => ?_⟩;simp only [dif_pos hi]
  exact Classical.choose_spec (hex i hi)
 obtain ⟨F, hF⟩ := this;refine ⟨some a, len, m, (List.range len).map F, hcs, by simp, by omega, fun i hi => ?_⟩;have hi' : i < len := by simpa using hi
 have hg : ((List.range len).map F)[i]?.getD d0 = F i := by simp [hi']
 rw [hg];obtain ⟨h1, h2⟩ := hF i hi';obtain ⟨b, off, spot⟩ := a
 have hspot : spot = none := by
  have h0 := (World.cells?_some (hF 0 (by omega)).1).2.2 0 hc;have h3 : ∃ x, (cf (F 0))[0]? = some x := ⟨_, qB (by rw [hlen]; exact hc)⟩
  obtain ⟨x, h3⟩ := h3;rw [h3] at h0;simpa [Addr.add] using World.cell?_spot h0
 subst hspot
 have hadd : (⟨b, off, none⟩ : Addr).add (i * c) = ⟨b, off + i * c, none⟩ := by
  by_cases h0 : i * c = 0
  ·rw [h0]; simp [Addr.add]
  simp [Addr.add, h0]
 rw [hadd] at h1
 exact ⟨b, off, rfl, fun r hr => cells_at h1 r hr, h2⟩
structure IV where
 a : Option Addr
 n : Nat
 cap : Nat
 x : List Int
def noI : IV := ⟨none, 0, 0, []⟩
def IV.v (s : IV) : Value := .slice s.a s.n s.cap
def IM (w : World) (s : IV) : Prop := Ints w s.a s.n s.x /\ s.n <= maxLen
def IG (w : World) (s : IV) : Prop := Ints w s.a s.n s.x /\ s.n <= 1048576
def IS (s : IV) : Prop := s.n <= 1048576
def IK (w : World) (lo : Nat) (s : IV) : Prop := ∃ B, s.a = some ⟨B, 0, none⟩ /\ lo <= B /\ Blk w B s.x /\ s.x.length = s.n /\ s.n <= 1048576
def copiesI (s t : IV) : Prop := t.n = s.n /\ t.x = s.x
def sameI (s t : IV) : Prop := s.x = t.x
theorem IM.below {s : IV} (h : IM w s) (hb : Below w.heap.size w w') : IM w' s := ⟨h.1.below hb, h.2⟩
theorem IG.below {s : IV} (h : IG w s) (hb : Below w.heap.size w w') : IG w' s := ⟨h.1.below hb, h.2⟩
theorem IM.g {s : IV} (h : IM w s) (hs : IS s) : IG w s := ⟨h.1, hs⟩
theorem IK.below {s : IV} (h : IK w lo s) (hb : Below w.heap.size w w') : IK w' lo s := by
 obtain ⟨B, h1, h2, h3, h4⟩ := h
 exact ⟨B, h1, h2, h3.below hb, h4⟩
theorem IK.touch {S : Nat -> Prop} {s : IV} (h : IK w lo s) (t : Touch S w w') (hs : ∀ k, S k -> k < lo) : IK w' lo s := by
 obtain ⟨B, h1, h2, h3, h4⟩ := h;refine ⟨B, h1, h2, ?_, h4⟩;unfold Blk at *;rw [t.block B (lt_of_block h3) (fun hh => by have := hs _ hh; omega)]; exact h3
theorem IK.mono {lo' : Nat} {s : IV} (h : IK w lo s) (hl : lo' <= lo) : IK w lo' s := by
 obtain ⟨B, h1, h2, h3⟩ := h
 exact ⟨B, h1, by omega, h3⟩
theorem IK.g {s : IV} (h : IK w lo s) : IG w s := by
 obtain ⟨B, h1, h2, h3, h4, h5⟩ := h;refine ⟨?_, h5⟩;rw [h1, <- h4]; exact h3.ints
theorem szI_ex {a : Option Addr} {n cap : Nat} (x : List Int) {l : Int} {w : World} (h : IM w ⟨a, n, cap, x⟩) (h0 : 0 <= l) (hl : l <= 1048576) :
  Calls Tryz.prog 16 #[.slice a n cap, .int .i64 l] w fun e w' => ∃ r, e = .returned (.int .i64 r) /\ -1 <= r /\ r <= 1048576 /\ (0 <= r -> IS ⟨a, n, cap, x⟩) /\ Below w.heap.size w w' := by
 refine (sz_any a n cap l w h.2 h0 hl).mono ?_;rintro e w' ⟨rfl, rfl⟩;refine ⟨_, rfl, leftOf_ge _ _, ?_, fun hr => ?_, Below.refl _ _⟩
 ·by_cases hh : 0 <= leftOf l n
  ·have := leftOf_le hh; omega
  omega
 have := leftOf_le hr
 show n <= 1048576
 omega
def ISM (w : World) (ad : Option Addr) (ss : List IV) : Prop :=
 ∀ i, i < ss.length -> ∃ b off, ad = some ⟨b, off, none⟩ /\ w.cell? ⟨b, off + i, none⟩ = some (ss[i]?.getD noI).v /\ IM w (ss[i]?.getD noI)
def ISG (w : World) (ad : Option Addr) (ss : List IV) : Prop :=
 ∀ i, i < ss.length -> ∃ b off, ad = some ⟨b, off, none⟩ /\ w.cell? ⟨b, off + i, none⟩ = some (ss[i]?.getD noI).v /\ IG w (ss[i]?.getD noI)
theorem ISM.below {ss : List IV} (h : ISM w ad ss) (hb : Below w.heap.size w w') : ISM w' ad ss := fun i hi => by
 obtain ⟨b, off, e, hc, hr⟩ := h i hi
 exact ⟨b, off, e, by rw [hb.cell (p := ⟨b, off + i, none⟩) (block_lt hc)]; exact hc, hr.below hb⟩
theorem ISG.below {ss : List IV} (h : ISG w ad ss) (hb : Below w.heap.size w w') : ISG w' ad ss := fun i hi => by
 obtain ⟨b, off, e, hc, hr⟩ := h i hi
 exact ⟨b, off, e, by rw [hb.cell (p := ⟨b, off + i, none⟩) (block_lt hc)]; exact hc, hr.below hb⟩
theorem ISM.g {ss : List IV} (h : ISM w ad ss) (hs : ∀ i, i < ss.length -> IS (ss[i]?.getD noI)) : ISG w ad ss := fun i hi => by
 obtain ⟨b, off, e, hc, hr⟩ := h i hi
 exact ⟨b, off, e, hc, hr.g (hs i hi)⟩
def copiesIS (ss ts : List IV) : Prop := ∀ i, i < ts.length -> copiesI (ss[i]?.getD noI) (ts[i]?.getD noI)
structure MI (W : World) (B N : Nat) (ts : List IV) : Prop where
 c : ∃ vs : List Value, Cel W B vs 23 /\ vs.length = N /\ ∀ i, i < ts.length -> vs[i]? = some (ts[i]?.getD noI).v
 l : ∀ i, i < ts.length -> IK W (B + 1) (ts[i]?.getD noI)
theorem MI.lt {ts : List IV} (h : MI W B N ts) : B < W.heap.size := by
 obtain ⟨vs, h1, _⟩ := h.c
 exact h1.lt
theorem MI.below {W' : World} {ts : List IV} (h : MI W B N ts) (b : Below W.heap.size W W') : MI W' B N ts := by
 obtain ⟨vs, h1, h2, h3⟩ := h.c
 exact ⟨⟨vs, h1.below b, h2, h3⟩, fun i hi => (h.l i hi).below b⟩
theorem MI.g {ts : List IV} (h : MI W B N ts) : ISG W (some ⟨B, 0, none⟩) ts := fun i hi => by
 obtain ⟨vs, h1, h2, h3⟩ := h.c
 exact ⟨B, 0, rfl, by rw [Nat.zero_add, h1.cell i, h3 i hi], (h.l i hi).g⟩
theorem MI.step {W1 : World} {ts : List IV} {s : IV} (h : MI W B N ts) (hk : ts.length = k) (hkN : k < N) (b : Below W.heap.size W W1) (hs : IK W1 W.heap.size s) : MI (W1.setCell ⟨B, k, none⟩ s.v) B N (ts ++ [s]) := by
 have hB := h.lt;obtain ⟨vs, h1, h2, h3⟩ := (h.below b).c;have T : Touch (fun x => x = B) W1 (W1.setCell ⟨B, k, none⟩ s.v) := Touch.setCell (S := fun x => x = B) (Touch.refl _ _) rfl _;refine ⟨⟨vs.set k s.v, h1.set _ _, by rw [List.length_set]; exact h2, fun i hi => ?_⟩, fun i hi => ?_⟩
 ·rw [List.length_append, hk] at hi;simp only [List.length_cons, List.length_nil] at hi
  by_cases e : i = k
  ·subst e;rw [List.getElem?_set_self (by omega), List.getElem?_append_right (by omega), hk]; simp
  rw [List.getElem?_set_ne (by omega), List.getElem?_append_left (by omega)]
  exact h3 i (by omega)
 rw [List.length_append, hk] at hi;simp only [List.length_cons, List.length_nil] at hi
 by_cases e : i = k
 ·subst e;rw [List.getElem?_append_right (by omega), hk];simp only [Nat.sub_self, List.getElem?_cons_zero, Option.getD_some]
  exact (hs.mono (by omega)).touch T (fun x hx => by omega)
 rw [List.getElem?_append_left (by omega)]
 exact (((h.l i (by omega)).below b)).touch T (fun x hx => by omega)
theorem Tryz.infoI : (Tryz.prog.info? 23).map (fun i => (i.zero, i.size, i.bytes)) = some (some (.slice none 0 0), 1, 24) := by kernel_rfl
end Go.Proofs.YtfmpcihghlnlnaaGreatDoor
