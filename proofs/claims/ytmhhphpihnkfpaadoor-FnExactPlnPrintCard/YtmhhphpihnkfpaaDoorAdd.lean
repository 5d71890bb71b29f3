/-
  The sum of two forms: as both texts reckon it.
-/
import Derived.Test.YtmhhphpihnkfpaaDoorTimes
namespace Go.Proofs.YtmhhphpihnkfpaaDoor
open Go.RowKit
set_option linter.unusedVariables false

/-- A form as it lies in memory. -/
structure FV where
  a : Option Addr
  n : Nat
  cap : Nat
  c : Option Addr
  m : Nat
  cap' : Nat
  K : Int
  C : List Int
  D : List Int
def FV.v (f : FV) : Value := formV f.a f.n f.cap f.c f.m f.cap' f.K
def FV.cs (f : FV) : List Value := [.slice f.a f.n f.cap, .slice f.c f.m f.cap', .int .i64 f.K]
def FV.ok (f : FV) : Bool := formB f.n f.m f.C f.D f.K
def FV.frm (f : FV) : Frm := (f.C, f.D, f.K)
def noFV : FV := ⟨none, 0, 0, none, 0, 0, 0, [], []⟩
structure FV.At (f : FV) (w : World) : Prop where
  C : Ints w f.a f.n f.C
  D : Ints w f.c f.m f.D
  hn : f.n ≤ 1048576
  hm : f.m ≤ 1048576
theorem FV.At.below {f : FV} {w w' : World} (h : f.At w) (b : Below w.heap.size w w') : f.At w' := ⟨h.C.below b, h.D.below b, h.hn, h.hm⟩

/-- A slice of forms in memory, of any lengths. -/
def FormsG (w : World) (ad : Option Addr) (fs : List FV) : Prop :=
  ∀ i, i < fs.length → ∃ b off, ad = some ⟨b, off, none⟩ ∧ w.cell? ⟨b, off + i * 3, none⟩ = some (.slice (fs[i]?.getD noFV).a (fs[i]?.getD noFV).n (fs[i]?.getD noFV).cap) ∧ w.cell? ⟨b, off + i * 3 + 1, none⟩ = some (.slice (fs[i]?.getD noFV).c (fs[i]?.getD noFV).m (fs[i]?.getD noFV).cap') ∧ w.cell? ⟨b, off + i * 3 + 2, none⟩ = some (.int .i64 (fs[i]?.getD noFV).K) ∧ (fs[i]?.getD noFV).At w
theorem FormsG.below {w w' : World} {ad : Option Addr} {fs : List FV} (h : FormsG w ad fs) (hb : Below w.heap.size w w') : FormsG w' ad fs := by
  intro i hi
  obtain ⟨b, off, e, e0, e1, e2, e3⟩ := h i hi
  exact ⟨b, off, e, (hb.cell (p := ⟨b, off + i * 3, none⟩) (block_lt e0)).trans e0, (hb.cell (p := ⟨b, off + i * 3 + 1, none⟩) (block_lt e0)).trans e1, (hb.cell (p := ⟨b, off + i * 3 + 2, none⟩) (block_lt e0)).trans e2, e3.below hb⟩
theorem FormsG.at {w : World} {ad : Option Addr} {fs : List FV} (h : FormsG w ad fs) (hok : fs.all FV.ok = true) : FormsAt w ad (fs.map FV.frm) ∧ ∀ i, i < (fs.map FV.frm).length → fits 10000000 ((fs.map FV.frm)[i]?.getD ([], [], 0)) := by
  have key : ∀ i, i < fs.length → (fs.map FV.frm)[i]?.getD ([], [], 0) = (fs[i]?.getD noFV).frm ∧ (fs[i]?.getD noFV).ok = true := by
    intro i hi
    rw [List.getElem?_map, List.getElem?_eq_getElem hi]
    refine ⟨rfl, ?_⟩
    rw [List.all_eq_true] at hok
    exact hok _ (List.getElem_mem hi)
  refine ⟨fun i hi => ?_, fun i hi => ?_⟩
  · rw [List.length_map] at hi
    obtain ⟨b, off, e, e0, e1, e2, e3⟩ := h i hi
    obtain ⟨k1, k2⟩ := key i hi
    obtain ⟨n3, m2, _⟩ := formB_elim k2
    have hC := e3.C
    have hD := e3.D
    rw [n3] at e0 hC
    rw [m2] at e1 hD
    rw [k1]
    exact ⟨b, off, e, _, _, _, _, e0, e1, e2, hC, hD⟩
  · rw [List.length_map] at hi
    obtain ⟨b, off, e, e0, e1, e2, e3⟩ := h i hi
    obtain ⟨k1, k2⟩ := key i hi
    obtain ⟨n3, m2, bC, bD, bK1, bK2⟩ := formB_elim k2
    rw [k1]
    exact ⟨by have := e3.C.1; simp only [FV.frm]; omega, by have := e3.D.1; simp only [FV.frm]; omega, bC, bD, bK1, bK2⟩

theorem all_take_succ {fs : List FV} {k : Nat} (h : k < fs.length) (h1 : (fs.take k).all FV.ok = true) (h2 : (fs[k]?.getD noFV).ok = true) : (fs.take (k + 1)).all FV.ok = true := by
  rw [List.take_succ_eq_append_getElem h, List.all_append, h1]
  rw [List.getElem?_eq_getElem h] at h2
  simpa using h2
theorem all_no {fs : List FV} {k : Nat} (h : k < fs.length) (h2 : (fs[k]?.getD noFV).ok = false) : fs.all FV.ok = false := by
  rw [List.all_eq_false]
  rw [List.getElem?_eq_getElem h] at h2
  exact ⟨fs[k], List.getElem_mem h, by simpa using h2⟩

/-- Whether a sum is ok. -/
def addOk (n m : Nat) (C D : List Int) (K : Int) (n2 m2 : Nat) (C2 D2 : List Int) (K2 : Int) : Bool := formB n m C D K && formB n2 m2 C2 D2 K2 && formB 3 2 (lin C C2 1) (lin D D2 1) (K + 1 * K2)

/-- What a call on two forms holds while it goes on: both boxes, its result's room, old memory. -/
structure H2 (w : World) (a : Option Addr) (n cap : Nat) (c : Option Addr) (m cap' : Nat) (K : Int) (a2 : Option Addr) (n2 cap2 : Nat) (c2 : Option Addr) (m2 cap2' : Nat) (K2 : Int) (w' : World) : Prop where
  p : Cel w' w.heap.size [.slice a n cap, .slice c m cap', .int .i64 K] 46
  q : Cel w' (w.heap.size + 1) [.slice a2 n2 cap2, .slice c2 m2 cap2', .int .i64 K2] 46
  r : Cel w' (w.heap.size + 1 + 1) [.slice none 0 0, .slice none 0 0, .int .i64 0] 46
  b : Below w.heap.size w w'
section
variable {w W w3 : World} {a c a2 c2 : Option Addr} {n cap m cap' n2 cap2 m2 cap2' : Nat} {K K2 : Int}
theorem H2.below (h : H2 w a n cap c m cap' K a2 n2 cap2 c2 m2 cap2' K2 W) (b : Below W.heap.size W w3) : H2 w a n cap c m cap' K a2 n2 cap2 c2 m2 cap2' K2 w3 :=
  ⟨h.p.below b, h.q.below b, h.r.below b, h.b.trans (b.mono h.b.size)⟩
theorem H2.alloc (h : H2 w a n cap c m cap' K a2 n2 cap2 c2 m2 cap2' K2 W) (o : Obj) : H2 w a n cap c m cap' K a2 n2 cap2 c2 m2 cap2' K2 (W.alloc o) := h.below ((Below.refl _ _).alloc (Nat.le_refl _) _)
theorem H2.new : H2 w a n cap c m cap' K a2 n2 cap2 c2 m2 cap2' K2 (((w.alloc (Obj.cells #[Value.slice a n cap, Value.slice c m cap', Value.int IntKind.i64 K] 46)).alloc (Obj.cells #[Value.slice a2 n2 cap2, Value.slice c2 m2 cap2', Value.int IntKind.i64 K2] 46)).alloc (Obj.cells #[Value.slice none 0 0, Value.slice none 0 0, Value.int IntKind.i64 0] 46)) := by
  have q := (Cel.new (w.alloc (Obj.cells #[Value.slice a n cap, Value.slice c m cap', Value.int IntKind.i64 K] 46)) [.slice a2 n2 cap2, .slice c2 m2 cap2', .int .i64 K2] 46).alloc (Obj.cells #[Value.slice none 0 0, Value.slice none 0 0, Value.int IntKind.i64 0] 46)
  have r := Cel.new ((w.alloc (Obj.cells #[Value.slice a n cap, Value.slice c m cap', Value.int IntKind.i64 K] 46)).alloc (Obj.cells #[Value.slice a2 n2 cap2, Value.slice c2 m2 cap2', Value.int IntKind.i64 K2] 46)) [.slice none 0 0, .slice none 0 0, .int .i64 0] 46
  rw [World.size_alloc] at q
  rw [World.size_alloc, World.size_alloc] at r
  exact ⟨((Cel.new w _ _).alloc _).alloc _, q, r, (((Below.refl _ _).alloc (Nat.le_refl _) _).alloc (by simp) _).alloc (by simp; omega) _⟩
theorem H2.cells (h : H2 w a n cap c m cap' K a2 n2 cap2 c2 m2 cap2' K2 W) :
    W.cell? ⟨w.heap.size, 0, none⟩ = some (.slice a n cap) ∧ W.cell? ⟨w.heap.size, 1, none⟩ = some (.slice c m cap') ∧ W.cell? ⟨w.heap.size, 2, none⟩ = some (.int .i64 K) ∧
    W.cell? ⟨w.heap.size + 1, 0, none⟩ = some (.slice a2 n2 cap2) ∧ W.cell? ⟨w.heap.size + 1, 1, none⟩ = some (.slice c2 m2 cap2') ∧ W.cell? ⟨w.heap.size + 1, 2, none⟩ = some (.int .i64 K2) := ⟨h.p.cell 0, h.p.cell 1, h.p.cell 2, h.q.cell 0, h.q.cell 1, h.q.cell 2⟩
theorem H2.room (h : H2 w a n cap c m cap' K a2 n2 cap2 c2 m2 cap2' K2 W) :
    W.cell? ⟨w.heap.size + 1 + 1, 0, none⟩ = some (.slice none 0 0) ∧ W.cell? ⟨w.heap.size + 1 + 1, 1, none⟩ = some (.slice none 0 0) ∧ W.cell? ⟨w.heap.size + 1 + 1, 2, none⟩ = some (.int .i64 0) ∧ W.frozen? ⟨w.heap.size + 1 + 1, 0, none⟩ = false ∧ W.frozen? ⟨w.heap.size + 1 + 1, 1, none⟩ = false ∧ W.frozen? ⟨w.heap.size + 1 + 1, 2, none⟩ = false := ⟨h.r.cell 0, h.r.cell 1, h.r.cell 2, h.r.free 0, h.r.free 1, h.r.free 2⟩
end

theorem sum_two {C D C2 D2 : List Int} {K K2 : Int} (hC : C.length = 3) (hD : D.length = 2) (hC2 : C2.length = 3) (hD2 : D2.length = 2) :
    sumC [(C, D, K), (C2, D2, K2)] 2 = lin C C2 1 ∧ sumD [(C, D, K), (C2, D2, K2)] 2 = lin D D2 1 ∧ sumK [(C, D, K), (C2, D2, K2)] 2 = K + 1 * K2 := by
  match C, hC, C2, hC2, D, hD, D2, hD2 with
  | [x, y, z], _, [x', y', z'], _, [u, v], _, [u', v'], _ => simp [sumC, sumD, sumK, lin]

end Go.Proofs.YtmhhphpihnkfpaaDoor
