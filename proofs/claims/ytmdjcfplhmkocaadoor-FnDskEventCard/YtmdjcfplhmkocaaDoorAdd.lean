/-
  The sum of two forms: as both texts reckon it.
-/
import Derived.Test.YtmdjcfplhmkocaaDoorTimes
namespace Go.Proofs.YtmdjcfplhmkocaaDoor
open Go.RowKit
set_option linter.unusedVariables false

/-- A form as it lies in memory. -/
structure FV where
  a : Option Addr
  n : Nat
  cap : Nat
  c : Option Addr
  m : Nat
  cap' : Nat
  K : Int
  C : List Int
  D : List Int
def FV.v (f : FV) : Value := formV f.a f.n f.cap f.c f.m f.cap' f.K
def FV.cs (f : FV) : List Value := [.slice f.a f.n f.cap, .slice f.c f.m f.cap', .int .i64 f.K]
def FV.ok (f : FV) : Bool := formB f.n f.m f.C f.D f.K
def FV.frm (f : FV) : Frm := (f.C, f.D, f.K)
def noFV : FV := ⟨none, 0, 0, none, 0, 0, 0, [], []⟩
structure FV.At (f : FV) (w : World) : Prop where
  C : Ints w f.a f.n f.C
  D : Ints w f.c f.m f.D
  hn : f.n ≤ 1048576
  hm : f.m ≤ 1048576
theorem FV.At.below {f : FV} {w w' : World} (h : f.At w) (b : Below w.heap.size w w') : f.At w' := ⟨h.C.below b, h.D.below b, h.hn, h.hm⟩

/-- A slice of forms in memory, of any lengths. -/
def FormsG (w : World) (ad : Option Addr) (fs : List FV) : Prop :=
  ∀ i, i < fs.length → ∃ b off, ad = some ⟨b, off, none⟩ ∧ w.cell? ⟨b, off + i * 3, none⟩ = some (.slice (fs[i]?.getD noFV).a (fs[i]?.getD noFV).n (fs[i]?.getD noFV).cap) ∧ w.cell? ⟨b, off + i * 3 + 1, none⟩ = some (.slice (fs[i]?.getD noFV).c (fs[i]?.getD noFV).m (fs[i]?.getD noFV).cap') ∧ w.cell? ⟨b, off + i * 3 + 2, none⟩ = some (.int .i64 (fs[i]?.getD noFV).K) ∧ (fs[i]?.getD noFV).At w
theorem FormsG.below {w w' : World} {ad : Option Addr} {fs : List FV} (h : FormsG w ad fs) (hb : Below w.heap.size w w') : FormsG w' ad fs := by
  intro i hi
  obtain ⟨b, off, e, e0, e1, e2, e3⟩ := h i hi
  exact ⟨b, off, e, (hb.cell (p := ⟨b, off + i * 3, none⟩) (block_lt e0)).trans e0, (hb.cell (p := ⟨b, off + i * 3 + 1, none⟩) (block_lt e0)).trans e1, (hb.cell (p := ⟨b, off + i * 3 + 2, none⟩) (block_lt e0)).trans e2, e3.below hb⟩
theorem FormsG.at {w : World} {ad : Option Addr} {fs : List FV} (h : FormsG w ad fs) (hok : fs.all FV.ok = true) : FormsAt w ad (fs.map FV.frm) ∧ ∀ i, i < (fs.map FV.frm).length → fits 10000000 ((fs.map FV.frm)[i]?.getD ([], [], 0)) := by
  have key : ∀ i, i < fs.length → (fs.map FV.frm)[i]?.getD ([], [], 0) = (fs[i]?.getD noFV).frm ∧ (fs[i]?.getD noFV).ok = true := by
    intro i hi
    rw [List.getElem?_map, List.getElem?_eq_getElem hi]
    refine ⟨rfl, ?_⟩
    rw [List.all_eq_true] at hok
    exact hok _ (List.getElem_mem hi)
  refine ⟨fun i hi => ?_, fun i hi => ?_⟩
  · rw [List.length_map] at hi
    obtain ⟨b, off, e, e0, e1, e2, e3⟩ := h i hi
    obtain ⟨k1, k2⟩ := key i hi
    obtain ⟨n3, m2, _⟩ := formB_elim k2
    have hC := e3.C
    have hD := e3.D
    rw [n3] at e0 hC
    rw [m2] at e1 hD
    rw [k1]
    exact ⟨b, off, e, _, _, _, _, e0, e1, e2, hC, hD⟩
  · rw [List.length_map] at hi
    obtain ⟨b, off, e, e0, e1, e2, e3⟩ := h i hi
    obtain ⟨k1, k2⟩ := key i hi
    obtain ⟨n3, m2, bC, bD, bK1, bK2⟩ := formB_elim k2
    rw [k1]
    exact ⟨by have := e3.C.1; simp only [FV.frm]; omega, by have := e3.D.1; simp only [FV.frm]; omega, bC, bD, bK1, bK2⟩

theorem all_take_succ {fs : List FV} {k : Nat} (h : k < fs.length) (h1 : (fs.take k).all FV.ok = true) (h2 : (fs[k]?.getD noFV).ok = true) : (fs.take (k + 1)).all FV.ok = true := by
  rw [List.take_succ_eq_append_getElem h, List.all_append, h1]
  rw [List.getElem?_eq_getElem h] at h2
  simpa using h2
theorem all_no {fs : List FV} {k : Nat} (h : k < fs.length) (h2 : (fs[k]?.getD noFV).ok = false) : fs.all FV.ok = false := by
  rw [List.all_eq_false]
  rw [List.getElem?_eq_getElem h] at h2
  exact ⟨fs[k], List.getElem_mem h, by simpa using h2⟩

/-- Whether a sum is ok. -/
def addOk (n m : Nat) (C D : List Int) (K : Int) (n2 m2 : Nat) (C2 D2 : List Int) (K2 : Int) : Bool := formB n m C D K && formB n2 m2 C2 D2 K2 && formB 3 2 (lin C C2 1) (lin D D2 1) (K + 1 * K2)

section
variable {w W w3 : World} {a c a2 c2 : Option Addr} {n cap m cap' n2 cap2 m2 cap2' : Nat} {K K2 : Int}
end

theorem sum_two {C D C2 D2 : List Int} {K K2 : Int} (hC : C.length = 3) (hD : D.length = 2) (hC2 : C2.length = 3) (hD2 : D2.length = 2) :
    sumC [(C, D, K), (C2, D2, K2)] 2 = lin C C2 1 ∧ sumD [(C, D, K), (C2, D2, K2)] 2 = lin D D2 1 ∧ sumK [(C, D, K), (C2, D2, K2)] 2 = K + 1 * K2 := by
  match C, hC, C2, hC2, D, hD, D2, hD2 with
  | [x, y, z], _, [x', y', z'], _, [u, v], _, [u', v'], _ => simp [sumC, sumD, sumK, lin]

end Go.Proofs.YtmdjcfplhmkocaaDoor
