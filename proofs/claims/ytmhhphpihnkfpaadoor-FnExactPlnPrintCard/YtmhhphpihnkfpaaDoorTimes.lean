/-
  So many times a form: as both texts reckon it.
-/
import Derived.Test.YtmhhphpihnkfpaaDoorLin
namespace Go.Proofs.YtmhhphpihnkfpaaDoor
open Go.RowKit
set_option linter.unusedVariables false

theorem mulL_len (n : Int) (zs : List Int) : (mulL n zs).length = zs.length := by simp [mulL]

theorem wrap_id {x : Int} (h1 : -1000000000000000000 ≤ x) (h2 : x ≤ 1000000000000000000) : IntKind.i64.wrap x = x := by
  simp only [IntKind.wrap, IntKind.signed, IntKind.bits]
  simp
  omega

/-- What a new form's call holds while it goes on: its box, its result's room, old memory. -/
structure TimesH (w : World) (a : Option Addr) (cap : Nat) (c : Option Addr) (cap' : Nat) (K : Int) (w' : World) : Prop where
  p : Cel w' w.heap.size [.slice a 3 cap, .slice c 2 cap', .int .i64 K] 46
  r : Cel w' (w.heap.size + 1) [.slice none 0 0, .slice none 0 0, .int .i64 0] 46
  b : Below w.heap.size w w'
theorem TimesH.below {w W w3 : World} {a c : Option Addr} {cap cap' : Nat} {K : Int} (h : TimesH w a cap c cap' K W) (b : Below W.heap.size W w3) : TimesH w a cap c cap' K w3 :=
  ⟨h.p.below b, h.r.below b, h.b.trans (b.mono h.b.size)⟩
theorem TimesH.drew {w W : World} {a c : Option Addr} {cap cap' : Nat} {K : Int} (h : TimesH w a cap c cap' K W) : TimesH w a cap c cap' K W.drew := ⟨h.p, h.r, h.b.drew⟩
theorem TimesH.alloc {w W : World} {a c : Option Addr} {cap cap' : Nat} {K : Int} (h : TimesH w a cap c cap' K W) (o : Obj) : TimesH w a cap c cap' K (W.alloc o) := h.below ((Below.refl _ _).alloc (Nat.le_refl _) _)
theorem TimesH.set {w W : World} {a c : Option Addr} {cap cap' : Nat} {K : Int} (h : TimesH w a cap c cap' K W) {X : Nat} (hX : w.heap.size + 1 < X) (i : Nat) (v : Value) : TimesH w a cap c cap' K (W.setCell ⟨X, i, none⟩ v) :=
  ⟨h.p.setOther (by omega) i v, h.r.setOther (by omega) i v, h.b.setCell (by show w.heap.size ≤ X; omega) v⟩
theorem Cel.trio {w : World} {B : Nat} {x y z : Value} {t : TypeId} (h : Cel w B [x, y, z] t) : w.cell? ⟨B, 0, none⟩ = some x ∧ w.cell? ⟨B, 1, none⟩ = some y ∧ w.cell? ⟨B, 2, none⟩ = some z ∧ w.frozen? ⟨B, 0, none⟩ = false ∧ w.frozen? ⟨B, 1, none⟩ = false ∧ w.frozen? ⟨B, 2, none⟩ = false := ⟨h.cell 0, h.cell 1, h.cell 2, h.free 0, h.free 1, h.free 2⟩
theorem TimesH.cells {w w' : World} {a c : Option Addr} {cap cap' : Nat} {K : Int} (h : TimesH w a cap c cap' K w') :
    w'.cell? ⟨w.heap.size, 0, none⟩ = some (.slice a 3 cap) ∧ w'.cell? ⟨w.heap.size, 1, none⟩ = some (.slice c 2 cap') ∧ w'.cell? ⟨w.heap.size, 2, none⟩ = some (.int .i64 K) := ⟨h.p.cell 0, h.p.cell 1, h.p.cell 2⟩
theorem TimesH.room {w w' : World} {a c : Option Addr} {cap cap' : Nat} {K : Int} (h : TimesH w a cap c cap' K w') :
    w'.cell? ⟨w.heap.size + 1, 0, none⟩ = some (.slice none 0 0) ∧ w'.cell? ⟨w.heap.size + 1, 1, none⟩ = some (.slice none 0 0) ∧ w'.cell? ⟨w.heap.size + 1, 2, none⟩ = some (.int .i64 0) ∧ w'.frozen? ⟨w.heap.size + 1, 0, none⟩ = false ∧ w'.frozen? ⟨w.heap.size + 1, 1, none⟩ = false ∧ w'.frozen? ⟨w.heap.size + 1, 2, none⟩ = false := ⟨h.r.cell 0, h.r.cell 1, h.r.cell 2, h.r.free 0, h.r.free 1, h.r.free 2⟩

/-- What comes, if it is ok. -/
def keepL (b : Bool) (L : List Int) : List Int := if b then L else []
def keepK (b : Bool) (K : Int) : Int := if b then K else 0
theorem keepL_no (L : List Int) : keepL false L = [] := rfl
theorem keepL_yes (L : List Int) : keepL true L = L := rfl
theorem keepK_no (K : Int) : keepK false K = 0 := rfl
theorem keepK_yes (K : Int) : keepK true K = K := rfl
theorem keepL_len {b : Bool} {L : List Int} {n : Nat} (h : L.length ≤ n) : (keepL b L).length ≤ n := by cases b <;> simp [keepL, h]

/-- Whether so many times a form is ok. -/
def timOk (n m : Nat) (C D : List Int) (K k : Int) : Bool := formB n m C D K && inB k (-10000000) 10000000 && formB 3 2 (mulL k C) (mulL k D) (k * K)

theorem tim_bnd {C : List Int} {k : Int} (h : bnd 10000000 C) (h1 : -10000000 ≤ k) (h2 : k ≤ 10000000) : bndT 1000000000000000000 k C := by
  intro i
  have := bndT_of h h1 h2 (by omega) (by omega) i
  omega
theorem tim_num {K k : Int} (a1 : -10000000 ≤ K) (a2 : K ≤ 10000000) (h1 : -10000000 ≤ k) (h2 : k ≤ 10000000) : -1000000000000000000 ≤ k * K ∧ k * K ≤ 1000000000000000000 := by
  have hx' : k.natAbs ≤ 10000000 := by omega
  have hy' : K.natAbs ≤ 10000000 := by omega
  have hm : (k * K).natAbs ≤ 10000000 * 10000000 := by rw [Int.natAbs_mul]; exact Nat.mul_le_mul hx' hy'
  omega

theorem lin_zero3 {C : List Int} {k : Int} (h : C.length = 3) : lin [0, 0, 0] C k = mulL k C := by
  match C, h with
  | [x, y, z], _ => simp [lin, mulL]
theorem lin_zero2 {D : List Int} {k : Int} (h : D.length = 2) : lin [0, 0] D k = mulL k D := by
  match D, h with
  | [x, y], _ => simp [lin, mulL]
theorem bnd_lit3 : bnd 1000000000000000000 [0, 0, 0] := fun i => by have := bnd_zeros 3 i; simp only [List.replicate] at this; omega
theorem bnd_lit2 : bnd 1000000000000000000 [0, 0] := fun i => by have := bnd_zeros 2 i; simp only [List.replicate] at this; omega

end Go.Proofs.YtmhhphpihnkfpaaDoor
