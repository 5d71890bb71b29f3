/-
  What the laws on forms draw: forms, lists and numbers in new memory; old memory is as it was. Bytes at most 1048576.
-/
import Derived.Test.YtmdjcfplhmkocaaDoorDrFm
import Derived.Test.YtmdjcfplhmkocaaDoorFvC
namespace Go.Proofs.YtmdjcfplhmkocaaDoor
open Go.RowKit
set_option linter.unusedVariables false
set_option maxRecDepth 100000

theorem Rd.ha {w : World} {R : Nat} {a : Option Addr} {n cap : Nat} {bs : List Int} {p : Int} (h : Rd w R a n cap bs p) : 0 < n → ∀ b o, a = some ⟨b, o, none⟩ → b < w.heap.size := fun h0 b o hab => by
  obtain ⟨b', o', hab', hcc⟩ := h.b.2.1 0 h0
  rw [hab] at hab'
  simp only [Option.some.injEq, Addr.mk.injEq, and_true] at hab'
  have := block_lt hcc
  omega
theorem Ints.off {S : Nat → Prop} {w w' : World} {a : Option Addr} {n : Nat} {zs : List Int} (h : Ints w a n zs) (t : Touch S w w') (hS : ∀ b o, a = some ⟨b, o, none⟩ → ¬ S b) : Ints w' a n zs := by
  refine ⟨h.1, fun i hi => ?_⟩
  obtain ⟨b, off, hab, hc⟩ := h.2 i hi
  exact ⟨b, off, hab, (World.cell?_of_block (t.block b (block_lt hc) (hS b off hab))).trans hc⟩
theorem FA.off {S : Nat → Prop} {w w' : World} {a c : Option Addr} {n m : Nat} {f : Frm} (h : FA w a n c m f) (t : Touch S w w') (h1 : ∀ b o, a = some ⟨b, o, none⟩ → ¬ S b) (h2 : ∀ b o, c = some ⟨b, o, none⟩ → ¬ S b) : FA w' a n c m f := ⟨h.C.off t h1, h.D.off t h2, h.hn, h.hm⟩
theorem FmN.fa {w W : World} {R : Nat} {a : Option Addr} {n cap : Nat} {bs : List Int} {p q : Int} {B1 nC B2 nD : Nat} {C D : List Int} (h : FmN w W R a n cap bs p q B1 nC B2 nD C D) (K : Int) : FA W (some ⟨B1, 0, none⟩) nC (some ⟨B2, 0, none⟩) nD (C, D, K) := ⟨h.c, h.d, by have := h.c4; omega, by have := h.d4; omega⟩
/-- A form that lies past a place. -/
theorem FA.far {S : Nat → Prop} {w w' : World} {B1 B2 n m lo : Nat} {f : Frm} (h : FA w (some ⟨B1, 0, none⟩) n (some ⟨B2, 0, none⟩) m f) (t : Touch S w w') (hS : ∀ k, S k → k < lo) (h1 : lo ≤ B1) (h2 : lo ≤ B2) : FA w' (some ⟨B1, 0, none⟩) n (some ⟨B2, 0, none⟩) m f :=
  h.off t (fun b o e hs => by simp only [Option.some.injEq, Addr.mk.injEq] at e; have := hS b hs; omega) (fun b o e hs => by simp only [Option.some.injEq, Addr.mk.injEq] at e; have := hS b hs; omega)
theorem FA.setFar {w : World} {B1 B2 n m X : Nat} {f : Frm} (h : FA w (some ⟨B1, 0, none⟩) n (some ⟨B2, 0, none⟩) m f) (h1 : B1 ≠ X) (h2 : B2 ≠ X) (i : Nat) (v : Value) : FA (w.setCell ⟨X, i, none⟩ v) (some ⟨B1, 0, none⟩) n (some ⟨B2, 0, none⟩) m f :=
  ⟨h.C.setFar (fun b o e => by simp only [Option.some.injEq, Addr.mk.injEq] at e; omega) i v, h.D.setFar (fun b o e => by simp only [Option.some.injEq, Addr.mk.injEq] at e; omega) i v, h.hn, h.hm⟩

end Go.Proofs.YtmdjcfplhmkocaaDoor
