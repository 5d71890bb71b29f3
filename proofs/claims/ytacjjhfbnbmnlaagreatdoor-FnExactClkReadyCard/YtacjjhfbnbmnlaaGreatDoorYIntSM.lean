/-
  Slices of parts, each in a block of its own: marked and found again (laws.markIntSS, heldIntSS). At most 600000 of them.
-/
import Derived.Test.YtacjjhfbnbmnlaaGreatDoorYCatFI
namespace Go.Proofs.YtacjjhfbnbmnlaaGreatDoor
open Go.RowKit
set_option linter.unusedVariables false
set_option maxRecDepth 100000

/-- Parts in blocks of their own. -/
structure SL (W : World) (a : Option Addr) (G n : Nat) (ts : List IV) (bs : Nat → Nat) (f : Nat → List Int) : Prop where
  c : ∀ j, j < n → a = some ⟨G, 0, none⟩ ∧ W.cell? ⟨G, j, none⟩ = some (.slice (ts[j]?.getD noI).a 3 (ts[j]?.getD noI).cap) ∧ OwnX W (ts[j]?.getD noI).a (bs j) 3 (f j) ∧ bs j ≠ G
  d : ∀ i j, i < j → j < n → bs i < bs j
theorem SL.touch {S : Nat → Prop} {W W' : World} {a : Option Addr} {G n : Nat} {ts : List IV} {bs : Nat → Nat} {f : Nat → List Int} (h : SL W a G n ts bs f) (t : Touch S W W') (hG : 0 < n → ¬ S G) (hb : ∀ j, j < n → ¬ S (bs j)) : SL W' a G n ts bs f :=
  ⟨fun j hj => by
    obtain ⟨h1, h2, h3, h4⟩ := h.c j hj
    refine ⟨h1, ?_, h3.touch t (fun _ => hb j hj), h4⟩
    rw [World.cell?_of_block (t.block G (block_lt h2) (hG (by omega)))]; exact h2, h.d⟩
theorem SL.below {W W' : World} {a : Option Addr} {G n : Nat} {ts : List IV} {bs : Nat → Nat} {f : Nat → List Int} (h : SL W a G n ts bs f) (b : Below W.heap.size W W') : SL W' a G n ts bs f := h.touch (S := fun _ => False) (Touch.of b) (fun _ h => h) (fun _ _ h => h)
theorem SL.ext {W : World} {a : Option Addr} {G n : Nat} {ts : List IV} {bs : Nat → Nat} {f g : Nat → List Int} (h : SL W a G n ts bs f) (e : ∀ j, j < n → f j = g j) : SL W a G n ts bs g := ⟨fun j hj => by rw [← e j hj]; exact h.c j hj, h.d⟩
theorem SL.none (W : World) (a : Option Addr) (G : Nat) (ts : List IV) (bs : Nat → Nat) (f : Nat → List Int) : SL W a G 0 ts bs f := ⟨fun j hj => by omega, fun i j _ hj => by omega⟩
theorem JO.sl {w W : World} {G n cG : Nat} {ts : List IV} {bs : Nat → Nat} (j : JO w (.slice (some ⟨G, 0, Option.none⟩) n cG) ts bs W) (hn : ts.length = n) : SL W (some ⟨G, 0, Option.none⟩) G n ts bs (fun i => (ts[i]?.getD noI).x) := by
  subst hn
  refine ⟨fun i hi => ?_, j.d⟩
  obtain ⟨a, b, c, d⟩ := j.k i hi
  refine ⟨rfl, ?_, b, fun e => d (by rw [e]; rfl)⟩
  rw [own_cell j.o i (by omega), List.getElem?_map, List.getElem?_eq_getElem hi]
  rw [List.getElem?_eq_getElem hi] at a
  simp only [Option.getD_some] at a
  simp [IV.v, a]
theorem SL.isg {W : World} {a : Option Addr} {G n : Nat} {ts : List IV} {bs : Nat → Nat} (h : SL W a G n ts bs (fun i => (ts[i]?.getD noI).x)) (hn : ts.length = n) (h3 : ∀ i, i < n → (ts[i]?.getD noI).n = 3) : ISG W a ts := fun i hi => by
  obtain ⟨h1, h2, hx, _⟩ := h.c i (by omega)
  refine ⟨G, 0, h1, ?_, ?_, by rw [h3 i (by omega)]; omega⟩
  · rw [Nat.zero_add, h2, IV.v, h3 i (by omega)]
  · rw [h3 i (by omega)]; exact hx.ints

end Go.Proofs.YtacjjhfbnbmnlaaGreatDoor
