/-
  One form of a copy overwritten. No condition.
-/
import Derived.Test.YtdigmokjedckeaaGreatDoorIntoW
namespace Go.Proofs.YtdigmokjedckeaaGreatDoor
open Go.RowKit
set_option linter.unusedVariables false

theorem Ints.by {W W' : World} {G : Nat} {a : Option Addr} {n : Nat} {zs : List Int} (h : Ints W a n zs) (t : Touch (fun x => x = G) W W') (hne : ∀ b o, a = some ⟨b, o, none⟩ → b ≠ G) : Ints W' a n zs := by
  refine ⟨h.1, fun i hi => ?_⟩
  obtain ⟨b, off, e, hc⟩ := h.2 i hi
  refine ⟨b, off, e, ?_⟩
  rw [World.cell?_of_block (t.block b (block_lt hc) (hne b off e))]
  exact hc

theorem JF.put {base W : World} {G cp : Nat} {xs : List Value} {fs : List Frm} (j : JF base G cp 3 xs fs W) (hn : fs.length = 3) {p : Nat} (hp : p < 3) {B1 B2 ca cc : Nat} {C D : List Int} {K : Int} (k1 : Blk W B1 C) (l1 : C.length = 3) (k2 : Blk W B2 D) (l2 : D.length = 2) (n1 : B1 ≠ G) (n2 : B2 ≠ G) :
    FormsAt (((W.setCell ⟨G, p * 3, none⟩ (.slice (some ⟨B1, 0, none⟩) 3 ca)).setCell ⟨G, p * 3 + 1, none⟩ (.slice (some ⟨B2, 0, none⟩) 2 cc)).setCell ⟨G, p * 3 + 2, none⟩ (.int .i64 K)) (some ⟨G, 0, none⟩) (fs.set p (C, D, K)) := by
  have hT := j.t
  have hx := j.o.1
  rcases j.o.2 with ⟨h, _⟩ | ⟨g, cap', cur, h, hg, hh, hl, _, hcs, ht⟩
  · cases h
  simp only [Value.slice.injEq, Option.some.injEq, Addr.mk.injEq, and_true, true_and] at h
  obtain ⟨rfl, rfl⟩ := h
  have cel : Cel W G cur.toList 98 := by unfold Cel; simpa using hh
  have hlen : 9 ≤ cur.toList.length := by
    have := congrArg List.length ht
    rw [List.length_take, hx] at this
    omega
  have hat : ∀ i, i < 9 → cur.toList[i]? = xs[i]? := fun i hi => by
    rw [← ht, List.getElem?_take, if_pos (by omega)]
  have c3 := ((cel.set (p * 3) (.slice (some ⟨B1, 0, none⟩) 3 ca)).set (p * 3 + 1) (.slice (some ⟨B2, 0, none⟩) 2 cc)).set (p * 3 + 2) (.int .i64 K)
  have tt : Touch (fun x => x = G) W (((W.setCell ⟨G, p * 3, none⟩ (.slice (some ⟨B1, 0, none⟩) 3 ca)).setCell ⟨G, p * 3 + 1, none⟩ (.slice (some ⟨B2, 0, none⟩) 2 cc)).setCell ⟨G, p * 3 + 2, none⟩ (.int .i64 K)) := (((Touch.refl (fun x => x = G) W).setCell rfl _).setCell rfl _).setCell rfl _
  have m1 := (k1.ints' l1).by tt (fun b o e => by simp only [Option.some.injEq, Addr.mk.injEq, and_true] at e; omega)
  have m2 := (k2.ints' l2).by tt (fun b o e => by simp only [Option.some.injEq, Addr.mk.injEq, and_true] at e; omega)
  intro i hi
  rw [List.length_set, hn] at hi
  by_cases e : p = i
  · subst e
    rw [List.getElem?_set_self (by omega)]
    refine ⟨G, 0, rfl, _, _, ca, cc, ?_, ?_, ?_, m1, m2⟩
    · rw [Nat.zero_add, c3.cell, List.getElem?_set_ne (by omega), List.getElem?_set_ne (by omega), List.getElem?_set_self (by omega)]
    · rw [Nat.zero_add, c3.cell, List.getElem?_set_ne (by omega), List.getElem?_set_self (by rw [List.length_set]; omega)]
    · rw [Nat.zero_add, c3.cell, List.getElem?_set_self (by rw [List.length_set, List.length_set]; omega)]; rfl
  · rw [List.getElem?_set_ne e]
    obtain ⟨a', c', x, y, e0, e1, e2, i1, i2, q1, q2⟩ := hT i hi
    refine ⟨G, 0, rfl, a', c', x, y, ?_, ?_, ?_, i1.by tt q1, i2.by tt q2⟩
    · rw [Nat.zero_add, c3.cell, List.getElem?_set_ne (by omega), List.getElem?_set_ne (by omega), List.getElem?_set_ne (by omega), hat _ (by omega)]; exact e0
    · rw [Nat.zero_add, c3.cell, List.getElem?_set_ne (by omega), List.getElem?_set_ne (by omega), List.getElem?_set_ne (by omega), hat _ (by omega)]; exact e1
    · rw [Nat.zero_add, c3.cell, List.getElem?_set_ne (by omega), List.getElem?_set_ne (by omega), List.getElem?_set_ne (by omega), hat _ (by omega)]; exact e2

end Go.Proofs.YtdigmokjedckeaaGreatDoor
