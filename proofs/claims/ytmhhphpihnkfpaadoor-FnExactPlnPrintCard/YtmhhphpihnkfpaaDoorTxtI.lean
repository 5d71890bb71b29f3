/-
  The text of a result, as the program writes it: the same. Lengths at most 1048576; the library's table of powers of ten is as its text lays it.
-/
import Derived.Test.YtmhhphpihnkfpaaDoorTxt
import Derived.Test.YtmhhphpihnkfpaaDoorShelf
import Derived.Deep.AppendLies
import Derived.Lib.AppendIntMem
namespace Go.Proofs.YtmhhphpihnkfpaaDoor
open Go.RowKit
set_option linter.unusedVariables false
set_option maxRecDepth 100000

/-- A list of strings that has been made since w, and grows; old memory is as it was. -/
structure JT (w : World) (v : Value) (xs : List ByteArray) (W : World) : Prop where
  b : Below w.heap.size w W
  o : W.ownsRow w.heap.size 9 1 v xs.length (xs.map Value.string)
theorem JT.one (w : World) (x : ByteArray) : JT w (.slice (some ⟨w.heap.size, 0, none⟩) 1 1) [x] (w.alloc (.cells #[.string x] 9)) :=
  ⟨(Below.refl _ _).alloc (Nat.le_refl _) _, World.ownsRow_lit w #[.string x] 1 (Nat.le_refl _) (by unfold maxLen; omega) rfl⟩
theorem JT.alloc {w W : World} {v : Value} {xs : List ByteArray} (j : JT w v xs W) (o : Obj) : JT w v xs (W.alloc o) := ⟨j.b.alloc j.b.size _, j.o.alloc o⟩
theorem JT.below {w W W' : World} {v : Value} {xs : List ByteArray} (j : JT w v xs W) (h : Below W.heap.size W W') : JT w v xs W' := by
  refine ⟨j.b.trans (h.mono j.b.size), j.o.1, ?_⟩
  rcases j.o.2 with h2 | ⟨g, cap, cur, hv, hg, hh, r⟩
  · exact Or.inl h2
  · exact Or.inr ⟨g, cap, cur, hv, hg, by rw [h.block g (lt_of_block hh)]; exact hh, r⟩
theorem JT.app {w W W' : World} {v : Value} {xs : List ByteArray} {y : ByteArray} {g cap k : Nat} {o : Obj} (j : JT w v xs W) (hk : xs.length = k) (hown : W'.ownsRow w.heap.size 9 1 (.slice (some ⟨g, 0, none⟩) (k + 1) cap) (k + 1) (xs.map Value.string ++ [.string y])) (hg : (W.alloc o).grownBy W' v.ownBlock) :
    JT w (.slice (some ⟨g, 0, none⟩) (k + 1) cap) (xs ++ [y]) W' := by
  refine ⟨(j.alloc o).b.grown hg (j.alloc o).b.size (fun k hk => ((j.alloc o).o.lt k hk).1), ?_⟩
  rw [List.length_append, hk, List.map_append]
  exact hown
theorem JT.cells {w W : World} {v : Value} {xs : List ByteArray} {k : Nat} (j : JT w v xs W) (hk : xs.length = k) (h0 : 0 < k) : ∃ g cap, v = .slice (some ⟨g, 0, none⟩) k cap ∧ k ≤ cap ∧ g < W.heap.size ∧ ∀ (i : Nat) x, xs[i]? = some x → W.cell? ⟨g, 0 + i, none⟩ = some (.string x) := by
  subst hk
  rcases j.o.2 with ⟨hv, h⟩ | ⟨g, cap', cur, rfl, hg, hh, hl, _, _⟩
  · omega
  · refine ⟨g, cap', rfl, hl, lt_of_block hh, fun i x hx => ?_⟩
    have hi := (List.getElem?_eq_some_iff.1 hx).1
    have := j.o.cellAt i (by omega)
    rw [Nat.zero_add, this]
    simp [hx]

theorem newsS (w : World) (x : Value) (t : TypeId) : ∀ j u, [x][j]? = some u → (w.alloc (.cells #[x] t)).cell? ((⟨w.heap.size, 0, none⟩ : Addr).add j) = some u := fun j u hu => by
  match j, hu with
  | 0, hu =>
    simp only [List.getElem?_cons_zero, Option.some.injEq] at hu
    subst hu
    simp [Addr.add]
theorem oneS (x : ByteArray) : ∀ u ∈ [Value.string x], u.oneCell' = true := fun u hu => by
  simp at hu; subst hu; rfl
theorem Tryd.infoStr : (Tryd.prog.info? 9).map (fun i => (i.zero, i.size, i.bytes)) = some (some (.string ⟨#[]⟩), 1, 16) := by kernel_rfl

/-- The words of a result. -/
def wordsL (c : Int) (zs : List Int) : List ByteArray := ⟨(wordL c).toArray⟩ :: zs.map fun z => ⟨(Lib.itoa z).toArray⟩
theorem words_join (c : Int) (zs : List Int) : Lib.join ((wordsL c zs).map (·.data.toList)) [32] = wordL c ++ tailL zs := by
  rw [wordsL, List.map_cons, Lib.join_cons, tailL, List.map_map]
  rfl
theorem words_step {c : Int} {zs : List Int} {k : Nat} (h : k < zs.length) : wordsL c (zs.take (k + 1)) = wordsL c (zs.take k) ++ [⟨(Lib.itoa (zs[k]?.getD 0)).toArray⟩] := by
  rw [wordsL, wordsL, List.take_succ_eq_append_getElem h, List.getElem?_eq_getElem h, List.map_append]
  rfl
theorem words_len (c : Int) (zs : List Int) : (wordsL c zs).length = zs.length + 1 := by simp [wordsL]
theorem tail_len {zs : List Int} (hb : ∀ i : Nat, -999999999999 ≤ zs[i]?.getD 0 ∧ zs[i]?.getD 0 ≤ 999999999999) : ∀ k, k ≤ zs.length → (tailL (zs.take k)).length ≤ 22 * k
  | 0, _ => by simp [tailL, Lib.joinTail]
  | k + 1, h => by
    have ih := tail_len hb k (by omega)
    have hz := hb k
    have := Lib.itoa_length_le (zs[k]?.getD 0) (by omega) (by omega)
    rw [tail_step (by omega), List.length_append, List.length_append]
    simp only [List.length_cons, List.length_nil]
    omega

end Go.Proofs.YtmhhphpihnkfpaaDoor
