/-
  What the library's strings.Split and strconv.Atoi answer, and a result as the specification reads it, of whatever length. Splits asks that internal/bytealg.MaxLen holds a number, ReadsN that the two errors of strconv are there.
-/
import Derived.Test.YtmdjcfplhmkocaaDoorRdK
import Derived.Test.YtmdjcfplhmkocaaDoorShelf2
import Derived.Lib.SmallJoins
import Derived.Lib.AtoiErrMem
namespace Go.Proofs.YtmdjcfplhmkocaaDoor
open Go.RowKit Go.Shelf
set_option linter.unusedVariables false
set_option maxRecDepth 100000

theorem splits_of (w : World) (m : Int) (hm : w.cell? ⟨Tryd.laysM146_ren.g 1, 0, none⟩ = some (.int .i64 m)) : Splits w := fun W b l hl => by
  have h1 : (1 : Nat) ≤ (⟨#[32]⟩ : ByteArray).size := by decide
  have hmW : W.cell? ⟨Tryd.laysM146_ren.g 1, 0, none⟩ = some (.int .i64 m) := by rw [b.cell (p := ⟨_, 0, none⟩) (block_lt hm)]; exact hm
  have hs : (⟨l.toArray⟩ : ByteArray).size < 4294967281 := by show l.toArray.size < _; rw [List.size_toArray]; omega
  refine (Any.strings_Split { Tryd.laysM146 with } Tryd.laysM146.i9 ⟨l.toArray⟩ ⟨#[32]⟩ m W hs hmW h1).mono ?_
  rintro e w' ⟨rfl, rfl⟩
  have hd := Lib.splitB_data ⟨#[32]⟩ 0 (Lib.countB ⟨l.toArray⟩ ⟨#[32]⟩) ⟨l.toArray⟩
  have hw : Lib.splitK [32] 0 (Lib.countB ⟨l.toArray⟩ ⟨#[32]⟩) l = wordsOf l := split_words _ _ (by
    have : Lib.countB ⟨l.toArray⟩ ⟨#[32]⟩ = l.count 32 := Lib.count_one 32 l
    rw [this]; exact Nat.le_refl _)
  have hd2 : (Lib.splitB ⟨#[32]⟩ 0 (Lib.countB ⟨l.toArray⟩ ⟨#[32]⟩) ⟨l.toArray⟩).map (·.data.toList) = wordsOf l := hd.trans hw
  have hlen : (wordsOf l).length = Lib.countB ⟨l.toArray⟩ ⟨#[32]⟩ + 1 := by rw [← hd2, List.length_map, Lib.splitB_all _ h1 0 _ _ rfl]
  refine ⟨by rw [hlen], by rw [World.size_alloc]; omega, fun i x hx => ?_, (Below.refl _ _).alloc (Nat.le_refl _) _⟩
  rw [← hd2, List.getElem?_map] at hx
  obtain ⟨y, hy, rfl⟩ := Option.map_eq_some_iff.1 hx
  have hc := (Cel.new W ((Lib.splitB ⟨#[32]⟩ 0 (Lib.countB ⟨l.toArray⟩ ⟨#[32]⟩) ⟨l.toArray⟩).map Value.string) (Tryd.laysM146_ren.t 9)).cell i
  rw [List.getElem?_map, hy] at hc
  exact hc
theorem reads_of (w : World) (tp tq : TypeId) (p q : Value) (hS : w.var? Tryd.prog "strconv.ErrSyntax" = some #[.iface tp p]) (hR : w.var? Tryd.prog "strconv.ErrRange" = some #[.iface tq q]) : ReadsN w := fun W b x hx => by
  have hS' := Joins.var_stays Tryd.laysC172.m15 hS b (Nat.le_refl _)
  have hR' := Joins.var_stays Tryd.laysC172.m16 hR b (Nat.le_refl _)
  have hs : (⟨x.toArray⟩ : ByteArray).size = x.length := by show x.toArray.size = _; rw [List.size_toArray]
  have hd : (⟨x.toArray⟩ : ByteArray).data.toList = x := by simp
  cases h : Lib.atoiAll x with
  | ok v =>
    refine (Any.strconv_Atoi_ok Tryd.laysC172 ⟨x.toArray⟩ (by omega) v (by rw [hd]; exact h) W).mono ?_
    rintro e w' ⟨rfl, hw⟩
    refine ⟨?_, Or.inl ⟨v, h, rfl⟩⟩
    rcases hw with rfl | ⟨t, rfl⟩
    · exact Below.refl _ _
    · exact Lib.bytesWorld_below _ _ _
  | «syntax» =>
    refine (Any.strconv_Atoi_syntax_var Tryd.laysC172 ⟨x.toArray⟩ (by omega) (by rw [hd]; exact h) tp p W hS').mono ?_
    rintro e w' ⟨N, rfl, -, -, hb⟩
    exact ⟨hb, Or.inr ⟨(fun v e => by rw [h] at e; cases e), 0, _, N, rfl⟩⟩
  | range =>
    refine (Any.strconv_Atoi_range_var Tryd.laysC172 ⟨x.toArray⟩ (by omega) (by rw [hd]; exact h) tq q W hR').mono ?_
    rintro e w' ⟨N, rfl, -, -, hb⟩
    exact ⟨hb, Or.inr ⟨(fun v e => by rw [h] at e; cases e), _, _, N, rfl⟩⟩

theorem swords_long (l : List UInt8) (w : World) (hl : 120 < l.length) :
    Calls Tryd.prog 17 #[.string ⟨l.toArray⟩] w fun e w' => e = .returned (.slice (some ⟨w.heap.size, 0, none⟩) 0 0) ∧ Below w.heap.size w w' := by
  have hi : (120 : Int) < (l.length : Int) := by omega
  have B0 := (Below.refl w.heap.size w).alloc (Nat.le_refl _) (.cells #[] 9)
  go_enter Tryd.func17, Tryd.ntmps17
  go_wp2
  go_ret
  exact ⟨rfl, B0⟩

end Go.Proofs.YtmdjcfplhmkocaaDoor
