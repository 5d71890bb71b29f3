/-
  Both readers of a form at one text; what the library's strings.Cut answers (it asks that internal/bytealg.MaxLen holds a number).
-/
import Derived.Test.YtkmacleakfbobabGreatDoorRfW
import Derived.Test.YtkmacleakfbobabGreatDoorShelf3
namespace Go.Proofs.YtkmacleakfbobabGreatDoor
open Go.RowKit Go.Shelf
set_option linter.unusedVariables false
set_option maxRecDepth 100000

theorem cuts_of (w : World) (m : Int) (hm : w.cell? ⟨Tryz.lays145_ren.g 1, 0, none⟩ = some (.int .i64 m)) : Cuts w := fun W b s x hs => by
  have hmW : W.cell? ⟨Tryz.lays145_ren.g 1, 0, none⟩ = some (.int .i64 m) := by rw [b.cell (p := ⟨_, 0, none⟩) (block_lt hm)]; exact hm
  have hss : (⟨s.toArray⟩ : ByteArray).size < 4294967281 := by show s.toArray.size < _; rw [List.size_toArray]; omega
  refine (Any.strings_Cut Tryz.lays145 ⟨s.toArray⟩ ⟨#[x]⟩ m W hss hmW).mono ?_
  rintro e w' ⟨rfl, n, rfl⟩
  exact ⟨rfl, below_drewN (Below.refl _ _) n⟩
theorem rfF_small {l : List UInt8} {C D : List Int} {K : Int} {ok : Bool} (h : rfF l = ((C, D, K), ok)) : C.length ≤ 3 ∧ D.length ≤ 2 := by
  rw [rfF_spec] at h
  split at h
  · rename_i hb
    have e : preW l = (C, D, K) := congrArg Prod.fst h
    rw [e] at hb
    have hok : formB C.length D.length C D K = true := by
      cases e2 : formB C.length D.length C D K with
      | true => rfl
      | false => exact absurd (formText_no e2) hb.1
    obtain ⟨h3, h2, -⟩ := formB_elim hok
    omega
  · have e : (([], [], 0) : FR) = (C, D, K) := congrArg Prod.fst h
    cases e
    exact ⟨by simp, by simp⟩

theorem sfread_at {l : List UInt8} {C D : List Int} {K : Int} {ok : Bool} {n m : Nat} (hF : rfF l = ((C, D, K), ok)) (hn : C.length = n) (hm : D.length = m) (w : World) :
    Calls Tryz.prog 16 #[.string ⟨l.toArray⟩] w fun e w' => ∃ a cap c cap', e = .returned (.tuple #[formV a n cap c m cap' K, .bool ok]) ∧ Below w.heap.size w w' ∧ Ints w' a n C ∧ Ints w' c m D := by
  refine (sfread_any l w).mono ?_
  rintro e w' (⟨C', D', K', B1, B2, h1, rfl, h3, h4, h5, k1, k2⟩ | ⟨h1, rfl, h5⟩)
  · rw [hF] at h1
    cases h1
    obtain rfl : n = 3 := hn.symm.trans h3
    obtain rfl : m = 2 := hm.symm.trans h4
    exact ⟨_, _, _, _, rfl, h5, k1.ints' h3, k2.ints' h4⟩
  · rw [hF, noF] at h1
    cases h1
    obtain rfl : n = 0 := hn.symm
    obtain rfl : m = 0 := hm.symm
    exact ⟨_, _, _, _, rfl, h5, ⟨rfl, fun i hi => by omega⟩, ⟨rfl, fun i hi => by omega⟩⟩

theorem ifread_at {l : List UInt8} {C D : List Int} {K : Int} {ok : Bool} {n m : Nat} (hF : rfF l = ((C, D, K), ok)) (hn : C.length = n) (hm : D.length = m) (w : World) (hl : l.length ≤ 1048576) (hA : ReadsN w) (hSp : Splits w) (hC : Cuts w) (hT : Lib.TabBelow Tryz.prog w.heap.size w "internal/strconv.uint64pow10" .u64 Lib.pow10Tab) :
    Calls Tryz.prog 36 #[.string ⟨l.toArray⟩] w fun e w' => ∃ a cap c cap' B1 B2, e = .returned (.tuple #[formV a n cap c m cap' K, .bool ok]) ∧ Below w.heap.size w w' ∧ OwnAt w' a B1 C ∧ OwnAt w' c B2 D ∧ (0 < n → w.heap.size ≤ B1 ∧ B1 < w'.heap.size) ∧ (0 < m → w.heap.size ≤ B2 ∧ B2 < w'.heap.size) ∧ (0 < n → 0 < m → B1 ≠ B2) := by
  refine (ifread_any l w hl hA hSp hC hT).mono ?_
  rintro e w' (⟨C', D', K', B1, B2, h1, rfl, h3, h4, h5, o1, o12, o2, k1, k2⟩ | ⟨h1, rfl, h5⟩)
  · rw [hF] at h1
    cases h1
    obtain rfl : n = 3 := hn.symm.trans h3
    obtain rfl : m = 2 := hm.symm.trans h4
    exact ⟨_, _, _, _, B1, B2, rfl, h5, .inr ⟨rfl, k1⟩, .inr ⟨rfl, k2⟩, fun _ => ⟨o1, k1.lt⟩, fun _ => ⟨o2, k2.lt⟩, fun _ _ => o12⟩
  · rw [hF, noF] at h1
    cases h1
    obtain rfl : n = 0 := hn.symm
    obtain rfl : m = 0 := hm.symm
    exact ⟨_, _, _, _, 0, 0, rfl, h5, .inl rfl, .inl rfl, fun h => by omega, fun h => by omega, fun h => by omega⟩

end Go.Proofs.YtkmacleakfbobabGreatDoor
