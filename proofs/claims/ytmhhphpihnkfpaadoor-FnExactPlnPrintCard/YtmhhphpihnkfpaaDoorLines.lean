/-
  Lines of acts: what one is in memory, and when it is ok; a form that a line may have.
-/
import Derived.Test.YtmhhphpihnkfpaaDoorOpenF
namespace Go.Proofs.YtmhhphpihnkfpaaDoor
open Go.ChangeShapes Go.WideShapes Go.ChangeAt Go.RowKit Go.Joins Go.Deep
set_option linter.unusedVariables false
set_option maxRecDepth 100000

/-- A line as it lies in memory. -/
structure LV where
  kind : Int
  pot : Int
  skip : Int
  f : FV
def LV.cs (l : LV) : List Value := [.int .i64 l.kind, .int .i64 l.pot, .int .i64 l.skip, .slice l.f.a l.f.n l.f.cap, .slice l.f.c l.f.m l.f.cap', .int .i64 l.f.K]
def noLV : LV := ⟨0, 0, 0, noFV⟩

/-- A form that a line may have; one that has nothing. -/
def smallB (n m : Nat) (C D : List Int) (K : Int) : Bool := okN 3 2 n C && okN 2 2 m D && inB K (-20) 20
def nothB (n m : Nat) (K : Int) : Bool := decide ((n : Int) = 0) && decide ((m : Int) = 0) && decide (K = 0)

theorem allB_mono {m m' : Int} {zs : List Int} (h : m ≤ m') (ha : allB m zs = true) : allB m' zs = true := by
  unfold allB at *
  rw [List.all_eq_true] at *
  intro x hx
  have := inB_iff.1 (ha x hx)
  exact inB_iff.2 (by omega)
theorem small_ok {n m : Nat} {C D : List Int} {K : Int} (h : smallB n m C D K = true) : formB n m C D K = true := by
  simp only [smallB, formB, okN, Bool.and_eq_true, decide_eq_true_eq] at *
  obtain ⟨⟨⟨h1, h2⟩, h3, h4⟩, h5⟩ := h
  exact ⟨⟨⟨h1, allB_mono (by omega) h2⟩, h3, allB_mono (by omega) h4⟩, inB_iff.2 (by have := inB_iff.1 h5; omega)⟩
theorem small_eq {n m : Nat} {C D : List Int} {K : Int} (h : formB n m C D K = true) : smallB n m C D K = (allB 2 C && allB 2 D && inB K (-20) 20) := by
  simp only [formB, okN, Bool.and_eq_true, decide_eq_true_eq] at h
  obtain ⟨⟨⟨h1, _⟩, h3, _⟩, _⟩ := h
  simp only [smallB, okN, h1, h3, decide_true, Bool.true_and]

theorem sSmall_any (a : Option Addr) (n cap : Nat) (c : Option Addr) (m cap' : Nat) (K : Int) (C D : List Int) (w : World) (hC : Ints w a n C) (hD : Ints w c m D) (hn : n ≤ 1048576) (hm : m ≤ 1048576) :
    Calls Tryd.prog 49 #[formV a n cap c m cap' K] w fun e w' => e = .returned (.bool (smallB n m C D K)) ∧ Below w.heap.size w w' := by
  cases h1 : okN 3 2 n C
  · go_enter Tryd.func49, Tryd.ntmps49
    go_wp2_with fail
    refine (all_any _ _ _ C _ _ _ (hC.alloc _) hn (by omega) (by omega)).mono ?_
    rintro e w1 ⟨rfl, rfl⟩
    go_wp2
    go_ret
    exact ⟨ret_bool (by simp [smallB, h1]), (Below.refl _ _).alloc (Nat.le_refl _) _⟩
  · cases h2 : okN 2 2 m D
    · go_enter Tryd.func49, Tryd.ntmps49
      go_wp2_with fail
      refine (all_any _ _ _ C _ _ _ (hC.alloc _) hn (by omega) (by omega)).mono ?_
      rintro e w1 ⟨rfl, rfl⟩
      go_wp2_with fail
      refine (all_any _ _ _ D _ _ _ (hD.alloc _) hm (by omega) (by omega)).mono ?_
      rintro e w1 ⟨rfl, rfl⟩
      go_wp2
      go_ret
      exact ⟨ret_bool (by simp [smallB, h1, h2]), (Below.refl _ _).alloc (Nat.le_refl _) _⟩
    · go_enter Tryd.func49, Tryd.ntmps49
      go_wp2_with fail
      refine (all_any _ _ _ C _ _ _ (hC.alloc _) hn (by omega) (by omega)).mono ?_
      rintro e w1 ⟨rfl, rfl⟩
      go_wp2_with fail
      refine (all_any _ _ _ D _ _ _ (hD.alloc _) hm (by omega) (by omega)).mono ?_
      rintro e w1 ⟨rfl, rfl⟩
      go_wp2_with fail
      refine (in_any _ _ _ _).mono ?_
      rintro e w1 ⟨rfl, rfl⟩
      go_wp2
      go_ret
      exact ⟨ret_bool (by simp [smallB, h1, h2]), (Below.refl _ _).alloc (Nat.le_refl _) _⟩

/-- A slice of lines that came in, of any lengths. -/
def LinesM (w : World) (ad : Option Addr) (ls : List LV) : Prop :=
  ∀ i, i < ls.length → ∃ b off, ad = some ⟨b, off, none⟩ ∧ (∀ r, r < 6 → w.cell? ⟨b, off + i * 6 + r, none⟩ = (ls[i]?.getD noLV).cs[r]?) ∧
    Ints w (ls[i]?.getD noLV).f.a (ls[i]?.getD noLV).f.n (ls[i]?.getD noLV).f.C ∧ Ints w (ls[i]?.getD noLV).f.c (ls[i]?.getD noLV).f.m (ls[i]?.getD noLV).f.D ∧ (ls[i]?.getD noLV).f.n ≤ maxLen ∧ (ls[i]?.getD noLV).f.m ≤ maxLen

/-- A line is ok. -/
def lineB (kind pot skip : Int) (n m : Nat) (C D : List Int) (K : Int) : Bool :=
  if kind = 1 then (pot == 0) && inB skip 1 6 && smallB n m C D K
  else if kind = 2 then inB pot 0 2 && (skip == 0) && smallB n m C D K
  else if kind = 3 then (pot == 0) && (skip == 0) && smallB n m C D K
  else (kind == 4) && (pot == 0) && (skip == 0) && ((n : Int) + m == 0) && (K == 0)

end Go.Proofs.YtmhhphpihnkfpaaDoor
