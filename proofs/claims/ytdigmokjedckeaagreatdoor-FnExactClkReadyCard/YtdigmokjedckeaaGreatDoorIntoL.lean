/-
  A form in which each pot is a form itself: both texts, at copies of what came in.
-/
import Derived.Test.YtdigmokjedckeaaGreatDoorIntoI
namespace Go.Proofs.YtdigmokjedckeaaGreatDoor
open Go.RowKit
set_option linter.unusedVariables false
set_option maxRecDepth 100000

theorem sinto_any (a : Option Addr) (n cap : Nat) (c : Option Addr) (m cap' : Nat) (K : Int) (C D : List Int) (ad : Option Addr) (N capN : Nat) (fs : List FV) (w : World) (hC : Ints w a n C) (hD : Ints w c m D) (hn : n ≤ 1048576) (hm : m ≤ 1048576)
    (hN : fs.length = N) (hF : FormsG w ad fs) (hN1 : N ≤ 1048576) :
    Calls Tryz.prog 124 #[formV a n cap c m cap' K, .slice ad N capN] w fun e w' => Res w w' e (keepL (intoOk n m C D K N fs) (intoC C fs 3)) (keepL (intoOk n m C D K N fs) (intoD C D fs 3)) (keepK (intoOk n m C D K N fs) (intoK C K fs 3)) := by
  cases h : (formB n m C D K && decide (N = 3) && fs.all FV.ok)
  · have ho : intoOk n m C D K N fs = false := by unfold intoOk; rw [h]; rfl
    rw [ho]
    exact sinto_no a n cap c m cap' K C D ad N capN fs w hC hD hn hm hN hF hN1 h
  · have ho : intoOk n m C D K N fs = formB 3 2 (intoC C fs 3) (intoD C D fs 3) (intoK C K fs 3) := by unfold intoOk; rw [h, Bool.true_and]
    rw [ho]
    simp only [Bool.and_eq_true, decide_eq_true_eq] at h
    obtain ⟨⟨h1, rfl⟩, h3⟩ := h
    obtain ⟨rfl, rfl, _⟩ := formB_elim h1
    obtain ⟨b, off, rfl, _⟩ := hF 0 (by omega)
    exact sinto_yes a cap c cap' K C D b off capN fs w hC hD hN hF h1 h3
theorem iinto_any (a : Option Addr) (n cap : Nat) (c : Option Addr) (m cap' : Nat) (K : Int) (C D : List Int) (ad : Option Addr) (N capN : Nat) (fs : List FV) (w : World) (hC : Ints w a n C) (hD : Ints w c m D) (hn : n ≤ 1048576) (hm : m ≤ 1048576)
    (hN : fs.length = N) (hF : FormsG w ad fs) (hN1 : N ≤ 1048576) :
    Calls Tryz.prog 163 #[formV a n cap c m cap' K, .slice ad N capN] w fun e w' => Res w w' e (keepL (intoOk n m C D K N fs) (intoC C fs 3)) (keepL (intoOk n m C D K N fs) (intoD C D fs 3)) (keepK (intoOk n m C D K N fs) (intoK C K fs 3)) := by
  cases h : (formB n m C D K && decide (N = 3) && fs.all FV.ok)
  · have ho : intoOk n m C D K N fs = false := by unfold intoOk; rw [h]; rfl
    rw [ho]
    exact iinto_no a n cap c m cap' K C D ad N capN fs w hC hD hn hm hN hF hN1 h
  · have ho : intoOk n m C D K N fs = formB 3 2 (intoC C fs 3) (intoD C D fs 3) (intoK C K fs 3) := by unfold intoOk; rw [h, Bool.true_and]
    rw [ho]
    simp only [Bool.and_eq_true, decide_eq_true_eq] at h
    obtain ⟨⟨h1, rfl⟩, h3⟩ := h
    obtain ⟨rfl, rfl, _⟩ := formB_elim h1
    obtain ⟨b, off, rfl, _⟩ := hF 0 (by omega)
    exact iinto_yes a cap c cap' K C D b off capN fs w hC hD hN hF h1 h3

theorem copies_all {fs gs : List FV} (hl : gs.length = fs.length) (h : copies fs gs) : gs.all FV.ok = fs.all FV.ok := by
  have key : gs.map FV.ok = fs.map FV.ok := by
    refine List.ext_getElem (by simp [hl]) fun i h1 h2 => ?_
    have hi : i < gs.length := by simpa using h1
    have hi' : i < fs.length := by omega
    obtain ⟨e1, e2, e3, e4, e5⟩ := h i hi
    rw [List.getElem?_eq_getElem hi, List.getElem?_eq_getElem hi'] at e1 e2 e3 e4 e5
    simp only [Option.getD_some] at e1 e2 e3 e4 e5
    simp only [List.getElem_map, FV.ok, e1, e2, e3, e4, e5]
  have h1 : gs.all FV.ok = (gs.map FV.ok).all id := by simp [List.all_map]
  have h2 : fs.all FV.ok = (fs.map FV.ok).all id := by simp [List.all_map]
  rw [h1, h2, key]
theorem copies_into {fs gs : List FV} {C D : List Int} {K : Int} (hl : gs.length = 3) (h : copies fs gs) : intoC C gs 3 = intoC C fs 3 ∧ intoD C D gs 3 = intoD C D fs 3 ∧ intoK C K gs 3 = intoK C K fs 3 := by
  obtain ⟨a1, a2, a3, _⟩ := h 0 (by omega)
  obtain ⟨b1, b2, b3, _⟩ := h 1 (by omega)
  obtain ⟨c1, c2, c3, _⟩ := h 2 (by omega)
  exact ⟨by simp only [intoC, a1, b1, c1], by simp only [intoD, a2, b2, c2], by simp only [intoK, a3, b3, c3]⟩
theorem copies_same {n m N : Nat} {C D : List Int} {K : Int} {fs gs : List FV} (hN : fs.length = N) (hl : gs.length = N) (h : copies fs gs) :
    keepL (intoOk n m C D K N gs) (intoC C gs 3) = keepL (intoOk n m C D K N fs) (intoC C fs 3) ∧ keepL (intoOk n m C D K N gs) (intoD C D gs 3) = keepL (intoOk n m C D K N fs) (intoD C D fs 3) ∧ keepK (intoOk n m C D K N gs) (intoK C K gs 3) = keepK (intoOk n m C D K N fs) (intoK C K fs 3) := by
  by_cases h3 : N = 3
  · subst h3
    obtain ⟨e1, e2, e3⟩ := copies_into (C := C) (D := D) (K := K) hl h
    have e4 := copies_all (by omega) h
    simp only [intoOk, e1, e2, e3, e4]
    exact ⟨trivial, trivial, trivial⟩
  · have o1 : intoOk n m C D K N gs = false := by simp [intoOk, h3]
    have o2 : intoOk n m C D K N fs = false := by simp [intoOk, h3]
    rw [o1, o2]
    exact ⟨rfl, rfl, rfl⟩
theorem into_len {n m N : Nat} {C D : List Int} {K : Int} {fs : List FV} (hD : D.length = m) (hm : m ≤ 1048576) : (keepL (intoOk n m C D K N fs) (intoC C fs 3)).length ≤ 1048576 ∧ (keepL (intoOk n m C D K N fs) (intoD C D fs 3)).length ≤ 1048576 := by
  refine ⟨keepL_len ?_, keepL_len ?_⟩
  · simp only [intoC, lin, List.length_zipWith, List.length_cons, List.length_nil]; omega
  · simp only [intoD, lin, List.length_zipWith]; omega

end Go.Proofs.YtdigmokjedckeaaGreatDoor
