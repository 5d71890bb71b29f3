/-
  A line's text read by the specification and by the program: the same over plain lists. No condition.
-/
import Derived.Test.YtkmacleakfbobabGreatDoorRfW
import Derived.Test.YtkmacleakfbobabGreatDoorLines
namespace Go.Proofs.YtkmacleakfbobabGreatDoor
open Go.RowKit
set_option linter.unusedVariables false

/-- A line that is read: kind, pot, skip, form. -/
abbrev LR := Int × Int × Int × FR
def testW : List UInt8 := [116, 101, 115, 116]
def addW : List UInt8 := [97, 100, 100]
def printW : List UInt8 := [112, 114, 105, 110, 116]
def stopT : List UInt8 := [115, 116, 111, 112]
def actText (L : LR) : List UInt8 :=
  if lineB L.1 L.2.1 L.2.2.1 L.2.2.2.1.length L.2.2.2.2.1.length L.2.2.2.1 L.2.2.2.2.1 L.2.2.2.2.2 = true then
    (if L.1 = 1 then testW ++ 32 :: (Lib.itoa L.2.2.1 ++ 32 :: textF L.2.2.2)
    else if L.1 = 2 then addW ++ 32 :: (Lib.itoa L.2.1 ++ 32 :: textF L.2.2.2)
    else if L.1 = 3 then printW ++ 32 :: textF L.2.2.2
    else stopT)
  else []
def stopR : LR := (4, 0, 0, ([], [], 0))
def noA : LR × Bool := ((0, 0, 0, ([], [], 0)), false)
/-- What stands behind n blanks. -/
def restL : Nat → List UInt8 → List UInt8
  | _, [] => []
  | n, b :: t => if b = 32 then (if n = 1 then t else restL (n - 1) t) else restL n t
def atW (ws : List (List UInt8)) (k : Nat) : Int :=
  match ws[k]? with
  | none => -1
  | some x => if (numL x).2 = true then (numL x).1 else -1
def lineS (l : List UInt8) : LR :=
  match wsF l with
  | [] => stopR
  | x :: t => if x = testW then (1, 0, atW (x :: t) 1, (rfF (restL 2 l)).1)
    else if x = addW then (2, atW (x :: t) 1, 0, (rfF (restL 2 l)).1)
    else if x = printW then (3, 0, 0, (rfF (restL 1 l)).1)
    else stopR
def numForm (s : List UInt8) : Option (Int × FR) :=
  match Lib.atoiAll (Lib.cut s [32]).1, rfF (Lib.cut s [32]).2.1 with
  | .ok z, (f, true) => some (z, f)
  | _, _ => none
def lineI (l : List UInt8) : Option LR :=
  if (Lib.cut l [32]).1 = testW then (numForm (Lib.cut l [32]).2.1).map fun r => (1, 0, r.1, r.2)
  else if (Lib.cut l [32]).1 = addW then (numForm (Lib.cut l [32]).2.1).map fun r => (2, r.1, 0, r.2)
  else if (Lib.cut l [32]).1 = printW then (if (rfF (Lib.cut l [32]).2.1).2 = true then some (3, 0, 0, (rfF (Lib.cut l [32]).2.1).1) else none)
  else if (Lib.cut l [32]).1 = stopT then some stopR
  else none
def raS (l : List UInt8) : LR × Bool := if actText (lineS l) ≠ [] ∧ actText (lineS l) = l then (lineS l, true) else noA
def raI (l : List UInt8) : LR × Bool :=
  if l.length ≤ 120 then
    (match lineI l with
    | none => noA
    | some L => if actText L = l then (L, true) else noA)
  else noA

theorem rest_skip : ∀ (p r : List UInt8) (n : Nat), 32 ∉ p → restL n (p ++ 32 :: r) = if n = 1 then r else restL (n - 1) r
  | [], r, n, _ => by rw [List.nil_append, restL, if_pos rfl]
  | b :: t, r, n, h => by
    have hb : ¬ b = 32 := fun e => h (by rw [e]; simp)
    rw [List.cons_append, restL, if_neg hb, rest_skip t r n (fun m => h (List.mem_cons_of_mem _ m))]
theorem cut_blank {p r : List UInt8} (h : 32 ∉ p) : Lib.cut (p ++ 32 :: r) [32] = (p, r, true) := by
  rw [Lib.cut, Lib.index_one, index_first _ _ _ h, if_pos (by omega), Int.toNat_natCast]
  simp
theorem form_reads {f : FR} (h : textF f ≠ []) (hl : (textF f).length ≤ 120) : rfF (textF f) = (f, true) := by
  rw [rfF, if_pos hl, rfI, (form_back h rfl).2]
  show (if _ then _ else _) = _
  rw [if_pos rfl]
theorem form_text {C D : List Int} {K : Int} (h : smallB C.length D.length C D K = true) : textF (C, D, K) ≠ [] := by
  have hf : formB C.length D.length C D K = true := small_ok h
  show formText C.length D.length C D K ≠ []
  rw [formText_yes hf]
  intro e
  have := congrArg List.length e
  rw [List.length_append, List.length_nil] at this
  have h1 := itoa_pos K
  omega

theorem word_no {p : List UInt8} (hp : p = testW ∨ p = addW ∨ p = printW ∨ p = stopT) : 32 ∉ p := by
  rcases hp with rfl | rfl | rfl | rfl <;> decide
theorem line_cases {k p z : Int} {C D : List Int} {K : Int} (h : lineB k p z C.length D.length C D K = true) :
    (k = 1 ∧ p = 0 ∧ (1 ≤ z ∧ z ≤ 6) ∧ smallB C.length D.length C D K = true) ∨ (k = 2 ∧ (0 ≤ p ∧ p ≤ 2) ∧ z = 0 ∧ smallB C.length D.length C D K = true) ∨ (k = 3 ∧ p = 0 ∧ z = 0 ∧ smallB C.length D.length C D K = true) ∨ (k = 4 ∧ p = 0 ∧ z = 0 ∧ C = [] ∧ D = [] ∧ K = 0) := by
  unfold lineB at h
  split at h
  · rename_i e
    simp only [Bool.and_eq_true, beq_iff_eq, inB_iff] at h
    exact Or.inl ⟨e, h.1.1, h.1.2, h.2⟩
  · split at h
    · rename_i e
      simp only [Bool.and_eq_true, beq_iff_eq, inB_iff] at h
      exact Or.inr (Or.inl ⟨e, h.1.1, h.1.2, h.2⟩)
    · split at h
      · rename_i e
        simp only [Bool.and_eq_true, beq_iff_eq] at h
        exact Or.inr (Or.inr (Or.inl ⟨e, h.1.1, h.1.2, h.2⟩))
      · simp only [Bool.and_eq_true, beq_iff_eq] at h
        have h0 := h.1.2
        exact Or.inr (Or.inr (Or.inr ⟨h.1.1.1.1, h.1.1.1.2, h.1.1.2, List.eq_nil_of_length_eq_zero (by omega), List.eq_nil_of_length_eq_zero (by omega), h.2⟩))
theorem numForm_back {z : Int} {f : FR} (hz : -999999999999 ≤ z ∧ z ≤ 999999999999) (h : textF f ≠ []) (hl : (textF f).length ≤ 120) : numForm (Lib.itoa z ++ 32 :: textF f) = some (z, f) := by
  rw [numForm, cut_blank (itoa_plain z)]
  show (match Lib.atoiAll (Lib.itoa z), rfF (textF f) with | .ok z, (f, true) => _ | _, _ => _) = _
  rw [all_back z hz, form_reads h hl]
theorem atW_back {z : Int} {x : List UInt8} {t : List (List UInt8)} (hz : -999999999999 ≤ z ∧ z ≤ 999999999999) : atW (x :: Lib.itoa z :: t) 1 = z := by
  rw [atW]
  show (if (numL (Lib.itoa z)).2 = true then (numL (Lib.itoa z)).1 else -1) = z
  rw [num_back z hz]
  rfl
theorem act_back {L : LR} {l : List UInt8} (h0 : l ≠ []) (hl : l.length ≤ 120) (h : actText L = l) : lineS l = L ∧ lineI l = some L := by
  obtain ⟨k, p, z, C, D, K⟩ := L
  have hok : lineB k p z C.length D.length C D K = true := by
    cases e : lineB k p z C.length D.length C D K with
    | true => rfl
    | false =>
      rw [actText] at h
      simp only [e] at h
      exact absurd h.symm h0
  have hw : wsF l = wordsOf l := by rw [wsF, if_pos hl]
  have h' : (if k = 1 then testW ++ 32 :: (Lib.itoa z ++ 32 :: textF (C, D, K)) else if k = 2 then addW ++ 32 :: (Lib.itoa p ++ 32 :: textF (C, D, K)) else if k = 3 then printW ++ 32 :: textF (C, D, K) else stopT) = l := by
    rw [actText] at h
    simp only [hok, if_true] at h
    exact h
  rcases line_cases hok with ⟨rfl, rfl, hz, hs⟩ | ⟨rfl, hp, rfl, hs⟩ | ⟨rfl, rfl, rfl, hs⟩ | ⟨rfl, rfl, rfl, rfl, rfl, rfl⟩
  · rw [if_pos rfl] at h'
    have ht := form_text hs
    have hlt : (textF (C, D, K)).length ≤ 120 := by
      have := congrArg List.length h'
      simp only [List.length_append, List.length_cons] at this
      omega
    constructor
    · rw [lineS, hw, ← h', words_cut (word_no (Or.inl rfl)), words_cut (itoa_plain z)]
      show (if testW = testW then _ else _) = _
      rw [if_pos rfl, atW_back (by omega), rest_skip _ _ _ (word_no (Or.inl rfl)), if_neg (by decide), rest_skip _ _ _ (itoa_plain z), if_pos (by decide), form_reads ht hlt]
    · rw [lineI, ← h', cut_blank (word_no (Or.inl rfl))]
      show (if testW = testW then _ else _) = _
      rw [if_pos rfl, numForm_back (by omega) ht hlt]
      rfl
  · rw [if_neg (by decide), if_pos rfl] at h'
    have ht := form_text hs
    have hlt : (textF (C, D, K)).length ≤ 120 := by
      have := congrArg List.length h'
      simp only [List.length_append, List.length_cons] at this
      omega
    constructor
    · rw [lineS, hw, ← h', words_cut (word_no (Or.inr (Or.inl rfl))), words_cut (itoa_plain p)]
      show (if addW = testW then _ else if addW = addW then _ else _) = _
      rw [if_neg (by decide), if_pos rfl, atW_back (by omega), rest_skip _ _ _ (word_no (Or.inr (Or.inl rfl))), if_neg (by decide), rest_skip _ _ _ (itoa_plain p), if_pos (by decide), form_reads ht hlt]
    · rw [lineI, ← h', cut_blank (word_no (Or.inr (Or.inl rfl)))]
      show (if addW = testW then _ else if addW = addW then _ else _) = _
      rw [if_neg (by decide), if_pos rfl, numForm_back (by omega) ht hlt]
      rfl
  · rw [if_neg (by decide), if_neg (by decide), if_pos rfl] at h'
    have ht := form_text hs
    have hlt : (textF (C, D, K)).length ≤ 120 := by
      have := congrArg List.length h'
      simp only [List.length_append, List.length_cons] at this
      omega
    constructor
    · rw [lineS, hw, ← h', words_cut (word_no (Or.inr (Or.inr (Or.inl rfl))))]
      show (if printW = testW then _ else if printW = addW then _ else if printW = printW then _ else _) = _
      rw [if_neg (by decide), if_neg (by decide), if_pos rfl, rest_skip _ _ _ (word_no (Or.inr (Or.inr (Or.inl rfl)))), if_pos rfl, form_reads ht hlt]
    · rw [lineI, ← h', cut_blank (word_no (Or.inr (Or.inr (Or.inl rfl))))]
      show (if printW = testW then _ else if printW = addW then _ else if printW = printW then _ else _) = _
      rw [if_neg (by decide), if_neg (by decide), if_pos rfl, form_reads ht hlt]
      rfl
  · rw [if_neg (by decide), if_neg (by decide), if_neg (by decide)] at h'
    constructor
    · rw [lineS, hw, ← h', words_plain (word_no (Or.inr (Or.inr (Or.inr rfl))))]
      rfl
    · rw [lineI, ← h', cut_none (word_no (Or.inr (Or.inr (Or.inr rfl))))]
      rfl
theorem ra_same (l : List UInt8) : raI l = raS l := by
  rw [raS]
  by_cases hl : l.length ≤ 120
  · rw [raI, if_pos hl]
    by_cases h0 : l = []
    · subst h0
      rw [if_neg (fun h => h.1 h.2)]
      rfl
    by_cases h : actText (lineS l) ≠ [] ∧ actText (lineS l) = l
    · rw [if_pos h, (act_back h0 hl h.2).2]
      show (if _ then _ else _) = _
      rw [if_pos h.2]
    · rw [if_neg h]
      cases e : lineI l with
      | none => rfl
      | some L =>
        show (if _ then _ else _) = _
        rw [if_neg]
        intro hf
        obtain ⟨h1, -⟩ := act_back h0 hl hf
        exact h (by rw [h1, hf]; exact ⟨h0, rfl⟩)
  · rw [raI, if_neg hl, if_neg]
    rintro ⟨-, h2⟩
    have e : actText (lineS l) = stopT := by rw [lineS, wsF, if_neg hl]; rfl
    rw [e] at h2
    rw [← h2] at hl
    exact hl (by decide)

end Go.Proofs.YtkmacleakfbobabGreatDoor
