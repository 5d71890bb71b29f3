/-
  A result's text read by the specification and by the program: the same over plain lists. No condition.
-/
import Derived.Test.YtmhhphpihnkfpaaDoorRdS
namespace Go.Proofs.YtmhhphpihnkfpaaDoor
open Go.RowKit
set_option linter.unusedVariables false

theorem dec_len : ∀ (k u : Nat), u < 10 ^ (k + 1) → (Lib.decDigits u).length ≤ k + 1
  | 0, u, h => by rw [dec_one (by simpa using h)]; simp
  | k + 1, u, h => by
    by_cases h1 : u < 10
    · rw [dec_one h1]; simp
    · rw [dec_step h1, List.length_append]
      have := dec_len k (u / 10) (by rw [Nat.pow_succ] at h; omega)
      simp
      omega
theorem dec_lead (u : Nat) (h : 1 ≤ u) : (Lib.decDigits u).head? ≠ some 48 := by
  induction u using Nat.strongRecOn with
  | _ u ih =>
    by_cases h1 : u < 10
    · rw [dec_one h1]
      intro e
      have e1 : UInt8.ofNat (48 + u) = 48 := by simpa using e
      have e2 : (UInt8.ofNat (48 + u)).toNat = 48 + u := by simp; omega
      rw [e1] at e2
      have e3 : (48 : UInt8).toNat = 48 := rfl
      omega
    · rw [dec_step h1, List.head?_append]
      cases e : (Lib.decDigits (u / 10)).head? with
      | none => exact absurd (List.head?_eq_none_iff.1 e) (dec_ne _)
      | some b =>
        have := ih (u / 10) (by omega) (by omega)
        rw [e] at this
        simpa using this
theorem dec_pos (u : Nat) : 1 ≤ (Lib.decDigits u).length := by
  cases e : Lib.decDigits u with
  | nil => exact absurd e (dec_ne u)
  | cons a b => simp
theorem mag_back (neg : Bool) (u : Nat) (h : u ≤ 999999999999) (h0 : neg = true → 1 ≤ u) : magL neg (Lib.decDigits u) = (if neg then -(u : Int) else u, true) := by
  have h1 := dec_len 11 u (by omega)
  have h2 := dec_pos u
  rw [magL, if_pos, dec_back]
  refine ⟨⟨h2, h1⟩, fun ⟨a, b⟩ => ?_, fun ⟨a, b⟩ => ?_⟩
  · by_cases hu : 1 ≤ u
    · exact dec_lead u hu b
    · have : u = 0 := by omega
      subst this
      rw [dec_one (by omega)] at a
      simp at a
  · exact dec_lead u (h0 a) (by rw [b]; rfl)
theorem num_back (z : Int) (h : -999999999999 ≤ z ∧ z ≤ 999999999999) : numL (Lib.itoa z) = (z, true) := by
  rw [Lib.itoa]
  split
  · rename_i hz
    rw [numL, if_pos rfl, mag_back true _ (by omega) (fun _ => by omega)]
    simp
    omega
  · rename_i hz
    cases e : Lib.decDigits z.toNat with
    | nil => exact absurd e (dec_ne _)
    | cons b r =>
      have := (dec_head e).1
      rw [numL, if_neg this, ← e, mag_back false _ (by omega) (fun h => by cases h)]
      simp
      omega
theorem itoa_len (z : Int) (h : -999999999999 ≤ z ∧ z ≤ 999999999999) : (Lib.itoa z).length ≤ 18 := by
  rw [Lib.itoa]
  split
  · rw [List.length_cons]
    have := dec_len 11 _ (show z.natAbs < 10 ^ 12 by omega)
    have e : (-z).toNat = z.natAbs := by omega
    first | omega | (rw [e]; omega)
  · have := dec_len 11 z.toNat (by omega)
    omega
theorem all_back (z : Int) (h : -999999999999 ≤ z ∧ z ≤ 999999999999) : Lib.atoiAll (Lib.itoa z) = .ok z := by
  rw [Lib.atoiAll_short _ (itoa_len z h), atoi_back]
  rfl

/-- The numbers that the words are, if each is one. -/
def atoiS : List (List UInt8) → Option (List Int)
  | [] => some []
  | x :: t => match Lib.atoiAll x with
    | .ok z => (atoiS t).map (z :: ·)
    | _ => none
theorem atoiS_back : ∀ (zs : List Int), (∀ z ∈ zs, -999999999999 ≤ z ∧ z ≤ 999999999999) → atoiS (zs.map Lib.itoa) = some zs
  | [], _ => rfl
  | z :: t, h => by
    rw [List.map_cons, atoiS, all_back z (h z (by simp)), atoiS_back t (fun y hy => h y (List.mem_cons_of_mem _ hy))]
    rfl
theorem nums_back : ∀ (zs : List Int), (∀ z ∈ zs, -999999999999 ≤ z ∧ z ≤ 999999999999) → numsL (zs.map Lib.itoa) = zs
  | [], _ => rfl
  | z :: t, h => by
    have := nums_back t (fun y hy => h y (List.mem_cons_of_mem _ hy))
    rw [numsL] at this ⊢
    rw [List.map_cons, List.map_cons, num_back z (h z (by simp)), this]
theorem word_plain (c : Int) : 32 ∉ wordL c := by
  unfold wordL
  split
  · decide
  · split
    · decide
    · split <;> decide
theorem text_words {c : Int} {n : Nat} {zs : List Int} (h : resOkB c n zs = true) : wordsOf (resText c n zs) = wordL c :: zs.map Lib.itoa := by
  rw [resText_yes h, tailL, words_back _ _ (word_plain c)]
  intro x hx
  obtain ⟨z, -, rfl⟩ := List.mem_map.1 hx
  exact itoa_plain z
theorem ok_bound {c : Int} {n : Nat} {zs : List Int} (h : resOkB c n zs = true) : (1 ≤ c ∧ c ≤ 3) ∧ ∀ z ∈ zs, -999999999999 ≤ z ∧ z ≤ 999999999999 := by
  unfold resOkB allB at h
  simp only [Bool.and_eq_true, List.all_eq_true, inB_iff] at h
  exact ⟨h.1, fun z hz => h.2.2.2 z hz⟩
theorem text_ok {c : Int} {n : Nat} {zs : List Int} (h : resText c n zs ≠ []) : resOkB c n zs = true := by
  cases e : resOkB c n zs with
  | true => rfl
  | false => exact absurd (resText_no e) h

/-- What a text is read as by the program. -/
def rdI (l : List UInt8) : Int × List Int × Bool :=
  match atoiS (wordsOf l).tail with
  | none => (0, [], false)
  | some xs => if codeTo ((wordsOf l).headD []) 4 ≠ 0 ∧ resText (codeTo ((wordsOf l).headD []) 4) xs.length xs = l then (codeTo ((wordsOf l).headD []) 4, xs, true) else (0, [], false)
theorem rd_same (l : List UInt8) : rdI l = rdS l := by
  rw [rdS]
  by_cases h : rdB l = true
  · rw [if_pos h]
    have h' := h
    rw [rdB, decide_eq_true_eq] at h'
    obtain ⟨h1, h2⟩ := h'
    have ho := text_ok h1
    have hw := text_words ho
    rw [show resText (preS l).1 (preS l).2.length (preS l).2 = l from h2] at hw
    obtain ⟨hc, hz⟩ := ok_bound ho
    have ha : atoiS (wordsOf l).tail = some (preS l).2 := by rw [hw]; exact atoiS_back _ hz
    have hd : codeTo ((wordsOf l).headD []) 4 = (preS l).1 := rfl
    rw [rdI, ha]
    show (if _ then _ else _) = _
    rw [hd, if_pos ⟨by omega, h2⟩]
  · rw [if_neg h, rdI]
    cases e : atoiS (wordsOf l).tail with
    | none => rfl
    | some xs =>
      show (if _ then _ else _) = _
      rw [if_neg]
      rintro ⟨h1, h2⟩
      apply h
      have hl : l ≠ [] := fun e => h1 (by rw [e]; rfl)
      have hne : resText (codeTo ((wordsOf l).headD []) 4) xs.length xs ≠ [] := by rw [h2]; exact hl
      have ho := text_ok hne
      have hw := text_words ho
      rw [h2] at hw
      obtain ⟨hc, hz⟩ := ok_bound ho
      have hx : (preS l).2 = xs := by
        show numsL (wordsOf l).tail = xs
        rw [hw]
        exact nums_back _ hz
      have hp : textP (preS l) = l := by
        rw [textP, hx]
        exact h2
      rw [rdB, decide_eq_true_eq, hp]
      exact ⟨hl, rfl⟩

end Go.Proofs.YtmhhphpihnkfpaaDoor
