/-
  Words of a text, numbers that are read: plain laws. No condition.
-/
import Derived.Test.YtmhhphpihnkfpaaDoorTxt
import Derived.Lib.SplitLaws
import Derived.Lib.IndexBytes
import Derived.Lib.AtoiTie
namespace Go.Proofs.YtmhhphpihnkfpaaDoor
open Go.RowKit
set_option linter.unusedVariables false

/-- The words of a text, cut at its blanks, behind what has been read of the first. -/
def wordsF : List UInt8 → List UInt8 → List (List UInt8)
  | acc, [] => [acc]
  | acc, b :: t => if b = 32 then acc :: wordsF [] t else wordsF (acc ++ [b]) t
def wordsOf (s : List UInt8) : List (List UInt8) := wordsF [] s
theorem wordsF_plain : ∀ (w acc : List UInt8), 32 ∉ w → wordsF acc w = [acc ++ w]
  | [], acc, _ => by simp [wordsF]
  | b :: t, acc, h => by
    have hb : ¬ b = 32 := fun e => h (by rw [e]; simp)
    rw [wordsF, if_neg hb, wordsF_plain t _ (fun m => h (List.mem_cons_of_mem _ m))]
    simp
theorem wordsF_cut : ∀ (w acc r : List UInt8), 32 ∉ w → wordsF acc (w ++ 32 :: r) = (acc ++ w) :: wordsF [] r
  | [], acc, r, _ => by simp [wordsF]
  | b :: t, acc, r, h => by
    have hb : ¬ b = 32 := fun e => h (by rw [e]; simp)
    rw [List.cons_append, wordsF, if_neg hb, wordsF_cut t _ r (fun m => h (List.mem_cons_of_mem _ m))]
    simp
theorem words_plain {w : List UInt8} (h : 32 ∉ w) : wordsOf w = [w] := by rw [wordsOf, wordsF_plain w [] h]; rfl
theorem words_cut {w r : List UInt8} (h : 32 ∉ w) : wordsOf (w ++ 32 :: r) = w :: wordsOf r := by rw [wordsOf, wordsF_cut w [] r h]; rfl
theorem words_back : ∀ (w : List UInt8) (ws : List (List UInt8)), 32 ∉ w → (∀ x ∈ ws, 32 ∉ x) → wordsOf (w ++ Lib.joinTail [32] ws) = w :: ws
  | w, [], h, _ => by rw [show Lib.joinTail [32] [] = [] from rfl, List.append_nil]; exact words_plain h
  | w, x :: ws, h, hs => by
    have e : Lib.joinTail [32] (x :: ws) = 32 :: (x ++ Lib.joinTail [32] ws) := by simp [Lib.joinTail]
    rw [e, words_cut h, words_back x ws (hs x (by simp)) (fun y hy => hs y (List.mem_cons_of_mem _ hy))]

theorem indexByte_none : ∀ {l : List UInt8} {c : UInt8}, Lib.indexByte l c = -1 → c ∉ l
  | [], c, _ => by simp
  | b :: t, c, h => by
    rw [Lib.indexByte] at h
    split at h
    · cases h
    · rename_i hb
      split at h
      · rename_i ht
        have := indexByte_none (of_decide_eq_true (by simpa using ht) : Lib.indexByte t c = -1)
        intro m
        rcases List.mem_cons.1 m with rfl | m
        · simp at hb
        · exact this m
      · have := Lib.indexByte_ge t c
        rename_i ht
        have hne : Lib.indexByte t c ≠ -1 := by simpa using ht
        omega
theorem indexByte_some : ∀ {l : List UInt8} {c : UInt8}, Lib.indexByte l c ≠ -1 → ∃ i : Nat, Lib.indexByte l c = i ∧ c ∉ l.take i ∧ l = l.take i ++ c :: l.drop (i + 1)
  | [], c, h => absurd rfl h
  | b :: t, c, h => by
    rw [Lib.indexByte] at h ⊢
    split at h
    · rename_i hb
      have : b = c := by simpa using hb
      subst this
      exact ⟨0, by simp, by simp, by simp⟩
    · rename_i hb
      split at h
      · exact absurd rfl h
      · rename_i ht
        have hne : Lib.indexByte t c ≠ -1 := by simpa using ht
        obtain ⟨i, hi, h1, h2⟩ := indexByte_some hne
        refine ⟨i + 1, ?_, ?_, ?_⟩
        · rw [if_neg hb, if_neg ht, hi]; omega
        · intro m
          rw [List.take_succ_cons] at m
          rcases List.mem_cons.1 m with e | m
          · exact hb (by simp [e])
          · exact h1 m
        · rw [List.take_succ_cons, List.drop_succ_cons, List.cons_append, ← h2]
theorem split_words : ∀ (k : Nat) (s : List UInt8), s.count 32 ≤ k → Lib.splitK [32] 0 k s = wordsOf s
  | 0, s, h => by
    have : 32 ∉ s := List.count_eq_zero.1 (by omega)
    rw [Lib.splitK, words_plain this]
  | k + 1, s, h => by
    rw [Lib.splitK, Lib.index_one]
    by_cases hi : Lib.indexByte s 32 = -1
    · rw [if_pos (by simp [hi]), words_plain (indexByte_none hi)]
    · rw [if_neg (by simpa using hi)]
      obtain ⟨i, e, h1, h2⟩ := indexByte_some hi
      rw [e]
      have hc : s.count 32 = (s.take i).count 32 + ((s.drop (i + 1)).count 32 + 1) := by
        conv => lhs; rw [h2]
        rw [List.count_append, List.count_cons_self]
      have h0 : (s.take i).count 32 = 0 := List.count_eq_zero.2 h1
      rw [Int.toNat_natCast, Nat.add_zero, show [(32 : UInt8)].length = 1 from rfl, split_words k (s.drop (i + 1)) (by omega)]
      conv => rhs; rw [h2, words_cut h1]

/-! ### Numbers -/
theorem decFrom_append : ∀ (l r : List UInt8) (a : Nat), Lib.decFrom a (l ++ r) = (Lib.decFrom a l).bind fun n => Lib.decFrom n r
  | [], r, a => rfl
  | b :: t, r, a => by
    simp only [List.cons_append, Lib.decFrom]
    cases Lib.digitVal b with
    | none => rfl
    | some d => exact decFrom_append t r _
theorem digit_at {d : Nat} (h : d < 10) : Lib.digitVal (UInt8.ofNat (48 + d)) = some d := by
  have e : (UInt8.ofNat (48 + d)).toNat = 48 + d := by simp; omega
  rw [Lib.digitVal, e, if_pos (by omega)]
  congr 1
  omega
theorem dec_back (u : Nat) : Lib.decFrom 0 (Lib.decDigits u) = some u := by
  induction u using Nat.strongRecOn with
  | _ u ih =>
    by_cases h : u < 10
    · rw [dec_one h]
      simp only [Lib.decFrom, digit_at h]
      simp
    · rw [dec_step h, decFrom_append, ih (u / 10) (by omega)]
      simp only [Option.bind_some, Lib.decFrom, digit_at (show u % 10 < 10 by omega)]
      congr 1
      omega
theorem dec_digits (u : Nat) : ∀ b ∈ Lib.decDigits u, 48 ≤ b.toNat ∧ b.toNat ≤ 57 := by
  induction u using Nat.strongRecOn with
  | _ u ih =>
    intro b hb
    by_cases h : u < 10
    · rw [dec_one h] at hb
      have : b = UInt8.ofNat (48 + u) := by simpa using hb
      rw [this]
      have e : (UInt8.ofNat (48 + u)).toNat = 48 + u := by simp; omega
      omega
    · rw [dec_step h] at hb
      rcases List.mem_append.1 hb with hb | hb
      · exact ih (u / 10) (by omega) b hb
      · have : b = UInt8.ofNat (48 + u % 10) := by simpa using hb
        rw [this]
        have e : (UInt8.ofNat (48 + u % 10)).toNat = 48 + u % 10 := by simp; omega
        omega
theorem dec_ne (u : Nat) : Lib.decDigits u ≠ [] := by
  by_cases h : u < 10
  · rw [dec_one h]; simp
  · rw [dec_step h]; simp
theorem itoa_plain (z : Int) : 32 ∉ Lib.itoa z := by
  intro m
  rw [Lib.itoa] at m
  split at m
  · rcases List.mem_cons.1 m with e | m
    · cases e
    · have := dec_digits _ _ m
      have e : (32 : UInt8).toNat = 32 := rfl
      omega
  · have := dec_digits _ _ m
    have e : (32 : UInt8).toNat = 32 := rfl
    omega
theorem dec_head {u : Nat} {b : UInt8} {r : List UInt8} (h : Lib.decDigits u = b :: r) : b ≠ 45 ∧ b ≠ 43 := by
  have := dec_digits u b (by rw [h]; simp)
  refine ⟨fun e => ?_, fun e => ?_⟩
  · rw [e] at this; have e : (45 : UInt8).toNat = 45 := rfl; omega
  · rw [e] at this; have e : (43 : UInt8).toNat = 43 := rfl; omega
theorem atoi_back (z : Int) : Lib.atoi (Lib.itoa z) = some z := by
  rw [Lib.itoa]
  split
  · rename_i h
    simp only [Lib.atoi, beq_self_eq_true, if_true]
    rw [Lib.decNat, if_neg (by simpa using dec_ne _), dec_back]
    simp; omega
  · rename_i h
    cases e : Lib.decDigits z.toNat with
    | nil => exact absurd e (dec_ne _)
    | cons b r =>
      obtain ⟨h1, h2⟩ := dec_head e
      simp only [Lib.atoi]
      rw [if_neg (by simpa using h1), if_neg (by simpa using h2), ← e, Lib.decNat, if_neg (by simpa using dec_ne _), dec_back]
      simp; omega

/-- A number, as the specification reads it. -/
def magL (neg : Bool) (r : List UInt8) : Int × Bool :=
  if (1 ≤ r.length ∧ r.length ≤ 12) ∧ ¬ (1 < r.length ∧ r.head? = some 48) ∧ ¬ (neg = true ∧ r = [48]) then
    match Lib.decFrom 0 r with
    | some n => (if neg then -(n : Int) else n, true)
    | none => (0, false)
  else (0, false)
def numL : List UInt8 → Int × Bool
  | [] => magL false []
  | b :: r => if b = 45 then magL true r else magL false (b :: r)

end Go.Proofs.YtmhhphpihnkfpaaDoor
