/-
  A form's text read by the specification and by the program: the same over plain lists. No condition.
-/
import Derived.Test.YtmhhphpihnkfpaaDoorRdP
import Derived.Test.YtmhhphpihnkfpaaDoorFTxtI
namespace Go.Proofs.YtmhhphpihnkfpaaDoor
open Go.RowKit
set_option linter.unusedVariables false

/-- A form that is being read: its two lists and its number. -/
abbrev FR := List Int × List Int × Int
def zeroR : FR := ([0, 0, 0], [0, 0], 0)
def byteAt (s : List UInt8) (i : Nat) : UInt8 := s[i]?.getD 0
/-- One word, as the specification reads it. -/
def partL (f : FR) (s : List UInt8) : FR :=
  if 2 < s.length ∧ (byteAt s (s.length - 2) = 120 ∨ byteAt s (s.length - 2) = 97) then
    (if byteAt s (s.length - 2) = 120 then
      (if inB ((byteAt s (s.length - 1)).toNat - 48) 0 2 = true then (f.1.set ((byteAt s (s.length - 1)).toNat - 48) (numL (s.take (s.length - 2))).1, f.2.1, f.2.2) else f)
    else (if inB ((byteAt s (s.length - 1)).toNat - 48) 0 1 = true then (f.1, f.2.1.set ((byteAt s (s.length - 1)).toNat - 48) (numL (s.take (s.length - 2))).1, f.2.2) else f))
  else (f.1, f.2.1, (numL s).1)
/-- One word of a list's, as the program reads it. -/
def timesR (x : UInt8) (zs : List Int) (s : List UInt8) : Option (List Int) :=
  match Lib.cut s [x] with
  | (m, q, true) => match Lib.atoiAll m, Lib.atoiAll q with
    | .ok z, .ok p => if 0 ≤ p ∧ p < zs.length then some (zs.set p.toNat z) else none
    | _, _ => none
  | (_, _, false) => none
def wordR (f : FR) (s : List UInt8) : Option FR :=
  match timesR 120 f.1 s with
  | some C => some (C, f.2.1, f.2.2)
  | none => match timesR 97 f.2.1 s with
    | some D => some (f.1, D, f.2.2)
    | none => none
def wordsR (f : FR) : List (List UInt8) → Option FR
  | [] => some f
  | x :: t => match wordR f x with
    | some g => wordsR g t
    | none => none
theorem wordsR_append (a b : List (List UInt8)) : ∀ f : FR, wordsR f (a ++ b) = (wordsR f a).bind (wordsR · b) := by
  induction a with
  | nil => intro f; rfl
  | cons x t ih =>
    intro f
    simp only [List.cons_append, wordsR]
    cases wordR f x with
    | none => rfl
    | some g => exact ih g

/-! ### Words of a form's own text -/
theorem itoa_bytes (z : Int) : ∀ b ∈ Lib.itoa z, b = 45 ∨ (48 ≤ b.toNat ∧ b.toNat ≤ 57) := by
  intro b hb
  rw [Lib.itoa] at hb
  split at hb
  · rcases List.mem_cons.1 hb with e | hb
    · exact Or.inl e
    · exact Or.inr (dec_digits _ _ hb)
  · exact Or.inr (dec_digits _ _ hb)
theorem itoa_no (z : Int) (x : UInt8) (hx : x = 120 ∨ x = 97 ∨ x = 32) : x ∉ Lib.itoa z := by
  intro m
  rcases itoa_bytes z x m with e | ⟨h1, h2⟩
  · rcases hx with rfl | rfl | rfl <;> cases e
  · rcases hx with rfl | rfl | rfl
    · rw [show (120 : UInt8).toNat = 120 from rfl] at h2; omega
    · rw [show (97 : UInt8).toNat = 97 from rfl] at h2; omega
    · rw [show (32 : UInt8).toNat = 32 from rfl] at h1; omega
theorem itoa_small {k : Nat} (hk : k < 10) : Lib.itoa (k : Int) = [UInt8.ofNat (48 + k)] := by
  rw [Lib.itoa, if_neg (by omega), Int.toNat_natCast, dec_one hk]
theorem itoa_pos (z : Int) : 1 ≤ (Lib.itoa z).length := by
  rw [Lib.itoa]
  split
  · simp
  · exact dec_pos _
def termW (x : UInt8) (z : Int) (k : Nat) : List UInt8 := Lib.itoa z ++ [x] ++ Lib.itoa (k : Int)
theorem term_len {x : UInt8} {z : Int} {k : Nat} (hk : k < 10) : (termW x z k).length = (Lib.itoa z).length + 2 := by
  rw [termW, itoa_small hk]; simp
theorem term_mid {x : UInt8} {z : Int} {k : Nat} (hk : k < 10) : byteAt (termW x z k) ((termW x z k).length - 2) = x := by
  rw [term_len hk, byteAt, termW, itoa_small hk]; simp
theorem term_last {x : UInt8} {z : Int} {k : Nat} (hk : k < 10) : (byteAt (termW x z k) ((termW x z k).length - 1)).toNat = 48 + k := by
  rw [term_len hk, byteAt, termW, itoa_small hk]
  have : (Lib.itoa z).length + 2 - 1 = (Lib.itoa z ++ [x]).length := by simp
  rw [this, List.getElem?_append_right (Nat.le_refl _)]
  simp
  omega
theorem term_head {x : UInt8} {z : Int} {k : Nat} (hk : k < 10) : (termW x z k).take ((termW x z k).length - 2) = Lib.itoa z := by
  rw [term_len hk, termW, List.append_assoc]; simp
theorem part_x (f : FR) (z : Int) (k : Nat) (hk : k ≤ 2) (hz : -10000000 ≤ z ∧ z ≤ 10000000) : partL f (termW 120 z k) = (f.1.set k z, f.2.1, f.2.2) := by
  have h1 := itoa_pos z
  rw [partL, if_pos ⟨by rw [term_len (by omega)]; omega, Or.inl (term_mid (by omega))⟩, if_pos (term_mid (by omega)), term_last (by omega), term_head (by omega), num_back z (by omega), if_pos (by rw [inB_iff]; omega)]
  congr 2
  omega
theorem part_a (f : FR) (z : Int) (k : Nat) (hk : k ≤ 1) (hz : -10000000 ≤ z ∧ z ≤ 10000000) : partL f (termW 97 z k) = (f.1, f.2.1.set k z, f.2.2) := by
  have h1 := itoa_pos z
  rw [partL, if_pos ⟨by rw [term_len (by omega)]; omega, Or.inr (term_mid (by omega))⟩, if_neg (by rw [term_mid (by omega)]; decide), term_last (by omega), term_head (by omega), num_back z (by omega), if_pos (by rw [inB_iff]; omega)]
  congr 3
  omega
theorem part_k (f : FR) (K : Int) (hK : -10000000 ≤ K ∧ K ≤ 10000000) : partL f (Lib.itoa K) = (f.1, f.2.1, K) := by
  rw [partL, if_neg, num_back K (by omega)]
  rintro ⟨h1, h2⟩
  have hm : byteAt (Lib.itoa K) ((Lib.itoa K).length - 2) ∈ Lib.itoa K := by
    rw [byteAt, List.getElem?_eq_getElem (by omega)]
    exact List.getElem_mem _
  rcases h2 with h2 | h2
  · rw [h2] at hm; exact itoa_no K 120 (Or.inl rfl) hm
  · rw [h2] at hm; exact itoa_no K 97 (Or.inr (Or.inl rfl)) hm
theorem index_first : ∀ (p r : List UInt8) (x : UInt8), x ∉ p → Lib.indexByte (p ++ x :: r) x = p.length
  | [], r, x, _ => by rw [List.nil_append, Lib.indexByte, if_pos (by simp)]; rfl
  | b :: t, r, x, h => by
    have hb : ¬ (b == x) = true := fun e => h (by have : b = x := by simpa using e
                                                  rw [this]; simp)
    have ih := index_first t r x (fun m => h (List.mem_cons_of_mem _ m))
    rw [List.cons_append, Lib.indexByte, if_neg hb, ih, if_neg (by simp), List.length_cons]
    omega
theorem cut_term {x : UInt8} {z : Int} {k : Nat} (hx : x = 120 ∨ x = 97) : Lib.cut (termW x z k) [x] = (Lib.itoa z, Lib.itoa (k : Int), true) := by
  have hn : x ∉ Lib.itoa z := itoa_no z x (by rcases hx with h | h; exact Or.inl h; exact Or.inr (Or.inl h))
  have e : termW x z k = Lib.itoa z ++ x :: Lib.itoa (k : Int) := by rw [termW]; simp
  rw [Lib.cut, Lib.index_one, e, index_first _ _ _ hn, if_pos (by omega), Int.toNat_natCast]
  simp
theorem cut_none {x : UInt8} {s : List UInt8} (h : x ∉ s) : Lib.cut s [x] = (s, [], false) := by
  rw [Lib.cut, Lib.index_one]
  have : Lib.indexByte s x = -1 := Classical.byContradiction fun hi => by
    obtain ⟨i, -, -, h2⟩ := indexByte_some hi
    exact h (by rw [h2]; simp)
  rw [this, if_neg (by omega)]
theorem times_term {x : UInt8} {zs : List Int} {z : Int} {k : Nat} (hx : x = 120 ∨ x = 97) (hk : k < zs.length) (hk3 : k ≤ 2) (hz : -10000000 ≤ z ∧ z ≤ 10000000) : timesR x zs (termW x z k) = some (zs.set k z) := by
  rw [timesR, cut_term hx]
  show (match Lib.atoiAll (Lib.itoa z), Lib.atoiAll (Lib.itoa (k : Int)) with | .ok z, .ok p => _ | _, _ => _) = _
  rw [all_back z (by omega), all_back k (by omega)]
  show (if _ then _ else _) = _
  rw [if_pos (by omega), Int.toNat_natCast]
theorem word_x (f : FR) (z : Int) (k : Nat) (hf : f.1.length = 3) (hk : k ≤ 2) (hz : -10000000 ≤ z ∧ z ≤ 10000000) : wordR f (termW 120 z k) = some (f.1.set k z, f.2.1, f.2.2) := by
  rw [wordR, times_term (Or.inl rfl) (by omega) hk hz]
theorem word_a (f : FR) (z : Int) (k : Nat) (hf : f.2.1.length = 2) (hk : k ≤ 1) (hz : -10000000 ≤ z ∧ z ≤ 10000000) : wordR f (termW 97 z k) = some (f.1, f.2.1.set k z, f.2.2) := by
  have hn : (120 : UInt8) ∉ termW 97 z k := by
    rw [termW]
    intro m
    rcases List.mem_append.1 m with m | m
    · rcases List.mem_append.1 m with m | m
      · exact itoa_no z 120 (Or.inl rfl) m
      · exact absurd m (by decide)
    · exact itoa_no k 120 (Or.inl rfl) m
  have h0 : timesR 120 f.1 (termW 97 z k) = none := by rw [timesR, cut_none hn]
  rw [wordR, h0, times_term (Or.inr rfl) (by omega) (by omega) hz]

end Go.Proofs.YtmhhphpihnkfpaaDoor
