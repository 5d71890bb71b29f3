/-
  A form's text read by the specification and by the program: the same over plain lists. No condition.
-/
import Derived.Test.YtmhhphpihnkfpaaDoorRfP
namespace Go.Proofs.YtmhhphpihnkfpaaDoor
open Go.RowKit
set_option linter.unusedVariables false

def okZ (z : Int) : Prop := -10000000 ≤ z ∧ z ≤ 10000000
theorem times3 (x : UInt8) (a b c : Int) : timesL x [a, b, c] 3 = (((if a = 0 then [] else [termW x a 0]) ++ (if b = 0 then [] else [termW x b 1])) ++ (if c = 0 then [] else [termW x c 2])) := rfl
theorem times2 (x : UInt8) (a b : Int) : timesL x [a, b] 2 = ((if a = 0 then [] else [termW x a 0]) ++ (if b = 0 then [] else [termW x b 1])) := rfl
theorem fold_x (a b c : Int) (ha : okZ a) (hb : okZ b) (hc : okZ c) (D : List Int) (K : Int) : (timesL 120 [a, b, c] 3).foldl partL ([0, 0, 0], D, K) = ([a, b, c], D, K) := by
  have p0 : ∀ f, partL f (termW 120 a 0) = (f.1.set 0 a, f.2.1, f.2.2) := fun f => part_x f a 0 (by omega) ha
  have p1 : ∀ f, partL f (termW 120 b 1) = (f.1.set 1 b, f.2.1, f.2.2) := fun f => part_x f b 1 (by omega) hb
  have p2 : ∀ f, partL f (termW 120 c 2) = (f.1.set 2 c, f.2.1, f.2.2) := fun f => part_x f c 2 (by omega) hc
  rw [times3]
  by_cases h0 : a = 0 <;> by_cases h1 : b = 0 <;> by_cases h2 : c = 0 <;> simp [h0, h1, h2, p0, p1, p2]
theorem fold_a (a b : Int) (ha : okZ a) (hb : okZ b) (C : List Int) (K : Int) : (timesL 97 [a, b] 2).foldl partL (C, [0, 0], K) = (C, [a, b], K) := by
  have p0 : ∀ f, partL f (termW 97 a 0) = (f.1, f.2.1.set 0 a, f.2.2) := fun f => part_a f a 0 (by omega) ha
  have p1 : ∀ f, partL f (termW 97 b 1) = (f.1, f.2.1.set 1 b, f.2.2) := fun f => part_a f b 1 (by omega) hb
  rw [times2]
  by_cases h0 : a = 0 <;> by_cases h1 : b = 0 <;> simp [h0, h1, p0, p1]
theorem words_x (a b c : Int) (ha : okZ a) (hb : okZ b) (hc : okZ c) (D : List Int) (K : Int) : wordsR ([0, 0, 0], D, K) (timesL 120 [a, b, c] 3) = some ([a, b, c], D, K) := by
  have p0 : ∀ u v w : Int, wordR ([u, v, w], D, K) (termW 120 a 0) = some ([u, v, w].set 0 a, D, K) := fun u v w => word_x _ a 0 rfl (by omega) ha
  have p1 : ∀ u v w : Int, wordR ([u, v, w], D, K) (termW 120 b 1) = some ([u, v, w].set 1 b, D, K) := fun u v w => word_x _ b 1 rfl (by omega) hb
  have p2 : ∀ u v w : Int, wordR ([u, v, w], D, K) (termW 120 c 2) = some ([u, v, w].set 2 c, D, K) := fun u v w => word_x _ c 2 rfl (by omega) hc
  rw [times3]
  by_cases h0 : a = 0 <;> by_cases h1 : b = 0 <;> by_cases h2 : c = 0 <;> simp [h0, h1, h2, p0, p1, p2, wordsR]
theorem words_a (a b : Int) (ha : okZ a) (hb : okZ b) (C : List Int) (K : Int) : wordsR (C, [0, 0], K) (timesL 97 [a, b] 2) = some (C, [a, b], K) := by
  have p0 : ∀ u v : Int, wordR (C, [u, v], K) (termW 97 a 0) = some (C, [u, v].set 0 a, K) := fun u v => word_a _ a 0 rfl (by omega) ha
  have p1 : ∀ u v : Int, wordR (C, [u, v], K) (termW 97 b 1) = some (C, [u, v].set 1 b, K) := fun u v => word_a _ b 1 rfl (by omega) hb
  rw [times2]
  by_cases h0 : a = 0 <;> by_cases h1 : b = 0 <;> simp [h0, h1, p0, p1, wordsR]
theorem term_plain {x : UInt8} (hx : x = 120 ∨ x = 97) (z : Int) (k : Nat) : 32 ∉ termW x z k := by
  rw [termW]
  intro m
  rcases List.mem_append.1 m with m | m
  · rcases List.mem_append.1 m with m | m
    · exact itoa_plain z m
    · rcases hx with rfl | rfl <;> exact absurd m (by decide)
  · exact itoa_plain k m
theorem times_plain {x : UInt8} (hx : x = 120 ∨ x = 97) (zs : List Int) : ∀ k, ∀ s ∈ timesL x zs k, 32 ∉ s
  | 0, s, h => by cases h
  | k + 1, s, h => by
    rw [timesL] at h
    rcases List.mem_append.1 h with h | h
    · exact times_plain hx zs k s h
    · split at h
      · cases h
      · have e := List.mem_singleton.1 h
        rw [e]
        exact term_plain hx _ k
theorem words_spaced : ∀ (ws : List (List UInt8)) (last : List UInt8), (∀ s ∈ ws, 32 ∉ s) → 32 ∉ last → wordsOf (spaced ws ++ last) = ws ++ [last]
  | [], last, _, h => by simpa [spaced] using words_plain h
  | x :: t, last, hs, h => by
    have e : spaced (x :: t) ++ last = x ++ 32 :: (spaced t ++ last) := by simp [spaced]
    rw [e, words_cut (hs x (by simp)), words_spaced t last (fun s m => hs s (List.mem_cons_of_mem _ m)) h]
    rfl

/-- What a text is read as by the specification, by the program. -/
def preF (l : List UInt8) : FR := (wordsOf l).foldl partL zeroR
def goR (l : List UInt8) : Option FR :=
  match wordsR zeroR (wordsOf l).dropLast with
  | none => none
  | some f => match Lib.atoiAll ((wordsOf l).getLastD []) with
    | .ok z => some (f.1, f.2.1, z)
    | _ => none
def textF (f : FR) : List UInt8 := formText f.1.length f.2.1.length f.1 f.2.1 f.2.2
def noF : FR × Bool := (([], [], 0), false)
def rfS (l : List UInt8) : FR × Bool := if textF (preF l) ≠ [] ∧ textF (preF l) = l then (preF l, true) else noF
def rfI (l : List UInt8) : FR × Bool :=
  match goR l with
  | none => noF
  | some f => if textF f = l then (f, true) else noF
theorem len3 {C : List Int} (h : C.length = 3) : ∃ a b c, C = [a, b, c] := by
  match C, h with
  | [a, b, c], _ => exact ⟨a, b, c, rfl⟩
theorem len2 {C : List Int} (h : C.length = 2) : ∃ a b, C = [a, b] := by
  match C, h with
  | [a, b], _ => exact ⟨a, b, rfl⟩
theorem form_back {f : FR} {l : List UInt8} (h0 : l ≠ []) (h : textF f = l) : preF l = f ∧ goR l = some f := by
  obtain ⟨C, D, K⟩ := f
  have hok : formB C.length D.length C D K = true := by
    cases e : formB C.length D.length C D K with
    | true => rfl
    | false => exact absurd ((h.symm.trans (formText_no e))) h0
  obtain ⟨h3, h2, bC, bD, k1, k2⟩ := formB_elim hok
  obtain ⟨a, b, c, rfl⟩ := len3 h3
  obtain ⟨d, e, rfl⟩ := len2 h2
  have hl : l = spaced (timesL 120 [a, b, c] 3 ++ timesL 97 [d, e] 2) ++ Lib.itoa K := h.symm.trans (formText_yes hok)
  have hw : wordsOf l = (timesL 120 [a, b, c] 3 ++ timesL 97 [d, e] 2) ++ [Lib.itoa K] := by
    rw [hl, words_spaced _ _ _ (itoa_plain K)]
    intro s m
    rcases List.mem_append.1 m with m | m
    · exact times_plain (Or.inl rfl) _ _ s m
    · exact times_plain (Or.inr rfl) _ _ s m
  have ba : okZ a := bC 0
  have bb : okZ b := bC 1
  have bc : okZ c := bC 2
  have bd : okZ d := bD 0
  have be : okZ e := bD 1
  constructor
  · rw [preF, hw, List.foldl_append, List.foldl_append, zeroR, fold_x a b c ba bb bc, fold_a d e bd be]
    show partL _ _ = _
    rw [part_k _ K ⟨k1, k2⟩]
  · rw [goR, hw, List.dropLast_concat, wordsR_append, zeroR, words_x a b c ba bb bc]
    show (match wordsR ([a, b, c], [0, 0], 0) _ with | none => _ | some f => _) = _
    rw [words_a d e bd be]
    show (match Lib.atoiAll _ with | .ok z => _ | _ => _) = _
    rw [List.getLastD_concat, all_back K (by omega)]
theorem rf_same (l : List UInt8) : rfI l = rfS l := by
  by_cases h0 : l = []
  · subst h0
    rw [rfS, if_neg (fun h => h.1 h.2)]
    rfl
  rw [rfS]
  by_cases h : textF (preF l) ≠ [] ∧ textF (preF l) = l
  · rw [if_pos h, rfI, (form_back h0 h.2).2]
    show (if _ then _ else _) = _
    rw [if_pos h.2]
  · rw [if_neg h, rfI]
    cases e : goR l with
    | none => rfl
    | some f =>
      show (if _ then _ else _) = _
      rw [if_neg]
      intro hf
      obtain ⟨h1, -⟩ := form_back h0 hf
      exact h (by rw [h1, hf]; exact ⟨h0, rfl⟩)

end Go.Proofs.YtmhhphpihnkfpaaDoor
