/-
  Numbers behind a word, as the specification and as the program read them: plain lists alone.
-/
import Derived.Test.YtmdjcfplhmkocaaDoorRdP
namespace Go.Proofs.YtmdjcfplhmkocaaDoor
open Go.RowKit
set_option linter.unusedVariables false
set_option maxRecDepth 100000

theorem allB_iff {m : Int} {zs : List Int} : allB m zs = true ↔ ∀ z ∈ zs, -m ≤ z ∧ z ≤ m := by
  rw [allB, List.all_eq_true]
  exact ⟨fun h z hz => inB_iff.1 (h z hz), fun h z hz => inB_iff.2 (h z hz)⟩
theorem decFrom_lt : ∀ (r : List UInt8) (a n : Nat), Lib.decFrom a r = some n → n < (a + 1) * 10 ^ r.length
  | [], a, n, h => by
    rw [Lib.decFrom] at h
    cases h
    simp
  | b :: r, a, n, h => by
    rw [Lib.decFrom] at h
    cases hd : Lib.digitVal b with
    | none => rw [hd] at h; cases h
    | some d =>
      rw [hd] at h
      have := decFrom_lt r _ n h
      have hd9 : d ≤ 9 := by
        rw [Lib.digitVal] at hd
        split at hd
        · rename_i hb
          have e : b.toNat - 48 = d := by simpa using hd
          omega
        · cases hd
      rw [List.length_cons, Nat.pow_succ]
      have h2 : (a * 10 + d + 1) * 10 ^ r.length ≤ ((a + 1) * 10) * 10 ^ r.length := Nat.mul_le_mul_right _ (by omega)
      have h3 : ((a + 1) * 10) * 10 ^ r.length = (a + 1) * (10 ^ r.length * 10) := by rw [Nat.mul_assoc, Nat.mul_comm 10]
      omega
theorem digit_of {b : UInt8} {d : Nat} (h : Lib.digitVal b = some d) : d < 10 ∧ b = UInt8.ofNat (48 + d) := by
  rw [Lib.digitVal] at h
  split at h
  · rename_i hb
    have e : b.toNat - 48 = d := by simpa using h
    refine ⟨by omega, ?_⟩
    rw [show 48 + d = b.toNat by omega]
    simp
  · cases h
/-- Digits without a needless zero ahead are those of their number. -/
theorem dec_forth : ∀ (k : Nat) (r : List UInt8) (n : Nat), r.length = k + 1 → Lib.decFrom 0 r = some n → ¬ (1 < r.length ∧ r.head? = some 48) → Lib.decDigits n = r := by
  intro k
  induction k with
  | zero =>
    intro r n hl h _
    match r, hl with
    | [b], _ =>
      rw [Lib.decFrom] at h
      cases hd : Lib.digitVal b with
      | none => rw [hd] at h; cases h
      | some d =>
        rw [hd] at h
        obtain ⟨h9, hb⟩ := digit_of hd
        have e : d = n := by simpa [Lib.decFrom] using h
        rw [← e, dec_one h9, hb]
  | succ k ih =>
    intro r n hl h h0
    have hne : r ≠ [] := by intro e; rw [e] at hl; simp at hl
    obtain ⟨l, b, rfl⟩ : ∃ l b, r = l ++ [b] := ⟨r.dropLast, r.getLast hne, (List.dropLast_concat_getLast hne).symm⟩
    have hll : l.length = k + 1 := by simpa using hl
    rw [decFrom_append] at h
    cases hm : Lib.decFrom 0 l with
    | none => rw [hm] at h; cases h
    | some m =>
      rw [hm, Option.bind_some, Lib.decFrom] at h
      cases hd : Lib.digitVal b with
      | none => rw [hd] at h; cases h
      | some d =>
        rw [hd] at h
        obtain ⟨h9, hb⟩ := digit_of hd
        have e : m * 10 + d = n := by simpa [Lib.decFrom] using h
        have hhd : (l ++ [b]).head? = l.head? := by
          match l, hll with
          | x :: t, _ => rfl
        rw [hhd] at h0
        have hh48 : ¬ l.head? = some 48 := fun e => h0 ⟨by rw [List.length_append, hll]; simp, e⟩
        have hi := ih l m hll hm (fun x => hh48 x.2)
        have hm1 : 1 ≤ m := by
          rcases Nat.eq_zero_or_pos m with e0 | e0
          · rw [e0, dec_one (by omega)] at hi
            exact absurd (by rw [← hi]; rfl) hh48
          · exact e0
        rw [dec_step (show ¬ n < 10 by omega), show n / 10 = m by omega, hi, show n % 10 = d by omega, ← hb]
theorem num_forth {x : List UInt8} {z : Int} (h : numL x = (z, true)) : Lib.itoa z = x ∧ (-999999999999 ≤ z ∧ z ≤ 999999999999) := by
  have mag : ∀ (neg : Bool) (r : List UInt8), magL neg r = (z, true) → ∃ n : Nat, Lib.decDigits n = r ∧ n ≤ 999999999999 ∧ z = (if neg then -(n : Int) else n) ∧ (neg = true → 1 ≤ n) := by
    intro neg r hm
    rw [magL] at hm
    split at hm
    · rename_i hc
      cases hd : Lib.decFrom 0 r with
      | none => rw [hd] at hm; cases hm
      | some n =>
        rw [hd] at hm
        have hz : (if neg then -(n : Int) else n) = z := congrArg Prod.fst hm
        obtain ⟨⟨l1, l2⟩, c1, c2⟩ := hc
        have hf := dec_forth (r.length - 1) r n (by omega) hd c1
        have hlt := decFrom_lt r 0 n hd
        have hp : 10 ^ r.length ≤ 10 ^ 12 := Nat.pow_le_pow_right (by omega) l2
        refine ⟨n, hf, by omega, hz.symm, fun hn => ?_⟩
        rcases Nat.eq_zero_or_pos n with e0 | e0
        · exact absurd ⟨hn, by rw [← hf, e0, dec_one (by omega)]; rfl⟩ c2
        · exact e0
    · cases hm
  have pos : ∀ r : List UInt8, magL false r = (z, true) → Lib.itoa z = r ∧ (-999999999999 ≤ z ∧ z ≤ 999999999999) := by
    intro r hm
    obtain ⟨n, h1, h2, h3, -⟩ := mag false r hm
    have h3' : z = (n : Int) := h3
    subst h3'
    refine ⟨?_, by omega, by omega⟩
    rw [Lib.itoa, if_neg (by omega), ← h1]
    simp
  cases x with
  | nil => exact pos [] h
  | cons b r =>
    rw [numL] at h
    split at h
    · rename_i hb
      obtain ⟨n, h1, h2, h3, h4⟩ := mag true r h
      have h3' : z = -(n : Int) := h3
      have h4' := h4 rfl
      subst h3'
      refine ⟨?_, by omega, by omega⟩
      rw [Lib.itoa, if_pos (by omega), hb, ← h1]
      simp
    · exact pos _ h

/-- The numbers that words are, as the specification reads them. -/
def nmS : List (List UInt8) → Option (List Int)
  | [] => some []
  | x :: t => if (numL x).2 = true then (nmS t).map ((numL x).1 :: ·) else none
theorem nmS_drop {ws : List (List UInt8)} {k : Nat} {x : List UInt8} {xs : List Int} (hk : ws[k]? = some x) (hx : (numL x).2 = true) (h : nmS ws = (nmS (ws.drop k)).map (xs ++ ·)) : nmS ws = (nmS (ws.drop (k + 1))).map ((xs ++ [(numL x).1]) ++ ·) := by
  have hl := (List.getElem?_eq_some_iff.1 hk).1
  have e : ws.drop k = x :: ws.drop (k + 1) := by
    rw [List.drop_eq_getElem_cons hl, (List.getElem?_eq_some_iff.1 hk).2]
  rw [h, e, nmS, if_pos hx]
  cases nmS (ws.drop (k + 1)) with
  | none => rfl
  | some t => simp
theorem nmS_bad {ws : List (List UInt8)} {k : Nat} {x : List UInt8} {xs : List Int} (hk : ws[k]? = some x) (hx : ¬ (numL x).2 = true) (h : nmS ws = (nmS (ws.drop k)).map (xs ++ ·)) : nmS ws = none := by
  have hl := (List.getElem?_eq_some_iff.1 hk).1
  have e : ws.drop k = x :: ws.drop (k + 1) := by
    rw [List.drop_eq_getElem_cons hl, (List.getElem?_eq_some_iff.1 hk).2]
  rw [h, e, nmS, if_neg hx]
  rfl
theorem nmS_forth : ∀ (ws : List (List UInt8)) (zs : List Int), nmS ws = some zs → ws = zs.map Lib.itoa ∧ ∀ z ∈ zs, -999999999999 ≤ z ∧ z ≤ 999999999999
  | [], zs, h => by
    rw [nmS] at h
    cases h
    exact ⟨rfl, fun z hz => absurd hz (by simp)⟩
  | x :: t, zs, h => by
    rw [nmS] at h
    split at h
    · rename_i hx
      cases ht : nmS t with
      | none => rw [ht] at h; cases h
      | some ts =>
        rw [ht] at h
        have e : (numL x).1 :: ts = zs := by simpa using h
        obtain ⟨h1, h2⟩ := nmS_forth t ts ht
        obtain ⟨n1, n2⟩ := num_forth (x := x) (z := (numL x).1) (by rw [← hx])
        subst e
        refine ⟨by rw [List.map_cons, n1, ← h1], fun z hz => ?_⟩
        rcases List.mem_cons.1 hz with e | hz
        · rw [e]; exact n2
        · exact h2 z hz
    · cases h
theorem nmS_back : ∀ (zs : List Int), (∀ z ∈ zs, -999999999999 ≤ z ∧ z ≤ 999999999999) → nmS (zs.map Lib.itoa) = some zs
  | [], _ => rfl
  | z :: t, h => by
    rw [List.map_cons, nmS, num_back z (h z (by simp)), if_pos rfl, nmS_back t (fun y hy => h y (List.mem_cons_of_mem _ hy))]
    rfl
theorem nmS_len {ws : List (List UInt8)} {zs : List Int} (h : nmS ws = some zs) : zs.length = ws.length := by
  obtain ⟨e, -⟩ := nmS_forth ws zs h
  rw [e, List.length_map]
theorem wordsF_join : ∀ (l acc : List UInt8) (x : List UInt8) (ws : List (List UInt8)), wordsF acc l = x :: ws → 32 ∉ acc → x ++ Lib.joinTail [32] ws = acc ++ l ∧ 32 ∉ x
  | [], acc, x, ws, h, ha => by
    rw [wordsF] at h
    cases h
    exact ⟨by simp [Lib.joinTail], ha⟩
  | b :: t, acc, x, ws, h, ha => by
    rw [wordsF] at h
    split at h
    · rename_i hb
      obtain ⟨h1, h2⟩ := List.cons.inj h
      subst h1
      refine ⟨?_, ha⟩
      cases hw : wordsF [] t with
      | nil => exact absurd hw (by have := words_ne t; rwa [wordsOf] at this)
      | cons y ys =>
        obtain ⟨e, -⟩ := wordsF_join t [] y ys hw (by simp)
        rw [hw] at h2
        rw [← h2, hb]
        have e2 : Lib.joinTail [32] (y :: ys) = 32 :: (y ++ Lib.joinTail [32] ys) := by simp [Lib.joinTail]
        rw [e2, e]
        simp
    · rename_i hb
      obtain ⟨e, h2⟩ := wordsF_join t (acc ++ [b]) x ws h (by
        intro m
        rcases List.mem_append.1 m with m | m
        · exact ha m
        · exact hb (by have := List.mem_singleton.1 m; exact this.symm))
      exact ⟨by rw [e]; simp, h2⟩
theorem words_whole {l x : List UInt8} {ws : List (List UInt8)} (h : wordsOf l = x :: ws) : x ++ Lib.joinTail [32] ws = l ∧ 32 ∉ x := by
  obtain ⟨e, h2⟩ := wordsF_join l [] x ws h (by simp)
  exact ⟨by rw [e]; simp, h2⟩
/-- The numbers behind the first word, as the program reads them: each must be a number, within bounds, and written back they must be the line. -/
def nmI (l x : List UInt8) (ws : List (List UInt8)) : Option (List Int) :=
  match atoiS ws with
  | some zs => if (allB 999999999999 zs && decide (x ++ tailL zs = l)) = true then some zs else none
  | none => none
theorem nm_same {l x : List UInt8} {ws : List (List UInt8)} (h : wordsOf l = x :: ws) : nmI l x ws = nmS ws := by
  obtain ⟨hj, hx⟩ := words_whole h
  cases hs : nmS ws with
  | some zs =>
    obtain ⟨e, hb⟩ := nmS_forth ws zs hs
    have h1 : atoiS ws = some zs := by rw [e]; exact atoiS_back zs hb
    rw [nmI, h1]
    have h2 : allB 999999999999 zs = true := by
      rw [allB_iff]
      exact hb
    have h3 : x ++ tailL zs = l := by rw [tailL, ← e]; exact hj
    simp [h2, h3]
  | none =>
    cases ha : atoiS ws with
    | none => rw [nmI, ha]
    | some zs =>
      rw [nmI, ha]
      show (if _ then some zs else none) = none
      rw [if_neg]
      intro hc
      rw [Bool.and_eq_true, decide_eq_true_eq, allB_iff] at hc
      obtain ⟨h2, h3⟩ := hc
      have hw : wordsOf l = x :: zs.map Lib.itoa := by
        rw [← h3, tailL]
        exact words_back x _ hx (fun y hy => by
          obtain ⟨z, _, rfl⟩ := List.mem_map.1 hy
          exact itoa_plain z)
      rw [h] at hw
      obtain ⟨-, e⟩ := List.cons.inj hw
      rw [e, nmS_back zs h2] at hs
      cases hs

end Go.Proofs.YtmdjcfplhmkocaaDoor
