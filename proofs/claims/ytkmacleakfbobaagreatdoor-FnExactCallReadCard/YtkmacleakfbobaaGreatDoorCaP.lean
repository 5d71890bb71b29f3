/-
  A call's text read by the specification and by the program: the same over plain lists. No condition.
-/
import Derived.Test.YtkmacleakfbobaaGreatDoorCallT
import Derived.Test.YtkmacleakfbobaaGreatDoorRdP
namespace Go.Proofs.YtkmacleakfbobaaGreatDoor
open Go.RowKit
set_option linter.unusedVariables false

/-- What a call is: its client, its number, its act, its arguments. -/
abbrev CallD := Int × Int × Int × List Int
/-- The text is that of the call, which is ok. -/
def Can (l : List UInt8) (c : CallD) : Prop := callOkB c.1 c.2.1 c.2.2.1 2 c.2.2.2 = true ∧ c.2.2.2.length = 2 ∧ l = callL c.1 c.2.1 c.2.2.1 c.2.2.2
theorem call_bound {cl sq ac : Int} {n : Nat} {zs : List Int} (h : callOkB cl sq ac n zs = true) : (0 ≤ cl ∧ cl ≤ 3) ∧ (1 ≤ sq ∧ sq ≤ 300) ∧ (0 ≤ ac ∧ ac ≤ 3) ∧ ∀ z ∈ zs, -9 ≤ z ∧ z ≤ 9 := by
  unfold callOkB okN allB at h
  simp only [Bool.and_eq_true, List.all_eq_true, inB_iff] at h
  exact ⟨h.1, h.2.1, h.2.2.1, fun z hz => h.2.2.2.2 z hz⟩
theorem call_words {cl sq ac : Int} {zs : List Int} : wordsOf (callL cl sq ac zs) = [wClient, Lib.itoa cl, wCall, Lib.itoa sq, wAct, Lib.itoa ac, wWith] ++ zs.map Lib.itoa := by
  have e : callL cl sq ac zs = wClient ++ Lib.joinTail [32] ([Lib.itoa cl, wCall, Lib.itoa sq, wAct, Lib.itoa ac, wWith] ++ zs.map Lib.itoa) := by
    rw [callL, tailL]
    simp [Lib.joinTail]
  rw [e, words_back _ _ (by decide)]
  · rfl
  · intro x hx
    rcases List.mem_append.1 hx with h | h
    · simp only [List.mem_cons, List.not_mem_nil, or_false] at h
      rcases h with rfl | rfl | rfl | rfl | rfl | rfl
      · exact itoa_plain _
      · decide
      · exact itoa_plain _
      · decide
      · exact itoa_plain _
      · decide
    · obtain ⟨z, -, rfl⟩ := List.mem_map.1 h
      exact itoa_plain z
/-- The number at a place, -1 where there is none. -/
def atC (ws : List (List UInt8)) (k : Nat) : Int :=
  match ws[k]? with
  | none => -1
  | some x => if (numL x).2 = true then (numL x).1 else -1
/-- The call that the words would be. -/
def candS (ws : List (List UInt8)) : CallD := (atC ws 1, atC ws 3, atC ws 5, [(numL (ws[7]?.getD [])).1, (numL (ws[8]?.getD [])).1])
theorem can_cand {l : List UInt8} {c : CallD} (h : Can l c) : (wordsOf l).length = 9 ∧ candS (wordsOf l) = c ∧ atoiS [(wordsOf l)[1]?.getD [], (wordsOf l)[3]?.getD [], (wordsOf l)[5]?.getD []] = some [c.1, c.2.1, c.2.2.1] ∧ atoiS ((wordsOf l).drop 7) = some c.2.2.2 := by
  obtain ⟨h1, h2, h3⟩ := h
  obtain ⟨cl, sq, ac, zs⟩ := c
  simp only at h1 h2 h3 ⊢
  obtain ⟨b1, b2, b3, b4⟩ := call_bound h1
  have e := call_words (cl := cl) (sq := sq) (ac := ac) (zs := zs)
  rw [← h3] at e
  match zs, h2 with
  | [x, y], _ =>
    have bx := b4 x (by simp)
    have by' := b4 y (by simp)
    rw [e]
    have n1 := num_back cl (by omega)
    have n2 := num_back sq (by omega)
    have n3 := num_back ac (by omega)
    have n4 := num_back x (by omega)
    have n5 := num_back y (by omega)
    have a1 := all_back cl (by omega)
    have a2 := all_back sq (by omega)
    have a3 := all_back ac (by omega)
    have a4 := all_back x (by omega)
    have a5 := all_back y (by omega)
    refine ⟨rfl, ?_, ?_, ?_⟩
    · simp [candS, atC, n1, n2, n3, n4, n5]
    · simp [atoiS, a1, a2, a3]
    · simp [atoiS, a4, a5]
theorem can_unique {l : List UInt8} {c d : CallD} (h : Can l c) (h' : Can l d) : c = d := (can_cand h).2.1.symm.trans (can_cand h').2.1

open Classical in
/-- What a text is read as. -/
noncomputable def caF (l : List UInt8) : CallD × Bool := if h : ∃ c, Can l c then (Classical.choose h, true) else ((0, 0, 0, []), false)
theorem caF_yes {l : List UInt8} {c : CallD} (h : Can l c) : caF l = (c, true) := by
  unfold caF
  rw [dif_pos ⟨c, h⟩]
  have := can_unique (Classical.choose_spec (p := fun c => Can l c) ⟨c, h⟩) h
  rw [this]
theorem caF_no {l : List UInt8} (h : ∀ c, ¬ Can l c) : caF l = ((0, 0, 0, []), false) := by
  unfold caF
  rw [dif_neg (fun ⟨c, hc⟩ => h c hc)]
theorem len_gen (p1 p2 p3 p4 a1 a2 a3 a4 a5 : List UInt8) (c1 : p1.length = 6) (c2 : p2.length = 4) (c3 : p3.length = 3) (c4 : p4.length = 4) (l1 : a1.length ≤ 18) (l2 : a2.length ≤ 18) (l3 : a3.length ≤ 18) (l4 : a4.length ≤ 18) (l5 : a5.length ≤ 18) :
    (p1 ++ ([32] ++ (a1 ++ ([32] ++ (p2 ++ ([32] ++ (a2 ++ ([32] ++ (p3 ++ ([32] ++ (a3 ++ ([32] ++ (p4 ++ ([32] ++ (a4 ++ ([32] ++ a5)))))))))))))))).length ≤ 120 := by
  rw [List.length_append, List.length_append, List.length_append, List.length_append, List.length_append, List.length_append, List.length_append, List.length_append, List.length_append, List.length_append, List.length_append, List.length_append, List.length_append, List.length_append, List.length_append, List.length_append]
  rw [c1, c2, c3, c4, show ([32] : List UInt8).length = 1 from rfl]
  have k1 := Nat.add_le_add l4 (Nat.add_le_add (Nat.le_refl 1) l5)
  have k2 := Nat.add_le_add l3 (Nat.add_le_add (Nat.le_refl 1) (Nat.add_le_add (Nat.le_refl 4) (Nat.add_le_add (Nat.le_refl 1) k1)))
  have k3 := Nat.add_le_add l2 (Nat.add_le_add (Nat.le_refl 1) (Nat.add_le_add (Nat.le_refl 3) (Nat.add_le_add (Nat.le_refl 1) k2)))
  have k4 := Nat.add_le_add l1 (Nat.add_le_add (Nat.le_refl 1) (Nat.add_le_add (Nat.le_refl 4) (Nat.add_le_add (Nat.le_refl 1) k3)))
  have k5 := Nat.add_le_add (Nat.le_refl 6) (Nat.add_le_add (Nat.le_refl 1) k4)
  exact Nat.le_trans k5 (by decide)
theorem call_len2 {cl sq ac x y : Int} (l1 : (Lib.itoa cl).length ≤ 18) (l2 : (Lib.itoa sq).length ≤ 18) (l3 : (Lib.itoa ac).length ≤ 18) (l4 : (Lib.itoa x).length ≤ 18) (l5 : (Lib.itoa y).length ≤ 18) : (callL cl sq ac [x, y]).length ≤ 120 := by
  have := len_gen wClient wCall wAct wWith _ _ _ _ _ rfl rfl rfl rfl l1 l2 l3 l4 l5
  rw [← tail_two] at this
  exact this
theorem call_len {cl sq ac : Int} {zs : List Int} (h : callOkB cl sq ac 2 zs = true) (h2 : zs.length = 2) : (callL cl sq ac zs).length ≤ 120 := by
  obtain ⟨b1, b2, b3, b4⟩ := call_bound h
  clear h
  have e := two_of h2
  have m0 : zs[0]?.getD 0 ∈ zs := by rw [e]; simp
  have m1 : zs[1]?.getD 0 ∈ zs := by rw [e]; simp
  have bx := b4 _ m0
  have by' := b4 _ m1
  rw [e]
  exact call_len2 (itoa_len cl (by omega)) (itoa_len sq (by omega)) (itoa_len ac (by omega)) (itoa_len _ (by omega)) (itoa_len _ (by omega))
theorem caF_long {l : List UInt8} (h : 120 < l.length) : caF l = ((0, 0, 0, []), false) := caF_no (fun c hc => by
  have := call_len hc.1 hc.2.1
  rw [← hc.2.2] at this
  omega)
theorem caF_small {l : List UInt8} {c : CallD} {ok : Bool} (h : caF l = (c, ok)) : c.2.2.2.length ≤ 2 := by
  by_cases he : ∃ c, Can l c
  · obtain ⟨d, hd⟩ := he
    rw [caF_yes hd] at h
    have : d = c := congrArg Prod.fst h
    rw [← this, hd.2.1]
    omega
  · rw [caF_no (fun c hc => he ⟨c, hc⟩)] at h
    have : ((0, 0, 0, []) : CallD) = c := congrArg Prod.fst h
    rw [← this]
    simp

end Go.Proofs.YtkmacleakfbobaaGreatDoor
