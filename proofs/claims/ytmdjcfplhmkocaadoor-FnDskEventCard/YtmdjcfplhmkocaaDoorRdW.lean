/-
  The words of a text, as the specification cuts them. At most 1048576 bytes.
-/
import Derived.Test.YtmdjcfplhmkocaaDoorRd
import Derived.Test.YtmdjcfplhmkocaaDoorTxtI
namespace Go.Proofs.YtmdjcfplhmkocaaDoor
open Go.RowKit
set_option linter.unusedVariables false
set_option maxRecDepth 100000

abbrev bytesW (ws : List (List UInt8)) : List ByteArray := ws.map fun l => ⟨l.toArray⟩
theorem JT.lit (w : World) : JT w (.slice (some ⟨w.heap.size, 0, none⟩) 0 0) [] (w.alloc (.cells #[] 9)) :=
  ⟨(Below.refl _ _).alloc (Nat.le_refl _) _, World.ownsRow_lit w #[] 0 (Nat.le_refl _) (by unfold maxLen; omega) rfl⟩
theorem wordsF_blank {acc l : List UInt8} {k : Nat} (h : k < l.length) (hb : l[k]?.getD 0 = 32) : wordsF acc (l.drop k) = acc :: wordsF [] (l.drop (k + 1)) := by
  rw [List.drop_eq_getElem_cons h, wordsF]
  rw [List.getElem?_eq_getElem h] at hb
  rw [if_pos (by simpa using hb)]
theorem wordsF_more {acc l : List UInt8} {k : Nat} (h : k < l.length) (hb : ¬ l[k]?.getD 0 = 32) : wordsF acc (l.drop k) = wordsF (acc ++ [l[k]?.getD 0]) (l.drop (k + 1)) := by
  rw [List.drop_eq_getElem_cons h, wordsF]
  rw [List.getElem?_eq_getElem h] at hb ⊢
  rw [if_neg (by simpa using hb)]
  simp
theorem wordsF_end {acc l : List UInt8} {k : Nat} (h : l.length ≤ k) : wordsF acc (l.drop k) = [acc] := by
  rw [List.drop_eq_nil_of_le h]; rfl

theorem str_lt {l : List UInt8} {k : Nat} (h : k < l.length) : k < (⟨l.toArray⟩ : ByteArray).size := by simpa [ByteArray.size] using h
theorem str_at {l : List UInt8} {k : Nat} (h : k < l.length) : ((⟨l.toArray⟩ : ByteArray)[k]'(str_lt h)) = l[k]?.getD 0 := by
  rw [List.getElem?_eq_getElem h]
  rfl

set_option maxHeartbeats 1600000 in
theorem words_any (l : List UInt8) (w : World) (hl : l.length ≤ 120) :
    Calls Tryd.prog 17 #[.string ⟨l.toArray⟩] w fun e w' => ∃ v, e = .returned v ∧ JT w v (bytesW (wordsOf l)) w' := by
  obtain ⟨i0, hi, hz0, hz1, hz2⟩ := info_parts Tryd.infoStr
  go_enter Tryd.func17, Tryd.ntmps17
  go_wp2_with fail
  go_loopw [3, 4, 5] (fun v s i wr => ∃ (k m : Nat) (xs : List (List UInt8)) (acc : List UInt8), k ≤ l.length ∧ i = .int .i64 k ∧ s = .string ⟨acc.toArray⟩ ∧ xs.length = m ∧ m ≤ k ∧ acc.length ≤ k ∧ wordsOf l = xs ++ wordsF acc (l.drop k) ∧ JT w v (bytesW xs) wr) (fun _ _ i _ => l.length - (intOf i).toNat)
  case atStart => exact ⟨0, 0, [], [], Nat.zero_le _, rfl, rfl, rfl, Nat.le_refl _, by simp, rfl, JT.lit w⟩
  case round =>
    obtain ⟨k, m, xs, acc, hk, rfl, rfl, hm, hmk, hak, hw, j⟩ := hrel
    have HM : Hid _ := hm
    have HW : Hid _ := hw
    have hjb := j.b.size
    have jo := j.o
    rw [List.length_map, HM.out] at jo
    clear hm hw
    by_cases hlt : k < l.length
    · have hB := str_at hlt
      by_cases hb : l[k]?.getD 0 = 32
      · have HB : Hid _ := wordsF_blank (acc := acc) hlt hb
        rw [hb] at hB
        have hB' : ((⟨l.toArray⟩ : ByteArray)[k]'(str_lt hlt)).toNat = 32 := by rw [hB]; rfl
        clear hb hB
        go_wp2_with (at_builtin; go_must (refine wpList_append_lies _ rfl (.tmp 21) (.tmp 23) 44 rfl w.heap.size 9 i0 (.string ⟨#[]⟩) 1 16 Tryd.underlying44 hi hz0 hz1 hz2 rfl (by decide) _ _ _ rfl (jo.alloc _) ⟨wr.heap.size, 0, none⟩ 1 1 [.string ⟨acc.toArray⟩] rfl rfl (newsS _ _ _) (oneS _) (by omega) (by unfold maxLen; omega) (by omega) (by rw [World.size_alloc]; omega) _ rfl ?_); intro g cp w3 hown hgrow hat hlt1)
        have j3 := j.app (by rw [List.length_map, HM.out]) hown hgrow
        rw [show bytesW xs ++ [⟨acc.toArray⟩] = bytesW (xs ++ [acc]) by rw [bytesW, bytesW, List.map_append]; rfl] at j3
        clear hown hgrow jo j hat hB'
        go_wp2
        go_roundw
        case rel => exact ⟨k + 1, m + 1, xs ++ [acc], [], by omega, by go_num, rfl, by rw [List.length_append, HM.out]; rfl, by omega, by simp, by rw [HW.out, HB.out, List.append_assoc]; rfl, j3⟩
        case measure => simp [intOf]; omega
      · have HB : Hid _ := wordsF_more (acc := acc) hlt hb
        obtain ⟨x, hx⟩ : ∃ x, l[k]?.getD 0 = x := ⟨_, rfl⟩
        rw [hx] at hB hb
        have HX : Hid _ := hx
        clear hx
        have hxn : ¬ x.toNat = 32 := fun e => hb (UInt8.toNat_inj.1 (by rw [e]; rfl))
        have hne : ((x.toNat : Int) == 32) = false := by simp; omega
        have hx8 := x.toNat_lt
        clear hb hxn
        have hcv : (convert 22 9 (.slice (some ⟨wr.heap.size, 0, none⟩) 1 1)).run Tryd.prog (wr.alloc (.cells #[.int .u8 (x.toNat : Int)] 5)) = .ok (.string ⟨#[x]⟩) (wr.alloc (.cells #[.int .u8 (x.toNat : Int)] 5)) := run_convert_bytes_back (P := Tryd.prog) (wr.alloc (.cells #[.int .u8 (x.toNat : Int)] 5)) 22 9 5 ⟨wr.heap.size, 0, none⟩ 1 [x] Tryd.underlying22 Tryd.underlying5 Tryd.underlying9 (fun j hj => by
          have : j = 0 := by simpa using hj
          subst this
          simp [go_sem, Addr.add])
        go_wp2
        go_roundw
        case rel => exact ⟨k + 1, m, xs, acc ++ [x], by omega, by go_num, by rw [show (⟨#[x]⟩ : ByteArray) = ⟨[x].toArray⟩ from rfl, cat_str], HM.out, by omega, by rw [List.length_append]; simp; omega, by rw [HW.out, HB.out, HX.out], j.alloc _⟩
        case measure => simp [intOf]; omega
    · have HE : Hid _ := wordsF_end (acc := acc) (l := l) (k := k) (by omega)
      go_wp2_with (at_builtin; go_must (refine wpList_append_lies _ rfl (.tmp 32) (.tmp 34) 44 rfl w.heap.size 9 i0 (.string ⟨#[]⟩) 1 16 Tryd.underlying44 hi hz0 hz1 hz2 rfl (by decide) _ _ _ rfl (jo.alloc _) ⟨wr.heap.size, 0, none⟩ 1 1 [.string ⟨acc.toArray⟩] rfl rfl (newsS _ _ _) (oneS _) (by omega) (by unfold maxLen; omega) (by omega) (by rw [World.size_alloc]; omega) _ rfl ?_); intro g cp w3 hown hgrow hat hlt1)
      have j3 := j.app (by rw [List.length_map, HM.out]) hown hgrow
      rw [show bytesW xs ++ [⟨acc.toArray⟩] = bytesW (xs ++ [acc]) by rw [bytesW, bytesW, List.map_append]; rfl] at j3
      clear hown hgrow jo j hat
      go_wp2
      go_ret
      exact ⟨_, rfl, by rw [HW.out, HE.out]; exact j3⟩

end Go.Proofs.YtmdjcfplhmkocaaDoor
