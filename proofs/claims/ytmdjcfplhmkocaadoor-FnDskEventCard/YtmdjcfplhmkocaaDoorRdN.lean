/-
  Numbers, as the specification reads them. At most 120 bytes.
-/
import Derived.Test.YtmdjcfplhmkocaaDoorRdW
namespace Go.Proofs.YtmdjcfplhmkocaaDoor
open Go.RowKit
set_option linter.unusedVariables false
set_option maxRecDepth 100000

theorem digit_no {b : UInt8} (h : ¬ (48 ≤ b.toNat ∧ b.toNat ≤ 57)) : Lib.digitVal b = none := by rw [Lib.digitVal, if_neg h]
theorem digit_yes {b : UInt8} (h : 48 ≤ b.toNat ∧ b.toNat ≤ 57) : Lib.digitVal b = some (b.toNat - 48) := by rw [Lib.digitVal, if_pos h]
theorem dec_none {r : List UInt8} {k n : Nat} (hk : k < r.length) (h : Lib.decFrom 0 (r.take k) = some n) (hb : ¬ (48 ≤ (r[k]?.getD 0).toNat ∧ (r[k]?.getD 0).toNat ≤ 57)) : Lib.decFrom 0 r = none := by
  have e : r = r.take k ++ r.drop k := (List.take_append_drop k r).symm
  rw [e, decFrom_append, h, List.drop_eq_getElem_cons hk]
  rw [List.getElem?_eq_getElem hk] at hb
  simp only [Option.bind_some, Lib.decFrom]
  rw [digit_no (by simpa using hb)]
theorem dec_more {r : List UInt8} {k n : Nat} (hk : k < r.length) (h : Lib.decFrom 0 (r.take k) = some n) (hb : 48 ≤ (r[k]?.getD 0).toNat ∧ (r[k]?.getD 0).toNat ≤ 57) : Lib.decFrom 0 (r.take (k + 1)) = some (n * 10 + ((r[k]?.getD 0).toNat - 48)) :=
  Lib.decFrom_take r k 0 n (r[k]?.getD 0) _ h (by rw [List.getElem?_eq_getElem hk]; rfl) (digit_yes hb)
theorem mag_no {neg : Bool} {r : List UInt8} (h : ¬ ((1 ≤ r.length ∧ r.length ≤ 12) ∧ ¬ (1 < r.length ∧ r.head? = some 48) ∧ ¬ (neg = true ∧ r = [48]))) : magL neg r = (0, false) := by rw [magL, if_neg h]
theorem mag_bad {neg : Bool} {r : List UInt8} (h : Lib.decFrom 0 r = none) : magL neg r = (0, false) := by rw [magL, h]; split <;> rfl
theorem mag_good {neg : Bool} {r : List UInt8} {n : Nat} (h : (1 ≤ r.length ∧ r.length ≤ 12) ∧ ¬ (1 < r.length ∧ r.head? = some 48) ∧ ¬ (neg = true ∧ r = [48])) (h2 : Lib.decFrom 0 r = some n) : magL neg r = (if neg then -(n : Int) else n, true) := by rw [magL, if_pos h, h2]
theorem ret_num {x y : Int × Bool} (h : x = y) : Ending.returned (.tuple #[.int .i64 x.1, .bool x.2]) = .returned (.tuple #[.int .i64 y.1, .bool y.2]) := by rw [h]

set_option maxHeartbeats 1600000 in
theorem num_pos (r : List UInt8) (w : World) (hl : r.length ≤ 120) (h45 : ¬ r.head? = some 45) (hne : 0 < r.length) :
    Calls Tryd.prog 35 #[.string ⟨r.toArray⟩] w fun e w' => e = .returned (.tuple #[.int .i64 (magL false r).1, .bool (magL false r).2]) ∧ w' = w := by
  have hb0 := str_at (l := r) (k := 0) hne
  have h45' : ((((⟨r.toArray⟩ : ByteArray)[0]'(str_lt hne)).toNat : Int) == 45) = false := by
    have : ¬ (r[0]?.getD 0).toNat = 45 := fun e => h45 (by
      have e2 : r[0]?.getD 0 = 45 := UInt8.toNat_inj.1 (by rw [e]; rfl)
      rw [List.head?_eq_getElem?, List.getElem?_eq_getElem hne]
      rw [List.getElem?_eq_getElem hne] at e2
      simpa using e2)
    rw [hb0]
    simp; omega
  clear hb0
  go_enter Tryd.func35, Tryd.ntmps35
  go_wp2_with fail
  refine (in_any _ _ _ _).mono ?_
  rintro e w1 ⟨rfl, rfl⟩
  by_cases h1 : 1 ≤ r.length ∧ r.length ≤ 12
  · rw [show inB (r.length : Int) 1 12 = true from inB_iff.2 ⟨by omega, by omega⟩]
    have hp : 0 < r.length := by omega
    have hB := str_at (l := r) (k := 0) hp
    by_cases h2 : 1 < r.length ∧ r.head? = some 48
    · have HM : Hid (magL false r = (0, false)) := mag_no (fun h => h.2.1 h2)
      obtain ⟨h2a, h2b⟩ := h2
      have h0 : r[0]?.getD 0 = 48 := by rw [← List.head?_eq_getElem?, h2b]; rfl
      rw [h0] at hB
      have hB' : ((⟨r.toArray⟩ : ByteArray)[0]'(str_lt hp)).toNat = 48 := by rw [hB]; rfl
      have hl2 : (1 : Int) < r.length := by omega
      clear hB h0 h2b
      go_wp2
      go_ret2
      exact ⟨ret_two (by rw [HM.out]) (by rw [HM.out]), rfl⟩
    · have h0 : 1 < r.length → ((((⟨r.toArray⟩ : ByteArray)[0]'(str_lt hp)).toNat : Int) == 48) = false := fun hl1 => by
        have : ¬ (r[0]?.getD 0).toNat = 48 := fun e => h2 ⟨hl1, by
          have e2 : r[0]?.getD 0 = 48 := UInt8.toNat_inj.1 (by rw [e]; rfl)
          rw [List.head?_eq_getElem?, List.getElem?_eq_getElem hp]
          rw [List.getElem?_eq_getElem hp] at e2
          simpa using e2⟩
        rw [hB]
        simp; omega
      have H0 : Hid _ := h0
      clear h0 hB
      have Hg : Hid _ := And.intro h1 h2
      by_cases hl1 : 1 < r.length
      · have h0 := H0.out hl1
        have hl1' : (1 : Int) < r.length := by omega
        clear h2 h1
        go_wp2_with fail
        go_loop [5, 6] (fun n i => ∃ k m : Nat, k ≤ r.length ∧ i = .int .i64 k ∧ n = .int .i64 m ∧ Lib.decFrom 0 (r.take k) = some m ∧ m < 10 ^ k) (fun _ i => r.length - (intOf i).toNat)
        case atStart => exact ⟨0, 0, Nat.zero_le _, rfl, rfl, rfl, by simp⟩
        case round =>
          obtain ⟨k, m, hk, rfl, rfl, hd, hm⟩ := hrel
          have HD : Hid _ := hd
          have hm12 : m < 1000000000000 := Nat.lt_of_lt_of_le hm (Nat.le_trans (Nat.pow_le_pow_right (by omega) (show k ≤ 12 by have := Hg.out.1; omega)) (by decide))
          have HMP : Hid _ := hm
          clear hd hm
          by_cases hlt : k < r.length
          · have hBk := str_at hlt
            obtain ⟨x, hx⟩ : ∃ x, r[k]?.getD 0 = x := ⟨_, rfl⟩
            rw [hx] at hBk
            have HX : Hid _ := hx
            clear hx
            have hx8 := x.toNat_lt
            have hlt' : (k : Int) < r.length := by omega
            by_cases ha : x.toNat < 48
            · have HM : Hid (magL false r = (0, false)) := mag_bad (dec_none hlt HD.out (by rw [HX.out]; omega))
              have ha' : (x.toNat : Int) < 48 := by omega
              go_wp2
              go_ret2
              exact ⟨ret_two (by rw [HM.out]) (by rw [HM.out]), rfl⟩
            · by_cases hc : 57 < x.toNat
              · have HM : Hid (magL false r = (0, false)) := mag_bad (dec_none hlt HD.out (by rw [HX.out]; omega))
                have ha' : ¬ (x.toNat : Int) < 48 := by omega
                have hc' : (57 : Int) < x.toNat := by omega
                go_wp2
                go_ret2
                exact ⟨ret_two (by rw [HM.out]) (by rw [HM.out]), rfl⟩
              · have HN : Hid _ := dec_more hlt HD.out (by rw [HX.out]; omega)
                have ha' : ¬ (x.toNat : Int) < 48 := by omega
                have hc' : ¬ (57 : Int) < x.toNat := by omega
                go_wp2
                go_round
                case rel => exact ⟨k + 1, m * 10 + (x.toNat - 48), by omega, by go_num, by go_num, by rw [HN.out, HX.out], by rw [Nat.pow_succ]; have := HMP.out; omega⟩
                case measure => simp [intOf]; omega
          · have e : r.take k = r := List.take_of_length_le (by omega)
            have HM : Hid _ := mag_good (neg := false) (r := r) (n := m) ⟨Hg.out.1, Hg.out.2, fun h => by cases h.1⟩ (by rw [← e]; exact HD.out)
            clear e
            go_wp2
            go_ret2
            exact ⟨ret_two (by rw [HM.out]; simp) (by rw [HM.out]), rfl⟩
      · have hl1' : ¬ (1 : Int) < r.length := by omega
        clear h2 h1
        go_wp2_with fail
        go_loop [5, 6] (fun n i => ∃ k m : Nat, k ≤ r.length ∧ i = .int .i64 k ∧ n = .int .i64 m ∧ Lib.decFrom 0 (r.take k) = some m ∧ m < 10 ^ k) (fun _ i => r.length - (intOf i).toNat)
        case atStart => exact ⟨0, 0, Nat.zero_le _, rfl, rfl, rfl, by simp⟩
        case round =>
          obtain ⟨k, m, hk, rfl, rfl, hd, hm⟩ := hrel
          have HD : Hid _ := hd
          have hm12 : m < 1000000000000 := Nat.lt_of_lt_of_le hm (Nat.le_trans (Nat.pow_le_pow_right (by omega) (show k ≤ 12 by have := Hg.out.1; omega)) (by decide))
          have HMP : Hid _ := hm
          clear hd hm
          by_cases hlt : k < r.length
          · have hBk := str_at hlt
            obtain ⟨x, hx⟩ : ∃ x, r[k]?.getD 0 = x := ⟨_, rfl⟩
            rw [hx] at hBk
            have HX : Hid _ := hx
            clear hx
            have hx8 := x.toNat_lt
            have hlt' : (k : Int) < r.length := by omega
            by_cases ha : x.toNat < 48
            · have HM : Hid (magL false r = (0, false)) := mag_bad (dec_none hlt HD.out (by rw [HX.out]; omega))
              have ha' : (x.toNat : Int) < 48 := by omega
              go_wp2
              go_ret2
              exact ⟨ret_two (by rw [HM.out]) (by rw [HM.out]), rfl⟩
            · by_cases hc : 57 < x.toNat
              · have HM : Hid (magL false r = (0, false)) := mag_bad (dec_none hlt HD.out (by rw [HX.out]; omega))
                have ha' : ¬ (x.toNat : Int) < 48 := by omega
                have hc' : (57 : Int) < x.toNat := by omega
                go_wp2
                go_ret2
                exact ⟨ret_two (by rw [HM.out]) (by rw [HM.out]), rfl⟩
              · have HN : Hid _ := dec_more hlt HD.out (by rw [HX.out]; omega)
                have ha' : ¬ (x.toNat : Int) < 48 := by omega
                have hc' : ¬ (57 : Int) < x.toNat := by omega
                go_wp2
                go_round
                case rel => exact ⟨k + 1, m * 10 + (x.toNat - 48), by omega, by go_num, by go_num, by rw [HN.out, HX.out], by rw [Nat.pow_succ]; have := HMP.out; omega⟩
                case measure => simp [intOf]; omega
          · have e : r.take k = r := List.take_of_length_le (by omega)
            have HM : Hid _ := mag_good (neg := false) (r := r) (n := m) ⟨Hg.out.1, Hg.out.2, fun h => by cases h.1⟩ (by rw [← e]; exact HD.out)
            clear e
            go_wp2
            go_ret2
            exact ⟨ret_two (by rw [HM.out]; simp) (by rw [HM.out]), rfl⟩
  · rw [show inB (r.length : Int) 1 12 = false from inB_not.2 (by omega)]
    have HM : Hid (magL false r = (0, false)) := mag_no (fun h => h1 h.1)
    go_wp2
    go_ret2
    exact ⟨ret_two (by rw [HM.out]) (by rw [HM.out]), rfl⟩

set_option maxHeartbeats 1600000 in
theorem num_neg (r : List UInt8) (w : World) (hl : r.length ≤ 120) :
    Calls Tryd.prog 35 #[.string ⟨(45 :: r).toArray⟩] w fun e w' => e = .returned (.tuple #[.int .i64 (magL true r).1, .bool (magL true r).2]) ∧ w' = w := by
  obtain ⟨l, hL⟩ : ∃ l : List UInt8, l = 45 :: r := ⟨_, rfl⟩
  have hln : l.length = r.length + 1 := by rw [hL]; rfl
  have hp : 0 < l.length := by omega
  have hB := str_at (l := l) (k := 0) hp
  have h0 : l[0]?.getD 0 = 45 := by rw [hL]; rfl
  rw [h0] at hB
  have hB' : ((⟨l.toArray⟩ : ByteArray)[0]'(str_lt hp)).toNat = 45 := by rw [hB]; rfl
  rw [← hL]
  have HL : Hid _ := hL
  have HLN : Hid _ := hln
  have hl2 : l.length ≤ 121 := by omega
  have hlr : l.length - 1 = r.length := by omega
  have hex : (⟨l.toArray⟩ : ByteArray).extract 1 l.length = ⟨r.toArray⟩ := by
    rw [hL]
    apply ByteArray.ext
    apply Array.toList_inj.1
    rw [Lib.extract_data]
    simp
  clear hB h0 hL hln
  go_enter Tryd.func35, Tryd.ntmps35
  go_wp2_with fail
  clear hex hlr hB' hp hl2
  refine (in_any _ _ _ _).mono ?_
  rintro e w1 ⟨rfl, rfl⟩
  by_cases h1 : 1 ≤ r.length ∧ r.length ≤ 12
  · rw [show inB (r.length : Int) 1 12 = true from inB_iff.2 ⟨by omega, by omega⟩]
    have hp : 0 < r.length := by omega
    have hB := str_at (l := r) (k := 0) hp
    by_cases h2 : 1 < r.length ∧ r.head? = some 48
    · have HM : Hid (magL true r = (0, false)) := mag_no (fun h => h.2.1 h2)
      obtain ⟨h2a, h2b⟩ := h2
      have h0 : r[0]?.getD 0 = 48 := by rw [← List.head?_eq_getElem?, h2b]; rfl
      rw [h0] at hB
      have hB' : ((⟨r.toArray⟩ : ByteArray)[0]'(str_lt hp)).toNat = 48 := by rw [hB]; rfl
      have hl2 : (1 : Int) < r.length := by omega
      clear hB h0 h2b
      go_wp2
      go_ret2
      exact ⟨ret_two (by rw [HM.out]) (by rw [HM.out]), rfl⟩
    · have h0 : 1 < r.length → ((((⟨r.toArray⟩ : ByteArray)[0]'(str_lt hp)).toNat : Int) == 48) = false := fun hl1 => by
        have : ¬ (r[0]?.getD 0).toNat = 48 := fun e => h2 ⟨hl1, by
          have e2 : r[0]?.getD 0 = 48 := UInt8.toNat_inj.1 (by rw [e]; rfl)
          rw [List.head?_eq_getElem?, List.getElem?_eq_getElem hp]
          rw [List.getElem?_eq_getElem hp] at e2
          simpa using e2⟩
        rw [hB]
        simp; omega
      have H0 : Hid _ := h0
      clear h0 hB
      have Hg : Hid _ := And.intro h1 h2
      by_cases h3 : r = [48]
      · have HM : Hid (magL true r = (0, false)) := mag_no (fun h => h.2.2 ⟨rfl, h3⟩)
        subst h3
        go_wp2
        go_ret2
        exact ⟨ret_two (by rw [HM.out]) (by rw [HM.out]), rfl⟩
      have h3' : (r == [48]) = false := by simpa using h3
      have Hgg : Hid _ := And.intro Hg.out h3
      clear h3
      by_cases hl1 : 1 < r.length
      · have h0 := H0.out hl1
        have hl1' : (1 : Int) < r.length := by omega
        clear h2 h1
        go_wp2_with fail
        go_loop [5, 6] (fun n i => ∃ k m : Nat, k ≤ r.length ∧ i = .int .i64 k ∧ n = .int .i64 m ∧ Lib.decFrom 0 (r.take k) = some m ∧ m < 10 ^ k) (fun _ i => r.length - (intOf i).toNat)
        case atStart => exact ⟨0, 0, Nat.zero_le _, rfl, rfl, rfl, by simp⟩
        case round =>
          obtain ⟨k, m, hk, rfl, rfl, hd, hm⟩ := hrel
          have HD : Hid _ := hd
          have hm12 : m < 1000000000000 := Nat.lt_of_lt_of_le hm (Nat.le_trans (Nat.pow_le_pow_right (by omega) (show k ≤ 12 by have := Hg.out.1; omega)) (by decide))
          have HMP : Hid _ := hm
          clear hd hm
          by_cases hlt : k < r.length
          · have hBk := str_at hlt
            obtain ⟨x, hx⟩ : ∃ x, r[k]?.getD 0 = x := ⟨_, rfl⟩
            rw [hx] at hBk
            have HX : Hid _ := hx
            clear hx
            have hx8 := x.toNat_lt
            have hlt' : (k : Int) < r.length := by omega
            by_cases ha : x.toNat < 48
            · have HM : Hid (magL true r = (0, false)) := mag_bad (dec_none hlt HD.out (by rw [HX.out]; omega))
              have ha' : (x.toNat : Int) < 48 := by omega
              go_wp2
              go_ret2
              exact ⟨ret_two (by rw [HM.out]) (by rw [HM.out]), rfl⟩
            · by_cases hc : 57 < x.toNat
              · have HM : Hid (magL true r = (0, false)) := mag_bad (dec_none hlt HD.out (by rw [HX.out]; omega))
                have ha' : ¬ (x.toNat : Int) < 48 := by omega
                have hc' : (57 : Int) < x.toNat := by omega
                go_wp2
                go_ret2
                exact ⟨ret_two (by rw [HM.out]) (by rw [HM.out]), rfl⟩
              · have HN : Hid _ := dec_more hlt HD.out (by rw [HX.out]; omega)
                have ha' : ¬ (x.toNat : Int) < 48 := by omega
                have hc' : ¬ (57 : Int) < x.toNat := by omega
                go_wp2
                go_round
                case rel => exact ⟨k + 1, m * 10 + (x.toNat - 48), by omega, by go_num, by go_num, by rw [HN.out, HX.out], by rw [Nat.pow_succ]; have := HMP.out; omega⟩
                case measure => simp [intOf]; omega
          · have e : r.take k = r := List.take_of_length_le (by omega)
            have HM : Hid _ := mag_good (neg := true) (r := r) (n := m) ⟨Hgg.out.1.1, Hgg.out.1.2, fun h => Hgg.out.2 h.2⟩ (by rw [← e]; exact HD.out)
            clear e
            go_wp2
            go_ret2
            exact ⟨ret_two (by rw [HM.out]; simp) (by rw [HM.out]), rfl⟩
      · have hl1' : ¬ (1 : Int) < r.length := by omega
        clear h2 h1
        go_wp2_with fail
        go_loop [5, 6] (fun n i => ∃ k m : Nat, k ≤ r.length ∧ i = .int .i64 k ∧ n = .int .i64 m ∧ Lib.decFrom 0 (r.take k) = some m ∧ m < 10 ^ k) (fun _ i => r.length - (intOf i).toNat)
        case atStart => exact ⟨0, 0, Nat.zero_le _, rfl, rfl, rfl, by simp⟩
        case round =>
          obtain ⟨k, m, hk, rfl, rfl, hd, hm⟩ := hrel
          have HD : Hid _ := hd
          have hm12 : m < 1000000000000 := Nat.lt_of_lt_of_le hm (Nat.le_trans (Nat.pow_le_pow_right (by omega) (show k ≤ 12 by have := Hg.out.1; omega)) (by decide))
          have HMP : Hid _ := hm
          clear hd hm
          by_cases hlt : k < r.length
          · have hBk := str_at hlt
            obtain ⟨x, hx⟩ : ∃ x, r[k]?.getD 0 = x := ⟨_, rfl⟩
            rw [hx] at hBk
            have HX : Hid _ := hx
            clear hx
            have hx8 := x.toNat_lt
            have hlt' : (k : Int) < r.length := by omega
            by_cases ha : x.toNat < 48
            · have HM : Hid (magL true r = (0, false)) := mag_bad (dec_none hlt HD.out (by rw [HX.out]; omega))
              have ha' : (x.toNat : Int) < 48 := by omega
              go_wp2
              go_ret2
              exact ⟨ret_two (by rw [HM.out]) (by rw [HM.out]), rfl⟩
            · by_cases hc : 57 < x.toNat
              · have HM : Hid (magL true r = (0, false)) := mag_bad (dec_none hlt HD.out (by rw [HX.out]; omega))
                have ha' : ¬ (x.toNat : Int) < 48 := by omega
                have hc' : (57 : Int) < x.toNat := by omega
                go_wp2
                go_ret2
                exact ⟨ret_two (by rw [HM.out]) (by rw [HM.out]), rfl⟩
              · have HN : Hid _ := dec_more hlt HD.out (by rw [HX.out]; omega)
                have ha' : ¬ (x.toNat : Int) < 48 := by omega
                have hc' : ¬ (57 : Int) < x.toNat := by omega
                go_wp2
                go_round
                case rel => exact ⟨k + 1, m * 10 + (x.toNat - 48), by omega, by go_num, by go_num, by rw [HN.out, HX.out], by rw [Nat.pow_succ]; have := HMP.out; omega⟩
                case measure => simp [intOf]; omega
          · have e : r.take k = r := List.take_of_length_le (by omega)
            have HM : Hid _ := mag_good (neg := true) (r := r) (n := m) ⟨Hgg.out.1.1, Hgg.out.1.2, fun h => Hgg.out.2 h.2⟩ (by rw [← e]; exact HD.out)
            clear e
            go_wp2
            go_ret2
            exact ⟨ret_two (by rw [HM.out]; simp) (by rw [HM.out]), rfl⟩
  · rw [show inB (r.length : Int) 1 12 = false from inB_not.2 (by omega)]
    have HM : Hid (magL true r = (0, false)) := mag_no (fun h => h1 h.1)
    go_wp2
    go_ret2
    exact ⟨ret_two (by rw [HM.out]) (by rw [HM.out]), rfl⟩

theorem num_any (l : List UInt8) (w : World) (hl : l.length ≤ 120) :
    Calls Tryd.prog 35 #[.string ⟨l.toArray⟩] w fun e w' => e = .returned (.tuple #[.int .i64 (numL l).1, .bool (numL l).2]) ∧ w' = w := by
  cases l with
  | nil =>
    have HM : Hid (numL [] = (0, false)) := by show numL [] = _; rfl
    go_enter Tryd.func35, Tryd.ntmps35
    go_wp2_with fail
    refine (in_any _ _ _ _).mono ?_
    rintro e w1 ⟨rfl, rfl⟩
    rw [show inB 0 1 12 = false from rfl]
    go_wp2
    go_ret2
    exact ⟨ret_two (by rw [HM.out]) (by rw [HM.out]), rfl⟩
  | cons b r =>
    by_cases h : b = 45
    · subst h
      have e : numL (45 :: r) = magL true r := by rw [numL, if_pos rfl]
      rw [e]
      exact num_neg r w (by rw [List.length_cons] at hl; omega)
    · have e : numL (b :: r) = magL false (b :: r) := by rw [numL, if_neg h]
      rw [e]
      exact num_pos (b :: r) w hl (by simpa using h) (by simp)

end Go.Proofs.YtmdjcfplhmkocaaDoor
