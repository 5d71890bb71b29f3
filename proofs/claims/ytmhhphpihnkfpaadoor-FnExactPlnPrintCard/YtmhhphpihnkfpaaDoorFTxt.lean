/-
  What the text of a form is, and that the specification writes it. Lengths at most 1048576.
-/
import Derived.Test.YtmhhphpihnkfpaaDoorDig
import Derived.Test.YtmhhphpihnkfpaaDoorAt
import Derived.Lib.Join
namespace Go.Proofs.YtmhhphpihnkfpaaDoor
open Go.RowKit
set_option linter.unusedVariables false
set_option maxRecDepth 100000

/-- The words of the first k numbers that are not 0. -/
def timesL (x : UInt8) (zs : List Int) : Nat → List (List UInt8)
  | 0 => []
  | k + 1 => timesL x zs k ++ (if zs[k]?.getD 0 = 0 then [] else [Lib.itoa (zs[k]?.getD 0) ++ [x] ++ Lib.itoa (k : Int)])
def spaced (ws : List (List UInt8)) : List UInt8 := (ws.map (· ++ [32])).flatten
def formText (n m : Nat) (C D : List Int) (K : Int) : List UInt8 := if formB n m C D K = true then spaced (timesL 120 C 3 ++ timesL 97 D 2) ++ Lib.itoa K else []
theorem formText_no {n m : Nat} {C D : List Int} {K : Int} (h : formB n m C D K = false) : formText n m C D K = [] := by rw [formText, h]; rfl
theorem formText_yes {n m : Nat} {C D : List Int} {K : Int} (h : formB n m C D K = true) : formText n m C D K = spaced (timesL 120 C 3 ++ timesL 97 D 2) ++ Lib.itoa K := by rw [formText, if_pos h]
theorem times_zero {x : UInt8} {zs : List Int} {k : Nat} (h : zs[k]?.getD 0 = 0) : timesL x zs (k + 1) = timesL x zs k := by rw [timesL, if_pos h, List.append_nil]
theorem times_more {x : UInt8} {zs : List Int} {k : Nat} (h : ¬ zs[k]?.getD 0 = 0) : timesL x zs (k + 1) = timesL x zs k ++ [Lib.itoa (zs[k]?.getD 0) ++ [x] ++ Lib.itoa (k : Int)] := by rw [timesL, if_neg h]
theorem spaced_snoc (ws : List (List UInt8)) (x : List UInt8) : spaced (ws ++ [x]) = spaced ws ++ (x ++ [32]) := by
  unfold spaced
  rw [List.map_append, List.flatten_append]
  simp
theorem tail_spaced (ws : List (List UInt8)) (last : List UInt8) : Lib.joinTail [32] (ws ++ [last]) = [32] ++ (spaced ws ++ last) := by
  induction ws with
  | nil => simp [Lib.joinTail, spaced]
  | cons x ws ih =>
    unfold Lib.joinTail at *
    unfold spaced at *
    simp only [List.cons_append, List.map_cons, List.flatten_cons] at *
    rw [ih]
    simp
theorem join_spaced (ws : List (List UInt8)) (last : List UInt8) : Lib.join (ws ++ [last]) [32] = spaced ws ++ last := by
  cases ws with
  | nil => simp [Lib.join_one, spaced]
  | cons x ws =>
    rw [List.cons_append, Lib.join_cons, tail_spaced]
    unfold spaced
    simp

set_option maxHeartbeats 3200000 in
theorem sftext_any (a : Option Addr) (n cap : Nat) (c : Option Addr) (m cap' : Nat) (K : Int) (C D : List Int) (w : World) (hC : Ints w a n C) (hD : Ints w c m D) (hn : n ≤ 1048576) (hm : m ≤ 1048576) :
    Calls Tryd.prog 35 #[formV a n cap c m cap' K] w fun e w' => e = .returned (.string ⟨(formText n m C D K).toArray⟩) ∧ Below w.heap.size w w' := by
  have q0 := Cel.new w [.slice a n cap, .slice c m cap', .int .i64 K] 46
  have b0 := (Below.refl w.heap.size w).alloc (Nat.le_refl _) (.cells #[.slice a n cap, .slice c m cap', .int .i64 K] 46)
  cases h1 : formB n m C D K
  · have HR : Hid _ := formText_no h1
    go_enter Tryd.func35, Tryd.ntmps35
    go_wp2_with fail
    refine (sok_any _ _ _ _ _ _ _ C D _ (hC.below b0) (hD.below b0) hn hm).mono ?_
    rintro e w1 ⟨rfl, b1⟩
    rw [h1]
    go_wp2
    go_ret
    exact ⟨by rw [HR.out]; rfl, b0.trans (b1.mono b0.size)⟩
  have HR : Hid _ := formText_yes h1
  obtain ⟨e1, e2, bC, bD, K1, K2⟩ := formB_elim h1
  have H1 : Hid _ := h1
  clear h1
  subst e1 e2
  have BC : Hid _ := bC
  have BD : Hid _ := bD
  clear bC bD
  go_enter Tryd.func35, Tryd.ntmps35
  go_wp2_with fail
  refine (sok_any _ _ _ _ _ _ _ C D _ (hC.below b0) (hD.below b0) hn hm).mono ?_
  rintro e W ⟨rfl, b1⟩
  rw [H1.out]
  have BW := b0.trans (b1.mono b0.size)
  have bx := q0.below b1
  have iC := hC.below BW
  have iD := hD.below BW
  clear q0 b0 b1 hC hD
  go_wp2_with fail
  go_loopw [3, 4] (fun s i wr => ∃ (k : Nat) (L : List UInt8), k ≤ 3 ∧ i = .int .i64 k ∧ s = .string ⟨L.toArray⟩ ∧ L = spaced (timesL 120 C k) ∧ L.length ≤ 0 + 50 * k ∧ Below W.heap.size W wr) (fun _ i _ => 3 - (intOf i).toNat)
  case atStart => exact ⟨0, [], by omega, rfl, rfl, rfl, by simp, Below.refl _ _⟩
  case round =>
    obtain ⟨k, L, hk, rfl, rfl, hL, hlen, hb⟩ := hrel
    have HLL : Hid _ := hL
    clear hL
    have hlen' : L.length ≤ 1000 := by omega
    have kk := (bx.below hb).cell 0
    have kK := (bx.below hb).cell 2
    simp only [List.getElem?_cons_zero, List.getElem?_cons_succ] at kk kK
    by_cases hlt : k < 3
    · obtain ⟨b, off, rfl, hcell⟩ := (iC.below hb).pos (by omega)
      have hck : wr.cell? ⟨b, off + k, none⟩ = some (.int .i64 (C[k]?.getD 0)) := by rw [hcell k hlt]; simp
      have hlt' : (k : Int) < 3 := by omega
      by_cases hz : C[k]?.getD 0 = 0
      · have HZ : Hid _ := times_zero (x := 120) hz
        rw [hz] at hck
        clear hz hcell
        go_wp2
        go_roundw
        case rel => exact ⟨k + 1, L, by omega, by go_num, rfl, by rw [HZ.out, HLL.out], by omega, hb⟩
        case measure => simp [intOf]; omega
      · have HZ : Hid _ := times_more (x := 120) hz
        have hz' : (C[k]?.getD 0 != 0) = true := by simp [hz]
        have hzb := BC.out k
        generalize HG : C[k]?.getD 0 = z at *
        clear HG hcell hz
        obtain ⟨z1, z2⟩ := hzb
        have hI := Lib.itoa_length_le z (by omega) (by omega)
        have hJ := Lib.itoa_length_le (k : Int) (by omega) (by omega)
        generalize HGI : Lib.itoa z = I at *
        generalize HGJ : Lib.itoa (k : Int) = J at *
        have HGI' : Hid _ := HGI
        have HGJ' : Hid _ := HGJ
        clear HGI HGJ
        go_wp2_with fail
        refine (digits_any z _ (by omega) (by omega)).mono ?_
        rintro e w2 ⟨rfl, b2⟩
        rw [HGI'.out]
        go_wp2_with fail
        refine (digits_any (k : Int) _ (by omega) (by omega)).mono ?_
        rintro e w3 ⟨rfl, b3⟩
        rw [HGJ'.out]
        have hb2 := hb.trans (b2.mono hb.size)
        have hb3 := hb2.trans (b3.mono hb2.size)
        clear b2 b3 hb hb2
        go_wp2
        go_roundw
        case rel => exact ⟨k + 1, L ++ I ++ [120] ++ J ++ [32], by omega, by go_num, by rw [show (⟨#[32]⟩ : ByteArray) = ⟨[32].toArray⟩ from rfl, show (⟨#[120]⟩ : ByteArray) = ⟨[120].toArray⟩ from rfl, cat_str, cat_str, cat_str, cat_str], by rw [HZ.out, HLL.out, spaced_snoc]; simp, by simp only [List.length_append, List.length_cons, List.length_nil]; omega, hb3⟩
        case measure => simp [intOf]; omega
    · have hk3 : k = 3 := by omega
      obtain ⟨L0, hL0⟩ : ∃ L0, L0 = L := ⟨_, rfl⟩
      have hlen0 : L0.length ≤ 150 := by rw [hL0]; omega
      have HL0 : Hid (L0 = spaced (timesL 120 C 3)) := by show L0 = _; rw [hL0, HLL.out, hk3]
      have HB0 : Hid (Below W.heap.size W wr) := hb
      rw [← hL0]
      clear hL0 HLL hlen hlen' kk kK hb hk3
      go_wp2_with fail
      go_loopw [3, 5] (fun s i wr => ∃ (k : Nat) (L : List UInt8), k ≤ 2 ∧ i = .int .i64 k ∧ s = .string ⟨L.toArray⟩ ∧ L = spaced (timesL 120 C 3 ++ timesL 97 D k) ∧ L.length ≤ 150 + 50 * k ∧ Below W.heap.size W wr) (fun _ i _ => 2 - (intOf i).toNat)
      case atStart => exact ⟨0, L0, by omega, rfl, rfl, by rw [timesL, List.append_nil]; exact HL0.out, by omega, HB0.out⟩
      case round =>
        clear hlen0
        obtain ⟨k, L, hk, rfl, rfl, hL, hlen, hb⟩ := hrel
        have HLL : Hid _ := hL
        clear hL
        have hlen' : L.length ≤ 1000 := by omega
        have kk := (bx.below hb).cell 1
        have kK := (bx.below hb).cell 2
        simp only [List.getElem?_cons_zero, List.getElem?_cons_succ] at kk kK
        by_cases hlt : k < 2
        · obtain ⟨b, off, rfl, hcell⟩ := (iD.below hb).pos (by omega)
          have hck : wr.cell? ⟨b, off + k, none⟩ = some (.int .i64 (D[k]?.getD 0)) := by rw [hcell k hlt]; simp
          have hlt' : (k : Int) < 2 := by omega
          by_cases hz : D[k]?.getD 0 = 0
          · have HZ : Hid _ := times_zero (x := 97) hz
            rw [hz] at hck
            clear hz hcell
            go_wp2
            go_roundw
            case rel => exact ⟨k + 1, L, by omega, by go_num, rfl, by rw [HZ.out, HLL.out], by omega, hb⟩
            case measure => simp [intOf]; omega
          · have HZ : Hid _ := times_more (x := 97) hz
            have hz' : (D[k]?.getD 0 != 0) = true := by simp [hz]
            have hzb := BD.out k
            generalize HG : D[k]?.getD 0 = z at *
            clear HG hcell hz
            obtain ⟨z1, z2⟩ := hzb
            have hI := Lib.itoa_length_le z (by omega) (by omega)
            have hJ := Lib.itoa_length_le (k : Int) (by omega) (by omega)
            generalize HGI : Lib.itoa z = I at *
            generalize HGJ : Lib.itoa (k : Int) = J at *
            have HGI' : Hid _ := HGI
            have HGJ' : Hid _ := HGJ
            clear HGI HGJ
            go_wp2_with fail
            refine (digits_any z _ (by omega) (by omega)).mono ?_
            rintro e w2 ⟨rfl, b2⟩
            rw [HGI'.out]
            go_wp2_with fail
            refine (digits_any (k : Int) _ (by omega) (by omega)).mono ?_
            rintro e w3 ⟨rfl, b3⟩
            rw [HGJ'.out]
            have hb2 := hb.trans (b2.mono hb.size)
            have hb3 := hb2.trans (b3.mono hb2.size)
            clear b2 b3 hb hb2
            go_wp2
            go_roundw
            case rel => exact ⟨k + 1, L ++ I ++ [97] ++ J ++ [32], by omega, by go_num, by rw [show (⟨#[32]⟩ : ByteArray) = ⟨[32].toArray⟩ from rfl, show (⟨#[97]⟩ : ByteArray) = ⟨[97].toArray⟩ from rfl, cat_str, cat_str, cat_str, cat_str], by rw [HZ.out, HLL.out, ← List.append_assoc, spaced_snoc]; simp, by simp only [List.length_append, List.length_cons, List.length_nil]; omega, hb3⟩
            case measure => simp [intOf]; omega
        · obtain rfl : k = 2 := by omega
          have hK := Lib.itoa_length_le K (by omega) (by omega)
          generalize HGI : Lib.itoa K = I at *
          have HGI' : Hid _ := HGI
          clear HGI
          go_wp2_with fail
          refine (digits_any K _ (by omega) (by omega)).mono ?_
          rintro e w2 ⟨rfl, b2⟩
          rw [HGI'.out]
          go_wp2
          go_ret
          exact ⟨by rw [HR.out, HLL.out, cat_str]; rfl, (BW.trans (hb.mono BW.size)).trans (b2.mono (by have := BW.size; have := hb.size; omega))⟩

end Go.Proofs.YtmhhphpihnkfpaaDoor
