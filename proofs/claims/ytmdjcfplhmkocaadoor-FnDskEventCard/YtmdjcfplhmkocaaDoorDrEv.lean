/-
  A line of what happens, drawn, one in eight bent. At most 400 letters.
-/
import Derived.Test.YtmdjcfplhmkocaaDoorDrBe
import Derived.Test.YtmdjcfplhmkocaaDoorLinW
import Derived.Deep.CutBlock
namespace Go.Proofs.YtmdjcfplhmkocaaDoor
open Go.RowKit
set_option linter.unusedVariables false
set_option maxRecDepth 100000

def evWords : List (List UInt8) := [[99, 97, 108, 108], [99, 97, 108, 108], [99, 97, 108, 108], [116, 114, 121], [116, 114, 121], [116, 114, 121], [98, 114, 105, 110, 103], [98, 114, 105, 110, 103], [98, 114, 105, 110, 103], [98, 114, 105, 110, 103], [116, 105, 99, 107], [116, 105, 99, 107], [100, 101, 97, 102], [108, 111, 115, 101], [116, 119, 105, 99, 101], [102, 97, 108, 108], [114, 105, 115, 101], [99, 108, 101, 114, 107, 102, 97, 108, 108, 115], [99, 108, 101, 114, 107, 114, 105, 115, 101, 115]]
theorem ev_word (j : Nat) (hj : j < 19) : ∃ x : List UInt8, ([.string ⟨#[99, 97, 108, 108]⟩, .string ⟨#[99, 97, 108, 108]⟩, .string ⟨#[99, 97, 108, 108]⟩, .string ⟨#[116, 114, 121]⟩, .string ⟨#[116, 114, 121]⟩, .string ⟨#[116, 114, 121]⟩, .string ⟨#[98, 114, 105, 110, 103]⟩, .string ⟨#[98, 114, 105, 110, 103]⟩, .string ⟨#[98, 114, 105, 110, 103]⟩, .string ⟨#[98, 114, 105, 110, 103]⟩, .string ⟨#[116, 105, 99, 107]⟩, .string ⟨#[116, 105, 99, 107]⟩, .string ⟨#[100, 101, 97, 102]⟩, .string ⟨#[108, 111, 115, 101]⟩, .string ⟨#[116, 119, 105, 99, 101]⟩, .string ⟨#[102, 97, 108, 108]⟩, .string ⟨#[114, 105, 115, 101]⟩, .string ⟨#[99, 108, 101, 114, 107, 102, 97, 108, 108, 115]⟩, .string ⟨#[99, 108, 101, 114, 107, 114, 105, 115, 101, 115]⟩] : List Value)[j]? = some (.string ⟨x.toArray⟩) ∧ x.length ≤ 10 := by
  have e : ([.string ⟨#[99, 97, 108, 108]⟩, .string ⟨#[99, 97, 108, 108]⟩, .string ⟨#[99, 97, 108, 108]⟩, .string ⟨#[116, 114, 121]⟩, .string ⟨#[116, 114, 121]⟩, .string ⟨#[116, 114, 121]⟩, .string ⟨#[98, 114, 105, 110, 103]⟩, .string ⟨#[98, 114, 105, 110, 103]⟩, .string ⟨#[98, 114, 105, 110, 103]⟩, .string ⟨#[98, 114, 105, 110, 103]⟩, .string ⟨#[116, 105, 99, 107]⟩, .string ⟨#[116, 105, 99, 107]⟩, .string ⟨#[100, 101, 97, 102]⟩, .string ⟨#[108, 111, 115, 101]⟩, .string ⟨#[116, 119, 105, 99, 101]⟩, .string ⟨#[102, 97, 108, 108]⟩, .string ⟨#[114, 105, 115, 101]⟩, .string ⟨#[99, 108, 101, 114, 107, 102, 97, 108, 108, 115]⟩, .string ⟨#[99, 108, 101, 114, 107, 114, 105, 115, 101, 115]⟩] : List Value) = evWords.map fun x => Value.string ⟨x.toArray⟩ := rfl
  have h2 : ∀ x ∈ evWords, x.length ≤ 10 := by decide
  have hl : j < evWords.length := hj
  refine ⟨evWords[j], by rw [e, List.getElem?_map, List.getElem?_eq_getElem hl]; rfl, h2 _ (List.getElem_mem hl)⟩
theorem ints_lit (W : World) (zs : List Int) (hz : 0 < zs.length) : Ints (W.alloc (.cells (zs.map (Value.int .i64)).toArray 3)) (some ⟨W.heap.size, 0, none⟩) zs.length zs := ⟨rfl, fun i hi => ⟨_, 0, rfl, by
  have c := (Cel.new W (zs.map (Value.int .i64)) 3).cell i
  rw [Nat.zero_add, c, List.getElem?_map, List.getElem?_eq_getElem hi, List.getD_eq_getElem?_getD, List.getElem?_eq_getElem hi]; rfl⟩⟩
theorem mul_small {r s : Int} (h0 : 0 ≤ r) (h1 : r < 3) (h2 : 0 ≤ s) (h3 : s < 2) : 0 ≤ r * s ∧ r * s ≤ 2 := by
  rcases (by omega : s = 0 ∨ s = 1) with rfl | rfl
  · simp
  · omega
theorem sz_list (l : List UInt8) : (⟨l.toArray⟩ : ByteArray).size = l.length := by simp [ByteArray.size]

set_option maxHeartbeats 6400000 in
theorem evline_f (R : Nat) (a : Option Addr) (n cap : Nat) (bs : List Int) (p : Int) (w : World) (hR : Rd w R a n cap bs p) (hp : 0 ≤ p) (hp1 : p ≤ 3000000) :
    Calls Tryd.prog 12 #[.pointer (some ⟨R, 0, none⟩)] w fun e w' => BentM w w' e R a n cap bs p 400 30 := by
  have hRl := hR.c.lt
  have al := (Below.refl w.heap.size w).alloc (Nat.le_refl _) (.cells #[.string ⟨#[99, 97, 108, 108]⟩, .string ⟨#[99, 97, 108, 108]⟩, .string ⟨#[99, 97, 108, 108]⟩, .string ⟨#[116, 114, 121]⟩, .string ⟨#[116, 114, 121]⟩, .string ⟨#[116, 114, 121]⟩, .string ⟨#[98, 114, 105, 110, 103]⟩, .string ⟨#[98, 114, 105, 110, 103]⟩, .string ⟨#[98, 114, 105, 110, 103]⟩, .string ⟨#[98, 114, 105, 110, 103]⟩, .string ⟨#[116, 105, 99, 107]⟩, .string ⟨#[116, 105, 99, 107]⟩, .string ⟨#[100, 101, 97, 102]⟩, .string ⟨#[108, 111, 115, 101]⟩, .string ⟨#[116, 119, 105, 99, 101]⟩, .string ⟨#[102, 97, 108, 108]⟩, .string ⟨#[114, 105, 115, 101]⟩, .string ⟨#[99, 108, 101, 114, 107, 102, 97, 108, 108, 115]⟩, .string ⟨#[99, 108, 101, 114, 107, 114, 105, 115, 101, 115]⟩] 9)
  have lb := Cel.new w [.string ⟨#[99, 97, 108, 108]⟩, .string ⟨#[99, 97, 108, 108]⟩, .string ⟨#[99, 97, 108, 108]⟩, .string ⟨#[116, 114, 121]⟩, .string ⟨#[116, 114, 121]⟩, .string ⟨#[116, 114, 121]⟩, .string ⟨#[98, 114, 105, 110, 103]⟩, .string ⟨#[98, 114, 105, 110, 103]⟩, .string ⟨#[98, 114, 105, 110, 103]⟩, .string ⟨#[98, 114, 105, 110, 103]⟩, .string ⟨#[116, 105, 99, 107]⟩, .string ⟨#[116, 105, 99, 107]⟩, .string ⟨#[100, 101, 97, 102]⟩, .string ⟨#[108, 111, 115, 101]⟩, .string ⟨#[116, 119, 105, 99, 101]⟩, .string ⟨#[102, 97, 108, 108]⟩, .string ⟨#[114, 105, 115, 101]⟩, .string ⟨#[99, 108, 101, 114, 107, 102, 97, 108, 108, 115]⟩, .string ⟨#[99, 108, 101, 114, 107, 114, 105, 115, 101, 115]⟩] 9
  have TT := Touch.of (S := fun x => x = R) al
  have rd := hR.below al
  have nl : w.heap.size ≠ R := by omega
  clear hR al
  go_enter Tryd.func12, Tryd.ntmps12
  go_wp2_with fail
  refine (pick_any R a n cap bs p 19 _ rd (by omega) (by omega) (by omega) (by omega)).mono ?_
  rintro e w1 ⟨j, j0, j1, rfl, t1, R1⟩
  obtain ⟨j, rfl⟩ := Int.eq_ofNat_of_zero_le j0
  obtain ⟨x, hx, hxl⟩ := ev_word j (by omega)
  have hc := (lb.touch t1 nl).cell j
  rw [hx] at hc
  replace TT := TT.trans t1
  have jj : (j : Int) < 19 := j1
  clear lb rd t1 j0 hx
  go_upto_block 0 with fail
  clear hc j1 jj
  go_cut [4] (fun v wx => ∃ (S : ByteArray) (q : Int), v = .string S ∧ S.size ≤ 300 ∧ Touch (fun x => x = R) w wx ∧ Rd wx R a n cap bs q ∧ p ≤ q ∧ q ≤ p + 6)
  case first =>
    by_cases e0 : x = [99, 97, 108, 108]
    · have hE0 : (x == [99, 97, 108, 108]) = true := by rw [e0]; rfl
      clear e0
      go_wp2_with fail
      refine (pick_any R a n cap bs (p + 1) 3 _ R1 (by omega) (by omega) (by omega) (by omega)).mono ?_
      rintro e w2 ⟨r1, r10, r11, rfl, tx, R2⟩
      replace TT := TT.trans tx
      clear tx
      go_wp2_with fail
      refine (pick_any R a n cap bs (p + 1 + 1) 2 _ R2 (by omega) (by omega) (by omega) (by omega)).mono ?_
      rintro e w3 ⟨r2, r20, r21, rfl, tx, R3⟩
      replace TT := TT.trans tx
      clear tx
      go_wp2_with fail
      refine (pick_any R a n cap bs (p + 1 + 1 + 1) 19 _ R3 (by omega) (by omega) (by omega) (by omega)).mono ?_
      rintro e w4 ⟨r3, r30, r31, rfl, tx, R4⟩
      replace TT := TT.trans tx
      clear tx
      go_wp2_with fail
      refine (pick_any R a n cap bs (p + 1 + 1 + 1 + 1) 19 _ R4 (by omega) (by omega) (by omega) (by omega)).mono ?_
      rintro e w5 ⟨r4, r40, r41, rfl, tx, R5⟩
      replace TT := TT.trans tx
      clear tx
      have u3 : IntKind.i64.wrap (r3 - 9) = r3 - 9 := wrap_id (by omega) (by omega)
      have u4 : IntKind.i64.wrap (r4 - 9) = r4 - 9 := wrap_id (by omega) (by omega)
      have hI := ints_lit w5 [r1, r2, r3 - 9, r4 - 9] (by simp)
      have bl := (Below.refl w5.heap.size w5).alloc (Nat.le_refl _) (.cells #[.int .i64 r1, .int .i64 r2, .int .i64 (r3 - 9), .int .i64 (r4 - 9)] 3)
      replace TT := TT.trans (Touch.of bl)
      replace R5 := R5.below bl
      clear bl
      go_wp2_with fail
      refine (sline_any x _ 4 _ [r1, r2, r3 - 9, r4 - 9] _ hI (by omega) (by omega) (fun i => by rcases i with _ | _ | _ | _ | i <;> simp <;> omega)).mono ?_
      rintro e w6 ⟨rfl, hlen, b6⟩
      replace TT := TT.trans (Touch.of b6)
      replace R5 := R5.below b6
      clear b6 hI
      generalize x ++ tailL [r1, r2, r3 - 9, r4 - 9] = y at hlen ⊢
      go_wp2
      go_meet
      case rel => exact ⟨⟨y.toArray⟩, _, rfl, by rw [sz_list]; omega, TT, R5, by omega, by omega⟩
    have hE0 : (x == [99, 97, 108, 108]) = false := by simpa using e0
    clear e0
    by_cases e1 : x = [116, 114, 121]
    · have hEe1 : (x == [116, 114, 121]) = true := by rw [e1]; rfl
      clear e1
      go_wp2_with fail
      refine (pick_any R a n cap bs (p + 1) 3 _ R1 (by omega) (by omega) (by omega) (by omega)).mono ?_
      rintro e w2 ⟨r1, r10, r11, rfl, tx, R2⟩
      replace TT := TT.trans tx
      clear tx
      have hI := ints_lit w2 [r1] (by simp)
      have bl := (Below.refl w2.heap.size w2).alloc (Nat.le_refl _) (.cells #[.int .i64 r1] 3)
      replace TT := TT.trans (Touch.of bl)
      replace R2 := R2.below bl
      clear bl
      go_wp2_with fail
      refine (sline_any x _ 1 _ [r1] _ hI (by omega) (by omega) (fun i => by rcases i with _ | i <;> simp <;> omega)).mono ?_
      rintro e w6 ⟨rfl, hlen, b6⟩
      replace TT := TT.trans (Touch.of b6)
      replace R2 := R2.below b6
      clear b6 hI
      generalize x ++ tailL [r1] = y at hlen ⊢
      go_wp2
      go_meet
      case rel => exact ⟨⟨y.toArray⟩, _, rfl, by rw [sz_list]; omega, TT, R2, by omega, by omega⟩
    have hEe1 : (x == [116, 114, 121]) = false := by simpa using e1
    clear e1
    by_cases e2 : x = [100, 101, 97, 102]
    · have hEe2 : (x == [100, 101, 97, 102]) = true := by rw [e2]; rfl
      clear e2
      go_wp2_with fail
      refine (pick_any R a n cap bs (p + 1) 3 _ R1 (by omega) (by omega) (by omega) (by omega)).mono ?_
      rintro e w2 ⟨r1, r10, r11, rfl, tx, R2⟩
      replace TT := TT.trans tx
      clear tx
      have hI := ints_lit w2 [r1] (by simp)
      have bl := (Below.refl w2.heap.size w2).alloc (Nat.le_refl _) (.cells #[.int .i64 r1] 3)
      replace TT := TT.trans (Touch.of bl)
      replace R2 := R2.below bl
      clear bl
      go_wp2_with fail
      refine (sline_any x _ 1 _ [r1] _ hI (by omega) (by omega) (fun i => by rcases i with _ | i <;> simp <;> omega)).mono ?_
      rintro e w6 ⟨rfl, hlen, b6⟩
      replace TT := TT.trans (Touch.of b6)
      replace R2 := R2.below b6
      clear b6 hI
      generalize x ++ tailL [r1] = y at hlen ⊢
      go_wp2
      go_meet
      case rel => exact ⟨⟨y.toArray⟩, _, rfl, by rw [sz_list]; omega, TT, R2, by omega, by omega⟩
    have hEe2 : (x == [100, 101, 97, 102]) = false := by simpa using e2
    clear e2
    by_cases f1 : x = [98, 114, 105, 110, 103]
    · have hEf1 : (x == [98, 114, 105, 110, 103]) = true := by rw [f1]; rfl
      clear f1
      go_wp2_with fail
      refine (pick_any R a n cap bs (p + 1) 3 _ R1 (by omega) (by omega) (by omega) (by omega)).mono ?_
      rintro e w2 ⟨r1, r10, r11, rfl, tx, R2⟩
      replace TT := TT.trans tx
      clear tx
      go_wp2_with fail
      refine (pick_any R a n cap bs (p + 1 + 1) 2 _ R2 (by omega) (by omega) (by omega) (by omega)).mono ?_
      rintro e w3 ⟨r2, r20, r21, rfl, tx, R3⟩
      replace TT := TT.trans tx
      clear tx
      obtain ⟨m0, m1⟩ := mul_small r10 r11 r20 r21
      have u3 : IntKind.i64.wrap (r1 * r2) = r1 * r2 := wrap_id (by omega) (by omega)
      have hI := ints_lit w3 [r1 * r2] (by simp)
      have bl := (Below.refl w3.heap.size w3).alloc (Nat.le_refl _) (.cells #[.int .i64 (r1 * r2)] 3)
      replace TT := TT.trans (Touch.of bl)
      replace R3 := R3.below bl
      clear bl
      go_wp2_with fail
      refine (sline_any x _ 1 _ [r1 * r2] _ hI (by omega) (by omega) (fun i => by rcases i with _ | i <;> simp <;> omega)).mono ?_
      rintro e w6 ⟨rfl, hlen, b6⟩
      replace TT := TT.trans (Touch.of b6)
      replace R3 := R3.below b6
      clear b6 hI
      generalize x ++ tailL [r1 * r2] = y at hlen ⊢
      go_wp2
      go_meet
      case rel => exact ⟨⟨y.toArray⟩, _, rfl, by rw [sz_list]; omega, TT, R3, by omega, by omega⟩
    have hEf1 : (x == [98, 114, 105, 110, 103]) = false := by simpa using f1
    clear f1
    by_cases f2 : x = [108, 111, 115, 101]
    · have hEf2 : (x == [108, 111, 115, 101]) = true := by rw [f2]; rfl
      clear f2
      go_wp2_with fail
      refine (pick_any R a n cap bs (p + 1) 3 _ R1 (by omega) (by omega) (by omega) (by omega)).mono ?_
      rintro e w2 ⟨r1, r10, r11, rfl, tx, R2⟩
      replace TT := TT.trans tx
      clear tx
      go_wp2_with fail
      refine (pick_any R a n cap bs (p + 1 + 1) 2 _ R2 (by omega) (by omega) (by omega) (by omega)).mono ?_
      rintro e w3 ⟨r2, r20, r21, rfl, tx, R3⟩
      replace TT := TT.trans tx
      clear tx
      obtain ⟨m0, m1⟩ := mul_small r10 r11 r20 r21
      have u3 : IntKind.i64.wrap (r1 * r2) = r1 * r2 := wrap_id (by omega) (by omega)
      have hI := ints_lit w3 [r1 * r2] (by simp)
      have bl := (Below.refl w3.heap.size w3).alloc (Nat.le_refl _) (.cells #[.int .i64 (r1 * r2)] 3)
      replace TT := TT.trans (Touch.of bl)
      replace R3 := R3.below bl
      clear bl
      go_wp2_with fail
      refine (sline_any x _ 1 _ [r1 * r2] _ hI (by omega) (by omega) (fun i => by rcases i with _ | i <;> simp <;> omega)).mono ?_
      rintro e w6 ⟨rfl, hlen, b6⟩
      replace TT := TT.trans (Touch.of b6)
      replace R3 := R3.below b6
      clear b6 hI
      generalize x ++ tailL [r1 * r2] = y at hlen ⊢
      go_wp2
      go_meet
      case rel => exact ⟨⟨y.toArray⟩, _, rfl, by rw [sz_list]; omega, TT, R3, by omega, by omega⟩
    have hEf2 : (x == [108, 111, 115, 101]) = false := by simpa using f2
    clear f2
    by_cases f3 : x = [116, 119, 105, 99, 101]
    · have hEf3 : (x == [116, 119, 105, 99, 101]) = true := by rw [f3]; rfl
      clear f3
      go_wp2_with fail
      refine (pick_any R a n cap bs (p + 1) 3 _ R1 (by omega) (by omega) (by omega) (by omega)).mono ?_
      rintro e w2 ⟨r1, r10, r11, rfl, tx, R2⟩
      replace TT := TT.trans tx
      clear tx
      go_wp2_with fail
      refine (pick_any R a n cap bs (p + 1 + 1) 2 _ R2 (by omega) (by omega) (by omega) (by omega)).mono ?_
      rintro e w3 ⟨r2, r20, r21, rfl, tx, R3⟩
      replace TT := TT.trans tx
      clear tx
      obtain ⟨m0, m1⟩ := mul_small r10 r11 r20 r21
      have u3 : IntKind.i64.wrap (r1 * r2) = r1 * r2 := wrap_id (by omega) (by omega)
      have hI := ints_lit w3 [r1 * r2] (by simp)
      have bl := (Below.refl w3.heap.size w3).alloc (Nat.le_refl _) (.cells #[.int .i64 (r1 * r2)] 3)
      replace TT := TT.trans (Touch.of bl)
      replace R3 := R3.below bl
      clear bl
      go_wp2_with fail
      refine (sline_any x _ 1 _ [r1 * r2] _ hI (by omega) (by omega) (fun i => by rcases i with _ | i <;> simp <;> omega)).mono ?_
      rintro e w6 ⟨rfl, hlen, b6⟩
      replace TT := TT.trans (Touch.of b6)
      replace R3 := R3.below b6
      clear b6 hI
      generalize x ++ tailL [r1 * r2] = y at hlen ⊢
      go_wp2
      go_meet
      case rel => exact ⟨⟨y.toArray⟩, _, rfl, by rw [sz_list]; omega, TT, R3, by omega, by omega⟩
    have hEf3 : (x == [116, 119, 105, 99, 101]) = false := by simpa using f3
    clear f3
    by_cases f4 : x = [102, 97, 108, 108]
    · have hEf4 : (x == [102, 97, 108, 108]) = true := by rw [f4]; rfl
      clear f4
      go_wp2_with fail
      refine (pick_any R a n cap bs (p + 1) 3 _ R1 (by omega) (by omega) (by omega) (by omega)).mono ?_
      rintro e w2 ⟨r1, r10, r11, rfl, tx, R2⟩
      replace TT := TT.trans tx
      clear tx
      go_wp2_with fail
      refine (pick_any R a n cap bs (p + 1 + 1) 2 _ R2 (by omega) (by omega) (by omega) (by omega)).mono ?_
      rintro e w3 ⟨r2, r20, r21, rfl, tx, R3⟩
      replace TT := TT.trans tx
      clear tx
      obtain ⟨m0, m1⟩ := mul_small r10 r11 r20 r21
      have u3 : IntKind.i64.wrap (r1 * r2) = r1 * r2 := wrap_id (by omega) (by omega)
      have hI := ints_lit w3 [r1 * r2] (by simp)
      have bl := (Below.refl w3.heap.size w3).alloc (Nat.le_refl _) (.cells #[.int .i64 (r1 * r2)] 3)
      replace TT := TT.trans (Touch.of bl)
      replace R3 := R3.below bl
      clear bl
      go_wp2_with fail
      refine (sline_any x _ 1 _ [r1 * r2] _ hI (by omega) (by omega) (fun i => by rcases i with _ | i <;> simp <;> omega)).mono ?_
      rintro e w6 ⟨rfl, hlen, b6⟩
      replace TT := TT.trans (Touch.of b6)
      replace R3 := R3.below b6
      clear b6 hI
      generalize x ++ tailL [r1 * r2] = y at hlen ⊢
      go_wp2
      go_meet
      case rel => exact ⟨⟨y.toArray⟩, _, rfl, by rw [sz_list]; omega, TT, R3, by omega, by omega⟩
    have hEf4 : (x == [102, 97, 108, 108]) = false := by simpa using f4
    clear f4
    by_cases f5 : x = [114, 105, 115, 101]
    · have hEf5 : (x == [114, 105, 115, 101]) = true := by rw [f5]; rfl
      clear f5
      go_wp2_with fail
      refine (pick_any R a n cap bs (p + 1) 3 _ R1 (by omega) (by omega) (by omega) (by omega)).mono ?_
      rintro e w2 ⟨r1, r10, r11, rfl, tx, R2⟩
      replace TT := TT.trans tx
      clear tx
      go_wp2_with fail
      refine (pick_any R a n cap bs (p + 1 + 1) 2 _ R2 (by omega) (by omega) (by omega) (by omega)).mono ?_
      rintro e w3 ⟨r2, r20, r21, rfl, tx, R3⟩
      replace TT := TT.trans tx
      clear tx
      obtain ⟨m0, m1⟩ := mul_small r10 r11 r20 r21
      have u3 : IntKind.i64.wrap (r1 * r2) = r1 * r2 := wrap_id (by omega) (by omega)
      have hI := ints_lit w3 [r1 * r2] (by simp)
      have bl := (Below.refl w3.heap.size w3).alloc (Nat.le_refl _) (.cells #[.int .i64 (r1 * r2)] 3)
      replace TT := TT.trans (Touch.of bl)
      replace R3 := R3.below bl
      clear bl
      go_wp2_with fail
      refine (sline_any x _ 1 _ [r1 * r2] _ hI (by omega) (by omega) (fun i => by rcases i with _ | i <;> simp <;> omega)).mono ?_
      rintro e w6 ⟨rfl, hlen, b6⟩
      replace TT := TT.trans (Touch.of b6)
      replace R3 := R3.below b6
      clear b6 hI
      generalize x ++ tailL [r1 * r2] = y at hlen ⊢
      go_wp2
      go_meet
      case rel => exact ⟨⟨y.toArray⟩, _, rfl, by rw [sz_list]; omega, TT, R3, by omega, by omega⟩
    have hEf5 : (x == [114, 105, 115, 101]) = false := by simpa using f5
    clear f5
    go_wp2
    go_meet
    case rel => exact ⟨⟨x.toArray⟩, _, rfl, by rw [sz_list]; omega, TT, R1, by omega, by omega⟩
  case rest =>
    clear TT R1 hxl
    obtain ⟨S, q, rfl, hS, TT, R1, q0, q1⟩ := hcut
    go_wp2_with fail
    refine (pick_any R a n cap bs q 8 _ R1 (by omega) (by omega) (by omega) (by omega)).mono ?_
    rintro e w7 ⟨u, u0, u1, rfl, t7, R7⟩
    replace TT := TT.trans t7
    have ha7 := R7.ha
    clear t7 R1
    by_cases hu : u = 0
    · subst hu
      go_wp2_with fail
      refine (bent_f R a n cap bs (q + 1) S _ R7 (by omega) (by omega) (by omega) ha7).mono ?_
      rintro e w8 ⟨S2, q2, rfl, s2, t8, R8, y0, y1⟩
      go_wp2
      go_ret
      exact ⟨S2, q2, rfl, by omega, TT.trans t8, R8, by omega, by omega⟩
    · have hu' : (u == 0) = false := by simpa using hu
      go_wp2
      go_ret
      exact ⟨S, _, rfl, by omega, TT, R7, by omega, by omega⟩

end Go.Proofs.YtmdjcfplhmkocaaDoor
