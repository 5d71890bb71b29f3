/-
  Lemmas that the claim's last text rests on: DrAc, DrAs, DrAy, DrAa, WayR, WayD.
-/
import Derived.Test.YtemcinobgdphnaaJCatMoreB
import Derived.Test.YtemcinobgdphnaaJCatMoreA
import Derived.Test.YtemcinobgdphnaaWayA
namespace Go.Proofs.Ytemcinobgdphnaa
open Go.RowKit
set_option linter.unusedVariables false
set_option maxRecDepth 100000

theorem at_app {W : World} {ls : List LV} {l : LV} (h : ∀ i, i < ls.length → (ls[i]?.getD noLV).f.At W) (hl : l.f.At W) : ∀ i, i < (ls ++ [l]).length → ((ls ++ [l])[i]?.getD noLV).f.At W := fun i hi => by
  by_cases h1 : i < ls.length
  · rw [List.getElem?_append_left h1]; exact h i h1
  · have h9 : i = ls.length := by rw [List.length_append] at hi; simp at hi; omega
    subst h9
    simpa using hl

set_option maxHeartbeats 12800000 in
theorem act_f (R : Nat) (a : Option Addr) (n cap : Nat) (bs : List Int) (p : Int) (w : World) (rd : Rd w R a n cap bs p) (hp : 0 ≤ p) (hp1 : p ≤ 7000000) (ha : 0 < n → ∀ b o, a = some ⟨b, o, none⟩ → b < w.heap.size) :
    Calls Try.prog 58 #[.pointer (some ⟨R, 0, none⟩)] w fun e w' => ∃ ad N c ls q, e = .returned (.slice ad N c) ∧ JL w R a n cap bs q (.slice ad N c) ls w' ∧ ls.length = N ∧ actB N ls = true ∧ p ≤ q ∧ q ≤ p + 80 := by
  have hRl := rd.c.lt
  have TT : Touch (fun x => x = R) w w := Touch.refl _ _
  go_enter Try.func58, Try.ntmps58
  go_wp2_with fail
  refine (pick_any R a n cap bs (p) 2 _ rd (by omega) (by omega) (by omega) (by omega)).mono ?_
  rintro e w2 ⟨rv, hv0, hv1, rfl, t5, R5⟩
  obtain ⟨v, rfl⟩ := Int.eq_ofNat_of_zero_le hv0
  clear hv0
  replace TT := TT.trans t5
  replace rd := R5
  clear t5 R5
  go_wp2_with fail
  refine (pick_any R a n cap bs (p + 1) 8 _ rd (by omega) (by omega) (by omega) (by omega)).mono ?_
  rintro e w3 ⟨rj, hj0, hj1, rfl, t5, R5⟩
  obtain ⟨j, rfl⟩ := Int.eq_ofNat_of_zero_le hj0
  clear hj0
  replace TT := TT.trans t5
  replace rd := R5
  clear t5 R5
  rcases (show j = 0 ∨ j = 1 ∨ j = 2 ∨ j = 3 ∨ j = 4 ∨ j = 5 ∨ 6 ≤ j from by omega) with rfl | rfl | rfl | rfl | rfl | rfl | hj6
  · go_wp2_with fail
    have xA := TT.size
    refine (num_f (-1) 0 0 _).mono ?_
    rintro e w4 ⟨BA, DA, rfl, b5, f5⟩
    go_wp2_with fail
    refine (with_f BA DA v 1 0 _ _ _ _ f5 (by omega)).mono ?_
    rintro e w5 ⟨rfl, t6, f6⟩
    have lo6 := f5.b1
    replace b5 := b5.trans (t6.below (B := w3.heap.size) b5.size (fun z hz => by omega))
    clear f5 t6 lo6
    have f5 := f6
    clear f6
    have yA1 := f5.b1
    have yA2 := f5.b2
    have GA : FA w5 (some ⟨BA, 0, none⟩) 3 (some ⟨DA, 0, none⟩) 2 (([0, 0, 0]).set v 1, [-1, 0], 0) := ⟨f5.k1.ints' f5.l1, f5.k2.ints' f5.l2, by omega, by omega⟩
    clear f5
    replace TT := TT.trans (Touch.of b5)
    replace rd := rd.below b5
    clear b5
    have zA1 : w.heap.size ≤ BA := by omega
    have zA2 : w.heap.size ≤ DA := by omega
    go_wp2_with fail
    have xE := TT.size
    refine (num_f (-1) 0 0 _).mono ?_
    rintro e w6 ⟨BE, DE, rfl, b5, f5⟩
    have yE1 := f5.b1
    have yE2 := f5.b2
    have GE : FA w6 (some ⟨BE, 0, none⟩) 3 (some ⟨DE, 0, none⟩) 2 ([0, 0, 0], [-1, 0], 0) := ⟨f5.k1.ints' f5.l1, f5.k2.ints' f5.l2, by omega, by omega⟩
    clear f5
    replace GA := GA.below b5
    replace TT := TT.trans (Touch.of b5)
    replace rd := rd.below b5
    clear b5
    have zE1 : w.heap.size ≤ BE := by omega
    have zE2 : w.heap.size ≤ DE := by omega
    go_wp2_with fail
    have xF := TT.size
    refine (num_f 1 0 0 _).mono ?_
    rintro e w7 ⟨BF, DF, rfl, b5, f5⟩
    have yF1 := f5.b1
    have yF2 := f5.b2
    have GF : FA w7 (some ⟨BF, 0, none⟩) 3 (some ⟨DF, 0, none⟩) 2 ([0, 0, 0], [1, 0], 0) := ⟨f5.k1.ints' f5.l1, f5.k2.ints' f5.l2, by omega, by omega⟩
    clear f5
    replace GA := GA.below b5
    replace GE := GE.below b5
    replace TT := TT.trans (Touch.of b5)
    replace rd := rd.below b5
    clear b5
    have zF1 : w.heap.size ≤ BF := by omega
    have zF2 : w.heap.size ≤ DF := by omega
    go_wp2_with fail
    have xH := TT.size
    refine (num_f 1 0 (-9) _).mono ?_
    rintro e w8 ⟨BH, DH, rfl, b5, f5⟩
    have yH1 := f5.b1
    have yH2 := f5.b2
    have GH : FA w8 (some ⟨BH, 0, none⟩) 3 (some ⟨DH, 0, none⟩) 2 ([0, 0, 0], [1, 0], -9) := ⟨f5.k1.ints' f5.l1, f5.k2.ints' f5.l2, by omega, by omega⟩
    clear f5
    replace GA := GA.below b5
    replace GE := GE.below b5
    replace GF := GF.below b5
    replace TT := TT.trans (Touch.of b5)
    replace rd := rd.below b5
    clear b5
    have zH1 : w.heap.size ≤ BH := by omega
    have zH2 : w.heap.size ≤ DH := by omega
    have tA1 := GA.C.blk (by omega)
    have tA2 := GA.D.blk (by omega)
    have tE1 := GE.C.blk (by omega)
    have tE2 := GE.D.blk (by omega)
    have tF1 := GF.C.blk (by omega)
    have tF2 := GF.D.blk (by omega)
    have tH1 := GH.C.blk (by omega)
    have tH2 := GH.D.blk (by omega)
    have hsz := TT.size
    have al := (Below.refl w8.heap.size w8).alloc (Nat.le_refl _) (.cells #[.int .i64 1, .int .i64 0, .int .i64 2, .slice (some ⟨BA, 0, none⟩) 3 3, .slice (some ⟨DA, 0, none⟩) 2 2, .int .i64 0, .int .i64 2, .int .i64 (v : Int), .int .i64 0, .slice (some ⟨BE, 0, none⟩) 3 3, .slice (some ⟨DE, 0, none⟩) 2 2, .int .i64 0, .int .i64 3, .int .i64 0, .int .i64 0, .slice (some ⟨BF, 0, none⟩) 3 3, .slice (some ⟨DF, 0, none⟩) 2 2, .int .i64 0, .int .i64 1, .int .i64 0, .int .i64 1, .slice (some ⟨BH, 0, none⟩) 3 3, .slice (some ⟨DH, 0, none⟩) 2 2, .int .i64 (-9), .int .i64 4, .int .i64 0, .int .i64 0, .slice none 0 0, .slice none 0 0, .int .i64 0] 51)
    have o := World.ownsRow_lit (base := w.heap.size) (e := 51) (size := 6) w8 #[.int .i64 1, .int .i64 0, .int .i64 2, .slice (some ⟨BA, 0, none⟩) 3 3, .slice (some ⟨DA, 0, none⟩) 2 2, .int .i64 0, .int .i64 2, .int .i64 (v : Int), .int .i64 0, .slice (some ⟨BE, 0, none⟩) 3 3, .slice (some ⟨DE, 0, none⟩) 2 2, .int .i64 0, .int .i64 3, .int .i64 0, .int .i64 0, .slice (some ⟨BF, 0, none⟩) 3 3, .slice (some ⟨DF, 0, none⟩) 2 2, .int .i64 0, .int .i64 1, .int .i64 0, .int .i64 1, .slice (some ⟨BH, 0, none⟩) 3 3, .slice (some ⟨DH, 0, none⟩) 2 2, .int .i64 (-9), .int .i64 4, .int .i64 0, .int .i64 0, .slice none 0 0, .slice none 0 0, .int .i64 0] 5 hsz (by unfold maxLen; omega) rfl
    have hws := al.size
    replace GA := GA.below al
    replace GE := GE.below al
    replace GF := GF.below al
    replace GH := GH.below al
    replace TT := TT.trans (Touch.of al)
    replace rd := rd.below al
    clear al
    go_wp2
    go_ret
    refine ⟨_, 5, 5, [⟨1, 0, 2, ⟨some ⟨BA, 0, none⟩, 3, 3, some ⟨DA, 0, none⟩, 2, 2, 0, ([0, 0, 0]).set v 1, [-1, 0]⟩⟩, ⟨2, (v : Int), 0, ⟨some ⟨BE, 0, none⟩, 3, 3, some ⟨DE, 0, none⟩, 2, 2, 0, [0, 0, 0], [-1, 0]⟩⟩, ⟨3, 0, 0, ⟨some ⟨BF, 0, none⟩, 3, 3, some ⟨DF, 0, none⟩, 2, 2, 0, [0, 0, 0], [1, 0]⟩⟩, ⟨1, 0, 1, ⟨some ⟨BH, 0, none⟩, 3, 3, some ⟨DH, 0, none⟩, 2, 2, (-9), [0, 0, 0], [1, 0]⟩⟩, ⟨4, 0, 0, noFV⟩], _, rfl, ⟨TT, rd, o, fun i hi => ?_, fun i hi b o e => ?_, fun i hi b o e => ?_, hRl, ha⟩, rfl, by rcases v with _ | _ | v; rfl; rfl; omega, by omega, by omega⟩
    · rcases i with _ | _ | _ | _ | _ | i
      · exact ⟨GA.C, GA.D, show 3 ≤ 1048576 by omega, show 2 ≤ 1048576 by omega⟩
      · exact ⟨GE.C, GE.D, show 3 ≤ 1048576 by omega, show 2 ≤ 1048576 by omega⟩
      · exact ⟨GF.C, GF.D, show 3 ≤ 1048576 by omega, show 2 ≤ 1048576 by omega⟩
      · exact ⟨GH.C, GH.D, show 3 ≤ 1048576 by omega, show 2 ≤ 1048576 by omega⟩
      · exact ⟨⟨rfl, fun i hi => absurd hi (Nat.not_lt_zero _)⟩, ⟨rfl, fun i hi => absurd hi (Nat.not_lt_zero _)⟩, Nat.zero_le _, Nat.zero_le _⟩
      · simp only [List.length_cons, List.length_nil] at hi; omega
    · rcases i with _ | _ | _ | _ | _ | i
      · have e9 : (some ⟨BA, 0, none⟩ : Option Addr) = some ⟨b, o, none⟩ := e; simp only [Option.some.injEq, Addr.mk.injEq] at e9; exact ⟨by omega, by omega, by simp only [Value.ownBlock, ne_eq, Option.some.injEq]; omega⟩
      · have e9 : (some ⟨BE, 0, none⟩ : Option Addr) = some ⟨b, o, none⟩ := e; simp only [Option.some.injEq, Addr.mk.injEq] at e9; exact ⟨by omega, by omega, by simp only [Value.ownBlock, ne_eq, Option.some.injEq]; omega⟩
      · have e9 : (some ⟨BF, 0, none⟩ : Option Addr) = some ⟨b, o, none⟩ := e; simp only [Option.some.injEq, Addr.mk.injEq] at e9; exact ⟨by omega, by omega, by simp only [Value.ownBlock, ne_eq, Option.some.injEq]; omega⟩
      · have e9 : (some ⟨BH, 0, none⟩ : Option Addr) = some ⟨b, o, none⟩ := e; simp only [Option.some.injEq, Addr.mk.injEq] at e9; exact ⟨by omega, by omega, by simp only [Value.ownBlock, ne_eq, Option.some.injEq]; omega⟩
      · cases e
      · simp only [List.length_cons, List.length_nil] at hi; omega
    · rcases i with _ | _ | _ | _ | _ | i
      · have e9 : (some ⟨DA, 0, none⟩ : Option Addr) = some ⟨b, o, none⟩ := e; simp only [Option.some.injEq, Addr.mk.injEq] at e9; exact ⟨by omega, by omega, by simp only [Value.ownBlock, ne_eq, Option.some.injEq]; omega⟩
      · have e9 : (some ⟨DE, 0, none⟩ : Option Addr) = some ⟨b, o, none⟩ := e; simp only [Option.some.injEq, Addr.mk.injEq] at e9; exact ⟨by omega, by omega, by simp only [Value.ownBlock, ne_eq, Option.some.injEq]; omega⟩
      · have e9 : (some ⟨DF, 0, none⟩ : Option Addr) = some ⟨b, o, none⟩ := e; simp only [Option.some.injEq, Addr.mk.injEq] at e9; exact ⟨by omega, by omega, by simp only [Value.ownBlock, ne_eq, Option.some.injEq]; omega⟩
      · have e9 : (some ⟨DH, 0, none⟩ : Option Addr) = some ⟨b, o, none⟩ := e; simp only [Option.some.injEq, Addr.mk.injEq] at e9; exact ⟨by omega, by omega, by simp only [Value.ownBlock, ne_eq, Option.some.injEq]; omega⟩
      · cases e
      · simp only [List.length_cons, List.length_nil] at hi; omega
  · go_wp2_with fail
    have xA := TT.size
    refine (num_f (-1) 0 0 _).mono ?_
    rintro e w4 ⟨BA, DA, rfl, b5, f5⟩
    go_wp2_with fail
    refine (with_f BA DA v 1 0 _ _ _ _ f5 (by omega)).mono ?_
    rintro e w5 ⟨rfl, t6, f6⟩
    have lo6 := f5.b1
    replace b5 := b5.trans (t6.below (B := w3.heap.size) b5.size (fun z hz => by omega))
    clear f5 t6 lo6
    have f5 := f6
    clear f6
    have yA1 := f5.b1
    have yA2 := f5.b2
    have GA : FA w5 (some ⟨BA, 0, none⟩) 3 (some ⟨DA, 0, none⟩) 2 (([0, 0, 0]).set v 1, [-1, 0], 0) := ⟨f5.k1.ints' f5.l1, f5.k2.ints' f5.l2, by omega, by omega⟩
    clear f5
    replace TT := TT.trans (Touch.of b5)
    replace rd := rd.below b5
    clear b5
    have zA1 : w.heap.size ≤ BA := by omega
    have zA2 : w.heap.size ≤ DA := by omega
    go_wp2_with fail
    have xE := TT.size
    refine (num_f (-1) 0 0 _).mono ?_
    rintro e w6 ⟨BE, DE, rfl, b5, f5⟩
    have yE1 := f5.b1
    have yE2 := f5.b2
    have GE : FA w6 (some ⟨BE, 0, none⟩) 3 (some ⟨DE, 0, none⟩) 2 ([0, 0, 0], [-1, 0], 0) := ⟨f5.k1.ints' f5.l1, f5.k2.ints' f5.l2, by omega, by omega⟩
    clear f5
    replace GA := GA.below b5
    replace TT := TT.trans (Touch.of b5)
    replace rd := rd.below b5
    clear b5
    have zE1 : w.heap.size ≤ BE := by omega
    have zE2 : w.heap.size ≤ DE := by omega
    go_wp2_with fail
    have xF := TT.size
    refine (num_f 1 0 0 _).mono ?_
    rintro e w7 ⟨BF, DF, rfl, b5, f5⟩
    have yF1 := f5.b1
    have yF2 := f5.b2
    have GF : FA w7 (some ⟨BF, 0, none⟩) 3 (some ⟨DF, 0, none⟩) 2 ([0, 0, 0], [1, 0], 0) := ⟨f5.k1.ints' f5.l1, f5.k2.ints' f5.l2, by omega, by omega⟩
    clear f5
    replace GA := GA.below b5
    replace GE := GE.below b5
    replace TT := TT.trans (Touch.of b5)
    replace rd := rd.below b5
    clear b5
    have zF1 : w.heap.size ≤ BF := by omega
    have zF2 : w.heap.size ≤ DF := by omega
    go_wp2_with fail
    have xH := TT.size
    refine (num_f 1 0 (-9) _).mono ?_
    rintro e w8 ⟨BH, DH, rfl, b5, f5⟩
    have yH1 := f5.b1
    have yH2 := f5.b2
    have GH : FA w8 (some ⟨BH, 0, none⟩) 3 (some ⟨DH, 0, none⟩) 2 ([0, 0, 0], [1, 0], -9) := ⟨f5.k1.ints' f5.l1, f5.k2.ints' f5.l2, by omega, by omega⟩
    clear f5
    replace GA := GA.below b5
    replace GE := GE.below b5
    replace GF := GF.below b5
    replace TT := TT.trans (Touch.of b5)
    replace rd := rd.below b5
    clear b5
    have zH1 : w.heap.size ≤ BH := by omega
    have zH2 : w.heap.size ≤ DH := by omega
    have tA1 := GA.C.blk (by omega)
    have tA2 := GA.D.blk (by omega)
    have tE1 := GE.C.blk (by omega)
    have tE2 := GE.D.blk (by omega)
    have tF1 := GF.C.blk (by omega)
    have tF2 := GF.D.blk (by omega)
    have tH1 := GH.C.blk (by omega)
    have tH2 := GH.D.blk (by omega)
    have hsz := TT.size
    have al := (Below.refl w8.heap.size w8).alloc (Nat.le_refl _) (.cells #[.int .i64 1, .int .i64 0, .int .i64 2, .slice (some ⟨BA, 0, none⟩) 3 3, .slice (some ⟨DA, 0, none⟩) 2 2, .int .i64 0, .int .i64 2, .int .i64 (v : Int), .int .i64 0, .slice (some ⟨BE, 0, none⟩) 3 3, .slice (some ⟨DE, 0, none⟩) 2 2, .int .i64 0, .int .i64 3, .int .i64 0, .int .i64 0, .slice (some ⟨BF, 0, none⟩) 3 3, .slice (some ⟨DF, 0, none⟩) 2 2, .int .i64 0, .int .i64 1, .int .i64 0, .int .i64 1, .slice (some ⟨BH, 0, none⟩) 3 3, .slice (some ⟨DH, 0, none⟩) 2 2, .int .i64 (-9), .int .i64 4, .int .i64 0, .int .i64 0, .slice none 0 0, .slice none 0 0, .int .i64 0] 51)
    have o := World.ownsRow_lit (base := w.heap.size) (e := 51) (size := 6) w8 #[.int .i64 1, .int .i64 0, .int .i64 2, .slice (some ⟨BA, 0, none⟩) 3 3, .slice (some ⟨DA, 0, none⟩) 2 2, .int .i64 0, .int .i64 2, .int .i64 (v : Int), .int .i64 0, .slice (some ⟨BE, 0, none⟩) 3 3, .slice (some ⟨DE, 0, none⟩) 2 2, .int .i64 0, .int .i64 3, .int .i64 0, .int .i64 0, .slice (some ⟨BF, 0, none⟩) 3 3, .slice (some ⟨DF, 0, none⟩) 2 2, .int .i64 0, .int .i64 1, .int .i64 0, .int .i64 1, .slice (some ⟨BH, 0, none⟩) 3 3, .slice (some ⟨DH, 0, none⟩) 2 2, .int .i64 (-9), .int .i64 4, .int .i64 0, .int .i64 0, .slice none 0 0, .slice none 0 0, .int .i64 0] 5 hsz (by unfold maxLen; omega) rfl
    have hws := al.size
    replace GA := GA.below al
    replace GE := GE.below al
    replace GF := GF.below al
    replace GH := GH.below al
    replace TT := TT.trans (Touch.of al)
    replace rd := rd.below al
    clear al
    go_wp2
    go_ret
    refine ⟨_, 5, 5, [⟨1, 0, 2, ⟨some ⟨BA, 0, none⟩, 3, 3, some ⟨DA, 0, none⟩, 2, 2, 0, ([0, 0, 0]).set v 1, [-1, 0]⟩⟩, ⟨2, (v : Int), 0, ⟨some ⟨BE, 0, none⟩, 3, 3, some ⟨DE, 0, none⟩, 2, 2, 0, [0, 0, 0], [-1, 0]⟩⟩, ⟨3, 0, 0, ⟨some ⟨BF, 0, none⟩, 3, 3, some ⟨DF, 0, none⟩, 2, 2, 0, [0, 0, 0], [1, 0]⟩⟩, ⟨1, 0, 1, ⟨some ⟨BH, 0, none⟩, 3, 3, some ⟨DH, 0, none⟩, 2, 2, (-9), [0, 0, 0], [1, 0]⟩⟩, ⟨4, 0, 0, noFV⟩], _, rfl, ⟨TT, rd, o, fun i hi => ?_, fun i hi b o e => ?_, fun i hi b o e => ?_, hRl, ha⟩, rfl, by rcases v with _ | _ | v; rfl; rfl; omega, by omega, by omega⟩
    · rcases i with _ | _ | _ | _ | _ | i
      · exact ⟨GA.C, GA.D, show 3 ≤ 1048576 by omega, show 2 ≤ 1048576 by omega⟩
      · exact ⟨GE.C, GE.D, show 3 ≤ 1048576 by omega, show 2 ≤ 1048576 by omega⟩
      · exact ⟨GF.C, GF.D, show 3 ≤ 1048576 by omega, show 2 ≤ 1048576 by omega⟩
      · exact ⟨GH.C, GH.D, show 3 ≤ 1048576 by omega, show 2 ≤ 1048576 by omega⟩
      · exact ⟨⟨rfl, fun i hi => absurd hi (Nat.not_lt_zero _)⟩, ⟨rfl, fun i hi => absurd hi (Nat.not_lt_zero _)⟩, Nat.zero_le _, Nat.zero_le _⟩
      · simp only [List.length_cons, List.length_nil] at hi; omega
    · rcases i with _ | _ | _ | _ | _ | i
      · have e9 : (some ⟨BA, 0, none⟩ : Option Addr) = some ⟨b, o, none⟩ := e; simp only [Option.some.injEq, Addr.mk.injEq] at e9; exact ⟨by omega, by omega, by simp only [Value.ownBlock, ne_eq, Option.some.injEq]; omega⟩
      · have e9 : (some ⟨BE, 0, none⟩ : Option Addr) = some ⟨b, o, none⟩ := e; simp only [Option.some.injEq, Addr.mk.injEq] at e9; exact ⟨by omega, by omega, by simp only [Value.ownBlock, ne_eq, Option.some.injEq]; omega⟩
      · have e9 : (some ⟨BF, 0, none⟩ : Option Addr) = some ⟨b, o, none⟩ := e; simp only [Option.some.injEq, Addr.mk.injEq] at e9; exact ⟨by omega, by omega, by simp only [Value.ownBlock, ne_eq, Option.some.injEq]; omega⟩
      · have e9 : (some ⟨BH, 0, none⟩ : Option Addr) = some ⟨b, o, none⟩ := e; simp only [Option.some.injEq, Addr.mk.injEq] at e9; exact ⟨by omega, by omega, by simp only [Value.ownBlock, ne_eq, Option.some.injEq]; omega⟩
      · cases e
      · simp only [List.length_cons, List.length_nil] at hi; omega
    · rcases i with _ | _ | _ | _ | _ | i
      · have e9 : (some ⟨DA, 0, none⟩ : Option Addr) = some ⟨b, o, none⟩ := e; simp only [Option.some.injEq, Addr.mk.injEq] at e9; exact ⟨by omega, by omega, by simp only [Value.ownBlock, ne_eq, Option.some.injEq]; omega⟩
      · have e9 : (some ⟨DE, 0, none⟩ : Option Addr) = some ⟨b, o, none⟩ := e; simp only [Option.some.injEq, Addr.mk.injEq] at e9; exact ⟨by omega, by omega, by simp only [Value.ownBlock, ne_eq, Option.some.injEq]; omega⟩
      · have e9 : (some ⟨DF, 0, none⟩ : Option Addr) = some ⟨b, o, none⟩ := e; simp only [Option.some.injEq, Addr.mk.injEq] at e9; exact ⟨by omega, by omega, by simp only [Value.ownBlock, ne_eq, Option.some.injEq]; omega⟩
      · have e9 : (some ⟨DH, 0, none⟩ : Option Addr) = some ⟨b, o, none⟩ := e; simp only [Option.some.injEq, Addr.mk.injEq] at e9; exact ⟨by omega, by omega, by simp only [Value.ownBlock, ne_eq, Option.some.injEq]; omega⟩
      · cases e
      · simp only [List.length_cons, List.length_nil] at hi; omega
  · go_wp2_with fail
    have xA := TT.size
    refine (num_f 1 0 0 _).mono ?_
    rintro e w4 ⟨BA, DA, rfl, b5, f5⟩
    have yA1 := f5.b1
    have yA2 := f5.b2
    have GA : FA w4 (some ⟨BA, 0, none⟩) 3 (some ⟨DA, 0, none⟩) 2 ([0, 0, 0], [1, 0], 0) := ⟨f5.k1.ints' f5.l1, f5.k2.ints' f5.l2, by omega, by omega⟩
    clear f5
    replace TT := TT.trans (Touch.of b5)
    replace rd := rd.below b5
    clear b5
    have zA1 : w.heap.size ≤ BA := by omega
    have zA2 : w.heap.size ≤ DA := by omega
    have tA1 := GA.C.blk (by omega)
    have tA2 := GA.D.blk (by omega)
    have hsz := TT.size
    have al := (Below.refl w4.heap.size w4).alloc (Nat.le_refl _) (.cells #[.int .i64 2, .int .i64 (v : Int), .int .i64 0, .slice (some ⟨BA, 0, none⟩) 3 3, .slice (some ⟨DA, 0, none⟩) 2 2, .int .i64 0] 51)
    have o := World.ownsRow_lit (base := w.heap.size) (e := 51) (size := 6) w4 #[.int .i64 2, .int .i64 (v : Int), .int .i64 0, .slice (some ⟨BA, 0, none⟩) 3 3, .slice (some ⟨DA, 0, none⟩) 2 2, .int .i64 0] 1 hsz (by unfold maxLen; omega) rfl
    have hws := al.size
    replace GA := GA.below al
    replace TT := TT.trans (Touch.of al)
    replace rd := rd.below al
    clear al
    go_wp2
    go_ret
    refine ⟨_, 1, 1, [⟨2, (v : Int), 0, ⟨some ⟨BA, 0, none⟩, 3, 3, some ⟨DA, 0, none⟩, 2, 2, 0, [0, 0, 0], [1, 0]⟩⟩], _, rfl, ⟨TT, rd, o, fun i hi => ?_, fun i hi b o e => ?_, fun i hi b o e => ?_, hRl, ha⟩, rfl, by rcases v with _ | _ | v; rfl; rfl; omega, by omega, by omega⟩
    · rcases i with _ | i
      · exact ⟨GA.C, GA.D, show 3 ≤ 1048576 by omega, show 2 ≤ 1048576 by omega⟩
      · simp only [List.length_cons, List.length_nil] at hi; omega
    · rcases i with _ | i
      · have e9 : (some ⟨BA, 0, none⟩ : Option Addr) = some ⟨b, o, none⟩ := e; simp only [Option.some.injEq, Addr.mk.injEq] at e9; exact ⟨by omega, by omega, by simp only [Value.ownBlock, ne_eq, Option.some.injEq]; omega⟩
      · simp only [List.length_cons, List.length_nil] at hi; omega
    · rcases i with _ | i
      · have e9 : (some ⟨DA, 0, none⟩ : Option Addr) = some ⟨b, o, none⟩ := e; simp only [Option.some.injEq, Addr.mk.injEq] at e9; exact ⟨by omega, by omega, by simp only [Value.ownBlock, ne_eq, Option.some.injEq]; omega⟩
      · simp only [List.length_cons, List.length_nil] at hi; omega
  · go_wp2_with fail
    have xA := TT.size
    refine (num_f (-1) 0 0 _).mono ?_
    rintro e w4 ⟨BA, DA, rfl, b5, f5⟩
    go_wp2_with fail
    refine (with_f BA DA v 1 0 _ _ _ _ f5 (by omega)).mono ?_
    rintro e w5 ⟨rfl, t6, f6⟩
    have lo6 := f5.b1
    replace b5 := b5.trans (t6.below (B := w3.heap.size) b5.size (fun z hz => by omega))
    clear f5 t6 lo6
    have f5 := f6
    clear f6
    have yA1 := f5.b1
    have yA2 := f5.b2
    have GA : FA w5 (some ⟨BA, 0, none⟩) 3 (some ⟨DA, 0, none⟩) 2 (([0, 0, 0]).set v 1, [-1, 0], 0) := ⟨f5.k1.ints' f5.l1, f5.k2.ints' f5.l2, by omega, by omega⟩
    clear f5
    replace TT := TT.trans (Touch.of b5)
    replace rd := rd.below b5
    clear b5
    have zA1 : w.heap.size ≤ BA := by omega
    have zA2 : w.heap.size ≤ DA := by omega
    go_wp2_with fail
    have xE := TT.size
    refine (num_f (-1) 0 0 _).mono ?_
    rintro e w6 ⟨BE, DE, rfl, b5, f5⟩
    have yE1 := f5.b1
    have yE2 := f5.b2
    have GE : FA w6 (some ⟨BE, 0, none⟩) 3 (some ⟨DE, 0, none⟩) 2 ([0, 0, 0], [-1, 0], 0) := ⟨f5.k1.ints' f5.l1, f5.k2.ints' f5.l2, by omega, by omega⟩
    clear f5
    replace GA := GA.below b5
    replace TT := TT.trans (Touch.of b5)
    replace rd := rd.below b5
    clear b5
    have zE1 : w.heap.size ≤ BE := by omega
    have zE2 : w.heap.size ≤ DE := by omega
    go_wp2_with fail
    have xF := TT.size
    refine (num_f 1 0 0 _).mono ?_
    rintro e w7 ⟨BF, DF, rfl, b5, f5⟩
    have yF1 := f5.b1
    have yF2 := f5.b2
    have GF : FA w7 (some ⟨BF, 0, none⟩) 3 (some ⟨DF, 0, none⟩) 2 ([0, 0, 0], [1, 0], 0) := ⟨f5.k1.ints' f5.l1, f5.k2.ints' f5.l2, by omega, by omega⟩
    clear f5
    replace GA := GA.below b5
    replace GE := GE.below b5
    replace TT := TT.trans (Touch.of b5)
    replace rd := rd.below b5
    clear b5
    have zF1 : w.heap.size ≤ BF := by omega
    have zF2 : w.heap.size ≤ DF := by omega
    have tA1 := GA.C.blk (by omega)
    have tA2 := GA.D.blk (by omega)
    have tE1 := GE.C.blk (by omega)
    have tE2 := GE.D.blk (by omega)
    have tF1 := GF.C.blk (by omega)
    have tF2 := GF.D.blk (by omega)
    have hsz := TT.size
    have al := (Below.refl w7.heap.size w7).alloc (Nat.le_refl _) (.cells #[.int .i64 1, .int .i64 0, .int .i64 2, .slice (some ⟨BA, 0, none⟩) 3 3, .slice (some ⟨DA, 0, none⟩) 2 2, .int .i64 0, .int .i64 2, .int .i64 (v : Int), .int .i64 0, .slice (some ⟨BE, 0, none⟩) 3 3, .slice (some ⟨DE, 0, none⟩) 2 2, .int .i64 0, .int .i64 2, .int .i64 (1 - (v : Int)), .int .i64 0, .slice (some ⟨BF, 0, none⟩) 3 3, .slice (some ⟨DF, 0, none⟩) 2 2, .int .i64 0] 51)
    have o := World.ownsRow_lit (base := w.heap.size) (e := 51) (size := 6) w7 #[.int .i64 1, .int .i64 0, .int .i64 2, .slice (some ⟨BA, 0, none⟩) 3 3, .slice (some ⟨DA, 0, none⟩) 2 2, .int .i64 0, .int .i64 2, .int .i64 (v : Int), .int .i64 0, .slice (some ⟨BE, 0, none⟩) 3 3, .slice (some ⟨DE, 0, none⟩) 2 2, .int .i64 0, .int .i64 2, .int .i64 (1 - (v : Int)), .int .i64 0, .slice (some ⟨BF, 0, none⟩) 3 3, .slice (some ⟨DF, 0, none⟩) 2 2, .int .i64 0] 3 hsz (by unfold maxLen; omega) rfl
    have hws := al.size
    replace GA := GA.below al
    replace GE := GE.below al
    replace GF := GF.below al
    replace TT := TT.trans (Touch.of al)
    replace rd := rd.below al
    clear al
    go_wp2
    go_ret
    refine ⟨_, 3, 3, [⟨1, 0, 2, ⟨some ⟨BA, 0, none⟩, 3, 3, some ⟨DA, 0, none⟩, 2, 2, 0, ([0, 0, 0]).set v 1, [-1, 0]⟩⟩, ⟨2, (v : Int), 0, ⟨some ⟨BE, 0, none⟩, 3, 3, some ⟨DE, 0, none⟩, 2, 2, 0, [0, 0, 0], [-1, 0]⟩⟩, ⟨2, (1 - (v : Int)), 0, ⟨some ⟨BF, 0, none⟩, 3, 3, some ⟨DF, 0, none⟩, 2, 2, 0, [0, 0, 0], [1, 0]⟩⟩], _, rfl, ⟨TT, rd, o, fun i hi => ?_, fun i hi b o e => ?_, fun i hi b o e => ?_, hRl, ha⟩, rfl, by rcases v with _ | _ | v; rfl; rfl; omega, by omega, by omega⟩
    · rcases i with _ | _ | _ | i
      · exact ⟨GA.C, GA.D, show 3 ≤ 1048576 by omega, show 2 ≤ 1048576 by omega⟩
      · exact ⟨GE.C, GE.D, show 3 ≤ 1048576 by omega, show 2 ≤ 1048576 by omega⟩
      · exact ⟨GF.C, GF.D, show 3 ≤ 1048576 by omega, show 2 ≤ 1048576 by omega⟩
      · simp only [List.length_cons, List.length_nil] at hi; omega
    · rcases i with _ | _ | _ | i
      · have e9 : (some ⟨BA, 0, none⟩ : Option Addr) = some ⟨b, o, none⟩ := e; simp only [Option.some.injEq, Addr.mk.injEq] at e9; exact ⟨by omega, by omega, by simp only [Value.ownBlock, ne_eq, Option.some.injEq]; omega⟩
      · have e9 : (some ⟨BE, 0, none⟩ : Option Addr) = some ⟨b, o, none⟩ := e; simp only [Option.some.injEq, Addr.mk.injEq] at e9; exact ⟨by omega, by omega, by simp only [Value.ownBlock, ne_eq, Option.some.injEq]; omega⟩
      · have e9 : (some ⟨BF, 0, none⟩ : Option Addr) = some ⟨b, o, none⟩ := e; simp only [Option.some.injEq, Addr.mk.injEq] at e9; exact ⟨by omega, by omega, by simp only [Value.ownBlock, ne_eq, Option.some.injEq]; omega⟩
      · simp only [List.length_cons, List.length_nil] at hi; omega
    · rcases i with _ | _ | _ | i
      · have e9 : (some ⟨DA, 0, none⟩ : Option Addr) = some ⟨b, o, none⟩ := e; simp only [Option.some.injEq, Addr.mk.injEq] at e9; exact ⟨by omega, by omega, by simp only [Value.ownBlock, ne_eq, Option.some.injEq]; omega⟩
      · have e9 : (some ⟨DE, 0, none⟩ : Option Addr) = some ⟨b, o, none⟩ := e; simp only [Option.some.injEq, Addr.mk.injEq] at e9; exact ⟨by omega, by omega, by simp only [Value.ownBlock, ne_eq, Option.some.injEq]; omega⟩
      · have e9 : (some ⟨DF, 0, none⟩ : Option Addr) = some ⟨b, o, none⟩ := e; simp only [Option.some.injEq, Addr.mk.injEq] at e9; exact ⟨by omega, by omega, by simp only [Value.ownBlock, ne_eq, Option.some.injEq]; omega⟩
      · simp only [List.length_cons, List.length_nil] at hi; omega
  · go_wp2_with fail
    have xA := TT.size
    refine (num_f 0 0 0 _).mono ?_
    rintro e w4 ⟨BA, DA, rfl, b5, f5⟩
    go_wp2_with fail
    refine (with_f BA DA 2 1 0 _ _ _ _ f5 (by omega)).mono ?_
    rintro e w5 ⟨rfl, t6, f6⟩
    have lo6 := f5.b1
    replace b5 := b5.trans (t6.below (B := w3.heap.size) b5.size (fun z hz => by omega))
    clear f5 t6 lo6
    have f5 := f6
    clear f6
    have yA1 := f5.b1
    have yA2 := f5.b2
    have GA : FA w5 (some ⟨BA, 0, none⟩) 3 (some ⟨DA, 0, none⟩) 2 (([0, 0, 0]).set 2 1, [0, 0], 0) := ⟨f5.k1.ints' f5.l1, f5.k2.ints' f5.l2, by omega, by omega⟩
    clear f5
    replace TT := TT.trans (Touch.of b5)
    replace rd := rd.below b5
    clear b5
    have zA1 : w.heap.size ≤ BA := by omega
    have zA2 : w.heap.size ≤ DA := by omega
    have tA1 := GA.C.blk (by omega)
    have tA2 := GA.D.blk (by omega)
    have hsz := TT.size
    have al := (Below.refl w5.heap.size w5).alloc (Nat.le_refl _) (.cells #[.int .i64 3, .int .i64 0, .int .i64 0, .slice (some ⟨BA, 0, none⟩) 3 3, .slice (some ⟨DA, 0, none⟩) 2 2, .int .i64 0] 51)
    have o := World.ownsRow_lit (base := w.heap.size) (e := 51) (size := 6) w5 #[.int .i64 3, .int .i64 0, .int .i64 0, .slice (some ⟨BA, 0, none⟩) 3 3, .slice (some ⟨DA, 0, none⟩) 2 2, .int .i64 0] 1 hsz (by unfold maxLen; omega) rfl
    have hws := al.size
    replace GA := GA.below al
    replace TT := TT.trans (Touch.of al)
    replace rd := rd.below al
    clear al
    go_wp2
    go_ret
    refine ⟨_, 1, 1, [⟨3, 0, 0, ⟨some ⟨BA, 0, none⟩, 3, 3, some ⟨DA, 0, none⟩, 2, 2, 0, ([0, 0, 0]).set 2 1, [0, 0]⟩⟩], _, rfl, ⟨TT, rd, o, fun i hi => ?_, fun i hi b o e => ?_, fun i hi b o e => ?_, hRl, ha⟩, rfl, rfl, by omega, by omega⟩
    · rcases i with _ | i
      · exact ⟨GA.C, GA.D, show 3 ≤ 1048576 by omega, show 2 ≤ 1048576 by omega⟩
      · simp only [List.length_cons, List.length_nil] at hi; omega
    · rcases i with _ | i
      · have e9 : (some ⟨BA, 0, none⟩ : Option Addr) = some ⟨b, o, none⟩ := e; simp only [Option.some.injEq, Addr.mk.injEq] at e9; exact ⟨by omega, by omega, by simp only [Value.ownBlock, ne_eq, Option.some.injEq]; omega⟩
      · simp only [List.length_cons, List.length_nil] at hi; omega
    · rcases i with _ | i
      · have e9 : (some ⟨DA, 0, none⟩ : Option Addr) = some ⟨b, o, none⟩ := e; simp only [Option.some.injEq, Addr.mk.injEq] at e9; exact ⟨by omega, by omega, by simp only [Value.ownBlock, ne_eq, Option.some.injEq]; omega⟩
      · simp only [List.length_cons, List.length_nil] at hi; omega
  · go_wp2_with fail
    have xA := TT.size
    refine (num_f 0 1 5 _).mono ?_
    rintro e w4 ⟨BA, DA, rfl, b5, f5⟩
    go_wp2_with fail
    refine (with_f BA DA 0 1 5 _ _ _ _ f5 (by omega)).mono ?_
    rintro e w5 ⟨rfl, t6, f6⟩
    have lo6 := f5.b1
    replace b5 := b5.trans (t6.below (B := w3.heap.size) b5.size (fun z hz => by omega))
    clear f5 t6 lo6
    have f5 := f6
    clear f6
    go_wp2_with fail
    refine (with_f BA DA 1 (-1) 5 _ _ _ _ f5 (by omega)).mono ?_
    rintro e w6 ⟨rfl, t6, f6⟩
    have lo6 := f5.b1
    replace b5 := b5.trans (t6.below (B := w3.heap.size) b5.size (fun z hz => by omega))
    clear f5 t6 lo6
    have f5 := f6
    clear f6
    have yA1 := f5.b1
    have yA2 := f5.b2
    have GA : FA w6 (some ⟨BA, 0, none⟩) 3 (some ⟨DA, 0, none⟩) 2 ((([0, 0, 0]).set 0 1).set 1 (-1), [0, 1], 5) := ⟨f5.k1.ints' f5.l1, f5.k2.ints' f5.l2, by omega, by omega⟩
    clear f5
    replace TT := TT.trans (Touch.of b5)
    replace rd := rd.below b5
    clear b5
    have zA1 : w.heap.size ≤ BA := by omega
    have zA2 : w.heap.size ≤ DA := by omega
    go_wp2_with fail
    have xE := TT.size
    refine (num_f 0 0 1 _).mono ?_
    rintro e w7 ⟨BE, DE, rfl, b5, f5⟩
    have yE1 := f5.b1
    have yE2 := f5.b2
    have GE : FA w7 (some ⟨BE, 0, none⟩) 3 (some ⟨DE, 0, none⟩) 2 ([0, 0, 0], [0, 0], 1) := ⟨f5.k1.ints' f5.l1, f5.k2.ints' f5.l2, by omega, by omega⟩
    clear f5
    replace GA := GA.below b5
    replace TT := TT.trans (Touch.of b5)
    replace rd := rd.below b5
    clear b5
    have zE1 : w.heap.size ≤ BE := by omega
    have zE2 : w.heap.size ≤ DE := by omega
    have tA1 := GA.C.blk (by omega)
    have tA2 := GA.D.blk (by omega)
    have tE1 := GE.C.blk (by omega)
    have tE2 := GE.D.blk (by omega)
    have hsz := TT.size
    have al := (Below.refl w7.heap.size w7).alloc (Nat.le_refl _) (.cells #[.int .i64 1, .int .i64 0, .int .i64 1, .slice (some ⟨BA, 0, none⟩) 3 3, .slice (some ⟨DA, 0, none⟩) 2 2, .int .i64 5, .int .i64 2, .int .i64 2, .int .i64 0, .slice (some ⟨BE, 0, none⟩) 3 3, .slice (some ⟨DE, 0, none⟩) 2 2, .int .i64 1] 51)
    have o := World.ownsRow_lit (base := w.heap.size) (e := 51) (size := 6) w7 #[.int .i64 1, .int .i64 0, .int .i64 1, .slice (some ⟨BA, 0, none⟩) 3 3, .slice (some ⟨DA, 0, none⟩) 2 2, .int .i64 5, .int .i64 2, .int .i64 2, .int .i64 0, .slice (some ⟨BE, 0, none⟩) 3 3, .slice (some ⟨DE, 0, none⟩) 2 2, .int .i64 1] 2 hsz (by unfold maxLen; omega) rfl
    have hws := al.size
    replace GA := GA.below al
    replace GE := GE.below al
    replace TT := TT.trans (Touch.of al)
    replace rd := rd.below al
    clear al
    go_wp2
    go_ret
    refine ⟨_, 2, 2, [⟨1, 0, 1, ⟨some ⟨BA, 0, none⟩, 3, 3, some ⟨DA, 0, none⟩, 2, 2, 5, (([0, 0, 0]).set 0 1).set 1 (-1), [0, 1]⟩⟩, ⟨2, 2, 0, ⟨some ⟨BE, 0, none⟩, 3, 3, some ⟨DE, 0, none⟩, 2, 2, 1, [0, 0, 0], [0, 0]⟩⟩], _, rfl, ⟨TT, rd, o, fun i hi => ?_, fun i hi b o e => ?_, fun i hi b o e => ?_, hRl, ha⟩, rfl, rfl, by omega, by omega⟩
    · rcases i with _ | _ | i
      · exact ⟨GA.C, GA.D, show 3 ≤ 1048576 by omega, show 2 ≤ 1048576 by omega⟩
      · exact ⟨GE.C, GE.D, show 3 ≤ 1048576 by omega, show 2 ≤ 1048576 by omega⟩
      · simp only [List.length_cons, List.length_nil] at hi; omega
    · rcases i with _ | _ | i
      · have e9 : (some ⟨BA, 0, none⟩ : Option Addr) = some ⟨b, o, none⟩ := e; simp only [Option.some.injEq, Addr.mk.injEq] at e9; exact ⟨by omega, by omega, by simp only [Value.ownBlock, ne_eq, Option.some.injEq]; omega⟩
      · have e9 : (some ⟨BE, 0, none⟩ : Option Addr) = some ⟨b, o, none⟩ := e; simp only [Option.some.injEq, Addr.mk.injEq] at e9; exact ⟨by omega, by omega, by simp only [Value.ownBlock, ne_eq, Option.some.injEq]; omega⟩
      · simp only [List.length_cons, List.length_nil] at hi; omega
    · rcases i with _ | _ | i
      · have e9 : (some ⟨DA, 0, none⟩ : Option Addr) = some ⟨b, o, none⟩ := e; simp only [Option.some.injEq, Addr.mk.injEq] at e9; exact ⟨by omega, by omega, by simp only [Value.ownBlock, ne_eq, Option.some.injEq]; omega⟩
      · have e9 : (some ⟨DE, 0, none⟩ : Option Addr) = some ⟨b, o, none⟩ := e; simp only [Option.some.injEq, Addr.mk.injEq] at e9; exact ⟨by omega, by omega, by simp only [Value.ownBlock, ne_eq, Option.some.injEq]; omega⟩
      · simp only [List.length_cons, List.length_nil] at hi; omega
  · have h1 : ¬ j = 0 := by omega
    have h2 : ¬ j = 1 := by omega
    have h3 : ¬ j = 2 := by omega
    have h4 : ¬ j = 3 := by omega
    have h5 : ¬ j = 4 := by omega
    have h6 : ¬ j = 5 := by omega
    have e0 : ((j : Int) == 0) = false := by simp; omega
    have e1 : ((j : Int) == 1) = false := by simp; omega
    have e2 : ((j : Int) == 2) = false := by simp; omega
    have e3 : ((j : Int) == 3) = false := by simp; omega
    have e4 : ((j : Int) == 4) = false := by simp; omega
    have e5 : ((j : Int) == 5) = false := by simp; omega
    clear h1 h2 h3 h4 h5 h6
    have hsz := TT.size
    have al := (Below.refl w3.heap.size w3).alloc (Nat.le_refl _) (.cells #[] 51)
    have o0 := World.ownsRow_lit (base := w.heap.size) (e := 51) (size := 6) w3 #[] 0 hsz (by unfold maxLen; omega) rfl
    replace TT := TT.trans (Touch.of al)
    replace rd := rd.below al
    clear al
    have j0 : JL w R a n cap bs (p + 1 + 1) (.slice (some ⟨w3.heap.size, 0, none⟩) 0 0) [] (w3.alloc (.cells #[] 51)) := ⟨TT, rd, o0, fun i hi => by simp at hi, fun i hi => by simp at hi, fun i hi => by simp at hi, hRl, ha⟩
    clear o0 TT rd
    go_wp2_with fail
    refine (pick_any R a n cap bs (p + 1 + 1) 5 _ j0.r (by omega) (by omega) (by omega) (by omega)).mono ?_
    rintro e wS ⟨rk, k0, k1, rfl, t5, R5⟩
    obtain ⟨rk, rfl⟩ := Int.eq_ofNat_of_zero_le k0
    replace j0 := j0.pick t5 R5
    clear t5 R5 k0 hsz hj6
    obtain ⟨i0, hi, hz0, hz1, hz2⟩ := info_parts Try.infoLn
    go_wp2_with fail
    go_loopw [4, 5] (fun v i wr => ∃ (l : Nat) (ls : List LV) (q : Int), i = .int .i64 l ∧ ls.length + l ≤ 5 ∧ JL w R a n cap bs q v ls wr ∧ actB ls.length ls = true ∧ p ≤ q ∧ q + 12 * l ≤ p + 70) (fun _ i _ => (intOf i).toNat)
    case atStart => exact ⟨rk + 1, [], _, by go_num, by simp; omega, j0, rfl, by omega, by omega⟩
    case round =>
      clear j0
      obtain ⟨m, ls, q, rfl, hlm, j, hact, hq0, hq1⟩ := hrel
      by_cases hm : 0 < m
      · have hm' : (0 : Int) < (m : Int) := by omega
        obtain ⟨k, hk⟩ : ∃ k, k = ls.length := ⟨_, rfl⟩
        have HK : Hid (ls.length = k) := hk.symm
        have hlm' : k + m ≤ 5 := by omega
        obtain ⟨vad, vcap, rfl⟩ := own_slice j.o
        rw [← hk] at j
        rw [← hk]
        clear hk hlm
        have hvb := fun x hx => ((j.o.lt x hx).2 : x < wr.heap.size)
        have HAct : Hid (actB ls.length ls = true) := hact
        clear hact
        go_wp2_with fail
        refine (line_f R a n cap bs q _ j.r (by omega) (by omega) j.r.ha).mono ?_
        rintro e w5 ⟨l, q5, rfl, d5⟩
        have hszL := j.t.size
        replace j := j.pick d5.t d5.r
        have hl := d5.at'
        have la := d5.la
        have lc := d5.lc
        have v0 := d5.q0
        have v1 := d5.q1
        have hs5 := d5.t.size
        clear d5
        have al := (Below.refl w5.heap.size w5).alloc (Nat.le_refl _) (.cells #[.int .i64 l.kind, .int .i64 l.pot, .int .i64 l.skip, .slice l.f.a l.f.n l.f.cap, .slice l.f.c l.f.m l.f.cap', .int .i64 l.f.K] 51)
        have qb := Cel.new w5 [.int .i64 l.kind, .int .i64 l.pot, .int .i64 l.skip, .slice l.f.a l.f.n l.f.cap, .slice l.f.c l.f.m l.f.cap', .int .i64 l.f.K] 51
        replace j := j.below al
        replace hl := hl.below al
        have hs6 := al.size
        clear al
        go_upto_region 19 with fail
        obtain ⟨W6, hW6⟩ : ∃ W, W = w5.alloc (.cells #[.int .i64 l.kind, .int .i64 l.pot, .int .i64 l.skip, .slice l.f.a l.f.n l.f.cap, .slice l.f.c l.f.m l.f.cap', .int .i64 l.f.K] 51) := ⟨_, rfl⟩
        rw [← hW6]
        rw [← hW6] at j qb hl hs6
        clear hW6
        obtain ⟨XB, hXB⟩ : ∃ x, x = w5.heap.size := ⟨_, rfl⟩
        rw [← hXB]
        rw [← hXB] at qb
        clear hXB
        go_cut [78] (fun b wx => b = .bool (actB (k + 1) (ls ++ [l])) ∧ Below W6.heap.size W6 wx)
        case first =>
          refine wp_region_ends (fun X => X.cell? ⟨XB, 0, none⟩ = some (.int .i64 l.kind) ∧ X.cell? ⟨XB, 1, none⟩ = some (.int .i64 l.pot) ∧ X.cell? ⟨XB, 2, none⟩ = some (.int .i64 l.skip) ∧ X.cell? ⟨XB, 3, none⟩ = some (.slice l.f.a l.f.n l.f.cap) ∧ X.cell? ⟨XB, 4, none⟩ = some (.slice l.f.c l.f.m l.f.cap') ∧ X.cell? ⟨XB, 5, none⟩ = some (.int .i64 l.f.K)) (fun _ => True) 7 (by kernel_rfl) ?_
          have HV : Below W6.heap.size W6 W6.drew := (Below.refl _ _).drew
          replace j := j.below HV
          replace qb := qb.below HV
          replace hl := hl.below HV
          obtain ⟨V0, hV0⟩ : ∃ V, V = W6.drew := ⟨_, rfl⟩
          rw [← hV0]
          have hVW : Below W6.heap.size W6 V0 := by rw [hV0]; exact HV
          rw [← hV0] at j qb hl
          clear hV0 HV
          have HV := Below.refl V0.heap.size V0
          obtain ⟨Z0, hZ0⟩ : ∃ z, z = V0.heap.size := ⟨_, rfl⟩
          have HZ : Hid (Z0 = V0.heap.size) := hZ0
          clear hZ0
          have ATS : Hid (∀ i, i < (ls ++ [l]).length → ((ls ++ [l])[i]?.getD noLV).f.At V0) := fun i hi => at_app j.at' hl i hi
          have KP : Hid (∀ X, Below V0.heap.size V0 X → X.cell? ⟨XB, 0, none⟩ = some (.int .i64 l.kind) ∧ X.cell? ⟨XB, 1, none⟩ = some (.int .i64 l.pot) ∧ X.cell? ⟨XB, 2, none⟩ = some (.int .i64 l.skip) ∧ X.cell? ⟨XB, 3, none⟩ = some (.slice l.f.a l.f.n l.f.cap) ∧ X.cell? ⟨XB, 4, none⟩ = some (.slice l.f.c l.f.m l.f.cap') ∧ X.cell? ⟨XB, 5, none⟩ = some (.int .i64 l.f.K)) := fun X hX => by have h := qb.below hX; exact ⟨h.cell 0, h.cell 1, h.cell 2, h.cell 3, h.cell 4, h.cell 5⟩
          have hSS := And.intro (KP.out V0 HV) True.intro
          refine tkL (i := 1) rfl hSS ?_
          refine tkL (i := 3) rfl hSS ?_
          clear hSS
          refine wpAnyE_two (i := 0) (j := 4) (by kernel_rfl) rfl rfl (fun Kn hK => ?_) (fun Kn hK => ?_)
          · go_simp
            have al := (Below.refl V0.heap.size V0).alloc (Nat.le_refl _) (.cells #[] 51)
            have hsz := HV.size
            have o0 := World.ownsRow_lit (base := Z0) (e := 51) (size := 6) V0 #[] 0 (by rw [HZ.out]; exact hsz) (by unfold maxLen; omega) rfl
            replace HV := HV.trans (al.mono hsz)
            clear al
            obtain ⟨Y1, hY1⟩ : ∃ V, V = V0.alloc (.cells #[] 51) := ⟨_, rfl⟩
            rw [← hY1]
            rw [← hY1] at HV o0
            clear hY1
            obtain ⟨L0, hL0⟩ : ∃ x, x = V0.heap.size := ⟨_, rfl⟩
            rw [← hL0]
            rw [← hL0] at o0
            clear hL0 hsz
            have ltL0 : L0 < Y1.heap.size := (o0.lt L0 rfl).2
            refine hK.out _ _ ⟨KP.out _ HV, fun _ => trivial⟩ ?_
            clear hK
            refine wpAnyE_two (i := 2) (j := 4) (by kernel_rfl) rfl rfl (fun Kn hK => ?_) (fun Kn hK => ?_)
            · rw [if_pos (by rfl)]
              refine wp_copyL (.tmp 72) (.tmp 73) rfl Z0 w.heap.size L0 k vad vcap ls (by rfl) o0 (by rfl) (by have h := (j.below HV).o; rw [HK.out] at h; exact h) HK.out (by omega) (by rw [HZ.out]; exact HV.size) ?_
              intro v2 Y2 b2 t2 o2 _
              rw [HZ.out] at b2
              replace HV := HV.trans b2
              clear b2 t2 o0 ltL0
              refine hK.out _ _ ⟨KP.out _ HV, fun _ => trivial⟩ ?_
              clear hK
              refine wpAnyE_one (i := 4) (by kernel_rfl) rfl (fun Kn hK => ?_)
              go_simp
              have al := (Below.refl Y2.heap.size Y2).alloc (Nat.le_refl _) (.cells #[.int .i64 l.kind, .int .i64 l.pot, .int .i64 l.skip, .slice l.f.a l.f.n l.f.cap, .slice l.f.c l.f.m l.f.cap', .int .i64 l.f.K] 51)
              have hsz := HV.size
              have c4 := Cel.new Y2 [.int .i64 l.kind, .int .i64 l.pot, .int .i64 l.skip, .slice l.f.a l.f.n l.f.cap, .slice l.f.c l.f.m l.f.cap', .int .i64 l.f.K] 51
              replace o2 := own_belowL o2 al
              replace HV := HV.trans (al.mono hsz)
              clear al
              obtain ⟨Y3, hY3⟩ : ∃ V, V = Y2.alloc (.cells #[.int .i64 l.kind, .int .i64 l.pot, .int .i64 l.skip, .slice l.f.a l.f.n l.f.cap, .slice l.f.c l.f.m l.f.cap', .int .i64 l.f.K] 51) := ⟨_, rfl⟩
              rw [← hY3]
              rw [← hY3] at HV c4 o2
              clear hY3
              obtain ⟨L4, hL4⟩ : ∃ x, x = Y2.heap.size := ⟨_, rfl⟩
              rw [← hL4]
              rw [← hL4] at c4
              clear hL4 hsz
              have lt4 := c4.lt
              refine hK.out _ _ ⟨KP.out _ HV, fun _ => trivial⟩ ?_
              clear hK
              refine wpAnyE_one (i := 5) (by kernel_rfl) rfl (fun Kn hK => ?_)
              rw [if_pos (by rfl)]
              obtain ⟨a2, cp2, rfl⟩ := own_slice o2
              refine wp_append_lies _ (.tmp 74) (.tmp 76) 52 rfl Z0 51 i0 _ 6 80 Try.underlying52 hi hz0 hz1 hz2 rfl (by omega) (.slice a2 k cp2) k (ls.flatMap LV.cs) (by rfl) o2 ⟨L4, 0, none⟩ 1 1 l.cs (by rfl) (by rfl) (World.news_of_block (cs := #[.int .i64 l.kind, .int .i64 l.pot, .int .i64 l.skip, .slice l.f.a l.f.n l.f.cap, .slice l.f.c l.f.m l.f.cap', .int .i64 l.f.K]) (t := 51) (fr := (0, 0)) c4) (by have h := flatL_one [l]; simpa using h) (by omega) (by unfold maxLen; omega) (by omega) (by rw [HZ.out]; exact HV.size) _ rfl ?_
              intro g5 cp5 Y4 hown hgrow _ _
              replace HV := HV.trans ((Below.refl V0.heap.size Y3).grown hgrow HV.size (fun z hz => by have h := (o2.lt z hz).1; rw [HZ.out] at h; exact h))
              have g5G : LinesG Y4 (some ⟨g5, 0, none⟩) (ls ++ [l]) := linesG_own (base := Z0) (by rw [List.flatMap_append]; simpa using hown) (by rw [List.length_append, HK.out]; rfl) (fun i hi => (ATS.out i hi).below HV)
              clear hown hgrow o2 c4
              refine hK.out _ _ ⟨KP.out _ HV, fun _ => trivial⟩ ?_
              clear hK
              refine wpAnyE_one (i := 6) (by kernel_rfl) rfl (fun Kn hK => ?_)
              go_simp
              refine (sact_any _ (k + 1) cp5 (ls ++ [l]) _ (by rw [List.length_append, HK.out]; rfl) g5G (by omega)).mono ?_
              rintro e Y5 ⟨rfl, b6⟩
              replace HV := HV.trans (b6.mono HV.size)
              clear b6 g5G
              dsimp only
              refine hK.out _ _ ⟨KP.out _ HV, fun _ => trivial⟩ ?_
              clear hK
              refine wpAnyE_done (by kernel_rfl) ?_ _
              clear KP ATS
              go_wp2_with fail
              go_meet
              case rel => exact ⟨rfl, hVW.trans (HV.mono hVW.size)⟩
            · go_simp
              have al := (Below.refl Y1.heap.size Y1).alloc (Nat.le_refl _) (.cells #[.int .i64 l.kind, .int .i64 l.pot, .int .i64 l.skip, .slice l.f.a l.f.n l.f.cap, .slice l.f.c l.f.m l.f.cap', .int .i64 l.f.K] 51)
              have hsz := HV.size
              have c4 := Cel.new Y1 [.int .i64 l.kind, .int .i64 l.pot, .int .i64 l.skip, .slice l.f.a l.f.n l.f.cap, .slice l.f.c l.f.m l.f.cap', .int .i64 l.f.K] 51
              replace o0 := own_belowL o0 al
              replace HV := HV.trans (al.mono hsz)
              clear al
              obtain ⟨Y2, hY2⟩ : ∃ V, V = Y1.alloc (.cells #[.int .i64 l.kind, .int .i64 l.pot, .int .i64 l.skip, .slice l.f.a l.f.n l.f.cap, .slice l.f.c l.f.m l.f.cap', .int .i64 l.f.K] 51) := ⟨_, rfl⟩
              rw [← hY2]
              rw [← hY2] at HV c4 o0
              clear hY2
              obtain ⟨L4, hL4⟩ : ∃ x, x = Y1.heap.size := ⟨_, rfl⟩
              rw [← hL4]
              rw [← hL4] at c4
              have n04 : L4 ≠ L0 := by omega
              clear hL4 hsz
              have lt4 := c4.lt
              clear ltL0
              have ltL0 : L0 < Y2.heap.size := (o0.lt L0 rfl).2
              refine hK.out _ _ ⟨KP.out _ HV, fun _ => trivial⟩ ?_
              clear hK
              refine wpAnyE_one (i := 2) (by kernel_rfl) rfl (fun Kn hK => ?_)
              rw [if_pos (by rfl)]
              refine wp_copyL (.tmp 72) (.tmp 73) rfl Z0 w.heap.size L0 k vad vcap ls (by rfl) o0 (by rfl) (by have h := (j.below HV).o; rw [HK.out] at h; exact h) HK.out (by omega) (by rw [HZ.out]; exact HV.size) ?_
              intro v2 Y3 b2 t2 o2 _
              replace c4 := c4.touch t2 n04
              clear lt4
              rw [HZ.out] at b2
              replace HV := HV.trans b2
              clear b2 t2 o0 ltL0
              refine hK.out _ _ ⟨KP.out _ HV, fun _ => trivial⟩ ?_
              clear hK
              refine wpAnyE_one (i := 5) (by kernel_rfl) rfl (fun Kn hK => ?_)
              rw [if_pos (by rfl)]
              obtain ⟨a2, cp2, rfl⟩ := own_slice o2
              refine wp_append_lies _ (.tmp 74) (.tmp 76) 52 rfl Z0 51 i0 _ 6 80 Try.underlying52 hi hz0 hz1 hz2 rfl (by omega) (.slice a2 k cp2) k (ls.flatMap LV.cs) (by rfl) o2 ⟨L4, 0, none⟩ 1 1 l.cs (by rfl) (by rfl) (World.news_of_block (cs := #[.int .i64 l.kind, .int .i64 l.pot, .int .i64 l.skip, .slice l.f.a l.f.n l.f.cap, .slice l.f.c l.f.m l.f.cap', .int .i64 l.f.K]) (t := 51) (fr := (0, 0)) c4) (by have h := flatL_one [l]; simpa using h) (by omega) (by unfold maxLen; omega) (by omega) (by rw [HZ.out]; exact HV.size) _ rfl ?_
              intro g5 cp5 Y4 hown hgrow _ _
              replace HV := HV.trans ((Below.refl V0.heap.size Y3).grown hgrow HV.size (fun z hz => by have h := (o2.lt z hz).1; rw [HZ.out] at h; exact h))
              have g5G : LinesG Y4 (some ⟨g5, 0, none⟩) (ls ++ [l]) := linesG_own (base := Z0) (by rw [List.flatMap_append]; simpa using hown) (by rw [List.length_append, HK.out]; rfl) (fun i hi => (ATS.out i hi).below HV)
              clear hown hgrow o2 c4
              refine hK.out _ _ ⟨KP.out _ HV, fun _ => trivial⟩ ?_
              clear hK
              refine wpAnyE_one (i := 6) (by kernel_rfl) rfl (fun Kn hK => ?_)
              go_simp
              refine (sact_any _ (k + 1) cp5 (ls ++ [l]) _ (by rw [List.length_append, HK.out]; rfl) g5G (by omega)).mono ?_
              rintro e Y5 ⟨rfl, b6⟩
              replace HV := HV.trans (b6.mono HV.size)
              clear b6 g5G
              dsimp only
              refine hK.out _ _ ⟨KP.out _ HV, fun _ => trivial⟩ ?_
              clear hK
              refine wpAnyE_done (by kernel_rfl) ?_ _
              clear KP ATS
              go_wp2_with fail
              go_meet
              case rel => exact ⟨rfl, hVW.trans (HV.mono hVW.size)⟩
          · go_simp
            have al := (Below.refl V0.heap.size V0).alloc (Nat.le_refl _) (.cells #[.int .i64 l.kind, .int .i64 l.pot, .int .i64 l.skip, .slice l.f.a l.f.n l.f.cap, .slice l.f.c l.f.m l.f.cap', .int .i64 l.f.K] 51)
            have hsz := HV.size
            have c4 := Cel.new V0 [.int .i64 l.kind, .int .i64 l.pot, .int .i64 l.skip, .slice l.f.a l.f.n l.f.cap, .slice l.f.c l.f.m l.f.cap', .int .i64 l.f.K] 51
            replace HV := HV.trans (al.mono hsz)
            clear al
            obtain ⟨Y1, hY1⟩ : ∃ V, V = V0.alloc (.cells #[.int .i64 l.kind, .int .i64 l.pot, .int .i64 l.skip, .slice l.f.a l.f.n l.f.cap, .slice l.f.c l.f.m l.f.cap', .int .i64 l.f.K] 51) := ⟨_, rfl⟩
            rw [← hY1]
            rw [← hY1] at HV c4
            clear hY1
            obtain ⟨L4, hL4⟩ : ∃ x, x = V0.heap.size := ⟨_, rfl⟩
            rw [← hL4]
            rw [← hL4] at c4
            clear hL4 hsz
            have lt4 := c4.lt
            refine hK.out _ _ ⟨KP.out _ HV, fun _ => trivial⟩ ?_
            clear hK
            refine wpAnyE_one (i := 0) (by kernel_rfl) rfl (fun Kn hK => ?_)
            go_simp
            have al := (Below.refl Y1.heap.size Y1).alloc (Nat.le_refl _) (.cells #[] 51)
            have hsz := HV.size
            have o0 := World.ownsRow_lit (base := Z0) (e := 51) (size := 6) Y1 #[] 0 (by rw [HZ.out]; exact hsz) (by unfold maxLen; omega) rfl
            replace c4 := c4.below al
            replace HV := HV.trans (al.mono hsz)
            clear al
            obtain ⟨Y2, hY2⟩ : ∃ V, V = Y1.alloc (.cells #[] 51) := ⟨_, rfl⟩
            rw [← hY2]
            rw [← hY2] at HV o0 c4
            clear hY2
            obtain ⟨L0, hL0⟩ : ∃ x, x = Y1.heap.size := ⟨_, rfl⟩
            rw [← hL0]
            rw [← hL0] at o0
            have n04 : L4 ≠ L0 := by omega
            clear hL0 hsz
            have ltL0 : L0 < Y2.heap.size := (o0.lt L0 rfl).2
            clear lt4
            have lt4 := c4.lt
            refine hK.out _ _ ⟨KP.out _ HV, fun _ => trivial⟩ ?_
            clear hK
            refine wpAnyE_one (i := 2) (by kernel_rfl) rfl (fun Kn hK => ?_)
            rw [if_pos (by rfl)]
            refine wp_copyL (.tmp 72) (.tmp 73) rfl Z0 w.heap.size L0 k vad vcap ls (by rfl) o0 (by rfl) (by have h := (j.below HV).o; rw [HK.out] at h; exact h) HK.out (by omega) (by rw [HZ.out]; exact HV.size) ?_
            intro v2 Y3 b2 t2 o2 _
            replace c4 := c4.touch t2 n04
            clear lt4
            rw [HZ.out] at b2
            replace HV := HV.trans b2
            clear b2 t2 o0 ltL0
            refine hK.out _ _ ⟨KP.out _ HV, fun _ => trivial⟩ ?_
            clear hK
            refine wpAnyE_one (i := 5) (by kernel_rfl) rfl (fun Kn hK => ?_)
            rw [if_pos (by rfl)]
            obtain ⟨a2, cp2, rfl⟩ := own_slice o2
            refine wp_append_lies _ (.tmp 74) (.tmp 76) 52 rfl Z0 51 i0 _ 6 80 Try.underlying52 hi hz0 hz1 hz2 rfl (by omega) (.slice a2 k cp2) k (ls.flatMap LV.cs) (by rfl) o2 ⟨L4, 0, none⟩ 1 1 l.cs (by rfl) (by rfl) (World.news_of_block (cs := #[.int .i64 l.kind, .int .i64 l.pot, .int .i64 l.skip, .slice l.f.a l.f.n l.f.cap, .slice l.f.c l.f.m l.f.cap', .int .i64 l.f.K]) (t := 51) (fr := (0, 0)) c4) (by have h := flatL_one [l]; simpa using h) (by omega) (by unfold maxLen; omega) (by omega) (by rw [HZ.out]; exact HV.size) _ rfl ?_
            intro g5 cp5 Y4 hown hgrow _ _
            replace HV := HV.trans ((Below.refl V0.heap.size Y3).grown hgrow HV.size (fun z hz => by have h := (o2.lt z hz).1; rw [HZ.out] at h; exact h))
            have g5G : LinesG Y4 (some ⟨g5, 0, none⟩) (ls ++ [l]) := linesG_own (base := Z0) (by rw [List.flatMap_append]; simpa using hown) (by rw [List.length_append, HK.out]; rfl) (fun i hi => (ATS.out i hi).below HV)
            clear hown hgrow o2 c4
            refine hK.out _ _ ⟨KP.out _ HV, fun _ => trivial⟩ ?_
            clear hK
            refine wpAnyE_one (i := 6) (by kernel_rfl) rfl (fun Kn hK => ?_)
            go_simp
            refine (sact_any _ (k + 1) cp5 (ls ++ [l]) _ (by rw [List.length_append, HK.out]; rfl) g5G (by omega)).mono ?_
            rintro e Y5 ⟨rfl, b6⟩
            replace HV := HV.trans (b6.mono HV.size)
            clear b6 g5G
            dsimp only
            refine hK.out _ _ ⟨KP.out _ HV, fun _ => trivial⟩ ?_
            clear hK
            refine wpAnyE_done (by kernel_rfl) ?_ _
            clear KP ATS
            go_wp2_with fail
            go_meet
            case rel => exact ⟨rfl, hVW.trans (HV.mono hVW.size)⟩
        case rest =>
          obtain ⟨rfl, HV⟩ := hcut
          replace j := j.below HV
          replace qb := qb.below HV
          replace hl := hl.below HV
          have hs7 := HV.size
          clear HV
          cases h9 : actB (k + 1) (ls ++ [l])
          · go_wp2
            go_roundw
            case rel => exact ⟨m - 1, ls, q5, by go_num, by rw [HK.out]; omega, j, HAct.out, by omega, by omega⟩
            case measure => simp [intOf]; omega
          · have SZ : ∀ i, i < ls.length → (∀ b o, (ls[i]?.getD noLV).f.a = some ⟨b, o, none⟩ → b < wc.heap.size) ∧ (∀ b o, (ls[i]?.getD noLV).f.c = some ⟨b, o, none⟩ → b < wc.heap.size) := fun i hi => ⟨fun b o e => (j.na i hi b o e).2.1, fun b o e => (j.nc i hi b o e).2.1⟩
            have al := (Below.refl wc.heap.size wc).alloc (Nat.le_refl _) (.cells #[.int .i64 l.kind, .int .i64 l.pot, .int .i64 l.skip, .slice l.f.a l.f.n l.f.cap, .slice l.f.c l.f.m l.f.cap', .int .i64 l.f.K] 51)
            have ja := j.below al
            have hla := hl.below al
            have b0 := qb.cell 0
            have b1 := qb.cell 1
            have b2 := qb.cell 2
            have b3 := qb.cell 3
            have b4 := qb.cell 4
            have b5 := qb.cell 5
            simp only [List.getElem?_cons_zero, List.getElem?_cons_succ] at b0 b1 b2 b3 b4 b5
            have hszA := ja.t.size
            clear al j hl
            go_wp2_with (at_builtin; refine wpList_append_lies _ rfl (.tmp 79) (.tmp 81) 52 rfl w.heap.size 51 i0 _ 6 80 Try.underlying52 hi hz0 hz1 hz2 rfl (by omega) (.slice vad k vcap) k (ls.flatMap LV.cs) (by rfl) (by have h := ja.o; rw [HK.out] at h; exact h) ⟨wc.heap.size, 0, none⟩ 1 1 l.cs (by rfl) (by rfl) (World.news_of_block (cs := #[.int .i64 l.kind, .int .i64 l.pot, .int .i64 l.skip, .slice l.f.a l.f.n l.f.cap, .slice l.f.c l.f.m l.f.cap', .int .i64 l.f.K]) (t := 51) (fr := (0, 0)) (heap_alloc_new wc _)) (by have h := flatL_one [l]; simpa using h) (by omega) (by unfold maxLen; omega) (by omega) hszA (wc.heap.size + 1) (by rw [World.size_alloc]) ?_)
            intro g9 cp9 w9 hown hgrow hat _
            have jn := ja.app (H := wc.heap.size) HK.out hla (fun b o e => by (have h := la b o e; exact ⟨by omega, by omega, fun e2 => by have := hvb b e2; omega⟩)) (fun b o e => by (have h := lc b o e; exact ⟨by omega, by omega, fun e2 => by have := hvb b e2; omega⟩)) (by rw [World.size_alloc]; omega) SZ hown hgrow (by rcases hat with h | h; exact .inl h; exact .inr (by omega))
            clear hown hgrow ja hla b0 b1 b2 b3 b4 b5
            go_wp2
            go_roundw
            case rel => exact ⟨m - 1, ls ++ [l], q5, by go_num, by rw [List.length_append, HK.out]; simp; omega, jn, by rw [List.length_append, HK.out]; exact h9, by omega, by omega⟩
            case measure => simp [intOf]; omega
      · have hm' : ¬ (0 : Int) < (m : Int) := by omega
        obtain ⟨vad, vcap, rfl⟩ := own_slice j.o
        go_wp2
        go_ret
        exact ⟨vad, ls.length, vcap, rfl, by first | exact ⟨ls, ⟨q, j, by first | exact ⟨rfl, hact, by omega, by omega⟩ | omega⟩⟩ | (refine ⟨ls, ?_⟩; trace_state; simp [hact]; exact ⟨q, j, by omega, by omega⟩)⟩

end Go.Proofs.Ytemcinobgdphnaa
namespace Go.Proofs.Ytemcinobgdphnaa
open Go.RowKit
set_option linter.unusedVariables false
set_option maxRecDepth 100000

theorem LinesG.off {S : Nat → Prop} {w w' : World} {ad : Option Addr} {ls : List LV} (h : LinesG w ad ls) (t : Touch S w w') (h0 : ∀ b o, ad = some ⟨b, o, none⟩ → ¬ S b) (h1 : ∀ i, i < ls.length → (∀ b o, (ls[i]?.getD noLV).f.a = some ⟨b, o, none⟩ → ¬ S b) ∧ (∀ b o, (ls[i]?.getD noLV).f.c = some ⟨b, o, none⟩ → ¬ S b)) : LinesG w' ad ls := by
  intro i hi
  obtain ⟨b, off, e, hc, ha⟩ := h i hi
  have hl : b < w.heap.size := block_lt (v := .int .i64 (ls[i]?.getD noLV).kind) (by rw [hc 0 (by omega)]; rfl)
  have hb := t.block b hl (h0 b off e)
  exact ⟨b, off, e, fun r hr => (World.cell?_of_block hb).trans (hc r hr), ha.off t (h1 i hi).1 (h1 i hi).2⟩
/-- An act that is ok, all of whose blocks are of a kind. -/
structure AcP (P : Nat → Prop) (W : World) (s : L2V) : Prop where
  len : s.x.length = s.n
  g : LinesG W s.a s.x
  ok : actB s.n s.x = true
  pa : ∀ b o, s.a = some ⟨b, o, none⟩ → P b
  pf : ∀ i, i < s.x.length → (∀ b o, (s.x[i]?.getD noLV).f.a = some ⟨b, o, none⟩ → P b) ∧ (∀ b o, (s.x[i]?.getD noLV).f.c = some ⟨b, o, none⟩ → P b)
section
variable {P P' : Nat → Prop} {W W' : World} {s : L2V}
theorem AcP.touch {S : Nat → Prop} (h : AcP P W s) (t : Touch S W W') (hS : ∀ b, P b → ¬ S b) : AcP P W' s :=
  ⟨h.len, h.g.off t (fun b o e => hS b (h.pa b o e)) (fun i hi => ⟨fun b o e => hS b ((h.pf i hi).1 b o e), fun b o e => hS b ((h.pf i hi).2 b o e)⟩), h.ok, h.pa, h.pf⟩
theorem AcP.below (h : AcP P W s) (b : Below W.heap.size W W') : AcP P W' s := ⟨h.len, h.g.below b, h.ok, h.pa, h.pf⟩
theorem AcP.mono (h : AcP P W s) (hP : ∀ b, P b → P' b) : AcP P' W s := ⟨h.len, h.g, h.ok, fun b o e => hP b (h.pa b o e), fun i hi => ⟨fun b o e => hP b ((h.pf i hi).1 b o e), fun b o e => hP b ((h.pf i hi).2 b o e)⟩⟩
theorem AcP.six (h : AcP P W s) : s.n ≤ 6 := by
  have := h.ok
  unfold actB at this
  simp only [Bool.and_eq_true, decide_eq_true_eq] at this
  omega
theorem AcP.lg (h : AcP P W s) : LG W s := ⟨h.len, h.g, by have := h.six; omega⟩
end
theorem JL.act {wL W : World} {R : Nat} {a : Option Addr} {n cap : Nat} {bs : List Int} {q : Int} {ad : Option Addr} {N c : Nat} {ls : List LV} (j : JL wL R a n cap bs q (.slice ad N c) ls W) (hl : ls.length = N) (ho : actB N ls = true) : AcP (fun b => wL.heap.size ≤ b ∧ b < W.heap.size) W ⟨ad, N, c, ls⟩ := by
  refine ⟨hl, j.g hl, ho, fun b o e => ?_, fun i hi => ⟨fun b o e => ⟨(j.na i hi b o e).1, (j.na i hi b o e).2.1⟩, fun b o e => ⟨(j.nc i hi b o e).1, (j.nc i hi b o e).2.1⟩⟩⟩
  have e' : ad = some ⟨b, o, none⟩ := e
  subst e'
  exact j.o.lt b rfl

/-- Acts that are being drawn. -/
structure JAs (w : World) (R : Nat) (a : Option Addr) (n cap : Nat) (bs : List Int) (q : Int) (v : Value) (ss : List L2V) (W : World) : Prop where
  t : Touch (fun x => x = R) w W
  r : Rd W R a n cap bs q
  o : W.ownsRow w.heap.size 52 1 v ss.length (ss.map L2V.v)
  ac : ∀ i, i < ss.length → AcP (fun b => w.heap.size ≤ b ∧ b < W.heap.size ∧ v.ownBlock ≠ some b) W (ss[i]?.getD noL)
  lR : R < w.heap.size
  lb : 0 < n → ∀ b o, a = some ⟨b, o, none⟩ → b < w.heap.size
section
variable {w W W' : World} {R : Nat} {a : Option Addr} {n cap : Nat} {bs : List Int} {q : Int} {v : Value} {ss : List L2V}
theorem JAs.below (j : JAs w R a n cap bs q v ss W) (b : Below W.heap.size W W') : JAs w R a n cap bs q v ss W' :=
  ⟨j.t.trans (Touch.of b), j.r.below b, own_belowL j.o b, fun i hi => ((j.ac i hi).below b).mono (fun x h => ⟨h.1, Nat.lt_of_lt_of_le h.2.1 b.size, h.2.2⟩), j.lR, j.lb⟩
theorem JAs.pick {q' : Int} (j : JAs w R a n cap bs q v ss W) (t : Touch (fun x => x = R) W W') (r : Rd W' R a n cap bs q') : JAs w R a n cap bs q' v ss W' := by
  have lR := j.lR
  exact ⟨j.t.trans t, r, ownsRow_touch j.o t (fun k h => by omega), fun i hi => ((j.ac i hi).touch t (fun b h => by omega)).mono (fun x h => ⟨h.1, Nat.lt_of_lt_of_le h.2.1 t.size, h.2.2⟩), j.lR, j.lb⟩
theorem JAs.lsg {ad : Option Addr} {N c : Nat} (j : JAs w R a n cap bs q (.slice ad N c) ss W) (hl : ss.length = N) : LSG W ad ss := by
  intro i hi
  rcases j.o.2 with ⟨hv, h0⟩ | ⟨g, cap', cur, hv, _⟩
  · omega
  · have hv' : ad = some ⟨g, 0, none⟩ := by simp only [Value.slice.injEq] at hv; exact hv.1
    subst hv'
    refine ⟨g, 0, rfl, ?_, (j.ac i hi).lg⟩
    have o := j.o
    rw [hl] at o
    have := o.cellAt i (by omega)
    rw [Nat.zero_add, this, List.getElem?_map, List.getElem?_eq_getElem hi]
    simp
theorem JAs.app {s : L2V} {g c k H : Nat} (j : JAs w R a n cap bs q v ss W) (hk : ss.length = k) (hs : AcP (fun b => w.heap.size ≤ b ∧ b < H ∧ v.ownBlock ≠ some b) W s) (hH : H ≤ W.heap.size) (hsz : ∀ i, i < ss.length → AcP (fun b => b < H) W (ss[i]?.getD noL))
    (hown : W'.ownsRow w.heap.size 52 1 (.slice (some ⟨g, 0, none⟩) (k + 1) c) (k + 1) (ss.map L2V.v ++ [s.v])) (hg : W.grownBy W' v.ownBlock) (hat : v.ownBlock = some g ∨ H ≤ g) : JAs w R a n cap bs q (.slice (some ⟨g, 0, none⟩) (k + 1) c) (ss ++ [s]) W' := by
  have hr : ∀ x, v.ownBlock = some x → w.heap.size ≤ x := fun x hx => (j.o.lt x hx).1
  have lR := j.lR
  have T : Touch (fun x => v.ownBlock = some x) W W' := ⟨hg.os, hg.tape, hg.output, hg.size, fun x hx hs => hg.block x hx (fun e => hs e.symm)⟩
  have hn : ∀ b, v.ownBlock ≠ some b → b < H → (Value.slice (some ⟨g, 0, none⟩) (k + 1) c).ownBlock ≠ some b := fun b h1 h2 e => by
    simp only [Value.ownBlock, Option.some.injEq] at e
    rcases hat with h | h
    · rw [h] at h1; exact h1 (by rw [e])
    · omega
  have hs' := hg.size
  refine ⟨j.t.grown hg hr, j.r.touch T (fun e => by have := hr _ e; omega) (fun h0 b o hab e => by have := j.lb h0 b o hab; have := hr _ e; omega), ?_, fun i hi => ?_, j.lR, j.lb⟩
  · rw [List.length_append, hk, List.map_append]
    simpa using hown
  · by_cases h : i < ss.length
    · rw [List.getElem?_append_left h]
      have h1 := (j.ac i h).touch T (fun b hb => hb.2.2)
      have h2 := hsz i h
      exact ⟨h1.len, h1.g, h1.ok, fun b o e => ⟨(h1.pa b o e).1, by have := h2.pa b o e; omega, hn b (h1.pa b o e).2.2 (h2.pa b o e)⟩, fun m hm => ⟨fun b o e => ⟨((h1.pf m hm).1 b o e).1, by have := (h2.pf m hm).1 b o e; omega, hn b ((h1.pf m hm).1 b o e).2.2 ((h2.pf m hm).1 b o e)⟩, fun b o e => ⟨((h1.pf m hm).2 b o e).1, by have := (h2.pf m hm).2 b o e; omega, hn b ((h1.pf m hm).2 b o e).2.2 ((h2.pf m hm).2 b o e)⟩⟩⟩
    · have : i = ss.length := by rw [List.length_append] at hi; simp at hi; omega
      subst this
      have e : (ss ++ [s])[ss.length]?.getD noL = s := by simp
      rw [e]
      exact (hs.touch T (fun b hb => hb.2.2)).mono (fun b hb => ⟨hb.1, by omega, hn b hb.2.2 hb.2.1⟩)
end

theorem Try.infoLns : (Try.prog.info? 52).map (fun i => (i.zero, i.size, i.bytes)) = some (some (.slice none 0 0), 1, 24) := by kernel_rfl

set_option maxHeartbeats 6400000 in
theorem acts_f (R : Nat) (a : Option Addr) (n cap : Nat) (bs : List Int) (p : Int) (w : World) (rd : Rd w R a n cap bs p) (hp : 0 ≤ p) (hp1 : p ≤ 6000000) (ha : 0 < n → ∀ b o, a = some ⟨b, o, none⟩ → b < w.heap.size) :
    Calls Try.prog 67 #[.pointer (some ⟨R, 0, none⟩)] w fun e w' => ∃ ad N c ss q, e = .returned (.slice ad N c) ∧ JAs w R a n cap bs q (.slice ad N c) ss w' ∧ ss.length = N ∧ 1 ≤ N ∧ N ≤ 4 ∧ p ≤ q ∧ q ≤ p + 330 := by
  have hRl := rd.c.lt
  have al := (Below.refl w.heap.size w).alloc (Nat.le_refl _) (.cells #[] 52)
  have o0 := World.ownsRow_lit (base := w.heap.size) (e := 52) (size := 1) w #[] 0 (Nat.le_refl _) (by unfold maxLen; omega) rfl
  have j0 : JAs w R a n cap bs p (.slice (some ⟨w.heap.size, 0, none⟩) 0 0) [] (w.alloc (.cells #[] 52)) := ⟨Touch.of al, rd.below al, o0, fun i hi => by simp at hi, hRl, ha⟩
  obtain ⟨i0, hi, hz0, hz1, hz2⟩ := info_parts Try.infoLns
  clear al o0 rd
  go_enter Try.func67, Try.ntmps67
  go_wp2_with fail
  refine (pick_any R a n cap bs p 4 _ j0.r (by omega) (by omega) (by omega) (by omega)).mono ?_
  rintro e wS ⟨rk, k0, k1, rfl, t5, R5⟩
  obtain ⟨rk, rfl⟩ := Int.eq_ofNat_of_zero_le k0
  replace j0 := j0.pick t5 R5
  clear t5 R5 k0
  go_wp2_with fail
  go_loopw [3, 4] (fun v i wr => ∃ (m : Nat) (ss : List L2V) (q : Int), i = .int .i64 m ∧ ss.length + m = rk + 1 ∧ JAs w R a n cap bs q v ss wr ∧ p ≤ q ∧ q + 80 * m ≤ p + 330) (fun _ i _ => (intOf i).toNat)
  case atStart => exact ⟨rk + 1, [], _, by go_num, by simp, j0, by omega, by omega⟩
  case round =>
    clear j0
    obtain ⟨m, ss, q, rfl, hlm, j, hq0, hq1⟩ := hrel
    by_cases hm : 0 < m
    · have hm' : (0 : Int) < (m : Int) := by omega
      obtain ⟨k, hk⟩ : ∃ k, k = ss.length := ⟨_, rfl⟩
      have HK : Hid (ss.length = k) := hk.symm
      have hlm' : k + m = rk + 1 := by omega
      obtain ⟨vad, vcap, rfl⟩ := own_slice j.o
      rw [← hk] at j
      rw [← hk]
      clear hk hlm
      have hvb := fun x hx => ((j.o.lt x hx).2 : x < wr.heap.size)
      go_wp2_with fail
      refine (act_f R a n cap bs q _ j.r (by omega) (by omega) j.r.ha).mono ?_
      rintro e w5 ⟨ad, N, c, ls, q5, rfl, d5, hN, hok, v0, v1⟩
      have hszL := j.t.size
      replace j := j.pick d5.t d5.r
      have sa := d5.act hN hok
      have hs5 := d5.t.size
      clear d5
      have al := (Below.refl w5.heap.size w5).alloc (Nat.le_refl _) (.cells #[.slice ad N c] 52)
      have SZ : ∀ i, i < ss.length → AcP (fun b => b < w5.heap.size) (w5.alloc (.cells #[.slice ad N c] 52)) (ss[i]?.getD noL) := fun i hi => ((j.ac i hi).mono (fun b hb => hb.2.1)).below al
      have ja := j.below al
      have hsa := (sa.below al).mono (P' := fun b => w.heap.size ≤ b ∧ b < w5.heap.size ∧ (Value.slice vad k vcap).ownBlock ≠ some b) (fun b hb => ⟨by omega, hb.2, fun e2 => by have := hvb b e2; omega⟩)
      have hszA := ja.t.size
      clear al j sa
      go_wp2_with (at_builtin; refine wpList_append_lies _ rfl (.tmp 13) (.tmp 16) 44 rfl w.heap.size 52 i0 _ 1 24 Try.underlying44 hi hz0 hz1 hz2 rfl (by omega) (.slice vad k vcap) k (ss.map L2V.v) (by rfl) (by have h := ja.o; rw [HK.out] at h; exact h) ⟨w5.heap.size, 0, none⟩ 1 1 [.slice ad N c] (by rfl) (by rfl) (World.news_of_block (cs := #[.slice ad N c]) (t := 52) (fr := (0, 0)) (heap_alloc_new w5 _)) (by simp [Value.oneCell']) (by omega) (by unfold maxLen; omega) (by omega) hszA (w5.heap.size + 1) (by rw [World.size_alloc]) ?_)
      intro g9 cp9 w9 hown hgrow hat _
      have jn := ja.app (s := ⟨ad, N, c, ls⟩) (H := w5.heap.size) HK.out hsa (by rw [World.size_alloc]; omega) SZ hown hgrow (by rcases hat with h | h; exact .inl h; exact .inr (by omega))
      clear hown hgrow ja hsa SZ
      go_wp2
      go_roundw
      case rel => exact ⟨m - 1, ss ++ [⟨ad, N, c, ls⟩], q5, by go_num, by rw [List.length_append, HK.out]; simp; omega, jn, by omega, by omega⟩
      case measure => simp [intOf]; omega
    · have hm' : ¬ (0 : Int) < (m : Int) := by omega
      obtain ⟨vad, vcap, rfl⟩ := own_slice j.o
      go_wp2
      go_ret
      exact ⟨vad, ss.length, vcap, rfl, by first | exact ⟨ss, ⟨q, j, by first | exact ⟨rfl, by omega, by omega, by omega, by omega⟩ | omega⟩⟩ | (refine ⟨ss, ?_⟩; simp; exact ⟨q, j, by omega⟩)⟩

end Go.Proofs.Ytemcinobgdphnaa
namespace Go.Proofs.Ytemcinobgdphnaa
open Go.RowKit
set_option linter.unusedVariables false
set_option maxRecDepth 100000

theorem flatL_set : ∀ (ls : List LV) (k r : Nat) (l' : LV) (u : Value), k < ls.length → r < 6 → l'.cs = (ls[k]?.getD noLV).cs.set r u → (ls.set k l').flatMap LV.cs = (ls.flatMap LV.cs).set (k * 6 + r) u := by
  intro ls
  induction ls with
  | nil => intro k r l' u hk; simp at hk
  | cons g gs ih =>
    intro k r l' u hk hr hc
    rcases k with _ | k
    · simp only [List.getElem?_cons_zero, Option.getD_some] at hc
      simp only [List.set_cons_zero, List.flatMap_cons, Nat.zero_mul, Nat.zero_add, hc]
      rw [List.set_append_left _ _ (by simp [LV.cs]; omega)]
    · simp only [List.getElem?_cons_succ] at hc
      simp only [List.set_cons_succ, List.flatMap_cons]
      rw [ih k r l' u (by simpa using hk) hr hc, List.set_append_right _ _ (by simp [LV.cs]; omega)]
      have e : (k + 1) * 6 + r - g.cs.length = k * 6 + r := by simp [LV.cs]; omega
      rw [e]
theorem two_lv {P : LV → Prop} {l m : LV} (h0 : P l) (h1 : P m) : ∀ i, i < [l, m].length → P ([l, m][i]?.getD noLV) := fun i hi => by
  rcases i with _ | _ | i
  · exact h0
  · exact h1
  · simp only [List.length_cons, List.length_nil] at hi; omega
/-- How long a slice is. -/
def lenOf : Value → Nat
  | .slice _ n _ => n
  | _ => 0
theorem getD_set {ls : List LV} {k i : Nat} {l' : LV} (hk : k < ls.length) : (ls.set k l')[i]?.getD noLV = if i = k then l' else ls[i]?.getD noLV := by
  by_cases h : i = k
  · subst h; rw [if_pos rfl, List.getElem?_set_self hk]; rfl
  · rw [if_neg h, List.getElem?_set_ne (fun e => h e.symm)]
section
variable {wL W W' : World} {R : Nat} {a : Option Addr} {n cap : Nat} {bs : List Int} {q : Int} {v : Value} {ls : List LV}
/-- A number of a line is changed. -/
theorem JL.set {g N c k r : Nat} {l' : LV} {u : Value} (j : JL wL R a n cap bs q (.slice (some ⟨g, 0, none⟩) N c) ls W) (hN : ls.length = N) (hk : k < ls.length) (hr : r < 6) (hc : l'.cs = (ls[k]?.getD noLV).cs.set r u) (h1 : u.oneCell' = true)
    (hat : l'.f.At W) (ha : ∀ b o, l'.f.a = some ⟨b, o, none⟩ → wL.heap.size ≤ b ∧ b < W.heap.size ∧ g ≠ b) (hcc : ∀ b o, l'.f.c = some ⟨b, o, none⟩ → wL.heap.size ≤ b ∧ b < W.heap.size ∧ g ≠ b) : JL wL R a n cap bs q (.slice (some ⟨g, 0, none⟩) N c) (ls.set k l') (W.setCell ⟨g, k * 6 + r, none⟩ u) := by
  have hg := j.o.lt g rfl
  have lR := j.lR
  have T : Touch (fun x => x = g) W (W.setCell ⟨g, k * 6 + r, none⟩ u) := Touch.setCell (S := fun x => x = g) (Touch.refl _ _) rfl _
  have o := j.o
  rw [hN] at o
  have hs : (W.setCell ⟨g, k * 6 + r, none⟩ u).heap.size = W.heap.size := size_setCell _ _ _
  have nb : ∀ i, i < ls.length → ∀ b o, (ls[i]?.getD noLV).f.a = some ⟨b, o, none⟩ → ¬ b = g := fun i hi b o e h => (j.na i hi b o e).2.2 (by rw [h]; rfl)
  have nb2 : ∀ i, i < ls.length → ∀ b o, (ls[i]?.getD noLV).f.c = some ⟨b, o, none⟩ → ¬ b = g := fun i hi b o e h => (j.nc i hi b o e).2.2 (by rw [h]; rfl)
  refine ⟨j.t.setNewF hg.1 _ _, j.r.touch T (by omega) (fun h0 b o e h => by have := j.lb h0 b o e; omega), ?_, fun i hi => ?_, fun i hi b o e => ?_, fun i hi b o e => ?_, j.lR, j.lb⟩
  · rw [List.length_set, hN, flatL_set ls k r l' u hk hr hc]
    exact (World.ownsRow.stored o (k * 6 + r) u).1
  · rw [List.length_set] at hi
    rw [getD_set hk]
    by_cases h : i = k
    · rw [if_pos h]; exact hat.off T (fun b o e h2 => (ha b o e).2.2 h2.symm) (fun b o e h2 => (hcc b o e).2.2 h2.symm)
    · rw [if_neg h]; exact (j.at' i hi).off T (nb i hi) (nb2 i hi)
  · rw [List.length_set] at hi
    rw [getD_set hk] at e
    by_cases h : i = k
    · rw [if_pos h] at e; have h3 := ha b o e; exact ⟨h3.1, by omega, fun e2 => h3.2.2 (by simpa [Value.ownBlock] using e2)⟩
    · rw [if_neg h] at e; have h3 := j.na i hi b o e; exact ⟨h3.1, by omega, h3.2.2⟩
  · rw [List.length_set] at hi
    rw [getD_set hk] at e
    by_cases h : i = k
    · rw [if_pos h] at e; have h3 := hcc b o e; exact ⟨h3.1, by omega, fun e2 => h3.2.2 (by simpa [Value.ownBlock] using e2)⟩
    · rw [if_neg h] at e; have h3 := j.nc i hi b o e; exact ⟨h3.1, by omega, h3.2.2⟩
/-- Lines are put behind the others. -/
theorem JL.apps {ns : List LV} {g c k m : Nat} {H : Nat} (j : JL wL R a n cap bs q v ls W) (hk : ls.length = k) (hm : ns.length = m) (hl : ∀ i, i < ns.length → (ns[i]?.getD noLV).f.At W) (la : ∀ i, i < ns.length → ∀ b o, (ns[i]?.getD noLV).f.a = some ⟨b, o, none⟩ → wL.heap.size ≤ b ∧ b < H ∧ v.ownBlock ≠ some b) (lc : ∀ i, i < ns.length → ∀ b o, (ns[i]?.getD noLV).f.c = some ⟨b, o, none⟩ → wL.heap.size ≤ b ∧ b < H ∧ v.ownBlock ≠ some b) (hH : H ≤ W.heap.size) (hsz : ∀ i, i < ls.length → (∀ b o, (ls[i]?.getD noLV).f.a = some ⟨b, o, none⟩ → b < H) ∧ (∀ b o, (ls[i]?.getD noLV).f.c = some ⟨b, o, none⟩ → b < H))
    (hown : W'.ownsRow wL.heap.size 51 6 (.slice (some ⟨g, 0, none⟩) (k + m) c) (k + m) (ls.flatMap LV.cs ++ ns.flatMap LV.cs)) (hg : W.grownBy W' v.ownBlock) (hat : v.ownBlock = some g ∨ H ≤ g) : JL wL R a n cap bs q (.slice (some ⟨g, 0, none⟩) (k + m) c) (ls ++ ns) W' := by
  have hr : ∀ x, v.ownBlock = some x → wL.heap.size ≤ x := fun x hx => (j.o.lt x hx).1
  have lR := j.lR
  have T : Touch (fun x => v.ownBlock = some x) W W' := ⟨hg.os, hg.tape, hg.output, hg.size, fun x hx hs => hg.block x hx (fun e => hs e.symm)⟩
  have hn : ∀ b, v.ownBlock ≠ some b → b < H → (Value.slice (some ⟨g, 0, none⟩) (k + m) c).ownBlock ≠ some b := fun b h1 h2 e => by
    simp only [Value.ownBlock, Option.some.injEq] at e
    rcases hat with h | h
    · rw [h] at h1; exact h1 (by rw [e])
    · omega
  have key : ∀ i, i < (ls ++ ns).length → (i < ls.length ∧ (ls ++ ns)[i]?.getD noLV = ls[i]?.getD noLV) ∨ (i - ls.length < ns.length ∧ (ls ++ ns)[i]?.getD noLV = ns[i - ls.length]?.getD noLV) := fun i hi => by
    by_cases h : i < ls.length
    · left; exact ⟨h, by rw [List.getElem?_append_left h]⟩
    · right
      rw [List.length_append] at hi
      exact ⟨by omega, by rw [List.getElem?_append_right (by omega)]⟩
  have hs := hg.size
  refine ⟨j.t.grown hg hr, j.r.touch T (fun e => by have := hr _ e; omega) (fun h0 b o hab e => by have := j.lb h0 b o hab; have := hr _ e; omega), ?_, fun i hi => ?_, fun i hi b o e => ?_, fun i hi b o e => ?_, j.lR, j.lb⟩
  · rw [List.length_append, hk, hm, List.flatMap_append]
    exact hown
  · rcases key i hi with ⟨h, e⟩ | ⟨h, e⟩
    · rw [e]; exact (j.at' i h).off T (fun b o e h' => (j.na i h b o e).2.2 h') (fun b o e h' => (j.nc i h b o e).2.2 h')
    · rw [e]; exact (hl _ h).off T (fun b o e h' => (la _ h b o e).2.2 h') (fun b o e h' => (lc _ h b o e).2.2 h')
  · rcases key i hi with ⟨h, e'⟩ | ⟨h, e'⟩
    · rw [e'] at e; have h3 := j.na i h b o e; exact ⟨h3.1, by omega, hn b h3.2.2 ((hsz i h).1 b o e)⟩
    · rw [e'] at e; have h3 := la _ h b o e; exact ⟨h3.1, by omega, hn b h3.2.2 h3.2.1⟩
  · rcases key i hi with ⟨h, e'⟩ | ⟨h, e'⟩
    · rw [e'] at e; have h3 := j.nc i h b o e; exact ⟨h3.1, by omega, hn b h3.2.2 ((hsz i h).2 b o e)⟩
    · rw [e'] at e; have h3 := lc _ h b o e; exact ⟨h3.1, by omega, hn b h3.2.2 h3.2.1⟩
end

set_option maxHeartbeats 6400000 in
theorem any_f (R : Nat) (a : Option Addr) (n cap : Nat) (bs : List Int) (p M : Int) (w : World) (rd : Rd w R a n cap bs p) (hp : 0 ≤ p) (hp1 : p ≤ 7000000) (hM : 1 ≤ M) (hM1 : M ≤ 1000) (ha : 0 < n → ∀ b o, a = some ⟨b, o, none⟩ → b < w.heap.size) :
    Calls Try.prog 68 #[.pointer (some ⟨R, 0, none⟩), .int .i64 M] w fun e w' => ∃ ad N c ls q, e = .returned (.slice ad N c) ∧ JL w R a n cap bs q (.slice ad N c) ls w' ∧ ls.length = N ∧ N ≤ 8 ∧ p ≤ q ∧ q ≤ p + 120 := by
  have hRl := rd.c.lt
  obtain ⟨i0, hi, hz0, hz1, hz2⟩ := info_parts Try.infoLn
  go_enter Try.func68, Try.ntmps68
  go_wp2_with fail
  refine (act_f R a n cap bs p _ rd hp (by omega) ha).mono ?_
  rintro e w1 ⟨ad, N, c, ls, q, rfl, j, hN, hok, q0, q1⟩
  have HN : Hid (ls.length = N) := hN
  have hN6 : N ≤ 6 := by unfold actB at hok; simp only [Bool.and_eq_true, decide_eq_true_eq] at hok; omega
  clear hN hok rd
  by_cases h0 : N = 0
  · subst h0
    go_wp2
    go_ret
    exact ⟨_, 0, _, ls, q, rfl, j, HN.out, by omega, by omega, by omega⟩
  have h0' : ((N : Int) == 0) = false := by simp; omega
  have hNp : 0 < N := by omega
  obtain ⟨g, rfl⟩ : ∃ g, ad = some ⟨g, 0, none⟩ := by
    rcases j.o.2 with ⟨_, h⟩ | ⟨g, cap', cur, hv, _⟩
    · rw [HN.out] at h; omega
    · simp only [Value.slice.injEq] at hv
      exact ⟨g, hv.1⟩
  go_wp2_with fail
  refine (pick_any R a n cap bs (q) M _ j.r (by omega) (by omega) (by omega) (by omega)).mono ?_
  rintro e w2 ⟨ru, hu0, hu1, rfl, t5, R5⟩
  obtain ⟨u, rfl⟩ := Int.eq_ofNat_of_zero_le hu0
  replace j := j.pick t5 R5
  clear t5 R5 hu0
  by_cases hu : 0 < u
  · have hu' : (0 : Int) < (u : Int) := by omega
    go_wp2
    go_ret
    exact ⟨_, N, c, ls, _, rfl, j, HN.out, by omega, by omega, by omega⟩
  have hu' : ¬ (0 : Int) < (u : Int) := by omega
  go_wp2_with fail
  refine (pick_any R a n cap bs (q + 1) (N : Int) _ j.r (by omega) (by omega) (by omega) (by omega)).mono ?_
  rintro e w4 ⟨rk, hk0, hk1, rfl, t5, R5⟩
  obtain ⟨k, rfl⟩ := Int.eq_ofNat_of_zero_le hk0
  replace j := j.pick t5 R5
  clear t5 R5 hk0
  have hkN : k < N := by omega
  have hkN' : (k : Int) < (N : Int) := by omega
  go_wp2_with fail
  refine (pick_any R a n cap bs (q + 1 + 1) 6 _ j.r (by omega) (by omega) (by omega) (by omega)).mono ?_
  rintro e w5 ⟨rs, hs0, hs1, rfl, t5, R5⟩
  obtain ⟨s, rfl⟩ := Int.eq_ofNat_of_zero_le hs0
  replace j := j.pick t5 R5
  clear t5 R5 hs0
  rcases (show s = 0 ∨ s = 1 ∨ s = 2 ∨ s = 3 ∨ s = 4 ∨ s = 5 from by omega) with rfl | rfl | rfl | rfl | rfl | rfl
  · have al := (Below.refl w5.heap.size w5).alloc (Nat.le_refl _) (.cells #[.int .i64 0, .int .i64 5, .int .i64 4, .int .i64 1] 3)
    have lb := Cel.new w5 [.int .i64 0, .int .i64 5, .int .i64 4, .int .i64 1] 3
    have hsz := j.t.size
    have nl : w5.heap.size ≠ R := by have := j.lR; omega
    replace j := j.below al
    clear al
    go_wp2_with fail
    refine (pick_any R a n cap bs (q + 1 + 1 + 1) 4 _ j.r (by omega) (by omega) (by omega) (by omega)).mono ?_
    rintro e w6 ⟨ri, hi0, hi1, rfl, t5, R5⟩
    obtain ⟨i, rfl⟩ := Int.eq_ofNat_of_zero_le hi0
    replace j := j.pick t5 R5
    replace lb := lb.touch t5 nl
    clear t5 R5 hi0
    have hi' : (i : Int) < 4 := by omega
    have hc := lit_cell (xs := [0, 5, 4, 1]) lb (j := i) (by simp only [List.length_cons, List.length_nil]; omega)
    generalize ([0, 5, 4, 1] : List Int)[i]?.getD 0 = y at hc
    clear lb
    have o := j.o
    rw [HN.out] at o
    have cc := o.cellAt (k * 6 + 0) (by omega)
    rw [flatL_at ls k (by rw [HN.out]; exact hkN) 0 (by omega)] at cc
    have cc' : w6.cell? ⟨g, k * 6 + 0, none⟩ = some (.int .i64 (ls[k]?.getD noLV).kind) := cc
    have ff : w6.frozen? ⟨g, k * 6 + 0, none⟩ = false := o.frozenAt _
    clear cc o
    rw [Nat.add_zero] at cc' ff
    obtain ⟨l, hl⟩ : ∃ l, l = ls[k]?.getD noLV := ⟨_, rfl⟩
    have j' := j.set (k := k) (r := 0) (l' := ⟨y, l.pot, l.skip, l.f⟩) (u := .int .i64 y) HN.out (by rw [HN.out]; exact hkN) (by omega) (by rw [← hl]; rfl) rfl (by rw [hl]; exact j.at' k (by rw [HN.out]; exact hkN)) (fun b o e => by (have h := j.na k (by rw [HN.out]; exact hkN) b o (by rw [← hl]; exact e); exact ⟨h.1, h.2.1, fun e2 => h.2.2 (by rw [e2]; rfl)⟩)) (fun b o e => by (have h := j.nc k (by rw [HN.out]; exact hkN) b o (by rw [← hl]; exact e); exact ⟨h.1, h.2.1, fun e2 => h.2.2 (by rw [e2]; rfl)⟩))
    clear j hl
    rw [Nat.add_zero] at j'
    go_wp2
    go_ret
    exact ⟨_, N, c, _, _, rfl, j', by rw [List.length_set]; exact HN.out, by omega, by omega, by omega⟩
  · have al := (Below.refl w5.heap.size w5).alloc (Nat.le_refl _) (.cells #[.int .i64 (-1), .int .i64 3, .int .i64 2] 3)
    have lb := Cel.new w5 [.int .i64 (-1), .int .i64 3, .int .i64 2] 3
    have hsz := j.t.size
    have nl : w5.heap.size ≠ R := by have := j.lR; omega
    replace j := j.below al
    clear al
    go_wp2_with fail
    refine (pick_any R a n cap bs (q + 1 + 1 + 1) 3 _ j.r (by omega) (by omega) (by omega) (by omega)).mono ?_
    rintro e w6 ⟨ri, hi0, hi1, rfl, t5, R5⟩
    obtain ⟨i, rfl⟩ := Int.eq_ofNat_of_zero_le hi0
    replace j := j.pick t5 R5
    replace lb := lb.touch t5 nl
    clear t5 R5 hi0
    have hi' : (i : Int) < 3 := by omega
    have hc := lit_cell (xs := [-1, 3, 2]) lb (j := i) (by simp only [List.length_cons, List.length_nil]; omega)
    generalize ([-1, 3, 2] : List Int)[i]?.getD 0 = y at hc
    clear lb
    have o := j.o
    rw [HN.out] at o
    have cc := o.cellAt (k * 6 + 1) (by omega)
    rw [flatL_at ls k (by rw [HN.out]; exact hkN) 1 (by omega)] at cc
    have cc' : w6.cell? ⟨g, k * 6 + 1, none⟩ = some (.int .i64 (ls[k]?.getD noLV).pot) := cc
    have ff : w6.frozen? ⟨g, k * 6 + 1, none⟩ = false := o.frozenAt _
    clear cc o
    obtain ⟨l, hl⟩ : ∃ l, l = ls[k]?.getD noLV := ⟨_, rfl⟩
    have j' := j.set (k := k) (r := 1) (l' := ⟨l.kind, y, l.skip, l.f⟩) (u := .int .i64 y) HN.out (by rw [HN.out]; exact hkN) (by omega) (by rw [← hl]; rfl) rfl (by rw [hl]; exact j.at' k (by rw [HN.out]; exact hkN)) (fun b o e => by (have h := j.na k (by rw [HN.out]; exact hkN) b o (by rw [← hl]; exact e); exact ⟨h.1, h.2.1, fun e2 => h.2.2 (by rw [e2]; rfl)⟩)) (fun b o e => by (have h := j.nc k (by rw [HN.out]; exact hkN) b o (by rw [← hl]; exact e); exact ⟨h.1, h.2.1, fun e2 => h.2.2 (by rw [e2]; rfl)⟩))
    clear j hl
    go_wp2
    go_ret
    exact ⟨_, N, c, _, _, rfl, j', by rw [List.length_set]; exact HN.out, by omega, by omega, by omega⟩
  · have al := (Below.refl w5.heap.size w5).alloc (Nat.le_refl _) (.cells #[.int .i64 0, .int .i64 (-1), .int .i64 7, .int .i64 6] 3)
    have lb := Cel.new w5 [.int .i64 0, .int .i64 (-1), .int .i64 7, .int .i64 6] 3
    have hsz := j.t.size
    have nl : w5.heap.size ≠ R := by have := j.lR; omega
    replace j := j.below al
    clear al
    go_wp2_with fail
    refine (pick_any R a n cap bs (q + 1 + 1 + 1) 4 _ j.r (by omega) (by omega) (by omega) (by omega)).mono ?_
    rintro e w6 ⟨ri, hi0, hi1, rfl, t5, R5⟩
    obtain ⟨i, rfl⟩ := Int.eq_ofNat_of_zero_le hi0
    replace j := j.pick t5 R5
    replace lb := lb.touch t5 nl
    clear t5 R5 hi0
    have hi' : (i : Int) < 4 := by omega
    have hc := lit_cell (xs := [0, -1, 7, 6]) lb (j := i) (by simp only [List.length_cons, List.length_nil]; omega)
    generalize ([0, -1, 7, 6] : List Int)[i]?.getD 0 = y at hc
    clear lb
    have o := j.o
    rw [HN.out] at o
    have cc := o.cellAt (k * 6 + 2) (by omega)
    rw [flatL_at ls k (by rw [HN.out]; exact hkN) 2 (by omega)] at cc
    have cc' : w6.cell? ⟨g, k * 6 + 2, none⟩ = some (.int .i64 (ls[k]?.getD noLV).skip) := cc
    have ff : w6.frozen? ⟨g, k * 6 + 2, none⟩ = false := o.frozenAt _
    clear cc o
    obtain ⟨l, hl⟩ : ∃ l, l = ls[k]?.getD noLV := ⟨_, rfl⟩
    have j' := j.set (k := k) (r := 2) (l' := ⟨l.kind, l.pot, y, l.f⟩) (u := .int .i64 y) HN.out (by rw [HN.out]; exact hkN) (by omega) (by rw [← hl]; rfl) rfl (by rw [hl]; exact j.at' k (by rw [HN.out]; exact hkN)) (fun b o e => by (have h := j.na k (by rw [HN.out]; exact hkN) b o (by rw [← hl]; exact e); exact ⟨h.1, h.2.1, fun e2 => h.2.2 (by rw [e2]; rfl)⟩)) (fun b o e => by (have h := j.nc k (by rw [HN.out]; exact hkN) b o (by rw [← hl]; exact e); exact ⟨h.1, h.2.1, fun e2 => h.2.2 (by rw [e2]; rfl)⟩))
    clear j hl
    go_wp2
    go_ret
    exact ⟨_, N, c, _, _, rfl, j', by rw [List.length_set]; exact HN.out, by omega, by omega, by omega⟩
  · go_wp2_with fail
    refine (form_f R a n cap bs (q + 1 + 1 + 1) 2 _ j.r (by omega) (by omega) (by omega) (by omega) j.r.ha).mono ?_
    rintro e w6 ⟨B1, nC, cC, B2, nD, cD, K, LC, LD, q6, rfl, fm⟩
    have hsz5 := (j.o.lt g rfl).2
    have hszL := j.t.size
    replace j := j.pick fm.t fm.r
    have y0 := fm.q0
    have y1 := fm.q1
    have z1 := fm.b1
    have z2 := fm.b2
    have GF := fm.fa K
    have s1 := GF.C.blk fm.c1
    have s2 := GF.D.blk fm.d1
    clear fm
    have o := j.o
    rw [HN.out] at o
    obtain ⟨l, hl⟩ : ∃ l, l = ls[k]?.getD noLV := ⟨_, rfl⟩
    have hkl : k < ls.length := by rw [HN.out]; exact hkN
    have d3 := o.cellAt (k * 6 + 3) (by omega)
    rw [flatL_at ls k hkl 3 (by omega), ← hl] at d3
    have e3 : w6.cell? ⟨g, k * 6 + 3, none⟩ = some (.slice l.f.a l.f.n l.f.cap) := d3
    have f3 : w6.frozen? ⟨g, k * 6 + 3, none⟩ = false := o.frozenAt _
    have d4 := o.cellAt (k * 6 + 4) (by omega)
    rw [flatL_at ls k hkl 4 (by omega), ← hl] at d4
    have e4 : w6.cell? ⟨g, k * 6 + 4, none⟩ = some (.slice l.f.c l.f.m l.f.cap') := d4
    have f4 : w6.frozen? ⟨g, k * 6 + 4, none⟩ = false := o.frozenAt _
    have d5 := o.cellAt (k * 6 + 5) (by omega)
    rw [flatL_at ls k hkl 5 (by omega), ← hl] at d5
    have e5 : w6.cell? ⟨g, k * 6 + 5, none⟩ = some (.int .i64 l.f.K) := d5
    have f5 : w6.frozen? ⟨g, k * 6 + 5, none⟩ = false := o.frozenAt _
    clear d3 d4 d5 o
    have hat := j.at' k hkl
    rw [← hl] at hat
    have hna := j.na k hkl
    have hnc := j.nc k hkl
    rw [← hl] at hna hnc
    have fa1 : ∀ b o, (some ⟨B1, 0, none⟩ : Option Addr) = some ⟨b, o, none⟩ → w.heap.size ≤ b ∧ b < w6.heap.size ∧ g ≠ b := fun b o e => by (simp only [Option.some.injEq, Addr.mk.injEq] at e; exact ⟨by omega, by omega, by omega⟩)
    have fa2 : ∀ b o, (some ⟨B2, 0, none⟩ : Option Addr) = some ⟨b, o, none⟩ → w.heap.size ≤ b ∧ b < w6.heap.size ∧ g ≠ b := fun b o e => by (simp only [Option.some.injEq, Addr.mk.injEq] at e; exact ⟨by omega, by omega, by omega⟩)
    have fo2 : ∀ b o, l.f.c = some ⟨b, o, none⟩ → w.heap.size ≤ b ∧ b < w6.heap.size ∧ g ≠ b := fun b o e => ⟨(hnc b o e).1, (hnc b o e).2.1, fun e2 => (hnc b o e).2.2 (by rw [e2]; rfl)⟩
    have j1 := j.set (k := k) (r := 3) (l' := ⟨l.kind, l.pot, l.skip, ⟨some ⟨B1, 0, none⟩, nC, cC, l.f.c, l.f.m, l.f.cap', l.f.K, LC, l.f.D⟩⟩) (u := .slice (some ⟨B1, 0, none⟩) nC cC) HN.out hkl (by omega) (by rw [← hl]; rfl) rfl ⟨GF.C, hat.D, GF.hn, hat.hm⟩ fa1 fo2
    have sz1 : (w6.setCell ⟨g, k * 6 + 3, none⟩ (.slice (some ⟨B1, 0, none⟩) nC cC)).heap.size = w6.heap.size := size_setCell _ _ _
    have T1 : Touch (fun x => x = g) w6 (w6.setCell ⟨g, k * 6 + 3, none⟩ (.slice (some ⟨B1, 0, none⟩) nC cC)) := Touch.setCell (S := fun x => x = g) (Touch.refl _ _) rfl _
    have GF1 := GF.off T1 (fun b o e h => (fa1 b o e).2.2 h.symm) (fun b o e h => (fa2 b o e).2.2 h.symm)
    have j2 := j1.set (k := k) (r := 4) (l' := ⟨l.kind, l.pot, l.skip, ⟨some ⟨B1, 0, none⟩, nC, cC, some ⟨B2, 0, none⟩, nD, cD, l.f.K, LC, LD⟩⟩) (u := .slice (some ⟨B2, 0, none⟩) nD cD) (by rw [List.length_set]; exact HN.out) (by rw [List.length_set]; exact hkl) (by omega) (by rw [getD_set hkl, if_pos rfl]; rfl) rfl ⟨GF1.C, GF1.D, GF1.hn, GF1.hm⟩ (by rw [sz1]; exact fa1) (by rw [sz1]; exact fa2)
    have sz2 : ((w6.setCell ⟨g, k * 6 + 3, none⟩ (.slice (some ⟨B1, 0, none⟩) nC cC)).setCell ⟨g, k * 6 + 4, none⟩ (.slice (some ⟨B2, 0, none⟩) nD cD)).heap.size = w6.heap.size := by rw [size_setCell]; exact sz1
    have T2 : Touch (fun x => x = g) w6 ((w6.setCell ⟨g, k * 6 + 3, none⟩ (.slice (some ⟨B1, 0, none⟩) nC cC)).setCell ⟨g, k * 6 + 4, none⟩ (.slice (some ⟨B2, 0, none⟩) nD cD)) := Touch.setCell (S := fun x => x = g) T1 rfl _
    have GF2 := GF.off T2 (fun b o e h => (fa1 b o e).2.2 h.symm) (fun b o e h => (fa2 b o e).2.2 h.symm)
    have hk2 : k < (ls.set k ⟨l.kind, l.pot, l.skip, ⟨some ⟨B1, 0, none⟩, nC, cC, l.f.c, l.f.m, l.f.cap', l.f.K, LC, l.f.D⟩⟩).length := by rw [List.length_set]; exact hkl
    have j3 := j2.set (k := k) (r := 5) (l' := ⟨l.kind, l.pot, l.skip, ⟨some ⟨B1, 0, none⟩, nC, cC, some ⟨B2, 0, none⟩, nD, cD, K, LC, LD⟩⟩) (u := .int .i64 K) (by rw [List.length_set, List.length_set]; exact HN.out) (by rw [List.length_set]; exact hk2) (by omega) (by rw [getD_set hk2, if_pos rfl]; rfl) rfl ⟨GF2.C, GF2.D, GF2.hn, GF2.hm⟩ (by rw [sz2]; exact fa1) (by rw [sz2]; exact fa2)
    clear j j1 j2 GF GF1 GF2 T1 T2 hl hat hna hnc
    go_wp2
    go_ret
    exact ⟨_, N, c, _, _, rfl, j3, by rw [List.length_set, List.length_set, List.length_set]; exact HN.out, by omega, by omega, by omega⟩
  · have HKN : Hid (k < N) := hkN
    go_wp2_with fail
    go_loopw [5] (fun v wr => ∃ (g' N' c' : Nat) (ls' : List LV) (q' : Int), v = .slice (some ⟨g', 0, none⟩) N' c' ∧ N ≤ N' ∧ N' ≤ 7 ∧ ls'.length = N' ∧ q' = q + 1 + 1 + 1 ∧ JL w R a n cap bs q' v ls' wr) (fun v _ => 8 - (lenOf v))
    case atStart => exact ⟨g, N, c, ls, _, rfl, by omega, by omega, HN.out, rfl, j⟩
    case round =>
      clear j
      obtain ⟨g', N', c', ls', q', rfl, hNN, hN7, hL, hq', j⟩ := hrel
      have HL : Hid (ls'.length = N') := hL
      clear hL
      by_cases h7 : N' ≤ 6
      · have h7' : (N' : Int) ≤ 6 := by omega
        have hkN2 : (k : Int) < (N' : Int) := by omega
        have hkl : k < ls'.length := by rw [HL.out]; omega
        obtain ⟨b', o', e', hc, hat⟩ := j.g HL.out k hkl
        simp only [Option.some.injEq, Addr.mk.injEq, and_true] at e'
        obtain ⟨rfl, rfl⟩ := e'
        obtain ⟨l, hl⟩ : ∃ l, l = ls'[k]?.getD noLV := ⟨_, rfl⟩
        rw [← hl] at hc hat
        have hna := j.na k hkl
        have hnc := j.nc k hkl
        rw [← hl] at hna hnc
        clear hl
        obtain ⟨x0, x1, x2, x3, x4, x5⟩ := six_of hc
        simp only [Nat.zero_add] at x0 x1 x2 x3 x4 x5
        clear hc
        have SZ : ∀ i, i < ls'.length → (∀ b o, (ls'[i]?.getD noLV).f.a = some ⟨b, o, none⟩ → b < wr.heap.size) ∧ (∀ b o, (ls'[i]?.getD noLV).f.c = some ⟨b, o, none⟩ → b < wr.heap.size) := fun i hi => ⟨fun b o e => (j.na i hi b o e).2.1, fun b o e => (j.nc i hi b o e).2.1⟩
        have al := (Below.refl wr.heap.size wr).alloc (Nat.le_refl _) (.cells #[.int .i64 l.kind, .int .i64 l.pot, .int .i64 l.skip, .slice l.f.a l.f.n l.f.cap, .slice l.f.c l.f.m l.f.cap', .int .i64 l.f.K] 51)
        have ja := j.below al
        have hla := hat.below al
        have hszA := ja.t.size
        clear al j hat
        go_wp2_with (at_builtin; refine wpList_append_lies _ rfl (.tmp 80) (.tmp 85) 52 rfl w.heap.size 51 i0 _ 6 80 Try.underlying52 hi hz0 hz1 hz2 rfl (by omega) (.slice (some ⟨g', 0, none⟩) N' c') N' (ls'.flatMap LV.cs) (by rfl) (by have h := ja.o; rw [HL.out] at h; exact h) ⟨wr.heap.size, 0, none⟩ 1 1 l.cs (by rfl) (by rfl) (World.news_of_block (cs := #[.int .i64 l.kind, .int .i64 l.pot, .int .i64 l.skip, .slice l.f.a l.f.n l.f.cap, .slice l.f.c l.f.m l.f.cap', .int .i64 l.f.K]) (t := 51) (fr := (0, 0)) (heap_alloc_new wr _)) (by have h := flatL_one [l]; simpa using h) (by omega) (by unfold maxLen; omega) (by omega) hszA (wr.heap.size + 1) (by rw [World.size_alloc]) ?_)
        intro g9 cp9 w9 hown hgrow hat9 _
        have jn := ja.app (H := wr.heap.size) HL.out hla hna hnc (by rw [World.size_alloc]; omega) SZ hown hgrow (by rcases hat9 with h | h; exact .inl h; exact .inr (by omega))
        clear hown hgrow ja hla x0 x1 x2 x3 x4 x5 hna hnc SZ
        go_wp2
        go_roundw
        case rel => exact ⟨g9, N' + 1, cp9, ls' ++ [l], _, rfl, by omega, by omega, by rw [List.length_append, HL.out]; rfl, hq', jn⟩
        case measure => simp [lenOf]; omega
      · have h7' : ¬ (N' : Int) ≤ 6 := by omega
        go_wp2
        go_ret
        exact ⟨_, N', c', rfl, by first | exact ⟨ls', ⟨q', j, by first | exact ⟨HL.out, by omega, by omega, by omega⟩ | omega⟩⟩ | (refine ⟨ls', ?_⟩; simp [HL.out]; exact ⟨q', j, by omega⟩) | (refine ⟨ls', ⟨q', j, ?_⟩, HL.out, ?_⟩ <;> omega)⟩
  · have hgW := (j.o.lt g rfl).2
    have hlo := j.t.size
    have hRR := j.lR
    go_wp2_with fail
    refine (small_f R a n cap bs (q + 1 + 1 + 1) _ j.r (by omega) (by omega) j.r.ha).mono ?_
    rintro e w6 ⟨BA, DA, LCA, LDA, KA, rfl, t5, R5, f5, _, _, _, _⟩
    have zA1 := f5.b1
    have zA2 := f5.b2
    have lA1 := f5.k1.lt
    have lA2 := f5.k2.lt
    have sA := t5.size
    have GA : FA w6 (some ⟨BA, 0, none⟩) 3 (some ⟨DA, 0, none⟩) 2 (LCA, LDA, KA) := ⟨f5.k1.ints' f5.l1, f5.k2.ints' f5.l2, by omega, by omega⟩
    replace j := j.pick t5 R5
    clear t5 R5 f5
    go_wp2_with fail
    refine (small_f R a n cap bs (q + 1 + 1 + 1 + 6) _ j.r (by omega) (by omega) j.r.ha).mono ?_
    rintro e w7 ⟨BE, DE, LCE, LDE, KE, rfl, t5, R5, f5, _, _, _, _⟩
    have zE1 := f5.b1
    have zE2 := f5.b2
    have lE1 := f5.k1.lt
    have lE2 := f5.k2.lt
    have sE := t5.size
    have GE : FA w7 (some ⟨BE, 0, none⟩) 3 (some ⟨DE, 0, none⟩) 2 (LCE, LDE, KE) := ⟨f5.k1.ints' f5.l1, f5.k2.ints' f5.l2, by omega, by omega⟩
    replace GA := GA.far t5 (lo := w5.heap.size) (fun k hk => by omega) zA1 zA2
    replace j := j.pick t5 R5
    clear t5 R5 f5
    have SZ : ∀ i, i < ls.length → (∀ b o, (ls[i]?.getD noLV).f.a = some ⟨b, o, none⟩ → b < w7.heap.size) ∧ (∀ b o, (ls[i]?.getD noLV).f.c = some ⟨b, o, none⟩ → b < w7.heap.size) := fun i hi => ⟨fun b o e => (j.na i hi b o e).2.1, fun b o e => (j.nc i hi b o e).2.1⟩
    have al := (Below.refl w7.heap.size w7).alloc (Nat.le_refl _) (.cells #[.int .i64 1, .int .i64 0, .int .i64 1, .slice (some ⟨BA, 0, none⟩) 3 3, .slice (some ⟨DA, 0, none⟩) 2 2, .int .i64 KA, .int .i64 1, .int .i64 0, .int .i64 1, .slice (some ⟨BE, 0, none⟩) 3 3, .slice (some ⟨DE, 0, none⟩) 2 2, .int .i64 KE] 51)
    have ja := j.below al
    replace GA := GA.below al
    replace GE := GE.below al
    have hszA := ja.t.size
    clear al j
    go_wp2_with (at_builtin; refine wpList_append_lies _ rfl (.tmp 25) (.tmp 32) 52 rfl w.heap.size 51 i0 _ 6 80 Try.underlying52 hi hz0 hz1 hz2 rfl (by omega) (.slice (some ⟨g, 0, none⟩) N c) N (ls.flatMap LV.cs) (by rfl) (by have h := ja.o; rw [HN.out] at h; exact h) ⟨w7.heap.size, 0, none⟩ 2 2 [.int .i64 1, .int .i64 0, .int .i64 1, .slice (some ⟨BA, 0, none⟩) 3 3, .slice (some ⟨DA, 0, none⟩) 2 2, .int .i64 KA, .int .i64 1, .int .i64 0, .int .i64 1, .slice (some ⟨BE, 0, none⟩) 3 3, .slice (some ⟨DE, 0, none⟩) 2 2, .int .i64 KE] (by rfl) (by rfl) (World.news_of_block (cs := #[.int .i64 1, .int .i64 0, .int .i64 1, .slice (some ⟨BA, 0, none⟩) 3 3, .slice (some ⟨DA, 0, none⟩) 2 2, .int .i64 KA, .int .i64 1, .int .i64 0, .int .i64 1, .slice (some ⟨BE, 0, none⟩) 3 3, .slice (some ⟨DE, 0, none⟩) 2 2, .int .i64 KE]) (t := 51) (fr := (0, 0)) (heap_alloc_new w7 _)) (by simp [Value.oneCell']) (by omega) (by unfold maxLen; omega) (by omega) hszA (w7.heap.size + 1) (by rw [World.size_alloc]) ?_)
    intro g9 cp9 w9 hown hgrow hat9 _
    have jn := ja.apps (ns := [⟨1, 0, 1, ⟨some ⟨BA, 0, none⟩, 3, 3, some ⟨DA, 0, none⟩, 2, 2, KA, LCA, LDA⟩⟩, ⟨1, 0, 1, ⟨some ⟨BE, 0, none⟩, 3, 3, some ⟨DE, 0, none⟩, 2, 2, KE, LCE, LDE⟩⟩]) (H := w7.heap.size) HN.out rfl (fun i hi => by (rcases i with _ | _ | i; exact ⟨GA.C, GA.D, GA.hn, GA.hm⟩; exact ⟨GE.C, GE.D, GE.hn, GE.hm⟩; simp only [List.length_cons, List.length_nil] at hi; omega)) (two_lv (P := fun x => ∀ b o, x.f.a = some ⟨b, o, none⟩ → w.heap.size ≤ b ∧ b < w7.heap.size ∧ (Value.slice (some ⟨g, 0, none⟩) N c).ownBlock ≠ some b) (fun b o e => by have e9 : (some ⟨BA, 0, none⟩ : Option Addr) = some ⟨b, o, none⟩ := e; simp only [Option.some.injEq, Addr.mk.injEq] at e9; exact ⟨by omega, by omega, by simp only [Value.ownBlock, ne_eq, Option.some.injEq]; omega⟩) (fun b o e => by have e9 : (some ⟨BE, 0, none⟩ : Option Addr) = some ⟨b, o, none⟩ := e; simp only [Option.some.injEq, Addr.mk.injEq] at e9; exact ⟨by omega, by omega, by simp only [Value.ownBlock, ne_eq, Option.some.injEq]; omega⟩)) (two_lv (P := fun x => ∀ b o, x.f.c = some ⟨b, o, none⟩ → w.heap.size ≤ b ∧ b < w7.heap.size ∧ (Value.slice (some ⟨g, 0, none⟩) N c).ownBlock ≠ some b) (fun b o e => by have e9 : (some ⟨DA, 0, none⟩ : Option Addr) = some ⟨b, o, none⟩ := e; simp only [Option.some.injEq, Addr.mk.injEq] at e9; exact ⟨by omega, by omega, by simp only [Value.ownBlock, ne_eq, Option.some.injEq]; omega⟩) (fun b o e => by have e9 : (some ⟨DE, 0, none⟩ : Option Addr) = some ⟨b, o, none⟩ := e; simp only [Option.some.injEq, Addr.mk.injEq] at e9; exact ⟨by omega, by omega, by simp only [Value.ownBlock, ne_eq, Option.some.injEq]; omega⟩)) (by rw [World.size_alloc]; omega) SZ hown hgrow (by rcases hat9 with h | h; exact .inl h; exact .inr (by omega))
    clear hown hgrow ja SZ
    go_wp2
    go_ret
    exact ⟨_, N + 2, cp9, _, _, rfl, jn, by rw [List.length_append, HN.out]; rfl, by omega, by omega, by omega⟩


end Go.Proofs.Ytemcinobgdphnaa
namespace Go.Proofs.Ytemcinobgdphnaa
open Go.RowKit
set_option linter.unusedVariables false
set_option maxRecDepth 100000

/-- An act all of whose blocks are of a kind. -/
structure AcQ (P : Nat → Prop) (W : World) (s : L2V) : Prop where
  len : s.x.length = s.n
  g : LinesG W s.a s.x
  n8 : s.n ≤ 8
  pa : ∀ b o, s.a = some ⟨b, o, none⟩ → P b
  pf : ∀ i, i < s.x.length → (∀ b o, (s.x[i]?.getD noLV).f.a = some ⟨b, o, none⟩ → P b) ∧ (∀ b o, (s.x[i]?.getD noLV).f.c = some ⟨b, o, none⟩ → P b)
section
variable {P P' : Nat → Prop} {W W' : World} {s : L2V}
theorem AcQ.touch {S : Nat → Prop} (h : AcQ P W s) (t : Touch S W W') (hS : ∀ b, P b → ¬ S b) : AcQ P W' s :=
  ⟨h.len, h.g.off t (fun b o e => hS b (h.pa b o e)) (fun i hi => ⟨fun b o e => hS b ((h.pf i hi).1 b o e), fun b o e => hS b ((h.pf i hi).2 b o e)⟩), h.n8, h.pa, h.pf⟩
theorem AcQ.below (h : AcQ P W s) (b : Below W.heap.size W W') : AcQ P W' s := ⟨h.len, h.g.below b, h.n8, h.pa, h.pf⟩
theorem AcQ.mono (h : AcQ P W s) (hP : ∀ b, P b → P' b) : AcQ P' W s := ⟨h.len, h.g, h.n8, fun b o e => hP b (h.pa b o e), fun i hi => ⟨fun b o e => hP b ((h.pf i hi).1 b o e), fun b o e => hP b ((h.pf i hi).2 b o e)⟩⟩
theorem AcQ.lg (h : AcQ P W s) : LG W s := ⟨h.len, h.g, by have := h.n8; omega⟩
end
theorem AcP.q {P : Nat → Prop} {W : World} {s : L2V} (h : AcP P W s) : AcQ P W s := ⟨h.len, h.g, by have := h.six; omega, h.pa, h.pf⟩
theorem JL.actq {wL W : World} {R : Nat} {a : Option Addr} {n cap : Nat} {bs : List Int} {q : Int} {ad : Option Addr} {N c : Nat} {ls : List LV} (j : JL wL R a n cap bs q (.slice ad N c) ls W) (hl : ls.length = N) (ho : N ≤ 8) : AcQ (fun b => wL.heap.size ≤ b ∧ b < W.heap.size) W ⟨ad, N, c, ls⟩ := by
  refine ⟨hl, j.g hl, ho, fun b o e => ?_, fun i hi => ⟨fun b o e => ⟨(j.na i hi b o e).1, (j.na i hi b o e).2.1⟩, fun b o e => ⟨(j.nc i hi b o e).1, (j.nc i hi b o e).2.1⟩⟩⟩
  have e' : ad = some ⟨b, o, none⟩ := e
  subst e'
  exact j.o.lt b rfl

/-- Acts that are being drawn. -/
structure JBs (w : World) (R : Nat) (a : Option Addr) (n cap : Nat) (bs : List Int) (q : Int) (v : Value) (ss : List L2V) (W : World) : Prop where
  t : Touch (fun x => x = R) w W
  r : Rd W R a n cap bs q
  o : W.ownsRow w.heap.size 52 1 v ss.length (ss.map L2V.v)
  ac : ∀ i, i < ss.length → AcQ (fun b => w.heap.size ≤ b ∧ b < W.heap.size ∧ v.ownBlock ≠ some b) W (ss[i]?.getD noL)
  lR : R < w.heap.size
  lb : 0 < n → ∀ b o, a = some ⟨b, o, none⟩ → b < w.heap.size
section
variable {w W W' : World} {R : Nat} {a : Option Addr} {n cap : Nat} {bs : List Int} {q : Int} {v : Value} {ss : List L2V}
theorem JBs.below (j : JBs w R a n cap bs q v ss W) (b : Below W.heap.size W W') : JBs w R a n cap bs q v ss W' :=
  ⟨j.t.trans (Touch.of b), j.r.below b, own_belowL j.o b, fun i hi => ((j.ac i hi).below b).mono (fun x h => ⟨h.1, Nat.lt_of_lt_of_le h.2.1 b.size, h.2.2⟩), j.lR, j.lb⟩
theorem JBs.pick {q' : Int} (j : JBs w R a n cap bs q v ss W) (t : Touch (fun x => x = R) W W') (r : Rd W' R a n cap bs q') : JBs w R a n cap bs q' v ss W' := by
  have lR := j.lR
  exact ⟨j.t.trans t, r, ownsRow_touch j.o t (fun k h => by omega), fun i hi => ((j.ac i hi).touch t (fun b h => by omega)).mono (fun x h => ⟨h.1, Nat.lt_of_lt_of_le h.2.1 t.size, h.2.2⟩), j.lR, j.lb⟩
theorem JBs.lsg {ad : Option Addr} {N c : Nat} (j : JBs w R a n cap bs q (.slice ad N c) ss W) (hl : ss.length = N) : LSG W ad ss := by
  intro i hi
  rcases j.o.2 with ⟨hv, h0⟩ | ⟨g, cap', cur, hv, _⟩
  · omega
  · have hv' : ad = some ⟨g, 0, none⟩ := by simp only [Value.slice.injEq] at hv; exact hv.1
    subst hv'
    refine ⟨g, 0, rfl, ?_, (j.ac i hi).lg⟩
    have o := j.o
    rw [hl] at o
    have := o.cellAt i (by omega)
    rw [Nat.zero_add, this, List.getElem?_map, List.getElem?_eq_getElem hi]
    simp
theorem JBs.app {s : L2V} {g c k H : Nat} (j : JBs w R a n cap bs q v ss W) (hk : ss.length = k) (hs : AcQ (fun b => w.heap.size ≤ b ∧ b < H ∧ v.ownBlock ≠ some b) W s) (hH : H ≤ W.heap.size) (hsz : ∀ i, i < ss.length → AcQ (fun b => b < H) W (ss[i]?.getD noL))
    (hown : W'.ownsRow w.heap.size 52 1 (.slice (some ⟨g, 0, none⟩) (k + 1) c) (k + 1) (ss.map L2V.v ++ [s.v])) (hg : W.grownBy W' v.ownBlock) (hat : v.ownBlock = some g ∨ H ≤ g) : JBs w R a n cap bs q (.slice (some ⟨g, 0, none⟩) (k + 1) c) (ss ++ [s]) W' := by
  have hr : ∀ x, v.ownBlock = some x → w.heap.size ≤ x := fun x hx => (j.o.lt x hx).1
  have lR := j.lR
  have T : Touch (fun x => v.ownBlock = some x) W W' := ⟨hg.os, hg.tape, hg.output, hg.size, fun x hx hs => hg.block x hx (fun e => hs e.symm)⟩
  have hn : ∀ b, v.ownBlock ≠ some b → b < H → (Value.slice (some ⟨g, 0, none⟩) (k + 1) c).ownBlock ≠ some b := fun b h1 h2 e => by
    simp only [Value.ownBlock, Option.some.injEq] at e
    rcases hat with h | h
    · rw [h] at h1; exact h1 (by rw [e])
    · omega
  have hs' := hg.size
  refine ⟨j.t.grown hg hr, j.r.touch T (fun e => by have := hr _ e; omega) (fun h0 b o hab e => by have := j.lb h0 b o hab; have := hr _ e; omega), ?_, fun i hi => ?_, j.lR, j.lb⟩
  · rw [List.length_append, hk, List.map_append]
    simpa using hown
  · by_cases h : i < ss.length
    · rw [List.getElem?_append_left h]
      have h1 := (j.ac i h).touch T (fun b hb => hb.2.2)
      have h2 := hsz i h
      exact ⟨h1.len, h1.g, h1.n8, fun b o e => ⟨(h1.pa b o e).1, by have := h2.pa b o e; omega, hn b (h1.pa b o e).2.2 (h2.pa b o e)⟩, fun m hm => ⟨fun b o e => ⟨((h1.pf m hm).1 b o e).1, by have := (h2.pf m hm).1 b o e; omega, hn b ((h1.pf m hm).1 b o e).2.2 ((h2.pf m hm).1 b o e)⟩, fun b o e => ⟨((h1.pf m hm).2 b o e).1, by have := (h2.pf m hm).2 b o e; omega, hn b ((h1.pf m hm).2 b o e).2.2 ((h2.pf m hm).2 b o e)⟩⟩⟩
    · have : i = ss.length := by rw [List.length_append] at hi; simp at hi; omega
      subst this
      have e : (ss ++ [s])[ss.length]?.getD noL = s := by simp
      rw [e]
      exact (hs.touch T (fun b hb => hb.2.2)).mono (fun b hb => ⟨hb.1, by omega, hn b hb.2.2 hb.2.1⟩)
end

theorem JAs.q {w W : World} {R : Nat} {a : Option Addr} {n cap : Nat} {bs : List Int} {q : Int} {v : Value} {ss : List L2V} (j : JAs w R a n cap bs q v ss W) : JBs w R a n cap bs q v ss W := ⟨j.t, j.r, j.o, fun i hi => (j.ac i hi).q, j.lR, j.lb⟩
theorem getL_set {ss : List L2V} {i : Nat} {s : L2V} (hk : 0 < ss.length) : (ss.set 0 s)[i]?.getD noL = if i = 0 then s else ss[i]?.getD noL := by
  by_cases h : i = 0
  · subst h; rw [List.getElem?_set_self hk]; rfl
  · rw [List.getElem?_set_ne (fun e => h e.symm), if_neg h]
/-- The first act is put another in place of. -/
theorem JBs.set0 {w W : World} {R : Nat} {a : Option Addr} {n cap : Nat} {bs : List Int} {q : Int} {g N c : Nat} {ss : List L2V} {s : L2V} (j : JBs w R a n cap bs q (.slice (some ⟨g, 0, none⟩) N c) ss W) (hN : ss.length = N) (h0 : 0 < ss.length) (hs : AcQ (fun b => w.heap.size ≤ b ∧ b < W.heap.size ∧ g ≠ b) W s) : JBs w R a n cap bs q (.slice (some ⟨g, 0, none⟩) N c) (ss.set 0 s) (W.setCell ⟨g, 0, none⟩ s.v) := by
  have hg := j.o.lt g rfl
  have lR := j.lR
  have T : Touch (fun x => x = g) W (W.setCell ⟨g, 0, none⟩ s.v) := Touch.setCell (S := fun x => x = g) (Touch.refl _ _) rfl _
  have o := j.o
  rw [hN] at o
  have hsz : (W.setCell ⟨g, 0, none⟩ s.v).heap.size = W.heap.size := size_setCell _ _ _
  refine ⟨j.t.setNewF hg.1 _ _, j.r.touch T (by omega) (fun h0 b o e h => by have := j.lb h0 b o e; omega), ?_, fun i hi => ?_, j.lR, j.lb⟩
  · rw [List.length_set, hN, List.map_set]
    exact (World.ownsRow.stored o 0 s.v).1
  · rw [List.length_set] at hi
    rw [getL_set h0]
    by_cases h : i = 0
    · rw [if_pos h]
      exact (hs.touch T (fun b hb e => hb.2.2 e.symm)).mono (fun b hb => ⟨hb.1, by omega, fun e => hb.2.2 (by simpa [Value.ownBlock] using e)⟩)
    · rw [if_neg h]
      exact ((j.ac i hi).touch T (fun b hb e => hb.2.2 (by rw [e]; rfl))).mono (fun b hb => ⟨hb.1, by omega, hb.2.2⟩)
theorem JBs.some {w W : World} {R : Nat} {a : Option Addr} {n cap : Nat} {bs : List Int} {q : Int} {ad : Option Addr} {N c : Nat} {ss : List L2V} (j : JBs w R a n cap bs q (.slice ad N c) ss W) (h0 : 0 < ss.length) : ∃ g, ad = some ⟨g, 0, none⟩ := by
  rcases j.o.2 with ⟨_, h⟩ | ⟨g, cap', cur, hv, _⟩
  · omega
  · simp only [Value.slice.injEq] at hv
    exact ⟨g, hv.1⟩

set_option maxHeartbeats 6400000 in
theorem anyacts_f (R : Nat) (a : Option Addr) (n cap : Nat) (bs : List Int) (p M : Int) (w : World) (rd : Rd w R a n cap bs p) (hp : 0 ≤ p) (hp1 : p ≤ 5000000) (hM : 1 ≤ M) (hM1 : M ≤ 1000) (ha : 0 < n → ∀ b o, a = some ⟨b, o, none⟩ → b < w.heap.size) :
    Calls Try.prog 47 #[.pointer (some ⟨R, 0, none⟩), .int .i64 M] w fun e w' => ∃ ad N c ss q, e = .returned (.slice ad N c) ∧ JBs w R a n cap bs q (.slice ad N c) ss w' ∧ ss.length = N ∧ N ≤ 5 ∧ p ≤ q ∧ q ≤ p + 500 := by
  have hRl := rd.c.lt
  obtain ⟨i0, hi, hz0, hz1, hz2⟩ := info_parts Try.infoLns
  go_enter Try.func47, Try.ntmps47
  go_wp2_with fail
  refine (acts_f R a n cap bs p _ rd hp (by omega) ha).mono ?_
  rintro e w1 ⟨ad, N, c, ss, q, rfl, j', hN, hN1, hN4, q0, q1⟩
  have j := j'.q
  have HN : Hid (ss.length = N) := hN
  clear hN rd j'
  obtain ⟨g, rfl⟩ := j.some (by rw [HN.out]; omega)
  go_wp2_with fail
  refine (pick_any R a n cap bs (q) M _ j.r (by omega) (by omega) (by omega) (by omega)).mono ?_
  rintro e w2 ⟨ru, hu0, hu1, rfl, t5, R5⟩
  obtain ⟨u, rfl⟩ := Int.eq_ofNat_of_zero_le hu0
  replace j := j.pick t5 R5
  clear t5 R5 hu0
  by_cases hu : 0 < u
  · have hu' : (0 : Int) < (u : Int) := by omega
    go_wp2
    go_ret
    exact ⟨_, N, c, ss, _, rfl, j, HN.out, by omega, by omega, by omega⟩
  have hu' : ¬ (0 : Int) < (u : Int) := by omega
  go_wp2_with fail
  refine (pick_any R a n cap bs (q + 1) 3 _ j.r (by omega) (by omega) (by omega) (by omega)).mono ?_
  rintro e w3 ⟨rs, hs0, hs1, rfl, t5, R5⟩
  obtain ⟨s, rfl⟩ := Int.eq_ofNat_of_zero_le hs0
  replace j := j.pick t5 R5
  clear t5 R5 hs0
  rcases (show s = 0 ∨ s = 1 ∨ s = 2 from by omega) with rfl | rfl | rfl
  · have hgW := (j.o.lt g rfl).2
    have hlo := j.t.size
    have hN' : (0 : Int) < (N : Int) := by omega
    go_wp2_with fail
    refine (any_f R a n cap bs (q + 1 + 1) 1 _ j.r (by omega) (by omega) (by omega) (by omega) j.r.ha).mono ?_
    rintro e w4 ⟨ad4, N4, c4, ls4, q4, rfl, jl, hl4, hn8, y0, y1⟩
    have sa := jl.actq hl4 hn8
    replace j := j.pick jl.t jl.r
    clear jl
    have o := j.o
    rw [HN.out] at o
    have cc := o.cellAt 0 (by omega)
    rw [List.getElem?_map, List.getElem?_eq_getElem (by rw [HN.out]; omega)] at cc
    have ff : w4.frozen? ⟨g, 0, none⟩ = false := o.frozenAt _
    obtain ⟨s0, hs0⟩ : ∃ s0 : L2V, s0 = ss[0]'(by rw [HN.out]; omega) := ⟨_, rfl⟩
    rw [← hs0] at cc
    have cc' : w4.cell? ⟨g, 0, none⟩ = some (.slice s0.a s0.n s0.cap) := cc
    clear cc o hs0
    have j9 := j.set0 (s := ⟨ad4, N4, c4, ls4⟩) HN.out (by rw [HN.out]; omega) (sa.mono (fun b hb => ⟨by omega, hb.2, by omega⟩))
    clear j sa
    go_wp2
    go_ret
    exact ⟨_, N, c, _, _, rfl, j9, by rw [List.length_set]; exact HN.out, by omega, by omega, by omega⟩
  · have hlo := j.t.size
    have al := (Below.refl w3.heap.size w3).alloc (Nat.le_refl _) (.cells #[] 52)
    have o0 := World.ownsRow_lit (base := w.heap.size) (e := 52) (size := 1) w3 #[] 0 hlo (by unfold maxLen; omega) rfl
    have j9 : JBs w R a n cap bs (q + 1 + 1) (.slice (some ⟨w3.heap.size, 0, none⟩) 0 0) [] (w3.alloc (.cells #[] 52)) := ⟨j.t.trans (Touch.of al), j.r.below al, o0, fun i hi => by simp at hi, j.lR, j.lb⟩
    clear al o0 j
    go_wp2
    go_ret
    exact ⟨_, 0, 0, _, _, rfl, j9, rfl, by omega, by omega, by omega⟩
  · go_wp2_with fail
    go_loopw [5] (fun v wr => ∃ (g' N' c' : Nat) (ss' : List L2V) (q' : Int), v = .slice (some ⟨g', 0, none⟩) N' c' ∧ N ≤ N' ∧ N' ≤ 5 ∧ ss'.length = N' ∧ q' = q + 1 + 1 ∧ JBs w R a n cap bs q' v ss' wr) (fun v _ => 8 - (lenOf v))
    case atStart => exact ⟨g, N, c, ss, _, rfl, by omega, by omega, HN.out, rfl, j⟩
    case round =>
      clear j
      obtain ⟨g', N', c', ss', q', rfl, hNN, hN7, hL, hq', j⟩ := hrel
      have HL : Hid (ss'.length = N') := hL
      clear hL
      by_cases h7 : N' ≤ 4
      · have h7' : (N' : Int) ≤ 4 := by omega
        have hkN2 : (0 : Int) < (N' : Int) := by omega
        have hkl : 0 < ss'.length := by rw [HL.out]; omega
        have o := j.o
        rw [HL.out] at o
        have cc := o.cellAt 0 (by omega)
        rw [List.getElem?_map, List.getElem?_eq_getElem hkl] at cc
        obtain ⟨s0, hs0⟩ : ∃ s0 : L2V, s0 = ss'[0]?.getD noL := ⟨_, rfl⟩
        have es : ss'[0] = s0 := by rw [hs0, List.getElem?_eq_getElem hkl]; rfl
        rw [es] at cc
        have cc' : wr.cell? ⟨g', 0, none⟩ = some (.slice s0.a s0.n s0.cap) := cc
        clear cc o es
        have hsa := j.ac 0 hkl
        rw [← hs0] at hsa
        clear hs0
        have SZ : ∀ i, i < ss'.length → AcQ (fun b => b < wr.heap.size) (wr.alloc (.cells #[.slice s0.a s0.n s0.cap] 52)) (ss'[i]?.getD noL) := fun i hi => ((j.ac i hi).mono (fun b hb => hb.2.1)).below ((Below.refl wr.heap.size wr).alloc (Nat.le_refl _) _)
        have al := (Below.refl wr.heap.size wr).alloc (Nat.le_refl _) (.cells #[.slice s0.a s0.n s0.cap] 52)
        have ja := j.below al
        replace hsa := hsa.below al
        have hszA := ja.t.size
        clear al j
        go_wp2_with (at_builtin; refine wpList_append_lies _ rfl (.tmp 18) (.tmp 22) 44 rfl w.heap.size 52 i0 _ 1 24 Try.underlying44 hi hz0 hz1 hz2 rfl (by omega) (.slice (some ⟨g', 0, none⟩) N' c') N' (ss'.map L2V.v) (by rfl) (by have h := ja.o; rw [HL.out] at h; exact h) ⟨wr.heap.size, 0, none⟩ 1 1 [.slice s0.a s0.n s0.cap] (by rfl) (by rfl) (World.news_of_block (cs := #[.slice s0.a s0.n s0.cap]) (t := 52) (fr := (0, 0)) (heap_alloc_new wr _)) (by simp [Value.oneCell']) (by omega) (by unfold maxLen; omega) (by omega) hszA (wr.heap.size + 1) (by rw [World.size_alloc]) ?_)
        intro g9 cp9 w9 hown hgrow hat9 _
        have jn := ja.app (s := s0) (H := wr.heap.size) HL.out hsa (by rw [World.size_alloc]; omega) SZ hown hgrow (by rcases hat9 with h | h; exact .inl h; exact .inr (by omega))
        clear hown hgrow ja hsa SZ cc'
        go_wp2
        go_roundw
        case rel => exact ⟨g9, N' + 1, cp9, ss' ++ [s0], _, rfl, by omega, by omega, by rw [List.length_append, HL.out]; rfl, hq', jn⟩
        case measure => simp [lenOf]; omega
      · have h7' : ¬ (N' : Int) ≤ 4 := by omega
        go_wp2
        go_ret
        exact ⟨_, N', c', rfl, by first | exact ⟨ss', ⟨q', j, by first | exact ⟨HL.out, by omega, by omega, by omega⟩ | omega⟩⟩ | (refine ⟨ss', ?_⟩; simp [HL.out]; exact ⟨q', j, by omega⟩) | (refine ⟨ss', ⟨q', j, ?_⟩, HL.out, ?_⟩ <;> omega)⟩

end Go.Proofs.Ytemcinobgdphnaa
namespace Go.Proofs.Ytemcinobgdphnaa
open Go.RowKit Go.Deep
set_option linter.unusedVariables false
set_option maxRecDepth 100000

theorem put4 {W : World} {X : Nat} {vs : List Value} {T : TypeId} (h : Cel W X vs T) (hl : vs.length = 4) (v0 v1 v2 v3 : Value) :
    Cel ((((W.setCell ⟨X, 0, none⟩ v0).setCell ⟨X, 1, none⟩ v1).setCell ⟨X, 2, none⟩ v2).setCell ⟨X, 3, none⟩ v3) X [v0, v1, v2, v3] T ∧ Touch (fun z => z = X) W ((((W.setCell ⟨X, 0, none⟩ v0).setCell ⟨X, 1, none⟩ v1).setCell ⟨X, 2, none⟩ v2).setCell ⟨X, 3, none⟩ v3) := by
  refine ⟨?_, (((((Touch.refl (fun z => z = X) W).setCell rfl _).setCell rfl _).setCell rfl _).setCell rfl _)⟩
  have := (((h.set 0 v0).set 1 v1).set 2 v2).set 3 v3
  match vs, hl with
  | [a, b, c, d], _ => exact this
theorem FOff.empty {W : World} {S : Nat → Prop} {a : Option Addr} : FOff W S a [] := fun W' t i hi => by simp at hi
theorem JV.foff' {w W : World} {a : Option Addr} {n cap : Nat} {xs : List Value} {fs : List Frm} (j : JV w (.slice a n cap) n xs fs W) (hn : fs.length = n) : FOff W (fun k => k < w.heap.size) a fs := by
  obtain ⟨a', cap', e, h⟩ := j.foff hn
  simp only [Value.slice.injEq, true_and] at e
  obtain ⟨rfl, rfl⟩ := e
  exact h

set_option maxHeartbeats 3200000 in
theorem irow_stop (y : Way) (ga : Option Addr) (ng gc : Nat) (pa : Option Addr) (cp : Nat) (ta : Option Addr) (nt tc : Nat) (w : World) (hg : y.guards.length = ng) (hG : FormsAt w ga y.guards) (fg : ∀ k, k < ng → fitX 10000000 (y.guards[k]?.getD ([], [], 0))) (hg1 : ng ≤ 1048576) :
    Calls Try.prog 90 #[wayV ga ng gc pa cp ta nt tc true] w fun e w' => ∃ v, e = .returned v ∧ Below w.heap.size w w' ∧ RowX w' w.heap.size v (stopW y) := by
  have HGL : Hid (y.guards.length = ng) := hg
  have HFG : Hid _ := fg
  clear hg fg
  have B0 : Below w.heap.size w ((w.alloc (.cells #[.slice ga ng gc, .slice pa 3 cp, .slice ta nt tc, .bool true] 109)).alloc (.cells #[.slice none 0 0, .slice none 0 0, .slice none 0 0, .bool false] 25)) := ((Below.refl _ _).alloc (Nat.le_refl _) _).alloc (by simp) _
  have r0 := Cel.new (w.alloc (.cells #[.slice ga ng gc, .slice pa 3 cp, .slice ta nt tc, .bool true] 109)) [.slice none 0 0, .slice none 0 0, .slice none 0 0, .bool false] 25
  rw [World.size_alloc] at r0
  go_enter Try.func90, Try.ntmps90
  go_wp2_with fail
  refine (icopies_any _ _ _ y.guards _ HGL.out (hG.keep B0) HFG.out hg1).mono ?_
  rintro e w1 ⟨v1, xs1, rfl, j1⟩
  obtain ⟨a1, c1, rfl⟩ := j1.isSlice
  have B1 := B0.trans (j1.b.mono B0.size)
  have r1 := r0.below j1.b
  have g1 := j1.foff' HGL.out
  rw [World.size_alloc, World.size_alloc] at g1
  have lr := r1.lt
  obtain ⟨c0, c1', c2, c3⟩ := r1.four
  have y0 := r1.free 0
  have y1 := r1.free 1
  have y2 := r1.free 2
  have y3 := r1.free 3
  obtain ⟨x', T'⟩ := put4 r1 rfl (.slice a1 ng c1) (.slice none 0 0) (.slice none 0 0) (.bool true)
  obtain ⟨h0, h1, h2, h3⟩ := x'.four
  clear j1 r0 B0
  go_wp2
  refine bodyPost_ret (v := .agg #[.slice a1 ng c1, .slice none 0 0, .slice none 0 0, .bool true]) (by simp [results, Try.results90, go_sem, h0, h1, h2, h3]) rfl ?_
  refine ⟨_, rfl, B1.trans (T'.below B1.size (fun k hk => by omega)), a1, c1, none, 0, none, 0, ?_, (g1.touch (T'.mono (fun k hk => by omega))).mono (fun k hk => by omega), FOff.empty, FOff.empty⟩
  show _ = Value.agg #[.slice a1 y.guards.length c1, .slice none 0 0, .slice none 0 0, .bool true]
  rw [HGL.out]

set_option maxHeartbeats 3200000 in
theorem irow_end (y : Way) (ga : Option Addr) (ng gc : Nat) (pa : Option Addr) (cp : Nat) (ta : Option Addr) (nt tc : Nat) (w : World) (hp : y.pots.length = 3) (hg : y.guards.length = ng) (ht : y.tells.length = nt) (hP : FormsAt w pa y.pots) (hG : FormsAt w ga y.guards) (hT : FormsAt w ta y.tells) (fp : ∀ k, k < 3 → fitX 9000000 (y.pots[k]?.getD noX)) (fg : ∀ k, k < ng → fitX 10000000 (y.guards[k]?.getD ([], [], 0))) (ft : ∀ k, k < nt → fitX 10000000 (y.tells[k]?.getD ([], [], 0))) (hg1 : ng ≤ 1048576) (ht1 : nt ≤ 1048576) :
    Calls Try.prog 90 #[wayV ga ng gc pa cp ta nt tc false] w fun e w' => ∃ v, e = .returned v ∧ Below w.heap.size w w' ∧ RowX w' w.heap.size v (endW y) := by
  have HPL : Hid (y.pots.length = 3) := hp
  have HGL : Hid (y.guards.length = ng) := hg
  have HTL : Hid (y.tells.length = nt) := ht
  have HFP : Hid _ := fp
  have HFG : Hid _ := fg
  have HFT : Hid _ := ft
  clear hp hg ht fp fg ft
  have B0 : Below w.heap.size w ((w.alloc (.cells #[.slice ga ng gc, .slice pa 3 cp, .slice ta nt tc, .bool false] 109)).alloc (.cells #[.slice none 0 0, .slice none 0 0, .slice none 0 0, .bool false] 25)) := ((Below.refl _ _).alloc (Nat.le_refl _) _).alloc (by simp) _
  have r0 := Cel.new (w.alloc (.cells #[.slice ga ng gc, .slice pa 3 cp, .slice ta nt tc, .bool false] 109)) [.slice none 0 0, .slice none 0 0, .slice none 0 0, .bool false] 25
  have p0 := (Cel.new w [.slice ga ng gc, .slice pa 3 cp, .slice ta nt tc, .bool false] 109).alloc (.cells #[.slice none 0 0, .slice none 0 0, .slice none 0 0, .bool false] 25)
  rw [World.size_alloc] at r0
  go_enter Try.func90, Try.ntmps90
  go_upto_region 3 with fail
  generalize ((w.alloc (.cells #[.slice ga ng gc, .slice pa 3 cp, .slice ta nt tc, .bool false] 109)).alloc (.cells #[.slice none 0 0, .slice none 0 0, .slice none 0 0, .bool false] 25)) = W0 at *
  have KP : Hid (∀ W, Below W0.heap.size W0 W → Cel W w.heap.size [.slice ga ng gc, .slice pa 3 cp, .slice ta nt tc, .bool false] 109) := fun W hW => p0.below hW
  have KR : Hid (∀ W, Below W0.heap.size W0 W → Cel W (w.heap.size + 1) [.slice none 0 0, .slice none 0 0, .slice none 0 0, .bool false] 25) := fun W hW => r0.below hW
  have e0 : Below W0.heap.size W0 W0.drew := (Below.refl _ _).drew
  have hSS : (W0.drew.cell? ⟨w.heap.size, 0, none⟩ = some (.slice ga ng gc) ∧ W0.drew.cell? ⟨w.heap.size, 1, none⟩ = some (.slice pa 3 cp) ∧ W0.drew.cell? ⟨w.heap.size, 2, none⟩ = some (.slice ta nt tc) ∧ W0.drew.cell? ⟨w.heap.size, 3, none⟩ = some (.bool false)) ∧ True := ⟨(KP.out _ e0).four, trivial⟩
  have lr := r0.lt
  clear p0 r0
  refine wp_region_ends (fun w' => w'.cell? ⟨w.heap.size, 0, none⟩ = some (.slice ga ng gc) ∧ w'.cell? ⟨w.heap.size, 1, none⟩ = some (.slice pa 3 cp) ∧ w'.cell? ⟨w.heap.size, 2, none⟩ = some (.slice ta nt tc) ∧ w'.cell? ⟨w.heap.size, 3, none⟩ = some (.bool false)) (fun _ => True) 9 (by kernel_rfl) ?_
  refine wpAnyE_take0 (i := 0) (v := ?v0) rfl (by kernel_rfl) (by kernel_rfl) (by kernel_rfl) (by decide) (fun _ _ _ h => h) (Or.inl ⟨by rfl, ?hy0⟩) hSS ?_
  case hy0 => (intro wz hSw; (try dsimp only at hSw); go_simp; try (with_reducible rfl))
  refine wpAnyE_take0 (i := 1) (v := ?v1) rfl (by kernel_rfl) (by kernel_rfl) (by kernel_rfl) (by decide) (fun _ _ _ h => h) (Or.inl ⟨by rfl, ?hy1⟩) hSS ?_
  case hy1 => (intro wz hSw; (try dsimp only at hSw); go_simp; try (with_reducible rfl))
  refine wpAnyE_take0 (i := 3) (v := ?v3) rfl (by kernel_rfl) (by kernel_rfl) (by kernel_rfl) (by decide) (fun _ _ _ h => h) (Or.inl ⟨by rfl, ?hy3⟩) hSS ?_
  case hy3 => (intro wz hSw; (try dsimp only at hSw); go_simp; try (with_reducible rfl))
  refine wpAnyE_take0 (i := 5) (v := ?v5) rfl (by kernel_rfl) (by kernel_rfl) (by kernel_rfl) (by decide) (fun _ _ _ h => h) (Or.inl ⟨by rfl, ?hy5⟩) hSS ?_
  case hy5 => (intro wz hSw; (try dsimp only at hSw); go_simp; try (with_reducible rfl))
  refine wpAnyE_take0 (i := 6) (v := ?v6) rfl (by kernel_rfl) (by kernel_rfl) (by kernel_rfl) (by decide) (fun _ _ _ h => h) (Or.inl ⟨by rfl, ?hy6⟩) hSS ?_
  case hy6 => (intro wz hSw; (try dsimp only at hSw); go_simp; try (with_reducible rfl))
  clear hSS
  refine wpAnyE_one (i := 2) (by kernel_rfl) rfl (fun K hK => ?_)
  go_simp
  refine (icopies_any _ _ _ y.guards _ HGL.out ((hG.keep B0).keep e0) HFG.out hg1).mono ?_
  rintro ee w1 ⟨v1, xs1, rfl, j1⟩
  have e1 := below_of_drew j1.b
  obtain ⟨a1, c1, rfl⟩ := j1.isSlice
  have g1 : FOff w1 (fun k => k < W0.heap.size) a1 y.guards := j1.foff' HGL.out
  clear j1
  (try dsimp only)
  refine hK.out _ _ ⟨(KP.out _ e1).four, fun _ => trivial⟩ ?_
  clear hK K
  refine wpAnyE_one (i := 4) (by kernel_rfl) rfl (fun K hK => ?_)
  go_simp
  refine (iadds_any y _ _ _ _ _ _ _ _ _ _ HPL.out ((hP.keep B0).keep e1) HFP.out).mono ?_
  rintro ee w2 ⟨v2, xs2, rfl, j2⟩
  have e2 := e1.trans (j2.b.mono e1.size)
  obtain ⟨a2, c2, rfl⟩ := j2.isSlice
  have g2 := g1.below j2.b
  have s1 := e1.size
  have d2 : FOff w2 (fun k => k < w1.heap.size) a2 (endW y).adds := j2.foff' rfl
  clear j2 g1
  (try dsimp only)
  refine hK.out _ _ ⟨(KP.out _ e2).four, fun _ => trivial⟩ ?_
  clear hK K
  refine wpAnyE_one (i := 7) (by kernel_rfl) rfl (fun K hK => ?_)
  go_simp
  refine (icopies_any _ _ _ y.tells _ HTL.out ((hT.keep B0).keep e2) HFT.out ht1).mono ?_
  rintro ee w3 ⟨v3, xs3, rfl, j3⟩
  have e3 := e2.trans (j3.b.mono e2.size)
  obtain ⟨a3, c3, rfl⟩ := j3.isSlice
  have g3 := g2.below j3.b
  have d3 := d2.below j3.b
  have s2 := e2.size
  have s3 := e3.size
  have t3 : FOff w3 (fun k => k < w2.heap.size) a3 y.tells := j3.foff' HTL.out
  clear j3 g2 d2
  (try dsimp only)
  refine hK.out _ _ ⟨(KP.out _ e3).four, fun _ => trivial⟩ ?_
  clear hK K
  refine wpAnyE_one (i := 8) (by kernel_rfl) rfl (fun K hK => ?_)
  go_simp
  refine hK.out _ _ ⟨(KP.out _ e3).four, fun _ => trivial⟩ ?_
  clear hK K
  have r1 := KR.out _ e3
  have lr3 := r1.lt
  obtain ⟨q0, q1, q2, q3⟩ := r1.four
  have y0 := r1.free 0
  have y1 := r1.free 1
  have y2 := r1.free 2
  have y3 := r1.free 3
  obtain ⟨x', T'⟩ := put4 r1 rfl (.slice a1 ng c1) (.slice a2 3 c2) (.slice a3 nt c3) (.bool false)
  have p4 := (KP.out _ e3).touch T' (fun h => by have := h; omega)
  obtain ⟨h0, h1, h2, h3⟩ := x'.four
  refine wpAnyE_one (i := 9) (by kernel_rfl) rfl (fun K hK => ?_)
  go_simp
  refine hK.out _ _ ⟨p4.four, fun h => absurd (show true = false from h) (by decide)⟩ ?_
  clear hK K
  refine wpAnyE_done (by kernel_rfl) ?_ _
  have B3 := B0.trans (e3.mono B0.size)
  have sB := B0.size
  have gg := (g3.touch (T'.mono (fun k hk => by omega))).mono (S' := fun k => k < w.heap.size) (fun k hk => by omega)
  have dd := (d3.touch (T'.mono (fun k hk => by omega))).mono (S' := fun k => k < w.heap.size) (fun k hk => by omega)
  have tt := (t3.touch (T'.mono (fun k hk => by omega))).mono (S' := fun k => k < w.heap.size) (fun k hk => by omega)
  have BB := B3.trans (T'.below B3.size (fun k hk => by omega))
  clear q0 q1 q2 q3 y0 y1 y2 y3 r1 p4 x' T' g3 d3 t3 KP KR
  go_wp2
  refine bodyPost_ret (v := .agg #[.slice a1 ng c1, .slice a2 3 c2, .slice a3 nt c3, .bool false]) (by simp [results, Try.results90, go_sem, h0, h1, h2, h3]) rfl ?_
  refine ⟨_, rfl, BB, a1, c1, a2, c2, a3, c3, ?_, gg, dd, tt⟩
  show _ = Value.agg #[.slice a1 y.guards.length c1, .slice a2 3 c2, .slice a3 y.tells.length c3, .bool false]
  rw [HGL.out, HTL.out]

end Go.Proofs.Ytemcinobgdphnaa
namespace Go.Proofs.Ytemcinobgdphnaa
open Go.RowKit Go.Deep
set_option linter.unusedVariables false
set_option maxRecDepth 100000

/-- Three forms in memory of their own, their lists anywhere. -/
structure JC (base : Nat) (G cap : Nat) (xs : List Value) (fs : List Frm) (W : World) : Prop where
  o : W.ownsRow base 34 3 (.slice (some ⟨G, 0, none⟩) 3 cap) 3 xs
  t : TermsOk W G xs fs 3
theorem JC.below {base : Nat} {W W' : World} {G cap : Nat} {xs : List Value} {fs : List Frm} (j : JC base G cap xs fs W) (h : Below W.heap.size W W') : JC base G cap xs fs W' := ⟨own_below j.o h, j.t.below h⟩
theorem JC.past {base : Nat} {W W' : World} {X G cap : Nat} {xs : List Value} {fs : List Frm} (j : JC base G cap xs fs W) (hX : X ≠ G) (hx : ∀ o q, W.cell? ⟨X, o, none⟩ ≠ some (.int .i64 q)) (t : Touch (fun z => z = X) W W') : JC base G cap xs fs W' := by
  refine ⟨own_off j.o (fun g hg hs => ?_) t, fun i hi => ?_⟩
  · have h' : some G = some g := hg
    simp only [Option.some.injEq] at h'
    exact hX (by rw [h']; exact hs.symm)
  · obtain ⟨a', c', ca, cc, e0, e1, e2, i1, i2, n1, n2⟩ := j.t i hi
    exact ⟨a', c', ca, cc, e0, e1, e2, i1.past hx t, i2.past hx t, n1, n2⟩
theorem JC.lt {base : Nat} {W : World} {G cap : Nat} {xs : List Value} {fs : List Frm} (j : JC base G cap xs fs W) : base ≤ G ∧ G < W.heap.size := by
  rcases j.o.2 with ⟨h, _⟩ | ⟨g, cap', cur, h, hg, hh, _⟩
  · cases h
  · simp only [Value.slice.injEq, Option.some.injEq, Addr.mk.injEq, and_true, true_and] at h
    obtain ⟨rfl, _⟩ := h
    exact ⟨hg, lt_of_block hh⟩
theorem JC.frz {base : Nat} {W : World} {G cap : Nat} {xs : List Value} {fs : List Frm} (j : JC base G cap xs fs W) (i : Nat) : W.frozen? ⟨G, i, none⟩ = false := by
  rcases j.o.2 with ⟨h, _⟩ | ⟨g, cap', cur, h, hg, hh, _⟩
  · cases h
  · simp only [Value.slice.injEq, Option.some.injEq, Addr.mk.injEq, and_true, true_and] at h
    obtain ⟨rfl, _⟩ := h
    have : Cel W G cur.toList 34 := by unfold Cel; simpa using hh
    exact this.free i
/-- One of them is overwritten. -/
theorem JC.put {base : Nat} {W : World} {G cp : Nat} {xs : List Value} {fs : List Frm} (j : JC base G cp xs fs W) (hn : fs.length = 3) {p : Nat} (hp : p < 3) {B1 B2 ca cc : Nat} {C D : List Int} {K : Int} (k1 : Blk W B1 C) (l1 : C.length = 3) (k2 : Blk W B2 D) (l2 : D.length = 2) (n1 : B1 ≠ G) (n2 : B2 ≠ G) :
    FormsAt (((W.setCell ⟨G, p * 3, none⟩ (.slice (some ⟨B1, 0, none⟩) 3 ca)).setCell ⟨G, p * 3 + 1, none⟩ (.slice (some ⟨B2, 0, none⟩) 2 cc)).setCell ⟨G, p * 3 + 2, none⟩ (.int .i64 K)) (some ⟨G, 0, none⟩) (fs.set p (C, D, K)) := by
  have hT := j.t
  have hx := j.o.1
  rcases j.o.2 with ⟨h, _⟩ | ⟨g, cap', cur, h, hg, hh, hl, _, hcs, ht⟩
  · cases h
  simp only [Value.slice.injEq, Option.some.injEq, Addr.mk.injEq, and_true, true_and] at h
  obtain ⟨rfl, rfl⟩ := h
  have cel : Cel W G cur.toList 34 := by unfold Cel; simpa using hh
  have hlen : 9 ≤ cur.toList.length := by
    have := congrArg List.length ht
    rw [List.length_take, hx] at this
    omega
  have hat : ∀ i, i < 9 → cur.toList[i]? = xs[i]? := fun i hi => by
    rw [← ht, List.getElem?_take, if_pos (by omega)]
  have c3 := ((cel.set (p * 3) (.slice (some ⟨B1, 0, none⟩) 3 ca)).set (p * 3 + 1) (.slice (some ⟨B2, 0, none⟩) 2 cc)).set (p * 3 + 2) (.int .i64 K)
  have tt : Touch (fun x => x = G) W (((W.setCell ⟨G, p * 3, none⟩ (.slice (some ⟨B1, 0, none⟩) 3 ca)).setCell ⟨G, p * 3 + 1, none⟩ (.slice (some ⟨B2, 0, none⟩) 2 cc)).setCell ⟨G, p * 3 + 2, none⟩ (.int .i64 K)) := (((Touch.refl (fun x => x = G) W).setCell rfl _).setCell rfl _).setCell rfl _
  have m1 := (k1.ints' l1).by tt (fun b o e => by simp only [Option.some.injEq, Addr.mk.injEq, and_true] at e; omega)
  have m2 := (k2.ints' l2).by tt (fun b o e => by simp only [Option.some.injEq, Addr.mk.injEq, and_true] at e; omega)
  intro i hi
  rw [List.length_set, hn] at hi
  by_cases e : p = i
  · subst e
    rw [List.getElem?_set_self (by omega)]
    refine ⟨G, 0, rfl, _, _, ca, cc, ?_, ?_, ?_, m1, m2⟩
    · rw [Nat.zero_add, c3.cell, List.getElem?_set_ne (by omega), List.getElem?_set_ne (by omega), List.getElem?_set_self (by omega)]
    · rw [Nat.zero_add, c3.cell, List.getElem?_set_ne (by omega), List.getElem?_set_self (by rw [List.length_set]; omega)]
    · rw [Nat.zero_add, c3.cell, List.getElem?_set_self (by rw [List.length_set, List.length_set]; omega)]; rfl
  · rw [List.getElem?_set_ne e]
    obtain ⟨a', c', x, y, e0, e1, e2, i1, i2, q1, q2⟩ := hT i hi
    refine ⟨G, 0, rfl, a', c', x, y, ?_, ?_, ?_, i1.by tt q1, i2.by tt q2⟩
    · rw [Nat.zero_add, c3.cell, List.getElem?_set_ne (by omega), List.getElem?_set_ne (by omega), List.getElem?_set_ne (by omega), hat _ (by omega)]; exact e0
    · rw [Nat.zero_add, c3.cell, List.getElem?_set_ne (by omega), List.getElem?_set_ne (by omega), List.getElem?_set_ne (by omega), hat _ (by omega)]; exact e1
    · rw [Nat.zero_add, c3.cell, List.getElem?_set_ne (by omega), List.getElem?_set_ne (by omega), List.getElem?_set_ne (by omega), hat _ (by omega)]; exact e2

theorem addr_add (b off j : Nat) : (⟨b, off, none⟩ : Addr).add j = ⟨b, off + j, none⟩ := by
  by_cases h0 : j = 0
  · subst h0; simp [Addr.add]
  · simp [Addr.add, h0]

set_option maxHeartbeats 1600000 in
theorem iclone3_any (pa : Option Addr) (cp : Nat) (fs : List Frm) (w : World) (hn : fs.length = 3) (hP : FormsAt w pa fs) :
    Calls Try.prog 114 #[.slice pa 3 cp] w fun e w' => ∃ G cap xs, e = .returned (.slice (some ⟨G, 0, none⟩) 3 cap) ∧ Below w.heap.size w w' ∧ JC w.heap.size G cap xs fs w' := by
  obtain ⟨zi, hi, hz0, hz1, hz2⟩ := info_parts Try.infoForm
  obtain ⟨b, off, rfl, a0, c0, x0, y0, p00, p01, p02, i0, j0⟩ := hP 0 (by omega)
  obtain ⟨b1, off1, e1, a1, c1, x1, y1, p10, p11, p12, i1, j1⟩ := hP 1 (by omega)
  obtain ⟨b2, off2, e2, a2, c2, x2, y2, p20, p21, p22, i2, j2⟩ := hP 2 (by omega)
  simp only [Option.some.injEq, Addr.mk.injEq, and_true] at e1 e2
  obtain ⟨rfl, rfl⟩ := e1
  obtain ⟨rfl, rfl⟩ := e2
  have A : Below w.heap.size w (w.alloc (.cells #[] 34)) := (Below.refl _ _).alloc (Nat.le_refl _) _
  have HNW : Hid (∀ j u, ([.slice a0 3 x0, .slice c0 2 y0, .int .i64 (fs[0]?.getD ([], [], 0)).2.2, .slice a1 3 x1, .slice c1 2 y1, .int .i64 (fs[1]?.getD ([], [], 0)).2.2, .slice a2 3 x2, .slice c2 2 y2, .int .i64 (fs[2]?.getD ([], [], 0)).2.2] : List Value)[j]? = some u → (w.alloc (.cells #[] 34)).cell? ((⟨b, off, none⟩ : Addr).add j) = some u) := fun j u hu => by
    rw [addr_add]
    have key : ∀ q v, w.cell? ⟨b, q, none⟩ = some v → (w.alloc (.cells #[] 34)).cell? ⟨b, q, none⟩ = some v := fun q v h => by rw [A.cell (p := ⟨b, q, none⟩) (block_lt h)]; exact h
    match j with
    | 0 => simp only [List.getElem?_cons_zero, Option.some.injEq] at hu; subst hu; exact key _ _ p00
    | 1 => simp only [List.getElem?_cons_zero, List.getElem?_cons_succ, Option.some.injEq] at hu; subst hu; exact key _ _ p01
    | 2 => simp only [List.getElem?_cons_zero, List.getElem?_cons_succ, Option.some.injEq] at hu; subst hu; exact key _ _ p02
    | 3 => simp only [List.getElem?_cons_zero, List.getElem?_cons_succ, Option.some.injEq] at hu; subst hu; exact key _ _ p10
    | 4 => simp only [List.getElem?_cons_zero, List.getElem?_cons_succ, Option.some.injEq] at hu; subst hu; exact key _ _ p11
    | 5 => simp only [List.getElem?_cons_zero, List.getElem?_cons_succ, Option.some.injEq] at hu; subst hu; exact key _ _ p12
    | 6 => simp only [List.getElem?_cons_zero, List.getElem?_cons_succ, Option.some.injEq] at hu; subst hu; exact key _ _ p20
    | 7 => simp only [List.getElem?_cons_zero, List.getElem?_cons_succ, Option.some.injEq] at hu; subst hu; exact key _ _ p21
    | 8 => simp only [List.getElem?_cons_zero, List.getElem?_cons_succ, Option.some.injEq] at hu; subst hu; exact key _ _ p22
    | j + 9 => simp at hu
  have HOL := World.ownsRow_lit (e := 34) (size := 3) (base := w.heap.size) w #[] 0 (Nat.le_refl _) (by unfold maxLen; omega) rfl
  have HNX : Hid (∀ u ∈ ([.slice a0 3 x0, .slice c0 2 y0, .int .i64 (fs[0]?.getD ([], [], 0)).2.2, .slice a1 3 x1, .slice c1 2 y1, .int .i64 (fs[1]?.getD ([], [], 0)).2.2, .slice a2 3 x2, .slice c2 2 y2, .int .i64 (fs[2]?.getD ([], [], 0)).2.2] : List Value), u.oneCell' = true) := by
    show ∀ u ∈ _, _
    simp [Value.oneCell']
  have I0 := i0.below A
  have J0 := j0.below A
  have I1 := i1.below A
  have J1 := j1.below A
  have I2 := i2.below A
  have J2 := j2.below A
  have l0 := i0.blt (by omega)
  have m0 := j0.blt (by omega)
  have l1 := i1.blt (by omega)
  have m1 := j1.blt (by omega)
  have l2 := i2.blt (by omega)
  have m2 := j2.blt (by omega)
  have hnil : ∀ w, (binOp .eql 23 (.slice (some ⟨b, off, none⟩) 3 cp) (.slice none 0 0)).run Try.prog w = .ok (.bool false) w := fun w => Go.Lib.run_eql_slice_nil w _ _ _ _ _ _ _ Try.underlying23
  clear hP p00 p01 p02 p10 p11 p12 p20 p21 p22 i0 j0 i1 j1 i2 j2
  go_enter Try.func114, Try.ntmps114
  go_wp2_with (at_builtin; go_must (refine wpList_append_lies _ rfl (.tmp 5) (.tmp 6) 23 rfl w.heap.size 34 zi _ 3 56 Try.underlying23 hi hz0 hz1 hz2 rfl (by decide) (.slice (some ⟨w.heap.size, 0, none⟩) 0 0) 0 [] rfl HOL ⟨b, off, none⟩ 3 cp _ rfl rfl HNW.out HNX.out (by omega) (by unfold maxLen; omega) (by omega) (by rw [World.size_alloc]; omega) _ rfl ?_); intro g cpg w1 hown hgrow hat hlt1)
  have hg : w.heap.size ≤ g := by
    rcases hat with h | h
    · have h' : some w.heap.size = some g := h
      simp only [Option.some.injEq] at h'
      omega
    · rw [World.size_alloc] at h; omega
  have gT : Touch (fun k => k = w.heap.size) (w.alloc (.cells #[] 34)) w1 := ⟨hgrow.os, hgrow.tape, hgrow.output, hgrow.size, fun z hz hn => hgrow.block z hz (fun e => hn (by have e' : some z = some w.heap.size := e; simpa using e'))⟩
  have ty : ∀ {a : Option Addr} {n : Nat} {zs : List Int}, Ints (w.alloc (.cells #[] 34)) a n zs → (∀ b o, a = some ⟨b, o, none⟩ → b < w.heap.size) → Ints w1 a n zs := fun h hb => h.by gT (fun b o e => by have := hb b o e; omega)
  have bb : Below w.heap.size w w1 := A.grown hgrow A.size (fun k hk => by have h' : some w.heap.size = some k := hk; simp only [Option.some.injEq] at h'; omega)
  have jj : JC w.heap.size g cpg _ fs w1 := ⟨hown, fun i hi => by
    match i, hi with
    | 0, _ => exact ⟨a0, c0, x0, y0, rfl, rfl, rfl, ty I0 l0, ty J0 m0, fun b o e => by have := l0 b o e; omega, fun b o e => by have := m0 b o e; omega⟩
    | 1, _ => exact ⟨a1, c1, x1, y1, rfl, rfl, rfl, ty I1 l1, ty J1 m1, fun b o e => by have := l1 b o e; omega, fun b o e => by have := m1 b o e; omega⟩
    | 2, _ => exact ⟨a2, c2, x2, y2, rfl, rfl, rfl, ty I2 l2, ty J2 m2, fun b o e => by have := l2 b o e; omega, fun b o e => by have := m2 b o e; omega⟩⟩
  clear hown hgrow hat gT ty I0 J0 I1 J1 I2 J2 l0 m0 l1 m1 l2 m2
  go_wp2
  go_ret
  exact ⟨g, cpg, rfl, bb, _, jj⟩

set_option maxHeartbeats 6400000 in
theorem iadding_any (y : Way) (p : Nat) (hp : p < 3) (X : Frm) (ga : Option Addr) (ng gc : Nat) (pa : Option Addr) (cp : Nat) (ta : Option Addr) (nt tc : Nat) (st : Bool) (fa : Option Addr) (fc : Nat) (fd : Option Addr) (fe : Nat) (w : World) (hl : y.pots.length = 3) (hP : FormsAt w pa y.pots) (hX1 : Ints w fa 3 X.1) (hX2 : Ints w fd 2 X.2.1) (h1 : fitX 10000000 (y.pots[p]?.getD noX)) (h2 : fitX 10000000 X) (h3 : fitX 10000000 (plusX (y.pots[p]?.getD noX) X)) :
    Calls Try.prog 105 #[wayV ga ng gc pa cp ta nt tc st, .int .i64 (p : Int), formV fa 3 fc fd 2 fe X.2.2] w fun e w' => ∃ G cG, e = .returned (wayV ga ng gc (some ⟨G, 0, none⟩) cG ta nt tc st) ∧ Below w.heap.size w w' ∧ FormsAt w' (some ⟨G, 0, none⟩) (y.add p X).pots := by
  have HL : Hid (y.pots.length = 3) := hl
  have H1 : Hid _ := h1
  have H2 : Hid _ := h2
  have H3 : Hid _ := h3
  clear hl h1 h2 h3
  obtain ⟨W0, hW0⟩ : ∃ W0, W0 = ((w.alloc (.cells #[.slice ga ng gc, .slice pa 3 cp, .slice ta nt tc, .bool st] 109)).alloc (.cells #[.slice fa 3 fc, .slice fd 2 fe, .int .i64 X.2.2] 34)).alloc (.cells #[.slice none 0 0, .slice none 0 0, .slice none 0 0, .bool false] 109) := ⟨_, rfl⟩
  have q0 := ((Cel.new w [.slice ga ng gc, .slice pa 3 cp, .slice ta nt tc, .bool st] 109).alloc (.cells #[.slice fa 3 fc, .slice fd 2 fe, .int .i64 X.2.2] 34)).alloc (.cells #[.slice none 0 0, .slice none 0 0, .slice none 0 0, .bool false] 109)
  have f0 := (Cel.new (w.alloc (.cells #[.slice ga ng gc, .slice pa 3 cp, .slice ta nt tc, .bool st] 109)) [.slice fa 3 fc, .slice fd 2 fe, .int .i64 X.2.2] 34).alloc (.cells #[.slice none 0 0, .slice none 0 0, .slice none 0 0, .bool false] 109)
  have r0 := Cel.new ((w.alloc (.cells #[.slice ga ng gc, .slice pa 3 cp, .slice ta nt tc, .bool st] 109)).alloc (.cells #[.slice fa 3 fc, .slice fd 2 fe, .int .i64 X.2.2] 34)) [.slice none 0 0, .slice none 0 0, .slice none 0 0, .bool false] 109
  rw [World.size_alloc] at f0
  rw [World.size_alloc, World.size_alloc] at r0
  have B0 : Below w.heap.size w W0 := by rw [hW0]; exact (((Below.refl _ _).alloc (Nat.le_refl _) _).alloc (by simp) _).alloc (by simp; omega) _
  rw [← hW0] at q0 f0 r0
  go_enter Try.func105, Try.ntmps105
  go_upto_region 1 with fail
  rw [← hW0]
  clear hW0
  obtain ⟨c0, c1, c2, c3⟩ := q0.four
  have z0 := q0.lt
  have z1 := f0.lt
  have z2 := r0.lt
  go_wp2_with fail
  refine (iclone3_any _ _ y.pots _ HL.out (hP.keep B0)).mono ?_
  rintro e w1 ⟨G, cG, xs, rfl, b1, jG⟩
  have lG := jG.lt
  have q1 := q0.below b1
  have f1 := f0.below b1
  have r1 := r0.below b1
  have B1 := B0.trans (b1.mono B0.size)
  have sz1 := b1.size
  have x1 := hX1.below B1
  have x2 := hX2.below B1
  clear q0 f0 r0 c0 c1 c2 c3 b1
  obtain ⟨c0, c1, c2, c3⟩ := q1.four
  have y1 := q1.free 1
  have T1 : Touch (fun k => k = w.heap.size) w1 (w1.setCell ⟨w.heap.size, 1, none⟩ (.slice (some ⟨G, 0, none⟩) 3 cG)) := Touch.setCell (S := fun k => k = w.heap.size) (Touch.refl _ _) rfl _
  have q2 := q1.set 1 (.slice (some ⟨G, 0, none⟩) 3 cG)
  simp only [List.set_cons_zero, List.set_cons_succ] at q2
  have f2 := f1.touch T1 (fun h => by have := h; omega)
  have r2 := r1.touch T1 (fun h => by have := h; omega)
  have B2 := B1.trans (T1.below B1.size (fun k hk => by omega))
  have j2 := jG.past (by omega) (boxNo q1) T1
  have u1 := x1.past (boxNo q1) T1
  have u2 := x2.past (boxNo q1) T1
  have s2 : w1.heap.size ≤ (w1.setCell ⟨w.heap.size, 1, none⟩ (.slice (some ⟨G, 0, none⟩) 3 cG)).heap.size := T1.size
  go_upto_region 2 with fail
  clear q1 f1 r1 jG x1 x2 T1 B1 c0 c1 c2 c3 y1
  generalize (w1.setCell ⟨w.heap.size, 1, none⟩ (.slice (some ⟨G, 0, none⟩) 3 cG)) = w2 at *
  obtain ⟨pa', pc', pca, pcc, d0, d1, d2, iC, iD, nC, nD⟩ := j2.t p hp
  obtain ⟨PX, hPX⟩ : ∃ PX, PX = y.pots[p]?.getD ([], [], 0) := ⟨_, rfl⟩
  have HPX : Hid (y.pots[p]?.getD noX = PX) := hPX.symm
  rw [← hPX] at d2 iC iD
  clear hPX
  have g0 : w2.cell? ⟨G, p * 3, none⟩ = some (.slice pa' 3 pca) := (own_cell j2.o _ (by omega)).trans d0
  have g1 : w2.cell? ⟨G, p * 3 + 1, none⟩ = some (.slice pc' 2 pcc) := (own_cell j2.o _ (by omega)).trans d1
  have g2 : w2.cell? ⟨G, p * 3 + 2, none⟩ = some (.int .i64 PX.2.2) := (own_cell j2.o _ (by omega)).trans d2
  have lG2 := j2.lt
  obtain ⟨-, m1, -, -⟩ := q2.four
  obtain ⟨n0, n1, n2, -, -, -⟩ := f2.trio
  have hSS : (w2.drew.cell? ⟨w.heap.size, 1, none⟩ = some (.slice (some ⟨G, 0, none⟩) 3 cG) ∧ w2.drew.cell? ⟨w.heap.size + 1, 0, none⟩ = some (.slice fa 3 fc) ∧ w2.drew.cell? ⟨w.heap.size + 1, 1, none⟩ = some (.slice fd 2 fe) ∧ w2.drew.cell? ⟨w.heap.size + 1, 2, none⟩ = some (.int .i64 X.2.2)) ∧ (w2.drew.cell? ⟨G, p * 3, none⟩ = some (.slice pa' 3 pca) ∧ w2.drew.cell? ⟨G, p * 3 + 1, none⟩ = some (.slice pc' 2 pcc) ∧ w2.drew.cell? ⟨G, p * 3 + 2, none⟩ = some (.int .i64 PX.2.2)) := ⟨⟨m1, n0, n1, n2⟩, g0, g1, g2⟩
  have hpI : (p : Int) < 3 := by omega
  refine wp_region_ends (fun w' => w'.cell? ⟨w.heap.size, 1, none⟩ = some (.slice (some ⟨G, 0, none⟩) 3 cG) ∧ w'.cell? ⟨w.heap.size + 1, 0, none⟩ = some (.slice fa 3 fc) ∧ w'.cell? ⟨w.heap.size + 1, 1, none⟩ = some (.slice fd 2 fe) ∧ w'.cell? ⟨w.heap.size + 1, 2, none⟩ = some (.int .i64 X.2.2)) (fun w' => w'.cell? ⟨G, p * 3, none⟩ = some (.slice pa' 3 pca) ∧ w'.cell? ⟨G, p * 3 + 1, none⟩ = some (.slice pc' 2 pcc) ∧ w'.cell? ⟨G, p * 3 + 2, none⟩ = some (.int .i64 PX.2.2)) 10 (by kernel_rfl) ?_
  refine wpAnyE_take0 (i := 0) (v := ?v0) rfl (by kernel_rfl) (by kernel_rfl) (by kernel_rfl) (by decide) (fun _ _ _ h => h) (Or.inl ⟨by rfl, ?hy0⟩) hSS ?_
  case hy0 => (intro wz hSw; (try dsimp only at hSw); go_simp; try (with_reducible rfl))
  refine wpAnyE_take0 (i := 1) (v := ?v1) rfl (by kernel_rfl) (by kernel_rfl) (by kernel_rfl) (by decide) (fun _ _ _ h => h) (Or.inl ⟨by rfl, ?hy1⟩) hSS ?_
  case hy1 => (intro wz hSw; (try dsimp only at hSw); go_simp; try (with_reducible rfl))
  refine wpAnyE_take0 (i := 2) (v := ?v2) rfl (by kernel_rfl) (by kernel_rfl) (by kernel_rfl) (by decide) (fun _ _ _ h => h) (Or.inl ⟨by rfl, ?hy2⟩) hSS ?_
  case hy2 => (intro wz hSw; (try dsimp only at hSw); go_simp; try (with_reducible rfl))
  refine wpAnyE_take0 (i := 3) (v := ?v3) rfl (by kernel_rfl) (by kernel_rfl) (by kernel_rfl) (by decide) (fun _ _ _ h => h) (Or.inl ⟨by rfl, ?hy3⟩) hSS ?_
  case hy3 => (intro wz hSw; (try dsimp only at hSw); go_simp; try (with_reducible rfl))
  refine wpAnyE_take0 (i := 4) (v := ?v4) rfl (by kernel_rfl) (by kernel_rfl) (by kernel_rfl) (by decide) (fun _ _ _ h => h) (Or.inl ⟨by rfl, ?hy4⟩) hSS ?_
  case hy4 => (intro wz hSw; (try dsimp only at hSw); go_simp; try (with_reducible rfl))
  refine wpAnyE_take0 (i := 5) (v := ?v5) rfl (by kernel_rfl) (by kernel_rfl) (by kernel_rfl) (by decide) (fun _ _ _ h => h) (Or.inl ⟨by rfl, ?hy5⟩) hSS ?_
  case hy5 => (intro wz hSw; (try dsimp only at hSw); go_simp; try (with_reducible rfl))
  refine wpAnyE_take0 (i := 6) (v := ?v6) rfl (by kernel_rfl) (by kernel_rfl) (by kernel_rfl) (by decide) (fun _ _ _ h => h) (Or.inl ⟨by rfl, ?hy6⟩) hSS ?_
  case hy6 => (intro wz hSw; (try dsimp only at hSw); go_simp; try (with_reducible rfl))
  refine wpAnyE_take1 (i := 7) (v := ?v7) rfl rfl (by kernel_rfl) (by kernel_rfl) (by kernel_rfl) (by decide) (by rfl) (by simp [Region.binds]) (fun _ _ _ h => h) (Or.inl ⟨by rfl, ?hy7⟩) hSS ?_
  case hy7 => (intro wz hSw; (try dsimp only at hSw); go_simp; try (with_reducible rfl))
  refine wpAnyE_take0 (i := 8) (v := ?v8) rfl (by kernel_rfl) (by kernel_rfl) (by kernel_rfl) (by decide) (fun _ _ _ h => h) (Or.inl ⟨by rfl, ?hy8⟩) hSS ?_
  case hy8 => (intro wz hSw; (try dsimp only at hSw); go_simp; try (with_reducible rfl))
  refine wpAnyE_one (i := 9) (by kernel_rfl) rfl (fun K hK => ?_)
  go_simp
  refine (iaddX_any _ _ _ _ PX _ _ _ _ X _ (iC.below (Below.refl _ _).drew) (iD.below (Below.refl _ _).drew) (u1.below (Below.refl _ _).drew) (u2.below (Below.refl _ _).drew) (by rw [← HPX.out]; exact H1.out) H2.out (by rw [← HPX.out]; exact H3.out)).mono ?_
  rintro ee w3 ⟨E1, E2, k1', k2', rfl, bd, y1, y2, y3, v1, v2⟩
  have b3 := below_of_drew bd
  have y1x : w2.heap.size ≤ E1 := y1
  have y3x : w2.heap.size ≤ E2 := y3
  have j3 := j2.below b3
  have q3 := q2.below b3
  have f3 := f2.below b3
  have r3 := r2.below b3
  have s3 := b3.size
  obtain ⟨-, m1', -, -⟩ := q3.four
  obtain ⟨n0', n1', n2', -, -, -⟩ := f3.trio
  have hS3 : (w3.cell? ⟨w.heap.size, 1, none⟩ = some (.slice (some ⟨G, 0, none⟩) 3 cG) ∧ w3.cell? ⟨w.heap.size + 1, 0, none⟩ = some (.slice fa 3 fc) ∧ w3.cell? ⟨w.heap.size + 1, 1, none⟩ = some (.slice fd 2 fe) ∧ w3.cell? ⟨w.heap.size + 1, 2, none⟩ = some (.int .i64 X.2.2)) ∧ (w3.cell? ⟨G, p * 3, none⟩ = some (.slice pa' 3 pca) ∧ w3.cell? ⟨G, p * 3 + 1, none⟩ = some (.slice pc' 2 pcc) ∧ w3.cell? ⟨G, p * 3 + 2, none⟩ = some (.int .i64 PX.2.2)) := ⟨⟨m1', n0', n1', n2'⟩, (b3.cell (p := ⟨G, p * 3, none⟩) lG2.2).trans g0, (b3.cell (p := ⟨G, p * 3 + 1, none⟩) lG2.2).trans g1, (b3.cell (p := ⟨G, p * 3 + 2, none⟩) lG2.2).trans g2⟩
  (try dsimp only)
  refine hK.out _ _ ⟨hS3.1, fun _ => hS3.2⟩ ?_
  clear hK K hSS
  refine wpAnyE_one (i := 10) (by kernel_rfl) rfl (fun K hK => ?_)
  go_simp
  refine hK.out _ _ ⟨hS3.1, fun h => absurd (show true = false from h) (by decide)⟩ ?_
  clear hK K
  have FPN := j3.put HL.out hp (ca := k1') (cc := k2') (K := (plusX PX X).2.2) v1 (by rw [← HPX.out]; exact H3.out.c) v2 (by rw [← HPX.out]; exact H3.out.d) (by omega) (by omega)
  have fz0 := j3.frz (p * 3)
  have fz1 := j3.frz (p * 3 + 1)
  have fz2 := j3.frz (p * 3 + 2)
  obtain ⟨h0', h1', h2'⟩ := hS3.2
  have TT : Touch (fun q => q = G) w3 (((w3.setCell ⟨G, p * 3, none⟩ (.slice (some ⟨E1, 0, none⟩) 3 k1')).setCell ⟨G, p * 3 + 1, none⟩ (.slice (some ⟨E2, 0, none⟩) 2 k2')).setCell ⟨G, p * 3 + 2, none⟩ (.int .i64 (plusX PX X).2.2)) := (((Touch.refl (fun q => q = G) w3).setCell rfl _).setCell rfl _).setCell rfl _
  have q4 := q3.touch TT (fun h => by have := h; omega)
  have f4 := f3.touch TT (fun h => by have := h; omega)
  have r4 := r3.touch TT (fun h => by have := h; omega)
  have B4 := (B2.trans (b3.mono B2.size)).trans (TT.below (by have := B2.size; omega) (fun q hq => by omega))
  obtain ⟨o0, o1, o2, o3⟩ := q4.four
  obtain ⟨t0, t1, t2, -, -, -⟩ := f4.trio
  have sTT := TT.size
  refine wpAnyE_one (i := 11) (by kernel_rfl) rfl (fun K hK => ?_)
  go_simp
  refine hK.out _ _ ⟨⟨o1, t0, t1, t2⟩, fun h => absurd (show true = false from h) (by decide)⟩ ?_
  clear hK K
  refine wpAnyE_done (by kernel_rfl) ?_ _
  have eAdd : (y.add p X).pots = y.pots.set p ((plusX PX X).1, (plusX PX X).2.1, (plusX PX X).2.2) := by
    show y.pots.set p (plusX (y.pots[p]?.getD noX) X) = _
    rw [HPX.out]
  rw [← eAdd] at FPN
  clear hS3 h0' h1' h2' fz0 fz1 fz2 TT eAdd f4 f3 f2 q3 q2 r3 r2 j3 j2 B2 b3 bd v1 v2 u1 u2 iC iD g0 g1 g2 d0 d1 d2
  generalize (((w3.setCell ⟨G, p * 3, none⟩ (.slice (some ⟨E1, 0, none⟩) 3 k1')).setCell ⟨G, p * 3 + 1, none⟩ (.slice (some ⟨E2, 0, none⟩) 2 k2')).setCell ⟨G, p * 3 + 2, none⟩ (.int .i64 (plusX PX X).2.2)) = V at *
  obtain ⟨l0, l1, l2, l3⟩ := r4.four
  have fy0 := r4.free 0
  have fy1 := r4.free 1
  have fy2 := r4.free 2
  have fy3 := r4.free 3
  obtain ⟨x', T'⟩ := put4 r4 rfl (.slice ga ng gc) (.slice (some ⟨G, 0, none⟩) 3 cG) (.slice ta nt tc) (.bool st)
  have FP2 := FPN.past (boxNil r4) T'
  have B5 := B4.trans (T'.below B4.size (fun k hk => by omega))
  obtain ⟨e0, e1, e2, e3⟩ := x'.four
  have lr := r4.lt
  clear FPN r4 T' x'
  go_wp2
  refine bodyPost_ret (v := wayV ga ng gc (some ⟨G, 0, none⟩) cG ta nt tc st) (by simp [results, Try.results105, go_sem, e0, e1, e2, e3]) rfl ?_
  exact ⟨G, cG, rfl, B5, FP2⟩

end Go.Proofs.Ytemcinobgdphnaa
