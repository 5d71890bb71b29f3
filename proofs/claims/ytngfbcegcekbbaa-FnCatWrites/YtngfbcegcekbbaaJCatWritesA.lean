/-
  Lemmas that the claim's last text rests on: DrAc, DrAy, RunD, MarkS, Into, IntoS, IntoT, IntoI, IntoL, Ways, RunW, Copy, Minus, RowEnd.
-/
import Derived.Test.YtngfbcegcekbbaaDrJl
import Derived.Test.YtngfbcegcekbbaaRunC
import Derived.Test.YtngfbcegcekbbaaMade
import Derived.Deep.AppendLies
import Derived.Deep.RegionLawGrows
import Derived.Test.YtngfbcegcekbbaaAct
import Derived.Test.YtngfbcegcekbbaaKeyed
import Derived.Deep.DeepCutAuto
import Derived.Test.YtngfbcegcekbbaaPots
namespace Go.Proofs.Ytngfbcegcekbbaa
open Go.RowKit
set_option linter.unusedVariables false
set_option maxRecDepth 100000

theorem at_app {W : World} {ls : List LV} {l : LV} (h : ∀ i, i < ls.length → (ls[i]?.getD noLV).f.At W) (hl : l.f.At W) : ∀ i, i < (ls ++ [l]).length → ((ls ++ [l])[i]?.getD noLV).f.At W := fun i hi => by
  by_cases h1 : i < ls.length
  · rw [List.getElem?_append_left h1]; exact h i h1
  · have h9 : i = ls.length := by rw [List.length_append] at hi; simp at hi; omega
    subst h9
    simpa using hl

set_option maxHeartbeats 12800000 in
theorem act_f (R : Nat) (a : Option Addr) (n cap : Nat) (bs : List Int) (p : Int) (w : World) (rd : Rd w R a n cap bs p) (hp : 0 ≤ p) (hp1 : p ≤ 7000000) (ha : 0 < n → ∀ b o, a = some ⟨b, o, none⟩ → b < w.heap.size) :
    Calls Try.prog 70 #[.pointer (some ⟨R, 0, none⟩)] w fun e w' => ∃ ad N c ls q, e = .returned (.slice ad N c) ∧ JL w R a n cap bs q (.slice ad N c) ls w' ∧ ls.length = N ∧ actB N ls = true ∧ p ≤ q ∧ q ≤ p + 80 := by
  have hRl := rd.c.lt
  have TT : Touch (fun x => x = R) w w := Touch.refl _ _
  go_enter Try.func70, Try.ntmps70
  go_wp2_with fail
  refine (pick_any R a n cap bs (p) 2 _ rd (by omega) (by omega) (by omega) (by omega)).mono ?_
  rintro e w2 ⟨rv, hv0, hv1, rfl, t5, R5⟩
  obtain ⟨v, rfl⟩ := Int.eq_ofNat_of_zero_le hv0
  clear hv0
  replace TT := TT.trans t5
  replace rd := R5
  clear t5 R5
  go_wp2_with fail
  refine (pick_any R a n cap bs (p + 1) 8 _ rd (by omega) (by omega) (by omega) (by omega)).mono ?_
  rintro e w3 ⟨rj, hj0, hj1, rfl, t5, R5⟩
  obtain ⟨j, rfl⟩ := Int.eq_ofNat_of_zero_le hj0
  clear hj0
  replace TT := TT.trans t5
  replace rd := R5
  clear t5 R5
  rcases (show j = 0 ∨ j = 1 ∨ j = 2 ∨ j = 3 ∨ j = 4 ∨ j = 5 ∨ 6 ≤ j from by omega) with rfl | rfl | rfl | rfl | rfl | rfl | hj6
  · go_wp2_with fail
    have xA := TT.size
    refine (num_f (-1) 0 0 _).mono ?_
    rintro e w4 ⟨BA, DA, rfl, b5, f5⟩
    go_wp2_with fail
    refine (with_f BA DA v 1 0 _ _ _ _ f5 (by omega)).mono ?_
    rintro e w5 ⟨rfl, t6, f6⟩
    have lo6 := f5.b1
    replace b5 := b5.trans (t6.below (B := w3.heap.size) b5.size (fun z hz => by omega))
    clear f5 t6 lo6
    have f5 := f6
    clear f6
    have yA1 := f5.b1
    have yA2 := f5.b2
    have GA : FA w5 (some ⟨BA, 0, none⟩) 3 (some ⟨DA, 0, none⟩) 2 (([0, 0, 0]).set v 1, [-1, 0], 0) := ⟨f5.k1.ints' f5.l1, f5.k2.ints' f5.l2, by omega, by omega⟩
    clear f5
    replace TT := TT.trans (Touch.of b5)
    replace rd := rd.below b5
    clear b5
    have zA1 : w.heap.size ≤ BA := by omega
    have zA2 : w.heap.size ≤ DA := by omega
    go_wp2_with fail
    have xE := TT.size
    refine (num_f (-1) 0 0 _).mono ?_
    rintro e w6 ⟨BE, DE, rfl, b5, f5⟩
    have yE1 := f5.b1
    have yE2 := f5.b2
    have GE : FA w6 (some ⟨BE, 0, none⟩) 3 (some ⟨DE, 0, none⟩) 2 ([0, 0, 0], [-1, 0], 0) := ⟨f5.k1.ints' f5.l1, f5.k2.ints' f5.l2, by omega, by omega⟩
    clear f5
    replace GA := GA.below b5
    replace TT := TT.trans (Touch.of b5)
    replace rd := rd.below b5
    clear b5
    have zE1 : w.heap.size ≤ BE := by omega
    have zE2 : w.heap.size ≤ DE := by omega
    go_wp2_with fail
    have xF := TT.size
    refine (num_f 1 0 0 _).mono ?_
    rintro e w7 ⟨BF, DF, rfl, b5, f5⟩
    have yF1 := f5.b1
    have yF2 := f5.b2
    have GF : FA w7 (some ⟨BF, 0, none⟩) 3 (some ⟨DF, 0, none⟩) 2 ([0, 0, 0], [1, 0], 0) := ⟨f5.k1.ints' f5.l1, f5.k2.ints' f5.l2, by omega, by omega⟩
    clear f5
    replace GA := GA.below b5
    replace GE := GE.below b5
    replace TT := TT.trans (Touch.of b5)
    replace rd := rd.below b5
    clear b5
    have zF1 : w.heap.size ≤ BF := by omega
    have zF2 : w.heap.size ≤ DF := by omega
    go_wp2_with fail
    have xH := TT.size
    refine (num_f 1 0 (-9) _).mono ?_
    rintro e w8 ⟨BH, DH, rfl, b5, f5⟩
    have yH1 := f5.b1
    have yH2 := f5.b2
    have GH : FA w8 (some ⟨BH, 0, none⟩) 3 (some ⟨DH, 0, none⟩) 2 ([0, 0, 0], [1, 0], -9) := ⟨f5.k1.ints' f5.l1, f5.k2.ints' f5.l2, by omega, by omega⟩
    clear f5
    replace GA := GA.below b5
    replace GE := GE.below b5
    replace GF := GF.below b5
    replace TT := TT.trans (Touch.of b5)
    replace rd := rd.below b5
    clear b5
    have zH1 : w.heap.size ≤ BH := by omega
    have zH2 : w.heap.size ≤ DH := by omega
    have tA1 := GA.C.blk (by omega)
    have tA2 := GA.D.blk (by omega)
    have tE1 := GE.C.blk (by omega)
    have tE2 := GE.D.blk (by omega)
    have tF1 := GF.C.blk (by omega)
    have tF2 := GF.D.blk (by omega)
    have tH1 := GH.C.blk (by omega)
    have tH2 := GH.D.blk (by omega)
    have hsz := TT.size
    have al := (Below.refl w8.heap.size w8).alloc (Nat.le_refl _) (.cells #[.int .i64 1, .int .i64 0, .int .i64 2, .slice (some ⟨BA, 0, none⟩) 3 3, .slice (some ⟨DA, 0, none⟩) 2 2, .int .i64 0, .int .i64 2, .int .i64 (v : Int), .int .i64 0, .slice (some ⟨BE, 0, none⟩) 3 3, .slice (some ⟨DE, 0, none⟩) 2 2, .int .i64 0, .int .i64 3, .int .i64 0, .int .i64 0, .slice (some ⟨BF, 0, none⟩) 3 3, .slice (some ⟨DF, 0, none⟩) 2 2, .int .i64 0, .int .i64 1, .int .i64 0, .int .i64 1, .slice (some ⟨BH, 0, none⟩) 3 3, .slice (some ⟨DH, 0, none⟩) 2 2, .int .i64 (-9), .int .i64 4, .int .i64 0, .int .i64 0, .slice none 0 0, .slice none 0 0, .int .i64 0] 34)
    have o := World.ownsRow_lit (base := w.heap.size) (e := 34) (size := 6) w8 #[.int .i64 1, .int .i64 0, .int .i64 2, .slice (some ⟨BA, 0, none⟩) 3 3, .slice (some ⟨DA, 0, none⟩) 2 2, .int .i64 0, .int .i64 2, .int .i64 (v : Int), .int .i64 0, .slice (some ⟨BE, 0, none⟩) 3 3, .slice (some ⟨DE, 0, none⟩) 2 2, .int .i64 0, .int .i64 3, .int .i64 0, .int .i64 0, .slice (some ⟨BF, 0, none⟩) 3 3, .slice (some ⟨DF, 0, none⟩) 2 2, .int .i64 0, .int .i64 1, .int .i64 0, .int .i64 1, .slice (some ⟨BH, 0, none⟩) 3 3, .slice (some ⟨DH, 0, none⟩) 2 2, .int .i64 (-9), .int .i64 4, .int .i64 0, .int .i64 0, .slice none 0 0, .slice none 0 0, .int .i64 0] 5 hsz (by unfold maxLen; omega) rfl
    have hws := al.size
    replace GA := GA.below al
    replace GE := GE.below al
    replace GF := GF.below al
    replace GH := GH.below al
    replace TT := TT.trans (Touch.of al)
    replace rd := rd.below al
    clear al
    go_wp2
    go_ret
    refine ⟨_, 5, 5, [⟨1, 0, 2, ⟨some ⟨BA, 0, none⟩, 3, 3, some ⟨DA, 0, none⟩, 2, 2, 0, ([0, 0, 0]).set v 1, [-1, 0]⟩⟩, ⟨2, (v : Int), 0, ⟨some ⟨BE, 0, none⟩, 3, 3, some ⟨DE, 0, none⟩, 2, 2, 0, [0, 0, 0], [-1, 0]⟩⟩, ⟨3, 0, 0, ⟨some ⟨BF, 0, none⟩, 3, 3, some ⟨DF, 0, none⟩, 2, 2, 0, [0, 0, 0], [1, 0]⟩⟩, ⟨1, 0, 1, ⟨some ⟨BH, 0, none⟩, 3, 3, some ⟨DH, 0, none⟩, 2, 2, (-9), [0, 0, 0], [1, 0]⟩⟩, ⟨4, 0, 0, noFV⟩], _, rfl, ⟨TT, rd, o, fun i hi => ?_, fun i hi b o e => ?_, fun i hi b o e => ?_, hRl, ha⟩, rfl, by rcases v with _ | _ | v; rfl; rfl; omega, by omega, by omega⟩
    · rcases i with _ | _ | _ | _ | _ | i
      · exact ⟨GA.C, GA.D, show 3 ≤ 1048576 by omega, show 2 ≤ 1048576 by omega⟩
      · exact ⟨GE.C, GE.D, show 3 ≤ 1048576 by omega, show 2 ≤ 1048576 by omega⟩
      · exact ⟨GF.C, GF.D, show 3 ≤ 1048576 by omega, show 2 ≤ 1048576 by omega⟩
      · exact ⟨GH.C, GH.D, show 3 ≤ 1048576 by omega, show 2 ≤ 1048576 by omega⟩
      · exact ⟨⟨rfl, fun i hi => absurd hi (Nat.not_lt_zero _)⟩, ⟨rfl, fun i hi => absurd hi (Nat.not_lt_zero _)⟩, Nat.zero_le _, Nat.zero_le _⟩
      · simp only [List.length_cons, List.length_nil] at hi; omega
    · rcases i with _ | _ | _ | _ | _ | i
      · have e9 : (some ⟨BA, 0, none⟩ : Option Addr) = some ⟨b, o, none⟩ := e; simp only [Option.some.injEq, Addr.mk.injEq] at e9; exact ⟨by omega, by omega, by simp only [Value.ownBlock, ne_eq, Option.some.injEq]; omega⟩
      · have e9 : (some ⟨BE, 0, none⟩ : Option Addr) = some ⟨b, o, none⟩ := e; simp only [Option.some.injEq, Addr.mk.injEq] at e9; exact ⟨by omega, by omega, by simp only [Value.ownBlock, ne_eq, Option.some.injEq]; omega⟩
      · have e9 : (some ⟨BF, 0, none⟩ : Option Addr) = some ⟨b, o, none⟩ := e; simp only [Option.some.injEq, Addr.mk.injEq] at e9; exact ⟨by omega, by omega, by simp only [Value.ownBlock, ne_eq, Option.some.injEq]; omega⟩
      · have e9 : (some ⟨BH, 0, none⟩ : Option Addr) = some ⟨b, o, none⟩ := e; simp only [Option.some.injEq, Addr.mk.injEq] at e9; exact ⟨by omega, by omega, by simp only [Value.ownBlock, ne_eq, Option.some.injEq]; omega⟩
      · cases e
      · simp only [List.length_cons, List.length_nil] at hi; omega
    · rcases i with _ | _ | _ | _ | _ | i
      · have e9 : (some ⟨DA, 0, none⟩ : Option Addr) = some ⟨b, o, none⟩ := e; simp only [Option.some.injEq, Addr.mk.injEq] at e9; exact ⟨by omega, by omega, by simp only [Value.ownBlock, ne_eq, Option.some.injEq]; omega⟩
      · have e9 : (some ⟨DE, 0, none⟩ : Option Addr) = some ⟨b, o, none⟩ := e; simp only [Option.some.injEq, Addr.mk.injEq] at e9; exact ⟨by omega, by omega, by simp only [Value.ownBlock, ne_eq, Option.some.injEq]; omega⟩
      · have e9 : (some ⟨DF, 0, none⟩ : Option Addr) = some ⟨b, o, none⟩ := e; simp only [Option.some.injEq, Addr.mk.injEq] at e9; exact ⟨by omega, by omega, by simp only [Value.ownBlock, ne_eq, Option.some.injEq]; omega⟩
      · have e9 : (some ⟨DH, 0, none⟩ : Option Addr) = some ⟨b, o, none⟩ := e; simp only [Option.some.injEq, Addr.mk.injEq] at e9; exact ⟨by omega, by omega, by simp only [Value.ownBlock, ne_eq, Option.some.injEq]; omega⟩
      · cases e
      · simp only [List.length_cons, List.length_nil] at hi; omega
  · go_wp2_with fail
    have xA := TT.size
    refine (num_f (-1) 0 0 _).mono ?_
    rintro e w4 ⟨BA, DA, rfl, b5, f5⟩
    go_wp2_with fail
    refine (with_f BA DA v 1 0 _ _ _ _ f5 (by omega)).mono ?_
    rintro e w5 ⟨rfl, t6, f6⟩
    have lo6 := f5.b1
    replace b5 := b5.trans (t6.below (B := w3.heap.size) b5.size (fun z hz => by omega))
    clear f5 t6 lo6
    have f5 := f6
    clear f6
    have yA1 := f5.b1
    have yA2 := f5.b2
    have GA : FA w5 (some ⟨BA, 0, none⟩) 3 (some ⟨DA, 0, none⟩) 2 (([0, 0, 0]).set v 1, [-1, 0], 0) := ⟨f5.k1.ints' f5.l1, f5.k2.ints' f5.l2, by omega, by omega⟩
    clear f5
    replace TT := TT.trans (Touch.of b5)
    replace rd := rd.below b5
    clear b5
    have zA1 : w.heap.size ≤ BA := by omega
    have zA2 : w.heap.size ≤ DA := by omega
    go_wp2_with fail
    have xE := TT.size
    refine (num_f (-1) 0 0 _).mono ?_
    rintro e w6 ⟨BE, DE, rfl, b5, f5⟩
    have yE1 := f5.b1
    have yE2 := f5.b2
    have GE : FA w6 (some ⟨BE, 0, none⟩) 3 (some ⟨DE, 0, none⟩) 2 ([0, 0, 0], [-1, 0], 0) := ⟨f5.k1.ints' f5.l1, f5.k2.ints' f5.l2, by omega, by omega⟩
    clear f5
    replace GA := GA.below b5
    replace TT := TT.trans (Touch.of b5)
    replace rd := rd.below b5
    clear b5
    have zE1 : w.heap.size ≤ BE := by omega
    have zE2 : w.heap.size ≤ DE := by omega
    go_wp2_with fail
    have xF := TT.size
    refine (num_f 1 0 0 _).mono ?_
    rintro e w7 ⟨BF, DF, rfl, b5, f5⟩
    have yF1 := f5.b1
    have yF2 := f5.b2
    have GF : FA w7 (some ⟨BF, 0, none⟩) 3 (some ⟨DF, 0, none⟩) 2 ([0, 0, 0], [1, 0], 0) := ⟨f5.k1.ints' f5.l1, f5.k2.ints' f5.l2, by omega, by omega⟩
    clear f5
    replace GA := GA.below b5
    replace GE := GE.below b5
    replace TT := TT.trans (Touch.of b5)
    replace rd := rd.below b5
    clear b5
    have zF1 : w.heap.size ≤ BF := by omega
    have zF2 : w.heap.size ≤ DF := by omega
    go_wp2_with fail
    have xH := TT.size
    refine (num_f 1 0 (-9) _).mono ?_
    rintro e w8 ⟨BH, DH, rfl, b5, f5⟩
    have yH1 := f5.b1
    have yH2 := f5.b2
    have GH : FA w8 (some ⟨BH, 0, none⟩) 3 (some ⟨DH, 0, none⟩) 2 ([0, 0, 0], [1, 0], -9) := ⟨f5.k1.ints' f5.l1, f5.k2.ints' f5.l2, by omega, by omega⟩
    clear f5
    replace GA := GA.below b5
    replace GE := GE.below b5
    replace GF := GF.below b5
    replace TT := TT.trans (Touch.of b5)
    replace rd := rd.below b5
    clear b5
    have zH1 : w.heap.size ≤ BH := by omega
    have zH2 : w.heap.size ≤ DH := by omega
    have tA1 := GA.C.blk (by omega)
    have tA2 := GA.D.blk (by omega)
    have tE1 := GE.C.blk (by omega)
    have tE2 := GE.D.blk (by omega)
    have tF1 := GF.C.blk (by omega)
    have tF2 := GF.D.blk (by omega)
    have tH1 := GH.C.blk (by omega)
    have tH2 := GH.D.blk (by omega)
    have hsz := TT.size
    have al := (Below.refl w8.heap.size w8).alloc (Nat.le_refl _) (.cells #[.int .i64 1, .int .i64 0, .int .i64 2, .slice (some ⟨BA, 0, none⟩) 3 3, .slice (some ⟨DA, 0, none⟩) 2 2, .int .i64 0, .int .i64 2, .int .i64 (v : Int), .int .i64 0, .slice (some ⟨BE, 0, none⟩) 3 3, .slice (some ⟨DE, 0, none⟩) 2 2, .int .i64 0, .int .i64 3, .int .i64 0, .int .i64 0, .slice (some ⟨BF, 0, none⟩) 3 3, .slice (some ⟨DF, 0, none⟩) 2 2, .int .i64 0, .int .i64 1, .int .i64 0, .int .i64 1, .slice (some ⟨BH, 0, none⟩) 3 3, .slice (some ⟨DH, 0, none⟩) 2 2, .int .i64 (-9), .int .i64 4, .int .i64 0, .int .i64 0, .slice none 0 0, .slice none 0 0, .int .i64 0] 34)
    have o := World.ownsRow_lit (base := w.heap.size) (e := 34) (size := 6) w8 #[.int .i64 1, .int .i64 0, .int .i64 2, .slice (some ⟨BA, 0, none⟩) 3 3, .slice (some ⟨DA, 0, none⟩) 2 2, .int .i64 0, .int .i64 2, .int .i64 (v : Int), .int .i64 0, .slice (some ⟨BE, 0, none⟩) 3 3, .slice (some ⟨DE, 0, none⟩) 2 2, .int .i64 0, .int .i64 3, .int .i64 0, .int .i64 0, .slice (some ⟨BF, 0, none⟩) 3 3, .slice (some ⟨DF, 0, none⟩) 2 2, .int .i64 0, .int .i64 1, .int .i64 0, .int .i64 1, .slice (some ⟨BH, 0, none⟩) 3 3, .slice (some ⟨DH, 0, none⟩) 2 2, .int .i64 (-9), .int .i64 4, .int .i64 0, .int .i64 0, .slice none 0 0, .slice none 0 0, .int .i64 0] 5 hsz (by unfold maxLen; omega) rfl
    have hws := al.size
    replace GA := GA.below al
    replace GE := GE.below al
    replace GF := GF.below al
    replace GH := GH.below al
    replace TT := TT.trans (Touch.of al)
    replace rd := rd.below al
    clear al
    go_wp2
    go_ret
    refine ⟨_, 5, 5, [⟨1, 0, 2, ⟨some ⟨BA, 0, none⟩, 3, 3, some ⟨DA, 0, none⟩, 2, 2, 0, ([0, 0, 0]).set v 1, [-1, 0]⟩⟩, ⟨2, (v : Int), 0, ⟨some ⟨BE, 0, none⟩, 3, 3, some ⟨DE, 0, none⟩, 2, 2, 0, [0, 0, 0], [-1, 0]⟩⟩, ⟨3, 0, 0, ⟨some ⟨BF, 0, none⟩, 3, 3, some ⟨DF, 0, none⟩, 2, 2, 0, [0, 0, 0], [1, 0]⟩⟩, ⟨1, 0, 1, ⟨some ⟨BH, 0, none⟩, 3, 3, some ⟨DH, 0, none⟩, 2, 2, (-9), [0, 0, 0], [1, 0]⟩⟩, ⟨4, 0, 0, noFV⟩], _, rfl, ⟨TT, rd, o, fun i hi => ?_, fun i hi b o e => ?_, fun i hi b o e => ?_, hRl, ha⟩, rfl, by rcases v with _ | _ | v; rfl; rfl; omega, by omega, by omega⟩
    · rcases i with _ | _ | _ | _ | _ | i
      · exact ⟨GA.C, GA.D, show 3 ≤ 1048576 by omega, show 2 ≤ 1048576 by omega⟩
      · exact ⟨GE.C, GE.D, show 3 ≤ 1048576 by omega, show 2 ≤ 1048576 by omega⟩
      · exact ⟨GF.C, GF.D, show 3 ≤ 1048576 by omega, show 2 ≤ 1048576 by omega⟩
      · exact ⟨GH.C, GH.D, show 3 ≤ 1048576 by omega, show 2 ≤ 1048576 by omega⟩
      · exact ⟨⟨rfl, fun i hi => absurd hi (Nat.not_lt_zero _)⟩, ⟨rfl, fun i hi => absurd hi (Nat.not_lt_zero _)⟩, Nat.zero_le _, Nat.zero_le _⟩
      · simp only [List.length_cons, List.length_nil] at hi; omega
    · rcases i with _ | _ | _ | _ | _ | i
      · have e9 : (some ⟨BA, 0, none⟩ : Option Addr) = some ⟨b, o, none⟩ := e; simp only [Option.some.injEq, Addr.mk.injEq] at e9; exact ⟨by omega, by omega, by simp only [Value.ownBlock, ne_eq, Option.some.injEq]; omega⟩
      · have e9 : (some ⟨BE, 0, none⟩ : Option Addr) = some ⟨b, o, none⟩ := e; simp only [Option.some.injEq, Addr.mk.injEq] at e9; exact ⟨by omega, by omega, by simp only [Value.ownBlock, ne_eq, Option.some.injEq]; omega⟩
      · have e9 : (some ⟨BF, 0, none⟩ : Option Addr) = some ⟨b, o, none⟩ := e; simp only [Option.some.injEq, Addr.mk.injEq] at e9; exact ⟨by omega, by omega, by simp only [Value.ownBlock, ne_eq, Option.some.injEq]; omega⟩
      · have e9 : (some ⟨BH, 0, none⟩ : Option Addr) = some ⟨b, o, none⟩ := e; simp only [Option.some.injEq, Addr.mk.injEq] at e9; exact ⟨by omega, by omega, by simp only [Value.ownBlock, ne_eq, Option.some.injEq]; omega⟩
      · cases e
      · simp only [List.length_cons, List.length_nil] at hi; omega
    · rcases i with _ | _ | _ | _ | _ | i
      · have e9 : (some ⟨DA, 0, none⟩ : Option Addr) = some ⟨b, o, none⟩ := e; simp only [Option.some.injEq, Addr.mk.injEq] at e9; exact ⟨by omega, by omega, by simp only [Value.ownBlock, ne_eq, Option.some.injEq]; omega⟩
      · have e9 : (some ⟨DE, 0, none⟩ : Option Addr) = some ⟨b, o, none⟩ := e; simp only [Option.some.injEq, Addr.mk.injEq] at e9; exact ⟨by omega, by omega, by simp only [Value.ownBlock, ne_eq, Option.some.injEq]; omega⟩
      · have e9 : (some ⟨DF, 0, none⟩ : Option Addr) = some ⟨b, o, none⟩ := e; simp only [Option.some.injEq, Addr.mk.injEq] at e9; exact ⟨by omega, by omega, by simp only [Value.ownBlock, ne_eq, Option.some.injEq]; omega⟩
      · have e9 : (some ⟨DH, 0, none⟩ : Option Addr) = some ⟨b, o, none⟩ := e; simp only [Option.some.injEq, Addr.mk.injEq] at e9; exact ⟨by omega, by omega, by simp only [Value.ownBlock, ne_eq, Option.some.injEq]; omega⟩
      · cases e
      · simp only [List.length_cons, List.length_nil] at hi; omega
  · go_wp2_with fail
    have xA := TT.size
    refine (num_f 1 0 0 _).mono ?_
    rintro e w4 ⟨BA, DA, rfl, b5, f5⟩
    have yA1 := f5.b1
    have yA2 := f5.b2
    have GA : FA w4 (some ⟨BA, 0, none⟩) 3 (some ⟨DA, 0, none⟩) 2 ([0, 0, 0], [1, 0], 0) := ⟨f5.k1.ints' f5.l1, f5.k2.ints' f5.l2, by omega, by omega⟩
    clear f5
    replace TT := TT.trans (Touch.of b5)
    replace rd := rd.below b5
    clear b5
    have zA1 : w.heap.size ≤ BA := by omega
    have zA2 : w.heap.size ≤ DA := by omega
    have tA1 := GA.C.blk (by omega)
    have tA2 := GA.D.blk (by omega)
    have hsz := TT.size
    have al := (Below.refl w4.heap.size w4).alloc (Nat.le_refl _) (.cells #[.int .i64 2, .int .i64 (v : Int), .int .i64 0, .slice (some ⟨BA, 0, none⟩) 3 3, .slice (some ⟨DA, 0, none⟩) 2 2, .int .i64 0] 34)
    have o := World.ownsRow_lit (base := w.heap.size) (e := 34) (size := 6) w4 #[.int .i64 2, .int .i64 (v : Int), .int .i64 0, .slice (some ⟨BA, 0, none⟩) 3 3, .slice (some ⟨DA, 0, none⟩) 2 2, .int .i64 0] 1 hsz (by unfold maxLen; omega) rfl
    have hws := al.size
    replace GA := GA.below al
    replace TT := TT.trans (Touch.of al)
    replace rd := rd.below al
    clear al
    go_wp2
    go_ret
    refine ⟨_, 1, 1, [⟨2, (v : Int), 0, ⟨some ⟨BA, 0, none⟩, 3, 3, some ⟨DA, 0, none⟩, 2, 2, 0, [0, 0, 0], [1, 0]⟩⟩], _, rfl, ⟨TT, rd, o, fun i hi => ?_, fun i hi b o e => ?_, fun i hi b o e => ?_, hRl, ha⟩, rfl, by rcases v with _ | _ | v; rfl; rfl; omega, by omega, by omega⟩
    · rcases i with _ | i
      · exact ⟨GA.C, GA.D, show 3 ≤ 1048576 by omega, show 2 ≤ 1048576 by omega⟩
      · simp only [List.length_cons, List.length_nil] at hi; omega
    · rcases i with _ | i
      · have e9 : (some ⟨BA, 0, none⟩ : Option Addr) = some ⟨b, o, none⟩ := e; simp only [Option.some.injEq, Addr.mk.injEq] at e9; exact ⟨by omega, by omega, by simp only [Value.ownBlock, ne_eq, Option.some.injEq]; omega⟩
      · simp only [List.length_cons, List.length_nil] at hi; omega
    · rcases i with _ | i
      · have e9 : (some ⟨DA, 0, none⟩ : Option Addr) = some ⟨b, o, none⟩ := e; simp only [Option.some.injEq, Addr.mk.injEq] at e9; exact ⟨by omega, by omega, by simp only [Value.ownBlock, ne_eq, Option.some.injEq]; omega⟩
      · simp only [List.length_cons, List.length_nil] at hi; omega
  · go_wp2_with fail
    have xA := TT.size
    refine (num_f (-1) 0 0 _).mono ?_
    rintro e w4 ⟨BA, DA, rfl, b5, f5⟩
    go_wp2_with fail
    refine (with_f BA DA v 1 0 _ _ _ _ f5 (by omega)).mono ?_
    rintro e w5 ⟨rfl, t6, f6⟩
    have lo6 := f5.b1
    replace b5 := b5.trans (t6.below (B := w3.heap.size) b5.size (fun z hz => by omega))
    clear f5 t6 lo6
    have f5 := f6
    clear f6
    have yA1 := f5.b1
    have yA2 := f5.b2
    have GA : FA w5 (some ⟨BA, 0, none⟩) 3 (some ⟨DA, 0, none⟩) 2 (([0, 0, 0]).set v 1, [-1, 0], 0) := ⟨f5.k1.ints' f5.l1, f5.k2.ints' f5.l2, by omega, by omega⟩
    clear f5
    replace TT := TT.trans (Touch.of b5)
    replace rd := rd.below b5
    clear b5
    have zA1 : w.heap.size ≤ BA := by omega
    have zA2 : w.heap.size ≤ DA := by omega
    go_wp2_with fail
    have xE := TT.size
    refine (num_f (-1) 0 0 _).mono ?_
    rintro e w6 ⟨BE, DE, rfl, b5, f5⟩
    have yE1 := f5.b1
    have yE2 := f5.b2
    have GE : FA w6 (some ⟨BE, 0, none⟩) 3 (some ⟨DE, 0, none⟩) 2 ([0, 0, 0], [-1, 0], 0) := ⟨f5.k1.ints' f5.l1, f5.k2.ints' f5.l2, by omega, by omega⟩
    clear f5
    replace GA := GA.below b5
    replace TT := TT.trans (Touch.of b5)
    replace rd := rd.below b5
    clear b5
    have zE1 : w.heap.size ≤ BE := by omega
    have zE2 : w.heap.size ≤ DE := by omega
    go_wp2_with fail
    have xF := TT.size
    refine (num_f 1 0 0 _).mono ?_
    rintro e w7 ⟨BF, DF, rfl, b5, f5⟩
    have yF1 := f5.b1
    have yF2 := f5.b2
    have GF : FA w7 (some ⟨BF, 0, none⟩) 3 (some ⟨DF, 0, none⟩) 2 ([0, 0, 0], [1, 0], 0) := ⟨f5.k1.ints' f5.l1, f5.k2.ints' f5.l2, by omega, by omega⟩
    clear f5
    replace GA := GA.below b5
    replace GE := GE.below b5
    replace TT := TT.trans (Touch.of b5)
    replace rd := rd.below b5
    clear b5
    have zF1 : w.heap.size ≤ BF := by omega
    have zF2 : w.heap.size ≤ DF := by omega
    have tA1 := GA.C.blk (by omega)
    have tA2 := GA.D.blk (by omega)
    have tE1 := GE.C.blk (by omega)
    have tE2 := GE.D.blk (by omega)
    have tF1 := GF.C.blk (by omega)
    have tF2 := GF.D.blk (by omega)
    have hsz := TT.size
    have al := (Below.refl w7.heap.size w7).alloc (Nat.le_refl _) (.cells #[.int .i64 1, .int .i64 0, .int .i64 2, .slice (some ⟨BA, 0, none⟩) 3 3, .slice (some ⟨DA, 0, none⟩) 2 2, .int .i64 0, .int .i64 2, .int .i64 (v : Int), .int .i64 0, .slice (some ⟨BE, 0, none⟩) 3 3, .slice (some ⟨DE, 0, none⟩) 2 2, .int .i64 0, .int .i64 2, .int .i64 (1 - (v : Int)), .int .i64 0, .slice (some ⟨BF, 0, none⟩) 3 3, .slice (some ⟨DF, 0, none⟩) 2 2, .int .i64 0] 34)
    have o := World.ownsRow_lit (base := w.heap.size) (e := 34) (size := 6) w7 #[.int .i64 1, .int .i64 0, .int .i64 2, .slice (some ⟨BA, 0, none⟩) 3 3, .slice (some ⟨DA, 0, none⟩) 2 2, .int .i64 0, .int .i64 2, .int .i64 (v : Int), .int .i64 0, .slice (some ⟨BE, 0, none⟩) 3 3, .slice (some ⟨DE, 0, none⟩) 2 2, .int .i64 0, .int .i64 2, .int .i64 (1 - (v : Int)), .int .i64 0, .slice (some ⟨BF, 0, none⟩) 3 3, .slice (some ⟨DF, 0, none⟩) 2 2, .int .i64 0] 3 hsz (by unfold maxLen; omega) rfl
    have hws := al.size
    replace GA := GA.below al
    replace GE := GE.below al
    replace GF := GF.below al
    replace TT := TT.trans (Touch.of al)
    replace rd := rd.below al
    clear al
    go_wp2
    go_ret
    refine ⟨_, 3, 3, [⟨1, 0, 2, ⟨some ⟨BA, 0, none⟩, 3, 3, some ⟨DA, 0, none⟩, 2, 2, 0, ([0, 0, 0]).set v 1, [-1, 0]⟩⟩, ⟨2, (v : Int), 0, ⟨some ⟨BE, 0, none⟩, 3, 3, some ⟨DE, 0, none⟩, 2, 2, 0, [0, 0, 0], [-1, 0]⟩⟩, ⟨2, (1 - (v : Int)), 0, ⟨some ⟨BF, 0, none⟩, 3, 3, some ⟨DF, 0, none⟩, 2, 2, 0, [0, 0, 0], [1, 0]⟩⟩], _, rfl, ⟨TT, rd, o, fun i hi => ?_, fun i hi b o e => ?_, fun i hi b o e => ?_, hRl, ha⟩, rfl, by rcases v with _ | _ | v; rfl; rfl; omega, by omega, by omega⟩
    · rcases i with _ | _ | _ | i
      · exact ⟨GA.C, GA.D, show 3 ≤ 1048576 by omega, show 2 ≤ 1048576 by omega⟩
      · exact ⟨GE.C, GE.D, show 3 ≤ 1048576 by omega, show 2 ≤ 1048576 by omega⟩
      · exact ⟨GF.C, GF.D, show 3 ≤ 1048576 by omega, show 2 ≤ 1048576 by omega⟩
      · simp only [List.length_cons, List.length_nil] at hi; omega
    · rcases i with _ | _ | _ | i
      · have e9 : (some ⟨BA, 0, none⟩ : Option Addr) = some ⟨b, o, none⟩ := e; simp only [Option.some.injEq, Addr.mk.injEq] at e9; exact ⟨by omega, by omega, by simp only [Value.ownBlock, ne_eq, Option.some.injEq]; omega⟩
      · have e9 : (some ⟨BE, 0, none⟩ : Option Addr) = some ⟨b, o, none⟩ := e; simp only [Option.some.injEq, Addr.mk.injEq] at e9; exact ⟨by omega, by omega, by simp only [Value.ownBlock, ne_eq, Option.some.injEq]; omega⟩
      · have e9 : (some ⟨BF, 0, none⟩ : Option Addr) = some ⟨b, o, none⟩ := e; simp only [Option.some.injEq, Addr.mk.injEq] at e9; exact ⟨by omega, by omega, by simp only [Value.ownBlock, ne_eq, Option.some.injEq]; omega⟩
      · simp only [List.length_cons, List.length_nil] at hi; omega
    · rcases i with _ | _ | _ | i
      · have e9 : (some ⟨DA, 0, none⟩ : Option Addr) = some ⟨b, o, none⟩ := e; simp only [Option.some.injEq, Addr.mk.injEq] at e9; exact ⟨by omega, by omega, by simp only [Value.ownBlock, ne_eq, Option.some.injEq]; omega⟩
      · have e9 : (some ⟨DE, 0, none⟩ : Option Addr) = some ⟨b, o, none⟩ := e; simp only [Option.some.injEq, Addr.mk.injEq] at e9; exact ⟨by omega, by omega, by simp only [Value.ownBlock, ne_eq, Option.some.injEq]; omega⟩
      · have e9 : (some ⟨DF, 0, none⟩ : Option Addr) = some ⟨b, o, none⟩ := e; simp only [Option.some.injEq, Addr.mk.injEq] at e9; exact ⟨by omega, by omega, by simp only [Value.ownBlock, ne_eq, Option.some.injEq]; omega⟩
      · simp only [List.length_cons, List.length_nil] at hi; omega
  · go_wp2_with fail
    have xA := TT.size
    refine (num_f 0 0 0 _).mono ?_
    rintro e w4 ⟨BA, DA, rfl, b5, f5⟩
    go_wp2_with fail
    refine (with_f BA DA 2 1 0 _ _ _ _ f5 (by omega)).mono ?_
    rintro e w5 ⟨rfl, t6, f6⟩
    have lo6 := f5.b1
    replace b5 := b5.trans (t6.below (B := w3.heap.size) b5.size (fun z hz => by omega))
    clear f5 t6 lo6
    have f5 := f6
    clear f6
    have yA1 := f5.b1
    have yA2 := f5.b2
    have GA : FA w5 (some ⟨BA, 0, none⟩) 3 (some ⟨DA, 0, none⟩) 2 (([0, 0, 0]).set 2 1, [0, 0], 0) := ⟨f5.k1.ints' f5.l1, f5.k2.ints' f5.l2, by omega, by omega⟩
    clear f5
    replace TT := TT.trans (Touch.of b5)
    replace rd := rd.below b5
    clear b5
    have zA1 : w.heap.size ≤ BA := by omega
    have zA2 : w.heap.size ≤ DA := by omega
    have tA1 := GA.C.blk (by omega)
    have tA2 := GA.D.blk (by omega)
    have hsz := TT.size
    have al := (Below.refl w5.heap.size w5).alloc (Nat.le_refl _) (.cells #[.int .i64 3, .int .i64 0, .int .i64 0, .slice (some ⟨BA, 0, none⟩) 3 3, .slice (some ⟨DA, 0, none⟩) 2 2, .int .i64 0] 34)
    have o := World.ownsRow_lit (base := w.heap.size) (e := 34) (size := 6) w5 #[.int .i64 3, .int .i64 0, .int .i64 0, .slice (some ⟨BA, 0, none⟩) 3 3, .slice (some ⟨DA, 0, none⟩) 2 2, .int .i64 0] 1 hsz (by unfold maxLen; omega) rfl
    have hws := al.size
    replace GA := GA.below al
    replace TT := TT.trans (Touch.of al)
    replace rd := rd.below al
    clear al
    go_wp2
    go_ret
    refine ⟨_, 1, 1, [⟨3, 0, 0, ⟨some ⟨BA, 0, none⟩, 3, 3, some ⟨DA, 0, none⟩, 2, 2, 0, ([0, 0, 0]).set 2 1, [0, 0]⟩⟩], _, rfl, ⟨TT, rd, o, fun i hi => ?_, fun i hi b o e => ?_, fun i hi b o e => ?_, hRl, ha⟩, rfl, rfl, by omega, by omega⟩
    · rcases i with _ | i
      · exact ⟨GA.C, GA.D, show 3 ≤ 1048576 by omega, show 2 ≤ 1048576 by omega⟩
      · simp only [List.length_cons, List.length_nil] at hi; omega
    · rcases i with _ | i
      · have e9 : (some ⟨BA, 0, none⟩ : Option Addr) = some ⟨b, o, none⟩ := e; simp only [Option.some.injEq, Addr.mk.injEq] at e9; exact ⟨by omega, by omega, by simp only [Value.ownBlock, ne_eq, Option.some.injEq]; omega⟩
      · simp only [List.length_cons, List.length_nil] at hi; omega
    · rcases i with _ | i
      · have e9 : (some ⟨DA, 0, none⟩ : Option Addr) = some ⟨b, o, none⟩ := e; simp only [Option.some.injEq, Addr.mk.injEq] at e9; exact ⟨by omega, by omega, by simp only [Value.ownBlock, ne_eq, Option.some.injEq]; omega⟩
      · simp only [List.length_cons, List.length_nil] at hi; omega
  · go_wp2_with fail
    have xA := TT.size
    refine (num_f 0 1 5 _).mono ?_
    rintro e w4 ⟨BA, DA, rfl, b5, f5⟩
    go_wp2_with fail
    refine (with_f BA DA 0 1 5 _ _ _ _ f5 (by omega)).mono ?_
    rintro e w5 ⟨rfl, t6, f6⟩
    have lo6 := f5.b1
    replace b5 := b5.trans (t6.below (B := w3.heap.size) b5.size (fun z hz => by omega))
    clear f5 t6 lo6
    have f5 := f6
    clear f6
    go_wp2_with fail
    refine (with_f BA DA 1 (-1) 5 _ _ _ _ f5 (by omega)).mono ?_
    rintro e w6 ⟨rfl, t6, f6⟩
    have lo6 := f5.b1
    replace b5 := b5.trans (t6.below (B := w3.heap.size) b5.size (fun z hz => by omega))
    clear f5 t6 lo6
    have f5 := f6
    clear f6
    have yA1 := f5.b1
    have yA2 := f5.b2
    have GA : FA w6 (some ⟨BA, 0, none⟩) 3 (some ⟨DA, 0, none⟩) 2 ((([0, 0, 0]).set 0 1).set 1 (-1), [0, 1], 5) := ⟨f5.k1.ints' f5.l1, f5.k2.ints' f5.l2, by omega, by omega⟩
    clear f5
    replace TT := TT.trans (Touch.of b5)
    replace rd := rd.below b5
    clear b5
    have zA1 : w.heap.size ≤ BA := by omega
    have zA2 : w.heap.size ≤ DA := by omega
    go_wp2_with fail
    have xE := TT.size
    refine (num_f 0 0 1 _).mono ?_
    rintro e w7 ⟨BE, DE, rfl, b5, f5⟩
    have yE1 := f5.b1
    have yE2 := f5.b2
    have GE : FA w7 (some ⟨BE, 0, none⟩) 3 (some ⟨DE, 0, none⟩) 2 ([0, 0, 0], [0, 0], 1) := ⟨f5.k1.ints' f5.l1, f5.k2.ints' f5.l2, by omega, by omega⟩
    clear f5
    replace GA := GA.below b5
    replace TT := TT.trans (Touch.of b5)
    replace rd := rd.below b5
    clear b5
    have zE1 : w.heap.size ≤ BE := by omega
    have zE2 : w.heap.size ≤ DE := by omega
    have tA1 := GA.C.blk (by omega)
    have tA2 := GA.D.blk (by omega)
    have tE1 := GE.C.blk (by omega)
    have tE2 := GE.D.blk (by omega)
    have hsz := TT.size
    have al := (Below.refl w7.heap.size w7).alloc (Nat.le_refl _) (.cells #[.int .i64 1, .int .i64 0, .int .i64 1, .slice (some ⟨BA, 0, none⟩) 3 3, .slice (some ⟨DA, 0, none⟩) 2 2, .int .i64 5, .int .i64 2, .int .i64 2, .int .i64 0, .slice (some ⟨BE, 0, none⟩) 3 3, .slice (some ⟨DE, 0, none⟩) 2 2, .int .i64 1] 34)
    have o := World.ownsRow_lit (base := w.heap.size) (e := 34) (size := 6) w7 #[.int .i64 1, .int .i64 0, .int .i64 1, .slice (some ⟨BA, 0, none⟩) 3 3, .slice (some ⟨DA, 0, none⟩) 2 2, .int .i64 5, .int .i64 2, .int .i64 2, .int .i64 0, .slice (some ⟨BE, 0, none⟩) 3 3, .slice (some ⟨DE, 0, none⟩) 2 2, .int .i64 1] 2 hsz (by unfold maxLen; omega) rfl
    have hws := al.size
    replace GA := GA.below al
    replace GE := GE.below al
    replace TT := TT.trans (Touch.of al)
    replace rd := rd.below al
    clear al
    go_wp2
    go_ret
    refine ⟨_, 2, 2, [⟨1, 0, 1, ⟨some ⟨BA, 0, none⟩, 3, 3, some ⟨DA, 0, none⟩, 2, 2, 5, (([0, 0, 0]).set 0 1).set 1 (-1), [0, 1]⟩⟩, ⟨2, 2, 0, ⟨some ⟨BE, 0, none⟩, 3, 3, some ⟨DE, 0, none⟩, 2, 2, 1, [0, 0, 0], [0, 0]⟩⟩], _, rfl, ⟨TT, rd, o, fun i hi => ?_, fun i hi b o e => ?_, fun i hi b o e => ?_, hRl, ha⟩, rfl, rfl, by omega, by omega⟩
    · rcases i with _ | _ | i
      · exact ⟨GA.C, GA.D, show 3 ≤ 1048576 by omega, show 2 ≤ 1048576 by omega⟩
      · exact ⟨GE.C, GE.D, show 3 ≤ 1048576 by omega, show 2 ≤ 1048576 by omega⟩
      · simp only [List.length_cons, List.length_nil] at hi; omega
    · rcases i with _ | _ | i
      · have e9 : (some ⟨BA, 0, none⟩ : Option Addr) = some ⟨b, o, none⟩ := e; simp only [Option.some.injEq, Addr.mk.injEq] at e9; exact ⟨by omega, by omega, by simp only [Value.ownBlock, ne_eq, Option.some.injEq]; omega⟩
      · have e9 : (some ⟨BE, 0, none⟩ : Option Addr) = some ⟨b, o, none⟩ := e; simp only [Option.some.injEq, Addr.mk.injEq] at e9; exact ⟨by omega, by omega, by simp only [Value.ownBlock, ne_eq, Option.some.injEq]; omega⟩
      · simp only [List.length_cons, List.length_nil] at hi; omega
    · rcases i with _ | _ | i
      · have e9 : (some ⟨DA, 0, none⟩ : Option Addr) = some ⟨b, o, none⟩ := e; simp only [Option.some.injEq, Addr.mk.injEq] at e9; exact ⟨by omega, by omega, by simp only [Value.ownBlock, ne_eq, Option.some.injEq]; omega⟩
      · have e9 : (some ⟨DE, 0, none⟩ : Option Addr) = some ⟨b, o, none⟩ := e; simp only [Option.some.injEq, Addr.mk.injEq] at e9; exact ⟨by omega, by omega, by simp only [Value.ownBlock, ne_eq, Option.some.injEq]; omega⟩
      · simp only [List.length_cons, List.length_nil] at hi; omega
  · have h1 : ¬ j = 0 := by omega
    have h2 : ¬ j = 1 := by omega
    have h3 : ¬ j = 2 := by omega
    have h4 : ¬ j = 3 := by omega
    have h5 : ¬ j = 4 := by omega
    have h6 : ¬ j = 5 := by omega
    have e0 : ((j : Int) == 0) = false := by simp; omega
    have e1 : ((j : Int) == 1) = false := by simp; omega
    have e2 : ((j : Int) == 2) = false := by simp; omega
    have e3 : ((j : Int) == 3) = false := by simp; omega
    have e4 : ((j : Int) == 4) = false := by simp; omega
    have e5 : ((j : Int) == 5) = false := by simp; omega
    clear h1 h2 h3 h4 h5 h6
    have hsz := TT.size
    have al := (Below.refl w3.heap.size w3).alloc (Nat.le_refl _) (.cells #[] 34)
    have o0 := World.ownsRow_lit (base := w.heap.size) (e := 34) (size := 6) w3 #[] 0 hsz (by unfold maxLen; omega) rfl
    replace TT := TT.trans (Touch.of al)
    replace rd := rd.below al
    clear al
    have j0 : JL w R a n cap bs (p + 1 + 1) (.slice (some ⟨w3.heap.size, 0, none⟩) 0 0) [] (w3.alloc (.cells #[] 34)) := ⟨TT, rd, o0, fun i hi => by simp at hi, fun i hi => by simp at hi, fun i hi => by simp at hi, hRl, ha⟩
    clear o0 TT rd
    go_wp2_with fail
    refine (pick_any R a n cap bs (p + 1 + 1) 5 _ j0.r (by omega) (by omega) (by omega) (by omega)).mono ?_
    rintro e wS ⟨rk, k0, k1, rfl, t5, R5⟩
    obtain ⟨rk, rfl⟩ := Int.eq_ofNat_of_zero_le k0
    replace j0 := j0.pick t5 R5
    clear t5 R5 k0 hsz hj6
    obtain ⟨i0, hi, hz0, hz1, hz2⟩ := info_parts Try.infoLn
    go_wp2_with fail
    go_loopw [4, 5] (fun v i wr => ∃ (l : Nat) (ls : List LV) (q : Int), i = .int .i64 l ∧ ls.length + l ≤ 5 ∧ JL w R a n cap bs q v ls wr ∧ actB ls.length ls = true ∧ p ≤ q ∧ q + 12 * l ≤ p + 70) (fun _ i _ => (intOf i).toNat)
    case atStart => exact ⟨rk + 1, [], _, by go_num, by simp; omega, j0, rfl, by omega, by omega⟩
    case round =>
      clear j0
      obtain ⟨m, ls, q, rfl, hlm, j, hact, hq0, hq1⟩ := hrel
      by_cases hm : 0 < m
      · have hm' : (0 : Int) < (m : Int) := by omega
        obtain ⟨k, hk⟩ : ∃ k, k = ls.length := ⟨_, rfl⟩
        have HK : Hid (ls.length = k) := hk.symm
        have hlm' : k + m ≤ 5 := by omega
        obtain ⟨vad, vcap, rfl⟩ := own_slice j.o
        rw [← hk] at j
        rw [← hk]
        clear hk hlm
        have hvb := fun x hx => ((j.o.lt x hx).2 : x < wr.heap.size)
        have HAct : Hid (actB ls.length ls = true) := hact
        clear hact
        go_wp2_with fail
        refine (line_f R a n cap bs q _ j.r (by omega) (by omega) j.r.ha).mono ?_
        rintro e w5 ⟨l, q5, rfl, d5⟩
        have hszL := j.t.size
        replace j := j.pick d5.t d5.r
        have hl := d5.at'
        have la := d5.la
        have lc := d5.lc
        have v0 := d5.q0
        have v1 := d5.q1
        have hs5 := d5.t.size
        clear d5
        have al := (Below.refl w5.heap.size w5).alloc (Nat.le_refl _) (.cells #[.int .i64 l.kind, .int .i64 l.pot, .int .i64 l.skip, .slice l.f.a l.f.n l.f.cap, .slice l.f.c l.f.m l.f.cap', .int .i64 l.f.K] 34)
        have qb := Cel.new w5 [.int .i64 l.kind, .int .i64 l.pot, .int .i64 l.skip, .slice l.f.a l.f.n l.f.cap, .slice l.f.c l.f.m l.f.cap', .int .i64 l.f.K] 34
        replace j := j.below al
        replace hl := hl.below al
        have hs6 := al.size
        clear al
        go_upto_region 19 with fail
        obtain ⟨W6, hW6⟩ : ∃ W, W = w5.alloc (.cells #[.int .i64 l.kind, .int .i64 l.pot, .int .i64 l.skip, .slice l.f.a l.f.n l.f.cap, .slice l.f.c l.f.m l.f.cap', .int .i64 l.f.K] 34) := ⟨_, rfl⟩
        rw [← hW6]
        rw [← hW6] at j qb hl hs6
        clear hW6
        obtain ⟨XB, hXB⟩ : ∃ x, x = w5.heap.size := ⟨_, rfl⟩
        rw [← hXB]
        rw [← hXB] at qb
        clear hXB
        go_cut [78] (fun b wx => b = .bool (actB (k + 1) (ls ++ [l])) ∧ Below W6.heap.size W6 wx)
        case first =>
          refine wp_region_ends (fun X => X.cell? ⟨XB, 0, none⟩ = some (.int .i64 l.kind) ∧ X.cell? ⟨XB, 1, none⟩ = some (.int .i64 l.pot) ∧ X.cell? ⟨XB, 2, none⟩ = some (.int .i64 l.skip) ∧ X.cell? ⟨XB, 3, none⟩ = some (.slice l.f.a l.f.n l.f.cap) ∧ X.cell? ⟨XB, 4, none⟩ = some (.slice l.f.c l.f.m l.f.cap') ∧ X.cell? ⟨XB, 5, none⟩ = some (.int .i64 l.f.K)) (fun _ => True) 7 (by kernel_rfl) ?_
          have HV : Below W6.heap.size W6 W6.drew := (Below.refl _ _).drew
          replace j := j.below HV
          replace qb := qb.below HV
          replace hl := hl.below HV
          obtain ⟨V0, hV0⟩ : ∃ V, V = W6.drew := ⟨_, rfl⟩
          rw [← hV0]
          have hVW : Below W6.heap.size W6 V0 := by rw [hV0]; exact HV
          rw [← hV0] at j qb hl
          clear hV0 HV
          have HV := Below.refl V0.heap.size V0
          obtain ⟨Z0, hZ0⟩ : ∃ z, z = V0.heap.size := ⟨_, rfl⟩
          have HZ : Hid (Z0 = V0.heap.size) := hZ0
          clear hZ0
          have ATS : Hid (∀ i, i < (ls ++ [l]).length → ((ls ++ [l])[i]?.getD noLV).f.At V0) := fun i hi => at_app j.at' hl i hi
          have KP : Hid (∀ X, Below V0.heap.size V0 X → X.cell? ⟨XB, 0, none⟩ = some (.int .i64 l.kind) ∧ X.cell? ⟨XB, 1, none⟩ = some (.int .i64 l.pot) ∧ X.cell? ⟨XB, 2, none⟩ = some (.int .i64 l.skip) ∧ X.cell? ⟨XB, 3, none⟩ = some (.slice l.f.a l.f.n l.f.cap) ∧ X.cell? ⟨XB, 4, none⟩ = some (.slice l.f.c l.f.m l.f.cap') ∧ X.cell? ⟨XB, 5, none⟩ = some (.int .i64 l.f.K)) := fun X hX => by have h := qb.below hX; exact ⟨h.cell 0, h.cell 1, h.cell 2, h.cell 3, h.cell 4, h.cell 5⟩
          have hSS := And.intro (KP.out V0 HV) True.intro
          refine tkL (i := 1) rfl hSS ?_
          refine tkL (i := 3) rfl hSS ?_
          clear hSS
          refine wpAnyE_two (i := 0) (j := 4) (by kernel_rfl) rfl rfl (fun Kn hK => ?_) (fun Kn hK => ?_)
          · go_simp
            have al := (Below.refl V0.heap.size V0).alloc (Nat.le_refl _) (.cells #[] 34)
            have hsz := HV.size
            have o0 := World.ownsRow_lit (base := Z0) (e := 34) (size := 6) V0 #[] 0 (by rw [HZ.out]; exact hsz) (by unfold maxLen; omega) rfl
            replace HV := HV.trans (al.mono hsz)
            clear al
            obtain ⟨Y1, hY1⟩ : ∃ V, V = V0.alloc (.cells #[] 34) := ⟨_, rfl⟩
            rw [← hY1]
            rw [← hY1] at HV o0
            clear hY1
            obtain ⟨L0, hL0⟩ : ∃ x, x = V0.heap.size := ⟨_, rfl⟩
            rw [← hL0]
            rw [← hL0] at o0
            clear hL0 hsz
            have ltL0 : L0 < Y1.heap.size := (o0.lt L0 rfl).2
            refine hK.out _ _ ⟨KP.out _ HV, fun _ => trivial⟩ ?_
            clear hK
            refine wpAnyE_two (i := 2) (j := 4) (by kernel_rfl) rfl rfl (fun Kn hK => ?_) (fun Kn hK => ?_)
            · rw [if_pos (by rfl)]
              refine wp_copyL (.tmp 72) (.tmp 73) rfl Z0 w.heap.size L0 k vad vcap ls (by rfl) o0 (by rfl) (by have h := (j.below HV).o; rw [HK.out] at h; exact h) HK.out (by omega) (by rw [HZ.out]; exact HV.size) ?_
              intro v2 Y2 b2 t2 o2 _
              rw [HZ.out] at b2
              replace HV := HV.trans b2
              clear b2 t2 o0 ltL0
              refine hK.out _ _ ⟨KP.out _ HV, fun _ => trivial⟩ ?_
              clear hK
              refine wpAnyE_one (i := 4) (by kernel_rfl) rfl (fun Kn hK => ?_)
              go_simp
              have al := (Below.refl Y2.heap.size Y2).alloc (Nat.le_refl _) (.cells #[.int .i64 l.kind, .int .i64 l.pot, .int .i64 l.skip, .slice l.f.a l.f.n l.f.cap, .slice l.f.c l.f.m l.f.cap', .int .i64 l.f.K] 34)
              have hsz := HV.size
              have c4 := Cel.new Y2 [.int .i64 l.kind, .int .i64 l.pot, .int .i64 l.skip, .slice l.f.a l.f.n l.f.cap, .slice l.f.c l.f.m l.f.cap', .int .i64 l.f.K] 34
              replace o2 := own_belowL o2 al
              replace HV := HV.trans (al.mono hsz)
              clear al
              obtain ⟨Y3, hY3⟩ : ∃ V, V = Y2.alloc (.cells #[.int .i64 l.kind, .int .i64 l.pot, .int .i64 l.skip, .slice l.f.a l.f.n l.f.cap, .slice l.f.c l.f.m l.f.cap', .int .i64 l.f.K] 34) := ⟨_, rfl⟩
              rw [← hY3]
              rw [← hY3] at HV c4 o2
              clear hY3
              obtain ⟨L4, hL4⟩ : ∃ x, x = Y2.heap.size := ⟨_, rfl⟩
              rw [← hL4]
              rw [← hL4] at c4
              clear hL4 hsz
              have lt4 := c4.lt
              refine hK.out _ _ ⟨KP.out _ HV, fun _ => trivial⟩ ?_
              clear hK
              refine wpAnyE_one (i := 5) (by kernel_rfl) rfl (fun Kn hK => ?_)
              rw [if_pos (by rfl)]
              obtain ⟨a2, cp2, rfl⟩ := own_slice o2
              refine wp_append_lies _ (.tmp 74) (.tmp 76) 23 rfl Z0 34 i0 _ 6 80 Try.underlying23 hi hz0 hz1 hz2 rfl (by omega) (.slice a2 k cp2) k (ls.flatMap LV.cs) (by rfl) o2 ⟨L4, 0, none⟩ 1 1 l.cs (by rfl) (by rfl) (World.news_of_block (cs := #[.int .i64 l.kind, .int .i64 l.pot, .int .i64 l.skip, .slice l.f.a l.f.n l.f.cap, .slice l.f.c l.f.m l.f.cap', .int .i64 l.f.K]) (t := 34) (fr := (0, 0)) c4) (by have h := flatL_one [l]; simpa using h) (by omega) (by unfold maxLen; omega) (by omega) (by rw [HZ.out]; exact HV.size) _ rfl ?_
              intro g5 cp5 Y4 hown hgrow _ _
              replace HV := HV.trans ((Below.refl V0.heap.size Y3).grown hgrow HV.size (fun z hz => by have h := (o2.lt z hz).1; rw [HZ.out] at h; exact h))
              have g5G : LinesG Y4 (some ⟨g5, 0, none⟩) (ls ++ [l]) := linesG_own (base := Z0) (by rw [List.flatMap_append]; simpa using hown) (by rw [List.length_append, HK.out]; rfl) (fun i hi => (ATS.out i hi).below HV)
              clear hown hgrow o2 c4
              refine hK.out _ _ ⟨KP.out _ HV, fun _ => trivial⟩ ?_
              clear hK
              refine wpAnyE_one (i := 6) (by kernel_rfl) rfl (fun Kn hK => ?_)
              go_simp
              refine (sact_any _ (k + 1) cp5 (ls ++ [l]) _ (by rw [List.length_append, HK.out]; rfl) g5G (by omega)).mono ?_
              rintro e Y5 ⟨rfl, b6⟩
              replace HV := HV.trans (b6.mono HV.size)
              clear b6 g5G
              dsimp only
              refine hK.out _ _ ⟨KP.out _ HV, fun _ => trivial⟩ ?_
              clear hK
              refine wpAnyE_done (by kernel_rfl) ?_ _
              clear KP ATS
              go_wp2_with fail
              go_meet
              case rel => exact ⟨rfl, hVW.trans (HV.mono hVW.size)⟩
            · go_simp
              have al := (Below.refl Y1.heap.size Y1).alloc (Nat.le_refl _) (.cells #[.int .i64 l.kind, .int .i64 l.pot, .int .i64 l.skip, .slice l.f.a l.f.n l.f.cap, .slice l.f.c l.f.m l.f.cap', .int .i64 l.f.K] 34)
              have hsz := HV.size
              have c4 := Cel.new Y1 [.int .i64 l.kind, .int .i64 l.pot, .int .i64 l.skip, .slice l.f.a l.f.n l.f.cap, .slice l.f.c l.f.m l.f.cap', .int .i64 l.f.K] 34
              replace o0 := own_belowL o0 al
              replace HV := HV.trans (al.mono hsz)
              clear al
              obtain ⟨Y2, hY2⟩ : ∃ V, V = Y1.alloc (.cells #[.int .i64 l.kind, .int .i64 l.pot, .int .i64 l.skip, .slice l.f.a l.f.n l.f.cap, .slice l.f.c l.f.m l.f.cap', .int .i64 l.f.K] 34) := ⟨_, rfl⟩
              rw [← hY2]
              rw [← hY2] at HV c4 o0
              clear hY2
              obtain ⟨L4, hL4⟩ : ∃ x, x = Y1.heap.size := ⟨_, rfl⟩
              rw [← hL4]
              rw [← hL4] at c4
              have n04 : L4 ≠ L0 := by omega
              clear hL4 hsz
              have lt4 := c4.lt
              clear ltL0
              have ltL0 : L0 < Y2.heap.size := (o0.lt L0 rfl).2
              refine hK.out _ _ ⟨KP.out _ HV, fun _ => trivial⟩ ?_
              clear hK
              refine wpAnyE_one (i := 2) (by kernel_rfl) rfl (fun Kn hK => ?_)
              rw [if_pos (by rfl)]
              refine wp_copyL (.tmp 72) (.tmp 73) rfl Z0 w.heap.size L0 k vad vcap ls (by rfl) o0 (by rfl) (by have h := (j.below HV).o; rw [HK.out] at h; exact h) HK.out (by omega) (by rw [HZ.out]; exact HV.size) ?_
              intro v2 Y3 b2 t2 o2 _
              replace c4 := c4.touch t2 n04
              clear lt4
              rw [HZ.out] at b2
              replace HV := HV.trans b2
              clear b2 t2 o0 ltL0
              refine hK.out _ _ ⟨KP.out _ HV, fun _ => trivial⟩ ?_
              clear hK
              refine wpAnyE_one (i := 5) (by kernel_rfl) rfl (fun Kn hK => ?_)
              rw [if_pos (by rfl)]
              obtain ⟨a2, cp2, rfl⟩ := own_slice o2
              refine wp_append_lies _ (.tmp 74) (.tmp 76) 23 rfl Z0 34 i0 _ 6 80 Try.underlying23 hi hz0 hz1 hz2 rfl (by omega) (.slice a2 k cp2) k (ls.flatMap LV.cs) (by rfl) o2 ⟨L4, 0, none⟩ 1 1 l.cs (by rfl) (by rfl) (World.news_of_block (cs := #[.int .i64 l.kind, .int .i64 l.pot, .int .i64 l.skip, .slice l.f.a l.f.n l.f.cap, .slice l.f.c l.f.m l.f.cap', .int .i64 l.f.K]) (t := 34) (fr := (0, 0)) c4) (by have h := flatL_one [l]; simpa using h) (by omega) (by unfold maxLen; omega) (by omega) (by rw [HZ.out]; exact HV.size) _ rfl ?_
              intro g5 cp5 Y4 hown hgrow _ _
              replace HV := HV.trans ((Below.refl V0.heap.size Y3).grown hgrow HV.size (fun z hz => by have h := (o2.lt z hz).1; rw [HZ.out] at h; exact h))
              have g5G : LinesG Y4 (some ⟨g5, 0, none⟩) (ls ++ [l]) := linesG_own (base := Z0) (by rw [List.flatMap_append]; simpa using hown) (by rw [List.length_append, HK.out]; rfl) (fun i hi => (ATS.out i hi).below HV)
              clear hown hgrow o2 c4
              refine hK.out _ _ ⟨KP.out _ HV, fun _ => trivial⟩ ?_
              clear hK
              refine wpAnyE_one (i := 6) (by kernel_rfl) rfl (fun Kn hK => ?_)
              go_simp
              refine (sact_any _ (k + 1) cp5 (ls ++ [l]) _ (by rw [List.length_append, HK.out]; rfl) g5G (by omega)).mono ?_
              rintro e Y5 ⟨rfl, b6⟩
              replace HV := HV.trans (b6.mono HV.size)
              clear b6 g5G
              dsimp only
              refine hK.out _ _ ⟨KP.out _ HV, fun _ => trivial⟩ ?_
              clear hK
              refine wpAnyE_done (by kernel_rfl) ?_ _
              clear KP ATS
              go_wp2_with fail
              go_meet
              case rel => exact ⟨rfl, hVW.trans (HV.mono hVW.size)⟩
          · go_simp
            have al := (Below.refl V0.heap.size V0).alloc (Nat.le_refl _) (.cells #[.int .i64 l.kind, .int .i64 l.pot, .int .i64 l.skip, .slice l.f.a l.f.n l.f.cap, .slice l.f.c l.f.m l.f.cap', .int .i64 l.f.K] 34)
            have hsz := HV.size
            have c4 := Cel.new V0 [.int .i64 l.kind, .int .i64 l.pot, .int .i64 l.skip, .slice l.f.a l.f.n l.f.cap, .slice l.f.c l.f.m l.f.cap', .int .i64 l.f.K] 34
            replace HV := HV.trans (al.mono hsz)
            clear al
            obtain ⟨Y1, hY1⟩ : ∃ V, V = V0.alloc (.cells #[.int .i64 l.kind, .int .i64 l.pot, .int .i64 l.skip, .slice l.f.a l.f.n l.f.cap, .slice l.f.c l.f.m l.f.cap', .int .i64 l.f.K] 34) := ⟨_, rfl⟩
            rw [← hY1]
            rw [← hY1] at HV c4
            clear hY1
            obtain ⟨L4, hL4⟩ : ∃ x, x = V0.heap.size := ⟨_, rfl⟩
            rw [← hL4]
            rw [← hL4] at c4
            clear hL4 hsz
            have lt4 := c4.lt
            refine hK.out _ _ ⟨KP.out _ HV, fun _ => trivial⟩ ?_
            clear hK
            refine wpAnyE_one (i := 0) (by kernel_rfl) rfl (fun Kn hK => ?_)
            go_simp
            have al := (Below.refl Y1.heap.size Y1).alloc (Nat.le_refl _) (.cells #[] 34)
            have hsz := HV.size
            have o0 := World.ownsRow_lit (base := Z0) (e := 34) (size := 6) Y1 #[] 0 (by rw [HZ.out]; exact hsz) (by unfold maxLen; omega) rfl
            replace c4 := c4.below al
            replace HV := HV.trans (al.mono hsz)
            clear al
            obtain ⟨Y2, hY2⟩ : ∃ V, V = Y1.alloc (.cells #[] 34) := ⟨_, rfl⟩
            rw [← hY2]
            rw [← hY2] at HV o0 c4
            clear hY2
            obtain ⟨L0, hL0⟩ : ∃ x, x = Y1.heap.size := ⟨_, rfl⟩
            rw [← hL0]
            rw [← hL0] at o0
            have n04 : L4 ≠ L0 := by omega
            clear hL0 hsz
            have ltL0 : L0 < Y2.heap.size := (o0.lt L0 rfl).2
            clear lt4
            have lt4 := c4.lt
            refine hK.out _ _ ⟨KP.out _ HV, fun _ => trivial⟩ ?_
            clear hK
            refine wpAnyE_one (i := 2) (by kernel_rfl) rfl (fun Kn hK => ?_)
            rw [if_pos (by rfl)]
            refine wp_copyL (.tmp 72) (.tmp 73) rfl Z0 w.heap.size L0 k vad vcap ls (by rfl) o0 (by rfl) (by have h := (j.below HV).o; rw [HK.out] at h; exact h) HK.out (by omega) (by rw [HZ.out]; exact HV.size) ?_
            intro v2 Y3 b2 t2 o2 _
            replace c4 := c4.touch t2 n04
            clear lt4
            rw [HZ.out] at b2
            replace HV := HV.trans b2
            clear b2 t2 o0 ltL0
            refine hK.out _ _ ⟨KP.out _ HV, fun _ => trivial⟩ ?_
            clear hK
            refine wpAnyE_one (i := 5) (by kernel_rfl) rfl (fun Kn hK => ?_)
            rw [if_pos (by rfl)]
            obtain ⟨a2, cp2, rfl⟩ := own_slice o2
            refine wp_append_lies _ (.tmp 74) (.tmp 76) 23 rfl Z0 34 i0 _ 6 80 Try.underlying23 hi hz0 hz1 hz2 rfl (by omega) (.slice a2 k cp2) k (ls.flatMap LV.cs) (by rfl) o2 ⟨L4, 0, none⟩ 1 1 l.cs (by rfl) (by rfl) (World.news_of_block (cs := #[.int .i64 l.kind, .int .i64 l.pot, .int .i64 l.skip, .slice l.f.a l.f.n l.f.cap, .slice l.f.c l.f.m l.f.cap', .int .i64 l.f.K]) (t := 34) (fr := (0, 0)) c4) (by have h := flatL_one [l]; simpa using h) (by omega) (by unfold maxLen; omega) (by omega) (by rw [HZ.out]; exact HV.size) _ rfl ?_
            intro g5 cp5 Y4 hown hgrow _ _
            replace HV := HV.trans ((Below.refl V0.heap.size Y3).grown hgrow HV.size (fun z hz => by have h := (o2.lt z hz).1; rw [HZ.out] at h; exact h))
            have g5G : LinesG Y4 (some ⟨g5, 0, none⟩) (ls ++ [l]) := linesG_own (base := Z0) (by rw [List.flatMap_append]; simpa using hown) (by rw [List.length_append, HK.out]; rfl) (fun i hi => (ATS.out i hi).below HV)
            clear hown hgrow o2 c4
            refine hK.out _ _ ⟨KP.out _ HV, fun _ => trivial⟩ ?_
            clear hK
            refine wpAnyE_one (i := 6) (by kernel_rfl) rfl (fun Kn hK => ?_)
            go_simp
            refine (sact_any _ (k + 1) cp5 (ls ++ [l]) _ (by rw [List.length_append, HK.out]; rfl) g5G (by omega)).mono ?_
            rintro e Y5 ⟨rfl, b6⟩
            replace HV := HV.trans (b6.mono HV.size)
            clear b6 g5G
            dsimp only
            refine hK.out _ _ ⟨KP.out _ HV, fun _ => trivial⟩ ?_
            clear hK
            refine wpAnyE_done (by kernel_rfl) ?_ _
            clear KP ATS
            go_wp2_with fail
            go_meet
            case rel => exact ⟨rfl, hVW.trans (HV.mono hVW.size)⟩
        case rest =>
          obtain ⟨rfl, HV⟩ := hcut
          replace j := j.below HV
          replace qb := qb.below HV
          replace hl := hl.below HV
          have hs7 := HV.size
          clear HV
          cases h9 : actB (k + 1) (ls ++ [l])
          · go_wp2
            go_roundw
            case rel => exact ⟨m - 1, ls, q5, by go_num, by rw [HK.out]; omega, j, HAct.out, by omega, by omega⟩
            case measure => simp [intOf]; omega
          · have SZ : ∀ i, i < ls.length → (∀ b o, (ls[i]?.getD noLV).f.a = some ⟨b, o, none⟩ → b < wc.heap.size) ∧ (∀ b o, (ls[i]?.getD noLV).f.c = some ⟨b, o, none⟩ → b < wc.heap.size) := fun i hi => ⟨fun b o e => (j.na i hi b o e).2.1, fun b o e => (j.nc i hi b o e).2.1⟩
            have al := (Below.refl wc.heap.size wc).alloc (Nat.le_refl _) (.cells #[.int .i64 l.kind, .int .i64 l.pot, .int .i64 l.skip, .slice l.f.a l.f.n l.f.cap, .slice l.f.c l.f.m l.f.cap', .int .i64 l.f.K] 34)
            have ja := j.below al
            have hla := hl.below al
            have b0 := qb.cell 0
            have b1 := qb.cell 1
            have b2 := qb.cell 2
            have b3 := qb.cell 3
            have b4 := qb.cell 4
            have b5 := qb.cell 5
            simp only [List.getElem?_cons_zero, List.getElem?_cons_succ] at b0 b1 b2 b3 b4 b5
            have hszA := ja.t.size
            clear al j hl
            go_wp2_with (at_builtin; refine wpList_append_lies _ rfl (.tmp 79) (.tmp 81) 23 rfl w.heap.size 34 i0 _ 6 80 Try.underlying23 hi hz0 hz1 hz2 rfl (by omega) (.slice vad k vcap) k (ls.flatMap LV.cs) (by rfl) (by have h := ja.o; rw [HK.out] at h; exact h) ⟨wc.heap.size, 0, none⟩ 1 1 l.cs (by rfl) (by rfl) (World.news_of_block (cs := #[.int .i64 l.kind, .int .i64 l.pot, .int .i64 l.skip, .slice l.f.a l.f.n l.f.cap, .slice l.f.c l.f.m l.f.cap', .int .i64 l.f.K]) (t := 34) (fr := (0, 0)) (heap_alloc_new wc _)) (by have h := flatL_one [l]; simpa using h) (by omega) (by unfold maxLen; omega) (by omega) hszA (wc.heap.size + 1) (by rw [World.size_alloc]) ?_)
            intro g9 cp9 w9 hown hgrow hat _
            have jn := ja.app (H := wc.heap.size) HK.out hla (fun b o e => by (have h := la b o e; exact ⟨by omega, by omega, fun e2 => by have := hvb b e2; omega⟩)) (fun b o e => by (have h := lc b o e; exact ⟨by omega, by omega, fun e2 => by have := hvb b e2; omega⟩)) (by rw [World.size_alloc]; omega) SZ hown hgrow (by rcases hat with h | h; exact .inl h; exact .inr (by omega))
            clear hown hgrow ja hla b0 b1 b2 b3 b4 b5
            go_wp2
            go_roundw
            case rel => exact ⟨m - 1, ls ++ [l], q5, by go_num, by rw [List.length_append, HK.out]; simp; omega, jn, by rw [List.length_append, HK.out]; exact h9, by omega, by omega⟩
            case measure => simp [intOf]; omega
      · have hm' : ¬ (0 : Int) < (m : Int) := by omega
        obtain ⟨vad, vcap, rfl⟩ := own_slice j.o
        go_wp2
        go_ret
        exact ⟨vad, ls.length, vcap, rfl, by first | exact ⟨ls, ⟨q, j, by first | exact ⟨rfl, hact, by omega, by omega⟩ | omega⟩⟩ | (refine ⟨ls, ?_⟩; trace_state; simp [hact]; exact ⟨q, j, by omega, by omega⟩)⟩

end Go.Proofs.Ytngfbcegcekbbaa
namespace Go.Proofs.Ytngfbcegcekbbaa
open Go.RowKit
set_option linter.unusedVariables false
set_option maxRecDepth 100000

theorem flatL_set : ∀ (ls : List LV) (k r : Nat) (l' : LV) (u : Value), k < ls.length → r < 6 → l'.cs = (ls[k]?.getD noLV).cs.set r u → (ls.set k l').flatMap LV.cs = (ls.flatMap LV.cs).set (k * 6 + r) u := by
  intro ls
  induction ls with
  | nil => intro k r l' u hk; simp at hk
  | cons g gs ih =>
    intro k r l' u hk hr hc
    rcases k with _ | k
    · simp only [List.getElem?_cons_zero, Option.getD_some] at hc
      simp only [List.set_cons_zero, List.flatMap_cons, Nat.zero_mul, Nat.zero_add, hc]
      rw [List.set_append_left _ _ (by simp [LV.cs]; omega)]
    · simp only [List.getElem?_cons_succ] at hc
      simp only [List.set_cons_succ, List.flatMap_cons]
      rw [ih k r l' u (by simpa using hk) hr hc, List.set_append_right _ _ (by simp [LV.cs]; omega)]
      have e : (k + 1) * 6 + r - g.cs.length = k * 6 + r := by simp [LV.cs]; omega
      rw [e]
theorem two_lv {P : LV → Prop} {l m : LV} (h0 : P l) (h1 : P m) : ∀ i, i < [l, m].length → P ([l, m][i]?.getD noLV) := fun i hi => by
  rcases i with _ | _ | i
  · exact h0
  · exact h1
  · simp only [List.length_cons, List.length_nil] at hi; omega
/-- How long a slice is. -/
def lenOf : Value → Nat
  | .slice _ n _ => n
  | _ => 0
theorem getD_set {ls : List LV} {k i : Nat} {l' : LV} (hk : k < ls.length) : (ls.set k l')[i]?.getD noLV = if i = k then l' else ls[i]?.getD noLV := by
  by_cases h : i = k
  · subst h; rw [if_pos rfl, List.getElem?_set_self hk]; rfl
  · rw [if_neg h, List.getElem?_set_ne (fun e => h e.symm)]
section
variable {wL W W' : World} {R : Nat} {a : Option Addr} {n cap : Nat} {bs : List Int} {q : Int} {v : Value} {ls : List LV}
/-- A number of a line is changed. -/
theorem JL.set {g N c k r : Nat} {l' : LV} {u : Value} (j : JL wL R a n cap bs q (.slice (some ⟨g, 0, none⟩) N c) ls W) (hN : ls.length = N) (hk : k < ls.length) (hr : r < 6) (hc : l'.cs = (ls[k]?.getD noLV).cs.set r u) (h1 : u.oneCell' = true)
    (hat : l'.f.At W) (ha : ∀ b o, l'.f.a = some ⟨b, o, none⟩ → wL.heap.size ≤ b ∧ b < W.heap.size ∧ g ≠ b) (hcc : ∀ b o, l'.f.c = some ⟨b, o, none⟩ → wL.heap.size ≤ b ∧ b < W.heap.size ∧ g ≠ b) : JL wL R a n cap bs q (.slice (some ⟨g, 0, none⟩) N c) (ls.set k l') (W.setCell ⟨g, k * 6 + r, none⟩ u) := by
  have hg := j.o.lt g rfl
  have lR := j.lR
  have T : Touch (fun x => x = g) W (W.setCell ⟨g, k * 6 + r, none⟩ u) := Touch.setCell (S := fun x => x = g) (Touch.refl _ _) rfl _
  have o := j.o
  rw [hN] at o
  have hs : (W.setCell ⟨g, k * 6 + r, none⟩ u).heap.size = W.heap.size := size_setCell _ _ _
  have nb : ∀ i, i < ls.length → ∀ b o, (ls[i]?.getD noLV).f.a = some ⟨b, o, none⟩ → ¬ b = g := fun i hi b o e h => (j.na i hi b o e).2.2 (by rw [h]; rfl)
  have nb2 : ∀ i, i < ls.length → ∀ b o, (ls[i]?.getD noLV).f.c = some ⟨b, o, none⟩ → ¬ b = g := fun i hi b o e h => (j.nc i hi b o e).2.2 (by rw [h]; rfl)
  refine ⟨j.t.setNewF hg.1 _ _, j.r.touch T (by omega) (fun h0 b o e h => by have := j.lb h0 b o e; omega), ?_, fun i hi => ?_, fun i hi b o e => ?_, fun i hi b o e => ?_, j.lR, j.lb⟩
  · rw [List.length_set, hN, flatL_set ls k r l' u hk hr hc]
    exact (World.ownsRow.stored o (k * 6 + r) u).1
  · rw [List.length_set] at hi
    rw [getD_set hk]
    by_cases h : i = k
    · rw [if_pos h]; exact hat.off T (fun b o e h2 => (ha b o e).2.2 h2.symm) (fun b o e h2 => (hcc b o e).2.2 h2.symm)
    · rw [if_neg h]; exact (j.at' i hi).off T (nb i hi) (nb2 i hi)
  · rw [List.length_set] at hi
    rw [getD_set hk] at e
    by_cases h : i = k
    · rw [if_pos h] at e; have h3 := ha b o e; exact ⟨h3.1, by omega, fun e2 => h3.2.2 (by simpa [Value.ownBlock] using e2)⟩
    · rw [if_neg h] at e; have h3 := j.na i hi b o e; exact ⟨h3.1, by omega, h3.2.2⟩
  · rw [List.length_set] at hi
    rw [getD_set hk] at e
    by_cases h : i = k
    · rw [if_pos h] at e; have h3 := hcc b o e; exact ⟨h3.1, by omega, fun e2 => h3.2.2 (by simpa [Value.ownBlock] using e2)⟩
    · rw [if_neg h] at e; have h3 := j.nc i hi b o e; exact ⟨h3.1, by omega, h3.2.2⟩
/-- Lines are put behind the others. -/
theorem JL.apps {ns : List LV} {g c k m : Nat} {H : Nat} (j : JL wL R a n cap bs q v ls W) (hk : ls.length = k) (hm : ns.length = m) (hl : ∀ i, i < ns.length → (ns[i]?.getD noLV).f.At W) (la : ∀ i, i < ns.length → ∀ b o, (ns[i]?.getD noLV).f.a = some ⟨b, o, none⟩ → wL.heap.size ≤ b ∧ b < H ∧ v.ownBlock ≠ some b) (lc : ∀ i, i < ns.length → ∀ b o, (ns[i]?.getD noLV).f.c = some ⟨b, o, none⟩ → wL.heap.size ≤ b ∧ b < H ∧ v.ownBlock ≠ some b) (hH : H ≤ W.heap.size) (hsz : ∀ i, i < ls.length → (∀ b o, (ls[i]?.getD noLV).f.a = some ⟨b, o, none⟩ → b < H) ∧ (∀ b o, (ls[i]?.getD noLV).f.c = some ⟨b, o, none⟩ → b < H))
    (hown : W'.ownsRow wL.heap.size 34 6 (.slice (some ⟨g, 0, none⟩) (k + m) c) (k + m) (ls.flatMap LV.cs ++ ns.flatMap LV.cs)) (hg : W.grownBy W' v.ownBlock) (hat : v.ownBlock = some g ∨ H ≤ g) : JL wL R a n cap bs q (.slice (some ⟨g, 0, none⟩) (k + m) c) (ls ++ ns) W' := by
  have hr : ∀ x, v.ownBlock = some x → wL.heap.size ≤ x := fun x hx => (j.o.lt x hx).1
  have lR := j.lR
  have T : Touch (fun x => v.ownBlock = some x) W W' := ⟨hg.os, hg.tape, hg.output, hg.size, fun x hx hs => hg.block x hx (fun e => hs e.symm)⟩
  have hn : ∀ b, v.ownBlock ≠ some b → b < H → (Value.slice (some ⟨g, 0, none⟩) (k + m) c).ownBlock ≠ some b := fun b h1 h2 e => by
    simp only [Value.ownBlock, Option.some.injEq] at e
    rcases hat with h | h
    · rw [h] at h1; exact h1 (by rw [e])
    · omega
  have key : ∀ i, i < (ls ++ ns).length → (i < ls.length ∧ (ls ++ ns)[i]?.getD noLV = ls[i]?.getD noLV) ∨ (i - ls.length < ns.length ∧ (ls ++ ns)[i]?.getD noLV = ns[i - ls.length]?.getD noLV) := fun i hi => by
    by_cases h : i < ls.length
    · left; exact ⟨h, by rw [List.getElem?_append_left h]⟩
    · right
      rw [List.length_append] at hi
      exact ⟨by omega, by rw [List.getElem?_append_right (by omega)]⟩
  have hs := hg.size
  refine ⟨j.t.grown hg hr, j.r.touch T (fun e => by have := hr _ e; omega) (fun h0 b o hab e => by have := j.lb h0 b o hab; have := hr _ e; omega), ?_, fun i hi => ?_, fun i hi b o e => ?_, fun i hi b o e => ?_, j.lR, j.lb⟩
  · rw [List.length_append, hk, hm, List.flatMap_append]
    exact hown
  · rcases key i hi with ⟨h, e⟩ | ⟨h, e⟩
    · rw [e]; exact (j.at' i h).off T (fun b o e h' => (j.na i h b o e).2.2 h') (fun b o e h' => (j.nc i h b o e).2.2 h')
    · rw [e]; exact (hl _ h).off T (fun b o e h' => (la _ h b o e).2.2 h') (fun b o e h' => (lc _ h b o e).2.2 h')
  · rcases key i hi with ⟨h, e'⟩ | ⟨h, e'⟩
    · rw [e'] at e; have h3 := j.na i h b o e; exact ⟨h3.1, by omega, hn b h3.2.2 ((hsz i h).1 b o e)⟩
    · rw [e'] at e; have h3 := la _ h b o e; exact ⟨h3.1, by omega, hn b h3.2.2 h3.2.1⟩
  · rcases key i hi with ⟨h, e'⟩ | ⟨h, e'⟩
    · rw [e'] at e; have h3 := j.nc i h b o e; exact ⟨h3.1, by omega, hn b h3.2.2 ((hsz i h).2 b o e)⟩
    · rw [e'] at e; have h3 := lc _ h b o e; exact ⟨h3.1, by omega, hn b h3.2.2 h3.2.1⟩
end

set_option maxHeartbeats 6400000 in
theorem any_f (R : Nat) (a : Option Addr) (n cap : Nat) (bs : List Int) (p M : Int) (w : World) (rd : Rd w R a n cap bs p) (hp : 0 ≤ p) (hp1 : p ≤ 7000000) (hM : 1 ≤ M) (hM1 : M ≤ 1000) (ha : 0 < n → ∀ b o, a = some ⟨b, o, none⟩ → b < w.heap.size) :
    Calls Try.prog 36 #[.pointer (some ⟨R, 0, none⟩), .int .i64 M] w fun e w' => ∃ ad N c ls q, e = .returned (.slice ad N c) ∧ JL w R a n cap bs q (.slice ad N c) ls w' ∧ ls.length = N ∧ N ≤ 8 ∧ p ≤ q ∧ q ≤ p + 120 := by
  have hRl := rd.c.lt
  obtain ⟨i0, hi, hz0, hz1, hz2⟩ := info_parts Try.infoLn
  go_enter Try.func36, Try.ntmps36
  go_wp2_with fail
  refine (act_f R a n cap bs p _ rd hp (by omega) ha).mono ?_
  rintro e w1 ⟨ad, N, c, ls, q, rfl, j, hN, hok, q0, q1⟩
  have HN : Hid (ls.length = N) := hN
  have hN6 : N ≤ 6 := by unfold actB at hok; simp only [Bool.and_eq_true, decide_eq_true_eq] at hok; omega
  clear hN hok rd
  by_cases h0 : N = 0
  · subst h0
    go_wp2
    go_ret
    exact ⟨_, 0, _, ls, q, rfl, j, HN.out, by omega, by omega, by omega⟩
  have h0' : ((N : Int) == 0) = false := by simp; omega
  have hNp : 0 < N := by omega
  obtain ⟨g, rfl⟩ : ∃ g, ad = some ⟨g, 0, none⟩ := by
    rcases j.o.2 with ⟨_, h⟩ | ⟨g, cap', cur, hv, _⟩
    · rw [HN.out] at h; omega
    · simp only [Value.slice.injEq] at hv
      exact ⟨g, hv.1⟩
  go_wp2_with fail
  refine (pick_any R a n cap bs (q) M _ j.r (by omega) (by omega) (by omega) (by omega)).mono ?_
  rintro e w2 ⟨ru, hu0, hu1, rfl, t5, R5⟩
  obtain ⟨u, rfl⟩ := Int.eq_ofNat_of_zero_le hu0
  replace j := j.pick t5 R5
  clear t5 R5 hu0
  by_cases hu : 0 < u
  · have hu' : (0 : Int) < (u : Int) := by omega
    go_wp2
    go_ret
    exact ⟨_, N, c, ls, _, rfl, j, HN.out, by omega, by omega, by omega⟩
  have hu' : ¬ (0 : Int) < (u : Int) := by omega
  go_wp2_with fail
  refine (pick_any R a n cap bs (q + 1) (N : Int) _ j.r (by omega) (by omega) (by omega) (by omega)).mono ?_
  rintro e w4 ⟨rk, hk0, hk1, rfl, t5, R5⟩
  obtain ⟨k, rfl⟩ := Int.eq_ofNat_of_zero_le hk0
  replace j := j.pick t5 R5
  clear t5 R5 hk0
  have hkN : k < N := by omega
  have hkN' : (k : Int) < (N : Int) := by omega
  go_wp2_with fail
  refine (pick_any R a n cap bs (q + 1 + 1) 6 _ j.r (by omega) (by omega) (by omega) (by omega)).mono ?_
  rintro e w5 ⟨rs, hs0, hs1, rfl, t5, R5⟩
  obtain ⟨s, rfl⟩ := Int.eq_ofNat_of_zero_le hs0
  replace j := j.pick t5 R5
  clear t5 R5 hs0
  rcases (show s = 0 ∨ s = 1 ∨ s = 2 ∨ s = 3 ∨ s = 4 ∨ s = 5 from by omega) with rfl | rfl | rfl | rfl | rfl | rfl
  · have al := (Below.refl w5.heap.size w5).alloc (Nat.le_refl _) (.cells #[.int .i64 0, .int .i64 5, .int .i64 4, .int .i64 1] 3)
    have lb := Cel.new w5 [.int .i64 0, .int .i64 5, .int .i64 4, .int .i64 1] 3
    have hsz := j.t.size
    have nl : w5.heap.size ≠ R := by have := j.lR; omega
    replace j := j.below al
    clear al
    go_wp2_with fail
    refine (pick_any R a n cap bs (q + 1 + 1 + 1) 4 _ j.r (by omega) (by omega) (by omega) (by omega)).mono ?_
    rintro e w6 ⟨ri, hi0, hi1, rfl, t5, R5⟩
    obtain ⟨i, rfl⟩ := Int.eq_ofNat_of_zero_le hi0
    replace j := j.pick t5 R5
    replace lb := lb.touch t5 nl
    clear t5 R5 hi0
    have hi' : (i : Int) < 4 := by omega
    have hc := lit_cell (xs := [0, 5, 4, 1]) lb (j := i) (by simp only [List.length_cons, List.length_nil]; omega)
    generalize ([0, 5, 4, 1] : List Int)[i]?.getD 0 = y at hc
    clear lb
    have o := j.o
    rw [HN.out] at o
    have cc := o.cellAt (k * 6 + 0) (by omega)
    rw [flatL_at ls k (by rw [HN.out]; exact hkN) 0 (by omega)] at cc
    have cc' : w6.cell? ⟨g, k * 6 + 0, none⟩ = some (.int .i64 (ls[k]?.getD noLV).kind) := cc
    have ff : w6.frozen? ⟨g, k * 6 + 0, none⟩ = false := o.frozenAt _
    clear cc o
    rw [Nat.add_zero] at cc' ff
    obtain ⟨l, hl⟩ : ∃ l, l = ls[k]?.getD noLV := ⟨_, rfl⟩
    have j' := j.set (k := k) (r := 0) (l' := ⟨y, l.pot, l.skip, l.f⟩) (u := .int .i64 y) HN.out (by rw [HN.out]; exact hkN) (by omega) (by rw [← hl]; rfl) rfl (by rw [hl]; exact j.at' k (by rw [HN.out]; exact hkN)) (fun b o e => by (have h := j.na k (by rw [HN.out]; exact hkN) b o (by rw [← hl]; exact e); exact ⟨h.1, h.2.1, fun e2 => h.2.2 (by rw [e2]; rfl)⟩)) (fun b o e => by (have h := j.nc k (by rw [HN.out]; exact hkN) b o (by rw [← hl]; exact e); exact ⟨h.1, h.2.1, fun e2 => h.2.2 (by rw [e2]; rfl)⟩))
    clear j hl
    rw [Nat.add_zero] at j'
    go_wp2
    go_ret
    exact ⟨_, N, c, _, _, rfl, j', by rw [List.length_set]; exact HN.out, by omega, by omega, by omega⟩
  · have al := (Below.refl w5.heap.size w5).alloc (Nat.le_refl _) (.cells #[.int .i64 (-1), .int .i64 3, .int .i64 2] 3)
    have lb := Cel.new w5 [.int .i64 (-1), .int .i64 3, .int .i64 2] 3
    have hsz := j.t.size
    have nl : w5.heap.size ≠ R := by have := j.lR; omega
    replace j := j.below al
    clear al
    go_wp2_with fail
    refine (pick_any R a n cap bs (q + 1 + 1 + 1) 3 _ j.r (by omega) (by omega) (by omega) (by omega)).mono ?_
    rintro e w6 ⟨ri, hi0, hi1, rfl, t5, R5⟩
    obtain ⟨i, rfl⟩ := Int.eq_ofNat_of_zero_le hi0
    replace j := j.pick t5 R5
    replace lb := lb.touch t5 nl
    clear t5 R5 hi0
    have hi' : (i : Int) < 3 := by omega
    have hc := lit_cell (xs := [-1, 3, 2]) lb (j := i) (by simp only [List.length_cons, List.length_nil]; omega)
    generalize ([-1, 3, 2] : List Int)[i]?.getD 0 = y at hc
    clear lb
    have o := j.o
    rw [HN.out] at o
    have cc := o.cellAt (k * 6 + 1) (by omega)
    rw [flatL_at ls k (by rw [HN.out]; exact hkN) 1 (by omega)] at cc
    have cc' : w6.cell? ⟨g, k * 6 + 1, none⟩ = some (.int .i64 (ls[k]?.getD noLV).pot) := cc
    have ff : w6.frozen? ⟨g, k * 6 + 1, none⟩ = false := o.frozenAt _
    clear cc o
    obtain ⟨l, hl⟩ : ∃ l, l = ls[k]?.getD noLV := ⟨_, rfl⟩
    have j' := j.set (k := k) (r := 1) (l' := ⟨l.kind, y, l.skip, l.f⟩) (u := .int .i64 y) HN.out (by rw [HN.out]; exact hkN) (by omega) (by rw [← hl]; rfl) rfl (by rw [hl]; exact j.at' k (by rw [HN.out]; exact hkN)) (fun b o e => by (have h := j.na k (by rw [HN.out]; exact hkN) b o (by rw [← hl]; exact e); exact ⟨h.1, h.2.1, fun e2 => h.2.2 (by rw [e2]; rfl)⟩)) (fun b o e => by (have h := j.nc k (by rw [HN.out]; exact hkN) b o (by rw [← hl]; exact e); exact ⟨h.1, h.2.1, fun e2 => h.2.2 (by rw [e2]; rfl)⟩))
    clear j hl
    go_wp2
    go_ret
    exact ⟨_, N, c, _, _, rfl, j', by rw [List.length_set]; exact HN.out, by omega, by omega, by omega⟩
  · have al := (Below.refl w5.heap.size w5).alloc (Nat.le_refl _) (.cells #[.int .i64 0, .int .i64 (-1), .int .i64 7, .int .i64 6] 3)
    have lb := Cel.new w5 [.int .i64 0, .int .i64 (-1), .int .i64 7, .int .i64 6] 3
    have hsz := j.t.size
    have nl : w5.heap.size ≠ R := by have := j.lR; omega
    replace j := j.below al
    clear al
    go_wp2_with fail
    refine (pick_any R a n cap bs (q + 1 + 1 + 1) 4 _ j.r (by omega) (by omega) (by omega) (by omega)).mono ?_
    rintro e w6 ⟨ri, hi0, hi1, rfl, t5, R5⟩
    obtain ⟨i, rfl⟩ := Int.eq_ofNat_of_zero_le hi0
    replace j := j.pick t5 R5
    replace lb := lb.touch t5 nl
    clear t5 R5 hi0
    have hi' : (i : Int) < 4 := by omega
    have hc := lit_cell (xs := [0, -1, 7, 6]) lb (j := i) (by simp only [List.length_cons, List.length_nil]; omega)
    generalize ([0, -1, 7, 6] : List Int)[i]?.getD 0 = y at hc
    clear lb
    have o := j.o
    rw [HN.out] at o
    have cc := o.cellAt (k * 6 + 2) (by omega)
    rw [flatL_at ls k (by rw [HN.out]; exact hkN) 2 (by omega)] at cc
    have cc' : w6.cell? ⟨g, k * 6 + 2, none⟩ = some (.int .i64 (ls[k]?.getD noLV).skip) := cc
    have ff : w6.frozen? ⟨g, k * 6 + 2, none⟩ = false := o.frozenAt _
    clear cc o
    obtain ⟨l, hl⟩ : ∃ l, l = ls[k]?.getD noLV := ⟨_, rfl⟩
    have j' := j.set (k := k) (r := 2) (l' := ⟨l.kind, l.pot, y, l.f⟩) (u := .int .i64 y) HN.out (by rw [HN.out]; exact hkN) (by omega) (by rw [← hl]; rfl) rfl (by rw [hl]; exact j.at' k (by rw [HN.out]; exact hkN)) (fun b o e => by (have h := j.na k (by rw [HN.out]; exact hkN) b o (by rw [← hl]; exact e); exact ⟨h.1, h.2.1, fun e2 => h.2.2 (by rw [e2]; rfl)⟩)) (fun b o e => by (have h := j.nc k (by rw [HN.out]; exact hkN) b o (by rw [← hl]; exact e); exact ⟨h.1, h.2.1, fun e2 => h.2.2 (by rw [e2]; rfl)⟩))
    clear j hl
    go_wp2
    go_ret
    exact ⟨_, N, c, _, _, rfl, j', by rw [List.length_set]; exact HN.out, by omega, by omega, by omega⟩
  · go_wp2_with fail
    refine (form_f R a n cap bs (q + 1 + 1 + 1) 2 _ j.r (by omega) (by omega) (by omega) (by omega) j.r.ha).mono ?_
    rintro e w6 ⟨B1, nC, cC, B2, nD, cD, K, LC, LD, q6, rfl, fm⟩
    have hsz5 := (j.o.lt g rfl).2
    have hszL := j.t.size
    replace j := j.pick fm.t fm.r
    have y0 := fm.q0
    have y1 := fm.q1
    have z1 := fm.b1
    have z2 := fm.b2
    have GF := fm.fa K
    have s1 := GF.C.blk fm.c1
    have s2 := GF.D.blk fm.d1
    clear fm
    have o := j.o
    rw [HN.out] at o
    obtain ⟨l, hl⟩ : ∃ l, l = ls[k]?.getD noLV := ⟨_, rfl⟩
    have hkl : k < ls.length := by rw [HN.out]; exact hkN
    have d3 := o.cellAt (k * 6 + 3) (by omega)
    rw [flatL_at ls k hkl 3 (by omega), ← hl] at d3
    have e3 : w6.cell? ⟨g, k * 6 + 3, none⟩ = some (.slice l.f.a l.f.n l.f.cap) := d3
    have f3 : w6.frozen? ⟨g, k * 6 + 3, none⟩ = false := o.frozenAt _
    have d4 := o.cellAt (k * 6 + 4) (by omega)
    rw [flatL_at ls k hkl 4 (by omega), ← hl] at d4
    have e4 : w6.cell? ⟨g, k * 6 + 4, none⟩ = some (.slice l.f.c l.f.m l.f.cap') := d4
    have f4 : w6.frozen? ⟨g, k * 6 + 4, none⟩ = false := o.frozenAt _
    have d5 := o.cellAt (k * 6 + 5) (by omega)
    rw [flatL_at ls k hkl 5 (by omega), ← hl] at d5
    have e5 : w6.cell? ⟨g, k * 6 + 5, none⟩ = some (.int .i64 l.f.K) := d5
    have f5 : w6.frozen? ⟨g, k * 6 + 5, none⟩ = false := o.frozenAt _
    clear d3 d4 d5 o
    have hat := j.at' k hkl
    rw [← hl] at hat
    have hna := j.na k hkl
    have hnc := j.nc k hkl
    rw [← hl] at hna hnc
    have fa1 : ∀ b o, (some ⟨B1, 0, none⟩ : Option Addr) = some ⟨b, o, none⟩ → w.heap.size ≤ b ∧ b < w6.heap.size ∧ g ≠ b := fun b o e => by (simp only [Option.some.injEq, Addr.mk.injEq] at e; exact ⟨by omega, by omega, by omega⟩)
    have fa2 : ∀ b o, (some ⟨B2, 0, none⟩ : Option Addr) = some ⟨b, o, none⟩ → w.heap.size ≤ b ∧ b < w6.heap.size ∧ g ≠ b := fun b o e => by (simp only [Option.some.injEq, Addr.mk.injEq] at e; exact ⟨by omega, by omega, by omega⟩)
    have fo2 : ∀ b o, l.f.c = some ⟨b, o, none⟩ → w.heap.size ≤ b ∧ b < w6.heap.size ∧ g ≠ b := fun b o e => ⟨(hnc b o e).1, (hnc b o e).2.1, fun e2 => (hnc b o e).2.2 (by rw [e2]; rfl)⟩
    have j1 := j.set (k := k) (r := 3) (l' := ⟨l.kind, l.pot, l.skip, ⟨some ⟨B1, 0, none⟩, nC, cC, l.f.c, l.f.m, l.f.cap', l.f.K, LC, l.f.D⟩⟩) (u := .slice (some ⟨B1, 0, none⟩) nC cC) HN.out hkl (by omega) (by rw [← hl]; rfl) rfl ⟨GF.C, hat.D, GF.hn, hat.hm⟩ fa1 fo2
    have sz1 : (w6.setCell ⟨g, k * 6 + 3, none⟩ (.slice (some ⟨B1, 0, none⟩) nC cC)).heap.size = w6.heap.size := size_setCell _ _ _
    have T1 : Touch (fun x => x = g) w6 (w6.setCell ⟨g, k * 6 + 3, none⟩ (.slice (some ⟨B1, 0, none⟩) nC cC)) := Touch.setCell (S := fun x => x = g) (Touch.refl _ _) rfl _
    have GF1 := GF.off T1 (fun b o e h => (fa1 b o e).2.2 h.symm) (fun b o e h => (fa2 b o e).2.2 h.symm)
    have j2 := j1.set (k := k) (r := 4) (l' := ⟨l.kind, l.pot, l.skip, ⟨some ⟨B1, 0, none⟩, nC, cC, some ⟨B2, 0, none⟩, nD, cD, l.f.K, LC, LD⟩⟩) (u := .slice (some ⟨B2, 0, none⟩) nD cD) (by rw [List.length_set]; exact HN.out) (by rw [List.length_set]; exact hkl) (by omega) (by rw [getD_set hkl, if_pos rfl]; rfl) rfl ⟨GF1.C, GF1.D, GF1.hn, GF1.hm⟩ (by rw [sz1]; exact fa1) (by rw [sz1]; exact fa2)
    have sz2 : ((w6.setCell ⟨g, k * 6 + 3, none⟩ (.slice (some ⟨B1, 0, none⟩) nC cC)).setCell ⟨g, k * 6 + 4, none⟩ (.slice (some ⟨B2, 0, none⟩) nD cD)).heap.size = w6.heap.size := by rw [size_setCell]; exact sz1
    have T2 : Touch (fun x => x = g) w6 ((w6.setCell ⟨g, k * 6 + 3, none⟩ (.slice (some ⟨B1, 0, none⟩) nC cC)).setCell ⟨g, k * 6 + 4, none⟩ (.slice (some ⟨B2, 0, none⟩) nD cD)) := Touch.setCell (S := fun x => x = g) T1 rfl _
    have GF2 := GF.off T2 (fun b o e h => (fa1 b o e).2.2 h.symm) (fun b o e h => (fa2 b o e).2.2 h.symm)
    have hk2 : k < (ls.set k ⟨l.kind, l.pot, l.skip, ⟨some ⟨B1, 0, none⟩, nC, cC, l.f.c, l.f.m, l.f.cap', l.f.K, LC, l.f.D⟩⟩).length := by rw [List.length_set]; exact hkl
    have j3 := j2.set (k := k) (r := 5) (l' := ⟨l.kind, l.pot, l.skip, ⟨some ⟨B1, 0, none⟩, nC, cC, some ⟨B2, 0, none⟩, nD, cD, K, LC, LD⟩⟩) (u := .int .i64 K) (by rw [List.length_set, List.length_set]; exact HN.out) (by rw [List.length_set]; exact hk2) (by omega) (by rw [getD_set hk2, if_pos rfl]; rfl) rfl ⟨GF2.C, GF2.D, GF2.hn, GF2.hm⟩ (by rw [sz2]; exact fa1) (by rw [sz2]; exact fa2)
    clear j j1 j2 GF GF1 GF2 T1 T2 hl hat hna hnc
    go_wp2
    go_ret
    exact ⟨_, N, c, _, _, rfl, j3, by rw [List.length_set, List.length_set, List.length_set]; exact HN.out, by omega, by omega, by omega⟩
  · have HKN : Hid (k < N) := hkN
    go_wp2_with fail
    go_loopw [5] (fun v wr => ∃ (g' N' c' : Nat) (ls' : List LV) (q' : Int), v = .slice (some ⟨g', 0, none⟩) N' c' ∧ N ≤ N' ∧ N' ≤ 7 ∧ ls'.length = N' ∧ q' = q + 1 + 1 + 1 ∧ JL w R a n cap bs q' v ls' wr) (fun v _ => 8 - (lenOf v))
    case atStart => exact ⟨g, N, c, ls, _, rfl, by omega, by omega, HN.out, rfl, j⟩
    case round =>
      clear j
      obtain ⟨g', N', c', ls', q', rfl, hNN, hN7, hL, hq', j⟩ := hrel
      have HL : Hid (ls'.length = N') := hL
      clear hL
      by_cases h7 : N' ≤ 6
      · have h7' : (N' : Int) ≤ 6 := by omega
        have hkN2 : (k : Int) < (N' : Int) := by omega
        have hkl : k < ls'.length := by rw [HL.out]; omega
        obtain ⟨b', o', e', hc, hat⟩ := j.g HL.out k hkl
        simp only [Option.some.injEq, Addr.mk.injEq, and_true] at e'
        obtain ⟨rfl, rfl⟩ := e'
        obtain ⟨l, hl⟩ : ∃ l, l = ls'[k]?.getD noLV := ⟨_, rfl⟩
        rw [← hl] at hc hat
        have hna := j.na k hkl
        have hnc := j.nc k hkl
        rw [← hl] at hna hnc
        clear hl
        obtain ⟨x0, x1, x2, x3, x4, x5⟩ := six_of hc
        simp only [Nat.zero_add] at x0 x1 x2 x3 x4 x5
        clear hc
        have SZ : ∀ i, i < ls'.length → (∀ b o, (ls'[i]?.getD noLV).f.a = some ⟨b, o, none⟩ → b < wr.heap.size) ∧ (∀ b o, (ls'[i]?.getD noLV).f.c = some ⟨b, o, none⟩ → b < wr.heap.size) := fun i hi => ⟨fun b o e => (j.na i hi b o e).2.1, fun b o e => (j.nc i hi b o e).2.1⟩
        have al := (Below.refl wr.heap.size wr).alloc (Nat.le_refl _) (.cells #[.int .i64 l.kind, .int .i64 l.pot, .int .i64 l.skip, .slice l.f.a l.f.n l.f.cap, .slice l.f.c l.f.m l.f.cap', .int .i64 l.f.K] 34)
        have ja := j.below al
        have hla := hat.below al
        have hszA := ja.t.size
        clear al j hat
        go_wp2_with (at_builtin; refine wpList_append_lies _ rfl (.tmp 80) (.tmp 85) 23 rfl w.heap.size 34 i0 _ 6 80 Try.underlying23 hi hz0 hz1 hz2 rfl (by omega) (.slice (some ⟨g', 0, none⟩) N' c') N' (ls'.flatMap LV.cs) (by rfl) (by have h := ja.o; rw [HL.out] at h; exact h) ⟨wr.heap.size, 0, none⟩ 1 1 l.cs (by rfl) (by rfl) (World.news_of_block (cs := #[.int .i64 l.kind, .int .i64 l.pot, .int .i64 l.skip, .slice l.f.a l.f.n l.f.cap, .slice l.f.c l.f.m l.f.cap', .int .i64 l.f.K]) (t := 34) (fr := (0, 0)) (heap_alloc_new wr _)) (by have h := flatL_one [l]; simpa using h) (by omega) (by unfold maxLen; omega) (by omega) hszA (wr.heap.size + 1) (by rw [World.size_alloc]) ?_)
        intro g9 cp9 w9 hown hgrow hat9 _
        have jn := ja.app (H := wr.heap.size) HL.out hla hna hnc (by rw [World.size_alloc]; omega) SZ hown hgrow (by rcases hat9 with h | h; exact .inl h; exact .inr (by omega))
        clear hown hgrow ja hla x0 x1 x2 x3 x4 x5 hna hnc SZ
        go_wp2
        go_roundw
        case rel => exact ⟨g9, N' + 1, cp9, ls' ++ [l], _, rfl, by omega, by omega, by rw [List.length_append, HL.out]; rfl, hq', jn⟩
        case measure => simp [lenOf]; omega
      · have h7' : ¬ (N' : Int) ≤ 6 := by omega
        go_wp2
        go_ret
        exact ⟨_, N', c', rfl, by first | exact ⟨ls', ⟨q', j, by first | exact ⟨HL.out, by omega, by omega, by omega⟩ | omega⟩⟩ | (refine ⟨ls', ?_⟩; simp [HL.out]; exact ⟨q', j, by omega⟩) | (refine ⟨ls', ⟨q', j, ?_⟩, HL.out, ?_⟩ <;> omega)⟩
  · have hgW := (j.o.lt g rfl).2
    have hlo := j.t.size
    have hRR := j.lR
    go_wp2_with fail
    refine (small_f R a n cap bs (q + 1 + 1 + 1) _ j.r (by omega) (by omega) j.r.ha).mono ?_
    rintro e w6 ⟨BA, DA, LCA, LDA, KA, rfl, t5, R5, f5, _, _, _, _⟩
    have zA1 := f5.b1
    have zA2 := f5.b2
    have lA1 := f5.k1.lt
    have lA2 := f5.k2.lt
    have sA := t5.size
    have GA : FA w6 (some ⟨BA, 0, none⟩) 3 (some ⟨DA, 0, none⟩) 2 (LCA, LDA, KA) := ⟨f5.k1.ints' f5.l1, f5.k2.ints' f5.l2, by omega, by omega⟩
    replace j := j.pick t5 R5
    clear t5 R5 f5
    go_wp2_with fail
    refine (small_f R a n cap bs (q + 1 + 1 + 1 + 6) _ j.r (by omega) (by omega) j.r.ha).mono ?_
    rintro e w7 ⟨BE, DE, LCE, LDE, KE, rfl, t5, R5, f5, _, _, _, _⟩
    have zE1 := f5.b1
    have zE2 := f5.b2
    have lE1 := f5.k1.lt
    have lE2 := f5.k2.lt
    have sE := t5.size
    have GE : FA w7 (some ⟨BE, 0, none⟩) 3 (some ⟨DE, 0, none⟩) 2 (LCE, LDE, KE) := ⟨f5.k1.ints' f5.l1, f5.k2.ints' f5.l2, by omega, by omega⟩
    replace GA := GA.far t5 (lo := w5.heap.size) (fun k hk => by omega) zA1 zA2
    replace j := j.pick t5 R5
    clear t5 R5 f5
    have SZ : ∀ i, i < ls.length → (∀ b o, (ls[i]?.getD noLV).f.a = some ⟨b, o, none⟩ → b < w7.heap.size) ∧ (∀ b o, (ls[i]?.getD noLV).f.c = some ⟨b, o, none⟩ → b < w7.heap.size) := fun i hi => ⟨fun b o e => (j.na i hi b o e).2.1, fun b o e => (j.nc i hi b o e).2.1⟩
    have al := (Below.refl w7.heap.size w7).alloc (Nat.le_refl _) (.cells #[.int .i64 1, .int .i64 0, .int .i64 1, .slice (some ⟨BA, 0, none⟩) 3 3, .slice (some ⟨DA, 0, none⟩) 2 2, .int .i64 KA, .int .i64 1, .int .i64 0, .int .i64 1, .slice (some ⟨BE, 0, none⟩) 3 3, .slice (some ⟨DE, 0, none⟩) 2 2, .int .i64 KE] 34)
    have ja := j.below al
    replace GA := GA.below al
    replace GE := GE.below al
    have hszA := ja.t.size
    clear al j
    go_wp2_with (at_builtin; refine wpList_append_lies _ rfl (.tmp 25) (.tmp 32) 23 rfl w.heap.size 34 i0 _ 6 80 Try.underlying23 hi hz0 hz1 hz2 rfl (by omega) (.slice (some ⟨g, 0, none⟩) N c) N (ls.flatMap LV.cs) (by rfl) (by have h := ja.o; rw [HN.out] at h; exact h) ⟨w7.heap.size, 0, none⟩ 2 2 [.int .i64 1, .int .i64 0, .int .i64 1, .slice (some ⟨BA, 0, none⟩) 3 3, .slice (some ⟨DA, 0, none⟩) 2 2, .int .i64 KA, .int .i64 1, .int .i64 0, .int .i64 1, .slice (some ⟨BE, 0, none⟩) 3 3, .slice (some ⟨DE, 0, none⟩) 2 2, .int .i64 KE] (by rfl) (by rfl) (World.news_of_block (cs := #[.int .i64 1, .int .i64 0, .int .i64 1, .slice (some ⟨BA, 0, none⟩) 3 3, .slice (some ⟨DA, 0, none⟩) 2 2, .int .i64 KA, .int .i64 1, .int .i64 0, .int .i64 1, .slice (some ⟨BE, 0, none⟩) 3 3, .slice (some ⟨DE, 0, none⟩) 2 2, .int .i64 KE]) (t := 34) (fr := (0, 0)) (heap_alloc_new w7 _)) (by simp [Value.oneCell']) (by omega) (by unfold maxLen; omega) (by omega) hszA (w7.heap.size + 1) (by rw [World.size_alloc]) ?_)
    intro g9 cp9 w9 hown hgrow hat9 _
    have jn := ja.apps (ns := [⟨1, 0, 1, ⟨some ⟨BA, 0, none⟩, 3, 3, some ⟨DA, 0, none⟩, 2, 2, KA, LCA, LDA⟩⟩, ⟨1, 0, 1, ⟨some ⟨BE, 0, none⟩, 3, 3, some ⟨DE, 0, none⟩, 2, 2, KE, LCE, LDE⟩⟩]) (H := w7.heap.size) HN.out rfl (fun i hi => by (rcases i with _ | _ | i; exact ⟨GA.C, GA.D, GA.hn, GA.hm⟩; exact ⟨GE.C, GE.D, GE.hn, GE.hm⟩; simp only [List.length_cons, List.length_nil] at hi; omega)) (two_lv (P := fun x => ∀ b o, x.f.a = some ⟨b, o, none⟩ → w.heap.size ≤ b ∧ b < w7.heap.size ∧ (Value.slice (some ⟨g, 0, none⟩) N c).ownBlock ≠ some b) (fun b o e => by have e9 : (some ⟨BA, 0, none⟩ : Option Addr) = some ⟨b, o, none⟩ := e; simp only [Option.some.injEq, Addr.mk.injEq] at e9; exact ⟨by omega, by omega, by simp only [Value.ownBlock, ne_eq, Option.some.injEq]; omega⟩) (fun b o e => by have e9 : (some ⟨BE, 0, none⟩ : Option Addr) = some ⟨b, o, none⟩ := e; simp only [Option.some.injEq, Addr.mk.injEq] at e9; exact ⟨by omega, by omega, by simp only [Value.ownBlock, ne_eq, Option.some.injEq]; omega⟩)) (two_lv (P := fun x => ∀ b o, x.f.c = some ⟨b, o, none⟩ → w.heap.size ≤ b ∧ b < w7.heap.size ∧ (Value.slice (some ⟨g, 0, none⟩) N c).ownBlock ≠ some b) (fun b o e => by have e9 : (some ⟨DA, 0, none⟩ : Option Addr) = some ⟨b, o, none⟩ := e; simp only [Option.some.injEq, Addr.mk.injEq] at e9; exact ⟨by omega, by omega, by simp only [Value.ownBlock, ne_eq, Option.some.injEq]; omega⟩) (fun b o e => by have e9 : (some ⟨DE, 0, none⟩ : Option Addr) = some ⟨b, o, none⟩ := e; simp only [Option.some.injEq, Addr.mk.injEq] at e9; exact ⟨by omega, by omega, by simp only [Value.ownBlock, ne_eq, Option.some.injEq]; omega⟩)) (by rw [World.size_alloc]; omega) SZ hown hgrow (by rcases hat9 with h | h; exact .inl h; exact .inr (by omega))
    clear hown hgrow ja SZ
    go_wp2
    go_ret
    exact ⟨_, N + 2, cp9, _, _, rfl, jn, by rw [List.length_append, HN.out]; rfl, by omega, by omega, by omega⟩


end Go.Proofs.Ytngfbcegcekbbaa
namespace Go.Proofs.Ytngfbcegcekbbaa
open Go.RowKit
set_option linter.unusedVariables false
set_option maxRecDepth 100000

theorem pRun (ad : Option Addr) (N cap : Nat) (ls : List LV) (v : Option Addr) (p cv : Nat) (V : List Int) (u : Option Addr) (q cu : Nat) (U : List Int) (w : World) (hN : ls.length = N) (hF : LinesG w ad ls) (hN1 : N ≤ 1048576) (hV : Ints w v p V) (hU : Ints w u q U) (hp : p ≤ 1048576) (hq : q ≤ 1048576) :
    Calls Try.prog 32 #[.slice ad N cap, .slice v p cv, .slice u q cu] w fun e w' => RunM w w' e (runCode N ls p V q U) (runTells N ls p V q U) (runPots N ls p V q U) :=
  (irun_any ad N cap ls v p cv V u q cu U w hN hF hN1 hV hU hp hq).mono fun e w' h => RunM.of h

/-- Two results are the same. -/
def coRB (c d : Int) (xs ys : List Int) : Bool := (c == d) && eqB xs ys
theorem coRB_same (c : Int) (xs : List Int) : coRB c c xs xs = true := by simp [coRB, eqB]

set_option maxHeartbeats 1600000 in
theorem dRun (a : Option Addr) (n cap : Nat) (bs : List Int) (w : World) (h : BInts w a n bs) (hn : n ≤ cap) (hn1 : n ≤ 1048576) (hc : cap ≤ maxLen) :
    Calls Try.prog 30 #[.slice a n cap] w fun e w' => ∃ ad N c ls va p cv V ua q cu A base, e = .returned (.tuple #[.slice ad N c, .slice va p cv, .slice ua q cu]) ∧ Below w.heap.size w w' ∧ LinesG w' ad ls ∧ ls.length = N ∧ N ≤ 8 ∧ w'.ownsRow base 34 6 (.slice ad N c) N (ls.flatMap LV.cs) ∧ Ints w' va p V ∧ Ints w' ua q A ∧ p ≤ 4 ∧ q ≤ 4 := by
  go_enter Try.func30, Try.ntmps30
  go_wp2_with fail
  refine (open_any _ _ _ bs _ h hn hn1 hc).mono ?_
  rintro e w1 ⟨R, n', cap2, bs', rfl, b1, hR, r1⟩
  have hRl := r1.c.lt
  go_wp2_with fail
  refine (any_f R a n' cap2 bs' 0 16 _ r1 (by omega) (by omega) (by omega) (by omega) r1.ha).mono ?_
  rintro e w2 ⟨ad, N, c, ls, q, rfl, j, hN, hN8, q0, q1⟩
  go_wp2_with fail
  refine (vals_gen R a n' cap2 bs' q 16 _ j.r (by omega) (by omega) (by omega) (by omega) j.r.ha).mono ?_
  rintro e w3 ⟨va, vp, cv, V, q3, rfl, d3⟩
  have u2 := d3.q0
  have u3 := d3.q1
  have hsz := j.t.size
  replace j := j.pick d3.t d3.r
  go_wp2_with fail
  refine (args_gen R a n' cap2 bs' q3 16 _ d3.r (by omega) (by omega) (by omega) (by omega) d3.r.ha).mono ?_
  rintro e w4 ⟨ua, uq, cu, A, q4, rfl, d4⟩
  replace j := j.pick d4.t d4.r
  have hV := d3.i.off d4.t (fun b o e hs => by have := d3.lo b o e; omega)
  have BB : Below w.heap.size w w4 := b1.trans (j.t.below (by have := b1.size; omega) (fun k hk => by omega))
  have o := j.o
  rw [hN] at o
  have hG := j.g hN
  have hA := d4.i
  have p3 := d3.h4
  have p4 := d4.h4
  clear r1 b1 d3 d4
  go_wp2
  go_ret3
  exact ⟨_, N, c, ls, _, vp, cv, V, _, uq, cu, A, _, rfl, BB, hG, hN, hN8, o, hV, hA, p3, p4⟩

end Go.Proofs.Ytngfbcegcekbbaa
namespace Go.Proofs.Ytngfbcegcekbbaa
open Go.RowKit
set_option linter.unusedVariables false

/-- While they are marked: the block's slices stand; the lists from k on are as they were made. -/
structure MK (W : World) (B N s k : Nat) (gs : List FV) (p q : Nat → Nat) (wr : World) : Prop where
  c : ∃ cur : Array Value, wr.heap[B]? = some (.cells cur 32 (0, 0)) ∧ cur.size = N * 3 ∧ ∀ i, i < N → cur[i * 3]? = some (.slice (gs[i]?.getD noFV).a (gs[i]?.getD noFV).n (gs[i]?.getD noFV).cap) ∧ cur[i * 3 + 1]? = some (.slice (gs[i]?.getD noFV).c (gs[i]?.getD noFV).m (gs[i]?.getD noFV).cap')
  o : ∀ i, k ≤ i → i < N → Blk wr (p i) (gs[i]?.getD noFV).C ∧ Blk wr (q i) (gs[i]?.getD noFV).D
  t : Touch (fun x => B ≤ x ∧ x < s) W wr

end Go.Proofs.Ytngfbcegcekbbaa
namespace Go.Proofs.Ytngfbcegcekbbaa
open Go.RowKit
set_option linter.unusedVariables false

/-- Pot by pot: the form without its pots, and so many times each pot's form. -/
def intoC (C : List Int) (fs : List FV) : Nat → List Int
  | 0 => [0, 0, 0]
  | k + 1 => lin (intoC C fs k) (fs[k]?.getD noFV).C (C[k]?.getD 0)
def intoD (C D : List Int) (fs : List FV) : Nat → List Int
  | 0 => D
  | k + 1 => lin (intoD C D fs k) (fs[k]?.getD noFV).D (C[k]?.getD 0)
def intoK (C : List Int) (K : Int) (fs : List FV) : Nat → Int
  | 0 => K
  | k + 1 => intoK C K fs k + C[k]?.getD 0 * (fs[k]?.getD noFV).K

theorem lin_mul (xs ys : List Int) (n : Int) : List.zipWith (· + ·) xs (mulL n ys) = lin xs ys n := by
  simp [lin, mulL, List.zipWith_map_right]

/-- The same by one sum of four: the form without its pots first. -/
def terms (C D : List Int) (K : Int) (fs : List FV) : List Frm := ([0, 0, 0], D, K) :: (List.range 3).map fun i => (mulL (C[i]?.getD 0) (fs[i]?.getD noFV).C, mulL (C[i]?.getD 0) (fs[i]?.getD noFV).D, C[i]?.getD 0 * (fs[i]?.getD noFV).K)

theorem zip0 {xs : List Int} (h : xs.length = 3) : List.zipWith (· + ·) [0, 0, 0] xs = xs := by
  match xs, h with
  | [x, y, z], _ => simp
theorem zip02 {xs : List Int} (h : xs.length = 2) : List.zipWith (· + ·) [0, 0] xs = xs := by
  match xs, h with
  | [x, y], _ => simp

theorem terms_sum {C D : List Int} {K : Int} {fs : List FV} (hD : D.length = 2) :
    sumC (terms C D K fs) 4 = intoC C fs 3 ∧ sumD (terms C D K fs) 4 = intoD C D fs 3 ∧ sumK (terms C D K fs) 4 = intoK C K fs 3 := by
  have t0 : (terms C D K fs)[0]? = some ([0, 0, 0], D, K) := rfl
  have t1 : (terms C D K fs)[1]? = some (mulL (C[0]?.getD 0) (fs[0]?.getD noFV).C, mulL (C[0]?.getD 0) (fs[0]?.getD noFV).D, C[0]?.getD 0 * (fs[0]?.getD noFV).K) := rfl
  have t2 : (terms C D K fs)[2]? = some (mulL (C[1]?.getD 0) (fs[1]?.getD noFV).C, mulL (C[1]?.getD 0) (fs[1]?.getD noFV).D, C[1]?.getD 0 * (fs[1]?.getD noFV).K) := rfl
  have t3 : (terms C D K fs)[3]? = some (mulL (C[2]?.getD 0) (fs[2]?.getD noFV).C, mulL (C[2]?.getD 0) (fs[2]?.getD noFV).D, C[2]?.getD 0 * (fs[2]?.getD noFV).K) := rfl
  refine ⟨?_, ?_, ?_⟩
  · simp only [sumC, t0, t1, t2, t3, Option.getD_some, intoC]
    rw [zip0 (xs := [0, 0, 0]) rfl, lin_mul, lin_mul, lin_mul]
  · simp only [sumD, t0, t1, t2, t3, Option.getD_some, intoD]
    rw [zip02 hD, lin_mul, lin_mul, lin_mul]
  · simp only [sumK, t0, t1, t2, t3, Option.getD_some, intoK]
    omega

set_option maxHeartbeats 800000 in
theorem without_any (a : Option Addr) (n cap : Nat) (c : Option Addr) (m cap' : Nat) (K : Int) (w : World) :
    Calls Try.prog 118 #[formV a n cap c m cap' K] w fun e w' => ∃ P, e = .returned (formV (some ⟨P, 0, none⟩) 3 3 c m cap' K) ∧ Below w.heap.size w w' ∧ w.heap.size ≤ P ∧ Blk w' P [0, 0, 0] := by
  have hm3 := make3
  go_enter Try.func118, Try.ntmps118
  go_wp2_with fail
  go_region
  go_wp2
  exact bodyPost_ret (v := formV (some ⟨w.heap.size + 1 + 1, 0, none⟩) 3 3 c m cap' K) (by simp [results, Try.results118, go_sem]) rfl ⟨_, rfl, ((((Below.refl _ _).alloc (Nat.le_refl _) _).alloc (by simp) _).alloc (by simp; omega) _).drew, by omega, three2 w _ _ _⟩

end Go.Proofs.Ytngfbcegcekbbaa
namespace Go.Proofs.Ytngfbcegcekbbaa
open Go.RowKit
set_option linter.unusedVariables false
set_option maxRecDepth 100000

theorem lin_bnd {M P n : Int} {xs ys : List Int} {k : Nat} (h1 : xs.length = k) (h2 : ys.length = k) (hx : bnd M xs) (hy : bndT P n ys) (h0 : 0 ≤ M + P) : bnd (M + P) (lin xs ys n) := by
  intro i
  by_cases hi : i < k
  · rw [lin_get h1 h2 hi]
    have := hx i
    have := hy i
    omega
  · have : (lin xs ys n)[i]? = none := List.getElem?_eq_none (by rw [lin_len h1 h2]; omega)
    rw [this]
    simp only [Option.getD_none]
    omega
theorem mul_bnd {x y : Int} (a1 : -10000000 ≤ x) (a2 : x ≤ 10000000) (h1 : -10000000 ≤ y) (h2 : y ≤ 10000000) : -100000000000000 ≤ x * y ∧ x * y ≤ 100000000000000 := by
  have hx' : x.natAbs ≤ 10000000 := by omega
  have hy' : y.natAbs ≤ 10000000 := by omega
  have hm : (x * y).natAbs ≤ 10000000 * 10000000 := by rw [Int.natAbs_mul]; exact Nat.mul_le_mul hx' hy'
  omega
theorem mulT_bnd {C : List Int} {k : Int} (h : bnd 10000000 C) (h1 : -10000000 ≤ k) (h2 : k ≤ 10000000) : bndT 100000000000000 k C := by
  intro i
  have := h i
  exact mul_bnd h1 h2 this.1 this.2

/-- What is known of a form that is ok. -/
structure OkF (g : FV) : Prop where
  n : g.n = 3
  m : g.m = 2
  lC : g.C.length = 3
  lD : g.D.length = 2
  bC : bnd 10000000 g.C
  bD : bnd 10000000 g.D
  k1 : -10000000 ≤ g.K
  k2 : g.K ≤ 10000000
theorem OkF.of {g : FV} {w : World} (h : g.At w) (ok : g.ok = true) : OkF g := by
  obtain ⟨n3, m2, bC, bD, bK1, bK2⟩ := formB_elim ok
  exact ⟨n3, m2, by have := h.C.1; omega, by have := h.D.1; omega, bC, bD, bK1, bK2⟩

structure IntoF (C D : List Int) (K : Int) (fs : List FV) (k : Nat) : Prop where
  lC : (intoC C fs k).length = 3
  lD : (intoD C D fs k).length = 2
  bC : bnd (k * 100000000000000) (intoC C fs k)
  bD : bnd (10000000 + k * 100000000000000) (intoD C D fs k)
  k1 : -(10000000 + k * 100000000000000) ≤ intoK C K fs k
  k2 : intoK C K fs k ≤ 10000000 + k * 100000000000000
theorem IntoF.of {C D : List Int} {K : Int} {fs : List FV} (hD : D.length = 2) (bC : bnd 10000000 C) (bD : bnd 10000000 D) (k1 : -10000000 ≤ K) (k2 : K ≤ 10000000) (ho : ∀ i, i < 3 → OkF (fs[i]?.getD noFV)) : ∀ k : Nat, k ≤ 3 → IntoF C D K fs k
  | 0, _ => ⟨rfl, hD, by simpa [intoC] using bnd_zeros 3, by simpa [intoD] using bD, by simpa [intoK] using k1, by simpa [intoK] using k2⟩
  | k + 1, hk => by
    have ih := IntoF.of hD bC bD k1 k2 ho k (by omega)
    have g := ho k (by omega)
    have bc := bC k
    have e : ((k + 1 : Nat) : Int) = k + 1 := by omega
    have tC := mulT_bnd g.bC bc.1 bc.2
    have tD := mulT_bnd g.bD bc.1 bc.2
    have tK := mul_bnd bc.1 bc.2 g.k1 g.k2
    have i1 := ih.k1
    have i2 := ih.k2
    refine ⟨lin_len ih.lC g.lC, lin_len ih.lD g.lD, ?_, ?_, ?_, ?_⟩
    · have := lin_bnd ih.lC g.lC ih.bC tC (by omega)
      intro i
      have := this i
      simp only [intoC]
      omega
    · have := lin_bnd ih.lD g.lD ih.bD tD (by omega)
      intro i
      have := this i
      simp only [intoD]
      omega
    · simp only [intoK]; omega
    · simp only [intoK]; omega

/-- Whether the form that comes is ok, and all that it is made of. -/
def intoOk (n m : Nat) (C D : List Int) (K : Int) (N : Nat) (fs : List FV) : Bool := formB n m C D K && decide (N = 3) && fs.all FV.ok && formB 3 2 (intoC C fs 3) (intoD C D fs 3) (intoK C K fs 3)

/-- A call's box for a form, its result's room, old memory. -/
structure IH (w : World) (a : Option Addr) (n cap : Nat) (c : Option Addr) (m cap' : Nat) (K : Int) (w' : World) : Prop where
  p : Cel w' w.heap.size [.slice a n cap, .slice c m cap', .int .i64 K] 32
  r : Cel w' (w.heap.size + 1) [.slice none 0 0, .slice none 0 0, .int .i64 0] 32
  b : Below w.heap.size w w'
section
variable {w W w3 : World} {a c : Option Addr} {n cap m cap' : Nat} {K : Int}
theorem IH.below (h : IH w a n cap c m cap' K W) (b : Below W.heap.size W w3) : IH w a n cap c m cap' K w3 := ⟨h.p.below b, h.r.below b, h.b.trans (b.mono h.b.size)⟩
theorem IH.drew (h : IH w a n cap c m cap' K W) : IH w a n cap c m cap' K W.drew := ⟨h.p, h.r, h.b.drew⟩
theorem IH.alloc (h : IH w a n cap c m cap' K W) (o : Obj) : IH w a n cap c m cap' K (W.alloc o) := h.below ((Below.refl _ _).alloc (Nat.le_refl _) _)
theorem IH.set (h : IH w a n cap c m cap' K W) {X : Nat} (hX : w.heap.size + 1 < X) (i : Nat) (v : Value) : IH w a n cap c m cap' K (W.setCell ⟨X, i, none⟩ v) :=
  ⟨h.p.setOther (by omega) i v, h.r.setOther (by omega) i v, h.b.setCell (by show w.heap.size ≤ X; omega) v⟩
theorem IH.new : IH w a n cap c m cap' K ((w.alloc (Obj.cells #[Value.slice a n cap, Value.slice c m cap', Value.int IntKind.i64 K] 32)).alloc (Obj.cells #[Value.slice none 0 0, Value.slice none 0 0, Value.int IntKind.i64 0] 32)) :=
  ⟨(Cel.new w _ _).alloc _, by have := Cel.new (w.alloc (Obj.cells #[Value.slice a n cap, Value.slice c m cap', Value.int IntKind.i64 K] 32)) [.slice none 0 0, .slice none 0 0, .int .i64 0] 32; rw [World.size_alloc] at this; exact this, ((Below.refl _ _).alloc (Nat.le_refl _) _).alloc (by simp) _⟩
theorem IH.cells (h : IH w a n cap c m cap' K W) :
    W.cell? ⟨w.heap.size, 0, none⟩ = some (.slice a n cap) ∧ W.cell? ⟨w.heap.size, 1, none⟩ = some (.slice c m cap') ∧ W.cell? ⟨w.heap.size, 2, none⟩ = some (.int .i64 K) := ⟨h.p.cell 0, h.p.cell 1, h.p.cell 2⟩
theorem IH.room (h : IH w a n cap c m cap' K W) :
    W.cell? ⟨w.heap.size + 1, 0, none⟩ = some (.slice none 0 0) ∧ W.cell? ⟨w.heap.size + 1, 1, none⟩ = some (.slice none 0 0) ∧ W.cell? ⟨w.heap.size + 1, 2, none⟩ = some (.int .i64 0) ∧ W.frozen? ⟨w.heap.size + 1, 0, none⟩ = false ∧ W.frozen? ⟨w.heap.size + 1, 1, none⟩ = false ∧ W.frozen? ⟨w.heap.size + 1, 2, none⟩ = false := ⟨h.r.cell 0, h.r.cell 1, h.r.cell 2, h.r.free 0, h.r.free 1, h.r.free 2⟩
theorem IH.none (h : IH w a n cap c m cap' K W) : Res w (((W.setCell ⟨w.heap.size + 1, 0, Option.none⟩ (.slice Option.none 0 0)).setCell ⟨w.heap.size + 1, 1, Option.none⟩ (.slice Option.none 0 0)).setCell ⟨w.heap.size + 1, 2, Option.none⟩ (.int .i64 0)) (.returned (formV Option.none 0 0 Option.none 0 0 0)) [] [] 0 :=
  Res.none rfl (((h.b.setCell (by simp only []; omega) _).setCell (by simp only []; omega) _).setCell (by simp only []; omega) _)
end

set_option maxHeartbeats 1600000 in
theorem sinto_no (a : Option Addr) (n cap : Nat) (c : Option Addr) (m cap' : Nat) (K : Int) (C D : List Int) (ad : Option Addr) (N capN : Nat) (fs : List FV) (w : World) (hC : Ints w a n C) (hD : Ints w c m D) (hn : n ≤ 1048576) (hm : m ≤ 1048576)
    (hN : fs.length = N) (hF : FormsG w ad fs) (hN1 : N ≤ 1048576) (hno : (formB n m C D K && decide (N = 3) && fs.all FV.ok) = false) :
    Calls Try.prog 79 #[formV a n cap c m cap' K, .slice ad N capN] w fun e w' => Res w w' e [] [] 0 := by
  have n0 := IH.new (w := w) (a := a) (n := n) (cap := cap) (c := c) (m := m) (cap' := cap') (K := K)
  have HN : Hid (fs.length = N) := hN
  clear hN
  cases h1 : formB n m C D K
  · clear hno
    go_enter Try.func79, Try.ntmps79
    go_wp2_with fail
    refine (sok_any _ _ _ _ _ _ _ C D _ (hC.below n0.b) (hD.below n0.b) hn hm).mono ?_
    rintro e w1 ⟨rfl, b1⟩
    have H := n0.below b1
    obtain ⟨r0, r1, r2, r3, r4, r5⟩ := H.room
    go_wp2
    exact bodyPost_ret (v := formV none 0 0 none 0 0 0) (by simp [results, Try.results79, go_sem, r0, r1, r2]) rfl H.none
  · by_cases h2 : (N : Int) = 3
    · obtain rfl : N = 3 := by omega
      have hno' : fs.all FV.ok = false := by simpa [h1] using hno
      clear hno h2
      have f0 := hF 0 (by rw [HN.out]; omega)
      have f1 := hF 1 (by rw [HN.out]; omega)
      have f2 := hF 2 (by rw [HN.out]; omega)
      obtain ⟨b, off, rfl, p0, p1, p2, A0⟩ := f0
      obtain ⟨b', off', hb', q0, q1, q2, A1⟩ := f1
      simp only [Option.some.injEq, Addr.mk.injEq, and_true] at hb'
      obtain ⟨rfl, rfl⟩ := hb'
      obtain ⟨b', off', hb', r0, r1, r2, A2⟩ := f2
      simp only [Option.some.injEq, Addr.mk.injEq, and_true] at hb'
      obtain ⟨rfl, rfl⟩ := hb'
      have hor : (fs[0]?.getD noFV).ok = false ∨ (fs[1]?.getD noFV).ok = false ∨ (fs[2]?.getD noFV).ok = false := by
        match fs, HN.out with
        | [x, y, z], _ =>
          simp only [List.all_cons, List.all_nil, Bool.and_true] at hno'
          simp only [List.getElem?_cons_zero, List.getElem?_cons_succ, Option.getD_some]
          revert hno'
          cases x.ok <;> cases y.ok <;> cases z.ok <;> simp
      generalize fs[0]?.getD noFV = x at *
      generalize fs[1]?.getD noFV = y at *
      generalize fs[2]?.getD noFV = z at *
      obtain ⟨xa, xn, xcap, xc, xm, xcap', xK, xC, xD⟩ := x
      obtain ⟨ya, yn, ycap, yc, ym, ycap', yK, yC, yD⟩ := y
      obtain ⟨za, zn, zcap, zc, zm, zcap', zK, zC, zD⟩ := z
      obtain ⟨x1, x2, x3, x4⟩ := A0
      obtain ⟨y1, y2, y3, y4⟩ := A1
      obtain ⟨z1, z2, z3, z4⟩ := A2
      simp only [FV.ok] at p0 p1 p2 q0 q1 q2 r0 r1 r2 hor x1 x2 x3 x4 y1 y2 y3 y4 z1 z2 z3 z4
      have lb := block_lt p0
      have nb := n0.b
      clear hF hno'
      rw [Nat.zero_mul, Nat.add_zero] at p0 p1 p2
      rw [Nat.one_mul] at q0 q1 q2
      have e6 : off + 2 * 3 = off + 6 := rfl
      rw [e6] at r0 r1 r2
      cases hx : formB xn xm xC xD xK
      · go_enter Try.func79, Try.ntmps79
        go_wp2_with fail
        refine (sok_any _ _ _ _ _ _ _ C D _ (hC.below n0.b) (hD.below n0.b) hn hm).mono ?_
        rintro e w1 ⟨rfl, b1⟩
        have H1 := n0.below b1
        have s0 := (H1.b.cell (p := ⟨b, off, none⟩) lb).trans p0
        have s1 := (H1.b.cell (p := ⟨b, off + 1, none⟩) lb).trans p1
        have s2 := (H1.b.cell (p := ⟨b, off + 2, none⟩) lb).trans p2
        go_wp2_with fail
        refine (sok_any _ _ _ _ _ _ _ xC xD _ (x1.below H1.b) (x2.below H1.b) x3 x4).mono ?_
        rintro e w2 ⟨rfl, b2⟩
        have H2 := H1.below b2
        obtain ⟨g0, g1, g2, g3, g4, g5⟩ := H2.room
        go_wp2
        exact bodyPost_ret (v := formV none 0 0 none 0 0 0) (by simp [results, Try.results79, go_sem, g0, g1, g2]) rfl H2.none
      · cases hy : formB yn ym yC yD yK
        · go_enter Try.func79, Try.ntmps79
          go_wp2_with fail
          refine (sok_any _ _ _ _ _ _ _ C D _ (hC.below n0.b) (hD.below n0.b) hn hm).mono ?_
          rintro e w1 ⟨rfl, b1⟩
          have H1 := n0.below b1
          have s0 := (H1.b.cell (p := ⟨b, off, none⟩) lb).trans p0
          have s1 := (H1.b.cell (p := ⟨b, off + 1, none⟩) lb).trans p1
          have s2 := (H1.b.cell (p := ⟨b, off + 2, none⟩) lb).trans p2
          go_wp2_with fail
          refine (sok_any _ _ _ _ _ _ _ xC xD _ (x1.below H1.b) (x2.below H1.b) x3 x4).mono ?_
          rintro e w2 ⟨rfl, b2⟩
          have H2 := H1.below b2
          have t0 := (H2.b.cell (p := ⟨b, off + 3, none⟩) lb).trans q0
          have t1 := (H2.b.cell (p := ⟨b, off + 3 + 1, none⟩) lb).trans q1
          have t2 := (H2.b.cell (p := ⟨b, off + 3 + 2, none⟩) lb).trans q2
          go_wp2_with fail
          refine (sok_any _ _ _ _ _ _ _ yC yD _ (y1.below H2.b) (y2.below H2.b) y3 y4).mono ?_
          rintro e w3 ⟨rfl, b3⟩
          have H3 := H2.below b3
          obtain ⟨g0, g1, g2, g3, g4, g5⟩ := H3.room
          go_wp2
          exact bodyPost_ret (v := formV none 0 0 none 0 0 0) (by simp [results, Try.results79, go_sem, g0, g1, g2]) rfl H3.none
        · have hz : formB zn zm zC zD zK = false := by simpa [hx, hy] using hor
          go_enter Try.func79, Try.ntmps79
          go_wp2_with fail
          refine (sok_any _ _ _ _ _ _ _ C D _ (hC.below n0.b) (hD.below n0.b) hn hm).mono ?_
          rintro e w1 ⟨rfl, b1⟩
          have H1 := n0.below b1
          have s0 := (H1.b.cell (p := ⟨b, off, none⟩) lb).trans p0
          have s1 := (H1.b.cell (p := ⟨b, off + 1, none⟩) lb).trans p1
          have s2 := (H1.b.cell (p := ⟨b, off + 2, none⟩) lb).trans p2
          go_wp2_with fail
          refine (sok_any _ _ _ _ _ _ _ xC xD _ (x1.below H1.b) (x2.below H1.b) x3 x4).mono ?_
          rintro e w2 ⟨rfl, b2⟩
          have H2 := H1.below b2
          have t0 := (H2.b.cell (p := ⟨b, off + 3, none⟩) lb).trans q0
          have t1 := (H2.b.cell (p := ⟨b, off + 3 + 1, none⟩) lb).trans q1
          have t2 := (H2.b.cell (p := ⟨b, off + 3 + 2, none⟩) lb).trans q2
          go_wp2_with fail
          refine (sok_any _ _ _ _ _ _ _ yC yD _ (y1.below H2.b) (y2.below H2.b) y3 y4).mono ?_
          rintro e w3 ⟨rfl, b3⟩
          have H3 := H2.below b3
          have u0 := (H3.b.cell (p := ⟨b, off + 6, none⟩) lb).trans r0
          have u1 := (H3.b.cell (p := ⟨b, off + 6 + 1, none⟩) lb).trans r1
          have u2 := (H3.b.cell (p := ⟨b, off + 6 + 2, none⟩) lb).trans r2
          go_wp2_with fail
          refine (sok_any _ _ _ _ _ _ _ zC zD _ (z1.below H3.b) (z2.below H3.b) z3 z4).mono ?_
          rintro e w4 ⟨rfl, b4⟩
          have H4 := H3.below b4
          obtain ⟨g0, g1, g2, g3, g4, g5⟩ := H4.room
          go_wp2
          exact bodyPost_ret (v := formV none 0 0 none 0 0 0) (by simp [results, Try.results79, go_sem, g0, g1, g2]) rfl H4.none
    · clear hno
      have h2' : ((N : Int) != 3) = true := by simpa using h2
      go_enter Try.func79, Try.ntmps79
      go_wp2_with fail
      refine (sok_any _ _ _ _ _ _ _ C D _ (hC.below n0.b) (hD.below n0.b) hn hm).mono ?_
      rintro e w1 ⟨rfl, b1⟩
      have H := n0.below b1
      obtain ⟨r0, r1, r2, r3, r4, r5⟩ := H.room
      go_wp2
      exact bodyPost_ret (v := formV none 0 0 none 0 0 0) (by simp [results, Try.results79, go_sem, r0, r1, r2]) rfl H.none

end Go.Proofs.Ytngfbcegcekbbaa
namespace Go.Proofs.Ytngfbcegcekbbaa
open Go.RowKit
set_option linter.unusedVariables false
set_option maxRecDepth 100000

theorem at20 (w : World) (o0 o1 : Obj) : ((w.alloc o0).alloc o1).drew.heap[w.heap.size]? = some o0 := by
  show ((w.heap.push o0).push o1)[w.heap.size]? = some o0
  simp only [Array.getElem?_push, Array.size_push]
  repeat (first | rw [if_pos trivial] | rw [if_neg (by omega)])
theorem lt20 (w : World) (o0 o1 : Obj) : w.heap.size < ((w.alloc o0).alloc o1).drew.heap.size := by
  show w.heap.size < ((w.heap.push o0).push o1).size
  simp only [Array.size_push]
  omega
theorem at21 (w : World) (o0 o1 : Obj) : ((w.alloc o0).alloc o1).drew.heap[w.heap.size + 1]? = some o1 := by
  show ((w.heap.push o0).push o1)[w.heap.size + 1]? = some o1
  simp only [Array.getElem?_push, Array.size_push]
  repeat (first | rw [if_pos trivial] | rw [if_neg (by omega)])
theorem lt21 (w : World) (o0 o1 : Obj) : w.heap.size + 1 < ((w.alloc o0).alloc o1).drew.heap.size := by
  show w.heap.size + 1 < ((w.heap.push o0).push o1).size
  simp only [Array.size_push]
  omega
theorem at30 (w : World) (o0 o1 o2 : Obj) : (((w.alloc o0).alloc o1).alloc o2).drew.heap[w.heap.size]? = some o0 := by
  show (((w.heap.push o0).push o1).push o2)[w.heap.size]? = some o0
  simp only [Array.getElem?_push, Array.size_push]
  repeat (first | rw [if_pos trivial] | rw [if_neg (by omega)])
theorem lt30 (w : World) (o0 o1 o2 : Obj) : w.heap.size < (((w.alloc o0).alloc o1).alloc o2).drew.heap.size := by
  show w.heap.size < (((w.heap.push o0).push o1).push o2).size
  simp only [Array.size_push]
  omega
theorem at31 (w : World) (o0 o1 o2 : Obj) : (((w.alloc o0).alloc o1).alloc o2).drew.heap[w.heap.size + 1]? = some o1 := by
  show (((w.heap.push o0).push o1).push o2)[w.heap.size + 1]? = some o1
  simp only [Array.getElem?_push, Array.size_push]
  repeat (first | rw [if_pos trivial] | rw [if_neg (by omega)])
theorem lt31 (w : World) (o0 o1 o2 : Obj) : w.heap.size + 1 < (((w.alloc o0).alloc o1).alloc o2).drew.heap.size := by
  show w.heap.size + 1 < (((w.heap.push o0).push o1).push o2).size
  simp only [Array.size_push]
  omega
theorem at32 (w : World) (o0 o1 o2 : Obj) : (((w.alloc o0).alloc o1).alloc o2).drew.heap[w.heap.size + 1 + 1]? = some o2 := by
  show (((w.heap.push o0).push o1).push o2)[w.heap.size + 1 + 1]? = some o2
  simp only [Array.getElem?_push, Array.size_push]
  repeat (first | rw [if_pos trivial] | rw [if_neg (by omega)])
theorem lt32 (w : World) (o0 o1 o2 : Obj) : w.heap.size + 1 + 1 < (((w.alloc o0).alloc o1).alloc o2).drew.heap.size := by
  show w.heap.size + 1 + 1 < (((w.heap.push o0).push o1).push o2).size
  simp only [Array.size_push]
  omega

theorem sz1 (w : World) (o0 : Obj) : (w.alloc o0).drew.heap.size = w.heap.size + 1 := by show (w.heap.push o0).size = _; simp only [Array.size_push]
theorem sz2 (w : World) (o0 o1 : Obj) : ((w.alloc o0).alloc o1).drew.heap.size = w.heap.size + 1 + 1 := by show ((w.heap.push o0).push o1).size = _; simp only [Array.size_push]
theorem sz3 (w : World) (o0 o1 o2 : Obj) : (((w.alloc o0).alloc o1).alloc o2).drew.heap.size = w.heap.size + 1 + 1 + 1 := by show (((w.heap.push o0).push o1).push o2).size = _; simp only [Array.size_push]
theorem own_ints {W : World} {base g cap n : Nat} {D : List Int} (h : W.ownsRow base 3 1 (.slice (some ⟨g, 0, none⟩) (0 + n) cap) (0 + n) ([] ++ D.map (Value.int .i64))) (hl : D.length = n) : Ints W (some ⟨g, 0, none⟩) n D := by
  refine ⟨hl, fun i hi => ⟨g, 0, rfl, ?_⟩⟩
  rcases h.2 with ⟨h', _⟩ | ⟨g', cap', cur, h', _, hg, _, _, hcs, htake⟩
  · simp at h'
  · simp only [Value.slice.injEq, Option.some.injEq, Addr.mk.injEq, and_true, true_and] at h'
    obtain ⟨rfl, rfl⟩ := h'
    have e : cur[i]? = (([] ++ D.map (Value.int .i64)) : List Value)[i]? := by
      rw [← htake, List.getElem?_take_of_lt (by omega)]
      simp
    simp only [World.cell?, hg]
    simp only [Nat.zero_add]
    rw [e]
    simp [hl, hi]
theorem Ints.set {W : World} {a : Option Addr} {n X : Nat} {zs : List Int} (h : Ints W a n zs) (hx : ∀ b o, a = some ⟨b, o, none⟩ → b ≠ X) (i : Nat) (v : Value) : Ints (W.setCell ⟨X, i, none⟩ v) a n zs := by
  refine ⟨h.1, fun j hj => ?_⟩
  obtain ⟨b, off, hab, hc⟩ := h.2 j hj
  refine ⟨b, off, hab, ?_⟩
  rw [← hc]
  exact World.cell?_of_block (Below.heap_setCell _ _ _ _ (hx b off hab))
theorem Cel.set3 {w : World} {B : Nat} {x y z : Value} {t : TypeId} (h : Cel w B [x, y, z] t) (u v u' : Value) : Cel (((w.setCell ⟨B, 0, none⟩ u).setCell ⟨B, 1, none⟩ v).setCell ⟨B, 2, none⟩ u') B [u, v, u'] t := ((h.set 0 u).set 1 v).set 2 u'
theorem Cel.new1 (w : World) (o : Obj) (vs : List Value) (t : TypeId) : Cel ((w.alloc o).alloc (.cells vs.toArray t)) (w.heap.size + 1) vs t := by
  have := Cel.new (w.alloc o) vs t
  rw [World.size_alloc] at this; exact this
theorem Blk.new3s (w : World) (p q r : Addr) (u v x : Value) : Blk ((((w.setCell p u).setCell q v).setCell r x).alloc (.cells #[.int .i64 0, .int .i64 0, .int .i64 0] 3)) w.heap.size [0, 0, 0] := by
  have := Blk.new3 (((w.setCell p u).setCell q v).setCell r x)
  rw [size_setCell, size_setCell, size_setCell] at this; exact this
theorem Blk.new31 (w : World) (o : Obj) : Blk ((w.alloc o).alloc (.cells #[.int .i64 0, .int .i64 0, .int .i64 0] 3)) (w.heap.size + 1) [0, 0, 0] := by
  have := Blk.new3 (w.alloc o)
  rw [World.size_alloc] at this; exact this

theorem row_news {W : World} {cb co n : Nat} {D : List Int} (h : Ints W (some ⟨cb, co, none⟩) n D) : ∀ (j : Nat) (u : Value), (D.map (Value.int .i64))[j]? = some u → W.cell? ((⟨cb, co, none⟩ : Addr).add j) = some u := fun j u hu => by
  rw [List.getElem?_map] at hu
  obtain ⟨z, hz, rfl⟩ := Option.map_eq_some_iff.1 hu
  have hj : j < n := by rw [← h.1]; exact (List.getElem?_eq_some_iff.1 hz).1
  obtain ⟨b, off, he, hc⟩ := h.2 j hj
  simp only [Option.some.injEq, Addr.mk.injEq, and_true] at he
  obtain ⟨rfl, rfl⟩ := he
  have hadd : (⟨cb, co, none⟩ : Addr).add j = ⟨cb, co + j, none⟩ := by
    by_cases h0 : j = 0
    · subst h0; simp [Addr.add]
    · simp [Addr.add, h0]
  rw [hadd, hc]
  simp [hz]
theorem row_one (D : List Int) : ∀ u ∈ D.map (Value.int .i64), u.oneCell' = true := by
  intro u hu
  obtain ⟨z, _, rfl⟩ := List.mem_map.1 hu
  rfl

set_option maxHeartbeats 3200000 in
theorem sinto_yes (a : Option Addr) (cap : Nat) (c : Option Addr) (cap' : Nat) (K : Int) (C D : List Int) (b off capN : Nat) (fs : List FV) (w : World) (hC : Ints w a 3 C) (hD : Ints w c 2 D)
    (hN : fs.length = 3) (hF : FormsG w (some ⟨b, off, none⟩) fs) (h1 : formB 3 2 C D K = true) (hall : fs.all FV.ok = true) :
    Calls Try.prog 79 #[formV a 3 cap c 2 cap' K, .slice (some ⟨b, off, none⟩) 3 capN] w fun e w' => Res w w' e (keepL (formB 3 2 (intoC C fs 3) (intoD C D fs 3) (intoK C K fs 3)) (intoC C fs 3)) (keepL (formB 3 2 (intoC C fs 3) (intoD C D fs 3) (intoK C K fs 3)) (intoD C D fs 3)) (keepK (formB 3 2 (intoC C fs 3) (intoD C D fs 3) (intoK C K fs 3)) (intoK C K fs 3)) := by
  have n0 := IH.new (w := w) (a := a) (n := 3) (cap := cap) (c := c) (m := 2) (cap' := cap') (K := K)
  obtain ⟨-, -, bC, bD, bK1, bK2⟩ := formB_elim h1
  have hg : ∀ i, i < 3 → ∃ x : FV, x = fs[i]?.getD noFV ∧ OkF x ∧ x.ok = true ∧ x.At w ∧ w.cell? ⟨b, off + i * 3, none⟩ = some (.slice x.a x.n x.cap) ∧ w.cell? ⟨b, off + i * 3 + 1, none⟩ = some (.slice x.c x.m x.cap') ∧ w.cell? ⟨b, off + i * 3 + 2, none⟩ = some (.int .i64 x.K) := fun i hi => by
    obtain ⟨b', off', hb', q0, q1, q2, A1⟩ := hF i (by omega)
    simp only [Option.some.injEq, Addr.mk.injEq, and_true] at hb'
    obtain ⟨rfl, rfl⟩ := hb'
    have ok : (fs[i]?.getD noFV).ok = true := by
      rw [List.all_eq_true] at hall
      rw [List.getElem?_eq_getElem (by omega)]
      exact hall _ (List.getElem_mem _)
    exact ⟨_, rfl, OkF.of A1 ok, ok, A1, q0, q1, q2⟩
  have ho : ∀ i, i < 3 → OkF (fs[i]?.getD noFV) := fun i hi => by
    obtain ⟨x, rfl, h, _⟩ := hg i hi; exact h
  have HI : Hid _ := fun k hk => IntoF.of hD.1 bC bD bK1 bK2 ho k hk
  have HG : Hid _ := hg
  obtain ⟨lb0, _⟩ : b < w.heap.size ∧ True := by
    obtain ⟨x, rfl, _, _, _, q0, _⟩ := hg 0 (by omega)
    exact ⟨block_lt q0, trivial⟩
  clear hg ho hF hN hall
  obtain ⟨cb, co, rfl, hDc⟩ := hD.pos (by omega)
  obtain ⟨ab, ao, rfl, hCc⟩ := hC.pos (by omega)
  clear hDc hCc
  obtain ⟨i0, hi, hz0, hz1, hz2⟩ := info_parts Try.infoInt
  go_enter Try.func79, Try.ntmps79
  go_wp2_with fail
  refine (sok_any _ _ _ _ _ _ _ C D _ (hC.below n0.b) (hD.below n0.b) (by omega) (by omega)).mono ?_
  rintro e w1 ⟨rfl, b1⟩
  have H1 := n0.below b1
  clear n0 b1
  obtain ⟨⟨xa, xn, xcap, xc, xm, xcap', xK, xC, xD⟩, -, -, ok, A, q0, q1, q2⟩ := HG.out 0 (by omega)
  obtain ⟨x1, x2, x3, x4⟩ := A
  simp only [FV.ok] at ok q0 q1 q2 x1 x2 x3 x4
  rw [Nat.zero_mul, Nat.add_zero] at q0 q1 q2
  have s0 := (H1.b.cell (p := ⟨b, off, none⟩) lb0).trans q0
  have s1 := (H1.b.cell (p := ⟨b, off + 1, none⟩) lb0).trans q1
  have s2 := (H1.b.cell (p := ⟨b, off + 2, none⟩) lb0).trans q2
  clear q0 q1 q2
  go_wp2_with fail
  refine (sok_any _ _ _ _ _ _ _ xC xD _ (x1.below H1.b) (x2.below H1.b) x3 x4).mono ?_
  rintro e w2 ⟨rfl, b2⟩
  rw [ok]
  have H2 := H1.below b2
  clear ok x1 x2 x3 x4 s0 s1 s2 H1 b2
  obtain ⟨⟨xa, xn, xcap, xc, xm, xcap', xK, xC, xD⟩, -, -, ok, A, q0, q1, q2⟩ := HG.out 1 (by omega)
  obtain ⟨x1, x2, x3, x4⟩ := A
  simp only [FV.ok] at ok q0 q1 q2 x1 x2 x3 x4
  rw [Nat.one_mul] at q0 q1 q2
  have s0 := (H2.b.cell (p := ⟨b, off + 3, none⟩) lb0).trans q0
  have s1 := (H2.b.cell (p := ⟨b, off + 3 + 1, none⟩) lb0).trans q1
  have s2 := (H2.b.cell (p := ⟨b, off + 3 + 2, none⟩) lb0).trans q2
  clear q0 q1 q2
  go_wp2_with fail
  refine (sok_any _ _ _ _ _ _ _ xC xD _ (x1.below H2.b) (x2.below H2.b) x3 x4).mono ?_
  rintro e w3 ⟨rfl, b3⟩
  rw [ok]
  have H3 := H2.below b3
  clear ok x1 x2 x3 x4 s0 s1 s2 H2 b3
  obtain ⟨⟨xa, xn, xcap, xc, xm, xcap', xK, xC, xD⟩, -, -, ok, A, q0, q1, q2⟩ := HG.out 2 (by omega)
  obtain ⟨x1, x2, x3, x4⟩ := A
  simp only [FV.ok] at ok q0 q1 q2 x1 x2 x3 x4
  have e6 : off + 2 * 3 = off + 6 := rfl
  rw [e6] at q0 q1 q2
  have s0 := (H3.b.cell (p := ⟨b, off + 6, none⟩) lb0).trans q0
  have s1 := (H3.b.cell (p := ⟨b, off + 6 + 1, none⟩) lb0).trans q1
  have s2 := (H3.b.cell (p := ⟨b, off + 6 + 2, none⟩) lb0).trans q2
  clear q0 q1 q2 e6
  go_wp2_with fail
  refine (sok_any _ _ _ _ _ _ _ xC xD _ (x1.below H3.b) (x2.below H3.b) x3 x4).mono ?_
  rintro e wy ⟨rfl, b4⟩
  rw [ok]
  have HY := H3.below b4
  clear ok x1 x2 x3 x4 s0 s1 s2 H3 b4
  have ly := HY.r.lt
  have A1 := HY.b.size
  go_upto_region 3 with fail
  go_cut [5] (fun s wx => ∃ X a' cpa c' cpc, s = .pointer (some ⟨X, 0, none⟩) ∧ IH w (some ⟨ab, ao, none⟩) 3 cap (some ⟨cb, co, none⟩) 2 cap' K wx ∧ Cel wx X [.slice a' 3 cpa, .slice c' 2 cpc, .int .i64 K] 32 ∧ Ints wx a' 3 [0, 0, 0] ∧ Ints wx c' 2 D ∧ w.heap.size + 1 < X)
  case first =>
    have GY := HY.cells
    have N1 := World.new_ne wy ⟨w.heap.size, 1, none⟩ GY.2.1
    have N2 := World.new_ne wy ⟨w.heap.size, 2, none⟩ GY.2.2
    go_region_held3 (fun w' => w'.cell? ⟨w.heap.size, 1, none⟩ = some (.slice (some ⟨cb, co, none⟩) 2 cap') ∧ w'.cell? ⟨w.heap.size, 2, none⟩ = some (.int .i64 K)) (with_reducible first | assumption | exact (HY.alloc _).drew.cells.2 | exact ((HY.alloc _).alloc _).drew.cells.2 | exact (((HY.alloc _).alloc _).alloc _).drew.cells.2 | exact (HZ.alloc _).cells.2 | exact ((HZ.alloc _).alloc _).cells.2 | exact (((HZ.set (by omega) _ _).set (by omega) _ _).set (by omega) _ _).cells.2 | exact ((((HZ.alloc _).set (by omega) _ _).set (by omega) _ _).set (by omega) _ _).cells.2 | exact (((((HZ.alloc _).alloc _).set (by omega) _ _).set (by omega) _ _).set (by omega) _ _).cells.2 | exact ((((HZ.set (by omega) _ _).set (by omega) _ _).set (by omega) _ _).alloc _).cells.2 | go_keep)
      ((refine step_append_grows (by rfl) _ _ _ (by rfl) 3 i0 (.int .i64 0) 1 8 Try.underlying30 hi hz0 hz1 hz2 rfl (by decide) _ 0 0 [] (by rfl) (fun _ => ⟨rfl, rfl⟩) rfl (fun _ _ j u hu => by simp at hu) ⟨cb, co, none⟩ 2 cap' (D.map (Value.int .i64)) (by rfl) (by rw [List.length_map]; exact hD.1) (row_news (by with_reducible first | exact hD.below HY.drew.b | exact hD.below (HY.alloc _).drew.b | exact hD.below ((HY.alloc _).alloc _).drew.b | exact hD.below (((HY.alloc _).alloc _).alloc _).drew.b)) (row_one D) (by omega) (by unfold maxLen; omega) (by omega) ?_
        intro v' wz hown hgrow
        obtain ⟨g, cpg, rfl, hbg, hlt⟩ := World.ownsRow.form hown (by omega)
        have IZ := own_ints hown hD.1
        simp only [sz1, World.size_alloc] at hbg
        have BZ := (Below.refl _ _).grown hgrow (Nat.le_refl _) (by simp)
        have HZ := IH.below (w := w) (a := some ⟨ab, ao, none⟩) (n := 3) (cap := cap) (c := some ⟨cb, co, none⟩) (m := 2) (cap' := cap') (K := K) (by with_reducible first | exact HY.drew | exact (HY.alloc _).drew | exact ((HY.alloc _).alloc _).drew | exact (((HY.alloc _).alloc _).alloc _).drew) BZ
        have GZ := HZ.cells.2
        have rz := HZ.r.lt
        have P0 := BZ.block wy.heap.size
        have P1 := BZ.block (wy.heap.size + 1)
        have P2 := BZ.block (wy.heap.size + 1 + 1)
        try simp only [at20, at21, at30, at31, at32, lt20, lt21, lt30, lt31, lt32, forall_const] at P0 P1 P2
        first
          | (have XZ : Cel wz wy.heap.size [.slice none 0 0, .slice none 0 0, .int .i64 0] 32 := by unfold Cel; with_reducible exact P0
             obtain ⟨u0, u1, u2, u3, u4, u5⟩ := XZ.trio; have lx := XZ.lt; have nx0 := World.new_ne wz _ u0; have nx1 := World.new_ne wz _ u1; have nx2 := World.new_ne wz _ u2)
          | (have XZ : Cel wz (wy.heap.size + 1) [.slice none 0 0, .slice none 0 0, .int .i64 0] 32 := by unfold Cel; with_reducible exact P1
             obtain ⟨u0, u1, u2, u3, u4, u5⟩ := XZ.trio; have lx := XZ.lt; have nx0 := World.new_ne wz _ u0; have nx1 := World.new_ne wz _ u1; have nx2 := World.new_ne wz _ u2)
          | (have XZ : Cel wz (wy.heap.size + 1 + 1) [.slice none 0 0, .slice none 0 0, .int .i64 0] 32 := by unfold Cel; with_reducible exact P2
             obtain ⟨u0, u1, u2, u3, u4, u5⟩ := XZ.trio; have lx := XZ.lt; have nx0 := World.new_ne wz _ u0; have nx1 := World.new_ne wz _ u1; have nx2 := World.new_ne wz _ u2)
          | skip
        first
          | have AZ : Blk wz wy.heap.size [0, 0, 0] := by exact P0
          | have AZ : Blk wz (wy.heap.size + 1) [0, 0, 0] := by exact P1
          | have AZ : Blk wz (wy.heap.size + 1 + 1) [0, 0, 0] := by exact P2
          | skip))
    all_goals
      go_wp2_with fail
      go_meet
      case rel =>
        first
          | refine ⟨_, some ⟨wy.heap.size, 0, none⟩, 3, some ⟨g, 0, none⟩, cpg, rfl, (by with_reducible first | exact HZ.alloc _ | exact (HZ.alloc _).alloc _ | exact (((HZ.set (by omega) _ _).set (by omega) _ _).set (by omega) _ _) | exact (((HZ.set (by omega) _ _).set (by omega) _ _).set (by omega) _ _).alloc _), (by with_reducible first | exact Cel.new wz _ _ | exact Cel.new1 wz _ _ _ | exact (Cel.new wz _ _).alloc _ | exact (XZ.set3 _ _ _) | exact (XZ.set3 _ _ _).alloc _), (by with_reducible first | exact (AZ.alloc _).ints' (n := 3) rfl | exact (Blk.new3 _).ints' (n := 3) rfl | exact ((Blk.new3 wz).alloc _).ints' (n := 3) rfl | exact (Blk.new31 wz _).ints' (n := 3) rfl | exact (Blk.new3s wz _ _ _ _ _ _).ints' (n := 3) rfl | exact (((AZ.setOther (by omega) _ _).setOther (by omega) _ _).setOther (by omega) _ _).ints' (n := 3) rfl), (by with_reducible first | exact IZ.alloc _ | exact (IZ.alloc _).alloc _ | exact (((IZ.set (fun x o hx => by simp only [Option.some.injEq, Addr.mk.injEq, and_true] at hx; omega) _ _).set (fun x o hx => by simp only [Option.some.injEq, Addr.mk.injEq, and_true] at hx; omega) _ _).set (fun x o hx => by simp only [Option.some.injEq, Addr.mk.injEq, and_true] at hx; omega) _ _) | exact (((IZ.set (fun x o hx => by simp only [Option.some.injEq, Addr.mk.injEq, and_true] at hx; omega) _ _).set (fun x o hx => by simp only [Option.some.injEq, Addr.mk.injEq, and_true] at hx; omega) _ _).set (fun x o hx => by simp only [Option.some.injEq, Addr.mk.injEq, and_true] at hx; omega) _ _).alloc _), by omega⟩
          | refine ⟨_, some ⟨wy.heap.size + 1, 0, none⟩, 3, some ⟨g, 0, none⟩, cpg, rfl, (by with_reducible first | exact HZ.alloc _ | exact (HZ.alloc _).alloc _ | exact (((HZ.set (by omega) _ _).set (by omega) _ _).set (by omega) _ _) | exact (((HZ.set (by omega) _ _).set (by omega) _ _).set (by omega) _ _).alloc _), (by with_reducible first | exact Cel.new wz _ _ | exact Cel.new1 wz _ _ _ | exact (Cel.new wz _ _).alloc _ | exact (XZ.set3 _ _ _) | exact (XZ.set3 _ _ _).alloc _), (by with_reducible first | exact (AZ.alloc _).ints' (n := 3) rfl | exact (Blk.new3 _).ints' (n := 3) rfl | exact ((Blk.new3 wz).alloc _).ints' (n := 3) rfl | exact (Blk.new31 wz _).ints' (n := 3) rfl | exact (Blk.new3s wz _ _ _ _ _ _).ints' (n := 3) rfl | exact (((AZ.setOther (by omega) _ _).setOther (by omega) _ _).setOther (by omega) _ _).ints' (n := 3) rfl), (by with_reducible first | exact IZ.alloc _ | exact (IZ.alloc _).alloc _ | exact (((IZ.set (fun x o hx => by simp only [Option.some.injEq, Addr.mk.injEq, and_true] at hx; omega) _ _).set (fun x o hx => by simp only [Option.some.injEq, Addr.mk.injEq, and_true] at hx; omega) _ _).set (fun x o hx => by simp only [Option.some.injEq, Addr.mk.injEq, and_true] at hx; omega) _ _) | exact (((IZ.set (fun x o hx => by simp only [Option.some.injEq, Addr.mk.injEq, and_true] at hx; omega) _ _).set (fun x o hx => by simp only [Option.some.injEq, Addr.mk.injEq, and_true] at hx; omega) _ _).set (fun x o hx => by simp only [Option.some.injEq, Addr.mk.injEq, and_true] at hx; omega) _ _).alloc _), by omega⟩
          | refine ⟨_, some ⟨wy.heap.size + 1 + 1, 0, none⟩, 3, some ⟨g, 0, none⟩, cpg, rfl, (by with_reducible first | exact HZ.alloc _ | exact (HZ.alloc _).alloc _ | exact (((HZ.set (by omega) _ _).set (by omega) _ _).set (by omega) _ _) | exact (((HZ.set (by omega) _ _).set (by omega) _ _).set (by omega) _ _).alloc _), (by with_reducible first | exact Cel.new wz _ _ | exact Cel.new1 wz _ _ _ | exact (Cel.new wz _ _).alloc _ | exact (XZ.set3 _ _ _) | exact (XZ.set3 _ _ _).alloc _), (by with_reducible first | exact (AZ.alloc _).ints' (n := 3) rfl | exact (Blk.new3 _).ints' (n := 3) rfl | exact ((Blk.new3 wz).alloc _).ints' (n := 3) rfl | exact (Blk.new31 wz _).ints' (n := 3) rfl | exact (Blk.new3s wz _ _ _ _ _ _).ints' (n := 3) rfl | exact (((AZ.setOther (by omega) _ _).setOther (by omega) _ _).setOther (by omega) _ _).ints' (n := 3) rfl), (by with_reducible first | exact IZ.alloc _ | exact (IZ.alloc _).alloc _ | exact (((IZ.set (fun x o hx => by simp only [Option.some.injEq, Addr.mk.injEq, and_true] at hx; omega) _ _).set (fun x o hx => by simp only [Option.some.injEq, Addr.mk.injEq, and_true] at hx; omega) _ _).set (fun x o hx => by simp only [Option.some.injEq, Addr.mk.injEq, and_true] at hx; omega) _ _) | exact (((IZ.set (fun x o hx => by simp only [Option.some.injEq, Addr.mk.injEq, and_true] at hx; omega) _ _).set (fun x o hx => by simp only [Option.some.injEq, Addr.mk.injEq, and_true] at hx; omega) _ _).set (fun x o hx => by simp only [Option.some.injEq, Addr.mk.injEq, and_true] at hx; omega) _ _).alloc _), by omega⟩
          | refine ⟨_, some ⟨wz.heap.size, 0, none⟩, 3, some ⟨g, 0, none⟩, cpg, rfl, (by with_reducible first | exact HZ.alloc _ | exact (HZ.alloc _).alloc _ | exact (((HZ.set (by omega) _ _).set (by omega) _ _).set (by omega) _ _) | exact (((HZ.set (by omega) _ _).set (by omega) _ _).set (by omega) _ _).alloc _), (by with_reducible first | exact Cel.new wz _ _ | exact Cel.new1 wz _ _ _ | exact (Cel.new wz _ _).alloc _ | exact (XZ.set3 _ _ _) | exact (XZ.set3 _ _ _).alloc _), (by with_reducible first | exact (AZ.alloc _).ints' (n := 3) rfl | exact (Blk.new3 _).ints' (n := 3) rfl | exact ((Blk.new3 wz).alloc _).ints' (n := 3) rfl | exact (Blk.new31 wz _).ints' (n := 3) rfl | exact (Blk.new3s wz _ _ _ _ _ _).ints' (n := 3) rfl | exact (((AZ.setOther (by omega) _ _).setOther (by omega) _ _).setOther (by omega) _ _).ints' (n := 3) rfl), (by with_reducible first | exact IZ.alloc _ | exact (IZ.alloc _).alloc _ | exact (((IZ.set (fun x o hx => by simp only [Option.some.injEq, Addr.mk.injEq, and_true] at hx; omega) _ _).set (fun x o hx => by simp only [Option.some.injEq, Addr.mk.injEq, and_true] at hx; omega) _ _).set (fun x o hx => by simp only [Option.some.injEq, Addr.mk.injEq, and_true] at hx; omega) _ _) | exact (((IZ.set (fun x o hx => by simp only [Option.some.injEq, Addr.mk.injEq, and_true] at hx; omega) _ _).set (fun x o hx => by simp only [Option.some.injEq, Addr.mk.injEq, and_true] at hx; omega) _ _).set (fun x o hx => by simp only [Option.some.injEq, Addr.mk.injEq, and_true] at hx; omega) _ _).alloc _), by omega⟩
          | refine ⟨_, some ⟨wz.heap.size + 1, 0, none⟩, 3, some ⟨g, 0, none⟩, cpg, rfl, (by with_reducible first | exact HZ.alloc _ | exact (HZ.alloc _).alloc _ | exact (((HZ.set (by omega) _ _).set (by omega) _ _).set (by omega) _ _) | exact (((HZ.set (by omega) _ _).set (by omega) _ _).set (by omega) _ _).alloc _), (by with_reducible first | exact Cel.new wz _ _ | exact Cel.new1 wz _ _ _ | exact (Cel.new wz _ _).alloc _ | exact (XZ.set3 _ _ _) | exact (XZ.set3 _ _ _).alloc _), (by with_reducible first | exact (AZ.alloc _).ints' (n := 3) rfl | exact (Blk.new3 _).ints' (n := 3) rfl | exact ((Blk.new3 wz).alloc _).ints' (n := 3) rfl | exact (Blk.new31 wz _).ints' (n := 3) rfl | exact (Blk.new3s wz _ _ _ _ _ _).ints' (n := 3) rfl | exact (((AZ.setOther (by omega) _ _).setOther (by omega) _ _).setOther (by omega) _ _).ints' (n := 3) rfl), (by with_reducible first | exact IZ.alloc _ | exact (IZ.alloc _).alloc _ | exact (((IZ.set (fun x o hx => by simp only [Option.some.injEq, Addr.mk.injEq, and_true] at hx; omega) _ _).set (fun x o hx => by simp only [Option.some.injEq, Addr.mk.injEq, and_true] at hx; omega) _ _).set (fun x o hx => by simp only [Option.some.injEq, Addr.mk.injEq, and_true] at hx; omega) _ _) | exact (((IZ.set (fun x o hx => by simp only [Option.some.injEq, Addr.mk.injEq, and_true] at hx; omega) _ _).set (fun x o hx => by simp only [Option.some.injEq, Addr.mk.injEq, and_true] at hx; omega) _ _).set (fun x o hx => by simp only [Option.some.injEq, Addr.mk.injEq, and_true] at hx; omega) _ _).alloc _), by omega⟩
  case rest =>
    obtain ⟨X, a', cpa, c', cpc, rfl, HX, hX, iA, iD, lX⟩ := hcut
    clear HY ly A1 hi hz0 hz1 hz2
    go_wp2_with fail
    go_loopw [6] (fun i wr => ∃ k : Nat, k ≤ 3 ∧ i = .int .i64 k ∧ IH w (some ⟨ab, ao, none⟩) 3 cap (some ⟨cb, co, none⟩) 2 cap' K wr ∧ ∃ a' cpa c' cpc, Cel wr X [.slice a' 3 cpa, .slice c' 2 cpc, .int .i64 (intoK C K fs k)] 32 ∧ Ints wr a' 3 (intoC C fs k) ∧ Ints wr c' 2 (intoD C D fs k) ∧
      (k = 3 → ∃ B1 B2, a' = some ⟨B1, 0, none⟩ ∧ cpa = 3 ∧ c' = some ⟨B2, 0, none⟩ ∧ cpc = 2 ∧ Blk wr B1 (intoC C fs 3) ∧ Blk wr B2 (intoD C D fs 3) ∧ w.heap.size + 1 < B1 ∧ w.heap.size + 1 < B2 ∧ B1 ≠ B2)) (fun i _ => 3 - (intOf i).toNat)
    case atStart => exact ⟨0, by omega, rfl, HX, a', cpa, c', cpc, hX, iA, iD, fun h => by omega⟩
    case round =>
      clear HX hX iA iD
      obtain ⟨k, hk, rfl, HX, a', cpa, c', cpc, hX, iA, iD, hB⟩ := hrel
      have IF := HI.out k hk
      by_cases hlt : k < 3
      · clear hB
        obtain ⟨x, hx, okf, -, A, q0, q1, q2⟩ := HG.out k hlt
        obtain ⟨xa, xn, xcap, xc, xm, xcap', xK, xC, xD⟩ := x
        obtain ⟨x1, x2, x3, x4⟩ := A
        obtain ⟨o1, o2, o3, o4, o5, o6, o7, o8⟩ := okf
        simp only at o1 o2 o3 o4 o5 o6 o7 o8 q0 q1 q2 x1 x2
        subst o1 o2
        have HX' : Hid _ := hx
        clear hx x3 x4
        have s0 := (HX.b.cell (p := ⟨b, off + k * 3, none⟩) lb0).trans q0
        have s1 := (HX.b.cell (p := ⟨b, off + k * 3 + 1, none⟩) lb0).trans q1
        have s2 := (HX.b.cell (p := ⟨b, off + k * 3 + 2, none⟩) lb0).trans q2
        have bc := bC k
        have tC := tim_bnd o5 bc.1 bc.2
        have tD := tim_bnd o6 bc.1 bc.2
        have tK := tim_num o7 o8 bc.1 bc.2
        obtain ⟨f1, f2, f3, f4, f5, f6⟩ := IF
        have xbC : bnd 1000000000000000000 (intoC C fs k) := fun i => by have := f3 i; omega
        have xbD : bnd 1000000000000000000 (intoD C D fs k) := fun i => by have := f4 i; omega
        have xbK : -1000000000000000000 ≤ intoK C K fs k ∧ intoK C K fs k ≤ 1000000000000000000 := by omega
        have EC : intoC C fs (k + 1) = lin (intoC C fs k) xC (C[k]?.getD 0) := by simp only [intoC]; rw [← HX'.out]
        have ED : intoD C D fs (k + 1) = lin (intoD C D fs k) xD (C[k]?.getD 0) := by simp only [intoD]; rw [← HX'.out]
        have EK : intoK C K fs (k + 1) = intoK C K fs k + C[k]?.getD 0 * xK := by simp only [intoK]; rw [← HX'.out]
        have LC := lin_len (n := C[k]?.getD 0) f1 o3
        have LD := lin_len (n := C[k]?.getD 0) f2 o4
        have hck : wr.cell? ⟨ab, ao + k, none⟩ = some (.int .i64 (C[k]?.getD 0)) := by
          obtain ⟨b', off', he, hc⟩ := (hC.below HX.b).2 k hlt
          simp only [Option.some.injEq, Addr.mk.injEq, and_true] at he
          obtain ⟨rfl, rfl⟩ := he
          simpa using hc
        have HEC : Hid _ := EC
        have HED : Hid _ := ED
        have HEK : Hid _ := EK
        clear EC ED EK f3 f4 f5 f6 bc q0 q1 q2
        have GX := HX.cells.1
        obtain ⟨u0, u1, u2, u3, u4, u5⟩ := hX.trio
        have hlt' : (k : Int) < 3 := by omega
        have hlt0 : (0 : Int) ≤ (k : Int) := by omega
        generalize intoC C fs k = iC at *
        generalize intoD C D fs k = jD at *
        generalize intoK C K fs k = sK at *
        generalize C[k]?.getD 0 = ck at *
        go_wp2_with fail
        go_region_with (first | (go_at_call 81; refine (l1sum_any _ _ _ _ _ iC jD _ _ _ _ _ xC xD _ _ (by exact iA) (by exact iD) (by exact x1.below HX.drew.b) (by exact x2.below HX.drew.b) xbC xbD xbK tC tD tK).mono ?_; rintro e w5 ⟨B1, B2, rfl, b5, g1, g2, g3, k1, k2⟩; have g1' : wr.heap.size ≤ B1 := g1; have g3' : wr.heap.size ≤ B2 := g3; have b5' := below_of_drew b5; have H5 := HX.below b5'; have X5 := hX.below b5'; obtain ⟨v0, v1, v2, v3, v4, v5⟩ := X5.trio))
        all_goals
          have E3 : Blk (((w5.setCell ⟨X, 0, none⟩ (.slice (some ⟨B1, 0, none⟩) 3 3)).setCell ⟨X, 1, none⟩ (.slice (some ⟨B2, 0, none⟩) 2 2)).setCell ⟨X, 2, none⟩ (.int .i64 (sK + ck * xK))) B1 (lin iC xC ck) := ((k1.setOther (by have := hX.lt; omega) _ _).setOther (by have := hX.lt; omega) _ _).setOther (by have := hX.lt; omega) _ _
          have E4 : Blk (((w5.setCell ⟨X, 0, none⟩ (.slice (some ⟨B1, 0, none⟩) 3 3)).setCell ⟨X, 1, none⟩ (.slice (some ⟨B2, 0, none⟩) 2 2)).setCell ⟨X, 2, none⟩ (.int .i64 (sK + ck * xK))) B2 (lin jD xD ck) := ((k2.setOther (by have := hX.lt; omega) _ _).setOther (by have := hX.lt; omega) _ _).setOther (by have := hX.lt; omega) _ _
          have E1 := ((H5.set (X := X) (by omega) 0 (.slice (some ⟨B1, 0, none⟩) 3 3)).set (X := X) (by omega) 1 (.slice (some ⟨B2, 0, none⟩) 2 2)).set (X := X) (by omega) 2 (.int .i64 (sK + ck * xK))
          have E2 := X5.set3 (.slice (some ⟨B1, 0, none⟩) 3 3) (.slice (some ⟨B2, 0, none⟩) 2 2) (.int .i64 (sK + ck * xK))
          have zr := HX.r.lt
          have zX := hX.lt
          clear k1 k2 HX hX iA iD s0 s1 s2 hck x1 x2 b5 b5' tC tD tK xbC xbD xbK u0 u1 u2 u3 u4 u5 GX
          go_wp2
          go_roundw
          case rel =>
            refine ⟨k + 1, by omega, by go_num, E1, some ⟨B1, 0, none⟩, 3, some ⟨B2, 0, none⟩, 2, ?_, ?_, ?_, ?_⟩
            · rw [HEK.out]; exact E2
            · rw [HEC.out]; exact E3.ints' LC
            · rw [HED.out]; exact E4.ints' LD
            · intro h3
              obtain rfl : k = 2 := by omega
              refine ⟨B1, B2, rfl, rfl, rfl, rfl, ?_, ?_, by omega, by omega, g2⟩
              · rw [HEC.out]; exact E3
              · rw [HED.out]; exact E4
          case measure => simp [intOf]; omega
      · obtain rfl : k = 3 := by omega
        obtain ⟨B1, B2, rfl, rfl, rfl, rfl, k1, k2, lB1, lB2, hne⟩ := hB rfl
        obtain ⟨f1, f2, -, -, -, -⟩ := IF
        clear iA iD hlt hk
        obtain ⟨c0, c1, c2, -, -, -⟩ := hX.trio
        cases h3 : formB 3 2 (intoC C fs 3) (intoD C D fs 3) (intoK C K fs 3)
        all_goals
          go_wp2_with fail
          refine (sok_any _ _ _ _ _ _ _ (intoC C fs 3) (intoD C D fs 3) _ (k1.ints' f1) (k2.ints' f2) (by omega) (by omega)).mono ?_
          rintro e w5 ⟨rfl, b5⟩
          have H5 := HX.below b5
          have x5 := hX.below b5
          obtain ⟨d0, d1, d2, -, -, -⟩ := x5.trio
          obtain ⟨r0, r1, r2, r3, r4, r5⟩ := H5.room
          have k1' := k1.below b5
          have k2' := k2.below b5
          clear c0 c1 c2 HX hX k1 k2 b5
          go_wp2
        · refine bodyPost_ret (v := formV none 0 0 none 0 0 0) (by simp [results, Try.results79, go_sem, r0, r1, r2]) rfl ?_
          rw [h3]
          exact H5.none
        · refine bodyPost_ret (v := formV (some ⟨B1, 0, none⟩) 3 3 (some ⟨B2, 0, none⟩) 2 2 (intoK C K fs 3)) (by simp [results, Try.results79, go_sem, r0, r1, r2]) rfl ?_
          rw [h3]
          refine Res.of (B1 := B1) (B2 := B2) rfl f1 f2 ?_ (by omega) hne (by omega) ?_ ?_
          · exact ((H5.b.setCell (by simp only []; omega) _).setCell (by simp only []; omega) _).setCell (by simp only []; omega) _
          · exact ((k1'.setOther (by omega) _ _).setOther (by omega) _ _).setOther (by omega) _ _
          · exact ((k2'.setOther (by omega) _ _).setOther (by omega) _ _).setOther (by omega) _ _

end Go.Proofs.Ytngfbcegcekbbaa
namespace Go.Proofs.Ytngfbcegcekbbaa
open Go.RowKit
set_option linter.unusedVariables false
set_option maxRecDepth 100000

theorem own_below {W W' : World} {base : Nat} {e : TypeId} {s : Nat} {v : Value} {n : Nat} {xs : List Value} (h : W.ownsRow base e s v n xs) (b : Below W.heap.size W W') : W'.ownsRow base e s v n xs := by
  refine ⟨h.1, ?_⟩
  rcases h.2 with h0 | ⟨g, cap, cur, hv, hb, hg, hr⟩
  · exact .inl h0
  · exact .inr ⟨g, cap, cur, hv, hb, by rw [b.block g (lt_of_block hg)]; exact hg, hr⟩
theorem own_cell {W : World} {base g cap n s : Nat} {e : TypeId} {xs : List Value} (h : W.ownsRow base e s (.slice (some ⟨g, 0, none⟩) n cap) n xs) (j : Nat) (hj : j < n * s) : W.cell? ⟨g, j, none⟩ = xs[j]? := by
  rcases h.2 with ⟨h', _⟩ | ⟨g', cap', cur, h', _, hg, _, _, hcs, htake⟩
  · simp at h'
  · simp only [Value.slice.injEq, Option.some.injEq, Addr.mk.injEq, and_true, true_and] at h'
    obtain ⟨rfl, rfl⟩ := h'
    have e : cur[j]? = xs[j]? := by
      rw [← htake, List.getElem?_take_of_lt hj]
      simp
    simp only [World.cell?, hg]
    exact e
theorem Ints.grown {W W' : World} {a : Option Addr} {n G : Nat} {zs : List Int} (h : Ints W a n zs) (hg : W.grownBy W' (some G)) (hx : ∀ b o, a = some ⟨b, o, none⟩ → b ≠ G) : Ints W' a n zs := by
  refine ⟨h.1, fun j hj => ?_⟩
  obtain ⟨b, off, hab, hc⟩ := h.2 j hj
  refine ⟨b, off, hab, ?_⟩
  rw [hg.cell_far ⟨b, off + j, none⟩ (block_lt hc) (by simpa using hx b off hab)]
  exact hc
theorem Ints.blt {W : World} {a : Option Addr} {n : Nat} {zs : List Int} (h : Ints W a n zs) (hn : 0 < n) (b o : Nat) (e : a = some ⟨b, o, none⟩) : b < W.heap.size := by
  obtain ⟨b', o', e', hc⟩ := h.2 0 hn
  rw [e] at e'
  simp only [Option.some.injEq, Addr.mk.injEq, and_true] at e'
  rw [e'.1]
  exact block_lt hc

/-- The first so many terms, in a row of cells. -/
def TermsOk (W : World) (G : Nat) (xs : List Value) (T : List Frm) (n : Nat) : Prop :=
  ∀ j, j < n → ∃ a' c' ca cc, xs[j * 3]? = some (.slice a' 3 ca) ∧ xs[j * 3 + 1]? = some (.slice c' 2 cc) ∧ xs[j * 3 + 2]? = some (.int .i64 (T[j]?.getD ([], [], 0)).2.2) ∧ Ints W a' 3 (T[j]?.getD ([], [], 0)).1 ∧ Ints W c' 2 (T[j]?.getD ([], [], 0)).2.1 ∧ (∀ b o, a' = some ⟨b, o, none⟩ → b ≠ G) ∧ (∀ b o, c' = some ⟨b, o, none⟩ → b ≠ G)
theorem TermsOk.below {W W' : World} {G : Nat} {xs : List Value} {T : List Frm} {n : Nat} (h : TermsOk W G xs T n) (b : Below W.heap.size W W') : TermsOk W' G xs T n := fun j hj => by
  obtain ⟨a', c', ca, cc, e0, e1, e2, i1, i2, n1, n2⟩ := h j hj
  exact ⟨a', c', ca, cc, e0, e1, e2, i1.below b, i2.below b, n1, n2⟩
theorem TermsOk.step {W W' : World} {G g n : Nat} {xs : List Value} {T : List Frm} (h : TermsOk W G xs T n) (hl : xs.length = n * 3) (hg : W.grownBy W' (some G)) (hat : g = G ∨ W.heap.size ≤ g) {B1 B2 ca cc : Nat} {C D : List Int} {K : Int}
    (k1 : Ints W (some ⟨B1, 0, none⟩) 3 C) (k2 : Ints W (some ⟨B2, 0, none⟩) 2 D) (n1 : B1 ≠ G) (n2 : B2 ≠ G) (hT : T[n]?.getD ([], [], 0) = (C, D, K)) :
    TermsOk W' g (xs ++ [.slice (some ⟨B1, 0, none⟩) 3 ca, .slice (some ⟨B2, 0, none⟩) 2 cc, .int .i64 K]) T (n + 1) := fun j hj => by
  have l1 := k1.blt (by omega) B1 0 rfl
  have l2 := k2.blt (by omega) B2 0 rfl
  by_cases hjn : j < n
  · obtain ⟨a', c', ca, cc, e0, e1, e2, i1, i2, m1, m2⟩ := h j hjn
    refine ⟨a', c', ca, cc, ?_, ?_, ?_, i1.grown hg m1, i2.grown hg m2, fun b o e => ?_, fun b o e => ?_⟩
    · rw [List.getElem?_append_left (by omega)]; exact e0
    · rw [List.getElem?_append_left (by omega)]; exact e1
    · rw [List.getElem?_append_left (by omega)]; exact e2
    · have := m1 b o e
      have := i1.blt (by omega) b o e
      omega
    · have := m2 b o e
      have := i2.blt (by omega) b o e
      omega
  · obtain rfl : j = n := by omega
    rw [hT]
    refine ⟨some ⟨B1, 0, none⟩, some ⟨B2, 0, none⟩, ca, cc, ?_, ?_, ?_, k1.grown hg (fun b o e => ?_), k2.grown hg (fun b o e => ?_), fun b o e => ?_, fun b o e => ?_⟩
    · rw [List.getElem?_append_right (by omega), hl]; simp
    · rw [List.getElem?_append_right (by omega), hl, Nat.add_sub_cancel_left]; rfl
    · rw [List.getElem?_append_right (by omega), hl, Nat.add_sub_cancel_left]; rfl
    all_goals
      simp only [Option.some.injEq, Addr.mk.injEq, and_true] at e
      omega
theorem TermsOk.forms {W : World} {base G cap : Nat} {xs : List Value} {T : List Frm} {n : Nat} (h : TermsOk W G xs T n) (hT : T.length = n) (ho : W.ownsRow base 32 3 (.slice (some ⟨G, 0, none⟩) n cap) n xs) : FormsAt W (some ⟨G, 0, none⟩) T := fun i hi => by
  obtain ⟨a', c', ca, cc, e0, e1, e2, i1, i2, _, _⟩ := h i (by omega)
  refine ⟨G, 0, rfl, a', c', ca, cc, ?_, ?_, ?_, i1, i2⟩
  · rw [own_cell ho _ (by omega), Nat.zero_add]; exact e0
  · rw [own_cell ho _ (by omega), Nat.zero_add]; exact e1
  · rw [own_cell ho _ (by omega), Nat.zero_add]; exact e2

theorem terms_at {C D : List Int} {K : Int} {fs : List FV} {k : Nat} (h : k < 3) : (terms C D K fs)[k + 1]?.getD ([], [], 0) = (mulL (C[k]?.getD 0) (fs[k]?.getD noFV).C, mulL (C[k]?.getD 0) (fs[k]?.getD noFV).D, C[k]?.getD 0 * (fs[k]?.getD noFV).K) := by
  match k, h with
  | 0, _ => rfl
  | 1, _ => rfl
  | 2, _ => rfl
theorem mulL_bnd {n P : Int} {zs : List Int} (h : bndT P n zs) (h0 : 0 ≤ P) : bnd P (mulL n zs) := fun i => by
  by_cases hi : i < zs.length
  · rw [mulL_get hi]; exact h i
  · have : (mulL n zs)[i]? = none := List.getElem?_eq_none (by rw [mulL_len]; omega)
    rw [this]
    simp only [Option.getD_none]
    omega
theorem terms_fit {C D : List Int} {K : Int} {fs : List FV} (hD : D.length = 2) (bC : bnd 10000000 C) (bD : bnd 10000000 D) (k1 : -10000000 ≤ K) (k2 : K ≤ 10000000) (ho : ∀ i, i < 3 → OkF (fs[i]?.getD noFV)) : ∀ i, i < (terms C D K fs).length → fits 100000000000000 ((terms C D K fs)[i]?.getD ([], [], 0)) := fun i hi => by
  have hl : (terms C D K fs).length = 4 := rfl
  match i, hi with
  | 0, _ => exact ⟨rfl, hD, fun i => by have := bnd_zeros 3 i; simp only [List.replicate] at this; show -100000000000000 ≤ ([0, 0, 0] : List Int)[i]?.getD 0 ∧ ([0, 0, 0] : List Int)[i]?.getD 0 ≤ 100000000000000; omega, fun i => by have := bD i; show -100000000000000 ≤ D[i]?.getD 0 ∧ D[i]?.getD 0 ≤ 100000000000000; omega, by show -100000000000000 ≤ K; omega, by show K ≤ 100000000000000; omega⟩
  | j + 1, hj =>
    have hj' : j < 3 := by omega
    rw [terms_at hj']
    have g := ho j hj'
    have bc := bC j
    have tK := mul_bnd bc.1 bc.2 g.k1 g.k2
    exact ⟨by simp only [mulL_len]; exact g.lC, by simp only [mulL_len]; exact g.lD, mulL_bnd (mulT_bnd g.bC bc.1 bc.2) (by omega), mulL_bnd (mulT_bnd g.bD bc.1 bc.2) (by omega), tK.1, tK.2⟩

set_option maxHeartbeats 1600000 in
theorem iinto_no (a : Option Addr) (n cap : Nat) (c : Option Addr) (m cap' : Nat) (K : Int) (C D : List Int) (ad : Option Addr) (N capN : Nat) (fs : List FV) (w : World) (hC : Ints w a n C) (hD : Ints w c m D) (hn : n ≤ 1048576) (hm : m ≤ 1048576)
    (hN : fs.length = N) (hF : FormsG w ad fs) (hN1 : N ≤ 1048576) (hno : (formB n m C D K && decide (N = 3) && fs.all FV.ok) = false) :
    Calls Try.prog 110 #[formV a n cap c m cap' K, .slice ad N capN] w fun e w' => Res w w' e [] [] 0 := by
  have n0 := IH.new (w := w) (a := a) (n := n) (cap := cap) (c := c) (m := m) (cap' := cap') (K := K)
  by_cases h2 : (N : Int) = 3
  · have h2' : ((N : Int) != 3) = false := by simpa using h2
    have hN3 : N = 3 := by omega
    have HN3 : Hid (N = 3) := hN3
    clear h2 hN3
    cases h1 : formB n m C D K
    · clear hno
      go_enter Try.func110, Try.ntmps110
      go_wp2_with fail
      refine (iok_any _ _ _ _ _ _ _ C D _ (hC.below n0.b) (hD.below n0.b) hn hm).mono ?_
      rintro e w1 ⟨rfl, b1⟩
      have H := n0.below b1
      obtain ⟨r0, r1, r2, r3, r4, r5⟩ := H.room
      go_wp2
      exact bodyPost_ret (v := formV none 0 0 none 0 0 0) (by simp [results, Try.results110, go_sem, r0, r1, r2]) rfl H.none
    · have hno' : fs.all FV.ok = false := by simpa [h1, HN3.out] using hno
      clear hno
      go_enter Try.func110, Try.ntmps110
      go_wp2_with fail
      refine (iok_any _ _ _ _ _ _ _ C D _ (hC.below n0.b) (hD.below n0.b) hn hm).mono ?_
      rintro e w1 ⟨rfl, b1⟩
      have H1 := n0.below b1
      go_wp2_with fail
      refine (allForms_any _ _ _ fs _ hN (hF.below H1.b) hN1).mono ?_
      rintro e w2 ⟨rfl, b2⟩
      rw [hno']
      have H := H1.below b2
      obtain ⟨r0, r1, r2, r3, r4, r5⟩ := H.room
      go_wp2
      exact bodyPost_ret (v := formV none 0 0 none 0 0 0) (by simp [results, Try.results110, go_sem, r0, r1, r2]) rfl H.none
  · clear hno
    have h2' : ((N : Int) != 3) = true := by simpa using h2
    obtain ⟨r0, r1, r2, r3, r4, r5⟩ := n0.room
    go_enter Try.func110, Try.ntmps110
    go_wp2
    exact bodyPost_ret (v := formV none 0 0 none 0 0 0) (by simp [results, Try.results110, go_sem, r0, r1, r2]) rfl (Res.none rfl n0.b)

set_option maxHeartbeats 3200000 in
theorem iinto_yes (a : Option Addr) (cap : Nat) (c : Option Addr) (cap' : Nat) (K : Int) (C D : List Int) (b off capN : Nat) (fs : List FV) (w : World) (hC : Ints w a 3 C) (hD : Ints w c 2 D)
    (hN : fs.length = 3) (hF : FormsG w (some ⟨b, off, none⟩) fs) (h1 : formB 3 2 C D K = true) (hall : fs.all FV.ok = true) :
    Calls Try.prog 110 #[formV a 3 cap c 2 cap' K, .slice (some ⟨b, off, none⟩) 3 capN] w fun e w' => Res w w' e (keepL (formB 3 2 (intoC C fs 3) (intoD C D fs 3) (intoK C K fs 3)) (intoC C fs 3)) (keepL (formB 3 2 (intoC C fs 3) (intoD C D fs 3) (intoK C K fs 3)) (intoD C D fs 3)) (keepK (formB 3 2 (intoC C fs 3) (intoD C D fs 3) (intoK C K fs 3)) (intoK C K fs 3)) := by
  have n0 := IH.new (w := w) (a := a) (n := 3) (cap := cap) (c := c) (m := 2) (cap' := cap') (K := K)
  obtain ⟨-, -, bC, bD, bK1, bK2⟩ := formB_elim h1
  have hg : ∀ i, i < 3 → ∃ x : FV, x = fs[i]?.getD noFV ∧ OkF x ∧ x.ok = true ∧ x.At w ∧ w.cell? ⟨b, off + i * 3, none⟩ = some (.slice x.a x.n x.cap) ∧ w.cell? ⟨b, off + i * 3 + 1, none⟩ = some (.slice x.c x.m x.cap') ∧ w.cell? ⟨b, off + i * 3 + 2, none⟩ = some (.int .i64 x.K) := fun i hi => by
    obtain ⟨b', off', hb', q0, q1, q2, A1⟩ := hF i (by omega)
    simp only [Option.some.injEq, Addr.mk.injEq, and_true] at hb'
    obtain ⟨rfl, rfl⟩ := hb'
    have ok : (fs[i]?.getD noFV).ok = true := by
      rw [List.all_eq_true] at hall
      rw [List.getElem?_eq_getElem (by omega)]
      exact hall _ (List.getElem_mem _)
    exact ⟨_, rfl, OkF.of A1 ok, ok, A1, q0, q1, q2⟩
  have ho : ∀ i, i < 3 → OkF (fs[i]?.getD noFV) := fun i hi => by
    obtain ⟨x, rfl, h, _⟩ := hg i hi; exact h
  have HI : Hid _ := IntoF.of hD.1 bC bD bK1 bK2 ho 3 (by omega)
  have HT : Hid _ := terms_fit (K := K) hD.1 bC bD bK1 bK2 ho
  have HS : Hid _ := terms_sum (C := C) (K := K) (fs := fs) hD.1
  have HG : Hid _ := hg
  obtain ⟨lb0, _⟩ : b < w.heap.size ∧ True := by
    obtain ⟨x, rfl, _, _, _, q0, _⟩ := hg 0 (by omega)
    exact ⟨block_lt q0, trivial⟩
  clear hg ho
  obtain ⟨cb, co, rfl, hDc⟩ := hD.pos (by omega)
  obtain ⟨ab, ao, rfl, hCc⟩ := hC.pos (by omega)
  have lcb := hD.blt (by omega) cb co rfl
  have lab0 := hC.blt (by omega) ab ao rfl
  clear hDc hCc
  obtain ⟨i0, hi, hz0, hz1, hz2⟩ := info_parts Try.infoForm
  go_enter Try.func110, Try.ntmps110
  go_wp2_with fail
  refine (iok_any _ _ _ _ _ _ _ C D _ (hC.below n0.b) (hD.below n0.b) (by omega) (by omega)).mono ?_
  rintro e w1 ⟨rfl, b1⟩
  have H1 := n0.below b1
  clear n0 b1
  go_wp2_with fail
  refine (allForms_any _ _ _ fs _ hN (hF.below H1.b) (by omega)).mono ?_
  rintro e w2 ⟨rfl, b2⟩
  rw [hall]
  have H2 := H1.below b2
  have G2 := H2.cells
  clear H1 b2 hall hF hN
  go_wp2_with fail
  refine (without_any _ _ _ _ _ _ _ _).mono ?_
  rintro e w3 ⟨P, rfl, b3, hP, kP⟩
  have H3 := H2.below b3
  have A2 := H2.b.size
  have A3 := b3.size
  have A4 := H3.r.lt
  clear G2
  have HT0 : TermsOk (w3.alloc (Obj.cells #[Value.slice (some ⟨P, 0, none⟩) 3 3, Value.slice (some ⟨cb, co, none⟩) 2 cap', Value.int .i64 K] 32)) w3.heap.size [Value.slice (some ⟨P, 0, none⟩) 3 3, Value.slice (some ⟨cb, co, none⟩) 2 cap', Value.int .i64 K] (terms C D K fs) 1 := fun j hj => by
    obtain rfl : j = 0 := by omega
    have lP := kP.lt
    refine ⟨some ⟨P, 0, none⟩, some ⟨cb, co, none⟩, 3, cap', rfl, rfl, rfl, (kP.alloc _).ints' (n := 3) rfl, (hD.below H3.b).alloc _, fun x o e => ?_, fun x o e => ?_⟩
    all_goals
      simp only [Option.some.injEq, Addr.mk.injEq, and_true] at e
      omega
  have HO0 : (w3.alloc (Obj.cells #[Value.slice (some ⟨P, 0, none⟩) 3 3, Value.slice (some ⟨cb, co, none⟩) 2 cap', Value.int .i64 K] 32)).ownsRow (w.heap.size + 2) 32 3 (.slice (some ⟨w3.heap.size, 0, none⟩) 1 1) 1 [Value.slice (some ⟨P, 0, none⟩) 3 3, Value.slice (some ⟨cb, co, none⟩) 2 cap', Value.int .i64 K] :=
    ⟨rfl, .inr ⟨w3.heap.size, 1, _, rfl, by omega, heap_alloc_new w3 _, by omega, by unfold maxLen; omega, rfl, rfl⟩⟩
  have H4 := H3.alloc (Obj.cells #[Value.slice (some ⟨P, 0, none⟩) 3 3, Value.slice (some ⟨cb, co, none⟩) 2 cap', Value.int .i64 K] 32)
  clear H3 b3 kP H2
  go_wp2_with fail
  go_loopw [5, 6, 7, 27] (fun tv _ _ i wr => ∃ k : Nat, k ≤ 3 ∧ i = .int .i64 k ∧ IH w (some ⟨ab, ao, none⟩) 3 cap (some ⟨cb, co, none⟩) 2 cap' K wr ∧ ∃ G cp xs, tv = .slice (some ⟨G, 0, none⟩) (k + 1 : Nat) cp ∧ wr.ownsRow (w.heap.size + 2) 32 3 (.slice (some ⟨G, 0, none⟩) (k + 1) cp) (k + 1) xs ∧ TermsOk wr G xs (terms C D K fs) (k + 1)) (fun _ _ _ i _ => 3 - (intOf i).toNat)
  case atStart => exact ⟨0, by omega, rfl, H4, _, _, _, rfl, HO0, HT0⟩
  case round =>
    clear HT0 HO0 H4 A2 A3 A4 hP
    obtain ⟨k, hk, rfl, HX, G, cp, xs, rfl, hown, hT⟩ := hrel
    by_cases hlt : k < 3
    · obtain ⟨x, hx, okf, -, A, q0, q1, q2⟩ := HG.out k hlt
      obtain ⟨xa, xn, xcap, xc, xm, xcap', xK, xC, xD⟩ := x
      obtain ⟨x1, x2, x3, x4⟩ := A
      obtain ⟨o1, o2, o3, o4, o5, o6, o7, o8⟩ := okf
      simp only at o1 o2 o3 o4 o5 o6 o7 o8 q0 q1 q2 x1 x2
      subst o1 o2
      have HX' : Hid _ := hx
      clear hx x3 x4
      have s0 := (HX.b.cell (p := ⟨b, off + k * 3, none⟩) lb0).trans q0
      have s1 := (HX.b.cell (p := ⟨b, off + k * 3 + 1, none⟩) lb0).trans q1
      have s2 := (HX.b.cell (p := ⟨b, off + k * 3 + 2, none⟩) lb0).trans q2
      have bc := bC k
      have tC := tim_bnd o5 bc.1 bc.2
      have tD := tim_bnd o6 bc.1 bc.2
      have tK := tim_num o7 o8 bc.1 bc.2
      have ET := terms_at (C := C) (D := D) (K := K) (fs := fs) hlt
      rw [← HX'.out] at ET
      have HET : Hid _ := ET
      have hck : wr.cell? ⟨ab, ao + k, none⟩ = some (.int .i64 (C[k]?.getD 0)) := by
        obtain ⟨b', off', he, hc⟩ := (hC.below HX.b).2 k hlt
        simp only [Option.some.injEq, Addr.mk.injEq, and_true] at he
        obtain ⟨rfl, rfl⟩ := he
        simpa using hc
      have GX := HX.cells.1
      have hlt' : (k : Int) < 3 := by omega
      have hlt0 : (0 : Int) ≤ (k : Int) := by omega
      have lG := (hown.lt G rfl).2
      have lG0 := (hown.lt G rfl).1
      have lr := HX.r.lt
      have lab := block_lt hck
      clear ET bc q0 q1 q2
      generalize C[k]?.getD 0 = ck at *
      go_wp2_with fail
      obtain ⟨W1, hW1⟩ : ∃ W1, W1 = wr.alloc (Obj.cells #[Value.slice xa 3 xcap, Value.slice xc 2 xcap', Value.int .i64 xK] 32) := ⟨_, rfl⟩
      have sW1 : W1.heap.size = wr.heap.size + 1 := by rw [hW1, World.size_alloc]
      have BW : Below wr.heap.size wr W1 := by rw [hW1]; exact (Below.refl _ _).alloc (Nat.le_refl _) _
      have cW : Cel W1 wr.heap.size [Value.slice xa 3 xcap, Value.slice xc 2 xcap', Value.int .i64 xK] 32 := by rw [hW1]; exact Cel.new wr _ _
      rw [← hW1]
      clear hW1
      have HX1 := HX.below BW
      have hT1 := hT.below BW
      have hO1 := own_below hown BW
      have GX1 := HX1.cells.1
      have hck1 := (BW.cell (p := ⟨ab, ao + k, none⟩) lab).trans hck
      obtain ⟨e0, e1, e2, -, -, -⟩ := cW.trio
      have hS1 := And.intro e0 (And.intro e1 (And.intro e2 (And.intro GX1 hck1)))
      clear hT hown HX hck GX s0 s1 s2 BW cW
      go_region_held3 (fun w' => w'.cell? ⟨wr.heap.size, 0, none⟩ = some (.slice xa 3 xcap) ∧ w'.cell? ⟨wr.heap.size, 1, none⟩ = some (.slice xc 2 xcap') ∧ w'.cell? ⟨wr.heap.size, 2, none⟩ = some (.int .i64 xK) ∧ w'.cell? ⟨w.heap.size, 0, none⟩ = some (.slice (some ⟨ab, ao, none⟩) 3 cap) ∧ w'.cell? ⟨ab, ao + k, none⟩ = some (.int .i64 ck)) (first | with_reducible assumption | exact hS1 | with_reducible exact hS5a _)
        (first
          | (go_at_call 119
             refine (times_any _ _ _ _ _ xC xD _ _ (by exact x1.below HX1.drew.b) (by exact x2.below HX1.drew.b) tC tD tK).mono ?_
             rintro e w5 ⟨B1, B2, rfl, b5, g1, g2, g3, k1, k2⟩
             have b5' : Below W1.heap.size W1 w5 := below_of_drew b5
             have g1' : W1.heap.size ≤ B1 := g1
             have g3' : W1.heap.size ≤ B2 := g3
             have H5 := HX1.below b5'
             have hT5 := hT1.below b5'
             have hO5 := own_below hO1 b5'
             have z5 := b5'.size
             have c0 := (b5'.cell (p := ⟨wr.heap.size, 0, none⟩) (by show wr.heap.size < W1.heap.size; omega)).trans e0
             have c1 := (b5'.cell (p := ⟨wr.heap.size, 1, none⟩) (by show wr.heap.size < W1.heap.size; omega)).trans e1
             have c2 := (b5'.cell (p := ⟨wr.heap.size, 2, none⟩) (by show wr.heap.size < W1.heap.size; omega)).trans e2
             have c3 := (b5'.cell (p := ⟨w.heap.size, 0, none⟩) (by show w.heap.size < W1.heap.size; omega)).trans GX1
             have c4 := (b5'.cell (p := ⟨ab, ao + k, none⟩) (by show ab < W1.heap.size; omega)).trans hck1
             have hS5 := And.intro c0 (And.intro c1 (And.intro c2 (And.intro c3 c4)))
             have hS5a : ∀ o, (w5.alloc o).cell? ⟨wr.heap.size, 0, none⟩ = some (.slice xa 3 xcap) ∧ (w5.alloc o).cell? ⟨wr.heap.size, 1, none⟩ = some (.slice xc 2 xcap') ∧ (w5.alloc o).cell? ⟨wr.heap.size, 2, none⟩ = some (.int .i64 xK) ∧ (w5.alloc o).cell? ⟨w.heap.size, 0, none⟩ = some (.slice (some ⟨ab, ao, none⟩) 3 cap) ∧ (w5.alloc o).cell? ⟨ab, ao + k, none⟩ = some (.int .i64 ck) := fun o => by
               have ba : Below w5.heap.size w5 (w5.alloc o) := (Below.refl _ _).alloc (Nat.le_refl _) _
               exact ⟨(ba.cell (p := ⟨wr.heap.size, 0, none⟩) (block_lt c0)).trans c0, (ba.cell (p := ⟨wr.heap.size, 1, none⟩) (block_lt c0)).trans c1, (ba.cell (p := ⟨wr.heap.size, 2, none⟩) (block_lt c0)).trans c2, (ba.cell (p := ⟨w.heap.size, 0, none⟩) (block_lt c3)).trans c3, (ba.cell (p := ⟨ab, ao + k, none⟩) (block_lt c4)).trans c4⟩)
          | (refine step_append_lies _ (by rfl) _ _ _ (by rfl) (w.heap.size + 2) 32 i0 _ 3 56 Try.underlying36 hi hz0 hz1 hz2 rfl (by omega) (.slice (some ⟨G, 0, none⟩) (k + 1) cp) (k + 1) xs (by rfl) (hO5.alloc _) ⟨w5.heap.size, 0, none⟩ 1 1 [Value.slice (some ⟨B1, 0, none⟩) 3 3, Value.slice (some ⟨B2, 0, none⟩) 2 2, Value.int .i64 (ck * xK)] (by rfl) (by rfl) (World.news_of_block (cs := #[Value.slice (some ⟨B1, 0, none⟩) 3 3, Value.slice (some ⟨B2, 0, none⟩) 2 2, Value.int .i64 (ck * xK)]) (t := 32) (fr := (0, 0)) (heap_alloc_new w5 _)) (by simp [Value.oneCell']) (by omega) (by unfold maxLen; omega) (by omega) (by rw [World.size_alloc]; omega) (w5.heap.size + 1) (by rw [World.size_alloc]) ?_
             intro g cpg w6 hown6 hgrow hat hlt6
             have hgr : (w5.alloc (Obj.cells #[Value.slice (some ⟨B1, 0, none⟩) 3 3, Value.slice (some ⟨B2, 0, none⟩) 2 2, Value.int .i64 (ck * xK)] 32)).grownBy w6 (some G) := hgrow
             have hq := hS5a (Obj.cells #[Value.slice (some ⟨B1, 0, none⟩) 3 3, Value.slice (some ⟨B2, 0, none⟩) 2 2, Value.int .i64 (ck * xK)] 32)
             have hS6 := And.intro ((hgr.cell_far ⟨wr.heap.size, 0, none⟩ (block_lt hq.1) (by simp only [ne_eq, Option.some.injEq]; omega)).trans hq.1) (And.intro ((hgr.cell_far ⟨wr.heap.size, 1, none⟩ (block_lt hq.1) (by simp only [ne_eq, Option.some.injEq]; omega)).trans hq.2.1) (And.intro ((hgr.cell_far ⟨wr.heap.size, 2, none⟩ (block_lt hq.1) (by simp only [ne_eq, Option.some.injEq]; omega)).trans hq.2.2.1) (And.intro ((hgr.cell_far ⟨w.heap.size, 0, none⟩ (block_lt hq.2.2.2.1) (by simp only [ne_eq, Option.some.injEq]; omega)).trans hq.2.2.2.1) ((hgr.cell_far ⟨ab, ao + k, none⟩ (block_lt hq.2.2.2.2) (by simp only [ne_eq, Option.some.injEq]; omega)).trans hq.2.2.2.2))))))
      have hat' : g = G ∨ (w5.alloc (Obj.cells #[Value.slice (some ⟨B1, 0, none⟩) 3 3, Value.slice (some ⟨B2, 0, none⟩) 2 2, Value.int .i64 (ck * xK)] 32)).heap.size ≤ g := by
        rw [World.size_alloc]
        rcases hat with h | h
        · left
          simpa [Value.ownBlock] using h.symm
        · right; omega
      have LC : (mulL ck xC).length = 3 := by rw [mulL_len]; exact o3
      have LD : (mulL ck xD).length = 2 := by rw [mulL_len]; exact o4
      have T6 := (hT5.below ((Below.refl _ _).alloc (Nat.le_refl _) (Obj.cells #[Value.slice (some ⟨B1, 0, none⟩) 3 3, Value.slice (some ⟨B2, 0, none⟩) 2 2, Value.int .i64 (ck * xK)] 32))).step (ca := 3) (cc := 2) (K := ck * xK) hO5.1 hgr hat' ((k1.alloc _).ints' LC) ((k2.alloc _).ints' LD) (by omega) (by omega) HET.out
      have H5a := H5.alloc (Obj.cells #[Value.slice (some ⟨B1, 0, none⟩) 3 3, Value.slice (some ⟨B2, 0, none⟩) 2 2, Value.int .i64 (ck * xK)] 32)
      have H6 : IH w (some ⟨ab, ao, none⟩) 3 cap (some ⟨cb, co, none⟩) 2 cap' K w6 := by
        refine ⟨?_, ?_, H5a.b.grown hgr H5a.b.size (fun x hx => by simp only [Option.some.injEq] at hx; omega)⟩
        · have := hgr.block w.heap.size H5a.p.lt (by simp only [ne_eq, Option.some.injEq]; omega)
          unfold Cel
          rw [this]; exact H5a.p
        · have := hgr.block (w.heap.size + 1) H5a.r.lt (by simp only [ne_eq, Option.some.injEq]; omega)
          unfold Cel
          rw [this]; exact H5a.r
      clear hS6 hS5 hS5a hS1 hgrow hgr hat hat' c0 c1 c2 c3 c4 k1 k2 H5 H5a hT5 hO5 hT1 hO1 HX1 b5 b5' GX1 hck1 e0 e1 e2
      go_wp2
      go_roundw
      case rel => exact ⟨k + 1, by omega, by go_num, H6, g, cpg, _, rfl, hown6, T6⟩
      case measure => simp [intOf]; omega
    · obtain rfl : k = 3 := by omega
      obtain ⟨f1, f2, -, -, -, -⟩ := HI.out
      have fa := hT.forms rfl hown
      have A1 := HX.r.lt
      have A2 := HX.b.size
      go_wp2_with fail
      refine (sum_any _ 4 _ (terms C D K fs) 100000000000000 _ rfl fa HT.out (by omega) (by omega) (by omega)).mono ?_
      rintro e w2 ⟨B1, B2, rfl, b2, g1, g2, g3, k1, k2⟩
      rw [HS.out.1] at k1
      rw [HS.out.2.1] at k2
      rw [HS.out.2.2]
      have H2 := HX.below b2
      clear fa b2
      cases h3 : formB 3 2 (intoC C fs 3) (intoD C D fs 3) (intoK C K fs 3)
      all_goals
        go_wp2_with fail
        first
          | (refine (orN_no _ _ _ _ _ _ _ (intoC C fs 3) (intoD C D fs 3) _ (k1.ints' f1) (k2.ints' f2) (by omega) (by omega) h3).mono ?_)
          | (refine (orN_yes _ _ _ _ _ _ _ (intoC C fs 3) (intoD C D fs 3) _ (k1.ints' f1) (k2.ints' f2) (by omega) (by omega) h3).mono ?_)
        rintro e w3 ⟨rfl, b3⟩
        have H := H2.below b3
        have k1' := k1.below b3
        have k2' := k2.below b3
        obtain ⟨r0, r1, r2, r3, r4, r5⟩ := H.room
        clear H2 k1 k2 b3
        go_wp2
      · refine bodyPost_ret (v := formV none 0 0 none 0 0 0) (by simp [results, Try.results110, go_sem, r0, r1, r2]) rfl ?_
        rw [h3]
        exact H.none
      · refine bodyPost_ret (v := formV (some ⟨B1, 0, none⟩) 3 3 (some ⟨B2, 0, none⟩) 2 2 (intoK C K fs 3)) (by simp [results, Try.results110, go_sem, r0, r1, r2]) rfl ?_
        rw [h3]
        refine Res.of (B1 := B1) (B2 := B2) rfl f1 f2 ?_ (by omega) g2 (by omega) ?_ ?_
        · exact ((H.b.setCell (by simp only []; omega) _).setCell (by simp only []; omega) _).setCell (by simp only []; omega) _
        · exact ((k1'.setOther (by omega) _ _).setOther (by omega) _ _).setOther (by omega) _ _
        · exact ((k2'.setOther (by omega) _ _).setOther (by omega) _ _).setOther (by omega) _ _

end Go.Proofs.Ytngfbcegcekbbaa
namespace Go.Proofs.Ytngfbcegcekbbaa
open Go.RowKit
set_option linter.unusedVariables false
set_option maxRecDepth 100000

theorem sinto_any (a : Option Addr) (n cap : Nat) (c : Option Addr) (m cap' : Nat) (K : Int) (C D : List Int) (ad : Option Addr) (N capN : Nat) (fs : List FV) (w : World) (hC : Ints w a n C) (hD : Ints w c m D) (hn : n ≤ 1048576) (hm : m ≤ 1048576)
    (hN : fs.length = N) (hF : FormsG w ad fs) (hN1 : N ≤ 1048576) :
    Calls Try.prog 79 #[formV a n cap c m cap' K, .slice ad N capN] w fun e w' => Res w w' e (keepL (intoOk n m C D K N fs) (intoC C fs 3)) (keepL (intoOk n m C D K N fs) (intoD C D fs 3)) (keepK (intoOk n m C D K N fs) (intoK C K fs 3)) := by
  cases h : (formB n m C D K && decide (N = 3) && fs.all FV.ok)
  · have ho : intoOk n m C D K N fs = false := by unfold intoOk; rw [h]; rfl
    rw [ho]
    exact sinto_no a n cap c m cap' K C D ad N capN fs w hC hD hn hm hN hF hN1 h
  · have ho : intoOk n m C D K N fs = formB 3 2 (intoC C fs 3) (intoD C D fs 3) (intoK C K fs 3) := by unfold intoOk; rw [h, Bool.true_and]
    rw [ho]
    simp only [Bool.and_eq_true, decide_eq_true_eq] at h
    obtain ⟨⟨h1, rfl⟩, h3⟩ := h
    obtain ⟨rfl, rfl, _⟩ := formB_elim h1
    obtain ⟨b, off, rfl, _⟩ := hF 0 (by omega)
    exact sinto_yes a cap c cap' K C D b off capN fs w hC hD hN hF h1 h3
theorem iinto_any (a : Option Addr) (n cap : Nat) (c : Option Addr) (m cap' : Nat) (K : Int) (C D : List Int) (ad : Option Addr) (N capN : Nat) (fs : List FV) (w : World) (hC : Ints w a n C) (hD : Ints w c m D) (hn : n ≤ 1048576) (hm : m ≤ 1048576)
    (hN : fs.length = N) (hF : FormsG w ad fs) (hN1 : N ≤ 1048576) :
    Calls Try.prog 110 #[formV a n cap c m cap' K, .slice ad N capN] w fun e w' => Res w w' e (keepL (intoOk n m C D K N fs) (intoC C fs 3)) (keepL (intoOk n m C D K N fs) (intoD C D fs 3)) (keepK (intoOk n m C D K N fs) (intoK C K fs 3)) := by
  cases h : (formB n m C D K && decide (N = 3) && fs.all FV.ok)
  · have ho : intoOk n m C D K N fs = false := by unfold intoOk; rw [h]; rfl
    rw [ho]
    exact iinto_no a n cap c m cap' K C D ad N capN fs w hC hD hn hm hN hF hN1 h
  · have ho : intoOk n m C D K N fs = formB 3 2 (intoC C fs 3) (intoD C D fs 3) (intoK C K fs 3) := by unfold intoOk; rw [h, Bool.true_and]
    rw [ho]
    simp only [Bool.and_eq_true, decide_eq_true_eq] at h
    obtain ⟨⟨h1, rfl⟩, h3⟩ := h
    obtain ⟨rfl, rfl, _⟩ := formB_elim h1
    obtain ⟨b, off, rfl, _⟩ := hF 0 (by omega)
    exact iinto_yes a cap c cap' K C D b off capN fs w hC hD hN hF h1 h3

theorem copies_all {fs gs : List FV} (hl : gs.length = fs.length) (h : copies fs gs) : gs.all FV.ok = fs.all FV.ok := by
  have key : gs.map FV.ok = fs.map FV.ok := by
    refine List.ext_getElem (by simp [hl]) fun i h1 h2 => ?_
    have hi : i < gs.length := by simpa using h1
    have hi' : i < fs.length := by omega
    obtain ⟨e1, e2, e3, e4, e5⟩ := h i hi
    rw [List.getElem?_eq_getElem hi, List.getElem?_eq_getElem hi'] at e1 e2 e3 e4 e5
    simp only [Option.getD_some] at e1 e2 e3 e4 e5
    simp only [List.getElem_map, FV.ok, e1, e2, e3, e4, e5]
  have h1 : gs.all FV.ok = (gs.map FV.ok).all id := by simp [List.all_map]
  have h2 : fs.all FV.ok = (fs.map FV.ok).all id := by simp [List.all_map]
  rw [h1, h2, key]
theorem copies_into {fs gs : List FV} {C D : List Int} {K : Int} (hl : gs.length = 3) (h : copies fs gs) : intoC C gs 3 = intoC C fs 3 ∧ intoD C D gs 3 = intoD C D fs 3 ∧ intoK C K gs 3 = intoK C K fs 3 := by
  obtain ⟨a1, a2, a3, _⟩ := h 0 (by omega)
  obtain ⟨b1, b2, b3, _⟩ := h 1 (by omega)
  obtain ⟨c1, c2, c3, _⟩ := h 2 (by omega)
  exact ⟨by simp only [intoC, a1, b1, c1], by simp only [intoD, a2, b2, c2], by simp only [intoK, a3, b3, c3]⟩
theorem copies_same {n m N : Nat} {C D : List Int} {K : Int} {fs gs : List FV} (hN : fs.length = N) (hl : gs.length = N) (h : copies fs gs) :
    keepL (intoOk n m C D K N gs) (intoC C gs 3) = keepL (intoOk n m C D K N fs) (intoC C fs 3) ∧ keepL (intoOk n m C D K N gs) (intoD C D gs 3) = keepL (intoOk n m C D K N fs) (intoD C D fs 3) ∧ keepK (intoOk n m C D K N gs) (intoK C K gs 3) = keepK (intoOk n m C D K N fs) (intoK C K fs 3) := by
  by_cases h3 : N = 3
  · subst h3
    obtain ⟨e1, e2, e3⟩ := copies_into (C := C) (D := D) (K := K) hl h
    have e4 := copies_all (by omega) h
    simp only [intoOk, e1, e2, e3, e4]
    exact ⟨trivial, trivial, trivial⟩
  · have o1 : intoOk n m C D K N gs = false := by simp [intoOk, h3]
    have o2 : intoOk n m C D K N fs = false := by simp [intoOk, h3]
    rw [o1, o2]
    exact ⟨rfl, rfl, rfl⟩
theorem into_len {n m N : Nat} {C D : List Int} {K : Int} {fs : List FV} (hD : D.length = m) (hm : m ≤ 1048576) : (keepL (intoOk n m C D K N fs) (intoC C fs 3)).length ≤ 1048576 ∧ (keepL (intoOk n m C D K N fs) (intoD C D fs 3)).length ≤ 1048576 := by
  refine ⟨keepL_len ?_, keepL_len ?_⟩
  · simp only [intoC, lin, List.length_zipWith, List.length_cons, List.length_nil]; omega
  · simp only [intoD, lin, List.length_zipWith]; omega

end Go.Proofs.Ytngfbcegcekbbaa
namespace Go.Proofs.Ytngfbcegcekbbaa
open Go.RowKit
set_option linter.unusedVariables false

/-- A form alone, without its memory. -/
def noX : Frm := ([], [], 0)
def toFV (f : Frm) : FV := ⟨none, f.1.length, 0, none, f.2.1.length, 0, f.2.2, f.1, f.2.1⟩
def intoX (f : FV) (P : List Frm) : Frm := (intoC f.C (P.map toFV) 3, intoD f.C f.D (P.map toFV) 3, intoK f.C f.K (P.map toFV) 3)
/-- Zero or more just where f is below zero. -/
def minusX (f : Frm) : Frm := (mulL (-1) f.1, mulL (-1) f.2.1, -1 * f.2.2 - 1)
def plusX (f g : Frm) : Frm := (lin f.1 g.1 1, lin f.2.1 g.2.1 1, f.2.2 + 1 * g.2.2)
def potX (v : Nat) : Frm := ([0, 0, 0].set v 1, [0, 0], 0)
def lessX (f : Frm) (v : Nat) : Frm := (lin f.1 ([0, 0, 0].set v 1) (-1), lin f.2.1 [0, 0] (-1), f.2.2 + -1 * 0)

/-- A way as far as it is gone; a way at its end. -/
structure Way where
  pots : List Frm
  guards : List Frm
  tells : List Frm
structure RowM where
  guards : List Frm
  adds : List Frm
  tells : List Frm
  stop : Bool
def endW (y : Way) : RowM := ⟨y.guards, (List.range 3).map fun v => lessX (y.pots[v]?.getD noX) v, y.tells, false⟩
def stopW (y : Way) : RowM := ⟨y.guards, [], [], true⟩
def Way.guard (y : Way) (f : Frm) : Way := { y with guards := y.guards ++ [f] }
def Way.tell (y : Way) (f : Frm) : Way := { y with tells := y.tells ++ [f] }
def Way.add (y : Way) (p : Nat) (f : Frm) : Way := { y with pots := y.pots.set p (plusX (y.pots[p]?.getD noX) f) }
def way0 : Way := ⟨[potX 0, potX 1, potX 2], [], []⟩

/-- All ways from a line on. -/
def goW (ls : List LV) : Nat → Nat → Way → List RowM
  | 0, _, y => [endW y]
  | f + 1, i, y =>
    if i < ls.length then
      if (ls[i]?.getD noLV).kind = 1 then goW ls f (i + 1) (y.guard (intoX (ls[i]?.getD noLV).f y.pots)) ++ goW ls f (i + 1 + (ls[i]?.getD noLV).skip.toNat) (y.guard (minusX (intoX (ls[i]?.getD noLV).f y.pots)))
      else if (ls[i]?.getD noLV).kind = 2 then goW ls f (i + 1) (y.add (ls[i]?.getD noLV).pot.toNat (intoX (ls[i]?.getD noLV).f y.pots))
      else if (ls[i]?.getD noLV).kind = 3 then goW ls f (i + 1) (y.tell (intoX (ls[i]?.getD noLV).f y.pots))
      else [stopW y]
    else [endW y]
def rowsL (ls : List LV) : List RowM := goW ls 7 0 way0
theorem goW_end {ls : List LV} {f i : Nat} {y : Way} (h : ls.length ≤ i) : goW ls f i y = [endW y] := by
  cases f with
  | zero => rfl
  | succ f => rw [goW, if_neg (by omega)]
/-- Fuel that suffices is as good as more. -/
theorem goW_fuel {ls : List LV} (f : Nat) : ∀ (g i : Nat) (y : Way), ls.length ≤ i + f → ls.length ≤ i + g → goW ls f i y = goW ls g i y := by
  induction f with
  | zero => intro g i y h1 h2; rw [goW_end (by omega), goW_end (by omega)]
  | succ f ih =>
    intro g i y h1 h2
    by_cases hi : i < ls.length
    · obtain ⟨g, rfl⟩ : ∃ g', g = g' + 1 := ⟨g - 1, by omega⟩
      rw [goW, goW, if_pos hi, if_pos hi, ih g (i + 1) _ (by omega) (by omega), ih g (i + 1 + (ls[i]?.getD noLV).skip.toNat) _ (by omega) (by omega), ih g (i + 1) _ (by omega) (by omega), ih g (i + 1) _ (by omega) (by omega)]
    · rw [goW_end (by omega), goW_end (by omega)]

/-- How great a pot's numbers may be behind so many lines. -/
def wb : Nat → Int
  | 0 => 1
  | n + 1 => 7 * wb n + 20
theorem wb_pos : ∀ n, 1 ≤ wb n
  | 0 => by simp [wb]
  | n + 1 => by have := wb_pos n; simp only [wb]; omega
theorem wb_mono {n m : Nat} (h : n ≤ m) : wb n ≤ wb m := by
  induction h with
  | refl => exact Int.le_refl _
  | step _ ih => rename_i m _; have := wb_pos m; exact Int.le_trans ih (by simp only [wb]; omega)
theorem wb_six {n : Nat} (h : n ≤ 6) : wb n ≤ 509809 := Int.le_trans (wb_mono h) (by simp [wb])

/-- Three and two numbers, and one more, none past M. -/
structure fitX (M : Int) (f : Frm) : Prop where
  c : f.1.length = 3
  d : f.2.1.length = 2
  bc : bnd M f.1
  bd : bnd M f.2.1
  k1 : -M ≤ f.2.2
  k2 : f.2.2 ≤ M
theorem fitX.mono {M M' : Int} {f : Frm} (h : fitX M f) (hM : M ≤ M') : fitX M' f :=
  ⟨h.c, h.d, fun i => by have := h.bc i; omega, fun i => by have := h.bd i; omega, by have := h.k1; omega, by have := h.k2; omega⟩
theorem two_mul {c y M : Int} (h1 : -2 ≤ c) (h2 : c ≤ 2) (h3 : -M ≤ y) (h4 : y ≤ M) : -(2 * M) ≤ c * y ∧ c * y ≤ 2 * M := by
  obtain h | h | h | h | h : c = -2 ∨ c = -1 ∨ c = 0 ∨ c = 1 ∨ c = 2 := by omega
  all_goals subst h; constructor <;> omega
theorem toFV_at {P : List Frm} {k : Nat} (h : k < P.length) : (P.map toFV)[k]?.getD noFV = toFV (P[k]?.getD noX) := by
  rw [List.getElem?_map, List.getElem?_eq_getElem h]; rfl

/-- A small form into pots. -/
theorem intoX_fit {f : FV} {P : List Frm} {M : Int} (bC : bnd 2 f.C) (bD : bnd 2 f.D) (lD : f.D.length = 2) (k1 : -20 ≤ f.K) (k2 : f.K ≤ 20) (hP : P.length = 3) (hM : 0 ≤ M) (h : ∀ k, k < 3 → fitX M (P[k]?.getD noX)) : fitX (6 * M + 20) (intoX f P) := by
  have bt : ∀ k, k < 3 → bndT (2 * M) (f.C[k]?.getD 0) ((P.map toFV)[k]?.getD noFV).C ∧ bndT (2 * M) (f.C[k]?.getD 0) ((P.map toFV)[k]?.getD noFV).D ∧ -(2 * M) ≤ f.C[k]?.getD 0 * ((P.map toFV)[k]?.getD noFV).K ∧ f.C[k]?.getD 0 * ((P.map toFV)[k]?.getD noFV).K ≤ 2 * M ∧ ((P.map toFV)[k]?.getD noFV).C.length = 3 ∧ ((P.map toFV)[k]?.getD noFV).D.length = 2 := fun k hk => by
    rw [toFV_at (by omega)]
    have hf := h k hk
    have hc := bC k
    refine ⟨fun i => ?_, fun i => ?_, ?_, ?_, hf.c, hf.d⟩
    · have := hf.bc i; exact two_mul hc.1 hc.2 this.1 this.2
    · have := hf.bd i; exact two_mul hc.1 hc.2 this.1 this.2
    · exact (two_mul hc.1 hc.2 hf.k1 hf.k2).1
    · exact (two_mul hc.1 hc.2 hf.k1 hf.k2).2
  obtain ⟨a0, b0, x0, y0, l0, m0⟩ := bt 0 (by omega)
  obtain ⟨a1, b1, x1, y1, l1, m1⟩ := bt 1 (by omega)
  obtain ⟨a2, b2, x2, y2, l2, m2⟩ := bt 2 (by omega)
  have z3 : bnd 0 ([0, 0, 0] : List Int) := fun i => by
    match i with
    | 0 => simp
    | 1 => simp
    | 2 => simp
    | i + 3 => simp
  refine ⟨?_, ?_, ?_, ?_, ?_, ?_⟩
  · exact lin_len (lin_len (lin_len rfl l0) l1) l2
  · exact lin_len (lin_len (lin_len lD m0) m1) m2
  · have := lin_bnd (lin_len (lin_len rfl l0) l1) l2 (lin_bnd (lin_len rfl l0) l1 (lin_bnd (k := 3) rfl l0 z3 a0 (by omega)) a1 (by omega)) a2 (by omega)
    exact fun i => by have := this i; simp only [intoX, intoC] at *; omega
  · have := lin_bnd (lin_len (lin_len lD m0) m1) m2 (lin_bnd (lin_len lD m0) m1 (lin_bnd lD m0 bD b0 (by omega)) b1 (by omega)) b2 (by omega)
    exact fun i => by have := this i; simp only [intoX, intoD] at *; omega
  · simp only [intoX, intoK]; omega
  · simp only [intoX, intoK]; omega
theorem bndT_one {M : Int} {xs : List Int} (h : bnd M xs) : bndT M 1 xs := fun i => by have := h i; omega
theorem plusX_fit {M M' : Int} {f g : Frm} (hf : fitX M f) (hg : fitX M' g) (h0 : 0 ≤ M + M') : fitX (M + M') (plusX f g) := by
  have a := hf.k1
  have b := hf.k2
  have c := hg.k1
  have d := hg.k2
  exact ⟨lin_len hf.c hg.c, lin_len hf.d hg.d, lin_bnd hf.c hg.c hf.bc (bndT_one hg.bc) h0, lin_bnd hf.d hg.d hf.bd (bndT_one hg.bd) h0, by simp only [plusX]; omega, by simp only [plusX]; omega⟩
theorem minusX_fit {M : Int} {f : Frm} (hf : fitX M f) : fitX (M + 1) (minusX f) := by
  have key : ∀ (xs : List Int), bnd M xs → bnd (M + 1) (mulL (-1) xs) := fun xs hx i => by
    have hi := hx i
    have : (mulL (-1) xs)[i]?.getD 0 = -1 * xs[i]?.getD 0 := by
      simp only [mulL, List.getElem?_map]
      cases xs[i]? <;> simp
    rw [this]; omega
  have a := hf.k1
  have b := hf.k2
  exact ⟨by simp [minusX, mulL, hf.c], by simp [minusX, mulL, hf.d], key _ hf.bc, key _ hf.bd, by simp only [minusX]; omega, by simp only [minusX]; omega⟩

/-- A way behind so many lines. -/
structure WayOk (i : Nat) (y : Way) : Prop where
  pl : y.pots.length = 3
  pf : ∀ k, k < 3 → fitX (wb (min i 6)) (y.pots[k]?.getD noX)
  gf : ∀ k, k < y.guards.length → fitX 10000000 (y.guards[k]?.getD noX)
  tf : ∀ k, k < y.tells.length → fitX 10000000 (y.tells[k]?.getD noX)
  gl : y.guards.length ≤ i
  tl : y.tells.length ≤ i
theorem WayOk.start : WayOk 0 way0 := by
  refine ⟨rfl, fun k hk => ?_, fun k hk => by simp [way0] at hk, fun k hk => by simp [way0] at hk, Nat.le_refl _, Nat.le_refl _⟩
  have b3 : ∀ v, v < 3 → bnd 1 (([0, 0, 0] : List Int).set v 1) := fun v hv i => by
    match v, hv, i with
    | 0, _, 0 => simp
    | 0, _, 1 => simp
    | 0, _, 2 => simp
    | 0, _, i + 3 => simp
    | 1, _, 0 => simp
    | 1, _, 1 => simp
    | 1, _, 2 => simp
    | 1, _, i + 3 => simp
    | 2, _, 0 => simp
    | 2, _, 1 => simp
    | 2, _, 2 => simp
    | 2, _, i + 3 => simp
  have b2 : bnd 1 ([0, 0] : List Int) := fun i => by
    match i with
    | 0 => simp
    | 1 => simp
    | i + 2 => simp
  match k, hk with
  | 0, _ => exact ⟨rfl, rfl, b3 0 (by omega), b2, by decide, by decide⟩
  | 1, _ => exact ⟨rfl, rfl, b3 1 (by omega), b2, by decide, by decide⟩
  | 2, _ => exact ⟨rfl, rfl, b3 2 (by omega), b2, by decide, by decide⟩
/-- A way that has gone on a line, or over more. -/
theorem WayOk.more {i j : Nat} {y : Way} (h : WayOk i y) (hij : i ≤ j) : WayOk j y :=
  ⟨h.pl, fun k hk => (h.pf k hk).mono (wb_mono (by omega)), h.gf, h.tf, by have := h.gl; omega, by have := h.tl; omega⟩
theorem snoc_fit {L : List Frm} {f : Frm} {M : Int} (h : ∀ k, k < L.length → fitX M (L[k]?.getD noX)) (hf : fitX M f) : ∀ k, k < (L ++ [f]).length → fitX M ((L ++ [f])[k]?.getD noX) := fun k hk => by
  rw [List.length_append] at hk
  simp only [List.length_cons, List.length_nil] at hk
  by_cases e : k < L.length
  · rw [List.getElem?_append_left e]; exact h k e
  · obtain rfl : k = L.length := by omega
    rw [List.getElem?_append_right (Nat.le_refl _), Nat.sub_self]
    exact hf
theorem WayOk.guard {i j : Nat} {y : Way} {f : Frm} (h : WayOk i y) (hij : i < j) (hf : fitX 10000000 f) : WayOk j (y.guard f) := by
  have h' := h.more (j := j) (by omega)
  refine ⟨h'.pl, h'.pf, snoc_fit h.gf hf, h'.tf, ?_, h'.tl⟩
  have := h.gl
  simp only [Way.guard, List.length_append, List.length_cons, List.length_nil]; omega
theorem WayOk.tell {i j : Nat} {y : Way} {f : Frm} (h : WayOk i y) (hij : i < j) (hf : fitX 10000000 f) : WayOk j (y.tell f) := by
  have h' := h.more (j := j) (by omega)
  refine ⟨h'.pl, h'.pf, h'.gf, snoc_fit h.tf hf, h'.gl, ?_⟩
  have := h.tl
  simp only [Way.tell, List.length_append, List.length_cons, List.length_nil]; omega
theorem WayOk.add {i p : Nat} {y : Way} {f : Frm} (h : WayOk i y) (h6 : i < 6) (hp : p < 3) (hf : fitX (6 * wb i + 20) f) : WayOk (i + 1) (y.add p f) := by
  have h' := h.more (j := i + 1) (by omega)
  refine ⟨by simp only [Way.add, List.length_set]; exact h.pl, fun k hk => ?_, h'.gf, h'.tf, h'.gl, h'.tl⟩
  have hw := wb_pos i
  have e6 : min i 6 = i := by omega
  have e7 : min (i + 1) 6 = i + 1 := by omega
  have hpf := h.pf p hp
  rw [e6] at hpf
  by_cases e : p = k
  · subst e
    have : (y.add p f).pots[p]?.getD noX = plusX (y.pots[p]?.getD noX) f := by
      simp only [Way.add]
      rw [List.getElem?_set_self (by rw [h.pl]; exact hp)]; rfl
    rw [this]
    have := plusX_fit hpf hf (by omega)
    rw [e7]
    exact this.mono (by simp only [wb]; omega)
  · have : (y.add p f).pots[k]?.getD noX = y.pots[k]?.getD noX := by
      simp only [Way.add]
      rw [List.getElem?_set_ne e]
    rw [this]
    exact h'.pf k hk
/-- What a small form into the pots of such a way is. -/
theorem WayOk.into {i : Nat} {y : Way} (h : WayOk i y) (h6 : i ≤ 6) {f : FV} (hf : smallB f.n f.m f.C f.D f.K = true) (lD : f.D.length = f.m) : fitX (6 * wb i + 20) (intoX f y.pots) ∧ fitX 10000000 (intoX f y.pots) ∧ fitX 10000000 (minusX (intoX f y.pots)) := by
  simp only [smallB, Bool.and_eq_true] at hf
  obtain ⟨⟨h1, h2⟩, h3⟩ := hf
  obtain ⟨e1, b1⟩ := okN_elim (by omega) h1
  obtain ⟨e2, b2⟩ := okN_elim (by omega) h2
  have h4 := inB_iff.1 h3
  have hw := wb_pos i
  have hw6 := wb_six h6
  have := intoX_fit (f := f) (M := wb i) b1 b2 (by omega) h4.1 h4.2 h.pl (by omega) (fun k hk => by have := h.pf k hk; rwa [show min i 6 = i by omega] at this)
  exact ⟨this, this.mono (by omega), (minusX_fit this).mono (by omega)⟩

end Go.Proofs.Ytngfbcegcekbbaa
namespace Go.Proofs.Ytngfbcegcekbbaa
open Go.RowKit
set_option linter.unusedVariables false
set_option maxRecDepth 100000

/-- A form at pots and arguments. -/
def atX (V U : List Int) (f : Frm) : Int := atV f.1 f.2.1 f.2.2 V U
theorem dot_linN {xs ys V : List Int} {n : Int} {k : Nat} (h1 : xs.length = k) (h2 : ys.length = k) : ∀ j, j ≤ k → dot (lin xs ys n) V j = dot xs V j + n * dot ys V j
  | 0, _ => by simp [dot]
  | j + 1, hj => by
    have ih := dot_linN (V := V) (n := n) h1 h2 j (by omega)
    have e := lin_get (n := n) h1 h2 (show j < k by omega)
    simp only [dot, ih, e]
    rw [Int.add_mul, Int.mul_add, Int.mul_assoc]
    omega
/-- Three and two numbers. -/
def shX (f : Frm) : Prop := f.1.length = 3 ∧ f.2.1.length = 2
theorem atX_plus {V U : List Int} {f g : Frm} (hf : shX f) (hg : shX g) : atX V U (plusX f g) = atX V U f + atX V U g := by
  simp only [atX, plusX, atV]
  rw [dot_linN hf.1 hg.1 3 (by omega), dot_linN hf.2 hg.2 2 (by omega)]
  omega
theorem atX_minus {V U : List Int} {f : Frm} (hf : shX f) : atX V U (minusX f) = - atX V U f - 1 := by
  simp only [atX, minusX, atV]
  rw [dot_mul hf.1 3 (by omega), dot_mul hf.2 2 (by omega)]
  omega
theorem shX_plus {f g : Frm} (hf : shX f) (hg : shX g) : shX (plusX f g) := ⟨lin_len hf.1 hg.1, lin_len hf.2 hg.2⟩
theorem shX_minus {f : Frm} (hf : shX f) : shX (minusX f) := ⟨by simp only [minusX, mulL, List.length_map]; exact hf.1, by simp only [minusX, mulL, List.length_map]; exact hf.2⟩
theorem dot_pot {V : List Int} : ∀ v, v < 3 → dot ([0, 0, 0].set v 1) V 3 = V[v]?.getD 0
  | 0, _ => by simp [dot]
  | 1, _ => by simp [dot]
  | 2, _ => by simp [dot]
theorem dot_zero2 {V : List Int} : dot [0, 0] V 2 = 0 := by simp [dot]
theorem len_pot (v : Nat) : (([0, 0, 0] : List Int).set v 1).length = 3 := by simp
theorem atX_less {V U : List Int} {f : Frm} {v : Nat} (hf : shX f) (hv : v < 3) : atX V U (lessX f v) = atX V U f - V[v]?.getD 0 := by
  simp only [atX, lessX, atV]
  rw [dot_linN hf.1 (len_pot v) 3 (by omega), dot_linN hf.2 rfl 2 (by omega), dot_pot v hv, dot_zero2]
  omega
theorem atX_pot {V U : List Int} {v : Nat} (hv : v < 3) : atX V U (potX v) = V[v]?.getD 0 := by
  simp only [atX, potX, atV]
  rw [dot_pot v hv, dot_zero2]
  omega
theorem three_x {P : List Frm} (h : P.length = 3) : ∃ a b c, P = [a, b, c] := by
  match P, h with
  | [a, b, c], _ => exact ⟨a, b, c, rfl⟩
theorem shX_into {f : FV} {P : List Frm} (hD : f.D.length = 2) (hP : P.length = 3) (h : ∀ p ∈ P, shX p) : shX (intoX f P) := by
  obtain ⟨a, b, c, rfl⟩ := three_x hP
  have ha := h a (by simp)
  have hb := h b (by simp)
  have hc := h c (by simp)
  exact ⟨lin_len (lin_len (lin_len rfl ha.1) hb.1) hc.1, lin_len (lin_len (lin_len hD ha.2) hb.2) hc.2⟩
theorem atX_into {V U : List Int} {f : FV} {P : List Frm} (hD : f.D.length = 2) (hP : P.length = 3) (h : ∀ p ∈ P, shX p) : atX V U (intoX f P) = atF (P.map (atX V U)) U f := by
  obtain ⟨a, b, c, rfl⟩ := three_x hP
  have ha := h a (by simp)
  have hb := h b (by simp)
  have hc := h c (by simp)
  have e1 : dot (intoC f.C ([a, b, c].map toFV) 3) V 3 = f.C[0]?.getD 0 * dot a.1 V 3 + f.C[1]?.getD 0 * dot b.1 V 3 + f.C[2]?.getD 0 * dot c.1 V 3 := by
    show dot (lin (lin (lin [0, 0, 0] a.1 _) b.1 _) c.1 _) V 3 = _
    rw [dot_linN (k := 3) (lin_len (lin_len rfl ha.1) hb.1) hc.1 3 (by omega), dot_linN (k := 3) (lin_len rfl ha.1) hb.1 3 (by omega), dot_linN (k := 3) rfl ha.1 3 (by omega)]
    simp [dot]
  have e2 : dot (intoD f.C f.D ([a, b, c].map toFV) 3) U 2 = dot f.D U 2 + f.C[0]?.getD 0 * dot a.2.1 U 2 + f.C[1]?.getD 0 * dot b.2.1 U 2 + f.C[2]?.getD 0 * dot c.2.1 U 2 := by
    show dot (lin (lin (lin f.D a.2.1 _) b.2.1 _) c.2.1 _) U 2 = _
    rw [dot_linN (lin_len (lin_len hD ha.2) hb.2) hc.2 2 (by omega), dot_linN (lin_len hD ha.2) hb.2 2 (by omega), dot_linN hD ha.2 2 (by omega)]
  have e3 : intoK f.C f.K ([a, b, c].map toFV) 3 = f.K + f.C[0]?.getD 0 * a.2.2 + f.C[1]?.getD 0 * b.2.2 + f.C[2]?.getD 0 * c.2.2 := rfl
  simp only [atF, atX, intoX, atV]
  rw [e1, e2, e3]
  simp only [dot, List.map_cons, List.map_nil, List.getElem?_cons_zero, List.getElem?_cons_succ, Option.getD_some, atX, atV, Int.mul_add]
  omega

/-- A row's guards all hold. -/
def fitG (V U : List Int) (r : RowM) : Bool := r.guards.all fun g => decide (0 ≤ atX V U g)
def goodG (V U : List Int) (gs : List Frm) : Bool := gs.all fun g => decide (0 ≤ atX V U g)
/-- What going a row comes to. -/
def rowEnd (V U : List Int) (r : RowM) : List Int := (List.range 3).map fun v => V[v]?.getD 0 + atX V U (r.adds[v]?.getD noX)
structure Fits (V U : List Int) (o : Bool × List Int × List Int) (r : RowM) : Prop where
  st : o.1 = r.stop
  ad : r.stop = false → o.2.1 = rowEnd V U r ∧ o.2.2 = r.tells.map (atX V U)
structure WaySh (y : Way) : Prop where
  l : y.pots.length = 3
  s : ∀ p ∈ y.pots, shX p
theorem range3 (g : Nat → Int) : (List.range 3).map g = [g 0, g 1, g 2] := rfl
theorem endW_fits {V U : List Int} {y : Way} (h : WaySh y) : Fits V U (false, y.pots.map (atX V U), y.tells.map (atX V U)) (endW y) := by
  refine ⟨rfl, fun _ => ⟨?_, rfl⟩⟩
  obtain ⟨a, b, c, e⟩ := three_x h.l
  have hs := h.s
  rw [e] at hs
  have ha := hs a (by simp)
  have hb := hs b (by simp)
  have hc := hs c (by simp)
  show y.pots.map (atX V U) = (List.range 3).map _
  rw [range3, e]
  have r0 : (endW y).adds[0]?.getD noX = lessX a 0 := by simp [endW, e]
  have r1 : (endW y).adds[1]?.getD noX = lessX b 1 := by simp [endW, e]
  have r2 : (endW y).adds[2]?.getD noX = lessX c 2 := by simp [endW, e]
  rw [r0, r1, r2, atX_less ha (by omega), atX_less hb (by omega), atX_less hc (by omega)]
  simp only [List.map_cons, List.map_nil, List.cons.injEq, and_true]
  exact ⟨by omega, by omega, by omega⟩
theorem WaySh.add {y : Way} {p : Nat} {f : Frm} (h : WaySh y) (hp : p < 3) (hf : shX f) : WaySh (y.add p f) := by
  refine ⟨by simp only [Way.add, List.length_set]; exact h.l, fun q hq => ?_⟩
  simp only [Way.add] at hq
  rcases List.mem_or_eq_of_mem_set hq with hq | rfl
  · exact h.s q hq
  · refine shX_plus (h.s _ ?_) hf
    rw [List.getElem?_eq_getElem (by rw [h.l]; exact hp)]
    exact List.getElem_mem _
theorem map_add {V U : List Int} {y : Way} {p : Nat} {f : Frm} (h : WaySh y) (hp : p < 3) (hf : shX f) : (y.add p f).pots.map (atX V U) = (y.pots.map (atX V U)).set p ((y.pots.map (atX V U))[p]?.getD 0 + atX V U f) := by
  simp only [Way.add]
  have hl : p < y.pots.length := by rw [h.l]; exact hp
  rw [List.map_set, List.getElem?_map, List.getElem?_eq_getElem hl, Option.getD_some, atX_plus (h.s _ (List.getElem_mem hl)) hf]
  rfl
theorem fit_app (V U : List Int) (gs : List Frm) (g : Frm) : goodG V U (gs ++ [g]) = (goodG V U gs && decide (0 ≤ atX V U g)) := by simp [goodG]
theorem fit_one {V U : List Int} {r : RowM} {gs : List Frm} {o : Bool × List Int × List Int} (e : r.guards = gs) (h : Fits V U o r) : (goodG V U gs = true → ∃ r', [r].filter (fitG V U) = [r'] ∧ Fits V U o r') ∧ (goodG V U gs = false → [r].filter (fitG V U) = []) := by
  have e' : fitG V U r = goodG V U gs := by rw [← e]; rfl
  refine ⟨fun hg => ⟨r, ?_, h⟩, fun hg => ?_⟩
  · rw [List.filter_cons, e', hg]; rfl
  · rw [List.filter_cons, e', hg]; rfl

/-- Of all ways just one fits, and it comes to what the act comes to. -/
theorem run_way (V U : List Int) (ls : List LV) (hall : ls.all LV.ok = true) (hD : ∀ k, k < ls.length → (ls[k]?.getD noLV).f.D.length = (ls[k]?.getD noLV).f.m) : ∀ (f i : Nat) (y : Way), WaySh y →
    (goodG V U y.guards = true → ∃ r, (goW ls f i y).filter (fitG V U) = [r] ∧ Fits V U (goL U ls f i (y.pots.map (atX V U)) (y.tells.map (atX V U))) r) ∧ (goodG V U y.guards = false → (goW ls f i y).filter (fitG V U) = [])
  | 0, i, y, h => fit_one rfl (endW_fits h)
  | f + 1, i, y, h => by
    by_cases hi : i < ls.length
    · have hok : (ls[i]?.getD noLV).ok = true := by
        rw [List.getElem?_eq_getElem hi]
        exact List.all_eq_true.1 hall _ (List.getElem_mem hi)
      have hDD := hD i hi
      rw [goL, goW, if_pos hi, if_pos hi]
      generalize ls[i]?.getD noLV = l at *
      have hsm : ∀ {n m : Nat} {C D : List Int} {K : Int}, smallB n m C D K = true → m = 2 := fun hs => by
        simp only [smallB, Bool.and_eq_true] at hs
        have := (okN_elim (by omega) hs.1.2).1
        omega
      unfold LV.ok lineB at hok
      by_cases k1 : l.kind = 1
      · rw [if_pos k1] at hok
        simp only [Bool.and_eq_true] at hok
        have hD2 : l.f.D.length = 2 := by rw [hDD]; exact hsm hok.2
        have hs := shX_into hD2 h.l h.s
        have e := atX_into (V := V) (U := U) hD2 h.l h.s
        rw [if_pos k1, if_pos k1, List.filter_append]
        have A := run_way V U ls hall hD f (i + 1) (y.guard (intoX l.f y.pots)) ⟨h.l, h.s⟩
        have B := run_way V U ls hall hD f (i + 1 + l.skip.toNat) (y.guard (minusX (intoX l.f y.pots))) ⟨h.l, h.s⟩
        have gA : goodG V U (y.guard (intoX l.f y.pots)).guards = (goodG V U y.guards && decide (0 ≤ atX V U (intoX l.f y.pots))) := fit_app _ _ _ _
        have gB : goodG V U (y.guard (minusX (intoX l.f y.pots))).guards = (goodG V U y.guards && decide (0 ≤ atX V U (minusX (intoX l.f y.pots)))) := fit_app _ _ _ _
        rw [atX_minus hs] at gB
        refine ⟨fun hg => ?_, fun hg => ?_⟩
        · rw [hg, Bool.true_and] at gA gB
          by_cases hn : atF (y.pots.map (atX V U)) U l.f < 0
          · rw [if_pos hn, A.2 (by rw [gA]; exact decide_eq_false (by omega)), List.nil_append]
            exact B.1 (by rw [gB]; exact decide_eq_true (by omega))
          · rw [if_neg hn, B.2 (by rw [gB]; exact decide_eq_false (by omega)), List.append_nil]
            exact A.1 (by rw [gA]; exact decide_eq_true (by omega))
        · rw [hg, Bool.false_and] at gA gB
          rw [A.2 gA, B.2 gB]; rfl
      · rw [if_neg k1] at hok
        rw [if_neg k1, if_neg k1]
        by_cases k2 : l.kind = 2
        · rw [if_pos k2] at hok
          simp only [Bool.and_eq_true] at hok
          have hD2 : l.f.D.length = 2 := by rw [hDD]; exact hsm hok.2
          have hs := shX_into hD2 h.l h.s
          have e := atX_into (V := V) (U := U) hD2 h.l h.s
          have hp := inB_iff.1 hok.1.1
          have hp3 : l.pot.toNat < 3 := by omega
          rw [if_pos k2, if_pos k2]
          have A := run_way V U ls hall hD f (i + 1) (y.add l.pot.toNat (intoX l.f y.pots)) (h.add hp3 hs)
          rw [map_add h hp3 hs, e] at A
          exact A
        · rw [if_neg k2] at hok
          rw [if_neg k2, if_neg k2]
          by_cases k3 : l.kind = 3
          · rw [if_pos k3] at hok
            simp only [Bool.and_eq_true] at hok
            have hD2 : l.f.D.length = 2 := by rw [hDD]; exact hsm hok.2
            have e := atX_into (V := V) (U := U) hD2 h.l h.s
            rw [if_pos k3, if_pos k3]
            have A := run_way V U ls hall hD f (i + 1) (y.tell (intoX l.f y.pots)) ⟨h.l, h.s⟩
            have et : (y.tell (intoX l.f y.pots)).tells.map (atX V U) = y.tells.map (atX V U) ++ [atF (y.pots.map (atX V U)) U l.f] := by simp only [Way.tell, List.map_append, List.map_cons, List.map_nil]; rw [e]
            rw [et] at A
            exact A
          · rw [if_neg k3, if_neg k3]
            exact fit_one rfl ⟨rfl, fun h => by cases h⟩
    · rw [goW_end (by omega), goL_end (by omega)]
      exact fit_one rfl (endW_fits h)
theorem map_way0 {V U : List Int} (h : V.length = 3) : way0.pots.map (atX V U) = V := by
  match V, h with
  | [a, b, c], _ =>
    simp only [way0, List.map_cons, List.map_nil]
    rw [atX_pot (by omega), atX_pot (by omega), atX_pot (by omega)]
    rfl
theorem way0_sh : WaySh way0 := ⟨rfl, fun p hp => by
  simp only [way0, List.mem_cons, List.not_mem_nil, or_false] at hp
  rcases hp with rfl | rfl | rfl <;> exact ⟨rfl, rfl⟩⟩
theorem runL_way {V U : List Int} {ls : List LV} (hV : V.length = 3) (hall : ls.all LV.ok = true) (hD : ∀ k, k < ls.length → (ls[k]?.getD noLV).f.D.length = (ls[k]?.getD noLV).f.m) : ∃ r, (rowsL ls).filter (fitG V U) = [r] ∧ Fits V U (runL U ls V) r := by
  have h := (run_way V U ls hall hD 7 0 way0 way0_sh).1 rfl
  rw [map_way0 hV] at h
  exact h

end Go.Proofs.Ytngfbcegcekbbaa
namespace Go.Proofs.Ytngfbcegcekbbaa
open Go.RowKit Go.Deep
set_option linter.unusedVariables false
set_option maxRecDepth 100000

/-- No slice among these lies below B. -/
def Lo (B : Nat) (xs : List Value) : Prop := ∀ (i b o : Nat) (m c : Nat), xs[i]? = some (Value.slice (some ⟨b, o, none⟩) m c) → B ≤ b
theorem Lo.nil (B : Nat) : Lo B [] := fun i b o m c h => by simp at h
theorem Lo.app {B : Nat} {xs : List Value} (h : Lo B xs) {B1 B2 n1 n2 c1 c2 : Nat} {K : Int} (h1 : B ≤ B1) (h2 : B ≤ B2) : Lo B (xs ++ [.slice (some ⟨B1, 0, none⟩) n1 c1, .slice (some ⟨B2, 0, none⟩) n2 c2, .int .i64 K]) := fun i b o m c e => by
  by_cases hi : i < xs.length
  · rw [List.getElem?_append_left hi] at e; exact h i b o m c e
  · rw [List.getElem?_append_right (by omega)] at e
    generalize i - xs.length = j at e
    match j with
    | 0 => simp at e; omega
    | 1 => simp at e; omega
    | 2 => simp at e
    | j + 3 => simp at e
theorem Ints.offC {S : Nat → Prop} {W W' : World} {a : Option Addr} {n : Nat} {zs : List Int} (h : Ints W a n zs) (hb : ∀ b o, a = some ⟨b, o, none⟩ → ¬ S b) (t : Touch S W W') : Ints W' a n zs := by
  refine ⟨h.1, fun i hi => ?_⟩
  obtain ⟨b, off, e, hc⟩ := h.2 i hi
  refine ⟨b, off, e, ?_⟩
  have hl := block_lt hc
  simp only [World.cell?] at hc ⊢
  rw [t.block b hl (hb b off e)]; exact hc
theorem own_off {S : Nat → Prop} {W W' : World} {base : Nat} {e : TypeId} {s : Nat} {v : Value} {n : Nat} {xs : List Value} (h : W.ownsRow base e s v n xs) (hn : ∀ g, v.ownBlock = some g → ¬ S g) (t : Touch S W W') : W'.ownsRow base e s v n xs := by
  refine ⟨h.1, ?_⟩
  rcases h.2 with h2 | ⟨g, cap, cur, hv, hg, hh, r⟩
  · exact Or.inl h2
  · refine Or.inr ⟨g, cap, cur, hv, hg, ?_, r⟩
    rw [t.block g (lt_of_block hh) (hn g (by rw [hv]; rfl))]; exact hh
theorem TermsOk.off {S : Nat → Prop} {W W' : World} {G : Nat} {xs : List Value} {fs : List Frm} {n : Nat} (h : TermsOk W G xs fs n) {B : Nat} (hl : Lo B xs) (hS : ∀ k, S k → k < B) (t : Touch S W W') : TermsOk W' G xs fs n := fun i hi => by
  obtain ⟨a', c', ca, cc, e0, e1, e2, i1, i2, n1, n2⟩ := h i hi
  refine ⟨a', c', ca, cc, e0, e1, e2, i1.offC (fun b o e hs => ?_) t, i2.offC (fun b o e hs => ?_) t, n1, n2⟩
  · rw [e] at e0
    have := hl _ _ _ _ _ e0
    have := hS _ hs
    omega
  · rw [e] at e1
    have := hl _ _ _ _ _ e1
    have := hS _ hs
    omega

/-- A slice of the first n forms, in memory made since w. -/
structure JF (w : World) (G cap n : Nat) (xs : List Value) (fs : List Frm) (W : World) : Prop where
  b : Below w.heap.size w W
  o : W.ownsRow w.heap.size 32 3 (.slice (some ⟨G, 0, none⟩) n cap) n xs
  t : TermsOk W G xs fs n
  l : Lo w.heap.size xs
theorem JF.below {w W W' : World} {G cap n : Nat} {xs : List Value} {fs : List Frm} (j : JF w G cap n xs fs W) (h : Below W.heap.size W W') : JF w G cap n xs fs W' := ⟨j.b.trans (h.mono j.b.size), own_below j.o h, j.t.below h, j.l⟩
theorem JF.at {w W : World} {G cap n : Nat} {xs : List Value} {fs : List Frm} (j : JF w G cap n xs fs W) (hn : fs.length = n) : FormsAt W (some ⟨G, 0, none⟩) fs := j.t.forms hn j.o
theorem JF.lt {w W : World} {G cap n : Nat} {xs : List Value} {fs : List Frm} (j : JF w G cap n xs fs W) : w.heap.size ≤ G ∧ G < W.heap.size := by
  rcases j.o.2 with ⟨h, _⟩ | ⟨g, cap', cur, h, hg, hh, _⟩
  · cases h
  · simp only [Value.slice.injEq, Option.some.injEq, Addr.mk.injEq, and_true, true_and] at h
    obtain ⟨rfl, _⟩ := h
    exact ⟨hg, lt_of_block hh⟩
/-- Whatever becomes of elder memory, the forms read as they did. -/
theorem JF.off {w W W' : World} {G cap n : Nat} {xs : List Value} {fs : List Frm} (j : JF w G cap n xs fs W) (hn : fs.length = n) {S : Nat → Prop} (hS : ∀ k, S k → k < w.heap.size) (t : Touch S W W') : FormsAt W' (some ⟨G, 0, none⟩) fs := by
  have hG := j.lt
  have o' := own_off j.o (fun g hg hs => by
    have : some G = some g := hg
    simp only [Option.some.injEq] at this
    have := hS _ hs
    omega) t
  exact (j.t.off j.l hS t).forms hn o'
theorem lin3_one {xs : List Int} (h : xs.length = 3) : lin [0, 0, 0] xs 1 = xs := by
  match xs, h with
  | [x, y, z], _ => simp [lin]
theorem lin2_one {xs : List Int} (h : xs.length = 2) : lin [0, 0] xs 1 = xs := by
  match xs, h with
  | [x, y], _ => simp [lin]

set_option maxHeartbeats 6400000 in
theorem scopy_any (ad : Option Addr) (N cap : Nat) (fs : List Frm) (w : World) (hN : fs.length = N) (hF : FormsAt w ad fs) (hfit : ∀ k, k < N → fitX 10000000 (fs[k]?.getD ([], [], 0))) (hN1 : N ≤ 1048576) :
    Calls Try.prog 78 #[.slice ad N cap] w fun e w' => ∃ G cp xs, e = .returned (.slice (some ⟨G, 0, none⟩) N cp) ∧ JF w G cp N xs fs w' := by
  have HN : Hid (fs.length = N) := hN
  have HFT : Hid _ := hfit
  have HF : Hid (FormsAt w ad fs) := hF
  clear hN hfit hF
  obtain ⟨i0, hi, hz0, hz1, hz2⟩ := info_parts Try.infoForm
  have j0 : JF w w.heap.size 0 0 [] fs (w.alloc (.cells #[] 32)) :=
    ⟨(Below.refl _ _).alloc (Nat.le_refl _) _, World.ownsRow_lit w #[] 0 (Nat.le_refl _) (by unfold maxLen; omega) rfl, fun j hj => by omega, Lo.nil _⟩
  go_enter Try.func78, Try.ntmps78
  go_wp2_with fail
  go_loopw [3, 4] (fun r i wr => ∃ (k G cp : Nat) (xs : List Value), k ≤ N ∧ i = .int .i64 k ∧ r = .slice (some ⟨G, 0, none⟩) k cp ∧ JF w G cp k xs fs wr) (fun _ i _ => N - (intOf i).toNat)
  case atStart => exact ⟨0, _, _, _, Nat.zero_le _, rfl, rfl, j0⟩
  case round =>
    clear j0
    obtain ⟨k, G, cp, xs, hk, rfl, rfl, j⟩ := hrel
    by_cases hlt : k < N
    · obtain ⟨b, off, rfl, a', c', ca, cc, c0, c1, c2, iC, iD⟩ := HF.out k (by rw [HN.out]; exact hlt)
      have hfit := HFT.out k hlt
      have HK : Hid (fs[k]?.getD ([], [], 0) = fs[k]?.getD ([], [], 0)) := rfl
      generalize HG : fs[k]?.getD ([], [], 0) = f at *
      have HT : Hid (fs[k]?.getD ([], [], 0) = f) := HG
      clear HG HK
      obtain ⟨fC, fD, fK⟩ := f
      obtain ⟨lC, lD, bC, bD, k1, k2⟩ := hfit
      simp only at c2 iC iD lC lD bC bD k1 k2
      have keep : ∀ W : World, Below w.heap.size w W → (W.cell? ⟨b, off + k * 3, none⟩ = some (.slice a' 3 ca) ∧ W.cell? ⟨b, off + k * 3 + 1, none⟩ = some (.slice c' 2 cc) ∧ W.cell? ⟨b, off + k * 3 + 2, none⟩ = some (.int .i64 fK)) := fun W hW =>
        ⟨by rw [hW.cell (p := ⟨b, off + k * 3, none⟩) (block_lt c0)]; exact c0, by rw [hW.cell (p := ⟨b, off + k * 3 + 1, none⟩) (block_lt c1)]; exact c1, by rw [hW.cell (p := ⟨b, off + k * 3 + 2, none⟩) (block_lt c2)]; exact c2⟩
      have KP : Hid _ := keep
      clear keep
      have hSS := And.intro (KP.out _ j.b.drew) (True.intro)
      clear c0 c1 c2
      have hlt' : (k : Int) < N := by omega
      go_upto_region 5 with fail
      refine wp_region_ends (fun w' => w'.cell? ⟨b, off + k * 3, none⟩ = some (.slice a' 3 ca) ∧ w'.cell? ⟨b, off + k * 3 + 1, none⟩ = some (.slice c' 2 cc) ∧ w'.cell? ⟨b, off + k * 3 + 2, none⟩ = some (.int .i64 fK)) (fun _ => True) 9 (by kernel_rfl) ?_
      refine wpAnyE_take0 (i := 0) (v := ?v0) rfl (by kernel_rfl) (by kernel_rfl) (by kernel_rfl) (by decide) (fun _ _ _ h => h) (Or.inl ⟨by rfl, ?hy0⟩) hSS ?_
      case hy0 => (intro wz hSw; (try dsimp only at hSw); go_simp; try (with_reducible rfl))
      refine wpAnyE_take0 (i := 2) (v := ?v2) rfl (by kernel_rfl) (by kernel_rfl) (by kernel_rfl) (by decide) (fun _ _ _ h => h) (Or.inl ⟨by rfl, ?hy2⟩) hSS ?_
      case hy2 => (intro wz hSw; (try dsimp only at hSw); go_simp; try (with_reducible rfl))
      refine wpAnyE_take0 (i := 3) (v := ?v3) rfl (by kernel_rfl) (by kernel_rfl) (by kernel_rfl) (by decide) (fun _ _ _ h => h) (Or.inl ⟨by rfl, ?hy3⟩) hSS ?_
      case hy3 => (intro wz hSw; (try dsimp only at hSw); go_simp; try (with_reducible rfl))
      refine wpAnyE_take0 (i := 4) (v := ?v4) rfl (by kernel_rfl) (by kernel_rfl) (by kernel_rfl) (by decide) (fun _ _ _ h => h) (Or.inl ⟨by rfl, ?hy4⟩) hSS ?_
      case hy4 => (intro wz hSw; (try dsimp only at hSw); go_simp; try (with_reducible rfl))
      refine wpAnyE_take0 (i := 5) (v := ?v5) rfl (by kernel_rfl) (by kernel_rfl) (by kernel_rfl) (by decide) (fun _ _ _ h => h) (Or.inl ⟨by rfl, ?hy5⟩) hSS ?_
      case hy5 => (intro wz hSw; (try dsimp only at hSw); go_simp; try (with_reducible rfl))
      refine wpAnyE_one (i := 1) (by kernel_rfl) rfl (fun K hK => ?_)
      go_simp
      refine (szero_any _).mono ?_
      rintro ee w3 ⟨Z1, Z2, rfl, b3, y1, y2, y3, z1, z2⟩
      have j3 := j.below (below_of_drew b3)
      dsimp only
      refine hK.out _ _ ⟨KP.out _ j3.b, fun _ => trivial⟩ ?_
      clear hK K hSS j
      refine wpAnyE_one (i := 6) (by kernel_rfl) rfl (fun K hK => ?_)
      go_simp
      refine (l1sum_any _ _ _ _ _ [0, 0, 0] [0, 0] _ _ _ _ _ fC fD _ _ (z1.ints' rfl) (z2.ints' rfl) (iC.below j3.b) (iD.below j3.b) bnd_lit3 bnd_lit2 (by omega) (fun i => by have := bC i; omega) (fun i => by have := bD i; omega) (by omega)).mono ?_
      rintro ee w4 ⟨B1, B2, rfl, b4, g1, g2, g3, u1, u2⟩
      rw [lin3_one lC] at u1
      rw [lin2_one lD] at u2
      have e0 : (0 : Int) + 1 * fK = fK := by omega
      rw [e0]
      have j4 := j3.below b4
      have lG := j3.lt
      have hs3 := j3.b.size
      have l1 := u1.lt
      have l2 := u2.lt
      dsimp only
      refine hK.out _ _ ⟨KP.out _ j4.b, fun _ => trivial⟩ ?_
      clear hK K z1 z2 b3 b4 y1 y2 y3
      refine wpAnyE_one (i := 7) (by kernel_rfl) rfl (fun K hK => ?_)
      go_simp
      have A5 : Below w4.heap.size w4 (w4.alloc (.cells #[.slice (some ⟨B1, 0, none⟩) 3 3, .slice (some ⟨B2, 0, none⟩) 2 2, .int .i64 fK] 32)) := (Below.refl _ _).alloc (Nat.le_refl _) _
      have j5 := j4.below A5
      have hs5 := j5.b.size
      have v1 := u1.below A5
      have v2 := u2.below A5
      have s43 := A5.size
      have lG4 := j4.lt
      refine hK.out _ _ ⟨KP.out _ j5.b, fun _ => trivial⟩ ?_
      clear hK K A5 j3 j4
      refine wpAnyE_one (i := 8) (by kernel_rfl) rfl (fun K hK => ?_)
      rw [if_pos (by rfl)]
      refine wp_append_lies _ (.tmp 12) (.tmp 19) 36 rfl w.heap.size 32 i0 _ 3 56 Try.underlying36 hi hz0 hz1 hz2 rfl (by omega) (.slice (some ⟨G, 0, none⟩) k cp) k xs (by rfl) j5.o ⟨w4.heap.size, 0, none⟩ 1 1 [Value.slice (some ⟨B1, 0, none⟩) 3 3, Value.slice (some ⟨B2, 0, none⟩) 2 2, Value.int .i64 fK] (by rfl) (by rfl) (World.news_of_block (cs := #[Value.slice (some ⟨B1, 0, none⟩) 3 3, Value.slice (some ⟨B2, 0, none⟩) 2 2, Value.int .i64 fK]) (t := 32) (fr := (0, 0)) (heap_alloc_new w4 _)) (by simp [Value.oneCell']) (by omega) (by unfold maxLen; omega) (by omega) hs5 (w4.heap.size + 1) (by rw [World.size_alloc]) ?_
      intro g cp2 w6 hown hgrow hat hlt6
      have j6 : JF w g cp2 (k + 1) (xs ++ [Value.slice (some ⟨B1, 0, none⟩) 3 3, Value.slice (some ⟨B2, 0, none⟩) 2 2, Value.int .i64 fK]) fs w6 := by
        refine ⟨j5.b.grown hgrow hs5 (fun z hz => ?_), hown, j5.t.step j5.o.1 hgrow ?_ (v1.ints' lC) (v2.ints' lD) (by omega) (by omega) HT.out, j5.l.app (by omega) (by omega)⟩
        · have : some G = some z := hz
          simp only [Option.some.injEq] at this
          omega
        · rcases hat with h | h
          · have : some G = some g := h
            simp only [Option.some.injEq] at this
            exact Or.inl this.symm
          · exact Or.inr (by rw [World.size_alloc]; omega)
      refine hK.out _ _ ⟨KP.out _ j6.b, fun _ => trivial⟩ ?_
      clear hK K hown hgrow hat j5 v1 v2 u1 u2
      refine wpAnyE_one (i := 9) (by kernel_rfl) rfl (fun K hK => ?_)
      go_simp
      refine hK.out _ _ ⟨KP.out _ j6.b, fun _ => trivial⟩ ?_
      clear hK K
      refine wpAnyE_done (by kernel_rfl) ?_ _
      go_wp2
      go_roundw
      case rel => exact ⟨k + 1, g, cp2, _, by omega, by go_num, rfl, j6⟩
      case measure => simp [intOf]; omega
    · obtain rfl : k = N := by omega
      go_wp2
      go_ret
      exact ⟨G, cp, xs, rfl, j⟩

end Go.Proofs.Ytngfbcegcekbbaa
namespace Go.Proofs.Ytngfbcegcekbbaa
open Go.RowKit
set_option linter.unusedVariables false
set_option maxRecDepth 100000

set_option maxHeartbeats 6400000 in
theorem sminus_any (a : Option Addr) (cap : Nat) (c : Option Addr) (cap' : Nat) (K : Int) (C D : List Int) (w : World) (hC : Ints w a 3 C) (hD : Ints w c 2 D) (bC : bnd 10000000 C) (bD : bnd 10000000 D) (bK1 : -10000000 ≤ K) (bK2 : K ≤ 10000000) :
    Calls Try.prog 80 #[formV a 3 cap c 2 cap' K] w fun e w' => ∃ B1 B2, e = .returned (formV (some ⟨B1, 0, none⟩) 3 3 (some ⟨B2, 0, none⟩) 2 2 (-K - 1)) ∧ Below w.heap.size w w' ∧ w.heap.size ≤ B1 ∧ B1 ≠ B2 ∧ w.heap.size ≤ B2 ∧ Blk w' B1 (mulL (-1) C) ∧ Blk w' B2 (mulL (-1) D) := by
  obtain ⟨k, hk⟩ : ∃ k : Int, k = -1 := ⟨_, rfl⟩
  have tC : bndT 1000000000000000000 k C := by rw [hk]; exact fun i => by have := bC i; omega
  have tD : bndT 1000000000000000000 k D := by rw [hk]; exact fun i => by have := bD i; omega
  have tK : -1000000000000000000 ≤ k * K ∧ k * K ≤ 1000000000000000000 := by rw [hk]; omega
  have Z3 := lin_zero3 (k := k) hC.1
  have Z2 := lin_zero2 (k := k) hD.1
  have H1 : TimesH w a cap c cap' K ((w.alloc (Obj.cells #[Value.slice a 3 cap, Value.slice c 2 cap', Value.int IntKind.i64 K] 32)).alloc (Obj.cells #[Value.slice none 0 0, Value.slice none 0 0, Value.int IntKind.i64 0] 32)) :=
    ⟨(Cel.new w _ _).alloc _, by have := Cel.new (w.alloc (Obj.cells #[Value.slice a 3 cap, Value.slice c 2 cap', Value.int IntKind.i64 K] 32)) [.slice none 0 0, .slice none 0 0, .int .i64 0] 32; rw [World.size_alloc] at this; exact this, ((Below.refl _ _).alloc (Nat.le_refl _) _).alloc (by simp) _⟩
  have HK : Hid (k = -1) := hk
  subst hk
  go_enter Try.func80, Try.ntmps80
  go_upto_region 1 with fail
  obtain ⟨w2, hw2⟩ : ∃ w2, w2 = (w.alloc (Obj.cells #[Value.slice a 3 cap, Value.slice c 2 cap', Value.int IntKind.i64 K] 32)).alloc (Obj.cells #[Value.slice none 0 0, Value.slice none 0 0, Value.int IntKind.i64 0] 32) := ⟨_, rfl⟩
  rw [← hw2] at H1 ⊢
  clear hw2
  go_cut [3] (fun s wx => ∃ X B1 B2, s = .pointer (some ⟨X, 0, none⟩) ∧ TimesH w a cap c cap' K wx ∧ Cel wx X [.slice (some ⟨B1, 0, none⟩) 3 3, .slice (some ⟨B2, 0, none⟩) 2 2, .int .i64 (-K)] 32 ∧ Blk wx B1 (mulL (-1) C) ∧ Blk wx B2 (mulL (-1) D) ∧ w.heap.size + 1 < X ∧ w.heap.size + 1 < B1 ∧ w.heap.size + 1 < B2 ∧ B1 ≠ B2 ∧ B1 ≠ X ∧ B2 ≠ X)
  case first =>
    have l1 := H1.r.lt
    have G1 := H1.cells
    have N0 := World.new_ne w2 ⟨w.heap.size, 0, none⟩ G1.1
    have N1 := World.new_ne w2 ⟨w.heap.size, 1, none⟩ G1.2.1
    have N2 := World.new_ne w2 ⟨w.heap.size, 2, none⟩ G1.2.2
    have A1 := H1.b.size
    go_region_held3 (fun w' => w'.cell? ⟨w.heap.size, 0, none⟩ = some (.slice a 3 cap) ∧ w'.cell? ⟨w.heap.size, 1, none⟩ = some (.slice c 2 cap') ∧ w'.cell? ⟨w.heap.size, 2, none⟩ = some (.int .i64 K)) (first | assumption | go_keep)
      (first
        | (go_at_call 83; refine (szero_any _).mono ?_; rintro e w3 ⟨Z1, Z2', rfl, b3, y1, y2, y3, k1, k2⟩; have H3 := TimesH.below (w := w) (a := a) (c := c) (cap := cap) (cap' := cap') (K := K) (by first | exact H1.drew | exact (H1.alloc _).drew) b3; have G3 := H3.cells; have l3 := H3.r.lt; have A3 : w2.heap.size ≤ w3.heap.size := Nat.le_trans (by simp) b3.size; have N3 := World.new_ne w3 ⟨w.heap.size, 0, none⟩ G3.1; have N4 := World.new_ne w3 ⟨w.heap.size, 1, none⟩ G3.2.1; have N5 := World.new_ne w3 ⟨w.heap.size, 2, none⟩ G3.2.2; first | (have X3 := Cel.below (w := (w2.alloc (Obj.cells #[Value.slice none 0 0, Value.slice none 0 0, Value.int IntKind.i64 0] 32)).drew) (Cel.new w2 [Value.slice none 0 0, Value.slice none 0 0, Value.int IntKind.i64 0] 32) b3) | skip)
        | (go_at_call 81; refine (l1sum_any _ _ _ _ _ [0, 0, 0] [0, 0] _ _ _ _ _ C D _ _ (by first | exact k1.ints' rfl | exact (k1.alloc _).ints' rfl) (by first | exact k2.ints' rfl | exact (k2.alloc _).ints' rfl) (hC.below (TimesH.b (a := a) (c := c) (cap := cap) (cap' := cap') (K := K) (by first | exact H3 | exact H3.alloc _))) (hD.below (TimesH.b (a := a) (c := c) (cap := cap) (cap' := cap') (K := K) (by first | exact H3 | exact H3.alloc _))) bnd_lit3 bnd_lit2 (by omega) tC tD tK).mono ?_; rintro e w4 ⟨B1, B2, rfl, b4, g1, g2, g3, k3, k4⟩; have H4 := TimesH.below (w := w) (a := a) (c := c) (cap := cap) (cap' := cap') (K := K) (by first | exact H3 | exact H3.alloc _) b4; have G4 := H4.cells; have l4 := H4.r.lt; first | (have X4 := Cel.below (Cel.new w3 [Value.slice none 0 0, Value.slice none 0 0, Value.int IntKind.i64 0] 32) b4; have X5 := X4.trio; obtain ⟨u0, u1, u2, u3, u4, u5⟩ := X5) | (have X4 := X3.below b4; have X5 := X4.trio; obtain ⟨u0, u1, u2, u3, u4, u5⟩ := X5) | skip))
    all_goals
      rw [Z3] at k3
      rw [Z2] at k4
      try rw [World.size_alloc] at g1 g3
      have l13 := k3.lt
      have l14 := k4.lt
    · go_wp2_with fail
      go_meet
      case rel => exact ⟨_, B1, B2, rfl, H4.alloc _, Cel.new w4 _ _, k3.alloc _, k4.alloc _, by omega, by omega, by omega, g2, by omega, by omega⟩
    · go_wp2_with fail
      go_meet
      case rel => exact ⟨_, B1, B2, rfl, ((H4.set (by omega) _ _).set (by omega) _ _).set (by omega) _ _, ((X4.set 0 _).set 1 _).set 2 _, ((k3.setOther (by omega) _ _).setOther (by omega) _ _).setOther (by omega) _ _, ((k4.setOther (by omega) _ _).setOther (by omega) _ _).setOther (by omega) _ _, by omega, by omega, by omega, g2, by omega, by omega⟩
    · have x3 := X3.lt
      go_wp2_with fail
      go_meet
      case rel => exact ⟨_, B1, B2, rfl, ((H4.set (by omega) _ _).set (by omega) _ _).set (by omega) _ _, ((X4.set 0 _).set 1 _).set 2 _, ((k3.setOther (by omega) _ _).setOther (by omega) _ _).setOther (by omega) _ _, ((k4.setOther (by omega) _ _).setOther (by omega) _ _).setOther (by omega) _ _, by omega, by omega, by omega, g2, by omega, by omega⟩
  case rest =>
    obtain ⟨X, B1, B2, rfl, HX, hX, k1, k2, lX, lB1, lB2, hne, x1, x2⟩ := hcut
    clear H1 Z3 Z2 tC tD tK bC bD
    obtain ⟨c0, c1, c2, c3, c4, c5⟩ := hX.trio
    have hw : IntKind.i64.wrap (-K - 1) = -K - 1 := wrap_id (by omega) (by omega)
    have HY := HX.set (X := X) (by omega) 2 (.int .i64 (-K - 1))
    have hY := hX.set 2 (.int .i64 (-K - 1))
    obtain ⟨d0, d1, d2, d3, d4, d5⟩ := hY.trio
    obtain ⟨r0, r1, r2, r3, r4, r5⟩ := HY.room
    have k1' := k1.setOther x1 2 (.int .i64 (-K - 1))
    have k2' := k2.setOther x2 2 (.int .i64 (-K - 1))
    clear HX hX hY k1 k2
    go_wp2
    refine bodyPost_ret (v := formV (some ⟨B1, 0, none⟩) 3 3 (some ⟨B2, 0, none⟩) 2 2 (-K - 1)) (by simp [results, Try.results80, go_sem, r0, r1, r2]) rfl ?_
    refine ⟨B1, B2, rfl, ?_, by omega, hne, by omega, ?_, ?_⟩
    · exact ((HY.b.setCell (by simp only []; omega) _).setCell (by simp only []; omega) _).setCell (by simp only []; omega) _
    · exact ((k1'.setOther (by omega) _ _).setOther (by omega) _ _).setOther (by omega) _ _
    · exact ((k2'.setOther (by omega) _ _).setOther (by omega) _ _).setOther (by omega) _ _

end Go.Proofs.Ytngfbcegcekbbaa
namespace Go.Proofs.Ytngfbcegcekbbaa
open Go.RowKit Go.Deep
set_option linter.unusedVariables false
set_option maxRecDepth 100000

theorem grown_none {W W' : World} (h : W.grownBy W' none) (G : Nat) : W.grownBy W' (some G) :=
  ⟨h.os, h.tape, h.output, h.size, fun k hk _ => h.block k hk (by simp)⟩
theorem Cel.grew {W W' : World} {B : Nat} {vs : List Value} {t : TypeId} {row : Option Nat} (h : Cel W B vs t) (hg : W.grownBy W' row) (hne : row ≠ some B) : Cel W' B vs t := by
  have hl := h.lt
  unfold Cel at *
  rw [hg.block B hl (fun e => hne e.symm)]; exact h

/-- A slice of the first n forms, in memory made since w; it may be nil as yet. -/
structure JV (w : World) (v : Value) (n : Nat) (xs : List Value) (fs : List Frm) (W : World) : Prop where
  b : Below w.heap.size w W
  o : W.ownsRow w.heap.size 32 3 v n xs
  t : ∃ G, (v.ownBlock = some G ∨ (v.ownBlock = none ∧ n = 0)) ∧ TermsOk W G xs fs n
  l : Lo w.heap.size xs
theorem JV.nil (w : World) (fs : List Frm) : JV w (.slice none 0 0) 0 [] fs w := ⟨Below.refl _ _, World.ownsRow_nil w _ _ _, ⟨0, Or.inr ⟨rfl, rfl⟩, fun j hj => by omega⟩, Lo.nil _⟩
theorem JV.below {w W W' : World} {v : Value} {n : Nat} {xs : List Value} {fs : List Frm} (j : JV w v n xs fs W) (h : Below W.heap.size W W') : JV w v n xs fs W' := by
  obtain ⟨G, hG, ht⟩ := j.t
  exact ⟨j.b.trans (h.mono j.b.size), own_below j.o h, ⟨G, hG, ht.below h⟩, j.l⟩
theorem JV.own {w W : World} {v : Value} {n : Nat} {xs : List Value} {fs : List Frm} (j : JV w v n xs fs W) {G : Nat} (h : v.ownBlock = some G) : w.heap.size ≤ G ∧ G < W.heap.size := by
  rcases j.o.2 with ⟨e, _⟩ | ⟨g, cap', cur, e, hg, hh, _⟩
  · rw [e] at h; cases h
  · rw [e] at h
    have : some g = some G := h
    simp only [Option.some.injEq] at this
    subst this
    exact ⟨hg, lt_of_block hh⟩
theorem JV.isSlice {w W : World} {v : Value} {n : Nat} {xs : List Value} {fs : List Frm} (j : JV w v n xs fs W) : ∃ a c, v = .slice a n c := by
  rcases j.o.2 with ⟨e, h0⟩ | ⟨g, cap', cur, e, _⟩
  · subst h0; exact ⟨_, _, e⟩
  · exact ⟨_, _, e⟩
theorem JV.slice {w W : World} {v : Value} {n : Nat} {xs : List Value} {fs : List Frm} (j : JV w v n xs fs W) (hn : fs.length = n) : ∃ a cap, v = .slice a n cap ∧ FormsAt W a fs := by
  obtain ⟨G, hG, ht⟩ := j.t
  rcases j.o.2 with ⟨e, h0⟩ | ⟨g, cap', cur, e, hg, hh, _⟩
  · subst h0
    exact ⟨none, 0, e, fun i hi => by omega⟩
  · have o := j.o
    rw [e] at o
    rcases hG with hG | ⟨_, h0⟩
    · rw [e] at hG
      have : some g = some G := hG
      simp only [Option.some.injEq] at this
      subst this
      exact ⟨_, cap', e, ht.forms hn o⟩
    · subst h0
      exact ⟨_, cap', e, fun i hi => by omega⟩
theorem JV.app {w W W' : World} {v : Value} {n : Nat} {xs : List Value} {fs : List Frm} {g cap B1 B2 ca cc : Nat} {C D : List Int} {K : Int} (j : JV w v n xs fs W) (hown : W'.ownsRow w.heap.size 32 3 (.slice (some ⟨g, 0, none⟩) (n + 1) cap) (n + 1) (xs ++ [.slice (some ⟨B1, 0, none⟩) 3 ca, .slice (some ⟨B2, 0, none⟩) 2 cc, .int .i64 K])) (hgrow : W.grownBy W' v.ownBlock) {H : Nat} (hat : v.ownBlock = some g ∨ g = H) (hH : W.heap.size = H)
    (k1 : Ints W (some ⟨B1, 0, none⟩) 3 C) (k2 : Ints W (some ⟨B2, 0, none⟩) 2 D) (n1 : v.ownBlock ≠ some B1) (n2 : v.ownBlock ≠ some B2) (p1 : w.heap.size ≤ B1) (p2 : w.heap.size ≤ B2) (hT : fs[n]?.getD ([], [], 0) = (C, D, K)) :
    JV w (.slice (some ⟨g, 0, none⟩) (n + 1) cap) (n + 1) (xs ++ [.slice (some ⟨B1, 0, none⟩) 3 ca, .slice (some ⟨B2, 0, none⟩) 2 cc, .int .i64 K]) fs W' := by
  have hb : Below w.heap.size w W' := j.b.grown hgrow j.b.size (fun z hz => (j.own hz).1)
  have l1 := k1.blt (by omega) B1 0 rfl
  have l2 := k2.blt (by omega) B2 0 rfl
  obtain ⟨G, hG, ht⟩ := j.t
  refine ⟨hb, hown, ⟨g, Or.inl rfl, ?_⟩, j.l.app p1 p2⟩
  rcases hG with hG | ⟨hG, h0⟩
  · rw [hG] at hgrow hat n1 n2
    refine ht.step j.o.1 hgrow ?_ k1 k2 (fun e => n1 (by rw [e])) (fun e => n2 (by rw [e])) hT
    rcases hat with h | h
    · simp only [Option.some.injEq] at h; exact Or.inl h.symm
    · exact Or.inr (by omega)
  · rw [hG] at hgrow hat
    have ht' : TermsOk W (W.heap.size + 1) xs fs n := fun j hj => by omega
    refine ht'.step j.o.1 (grown_none hgrow _) ?_ k1 k2 (by omega) (by omega) hT
    rcases hat with h | h
    · cases h
    · exact Or.inr (by omega)

/-- Forms that read as they do, whatever becomes of the blocks of S. -/
def FOff (W : World) (S : Nat → Prop) (a : Option Addr) (fs : List Frm) : Prop := ∀ W', Touch S W W' → FormsAt W' a fs
theorem FOff.at {W : World} {S : Nat → Prop} {a : Option Addr} {fs : List Frm} (h : FOff W S a fs) : FormsAt W a fs := h W (Touch.refl _ _)
theorem FOff.touch {W W' : World} {S : Nat → Prop} {a : Option Addr} {fs : List Frm} (h : FOff W S a fs) (t : Touch S W W') : FOff W' S a fs := fun W'' t' => h W'' (t.trans t')
theorem FOff.below {W W' : World} {S : Nat → Prop} {a : Option Addr} {fs : List Frm} (h : FOff W S a fs) (b : Below W.heap.size W W') : FOff W' S a fs := h.touch (Touch.of b)
theorem FOff.mono {W : World} {S S' : Nat → Prop} {a : Option Addr} {fs : List Frm} (h : FOff W S a fs) (hs : ∀ k, S' k → S k) : FOff W S' a fs := fun W' t => h W' (t.mono hs)
/-- A block that is new. -/
theorem FOff.fresh {W : World} {S : Nat → Prop} {a : Option Addr} {fs : List Frm} (h : FOff W S a fs) (o : Obj) : FOff (W.alloc o) (fun k => S k ∨ k = W.heap.size) a fs := fun W' t => by
  have b : Below W.heap.size W (W.alloc o) := (Below.refl _ _).alloc (Nat.le_refl _) _
  refine h W' ⟨t.os.trans b.os, t.tape.trans b.tape, t.output.trans b.output, Nat.le_trans b.size t.size, fun k hk hn => ?_⟩
  rw [t.block k (Nat.lt_of_lt_of_le hk b.size) (fun e => by
    rcases e with e | e
    · exact hn e
    · omega)]
  exact b.block k hk
theorem JF.foff {w W : World} {G cap n : Nat} {xs : List Value} {fs : List Frm} (j : JF w G cap n xs fs W) (hn : fs.length = n) : FOff W (fun k => k < w.heap.size) (some ⟨G, 0, none⟩) fs := fun W' t => j.off hn (fun k h => h) t
theorem JV.foff {w W : World} {v : Value} {n : Nat} {xs : List Value} {fs : List Frm} (j : JV w v n xs fs W) (hn : fs.length = n) : ∃ a cap, v = .slice a n cap ∧ FOff W (fun k => k < w.heap.size) a fs := by
  obtain ⟨a, cap, hv⟩ := j.isSlice
  refine ⟨a, cap, hv, fun W' t => ?_⟩
  obtain ⟨G, hG, ht⟩ := j.t
  have o' := own_off j.o (fun g hg hs => by have := (j.own hg).1; omega) t
  have b' : Below w.heap.size W W' → True := fun _ => trivial
  have t' := ht.off j.l (fun k h => h) t
  rcases o'.2 with ⟨e, h0⟩ | ⟨g, cap', cur, e, _⟩
  · subst h0
    intro i hi
    omega
  · have o := o'
    rw [e] at o hv
    simp only [Value.slice.injEq, true_and] at hv
    obtain ⟨rfl, rfl⟩ := hv
    rcases hG with hG | ⟨hG, _⟩
    · rw [e] at hG
      have : some g = some G := hG
      simp only [Option.some.injEq] at this
      subst this
      exact t'.forms hn o
    · rw [e] at hG; cases hG

/-- A row that can be read, whatever becomes of memory below B. -/
def RowX (W : World) (B : Nat) (v : Value) (r : RowM) : Prop :=
  ∃ ga gc aa ac ta tc, v = .agg #[.slice ga r.guards.length gc, .slice aa r.adds.length ac, .slice ta r.tells.length tc, .bool r.stop] ∧ FOff W (fun k => k < B) ga r.guards ∧ FOff W (fun k => k < B) aa r.adds ∧ FOff W (fun k => k < B) ta r.tells
theorem FormsAt.keep {W W' : World} {a : Option Addr} {fs : List Frm} (h : FormsAt W a fs) (hb : Below W.heap.size W W') : FormsAt W' a fs := fun i hi => by
  obtain ⟨b, off, e, a', c', ca, cc, c0, c1, c2, iC, iD⟩ := h i hi
  refine ⟨b, off, e, a', c', ca, cc, ?_, ?_, ?_, iC.below hb, iD.below hb⟩
  · rw [hb.cell (p := ⟨b, off + i * 3, none⟩) (block_lt c0)]; exact c0
  · rw [hb.cell (p := ⟨b, off + i * 3 + 1, none⟩) (block_lt c1)]; exact c1
  · rw [hb.cell (p := ⟨b, off + i * 3 + 2, none⟩) (block_lt c2)]; exact c2

/-- Blocks that hold no number, and no slice of two or three, hold no part of a form. -/
theorem Ints.past {W W' : World} {X : Nat} {a : Option Addr} {n : Nat} {zs : List Int} (h : Ints W a n zs) (hx : ∀ o q, W.cell? ⟨X, o, none⟩ ≠ some (.int .i64 q)) (t : Touch (fun z => z = X) W W') : Ints W' a n zs := by
  refine ⟨h.1, fun i hi => ?_⟩
  obtain ⟨b, off, e, hc⟩ := h.2 i hi
  refine ⟨b, off, e, ?_⟩
  have hb := block_lt hc
  have hne : b ≠ X := fun e2 => by subst e2; exact hx _ _ hc
  simp only [World.cell?] at hc ⊢
  rw [t.block b hb hne]; exact hc
theorem FormsAt.past {W W' : World} {X : Nat} {a : Option Addr} {fs : List Frm} (h : FormsAt W a fs) (hx : ∀ o v, W.cell? ⟨X, o, none⟩ = some v → v = .slice none 0 0 ∨ v = .bool false) (t : Touch (fun z => z = X) W W') : FormsAt W' a fs := fun i hi => by
  obtain ⟨b, off, e, a', c', ca, cc, c0, c1, c2, iC, iD⟩ := h i hi
  have hi' : ∀ o q, W.cell? ⟨X, o, none⟩ ≠ some (.int .i64 q) := fun o q hq => by rcases hx o _ hq with h | h <;> cases h
  have hne : b ≠ X := fun e2 => by subst e2; rcases hx _ _ c0 with h | h <;> cases h
  have hb := block_lt c0
  refine ⟨b, off, e, a', c', ca, cc, ?_, ?_, ?_, iC.past hi' t, iD.past hi' t⟩
  · simp only [World.cell?] at c0 ⊢; rw [t.block b hb hne]; exact c0
  · simp only [World.cell?] at c1 ⊢; rw [t.block b hb hne]; exact c1
  · simp only [World.cell?] at c2 ⊢; rw [t.block b hb hne]; exact c2
theorem JV.past {w W W' : World} {X : Nat} {v : Value} {n : Nat} {xs : List Value} {fs : List Frm} (j : JV w v n xs fs W) (hX : w.heap.size ≤ X) (hx : ∀ o q, W.cell? ⟨X, o, none⟩ ≠ some (.int .i64 q)) (ne : v.ownBlock ≠ some X) (t : Touch (fun z => z = X) W W') : JV w v n xs fs W' := by
  obtain ⟨G, hG, ht⟩ := j.t
  refine ⟨j.b.trans (t.below j.b.size (fun k hk => by omega)), ⟨j.o.1, ?_⟩, ⟨G, hG, fun i hi => ?_⟩, j.l⟩
  · rcases j.o.2 with h2 | ⟨g, cap, cur, hv, hg, hh, r⟩
    · exact Or.inl h2
    · refine Or.inr ⟨g, cap, cur, hv, hg, ?_, r⟩
      have hne : g ≠ X := fun e => ne (by rw [hv, e]; rfl)
      rw [t.block g (lt_of_block hh) hne]; exact hh
  · obtain ⟨a', c', ca, cc, e0, e1, e2, i1, i2, n1, n2⟩ := ht i hi
    exact ⟨a', c', ca, cc, e0, e1, e2, i1.past hx t, i2.past hx t, n1, n2⟩

theorem Cel.four {w : World} {B : Nat} {x y z u : Value} {t : TypeId} (h : Cel w B [x, y, z, u] t) : w.cell? ⟨B, 0, none⟩ = some x ∧ w.cell? ⟨B, 1, none⟩ = some y ∧ w.cell? ⟨B, 2, none⟩ = some z ∧ w.cell? ⟨B, 3, none⟩ = some u := ⟨h.cell 0, h.cell 1, h.cell 2, h.cell 3⟩
theorem boxNo {W : World} {X : Nat} {a a' a'' : Option Addr} {n n' n'' c c' c'' : Nat} {bb : Bool} {t : TypeId} (h : Cel W X [.slice a n c, .slice a' n' c', .slice a'' n'' c'', .bool bb] t) : ∀ o q, W.cell? ⟨X, o, none⟩ ≠ some (.int .i64 q) := fun o q e => by
  have := h.cell o
  rw [e] at this
  match o with
  | 0 => simp at this
  | 1 => simp at this
  | 2 => simp at this
  | 3 => simp at this
  | o + 4 => simp at this
theorem boxNil {W : World} {X : Nat} {t : TypeId} (h : Cel W X [.slice none 0 0, .slice none 0 0, .slice none 0 0, .bool false] t) : ∀ o v, W.cell? ⟨X, o, none⟩ = some v → v = .slice none 0 0 ∨ v = .bool false := fun o v e => by
  have := h.cell o
  rw [e] at this
  match o with
  | 0 => simp at this; exact Or.inl this
  | 1 => simp at this; exact Or.inl this
  | 2 => simp at this; exact Or.inl this
  | 3 => simp at this; exact Or.inr this
  | o + 4 => simp at this
theorem pot_bnd {k : Nat} (hk : k < 3) : bndT 1000000000000000000 (-1) (([0, 0, 0] : List Int).set k 1) := fun i => by
  match k, hk, i with
  | 0, _, 0 => simp
  | 0, _, 1 => simp
  | 0, _, 2 => simp
  | 0, _, i + 3 => simp
  | 1, _, 0 => simp
  | 1, _, 1 => simp
  | 1, _, 2 => simp
  | 1, _, i + 3 => simp
  | 2, _, 0 => simp
  | 2, _, 1 => simp
  | 2, _, 2 => simp
  | 2, _, i + 3 => simp
theorem pot_bnd2 : bndT 1000000000000000000 (-1) ([0, 0] : List Int) := fun i => by
  match i with
  | 0 => simp
  | 1 => simp
  | i + 2 => simp

set_option maxHeartbeats 6400000 in
theorem srowend_any (y : Way) (pa : Option Addr) (cp : Nat) (ga : Option Addr) (ng gc : Nat) (ta : Option Addr) (nt tc : Nat) (w : World) (hp : y.pots.length = 3) (hg : y.guards.length = ng) (ht : y.tells.length = nt)
    (hP : FormsAt w pa y.pots) (hG : FormsAt w ga y.guards) (hT : FormsAt w ta y.tells) (fp : ∀ k, k < 3 → fitX 10000000 (y.pots[k]?.getD noX)) (fg : ∀ k, k < ng → fitX 10000000 (y.guards[k]?.getD ([], [], 0))) (ft : ∀ k, k < nt → fitX 10000000 (y.tells[k]?.getD ([], [], 0))) (hg1 : ng ≤ 1048576) (ht1 : nt ≤ 1048576) :
    Calls Try.prog 82 #[.slice pa 3 cp, .slice ga ng gc, .slice ta nt tc] w fun e w' => ∃ v, e = .returned v ∧ Below w.heap.size w w' ∧ RowX w' w.heap.size v (endW y) := by
  have HPL : Hid (y.pots.length = 3) := hp
  have HGL : Hid (y.guards.length = ng) := hg
  have HTL : Hid (y.tells.length = nt) := ht
  have HP : Hid (FormsAt w pa y.pots) := hP
  have HFP : Hid _ := fp
  have HFG : Hid _ := fg
  have HFT : Hid _ := ft
  clear hp hg ht fp fg ft hP
  obtain ⟨i0, hi, hz0, hz1, hz2⟩ := info_parts Try.infoForm
  have B0 : Below w.heap.size w (w.alloc (.cells #[.slice none 0 0, .slice none 0 0, .slice none 0 0, .bool false] 38)) := (Below.refl _ _).alloc (Nat.le_refl _) _
  have r0 := Cel.new w [.slice none 0 0, .slice none 0 0, .slice none 0 0, .bool false] 38
  go_enter Try.func82, Try.ntmps82
  go_wp2_with fail
  refine (scopy_any _ _ _ y.guards _ HGL.out (hG.keep B0) HFG.out hg1).mono ?_
  rintro e w1 ⟨G1, cp1, xs1, rfl, j1⟩
  have B1 := B0.trans (j1.b.mono B0.size)
  have r1 := r0.below j1.b
  have g1 := j1.foff HGL.out
  rw [World.size_alloc] at g1
  clear r0 B0 j1
  go_wp2_with fail
  refine (scopy_any _ _ _ y.tells _ HTL.out (hT.keep B1) HFT.out ht1).mono ?_
  rintro e w2 ⟨G2, cp2, xs2, rfl, j2⟩
  have B2 := B1.trans (j2.b.mono B1.size)
  have r2 := r1.below j2.b
  have g2 := g1.below j2.b
  have t2 := j2.foff HTL.out
  have z12 := r1.lt
  clear r1 B1 j2 g1
  go_wp2_with fail
  have lX := r2.lt
  have x0 := Cel.new w2 [.slice (some ⟨G1, 0, none⟩) ng cp1, .slice none 0 0, .slice (some ⟨G2, 0, none⟩) nt cp2, .bool false] 38
  have j0 : JV w2 (.slice none 0 0) 0 [] (endW y).adds (w2.alloc (.cells #[.slice (some ⟨G1, 0, none⟩) ng cp1, .slice none 0 0, .slice (some ⟨G2, 0, none⟩) nt cp2, .bool false] 38)) := (JV.nil w2 _).below ((Below.refl _ _).alloc (Nat.le_refl _) _)
  go_loopw [8] (fun i wr => ∃ (k : Nat) (v : Value) (xs : List Value), k ≤ 3 ∧ i = .int .i64 k ∧ Cel wr w2.heap.size [.slice (some ⟨G1, 0, none⟩) ng cp1, v, .slice (some ⟨G2, 0, none⟩) nt cp2, .bool false] 38 ∧ JV w2 v k xs (endW y).adds wr ∧ v.ownBlock ≠ some w2.heap.size) (fun i _ => 3 - (intOf i).toNat)
  case atStart => exact ⟨0, _, [], by omega, rfl, x0, j0, by intro h; cases h⟩
  case round =>
    clear x0 j0
    obtain ⟨k, v, xs, hk, rfl, xr, j, hne⟩ := hrel
    by_cases hlt : k < 3
    · obtain ⟨b, off, rfl, a', c', ca, cc, c0, c1, c2, iC, iD⟩ := HP.out k (by rw [HPL.out]; exact hlt)
      have hfit : fitX 10000000 (y.pots[k]?.getD ([], [], 0)) := HFP.out k hlt
      generalize HG : y.pots[k]?.getD ([], [], 0) = f at *
      have HT : Hid ((endW y).adds[k]?.getD ([], [], 0) = lessX f k) := by
        show _ = _
        rw [show (endW y).adds = (List.range 3).map (fun v => lessX (y.pots[v]?.getD noX) v) from rfl, List.getElem?_map, List.getElem?_range hlt]
        show lessX (y.pots[k]?.getD noX) k = _
        rw [show y.pots[k]?.getD noX = f from HG]
      clear HG
      obtain ⟨fC, fD, fK⟩ := f
      obtain ⟨lC, lD, bC, bD, q1, q2⟩ := hfit
      simp only at c2 iC iD lC lD bC bD q1 q2
      obtain ⟨va, vc, rfl⟩ := j.isSlice
      have keep : ∀ W : World, Below w.heap.size w W → (W.cell? ⟨b, off + k * 3, none⟩ = some (.slice a' 3 ca) ∧ W.cell? ⟨b, off + k * 3 + 1, none⟩ = some (.slice c' 2 cc) ∧ W.cell? ⟨b, off + k * 3 + 2, none⟩ = some (.int .i64 fK)) := fun W hW =>
        ⟨by rw [hW.cell (p := ⟨b, off + k * 3, none⟩) (block_lt c0)]; exact c0, by rw [hW.cell (p := ⟨b, off + k * 3 + 1, none⟩) (block_lt c1)]; exact c1, by rw [hW.cell (p := ⟨b, off + k * 3 + 2, none⟩) (block_lt c2)]; exact c2⟩
      have KP : Hid (∀ W : World, Below w2.heap.size w2 W → _) := fun W hW => keep W (B2.trans (hW.mono B2.size))
      clear keep c0 c1 c2
      have xd : Cel wr.drew w2.heap.size [.slice (some ⟨G1, 0, none⟩) ng cp1, .slice va k vc, .slice (some ⟨G2, 0, none⟩) nt cp2, .bool false] 38 := xr
      have hSS := And.intro (KP.out _ j.b.drew) (xd.cell 1)
      simp only [List.getElem?_cons_zero, List.getElem?_cons_succ] at hSS
      have bw : ∀ W, Below wr.heap.size wr W → Below w.heap.size w W := fun W hW => B2.trans ((j.b.trans (hW.mono j.b.size)).mono B2.size)
      have lx := xr.lt
      have hlt' : (k : Int) < 3 := by omega
      go_upto_region 5 with fail
      refine wp_region_ends (fun w' => w'.cell? ⟨b, off + k * 3, none⟩ = some (.slice a' 3 ca) ∧ w'.cell? ⟨b, off + k * 3 + 1, none⟩ = some (.slice c' 2 cc) ∧ w'.cell? ⟨b, off + k * 3 + 2, none⟩ = some (.int .i64 fK)) (fun w' => w'.cell? ⟨w2.heap.size, 1, none⟩ = some (.slice va k vc)) 11 (by kernel_rfl) ?_
      refine wpAnyE_take0 (i := 0) (v := ?v0) rfl (by kernel_rfl) (by kernel_rfl) (by kernel_rfl) (by decide) (fun _ _ _ h => h) (Or.inl ⟨by rfl, ?hy0⟩) hSS ?_
      case hy0 => (intro wz hSw; (try dsimp only at hSw); go_simp; try (with_reducible rfl))
      refine wpAnyE_take1 (i := 1) (v := ?v1) rfl rfl (by kernel_rfl) (by kernel_rfl) (by kernel_rfl) (by decide) (by rfl) (by simp [Region.binds]) (fun _ _ _ h => h) (Or.inl ⟨by rfl, ?hy1⟩) hSS ?_
      case hy1 => (intro wz hSw; (try dsimp only at hSw); go_simp; try (with_reducible rfl))
      refine wpAnyE_take0 (i := 2) (v := ?v2) rfl (by kernel_rfl) (by kernel_rfl) (by kernel_rfl) (by decide) (fun _ _ _ h => h) (Or.inl ⟨by rfl, ?hy2⟩) hSS ?_
      case hy2 => (intro wz hSw; (try dsimp only at hSw); go_simp; try (with_reducible rfl))
      refine wpAnyE_take0 (i := 3) (v := ?v3) rfl (by kernel_rfl) (by kernel_rfl) (by kernel_rfl) (by decide) (fun _ _ _ h => h) (Or.inl ⟨by rfl, ?hy3⟩) hSS ?_
      case hy3 => (intro wz hSw; (try dsimp only at hSw); go_simp; try (with_reducible rfl))
      refine wpAnyE_take0 (i := 4) (v := ?v4) rfl (by kernel_rfl) (by kernel_rfl) (by kernel_rfl) (by decide) (fun _ _ _ h => h) (Or.inl ⟨by rfl, ?hy4⟩) hSS ?_
      case hy4 => (intro wz hSw; (try dsimp only at hSw); go_simp; try (with_reducible rfl))
      refine wpAnyE_take0 (i := 5) (v := ?v5) rfl (by kernel_rfl) (by kernel_rfl) (by kernel_rfl) (by decide) (fun _ _ _ h => h) (Or.inl ⟨by rfl, ?hy5⟩) hSS ?_
      case hy5 => (intro wz hSw; (try dsimp only at hSw); go_simp; try (with_reducible rfl))
      refine wpAnyE_take0 (i := 6) (v := ?v6) rfl (by kernel_rfl) (by kernel_rfl) (by kernel_rfl) (by decide) (fun _ _ _ h => h) (Or.inl ⟨by rfl, ?hy6⟩) hSS ?_
      case hy6 => (intro wz hSw; (try dsimp only at hSw); go_simp; try (with_reducible rfl))
      refine wpAnyE_one (i := 7) (by kernel_rfl) rfl (fun K hK => ?_)
      go_simp
      refine (spot_any _ _).mono ?_
      rintro ee w3 ⟨za, zn, zcap, zc, zm, zcap', Z1, Z2, rfl, L1, L2, b3, o1, o2, -, -, -⟩
      rw [potC_in (k : Int) k rfl (by omega)] at L1 o1
      rw [potD_in (k : Int) (by omega) (by omega)] at L2 o2
      obtain rfl : zn = 3 := by rw [← L1]; simp
      obtain rfl : zm = 2 := by rw [← L2]; simp
      have z1 := o1.ints
      have z2 := o2.ints
      rw [L1] at z1
      rw [L2] at z2
      have b3' := below_of_drew b3
      have j3 := j.below b3'
      have x3 := xr.below b3'
      have i1 := iC.below (bw _ b3')
      have i2 := iD.below (bw _ b3')
      have hS3 := And.intro (KP.out _ j3.b) (x3.cell 1)
      simp only [List.getElem?_cons_zero, List.getElem?_cons_succ] at hS3
      dsimp only
      refine hK.out _ _ ⟨hS3.1, fun _ => hS3.2⟩ ?_
      have s3 := b3'.size
      clear hK K hSS hS3 j o1 o2 b3 b3' L1 L2 iC iD bw xd xr
      refine wpAnyE_one (i := 8) (by kernel_rfl) rfl (fun K hK => ?_)
      go_simp
      refine (l1sum_any _ _ _ _ _ fC fD _ _ _ _ _ _ _ _ _ i1 i2 z1 z2 (fun i => by have := bC i; omega) (fun i => by have := bD i; omega) (by omega) (pot_bnd hlt) pot_bnd2 (by omega)).mono ?_
      rintro ee w4 ⟨D1, D2, rfl, b4, g1, g3, g4, u1, u2⟩
      have e0 : fK + -1 * (0 : Int) = fK := by omega
      rw [e0]
      have hs3 := j3.b.size
      have j4 := j3.below b4
      have x4 := x3.below b4
      have hS4 := And.intro (KP.out _ j4.b) (x4.cell 1)
      simp only [List.getElem?_cons_zero, List.getElem?_cons_succ] at hS4
      have m1 : (Value.slice va k vc).ownBlock ≠ some D1 := fun e => by have := (j3.own e).2; omega
      have m2 : (Value.slice va k vc).ownBlock ≠ some D2 := fun e => by have := (j3.own e).2; omega
      have s4 := b4.size
      dsimp only
      refine hK.out _ _ ⟨hS4.1, fun _ => hS4.2⟩ ?_
      clear hK K hS4 b4 z1 z2 i1 i2 j3 x3
      refine wpAnyE_one (i := 9) (by kernel_rfl) rfl (fun K hK => ?_)
      go_simp
      have A5 : Below w4.heap.size w4 (w4.alloc (.cells #[.slice (some ⟨D1, 0, none⟩) 3 3, .slice (some ⟨D2, 0, none⟩) 2 2, .int .i64 fK] 32)) := (Below.refl _ _).alloc (Nat.le_refl _) _
      have j5 := j4.below A5
      have x5 := x4.below A5
      have hs5 := j5.b.size
      have v1 := u1.below A5
      have v2 := u2.below A5
      have hS5 := And.intro (KP.out _ j5.b) (x5.cell 1)
      simp only [List.getElem?_cons_zero, List.getElem?_cons_succ] at hS5
      refine hK.out _ _ ⟨hS5.1, fun _ => hS5.2⟩ ?_
      clear hK K hS5 A5 j4 x4 u1 u2
      refine wpAnyE_one (i := 10) (by kernel_rfl) rfl (fun K hK => ?_)
      rw [if_pos (by rfl)]
      refine wp_append_lies _ (.tmp 19) (.tmp 27) 36 rfl w2.heap.size 32 i0 _ 3 56 Try.underlying36 hi hz0 hz1 hz2 rfl (by omega) (.slice va k vc) k xs (by rfl) j5.o ⟨w4.heap.size, 0, none⟩ 1 1 [Value.slice (some ⟨D1, 0, none⟩) 3 3, Value.slice (some ⟨D2, 0, none⟩) 2 2, Value.int .i64 fK] (by rfl) (by rfl) (World.news_of_block (cs := #[Value.slice (some ⟨D1, 0, none⟩) 3 3, Value.slice (some ⟨D2, 0, none⟩) 2 2, Value.int .i64 fK]) (t := 32) (fr := (0, 0)) (heap_alloc_new w4 _)) (by simp [Value.oneCell']) (by omega) (by unfold maxLen; omega) (by omega) hs5 (w4.heap.size + 1) (by rw [World.size_alloc]) ?_
      intro g cp6 w6 hown hgrow hat hlt6
      have j6 := j5.app hown hgrow hat (by rw [World.size_alloc]) (v1.ints' (lin_len lC (by simp))) (v2.ints' (lin_len lD rfl)) m1 m2 (by omega) (by omega) (by rw [HT.out]; show (lin fC _ (-1), lin fD _ (-1), fK + -1 * 0) = _; rw [e0])
      have x6 := x5.grew hgrow hne
      have ne6 : some g ≠ some w2.heap.size := fun e => by
        rcases hat with h | h
        · exact hne (h.trans e)
        · simp only [Option.some.injEq] at e; omega
      have hS6 := And.intro (KP.out _ j6.b) (x6.cell 1)
      simp only [List.getElem?_cons_zero, List.getElem?_cons_succ] at hS6
      refine hK.out _ _ ⟨hS6.1, fun _ => hS6.2⟩ ?_
      have f6 := x6.free 1
      clear hK K hown hgrow hat j5 x5 v1 v2 m1 m2
      refine wpAnyE_one (i := 11) (by kernel_rfl) rfl (fun K hK => ?_)
      go_simp
      refine hK.out _ _ ⟨hS6.1, fun h => absurd (show true = false from h) (by decide)⟩ ?_
      clear hK K
      have T7 : Touch (fun z => z = w2.heap.size) w6 (w6.setCell ⟨w2.heap.size, 1, none⟩ (.slice (some ⟨g, 0, none⟩) (k + 1) cp6)) := Touch.setCell (S := fun z => z = w2.heap.size) (Touch.refl _ _) rfl _
      have j7 := j6.past (Nat.le_refl _) (boxNo x6) ne6 T7
      have x7 := x6.set 1 (.slice (some ⟨g, 0, none⟩) (k + 1) cp6)
      have c61 := hS6.2
      refine wpAnyE_one (i := 12) (by kernel_rfl) rfl (fun K hK => ?_)
      go_simp
      refine hK.out _ _ ⟨KP.out _ j7.b, fun h => absurd (show true = false from h) (by decide)⟩ ?_
      clear hK K
      refine wpAnyE_done (by kernel_rfl) ?_ _
      clear j6 x6 T7 hS6 f6 c61
      go_wp2
      go_roundw
      case rel => exact ⟨k + 1, _, _, by omega, by go_num, x7, j7, ne6⟩
      case measure => simp [intOf]; omega
    · obtain rfl : k = 3 := by omega
      obtain ⟨aa, ac, rfl, hA⟩ := j.foff rfl
      obtain ⟨d0, d1, d2, d3⟩ := xr.four
      have r6 := r2.below j.b
      obtain ⟨e0, e1, e2, e3⟩ := r6.four
      have f0 := r6.free 0
      have f1 := r6.free 1
      have f2 := r6.free 2
      have f3 := r6.free 3
      have bb := B2.trans (j.b.mono B2.size)
      have gA := g2.below j.b
      have tA := t2.below j.b
      go_wp2
      have T6 : Touch (fun z => z = w.heap.size) wr ((((wr.setCell ⟨w.heap.size, 0, none⟩ (.slice (some ⟨G1, 0, none⟩) ng cp1)).setCell ⟨w.heap.size, 1, none⟩ (.slice aa 3 ac)).setCell ⟨w.heap.size, 2, none⟩ (.slice (some ⟨G2, 0, none⟩) nt cp2)).setCell ⟨w.heap.size, 3, none⟩ (.bool false)) :=
        Touch.setCell (Touch.setCell (Touch.setCell (Touch.setCell (S := fun z => z = w.heap.size) (Touch.refl _ _) rfl _) rfl _) rfl _) rfl _
      refine bodyPost_ret (v := .agg #[.slice (some ⟨G1, 0, none⟩) ng cp1, .slice aa 3 ac, .slice (some ⟨G2, 0, none⟩) nt cp2, .bool false]) (by simp [results, Try.results82, go_sem, e0, e1, e2, e3]) rfl ?_
      refine ⟨_, rfl, ?_, some ⟨G1, 0, none⟩, cp1, aa, ac, some ⟨G2, 0, none⟩, cp2, ?_, (gA.touch (T6.mono (fun k hk => by omega))).mono (fun k hk => by omega), (hA.touch (T6.mono (fun k hk => by omega))).mono (fun k hk => by omega), (tA.touch (T6.mono (fun k hk => by omega))).mono (fun k hk => by omega)⟩
      · exact bb.trans (T6.below bb.size (fun k hk => by omega))
      · show _ = Value.agg #[.slice _ y.guards.length _, .slice _ 3 _, .slice _ y.tells.length _, .bool false]
        rw [HGL.out, HTL.out]

end Go.Proofs.Ytngfbcegcekbbaa
