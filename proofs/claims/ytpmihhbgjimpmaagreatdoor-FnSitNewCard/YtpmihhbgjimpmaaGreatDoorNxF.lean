/-
  An act that is drawn: always one that is ok; its lines, and their forms, lie in new memory.
-/
import Derived.Test.YtpmihhbgjimpmaaGreatDoorNxE
namespace Go.Proofs.YtpmihhbgjimpmaaGreatDoor
open Go.RowKit
open Option.some renaming injEq → qA
open Addr.mk renaming injEq → qB
open List renaming length_append → qC, length_cons → qD, length_nil → qE, flatMap_append → qG
open Nat renaming le_refl → qF
set_option linter.unusedVariables false
set_option maxRecDepth 100000
set_option maxHeartbeats 25600000
theorem at_app {W : World} {ls : List LV} {l : LV} (h : ∀ i, i < ls.length -> (ls[i]?.getD noLV).f.At W) (hl : l.f.At W) : ∀ i, i < (ls ++ [l]).length -> ((ls ++ [l])[i]?.getD noLV).f.At W := fun i hi => by
 by_cases h1 : i < ls.length
 ·rw [List.getElem?_append_left h1]; exact h i h1
 have h9 : i = ls.length := by rw [qC] at hi; simp at hi; omega
 subst h9;simpa using hl
theorem act_f (R : Nat) (a : Option Addr) (n cap : Nat) (bs : List Int) (p : Int) {w : World} (rd : Rd w R a n cap bs p) (hp : 0 <= p) (hp1 : p <= 7000000) (ha : 0 < n -> ∀ b o, a = some ⟨b, o, none⟩ -> b < w.heap.size) :
  Calls Tryz.prog 149 #[.pointer (some ⟨R, 0, none⟩)] w fun e w' => ∃ ad N c ls q, e = .returned (.slice ad N c) /\ JL w R a n cap bs q (.slice ad N c) ls w' /\ ls.length = N /\ actB N ls = true /\ p <= q /\ q <= p + 80 := by
 have hRl := rd.c.lt;have TT : Touch (fun x => x = R) w w := Touch.refl _ _
 go_enter Tryz.func149, Tryz.ntmps149
 go_wp2_with fail
 refine (pick_any R a n cap bs (p) 2 rd).mono ?_;rintro e w2 ⟨rv, hv0, hv1, rfl, t5, R5⟩;obtain ⟨v, rfl⟩ := Int.eq_ofNat_of_zero_le hv0;clear hv0;replace TT := TT.trans t5;replace rd := R5;clear t5 R5
 go_wp2_with fail
 refine (pick_any R a n cap bs (p + 1) 8 rd).mono ?_;rintro e w3 ⟨rj, hj0, hj1, rfl, t5, R5⟩;obtain ⟨j, rfl⟩ := Int.eq_ofNat_of_zero_le hj0;clear hj0;replace TT := TT.trans t5;replace rd := R5;clear t5 R5
 rcases (show j = 0 \/ j = 1 \/ j = 2 \/ j = 3 \/ j = 4 \/ j = 5 \/ 6 <= j from by omega) with rfl | rfl | rfl | rfl | rfl | rfl | hj6
 iterate 2
  ·go_wp2_with fail
   have xA := TT.size;refine (num_f (-1) 0 0).mono ?_;rintro e w4 ⟨BA, DA, rfl, b5, f5⟩
   go_wp2_with fail
   refine (with_f BA DA v 1 0 f5).mono ?_;rintro e w5 ⟨rfl, t6, f6⟩;have lo6 := f5.b1;replace b5 := b5.trans (t6.below (B := w3.heap.size) b5.size (fun z hz => by omega));clear f5 t6 lo6;have f5 := f6;clear f6;have yA1 := f5.b1;have yA2 := f5.b2;have GA : FA w5 (some ⟨BA, 0, none⟩) 3 (some ⟨DA, 0, none⟩) 2 (([0, 0, 0]).set v 1, [-1, 0], 0) := ⟨f5.k1.ints' f5.l1, f5.k2.ints' f5.l2, by omega, by omega⟩
   clear f5;replace TT := TT.trans (Touch.of b5);replace rd := rd.below b5;clear b5;have zA1 : w.heap.size <= BA := by omega
   have zA2 : w.heap.size <= DA := by omega
   go_wp2_with fail
   have xE := TT.size;refine (num_f (-1) 0 0).mono ?_;rintro e w6 ⟨BE, DE, rfl, b5, f5⟩;have yE1 := f5.b1;have yE2 := f5.b2;have GE : FA w6 (some ⟨BE, 0, none⟩) 3 (some ⟨DE, 0, none⟩) 2 ([0, 0, 0], [-1, 0], 0) := ⟨f5.k1.ints' f5.l1, f5.k2.ints' f5.l2, by omega, by omega⟩
   clear f5;replace GA := GA.below b5;replace TT := TT.trans (Touch.of b5);replace rd := rd.below b5;clear b5;have zE1 : w.heap.size <= BE := by omega
   have zE2 : w.heap.size <= DE := by omega
   go_wp2_with fail
   have xF := TT.size;refine (num_f 1 0 0).mono ?_;rintro e w7 ⟨BF, DF, rfl, b5, f5⟩;have yF1 := f5.b1;have yF2 := f5.b2;have GF : FA w7 (some ⟨BF, 0, none⟩) 3 (some ⟨DF, 0, none⟩) 2 ([0, 0, 0], [1, 0], 0) := ⟨f5.k1.ints' f5.l1, f5.k2.ints' f5.l2, by omega, by omega⟩
   clear f5;replace GA := GA.below b5;replace GE := GE.below b5;replace TT := TT.trans (Touch.of b5);replace rd := rd.below b5;clear b5;have zF1 : w.heap.size <= BF := by omega
   have zF2 : w.heap.size <= DF := by omega
   go_wp2_with fail
   have xH := TT.size;refine (num_f 1 0 (-9)).mono ?_;rintro e w8 ⟨BH, DH, rfl, b5, f5⟩;have yH1 := f5.b1;have yH2 := f5.b2;have GH : FA w8 (some ⟨BH, 0, none⟩) 3 (some ⟨DH, 0, none⟩) 2 ([0, 0, 0], [1, 0], -9) := ⟨f5.k1.ints' f5.l1, f5.k2.ints' f5.l2, by omega, by omega⟩
   clear f5;replace GA := GA.below b5;replace GE := GE.below b5;replace GF := GF.below b5;replace TT := TT.trans (Touch.of b5);replace rd := rd.below b5;clear b5;have zH1 : w.heap.size <= BH := by omega
   have zH2 : w.heap.size <= DH := by omega
   have tA1 := GA.C.blk (by omega);have tA2 := GA.D.blk (by omega);have tE1 := GE.C.blk (by omega);have tE2 := GE.D.blk (by omega);have tF1 := GF.C.blk (by omega);have tF2 := GF.D.blk (by omega);have tH1 := GH.C.blk (by omega);have tH2 := GH.D.blk (by omega);have hsz := TT.size;have al := (Below.refl w8.heap.size w8).alloc (qF _) (.cells #[.int .i64 1, .int .i64 0, .int .i64 2, .slice (some ⟨BA, 0, none⟩) 3 3, .slice (some ⟨DA, 0, none⟩) 2 2, .int .i64 0, .int .i64 2, .int .i64 (v : Int), .int .i64 0, .slice (some ⟨BE, 0, none⟩) 3 3, .slice (some ⟨DE, 0, none⟩) 2 2, .int .i64 0, .int .i64 3, .int .i64 0, .int .i64 0, .slice (some ⟨BF, 0, none⟩) 3 3, .slice (some ⟨DF, 0, none⟩) 2 2, .int .i64 0, .int .i64 1, .int .i64 0, .int .i64 1, .slice (some ⟨BH, 0, none⟩) 3 3, .slice (some ⟨DH, 0, none⟩) 2 2, .int .i64 (-9), .int .i64 4, .int .i64 0, .int .i64 0, .slice none 0 0, .slice none 0 0, .int .i64 0] 153)
   have o := World.ownsRow_lit (base := w.heap.size) (e := 153) (size := 6) w8 #[.int .i64 1, .int .i64 0, .int .i64 2, .slice (some ⟨BA, 0, none⟩) 3 3, .slice (some ⟨DA, 0, none⟩) 2 2, .int .i64 0, .int .i64 2, .int .i64 (v : Int), .int .i64 0, .slice (some ⟨BE, 0, none⟩) 3 3, .slice (some ⟨DE, 0, none⟩) 2 2, .int .i64 0, .int .i64 3, .int .i64 0, .int .i64 0, .slice (some ⟨BF, 0, none⟩) 3 3, .slice (some ⟨DF, 0, none⟩) 2 2, .int .i64 0, .int .i64 1, .int .i64 0, .int .i64 1, .slice (some ⟨BH, 0, none⟩) 3 3, .slice (some ⟨DH, 0, none⟩) 2 2, .int .i64 (-9), .int .i64 4, .int .i64 0, .int .i64 0, .slice none 0 0, .slice none 0 0, .int .i64 0] 5 hsz (by unfold maxLen; omega) rfl;have hws := al.size;replace GA := GA.below al;replace GE := GE.below al;replace GF := GF.below al;replace GH := GH.below al;replace TT := TT.trans (Touch.of al);replace rd := rd.below al;clear al
   go_wp2
   go_ret
   refine ⟨_, 5, 5, [⟨1, 0, 2, ⟨some ⟨BA, 0, none⟩, 3, 3, some ⟨DA, 0, none⟩, 2, 2, 0, ([0, 0, 0]).set v 1, [-1, 0]⟩⟩, ⟨2, (v : Int), 0, ⟨some ⟨BE, 0, none⟩, 3, 3, some ⟨DE, 0, none⟩, 2, 2, 0, [0, 0, 0], [-1, 0]⟩⟩, ⟨3, 0, 0, ⟨some ⟨BF, 0, none⟩, 3, 3, some ⟨DF, 0, none⟩, 2, 2, 0, [0, 0, 0], [1, 0]⟩⟩, ⟨1, 0, 1, ⟨some ⟨BH, 0, none⟩, 3, 3, some ⟨DH, 0, none⟩, 2, 2, (-9), [0, 0, 0], [1, 0]⟩⟩, ⟨4, 0, 0, noFV⟩], _, rfl, ⟨TT, rd, o, fun i hi => ?_, fun i hi b o e => ?_, fun i hi b o e => ?_, hRl, ha⟩, rfl, by rcases v with _ | _ | v; rfl; rfl; omega, by omega, by omega⟩
   ·rcases i with _ | _ | _ | _ | _ | i
    ·exact ⟨GA.C, GA.D, show 3 <= 1048576 by omega, show 2 <= 1048576 by omega⟩
    ·exact ⟨GE.C, GE.D, show 3 <= 1048576 by omega, show 2 <= 1048576 by omega⟩
    ·exact ⟨GF.C, GF.D, show 3 <= 1048576 by omega, show 2 <= 1048576 by omega⟩
    ·exact ⟨GH.C, GH.D, show 3 <= 1048576 by omega, show 2 <= 1048576 by omega⟩
    ·exact ⟨⟨rfl, fun i hi => absurd hi (Nat.not_lt_zero _)⟩, ⟨rfl, fun i hi => absurd hi (Nat.not_lt_zero _)⟩, Nat.zero_le _, Nat.zero_le _⟩
    simp only [qD, qE] at hi; omega
   ·rcases i with _ | _ | _ | _ | _ | i
    ·have e9 : (some ⟨BA, 0, none⟩ : Option Addr) = some ⟨b, o, none⟩ := e; simp only [qA, qB] at e9; exact ⟨by omega, by omega, by simp only [Value.ownBlock, ne_eq, qA]; omega⟩
    ·have e9 : (some ⟨BE, 0, none⟩ : Option Addr) = some ⟨b, o, none⟩ := e; simp only [qA, qB] at e9; exact ⟨by omega, by omega, by simp only [Value.ownBlock, ne_eq, qA]; omega⟩
    ·have e9 : (some ⟨BF, 0, none⟩ : Option Addr) = some ⟨b, o, none⟩ := e; simp only [qA, qB] at e9; exact ⟨by omega, by omega, by simp only [Value.ownBlock, ne_eq, qA]; omega⟩
    ·have e9 : (some ⟨BH, 0, none⟩ : Option Addr) = some ⟨b, o, none⟩ := e; simp only [qA, qB] at e9; exact ⟨by omega, by omega, by simp only [Value.ownBlock, ne_eq, qA]; omega⟩
    ·cases e
    simp only [qD, qE] at hi; omega
   rcases i with _ | _ | _ | _ | _ | i
   ·have e9 : (some ⟨DA, 0, none⟩ : Option Addr) = some ⟨b, o, none⟩ := e; simp only [qA, qB] at e9; exact ⟨by omega, by omega, by simp only [Value.ownBlock, ne_eq, qA]; omega⟩
   ·have e9 : (some ⟨DE, 0, none⟩ : Option Addr) = some ⟨b, o, none⟩ := e; simp only [qA, qB] at e9; exact ⟨by omega, by omega, by simp only [Value.ownBlock, ne_eq, qA]; omega⟩
   ·have e9 : (some ⟨DF, 0, none⟩ : Option Addr) = some ⟨b, o, none⟩ := e; simp only [qA, qB] at e9; exact ⟨by omega, by omega, by simp only [Value.ownBlock, ne_eq, qA]; omega⟩
   ·have e9 : (some ⟨DH, 0, none⟩ : Option Addr) = some ⟨b, o, none⟩ := e; simp only [qA, qB] at e9; exact ⟨by omega, by omega, by simp only [Value.ownBlock, ne_eq, qA]; omega⟩
   ·cases e
   simp only [qD, qE] at hi; omega
 ·go_wp2_with fail
  have xA := TT.size;refine (num_f 1 0 0).mono ?_;rintro e w4 ⟨BA, DA, rfl, b5, f5⟩;have yA1 := f5.b1;have yA2 := f5.b2;have GA : FA w4 (some ⟨BA, 0, none⟩) 3 (some ⟨DA, 0, none⟩) 2 ([0, 0, 0], [1, 0], 0) := ⟨f5.k1.ints' f5.l1, f5.k2.ints' f5.l2, by omega, by omega⟩
  clear f5;replace TT := TT.trans (Touch.of b5);replace rd := rd.below b5;clear b5;have zA1 : w.heap.size <= BA := by omega
  have zA2 : w.heap.size <= DA := by omega
  have tA1 := GA.C.blk (by omega);have tA2 := GA.D.blk (by omega);have hsz := TT.size;have al := (Below.refl w4.heap.size w4).alloc (qF _) (.cells #[.int .i64 2, .int .i64 (v : Int), .int .i64 0, .slice (some ⟨BA, 0, none⟩) 3 3, .slice (some ⟨DA, 0, none⟩) 2 2, .int .i64 0] 153);have o := World.ownsRow_lit (base := w.heap.size) (e := 153) (size := 6) w4 #[.int .i64 2, .int .i64 (v : Int), .int .i64 0, .slice (some ⟨BA, 0, none⟩) 3 3, .slice (some ⟨DA, 0, none⟩) 2 2, .int .i64 0] 1 hsz (by unfold maxLen; omega) rfl;have hws := al.size;replace GA := GA.below al;replace TT := TT.trans (Touch.of al);replace rd := rd.below al;clear al
  go_wp2
  go_ret
  refine ⟨_, 1, 1, [⟨2, (v : Int), 0, ⟨some ⟨BA, 0, none⟩, 3, 3, some ⟨DA, 0, none⟩, 2, 2, 0, [0, 0, 0], [1, 0]⟩⟩], _, rfl, ⟨TT, rd, o, fun i hi => ?_, fun i hi b o e => ?_, fun i hi b o e => ?_, hRl, ha⟩, rfl, by rcases v with _ | _ | v; rfl; rfl; omega, by omega, by omega⟩
  ·rcases i with _ | i
   ·exact ⟨GA.C, GA.D, show 3 <= 1048576 by omega, show 2 <= 1048576 by omega⟩
   simp only [qD, qE] at hi; omega
  ·rcases i with _ | i
   ·have e9 : (some ⟨BA, 0, none⟩ : Option Addr) = some ⟨b, o, none⟩ := e; simp only [qA, qB] at e9; exact ⟨by omega, by omega, by simp only [Value.ownBlock, ne_eq, qA]; omega⟩
   simp only [qD, qE] at hi; omega
  rcases i with _ | i
  ·have e9 : (some ⟨DA, 0, none⟩ : Option Addr) = some ⟨b, o, none⟩ := e; simp only [qA, qB] at e9; exact ⟨by omega, by omega, by simp only [Value.ownBlock, ne_eq, qA]; omega⟩
  simp only [qD, qE] at hi; omega
 ·go_wp2_with fail
  have xA := TT.size;refine (num_f (-1) 0 0).mono ?_;rintro e w4 ⟨BA, DA, rfl, b5, f5⟩
  go_wp2_with fail
  refine (with_f BA DA v 1 0 f5).mono ?_;rintro e w5 ⟨rfl, t6, f6⟩;have lo6 := f5.b1;replace b5 := b5.trans (t6.below (B := w3.heap.size) b5.size (fun z hz => by omega));clear f5 t6 lo6;have f5 := f6;clear f6;have yA1 := f5.b1;have yA2 := f5.b2;have GA : FA w5 (some ⟨BA, 0, none⟩) 3 (some ⟨DA, 0, none⟩) 2 (([0, 0, 0]).set v 1, [-1, 0], 0) := ⟨f5.k1.ints' f5.l1, f5.k2.ints' f5.l2, by omega, by omega⟩
  clear f5;replace TT := TT.trans (Touch.of b5);replace rd := rd.below b5;clear b5;have zA1 : w.heap.size <= BA := by omega
  have zA2 : w.heap.size <= DA := by omega
  go_wp2_with fail
  have xE := TT.size;refine (num_f (-1) 0 0).mono ?_;rintro e w6 ⟨BE, DE, rfl, b5, f5⟩;have yE1 := f5.b1;have yE2 := f5.b2;have GE : FA w6 (some ⟨BE, 0, none⟩) 3 (some ⟨DE, 0, none⟩) 2 ([0, 0, 0], [-1, 0], 0) := ⟨f5.k1.ints' f5.l1, f5.k2.ints' f5.l2, by omega, by omega⟩
  clear f5;replace GA := GA.below b5;replace TT := TT.trans (Touch.of b5);replace rd := rd.below b5;clear b5;have zE1 : w.heap.size <= BE := by omega
  have zE2 : w.heap.size <= DE := by omega
  go_wp2_with fail
  have xF := TT.size;refine (num_f 1 0 0).mono ?_;rintro e w7 ⟨BF, DF, rfl, b5, f5⟩;have yF1 := f5.b1;have yF2 := f5.b2;have GF : FA w7 (some ⟨BF, 0, none⟩) 3 (some ⟨DF, 0, none⟩) 2 ([0, 0, 0], [1, 0], 0) := ⟨f5.k1.ints' f5.l1, f5.k2.ints' f5.l2, by omega, by omega⟩
  clear f5;replace GA := GA.below b5;replace GE := GE.below b5;replace TT := TT.trans (Touch.of b5);replace rd := rd.below b5;clear b5;have zF1 : w.heap.size <= BF := by omega
  have zF2 : w.heap.size <= DF := by omega
  have tA1 := GA.C.blk (by omega);have tA2 := GA.D.blk (by omega);have tE1 := GE.C.blk (by omega);have tE2 := GE.D.blk (by omega);have tF1 := GF.C.blk (by omega);have tF2 := GF.D.blk (by omega);have hsz := TT.size;have al := (Below.refl w7.heap.size w7).alloc (qF _) (.cells #[.int .i64 1, .int .i64 0, .int .i64 2, .slice (some ⟨BA, 0, none⟩) 3 3, .slice (some ⟨DA, 0, none⟩) 2 2, .int .i64 0, .int .i64 2, .int .i64 (v : Int), .int .i64 0, .slice (some ⟨BE, 0, none⟩) 3 3, .slice (some ⟨DE, 0, none⟩) 2 2, .int .i64 0, .int .i64 2, .int .i64 (1 - (v : Int)), .int .i64 0, .slice (some ⟨BF, 0, none⟩) 3 3, .slice (some ⟨DF, 0, none⟩) 2 2, .int .i64 0] 153);have o := World.ownsRow_lit (base := w.heap.size) (e := 153) (size := 6) w7 #[.int .i64 1, .int .i64 0, .int .i64 2, .slice (some ⟨BA, 0, none⟩) 3 3, .slice (some ⟨DA, 0, none⟩) 2 2, .int .i64 0, .int .i64 2, .int .i64 (v : Int), .int .i64 0, .slice (some ⟨BE, 0, none⟩) 3 3, .slice (some ⟨DE, 0, none⟩) 2 2, .int .i64 0, .int .i64 2, .int .i64 (1 - (v : Int)), .int .i64 0, .slice (some ⟨BF, 0, none⟩) 3 3, .slice (some ⟨DF, 0, none⟩) 2 2, .int .i64 0] 3 hsz (by unfold maxLen; omega) rfl;have hws := al.size;replace GA := GA.below al;replace GE := GE.below al;replace GF := GF.below al;replace TT := TT.trans (Touch.of al);replace rd := rd.below al;clear al
  go_wp2
  go_ret
  refine ⟨_, 3, 3, [⟨1, 0, 2, ⟨some ⟨BA, 0, none⟩, 3, 3, some ⟨DA, 0, none⟩, 2, 2, 0, ([0, 0, 0]).set v 1, [-1, 0]⟩⟩, ⟨2, (v : Int), 0, ⟨some ⟨BE, 0, none⟩, 3, 3, some ⟨DE, 0, none⟩, 2, 2, 0, [0, 0, 0], [-1, 0]⟩⟩, ⟨2, (1 - (v : Int)), 0, ⟨some ⟨BF, 0, none⟩, 3, 3, some ⟨DF, 0, none⟩, 2, 2, 0, [0, 0, 0], [1, 0]⟩⟩], _, rfl, ⟨TT, rd, o, fun i hi => ?_, fun i hi b o e => ?_, fun i hi b o e => ?_, hRl, ha⟩, rfl, by rcases v with _ | _ | v; rfl; rfl; omega, by omega, by omega⟩
  ·rcases i with _ | _ | _ | i
   ·exact ⟨GA.C, GA.D, show 3 <= 1048576 by omega, show 2 <= 1048576 by omega⟩
   ·exact ⟨GE.C, GE.D, show 3 <= 1048576 by omega, show 2 <= 1048576 by omega⟩
   ·exact ⟨GF.C, GF.D, show 3 <= 1048576 by omega, show 2 <= 1048576 by omega⟩
   simp only [qD, qE] at hi; omega
  ·rcases i with _ | _ | _ | i
   ·have e9 : (some ⟨BA, 0, none⟩ : Option Addr) = some ⟨b, o, none⟩ := e; simp only [qA, qB] at e9; exact ⟨by omega, by omega, by simp only [Value.ownBlock, ne_eq, qA]; omega⟩
   ·have e9 : (some ⟨BE, 0, none⟩ : Option Addr) = some ⟨b, o, none⟩ := e; simp only [qA, qB] at e9; exact ⟨by omega, by omega, by simp only [Value.ownBlock, ne_eq, qA]; omega⟩
   ·have e9 : (some ⟨BF, 0, none⟩ : Option Addr) = some ⟨b, o, none⟩ := e; simp only [qA, qB] at e9; exact ⟨by omega, by omega, by simp only [Value.ownBlock, ne_eq, qA]; omega⟩
   simp only [qD, qE] at hi; omega
  rcases i with _ | _ | _ | i
  ·have e9 : (some ⟨DA, 0, none⟩ : Option Addr) = some ⟨b, o, none⟩ := e; simp only [qA, qB] at e9; exact ⟨by omega, by omega, by simp only [Value.ownBlock, ne_eq, qA]; omega⟩
  ·have e9 : (some ⟨DE, 0, none⟩ : Option Addr) = some ⟨b, o, none⟩ := e; simp only [qA, qB] at e9; exact ⟨by omega, by omega, by simp only [Value.ownBlock, ne_eq, qA]; omega⟩
  ·have e9 : (some ⟨DF, 0, none⟩ : Option Addr) = some ⟨b, o, none⟩ := e; simp only [qA, qB] at e9; exact ⟨by omega, by omega, by simp only [Value.ownBlock, ne_eq, qA]; omega⟩
  simp only [qD, qE] at hi; omega
 ·go_wp2_with fail
  have xA := TT.size;refine (num_f 0 0 0).mono ?_;rintro e w4 ⟨BA, DA, rfl, b5, f5⟩
  go_wp2_with fail
  refine (with_f BA DA 2 1 0 f5).mono ?_;rintro e w5 ⟨rfl, t6, f6⟩;have lo6 := f5.b1;replace b5 := b5.trans (t6.below (B := w3.heap.size) b5.size (fun z hz => by omega));clear f5 t6 lo6;have f5 := f6;clear f6;have yA1 := f5.b1;have yA2 := f5.b2;have GA : FA w5 (some ⟨BA, 0, none⟩) 3 (some ⟨DA, 0, none⟩) 2 (([0, 0, 0]).set 2 1, [0, 0], 0) := ⟨f5.k1.ints' f5.l1, f5.k2.ints' f5.l2, by omega, by omega⟩
  clear f5;replace TT := TT.trans (Touch.of b5);replace rd := rd.below b5;clear b5;have zA1 : w.heap.size <= BA := by omega
  have zA2 : w.heap.size <= DA := by omega
  have tA1 := GA.C.blk (by omega);have tA2 := GA.D.blk (by omega);have hsz := TT.size;have al := (Below.refl w5.heap.size w5).alloc (qF _) (.cells #[.int .i64 3, .int .i64 0, .int .i64 0, .slice (some ⟨BA, 0, none⟩) 3 3, .slice (some ⟨DA, 0, none⟩) 2 2, .int .i64 0] 153);have o := World.ownsRow_lit (base := w.heap.size) (e := 153) (size := 6) w5 #[.int .i64 3, .int .i64 0, .int .i64 0, .slice (some ⟨BA, 0, none⟩) 3 3, .slice (some ⟨DA, 0, none⟩) 2 2, .int .i64 0] 1 hsz (by unfold maxLen; omega) rfl;have hws := al.size;replace GA := GA.below al;replace TT := TT.trans (Touch.of al);replace rd := rd.below al;clear al
  go_wp2
  go_ret
  refine ⟨_, 1, 1, [⟨3, 0, 0, ⟨some ⟨BA, 0, none⟩, 3, 3, some ⟨DA, 0, none⟩, 2, 2, 0, ([0, 0, 0]).set 2 1, [0, 0]⟩⟩], _, rfl, ⟨TT, rd, o, fun i hi => ?_, fun i hi b o e => ?_, fun i hi b o e => ?_, hRl, ha⟩, rfl, rfl, by omega, by omega⟩
  ·rcases i with _ | i
   ·exact ⟨GA.C, GA.D, show 3 <= 1048576 by omega, show 2 <= 1048576 by omega⟩
   simp only [qD, qE] at hi; omega
  ·rcases i with _ | i
   ·have e9 : (some ⟨BA, 0, none⟩ : Option Addr) = some ⟨b, o, none⟩ := e; simp only [qA, qB] at e9; exact ⟨by omega, by omega, by simp only [Value.ownBlock, ne_eq, qA]; omega⟩
   simp only [qD, qE] at hi; omega
  rcases i with _ | i
  ·have e9 : (some ⟨DA, 0, none⟩ : Option Addr) = some ⟨b, o, none⟩ := e; simp only [qA, qB] at e9; exact ⟨by omega, by omega, by simp only [Value.ownBlock, ne_eq, qA]; omega⟩
  simp only [qD, qE] at hi; omega
 ·go_wp2_with fail
  have xA := TT.size;refine (num_f 0 1 5).mono ?_;rintro e w4 ⟨BA, DA, rfl, b5, f5⟩
  go_wp2_with fail
  refine (with_f BA DA 0 1 5 f5).mono ?_;rintro e w5 ⟨rfl, t6, f6⟩;have lo6 := f5.b1;replace b5 := b5.trans (t6.below (B := w3.heap.size) b5.size (fun z hz => by omega));clear f5 t6 lo6;have f5 := f6;clear f6
  go_wp2_with fail
  refine (with_f BA DA 1 (-1) 5 f5).mono ?_;rintro e w6 ⟨rfl, t6, f6⟩;have lo6 := f5.b1;replace b5 := b5.trans (t6.below (B := w3.heap.size) b5.size (fun z hz => by omega));clear f5 t6 lo6;have f5 := f6;clear f6;have yA1 := f5.b1;have yA2 := f5.b2;have GA : FA w6 (some ⟨BA, 0, none⟩) 3 (some ⟨DA, 0, none⟩) 2 ((([0, 0, 0]).set 0 1).set 1 (-1), [0, 1], 5) := ⟨f5.k1.ints' f5.l1, f5.k2.ints' f5.l2, by omega, by omega⟩
  clear f5;replace TT := TT.trans (Touch.of b5);replace rd := rd.below b5;clear b5;have zA1 : w.heap.size <= BA := by omega
  have zA2 : w.heap.size <= DA := by omega
  go_wp2_with fail
  have xE := TT.size;refine (num_f 0 0 1).mono ?_;rintro e w7 ⟨BE, DE, rfl, b5, f5⟩;have yE1 := f5.b1;have yE2 := f5.b2;have GE : FA w7 (some ⟨BE, 0, none⟩) 3 (some ⟨DE, 0, none⟩) 2 ([0, 0, 0], [0, 0], 1) := ⟨f5.k1.ints' f5.l1, f5.k2.ints' f5.l2, by omega, by omega⟩
  clear f5;replace GA := GA.below b5;replace TT := TT.trans (Touch.of b5);replace rd := rd.below b5;clear b5;have zE1 : w.heap.size <= BE := by omega
  have zE2 : w.heap.size <= DE := by omega
  have tA1 := GA.C.blk (by omega);have tA2 := GA.D.blk (by omega);have tE1 := GE.C.blk (by omega);have tE2 := GE.D.blk (by omega);have hsz := TT.size;have al := (Below.refl w7.heap.size w7).alloc (qF _) (.cells #[.int .i64 1, .int .i64 0, .int .i64 1, .slice (some ⟨BA, 0, none⟩) 3 3, .slice (some ⟨DA, 0, none⟩) 2 2, .int .i64 5, .int .i64 2, .int .i64 2, .int .i64 0, .slice (some ⟨BE, 0, none⟩) 3 3, .slice (some ⟨DE, 0, none⟩) 2 2, .int .i64 1] 153);have o := World.ownsRow_lit (base := w.heap.size) (e := 153) (size := 6) w7 #[.int .i64 1, .int .i64 0, .int .i64 1, .slice (some ⟨BA, 0, none⟩) 3 3, .slice (some ⟨DA, 0, none⟩) 2 2, .int .i64 5, .int .i64 2, .int .i64 2, .int .i64 0, .slice (some ⟨BE, 0, none⟩) 3 3, .slice (some ⟨DE, 0, none⟩) 2 2, .int .i64 1] 2 hsz (by unfold maxLen; omega) rfl;have hws := al.size;replace GA := GA.below al;replace GE := GE.below al;replace TT := TT.trans (Touch.of al);replace rd := rd.below al;clear al
  go_wp2
  go_ret
  refine ⟨_, 2, 2, [⟨1, 0, 1, ⟨some ⟨BA, 0, none⟩, 3, 3, some ⟨DA, 0, none⟩, 2, 2, 5, (([0, 0, 0]).set 0 1).set 1 (-1), [0, 1]⟩⟩, ⟨2, 2, 0, ⟨some ⟨BE, 0, none⟩, 3, 3, some ⟨DE, 0, none⟩, 2, 2, 1, [0, 0, 0], [0, 0]⟩⟩], _, rfl, ⟨TT, rd, o, fun i hi => ?_, fun i hi b o e => ?_, fun i hi b o e => ?_, hRl, ha⟩, rfl, rfl, by omega, by omega⟩
  ·rcases i with _ | _ | i
   ·exact ⟨GA.C, GA.D, show 3 <= 1048576 by omega, show 2 <= 1048576 by omega⟩
   ·exact ⟨GE.C, GE.D, show 3 <= 1048576 by omega, show 2 <= 1048576 by omega⟩
   simp only [qD, qE] at hi; omega
  ·rcases i with _ | _ | i
   ·have e9 : (some ⟨BA, 0, none⟩ : Option Addr) = some ⟨b, o, none⟩ := e; simp only [qA, qB] at e9; exact ⟨by omega, by omega, by simp only [Value.ownBlock, ne_eq, qA]; omega⟩
   ·have e9 : (some ⟨BE, 0, none⟩ : Option Addr) = some ⟨b, o, none⟩ := e; simp only [qA, qB] at e9; exact ⟨by omega, by omega, by simp only [Value.ownBlock, ne_eq, qA]; omega⟩
   simp only [qD, qE] at hi; omega
  rcases i with _ | _ | i
  ·have e9 : (some ⟨DA, 0, none⟩ : Option Addr) = some ⟨b, o, none⟩ := e; simp only [qA, qB] at e9; exact ⟨by omega, by omega, by simp only [Value.ownBlock, ne_eq, qA]; omega⟩
  ·have e9 : (some ⟨DE, 0, none⟩ : Option Addr) = some ⟨b, o, none⟩ := e; simp only [qA, qB] at e9; exact ⟨by omega, by omega, by simp only [Value.ownBlock, ne_eq, qA]; omega⟩
  simp only [qD, qE] at hi; omega
 have h1 : ¬ j = 0 := by omega
 have h2 : ¬ j = 1 := by omega
 have h3 : ¬ j = 2 := by omega
 have h4 : ¬ j = 3 := by omega
 have h5 : ¬ j = 4 := by omega
 have h6 : ¬ j = 5 := by omega
 have e0 : ((j : Int) == 0) = false := by simp; omega
 have e1 : ((j : Int) == 1) = false := by simp; omega
 have e2 : ((j : Int) == 2) = false := by simp; omega
 have e3 : ((j : Int) == 3) = false := by simp; omega
 have e4 : ((j : Int) == 4) = false := by simp; omega
 have e5 : ((j : Int) == 5) = false := by simp; omega
 clear h1 h2 h3 h4 h5 h6;have hsz := TT.size;have al := (Below.refl w3.heap.size w3).alloc (qF _) (.cells #[] 153);have o0 := World.ownsRow_lit (base := w.heap.size) (e := 153) (size := 6) w3 #[] 0 hsz (by unfold maxLen; omega) rfl;replace TT := TT.trans (Touch.of al);replace rd := rd.below al;clear al;have j0 : JL w R a n cap bs (p + 1 + 1) (.slice (some ⟨w3.heap.size, 0, none⟩) 0 0) [] (w3.alloc (.cells #[] 153)) := ⟨TT, rd, o0, fun i hi => by simp at hi, fun i hi => by simp at hi, fun i hi => by simp at hi, hRl, ha⟩
 clear o0 TT rd
 go_wp2_with fail
 refine (pick_any R a n cap bs (p + 1 + 1) 5 j0.r).mono ?_;rintro e wS ⟨rk, k0, k1, rfl, t5, R5⟩;obtain ⟨rk, rfl⟩ := Int.eq_ofNat_of_zero_le k0;replace j0 := j0.pick t5 R5;clear t5 R5 k0 hsz hj6;obtain ⟨i0, hi, hz0, hz1, hz2⟩ := info_parts Tryz.infoLn
 go_wp2_with fail
 go_loopw [4, 5] (fun v i wr => ∃ (l : Nat) (ls : List LV) (q : Int), i = .int .i64 l /\ ls.length + l <= 5 /\ JL w R a n cap bs q v ls wr /\ actB ls.length ls = true /\ p <= q /\ q + 12 * l <= p + 70) (fun _ i _ => (intOf i).toNat)
 case atStart => exact ⟨rk + 1, [], _, by go_num, by simp; omega, j0, rfl, by omega, by omega⟩
 case round =>
  clear j0;obtain ⟨m, ls, q, rfl, hlm, j, hact, hq0, hq1⟩ := hrel
  by_cases hm : 0 < m
  ·have hm' : (0 : Int) < (m : Int) := by omega
   obtain ⟨k, hk⟩ : ∃ k, k = ls.length := ⟨_, rfl⟩
   have HK : Hid (ls.length = k) := hk.symm;have hlm' : k + m <= 5 := by omega
   obtain ⟨vad, vcap, rfl⟩ := own_slice j.o;rw [<- hk] at j;rw [<- hk];clear hk hlm;have hvb := fun x hx => ((j.o.lt x hx).2 : x < wr.heap.size)
   have HAct : Hid (actB ls.length ls = true) := hact;clear hact
   go_wp2_with fail
   refine (line_f R a n cap bs q j.r (by omega) (by omega) j.r.ha).mono ?_;rintro e w5 ⟨l, q5, rfl, d5⟩;have hszL := j.t.size;replace j := j.pick d5.t d5.r;have hl := d5.at';have la := d5.la;have lc := d5.lc;have v0 := d5.q0;have v1 := d5.q1;have hs5 := d5.t.size;clear d5;have al := (Below.refl w5.heap.size w5).alloc (qF _) (.cells #[.int .i64 l.kind, .int .i64 l.pot, .int .i64 l.skip, .slice l.f.a l.f.n l.f.cap, .slice l.f.c l.f.m l.f.cap', .int .i64 l.f.K] 153);have qb := Cel.new w5 [.int .i64 l.kind, .int .i64 l.pot, .int .i64 l.skip, .slice l.f.a l.f.n l.f.cap, .slice l.f.c l.f.m l.f.cap', .int .i64 l.f.K] 153;replace j := j.below al;replace hl := hl.below al;have hs6 := al.size;clear al
   go_upto_region 19 with fail
   generalize w5.alloc (.cells #[.int .i64 l.kind, .int .i64 l.pot, .int .i64 l.skip, .slice l.f.a l.f.n l.f.cap, .slice l.f.c l.f.m l.f.cap', .int .i64 l.f.K] 153) = W6 at j qb hl hs6 ⊢;generalize w5.heap.size = XB at qb ⊢
   go_cut [78] (fun b wx => b = .bool (actB (k + 1) (ls ++ [l])) /\ Below W6.heap.size W6 wx)
   case first =>
    refine wp_region_ends (fun X => X.cell? ⟨XB, 0, none⟩ = some (.int .i64 l.kind) /\ X.cell? ⟨XB, 1, none⟩ = some (.int .i64 l.pot) /\ X.cell? ⟨XB, 2, none⟩ = some (.int .i64 l.skip) /\ X.cell? ⟨XB, 3, none⟩ = some (.slice l.f.a l.f.n l.f.cap) /\ X.cell? ⟨XB, 4, none⟩ = some (.slice l.f.c l.f.m l.f.cap') /\ X.cell? ⟨XB, 5, none⟩ = some (.int .i64 l.f.K)) (fun _ => True) 7 (by kernel_rfl) ?_;have HV : Below W6.heap.size W6 W6.drew := (Below.refl _ _).drew;replace j := j.below HV;replace qb := qb.below HV;replace hl := hl.below HV;obtain ⟨V0, hV0⟩ : ∃ V, V = W6.drew := ⟨_, rfl⟩
    rw [<- hV0];have hVW : Below W6.heap.size W6 V0 := by rw [hV0]; exact HV
    rw [<- hV0] at j qb hl;clear hV0 HV;have HV := Below.refl V0.heap.size V0;obtain ⟨Z0, hZ0⟩ : ∃ z, z = V0.heap.size := ⟨_, rfl⟩
    have HZ : Hid (Z0 = V0.heap.size) := hZ0;clear hZ0;have ATS : Hid (∀ i, i < (ls ++ [l]).length -> ((ls ++ [l])[i]?.getD noLV).f.At V0) := fun i hi => at_app j.at' hl i hi;have KP : Hid (∀ X, Below V0.heap.size V0 X -> X.cell? ⟨XB, 0, none⟩ = some (.int .i64 l.kind) /\ X.cell? ⟨XB, 1, none⟩ = some (.int .i64 l.pot) /\ X.cell? ⟨XB, 2, none⟩ = some (.int .i64 l.skip) /\ X.cell? ⟨XB, 3, none⟩ = some (.slice l.f.a l.f.n l.f.cap) /\ X.cell? ⟨XB, 4, none⟩ = some (.slice l.f.c l.f.m l.f.cap') /\ X.cell? ⟨XB, 5, none⟩ = some (.int .i64 l.f.K)) := fun X hX => by have h := qb.below hX; exact ⟨h.cell 0, h.cell 1, h.cell 2, h.cell 3, h.cell 4, h.cell 5⟩
    have hSS := And.intro (KP.out V0 HV) True.intro;refine tkl 1 rfl hSS ?_;refine tkl 3 rfl hSS ?_;clear hSS;refine wpAnyE_two (i := 0) (j := 4) (by kernel_rfl) rfl rfl (fun Kn hK => ?_) (fun Kn hK => ?_)
    ·go_simp;have al := (Below.refl V0.heap.size V0).alloc (qF _) (.cells #[] 153);have hsz := HV.size;have o0 := World.ownsRow_lit (base := Z0) (e := 153) (size := 6) V0 #[] 0 (by rw [HZ.out]; exact hsz) (by unfold maxLen; omega) rfl;replace HV := HV.trans (al.mono hsz);clear al;generalize V0.alloc (.cells #[] 153) = Y1 at HV o0 ⊢;obtain ⟨L0, hL0⟩ : ∃ x, x = V0.heap.size := ⟨_, rfl⟩
     rw [<- hL0];rw [<- hL0] at o0;clear hL0 hsz;have ltL0 : L0 < Y1.heap.size := (o0.lt L0 rfl).2;refine kk0 hK (KP.out _ HV) ?_;clear hK;refine wpAnyE_two (i := 2) (j := 4) (by kernel_rfl) rfl rfl (fun Kn hK => ?_) (fun Kn hK => ?_)
     ·rw [if_pos (by rfl)];refine wp_copyL (.tmp 72) (.tmp 73) rfl Z0 w.heap.size L0 k vad vcap ls (by rfl) o0 (by rfl) (by have h := (j.below HV).o; rw [HK.out] at h; exact h) HK.out (by omega) (by rw [HZ.out]; exact HV.size) ?_;intro v2 Y2 b2 t2 o2 _;rw [HZ.out] at b2;replace HV := HV.trans b2;clear b2 t2 o0 ltL0;refine kk0 hK (KP.out _ HV) ?_;clear hK;refine wpAnyE_one (i := 4) (by kernel_rfl) rfl (fun Kn hK => ?_);go_simp;have al := (Below.refl Y2.heap.size Y2).alloc (qF _) (.cells #[.int .i64 l.kind, .int .i64 l.pot, .int .i64 l.skip, .slice l.f.a l.f.n l.f.cap, .slice l.f.c l.f.m l.f.cap', .int .i64 l.f.K] 153);have hsz := HV.size;have c4 := Cel.new Y2 [.int .i64 l.kind, .int .i64 l.pot, .int .i64 l.skip, .slice l.f.a l.f.n l.f.cap, .slice l.f.c l.f.m l.f.cap', .int .i64 l.f.K] 153;replace o2 := own_belowL o2 al;replace HV := HV.trans (al.mono hsz);clear al;generalize Y2.alloc (.cells #[.int .i64 l.kind, .int .i64 l.pot, .int .i64 l.skip, .slice l.f.a l.f.n l.f.cap, .slice l.f.c l.f.m l.f.cap', .int .i64 l.f.K] 153) = Y3 at HV c4 o2 ⊢;obtain ⟨L4, hL4⟩ : ∃ x, x = Y2.heap.size := ⟨_, rfl⟩
      rw [<- hL4];rw [<- hL4] at c4;clear hL4 hsz;have lt4 := c4.lt;refine kk0 hK (KP.out _ HV) ?_;clear hK;refine wpAnyE_one (i := 5) (by kernel_rfl) rfl (fun Kn hK => ?_);rw [if_pos (by rfl)];obtain ⟨a2, cp2, rfl⟩ := own_slice o2;refine wp_append_lies _ (.tmp 74) (.tmp 76) 57 rfl Z0 153 i0 _ 6 80 Tryz.underlying57 hi hz0 hz1 hz2 rfl (by omega) (.slice a2 k cp2) k (ls.flatMap LV.cs) (by rfl) o2 ⟨L4, 0, none⟩ 1 1 l.cs (by rfl) (by rfl) (World.news_of_block (cs := #[.int .i64 l.kind, .int .i64 l.pot, .int .i64 l.skip, .slice l.f.a l.f.n l.f.cap, .slice l.f.c l.f.m l.f.cap', .int .i64 l.f.K]) (t := 153) (fr := (0, 0)) c4) (by have h := flatL_one [l]; simpa using h) (by omega) (by unfold maxLen; omega) (by omega) (by rw [HZ.out]; exact HV.size) _ rfl ?_;intro g5 cp5 Y4 hown hgrow _ _;replace HV := HV.trans ((Below.refl V0.heap.size Y3).grown hgrow HV.size (fun z hz => by have h := (o2.lt z hz).1; rw [HZ.out] at h; exact h));have g5G : LinesG Y4 (some ⟨g5, 0, none⟩) (ls ++ [l]) := linesG_own (base := Z0) (by rw [qG]; simpa using hown) (by rw [qC, HK.out]; rfl) (fun i hi => (ATS.out i hi).below HV);clear hown hgrow o2 c4;refine kk0 hK (KP.out _ HV) ?_;clear hK;refine wpAnyE_one (i := 6) (by kernel_rfl) rfl (fun Kn hK => ?_);go_simp;refine (sact_any (k + 1) cp5 (ls ++ [l]) (by rw [qC, HK.out]; rfl) g5G (by omega)).mono ?_;rintro e Y5 ⟨rfl, b6⟩;replace HV := btr HV b6;clear b6 g5G;dsimp only;refine kk0 hK (KP.out _ HV) ?_;clear hK
      refine wod ?_ _;clear KP ATS
      go_wp2_with fail
      go_meet
      case rel => exact ⟨rfl, btr hVW HV⟩
     go_simp;have al := (Below.refl Y1.heap.size Y1).alloc (qF _) (.cells #[.int .i64 l.kind, .int .i64 l.pot, .int .i64 l.skip, .slice l.f.a l.f.n l.f.cap, .slice l.f.c l.f.m l.f.cap', .int .i64 l.f.K] 153);have hsz := HV.size;have c4 := Cel.new Y1 [.int .i64 l.kind, .int .i64 l.pot, .int .i64 l.skip, .slice l.f.a l.f.n l.f.cap, .slice l.f.c l.f.m l.f.cap', .int .i64 l.f.K] 153;replace o0 := own_belowL o0 al;replace HV := HV.trans (al.mono hsz);clear al;generalize Y1.alloc (.cells #[.int .i64 l.kind, .int .i64 l.pot, .int .i64 l.skip, .slice l.f.a l.f.n l.f.cap, .slice l.f.c l.f.m l.f.cap', .int .i64 l.f.K] 153) = Y2 at HV c4 o0 ⊢;obtain ⟨L4, hL4⟩ : ∃ x, x = Y1.heap.size := ⟨_, rfl⟩
     rw [<- hL4];rw [<- hL4] at c4;have n04 : L4 ≠ L0 := by omega
     clear hL4 hsz;have lt4 := c4.lt;clear ltL0;have ltL0 : L0 < Y2.heap.size := (o0.lt L0 rfl).2;refine kk0 hK (KP.out _ HV) ?_;clear hK;refine wpAnyE_one (i := 2) (by kernel_rfl) rfl (fun Kn hK => ?_);rw [if_pos (by rfl)];refine wp_copyL (.tmp 72) (.tmp 73) rfl Z0 w.heap.size L0 k vad vcap ls (by rfl) o0 (by rfl) (by have h := (j.below HV).o; rw [HK.out] at h; exact h) HK.out (by omega) (by rw [HZ.out]; exact HV.size) ?_;intro v2 Y3 b2 t2 o2 _;replace c4 := c4.touch t2 n04;clear lt4;rw [HZ.out] at b2;replace HV := HV.trans b2;clear b2 t2 o0 ltL0;refine kk0 hK (KP.out _ HV) ?_;clear hK;refine wpAnyE_one (i := 5) (by kernel_rfl) rfl (fun Kn hK => ?_);rw [if_pos (by rfl)];obtain ⟨a2, cp2, rfl⟩ := own_slice o2;refine wp_append_lies _ (.tmp 74) (.tmp 76) 57 rfl Z0 153 i0 _ 6 80 Tryz.underlying57 hi hz0 hz1 hz2 rfl (by omega) (.slice a2 k cp2) k (ls.flatMap LV.cs) (by rfl) o2 ⟨L4, 0, none⟩ 1 1 l.cs (by rfl) (by rfl) (World.news_of_block (cs := #[.int .i64 l.kind, .int .i64 l.pot, .int .i64 l.skip, .slice l.f.a l.f.n l.f.cap, .slice l.f.c l.f.m l.f.cap', .int .i64 l.f.K]) (t := 153) (fr := (0, 0)) c4) (by have h := flatL_one [l]; simpa using h) (by omega) (by unfold maxLen; omega) (by omega) (by rw [HZ.out]; exact HV.size) _ rfl ?_;intro g5 cp5 Y4 hown hgrow _ _;replace HV := HV.trans ((Below.refl V0.heap.size Y3).grown hgrow HV.size (fun z hz => by have h := (o2.lt z hz).1; rw [HZ.out] at h; exact h))
     have g5G : LinesG Y4 (some ⟨g5, 0, none⟩) (ls ++ [l]) := linesG_own (base := Z0) (by rw [qG]; simpa using hown) (by rw [qC, HK.out]; rfl) (fun i hi => (ATS.out i hi).below HV);clear hown hgrow o2 c4;refine kk0 hK (KP.out _ HV) ?_;clear hK;refine wpAnyE_one (i := 6) (by kernel_rfl) rfl (fun Kn hK => ?_);go_simp;refine (sact_any (k + 1) cp5 (ls ++ [l]) (by rw [qC, HK.out]; rfl) g5G (by omega)).mono ?_;rintro e Y5 ⟨rfl, b6⟩;replace HV := btr HV b6;clear b6 g5G;dsimp only;refine kk0 hK (KP.out _ HV) ?_;clear hK;refine wod ?_ _;clear KP ATS
     go_wp2_with fail
     go_meet
     case rel => exact ⟨rfl, btr hVW HV⟩
    go_simp;have al := (Below.refl V0.heap.size V0).alloc (qF _) (.cells #[.int .i64 l.kind, .int .i64 l.pot, .int .i64 l.skip, .slice l.f.a l.f.n l.f.cap, .slice l.f.c l.f.m l.f.cap', .int .i64 l.f.K] 153);have hsz := HV.size;have c4 := Cel.new V0 [.int .i64 l.kind, .int .i64 l.pot, .int .i64 l.skip, .slice l.f.a l.f.n l.f.cap, .slice l.f.c l.f.m l.f.cap', .int .i64 l.f.K] 153;replace HV := HV.trans (al.mono hsz);clear al;generalize V0.alloc (.cells #[.int .i64 l.kind, .int .i64 l.pot, .int .i64 l.skip, .slice l.f.a l.f.n l.f.cap, .slice l.f.c l.f.m l.f.cap', .int .i64 l.f.K] 153) = Y1 at HV c4 ⊢;obtain ⟨L4, hL4⟩ : ∃ x, x = V0.heap.size := ⟨_, rfl⟩
    rw [<- hL4];rw [<- hL4] at c4;clear hL4 hsz;have lt4 := c4.lt;refine kk0 hK (KP.out _ HV) ?_;clear hK;refine wpAnyE_one (i := 0) (by kernel_rfl) rfl (fun Kn hK => ?_);go_simp;have al := (Below.refl Y1.heap.size Y1).alloc (qF _) (.cells #[] 153);have hsz := HV.size;have o0 := World.ownsRow_lit (base := Z0) (e := 153) (size := 6) Y1 #[] 0 (by rw [HZ.out]; exact hsz) (by unfold maxLen; omega) rfl;replace c4 := c4.below al;replace HV := HV.trans (al.mono hsz);clear al;generalize Y1.alloc (.cells #[] 153) = Y2 at HV o0 c4 ⊢;obtain ⟨L0, hL0⟩ : ∃ x, x = Y1.heap.size := ⟨_, rfl⟩
    rw [<- hL0];rw [<- hL0] at o0;have n04 : L4 ≠ L0 := by omega
    clear hL0 hsz;have ltL0 : L0 < Y2.heap.size := (o0.lt L0 rfl).2;clear lt4;have lt4 := c4.lt;refine kk0 hK (KP.out _ HV) ?_;clear hK;refine wpAnyE_one (i := 2) (by kernel_rfl) rfl (fun Kn hK => ?_);rw [if_pos (by rfl)];refine wp_copyL (.tmp 72) (.tmp 73) rfl Z0 w.heap.size L0 k vad vcap ls (by rfl) o0 (by rfl) (by have h := (j.below HV).o; rw [HK.out] at h; exact h) HK.out (by omega) (by rw [HZ.out]; exact HV.size) ?_;intro v2 Y3 b2 t2 o2 _;replace c4 := c4.touch t2 n04;clear lt4;rw [HZ.out] at b2;replace HV := HV.trans b2;clear b2 t2 o0 ltL0;refine kk0 hK (KP.out _ HV) ?_;clear hK;refine wpAnyE_one (i := 5) (by kernel_rfl) rfl (fun Kn hK => ?_);rw [if_pos (by rfl)];obtain ⟨a2, cp2, rfl⟩ := own_slice o2;refine wp_append_lies _ (.tmp 74) (.tmp 76) 57 rfl Z0 153 i0 _ 6 80 Tryz.underlying57 hi hz0 hz1 hz2 rfl (by omega) (.slice a2 k cp2) k (ls.flatMap LV.cs) (by rfl) o2 ⟨L4, 0, none⟩ 1 1 l.cs (by rfl) (by rfl) (World.news_of_block (cs := #[.int .i64 l.kind, .int .i64 l.pot, .int .i64 l.skip, .slice l.f.a l.f.n l.f.cap, .slice l.f.c l.f.m l.f.cap', .int .i64 l.f.K]) (t := 153) (fr := (0, 0)) c4) (by have h := flatL_one [l]; simpa using h) (by omega) (by unfold maxLen; omega) (by omega) (by rw [HZ.out]; exact HV.size) _ rfl ?_;intro g5 cp5 Y4 hown hgrow _ _;replace HV := HV.trans ((Below.refl V0.heap.size Y3).grown hgrow HV.size (fun z hz => by have h := (o2.lt z hz).1; rw [HZ.out] at h; exact h))
    have g5G : LinesG Y4 (some ⟨g5, 0, none⟩) (ls ++ [l]) := linesG_own (base := Z0) (by rw [qG]; simpa using hown) (by rw [qC, HK.out]; rfl) (fun i hi => (ATS.out i hi).below HV);clear hown hgrow o2 c4;refine kk0 hK (KP.out _ HV) ?_;clear hK;refine wpAnyE_one (i := 6) (by kernel_rfl) rfl (fun Kn hK => ?_);go_simp;refine (sact_any (k + 1) cp5 (ls ++ [l]) (by rw [qC, HK.out]; rfl) g5G (by omega)).mono ?_;rintro e Y5 ⟨rfl, b6⟩;replace HV := btr HV b6;clear b6 g5G;dsimp only;refine kk0 hK (KP.out _ HV) ?_;clear hK;refine wod ?_ _;clear KP ATS
    go_wp2_with fail
    go_meet
    case rel => exact ⟨rfl, btr hVW HV⟩
   case rest =>
    obtain ⟨rfl, HV⟩ := hcut;replace j := j.below HV;replace qb := qb.below HV;replace hl := hl.below HV;have hs7 := HV.size;clear HV
    cases h9 : actB (k + 1) (ls ++ [l])
    ·go_wp2
     go_roundw
     case rel => exact ⟨m - 1, ls, q5, by go_num, by rw [HK.out]; omega, j, HAct.out, by omega, by omega⟩
     case measure => simp [intOf]; omega
    have SZ : ∀ i, i < ls.length -> (∀ b o, (ls[i]?.getD noLV).f.a = some ⟨b, o, none⟩ -> b < wc.heap.size) /\ (∀ b o, (ls[i]?.getD noLV).f.c = some ⟨b, o, none⟩ -> b < wc.heap.size) := fun i hi => ⟨fun b o e => (j.na i hi b o e).2.1, fun b o e => (j.nc i hi b o e).2.1⟩
    have al := (Below.refl wc.heap.size wc).alloc (qF _) (.cells #[.int .i64 l.kind, .int .i64 l.pot, .int .i64 l.skip, .slice l.f.a l.f.n l.f.cap, .slice l.f.c l.f.m l.f.cap', .int .i64 l.f.K] 153);have ja := j.below al;have hla := hl.below al;have b0 := qb.cell 0;have b1 := qb.cell 1;have b2 := qb.cell 2;have b3 := qb.cell 3;have b4 := qb.cell 4;have b5 := qb.cell 5;simp only [List.getElem?_cons_zero, List.getElem?_cons_succ] at b0 b1 b2 b3 b4 b5;have hszA := ja.t.size;clear al j hl
    go_wp2_with (at_builtin; refine wpList_append_lies _ rfl (.tmp 79) (.tmp 81) 57 rfl w.heap.size 153 i0 _ 6 80 Tryz.underlying57 hi hz0 hz1 hz2 rfl (by omega) (.slice vad k vcap) k (ls.flatMap LV.cs) (by rfl) (by have h := ja.o; rw [HK.out] at h; exact h) ⟨wc.heap.size, 0, none⟩ 1 1 l.cs (by rfl) (by rfl) (World.news_of_block (cs := #[.int .i64 l.kind, .int .i64 l.pot, .int .i64 l.skip, .slice l.f.a l.f.n l.f.cap, .slice l.f.c l.f.m l.f.cap', .int .i64 l.f.K]) (t := 153) (fr := (0, 0)) (heap_alloc_new wc _)) (by have h := flatL_one [l]; simpa using h) (by omega) (by unfold maxLen; omega) (by omega) hszA (wc.heap.size + 1) (by rw [World.size_alloc]) ?_)
    intro g9 cp9 w9 hown hgrow hat _;have jn := ja.app (H := wc.heap.size) HK.out hla (fun b o e => by (have h := la b o e; exact ⟨by omega, by omega, fun e2 => by have := hvb b e2; omega⟩)) (fun b o e => by (have h := lc b o e; exact ⟨by omega, by omega, fun e2 => by have := hvb b e2; omega⟩)) (by rw [World.size_alloc]; omega) SZ hown hgrow (by rcases hat with h | h; exact .inl h; exact .inr (by omega));clear hown hgrow ja hla b0 b1 b2 b3 b4 b5
    go_wp2
    go_roundw
    case rel => exact ⟨m - 1, ls ++ [l], q5, by go_num, by rw [qC, HK.out]; simp; omega, jn, by rw [qC, HK.out]; exact h9, by omega, by omega⟩
    case measure => simp [intOf]; omega
  have hm' : ¬ (0 : Int) < (m : Int) := by omega
  obtain ⟨vad, vcap, rfl⟩ := own_slice j.o
  go_wp2
  go_ret
  exact ⟨vad, ls.length, vcap, rfl, by first | exact ⟨ls, ⟨q, j, by first | exact ⟨rfl, hact, by omega, by omega⟩ | omega⟩⟩ | (refine ⟨ls, ?_⟩; trace_state; simp [hact]; exact ⟨q, j, by omega, by omega⟩)⟩
end Go.Proofs.YtpmihhbgjimpmaaGreatDoor
