/-
  Lemmas that the claim's last text rests on.
-/
import Derived.Test.YtpmihhbgjimpmaaGreatDoorSxD
namespace Go.Proofs.YtpmihhbgjimpmaaGreatDoor
open Go.RowKit Go.ChangeShapes Go.WideShapes Go.ChangeAt Go.Joins Go.Deep
open Option.some renaming injEq → qA
open Addr.mk renaming injEq → qB
open World renaming size_alloc → qC
open List renaming length_append → qD, length_cons → qE, length_nil → qF, flatMap_append → qH
open Nat renaming le_refl → qG
set_option linter.unusedVariables false
set_option maxRecDepth 100000
set_option maxHeartbeats 25600000
variable {ad : Option Addr} {ls : List LV} {w w' : World}
theorem at_app {W : World} {l : LV} (h : ∀ i, i < ls.length -> (ls[i]?.getD noLV).f.At W) (hl : l.f.At W) : ∀ i, i < (ls ++ [l]).length -> ((ls ++ [l])[i]?.getD noLV).f.At W := fun i hi => by
 by_cases h1 : i < ls.length
 ·rw [List.getElem?_append_left h1]; exact h i h1
 have h9 : i = ls.length := by rw [qD] at hi; simp at hi; omega
 subst h9;simpa using hl
theorem act_f (R : Nat) (a : Option Addr) (n cap : Nat) (bs : List Int) (p : Int) {w : World} (rd : Rd w R a n cap bs p) (hp : 0 <= p) (hp1 : p <= 7000000) (ha : 0 < n -> ∀ b o, a = some ⟨b, o, none⟩ -> b < w.heap.size) :
  Calls Tryz.prog 149 #[.pointer (some ⟨R, 0, none⟩)] w fun e w' => ∃ ad N c ls q, e = .returned (.slice ad N c) /\ JL w R a n cap bs q (.slice ad N c) ls w' /\ ls.length = N /\ actB N ls = true /\ p <= q /\ q <= p + 80 := by
 have hRl := rd.c.lt;have TT : Touch (fun x => x = R) w w := Touch.refl _ _
 go_enter Tryz.func149, Tryz.ntmps149
 go_wp2_with fail
 refine (pick_any R a n cap bs (p) 2 rd).mono ?_;rintro e w2 ⟨rv, hv0, hv1, rfl, t5, R5⟩;obtain ⟨v, rfl⟩ := Int.eq_ofNat_of_zero_le hv0;clear hv0;replace TT := TT.trans t5;replace rd := R5;clear t5 R5
 go_wp2_with fail
 refine (pick_any R a n cap bs (p + 1) 8 rd).mono ?_;rintro e w3 ⟨rj, hj0, hj1, rfl, t5, R5⟩;obtain ⟨j, rfl⟩ := Int.eq_ofNat_of_zero_le hj0;clear hj0;replace TT := TT.trans t5;replace rd := R5;clear t5 R5
 rcases (show j = 0 \/ j = 1 \/ j = 2 \/ j = 3 \/ j = 4 \/ j = 5 \/ 6 <= j from by omega) with rfl | rfl | rfl | rfl | rfl | rfl | hj6
 iterate 2
  ·go_wp2_with fail
   have xA := TT.size;refine (num_f (-1) 0 0).mono ?_;rintro e w4 ⟨BA, DA, rfl, b5, f5⟩
   go_wp2_with fail
   refine (with_f BA DA v 1 0 f5).mono ?_;rintro e w5 ⟨rfl, t6, f6⟩;have lo6 := f5.b1;replace b5 := b5.trans (t6.below (B := w3.heap.size) b5.size (fun z hz => by omega));clear f5 t6 lo6;have f5 := f6;clear f6;have yA1 := f5.b1;have yA2 := f5.b2;have GA : FA w5 (some ⟨BA, 0, none⟩) 3 (some ⟨DA, 0, none⟩) 2 (([0, 0, 0]).set v 1, [-1, 0], 0) := ⟨f5.k1.ints' f5.l1, f5.k2.ints' f5.l2, by omega, by omega⟩
   clear f5;replace TT := TT.trans (Touch.of b5);replace rd := rd.below b5;clear b5;have zA1 : w.heap.size <= BA := by omega
   have zA2 : w.heap.size <= DA := by omega
   go_wp2_with fail
   have xE := TT.size;refine (num_f (-1) 0 0).mono ?_;rintro e w6 ⟨BE, DE, rfl, b5, f5⟩;have yE1 := f5.b1;have yE2 := f5.b2;have GE : FA w6 (some ⟨BE, 0, none⟩) 3 (some ⟨DE, 0, none⟩) 2 ([0, 0, 0], [-1, 0], 0) := ⟨f5.k1.ints' f5.l1, f5.k2.ints' f5.l2, by omega, by omega⟩
   clear f5;replace GA := GA.below b5;replace TT := TT.trans (Touch.of b5);replace rd := rd.below b5;clear b5;have zE1 : w.heap.size <= BE := by omega
   have zE2 : w.heap.size <= DE := by omega
   go_wp2_with fail
   have xF := TT.size;refine (num_f 1 0 0).mono ?_;rintro e w7 ⟨BF, DF, rfl, b5, f5⟩;have yF1 := f5.b1;have yF2 := f5.b2;have GF : FA w7 (some ⟨BF, 0, none⟩) 3 (some ⟨DF, 0, none⟩) 2 ([0, 0, 0], [1, 0], 0) := ⟨f5.k1.ints' f5.l1, f5.k2.ints' f5.l2, by omega, by omega⟩
   clear f5;replace GA := GA.below b5;replace GE := GE.below b5;replace TT := TT.trans (Touch.of b5);replace rd := rd.below b5;clear b5;have zF1 : w.heap.size <= BF := by omega
   have zF2 : w.heap.size <= DF := by omega
   go_wp2_with fail
   have xH := TT.size;refine (num_f 1 0 (-9)).mono ?_;rintro e w8 ⟨BH, DH, rfl, b5, f5⟩;have yH1 := f5.b1;have yH2 := f5.b2;have GH : FA w8 (some ⟨BH, 0, none⟩) 3 (some ⟨DH, 0, none⟩) 2 ([0, 0, 0], [1, 0], -9) := ⟨f5.k1.ints' f5.l1, f5.k2.ints' f5.l2, by omega, by omega⟩
   clear f5;replace GA := GA.below b5;replace GE := GE.below b5;replace GF := GF.below b5;replace TT := TT.trans (Touch.of b5);replace rd := rd.below b5;clear b5;have zH1 : w.heap.size <= BH := by omega
   have zH2 : w.heap.size <= DH := by omega
   have tA1 := GA.C.blk (by omega);have tA2 := GA.D.blk (by omega);have tE1 := GE.C.blk (by omega);have tE2 := GE.D.blk (by omega);have tF1 := GF.C.blk (by omega);have tF2 := GF.D.blk (by omega);have tH1 := GH.C.blk (by omega);have tH2 := GH.D.blk (by omega);have hsz := TT.size;have al := (Below.refl w8.heap.size w8).alloc (qG _) (.cells #[.int .i64 1, .int .i64 0, .int .i64 2, .slice (some ⟨BA, 0, none⟩) 3 3, .slice (some ⟨DA, 0, none⟩) 2 2, .int .i64 0, .int .i64 2, .int .i64 (v : Int), .int .i64 0, .slice (some ⟨BE, 0, none⟩) 3 3, .slice (some ⟨DE, 0, none⟩) 2 2, .int .i64 0, .int .i64 3, .int .i64 0, .int .i64 0, .slice (some ⟨BF, 0, none⟩) 3 3, .slice (some ⟨DF, 0, none⟩) 2 2, .int .i64 0, .int .i64 1, .int .i64 0, .int .i64 1, .slice (some ⟨BH, 0, none⟩) 3 3, .slice (some ⟨DH, 0, none⟩) 2 2, .int .i64 (-9), .int .i64 4, .int .i64 0, .int .i64 0, .slice none 0 0, .slice none 0 0, .int .i64 0] 153)
   have o := World.ownsRow_lit (base := w.heap.size) (e := 153) (size := 6) w8 #[.int .i64 1, .int .i64 0, .int .i64 2, .slice (some ⟨BA, 0, none⟩) 3 3, .slice (some ⟨DA, 0, none⟩) 2 2, .int .i64 0, .int .i64 2, .int .i64 (v : Int), .int .i64 0, .slice (some ⟨BE, 0, none⟩) 3 3, .slice (some ⟨DE, 0, none⟩) 2 2, .int .i64 0, .int .i64 3, .int .i64 0, .int .i64 0, .slice (some ⟨BF, 0, none⟩) 3 3, .slice (some ⟨DF, 0, none⟩) 2 2, .int .i64 0, .int .i64 1, .int .i64 0, .int .i64 1, .slice (some ⟨BH, 0, none⟩) 3 3, .slice (some ⟨DH, 0, none⟩) 2 2, .int .i64 (-9), .int .i64 4, .int .i64 0, .int .i64 0, .slice none 0 0, .slice none 0 0, .int .i64 0] 5 hsz (by unfold maxLen; omega) rfl;have hws := al.size;replace GA := GA.below al;replace GE := GE.below al;replace GF := GF.below al;replace GH := GH.below al;replace TT := TT.trans (Touch.of al);replace rd := rd.below al;clear al
   go_wp2
   go_ret
   refine ⟨_, 5, 5, [⟨1, 0, 2, ⟨some ⟨BA, 0, none⟩, 3, 3, some ⟨DA, 0, none⟩, 2, 2, 0, ([0, 0, 0]).set v 1, [-1, 0]⟩⟩, ⟨2, (v : Int), 0, ⟨some ⟨BE, 0, none⟩, 3, 3, some ⟨DE, 0, none⟩, 2, 2, 0, [0, 0, 0], [-1, 0]⟩⟩, ⟨3, 0, 0, ⟨some ⟨BF, 0, none⟩, 3, 3, some ⟨DF, 0, none⟩, 2, 2, 0, [0, 0, 0], [1, 0]⟩⟩, ⟨1, 0, 1, ⟨some ⟨BH, 0, none⟩, 3, 3, some ⟨DH, 0, none⟩, 2, 2, (-9), [0, 0, 0], [1, 0]⟩⟩, ⟨4, 0, 0, noFV⟩], _, rfl, ⟨TT, rd, o, fun i hi => ?_, fun i hi b o e => ?_, fun i hi b o e => ?_, hRl, ha⟩, rfl, by rcases v with _ | _ | v; rfl; rfl; omega, by omega, by omega⟩
   ·rcases i with _ | _ | _ | _ | _ | i
    ·exact ⟨GA.C, GA.D, show 3 <= 1048576 by omega, show 2 <= 1048576 by omega⟩
    ·exact ⟨GE.C, GE.D, show 3 <= 1048576 by omega, show 2 <= 1048576 by omega⟩
    ·exact ⟨GF.C, GF.D, show 3 <= 1048576 by omega, show 2 <= 1048576 by omega⟩
    ·exact ⟨GH.C, GH.D, show 3 <= 1048576 by omega, show 2 <= 1048576 by omega⟩
    ·exact ⟨⟨rfl, fun i hi => absurd hi (Nat.not_lt_zero _)⟩, ⟨rfl, fun i hi => absurd hi (Nat.not_lt_zero _)⟩, Nat.zero_le _, Nat.zero_le _⟩
    simp only [qE, qF] at hi; omega
   ·rcases i with _ | _ | _ | _ | _ | i
    ·have e9 : (some ⟨BA, 0, none⟩ : Option Addr) = some ⟨b, o, none⟩ := e; simp only [qA, qB] at e9; exact ⟨by omega, by omega, by simp only [Value.ownBlock, ne_eq, qA]; omega⟩
    ·have e9 : (some ⟨BE, 0, none⟩ : Option Addr) = some ⟨b, o, none⟩ := e; simp only [qA, qB] at e9; exact ⟨by omega, by omega, by simp only [Value.ownBlock, ne_eq, qA]; omega⟩
    ·have e9 : (some ⟨BF, 0, none⟩ : Option Addr) = some ⟨b, o, none⟩ := e; simp only [qA, qB] at e9; exact ⟨by omega, by omega, by simp only [Value.ownBlock, ne_eq, qA]; omega⟩
    ·have e9 : (some ⟨BH, 0, none⟩ : Option Addr) = some ⟨b, o, none⟩ := e; simp only [qA, qB] at e9; exact ⟨by omega, by omega, by simp only [Value.ownBlock, ne_eq, qA]; omega⟩
    ·cases e
    simp only [qE, qF] at hi; omega
   rcases i with _ | _ | _ | _ | _ | i
   ·have e9 : (some ⟨DA, 0, none⟩ : Option Addr) = some ⟨b, o, none⟩ := e; simp only [qA, qB] at e9; exact ⟨by omega, by omega, by simp only [Value.ownBlock, ne_eq, qA]; omega⟩
   ·have e9 : (some ⟨DE, 0, none⟩ : Option Addr) = some ⟨b, o, none⟩ := e; simp only [qA, qB] at e9; exact ⟨by omega, by omega, by simp only [Value.ownBlock, ne_eq, qA]; omega⟩
   ·have e9 : (some ⟨DF, 0, none⟩ : Option Addr) = some ⟨b, o, none⟩ := e; simp only [qA, qB] at e9; exact ⟨by omega, by omega, by simp only [Value.ownBlock, ne_eq, qA]; omega⟩
   ·have e9 : (some ⟨DH, 0, none⟩ : Option Addr) = some ⟨b, o, none⟩ := e; simp only [qA, qB] at e9; exact ⟨by omega, by omega, by simp only [Value.ownBlock, ne_eq, qA]; omega⟩
   ·cases e
   simp only [qE, qF] at hi; omega
 ·go_wp2_with fail
  have xA := TT.size;refine (num_f 1 0 0).mono ?_;rintro e w4 ⟨BA, DA, rfl, b5, f5⟩;have yA1 := f5.b1;have yA2 := f5.b2;have GA : FA w4 (some ⟨BA, 0, none⟩) 3 (some ⟨DA, 0, none⟩) 2 ([0, 0, 0], [1, 0], 0) := ⟨f5.k1.ints' f5.l1, f5.k2.ints' f5.l2, by omega, by omega⟩
  clear f5;replace TT := TT.trans (Touch.of b5);replace rd := rd.below b5;clear b5;have zA1 : w.heap.size <= BA := by omega
  have zA2 : w.heap.size <= DA := by omega
  have tA1 := GA.C.blk (by omega);have tA2 := GA.D.blk (by omega);have hsz := TT.size;have al := (Below.refl w4.heap.size w4).alloc (qG _) (.cells #[.int .i64 2, .int .i64 (v : Int), .int .i64 0, .slice (some ⟨BA, 0, none⟩) 3 3, .slice (some ⟨DA, 0, none⟩) 2 2, .int .i64 0] 153);have o := World.ownsRow_lit (base := w.heap.size) (e := 153) (size := 6) w4 #[.int .i64 2, .int .i64 (v : Int), .int .i64 0, .slice (some ⟨BA, 0, none⟩) 3 3, .slice (some ⟨DA, 0, none⟩) 2 2, .int .i64 0] 1 hsz (by unfold maxLen; omega) rfl;have hws := al.size;replace GA := GA.below al;replace TT := TT.trans (Touch.of al);replace rd := rd.below al;clear al
  go_wp2
  go_ret
  refine ⟨_, 1, 1, [⟨2, (v : Int), 0, ⟨some ⟨BA, 0, none⟩, 3, 3, some ⟨DA, 0, none⟩, 2, 2, 0, [0, 0, 0], [1, 0]⟩⟩], _, rfl, ⟨TT, rd, o, fun i hi => ?_, fun i hi b o e => ?_, fun i hi b o e => ?_, hRl, ha⟩, rfl, by rcases v with _ | _ | v; rfl; rfl; omega, by omega, by omega⟩
  ·rcases i with _ | i
   ·exact ⟨GA.C, GA.D, show 3 <= 1048576 by omega, show 2 <= 1048576 by omega⟩
   simp only [qE, qF] at hi; omega
  ·rcases i with _ | i
   ·have e9 : (some ⟨BA, 0, none⟩ : Option Addr) = some ⟨b, o, none⟩ := e; simp only [qA, qB] at e9; exact ⟨by omega, by omega, by simp only [Value.ownBlock, ne_eq, qA]; omega⟩
   simp only [qE, qF] at hi; omega
  rcases i with _ | i
  ·have e9 : (some ⟨DA, 0, none⟩ : Option Addr) = some ⟨b, o, none⟩ := e; simp only [qA, qB] at e9; exact ⟨by omega, by omega, by simp only [Value.ownBlock, ne_eq, qA]; omega⟩
  simp only [qE, qF] at hi; omega
 ·go_wp2_with fail
  have xA := TT.size;refine (num_f (-1) 0 0).mono ?_;rintro e w4 ⟨BA, DA, rfl, b5, f5⟩
  go_wp2_with fail
  refine (with_f BA DA v 1 0 f5).mono ?_;rintro e w5 ⟨rfl, t6, f6⟩;have lo6 := f5.b1;replace b5 := b5.trans (t6.below (B := w3.heap.size) b5.size (fun z hz => by omega));clear f5 t6 lo6;have f5 := f6;clear f6;have yA1 := f5.b1;have yA2 := f5.b2;have GA : FA w5 (some ⟨BA, 0, none⟩) 3 (some ⟨DA, 0, none⟩) 2 (([0, 0, 0]).set v 1, [-1, 0], 0) := ⟨f5.k1.ints' f5.l1, f5.k2.ints' f5.l2, by omega, by omega⟩
  clear f5;replace TT := TT.trans (Touch.of b5);replace rd := rd.below b5;clear b5;have zA1 : w.heap.size <= BA := by omega
  have zA2 : w.heap.size <= DA := by omega
  go_wp2_with fail
  have xE := TT.size;refine (num_f (-1) 0 0).mono ?_;rintro e w6 ⟨BE, DE, rfl, b5, f5⟩;have yE1 := f5.b1;have yE2 := f5.b2;have GE : FA w6 (some ⟨BE, 0, none⟩) 3 (some ⟨DE, 0, none⟩) 2 ([0, 0, 0], [-1, 0], 0) := ⟨f5.k1.ints' f5.l1, f5.k2.ints' f5.l2, by omega, by omega⟩
  clear f5;replace GA := GA.below b5;replace TT := TT.trans (Touch.of b5);replace rd := rd.below b5;clear b5;have zE1 : w.heap.size <= BE := by omega
  have zE2 : w.heap.size <= DE := by omega
  go_wp2_with fail
  have xF := TT.size;refine (num_f 1 0 0).mono ?_;rintro e w7 ⟨BF, DF, rfl, b5, f5⟩;have yF1 := f5.b1;have yF2 := f5.b2;have GF : FA w7 (some ⟨BF, 0, none⟩) 3 (some ⟨DF, 0, none⟩) 2 ([0, 0, 0], [1, 0], 0) := ⟨f5.k1.ints' f5.l1, f5.k2.ints' f5.l2, by omega, by omega⟩
  clear f5;replace GA := GA.below b5;replace GE := GE.below b5;replace TT := TT.trans (Touch.of b5);replace rd := rd.below b5;clear b5;have zF1 : w.heap.size <= BF := by omega
  have zF2 : w.heap.size <= DF := by omega
  have tA1 := GA.C.blk (by omega);have tA2 := GA.D.blk (by omega);have tE1 := GE.C.blk (by omega);have tE2 := GE.D.blk (by omega);have tF1 := GF.C.blk (by omega);have tF2 := GF.D.blk (by omega);have hsz := TT.size;have al := (Below.refl w7.heap.size w7).alloc (qG _) (.cells #[.int .i64 1, .int .i64 0, .int .i64 2, .slice (some ⟨BA, 0, none⟩) 3 3, .slice (some ⟨DA, 0, none⟩) 2 2, .int .i64 0, .int .i64 2, .int .i64 (v : Int), .int .i64 0, .slice (some ⟨BE, 0, none⟩) 3 3, .slice (some ⟨DE, 0, none⟩) 2 2, .int .i64 0, .int .i64 2, .int .i64 (1 - (v : Int)), .int .i64 0, .slice (some ⟨BF, 0, none⟩) 3 3, .slice (some ⟨DF, 0, none⟩) 2 2, .int .i64 0] 153);have o := World.ownsRow_lit (base := w.heap.size) (e := 153) (size := 6) w7 #[.int .i64 1, .int .i64 0, .int .i64 2, .slice (some ⟨BA, 0, none⟩) 3 3, .slice (some ⟨DA, 0, none⟩) 2 2, .int .i64 0, .int .i64 2, .int .i64 (v : Int), .int .i64 0, .slice (some ⟨BE, 0, none⟩) 3 3, .slice (some ⟨DE, 0, none⟩) 2 2, .int .i64 0, .int .i64 2, .int .i64 (1 - (v : Int)), .int .i64 0, .slice (some ⟨BF, 0, none⟩) 3 3, .slice (some ⟨DF, 0, none⟩) 2 2, .int .i64 0] 3 hsz (by unfold maxLen; omega) rfl;have hws := al.size;replace GA := GA.below al;replace GE := GE.below al;replace GF := GF.below al;replace TT := TT.trans (Touch.of al);replace rd := rd.below al;clear al
  go_wp2
  go_ret
  refine ⟨_, 3, 3, [⟨1, 0, 2, ⟨some ⟨BA, 0, none⟩, 3, 3, some ⟨DA, 0, none⟩, 2, 2, 0, ([0, 0, 0]).set v 1, [-1, 0]⟩⟩, ⟨2, (v : Int), 0, ⟨some ⟨BE, 0, none⟩, 3, 3, some ⟨DE, 0, none⟩, 2, 2, 0, [0, 0, 0], [-1, 0]⟩⟩, ⟨2, (1 - (v : Int)), 0, ⟨some ⟨BF, 0, none⟩, 3, 3, some ⟨DF, 0, none⟩, 2, 2, 0, [0, 0, 0], [1, 0]⟩⟩], _, rfl, ⟨TT, rd, o, fun i hi => ?_, fun i hi b o e => ?_, fun i hi b o e => ?_, hRl, ha⟩, rfl, by rcases v with _ | _ | v; rfl; rfl; omega, by omega, by omega⟩
  ·rcases i with _ | _ | _ | i
   ·exact ⟨GA.C, GA.D, show 3 <= 1048576 by omega, show 2 <= 1048576 by omega⟩
   ·exact ⟨GE.C, GE.D, show 3 <= 1048576 by omega, show 2 <= 1048576 by omega⟩
   ·exact ⟨GF.C, GF.D, show 3 <= 1048576 by omega, show 2 <= 1048576 by omega⟩
   simp only [qE, qF] at hi; omega
  ·rcases i with _ | _ | _ | i
   ·have e9 : (some ⟨BA, 0, none⟩ : Option Addr) = some ⟨b, o, none⟩ := e; simp only [qA, qB] at e9; exact ⟨by omega, by omega, by simp only [Value.ownBlock, ne_eq, qA]; omega⟩
   ·have e9 : (some ⟨BE, 0, none⟩ : Option Addr) = some ⟨b, o, none⟩ := e; simp only [qA, qB] at e9; exact ⟨by omega, by omega, by simp only [Value.ownBlock, ne_eq, qA]; omega⟩
   ·have e9 : (some ⟨BF, 0, none⟩ : Option Addr) = some ⟨b, o, none⟩ := e; simp only [qA, qB] at e9; exact ⟨by omega, by omega, by simp only [Value.ownBlock, ne_eq, qA]; omega⟩
   simp only [qE, qF] at hi; omega
  rcases i with _ | _ | _ | i
  ·have e9 : (some ⟨DA, 0, none⟩ : Option Addr) = some ⟨b, o, none⟩ := e; simp only [qA, qB] at e9; exact ⟨by omega, by omega, by simp only [Value.ownBlock, ne_eq, qA]; omega⟩
  ·have e9 : (some ⟨DE, 0, none⟩ : Option Addr) = some ⟨b, o, none⟩ := e; simp only [qA, qB] at e9; exact ⟨by omega, by omega, by simp only [Value.ownBlock, ne_eq, qA]; omega⟩
  ·have e9 : (some ⟨DF, 0, none⟩ : Option Addr) = some ⟨b, o, none⟩ := e; simp only [qA, qB] at e9; exact ⟨by omega, by omega, by simp only [Value.ownBlock, ne_eq, qA]; omega⟩
  simp only [qE, qF] at hi; omega
 ·go_wp2_with fail
  have xA := TT.size;refine (num_f 0 0 0).mono ?_;rintro e w4 ⟨BA, DA, rfl, b5, f5⟩
  go_wp2_with fail
  refine (with_f BA DA 2 1 0 f5).mono ?_;rintro e w5 ⟨rfl, t6, f6⟩;have lo6 := f5.b1;replace b5 := b5.trans (t6.below (B := w3.heap.size) b5.size (fun z hz => by omega));clear f5 t6 lo6;have f5 := f6;clear f6;have yA1 := f5.b1;have yA2 := f5.b2;have GA : FA w5 (some ⟨BA, 0, none⟩) 3 (some ⟨DA, 0, none⟩) 2 (([0, 0, 0]).set 2 1, [0, 0], 0) := ⟨f5.k1.ints' f5.l1, f5.k2.ints' f5.l2, by omega, by omega⟩
  clear f5;replace TT := TT.trans (Touch.of b5);replace rd := rd.below b5;clear b5;have zA1 : w.heap.size <= BA := by omega
  have zA2 : w.heap.size <= DA := by omega
  have tA1 := GA.C.blk (by omega);have tA2 := GA.D.blk (by omega);have hsz := TT.size;have al := (Below.refl w5.heap.size w5).alloc (qG _) (.cells #[.int .i64 3, .int .i64 0, .int .i64 0, .slice (some ⟨BA, 0, none⟩) 3 3, .slice (some ⟨DA, 0, none⟩) 2 2, .int .i64 0] 153);have o := World.ownsRow_lit (base := w.heap.size) (e := 153) (size := 6) w5 #[.int .i64 3, .int .i64 0, .int .i64 0, .slice (some ⟨BA, 0, none⟩) 3 3, .slice (some ⟨DA, 0, none⟩) 2 2, .int .i64 0] 1 hsz (by unfold maxLen; omega) rfl;have hws := al.size;replace GA := GA.below al;replace TT := TT.trans (Touch.of al);replace rd := rd.below al;clear al
  go_wp2
  go_ret
  refine ⟨_, 1, 1, [⟨3, 0, 0, ⟨some ⟨BA, 0, none⟩, 3, 3, some ⟨DA, 0, none⟩, 2, 2, 0, ([0, 0, 0]).set 2 1, [0, 0]⟩⟩], _, rfl, ⟨TT, rd, o, fun i hi => ?_, fun i hi b o e => ?_, fun i hi b o e => ?_, hRl, ha⟩, rfl, rfl, by omega, by omega⟩
  ·rcases i with _ | i
   ·exact ⟨GA.C, GA.D, show 3 <= 1048576 by omega, show 2 <= 1048576 by omega⟩
   simp only [qE, qF] at hi; omega
  ·rcases i with _ | i
   ·have e9 : (some ⟨BA, 0, none⟩ : Option Addr) = some ⟨b, o, none⟩ := e; simp only [qA, qB] at e9; exact ⟨by omega, by omega, by simp only [Value.ownBlock, ne_eq, qA]; omega⟩
   simp only [qE, qF] at hi; omega
  rcases i with _ | i
  ·have e9 : (some ⟨DA, 0, none⟩ : Option Addr) = some ⟨b, o, none⟩ := e; simp only [qA, qB] at e9; exact ⟨by omega, by omega, by simp only [Value.ownBlock, ne_eq, qA]; omega⟩
  simp only [qE, qF] at hi; omega
 ·go_wp2_with fail
  have xA := TT.size;refine (num_f 0 1 5).mono ?_;rintro e w4 ⟨BA, DA, rfl, b5, f5⟩
  go_wp2_with fail
  refine (with_f BA DA 0 1 5 f5).mono ?_;rintro e w5 ⟨rfl, t6, f6⟩;have lo6 := f5.b1;replace b5 := b5.trans (t6.below (B := w3.heap.size) b5.size (fun z hz => by omega));clear f5 t6 lo6;have f5 := f6;clear f6
  go_wp2_with fail
  refine (with_f BA DA 1 (-1) 5 f5).mono ?_;rintro e w6 ⟨rfl, t6, f6⟩;have lo6 := f5.b1;replace b5 := b5.trans (t6.below (B := w3.heap.size) b5.size (fun z hz => by omega));clear f5 t6 lo6;have f5 := f6;clear f6;have yA1 := f5.b1;have yA2 := f5.b2;have GA : FA w6 (some ⟨BA, 0, none⟩) 3 (some ⟨DA, 0, none⟩) 2 ((([0, 0, 0]).set 0 1).set 1 (-1), [0, 1], 5) := ⟨f5.k1.ints' f5.l1, f5.k2.ints' f5.l2, by omega, by omega⟩
  clear f5;replace TT := TT.trans (Touch.of b5);replace rd := rd.below b5;clear b5;have zA1 : w.heap.size <= BA := by omega
  have zA2 : w.heap.size <= DA := by omega
  go_wp2_with fail
  have xE := TT.size;refine (num_f 0 0 1).mono ?_;rintro e w7 ⟨BE, DE, rfl, b5, f5⟩;have yE1 := f5.b1;have yE2 := f5.b2;have GE : FA w7 (some ⟨BE, 0, none⟩) 3 (some ⟨DE, 0, none⟩) 2 ([0, 0, 0], [0, 0], 1) := ⟨f5.k1.ints' f5.l1, f5.k2.ints' f5.l2, by omega, by omega⟩
  clear f5;replace GA := GA.below b5;replace TT := TT.trans (Touch.of b5);replace rd := rd.below b5;clear b5;have zE1 : w.heap.size <= BE := by omega
  have zE2 : w.heap.size <= DE := by omega
  have tA1 := GA.C.blk (by omega);have tA2 := GA.D.blk (by omega);have tE1 := GE.C.blk (by omega);have tE2 := GE.D.blk (by omega);have hsz := TT.size;have al := (Below.refl w7.heap.size w7).alloc (qG _) (.cells #[.int .i64 1, .int .i64 0, .int .i64 1, .slice (some ⟨BA, 0, none⟩) 3 3, .slice (some ⟨DA, 0, none⟩) 2 2, .int .i64 5, .int .i64 2, .int .i64 2, .int .i64 0, .slice (some ⟨BE, 0, none⟩) 3 3, .slice (some ⟨DE, 0, none⟩) 2 2, .int .i64 1] 153);have o := World.ownsRow_lit (base := w.heap.size) (e := 153) (size := 6) w7 #[.int .i64 1, .int .i64 0, .int .i64 1, .slice (some ⟨BA, 0, none⟩) 3 3, .slice (some ⟨DA, 0, none⟩) 2 2, .int .i64 5, .int .i64 2, .int .i64 2, .int .i64 0, .slice (some ⟨BE, 0, none⟩) 3 3, .slice (some ⟨DE, 0, none⟩) 2 2, .int .i64 1] 2 hsz (by unfold maxLen; omega) rfl;have hws := al.size;replace GA := GA.below al;replace GE := GE.below al;replace TT := TT.trans (Touch.of al);replace rd := rd.below al;clear al
  go_wp2
  go_ret
  refine ⟨_, 2, 2, [⟨1, 0, 1, ⟨some ⟨BA, 0, none⟩, 3, 3, some ⟨DA, 0, none⟩, 2, 2, 5, (([0, 0, 0]).set 0 1).set 1 (-1), [0, 1]⟩⟩, ⟨2, 2, 0, ⟨some ⟨BE, 0, none⟩, 3, 3, some ⟨DE, 0, none⟩, 2, 2, 1, [0, 0, 0], [0, 0]⟩⟩], _, rfl, ⟨TT, rd, o, fun i hi => ?_, fun i hi b o e => ?_, fun i hi b o e => ?_, hRl, ha⟩, rfl, rfl, by omega, by omega⟩
  ·rcases i with _ | _ | i
   ·exact ⟨GA.C, GA.D, show 3 <= 1048576 by omega, show 2 <= 1048576 by omega⟩
   ·exact ⟨GE.C, GE.D, show 3 <= 1048576 by omega, show 2 <= 1048576 by omega⟩
   simp only [qE, qF] at hi; omega
  ·rcases i with _ | _ | i
   ·have e9 : (some ⟨BA, 0, none⟩ : Option Addr) = some ⟨b, o, none⟩ := e; simp only [qA, qB] at e9; exact ⟨by omega, by omega, by simp only [Value.ownBlock, ne_eq, qA]; omega⟩
   ·have e9 : (some ⟨BE, 0, none⟩ : Option Addr) = some ⟨b, o, none⟩ := e; simp only [qA, qB] at e9; exact ⟨by omega, by omega, by simp only [Value.ownBlock, ne_eq, qA]; omega⟩
   simp only [qE, qF] at hi; omega
  rcases i with _ | _ | i
  ·have e9 : (some ⟨DA, 0, none⟩ : Option Addr) = some ⟨b, o, none⟩ := e; simp only [qA, qB] at e9; exact ⟨by omega, by omega, by simp only [Value.ownBlock, ne_eq, qA]; omega⟩
  ·have e9 : (some ⟨DE, 0, none⟩ : Option Addr) = some ⟨b, o, none⟩ := e; simp only [qA, qB] at e9; exact ⟨by omega, by omega, by simp only [Value.ownBlock, ne_eq, qA]; omega⟩
  simp only [qE, qF] at hi; omega
 have h1 : ¬ j = 0 := by omega
 have h2 : ¬ j = 1 := by omega
 have h3 : ¬ j = 2 := by omega
 have h4 : ¬ j = 3 := by omega
 have h5 : ¬ j = 4 := by omega
 have h6 : ¬ j = 5 := by omega
 have e0 : ((j : Int) == 0) = false := by simp; omega
 have e1 : ((j : Int) == 1) = false := by simp; omega
 have e2 : ((j : Int) == 2) = false := by simp; omega
 have e3 : ((j : Int) == 3) = false := by simp; omega
 have e4 : ((j : Int) == 4) = false := by simp; omega
 have e5 : ((j : Int) == 5) = false := by simp; omega
 clear h1 h2 h3 h4 h5 h6;have hsz := TT.size;have al := (Below.refl w3.heap.size w3).alloc (qG _) (.cells #[] 153);have o0 := World.ownsRow_lit (base := w.heap.size) (e := 153) (size := 6) w3 #[] 0 hsz (by unfold maxLen; omega) rfl;replace TT := TT.trans (Touch.of al);replace rd := rd.below al;clear al;have j0 : JL w R a n cap bs (p + 1 + 1) (.slice (some ⟨w3.heap.size, 0, none⟩) 0 0) [] (w3.alloc (.cells #[] 153)) := ⟨TT, rd, o0, fun i hi => by simp at hi, fun i hi => by simp at hi, fun i hi => by simp at hi, hRl, ha⟩
 clear o0 TT rd
 go_wp2_with fail
 refine (pick_any R a n cap bs (p + 1 + 1) 5 j0.r).mono ?_;rintro e wS ⟨rk, k0, k1, rfl, t5, R5⟩;obtain ⟨rk, rfl⟩ := Int.eq_ofNat_of_zero_le k0;replace j0 := j0.pick t5 R5;clear t5 R5 k0 hsz hj6;obtain ⟨i0, hi, hz0, hz1, hz2⟩ := info_parts Tryz.infoLn
 go_wp2_with fail
 go_loopw [4, 5] (fun v i wr => ∃ (l : Nat) (ls : List LV) (q : Int), i = .int .i64 l /\ ls.length + l <= 5 /\ JL w R a n cap bs q v ls wr /\ actB ls.length ls = true /\ p <= q /\ q + 12 * l <= p + 70) (fun _ i _ => (intOf i).toNat)
 case atStart => exact ⟨rk + 1, [], _, by go_num, by simp; omega, j0, rfl, by omega, by omega⟩
 case round =>
  clear j0;obtain ⟨m, ls, q, rfl, hlm, j, hact, hq0, hq1⟩ := hrel
  by_cases hm : 0 < m
  ·have hm' : (0 : Int) < (m : Int) := by omega
   obtain ⟨k, hk⟩ : ∃ k, k = ls.length := ⟨_, rfl⟩
   have HK : Hid (ls.length = k) := hk.symm;have hlm' : k + m <= 5 := by omega
   obtain ⟨vad, vcap, rfl⟩ := own_slice j.o;rw [<- hk] at j;rw [<- hk];clear hk hlm;have hvb := fun x hx => ((j.o.lt x hx).2 : x < wr.heap.size)
   have HAct : Hid (actB ls.length ls = true) := hact;clear hact
   go_wp2_with fail
   refine (line_f R a n cap bs q j.r (by omega) (by omega) j.r.ha).mono ?_;rintro e w5 ⟨l, q5, rfl, d5⟩;have hszL := j.t.size;replace j := j.pick d5.t d5.r;have hl := d5.at';have la := d5.la;have lc := d5.lc;have v0 := d5.q0;have v1 := d5.q1;have hs5 := d5.t.size;clear d5;have al := (Below.refl w5.heap.size w5).alloc (qG _) (.cells #[.int .i64 l.kind, .int .i64 l.pot, .int .i64 l.skip, .slice l.f.a l.f.n l.f.cap, .slice l.f.c l.f.m l.f.cap', .int .i64 l.f.K] 153);have qb := Cel.new w5 [.int .i64 l.kind, .int .i64 l.pot, .int .i64 l.skip, .slice l.f.a l.f.n l.f.cap, .slice l.f.c l.f.m l.f.cap', .int .i64 l.f.K] 153;replace j := j.below al;replace hl := hl.below al;have hs6 := al.size;clear al
   go_upto_region 19 with fail
   generalize w5.alloc (.cells #[.int .i64 l.kind, .int .i64 l.pot, .int .i64 l.skip, .slice l.f.a l.f.n l.f.cap, .slice l.f.c l.f.m l.f.cap', .int .i64 l.f.K] 153) = W6 at j qb hl hs6 ⊢;generalize w5.heap.size = XB at qb ⊢
   go_cut [78] (fun b wx => b = .bool (actB (k + 1) (ls ++ [l])) /\ Below W6.heap.size W6 wx)
   case first =>
    refine wp_region_ends (fun X => X.cell? ⟨XB, 0, none⟩ = some (.int .i64 l.kind) /\ X.cell? ⟨XB, 1, none⟩ = some (.int .i64 l.pot) /\ X.cell? ⟨XB, 2, none⟩ = some (.int .i64 l.skip) /\ X.cell? ⟨XB, 3, none⟩ = some (.slice l.f.a l.f.n l.f.cap) /\ X.cell? ⟨XB, 4, none⟩ = some (.slice l.f.c l.f.m l.f.cap') /\ X.cell? ⟨XB, 5, none⟩ = some (.int .i64 l.f.K)) (fun _ => True) 7 (by kernel_rfl) ?_;have HV : Below W6.heap.size W6 W6.drew := (Below.refl _ _).drew;replace j := j.below HV;replace qb := qb.below HV;replace hl := hl.below HV;obtain ⟨V0, hV0⟩ : ∃ V, V = W6.drew := ⟨_, rfl⟩
    rw [<- hV0];have hVW : Below W6.heap.size W6 V0 := by rw [hV0]; exact HV
    rw [<- hV0] at j qb hl;clear hV0 HV;have HV := Below.refl V0.heap.size V0;obtain ⟨Z0, hZ0⟩ : ∃ z, z = V0.heap.size := ⟨_, rfl⟩
    have HZ : Hid (Z0 = V0.heap.size) := hZ0;clear hZ0;have ATS : Hid (∀ i, i < (ls ++ [l]).length -> ((ls ++ [l])[i]?.getD noLV).f.At V0) := fun i hi => at_app j.at' hl i hi;have KP : Hid (∀ X, Below V0.heap.size V0 X -> X.cell? ⟨XB, 0, none⟩ = some (.int .i64 l.kind) /\ X.cell? ⟨XB, 1, none⟩ = some (.int .i64 l.pot) /\ X.cell? ⟨XB, 2, none⟩ = some (.int .i64 l.skip) /\ X.cell? ⟨XB, 3, none⟩ = some (.slice l.f.a l.f.n l.f.cap) /\ X.cell? ⟨XB, 4, none⟩ = some (.slice l.f.c l.f.m l.f.cap') /\ X.cell? ⟨XB, 5, none⟩ = some (.int .i64 l.f.K)) := fun X hX => by have h := qb.below hX; exact ⟨h.cell 0, h.cell 1, h.cell 2, h.cell 3, h.cell 4, h.cell 5⟩
    have hSS := And.intro (KP.out V0 HV) True.intro;refine tkl 1 rfl hSS ?_;refine tkl 3 rfl hSS ?_;clear hSS;refine wpAnyE_two (i := 0) (j := 4) (by kernel_rfl) rfl rfl (fun Kn hK => ?_) (fun Kn hK => ?_)
    ·go_simp;have al := (Below.refl V0.heap.size V0).alloc (qG _) (.cells #[] 153);have hsz := HV.size;have o0 := World.ownsRow_lit (base := Z0) (e := 153) (size := 6) V0 #[] 0 (by rw [HZ.out]; exact hsz) (by unfold maxLen; omega) rfl;replace HV := HV.trans (al.mono hsz);clear al;generalize V0.alloc (.cells #[] 153) = Y1 at HV o0 ⊢;obtain ⟨L0, hL0⟩ : ∃ x, x = V0.heap.size := ⟨_, rfl⟩
     rw [<- hL0];rw [<- hL0] at o0;clear hL0 hsz;have ltL0 : L0 < Y1.heap.size := (o0.lt L0 rfl).2;refine kk0 hK (KP.out _ HV) ?_;clear hK;refine wpAnyE_two (i := 2) (j := 4) (by kernel_rfl) rfl rfl (fun Kn hK => ?_) (fun Kn hK => ?_)
     ·rw [if_pos (by rfl)];refine wp_copyL (.tmp 72) (.tmp 73) rfl Z0 w.heap.size L0 k vad vcap ls (by rfl) o0 (by rfl) (by have h := (j.below HV).o; rw [HK.out] at h; exact h) HK.out (by omega) (by rw [HZ.out]; exact HV.size) ?_;intro v2 Y2 b2 t2 o2 _;rw [HZ.out] at b2;replace HV := HV.trans b2;clear b2 t2 o0 ltL0;refine kk0 hK (KP.out _ HV) ?_;clear hK;refine wpAnyE_one (i := 4) (by kernel_rfl) rfl (fun Kn hK => ?_);go_simp;have al := (Below.refl Y2.heap.size Y2).alloc (qG _) (.cells #[.int .i64 l.kind, .int .i64 l.pot, .int .i64 l.skip, .slice l.f.a l.f.n l.f.cap, .slice l.f.c l.f.m l.f.cap', .int .i64 l.f.K] 153);have hsz := HV.size;have c4 := Cel.new Y2 [.int .i64 l.kind, .int .i64 l.pot, .int .i64 l.skip, .slice l.f.a l.f.n l.f.cap, .slice l.f.c l.f.m l.f.cap', .int .i64 l.f.K] 153;replace o2 := own_belowL o2 al;replace HV := HV.trans (al.mono hsz);clear al;generalize Y2.alloc (.cells #[.int .i64 l.kind, .int .i64 l.pot, .int .i64 l.skip, .slice l.f.a l.f.n l.f.cap, .slice l.f.c l.f.m l.f.cap', .int .i64 l.f.K] 153) = Y3 at HV c4 o2 ⊢;obtain ⟨L4, hL4⟩ : ∃ x, x = Y2.heap.size := ⟨_, rfl⟩
      rw [<- hL4];rw [<- hL4] at c4;clear hL4 hsz;have lt4 := c4.lt;refine kk0 hK (KP.out _ HV) ?_;clear hK;refine wpAnyE_one (i := 5) (by kernel_rfl) rfl (fun Kn hK => ?_);rw [if_pos (by rfl)];obtain ⟨a2, cp2, rfl⟩ := own_slice o2;refine wp_append_lies _ (.tmp 74) (.tmp 76) 57 rfl Z0 153 i0 _ 6 80 Tryz.underlying57 hi hz0 hz1 hz2 rfl (by omega) (.slice a2 k cp2) k (ls.flatMap LV.cs) (by rfl) o2 ⟨L4, 0, none⟩ 1 1 l.cs (by rfl) (by rfl) (World.news_of_block (cs := #[.int .i64 l.kind, .int .i64 l.pot, .int .i64 l.skip, .slice l.f.a l.f.n l.f.cap, .slice l.f.c l.f.m l.f.cap', .int .i64 l.f.K]) (t := 153) (fr := (0, 0)) c4) (by have h := flatL_one [l]; simpa using h) (by omega) (by unfold maxLen; omega) (by omega) (by rw [HZ.out]; exact HV.size) _ rfl ?_;intro g5 cp5 Y4 hown hgrow _ _;replace HV := HV.trans ((Below.refl V0.heap.size Y3).grown hgrow HV.size (fun z hz => by have h := (o2.lt z hz).1; rw [HZ.out] at h; exact h));have g5G : LinesG Y4 (some ⟨g5, 0, none⟩) (ls ++ [l]) := linesG_own (base := Z0) (by rw [qH]; simpa using hown) (by rw [qD, HK.out]; rfl) (fun i hi => (ATS.out i hi).below HV);clear hown hgrow o2 c4;refine kk0 hK (KP.out _ HV) ?_;clear hK;refine wpAnyE_one (i := 6) (by kernel_rfl) rfl (fun Kn hK => ?_);go_simp;refine (sact_any (k + 1) cp5 (ls ++ [l]) (by rw [qD, HK.out]; rfl) g5G (by omega)).mono ?_;rintro e Y5 ⟨rfl, b6⟩;replace HV := btr HV b6;clear b6 g5G;dsimp only;refine kk0 hK (KP.out _ HV) ?_;clear hK
      refine wod ?_ _;clear KP ATS
      go_wp2_with fail
      go_meet
      case rel => exact ⟨rfl, btr hVW HV⟩
     go_simp;have al := (Below.refl Y1.heap.size Y1).alloc (qG _) (.cells #[.int .i64 l.kind, .int .i64 l.pot, .int .i64 l.skip, .slice l.f.a l.f.n l.f.cap, .slice l.f.c l.f.m l.f.cap', .int .i64 l.f.K] 153);have hsz := HV.size;have c4 := Cel.new Y1 [.int .i64 l.kind, .int .i64 l.pot, .int .i64 l.skip, .slice l.f.a l.f.n l.f.cap, .slice l.f.c l.f.m l.f.cap', .int .i64 l.f.K] 153;replace o0 := own_belowL o0 al;replace HV := HV.trans (al.mono hsz);clear al;generalize Y1.alloc (.cells #[.int .i64 l.kind, .int .i64 l.pot, .int .i64 l.skip, .slice l.f.a l.f.n l.f.cap, .slice l.f.c l.f.m l.f.cap', .int .i64 l.f.K] 153) = Y2 at HV c4 o0 ⊢;obtain ⟨L4, hL4⟩ : ∃ x, x = Y1.heap.size := ⟨_, rfl⟩
     rw [<- hL4];rw [<- hL4] at c4;have n04 : L4 ≠ L0 := by omega
     clear hL4 hsz;have lt4 := c4.lt;clear ltL0;have ltL0 : L0 < Y2.heap.size := (o0.lt L0 rfl).2;refine kk0 hK (KP.out _ HV) ?_;clear hK;refine wpAnyE_one (i := 2) (by kernel_rfl) rfl (fun Kn hK => ?_);rw [if_pos (by rfl)];refine wp_copyL (.tmp 72) (.tmp 73) rfl Z0 w.heap.size L0 k vad vcap ls (by rfl) o0 (by rfl) (by have h := (j.below HV).o; rw [HK.out] at h; exact h) HK.out (by omega) (by rw [HZ.out]; exact HV.size) ?_;intro v2 Y3 b2 t2 o2 _;replace c4 := c4.touch t2 n04;clear lt4;rw [HZ.out] at b2;replace HV := HV.trans b2;clear b2 t2 o0 ltL0;refine kk0 hK (KP.out _ HV) ?_;clear hK;refine wpAnyE_one (i := 5) (by kernel_rfl) rfl (fun Kn hK => ?_);rw [if_pos (by rfl)];obtain ⟨a2, cp2, rfl⟩ := own_slice o2;refine wp_append_lies _ (.tmp 74) (.tmp 76) 57 rfl Z0 153 i0 _ 6 80 Tryz.underlying57 hi hz0 hz1 hz2 rfl (by omega) (.slice a2 k cp2) k (ls.flatMap LV.cs) (by rfl) o2 ⟨L4, 0, none⟩ 1 1 l.cs (by rfl) (by rfl) (World.news_of_block (cs := #[.int .i64 l.kind, .int .i64 l.pot, .int .i64 l.skip, .slice l.f.a l.f.n l.f.cap, .slice l.f.c l.f.m l.f.cap', .int .i64 l.f.K]) (t := 153) (fr := (0, 0)) c4) (by have h := flatL_one [l]; simpa using h) (by omega) (by unfold maxLen; omega) (by omega) (by rw [HZ.out]; exact HV.size) _ rfl ?_;intro g5 cp5 Y4 hown hgrow _ _;replace HV := HV.trans ((Below.refl V0.heap.size Y3).grown hgrow HV.size (fun z hz => by have h := (o2.lt z hz).1; rw [HZ.out] at h; exact h))
     have g5G : LinesG Y4 (some ⟨g5, 0, none⟩) (ls ++ [l]) := linesG_own (base := Z0) (by rw [qH]; simpa using hown) (by rw [qD, HK.out]; rfl) (fun i hi => (ATS.out i hi).below HV);clear hown hgrow o2 c4;refine kk0 hK (KP.out _ HV) ?_;clear hK;refine wpAnyE_one (i := 6) (by kernel_rfl) rfl (fun Kn hK => ?_);go_simp;refine (sact_any (k + 1) cp5 (ls ++ [l]) (by rw [qD, HK.out]; rfl) g5G (by omega)).mono ?_;rintro e Y5 ⟨rfl, b6⟩;replace HV := btr HV b6;clear b6 g5G;dsimp only;refine kk0 hK (KP.out _ HV) ?_;clear hK;refine wod ?_ _;clear KP ATS
     go_wp2_with fail
     go_meet
     case rel => exact ⟨rfl, btr hVW HV⟩
    go_simp;have al := (Below.refl V0.heap.size V0).alloc (qG _) (.cells #[.int .i64 l.kind, .int .i64 l.pot, .int .i64 l.skip, .slice l.f.a l.f.n l.f.cap, .slice l.f.c l.f.m l.f.cap', .int .i64 l.f.K] 153);have hsz := HV.size;have c4 := Cel.new V0 [.int .i64 l.kind, .int .i64 l.pot, .int .i64 l.skip, .slice l.f.a l.f.n l.f.cap, .slice l.f.c l.f.m l.f.cap', .int .i64 l.f.K] 153;replace HV := HV.trans (al.mono hsz);clear al;generalize V0.alloc (.cells #[.int .i64 l.kind, .int .i64 l.pot, .int .i64 l.skip, .slice l.f.a l.f.n l.f.cap, .slice l.f.c l.f.m l.f.cap', .int .i64 l.f.K] 153) = Y1 at HV c4 ⊢;obtain ⟨L4, hL4⟩ : ∃ x, x = V0.heap.size := ⟨_, rfl⟩
    rw [<- hL4];rw [<- hL4] at c4;clear hL4 hsz;have lt4 := c4.lt;refine kk0 hK (KP.out _ HV) ?_;clear hK;refine wpAnyE_one (i := 0) (by kernel_rfl) rfl (fun Kn hK => ?_);go_simp;have al := (Below.refl Y1.heap.size Y1).alloc (qG _) (.cells #[] 153);have hsz := HV.size;have o0 := World.ownsRow_lit (base := Z0) (e := 153) (size := 6) Y1 #[] 0 (by rw [HZ.out]; exact hsz) (by unfold maxLen; omega) rfl;replace c4 := c4.below al;replace HV := HV.trans (al.mono hsz);clear al;generalize Y1.alloc (.cells #[] 153) = Y2 at HV o0 c4 ⊢;obtain ⟨L0, hL0⟩ : ∃ x, x = Y1.heap.size := ⟨_, rfl⟩
    rw [<- hL0];rw [<- hL0] at o0;have n04 : L4 ≠ L0 := by omega
    clear hL0 hsz;have ltL0 : L0 < Y2.heap.size := (o0.lt L0 rfl).2;clear lt4;have lt4 := c4.lt;refine kk0 hK (KP.out _ HV) ?_;clear hK;refine wpAnyE_one (i := 2) (by kernel_rfl) rfl (fun Kn hK => ?_);rw [if_pos (by rfl)];refine wp_copyL (.tmp 72) (.tmp 73) rfl Z0 w.heap.size L0 k vad vcap ls (by rfl) o0 (by rfl) (by have h := (j.below HV).o; rw [HK.out] at h; exact h) HK.out (by omega) (by rw [HZ.out]; exact HV.size) ?_;intro v2 Y3 b2 t2 o2 _;replace c4 := c4.touch t2 n04;clear lt4;rw [HZ.out] at b2;replace HV := HV.trans b2;clear b2 t2 o0 ltL0;refine kk0 hK (KP.out _ HV) ?_;clear hK;refine wpAnyE_one (i := 5) (by kernel_rfl) rfl (fun Kn hK => ?_);rw [if_pos (by rfl)];obtain ⟨a2, cp2, rfl⟩ := own_slice o2;refine wp_append_lies _ (.tmp 74) (.tmp 76) 57 rfl Z0 153 i0 _ 6 80 Tryz.underlying57 hi hz0 hz1 hz2 rfl (by omega) (.slice a2 k cp2) k (ls.flatMap LV.cs) (by rfl) o2 ⟨L4, 0, none⟩ 1 1 l.cs (by rfl) (by rfl) (World.news_of_block (cs := #[.int .i64 l.kind, .int .i64 l.pot, .int .i64 l.skip, .slice l.f.a l.f.n l.f.cap, .slice l.f.c l.f.m l.f.cap', .int .i64 l.f.K]) (t := 153) (fr := (0, 0)) c4) (by have h := flatL_one [l]; simpa using h) (by omega) (by unfold maxLen; omega) (by omega) (by rw [HZ.out]; exact HV.size) _ rfl ?_;intro g5 cp5 Y4 hown hgrow _ _;replace HV := HV.trans ((Below.refl V0.heap.size Y3).grown hgrow HV.size (fun z hz => by have h := (o2.lt z hz).1; rw [HZ.out] at h; exact h))
    have g5G : LinesG Y4 (some ⟨g5, 0, none⟩) (ls ++ [l]) := linesG_own (base := Z0) (by rw [qH]; simpa using hown) (by rw [qD, HK.out]; rfl) (fun i hi => (ATS.out i hi).below HV);clear hown hgrow o2 c4;refine kk0 hK (KP.out _ HV) ?_;clear hK;refine wpAnyE_one (i := 6) (by kernel_rfl) rfl (fun Kn hK => ?_);go_simp;refine (sact_any (k + 1) cp5 (ls ++ [l]) (by rw [qD, HK.out]; rfl) g5G (by omega)).mono ?_;rintro e Y5 ⟨rfl, b6⟩;replace HV := btr HV b6;clear b6 g5G;dsimp only;refine kk0 hK (KP.out _ HV) ?_;clear hK;refine wod ?_ _;clear KP ATS
    go_wp2_with fail
    go_meet
    case rel => exact ⟨rfl, btr hVW HV⟩
   case rest =>
    obtain ⟨rfl, HV⟩ := hcut;replace j := j.below HV;replace qb := qb.below HV;replace hl := hl.below HV;have hs7 := HV.size;clear HV
    cases h9 : actB (k + 1) (ls ++ [l])
    ·go_wp2
     go_roundw
     case rel => exact ⟨m - 1, ls, q5, by go_num, by rw [HK.out]; omega, j, HAct.out, by omega, by omega⟩
     case measure => simp [intOf]; omega
    have SZ : ∀ i, i < ls.length -> (∀ b o, (ls[i]?.getD noLV).f.a = some ⟨b, o, none⟩ -> b < wc.heap.size) /\ (∀ b o, (ls[i]?.getD noLV).f.c = some ⟨b, o, none⟩ -> b < wc.heap.size) := fun i hi => ⟨fun b o e => (j.na i hi b o e).2.1, fun b o e => (j.nc i hi b o e).2.1⟩
    have al := (Below.refl wc.heap.size wc).alloc (qG _) (.cells #[.int .i64 l.kind, .int .i64 l.pot, .int .i64 l.skip, .slice l.f.a l.f.n l.f.cap, .slice l.f.c l.f.m l.f.cap', .int .i64 l.f.K] 153);have ja := j.below al;have hla := hl.below al;have b0 := qb.cell 0;have b1 := qb.cell 1;have b2 := qb.cell 2;have b3 := qb.cell 3;have b4 := qb.cell 4;have b5 := qb.cell 5;simp only [List.getElem?_cons_zero, List.getElem?_cons_succ] at b0 b1 b2 b3 b4 b5;have hszA := ja.t.size;clear al j hl
    go_wp2_with (at_builtin; refine wpList_append_lies _ rfl (.tmp 79) (.tmp 81) 57 rfl w.heap.size 153 i0 _ 6 80 Tryz.underlying57 hi hz0 hz1 hz2 rfl (by omega) (.slice vad k vcap) k (ls.flatMap LV.cs) (by rfl) (by have h := ja.o; rw [HK.out] at h; exact h) ⟨wc.heap.size, 0, none⟩ 1 1 l.cs (by rfl) (by rfl) (World.news_of_block (cs := #[.int .i64 l.kind, .int .i64 l.pot, .int .i64 l.skip, .slice l.f.a l.f.n l.f.cap, .slice l.f.c l.f.m l.f.cap', .int .i64 l.f.K]) (t := 153) (fr := (0, 0)) (heap_alloc_new wc _)) (by have h := flatL_one [l]; simpa using h) (by omega) (by unfold maxLen; omega) (by omega) hszA (wc.heap.size + 1) (by rw [qC]) ?_)
    intro g9 cp9 w9 hown hgrow hat _;have jn := ja.app (H := wc.heap.size) HK.out hla (fun b o e => by (have h := la b o e; exact ⟨by omega, by omega, fun e2 => by have := hvb b e2; omega⟩)) (fun b o e => by (have h := lc b o e; exact ⟨by omega, by omega, fun e2 => by have := hvb b e2; omega⟩)) (by rw [qC]; omega) SZ hown hgrow (by rcases hat with h | h; exact .inl h; exact .inr (by omega));clear hown hgrow ja hla b0 b1 b2 b3 b4 b5
    go_wp2
    go_roundw
    case rel => exact ⟨m - 1, ls ++ [l], q5, by go_num, by rw [qD, HK.out]; simp; omega, jn, by rw [qD, HK.out]; exact h9, by omega, by omega⟩
    case measure => simp [intOf]; omega
  have hm' : ¬ (0 : Int) < (m : Int) := by omega
  obtain ⟨vad, vcap, rfl⟩ := own_slice j.o
  go_wp2
  go_ret
  exact ⟨vad, ls.length, vcap, rfl, by first | exact ⟨ls, ⟨q, j, by first | exact ⟨rfl, hact, by omega, by omega⟩ | omega⟩⟩ | (refine ⟨ls, ?_⟩; trace_state; simp [hact]; exact ⟨q, j, by omega, by omega⟩)⟩
structure L2V where
 a : Option Addr
 n : Nat
 cap : Nat
 x : List LV
def noL : L2V := ⟨none, 0, 0, []⟩
def L2V.v (s : L2V) : Value := .slice s.a s.n s.cap
def LG (w : World) (s : L2V) : Prop := s.x.length = s.n /\ LinesG w s.a s.x /\ s.n <= 1048576
theorem LG.below {s : L2V} (h : LG w s) (hb : Below w.heap.size w w') : LG w' s := ⟨h.1, h.2.1.below hb, h.2.2⟩
def LSG (w : World) (ad : Option Addr) (ss : List L2V) : Prop :=
 ∀ i, i < ss.length -> ∃ b off, ad = some ⟨b, off, none⟩ /\ w.cell? ⟨b, off + i, none⟩ = some (ss[i]?.getD noL).v /\ LG w (ss[i]?.getD noL)
theorem LSG.below {ss : List L2V} (h : LSG w ad ss) (hb : Below w.heap.size w w') : LSG w' ad ss := fun i hi => by
 obtain ⟨b, off, e, hc, hr⟩ := h i hi
 exact ⟨b, off, e, by rw [hb.cell (p := ⟨b, off + i, none⟩) (block_lt hc)]; exact hc, hr.below hb⟩
theorem LinesG.off {S : Nat -> Prop} (h : LinesG w ad ls) (t : Touch S w w') (h0 : ∀ b o, ad = some ⟨b, o, none⟩ -> ¬ S b) (h1 : ∀ i, i < ls.length -> (∀ b o, (ls[i]?.getD noLV).f.a = some ⟨b, o, none⟩ -> ¬ S b) /\ (∀ b o, (ls[i]?.getD noLV).f.c = some ⟨b, o, none⟩ -> ¬ S b)) : LinesG w' ad ls := by
 intro i hi;obtain ⟨b, off, e, hc, ha⟩ := h i hi;have hl : b < w.heap.size := block_lt (v := .int .i64 (ls[i]?.getD noLV).kind) (by rw [hc 0 (by omega)]; rfl);have hb := t.block b hl (h0 b off e)
 exact ⟨b, off, e, fun r hr => (World.cell?_of_block hb).trans (hc r hr), ha.off t (h1 i hi).1 (h1 i hi).2⟩
structure AcP (P : Nat -> Prop) (W : World) (s : L2V) : Prop where
 len : s.x.length = s.n
 g : LinesG W s.a s.x
 ok : actB s.n s.x = true
 pa : ∀ b o, s.a = some ⟨b, o, none⟩ -> P b
 pf : ∀ i, i < s.x.length -> (∀ b o, (s.x[i]?.getD noLV).f.a = some ⟨b, o, none⟩ -> P b) /\ (∀ b o, (s.x[i]?.getD noLV).f.c = some ⟨b, o, none⟩ -> P b)
section
variable {P P' : Nat -> Prop} {W W' : World} {s : L2V}
theorem AcP.touch {S : Nat -> Prop} (h : AcP P W s) (t : Touch S W W') (hS : ∀ b, P b -> ¬ S b) : AcP P W' s :=
 ⟨h.len, h.g.off t (fun b o e => hS b (h.pa b o e)) (fun i hi => ⟨fun b o e => hS b ((h.pf i hi).1 b o e), fun b o e => hS b ((h.pf i hi).2 b o e)⟩), h.ok, h.pa, h.pf⟩
theorem AcP.below (h : AcP P W s) (b : Below W.heap.size W W') : AcP P W' s := ⟨h.len, h.g.below b, h.ok, h.pa, h.pf⟩
theorem AcP.mono (h : AcP P W s) (hP : ∀ b, P b -> P' b) : AcP P' W s := ⟨h.len, h.g, h.ok, fun b o e => hP b (h.pa b o e), fun i hi => ⟨fun b o e => hP b ((h.pf i hi).1 b o e), fun b o e => hP b ((h.pf i hi).2 b o e)⟩⟩
theorem AcP.six (h : AcP P W s) : s.n <= 6 := by
 have := h.ok;unfold actB at this;simp only [Bool.and_eq_true, decide_eq_true_eq] at this
 omega
end
theorem JL.act {wL W : World} {R : Nat} {a : Option Addr} {n cap : Nat} {bs : List Int} {q : Int} {N c : Nat} (j : JL wL R a n cap bs q (.slice ad N c) ls W) (hl : ls.length = N) (ho : actB N ls = true) : AcP (fun b => wL.heap.size <= b /\ b < W.heap.size) W ⟨ad, N, c, ls⟩ := by
 refine ⟨hl, j.g hl, ho, fun b o e => ?_, fun i hi => ⟨fun b o e => ⟨(j.na i hi b o e).1, (j.na i hi b o e).2.1⟩, fun b o e => ⟨(j.nc i hi b o e).1, (j.nc i hi b o e).2.1⟩⟩⟩;have e' : ad = some ⟨b, o, none⟩ := e;subst e'
 exact j.o.lt b rfl
structure JAs (w : World) (R : Nat) (a : Option Addr) (n cap : Nat) (bs : List Int) (q : Int) (v : Value) (ss : List L2V) (W : World) : Prop where
 t : Touch (fun x => x = R) w W
 r : Rd W R a n cap bs q
 o : W.ownsRow w.heap.size 57 1 v ss.length (ss.map L2V.v)
 ac : ∀ i, i < ss.length -> AcP (fun b => w.heap.size <= b /\ b < W.heap.size /\ v.ownBlock ≠ some b) W (ss[i]?.getD noL)
 lR : R < w.heap.size
 lb : 0 < n -> ∀ b o, a = some ⟨b, o, none⟩ -> b < w.heap.size
section
variable {w W W' : World} {R : Nat} {a : Option Addr} {n cap : Nat} {bs : List Int} {q : Int} {v : Value} {ss : List L2V}
theorem JAs.below (j : JAs w R a n cap bs q v ss W) (b : Below W.heap.size W W') : JAs w R a n cap bs q v ss W' :=
 ⟨j.t.trans (Touch.of b), j.r.below b, own_belowL j.o b, fun i hi => ((j.ac i hi).below b).mono (fun x h => ⟨h.1, Nat.lt_of_lt_of_le h.2.1 b.size, h.2.2⟩), j.lR, j.lb⟩
theorem JAs.pick {q' : Int} (j : JAs w R a n cap bs q v ss W) (t : Touch (fun x => x = R) W W') (r : Rd W' R a n cap bs q') : JAs w R a n cap bs q' v ss W' := by
 have lR := j.lR
 exact ⟨j.t.trans t, r, ownsRow_touch j.o t (fun k h => by omega), fun i hi => ((j.ac i hi).touch t (fun b h => by omega)).mono (fun x h => ⟨h.1, Nat.lt_of_lt_of_le h.2.1 t.size, h.2.2⟩), j.lR, j.lb⟩
theorem JAs.app {s : L2V} {g c k H : Nat} (j : JAs w R a n cap bs q v ss W) (hk : ss.length = k) (hs : AcP (fun b => w.heap.size <= b /\ b < H /\ v.ownBlock ≠ some b) W s) (hH : H <= W.heap.size) (hsz : ∀ i, i < ss.length -> AcP (fun b => b < H) W (ss[i]?.getD noL))
  (hown : W'.ownsRow w.heap.size 57 1 (.slice (some ⟨g, 0, none⟩) (k + 1) c) (k + 1) (ss.map L2V.v ++ [s.v])) (hg : W.grownBy W' v.ownBlock) (hat : v.ownBlock = some g \/ H <= g) : JAs w R a n cap bs q (.slice (some ⟨g, 0, none⟩) (k + 1) c) (ss ++ [s]) W' := by
 have hr : ∀ x, v.ownBlock = some x -> w.heap.size <= x := fun x hx => (j.o.lt x hx).1;have lR := j.lR;have T : Touch (fun x => v.ownBlock = some x) W W' := ⟨hg.os, hg.tape, hg.output, hg.size, fun x hx hs => hg.block x hx (fun e => hs e.symm)⟩
 have hn : ∀ b, v.ownBlock ≠ some b -> b < H -> (Value.slice (some ⟨g, 0, none⟩) (k + 1) c).ownBlock ≠ some b := fun b h1 h2 e => by
  simp only [Value.ownBlock, qA] at e
  rcases hat with h | h
  ·rw [h] at h1; exact h1 (by rw [e])
  omega
 have hs' := hg.size;refine ⟨j.t.grown hg hr, j.r.touch T (fun e => by have := hr _ e; omega) (fun h0 b o hab e => by have := j.lb h0 b o hab; have := hr _ e; omega), ?_, fun i hi => ?_, j.lR, j.lb⟩
 ·rw [qD, hk, List.map_append];simpa using hown
 by_cases h : i < ss.length
 ·rw [List.getElem?_append_left h];have h1 := (j.ac i h).touch T (fun b hb => hb.2.2);have h2 := hsz i h
  exact ⟨h1.len, h1.g, h1.ok, fun b o e => ⟨(h1.pa b o e).1, by have := h2.pa b o e; omega, hn b (h1.pa b o e).2.2 (h2.pa b o e)⟩, fun m hm => ⟨fun b o e => ⟨((h1.pf m hm).1 b o e).1, by have := (h2.pf m hm).1 b o e; omega, hn b ((h1.pf m hm).1 b o e).2.2 ((h2.pf m hm).1 b o e)⟩, fun b o e => ⟨((h1.pf m hm).2 b o e).1, by have := (h2.pf m hm).2 b o e; omega, hn b ((h1.pf m hm).2 b o e).2.2 ((h2.pf m hm).2 b o e)⟩⟩⟩
 have : i = ss.length := by rw [qD] at hi; simp at hi; omega
 subst this;have e : (ss ++ [s])[ss.length]?.getD noL = s := by simp
 rw [e]
 exact (hs.touch T (fun b hb => hb.2.2)).mono (fun b hb => ⟨hb.1, by omega, hn b hb.2.2 hb.2.1⟩)
end
theorem Tryz.infoLns : (Tryz.prog.info? 57).map (fun i => (i.zero, i.size, i.bytes)) = some (some (.slice none 0 0), 1, 24) := by kernel_rfl
theorem acts_f (R : Nat) (a : Option Addr) (n cap : Nat) (bs : List Int) (p : Int) {w : World} (rd : Rd w R a n cap bs p) (hp : 0 <= p) (hp1 : p <= 6000000) (ha : 0 < n -> ∀ b o, a = some ⟨b, o, none⟩ -> b < w.heap.size) :
  Calls Tryz.prog 125 #[.pointer (some ⟨R, 0, none⟩)] w fun e w' => ∃ ad N c ss q, e = .returned (.slice ad N c) /\ JAs w R a n cap bs q (.slice ad N c) ss w' /\ ss.length = N /\ 1 <= N /\ N <= 4 /\ p <= q /\ q <= p + 330 := by
 have hRl := rd.c.lt;have al := (Below.refl w.heap.size w).alloc (qG _) (.cells #[] 57);have o0 := World.ownsRow_lit (base := w.heap.size) (e := 57) (size := 1) w #[] 0 (qG _) (by unfold maxLen; omega) rfl;have j0 : JAs w R a n cap bs p (.slice (some ⟨w.heap.size, 0, none⟩) 0 0) [] (w.alloc (.cells #[] 57)) := ⟨Touch.of al, rd.below al, o0, fun i hi => by simp at hi, hRl, ha⟩
 obtain ⟨i0, hi, hz0, hz1, hz2⟩ := info_parts Tryz.infoLns;clear al o0 rd
 go_enter Tryz.func125, Tryz.ntmps125
 go_wp2_with fail
 refine (pick_any R a n cap bs p 4 j0.r).mono ?_;rintro e wS ⟨rk, k0, k1, rfl, t5, R5⟩;obtain ⟨rk, rfl⟩ := Int.eq_ofNat_of_zero_le k0;replace j0 := j0.pick t5 R5;clear t5 R5 k0
 go_wp2_with fail
 go_loopw [3, 4] (fun v i wr => ∃ (m : Nat) (ss : List L2V) (q : Int), i = .int .i64 m /\ ss.length + m = rk + 1 /\ JAs w R a n cap bs q v ss wr /\ p <= q /\ q + 80 * m <= p + 330) (fun _ i _ => (intOf i).toNat)
 case atStart => exact ⟨rk + 1, [], _, by go_num, by simp, j0, by omega, by omega⟩
 case round =>
  clear j0;obtain ⟨m, ss, q, rfl, hlm, j, hq0, hq1⟩ := hrel
  by_cases hm : 0 < m
  ·have hm' : (0 : Int) < (m : Int) := by omega
   obtain ⟨k, hk⟩ : ∃ k, k = ss.length := ⟨_, rfl⟩
   have HK : Hid (ss.length = k) := hk.symm;have hlm' : k + m = rk + 1 := by omega
   obtain ⟨vad, vcap, rfl⟩ := own_slice j.o;rw [<- hk] at j;rw [<- hk];clear hk hlm;have hvb := fun x hx => ((j.o.lt x hx).2 : x < wr.heap.size)
   go_wp2_with fail
   refine (act_f R a n cap bs q j.r (by omega) (by omega) j.r.ha).mono ?_;rintro e w5 ⟨ad, N, c, ls, q5, rfl, d5, hN, hok, v0, v1⟩;have hszL := j.t.size;replace j := j.pick d5.t d5.r;have sa := d5.act hN hok;have hs5 := d5.t.size;clear d5;have al := (Below.refl w5.heap.size w5).alloc (qG _) (.cells #[.slice ad N c] 57);have SZ : ∀ i, i < ss.length -> AcP (fun b => b < w5.heap.size) (w5.alloc (.cells #[.slice ad N c] 57)) (ss[i]?.getD noL) := fun i hi => ((j.ac i hi).mono (fun b hb => hb.2.1)).below al;have ja := j.below al;have hsa := (sa.below al).mono (P' := fun b => w.heap.size <= b /\ b < w5.heap.size /\ (Value.slice vad k vcap).ownBlock ≠ some b) (fun b hb => ⟨by omega, hb.2, fun e2 => by have := hvb b e2; omega⟩);have hszA := ja.t.size;clear al j sa
   go_wp2_with (at_builtin; refine wpList_append_lies _ rfl (.tmp 13) (.tmp 16) 23 rfl w.heap.size 57 i0 _ 1 24 Tryz.underlying23 hi hz0 hz1 hz2 rfl (by omega) (.slice vad k vcap) k (ss.map L2V.v) (by rfl) (by have h := ja.o; rw [HK.out] at h; exact h) ⟨w5.heap.size, 0, none⟩ 1 1 [.slice ad N c] (by rfl) (by rfl) (World.news_of_block (cs := #[.slice ad N c]) (t := 57) (fr := (0, 0)) (heap_alloc_new w5 _)) (by simp [Value.oneCell']) (by omega) (by unfold maxLen; omega) (by omega) hszA (w5.heap.size + 1) (by rw [qC]) ?_)
   intro g9 cp9 w9 hown hgrow hat _;have jn := ja.app (s := ⟨ad, N, c, ls⟩) (H := w5.heap.size) HK.out hsa (by rw [qC]; omega) SZ hown hgrow (by rcases hat with h | h; exact .inl h; exact .inr (by omega));clear hown hgrow ja hsa SZ
   go_wp2
   go_roundw
   case rel => exact ⟨m - 1, ss ++ [⟨ad, N, c, ls⟩], q5, by go_num, by rw [qD, HK.out]; simp; omega, jn, by omega, by omega⟩
   case measure => simp [intOf]; omega
  have hm' : ¬ (0 : Int) < (m : Int) := by omega
  obtain ⟨vad, vcap, rfl⟩ := own_slice j.o
  go_wp2
  go_ret
  exact ⟨vad, ss.length, vcap, rfl, by first | exact ⟨ss, ⟨q, j, by first | exact ⟨rfl, by omega, by omega, by omega, by omega⟩ | omega⟩⟩ | (refine ⟨ss, ?_⟩; simp; exact ⟨q, j, by omega⟩)⟩
end Go.Proofs.YtpmihhbgjimpmaaGreatDoor
