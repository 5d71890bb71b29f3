/-
  Lemmas that the claim's last text rests on.
-/
import Derived.Defers
import Derived.Recover
import Derived.Test.YtpmihhbgjimpmaaGreatDoorSxM
namespace Go.Proofs.YtpmihhbgjimpmaaGreatDoor
open Go.RowKit
open World renaming size_alloc → qA
open List renaming getElem?_cons_zero → qB
open Nat renaming le_refl → qC
set_option linter.unusedVariables false
set_option maxRecDepth 100000
set_option maxHeartbeats 25600000
variable {N : Nat} {W : World} {ls : List LV}
theorem touch_grown {S : Nat -> Prop} {w W' : World} {row : Option Nat} (h : Touch S w W) (g : W.grownBy W' row) (hr : ∀ k, row = some k -> S k) : Touch S w W' :=
 ⟨g.os.trans h.os, g.tape.trans h.tape, g.output.trans h.output, Nat.le_trans h.size g.size, fun k hk hs => (g.block k (Nat.lt_of_lt_of_le hk h.size) (fun e => hs (hr k e.symm))).trans (h.block k hk hs)⟩
theorem leave_add (w1 : World) (Dd B cp : Nat) (ua : Option Addr) (cu : Nat) (v : Value) (x tl : List Int) (pn : Nat) (xp : Int) {ga : Option Addr} {gcap : Nat} {gc : Option Addr} {gcap' : Nat} {K : Int} (C D U : List Int) (y : Int) {P R : Int} {W : World} (s : DR w1 Dd B cp ua cu v x tl W) (iC : Ints W ga 3 C) (iD : Ints W gc 2 D) (iU : Ints W ua 2 U) (hy : atV C D K x U = y)
  (p1 : bndP P C x) (p2 : bndP R D U) (zP : 0 <= P) (zQ : 0 <= R) (tP : P <= 100000000000) (tQ : R <= 100000000000) (bK : -10000000 <= K /\ K <= 10000000) (hpn : pn < 3) (hxp : x[pn]?.getD 0 = xp) (r1 : -10000000000 <= xp) (r2 : xp <= 10000000000) (r3 : -1000000000000 <= y) (r4 : y <= 1000000000000) (hB : w1.heap.size <= B) (hDB : Dd ≠ B) :
  Calls Tryz.prog 115 #[.pointer (some ⟨Dd, 0, none⟩), .iface 200 (.agg #[.int .i64 (pn : Int), .slice ga 3 gcap, .slice gc 2 gcap', .int .i64 K])] W fun e w' => e = .returned (.int .i64 0) /\ DR w1 Dd B cp ua cu v (x.set pn (xp + y)) tl w' /\ Touch (fun z => z = B) W w' := by
 have h1 := as_addStep_testStep;have h2 := as_addStep_addStep;have HY : Hid (atV C D K x U = y) := hy;have HXP : Hid (x[pn]?.getD 0 = xp) := hxp;clear hy hxp;have hwr : IntKind.i64.wrap (xp + y) = xp + y := wrap_id;have hpn' : (pn : Int) < 3 := by omega
 have al : Below W.heap.size W (W.alloc (.cells #[.int .i64 (pn : Int), .slice ga 3 gcap, .slice gc 2 gcap', .int .i64 K] 200)) := bal;have bxa := Cel.new W [.int .i64 (pn : Int), .slice ga 3 gcap, .slice gc 2 gcap', .int .i64 K] 200;have sa := s.below al;have ia := iC.below al;have ib := iD.below al;have iu := iU.below al;have lB := s.ox.lt (by omega);have lD := s.d.lt
 have cellp : ∀ Z, OwnX Z (some ⟨B, 0, none⟩) B 3 x -> Z.cell? ⟨B, pn, none⟩ = some (.int .i64 xp) /\ Z.frozen? ⟨B, pn, none⟩ = false := fun Z hZ => by
  obtain ⟨_, h1, h2⟩ := hZ.pos (by omega)
  exact ⟨by rw [h1 pn hpn, HXP.out], h2 pn⟩
 have CP : Hid _ := cellp;clear cellp
 go_enter Tryz.func115, Tryz.ntmps115
 go_upto_region 8 with fail
 obtain ⟨Wa, hWa⟩ : ∃ Wa, Wa = W.alloc (.cells #[.int .i64 (pn : Int), .slice ga 3 gcap, .slice gc 2 gcap', .int .i64 K] 200) := ⟨_, rfl⟩
 rw [<- hWa] at sa bxa ia ib iu al ⊢;clear hWa s iC iD iU;have zal := al.size;obtain ⟨ck, fk⟩ := CP.out Wa sa.ox;have hSS : (Wa.drew.cell? ⟨Dd, 0, none⟩ = some (.slice (some ⟨B, 0, none⟩) 3 cp) /\ Wa.drew.cell? ⟨Dd, 1, none⟩ = some (.slice ua 2 cu) /\ Wa.drew.cell? ⟨W.heap.size, 0, none⟩ = some (.int .i64 (pn : Int)) /\ Wa.drew.cell? ⟨W.heap.size, 1, none⟩ = some (.slice ga 3 gcap) /\ Wa.drew.cell? ⟨W.heap.size, 2, none⟩ = some (.slice gc 2 gcap') /\ Wa.drew.cell? ⟨W.heap.size, 3, none⟩ = some (.int .i64 K)) /\ Wa.drew.cell? ⟨B, pn, none⟩ = some (.int .i64 xp) := ⟨⟨sa.d.cell 0, sa.d.cell 1, bxa.cell 0, bxa.cell 1, bxa.cell 2, bxa.cell 3⟩, ck⟩
 refine wp_region_ends (fun w' => w'.cell? ⟨Dd, 0, none⟩ = some (.slice (some ⟨B, 0, none⟩) 3 cp) /\ w'.cell? ⟨Dd, 1, none⟩ = some (.slice ua 2 cu) /\ w'.cell? ⟨W.heap.size, 0, none⟩ = some (.int .i64 (pn : Int)) /\ w'.cell? ⟨W.heap.size, 1, none⟩ = some (.slice ga 3 gcap) /\ w'.cell? ⟨W.heap.size, 2, none⟩ = some (.slice gc 2 gcap') /\ w'.cell? ⟨W.heap.size, 3, none⟩ = some (.int .i64 K)) (fun w' => w'.cell? ⟨B, pn, none⟩ = some (.int .i64 xp)) 20 (by kernel_rfl) ?_;refine tkl 0 rfl hSS ?_;refine tkl 1 rfl hSS ?_;refine tkl 2 rfl hSS ?_;refine tkl 3 rfl hSS ?_;refine tkl 4 rfl hSS ?_;refine tkl 5 rfl hSS ?_;refine tkl 6 rfl hSS ?_;refine wpAnyE_take1 (i := 7) (v := ?v7) rfl rfl (by kernel_rfl) (by kernel_rfl) (by kernel_rfl) (by decide) (by rfl) (by simp [Region.binds]) (fun _ _ _ h => h) (Or.inl ⟨by rfl, ?hy7⟩) hSS ?_
 case hy7 => (intro wz hSw; (try dsimp only at hSw); go_simp; try (with_reducible rfl))
 refine tkl 8 rfl hSS ?_;refine tkl 9 rfl hSS ?_;refine tkl 10 rfl hSS ?_;refine tkl 11 rfl hSS ?_;refine tkl 12 rfl hSS ?_;refine tkl 13 rfl hSS ?_;refine tkl 14 rfl hSS ?_;refine tkl 15 rfl hSS ?_;refine tkl 16 rfl hSS ?_;refine tkl 17 rfl hSS ?_;refine wpAnyE_one (i := 18) (by kernel_rfl) rfl (fun Kn hK => ?_);go_simp;refine (iatG_any C D x U (ia.below (Below.refl _ _).drew) (ib.below (Below.refl _ _).drew) (sa.ox.ints.below (Below.refl _ _).drew) (iu.below (Below.refl _ _).drew) P R p1 p2 zP zQ tP tQ bK).mono ?_;rintro ee w3 ⟨rfl, b3⟩;rw [HY.out];have b3' := below_of_drew b3;have z3 := b3'.size;have s3 := sa.below b3';have bx3 := bxa.below b3';obtain ⟨ck3, fk3⟩ := CP.out w3 s3.ox;have hSS3 : (w3.cell? ⟨Dd, 0, none⟩ = some (.slice (some ⟨B, 0, none⟩) 3 cp) /\ w3.cell? ⟨Dd, 1, none⟩ = some (.slice ua 2 cu) /\ w3.cell? ⟨W.heap.size, 0, none⟩ = some (.int .i64 (pn : Int)) /\ w3.cell? ⟨W.heap.size, 1, none⟩ = some (.slice ga 3 gcap) /\ w3.cell? ⟨W.heap.size, 2, none⟩ = some (.slice gc 2 gcap') /\ w3.cell? ⟨W.heap.size, 3, none⟩ = some (.int .i64 K)) /\ w3.cell? ⟨B, pn, none⟩ = some (.int .i64 xp) := ⟨⟨s3.d.cell 0, s3.d.cell 1, bx3.cell 0, bx3.cell 1, bx3.cell 2, bx3.cell 3⟩, ck3⟩
 have s4 := s3.set hB hDB hpn (xp + y);have bx4 := bx3.setOther (show W.heap.size ≠ B by omega) pn (.int .i64 (xp + y));have hSS4 : (w3.setCell ⟨B, pn, none⟩ (.int .i64 (xp + y))).cell? ⟨Dd, 0, none⟩ = some (.slice (some ⟨B, 0, none⟩) 3 cp) /\ (w3.setCell ⟨B, pn, none⟩ (.int .i64 (xp + y))).cell? ⟨Dd, 1, none⟩ = some (.slice ua 2 cu) /\ (w3.setCell ⟨B, pn, none⟩ (.int .i64 (xp + y))).cell? ⟨W.heap.size, 0, none⟩ = some (.int .i64 (pn : Int)) /\ (w3.setCell ⟨B, pn, none⟩ (.int .i64 (xp + y))).cell? ⟨W.heap.size, 1, none⟩ = some (.slice ga 3 gcap) /\ (w3.setCell ⟨B, pn, none⟩ (.int .i64 (xp + y))).cell? ⟨W.heap.size, 2, none⟩ = some (.slice gc 2 gcap') /\ (w3.setCell ⟨B, pn, none⟩ (.int .i64 (xp + y))).cell? ⟨W.heap.size, 3, none⟩ = some (.int .i64 K) := ⟨s4.d.cell 0, s4.d.cell 1, bx4.cell 0, bx4.cell 1, bx4.cell 2, bx4.cell 3⟩
 dsimp only;refine hK.out _ _ ⟨hSS3.1, fun _ => hSS3.2⟩ ?_;clear hK hSS;refine tkl 19 rfl hSS3 ?_;refine wpAnyE_one (i := 20) (by kernel_rfl) rfl (fun Kn hK => ?_);go_simp;refine hK.out _ _ ⟨hSS3.1, fun _ => hSS3.2⟩ ?_;clear hK;refine wpAnyE_one (i := 21) (by kernel_rfl) rfl (fun Kn hK => ?_);go_simp;refine hK.out _ _ ⟨hSS4, fun h => absurd (show true = false from h) (by decide)⟩ ?_;clear hK;refine wod ?_ _;have zz : Touch (fun z => z = B) W (w3.setCell ⟨B, pn, none⟩ (.int .i64 (xp + y))) := Touch.setCell (S := fun z => z = B) ((Touch.of al).trans (Touch.of b3')) rfl _;clear b3 b3' sa bxa ia ib iu bx3 bx4 hSS3 hSS4 ck fk ck3 fk3 s3 al
 go_wp2
 go_ret
 exact ⟨rfl, s4, zz⟩
theorem leave_tell (w1 : World) (Dd B cp : Nat) (ua : Option Addr) (cu : Nat) (v : Value) (x tl : List Int) (tn : Nat) {ga : Option Addr} {gcap : Nat} {gc : Option Addr} {gcap' : Nat} {K : Int} (C D U : List Int) (y : Int) {P R : Int} {W : World} (s : DR w1 Dd B cp ua cu v x tl W) (iC : Ints W ga 3 C) (iD : Ints W gc 2 D) (iU : Ints W ua 2 U) (hy : atV C D K x U = y)
  (p1 : bndP P C x) (p2 : bndP R D U) (zP : 0 <= P) (zQ : 0 <= R) (tP : P <= 100000000000) (tQ : R <= 100000000000) (bK : -10000000 <= K /\ K <= 10000000) (htn : tl.length = tn) (ht6 : tn <= 100) (hB : w1.heap.size <= B) (hD : w1.heap.size <= Dd) (hDB : Dd ≠ B) :
  Calls Tryz.prog 115 #[.pointer (some ⟨Dd, 0, none⟩), .iface 202 (.agg #[.slice ga 3 gcap, .slice gc 2 gcap', .int .i64 K])] W fun e w' => e = .returned (.int .i64 0) /\ (∃ v', DR w1 Dd B cp ua cu v' x (tl ++ [y]) w' /\ ∀ F, F < W.heap.size -> v.ownBlock ≠ some F -> v'.ownBlock ≠ some F) /\ Touch (fun z => z = Dd \/ v.ownBlock = some z) W w' := by
 have h1 := as_printStep_testStep;have h2 := as_printStep_addStep;have h3 := as_printStep_printStep;obtain ⟨i0, hi, hz0, hz1, hz2⟩ := info_parts Tryz.infoInt;have HY : Hid (atV C D K x U = y) := hy;have HTN : Hid (tl.length = tn) := htn;clear hy htn;have al : Below W.heap.size W (W.alloc (.cells #[.slice ga 3 gcap, .slice gc 2 gcap', .int .i64 K] 202)) := bal;have bxa := Cel.new W [.slice ga 3 gcap, .slice gc 2 gcap', .int .i64 K] 202;have sa := s.below al;have ia := iC.below al;have ib := iD.below al;have iu := iU.below al;have lB := s.ox.lt (by omega);have lD := s.d.lt;have lv : ∀ z, v.ownBlock = some z -> z < W.heap.size := fun z hz => (s.j.o.lt z hz).2;have HLV : Hid _ := lv;clear lv
 go_enter Tryz.func115, Tryz.ntmps115
 go_upto_region 11 with fail
 obtain ⟨Wa, hWa⟩ : ∃ Wa, Wa = W.alloc (.cells #[.slice ga 3 gcap, .slice gc 2 gcap', .int .i64 K] 202) := ⟨_, rfl⟩
 rw [<- hWa] at sa bxa ia ib iu al ⊢;clear hWa s iC iD iU;have zal := al.size;have hSS : (Wa.drew.cell? ⟨Dd, 0, none⟩ = some (.slice (some ⟨B, 0, none⟩) 3 cp) /\ Wa.drew.cell? ⟨Dd, 1, none⟩ = some (.slice ua 2 cu) /\ Wa.drew.cell? ⟨W.heap.size, 0, none⟩ = some (.slice ga 3 gcap) /\ Wa.drew.cell? ⟨W.heap.size, 1, none⟩ = some (.slice gc 2 gcap') /\ Wa.drew.cell? ⟨W.heap.size, 2, none⟩ = some (.int .i64 K)) /\ Wa.drew.cell? ⟨Dd, 2, none⟩ = some v := ⟨⟨sa.d.cell 0, sa.d.cell 1, bxa.cell 0, bxa.cell 1, bxa.cell 2⟩, sa.d.cell 2⟩
 refine wp_region_ends (fun w' => w'.cell? ⟨Dd, 0, none⟩ = some (.slice (some ⟨B, 0, none⟩) 3 cp) /\ w'.cell? ⟨Dd, 1, none⟩ = some (.slice ua 2 cu) /\ w'.cell? ⟨W.heap.size, 0, none⟩ = some (.slice ga 3 gcap) /\ w'.cell? ⟨W.heap.size, 1, none⟩ = some (.slice gc 2 gcap') /\ w'.cell? ⟨W.heap.size, 2, none⟩ = some (.int .i64 K)) (fun w' => w'.cell? ⟨Dd, 2, none⟩ = some v) 18 (by kernel_rfl) ?_;refine tkl 0 rfl hSS ?_;refine tkl 1 rfl hSS ?_;refine tkl 2 rfl hSS ?_;refine tkl 3 rfl hSS ?_;refine wpAnyE_take1 (i := 4) (v := ?v4) rfl rfl (by kernel_rfl) (by kernel_rfl) (by kernel_rfl) (by decide) (by rfl) (by simp [Region.binds]) (fun _ _ _ h => h) (Or.inl ⟨by rfl, ?hy4⟩) hSS ?_
 case hy4 => (intro wz hSw; (try dsimp only at hSw); go_simp; try (with_reducible rfl))
 refine tkl 5 rfl hSS ?_;refine tkl 6 rfl hSS ?_;refine tkl 7 rfl hSS ?_;refine tkl 8 rfl hSS ?_;refine tkl 9 rfl hSS ?_;refine tkl 10 rfl hSS ?_;refine tkl 11 rfl hSS ?_;refine tkl 12 rfl hSS ?_;refine tkl 13 rfl hSS ?_;refine tkl 14 rfl hSS ?_;refine wpAnyE_one (i := 15) (by kernel_rfl) rfl (fun Kn hK => ?_);go_simp;refine (iatG_any C D x U (ia.below (Below.refl _ _).drew) (ib.below (Below.refl _ _).drew) (sa.ox.ints.below (Below.refl _ _).drew) (iu.below (Below.refl _ _).drew) P R p1 p2 zP zQ tP tQ bK).mono ?_;rintro ee w3 ⟨rfl, b3⟩;rw [HY.out];have b3' := below_of_drew b3;have z3 := b3'.size;have s3 := sa.below b3';have bx3 := bxa.below b3';have jo := s3.j.o;rw [HTN.out] at jo;have hjb := s3.j.b.size;have s3a := s3.alloc (.cells #[.int .i64 y] 3);have bx3a := bx3.alloc (.cells #[.int .i64 y] 3);have hSS3 : (w3.cell? ⟨Dd, 0, none⟩ = some (.slice (some ⟨B, 0, none⟩) 3 cp) /\ w3.cell? ⟨Dd, 1, none⟩ = some (.slice ua 2 cu) /\ w3.cell? ⟨W.heap.size, 0, none⟩ = some (.slice ga 3 gcap) /\ w3.cell? ⟨W.heap.size, 1, none⟩ = some (.slice gc 2 gcap') /\ w3.cell? ⟨W.heap.size, 2, none⟩ = some (.int .i64 K)) /\ w3.cell? ⟨Dd, 2, none⟩ = some v := ⟨⟨s3.d.cell 0, s3.d.cell 1, bx3.cell 0, bx3.cell 1, bx3.cell 2⟩, s3.d.cell 2⟩
 have hSS4 : ((w3.alloc (.cells #[.int .i64 y] 3)).cell? ⟨Dd, 0, none⟩ = some (.slice (some ⟨B, 0, none⟩) 3 cp) /\ (w3.alloc (.cells #[.int .i64 y] 3)).cell? ⟨Dd, 1, none⟩ = some (.slice ua 2 cu) /\ (w3.alloc (.cells #[.int .i64 y] 3)).cell? ⟨W.heap.size, 0, none⟩ = some (.slice ga 3 gcap) /\ (w3.alloc (.cells #[.int .i64 y] 3)).cell? ⟨W.heap.size, 1, none⟩ = some (.slice gc 2 gcap') /\ (w3.alloc (.cells #[.int .i64 y] 3)).cell? ⟨W.heap.size, 2, none⟩ = some (.int .i64 K)) /\ (w3.alloc (.cells #[.int .i64 y] 3)).cell? ⟨Dd, 2, none⟩ = some v := ⟨⟨s3a.d.cell 0, s3a.d.cell 1, bx3a.cell 0, bx3a.cell 1, bx3a.cell 2⟩, s3a.d.cell 2⟩
 dsimp only;refine hK.out _ _ ⟨hSS3.1, fun _ => hSS3.2⟩ ?_;clear hK hSS;refine wpAnyE_one (i := 16) (by kernel_rfl) rfl (fun Kn hK => ?_);go_simp;refine hK.out _ _ ⟨hSS4.1, fun _ => hSS4.2⟩ ?_;clear hK;refine wpAnyE_one (i := 17) (by kernel_rfl) rfl (fun Kn hK => ?_);refine step_append_lies _ (by rfl) _ _ _ (by rfl) w1.heap.size 3 i0 (.int .i64 0) 1 8 Tryz.underlying24 hi hz0 hz1 hz2 rfl (by decide) v tn (tl.map (Value.int .i64)) (by rfl) (jo.alloc _) ⟨w3.heap.size, 0, none⟩ 1 1 [.int .i64 y] (by rfl) rfl (news1) (one1) (by omega) (by unfold maxLen; omega) (by omega) (by rw [qA]; omega) _ rfl ?_;intro g4 cp4 w4 hown hgrow hat hlt4;have d4 := s3.d.grown hgrow s3.nd;have bx4 := bx3.grown hgrow (fun e => by have := HLV.out _ e; omega);have fd4 := d4.free 2;have cd4 := d4.cell 2;simp only [qB, List.getElem?_cons_succ] at cd4;have s5 := s3.app hD hDB HTN.out hown hgrow hat (by rw [qA]; omega) (by rw [qA]; omega);have bx5 := bx4.setOther (show W.heap.size ≠ Dd by omega) 2 (.slice (some ⟨g4, 0, none⟩) (tn + 1) cp4);have hSS5 : (w4.cell? ⟨Dd, 0, none⟩ = some (.slice (some ⟨B, 0, none⟩) 3 cp) /\ w4.cell? ⟨Dd, 1, none⟩ = some (.slice ua 2 cu) /\ w4.cell? ⟨W.heap.size, 0, none⟩ = some (.slice ga 3 gcap) /\ w4.cell? ⟨W.heap.size, 1, none⟩ = some (.slice gc 2 gcap') /\ w4.cell? ⟨W.heap.size, 2, none⟩ = some (.int .i64 K)) /\ w4.cell? ⟨Dd, 2, none⟩ = some v := ⟨⟨d4.cell 0, d4.cell 1, bx4.cell 0, bx4.cell 1, bx4.cell 2⟩, cd4⟩
 have hSS6 : (w4.setCell ⟨Dd, 2, none⟩ (.slice (some ⟨g4, 0, none⟩) (tn + 1) cp4)).cell? ⟨Dd, 0, none⟩ = some (.slice (some ⟨B, 0, none⟩) 3 cp) /\ (w4.setCell ⟨Dd, 2, none⟩ (.slice (some ⟨g4, 0, none⟩) (tn + 1) cp4)).cell? ⟨Dd, 1, none⟩ = some (.slice ua 2 cu) /\ (w4.setCell ⟨Dd, 2, none⟩ (.slice (some ⟨g4, 0, none⟩) (tn + 1) cp4)).cell? ⟨W.heap.size, 0, none⟩ = some (.slice ga 3 gcap) /\ (w4.setCell ⟨Dd, 2, none⟩ (.slice (some ⟨g4, 0, none⟩) (tn + 1) cp4)).cell? ⟨W.heap.size, 1, none⟩ = some (.slice gc 2 gcap') /\ (w4.setCell ⟨Dd, 2, none⟩ (.slice (some ⟨g4, 0, none⟩) (tn + 1) cp4)).cell? ⟨W.heap.size, 2, none⟩ = some (.int .i64 K) := ⟨s5.d.cell 0, s5.d.cell 1, bx5.cell 0, bx5.cell 1, bx5.cell 2⟩
 have zz : Touch (fun z => z = Dd \/ v.ownBlock = some z) W (w4.setCell ⟨Dd, 2, none⟩ (.slice (some ⟨g4, 0, none⟩) (tn + 1) cp4)) :=
  Touch.setCell (S := fun z => z = Dd \/ v.ownBlock = some z) (touch_grown (((Touch.of al).trans (Touch.of b3')).trans (Touch.of (bal))) hgrow (fun z hz => .inr hz)) (.inl rfl) _
 have nf : ∀ F, F < W.heap.size -> v.ownBlock ≠ some F -> Value.ownBlock (.slice (some ⟨g4, 0, none⟩) (tn + 1) cp4) ≠ some F := fun F hF hne e => by
  have e' : g4 = F := by
   have : some g4 = some F := e;simpa using this
  rcases hat with h | h
  ·exact hne (by rw [h, e'])
  rw [qA] at h; omega
 refine hK.out _ _ ⟨hSS5.1, fun _ => hSS5.2⟩ ?_;clear hK;refine wpAnyE_one (i := 18) (by kernel_rfl) rfl (fun Kn hK => ?_);go_simp;refine hK.out _ _ ⟨hSS5.1, fun _ => hSS5.2⟩ ?_;clear hK;refine wpAnyE_one (i := 19) (by kernel_rfl) rfl (fun Kn hK => ?_);go_simp;refine hK.out _ _ ⟨hSS5.1, fun _ => hSS5.2⟩ ?_;clear hK;refine wpAnyE_one (i := 20) (by kernel_rfl) rfl (fun Kn hK => ?_);go_simp;refine hK.out _ _ ⟨hSS6, fun h => absurd (show true = false from h) (by decide)⟩ ?_;clear hK;refine wod ?_ _;clear b3 b3' sa bxa ia ib iu bx3 bx4 bx5 hSS3 hSS4 hSS5 hSS6 s3 s3a bx3a al d4 fd4 cd4 hown hgrow jo
 go_wp2
 go_ret
 exact ⟨rfl, ⟨_, s5, nf⟩, zz⟩
theorem as_nil_sign (w : World) : (Instr.typeAssert .nilIface 20 161 true).run Tryz.prog w = .ok (.tuple #[.agg #[], .bool false]) w := by kernel_rfl
theorem as_sign_sign (w : World) : (Instr.typeAssert (.iface 161 (.agg #[])) 20 161 true).run Tryz.prog w = .ok (.tuple #[.agg #[], .bool true]) w := by kernel_rfl
theorem ne_nil_nil (w : World) : (binOp .neq 20 .nilIface .nilIface).run Tryz.prog w = .ok (.bool false) w := by kernel_rfl
theorem ne_sign_nil (w : World) : (binOp .neq 20 (.iface 161 (.agg #[])) .nilIface).run Tryz.prog w = .ok (.bool true) w := by kernel_rfl
theorem catch_idle (F : Nat) (b : Bool) {w : World} (hc : w.cell? ⟨F, 0, none⟩ = some (.bool b)) (hz : w.frozen? ⟨F, 0, none⟩ = false) :
  CallsD Tryz.prog 114 #[.pointer (some ⟨F, 0, none⟩)] .returning w fun e u' w' => e = .returned (.tuple #[]) /\ u' = .returning /\ w' = w.setCell ⟨F, 0, none⟩ (.bool false) := by
 have h1 := as_nil_sign;have h2 := ne_nil_nil;refine callsD_of_wpS Tryz.func114 rfl fun c₀ cs hu => ?_
 apply wpS_seq
 apply wpS_region
 simp [wpOpsS, go_sem, recoverD, hu, Tryz.ntmps114, Exit.thenS];refine wpS_of_wp ?_
 go_wp2
 cases c₀
 simp_all [bodyPostS, results, Tryz.results114]
theorem catch_stop (F : Nat) (b : Bool) (older : List PanicEntry) {w : World} (hc : w.cell? ⟨F, 0, none⟩ = some (.bool b)) (hz : w.frozen? ⟨F, 0, none⟩ = false) :
  CallsD Tryz.prog 114 #[.pointer (some ⟨F, 0, none⟩)] (.panicking ({ v := .iface 161 (.agg #[]), recovered := false } :: older)) w fun e u' w' => e = .returned (.tuple #[]) /\ u' = .panicking ({ v := .iface 161 (.agg #[]), recovered := true } :: older) /\ w' = w.setCell ⟨F, 0, none⟩ (.bool true) := by
 have h1 := as_sign_sign;have h2 := ne_sign_nil;refine callsD_of_wpS Tryz.func114 rfl fun c₀ cs hu => ?_
 apply wpS_seq
 apply wpS_region
 simp [wpOpsS, go_sem, recoverD, hu, Tryz.ntmps114, Exit.thenS];refine wpS_of_wp ?_
 go_wp2
 simp [bodyPostS, results, Tryz.results114]
theorem DR.other {w1 : World} {Dd B cp : Nat} {ua : Option Addr} {cu : Nat} {v : Value} {x tl : List Int} (s : DR w1 Dd B cp ua cu v x tl W) {F : Nat} (h1 : w1.heap.size <= F) (h2 : Dd ≠ F) (h3 : F ≠ B) (nF : v.ownBlock ≠ some F) (i : Nat) (y : Value) : DR w1 Dd B cp ua cu v x tl (W.setCell ⟨F, i, none⟩ y) :=
 ⟨s.b.setCell h1 _, s.d.setOther h2 _ _, s.ox.setOther (fun _ => h3) _ _, s.j.set h1 nF _ _, s.ne, s.nd⟩
theorem stops_any (w1 : World) (Dd B cp : Nat) (ua : Option Addr) (cu : Nat) (v : Value) (ad : Option Addr) (N : Nat) (ls : List LV) (V U : List Int) (sa : Option Addr) (scap G : Nat) {W : World}
  (hN : ls.length = N) (h6 : N <= 6) (hF : LinesG w1 ad ls) (hall : ls.all LV.ok = true) (hsa : 0 < N -> sa = some ⟨G, 0, none⟩) (hst : ∀ i, i < N -> w1.cell? ⟨G, i, none⟩ = some (stepV (ls[i]?.getD noLV))) (iU : Ints w1 ua 2 U) (bU : bnd 9 U) (bV : bnd 10000 V) (hVL : V.length = 3)
  (s0 : DR w1 Dd B cp ua cu v V [] W) (hB : w1.heap.size <= B) (hD : w1.heap.size <= Dd) (hDB : Dd ≠ B) :
  Calls Tryz.prog 70 #[.pointer (some ⟨Dd, 0, none⟩), .slice sa N scap] W fun e w' => e = .returned (.bool (runL U ls V).1) /\ Below w1.heap.size w1 w' /\ ((runL U ls V).1 = false -> ∃ v' , DR w1 Dd B cp ua cu v' (runL U ls V).2.1 (runL U ls V).2.2 w' /\ (runL U ls V).2.2.length <= 100) := by
 have HN : Hid (ls.length = N) := hN;have HO : Hid (ls.all LV.ok = true) := hall;have HST : Hid _ := hst;have HSA : Hid _ := hsa;clear hN hall hst hsa;have hmf : ∀ (fn : Fn) (first cap : Array Value) (w : World), (Instr.makeFunc fn first cap).run Tryz.prog w = .ok (.func fn first cap) w := fun _ _ _ _ => rfl;have sF := s0.alloc (.cells #[.bool false] 4);have cF := Cel.new W [.bool false] 4;have nF : v.ownBlock ≠ some W.heap.size := fun e => by have := (s0.j.o.lt _ e).2; omega
 have lB := s0.ox.lt (by omega);have lD := s0.d.lt;have HAT : Hid (At U ls V 0 V []) := At.start bV hVL;clear s0
 go_enter_defers Tryz.func70, Tryz.ntmps70
 go_wp2_with fail
 go_loopw [5] (fun i wr => ∃ (k : Nat) (x tl : List Int) (v' : Value), k <= 12 /\ i = .int .i64 k /\ At U ls V k x tl /\ DR w1 Dd B cp ua cu v' x tl wr /\ Cel wr W.heap.size [.bool false] 4 /\ v'.ownBlock ≠ some W.heap.size) (fun i _ => N - (intOf i).toNat)
 case atStart => exact ⟨0, V, [], v, by omega, rfl, HAT.out, sF, cF, nF⟩
 case round =>
  clear sF cF nF HAT;obtain ⟨k, x, tl, v', hk12, rfl, hAt, s, cF, nF⟩ := hrel;have HAT : Hid (At U ls V k x tl) := hAt;clear hAt;have c0 := cF.cell 0;have f0 := cF.free 0;simp only [qB] at c0;have zw := s.b.size;have z1 : w1.heap.size <= W.heap.size := by omega
  by_cases hlt : k < N
  ·obtain ⟨b, off, rfl, hc, hAtL⟩ := (hF.below s.b) k (by rw [HN.out]; exact hlt);have hok := allL_at (k := k) HO.out (by rw [HN.out]; exact hlt);have hkl : Hid (k < ls.length) := by show k < ls.length; rw [HN.out]; exact hlt
   have h6l : Hid (ls.length <= 6) := by show ls.length <= 6; rw [HN.out]; exact h6
   have bX := HAT.out.b (by omega);have bd6 := bd_six (n := k) (by omega);have bdp := bd_pos k;obtain rfl := HSA.out (by omega)
   have hstep : wr.cell? ⟨G, k, none⟩ = some (stepV (ls[k]?.getD noLV)) := by
    have h0 := HST.out k hlt;rw [s.b.cell (p := ⟨G, k, none⟩) (block_lt h0)]; exact h0
   generalize HG : ls[k]?.getD noLV = g at *;have HG' : Hid (ls[k]?.getD noLV = g) := HG;clear HG hc;obtain ⟨gk, gp, gz, ⟨ga, gn, gcap, gc, gm, gcap', gK, gC, gD⟩⟩ := g;obtain ⟨iC, iD, hn, hm⟩ := hAtL;simp only at iC iD hn hm;have iUr := iU.below s.b;have hok' : lineB gk gp gz gn gm gC gD gK = true := hok;clear hok
   by_cases hk1 : gk = 1
   ·subst hk1;obtain ⟨z1', z2', hsm⟩ := line_one hok';obtain ⟨rfl, rfl, bC, bD, bK1, bK2⟩ := small_elim hsm;obtain ⟨q1, q2, q3, q4⟩ := small_at bC bD bK1 bK2 bX bU (by omega);obtain ⟨y, hy⟩ : ∃ y, atV gC gD gK x U = y := ⟨_, rfl⟩
    have HY : Hid (atV gC gD gK x U = y) := hy;have HS : Hid (∀ j, (j = if y < 0 then k + 1 + gz.toNat else k + 1) -> At U ls V j x tl) := fun j hj => HAT.out.skip hkl.out h6l.out HG'.out rfl (by rw [hj, <- hy]; rfl);have hstep' : wr.cell? ⟨G, k, none⟩ = some (.iface 198 (.agg #[.int .i64 gz, .slice ga 3 gcap, .slice gc 2 gcap', .int .i64 gK])) := by rw [hstep]; rfl
    clear hy hok' hsm bX q3 q4 hstep
    by_cases hneg : y < 0
    ·go_wp2_with fail
     refine (leave_test w1 Dd B cp ua cu v' x tl gC gD U y s iC iD iUr HY.out q1 q2 (by omega) (by omega) (by omega) (by omega) ⟨by omega, by omega⟩).mono ?_;rintro e w3 ⟨rfl, b3⟩;rw [if_pos hneg];have s3 := s.below b3;have cF3 := cF.below b3;clear b3 s iC iD iUr q1 q2 c0 f0 cF hstep'
     go_wp2
     go_roundw
     case rel => exact ⟨k + 1 + gz.toNat, x, tl, v', by omega, by go_num, HS.out _ (by rw [if_pos hneg]), s3, cF3, nF⟩
     case measure => simp [intOf]; omega
    go_wp2_with fail
    refine (leave_test w1 Dd B cp ua cu v' x tl gC gD U y s iC iD iUr HY.out q1 q2 (by omega) (by omega) (by omega) (by omega) ⟨by omega, by omega⟩).mono ?_;rintro e w3 ⟨rfl, b3⟩;rw [if_neg (by omega)];have s3 := s.below b3;have cF3 := cF.below b3;clear b3 s iC iD iUr q1 q2 c0 f0 cF hstep'
    go_wp2
    go_roundw
    case rel => exact ⟨k + 1, x, tl, v', by omega, by go_num, HS.out _ (by rw [if_neg (by omega)]), s3, cF3, nF⟩
    case measure => simp [intOf]; omega
   by_cases hk2 : gk = 2
   ·subst hk2;obtain ⟨z1', z2', hsm⟩ := line_two hok';obtain ⟨rfl, rfl, bC, bD, bK1, bK2⟩ := small_elim hsm;obtain ⟨q1, q2, q3, q4⟩ := small_at bC bD bK1 bK2 bX bU (by omega);obtain ⟨pn, rfl⟩ := Int.eq_ofNat_of_zero_le z1';have hpn : pn < 3 := by omega
    obtain ⟨xp, hxp⟩ : ∃ xp, x[pn]?.getD 0 = xp := ⟨_, rfl⟩
    have HXP : Hid (x[pn]?.getD 0 = xp) := hxp;obtain ⟨r1, r2⟩ := bX pn;rw [hxp] at r1 r2;obtain ⟨y, hy⟩ : ∃ y, atV gC gD gK x U = y := ⟨_, rfl⟩
    have HY : Hid (atV gC gD gK x U = y) := hy;rw [hy] at q3 q4
    have HS : Hid (At U ls V (k + 1) (x.set pn (xp + y)) tl) := by
     have := HAT.out.add hkl.out h6l.out HG'.out rfl (by show _ <= atV gC gD gK x U; rw [hy]; omega) (by show atV gC gD gK x U <= _; rw [hy]; omega);simp only [Int.toNat_natCast, hxp] at this;rw [show atF x U ⟨ga, 3, gcap, gc, 2, gcap', gK, gC, gD⟩ = y from hy] at this
     exact this
    have hstep' : wr.cell? ⟨G, k, none⟩ = some (.iface 200 (.agg #[.int .i64 (pn : Int), .slice ga 3 gcap, .slice gc 2 gcap', .int .i64 gK])) := by rw [hstep]; rfl
    clear hy hxp hok' hsm bX hstep
    go_wp2_with fail
    refine (leave_add w1 Dd B cp ua cu v' x tl pn xp gC gD U y s iC iD iUr HY.out q1 q2 (by omega) (by omega) (by omega) (by omega) ⟨by omega, by omega⟩ hpn HXP.out (by omega) (by omega) (by omega) (by omega) hB hDB).mono ?_;rintro e w3 ⟨rfl, s3, t3⟩;have cF3 := cF.touch t3 (fun e => by omega);clear t3 s iC iD iUr q1 q2 c0 f0 cF hstep'
    go_wp2
    go_roundw
    case rel => exact ⟨k + 1, _, tl, v', by omega, by go_num, HS.out, s3, cF3, nF⟩
    case measure => simp [intOf]; omega
   by_cases hk3 : gk = 3
   ·subst hk3;have hsm := line_three hok';obtain ⟨rfl, rfl, bC, bD, bK1, bK2⟩ := small_elim hsm;obtain ⟨q1, q2, q3, q4⟩ := small_at bC bD bK1 bK2 bX bU (by omega);obtain ⟨y, hy⟩ : ∃ y, atV gC gD gK x U = y := ⟨_, rfl⟩
    have HY : Hid (atV gC gD gK x U = y) := hy
    have HS : Hid (At U ls V (k + 1) x (tl ++ [y])) := by
     have := HAT.out.tell hkl.out h6l.out HG'.out rfl;rw [show atF x U ⟨ga, 3, gcap, gc, 2, gcap', gK, gC, gD⟩ = y from hy] at this
     exact this
    have ht := HAT.out.t;have hstep' : wr.cell? ⟨G, k, none⟩ = some (.iface 202 (.agg #[.slice ga 3 gcap, .slice gc 2 gcap', .int .i64 gK])) := by rw [hstep]; rfl
    have lF := cF.lt;clear hy hok' hsm bX q3 q4 hstep
    go_wp2_with fail
    refine (leave_tell w1 Dd B cp ua cu v' x tl tl.length gC gD U y s iC iD iUr HY.out q1 q2 (by omega) (by omega) (by omega) (by omega) ⟨by omega, by omega⟩ rfl (by omega) hB hD hDB).mono ?_;rintro e w3 ⟨rfl, ⟨v2, s3, nf⟩, t3⟩
    have cF3 := cF.touch t3 (fun e => by
     rcases e with e | e
     ·omega
     exact nF e)
    have nF3 := nf _ lF nF;clear t3 s iC iD iUr q1 q2 c0 f0 cF hstep' nf
    go_wp2
    go_roundw
    case rel => exact ⟨k + 1, x, tl ++ [y], v2, by omega, by go_num, HS.out, s3, cF3, nF3⟩
    case measure => simp [intOf]; omega
   have hk4 : gk = 4 := by
    apply Classical.byContradiction
    intro h4;simp [lineB, hk1, hk2, hk3, h4] at hok'
   subst hk4;have hstop : (runL U ls V).1 = true := HAT.out.stop hkl.out h6l.out HG'.out hk1 hk2 hk3;have HSTOP : Hid ((runL U ls V).1 = true) := hstop;have hstep' : wr.cell? ⟨G, k, none⟩ = some (.iface 203 (.agg #[])) := by rw [hstep]; rfl
   clear hstop hstep hok' bX
   go_wp2_with fail
   refine (leave_stop).mono ?_;rintro e w3 ⟨rfl, b3⟩;have s3 := s.below b3;have cF3 := cF.below b3;clear b3 s cF c0 f0
   go_wp2
   refine leaves_cons (f := 114) (args := #[.pointer (some ⟨W.heap.size, 0, none⟩)]) (by simp) (by simp [go_sem]) ?_;refine (catch_stop W.heap.size false [] (cF3.cell 0) (cF3.free 0)).mono ?_;rintro e u' w'' ⟨rfl, rfl, rfl⟩;have cF4 := (cF3.set 0 (.bool true)).cell 0;simp only [List.set_cons_zero, qB] at cF4;have b4 : Below w1.heap.size w1 (w3.setCell ⟨W.heap.size, 0, none⟩ (.bool true)) := s3.b.setCell z1 _;simp [Leaves, settle, results, Tryz.results70, go_sem, cF4]
   exact ⟨HSTOP.out, b4, fun h => by rw [HSTOP.out] at h; cases h⟩
  have hd := HAT.out.done (by rw [HN.out]; omega);have HD : Hid (runL U ls V = (false, x, tl)) := hd;have ht := HAT.out.t;clear hd
  go_wp2
  have cF1 := cF.set 0 (.bool false);refine leaves_cons (f := 114) (args := #[.pointer (some ⟨W.heap.size, 0, none⟩)]) (by simp) (by simp [go_sem]) ?_;refine (catch_idle W.heap.size false (cF1.cell 0) (cF1.free 0)).mono ?_;rintro e u' w'' ⟨rfl, rfl, rfl⟩;have cF2 := (cF1.set 0 (.bool false)).cell 0;have s2 := (s.other (F := W.heap.size) z1 (by omega) (by omega) nF 0 (.bool false)).other (F := W.heap.size) z1 (by omega) (by omega) nF 0 (.bool false);simp only [List.set_cons_zero, qB] at cF2;simp [Leaves, settle, results, Tryz.results70, go_sem, cF2];rw [HD.out]
  exact ⟨rfl, s2.b, fun _ => ⟨⟨v', s2⟩, by show tl.length <= 100; omega⟩⟩
theorem JS.open {w : World} {v : Value} (j : JS w v (ls.map stepV) W) (hN : ls.length = N) : ∃ sa cap G, v = .slice sa N cap /\ (0 < N -> sa = some ⟨G, 0, none⟩) /\ ∀ i, i < N -> W.cell? ⟨G, i, none⟩ = some (stepV (ls[i]?.getD noLV)) := by
 have hl : (ls.map stepV).length = N := by rw [List.length_map, hN]
 rcases j.o.2 with ⟨hv, h⟩ | ⟨g, cap', cur, hv, hg, hh, hcl, _, hs, ht⟩
 ·rw [hl] at h;subst h
  exact ⟨none, 0, 0, hv, fun h => by omega, fun i h => by omega⟩
 have o := j.o;rw [hl] at hv o;rw [hv] at o;refine ⟨some ⟨g, 0, none⟩, cap', g, hv, fun _ => rfl, fun i hi => ?_⟩;rw [o.cellAt i (by omega), List.getElem?_map, List.getElem?_eq_getElem (by omega)]
 rfl
theorem irun_any {ad : Option Addr} (N : Nat) {cap : Nat} (ls : List LV) {v : Option Addr} (p : Nat) {cv : Nat} (V : List Int) {u : Option Addr} (q : Nat) {cu : Nat} (U : List Int) {w : World} (hN : ls.length = N) (hF : LinesG w ad ls) (hN1 : N <= 1048576) (hV : Ints w v p V) (hU : Ints w u q U) (hp : p <= 1048576) (hq : q <= 1048576) :
  Calls Tryz.prog 24 #[.slice ad N cap, .slice v p cv, .slice u q cu] w fun e w' => ResD w w' e (runCode N ls p V q U) (runTells N ls p V q U) (runPots N ls p V q U) := by
 have rc0 := Cel.new w [.int .i64 0, .slice none 0 0] 54;have B0 : Below w.heap.size w (w.alloc (.cells #[.int .i64 0, .slice none 0 0] 54)) := bal;have HN : Hid (ls.length = N) := hN;clear hN;obtain ⟨rb, hrb⟩ : ∃ rb, rb = actB N ls := ⟨_, rfl⟩
 obtain ⟨vb, hvb⟩ : ∃ vb, vb = okN 3 10000 p V := ⟨_, rfl⟩
 obtain ⟨ub, hub⟩ : ∃ ub, ub = okN 2 9 q U := ⟨_, rfl⟩
 have HR : Hid (rb = actB N ls) := hrb;have HV : Hid (vb = okN 3 10000 p V) := hvb;have HU : Hid (ub = okN 2 9 q U) := hub;clear hrb hvb hub
 go_enter Tryz.func24, Tryz.ntmps24
 go_wp2_with fail
 refine (isteps_any ls HN.out (hF.below B0) hN1).mono ?_;rintro e w1 ⟨sv, rfl, b1, hj⟩;have rc1 := rc0.below b1;have B1 := btr B0 b1;have hlt1 := rc1.lt;rw [<- HR.out] at hj ⊢;clear b1 rc0 B0;obtain ⟨d0, d1, f0, f1⟩ := rc1.pair
 cases rb
 ·have E : Hid _ := run_no (p := p) (q := q) (V := V) (U := U) (show runB N ls p V q U = false by rw [runB, <- HR.out]; rfl)
  go_wp2
  refine bodyPost_ret (v := .tuple #[resV 0 none 0 0, .slice none 0 0]) (by simp [results, Tryz.results24, go_sem, d0, d1]) rfl ?_;obtain ⟨e1, e2, e3⟩ := E.out;rw [e1, e2, e3]
  exact ⟨none, 0, 0, 0, _, 0, 0, 0, rfl, rfl, rfl, (B1.setCell (by simp only []; omega) _).setCell (by simp only []; omega) _, OwnX.nil _ _ _, OwnX.nil _ _ _, fun h => by omega, fun h => by omega, fun h => by omega⟩
 have js : Hid _ := hj rfl;clear hj
 go_wp2_with fail
 refine (ival_any V (hV.below B1) hp).mono ?_;rintro e w2 ⟨rfl, hw2⟩;rw [<- HV.out, hw2];clear hw2
 cases vb
 ·have E : Hid _ := run_no (p := p) (q := q) (V := V) (U := U) (show runB N ls p V q U = false by rw [runB, <- HR.out, <- HV.out]; rfl)
  go_wp2
  refine bodyPost_ret (v := .tuple #[resV 0 none 0 0, .slice none 0 0]) (by simp [results, Tryz.results24, go_sem, d0, d1]) rfl ?_;obtain ⟨e1, e2, e3⟩ := E.out;rw [e1, e2, e3]
  exact ⟨none, 0, 0, 0, _, 0, 0, 0, rfl, rfl, rfl, (B1.setCell (by simp only []; omega) _).setCell (by simp only []; omega) _, OwnX.nil _ _ _, OwnX.nil _ _ _, fun h => by omega, fun h => by omega, fun h => by omega⟩
 go_wp2_with fail
 refine (iarg_any U (hU.below B1) hq).mono ?_;rintro e w2 ⟨rfl, hw2⟩;rw [<- HU.out, hw2];clear hw2
 cases ub
 ·have E : Hid _ := run_no (p := p) (q := q) (V := V) (U := U) (show runB N ls p V q U = false by rw [runB, <- HR.out, <- HV.out, <- HU.out]; rfl)
  go_wp2
  refine bodyPost_ret (v := .tuple #[resV 0 none 0 0, .slice none 0 0]) (by simp [results, Tryz.results24, go_sem, d0, d1]) rfl ?_;obtain ⟨e1, e2, e3⟩ := E.out;rw [e1, e2, e3]
  exact ⟨none, 0, 0, 0, _, 0, 0, 0, rfl, rfl, rfl, (B1.setCell (by simp only []; omega) _).setCell (by simp only []; omega) _, OwnX.nil _ _ _, OwnX.nil _ _ _, fun h => by omega, fun h => by omega, fun h => by omega⟩
 have HB : Hid (runB N ls p V q U = true) := by show _ = _; rw [runB, <- HR.out, <- HV.out, <- HU.out]; rfl
 obtain ⟨h6, hall⟩ := actB_six HR.out.symm;have HO : Hid (ls.all LV.ok = true) := hall;obtain ⟨rfl, bV⟩ := okN_nat (c := 3) (by omega) HV.out.symm;obtain ⟨rfl, bU⟩ := okN_nat (c := 2) (by omega) HU.out.symm;have HVL : Hid (V.length = 3) := hV.1;obtain ⟨sa, scap, G, rfl, hsa, hst⟩ := js.out.open HN.out;have HSA : Hid _ := hsa;have HST : Hid _ := hst;clear hsa hst js hall
 go_wp2_with fail
 refine (clone_any _ _ _ V (hV.below B1)).mono ?_;rintro e w2 ⟨r, rfl, j⟩;have rc2 := rc1.below j.b;have B2 := btr B1 j.b;have jb := j.b;obtain ⟨x0, cx, B, rfl, hX, hB⟩ := j.ownx HVL.out;have hB' := hB (by omega);obtain ⟨eB, _, _⟩ := hX.pos (by omega);subst eB;have lB := hX.lt (by omega)
 have s0 : DR w1 w2.heap.size B cx u cu (.slice none 0 0) V [] (w2.alloc (.cells #[.slice (some ⟨B, 0, none⟩) 3 cx, .slice u 2 cu, .slice none 0 0] 114)) := by
  refine ⟨jb.alloc jb.size _, Cel.new w2 _ _, hX.alloc _, ⟨jb.alloc jb.size _, World.ownsRow_nil _ _ _ _⟩, ?_, ?_⟩ <;> (intro h; cases h)
 have rc2a := rc2.alloc (.cells #[.slice (some ⟨B, 0, none⟩) 3 cx, .slice u 2 cu, .slice none 0 0] 114);have rc1' : Hid (Cel w1 w.heap.size [.int .i64 0, .slice none 0 0] 54) := rc1;clear d0 d1 f0 f1 rc1 j hB hX rc2;have z2 := jb.size
 go_wp2_with fail
 refine (stops_any w1 w2.heap.size B cx u cu (.slice none 0 0) ad N ls V U sa scap G HN.out h6 (hF.below B1) HO.out HSA.out HST.out (hU.below B1) bU bV HVL.out s0 hB' z2 (by omega)).mono ?_;rintro e w3 ⟨rfl, b3, hgo⟩;have B3 : Below w.heap.size w w3 := btr B1 b3;obtain ⟨cw0, cw1⟩ : w1.heap.size <= w3.heap.size /\ w.heap.size < w1.heap.size := ⟨b3.size, hlt1⟩
 have rc3 : Cel w3 w.heap.size [.int .i64 0, .slice none 0 0] 54 := by
  have := rc1'.out;unfold Cel at *;rw [b3.block _ hlt1]; exact this
 obtain ⟨⟨stp, x, tl⟩, hrun⟩ : ∃ r, runL U ls V = r := ⟨_, rfl⟩
 rw [hrun] at hgo ⊢;have HRUN : Hid (runL U ls V = (stp, x, tl)) := hrun;clear hrun s0 rc2a;obtain ⟨d0, d1, f0, f1⟩ := rc3.pair
 cases stp
 case true =>
  have E : Hid _ := run_stop HB.out (by rw [HRUN.out]);clear hgo
  go_wp2_with fail
  refine (clone_any _ _ _ V (hV.below B3)).mono ?_;rintro e w4 ⟨r, rfl, j⟩;have rc4 := rc3.below j.b;obtain ⟨x4, cx4, B4, rfl, hX4, hB4⟩ := j.ownx HVL.out;have bb := btr B3 j.b;clear d0 d1 f0 f1;obtain ⟨d0, d1, f0, f1⟩ := rc4.pair;have hlt4 := rc4.lt;clear rc4 j rc3
  go_wp2
  refine bodyPost_ret (v := .tuple #[resV 2 none 0 0, .slice x4 3 cx4]) (by simp [results, Tryz.results24, go_sem, d0, d1]) rfl ?_;obtain ⟨e1, e2, e3⟩ := E.out;rw [e1, e2, e3];refine ⟨none, 0, 0, 0, x4, 3, cx4, B4, rfl, rfl, HVL.out, ?_, OwnX.nil _ _ _, ?_, fun h => by omega, fun h => by have := hB4 h; omega, fun h => by omega⟩
  ·exact (bb.setCell (qC _) _).setCell (qC _) _
  exact (hX4.setOther (fun h => by have := hB4 h; omega) _ _).setOther (fun h => by have := hB4 h; omega) _ _
 case false =>
  have E : Hid _ := run_go HB.out HRUN.out;obtain ⟨v', s3, htl⟩ := hgo rfl;clear hgo;obtain ⟨tn, htn⟩ : ∃ tn, tl.length = tn := ⟨_, rfl⟩
  have HTN : Hid (tl.length = tn) := htn;obtain ⟨ta, ctt, BT, hv, hT, hBT⟩ := s3.j.ownx HTN.out
  have hne : 0 < tn -> BT ≠ B := fun h0 e => by
   obtain ⟨e1, _, _⟩ := hT.pos h0
   exact s3.ne (by rw [hv, e1, e]; rfl)
  have ox := s3.ox;have c0 := s3.d.cell 0;have c2 := s3.d.cell 2;simp only [qB, List.getElem?_cons_succ] at c0 c2;clear htn s3;subst hv
  go_wp2_with fail
  refine (done_any B BT V x tl (hV.below B3) ox hT hne (w.heap.size + 1) (fun h => by have := hBT h; omega) (by omega) (by omega)).mono ?_;rintro e w6 ⟨ra, rn, rcap, RB1, pb, pm, pcap, RB2, rfl, L1, L2, b6, O1, O2, y1, y2, y3⟩;have rc6 := rc3.below b6;have b66 := btr B3 b6;have hlt6 := rc6.lt;clear d0 d1 f0 f1;obtain ⟨d0, d1, f0, f1⟩ := rc6.pair;clear rc6 rc3 ox hT c0 c2
  go_wp2
  refine bodyPost_ret (v := .tuple #[resV (endCode x) ra rn rcap, .slice pb pm pcap]) (by simp [results, Tryz.results24, go_sem, d0, d1]) rfl ?_;obtain ⟨e1, e2, e3⟩ := E.out;rw [e1, e2, e3];refine ⟨ra, rn, rcap, RB1, pb, pm, pcap, RB2, rfl, L1, L2, ?_, ?_, ?_, fun h => by have := y1 h; omega, fun h => by have := y2 h; omega, y3⟩
  ·exact (b66.setCell (qC _) _).setCell (qC _) _
  ·exact (O1.setOther (fun h => by have := y1 h; omega) _ _).setOther (fun h => by have := y1 h; omega) _ _
  exact (O2.setOther (fun h => by have := y2 h; omega) _ _).setOther (fun h => by have := y2 h; omega) _ _
theorem goL_len (U : List Int) (ls : List LV) : ∀ (f i : Nat) (x tl : List Int), (goL U ls f i x tl).2.1.length = x.length /\ (goL U ls f i x tl).2.2.length <= tl.length + f
 | 0, i, x, tl => by simp [goL]
 | f + 1, i, x, tl => by
  unfold goL
  split
  ·split
   ·have h := goL_len U ls f (if atF x U (ls[i]?.getD noLV).f < 0 then i + 1 + (ls[i]?.getD noLV).skip.toNat else i + 1) x tl
    exact ⟨h.1, by omega⟩
   split
   ·have h := goL_len U ls f (i + 1) (x.set (ls[i]?.getD noLV).pot.toNat (x[(ls[i]?.getD noLV).pot.toNat]?.getD 0 + atF x U (ls[i]?.getD noLV).f)) tl
    exact ⟨by rw [h.1, List.length_set], by omega⟩
   split
   ·have h := goL_len U ls f (i + 1) x (tl ++ [atF x U (ls[i]?.getD noLV).f]);rw [List.length_append] at h
    exact ⟨h.1, by simp only [List.length_cons, List.length_nil] at h; omega⟩
   simp
  simp
theorem runTells_le {p : Nat} {V : List Int} {q : Nat} {U : List Int} : (runTells N ls p V q U).length <= 7 := by
 have h := (goL_len U ls 7 0 V []).2;unfold runTells
 split
 ·split
  ·simp
  unfold endTells
  split
  ·unfold runL; simpa using h
  simp
 simp
theorem runPots_le {p : Nat} {V : List Int} {q : Nat} {U : List Int} : (runPots N ls p V q U).length <= V.length := by
 have h := (goL_len U ls 7 0 V []).1;unfold runPots
 split
 ·split
  ·exact qC _
  unfold endPots
  split
  ·unfold runL; omega
  exact qC _
 simp
end Go.Proofs.YtpmihhbgjimpmaaGreatDoor
