/-
  Lemmas that the claim's last text rests on.
-/
import Derived.Maps.OwnSet
import Derived.Maps.RangeWalk
import Derived.WideKeyArr2
import Derived.Test.YtpmihhbgjimpmaaGreatDoorNxP
namespace Go.Proofs.YtpmihhbgjimpmaaGreatDoor
open Go.RowKit Go.Deep Go.Shelf
open Go.WideMaps (ArrKey)
open World renaming size_alloc → qA
open List renaming setIfInBounds_toArray → qB, set_cons_zero → qC, set_cons_succ → qD, getElem?_eq_getElem → qE, getElem_cons_zero → qF, getElem_cons_succ → qG, getElem_toArray → qH, length_append → qI, take_succ_eq_append_getElem → qJ, length_cons → qK, length_nil → qL, size_toArray → qN
open Nat renaming le_refl → qM
set_option linter.unusedVariables false
set_option maxRecDepth 100000
set_option maxHeartbeats 25600000
variable {B G k l n : Nat} {C p : List Int} {X Y w : World} {ls : List LV} {ps : List (List Int)} {t : TypeId} {vs : List Value}
attribute [local go_sem] Oper.semAt_some
theorem not_true_ofQ {b : Bool} (h : b = false) : ¬ b = true := by rw [h]; decide
theorem past_test (l : Nat) {sa : Option Addr} (N sc : Nat) {nx : Int} (sk : Int) (hnx : 0 <= nx /\ nx <= 100) (hsk : 0 <= sk /\ sk <= 100) (i : Nat) (y : Way) (hy : WayOk i y) (h6 : i <= 5) (g : FV) (hs : smallB g.n g.m g.C g.D g.K = true) (ga : Option Addr) (ng gc : Nat) (pa : Option Addr) (cp : Nat) (ta : Option Addr) (nt tc : Nat) (J1 : Bool -> World -> Prop) {J2 : Bool -> World -> Prop} (hJ1 : ∀ X Y, J1 true X -> Below X.heap.size X Y -> J1 true Y) (hJF : ∀ Y, J1 false Y -> J2 false Y) (W : World) (n : Nat) (hA : g.At W) (hP : FormsAt W pa y.pots) (hG : FormsAt W ga y.guards) (hgl : y.guards.length = ng)
  (hgo1 : ∀ X ga' gc', Below W.heap.size W X -> FormsAt X ga' (y.guards ++ [intoX g y.pots]) -> GoesOn l sa N sc nx (wayV ga' (ng + 1) gc' pa cp ta nt tc false) J1 X)
  (hgo2 : ∀ X ga' gc', KpR W X -> J1 true X -> FormsAt X ga' (y.guards ++ [minusX (intoX g y.pots)]) -> GoesOn l sa N sc (nx + sk) (wayV ga' (ng + 1) gc' pa cp ta nt tc false) J2 X) :
  CallsIn Fence.wide n Tryz.prog 175 #[wayV ga ng gc pa cp ta nt tc false, .iface 198 (.agg #[.int .i64 sk, .slice g.a g.n g.cap, .slice g.c g.m g.cap', .int .i64 g.K]), .int .i64 nx, goV l sa N sc] W fun e Y => ∃ b : Bool, e = .returned (.bool b) /\ J2 b Y /\ KpR W Y := by
 have hdd : ∀ k : Nat, (Fence.wide.depth.isSome = true -> 1 <= k) := fun k h => by simp [Fence.wide] at h
 obtain ⟨hnx0, hnx1⟩ := hnx;obtain ⟨hsk0, hsk1⟩ := hsk;obtain ⟨-, fit2, fit3⟩ := hy.into (by omega) (f := g) hs hA.D.1;have HY : Hid (WayOk i y) := hy;have HGL : Hid (y.guards.length = ng) := hgl;have ng1 : ng <= 100 := by have := hy.gl; omega
 obtain ⟨FX, hFX⟩ : ∃ FX, FX = intoX g y.pots := ⟨_, rfl⟩
 have HFX : Hid (intoX g y.pots = FX) := hFX.symm;rw [<- hFX] at fit2 fit3 hgo1 hgo2;have lXC := fit2.c;have lXD := fit2.d;have bXC := fit2.bc;have bXD := fit2.bd;have bX1 := fit2.k1;have bX2 := fit2.k2;have HF3 : Hid (fitX 10000000 (minusX FX)) := fit3;have hK3 : (minusX FX).2.2 = -FX.2.2 - 1 := by simp only [minusX]; omega
 have HK3 : Hid _ := hK3;have hw : IntKind.i64.wrap (nx + sk) = nx + sk := wrap_id (by omega) (by omega);clear fit2 fit3 hy hgl hFX hK3;have A0 : Below W.heap.size W ((W.alloc (.cells #[.slice ga ng gc, .slice pa 3 cp, .slice ta nt tc, .bool false] 223)).alloc (.cells #[.int .i64 sk, .slice g.a g.n g.cap, .slice g.c g.m g.cap', .int .i64 g.K] 198)) := (bal).alloc (by simp) _;have x0 := (Cel.new W [.slice ga ng gc, .slice pa 3 cp, .slice ta nt tc, .bool false] 223).alloc (.cells #[.int .i64 sk, .slice g.a g.n g.cap, .slice g.c g.m g.cap', .int .i64 g.K] 198);have y0 := Cel.new (W.alloc (.cells #[.slice ga ng gc, .slice pa 3 cp, .slice ta nt tc, .bool false] 223)) [.int .i64 sk, .slice g.a g.n g.cap, .slice g.c g.m g.cap', .int .i64 g.K] 198;rw [qA] at y0;have t1 := is_test_test;refine callsIn_of_wp Tryz.func175 rfl trivial ?_ rfl;simp only [Tryz.ntmps175, qN, qK, qL, Nat.reduceAdd, Nat.reduceSub, Array.replicate_succ, Array.replicate_zero, List.push_toArray, List.append_toArray, List.nil_append, List.cons_append]
 gi_wp2_with fail
 refine ⟨trivial, hdd _, (callsIn_wide.2 (iintoW_any HY.out (by omega) g hs (hA.below A0) (hP.keep A0))).mono ?_⟩;rintro e w1 ⟨B1, B2, c1, c2, rfl, b1, y1, y2, y3, k1, k2⟩;rw [HFX.out] at k1 k2 ⊢;have E1 := btr A0 b1;have x1 := x0.below b1;have y1' := y0.below b1;have A1 : Below w1.heap.size w1 (w1.alloc (.cells #[.slice (some ⟨B1, 0, none⟩) 3 c1, .slice (some ⟨B2, 0, none⟩) 2 c2, .int .i64 FX.2.2] 95)) := bal;have x2 := x1.below A1;have y2' := y1'.below A1;have z2 := Cel.new w1 [.slice (some ⟨B1, 0, none⟩) 3 c1, .slice (some ⟨B2, 0, none⟩) 2 c2, .int .i64 FX.2.2] 95;have E2 := btr E1 A1;have u1 := k1.below A1;have u2 := k2.below A1;clear x0 y0 x1 y1' A0 b1 y1 y2 y3 k1 k2 E1
 gi_wp2_with fail
 obtain ⟨W0, hW0⟩ : ∃ W0, W0 = w1.alloc (.cells #[.slice (some ⟨B1, 0, none⟩) 3 c1, .slice (some ⟨B2, 0, none⟩) 2 c2, .int .i64 FX.2.2] 95) := ⟨_, rfl⟩
 rw [<- hW0] at x2 y2' z2 E2 u1 u2 ⊢;clear hW0 A1
 have KP : Hid (∀ X, KpR W0 X -> ((X.cell? ⟨W.heap.size, 0, none⟩ = some (.slice ga ng gc) /\ X.cell? ⟨W.heap.size, 1, none⟩ = some (.slice pa 3 cp) /\ X.cell? ⟨W.heap.size, 2, none⟩ = some (.slice ta nt tc) /\ X.cell? ⟨W.heap.size, 3, none⟩ = some (.bool false)) /\ (X.cell? ⟨W.heap.size + 1, 0, none⟩ = some (.int .i64 sk) /\ X.cell? ⟨W.heap.size + 1, 1, none⟩ = some (.slice g.a g.n g.cap) /\ X.cell? ⟨W.heap.size + 1, 2, none⟩ = some (.slice g.c g.m g.cap') /\ X.cell? ⟨W.heap.size + 1, 3, none⟩ = some (.int .i64 g.K)) /\ (X.cell? ⟨w1.heap.size, 0, none⟩ = some (.slice (some ⟨B1, 0, none⟩) 3 c1) /\ X.cell? ⟨w1.heap.size, 1, none⟩ = some (.slice (some ⟨B2, 0, none⟩) 2 c2) /\ X.cell? ⟨w1.heap.size, 2, none⟩ = some (.int .i64 FX.2.2)))) := fun X hX => by
  have q1 := x2.keepR hX (by decide) (by decide);have q2 := y2'.keepR hX (by decide) (by decide);have q3 := z2.keepR hX (by decide) (by decide);obtain ⟨m0, m1, m2, -, -, -⟩ := q3.trio
  exact ⟨q1.four, ⟨q2.cell 0, q2.cell 1, q2.cell 2, q2.cell 3⟩, m0, m1, m2⟩
 have e0 : Below W0.heap.size W0 W0.drew := (Below.refl _ _).drew;have hSS := KP.out _ (KpR.of e0);have G0 := hG.keep E2;clear x2 y2' z2;refine wpIn_region_S (fun w' => (w'.cell? ⟨W.heap.size, 0, none⟩ = some (.slice ga ng gc) /\ w'.cell? ⟨W.heap.size, 1, none⟩ = some (.slice pa 3 cp) /\ w'.cell? ⟨W.heap.size, 2, none⟩ = some (.slice ta nt tc) /\ w'.cell? ⟨W.heap.size, 3, none⟩ = some (.bool false)) /\ (w'.cell? ⟨W.heap.size + 1, 0, none⟩ = some (.int .i64 sk) /\ w'.cell? ⟨W.heap.size + 1, 1, none⟩ = some (.slice g.a g.n g.cap) /\ w'.cell? ⟨W.heap.size + 1, 2, none⟩ = some (.slice g.c g.m g.cap') /\ w'.cell? ⟨W.heap.size + 1, 3, none⟩ = some (.int .i64 g.K)) /\ (w'.cell? ⟨w1.heap.size, 0, none⟩ = some (.slice (some ⟨B1, 0, none⟩) 3 c1) /\ w'.cell? ⟨w1.heap.size, 1, none⟩ = some (.slice (some ⟨B2, 0, none⟩) 2 c2) /\ w'.cell? ⟨w1.heap.size, 2, none⟩ = some (.int .i64 FX.2.2))) (by kernel_rfl) ?_;refine tks 0 rfl rfl hSS ?_;refine tks 1 rfl rfl hSS ?_;refine tks 2 rfl rfl hSS ?_;refine tks 3 rfl rfl hSS ?_;clear hSS;refine wpAnyS_one (i := 4) (by kernel_rfl) rfl (fun K hK => ?_);go_simp;refine ⟨trivial, hdd _, (callsIn_wide.2 (iguard_any FX y.guards _ _ _ _ _ _ _ _ _ _ _ _ _ _ HGL.out ng1 (G0.keep e0) ((u1.below e0).ints' lXC) ((u2.below e0).ints' lXD))).mono ?_⟩;rintro e w2 ⟨G, cG, rfl, bd2, F2⟩;have b2 : Below W0.heap.size W0 w2 := below_of_drew bd2;have HG1 : Hid _ := hgo1 w2 _ cG (btr E2 b2) F2;clear bd2 F2 e0;(try dsimp only);refine hK.out _ _ (KP.out _ (KpR.of b2)) ?_
 refine wpAnyS_one (i := 5) (by kernel_rfl) rfl (fun K hK => ?_);go_simp;refine ⟨trivial, hdd _, (HG1.out _).mono ?_⟩;rintro e w3 ⟨z3, rfl, j3, k3⟩;have K3 := (KpR.of b2).trans k3;have hS3 := KP.out _ K3
 cases z3 with
 | false =>
  (try dsimp only);refine hK.out _ _ hS3 ?_;clear hK K HG1 k3;refine wpAnyS_one (i := 6) (by kernel_rfl) rfl (fun K hK => ?_);go_simp;refine hK.out _ _ hS3 ?_;refine wpAnyS_take (i := 7) (v := undef) rfl rfl (by kernel_rfl) (by kernel_rfl) (by kernel_rfl) (fun _ _ _ h => h) (Or.inr ⟨by kernel_rfl, rfl⟩) (fun _ => rfl) hS3 ?_;refine wpAnyS_take (i := 8) (v := undef) rfl rfl (by kernel_rfl) (by kernel_rfl) (by kernel_rfl) (fun _ _ _ h => h) (Or.inr ⟨by kernel_rfl, rfl⟩) (fun _ => rfl) hS3 ?_;refine wpAnyS_take (i := 9) (v := undef) rfl rfl (by kernel_rfl) (by kernel_rfl) (by kernel_rfl) (fun _ _ _ h => h) (Or.inr ⟨by kernel_rfl, rfl⟩) (fun _ => rfl) hS3 ?_;refine wpAnyS_take (i := 10) (v := undef) rfl rfl (by kernel_rfl) (by kernel_rfl) (by kernel_rfl) (fun _ _ _ h => h) (Or.inr ⟨by kernel_rfl, rfl⟩) (fun _ => rfl) hS3 ?_;simp only [Act.put, qB, qD, qC, qH, qG, qF];refine wpAnyS_take (i := 11) (v := undef) rfl rfl (by kernel_rfl) (by kernel_rfl) (by kernel_rfl) (fun _ _ _ h => h) (Or.inr ⟨by kernel_rfl, rfl⟩) (fun _ => rfl) hS3 ?_;refine wpAnyS_take (i := 12) (v := undef) rfl rfl (by kernel_rfl) (by kernel_rfl) (by kernel_rfl) (fun _ _ _ h => h) (Or.inr ⟨by kernel_rfl, rfl⟩) (fun _ => rfl) hS3 ?_;refine wpAnyS_take (i := 13) (v := undef) rfl rfl (by kernel_rfl) (by kernel_rfl) (by kernel_rfl) (fun _ _ _ h => h) (Or.inr ⟨by kernel_rfl, rfl⟩) (fun _ => rfl) hS3 ?_
  simp only [Act.put, qB, qD, qC, qH, qG, qF];refine wpAnyS_one (i := 14) (by kernel_rfl) rfl (fun K hK => ?_);rw [if_neg (not_true_ofQ (by kernel_rfl))];refine ⟨fun f _ => trivial, hK.out _ _ hS3 ?_⟩;refine wpAnyS_one (i := 15) (by kernel_rfl) rfl (fun K hK => ?_);rw [if_neg (not_true_ofQ (by kernel_rfl))];refine ⟨fun f _ => trivial, hK.out _ _ hS3 ?_⟩;refine wpAnyS_one (i := 16) (by kernel_rfl) rfl (fun K hK => ?_);rw [if_neg (not_true_ofQ (by kernel_rfl))];refine ⟨fun f _ => trivial, hK.out _ _ hS3 ?_⟩;simp only [Act.put, qB, qD, qC, qH, qG, qF];refine wpAnyS_one (i := 17) (by kernel_rfl) rfl (fun K hK => ?_);go_simp;refine hK.out _ _ hS3 ?_;refine wpAnyS_one (i := 18) (by kernel_rfl) rfl (fun K hK => ?_);go_simp;refine hK.out _ _ hS3 ?_;refine wpAnyS_done (by kernel_rfl) ?_ _;have KK := (KpR.of E2).trans K3;clear KP
  gi_wp2
  go_ret
  exact ⟨false, rfl, hJF _ j3, KK⟩
 | true =>
  (try dsimp only);refine hK.out _ _ hS3 ?_;clear hK K HG1 k3;refine wpAnyS_one (i := 6) (by kernel_rfl) rfl (fun K hK => ?_);go_simp;refine hK.out _ _ hS3 ?_;refine wpAnyS_take (i := 7) (v := ?dv7) rfl rfl (by kernel_rfl) (by kernel_rfl) (by kernel_rfl) (fun _ _ _ h => h) (Or.inl ⟨by kernel_rfl, ?dy7⟩) (fun _ => rfl) hS3 ?_
  case dy7 => (intro wz hSw; (try dsimp only at hSw); go_simp; try (with_reducible rfl))
  refine wpAnyS_take (i := 8) (v := ?dv8) rfl rfl (by kernel_rfl) (by kernel_rfl) (by kernel_rfl) (fun _ _ _ h => h) (Or.inl ⟨by kernel_rfl, ?dy8⟩) (fun _ => rfl) hS3 ?_
  case dy8 => (intro wz hSw; (try dsimp only at hSw); go_simp; try (with_reducible rfl))
  refine wpAnyS_take (i := 9) (v := ?dv9) rfl rfl (by kernel_rfl) (by kernel_rfl) (by kernel_rfl) (fun _ _ _ h => h) (Or.inl ⟨by kernel_rfl, ?dy9⟩) (fun _ => rfl) hS3 ?_
  case dy9 => (intro wz hSw; (try dsimp only at hSw); go_simp; try (with_reducible rfl))
  refine wpAnyS_take (i := 10) (v := ?dv10) rfl rfl (by kernel_rfl) (by kernel_rfl) (by kernel_rfl) (fun _ _ _ h => h) (Or.inl ⟨by kernel_rfl, ?dy10⟩) (fun _ => rfl) hS3 ?_
  case dy10 => (intro wz hSw; (try dsimp only at hSw); go_simp; try (with_reducible rfl))
  refine wpAnyS_take (i := 11) (v := ?dv11) rfl rfl (by kernel_rfl) (by kernel_rfl) (by kernel_rfl) (fun _ _ _ h => h) (Or.inl ⟨by kernel_rfl, ?dy11⟩) (fun _ => rfl) hS3 ?_
  case dy11 => (intro wz hSw; (try dsimp only at hSw); go_simp; try (with_reducible rfl))
  refine wpAnyS_take (i := 12) (v := ?dv12) rfl rfl (by kernel_rfl) (by kernel_rfl) (by kernel_rfl) (fun _ _ _ h => h) (Or.inl ⟨by kernel_rfl, ?dy12⟩) (fun _ => rfl) hS3 ?_
  case dy12 => (intro wz hSw; (try dsimp only at hSw); go_simp; try (with_reducible rfl))
  refine wpAnyS_take (i := 13) (v := ?dv13) rfl rfl (by kernel_rfl) (by kernel_rfl) (by kernel_rfl) (fun _ _ _ h => h) (Or.inl ⟨by kernel_rfl, ?dy13⟩) (fun _ => rfl) hS3 ?_
  case dy13 => (intro wz hSw; (try dsimp only at hSw); go_simp; try (with_reducible rfl))
  have v1 := (u1.ints' lXC).keepR K3;have v2 := (u2.ints' lXD).keepR K3;have G3 := G0.keepR K3;clear hS3 u1 u2 G0 b2;refine wpAnyS_one (i := 14) (by kernel_rfl) rfl (fun K hK => ?_);go_simp;refine ⟨trivial, hdd _, (callsIn_wide.2 (ilack_any FX.1 FX.2.1 v1 v2 bXC bXD bX1 bX2 HF3.out)).mono ?_⟩;rintro e w4 ⟨M1, M2, rfl, b4, -, -, -, m1, m2⟩;have K4 := K3.trans (KpR.of b4);have j4 := hJ1 _ _ j3 b4;(try dsimp only);refine hK.out _ _ (KP.out _ K4) ?_;clear hK K j3 K3;have hcall := iguard_any (minusX FX) y.guards ga ng gc pa cp ta nt tc false (some ⟨M1, 0, none⟩) 3 (some ⟨M2, 0, none⟩) 2 w4 HGL.out ng1 (G3.keep b4) (m1.ints' (by rw [mulL_len]; exact lXC)) (m2.ints' (by rw [mulL_len]; exact lXD));rw [HK3.out] at hcall;refine wpAnyS_one (i := 15) (by kernel_rfl) rfl (fun K hK => ?_);go_simp;refine ⟨trivial, hdd _, (callsIn_wide.2 hcall).mono ?_⟩;rintro e w5 ⟨G5, c5, rfl, b5, F5⟩;have K5 := K4.trans (KpR.of b5);have HG2 : Hid _ := hgo2 w5 _ c5 ((KpR.of E2).trans K5) (hJ1 _ _ j4 b5) F5;(try dsimp only);refine hK.out _ _ (KP.out _ K5) ?_;clear hK K hcall F5 j4 K4 m1 m2;refine wpAnyS_one (i := 16) (by kernel_rfl) rfl (fun K hK => ?_);go_simp;refine ⟨trivial, hdd _, (HG2.out _).mono ?_⟩;rintro e w6 ⟨z6, rfl, j6, k6⟩;have K6 := K5.trans k6;have KK := (KpR.of E2).trans K6;(try dsimp only);refine hK.out _ _ (KP.out _ K6) ?_;clear hK K HG2;refine wpAnyS_one (i := 17) (by kernel_rfl) rfl (fun K hK => ?_);go_simp;refine hK.out _ _ (KP.out _ K6) ?_
  refine wpAnyS_one (i := 18) (by kernel_rfl) rfl (fun K hK => ?_);go_simp;refine hK.out _ _ (KP.out _ K6) ?_;refine wpAnyS_done (by kernel_rfl) ?_ _;clear KP
  gi_wp2
  go_ret
  exact ⟨z6, rfl, j6, KK⟩
attribute [local go_sem] Oper.semAt_some
theorem from_step (l : Nat) (SG N sc i0 : Nat) (hlt : i0 < N) (hi1 : i0 <= 12) (ga : Option Addr) (ng gc : Nat) (pa : Option Addr) (cp : Nat) (ta : Option Addr) (nt tc : Nat) {ty : TypeId} {sv : Value} (cur : List Value) {J : Bool -> World -> Prop} (W : World) (n : Nat) (hC : Cel W SG cur 156) (hv : cur[i0]? = some (.iface ty sv))
  (hpast : ∀ X m, Below W.heap.size W X -> CallsIn Fence.wide m Tryz.prog 175 #[wayV ga ng gc pa cp ta nt tc false, .iface ty sv, .int .i64 ((i0 : Int) + 1), goV l (some ⟨SG, 0, none⟩) N sc] X fun e Y => ∃ b : Bool, e = .returned (.bool b) /\ J b Y /\ KpR X Y) :
  CallsIn Fence.wide n Tryz.prog 159 #[walkV l (some ⟨SG, 0, none⟩) N sc, .int .i64 (i0 : Int), wayV ga ng gc pa cp ta nt tc false] W fun e Y => ∃ b : Bool, e = .returned (.bool b) /\ J b Y /\ KpR W Y := by
 have hdd : ∀ k : Nat, (Fence.wide.depth.isSome = true -> 1 <= k) := fun k h => by simp [Fence.wide] at h
 have hge : ¬ ((N : Int) <= i0) := by omega
 have hlt' : (i0 : Int) < N := by omega
 have hw : IntKind.i64.wrap ((i0 : Int) + 1) = (i0 : Int) + 1 := wrap_id (by omega) (by omega);have A : Below W.heap.size W ((W.alloc (.cells #[.slice (some ⟨SG, 0, none⟩) N sc, .func (.yield l) #[] #[]] 220)).alloc (.cells #[.slice ga ng gc, .slice pa 3 cp, .slice ta nt tc, .bool false] 223)) := (bal).alloc (by simp) _;have x0 := (Cel.new W [.slice (some ⟨SG, 0, none⟩) N sc, .func (.yield l) #[] #[]] 220).alloc (.cells #[.slice ga ng gc, .slice pa 3 cp, .slice ta nt tc, .bool false] 223);have y0 := Cel.new (W.alloc (.cells #[.slice (some ⟨SG, 0, none⟩) N sc, .func (.yield l) #[] #[]] 220)) [.slice ga ng gc, .slice pa 3 cp, .slice ta nt tc, .bool false] 223;rw [qA] at y0;have s0 := hC.below A;refine callsIn_of_wp Tryz.func159 rfl trivial ?_ rfl;simp only [Tryz.ntmps159, qN, qK, qL, Nat.reduceAdd, Nat.reduceSub, Array.replicate_succ, Array.replicate_zero, List.push_toArray, List.append_toArray, List.nil_append, List.cons_append]
 gi_wp2_with fail
 obtain ⟨W0, hW0⟩ : ∃ W0, W0 = (W.alloc (.cells #[.slice (some ⟨SG, 0, none⟩) N sc, .func (.yield l) #[] #[]] 220)).alloc (.cells #[.slice ga ng gc, .slice pa 3 cp, .slice ta nt tc, .bool false] 223) := ⟨_, rfl⟩
 rw [<- hW0] at A x0 y0 s0 ⊢;clear hW0
 have KP : Hid (∀ X, KpR W0 X -> ((X.cell? ⟨W.heap.size, 0, none⟩ = some (.slice (some ⟨SG, 0, none⟩) N sc) /\ X.cell? ⟨W.heap.size, 1, none⟩ = some (.func (.yield l) #[] #[])) /\ (X.cell? ⟨W.heap.size + 1, 0, none⟩ = some (.slice ga ng gc) /\ X.cell? ⟨W.heap.size + 1, 1, none⟩ = some (.slice pa 3 cp) /\ X.cell? ⟨W.heap.size + 1, 2, none⟩ = some (.slice ta nt tc) /\ X.cell? ⟨W.heap.size + 1, 3, none⟩ = some (.bool false)) /\ X.cell? ⟨SG, i0, none⟩ = some (.iface ty sv))) := fun X hX => by
  have a1 := x0.keepR hX (by decide) (by decide);have a2 := y0.keepR hX (by decide) (by decide);have a3 := s0.keepR hX (by decide) (by decide)
  exact ⟨⟨a1.cell 0, a1.cell 1⟩, a2.four, (a3.cell i0).trans hv⟩
 have e0 : Below W0.heap.size W0 W0.drew := (Below.refl _ _).drew;have hSS := KP.out _ (KpR.of e0);have HP : Hid _ := hpast _ (n - 1) (btr A e0);clear x0 y0 s0 hpast;refine wpIn_region_S (fun w' => (w'.cell? ⟨W.heap.size, 0, none⟩ = some (.slice (some ⟨SG, 0, none⟩) N sc) /\ w'.cell? ⟨W.heap.size, 1, none⟩ = some (.func (.yield l) #[] #[])) /\ (w'.cell? ⟨W.heap.size + 1, 0, none⟩ = some (.slice ga ng gc) /\ w'.cell? ⟨W.heap.size + 1, 1, none⟩ = some (.slice pa 3 cp) /\ w'.cell? ⟨W.heap.size + 1, 2, none⟩ = some (.slice ta nt tc) /\ w'.cell? ⟨W.heap.size + 1, 3, none⟩ = some (.bool false)) /\ w'.cell? ⟨SG, i0, none⟩ = some (.iface ty sv)) (by kernel_rfl) ?_;refine tks 0 rfl rfl hSS ?_;refine tks 1 rfl rfl hSS ?_;refine tks 2 rfl rfl hSS ?_;refine tks 3 rfl rfl hSS ?_;refine tks 4 rfl rfl hSS ?_;refine tks 5 rfl rfl hSS ?_;refine tks 6 rfl rfl hSS ?_;refine tks 7 rfl rfl hSS ?_;refine tks 8 rfl rfl hSS ?_;refine tks 9 rfl rfl hSS ?_;clear hSS;refine wpAnyS_one (i := 10) (by kernel_rfl) rfl (fun K hK => ?_);go_simp;refine ⟨trivial, hdd _, CallsIn.mono HP.out ?_⟩;rintro e w1 ⟨z1, rfl, j1, k1⟩;have K1 : KpR W0 w1 := (KpR.of e0).trans k1;have KK := (KpR.of A).trans K1;(try dsimp only);refine hK.out _ _ (KP.out _ K1) ?_;clear hK K HP;refine wpAnyS_one (i := 11) (by kernel_rfl) rfl (fun K hK => ?_);go_simp;refine hK.out _ _ (KP.out _ K1) ?_;refine wpAnyS_done (by kernel_rfl) ?_ _;clear KP
 gi_wp2
 go_ret
 exact ⟨z1, rfl, j1, KK⟩
def Stp (W : World) (SG N : Nat) (ls : List LV) : Prop := ∃ cur, Cel W SG cur 156 /\ ∀ j, j < N -> cur[j]? = some (stepV (ls[j]?.getD noLV))
def LinesIn (W : World) (ls : List LV) : Prop := ∀ j, j < ls.length -> (ls[j]?.getD noLV).f.At W
theorem FV.At.keepR {g : FV} (h : g.At X) (k : KpR X Y) : g.At Y := ⟨h.C.keepR k, h.D.keepR k, h.hn, h.hm⟩
theorem Stp.keepR {SG N : Nat} (h : Stp X SG N ls) (k : KpR X Y) : Stp Y SG N ls := by
 obtain ⟨cur, hc, hv⟩ := h
 exact ⟨cur, hc.keepR k (by decide) (by decide), hv⟩
theorem LinesIn.keepR (h : LinesIn X ls) (k : KpR X Y) : LinesIn Y ls := fun j hj => (h j hj).keepR k
theorem from_any (l n₀ : Nat) (J D : List RowM -> World -> Prop) (hJ : ∀ pre X Y, J pre X -> Below X.heap.size X Y -> J pre Y) (M : Nat) (hY : RoundsD l n₀ J D M) (SG N sc : Nat) (ls : List LV) (hN : ls.length = N) (h6 : N <= 6) (hall : ls.all LV.ok = true) (f : Nat) :
  ∀ (i0 : Nat) (y : Way) (pa : Option Addr) (cp : Nat) (ga : Option Addr) (ng gc : Nat) (ta : Option Addr) (nt tc : Nat) (pre : List RowM) (W : World) (n : Nat), f <= 7 -> N <= i0 + f -> i0 <= 12 -> WayOk i0 y -> y.guards.length = ng -> y.tells.length = nt -> Stp W SG N ls -> LinesIn W ls -> FormsAt W pa y.pots -> FormsAt W ga y.guards -> FormsAt W ta y.tells -> n₀ <= W.heap.size -> J pre W -> pre.length + (goW ls f i0 y).length <= M ->
  CallsIn Fence.wide n Tryz.prog 159 #[walkV l (some ⟨SG, 0, none⟩) N sc, .int .i64 (i0 : Int), wayV ga ng gc pa cp ta nt tc false] W fun e Y => ∃ b : Bool, e = .returned (.bool b) /\ Went J D pre (goW ls f i0 y) b Y /\ KpR W Y := by
 have atEnd : ∀ (f i0 : Nat) (y : Way) (pa : Option Addr) (cp : Nat) (ga : Option Addr) (ng gc : Nat) (ta : Option Addr) (nt tc : Nat) (pre : List RowM) (W : World) (n : Nat), N <= i0 -> i0 <= 12 -> WayOk i0 y -> y.guards.length = ng -> y.tells.length = nt -> FormsAt W pa y.pots -> FormsAt W ga y.guards -> FormsAt W ta y.tells -> n₀ <= W.heap.size -> J pre W -> pre.length + (goW ls f i0 y).length <= M ->
   CallsIn Fence.wide n Tryz.prog 159 #[walkV l (some ⟨SG, 0, none⟩) N sc, .int .i64 (i0 : Int), wayV ga ng gc pa cp ta nt tc false] W fun e Y => ∃ b : Bool, e = .returned (.bool b) /\ Went J D pre (goW ls f i0 y) b Y /\ KpR W Y := by
  intro f i0 y pa cp ga ng gc ta nt tc pre W n hi hi1 hy hg ht hP hG hT hn0 h0;rw [goW_end];intro hM;have hM' : pre.length < M := by simp only [qK, qL] at hM; omega
  have g1 := hy.gl;have g2 := hy.tl
  exact from_end l n₀ J D hJ M hY _ N sc i0 hi hi1 y pa cp ga ng gc ta nt tc false (endW y) pre W n hn0 h0 (endW_fit hy) hM' (fun X hb => irow_end y ga ng gc pa cp ta nt tc X hy.pl hg ht (hP.keep hb) (hG.keep hb) (hT.keep hb) (fun k hk => (hy.pf k hk).mono (by have := wb_six (n := min i0 6) (by omega); omega)) (fun k hk => hy.gf k (by omega)) (fun k hk => hy.tf k (by omega)))
 induction f with
 | zero => intro i0 y pa cp ga ng gc ta nt tc pre W n _ hfu hi1 hy hg ht _ _ hP hG hT hn0 h0 hM; exact atEnd 0 i0 y pa cp ga ng gc ta nt tc pre W n (by omega) hi1 hy hg ht hP hG hT hn0 h0 hM
 | succ f ih =>
  intro i0 y pa cp ga ng gc ta nt tc pre W n hf7 hfu hi1 hy hg ht hS hLI hP hG hT hn0 h0 hM
  by_cases hlt : i0 < N
  ·have hl : i0 < ls.length := by omega
   have hok : (ls[i0]?.getD noLV).ok = true := by
    rw [qE hl]
    exact List.all_eq_true.1 hall _ (List.getElem_mem hl)
   obtain ⟨cur, hC, hv⟩ := hS;have hv0 := hv i0 hlt;have hA := hLI i0 hl;have hS' : Stp W SG N ls := ⟨cur, hC, hv⟩
   rw [goW, if_pos hl] at hM ⊢;generalize ls[i0]?.getD noLV = q at *;have e1 : ((i0 + 1 : Nat) : Int) = (i0 : Int) + 1 := by omega
   by_cases hk4 : q.kind = 4
   ·rw [if_neg (by omega), if_neg (by omega), if_neg (by omega)] at hM ⊢;have hM' : pre.length < M := by simp only [qK, qL] at hM; omega
    have hst : stepV q = .iface 203 (.agg #[]) := by simp [stepV, hk4]
    rw [hst] at hv0;have g1 := hy.gl;refine from_step l SG N sc i0 hlt hi1 ga ng gc pa cp ta nt tc cur W n hC hv0 (fun X m hb => past_stop l N sc ga ng gc pa cp ta nt tc X m (fun X2 hb2 m2 => ?_));have hb' := btr hb hb2
    exact from_end l n₀ J D hJ M hY _ N sc 6 h6 (by omega) y pa cp ga ng gc ta nt tc true (stopW y) pre X2 m2 (by have := hb'.size; omega) (hJ _ _ _ h0 hb') (stopW_fit hy) hM' (fun X3 hb3 => irow_stop y ga ng gc pa cp ta nt tc X3 hg (hG.keep (btr hb' hb3)) (fun k hk => hy.gf k (by omega)) (by omega))
   obtain ⟨hsm, hkk, hz, hp⟩ := lineW (show lineB q.kind q.pot q.skip q.f.n q.f.m q.f.C q.f.D q.f.K = true from hok) hk4;obtain ⟨f1, f2, f3⟩ := hy.into (by omega) (f := q.f) hsm hA.D.1
   rcases hkk with e | e | e
   ·rw [if_pos e] at hM ⊢;rw [qI] at hM;obtain ⟨z1, z2⟩ := hz e;have hst : stepV q = .iface 198 (.agg #[.int .i64 q.skip, .slice q.f.a q.f.n q.f.cap, .slice q.f.c q.f.m q.f.cap', .int .i64 q.f.K]) := by simp [stepV, e]
    rw [hst] at hv0;have e2 : ((i0 + 1 + q.skip.toNat : Nat) : Int) = (i0 : Int) + 1 + q.skip := by omega
    refine from_step l SG N sc i0 hlt hi1 ga ng gc pa cp ta nt tc cur W n hC hv0 (fun X m hb => ?_);have kX : KpR W X := KpR.of hb;refine past_test l N sc q.skip ⟨by omega, by omega⟩ ⟨by omega, by omega⟩ i0 y hy (by omega) q.f hsm ga ng gc pa cp ta nt tc (Went J D pre (goW ls f (i0 + 1) (y.guard (intoX q.f y.pots)))) (fun A B a b => Or.inl ⟨rfl, hJ _ _ _ a.on b⟩) (fun Y h => h.fst) X m (hA.keepR kX) (hP.keepR kX) (hG.keepR kX) hg (fun X2 ga' gc' hb2 F m2 => ?_) (fun X2 ga' gc' k2 j2 F m2 => ?_)
    ·have k2 : KpR W X2 := kX.trans (KpR.of hb2);have := ih (i0 + 1) (y.guard (intoX q.f y.pots)) pa cp ga' (ng + 1) gc' ta nt tc pre X2 m2 (by omega) (by omega) (by omega) (hy.guard (by omega) f2) (by show (y.guards ++ [_]).length = ng + 1; rw [qI, hg]; rfl) ht (hS'.keepR k2) (hLI.keepR k2) (hP.keepR k2) F (hT.keepR k2) (Nat.le_trans hn0 k2.size) (hJ _ _ _ (hJ _ _ _ h0 hb) hb2) (by omega);rw [e1] at this
     exact this
    have k3 : KpR W X2 := kX.trans k2;have := ih (i0 + 1 + q.skip.toNat) (y.guard (minusX (intoX q.f y.pots))) pa cp ga' (ng + 1) gc' ta nt tc _ X2 m2 (by omega) (by omega) (by omega) (hy.guard (by omega) f3) (by show (y.guards ++ [_]).length = ng + 1; rw [qI, hg]; rfl) ht (hS'.keepR k3) (hLI.keepR k3) (hP.keepR k3) F (hT.keepR k3) (Nat.le_trans hn0 k3.size) j2.on (by rw [qI]; omega);rw [e2] at this
    exact this.mono (fun e Y ⟨b, h1, h2, h3⟩ => ⟨b, h1, h2.snd, h3⟩)
   ·rw [if_neg (by omega), if_pos e] at hM ⊢;obtain ⟨z1, z2⟩ := hp e;obtain ⟨p, hpq⟩ : ∃ p : Nat, q.pot = p := ⟨q.pot.toNat, by omega⟩
    have hpn : q.pot.toNat = p := by omega
    have hst : stepV q = .iface 200 (.agg #[.int .i64 (p : Int), .slice q.f.a q.f.n q.f.cap, .slice q.f.c q.f.m q.f.cap', .int .i64 q.f.K]) := by simp [stepV, e, hpq]
    rw [hst] at hv0;rw [hpn] at hM ⊢;refine from_step l SG N sc i0 hlt hi1 ga ng gc pa cp ta nt tc cur W n hC hv0 (fun X m hb => ?_);have kX : KpR W X := KpR.of hb;refine past_add l N sc i0 y hy (by omega) q.f hsm ga ng gc pa cp ta nt tc X m (hA.keepR kX) (hP.keepR kX) (hT.keepR kX) ht p (by omega) (fun X2 pa' cp' hb2 F m2 => ?_);have k2 : KpR W X2 := kX.trans (KpR.of hb2);have := ih (i0 + 1) (y.add p (intoX q.f y.pots)) pa' cp' ga ng gc ta nt tc pre X2 m2 (by omega) (by omega) (by omega) (hy.add (by omega) (by omega) f1) hg ht (hS'.keepR k2) (hLI.keepR k2) F (hG.keepR k2) (hT.keepR k2) (Nat.le_trans hn0 k2.size) (hJ _ _ _ (hJ _ _ _ h0 hb) hb2) hM;rw [e1] at this
    exact this
   rw [if_neg (by omega), if_neg (by omega), if_pos e] at hM ⊢;have hst : stepV q = .iface 202 (.agg #[.slice q.f.a q.f.n q.f.cap, .slice q.f.c q.f.m q.f.cap', .int .i64 q.f.K]) := by simp [stepV, e]
   rw [hst] at hv0;refine from_step l SG N sc i0 hlt hi1 ga ng gc pa cp ta nt tc cur W n hC hv0 (fun X m hb => ?_);have kX : KpR W X := KpR.of hb;refine past_print l N sc i0 y hy (by omega) q.f hsm ga ng gc pa cp ta nt tc X m (hA.keepR kX) (hP.keepR kX) (hT.keepR kX) ht (fun X2 ta' tc' hb2 F m2 => ?_);have k2 : KpR W X2 := kX.trans (KpR.of hb2);have := ih (i0 + 1) (y.tell (intoX q.f y.pots)) pa cp ga ng gc ta' (nt + 1) tc' pre X2 m2 (by omega) (by omega) (by omega) (hy.tell (by omega) f2) hg (by show (y.tells ++ [_]).length = nt + 1; rw [qI, ht]; rfl) (hS'.keepR k2) (hLI.keepR k2) (hP.keepR k2) (hG.keepR k2) F (Nat.le_trans hn0 k2.size) (hJ _ _ _ (hJ _ _ _ h0 hb) hb2) hM;rw [e1] at this
   exact this
  exact atEnd (f + 1) i0 y pa cp ga ng gc ta nt tc pre W n (by omega) hi1 hy hg ht hP hG hT hn0 h0 hM
attribute [local go_sem] Oper.semAt_some
theorem LinesG.lin {W : World} {ad : Option Addr} (h : LinesG W ad ls) : LinesIn W ls := fun j hj => by
 obtain ⟨b, off, _, _, ha⟩ := h j hj
 exact ha
theorem JS.stp {W : World} {v : Value} (j : JS w v (ls.map stepV) W) : ∃ sa sc, v = .slice sa ls.length sc /\ (ls.length = 0 \/ ∃ SG, sa = some ⟨SG, 0, none⟩ /\ Stp W SG ls.length ls) := by
 rcases j.o.2 with ⟨e, h0⟩ | ⟨g, cap, cur, hv, hg, hh, hl, hc, hs, ht⟩
 ·rw [List.length_map] at h0
  exact ⟨none, 0, by rw [h0]; exact e, Or.inl h0⟩
 rw [List.length_map] at hv ht;refine ⟨_, cap, hv, Or.inr ⟨g, rfl, cur.toList, hh, fun i hi => ?_⟩⟩;rw [Nat.mul_one] at ht;have : (cur.toList.take ls.length)[i]? = cur.toList[i]? := List.getElem?_take_of_lt hi;rw [<- this, ht, List.getElem?_map, qE hi]
 rfl
theorem rs_func {P : Program} {a : Addr} {m : Mode} (fn : Fn) (first captured : Array Value) : (store a (.func fn first captured) m).run P w = stored P w a (.func fn first captured) m := run_store P w a _ m rfl
attribute [local go_sem] rs_func
theorem through_left (l n₀ : Nat) (J D : List RowM -> World -> Prop) (hJ : ∀ pre X Y, J pre X -> Below X.heap.size X Y -> J pre Y) (hY : RoundsD l n₀ J D 128) (aB : Nat) (ad : Option Addr) (N cap : Nat) (ls : List LV) (W : World) (n : Nat) (hN : ls.length = N) (hF : LinesG W ad ls) (hN1 : N <= 1048576) (hok : actB N ls = true) (hc : W.cell? ⟨aB, 0, none⟩ = some (.slice ad N cap)) (hn0 : n₀ <= W.heap.size) (h0 : J [] W) :
  CallsIn Fence.wide n Tryz.prog 158 #[.func (.yield l) #[] #[], .pointer (some ⟨aB, 0, none⟩)] W fun e Y => (∃ v, e = .returned v) /\ (J (rowsL ls) Y \/ ∃ ms rest, rowsL ls = ms ++ rest /\ D ms Y) /\ KpR W Y := by
 have hdd : ∀ k : Nat, (Fence.wide.depth.isSome = true -> 1 <= k) := fun k h => by simp [Fence.wide] at h
 refine callsIn_of_wp Tryz.func158 rfl trivial ?_ rfl;simp only [Tryz.ntmps158, qN, qK, qL, Nat.reduceAdd, Nat.reduceSub, Array.replicate_succ, Array.replicate_zero, List.push_toArray, List.append_toArray, List.nil_append, List.cons_append]
 gi_wp2_with fail
 refine ⟨trivial, hdd _, (callsIn_wide.2 (isteps_any ad N cap ls hN hF hN1)).mono ?_⟩;rintro e w1 ⟨sv, rfl, b1, js⟩;rw [hok];have js := js hok;obtain ⟨sa, sc, rfl, hst⟩ := js.stp;rw [hN] at hst ⊢
 gi_wp2_with fail
 have bA : Below w1.heap.size w1 (w1.alloc (.cells #[.slice sa N sc, .func (.yield l) #[] #[]] 220)) := bal;have x0 := Cel.new w1 [.slice sa N sc, .func (.yield l) #[] #[]] 220;obtain ⟨W0, hW0⟩ : ∃ W0, W0 = w1.alloc (.cells #[.slice sa N sc, .func (.yield l) #[] #[]] 220) := ⟨_, rfl⟩
 rw [<- hW0] at bA x0 ⊢;clear hW0;have A : Below W.heap.size W W0 := btr b1 bA;have e0 : Below W0.heap.size W0 W0.drew := (Below.refl _ _).drew
 have KP : Hid (∀ X, KpR W0 X -> (X.cell? ⟨w1.heap.size, 0, none⟩ = some (.slice sa N sc) /\ X.cell? ⟨w1.heap.size, 1, none⟩ = some (.func (.yield l) #[] #[]))) := fun X hX => by
  have a1 := x0.keepR hX (by decide) (by decide)
  exact ⟨a1.cell 0, a1.cell 1⟩
 have hSS := KP.out _ (KpR.of e0);refine wpIn_region_S (fun w' => w'.cell? ⟨w1.heap.size, 0, none⟩ = some (.slice sa N sc) /\ w'.cell? ⟨w1.heap.size, 1, none⟩ = some (.func (.yield l) #[] #[])) (by kernel_rfl) ?_;refine tks 0 rfl rfl hSS ?_;clear hSS;refine wpAnyS_one (i := 1) (by kernel_rfl) rfl (fun K hK => ?_);go_simp;refine ⟨trivial, fun h => by simp [Fence.wide] at h, (callsIn_wide.2 (ipots_any)).mono ?_⟩;rintro e w2 ⟨v, xs, rfl, jv⟩;obtain ⟨pa, cp, rfl, hP⟩ := jv.slice rfl;have b2 : Below W0.heap.size W0 w2 := below_of_drew jv.b;have hS2 := KP.out _ (KpR.of b2);have B2 : Below W.heap.size W w2 := btr A b2;have J2 := hJ _ _ _ h0 B2;(try dsimp only);refine hK.out _ _ hS2 ?_;refine tks 2 rfl rfl hS2 ?_;have sB := B2.size
 have HC : Hid (CallsIn Fence.wide (n - 1) Tryz.prog 159 #[walkV l sa N sc, .int .i64 0, wayV none 0 0 pa cp none 0 0 false] w2 fun e Y => ∃ b : Bool, e = .returned (.bool b) /\ Went J D [] (rowsL ls) b Y /\ KpR w2 Y) := by
  obtain ⟨h6, hall⟩ := actB_parts hok;have hy := WayOk.start;have hG : ∀ X, FormsAt X none way0.guards := fun X i hi => by simp [way0] at hi
  have hT : ∀ X, FormsAt X none way0.tells := fun X i hi => by simp [way0] at hi
  rcases hst with hz | ⟨SG, rfl, hst⟩
  ·have := from_end l n₀ J D hJ 128 hY sa N sc 0 (by omega) (by omega) way0 pa cp none 0 0 none 0 0 false (endW way0) [] w2 (n - 1) (by omega) J2 (endW_fit hy) (by simp) (fun X hb => irow_end way0 none 0 0 pa cp none 0 0 X hy.pl rfl rfl (hP.keep hb) (hG X) (hT X) (fun k hk => (hy.pf k hk).mono (by have := wb_six (n := min 0 6) (by omega); omega)) (fun k hk => hy.gf k (by omega)) (fun k hk => hy.tf k (by omega)));rw [rowsL, goW_end]
   exact this
  have k2 : KpR w1 w2 := (KpR.of bA).trans (KpR.of b2)
  exact from_any l n₀ J D hJ 128 hY SG N sc ls hN h6 hall 7 0 way0 pa cp none 0 0 none 0 0 [] w2 (n - 1) (by omega) (by omega) (by omega) hy rfl rfl (hst.keepR k2) (hF.lin.keepR (KpR.of B2)) hP (hG _) (hT _) (by omega) J2 (by have := goW_128 (ls := ls) (f := 7) (i := 0) (y := way0) (by omega); simp only [qL]; omega)
 refine wpAnyS_one (i := 3) (by kernel_rfl) rfl (fun K hK => ?_);go_simp;refine ⟨trivial, fun h => by simp [Fence.wide] at h, HC.out.mono ?_⟩;rintro e w3 ⟨z3, rfl, J3, k3⟩;have hS3 := KP.out _ ((KpR.of b2).trans k3);(try dsimp only);refine hK.out _ _ hS3 ?_;refine wpAnyS_done (by kernel_rfl) ?_ _;have KK := (KpR.of B2).trans k3;clear KP HC
 gi_wp2
 go_end0
 refine ⟨⟨_, rfl⟩, ?_, KK⟩
 rcases J3 with ⟨_, j⟩ | ⟨_, ms, rest, h1, h2⟩
 ·exact Or.inl j
 exact Or.inr ⟨ms, rest, h1, h2⟩
theorem through_any (l n₀ : Nat) (J : List RowM -> World -> Prop) (hJ : ∀ pre X Y, J pre X -> Below X.heap.size X Y -> J pre Y) (hY : Rounds l n₀ J 128) (aB : Nat) (ad : Option Addr) (N cap : Nat) (ls : List LV) (W : World) (n : Nat) (hN : ls.length = N) (hF : LinesG W ad ls) (hN1 : N <= 1048576) (hok : actB N ls = true) (hc : W.cell? ⟨aB, 0, none⟩ = some (.slice ad N cap)) (hn0 : n₀ <= W.heap.size) (h0 : J [] W) :
  CallsIn Fence.wide n Tryz.prog 158 #[.func (.yield l) #[] #[], .pointer (some ⟨aB, 0, none⟩)] W fun e Y => (∃ v, e = .returned v) /\ J (rowsL ls) Y /\ KpR W Y :=
 (through_left l n₀ J (fun _ _ => False) hJ hY.noD aB ad N cap ls W n hN hF hN1 hok hc hn0 h0).mono (fun e Y ⟨h1, h2, h3⟩ => ⟨h1, h2.elim id (fun ⟨_, _, _, h⟩ => h.elim), h3⟩)
attribute [local go_sem] Oper.semAt_some
theorem ithrough_any (ad : Option Addr) (N cap : Nat) (w : World) :
  Calls Tryz.prog 134 #[.slice ad N cap] w fun e w' => ∃ B, e = .returned (.func (.func 158) #[] #[.pointer (some ⟨B, 0, none⟩)]) /\ Below w.heap.size w w' /\ Cel w' B [.slice ad N cap] 57 := by
 have b := (Below.refl w.heap.size w).alloc (qM _) (.cells #[.slice ad N cap] 57);have c := Cel.new w [.slice ad N cap] 57
 go_enter Tryz.func134, Tryz.ntmps134
 go_wp2
 go_ret
 exact ⟨_, rfl, b, c⟩
theorem Cel.loop {r r' : Loop} (h : Cel X B vs t) (hl : X.heap[l]? = some (.loop r)) : Cel (X.putObj l (.loop r')) B vs t := by
 have hne : B ≠ l := fun e => by
  subst e;unfold Cel at h;rw [hl] at h
  cases h
 unfold Cel at *;rw [World.putObj_heap_other hne]; exact h
theorem below_loop {r' : Loop} (h : Below n w X) (hl : n <= l) : Below n w (X.putObj l (.loop r')) :=
 ⟨h.os, h.tape, h.output, by simpa [World.putObj] using h.size, fun k hk => (World.putObj_heap_other (by omega)).trans (h.block k hk)⟩
theorem Cel.defer {r : Option (List Deferred)} {o : Obj} (h : Cel X B vs t) (hl : X.heap[l]? = some (.deferred r)) : Cel (X.putObj l o) B vs t := by
 have hne : B ≠ l := fun e => by
  subst e;unfold Cel at h;rw [hl] at h
  cases h
 unfold Cel at *;rw [World.putObj_heap_other hne]; exact h
theorem below_put {o : Obj} (h : Below n w X) (hl : n <= l) : Below n w (X.putObj l o) :=
 ⟨h.os, h.tape, h.output, by simpa [World.putObj] using h.size, fun k hk => (World.putObj_heap_other (by omega)).trans (h.block k hk)⟩
theorem cel_past {S : Nat -> Prop} (h : Cel X B vs t) (k : Touch S X Y) (hn : ¬ S B := by omega) : Cel Y B vs t := by
 have hl := h.lt;unfold Cel at *;rw [k.block B hl hn]; exact h
theorem below_touch (h : Below w.heap.size w X) (t : Touch (fun k => k = G) X Y) (hG : w.heap.size <= G := by omega) : Below w.heap.size w Y :=
 ⟨t.os.trans h.os, t.tape.trans h.tape, t.output.trans h.output, Nat.le_trans h.size t.size, fun k hk => (t.block k (Nat.lt_of_lt_of_le hk h.size) (by omega)).trans (h.block k hk)⟩
theorem OwnBB.loose {f : Nat -> Bool} (h : OwnBB X G f) : Loose X.heap[G]? := fun cs t fr e => by
 unfold OwnBB Cel at h;rw [h] at e
 cases e
 refine ⟨Or.inl rfl, fun i q => ?_⟩
 match i with
 | 0 => simp
 | 1 => simp
 | 2 => simp
 | i + 3 => simp
theorem OwnBB.kpR {f : Nat -> Bool} (h : OwnBB X G f) (t : Touch (fun k => k = G) X Y) : KpR X Y := t.mono (fun k e => by subst e; exact h.loose)
theorem keeps_below (h : Below X.heap.size X Y) : KeepsFrom B X Y := ⟨h.size, fun k o _ hk _ => (h.block k (lt_of_block hk)).trans hk⟩
theorem keeps_touch (t : Touch (fun k => k = G) X Y) (hG : G < B := by omega) : KeepsFrom B X Y := ⟨t.size, fun k o hB hk _ => (t.block k (lt_of_block hk) (by omega)).trans hk⟩
theorem icatreads_in (ad : Option Addr) (N cap : Nat) (ls : List LV) (w : World) (n : Nat) (hN : ls.length = N) (hF : LinesG w ad ls) (hN1 : N <= 1048576) :
  CallsIn Fence.wide n Tryz.prog 136 #[.slice ad N cap] w fun e w' => Below w.heap.size w w' /\ ((actB N ls = false /\ e = .returned (.slice none 0 0)) \/ (actB N ls = true /\ ∃ G cG, e = .returned (.slice (some ⟨G, 0, none⟩) 3 cG) /\ w.heap.size <= G /\ OwnBB w' G (readsR (rowsL ls)))) := by
 have hdd : ∀ k : Nat, (Fence.wide.depth.isSome = true -> 1 <= k) := fun k h => by simp [Fence.wide] at h
 refine callsIn_of_wp_marks Tryz.func136 rfl trivial ?_ rfl;simp only [Tryz.ntmps136, qN, qK, qL, Nat.reduceAdd, Nat.reduceSub, Array.replicate_succ, Array.replicate_zero, List.push_toArray, List.append_toArray, List.nil_append, List.cons_append]
 gi_wp2_with fail
 refine ⟨trivial, hdd _, (callsIn_wide.2 (iact_any ad N cap ls hN hF hN1)).mono ?_⟩;rintro e w1 ⟨rfl, b1⟩;obtain ⟨u, hu⟩ : ∃ u, actB N ls = u := ⟨_, rfl⟩
 rw [hu]
 cases u with
 | false =>
  gi_wp2
  exact ⟨_, results_tmp rfl _ _ _, b1, Or.inl ⟨hu, rfl⟩⟩
 | true =>
  obtain ⟨i0, hi, hz0, hz1, hz2⟩ := info_parts Tryz.infoBool;obtain ⟨w2, hrun, o2, g2⟩ := run_make_full (P := Tryz.prog) (w := w1) w1.heap.size 141 4 i0 (.bool false) 1 Tryz.underlying141 hi hz0 hz1 .i64 .i64 3 (by rw [hz2]; omega) (by unfold maxLen; omega) (qM _);have hrun' : (Instr.makeSlice 141 (.int .i64 3) (.int .i64 3)).run Tryz.prog w1 = .ok (.slice (some ⟨w1.heap.size, 0, none⟩) 3 3) w2 := hrun;have b2 : Below w1.heap.size w1 w2 := (Below.refl _ _).grown g2 (qM _) (by simp)
  have O2 : OwnBB w2 w1.heap.size (fun _ => false) := by
   rcases o2.2 with ⟨e, _⟩ | ⟨g, cp, cur, hv, hg, hh, hl, hc, hs, ht⟩
   ·cases e
   cases hv
   have hl3 : cur.toList.length = 3 := by rw [Array.length_toList]; omega
   rw [List.take_of_length_le (by omega)] at ht
   have : cur = #[.bool false, .bool false, .bool false] := by
    apply Array.toList_inj.1
    rw [ht]; simpa [Value.cells] using toList_madeCells_one (.bool false) 3
   rw [this] at hh
   exact hh
  clear hrun o2 g2
  gi_wp2_with fail
  have bA : Below w2.heap.size w2 (w2.alloc (.cells #[.slice (some ⟨w1.heap.size, 0, none⟩) 3 3] 141)) := bal;have C3 := Cel.new w2 [.slice (some ⟨w1.heap.size, 0, none⟩) 3 3] 141;have O3 := O2.below bA;obtain ⟨w3, hw3⟩ : ∃ w3, w3 = w2.alloc (.cells #[.slice (some ⟨w1.heap.size, 0, none⟩) 3 3] 141) := ⟨_, rfl⟩
  rw [<- hw3] at bA C3 O3 ⊢;have lG := Cel.lt O2;clear hw3 hrun' O2;refine ⟨trivial, hdd _, (callsIn_wide.2 (ithrough_any ad N cap w3)).mono ?_⟩;rintro e w4 ⟨B, rfl, b4, cB⟩;have C4 := C3.below b4;have O4 := O3.below b4;have s2 := b2.size;have sA := bA.size;have s4 := b4.size;have B4 : Below w.heap.size w w4 := ((btr b1 b2).trans (bA.mono (Nat.le_trans b1.size s2))).trans (b4.mono (Nat.le_trans (Nat.le_trans b1.size s2) sA));have F4 := hF.below B4
  gi_wp2_with fail
  have s1 := b1.size
  refine wpIn_rows (α := Value × RowM) (gf := 158) (lb := #[.pointer (some ⟨B, 0, none⟩)]) rfl (enters_of Tryz.func158 (by kernel_rfl) rfl) (encs := fun x => #[x.1]) (fun _ => rfl)
   (fun _ x X => RowFit x.2 /\ RowX X w4.heap.size x.1 x.2) KpR (fun xs => xs.map Prod.snd = rowsL ls)
   (fun pre X => OwnBB X w1.heap.size (readsR (pre.map Prod.snd)) /\ Cel X w2.heap.size [.slice (some ⟨w1.heap.size, 0, none⟩) 3 3] 141 /\ Below w.heap.size w X)
   (fun pre X Y h b => ⟨h.1.below b, h.2.1.below b, h.2.2.trans (b.mono h.2.2.size)⟩)
   (fun pre X l r r' h hl lt => ⟨Cel.loop h.1 hl, h.2.1.loop hl, below_loop h.2.2 (by have := B4.size; omega)⟩) KpR.loop (fun X Y Z => KpR.trans) ⟨O4, C4, B4⟩ ?seq ?round ?done
  case seq =>
   intro l J W hJ hb hJ0 hY;have e0 : (#[.func (.yield l) #[] #[]] ++ #[.pointer (some ⟨B, 0, none⟩)] : Array Value) = #[.func (.yield l) #[] #[], .pointer (some ⟨B, 0, none⟩)] := rfl;rw [e0];refine (through_any l w4.heap.size (fun rs X => ∃ xs : List (Value × RowM), xs.map Prod.snd = rs /\ J xs X) (fun rs X Y h b => ?_) (fun m rs v r X h fit rx _ => ?_) B ad N cap ls W (n - 1) hN (F4.below hb) hN1 hu ((cB.below hb).cell 0) hb.size ⟨[], rfl, hJ0⟩).mono ?_
   ·obtain ⟨xs, e, j⟩ := h
    exact ⟨xs, e, hJ _ _ _ j b⟩
   ·obtain ⟨xs, e, j⟩ := h;obtain ⟨fn, tmps, assign, body, hy, hR⟩ := hY m xs (v, r) X j ⟨fit, rx⟩;refine ⟨fn, tmps, assign, body, hy, hR.mono ?_⟩;rintro e' Y ⟨a, b, c⟩
    exact ⟨a, ⟨xs ++ [(v, r)], by simp [e], b⟩, c⟩
   rintro e Y ⟨h1, ⟨xs, e1, j⟩, _⟩
   exact ⟨h1, xs, e1, j⟩
  case round =>
   rintro m l pre ⟨v, rm⟩ X r ⟨hO, hC, hB⟩ ⟨fit, rx⟩ hl hlt;dsimp only at fit rx;obtain ⟨ga, gc, aa, ac, ta, tc, rfl, f0, f1, f2⟩ := rx;dsimp only
   gi_wp2_with fail
   have bx : Below X.heap.size X (X.alloc (.cells #[.slice ga rm.guards.length gc, .slice aa rm.adds.length ac, .slice ta rm.tells.length tc, .bool rm.stop] 188)) := bal;have cx := Cel.new X [.slice ga rm.guards.length gc, .slice aa rm.adds.length ac, .slice ta rm.tells.length tc, .bool rm.stop] 188;have hl1 := (bx.block l (lt_of_block hl)).trans hl;refine ⟨keeps_below bx, KpR.of bx, ?_⟩;have O1 : OwnBB _ _ _ := Cel.loop (r' := { r with state := .busy }) (hO.below bx) hl1;have C1 := Cel.loop (r' := { r with state := .busy }) (hC.below bx) hl1;have X1 := Cel.loop (r' := { r with state := .busy }) cx hl1;have k1 : KpR X _ := (KpR.of bx).trans (KpR.loop _ l r { r with state := .busy } hl1);have B1 := below_loop (r' := { r with state := .busy }) (btr hB bx) (l := l) (by have := B4.size; omega);obtain ⟨Y, hY⟩ : ∃ Y, Y = (X.alloc (.cells #[.slice ga rm.guards.length gc, .slice aa rm.adds.length ac, .slice ta rm.tells.length tc, .bool rm.stop] 188)).putObj l (.loop { r with state := .busy }) := ⟨_, rfl⟩
   rw [<- hY] at O1 C1 X1 k1 B1 ⊢;clear hY;have FA := f1.at.keepR k1;have FT := f2.at.keepR k1;have hc := C1.cell 0;have hx1 := X1.cell 1;have lX := Cel.lt hO
   gi_wp2_with fail
   refine ⟨trivial, hdd _, CallsIn.mono (CallsIn.inRound l (callsIn_wide.2 (imarkpots_any rm.adds Y O1 rfl FA fit.a (by have := fit.la; omega)))) ?_⟩;rintro e Y1 ⟨⟨v1, rfl⟩, t1, O2⟩;have C2 := cel_past C1 t1;have X2 := cel_past X1 t1;have FT2 := FT.past2 O1.no t1;have hc2 := C2.cell 0;have hx2 := X2.cell 2;clear hc hx1
   gi_wp2_with fail
   refine ⟨trivial, hdd _, CallsIn.mono (CallsIn.inRound l (callsIn_wide.2 (imarkpots_any rm.tells Y1 O2 rfl FT2 fit.t (by have := fit.lt; omega)))) ?_⟩;rintro e Y2 ⟨⟨v2, rfl⟩, t2, O3⟩;have C3' := cel_past C2 t2;clear hc2 hx2
   gi_wp2_with fail
   refine ⟨(keeps_touch t1).trans (keeps_touch t2), (O1.kpR t1).trans (O2.kpR t2), O3.ext (fun v hv => ?_), C3', below_touch (below_touch B1 t1) t2⟩;simp [readsF, readsR, Bool.or_assoc]
  case done =>
   rintro D xs W hD hS ⟨hO, hC, hB⟩ hK;have hc := hC.cell 0
   gi_wp2
   refine ⟨by simp, .inl ⟨_, _, rfl, run_takeDeferred hK, ?_⟩⟩;refine ⟨_, results_tmp rfl _ _ _, ?_⟩;rw [hS] at hO
   exact ⟨below_put hB (by have := B4.size; omega), Or.inr ⟨hu, _, _, rfl, s1, Cel.defer hO hK⟩⟩
theorem icatreads_any {ad : Option Addr} {N cap : Nat} (ls : List LV) {w : World} (hN : ls.length = N) (hF : LinesG w ad ls) (hN1 : N <= 1048576) :
  Calls Tryz.prog 136 #[.slice ad N cap] w fun e w' => Below w.heap.size w w' /\ ((actB N ls = false /\ e = .returned (.slice none 0 0)) \/ (actB N ls = true /\ ∃ G cG, e = .returned (.slice (some ⟨G, 0, none⟩) 3 cG) /\ w.heap.size <= G /\ OwnBB w' G (readsR (rowsL ls)))) :=
 callsIn_wide.1 (icatreads_in ad N cap ls w 0 hN hF hN1)
def sgn1 (c : Int) : Int := if 0 < c then 1 else if c < 0 then -1 else 0
def sgn : List Int -> Int
 | [] => 0
 | c :: t => if sgn1 c = 0 then sgn t else sgn1 c
theorem sgn_append (xs ys : List Int) : sgn (xs ++ ys) = if sgn xs = 0 then sgn ys else sgn xs := by
 induction xs with
 | nil => simp [sgn]
 | cons c t ih =>
  simp only [List.cons_append, sgn]
  by_cases h : sgn1 c = 0
  ·simp only [h, if_true]; exact ih
  simp only [h, if_false]
theorem sgn_one (c : Int) : sgn [c] = sgn1 c := by
 simp only [sgn]
 split
 ·next h => exact h.symm
 rfl
theorem sgn_take_succ (h : k < C.length) : sgn (C.take (k + 1)) = if sgn (C.take k) = 0 then sgn1 (C[k]?.getD 0) else sgn (C.take k) := by
 rw [qJ h, sgn_append, qE h, sgn_one]
 rfl
theorem sgn_whole (h : sgn (C.take k) ≠ 0) : sgn C = sgn (C.take k) := by
 have := sgn_append (C.take k) (C.drop k);rw [List.take_append_drop, if_neg h] at this
 exact this
theorem sgn_end (hn : C.length = n) (h : n <= k) : sgn (C.take k) = sgn C := by rw [List.take_of_length_le (by omega)]
def sg (C : List Int) : Int := if sgn C < 0 then -1 else 1
def mulW (n : Int) (zs : List Int) : List Int := zs.map fun z => wrap64 (n * z)
def partL (C : List Int) : List Int := mulW (sg C) C
theorem mulW_len {n : Int} {zs : List Int} : (mulW n zs).length = zs.length := by simp [mulW]
theorem mulW_get {n : Int} {zs : List Int} {i : Nat} (h : i < zs.length) : (mulW n zs)[i]?.getD 0 = wrap64 (n * zs[i]?.getD 0) := by
 simp [mulW, h]
theorem part_len (C : List Int) : (partL C).length = C.length := mulW_len
theorem timesW_any {a : Option Addr} {cap : Nat} (zs : List Int) {n : Int} {w : World} (h : Ints w a l zs) (hl : l <= 1048576) :
  Calls Tryz.prog 173 #[.slice a l cap, .int .i64 n] w fun e w' => e = .returned (.slice (some ⟨w.heap.size, 0, none⟩) l l) /\ Below w.heap.size w w' /\ Blk w' w.heap.size (mulW n zs) := by
 have HZ : Hid (zs.length = l) := h.1;have HM : Hid ((mulW n zs).length = l) := by show (mulW n zs).length = l; simp [mulW, h.1]
 obtain ⟨i0, hi, hz0, hz1, hz2⟩ := info_parts Tryz.infoInt
 go_enter Tryz.func173, Tryz.ntmps173
 go_wp2_with (at_make; refine wpList_make_full _ rfl (.tmp 9) (.tmp 9) 24 rfl w.heap.size 3 i0 (.int .i64 0) 1 Tryz.underlying24 hi hz0 hz1 .i64 .i64 _ _ l rfl rfl rfl rfl (by rw [hz2]; omega) (by unfold maxLen; omega) (qM _) ?_; intro w1 hown hgrow)
 have hb1 := Blk.made w l w1 hown;have HB : Below w.heap.size w w1 := (Below.refl _ _).grown hgrow (qM _) (by simp);clear hown hgrow hi hz0 hz1 hz2
 go_loopw [6, 7, 13] (fun _ _ i wr => ∃ k : Nat, k <= l /\ i = .int .i64 k /\ Below w.heap.size w wr /\ Blk wr w.heap.size (upTo (mulW n zs) l k)) (fun _ _ i _ => l - (intOf i).toNat)
 case atStart => exact ⟨0, Nat.zero_le _, rfl, HB, by rw [upTo_zero]; exact hb1⟩
 case round =>
  obtain ⟨k, hk, rfl, hnx, hblk⟩ := hrel
  by_cases hlt : k < l
  ·obtain ⟨b, off, rfl, hcell⟩ := (h.below hnx).pos (by omega);have hck := hcell k hlt;have hco := hblk.cell k (by rw [upTo_len HM.out hk]; exact hlt);have hfo := hblk.free k;have R := hblk.set k ((mulW n zs)[k]?.getD 0);rw [upTo_succ HM.out hlt, mulW_get (by rw [HZ.out]; exact hlt)] at R;have R2 := hnx.setCell (p := ⟨w.heap.size, k, none⟩) (qM _) (.int .i64 (wrap64 (n * zs[k]?.getD 0)));clear hcell hb1 HB h hblk hnx
   go_wp2
   go_roundw
   case rel => exact ⟨k + 1, by omega, by go_num, R2, R⟩
   case measure => simp [intOf]; omega
  go_wp2
  go_ret
  exact ⟨rfl, hnx, by rw [upTo_end HM.out] at hblk; exact hblk⟩
theorem ipart_any {a : Option Addr} (n : Nat) {cap : Nat} {c : Option Addr} (m : Nat) {cap' : Nat} {K : Int} (C : List Int) {w : World} (hC : Ints w a n C) (hn : n <= 1048576) :
  Calls Tryz.prog 156 #[formV a n cap c m cap' K] w fun e w' => e = .returned (.slice (some ⟨w.heap.size + 1, 0, none⟩) n n) /\ Below w.heap.size w w' /\ Blk w' (w.heap.size + 1) (partL C) := by
 have HC : Hid (C.length = n) := hC.1
 go_enter Tryz.func156, Tryz.ntmps156
 go_wp2_with fail
 have hC1 := hC.alloc (.cells #[.slice a n cap, .slice c m cap', .int .i64 K] 95)
 have hend : ∀ (s : Int) (w2 : World), sg C = s -> Below (w.alloc (.cells #[.slice a n cap, .slice c m cap', .int .i64 K] 95)).heap.size (w.alloc (.cells #[.slice a n cap, .slice c m cap', .int .i64 K] 95)) w2 -> Blk w2 (w.alloc (.cells #[.slice a n cap, .slice c m cap', .int .i64 K] 95)).heap.size (mulW s C) -> Below w.heap.size w w2 /\ Blk w2 (w.heap.size + 1) (partL C) := by
  intro s w2 hs b2 k2;rw [qA] at k2
  exact ⟨(bal).trans (b2.mono (by simp)), by unfold partL; rw [hs]; exact k2⟩
 have HE : Hid _ := hend;clear hend
 go_loop [4, 8] (fun _ i => ∃ k : Nat, k <= n /\ i = .int .i64 k /\ sgn (C.take k) = 0) (fun _ i => n - (intOf i).toNat)
 case atStart => exact ⟨0, Nat.zero_le _, rfl, rfl⟩
 case round =>
  obtain ⟨k, hk, rfl, hs⟩ := hrel;have HS : Hid (sgn (C.take k) = 0) := hs;clear hs
  by_cases hlt : k < n
  ·obtain ⟨b, off, rfl, hcell⟩ := hC1.pos (by omega);have hck := hcell k hlt;clear hcell
   have HT : Hid (sgn (C.take (k + 1)) = sgn1 (C[k]?.getD 0)) := by
    show sgn (C.take (k + 1)) = sgn1 (C[k]?.getD 0)
    rw [sgn_take_succ (by rw [HC.out]; exact hlt), if_pos HS.out]
   by_cases h1 : 0 < C[k]?.getD 0
   ·have HG : Hid (sg C = 1) := by
     show sg C = 1
     have e := HT.out;rw [sgn1, if_pos h1] at e;have := sgn_whole (C := C) (k := k + 1) (by rw [e]; decide);rw [sg, this, e]; rfl
    go_wp2_with fail
    refine (timesW_any C hC1 hn).mono ?_;rintro e w2 ⟨rfl, b2, k2⟩
    go_wp2
    go_ret
    exact ⟨rfl, HE.out 1 w2 HG.out b2 k2⟩
   by_cases h2 : C[k]?.getD 0 < 0
   ·have HG : Hid (sg C = -1) := by
     show sg C = -1
     have e := HT.out;rw [sgn1, if_neg h1, if_pos h2] at e;have := sgn_whole (C := C) (k := k + 1) (by rw [e]; decide);rw [sg, this, e]; rfl
    go_wp2_with fail
    refine (timesW_any C hC1 hn).mono ?_;rintro e w2 ⟨rfl, b2, k2⟩
    go_wp2
    go_ret
    exact ⟨rfl, HE.out (-1) w2 HG.out b2 k2⟩
   have HT2 : Hid (sgn (C.take (k + 1)) = 0) := by
    show sgn (C.take (k + 1)) = 0
    rw [HT.out, sgn1, if_neg h1, if_neg h2]
   go_wp2
   go_round
   case rel => exact ⟨k + 1, by omega, by go_num, HT2.out⟩
   case measure => simp [intOf]; omega
  have HG : Hid (sg C = 1) := by
   show sg C = 1
   have e := HS.out;rw [sgn_end HC.out (by omega)] at e;rw [sg, e]; rfl
  go_wp2_with fail
  refine (timesW_any C hC1 hn).mono ?_;rintro e w2 ⟨rfl, b2, k2⟩
  go_wp2
  go_ret
  exact ⟨rfl, HE.out 1 w2 HG.out b2 k2⟩
def addPb (ps : List (List Int)) (p : List Int) : List (List Int) := if p ∈ ps \/ p = [0, 0, 0] then ps else ps ++ [p]
def guardsP (ps : List (List Int)) (fs : List Frm) : List (List Int) := fs.foldl (fun ps f => addPb ps (partL f.1)) ps
def rowsP (ps : List (List Int)) (rs : List RowM) : List (List Int) := rs.foldl (fun ps r => guardsP ps r.guards) ps
def actsP (ps : List (List Int)) (ss : List L2V) : List (List Int) := ss.foldl (fun ps s => rowsP ps (rowsL s.x)) ps
def pots3 : List (List Int) := [[1, 0, 0], [0, 1, 0], [0, 0, 1]]
def catP (ss : List L2V) : List (List Int) := actsP pots3 ss
def pinsA (ss : List L2V) (v : Nat) : Bool := ss.any fun s => readsR (rowsL s.x) v
theorem foldl_take {α β : Type} {f : β -> α -> β} {b : β} {xs : List α} {d : α} (h : k < xs.length) : (xs.take (k + 1)).foldl f b = f ((xs.take k).foldl f b) (xs[k]?.getD d) := by
 rw [qJ h, List.foldl_append, qE h]; rfl
theorem guardsP_snoc (ps : List (List Int)) (fs : List Frm) (k : Nat) (h : k < fs.length) : guardsP ps (fs.take (k + 1)) = addPb (guardsP ps (fs.take k)) (partL (fs[k]?.getD ([], [], 0)).1) := foldl_take h
theorem actsP_snoc {ss : List L2V} (h : k < ss.length) : actsP ps (ss.take (k + 1)) = rowsP (actsP ps (ss.take k)) (rowsL (ss[k]?.getD noL).x) := foldl_take h
theorem pinsA_snoc (ss : List L2V) (k : Nat) (h : k < ss.length) (v : Nat) : pinsA (ss.take (k + 1)) v = (pinsA (ss.take k) v || readsR (rowsL (ss[k]?.getD noL).x) v) := by
 rw [pinsA, qJ h, List.any_append, qE h];simp [pinsA]
theorem addP_zero (h : p = [0, 0, 0]) : addPb ps p = ps := by rw [addPb, if_pos (.inr h)]
abbrev kV (a b c : Int) : Value := .agg #[.int .i64 a, .int .i64 b, .int .i64 c]
abbrev KT : TypeId := 191
theorem arr3 : ArrKey Tryz.prog KT 3 3 := ⟨Tryz.underlying191, by kernel_rfl, by kernel_rfl, by kernel_rfl⟩
theorem law3 : Maps.Keyed Tryz.prog KT := Maps.Keyed.of_law arr3.law
theorem szT : ∃ m, Tryz.prog.types.size = m + 1 := ⟨Tryz.prog.types.size - 1, by have h : (0 : Nat) < Tryz.prog.types.size := of_decide_eq_true (by kernel_rfl); omega⟩
def kL (a b c : Int) : Lit := .string (keyBytes [.int .i64 a, .int .i64 b, .int .i64 c])
theorem keyOf_three {a b c : Int} (wa : (Lit.int .i64 a).wf = true) (wb : (Lit.int .i64 b).wf = true) (wc : (Lit.int .i64 c).wf = true) : keyOf Tryz.prog KT (kV a b c) = some (kL a b c) := by
 have hkt := arr3.keyType szT;obtain ⟨m, hm⟩ := szT;unfold keyOf;simp only [arr3.hu];rw [if_pos (by simp [hkt, Value.formed, arr3.hu, arr3.size]), hm];unfold Program.keyLits;simp only [arr3.hu, Value.cells];rw [if_pos (by rw [arr3.size]; rfl), show List.range 3 = [0, 1, 2] from rfl, List.mapM_cons, List.mapM_cons, List.mapM_cons, List.mapM_nil];simp [arr3.one, Program.keyLits, Tryz.underlying3, wa, wb, wc, kL]
theorem lit_one {m : Nat} {x : Value} {L : List Lit} (h : Tryz.prog.keyLits (m + 1) 3 [x] = some L) : ∃ a, x = .int .i64 a /\ (Lit.int .i64 a).wf = true /\ L = [.int .i64 a] := by
 unfold Program.keyLits at h;simp only [Tryz.underlying3] at h
 split at h
 all_goals first
  | (cases h; done)
  | skip
 all_goals simp_all
theorem inv3 {key : Value} {kl : Lit} (h : keyOf Tryz.prog KT key = some kl) : ∃ a b c, key = kV a b c /\ kl = kL a b c /\ (Lit.int .i64 a).wf = true /\ (Lit.int .i64 b).wf = true /\ (Lit.int .i64 c).wf = true := by
 obtain ⟨xs, L, rfl, hl, rfl⟩ := keyOf_top arr3.wide h;obtain ⟨m, hm⟩ := szT;rw [hm] at hl;unfold Program.keyLits at hl;simp only [arr3.hu] at hl
 split at hl
 ·rename_i hlen
  rw [arr3.size] at hlen
  obtain ⟨x, y, z, rfl⟩ : ∃ x y z, xs = #[x, y, z] := by
   match xs, hlen with
   | ⟨[x, y, z]⟩, _ => exact ⟨x, y, z, rfl⟩
  rw [show List.range 3 = [0, 1, 2] from rfl, List.mapM_cons, List.mapM_cons, List.mapM_cons, List.mapM_nil] at hl;simp only [arr3.one, bind, pure, Option.map_eq_some_iff, Option.bind_eq_some_iff] at hl;obtain ⟨aa, ⟨l0, h0, l1', ⟨l1, h1, l2', ⟨l2, h2, l3, e3, e2⟩, e1⟩, e0⟩, rfl⟩ := hl;simp only [Option.some.injEq] at e3 e2 e1 e0;subst e3 e2 e1 e0;obtain ⟨a, rfl, wa, rfl⟩ := lit_one (m := m) (x := x) (by simpa using h0);obtain ⟨b, rfl, wb, rfl⟩ := lit_one (m := m) (x := y) (by simpa using h1);obtain ⟨c, rfl, wc, rfl⟩ := lit_one (m := m) (x := z) (by simpa using h2)
  exact ⟨a, b, c, rfl, rfl, wa, wb, wc⟩
 cases hl
def kP (p : List Int) : Lit := kL (p[0]?.getD 0) (p[1]?.getD 0) (p[2]?.getD 0)
def wfP (p : List Int) : Prop := p.length = 3 /\ ∀ i, i < 3 -> (Lit.int .i64 (p[i]?.getD 0)).wf = true
theorem keyOf_P (h : wfP p) : keyOf Tryz.prog KT (kV (p[0]?.getD 0) (p[1]?.getD 0) (p[2]?.getD 0)) = some (kP p) := keyOf_three (h.2 0 (by omega)) (h.2 1 (by omega)) (h.2 2 (by omega))
theorem three_eq (h : p.length = 3) : p = [p[0]?.getD 0, p[1]?.getD 0, p[2]?.getD 0] := by
 match p, h with
 | [a, b, c], _ => rfl
theorem kP_inj {q : List Int} (hp : wfP p) (hq : wfP q) (h : kP p = kP q) : p = q := by
 have := law3.inj (keyOf_P hp) (h ▸ keyOf_P hq);simp only [kV, Value.agg.injEq, Array.mk.injEq, List.cons.injEq, Value.int.injEq, true_and, and_true] at this;obtain ⟨h0, h1, h2⟩ := this;rw [three_eq hp.1, three_eq hq.1, h0, h1, h2]
theorem wf_wrap {z : Int} : (Lit.int .i64 (wrap64 z)).wf = true := wrap64_wf z
theorem wfP_part (h : C.length = 3) : wfP (partL C) := by
 refine ⟨by rw [part_len, h], fun i hi => ?_⟩;rw [partL, mulW_get (by omega)]
 exact wf_wrap
theorem key_lit (p : List Int) : WideAt.IsKeyLit (kP p) := trivial
structure MapIs (D : DataW Unit) (ps : List (List Int)) : Prop where
 sz : Maps.size D = ps.length
 ix : ∀ j, j < ps.length -> ∀ z, D.atKey (kP (ps[j]?.getD [])) z = .lit (.int .i64 j)
 has : ∀ p, wfP p -> (Maps.has D (kP p) = true ↔ p ∈ ps)
 wf : ∀ p ∈ ps, wfP p
theorem MapIs.empty : MapIs (.map []) [] := ⟨rfl, fun j hj => by simp at hj, fun p _ => by simp [Maps.has], fun p hp => by simp at hp⟩
theorem MapIs.put {D : DataW Unit} (h : MapIs D ps) (hT : Maps.Tidy D) (hp : wfP p) (hn : p ∉ ps) : MapIs (D.put (kP p) (.lit (.int .i64 (ps.length : Int)))) (ps ++ [p]) := by
 have hno : Maps.has D (kP p) = false := by
  cases hh : Maps.has D (kP p) with
  | false => rfl
  | true => exact absurd ((h.has p hp).1 hh) hn
 refine ⟨?_, fun j hj z => ?_, fun q hq => ?_, fun q hq => ?_⟩
 ·rw [Maps.size_put hT, hno, h.sz]; simp
 ·by_cases e : j < ps.length
  ·have hm : ps[j]?.getD [] ∈ ps := by rw [qE e]; exact List.getElem_mem e
   rw [List.getElem?_append_left e, Maps.atKey_put_other (fun e2 => hn (by rw [<- kP_inj (h.wf _ hm) hp e2]; exact hm))]
   exact h.ix j e z
  rw [qI, List.length_singleton] at hj;obtain rfl : j = ps.length := by omega
  rw [List.getElem?_append_right (qM _), Nat.sub_self]
  exact Maps.atKey_put_same hT.isMap (key_lit p) _ z
 ·by_cases e : q = p
  ·subst e;simp [Maps.has_put_same hT.isMap (key_lit q)]
  rw [Maps.has_put_other (fun e2 => e (kP_inj hq hp e2)), h.has q hq];simp [e]
 rcases List.mem_append.1 hq with hq | hq
 ·exact h.wf q hq
 simp only [List.mem_cons, List.not_mem_nil, or_false] at hq;subst hq; exact hp
end Go.Proofs.YtpmihhbgjimpmaaGreatDoor
