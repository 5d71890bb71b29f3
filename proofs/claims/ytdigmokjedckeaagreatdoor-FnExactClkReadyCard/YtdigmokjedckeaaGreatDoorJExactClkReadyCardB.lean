/-
  Lemmas that the claim's last text rests on: WayQ, WayS, WayZ, WayH, IReads, Has, Part, LineSS, Cat, BothA, MapP, MapQ, MapR.
-/
import Derived.Test.YtdigmokjedckeaaGreatDoorJExactClkReadyCardA
import Derived.Test.YtdigmokjedckeaaGreatDoorWayI
import Derived.Test.YtdigmokjedckeaaGreatDoorIntSS
import Derived.Test.YtdigmokjedckeaaGreatDoorGrow
import Derived.Test.YtdigmokjedckeaaGreatDoorAct
import Derived.Test.YtdigmokjedckeaaGreatDoorOpenS
import Derived.Maps.OwnSet
import Derived.Maps.RangeWalk
import Derived.WideKeyArr2
import Derived.Lib.SlBuf
import Derived.Laws.IdiomCopy
namespace Go.Proofs.YtdigmokjedckeaaGreatDoor
open Go.RowKit Go.Deep Go.Shelf
set_option linter.unusedVariables false
set_option maxRecDepth 100000
attribute [local go_sem] Oper.semAt_some

theorem not_true_ofQ {b : Bool} (h : b = false) : ¬ b = true := by rw [h]; decide
set_option maxHeartbeats 12800000 in
theorem past_test (l : Nat) (sa : Option Addr) (N sc : Nat) (nx sk : Int) (hnx : 0 ≤ nx ∧ nx ≤ 100) (hsk : 0 ≤ sk ∧ sk ≤ 100) (i : Nat) (y : Way) (hy : WayOk i y) (h6 : i ≤ 5) (g : FV) (hs : smallB g.n g.m g.C g.D g.K = true) (ga : Option Addr) (ng gc : Nat) (pa : Option Addr) (cp : Nat) (ta : Option Addr) (nt tc : Nat) (J1 J2 : Bool → World → Prop) (hJ1 : ∀ X Y, J1 true X → Below X.heap.size X Y → J1 true Y) (hJF : ∀ Y, J1 false Y → J2 false Y) (W : World) (n : Nat) (hA : g.At W) (hP : FormsAt W pa y.pots) (hG : FormsAt W ga y.guards) (hgl : y.guards.length = ng)
  (hgo1 : ∀ X ga' gc', Below W.heap.size W X → FormsAt X ga' (y.guards ++ [intoX g y.pots]) → GoesOn l sa N sc nx (wayV ga' (ng + 1) gc' pa cp ta nt tc false) J1 X)
  (hgo2 : ∀ X ga' gc', KpR W X → J1 true X → FormsAt X ga' (y.guards ++ [minusX (intoX g y.pots)]) → GoesOn l sa N sc (nx + sk) (wayV ga' (ng + 1) gc' pa cp ta nt tc false) J2 X) :
  CallsIn Fence.wide n Tryz.prog 152 #[wayV ga ng gc pa cp ta nt tc false, .iface 216 (.agg #[.int .i64 sk, .slice g.a g.n g.cap, .slice g.c g.m g.cap', .int .i64 g.K]), .int .i64 nx, goV l sa N sc] W fun e Y => ∃ b : Bool, e = .returned (.bool b) ∧ J2 b Y ∧ KpR W Y := by
 have hdd : ∀ k : Nat, (Fence.wide.depth.isSome = true → 1 ≤ k) := fun k h => by simp [Fence.wide] at h
 obtain ⟨hnx0, hnx1⟩ := hnx
 obtain ⟨hsk0, hsk1⟩ := hsk
 obtain ⟨-, fit2, fit3⟩ := hy.into (by omega) (f := g) hs hA.D.1
 have HY : Hid (WayOk i y) := hy
 have HGL : Hid (y.guards.length = ng) := hgl
 have ng1 : ng ≤ 100 := by have := hy.gl; omega
 obtain ⟨FX, hFX⟩ : ∃ FX, FX = intoX g y.pots := ⟨_, rfl⟩
 have HFX : Hid (intoX g y.pots = FX) := hFX.symm
 rw [← hFX] at fit2 fit3 hgo1 hgo2
 have lXC := fit2.c
 have lXD := fit2.d
 have bXC := fit2.bc
 have bXD := fit2.bd
 have bX1 := fit2.k1
 have bX2 := fit2.k2
 have HF3 : Hid (fitX 10000000 (minusX FX)) := fit3
 have hK3 : (minusX FX).2.2 = -FX.2.2 - 1 := by simp only [minusX]; omega
 have HK3 : Hid _ := hK3
 have hw : IntKind.i64.wrap (nx + sk) = nx + sk := wrap_id (by omega) (by omega)
 clear fit2 fit3 hy hgl hFX hK3
 have A0 : Below W.heap.size W ((W.alloc (.cells #[.slice ga ng gc, .slice pa 3 cp, .slice ta nt tc, .bool false] 190)).alloc (.cells #[.int .i64 sk, .slice g.a g.n g.cap, .slice g.c g.m g.cap', .int .i64 g.K] 216)) := ((Below.refl _ _).alloc (Nat.le_refl _) _).alloc (by simp) _
 have x0 := (Cel.new W [.slice ga ng gc, .slice pa 3 cp, .slice ta nt tc, .bool false] 190).alloc (.cells #[.int .i64 sk, .slice g.a g.n g.cap, .slice g.c g.m g.cap', .int .i64 g.K] 216)
 have y0 := Cel.new (W.alloc (.cells #[.slice ga ng gc, .slice pa 3 cp, .slice ta nt tc, .bool false] 190)) [.int .i64 sk, .slice g.a g.n g.cap, .slice g.c g.m g.cap', .int .i64 g.K] 216
 rw [World.size_alloc] at y0
 have t1 := is_test_test
 refine callsIn_of_wp Tryz.func152 rfl trivial ?_ rfl
 simp only [Tryz.ntmps152, List.size_toArray, List.length_cons, List.length_nil, Nat.reduceAdd, Nat.reduceSub, Array.replicate_succ, Array.replicate_zero, List.push_toArray, List.append_toArray, List.nil_append, List.cons_append]
 gi_wp2_with fail
 refine ⟨trivial, hdd _, (callsIn_wide.2 (iintoW_any HY.out (by omega) g hs _ (hA.below A0) _ _ (hP.keep A0))).mono ?_⟩
 rintro e w1 ⟨B1, B2, c1, c2, rfl, b1, y1, y2, y3, k1, k2⟩
 rw [HFX.out] at k1 k2 ⊢
 have E1 := A0.trans (b1.mono A0.size)
 have x1 := x0.below b1
 have y1' := y0.below b1
 have A1 : Below w1.heap.size w1 (w1.alloc (.cells #[.slice (some ⟨B1, 0, none⟩) 3 c1, .slice (some ⟨B2, 0, none⟩) 2 c2, .int .i64 FX.2.2] 98)) := (Below.refl _ _).alloc (Nat.le_refl _) _
 have x2 := x1.below A1
 have y2' := y1'.below A1
 have z2 := Cel.new w1 [.slice (some ⟨B1, 0, none⟩) 3 c1, .slice (some ⟨B2, 0, none⟩) 2 c2, .int .i64 FX.2.2] 98
 have E2 := E1.trans (A1.mono E1.size)
 have u1 := k1.below A1
 have u2 := k2.below A1
 clear x0 y0 x1 y1' A0 b1 y1 y2 y3 k1 k2 E1
 gi_wp2_with fail
 obtain ⟨W0, hW0⟩ : ∃ W0, W0 = w1.alloc (.cells #[.slice (some ⟨B1, 0, none⟩) 3 c1, .slice (some ⟨B2, 0, none⟩) 2 c2, .int .i64 FX.2.2] 98) := ⟨_, rfl⟩
 rw [← hW0] at x2 y2' z2 E2 u1 u2 ⊢
 clear hW0 A1
 have KP : Hid (∀ X, KpR W0 X → ((X.cell? ⟨W.heap.size, 0, none⟩ = some (.slice ga ng gc) ∧ X.cell? ⟨W.heap.size, 1, none⟩ = some (.slice pa 3 cp) ∧ X.cell? ⟨W.heap.size, 2, none⟩ = some (.slice ta nt tc) ∧ X.cell? ⟨W.heap.size, 3, none⟩ = some (.bool false)) ∧ (X.cell? ⟨W.heap.size + 1, 0, none⟩ = some (.int .i64 sk) ∧ X.cell? ⟨W.heap.size + 1, 1, none⟩ = some (.slice g.a g.n g.cap) ∧ X.cell? ⟨W.heap.size + 1, 2, none⟩ = some (.slice g.c g.m g.cap') ∧ X.cell? ⟨W.heap.size + 1, 3, none⟩ = some (.int .i64 g.K)) ∧ (X.cell? ⟨w1.heap.size, 0, none⟩ = some (.slice (some ⟨B1, 0, none⟩) 3 c1) ∧ X.cell? ⟨w1.heap.size, 1, none⟩ = some (.slice (some ⟨B2, 0, none⟩) 2 c2) ∧ X.cell? ⟨w1.heap.size, 2, none⟩ = some (.int .i64 FX.2.2)))) := fun X hX => by
  have q1 := x2.keepR hX (by decide) (by decide)
  have q2 := y2'.keepR hX (by decide) (by decide)
  have q3 := z2.keepR hX (by decide) (by decide)
  obtain ⟨m0, m1, m2, -, -, -⟩ := q3.trio
  exact ⟨q1.four, ⟨q2.cell 0, q2.cell 1, q2.cell 2, q2.cell 3⟩, m0, m1, m2⟩
 have e0 : Below W0.heap.size W0 W0.drew := (Below.refl _ _).drew
 have hSS := KP.out _ (KpR.of e0)
 have G0 := hG.keep E2
 clear x2 y2' z2
 refine wpIn_region_S (fun w' => (w'.cell? ⟨W.heap.size, 0, none⟩ = some (.slice ga ng gc) ∧ w'.cell? ⟨W.heap.size, 1, none⟩ = some (.slice pa 3 cp) ∧ w'.cell? ⟨W.heap.size, 2, none⟩ = some (.slice ta nt tc) ∧ w'.cell? ⟨W.heap.size, 3, none⟩ = some (.bool false)) ∧ (w'.cell? ⟨W.heap.size + 1, 0, none⟩ = some (.int .i64 sk) ∧ w'.cell? ⟨W.heap.size + 1, 1, none⟩ = some (.slice g.a g.n g.cap) ∧ w'.cell? ⟨W.heap.size + 1, 2, none⟩ = some (.slice g.c g.m g.cap') ∧ w'.cell? ⟨W.heap.size + 1, 3, none⟩ = some (.int .i64 g.K)) ∧ (w'.cell? ⟨w1.heap.size, 0, none⟩ = some (.slice (some ⟨B1, 0, none⟩) 3 c1) ∧ w'.cell? ⟨w1.heap.size, 1, none⟩ = some (.slice (some ⟨B2, 0, none⟩) 2 c2) ∧ w'.cell? ⟨w1.heap.size, 2, none⟩ = some (.int .i64 FX.2.2))) (by kernel_rfl) ?_
 refine wpAnyS_take (i := 0) (v := ?v0) rfl rfl (by kernel_rfl) (by kernel_rfl) (by kernel_rfl) (fun _ _ _ h => h) (Or.inl ⟨by rfl, ?y0⟩) (fun _ => rfl) hSS ?_
 case y0 => (intro wz hSw; (try dsimp only at hSw); go_simp; try (with_reducible rfl))
 refine wpAnyS_take (i := 1) (v := ?v1) rfl rfl (by kernel_rfl) (by kernel_rfl) (by kernel_rfl) (fun _ _ _ h => h) (Or.inl ⟨by rfl, ?y1⟩) (fun _ => rfl) hSS ?_
 case y1 => (intro wz hSw; (try dsimp only at hSw); go_simp; try (with_reducible rfl))
 refine wpAnyS_take (i := 2) (v := ?v2) rfl rfl (by kernel_rfl) (by kernel_rfl) (by kernel_rfl) (fun _ _ _ h => h) (Or.inl ⟨by rfl, ?y2⟩) (fun _ => rfl) hSS ?_
 case y2 => (intro wz hSw; (try dsimp only at hSw); go_simp; try (with_reducible rfl))
 refine wpAnyS_take (i := 3) (v := ?v3) rfl rfl (by kernel_rfl) (by kernel_rfl) (by kernel_rfl) (fun _ _ _ h => h) (Or.inl ⟨by rfl, ?y3⟩) (fun _ => rfl) hSS ?_
 case y3 => (intro wz hSw; (try dsimp only at hSw); go_simp; try (with_reducible rfl))
 clear hSS
 refine wpAnyS_one (i := 4) (by kernel_rfl) rfl (fun K hK => ?_)
 go_simp
 refine ⟨trivial, hdd _, (callsIn_wide.2 (iguard_any FX y.guards _ _ _ _ _ _ _ _ _ _ _ _ _ _ HGL.out ng1 (G0.keep e0) ((u1.below e0).ints' lXC) ((u2.below e0).ints' lXD))).mono ?_⟩
 rintro e w2 ⟨G, cG, rfl, bd2, F2⟩
 have b2 : Below W0.heap.size W0 w2 := below_of_drew bd2
 have HG1 : Hid _ := hgo1 w2 _ cG (E2.trans (b2.mono E2.size)) F2
 clear bd2 F2 e0
 (try dsimp only)
 refine hK.out _ _ (KP.out _ (KpR.of b2)) ?_
 clear hK K
 refine wpAnyS_one (i := 5) (by kernel_rfl) rfl (fun K hK => ?_)
 go_simp
 refine ⟨trivial, hdd _, (HG1.out _).mono ?_⟩
 rintro e w3 ⟨z3, rfl, j3, k3⟩
 have K3 := (KpR.of b2).trans k3
 have hS3 := KP.out _ K3
 cases z3 with
 | false =>
  (try dsimp only)
  refine hK.out _ _ hS3 ?_
  clear hK K HG1 k3
  refine wpAnyS_one (i := 6) (by kernel_rfl) rfl (fun K hK => ?_)
  go_simp
  refine hK.out _ _ hS3 ?_
  clear hK K
  refine wpAnyS_take (i := 7) (v := undef) rfl rfl (by kernel_rfl) (by kernel_rfl) (by kernel_rfl) (fun _ _ _ h => h) (Or.inr ⟨by kernel_rfl, rfl⟩) (fun _ => rfl) hS3 ?_
  refine wpAnyS_take (i := 8) (v := undef) rfl rfl (by kernel_rfl) (by kernel_rfl) (by kernel_rfl) (fun _ _ _ h => h) (Or.inr ⟨by kernel_rfl, rfl⟩) (fun _ => rfl) hS3 ?_
  refine wpAnyS_take (i := 9) (v := undef) rfl rfl (by kernel_rfl) (by kernel_rfl) (by kernel_rfl) (fun _ _ _ h => h) (Or.inr ⟨by kernel_rfl, rfl⟩) (fun _ => rfl) hS3 ?_
  refine wpAnyS_take (i := 10) (v := undef) rfl rfl (by kernel_rfl) (by kernel_rfl) (by kernel_rfl) (fun _ _ _ h => h) (Or.inr ⟨by kernel_rfl, rfl⟩) (fun _ => rfl) hS3 ?_
  simp only [Act.put, List.setIfInBounds_toArray, List.set_cons_succ, List.set_cons_zero, List.getElem_toArray, List.getElem_cons_succ, List.getElem_cons_zero]
  refine wpAnyS_take (i := 11) (v := undef) rfl rfl (by kernel_rfl) (by kernel_rfl) (by kernel_rfl) (fun _ _ _ h => h) (Or.inr ⟨by kernel_rfl, rfl⟩) (fun _ => rfl) hS3 ?_
  refine wpAnyS_take (i := 12) (v := undef) rfl rfl (by kernel_rfl) (by kernel_rfl) (by kernel_rfl) (fun _ _ _ h => h) (Or.inr ⟨by kernel_rfl, rfl⟩) (fun _ => rfl) hS3 ?_
  refine wpAnyS_take (i := 13) (v := undef) rfl rfl (by kernel_rfl) (by kernel_rfl) (by kernel_rfl) (fun _ _ _ h => h) (Or.inr ⟨by kernel_rfl, rfl⟩) (fun _ => rfl) hS3 ?_
  simp only [Act.put, List.setIfInBounds_toArray, List.set_cons_succ, List.set_cons_zero, List.getElem_toArray, List.getElem_cons_succ, List.getElem_cons_zero]
  refine wpAnyS_one (i := 14) (by kernel_rfl) rfl (fun K hK => ?_)
  rw [if_neg (not_true_ofQ (by kernel_rfl))]
  refine ⟨fun f _ => trivial, hK.out _ _ hS3 ?_⟩
  clear hK K
  refine wpAnyS_one (i := 15) (by kernel_rfl) rfl (fun K hK => ?_)
  rw [if_neg (not_true_ofQ (by kernel_rfl))]
  refine ⟨fun f _ => trivial, hK.out _ _ hS3 ?_⟩
  clear hK K
  refine wpAnyS_one (i := 16) (by kernel_rfl) rfl (fun K hK => ?_)
  rw [if_neg (not_true_ofQ (by kernel_rfl))]
  refine ⟨fun f _ => trivial, hK.out _ _ hS3 ?_⟩
  clear hK K
  simp only [Act.put, List.setIfInBounds_toArray, List.set_cons_succ, List.set_cons_zero, List.getElem_toArray, List.getElem_cons_succ, List.getElem_cons_zero]
  refine wpAnyS_one (i := 17) (by kernel_rfl) rfl (fun K hK => ?_)
  go_simp
  refine hK.out _ _ hS3 ?_
  clear hK K
  refine wpAnyS_one (i := 18) (by kernel_rfl) rfl (fun K hK => ?_)
  go_simp
  refine hK.out _ _ hS3 ?_
  clear hK K
  refine wpAnyS_done (by kernel_rfl) ?_ _
  have KK := (KpR.of E2).trans K3
  clear KP
  gi_wp2
  go_ret
  exact ⟨false, rfl, hJF _ j3, KK⟩
 | true =>
  (try dsimp only)
  refine hK.out _ _ hS3 ?_
  clear hK K HG1 k3
  refine wpAnyS_one (i := 6) (by kernel_rfl) rfl (fun K hK => ?_)
  go_simp
  refine hK.out _ _ hS3 ?_
  clear hK K
  refine wpAnyS_take (i := 7) (v := ?dv7) rfl rfl (by kernel_rfl) (by kernel_rfl) (by kernel_rfl) (fun _ _ _ h => h) (Or.inl ⟨by kernel_rfl, ?dy7⟩) (fun _ => rfl) hS3 ?_
  case dy7 => (intro wz hSw; (try dsimp only at hSw); go_simp; try (with_reducible rfl))
  refine wpAnyS_take (i := 8) (v := ?dv8) rfl rfl (by kernel_rfl) (by kernel_rfl) (by kernel_rfl) (fun _ _ _ h => h) (Or.inl ⟨by kernel_rfl, ?dy8⟩) (fun _ => rfl) hS3 ?_
  case dy8 => (intro wz hSw; (try dsimp only at hSw); go_simp; try (with_reducible rfl))
  refine wpAnyS_take (i := 9) (v := ?dv9) rfl rfl (by kernel_rfl) (by kernel_rfl) (by kernel_rfl) (fun _ _ _ h => h) (Or.inl ⟨by kernel_rfl, ?dy9⟩) (fun _ => rfl) hS3 ?_
  case dy9 => (intro wz hSw; (try dsimp only at hSw); go_simp; try (with_reducible rfl))
  refine wpAnyS_take (i := 10) (v := ?dv10) rfl rfl (by kernel_rfl) (by kernel_rfl) (by kernel_rfl) (fun _ _ _ h => h) (Or.inl ⟨by kernel_rfl, ?dy10⟩) (fun _ => rfl) hS3 ?_
  case dy10 => (intro wz hSw; (try dsimp only at hSw); go_simp; try (with_reducible rfl))
  refine wpAnyS_take (i := 11) (v := ?dv11) rfl rfl (by kernel_rfl) (by kernel_rfl) (by kernel_rfl) (fun _ _ _ h => h) (Or.inl ⟨by kernel_rfl, ?dy11⟩) (fun _ => rfl) hS3 ?_
  case dy11 => (intro wz hSw; (try dsimp only at hSw); go_simp; try (with_reducible rfl))
  refine wpAnyS_take (i := 12) (v := ?dv12) rfl rfl (by kernel_rfl) (by kernel_rfl) (by kernel_rfl) (fun _ _ _ h => h) (Or.inl ⟨by kernel_rfl, ?dy12⟩) (fun _ => rfl) hS3 ?_
  case dy12 => (intro wz hSw; (try dsimp only at hSw); go_simp; try (with_reducible rfl))
  refine wpAnyS_take (i := 13) (v := ?dv13) rfl rfl (by kernel_rfl) (by kernel_rfl) (by kernel_rfl) (fun _ _ _ h => h) (Or.inl ⟨by kernel_rfl, ?dy13⟩) (fun _ => rfl) hS3 ?_
  case dy13 => (intro wz hSw; (try dsimp only at hSw); go_simp; try (with_reducible rfl))
  have v1 := (u1.ints' lXC).keepR K3
  have v2 := (u2.ints' lXD).keepR K3
  have G3 := G0.keepR K3
  clear hS3 u1 u2 G0 b2
  refine wpAnyS_one (i := 14) (by kernel_rfl) rfl (fun K hK => ?_)
  go_simp
  refine ⟨trivial, hdd _, (callsIn_wide.2 (ilack_any _ _ _ _ _ FX.1 FX.2.1 _ v1 v2 bXC bXD bX1 bX2 HF3.out)).mono ?_⟩
  rintro e w4 ⟨M1, M2, rfl, b4, -, -, -, m1, m2⟩
  have K4 := K3.trans (KpR.of b4)
  have j4 := hJ1 _ _ j3 b4
  (try dsimp only)
  refine hK.out _ _ (KP.out _ K4) ?_
  clear hK K j3 K3
  have hcall := iguard_any (minusX FX) y.guards ga ng gc pa cp ta nt tc false (some ⟨M1, 0, none⟩) 3 (some ⟨M2, 0, none⟩) 2 w4 HGL.out ng1 (G3.keep b4) (m1.ints' (by rw [mulL_len]; exact lXC)) (m2.ints' (by rw [mulL_len]; exact lXD))
  rw [HK3.out] at hcall
  refine wpAnyS_one (i := 15) (by kernel_rfl) rfl (fun K hK => ?_)
  go_simp
  refine ⟨trivial, hdd _, (callsIn_wide.2 hcall).mono ?_⟩
  rintro e w5 ⟨G5, c5, rfl, b5, F5⟩
  have K5 := K4.trans (KpR.of b5)
  have HG2 : Hid _ := hgo2 w5 _ c5 ((KpR.of E2).trans K5) (hJ1 _ _ j4 b5) F5
  (try dsimp only)
  refine hK.out _ _ (KP.out _ K5) ?_
  clear hK K hcall F5 j4 K4 m1 m2
  refine wpAnyS_one (i := 16) (by kernel_rfl) rfl (fun K hK => ?_)
  go_simp
  refine ⟨trivial, hdd _, (HG2.out _).mono ?_⟩
  rintro e w6 ⟨z6, rfl, j6, k6⟩
  have K6 := K5.trans k6
  have KK := (KpR.of E2).trans K6
  (try dsimp only)
  refine hK.out _ _ (KP.out _ K6) ?_
  clear hK K HG2
  refine wpAnyS_one (i := 17) (by kernel_rfl) rfl (fun K hK => ?_)
  go_simp
  refine hK.out _ _ (KP.out _ K6) ?_
  clear hK K
  refine wpAnyS_one (i := 18) (by kernel_rfl) rfl (fun K hK => ?_)
  go_simp
  refine hK.out _ _ (KP.out _ K6) ?_
  clear hK K
  refine wpAnyS_done (by kernel_rfl) ?_ _
  clear KP
  gi_wp2
  go_ret
  exact ⟨z6, rfl, j6, KK⟩

end Go.Proofs.YtdigmokjedckeaaGreatDoor
namespace Go.Proofs.YtdigmokjedckeaaGreatDoor
open Go.RowKit Go.Deep Go.Shelf
set_option linter.unusedVariables false
set_option maxRecDepth 100000
attribute [local go_sem] Oper.semAt_some

set_option maxHeartbeats 6400000 in
theorem from_step (l : Nat) (SG N sc i0 : Nat) (hlt : i0 < N) (hi1 : i0 ≤ 12) (ga : Option Addr) (ng gc : Nat) (pa : Option Addr) (cp : Nat) (ta : Option Addr) (nt tc : Nat) (ty : TypeId) (sv : Value) (cur : List Value) (J : Bool → World → Prop) (W : World) (n : Nat) (hC : Cel W SG cur 200) (hv : cur[i0]? = some (.iface ty sv))
  (hpast : ∀ X m, Below W.heap.size W X → CallsIn Fence.wide m Tryz.prog 152 #[wayV ga ng gc pa cp ta nt tc false, .iface ty sv, .int .i64 ((i0 : Int) + 1), goV l (some ⟨SG, 0, none⟩) N sc] X fun e Y => ∃ b : Bool, e = .returned (.bool b) ∧ J b Y ∧ KpR X Y) :
  CallsIn Fence.wide n Tryz.prog 137 #[walkV l (some ⟨SG, 0, none⟩) N sc, .int .i64 (i0 : Int), wayV ga ng gc pa cp ta nt tc false] W fun e Y => ∃ b : Bool, e = .returned (.bool b) ∧ J b Y ∧ KpR W Y := by
 have hdd : ∀ k : Nat, (Fence.wide.depth.isSome = true → 1 ≤ k) := fun k h => by simp [Fence.wide] at h
 have hge : ¬ ((N : Int) ≤ i0) := by omega
 have hlt' : (i0 : Int) < N := by omega
 have hw : IntKind.i64.wrap ((i0 : Int) + 1) = (i0 : Int) + 1 := wrap_id (by omega) (by omega)
 have A : Below W.heap.size W ((W.alloc (.cells #[.slice (some ⟨SG, 0, none⟩) N sc, .func (.yield l) #[] #[]] 187)).alloc (.cells #[.slice ga ng gc, .slice pa 3 cp, .slice ta nt tc, .bool false] 190)) := ((Below.refl _ _).alloc (Nat.le_refl _) _).alloc (by simp) _
 have x0 := (Cel.new W [.slice (some ⟨SG, 0, none⟩) N sc, .func (.yield l) #[] #[]] 187).alloc (.cells #[.slice ga ng gc, .slice pa 3 cp, .slice ta nt tc, .bool false] 190)
 have y0 := Cel.new (W.alloc (.cells #[.slice (some ⟨SG, 0, none⟩) N sc, .func (.yield l) #[] #[]] 187)) [.slice ga ng gc, .slice pa 3 cp, .slice ta nt tc, .bool false] 190
 rw [World.size_alloc] at y0
 have s0 := hC.below A
 refine callsIn_of_wp Tryz.func137 rfl trivial ?_ rfl
 simp only [Tryz.ntmps137, List.size_toArray, List.length_cons, List.length_nil, Nat.reduceAdd, Nat.reduceSub, Array.replicate_succ, Array.replicate_zero, List.push_toArray, List.append_toArray, List.nil_append, List.cons_append]
 gi_wp2_with fail
 obtain ⟨W0, hW0⟩ : ∃ W0, W0 = (W.alloc (.cells #[.slice (some ⟨SG, 0, none⟩) N sc, .func (.yield l) #[] #[]] 187)).alloc (.cells #[.slice ga ng gc, .slice pa 3 cp, .slice ta nt tc, .bool false] 190) := ⟨_, rfl⟩
 rw [← hW0] at A x0 y0 s0 ⊢
 clear hW0
 have KP : Hid (∀ X, KpR W0 X → ((X.cell? ⟨W.heap.size, 0, none⟩ = some (.slice (some ⟨SG, 0, none⟩) N sc) ∧ X.cell? ⟨W.heap.size, 1, none⟩ = some (.func (.yield l) #[] #[])) ∧ (X.cell? ⟨W.heap.size + 1, 0, none⟩ = some (.slice ga ng gc) ∧ X.cell? ⟨W.heap.size + 1, 1, none⟩ = some (.slice pa 3 cp) ∧ X.cell? ⟨W.heap.size + 1, 2, none⟩ = some (.slice ta nt tc) ∧ X.cell? ⟨W.heap.size + 1, 3, none⟩ = some (.bool false)) ∧ X.cell? ⟨SG, i0, none⟩ = some (.iface ty sv))) := fun X hX => by
  have a1 := x0.keepR hX (by decide) (by decide)
  have a2 := y0.keepR hX (by decide) (by decide)
  have a3 := s0.keepR hX (by decide) (by decide)
  exact ⟨⟨a1.cell 0, a1.cell 1⟩, a2.four, (a3.cell i0).trans hv⟩
 have e0 : Below W0.heap.size W0 W0.drew := (Below.refl _ _).drew
 have hSS := KP.out _ (KpR.of e0)
 have HP : Hid _ := hpast _ (n - 1) (A.trans (e0.mono A.size))
 clear x0 y0 s0 hpast
 refine wpIn_region_S (fun w' => (w'.cell? ⟨W.heap.size, 0, none⟩ = some (.slice (some ⟨SG, 0, none⟩) N sc) ∧ w'.cell? ⟨W.heap.size, 1, none⟩ = some (.func (.yield l) #[] #[])) ∧ (w'.cell? ⟨W.heap.size + 1, 0, none⟩ = some (.slice ga ng gc) ∧ w'.cell? ⟨W.heap.size + 1, 1, none⟩ = some (.slice pa 3 cp) ∧ w'.cell? ⟨W.heap.size + 1, 2, none⟩ = some (.slice ta nt tc) ∧ w'.cell? ⟨W.heap.size + 1, 3, none⟩ = some (.bool false)) ∧ w'.cell? ⟨SG, i0, none⟩ = some (.iface ty sv)) (by kernel_rfl) ?_
 refine wpAnyS_take (i := 0) (v := ?v0) rfl rfl (by kernel_rfl) (by kernel_rfl) (by kernel_rfl) (fun _ _ _ h => h) (Or.inl ⟨by rfl, ?y0⟩) (fun _ => rfl) hSS ?_
 case y0 => (intro wz hSw; (try dsimp only at hSw); go_simp; try (with_reducible rfl))
 refine wpAnyS_take (i := 1) (v := ?v1) rfl rfl (by kernel_rfl) (by kernel_rfl) (by kernel_rfl) (fun _ _ _ h => h) (Or.inl ⟨by rfl, ?y1⟩) (fun _ => rfl) hSS ?_
 case y1 => (intro wz hSw; (try dsimp only at hSw); go_simp; try (with_reducible rfl))
 refine wpAnyS_take (i := 2) (v := ?v2) rfl rfl (by kernel_rfl) (by kernel_rfl) (by kernel_rfl) (fun _ _ _ h => h) (Or.inl ⟨by rfl, ?y2⟩) (fun _ => rfl) hSS ?_
 case y2 => (intro wz hSw; (try dsimp only at hSw); go_simp; try (with_reducible rfl))
 refine wpAnyS_take (i := 3) (v := ?v3) rfl rfl (by kernel_rfl) (by kernel_rfl) (by kernel_rfl) (fun _ _ _ h => h) (Or.inl ⟨by rfl, ?y3⟩) (fun _ => rfl) hSS ?_
 case y3 => (intro wz hSw; (try dsimp only at hSw); go_simp; try (with_reducible rfl))
 refine wpAnyS_take (i := 4) (v := ?v4) rfl rfl (by kernel_rfl) (by kernel_rfl) (by kernel_rfl) (fun _ _ _ h => h) (Or.inl ⟨by rfl, ?y4⟩) (fun _ => rfl) hSS ?_
 case y4 => (intro wz hSw; (try dsimp only at hSw); go_simp; try (with_reducible rfl))
 refine wpAnyS_take (i := 5) (v := ?v5) rfl rfl (by kernel_rfl) (by kernel_rfl) (by kernel_rfl) (fun _ _ _ h => h) (Or.inl ⟨by rfl, ?y5⟩) (fun _ => rfl) hSS ?_
 case y5 => (intro wz hSw; (try dsimp only at hSw); go_simp; try (with_reducible rfl))
 refine wpAnyS_take (i := 6) (v := ?v6) rfl rfl (by kernel_rfl) (by kernel_rfl) (by kernel_rfl) (fun _ _ _ h => h) (Or.inl ⟨by rfl, ?y6⟩) (fun _ => rfl) hSS ?_
 case y6 => (intro wz hSw; (try dsimp only at hSw); go_simp; try (with_reducible rfl))
 refine wpAnyS_take (i := 7) (v := ?v7) rfl rfl (by kernel_rfl) (by kernel_rfl) (by kernel_rfl) (fun _ _ _ h => h) (Or.inl ⟨by rfl, ?y7⟩) (fun _ => rfl) hSS ?_
 case y7 => (intro wz hSw; (try dsimp only at hSw); go_simp; try (with_reducible rfl))
 refine wpAnyS_take (i := 8) (v := ?v8) rfl rfl (by kernel_rfl) (by kernel_rfl) (by kernel_rfl) (fun _ _ _ h => h) (Or.inl ⟨by rfl, ?y8⟩) (fun _ => rfl) hSS ?_
 case y8 => (intro wz hSw; (try dsimp only at hSw); go_simp; try (with_reducible rfl))
 refine wpAnyS_take (i := 9) (v := ?v9) rfl rfl (by kernel_rfl) (by kernel_rfl) (by kernel_rfl) (fun _ _ _ h => h) (Or.inl ⟨by rfl, ?y9⟩) (fun _ => rfl) hSS ?_
 case y9 => (intro wz hSw; (try dsimp only at hSw); go_simp; try (with_reducible rfl))
 clear hSS
 refine wpAnyS_one (i := 10) (by kernel_rfl) rfl (fun K hK => ?_)
 go_simp
 refine ⟨trivial, hdd _, CallsIn.mono HP.out ?_⟩
 rintro e w1 ⟨z1, rfl, j1, k1⟩
 have K1 : KpR W0 w1 := (KpR.of e0).trans k1
 have KK := (KpR.of A).trans K1
 (try dsimp only)
 refine hK.out _ _ (KP.out _ K1) ?_
 clear hK K HP
 refine wpAnyS_one (i := 11) (by kernel_rfl) rfl (fun K hK => ?_)
 go_simp
 refine hK.out _ _ (KP.out _ K1) ?_
 clear hK K
 refine wpAnyS_done (by kernel_rfl) ?_ _
 clear KP
 gi_wp2
 go_ret
 exact ⟨z1, rfl, j1, KK⟩

end Go.Proofs.YtdigmokjedckeaaGreatDoor
namespace Go.Proofs.YtdigmokjedckeaaGreatDoor
open Go.RowKit Go.Deep Go.Shelf
set_option linter.unusedVariables false
set_option maxRecDepth 100000

/-- Steps in memory; their forms can be read. -/
def Stp (W : World) (SG N : Nat) (ls : List LV) : Prop := ∃ cur, Cel W SG cur 200 ∧ ∀ j, j < N → cur[j]? = some (stepV (ls[j]?.getD noLV))
def LinesIn (W : World) (ls : List LV) : Prop := ∀ j, j < ls.length → (ls[j]?.getD noLV).f.At W
theorem FV.At.keepR {g : FV} {X Y : World} (h : g.At X) (k : KpR X Y) : g.At Y := ⟨h.C.keepR k, h.D.keepR k, h.hn, h.hm⟩
theorem Stp.keepR {X Y : World} {SG N : Nat} {ls : List LV} (h : Stp X SG N ls) (k : KpR X Y) : Stp Y SG N ls := by
 obtain ⟨cur, hc, hv⟩ := h
 exact ⟨cur, hc.keepR k (by decide) (by decide), hv⟩
theorem LinesIn.keepR {X Y : World} {ls : List LV} (h : LinesIn X ls) (k : KpR X Y) : LinesIn Y ls := fun j hj => (h j hj).keepR k

theorem from_any (l n₀ : Nat) (J D : List RowM → World → Prop) (hJ : ∀ pre X Y, J pre X → Below X.heap.size X Y → J pre Y) (M : Nat) (hY : RoundsD l n₀ J D M) (SG N sc : Nat) (ls : List LV) (hN : ls.length = N) (h6 : N ≤ 6) (hall : ls.all LV.ok = true) (f : Nat) :
  ∀ (i0 : Nat) (y : Way) (pa : Option Addr) (cp : Nat) (ga : Option Addr) (ng gc : Nat) (ta : Option Addr) (nt tc : Nat) (pre : List RowM) (W : World) (n : Nat), f ≤ 7 → N ≤ i0 + f → i0 ≤ 12 → WayOk i0 y → y.guards.length = ng → y.tells.length = nt → Stp W SG N ls → LinesIn W ls → FormsAt W pa y.pots → FormsAt W ga y.guards → FormsAt W ta y.tells → n₀ ≤ W.heap.size → J pre W → pre.length + (goW ls f i0 y).length ≤ M →
  CallsIn Fence.wide n Tryz.prog 137 #[walkV l (some ⟨SG, 0, none⟩) N sc, .int .i64 (i0 : Int), wayV ga ng gc pa cp ta nt tc false] W fun e Y => ∃ b : Bool, e = .returned (.bool b) ∧ Went J D pre (goW ls f i0 y) b Y ∧ KpR W Y := by
 have atEnd : ∀ (f i0 : Nat) (y : Way) (pa : Option Addr) (cp : Nat) (ga : Option Addr) (ng gc : Nat) (ta : Option Addr) (nt tc : Nat) (pre : List RowM) (W : World) (n : Nat), N ≤ i0 → i0 ≤ 12 → WayOk i0 y → y.guards.length = ng → y.tells.length = nt → FormsAt W pa y.pots → FormsAt W ga y.guards → FormsAt W ta y.tells → n₀ ≤ W.heap.size → J pre W → pre.length + (goW ls f i0 y).length ≤ M →
   CallsIn Fence.wide n Tryz.prog 137 #[walkV l (some ⟨SG, 0, none⟩) N sc, .int .i64 (i0 : Int), wayV ga ng gc pa cp ta nt tc false] W fun e Y => ∃ b : Bool, e = .returned (.bool b) ∧ Went J D pre (goW ls f i0 y) b Y ∧ KpR W Y := by
  intro f i0 y pa cp ga ng gc ta nt tc pre W n hi hi1 hy hg ht hP hG hT hn0 h0
  rw [goW_end (by omega)]
  intro hM
  have hM' : pre.length < M := by simp only [List.length_cons, List.length_nil] at hM; omega
  have g1 := hy.gl
  have g2 := hy.tl
  exact from_end l n₀ J D hJ M hY _ N sc i0 hi hi1 y pa cp ga ng gc ta nt tc false (endW y) pre W n hn0 h0 (endW_fit hy (by omega)) hM' (fun X hb => irow_end y ga ng gc pa cp ta nt tc X hy.pl hg ht (hP.keep hb) (hG.keep hb) (hT.keep hb) (fun k hk => (hy.pf k hk).mono (by have := wb_six (n := min i0 6) (by omega); omega)) (fun k hk => hy.gf k (by omega)) (fun k hk => hy.tf k (by omega)) (by omega) (by omega))
 induction f with
 | zero => intro i0 y pa cp ga ng gc ta nt tc pre W n _ hfu hi1 hy hg ht _ _ hP hG hT hn0 h0 hM; exact atEnd 0 i0 y pa cp ga ng gc ta nt tc pre W n (by omega) hi1 hy hg ht hP hG hT hn0 h0 hM
 | succ f ih =>
  intro i0 y pa cp ga ng gc ta nt tc pre W n hf7 hfu hi1 hy hg ht hS hLI hP hG hT hn0 h0 hM
  by_cases hlt : i0 < N
  ·have hl : i0 < ls.length := by omega
   have hok : (ls[i0]?.getD noLV).ok = true := by
    rw [List.getElem?_eq_getElem hl]
    exact List.all_eq_true.1 hall _ (List.getElem_mem hl)
   obtain ⟨cur, hC, hv⟩ := hS
   have hv0 := hv i0 hlt
   have hA := hLI i0 hl
   have hS' : Stp W SG N ls := ⟨cur, hC, hv⟩
   rw [goW, if_pos hl] at hM ⊢
   generalize ls[i0]?.getD noLV = q at *
   have e1 : ((i0 + 1 : Nat) : Int) = (i0 : Int) + 1 := by omega
   by_cases hk4 : q.kind = 4
   ·rw [if_neg (by omega), if_neg (by omega), if_neg (by omega)] at hM ⊢
    have hM' : pre.length < M := by simp only [List.length_cons, List.length_nil] at hM; omega
    have hst : stepV q = .iface 222 (.agg #[]) := by simp [stepV, hk4]
    rw [hst] at hv0
    have g1 := hy.gl
    refine from_step l SG N sc i0 hlt hi1 ga ng gc pa cp ta nt tc _ _ cur _ W n hC hv0 (fun X m hb => past_stop l _ N sc _ ga ng gc pa cp ta nt tc _ X m (fun X2 hb2 m2 => ?_))
    have hb' := hb.trans (hb2.mono hb.size)
    exact from_end l n₀ J D hJ M hY _ N sc 6 h6 (by omega) y pa cp ga ng gc ta nt tc true (stopW y) pre X2 m2 (by have := hb'.size; omega) (hJ _ _ _ h0 hb') (stopW_fit hy (by omega)) hM' (fun X3 hb3 => irow_stop y ga ng gc pa cp ta nt tc X3 hg (hG.keep (hb'.trans (hb3.mono hb'.size))) (fun k hk => hy.gf k (by omega)) (by omega))
   ·obtain ⟨hsm, hkk, hz, hp⟩ := lineW (show lineB q.kind q.pot q.skip q.f.n q.f.m q.f.C q.f.D q.f.K = true from hok) hk4
    obtain ⟨f1, f2, f3⟩ := hy.into (by omega) (f := q.f) hsm hA.D.1
    rcases hkk with e | e | e
    ·rw [if_pos e] at hM ⊢
     rw [List.length_append] at hM
     obtain ⟨z1, z2⟩ := hz e
     have hst : stepV q = .iface 216 (.agg #[.int .i64 q.skip, .slice q.f.a q.f.n q.f.cap, .slice q.f.c q.f.m q.f.cap', .int .i64 q.f.K]) := by simp [stepV, e]
     rw [hst] at hv0
     have e2 : ((i0 + 1 + q.skip.toNat : Nat) : Int) = (i0 : Int) + 1 + q.skip := by omega
     refine from_step l SG N sc i0 hlt hi1 ga ng gc pa cp ta nt tc _ _ cur _ W n hC hv0 (fun X m hb => ?_)
     have kX : KpR W X := KpR.of hb
     refine past_test l _ N sc _ q.skip ⟨by omega, by omega⟩ ⟨by omega, by omega⟩ i0 y hy (by omega) q.f hsm ga ng gc pa cp ta nt tc (Went J D pre (goW ls f (i0 + 1) (y.guard (intoX q.f y.pots)))) _ (fun A B a b => Or.inl ⟨rfl, hJ _ _ _ a.on b⟩) (fun Y h => h.fst) X m (hA.keepR kX) (hP.keepR kX) (hG.keepR kX) hg (fun X2 ga' gc' hb2 F m2 => ?_) (fun X2 ga' gc' k2 j2 F m2 => ?_)
     ·have k2 : KpR W X2 := kX.trans (KpR.of hb2)
      have := ih (i0 + 1) (y.guard (intoX q.f y.pots)) pa cp ga' (ng + 1) gc' ta nt tc pre X2 m2 (by omega) (by omega) (by omega) (hy.guard (by omega) f2) (by show (y.guards ++ [_]).length = ng + 1; rw [List.length_append, hg]; rfl) ht (hS'.keepR k2) (hLI.keepR k2) (hP.keepR k2) F (hT.keepR k2) (Nat.le_trans hn0 k2.size) (hJ _ _ _ (hJ _ _ _ h0 hb) hb2) (by omega)
      rw [e1] at this
      exact this
     ·have k3 : KpR W X2 := kX.trans k2
      have := ih (i0 + 1 + q.skip.toNat) (y.guard (minusX (intoX q.f y.pots))) pa cp ga' (ng + 1) gc' ta nt tc _ X2 m2 (by omega) (by omega) (by omega) (hy.guard (by omega) f3) (by show (y.guards ++ [_]).length = ng + 1; rw [List.length_append, hg]; rfl) ht (hS'.keepR k3) (hLI.keepR k3) (hP.keepR k3) F (hT.keepR k3) (Nat.le_trans hn0 k3.size) j2.on (by rw [List.length_append]; omega)
      rw [e2] at this
      exact this.mono (fun e Y ⟨b, h1, h2, h3⟩ => ⟨b, h1, h2.snd, h3⟩)
    ·rw [if_neg (by omega), if_pos e] at hM ⊢
     obtain ⟨z1, z2⟩ := hp e
     obtain ⟨p, hpq⟩ : ∃ p : Nat, q.pot = p := ⟨q.pot.toNat, by omega⟩
     have hpn : q.pot.toNat = p := by omega
     have hst : stepV q = .iface 218 (.agg #[.int .i64 (p : Int), .slice q.f.a q.f.n q.f.cap, .slice q.f.c q.f.m q.f.cap', .int .i64 q.f.K]) := by simp [stepV, e, hpq]
     rw [hst] at hv0
     rw [hpn] at hM ⊢
     refine from_step l SG N sc i0 hlt hi1 ga ng gc pa cp ta nt tc _ _ cur _ W n hC hv0 (fun X m hb => ?_)
     have kX : KpR W X := KpR.of hb
     refine past_add l _ N sc _ i0 y hy (by omega) q.f hsm ga ng gc pa cp ta nt tc _ X m (hA.keepR kX) (hP.keepR kX) (hT.keepR kX) ht p (by omega) (fun X2 pa' cp' hb2 F m2 => ?_)
     have k2 : KpR W X2 := kX.trans (KpR.of hb2)
     have := ih (i0 + 1) (y.add p (intoX q.f y.pots)) pa' cp' ga ng gc ta nt tc pre X2 m2 (by omega) (by omega) (by omega) (hy.add (by omega) (by omega) f1) hg ht (hS'.keepR k2) (hLI.keepR k2) F (hG.keepR k2) (hT.keepR k2) (Nat.le_trans hn0 k2.size) (hJ _ _ _ (hJ _ _ _ h0 hb) hb2) hM
     rw [e1] at this
     exact this
    ·rw [if_neg (by omega), if_neg (by omega), if_pos e] at hM ⊢
     have hst : stepV q = .iface 220 (.agg #[.slice q.f.a q.f.n q.f.cap, .slice q.f.c q.f.m q.f.cap', .int .i64 q.f.K]) := by simp [stepV, e]
     rw [hst] at hv0
     refine from_step l SG N sc i0 hlt hi1 ga ng gc pa cp ta nt tc _ _ cur _ W n hC hv0 (fun X m hb => ?_)
     have kX : KpR W X := KpR.of hb
     refine past_print l _ N sc _ i0 y hy (by omega) q.f hsm ga ng gc pa cp ta nt tc _ X m (hA.keepR kX) (hP.keepR kX) (hT.keepR kX) ht (fun X2 ta' tc' hb2 F m2 => ?_)
     have k2 : KpR W X2 := kX.trans (KpR.of hb2)
     have := ih (i0 + 1) (y.tell (intoX q.f y.pots)) pa cp ga ng gc ta' (nt + 1) tc' pre X2 m2 (by omega) (by omega) (by omega) (hy.tell (by omega) f2) hg (by show (y.tells ++ [_]).length = nt + 1; rw [List.length_append, ht]; rfl) (hS'.keepR k2) (hLI.keepR k2) (hP.keepR k2) (hG.keepR k2) F (Nat.le_trans hn0 k2.size) (hJ _ _ _ (hJ _ _ _ h0 hb) hb2) hM
     rw [e1] at this
     exact this
  ·exact atEnd (f + 1) i0 y pa cp ga ng gc ta nt tc pre W n (by omega) hi1 hy hg ht hP hG hT hn0 h0 hM

end Go.Proofs.YtdigmokjedckeaaGreatDoor
namespace Go.Proofs.YtdigmokjedckeaaGreatDoor
open Go.RowKit Go.Deep Go.Shelf
set_option linter.unusedVariables false
set_option maxRecDepth 100000
attribute [local go_sem] Oper.semAt_some

theorem LinesG.lin {W : World} {ad : Option Addr} {ls : List LV} (h : LinesG W ad ls) : LinesIn W ls := fun j hj => by
 obtain ⟨b, off, _, _, ha⟩ := h j hj
 exact ha
theorem JS.stp {w W : World} {v : Value} {ls : List LV} (j : JS w v (ls.map stepV) W) : ∃ sa sc, v = .slice sa ls.length sc ∧ (ls.length = 0 ∨ ∃ SG, sa = some ⟨SG, 0, none⟩ ∧ Stp W SG ls.length ls) := by
 rcases j.o.2 with ⟨e, h0⟩ | ⟨g, cap, cur, hv, hg, hh, hl, hc, hs, ht⟩
 ·rw [List.length_map] at h0
  exact ⟨none, 0, by rw [h0]; exact e, Or.inl h0⟩
 ·rw [List.length_map] at hv ht
  refine ⟨_, cap, hv, Or.inr ⟨g, rfl, cur.toList, hh, fun i hi => ?_⟩⟩
  rw [Nat.mul_one] at ht
  have : (cur.toList.take ls.length)[i]? = cur.toList[i]? := List.getElem?_take_of_lt hi
  rw [← this, ht, List.getElem?_map, List.getElem?_eq_getElem hi]
  rfl

theorem rs_func {P : Program} {w : World} {a : Addr} {m : Mode} (fn : Fn) (first captured : Array Value) : (store a (.func fn first captured) m).run P w = stored P w a (.func fn first captured) m := run_store P w a _ m rfl
attribute [local go_sem] rs_func

set_option maxHeartbeats 3200000 in
theorem through_left (l n₀ : Nat) (J D : List RowM → World → Prop) (hJ : ∀ pre X Y, J pre X → Below X.heap.size X Y → J pre Y) (hY : RoundsD l n₀ J D 128) (aB : Nat) (ad : Option Addr) (N cap : Nat) (ls : List LV) (W : World) (n : Nat) (hN : ls.length = N) (hF : LinesG W ad ls) (hN1 : N ≤ 1048576) (hok : actB N ls = true) (hc : W.cell? ⟨aB, 0, none⟩ = some (.slice ad N cap)) (hn0 : n₀ ≤ W.heap.size) (h0 : J [] W) :
  CallsIn Fence.wide n Tryz.prog 136 #[.func (.yield l) #[] #[], .pointer (some ⟨aB, 0, none⟩)] W fun e Y => (∃ v, e = .returned v) ∧ (J (rowsL ls) Y ∨ ∃ ms rest, rowsL ls = ms ++ rest ∧ D ms Y) ∧ KpR W Y := by
 have hdd : ∀ k : Nat, (Fence.wide.depth.isSome = true → 1 ≤ k) := fun k h => by simp [Fence.wide] at h
 refine callsIn_of_wp Tryz.func136 rfl trivial ?_ rfl
 simp only [Tryz.ntmps136, List.size_toArray, List.length_cons, List.length_nil, Nat.reduceAdd, Nat.reduceSub, Array.replicate_succ, Array.replicate_zero, List.push_toArray, List.append_toArray, List.nil_append, List.cons_append]
 gi_wp2_with fail
 refine ⟨trivial, hdd _, (callsIn_wide.2 (isteps_any ad N cap ls _ hN hF hN1)).mono ?_⟩
 rintro e w1 ⟨sv, rfl, b1, js⟩
 rw [hok]
 have js := js hok
 obtain ⟨sa, sc, rfl, hst⟩ := js.stp
 rw [hN] at hst ⊢
 gi_wp2_with fail
 have bA : Below w1.heap.size w1 (w1.alloc (.cells #[.slice sa N sc, .func (.yield l) #[] #[]] 187)) := (Below.refl _ _).alloc (Nat.le_refl _) _
 have x0 := Cel.new w1 [.slice sa N sc, .func (.yield l) #[] #[]] 187
 obtain ⟨W0, hW0⟩ : ∃ W0, W0 = w1.alloc (.cells #[.slice sa N sc, .func (.yield l) #[] #[]] 187) := ⟨_, rfl⟩
 rw [← hW0] at bA x0 ⊢
 clear hW0
 have A : Below W.heap.size W W0 := b1.trans (bA.mono b1.size)
 have e0 : Below W0.heap.size W0 W0.drew := (Below.refl _ _).drew
 have KP : Hid (∀ X, KpR W0 X → (X.cell? ⟨w1.heap.size, 0, none⟩ = some (.slice sa N sc) ∧ X.cell? ⟨w1.heap.size, 1, none⟩ = some (.func (.yield l) #[] #[]))) := fun X hX => by
  have a1 := x0.keepR hX (by decide) (by decide)
  exact ⟨a1.cell 0, a1.cell 1⟩
 have hSS := KP.out _ (KpR.of e0)
 refine wpIn_region_S (fun w' => w'.cell? ⟨w1.heap.size, 0, none⟩ = some (.slice sa N sc) ∧ w'.cell? ⟨w1.heap.size, 1, none⟩ = some (.func (.yield l) #[] #[])) (by kernel_rfl) ?_
 refine wpAnyS_take (i := 0) (v := ?v0) rfl rfl (by kernel_rfl) (by kernel_rfl) (by kernel_rfl) (fun _ _ _ h => h) (Or.inl ⟨by rfl, ?y0⟩) (fun _ => rfl) hSS ?_
 case y0 => (intro wz hSw; (try dsimp only at hSw); go_simp; try (with_reducible rfl))
 clear hSS
 refine wpAnyS_one (i := 1) (by kernel_rfl) rfl (fun K hK => ?_)
 go_simp
 refine ⟨trivial, fun h => by simp [Fence.wide] at h, (callsIn_wide.2 (ipots_any _)).mono ?_⟩
 rintro e w2 ⟨v, xs, rfl, jv⟩
 obtain ⟨pa, cp, rfl, hP⟩ := jv.slice rfl
 have b2 : Below W0.heap.size W0 w2 := below_of_drew jv.b
 have hS2 := KP.out _ (KpR.of b2)
 have B2 : Below W.heap.size W w2 := A.trans (b2.mono A.size)
 have J2 := hJ _ _ _ h0 B2
 (try dsimp only)
 refine hK.out _ _ hS2 ?_
 clear hK K
 refine wpAnyS_take (i := 2) (v := ?v2) rfl rfl (by kernel_rfl) (by kernel_rfl) (by kernel_rfl) (fun _ _ _ h => h) (Or.inl ⟨by rfl, ?y2⟩) (fun _ => rfl) hS2 ?_
 case y2 => (intro wz hSw; (try dsimp only at hSw); go_simp; try (with_reducible rfl))
 have sB := B2.size
 have HC : Hid (CallsIn Fence.wide (n - 1) Tryz.prog 137 #[walkV l sa N sc, .int .i64 0, wayV none 0 0 pa cp none 0 0 false] w2 fun e Y => ∃ b : Bool, e = .returned (.bool b) ∧ Went J D [] (rowsL ls) b Y ∧ KpR w2 Y) := by
  obtain ⟨h6, hall⟩ := actB_parts hok
  have hy := WayOk.start
  have hG : ∀ X, FormsAt X none way0.guards := fun X i hi => by simp [way0] at hi
  have hT : ∀ X, FormsAt X none way0.tells := fun X i hi => by simp [way0] at hi
  rcases hst with hz | ⟨SG, rfl, hst⟩
  ·have := from_end l n₀ J D hJ 128 hY sa N sc 0 (by omega) (by omega) way0 pa cp none 0 0 none 0 0 false (endW way0) [] w2 (n - 1) (by omega) J2 (endW_fit hy (by omega)) (by simp) (fun X hb => irow_end way0 none 0 0 pa cp none 0 0 X hy.pl rfl rfl (hP.keep hb) (hG X) (hT X) (fun k hk => (hy.pf k hk).mono (by have := wb_six (n := min 0 6) (by omega); omega)) (fun k hk => hy.gf k (by omega)) (fun k hk => hy.tf k (by omega)) (by omega) (by omega))
   rw [rowsL, goW_end (by omega)]
   exact this
  ·have k2 : KpR w1 w2 := (KpR.of bA).trans (KpR.of b2)
   exact from_any l n₀ J D hJ 128 hY SG N sc ls hN h6 hall 7 0 way0 pa cp none 0 0 none 0 0 [] w2 (n - 1) (by omega) (by omega) (by omega) hy rfl rfl (hst.keepR k2) (hF.lin.keepR (KpR.of B2)) hP (hG _) (hT _) (by omega) J2 (by have := goW_128 (ls := ls) (f := 7) (i := 0) (y := way0) (by omega); simp only [List.length_nil]; omega)
 refine wpAnyS_one (i := 3) (by kernel_rfl) rfl (fun K hK => ?_)
 go_simp
 refine ⟨trivial, fun h => by simp [Fence.wide] at h, HC.out.mono ?_⟩
 rintro e w3 ⟨z3, rfl, J3, k3⟩
 have hS3 := KP.out _ ((KpR.of b2).trans k3)
 (try dsimp only)
 refine hK.out _ _ hS3 ?_
 clear hK K
 refine wpAnyS_done (by kernel_rfl) ?_ _
 have KK := (KpR.of B2).trans k3
 clear KP HC
 gi_wp2
 go_end0
 refine ⟨⟨_, rfl⟩, ?_, KK⟩
 rcases J3 with ⟨_, j⟩ | ⟨_, ms, rest, h1, h2⟩
 ·exact Or.inl j
 ·exact Or.inr ⟨ms, rest, h1, h2⟩

theorem through_any (l n₀ : Nat) (J : List RowM → World → Prop) (hJ : ∀ pre X Y, J pre X → Below X.heap.size X Y → J pre Y) (hY : Rounds l n₀ J 128) (aB : Nat) (ad : Option Addr) (N cap : Nat) (ls : List LV) (W : World) (n : Nat) (hN : ls.length = N) (hF : LinesG W ad ls) (hN1 : N ≤ 1048576) (hok : actB N ls = true) (hc : W.cell? ⟨aB, 0, none⟩ = some (.slice ad N cap)) (hn0 : n₀ ≤ W.heap.size) (h0 : J [] W) :
  CallsIn Fence.wide n Tryz.prog 136 #[.func (.yield l) #[] #[], .pointer (some ⟨aB, 0, none⟩)] W fun e Y => (∃ v, e = .returned v) ∧ J (rowsL ls) Y ∧ KpR W Y :=
 (through_left l n₀ J (fun _ _ => False) hJ hY.noD aB ad N cap ls W n hN hF hN1 hok hc hn0 h0).mono (fun e Y ⟨h1, h2, h3⟩ => ⟨h1, h2.elim id (fun ⟨_, _, _, h⟩ => h.elim), h3⟩)

end Go.Proofs.YtdigmokjedckeaaGreatDoor
namespace Go.Proofs.YtdigmokjedckeaaGreatDoor
open Go.RowKit Go.Deep Go.Shelf
set_option linter.unusedVariables false
set_option maxRecDepth 100000
attribute [local go_sem] Oper.semAt_some

set_option maxHeartbeats 1600000 in
theorem ithrough_any (ad : Option Addr) (N cap : Nat) (w : World) :
  Calls Tryz.prog 108 #[.slice ad N cap] w fun e w' => ∃ B, e = .returned (.func (.func 136) #[] #[.pointer (some ⟨B, 0, none⟩)]) ∧ Below w.heap.size w w' ∧ Cel w' B [.slice ad N cap] 102 := by
 have b := (Below.refl w.heap.size w).alloc (Nat.le_refl _) (.cells #[.slice ad N cap] 102)
 have c := Cel.new w [.slice ad N cap] 102
 go_enter Tryz.func108, Tryz.ntmps108
 go_wp2
 go_ret
 exact ⟨_, rfl, b, c⟩

theorem Cel.loop {X : World} {B l : Nat} {vs : List Value} {t : TypeId} {r r' : Loop} (h : Cel X B vs t) (hl : X.heap[l]? = some (.loop r)) : Cel (X.putObj l (.loop r')) B vs t := by
 have hne : B ≠ l := fun e => by
  subst e
  unfold Cel at h
  rw [hl] at h
  cases h
 unfold Cel at *
 rw [World.putObj_heap_other hne]; exact h
theorem below_loop {w X : World} {n l : Nat} {r' : Loop} (h : Below n w X) (hl : n ≤ l) : Below n w (X.putObj l (.loop r')) :=
 ⟨h.os, h.tape, h.output, by simpa [World.putObj] using h.size, fun k hk => (World.putObj_heap_other (by omega)).trans (h.block k hk)⟩

theorem Cel.defer {X : World} {B l : Nat} {vs : List Value} {t : TypeId} {r : Option (List Deferred)} {o : Obj} (h : Cel X B vs t) (hl : X.heap[l]? = some (.deferred r)) : Cel (X.putObj l o) B vs t := by
 have hne : B ≠ l := fun e => by
  subst e
  unfold Cel at h
  rw [hl] at h
  cases h
 unfold Cel at *
 rw [World.putObj_heap_other hne]; exact h
theorem below_put {w X : World} {n l : Nat} {o : Obj} (h : Below n w X) (hl : n ≤ l) : Below n w (X.putObj l o) :=
 ⟨h.os, h.tape, h.output, by simpa [World.putObj] using h.size, fun k hk => (World.putObj_heap_other (by omega)).trans (h.block k hk)⟩
theorem cel_past {S : Nat → Prop} {X Y : World} {B : Nat} {vs : List Value} {t : TypeId} (h : Cel X B vs t) (k : Touch S X Y) (hn : ¬ S B) : Cel Y B vs t := by
 have hl := h.lt
 unfold Cel at *
 rw [k.block B hl hn]; exact h
theorem below_touch {w X Y : World} {G : Nat} (h : Below w.heap.size w X) (t : Touch (fun k => k = G) X Y) (hG : w.heap.size ≤ G) : Below w.heap.size w Y :=
 ⟨t.os.trans h.os, t.tape.trans h.tape, t.output.trans h.output, Nat.le_trans h.size t.size, fun k hk => (t.block k (Nat.lt_of_lt_of_le hk h.size) (by omega)).trans (h.block k hk)⟩
theorem OwnBB.loose {X : World} {G : Nat} {f : Nat → Bool} (h : OwnBB X G f) : Loose X.heap[G]? := fun cs t fr e => by
 unfold OwnBB Cel at h
 rw [h] at e
 cases e
 refine ⟨Or.inl rfl, fun i q => ?_⟩
 match i with
 | 0 => simp
 | 1 => simp
 | 2 => simp
 | i + 3 => simp
theorem OwnBB.kpR {X Y : World} {G : Nat} {f : Nat → Bool} (h : OwnBB X G f) (t : Touch (fun k => k = G) X Y) : KpR X Y := t.mono (fun k e => by subst e; exact h.loose)
theorem keeps_below {B : Nat} {X Y : World} (h : Below X.heap.size X Y) : KeepsFrom B X Y := ⟨h.size, fun k o _ hk _ => (h.block k (lt_of_block hk)).trans hk⟩
theorem keeps_touch {B G : Nat} {X Y : World} (t : Touch (fun k => k = G) X Y) (hG : G < B) : KeepsFrom B X Y := ⟨t.size, fun k o hB hk _ => (t.block k (lt_of_block hk) (by omega)).trans hk⟩

set_option maxHeartbeats 3200000 in
theorem icatreads_in (ad : Option Addr) (N cap : Nat) (ls : List LV) (w : World) (n : Nat) (hN : ls.length = N) (hF : LinesG w ad ls) (hN1 : N ≤ 1048576) :
  CallsIn Fence.wide n Tryz.prog 111 #[.slice ad N cap] w fun e w' => Below w.heap.size w w' ∧ ((actB N ls = false ∧ e = .returned (.slice none 0 0)) ∨ (actB N ls = true ∧ ∃ G cG, e = .returned (.slice (some ⟨G, 0, none⟩) 3 cG) ∧ w.heap.size ≤ G ∧ OwnBB w' G (readsR (rowsL ls)))) := by
 have hdd : ∀ k : Nat, (Fence.wide.depth.isSome = true → 1 ≤ k) := fun k h => by simp [Fence.wide] at h
 refine callsIn_of_wp_marks Tryz.func111 rfl trivial ?_ rfl
 simp only [Tryz.ntmps111, List.size_toArray, List.length_cons, List.length_nil, Nat.reduceAdd, Nat.reduceSub, Array.replicate_succ, Array.replicate_zero, List.push_toArray, List.append_toArray, List.nil_append, List.cons_append]
 gi_wp2_with fail
 refine ⟨trivial, hdd _, (callsIn_wide.2 (iact_any ad N cap ls _ hN hF hN1)).mono ?_⟩
 rintro e w1 ⟨rfl, b1⟩
 obtain ⟨u, hu⟩ : ∃ u, actB N ls = u := ⟨_, rfl⟩
 rw [hu]
 cases u with
 | false =>
  gi_wp2
  exact ⟨_, results_tmp rfl _ _ _, b1, Or.inl ⟨hu, rfl⟩⟩
 | true =>
  obtain ⟨i0, hi, hz0, hz1, hz2⟩ := info_parts Tryz.infoBool
  obtain ⟨w2, hrun, o2, g2⟩ := run_make_full (P := Tryz.prog) (w := w1) w1.heap.size 62 4 i0 (.bool false) 1 Tryz.underlying62 hi hz0 hz1 .i64 .i64 3 (by rw [hz2]; omega) (by unfold maxLen; omega) (Nat.le_refl _)
  have hrun' : (Instr.makeSlice 62 (.int .i64 3) (.int .i64 3)).run Tryz.prog w1 = .ok (.slice (some ⟨w1.heap.size, 0, none⟩) 3 3) w2 := hrun
  have b2 : Below w1.heap.size w1 w2 := (Below.refl _ _).grown g2 (Nat.le_refl _) (by simp)
  have O2 : OwnBB w2 w1.heap.size (fun _ => false) := by
   rcases o2.2 with ⟨e, _⟩ | ⟨g, cp, cur, hv, hg, hh, hl, hc, hs, ht⟩
   ·cases e
   ·cases hv
    have hl3 : cur.toList.length = 3 := by rw [Array.length_toList]; omega
    rw [List.take_of_length_le (by omega)] at ht
    have : cur = #[.bool false, .bool false, .bool false] := by
     apply Array.toList_inj.1
     rw [ht]; simpa [Value.cells] using toList_madeCells_one (.bool false) 3
    rw [this] at hh
    exact hh
  clear hrun o2 g2
  gi_wp2_with fail
  have bA : Below w2.heap.size w2 (w2.alloc (.cells #[.slice (some ⟨w1.heap.size, 0, none⟩) 3 3] 62)) := (Below.refl _ _).alloc (Nat.le_refl _) _
  have C3 := Cel.new w2 [.slice (some ⟨w1.heap.size, 0, none⟩) 3 3] 62
  have O3 := O2.below bA
  obtain ⟨w3, hw3⟩ : ∃ w3, w3 = w2.alloc (.cells #[.slice (some ⟨w1.heap.size, 0, none⟩) 3 3] 62) := ⟨_, rfl⟩
  rw [← hw3] at bA C3 O3 ⊢
  have lG := Cel.lt O2
  clear hw3 hrun' O2
  refine ⟨trivial, hdd _, (callsIn_wide.2 (ithrough_any ad N cap w3)).mono ?_⟩
  rintro e w4 ⟨B, rfl, b4, cB⟩
  have C4 := C3.below b4
  have O4 := O3.below b4
  have s2 := b2.size
  have sA := bA.size
  have s4 := b4.size
  have B4 : Below w.heap.size w w4 := ((b1.trans (b2.mono b1.size)).trans (bA.mono (Nat.le_trans b1.size s2))).trans (b4.mono (Nat.le_trans (Nat.le_trans b1.size s2) sA))
  have F4 := hF.below B4
  gi_wp2_with fail
  have s1 := b1.size
  refine wpIn_rows (α := Value × RowM) (gf := 136) (lb := #[.pointer (some ⟨B, 0, none⟩)]) rfl (enters_of Tryz.func136 (by kernel_rfl) rfl) (encs := fun x => #[x.1]) (fun _ => rfl)
   (fun _ x X => RowFit x.2 ∧ RowX X w4.heap.size x.1 x.2) KpR (fun xs => xs.map Prod.snd = rowsL ls)
   (fun pre X => OwnBB X w1.heap.size (readsR (pre.map Prod.snd)) ∧ Cel X w2.heap.size [.slice (some ⟨w1.heap.size, 0, none⟩) 3 3] 62 ∧ Below w.heap.size w X)
   (fun pre X Y h b => ⟨h.1.below b, h.2.1.below b, h.2.2.trans (b.mono h.2.2.size)⟩)
   (fun pre X l r r' h hl lt => ⟨Cel.loop h.1 hl, h.2.1.loop hl, below_loop h.2.2 (by have := B4.size; omega)⟩) KpR.loop (fun X Y Z => KpR.trans) ⟨O4, C4, B4⟩ ?seq ?round ?done
  case seq =>
   intro l J W hJ hb hJ0 hY
   have e0 : (#[.func (.yield l) #[] #[]] ++ #[.pointer (some ⟨B, 0, none⟩)] : Array Value) = #[.func (.yield l) #[] #[], .pointer (some ⟨B, 0, none⟩)] := rfl
   rw [e0]
   refine (through_any l w4.heap.size (fun rs X => ∃ xs : List (Value × RowM), xs.map Prod.snd = rs ∧ J xs X) (fun rs X Y h b => ?_) (fun m rs v r X h fit rx _ => ?_) B ad N cap ls W (n - 1) hN (F4.below hb) hN1 hu ((cB.below hb).cell 0) hb.size ⟨[], rfl, hJ0⟩).mono ?_
   ·obtain ⟨xs, e, j⟩ := h
    exact ⟨xs, e, hJ _ _ _ j b⟩
   ·obtain ⟨xs, e, j⟩ := h
    obtain ⟨fn, tmps, assign, body, hy, hR⟩ := hY m xs (v, r) X j ⟨fit, rx⟩
    refine ⟨fn, tmps, assign, body, hy, hR.mono ?_⟩
    rintro e' Y ⟨a, b, c⟩
    exact ⟨a, ⟨xs ++ [(v, r)], by simp [e], b⟩, c⟩
   ·rintro e Y ⟨h1, ⟨xs, e1, j⟩, _⟩
    exact ⟨h1, xs, e1, j⟩
  case round =>
   rintro m l pre ⟨v, rm⟩ X r ⟨hO, hC, hB⟩ ⟨fit, rx⟩ hl hlt
   dsimp only at fit rx
   obtain ⟨ga, gc, aa, ac, ta, tc, rfl, f0, f1, f2⟩ := rx
   dsimp only
   gi_wp2_with fail
   have bx : Below X.heap.size X (X.alloc (.cells #[.slice ga rm.guards.length gc, .slice aa rm.adds.length ac, .slice ta rm.tells.length tc, .bool rm.stop] 106)) := (Below.refl _ _).alloc (Nat.le_refl _) _
   have cx := Cel.new X [.slice ga rm.guards.length gc, .slice aa rm.adds.length ac, .slice ta rm.tells.length tc, .bool rm.stop] 106
   have hl1 := (bx.block l (lt_of_block hl)).trans hl
   refine ⟨keeps_below bx, KpR.of bx, ?_⟩
   have O1 : OwnBB _ _ _ := Cel.loop (r' := { r with state := .busy }) (hO.below bx) hl1
   have C1 := Cel.loop (r' := { r with state := .busy }) (hC.below bx) hl1
   have X1 := Cel.loop (r' := { r with state := .busy }) cx hl1
   have k1 : KpR X _ := (KpR.of bx).trans (KpR.loop _ l r { r with state := .busy } hl1)
   have B1 := below_loop (r' := { r with state := .busy }) (hB.trans (bx.mono hB.size)) (l := l) (by have := B4.size; omega)
   obtain ⟨Y, hY⟩ : ∃ Y, Y = (X.alloc (.cells #[.slice ga rm.guards.length gc, .slice aa rm.adds.length ac, .slice ta rm.tells.length tc, .bool rm.stop] 106)).putObj l (.loop { r with state := .busy }) := ⟨_, rfl⟩
   rw [← hY] at O1 C1 X1 k1 B1 ⊢
   clear hY
   have FA := f1.at.keepR k1
   have FT := f2.at.keepR k1
   have hc := C1.cell 0
   have hx1 := X1.cell 1
   have lX := Cel.lt hO
   gi_wp2_with fail
   refine ⟨trivial, hdd _, CallsIn.mono (CallsIn.inRound l (callsIn_wide.2 (imarkpots_any _ _ _ _ _ _ rm.adds Y O1 rfl FA fit.a (by have := fit.la; omega)))) ?_⟩
   rintro e Y1 ⟨⟨v1, rfl⟩, t1, O2⟩
   have C2 := cel_past C1 t1 (by omega)
   have X2 := cel_past X1 t1 (by omega)
   have FT2 := FT.past2 O1.no t1
   have hc2 := C2.cell 0
   have hx2 := X2.cell 2
   clear hc hx1
   gi_wp2_with fail
   refine ⟨trivial, hdd _, CallsIn.mono (CallsIn.inRound l (callsIn_wide.2 (imarkpots_any _ _ _ _ _ _ rm.tells Y1 O2 rfl FT2 fit.t (by have := fit.lt; omega)))) ?_⟩
   rintro e Y2 ⟨⟨v2, rfl⟩, t2, O3⟩
   have C3' := cel_past C2 t2 (by omega)
   clear hc2 hx2
   gi_wp2_with fail
   refine ⟨(keeps_touch t1 (by omega)).trans (keeps_touch t2 (by omega)), (O1.kpR t1).trans (O2.kpR t2), O3.ext (fun v hv => ?_), C3', below_touch (below_touch B1 t1 (by omega)) t2 (by omega)⟩
   simp [readsF, readsR, Bool.or_assoc]
  case done =>
   rintro D xs W hD hS ⟨hO, hC, hB⟩ hK
   have hc := hC.cell 0
   gi_wp2
   refine ⟨by simp, .inl ⟨_, _, rfl, run_takeDeferred hK, ?_⟩⟩
   refine ⟨_, results_tmp rfl _ _ _, ?_⟩
   rw [hS] at hO
   exact ⟨below_put hB (by have := B4.size; omega), Or.inr ⟨hu, _, _, rfl, s1, Cel.defer hO hK⟩⟩

theorem icatreads_any (ad : Option Addr) (N cap : Nat) (ls : List LV) (w : World) (hN : ls.length = N) (hF : LinesG w ad ls) (hN1 : N ≤ 1048576) :
  Calls Tryz.prog 111 #[.slice ad N cap] w fun e w' => Below w.heap.size w w' ∧ ((actB N ls = false ∧ e = .returned (.slice none 0 0)) ∨ (actB N ls = true ∧ ∃ G cG, e = .returned (.slice (some ⟨G, 0, none⟩) 3 cG) ∧ w.heap.size ≤ G ∧ OwnBB w' G (readsR (rowsL ls)))) :=
 callsIn_wide.1 (icatreads_in ad N cap ls w 0 hN hF hN1)

end Go.Proofs.YtdigmokjedckeaaGreatDoor
namespace Go.Proofs.YtdigmokjedckeaaGreatDoor
open Go.RowKit
set_option linter.unusedVariables false

set_option maxHeartbeats 400000 in
theorem l4same_any (a c : Option Addr) (n m cap cap' : Nat) (xs ys : List Int) (w : World) (h : Ints w a n xs) (h' : Ints w c m ys) (hn : n ≤ 1048576) (hm : m ≤ 1048576) :
  Calls Tryz.prog 61 #[.slice a n cap, .slice c m cap'] w fun e w' => e = .returned (.bool (eqB xs ys)) ∧ Below w.heap.size w w' := by
 have hx := h.1
 have HX : Hid (xs.length = n) := hx
 have hy := h'.1
 have HY : Hid (ys.length = m) := hy
 clear hx hy
 by_cases hc : n = m
 ·subst hc
  go_enter Tryz.func61, Tryz.ntmps61
  go_wp2_with fail
  go_loopw [5] (fun i wr => ∃ k : Nat, k ≤ n ∧ i = .int .i64 k ∧ Below w.heap.size w wr ∧ xs.take k = ys.take k) (fun i _ => n - (intOf i).toNat)
  case atStart => exact ⟨0, Nat.zero_le _, rfl, Below.refl _ _, rfl⟩
  case round =>
   obtain ⟨k, hk, rfl, hnx, hall⟩ := hrel
   have HA : Hid (xs.take k = ys.take k) := hall
   clear hall
   by_cases hlt : k < n
   ·obtain ⟨b, off, rfl, hcell⟩ := (h.below hnx).pos (by omega)
    obtain ⟨b', off', rfl, hcell'⟩ := (h'.below hnx).pos (by omega)
    have hck := hcell k hlt
    have hck' := hcell' k hlt
    have hlt' : (k : Int) < (n : Int) := by omega
    clear hcell hcell' h h'
    go_wp2_with fail
    go_quiet (fail)
    cases he : (xs[k]?.getD 0 != ys[k]?.getD 0)
    ·go_wp2
     go_roundw
     case rel => exact ⟨k + 1, by omega, by go_num, below_drewN hnx _, take_same_succ (by rw [HX.out]; exact hlt) (by rw [HY.out]; exact hlt) HA.out (by simpa using he)⟩
     case measure => simp [intOf]; omega
    ·go_wp2
     go_ret
     exact ⟨ret_bool (by rw [eqB_false (k := k) (by simpa using he)]), below_drewN hnx _⟩
   ·go_wp2
    go_ret
    exact ⟨ret_bool (by rw [eqB_true HX.out HY.out (by omega) HA.out]), hnx⟩
 ·have hne : ((n : Int) != (m : Int)) = true := by simp; omega
  go_enter Tryz.func61, Tryz.ntmps61
  go_wp2
  go_ret
  exact ⟨ret_bool (by rw [eqB_len (by rw [HX.out, HY.out]; exact hc)]), Below.refl _ _⟩

/-- The place of a part among others, from place k on. -/
def hasFrom (part : List Int) : Nat → List (List Int) → Int
 | _, [] => -1
 | k, x :: t => if eqB x part then k else hasFrom part (k + 1) t
def hasI (ss : List IV) (part : List Int) : Int := hasFrom part 0 (ss.map IV.x)
theorem has_drop {ss : List IV} {part : List Int} {k : Nat} (h : k < ss.length) : hasFrom part k ((ss.map IV.x).drop k) = if eqB (ss[k]?.getD noI).x part then (k : Int) else hasFrom part (k + 1) ((ss.map IV.x).drop (k + 1)) := by
 have hl : k < (ss.map IV.x).length := by simpa using h
 rw [List.drop_eq_getElem_cons hl, hasFrom, List.getElem?_eq_getElem h]
 simp
theorem has_end {ss : List IV} {part : List Int} {k : Nat} (h : ss.length ≤ k) : hasFrom part k ((ss.map IV.x).drop k) = -1 := by
 rw [List.drop_eq_nil_of_le (by simpa using h)]; rfl

set_option maxHeartbeats 800000 in
theorem shas_any (ad : Option Addr) (N cap : Nat) (ss : List IV) (c : Option Addr) (m cap' : Nat) (part : List Int) (w : World) (hN : ss.length = N) (hF : ISG w ad ss) (hN1 : N ≤ 1048576) (hP : Ints w c m part) (hm : m ≤ 1048576) :
  Calls Tryz.prog 60 #[.slice ad N cap, .slice c m cap'] w fun e w' => e = .returned (.int .i64 (hasI ss part)) ∧ Below w.heap.size w w' := by
 have HN : Hid (ss.length = N) := hN
 clear hN
 go_enter Tryz.func60, Tryz.ntmps60
 go_wp2_with fail
 go_loopw [5] (fun i wr => ∃ k : Nat, k ≤ N ∧ i = .int .i64 k ∧ Below w.heap.size w wr ∧ hasI ss part = hasFrom part k ((ss.map IV.x).drop k)) (fun i _ => N - (intOf i).toNat)
 case atStart => exact ⟨0, Nat.zero_le _, rfl, Below.refl _ _, rfl⟩
 case round =>
  obtain ⟨k, hk, rfl, hb, hall⟩ := hrel
  have HA : Hid _ := hall
  clear hall
  by_cases hlt : k < N
  ·obtain ⟨b, off, rfl, hc, hr⟩ := (hF.below hb) k (by rw [HN.out]; exact hlt)
   have HD : Hid _ := has_drop (ss := ss) (part := part) (k := k) (by rw [HN.out]; exact hlt)
   generalize HG : ss[k]?.getD noI = g at *
   clear HG hF
   obtain ⟨ga, gn, gcap, gx⟩ := g
   have hc' : wr.cell? ⟨b, off + k, none⟩ = some (.slice ga gn gcap) := hc
   clear hc
   cases he : eqB gx part
   ·go_wp2_with fail
    refine (l4same_any _ _ _ _ _ _ gx part _ hr.1 (hP.below hb) hr.2 hm).mono ?_
    rintro e w1 ⟨rfl, b1⟩
    rw [he]
    go_wp2
    go_roundw
    case rel => exact ⟨k + 1, by omega, by go_num, hb.trans (b1.mono hb.size), by rw [HA.out, HD.out]; simp only [he]; rfl⟩
    case measure => simp [intOf]; omega
   ·go_wp2_with fail
    refine (l4same_any _ _ _ _ _ _ gx part _ hr.1 (hP.below hb) hr.2 hm).mono ?_
    rintro e w1 ⟨rfl, b1⟩
    rw [he]
    go_wp2
    go_ret
    exact ⟨ret_int (by rw [HA.out, HD.out]; simp only [he]; rfl), hb.trans (b1.mono hb.size)⟩
  ·go_wp2
   go_ret
   exact ⟨ret_int (by rw [HA.out, has_end (by rw [HN.out]; omega)]), hb⟩

end Go.Proofs.YtdigmokjedckeaaGreatDoor
namespace Go.Proofs.YtdigmokjedckeaaGreatDoor
open Go.RowKit
set_option linter.unusedVariables false

/-- The sign of the first that is not 0. -/
def sgn1 (c : Int) : Int := if 0 < c then 1 else if c < 0 then -1 else 0
theorem sgn1_vals (c : Int) : sgn1 c = 0 ∨ sgn1 c = 1 ∨ sgn1 c = -1 := by
 unfold sgn1
 split
 ·simp
 ·split <;> simp
def sgn : List Int → Int
 | [] => 0
 | c :: t => if sgn1 c = 0 then sgn t else sgn1 c
theorem sgn_append (xs ys : List Int) : sgn (xs ++ ys) = if sgn xs = 0 then sgn ys else sgn xs := by
 induction xs with
 | nil => simp [sgn]
 | cons c t ih =>
  simp only [List.cons_append, sgn]
  by_cases h : sgn1 c = 0
  ·simp only [h, if_true]; exact ih
  ·simp only [h, if_false]
theorem sgn_one (c : Int) : sgn [c] = sgn1 c := by
 simp only [sgn]
 split
 ·next h => exact h.symm
 ·rfl
theorem sgn_take_succ {C : List Int} {k : Nat} (h : k < C.length) : sgn (C.take (k + 1)) = if sgn (C.take k) = 0 then sgn1 (C[k]?.getD 0) else sgn (C.take k) := by
 rw [List.take_succ_eq_append_getElem h, sgn_append, List.getElem?_eq_getElem h, sgn_one]
 rfl
theorem sgn_whole {C : List Int} {k : Nat} (h : sgn (C.take k) ≠ 0) : sgn C = sgn (C.take k) := by
 have := sgn_append (C.take k) (C.drop k)
 rw [List.take_append_drop, if_neg h] at this
 exact this
theorem sgn_end {C : List Int} {k n : Nat} (hn : C.length = n) (h : n ≤ k) : sgn (C.take k) = sgn C := by rw [List.take_of_length_le (by omega)]

/-- What the list is multiplied with. -/
def sg (C : List Int) : Int := if sgn C < 0 then -1 else 1
def mulW (n : Int) (zs : List Int) : List Int := zs.map fun z => wrap64 (n * z)
def partL (C : List Int) : List Int := mulW (sg C) C
theorem mulW_len (n : Int) (zs : List Int) : (mulW n zs).length = zs.length := by simp [mulW]
theorem mulW_get {n : Int} {zs : List Int} {i : Nat} (h : i < zs.length) : (mulW n zs)[i]?.getD 0 = wrap64 (n * zs[i]?.getD 0) := by
 simp [mulW, h]
theorem part_len (C : List Int) : (partL C).length = C.length := mulW_len _ _
theorem part_step {C : List Int} {k : Nat} (h : k < C.length) : (partL C).take (k + 1) = (partL C).take k ++ [wrap64 (sgn (C.take (k + 1)) * C[k]?.getD 0)] := by
 have hl : k < (partL C).length := by rw [part_len]; exact h
 rw [List.take_succ_eq_append_getElem hl]
 congr 2
 have e : (partL C)[k] = wrap64 (sg C * C[k]?.getD 0) := by
  have := mulW_get (n := sg C) h
  rw [show mulW (sg C) C = partL C from rfl, List.getElem?_eq_getElem hl] at this
  simpa using this
 rw [e]
 by_cases hs : sgn (C.take (k + 1)) = 0
 ·have h1 := sgn_take_succ h
  have h2 : sgn1 (C[k]?.getD 0) = 0 := by
   rw [hs] at h1
   by_cases h3 : sgn (C.take k) = 0
   ·rw [if_pos h3] at h1; exact h1.symm
   ·rw [if_neg h3] at h1; exact absurd h1.symm h3
  have h3 : C[k]?.getD 0 = 0 := by
   unfold sgn1 at h2
   split at h2
   ·omega
   ·split at h2 <;> omega
  rw [h3]; simp
 ·have h1 := sgn_whole hs
  have : sg C = sgn (C.take (k + 1)) := by
   unfold sg
   rw [h1]
   have hv : ∀ xs : List Int, sgn xs = 0 ∨ sgn xs = 1 ∨ sgn xs = -1 := by
    intro xs
    induction xs with
    | nil => simp [sgn]
    | cons c t ih =>
     simp only [sgn]
     by_cases hc : sgn1 c = 0
     ·simp only [hc, if_true]; exact ih
     ·rw [if_neg hc]; exact sgn1_vals c
   rcases hv (C.take (k + 1)) with e | e | e
   ·exact absurd e hs
   ·rw [e]; simp
   ·rw [e]; simp
  rw [this]

set_option maxHeartbeats 400000 in
theorem timesW_any (a : Option Addr) (l cap : Nat) (zs : List Int) (n : Int) (w : World) (h : Ints w a l zs) (hl : l ≤ 1048576) :
  Calls Tryz.prog 149 #[.slice a l cap, .int .i64 n] w fun e w' => e = .returned (.slice (some ⟨w.heap.size, 0, none⟩) l l) ∧ Below w.heap.size w w' ∧ Blk w' w.heap.size (mulW n zs) := by
 have HZ : Hid (zs.length = l) := h.1
 have HM : Hid ((mulW n zs).length = l) := by show (mulW n zs).length = l; simp [mulW, h.1]
 obtain ⟨i0, hi, hz0, hz1, hz2⟩ := info_parts Tryz.infoInt
 go_enter Tryz.func149, Tryz.ntmps149
 go_wp2_with (at_make; refine wpList_make_full _ rfl (.tmp 9) (.tmp 9) 23 rfl w.heap.size 3 i0 (.int .i64 0) 1 Tryz.underlying23 hi hz0 hz1 .i64 .i64 _ _ l rfl rfl rfl rfl (by rw [hz2]; omega) (by unfold maxLen; omega) (Nat.le_refl _) ?_; intro w1 hown hgrow)
 have hb1 := Blk.made w l w1 hown
 have HB : Below w.heap.size w w1 := (Below.refl _ _).grown hgrow (Nat.le_refl _) (by simp)
 clear hown hgrow hi hz0 hz1 hz2
 go_loopw [6, 7, 13] (fun _ _ i wr => ∃ k : Nat, k ≤ l ∧ i = .int .i64 k ∧ Below w.heap.size w wr ∧ Blk wr w.heap.size (upTo (mulW n zs) l k)) (fun _ _ i _ => l - (intOf i).toNat)
 case atStart => exact ⟨0, Nat.zero_le _, rfl, HB, by rw [upTo_zero]; exact hb1⟩
 case round =>
  obtain ⟨k, hk, rfl, hnx, hblk⟩ := hrel
  by_cases hlt : k < l
  ·obtain ⟨b, off, rfl, hcell⟩ := (h.below hnx).pos (by omega)
   have hck := hcell k hlt
   have hco := hblk.cell k (by rw [upTo_len HM.out hk]; exact hlt)
   have hfo := hblk.free k
   have R := hblk.set k ((mulW n zs)[k]?.getD 0)
   rw [upTo_succ HM.out hlt, mulW_get (by rw [HZ.out]; exact hlt)] at R
   have R2 := hnx.setCell (p := ⟨w.heap.size, k, none⟩) (Nat.le_refl _) (.int .i64 (wrap64 (n * zs[k]?.getD 0)))
   clear hcell hb1 HB h hblk hnx
   go_wp2
   go_roundw
   case rel => exact ⟨k + 1, by omega, by go_num, R2, R⟩
   case measure => simp [intOf]; omega
  ·go_wp2
   go_ret
   exact ⟨rfl, hnx, by rw [upTo_end HM.out (by omega)] at hblk; exact hblk⟩

set_option maxHeartbeats 800000 in
theorem ipart_any (a : Option Addr) (n cap : Nat) (c : Option Addr) (m cap' : Nat) (K : Int) (C : List Int) (w : World) (hC : Ints w a n C) (hn : n ≤ 1048576) :
  Calls Tryz.prog 134 #[formV a n cap c m cap' K] w fun e w' => e = .returned (.slice (some ⟨w.heap.size + 1, 0, none⟩) n n) ∧ Below w.heap.size w w' ∧ Blk w' (w.heap.size + 1) (partL C) := by
 have HC : Hid (C.length = n) := hC.1
 go_enter Tryz.func134, Tryz.ntmps134
 go_wp2_with fail
 have hC1 := hC.alloc (.cells #[.slice a n cap, .slice c m cap', .int .i64 K] 98)
 have hend : ∀ (s : Int) (w2 : World), sg C = s → Below (w.alloc (.cells #[.slice a n cap, .slice c m cap', .int .i64 K] 98)).heap.size (w.alloc (.cells #[.slice a n cap, .slice c m cap', .int .i64 K] 98)) w2 → Blk w2 (w.alloc (.cells #[.slice a n cap, .slice c m cap', .int .i64 K] 98)).heap.size (mulW s C) → Below w.heap.size w w2 ∧ Blk w2 (w.heap.size + 1) (partL C) := by
  intro s w2 hs b2 k2
  rw [World.size_alloc] at k2
  exact ⟨((Below.refl _ _).alloc (Nat.le_refl _) _).trans (b2.mono (by simp)), by unfold partL; rw [hs]; exact k2⟩
 have HE : Hid _ := hend
 clear hend
 go_loop [4, 8] (fun _ i => ∃ k : Nat, k ≤ n ∧ i = .int .i64 k ∧ sgn (C.take k) = 0) (fun _ i => n - (intOf i).toNat)
 case atStart => exact ⟨0, Nat.zero_le _, rfl, rfl⟩
 case round =>
  obtain ⟨k, hk, rfl, hs⟩ := hrel
  have HS : Hid (sgn (C.take k) = 0) := hs
  clear hs
  by_cases hlt : k < n
  ·obtain ⟨b, off, rfl, hcell⟩ := hC1.pos (by omega)
   have hck := hcell k hlt
   clear hcell
   have HT : Hid (sgn (C.take (k + 1)) = sgn1 (C[k]?.getD 0)) := by
    show sgn (C.take (k + 1)) = sgn1 (C[k]?.getD 0)
    rw [sgn_take_succ (by rw [HC.out]; exact hlt), if_pos HS.out]
   by_cases h1 : 0 < C[k]?.getD 0
   ·have HG : Hid (sg C = 1) := by
     show sg C = 1
     have e := HT.out
     rw [sgn1, if_pos h1] at e
     have := sgn_whole (C := C) (k := k + 1) (by rw [e]; decide)
     rw [sg, this, e]; rfl
    go_wp2_with fail
    refine (timesW_any _ _ _ C _ _ hC1 hn).mono ?_
    rintro e w2 ⟨rfl, b2, k2⟩
    go_wp2
    go_ret
    exact ⟨rfl, HE.out 1 w2 HG.out b2 k2⟩
   ·by_cases h2 : C[k]?.getD 0 < 0
    ·have HG : Hid (sg C = -1) := by
      show sg C = -1
      have e := HT.out
      rw [sgn1, if_neg h1, if_pos h2] at e
      have := sgn_whole (C := C) (k := k + 1) (by rw [e]; decide)
      rw [sg, this, e]; rfl
     go_wp2_with fail
     refine (timesW_any _ _ _ C _ _ hC1 hn).mono ?_
     rintro e w2 ⟨rfl, b2, k2⟩
     go_wp2
     go_ret
     exact ⟨rfl, HE.out (-1) w2 HG.out b2 k2⟩
    ·have HT2 : Hid (sgn (C.take (k + 1)) = 0) := by
      show sgn (C.take (k + 1)) = 0
      rw [HT.out, sgn1, if_neg h1, if_neg h2]
     go_wp2
     go_round
     case rel => exact ⟨k + 1, by omega, by go_num, HT2.out⟩
     case measure => simp [intOf]; omega
  ·have HG : Hid (sg C = 1) := by
    show sg C = 1
    have e := HS.out
    rw [sgn_end HC.out (by omega)] at e
    rw [sg, e]; rfl
   go_wp2_with fail
   refine (timesW_any _ _ _ C _ _ hC1 hn).mono ?_
   rintro e w2 ⟨rfl, b2, k2⟩
   go_wp2
   go_ret
   exact ⟨rfl, HE.out 1 w2 HG.out b2 k2⟩

set_option maxRecDepth 100000 in
set_option maxHeartbeats 1600000 in
theorem spart_new (a : Option Addr) (n cap : Nat) (c : Option Addr) (m cap' : Nat) (K : Int) (C : List Int) (w : World) (hC : Ints w a n C) (hn : n ≤ 1048576) :
  Calls Tryz.prog 59 #[formV a n cap c m cap' K] w fun e w' => ∃ a' cap2, e = .returned (.slice a' n cap2) ∧ Below w.heap.size w w' ∧ Ints w' a' n (partL C) ∧ (∀ b o, a' = some ⟨b, o, none⟩ → w.heap.size ≤ b ∧ b < w'.heap.size) := by
 have HC : Hid (C.length = n) := hC.1
 obtain ⟨i0, hi, hz0, hz1, hz2⟩ := info_parts Tryz.infoInt
 go_enter Tryz.func59, Tryz.ntmps59
 go_wp2_with fail
 obtain ⟨W, hW⟩ : ∃ W, W = w.alloc (.cells #[.slice a n cap, .slice c m cap', .int .i64 K] 98) := ⟨_, rfl⟩
 have box : Cel W w.heap.size [.slice a n cap, .slice c m cap', .int .i64 K] 98 := by rw [hW]; exact Cel.new w _ _
 have BW : Below w.heap.size w W := by rw [hW]; exact (Below.refl _ _).alloc (Nat.le_refl _) _
 have hCW : Ints W a n C := hC.below BW
 have HWS : Hid (W.heap.size = w.heap.size + 1) := by show W.heap.size = _; rw [hW, World.size_alloc]
 rw [← hW]
 clear hW hC
 go_loopw [3, 4, 5] (fun v s i wr => ∃ k : Nat, k ≤ n ∧ i = .int .i64 k ∧ s = .int .i64 (sgn (C.take k)) ∧ ∃ xs : List Int, xs.length = k ∧ xs = (partL C).take k ∧ JA W v xs wr) (fun _ _ i _ => n - (intOf i).toNat)
 case atStart => exact ⟨0, Nat.zero_le _, rfl, rfl, [], rfl, rfl, by rw [← HWS.out]; exact JA.lit W⟩
 case round =>
  obtain ⟨k, hk, rfl, rfl, xs, hxl, hxs, j⟩ := hrel
  have HL : Hid (xs.length = k) := hxl
  have HXS : Hid (xs = (partL C).take k) := hxs
  clear hxl hxs
  have jo := (j.o)
  rw [HL.out] at jo
  have hjb := j.b.size
  have g0 := (box.below j.b).cell 0
  simp only [List.getElem?_cons_zero] at g0
  by_cases hlt : k < n
  ·obtain ⟨b, off, rfl, hcell⟩ := (hCW.below j.b).pos (by omega)
   have hck : wr.cell? ⟨b, off + k, none⟩ = some (.int .i64 (C[k]?.getD 0)) := by rw [hcell k hlt]; simp
   clear hcell
   have HT : Hid _ := sgn_take_succ (C := C) (k := k) (by rw [HC.out]; exact hlt)
   have HP : Hid _ := part_step (C := C) (k := k) (by rw [HC.out]; exact hlt)
   generalize HS : sgn (C.take k) = s at *
   generalize HX : C[k]?.getD 0 = x at *
   clear HS HX
   by_cases hs0 : s = 0
   ·subst hs0
    by_cases h1 : 0 < x
    ·have HT2 : Hid (sgn1 x = 1) := by show sgn1 x = 1; rw [sgn1, if_pos h1]
     go_wp2_with (at_builtin; go_must (refine wpList_append_lies _ rfl (.tmp 34) (.tmp 42) 23 rfl W.heap.size 3 i0 (.int .i64 0) 1 8 Tryz.underlying23 hi hz0 hz1 hz2 rfl (by decide) _ _ _ rfl (jo.alloc _) ⟨wr.heap.size, 0, none⟩ 1 1 [.int .i64 (wrap64 x)] rfl rfl (news1 _ _ _) (one1 _ _) (by omega) (by unfold maxLen; omega) (by omega) (by rw [World.size_alloc]; omega) _ rfl ?_); intro g cp w1 hown hgrow hat hlt1)
     have j2 := j.app HL.out hown hgrow
     clear hown hgrow jo j hat
     have HX2 : Hid (xs ++ [wrap64 x] = (partL C).take (k + 1)) := by show _ = _; rw [HP.out, HXS.out, HT.out, if_pos rfl, HT2.out, Int.one_mul]
     go_wp2
     go_roundw
     case rel => exact ⟨k + 1, by omega, by go_num, by rw [HT.out, if_pos rfl, HT2.out], _, by rw [List.length_append, HL.out]; rfl, HX2.out, j2⟩
     case measure => simp [intOf]; omega
    ·by_cases h2 : x < 0
     ·have HT2 : Hid (sgn1 x = -1) := by show sgn1 x = -1; rw [sgn1, if_neg h1, if_pos h2]
      go_wp2_with (at_builtin; go_must (refine wpList_append_lies _ rfl (.tmp 34) (.tmp 42) 23 rfl W.heap.size 3 i0 (.int .i64 0) 1 8 Tryz.underlying23 hi hz0 hz1 hz2 rfl (by decide) _ _ _ rfl (jo.alloc _) ⟨wr.heap.size, 0, none⟩ 1 1 [.int .i64 (wrap64 (-x))] rfl rfl (news1 _ _ _) (one1 _ _) (by omega) (by unfold maxLen; omega) (by omega) (by rw [World.size_alloc]; omega) _ rfl ?_); intro g cp w1 hown hgrow hat hlt1)
      have j2 := j.app HL.out hown hgrow
      clear hown hgrow jo j hat
      have HX2 : Hid (xs ++ [wrap64 (-x)] = (partL C).take (k + 1)) := by show _ = _; rw [HP.out, HXS.out, HT.out, if_pos rfl, HT2.out, Int.neg_one_mul]
      go_wp2
      go_roundw
      case rel => exact ⟨k + 1, by omega, by go_num, by rw [HT.out, if_pos rfl, HT2.out], _, by rw [List.length_append, HL.out]; rfl, HX2.out, j2⟩
      case measure => simp [intOf]; omega
     ·have HT2 : Hid (sgn1 x = 0) := by show sgn1 x = 0; rw [sgn1, if_neg h1, if_neg h2]
      go_wp2_with (at_builtin; go_must (refine wpList_append_lies _ rfl (.tmp 34) (.tmp 42) 23 rfl W.heap.size 3 i0 (.int .i64 0) 1 8 Tryz.underlying23 hi hz0 hz1 hz2 rfl (by decide) _ _ _ rfl (jo.alloc _) ⟨wr.heap.size, 0, none⟩ 1 1 [.int .i64 0] rfl rfl (news1 _ _ _) (one1 _ _) (by omega) (by unfold maxLen; omega) (by omega) (by rw [World.size_alloc]; omega) _ rfl ?_); intro g cp w1 hown hgrow hat hlt1)
      have j2 := j.app HL.out hown hgrow
      clear hown hgrow jo j hat
      have HX2 : Hid (xs ++ [0] = (partL C).take (k + 1)) := by show _ = _; rw [HP.out, HXS.out, HT.out, if_pos rfl, HT2.out, Int.zero_mul, show wrap64 0 = 0 from by decide +kernel]
      go_wp2
      go_roundw
      case rel => exact ⟨k + 1, by omega, by go_num, by rw [HT.out, if_pos rfl, HT2.out], _, by rw [List.length_append, HL.out]; rfl, HX2.out, j2⟩
      case measure => simp [intOf]; omega
   ·have hs1 : (s == 0) = false := by simp [hs0]
    go_wp2_with (at_builtin; go_must (refine wpList_append_lies _ rfl (.tmp 34) (.tmp 42) 23 rfl W.heap.size 3 i0 (.int .i64 0) 1 8 Tryz.underlying23 hi hz0 hz1 hz2 rfl (by decide) _ _ _ rfl (jo.alloc _) ⟨wr.heap.size, 0, none⟩ 1 1 [.int .i64 (wrap64 (s * x))] rfl rfl (news1 _ _ _) (one1 _ _) (by omega) (by unfold maxLen; omega) (by omega) (by rw [World.size_alloc]; omega) _ rfl ?_); intro g cp w1 hown hgrow hat hlt1)
    have j2 := j.app HL.out hown hgrow
    clear hown hgrow jo j hat
    have HX2 : Hid (xs ++ [wrap64 (s * x)] = (partL C).take (k + 1)) := by show _ = _; rw [HP.out, HXS.out, HT.out, if_neg hs0]
    go_wp2
    go_roundw
    case rel => exact ⟨k + 1, by omega, by go_num, by rw [HT.out, if_neg hs0], _, by rw [List.length_append, HL.out]; rfl, HX2.out, j2⟩
    case measure => simp [intOf]; omega
  ·obtain rfl : k = n := by omega
   obtain ⟨a', cp, rfl, hcp, hI, hlt'⟩ := j.ints
   have HXC : Hid (xs = partL C) := by show xs = _; rw [HXS.out, List.take_of_length_le (by rw [part_len, HC.out]; exact Nat.le_refl _)]
   rw [HL.out] at hI hcp ⊢
   have jb := j.b
   clear j jo
   go_wp2
   go_ret
   exact ⟨a', cp, rfl, BW.trans (jb.mono BW.size), by rw [← HXC.out]; exact hI, fun b o e => ⟨by have := (hlt' b o e).1; have := HWS.out; omega, (hlt' b o e).2⟩⟩

end Go.Proofs.YtdigmokjedckeaaGreatDoor
namespace Go.Proofs.YtdigmokjedckeaaGreatDoor
open Go.ChangeShapes Go.WideShapes Go.ChangeAt Go.RowKit Go.Joins Go.Deep
set_option linter.unusedVariables false
set_option maxRecDepth 100000

/-- A slice, and what it holds. -/
structure L2V where
 a : Option Addr
 n : Nat
 cap : Nat
 x : List LV
def noL : L2V := ⟨none, 0, 0, []⟩
def L2V.v (s : L2V) : Value := .slice s.a s.n s.cap

theorem trod_lenL {H : Type} {enc : TypeId × Value → H} {W : World} {fuel : Nat} {t e : TypeId} {cs : List Value} {x : DataW H × List MemPlace} (hS : Tryz.prog.underlying t = some (.slice e)) (hf : DataW.trod enc Tryz.prog W 0 (fun _ => true) true fuel t cs = some x) : cs.length = 1 := by
 rcases open_slice hS hf with ⟨h, _⟩ | ⟨a, len, cap, m, n, D, Pl, h, _⟩ <;> rw [h] <;> rfl

def LM (w : World) (s : L2V) : Prop := s.x.length = s.n ∧ LinesM w s.a s.x ∧ s.n ≤ maxLen
def LG (w : World) (s : L2V) : Prop := s.x.length = s.n ∧ LinesG w s.a s.x ∧ s.n ≤ 1048576
def LS (s : L2V) : Prop := s.n ≤ 1048576 ∧ ∀ i, i < s.x.length → (s.x[i]?.getD noLV).f.n ≤ 1048576 ∧ (s.x[i]?.getD noLV).f.m ≤ 1048576
def LK (w : World) (lo : Nat) (s : L2V) : Prop := ∃ B l p q, s.a = some ⟨B, 0, none⟩ ∧ lo ≤ B ∧ ML w B l s.n s.x p q ∧ s.x.length = s.n ∧ s.n ≤ 1048576
def copiesL2 (s t : L2V) : Prop := t.n = s.n ∧ t.x.length = s.x.length ∧ copiesL s.x t.x
def sameL2 (s t : L2V) : Prop := s.n = t.n ∧ ∀ i, i < s.n → sameL (s.x[i]?.getD noLV) (t.x[i]?.getD noLV)
theorem LM.below {w w' : World} {s : L2V} (h : LM w s) (hb : Below w.heap.size w w') : LM w' s := ⟨h.1, h.2.1.below hb, h.2.2⟩
theorem LG.below {w w' : World} {s : L2V} (h : LG w s) (hb : Below w.heap.size w w') : LG w' s := ⟨h.1, h.2.1.below hb, h.2.2⟩
theorem LM.g {w : World} {s : L2V} (h : LM w s) (hs : LS s) : LG w s := ⟨h.1, h.2.1.g hs.2, hs.1⟩
theorem ML.touch {S : Nat → Prop} {W W' : World} {B lo N : Nat} {gs : List LV} {p q : Nat → Nat} (h : ML W B lo N gs p q) (t : Touch S W W') (hs : ∀ k, S k → k < B) : ML W' B lo N gs p q := by
 obtain ⟨vs, h1, h2, h3⟩ := h.c
 have hb := h.b
 refine ⟨⟨vs, by rw [t.block B (lt_of_block h1) (fun hh => by have := hs _ hh; omega)]; exact h1, h2, h3⟩, fun i hi => ?_, h.b, Nat.le_trans h.s t.size⟩
 obtain ⟨a2, a3, a4, a5, a6, a7, a8, a9, a10, a11, a12, a13⟩ := h.l i hi
 have k1 : Blk W' (p i) (gs[i]?.getD noLV).f.C := by unfold Blk at *; rw [t.block _ (lt_of_block a4) (fun hh => by have := hs _ hh; omega)]; exact a4
 have k2 : Blk W' (q i) (gs[i]?.getD noLV).f.D := by unfold Blk at *; rw [t.block _ (lt_of_block a5) (fun hh => by have := hs _ hh; omega)]; exact a5
 exact ⟨a2, a3, k1, k2, a6, a7, a8, a9, a10, a11, Nat.lt_of_lt_of_le a12 t.size, a13⟩
theorem LK.below {w w' : World} {lo : Nat} {s : L2V} (h : LK w lo s) (hb : Below w.heap.size w w') : LK w' lo s := by
 obtain ⟨B, l, p, q, h1, h2, h3, h4⟩ := h
 exact ⟨B, l, p, q, h1, h2, h3.below hb, h4⟩
theorem LK.touch {S : Nat → Prop} {w w' : World} {lo : Nat} {s : L2V} (h : LK w lo s) (t : Touch S w w') (hs : ∀ k, S k → k < lo) : LK w' lo s := by
 obtain ⟨B, l, p, q, h1, h2, h3, h4⟩ := h
 exact ⟨B, l, p, q, h1, h2, h3.touch t (fun k hk => by have := hs k hk; omega), h4⟩
theorem LK.mono {w : World} {lo lo' : Nat} {s : L2V} (h : LK w lo s) (hl : lo' ≤ lo) : LK w lo' s := by
 obtain ⟨B, l, p, q, h1, h2, h3⟩ := h
 exact ⟨B, l, p, q, h1, by omega, h3⟩
theorem LK.g {w : World} {lo : Nat} {s : L2V} (h : LK w lo s) : LG w s := by
 obtain ⟨B, l, p, q, h1, h2, h3, h4, h5⟩ := h
 refine ⟨h4, ?_, h5⟩
 rw [h1]; exact h3.g
theorem open_L1 {H : Type} {enc : TypeId × Value → H} {W : World} {fuel : Nat} {v : Value} {y : DataW H × List MemPlace}
  (hf : DataW.trod enc Tryz.prog W 0 (fun _ => true) true fuel 86 [v] = some y) : ∃ s : L2V, v = s.v ∧ LM W s := by
 obtain ⟨a, n, cap, zs, rfl, h1, h2, h3⟩ := open_linesC hf
 exact ⟨⟨a, n, cap, zs⟩, rfl, h1, h2, h3⟩
theorem szL_ex (a : Option Addr) (n cap : Nat) (x : List LV) (l : Int) (w : World) (h : LM w ⟨a, n, cap, x⟩) (h0 : 0 ≤ l) (hl : l ≤ 1048576) :
  Calls Tryz.prog 51 #[.slice a n cap, .int .i64 l] w fun e w' => ∃ r, e = .returned (.int .i64 r) ∧ -1 ≤ r ∧ r ≤ 1048576 ∧ (0 ≤ r → LS ⟨a, n, cap, x⟩) ∧ Below w.heap.size w w' :=
 szLS_any a n cap x l w h.1 h.2.1 h.2.2 h0 hl
theorem toL_ex (a : Option Addr) (n cap : Nat) (x : List LV) (w : World) (h : LG w ⟨a, n, cap, x⟩) :
  Calls Tryz.prog 68 #[.slice a n cap] w fun e w' => ∃ a2 x2, e = .returned (.slice a2 n n) ∧ Below w.heap.size w w' ∧ LK w' w.heap.size ⟨a2, n, n, x2⟩ ∧ copiesL2 ⟨a, n, cap, x⟩ ⟨a2, n, n, x2⟩ := by
 refine (toLS_any a n cap x w h.1 h.2.1 h.2.2).mono ?_
 rintro e w' ⟨gs, p, q, rfl, h1, h2, b, m⟩
 exact ⟨_, gs, rfl, b, ⟨_, _, p, q, rfl, Nat.le_refl _, m, h1, h.2.2⟩, rfl, by rw [h1]; exact h.1.symm, h2⟩
theorem eqL_ex (a : Option Addr) (n cap : Nat) (x : List LV) (c : Option Addr) (m cap' : Nat) (y : List LV) (w : World) (h : LG w ⟨a, n, cap, x⟩) (h' : LG w ⟨c, m, cap', y⟩) (hs : sameL2 ⟨a, n, cap, x⟩ ⟨c, m, cap', y⟩) :
  Calls Tryz.prog 79 #[.slice a n cap, .slice c m cap'] w fun e w' => e = .returned (.bool true) ∧ Below w.heap.size w w' := by
 obtain ⟨h1, h2⟩ := hs
 have h1' : n = m := h1
 subst h1'
 exact eqLS_same a c n cap cap' x y w h.1 h'.1 h.2.1 h'.2.1 h.2.2 h2

/-- A slice of slices that came in. -/
def LSM (w : World) (ad : Option Addr) (ss : List L2V) : Prop :=
 ∀ i, i < ss.length → ∃ b off, ad = some ⟨b, off, none⟩ ∧ w.cell? ⟨b, off + i, none⟩ = some (ss[i]?.getD noL).v ∧ LM w (ss[i]?.getD noL)
/-- One that may be copied. -/
def LSG (w : World) (ad : Option Addr) (ss : List L2V) : Prop :=
 ∀ i, i < ss.length → ∃ b off, ad = some ⟨b, off, none⟩ ∧ w.cell? ⟨b, off + i, none⟩ = some (ss[i]?.getD noL).v ∧ LG w (ss[i]?.getD noL)
theorem LSM.below {w w' : World} {ad : Option Addr} {ss : List L2V} (h : LSM w ad ss) (hb : Below w.heap.size w w') : LSM w' ad ss := fun i hi => by
 obtain ⟨b, off, e, hc, hr⟩ := h i hi
 exact ⟨b, off, e, by rw [hb.cell (p := ⟨b, off + i, none⟩) (block_lt hc)]; exact hc, hr.below hb⟩
theorem LSG.below {w w' : World} {ad : Option Addr} {ss : List L2V} (h : LSG w ad ss) (hb : Below w.heap.size w w') : LSG w' ad ss := fun i hi => by
 obtain ⟨b, off, e, hc, hr⟩ := h i hi
 exact ⟨b, off, e, by rw [hb.cell (p := ⟨b, off + i, none⟩) (block_lt hc)]; exact hc, hr.below hb⟩
theorem LSM.g {w : World} {ad : Option Addr} {ss : List L2V} (h : LSM w ad ss) (hs : ∀ i, i < ss.length → LS (ss[i]?.getD noL)) : LSG w ad ss := fun i hi => by
 obtain ⟨b, off, e, hc, hr⟩ := h i hi
 exact ⟨b, off, e, hc, hr.g (hs i hi)⟩

set_option maxHeartbeats 800000 in
theorem szL2S_any (ad : Option Addr) (N cap : Nat) (ss : List L2V) (l : Int) (w : World) (hN : ss.length = N) (hF : LSM w ad ss) (hN1 : N ≤ maxLen) (h0 : 0 ≤ l) (hl : l ≤ 1048576) :
  Calls Tryz.prog 21 #[.slice ad N cap, .int .i64 l] w fun e w' => ∃ r, e = .returned (.int .i64 r) ∧ -1 ≤ r ∧ r ≤ 1048576 ∧ (0 ≤ r → N ≤ 1048576 ∧ ∀ i, i < ss.length → LS (ss[i]?.getD noL)) ∧ Below w.heap.size w w' := by
 have HN : Hid (ss.length = N) := hN
 clear hN
 unfold maxLen at hN1
 by_cases h : l < N
 ·go_enter Tryz.func21, Tryz.ntmps21
  go_wp2
  go_ret
  exact ⟨-1, rfl, by omega, by omega, fun h => by omega, Below.refl _ _⟩
 ·have hN2 : N ≤ 1048576 := by omega
  have h' : (N : Int) ≤ l := by omega
  go_enter Tryz.func21, Tryz.ntmps21
  go_wp2_with fail
  go_loopw [1, 5] (fun lv i wr => ∃ k : Nat, k ≤ N ∧ i = .int .i64 k ∧ ∃ x : Int, lv = .int .i64 x ∧ 0 ≤ x ∧ x ≤ 1048576 ∧ Below w.heap.size w wr ∧ ∀ i, i < k → LS (ss[i]?.getD noL)) (fun _ i _ => N - (intOf i).toNat)
  case atStart => exact ⟨0, Nat.zero_le _, rfl, _, rfl, by omega, by omega, Below.refl _ _, fun i hi => by omega⟩
  case round =>
   obtain ⟨k, hk, rfl, x, rfl, hx0, hx1, hb, hall⟩ := hrel
   have HA : Hid _ := hall
   clear hall
   by_cases hlt : k < N
   ·obtain ⟨b, off, rfl, hc, hr⟩ := (hF.below hb) k (by rw [HN.out]; exact hlt)
    generalize HG : ss[k]?.getD noL = g at *
    have HG' : Hid (ss[k]?.getD noL = g) := HG
    clear HG hF
    obtain ⟨ga, gn, gcap, gx⟩ := g
    have hc' : wr.cell? ⟨b, off + k, none⟩ = some (.slice ga gn gcap) := hc
    clear hc
    go_wp2_with fail
    refine (szL_ex _ _ _ gx _ _ hr hx0 hx1).mono ?_
    rintro e w1 ⟨r, rfl, r0, r1, r2, b1⟩
    by_cases hz : r < 0
    ·go_wp2
     go_ret
     exact ⟨-1, rfl, by omega, by omega, fun h => by omega, hb.trans (b1.mono hb.size)⟩
    ·have hz0 : 0 ≤ r := by omega
     have HA2 : Hid (∀ i, i < k + 1 → LS (ss[i]?.getD noL)) := fun i hi => by
      by_cases hik : i < k
      ·exact HA.out i hik
      ·obtain rfl : i = k := by omega
       rw [HG'.out]; exact r2 hz0
     clear r2
     go_wp2
     go_roundw
     case rel => exact ⟨k + 1, by omega, by go_num, _, rfl, hz0, r1, hb.trans (b1.mono hb.size), HA2.out⟩
     case measure => simp [intOf]; omega
   ·obtain rfl : k = N := by omega
    go_wp2
    go_ret
    exact ⟨x, rfl, by omega, by omega, fun _ => ⟨hN2, fun i hi => HA.out i (by rw [← HN.out]; exact hi)⟩, hb⟩

/-- Each holds what the other does. -/
def copiesL2S (ss ts : List L2V) : Prop := ∀ i, i < ts.length → copiesL2 (ss[i]?.getD noL) (ts[i]?.getD noL)

/-- All that a slice of lines holds lies in blocks from lo on, and below hi. -/
def InR (lo hi : Nat) (s : L2V) : Prop := (∀ b, s.a = some ⟨b, 0, none⟩ → lo ≤ b ∧ b < hi) ∧ ∀ k, k < s.x.length → ∀ b, (s.x[k]?.getD noLV).f.c = some ⟨b, 0, none⟩ → b < hi
theorem LK.inR {w : World} {lo : Nat} {s : L2V} (h : LK w lo s) : InR lo w.heap.size s := by
 obtain ⟨B, l, p, q, h1, h2, h3, h4, h5⟩ := h
 refine ⟨fun b e => ?_, fun k hk b e => ?_⟩
 ·rw [h1] at e
  simp only [Option.some.injEq, Addr.mk.injEq, and_true] at e
  have := h3.lt
  omega
 ·obtain ⟨a2, a3, a4, a5, a6, a7, a8, a9, a10, a11, a12, a13⟩ := h3.l k hk
  rw [a3] at e
  simp only [Option.some.injEq, Addr.mk.injEq, and_true] at e
  omega

/-- Block B holds N slices, of which those of ts have been laid. -/
structure ML2 (W : World) (B N : Nat) (ts : List L2V) : Prop where
 c : ∃ vs : List Value, Cel W B vs 102 ∧ vs.length = N ∧ ∀ i, i < ts.length → vs[i]? = some (ts[i]?.getD noL).v
 l : ∀ i, i < ts.length → LK W (B + 1) (ts[i]?.getD noL)
 d : ∃ c : Nat → Nat, B < c 0 ∧ c ts.length ≤ W.heap.size ∧ ∀ i, i < ts.length → c i ≤ c (i + 1) ∧ InR (c i) (c (i + 1)) (ts[i]?.getD noL)
theorem ML2.lt {W : World} {B N : Nat} {ts : List L2V} (h : ML2 W B N ts) : B < W.heap.size := by
 obtain ⟨vs, h1, _⟩ := h.c
 exact h1.lt
theorem ML2.below {W W' : World} {B N : Nat} {ts : List L2V} (h : ML2 W B N ts) (b : Below W.heap.size W W') : ML2 W' B N ts := by
 obtain ⟨vs, h1, h2, h3⟩ := h.c
 obtain ⟨c, c1, c2, c3⟩ := h.d
 exact ⟨⟨vs, h1.below b, h2, h3⟩, fun i hi => (h.l i hi).below b, c, c1, Nat.le_trans c2 b.size, c3⟩
theorem ML2.g {W : World} {B N : Nat} {ts : List L2V} (h : ML2 W B N ts) : LSG W (some ⟨B, 0, none⟩) ts := fun i hi => by
 obtain ⟨vs, h1, h2, h3⟩ := h.c
 exact ⟨B, 0, rfl, by rw [Nat.zero_add, h1.cell i, h3 i hi], (h.l i hi).g⟩
theorem ML2.step {W W1 : World} {B N k : Nat} {ts : List L2V} {s : L2V} (h : ML2 W B N ts) (hk : ts.length = k) (hkN : k < N) (b : Below W.heap.size W W1) (hs : LK W1 W.heap.size s) : ML2 (W1.setCell ⟨B, k, none⟩ s.v) B N (ts ++ [s]) := by
 have hB := h.lt
 obtain ⟨vs, h1, h2, h3⟩ := (h.below b).c
 have T : Touch (fun x => x = B) W1 (W1.setCell ⟨B, k, none⟩ s.v) := Touch.setCell (S := fun x => x = B) (Touch.refl _ _) rfl _
 refine ⟨⟨vs.set k s.v, h1.set _ _, by rw [List.length_set]; exact h2, fun i hi => ?_⟩, fun i hi => ?_, ?_⟩
 ·rw [List.length_append, hk] at hi
  simp only [List.length_cons, List.length_nil] at hi
  by_cases e : i = k
  ·subst e
   rw [List.getElem?_set_self (by omega), List.getElem?_append_right (by omega), hk]; simp
  ·rw [List.getElem?_set_ne (by omega), List.getElem?_append_left (by omega)]
   exact h3 i (by omega)
 ·rw [List.length_append, hk] at hi
  simp only [List.length_cons, List.length_nil] at hi
  by_cases e : i = k
  ·subst e
   rw [List.getElem?_append_right (by omega), hk]
   simp only [Nat.sub_self, List.getElem?_cons_zero, Option.getD_some]
   exact (hs.mono (by omega)).touch T (fun x hx => by omega)
  ·rw [List.getElem?_append_left (by omega)]
   exact (((h.l i (by omega)).below b)).touch T (fun x hx => by omega)
 ·obtain ⟨c, c1, c2, c3⟩ := h.d
  have hb := b.size
  rw [hk] at c2 c3
  refine ⟨fun i => if i ≤ k then (if i = k then W.heap.size else c i) else W1.heap.size, ?_, ?_, fun i hi => ?_⟩
  ·simp only [Nat.zero_le, if_true]
   split
   ·exact hB
   ·exact c1
  ·rw [List.length_append, hk, size_setCell]
   simp only [List.length_cons, List.length_nil]
   rw [if_neg (by omega)]
   exact Nat.le_refl _
  ·rw [List.length_append, hk] at hi
   simp only [List.length_cons, List.length_nil] at hi
   dsimp only
   by_cases e : i = k
   ·subst e
    rw [if_pos (Nat.le_refl _), if_pos rfl, if_neg (by omega), List.getElem?_append_right (by omega), hk]
    simp only [Nat.sub_self, List.getElem?_cons_zero, Option.getD_some]
    exact ⟨hb, hs.inR⟩
   ·obtain ⟨d1, d2⟩ := c3 i (by omega)
    rw [if_pos (by omega), if_neg e, if_pos (by omega), List.getElem?_append_left (by omega)]
    by_cases e2 : i + 1 = k
    ·rw [if_pos e2]
     rw [e2] at d1 d2
     exact ⟨Nat.le_trans d1 c2, ⟨fun b hb => ⟨(d2.1 b hb).1, Nat.lt_of_lt_of_le (d2.1 b hb).2 c2⟩, fun j hj b hb => Nat.lt_of_lt_of_le (d2.2 j hj b hb) c2⟩⟩
    ·rw [if_neg e2]
     exact ⟨d1, d2⟩

theorem Tryz.infoL2 : (Tryz.prog.info? 102).map (fun i => (i.zero, i.size, i.bytes)) = some (some (.slice none 0 0), 1, 24) := by kernel_rfl

set_option maxHeartbeats 1600000 in
theorem toL2S_any (ad : Option Addr) (N cap : Nat) (ss : List L2V) (w : World) (hN : ss.length = N) (hF : LSG w ad ss) (hN1 : N ≤ 1048576) :
  Calls Tryz.prog 28 #[.slice ad N cap] w fun e w' => ∃ ts, e = .returned (.slice (some ⟨w.heap.size, 0, none⟩) N N) ∧ ts.length = N ∧ copiesL2S ss ts ∧ Below w.heap.size w w' ∧ ML2 w' w.heap.size N ts := by
 have HN : Hid (ss.length = N) := hN
 clear hN
 obtain ⟨i0, hi, hz0, hz1, hz2⟩ := info_parts Tryz.infoL2
 go_enter Tryz.func28, Tryz.ntmps28
 go_wp2_with (at_make; refine wpList_make_full _ rfl (.tmp 6) (.tmp 6) 32 rfl w.heap.size 102 i0 (.slice none 0 0) 1 Tryz.underlying32 hi hz0 hz1 .i64 .i64 _ _ N rfl rfl rfl rfl (by rw [hz2]; omega) (by unfold maxLen; omega) (Nat.le_refl _) ?_; intro w1 hown hgrow)
 have hb1 : Below w.heap.size w w1 := (Below.refl _ _).grown hgrow (Nat.le_refl _) (by simp)
 have m0 : ML2 w1 w.heap.size N [] := by
  rcases hown.2 with ⟨h', _⟩ | ⟨g', cap', cur, h', _, hg, _, _, hcs, htake⟩
  ·simp at h'
  ·simp only [Value.slice.injEq, Option.some.injEq, Addr.mk.injEq, and_true, true_and] at h'
   obtain ⟨rfl, rfl⟩ := h'
   exact ⟨⟨cur.toList, by unfold Cel; rw [hg], by simpa using hcs, fun i hi => by simp at hi⟩, fun i hi => by simp at hi, fun _ => w.heap.size + 1, Nat.lt_succ_self _, lt_of_block hg, fun i hi => by simp at hi⟩
 clear hown hgrow hi hz0 hz1 hz2
 go_loopw [4] (fun i wr => ∃ k : Nat, k ≤ N ∧ i = .int .i64 k ∧ Below w.heap.size w wr ∧ ∃ ts, ts.length = k ∧ copiesL2S ss ts ∧ ML2 wr w.heap.size N ts) (fun i _ => N - (intOf i).toNat)
 case atStart => exact ⟨0, Nat.zero_le _, rfl, hb1, [], rfl, fun i hi => by simp at hi, m0⟩
 case round =>
  clear hb1 m0
  obtain ⟨k, hk, rfl, hb, ts, hts, hcp, hm⟩ := hrel
  have HTS : Hid (ts.length = k) := hts
  have HCP : Hid (copiesL2S ss ts) := hcp
  clear hts hcp
  by_cases hlt : k < N
  ·obtain ⟨b, off, rfl, hc, hr⟩ := (hF.below hb) k (by rw [HN.out]; exact hlt)
   generalize HG : ss[k]?.getD noL = g at *
   have HG' : Hid (ss[k]?.getD noL = g) := HG
   clear HG hF
   obtain ⟨ga, gn, gcap, gx⟩ := g
   have hc' : wr.cell? ⟨b, off + k, none⟩ = some (.slice ga gn gcap) := hc
   clear hc
   go_wp2_with fail
   refine (toL_ex _ _ _ gx _ hr).mono ?_
   rintro ee w2 ⟨a2, x2, rfl, b2, hK, hcp2⟩
   have ms := hm.step HTS.out hlt b2 hK
   obtain ⟨vs, v1, v2, v3⟩ := (hm.below b2).c
   obtain ⟨y, hy⟩ : ∃ y, w2.cell? ⟨w.heap.size, k, none⟩ = some y := ⟨_, (v1.cell k).trans (List.getElem?_eq_getElem (by rw [v2]; exact hlt))⟩
   have hfy := v1.free k
   have hb2 := hb.trans (b2.mono hb.size)
   have RB := hb2.setCell (p := ⟨w.heap.size, k, none⟩) (Nat.le_refl _) (.slice a2 gn gn)
   have CP : copiesL2S ss (ts ++ [⟨a2, gn, gn, x2⟩]) := fun i hi => by
    rw [List.length_append, HTS.out] at hi
    simp only [List.length_cons, List.length_nil] at hi
    by_cases e : i = k
    ·subst e
     rw [List.getElem?_append_right (by rw [HTS.out]; exact Nat.le_refl _), HTS.out, HG'.out]
     simpa using hcp2
    ·rw [List.getElem?_append_left (by rw [HTS.out]; omega)]
     exact HCP.out i (by rw [HTS.out]; omega)
   have HCP2 : Hid _ := CP
   have ms' : ML2 (w2.setCell ⟨w.heap.size, k, none⟩ (.slice a2 gn gn)) w.heap.size N (ts ++ [⟨a2, gn, gn, x2⟩]) := ms
   clear hm b2 hb hb2 v1 v2 v3 CP hr hcp2 hK ms
   go_wp2
   go_roundw
   case rel => exact ⟨k + 1, by omega, by go_num, RB, _, by rw [List.length_append, HTS.out]; rfl, HCP2.out, ms'⟩
   case measure => simp [intOf]; omega
  ·obtain rfl : k = N := by omega
   go_wp2
   go_ret
   exact ⟨ts, rfl, HTS.out, HCP.out, hb, hm⟩

set_option maxHeartbeats 1600000 in
/-- Held against a slice that holds the same. -/
theorem eqL2S_same (ad ae : Option Addr) (N cap cap' : Nat) (fs gs : List L2V) (w : World) (hN : fs.length = N) (hM : gs.length = N) (hF : LSG w ad fs) (hG : LSG w ae gs) (hN1 : N ≤ 1048576)
  (hsame : ∀ i, i < N → sameL2 (fs[i]?.getD noL) (gs[i]?.getD noL)) :
  Calls Tryz.prog 35 #[.slice ad N cap, .slice ae N cap'] w fun e w' => e = .returned (.bool true) ∧ Below w.heap.size w w' := by
 have HN : Hid (fs.length = N) := hN
 have HM : Hid (gs.length = N) := hM
 have HS : Hid _ := hsame
 clear hN hM hsame
 go_enter Tryz.func35, Tryz.ntmps35
 go_wp2_with fail
 go_loopw [5] (fun i wr => ∃ k : Nat, k ≤ N ∧ i = .int .i64 k ∧ Below w.heap.size w wr) (fun i _ => N - (intOf i).toNat)
 case atStart => exact ⟨0, Nat.zero_le _, rfl, Below.refl _ _⟩
 case round =>
  obtain ⟨k, hk, rfl, hb⟩ := hrel
  by_cases hlt : k < N
  ·obtain ⟨b, off, rfl, hc, hr⟩ := (hF.below hb) k (by rw [HN.out]; exact hlt)
   obtain ⟨b', off', rfl, hc', hr'⟩ := (hG.below hb) k (by rw [HM.out]; exact hlt)
   have hs := HS.out k hlt
   generalize HG1 : fs[k]?.getD noL = f at *
   generalize HG2 : gs[k]?.getD noL = g at *
   clear HG1 HG2 hF hG
   obtain ⟨fa, fn, fcap, fx⟩ := f
   obtain ⟨ga, gn, gcap, gx⟩ := g
   have d1 : wr.cell? ⟨b, off + k, none⟩ = some (.slice fa fn fcap) := hc
   have d2 : wr.cell? ⟨b', off' + k, none⟩ = some (.slice ga gn gcap) := hc'
   clear hc hc'
   have hlt' : (k : Int) < (N : Int) := by omega
   go_wp2_with fail
   go_region_with (first | (go_at_call 79; refine (eqL_ex _ _ _ fx _ _ _ gx _ (by exact hr.below (Below.refl _ _).drew) (by exact hr'.below (Below.refl _ _).drew) hs).mono ?_; rintro ee w1 ⟨rfl, b1⟩))
   all_goals
    have b1' := below_of_drew b1
    go_wp2
    go_roundw
    case rel => exact ⟨k + 1, by omega, by go_num, hb.trans (b1'.mono hb.size)⟩
    case measure => simp [intOf]; omega
  ·go_wp2
   go_ret
   exact ⟨rfl, hb⟩

end Go.Proofs.YtdigmokjedckeaaGreatDoor
namespace Go.Proofs.YtdigmokjedckeaaGreatDoor
open Go.RowKit
set_option linter.unusedVariables false
set_option maxRecDepth 100000

theorem copiesL_same {fs gs hs : List LV} {N : Nat} (hg : gs.length = N) (hh : hs.length = N) (h1 : copiesL fs gs) (h2 : copiesL fs hs) : ∀ i, i < N → sameL (gs[i]?.getD noLV) (hs[i]?.getD noLV) := fun i hi => by
 obtain ⟨a1, a2, a3, a4, a5, a6, _⟩ := h1 i (by omega)
 obtain ⟨b1, b2, b3, b4, b5, b6, _⟩ := h2 i (by omega)
 refine ⟨by rw [a1, b1], by rw [a2, b2], by rw [a3, b3], ?_⟩
 rw [a4, a5, a6, b4, b5, b6]
 exact eqF_refl _ _ _
theorem copiesL_map {α : Type} (P : LV → α) (hP : ∀ f g : LV, f.kind = g.kind → f.pot = g.pot → f.skip = g.skip → f.f.C = g.f.C → f.f.D = g.f.D → f.f.K = g.f.K → f.f.n = g.f.n → f.f.m = g.f.m → P f = P g) {fs gs : List LV} (hl : gs.length = fs.length) (h : copiesL fs gs) : gs.map P = fs.map P := by
 apply List.ext_getElem?
 intro i
 by_cases hi : i < gs.length
 ·obtain ⟨a1, a2, a3, a4, a5, a6, a7, a8⟩ := h i hi
  have := hP _ _ a1 a2 a3 a4 a5 a6 a7 a8
  rw [List.getElem?_eq_getElem hi, List.getElem?_eq_getElem (by omega)] at this
  simp only [Option.getD_some] at this
  rw [List.getElem?_map, List.getElem?_map, List.getElem?_eq_getElem hi, List.getElem?_eq_getElem (by omega)]
  simp [this]
 ·rw [List.getElem?_eq_none (by simp; omega), List.getElem?_eq_none (by simp; omega)]
theorem copiesL_act {fs gs : List LV} {N : Nat} (hl : gs.length = fs.length) (h : copiesL fs gs) : actB N gs = actB N fs := by
 have h1 := copiesL_map LV.ok (fun f g a1 a2 a3 a4 a5 a6 a7 a8 => by simp only [LV.ok, a1, a2, a3, a4, a5, a6, a7, a8]) hl h
 have h2 := copiesL_map LV.tst (fun f g a1 a2 a3 a4 a5 a6 a7 a8 => by simp only [LV.tst, a1]) hl h
 have e1 : ∀ xs : List LV, xs.all LV.ok = (xs.map LV.ok).all id := fun xs => by simp [List.all_map]
 have e2 : ∀ xs : List LV, tests xs = (xs.map LV.tst).countP id := fun xs => by simp [tests, List.countP_map]
 rw [actB, actB, e1, e1, e2, e2, h1, h2]

def L2V.ok (s : L2V) : Bool := actB s.n s.x
/-- Whether acts are ok. -/
def catB (N : Nat) (ss : List L2V) : Bool := inB N 1 4 && ss.all L2V.ok
theorem allC_take_succ {ls : List L2V} {k : Nat} (h : k < ls.length) (h1 : (ls.take k).all L2V.ok = true) (h2 : (ls[k]?.getD noL).ok = true) : (ls.take (k + 1)).all L2V.ok = true := by
 rw [List.take_succ_eq_append_getElem h, List.all_append, h1]
 rw [List.getElem?_eq_getElem h] at h2
 simpa using h2
theorem allC_no {ls : List L2V} {k : Nat} (h : k < ls.length) (h2 : (ls[k]?.getD noL).ok = false) : ls.all L2V.ok = false := by
 rw [List.all_eq_false]
 rw [List.getElem?_eq_getElem h] at h2
 exact ⟨ls[k], List.getElem_mem h, by simpa using h2⟩

set_option maxHeartbeats 1600000 in
theorem scat_any (ad : Option Addr) (N cap : Nat) (ss : List L2V) (w : World) (hN : ss.length = N) (hF : LSG w ad ss) (hN1 : N ≤ 1048576) :
  Calls Tryz.prog 53 #[.slice ad N cap] w fun e w' => e = .returned (.bool (catB N ss)) ∧ Below w.heap.size w w' := by
 have HN : Hid (ss.length = N) := hN
 clear hN
 cases hib : inB N 1 4
 ·go_enter Tryz.func53, Tryz.ntmps53
  go_wp2_with fail
  refine (in_any _ _ _ _).mono ?_
  rintro e w1 ⟨rfl, rfl⟩
  rw [hib]
  go_wp2
  go_ret
  exact ⟨ret_bool (by rw [catB, hib]; rfl), Below.refl _ _⟩
 go_enter Tryz.func53, Tryz.ntmps53
 go_wp2_with fail
 refine (in_any _ _ _ _).mono ?_
 rintro e w1 ⟨rfl, hw1⟩
 rw [hib, hw1]
 clear hw1
 go_wp2_with fail
 have HCB : Hid (catB N ss = ss.all L2V.ok) := by show catB N ss = _; rw [catB, hib]; rfl
 go_loopw [3] (fun  i wr => ∃ k : Nat, k ≤ N ∧ i = .int .i64 k ∧ Below w.heap.size w wr ∧ (ss.take k).all L2V.ok = true) (fun i _ => N - (intOf i).toNat)
 case atStart => exact ⟨0, Nat.zero_le _, rfl, Below.refl _ _, by simp⟩
 case round =>
  obtain ⟨k, hk, rfl, hb, hall⟩ := hrel
  have HA : Hid ((ss.take k).all L2V.ok = true) := hall
  clear hall
  by_cases hlt : k < N
  ·obtain ⟨b, off, rfl, hc, hr⟩ := (hF.below hb) k (by rw [HN.out]; exact hlt)
   generalize HG : ss[k]?.getD noL = g at *
   have HG' : Hid (ss[k]?.getD noL = g) := HG
   clear HG hF
   obtain ⟨ga, gn, gcap, gx⟩ := g
   have hc' : wr.cell? ⟨b, off + k, none⟩ = some (.slice ga gn gcap) := hc
   clear hc
   cases hf : actB gn gx
   ·go_wp2_with fail
    refine (sact_any _ _ _ gx _ hr.1 hr.2.1 hr.2.2).mono ?_
    rintro e w1 ⟨rfl, b1⟩
    rw [hf]
    go_wp2
    go_ret
    exact ⟨ret_bool (by rw [HCB.out, allC_no (k := k) (by rw [HN.out]; exact hlt) (by rw [HG'.out]; exact hf)]), hb.trans (b1.mono hb.size)⟩
   ·go_wp2_with fail
    refine (sact_any _ _ _ gx _ hr.1 hr.2.1 hr.2.2).mono ?_
    rintro e w1 ⟨rfl, b1⟩
    rw [hf]
    go_wp2
    go_roundw
    case rel => exact ⟨k + 1, by omega, by go_num, hb.trans (b1.mono hb.size), allC_take_succ (by rw [HN.out]; exact hlt) HA.out (by rw [HG'.out]; exact hf)⟩
    case measure => simp [intOf]; omega
  ·go_wp2
   go_ret
   exact ⟨ret_bool (by rw [HCB.out]; have := HA.out; rw [List.take_of_length_le (by rw [HN.out]; omega)] at this; exact this.symm), hb⟩

set_option maxHeartbeats 1600000 in
theorem icat_any (ad : Option Addr) (N cap : Nat) (ss : List L2V) (w : World) (hN : ss.length = N) (hF : LSG w ad ss) (hN1 : N ≤ 1048576) :
  Calls Tryz.prog 71 #[.slice ad N cap] w fun e w' => e = .returned (.bool (catB N ss)) ∧ Below w.heap.size w w' := by
 have HN : Hid (ss.length = N) := hN
 clear hN
 by_cases h1 : N < 1
 ·have hib : inB N 1 4 = false := inB_not.2 (by omega)
  go_enter Tryz.func71, Tryz.ntmps71
  go_wp2
  go_ret
  exact ⟨ret_bool (by rw [catB, hib]; rfl), Below.refl _ _⟩
 by_cases h4 : 4 < N
 ·have hib : inB N 1 4 = false := inB_not.2 (by omega)
  go_enter Tryz.func71, Tryz.ntmps71
  go_wp2
  go_ret
  exact ⟨ret_bool (by rw [catB, hib]; rfl), Below.refl _ _⟩
 have hib : inB N 1 4 = true := inB_iff.2 (by omega)
 go_enter Tryz.func71, Tryz.ntmps71
 go_wp2_with fail
 have HCB : Hid (catB N ss = ss.all L2V.ok) := by show catB N ss = _; rw [catB, hib]; rfl
 go_loopw [4, 15] (fun _ i wr => ∃ k : Nat, k ≤ N ∧ i = .int .i64 k ∧ Below w.heap.size w wr ∧ (ss.take k).all L2V.ok = true) (fun _ i _ => N - (intOf i).toNat)
 case atStart => exact ⟨0, Nat.zero_le _, rfl, Below.refl _ _, by simp⟩
 case round =>
  obtain ⟨k, hk, rfl, hb, hall⟩ := hrel
  have HA : Hid ((ss.take k).all L2V.ok = true) := hall
  clear hall
  by_cases hlt : k < N
  ·obtain ⟨b, off, rfl, hc, hr⟩ := (hF.below hb) k (by rw [HN.out]; exact hlt)
   generalize HG : ss[k]?.getD noL = g at *
   have HG' : Hid (ss[k]?.getD noL = g) := HG
   clear HG hF
   obtain ⟨ga, gn, gcap, gx⟩ := g
   have hc' : wr.cell? ⟨b, off + k, none⟩ = some (.slice ga gn gcap) := hc
   clear hc
   cases hf : actB gn gx
   ·go_wp2_with fail
    refine (iact_any _ _ _ gx _ hr.1 hr.2.1 hr.2.2).mono ?_
    rintro e w1 ⟨rfl, b1⟩
    rw [hf]
    go_wp2
    go_ret
    exact ⟨ret_bool (by rw [HCB.out, allC_no (k := k) (by rw [HN.out]; exact hlt) (by rw [HG'.out]; exact hf)]), hb.trans (b1.mono hb.size)⟩
   ·go_wp2_with fail
    refine (iact_any _ _ _ gx _ hr.1 hr.2.1 hr.2.2).mono ?_
    rintro e w1 ⟨rfl, b1⟩
    rw [hf]
    go_wp2
    go_roundw
    case rel => exact ⟨k + 1, by omega, by go_num, hb.trans (b1.mono hb.size), allC_take_succ (by rw [HN.out]; exact hlt) HA.out (by rw [HG'.out]; exact hf)⟩
    case measure => simp [intOf]; omega
  ·go_wp2
   go_ret
   exact ⟨ret_bool (by rw [HCB.out]; have := HA.out; rw [List.take_of_length_le (by rw [HN.out]; omega)] at this; exact this.symm), hb⟩

end Go.Proofs.YtdigmokjedckeaaGreatDoor
namespace Go.Proofs.YtdigmokjedckeaaGreatDoor
open Go.RowKit Go.Deep
set_option linter.unusedVariables false
set_option maxRecDepth 100000

/-- A part is put behind the others, if it is not there, and not 0. -/
def addPb (ps : List (List Int)) (p : List Int) : List (List Int) := if p ∈ ps ∨ p = [0, 0, 0] then ps else ps ++ [p]
def guardsP (ps : List (List Int)) (fs : List Frm) : List (List Int) := fs.foldl (fun ps f => addPb ps (partL f.1)) ps
def rowsP (ps : List (List Int)) (rs : List RowM) : List (List Int) := rs.foldl (fun ps r => guardsP ps r.guards) ps
def actsP (ps : List (List Int)) (ss : List L2V) : List (List Int) := ss.foldl (fun ps s => rowsP ps (rowsL s.x)) ps
def pots3 : List (List Int) := [[1, 0, 0], [0, 1, 0], [0, 0, 1]]
/-- The parts of acts. -/
def catP (ss : List L2V) : List (List Int) := actsP pots3 ss
/-- Some act tells of a pot, or adds by it. -/
def pinsA (ss : List L2V) (v : Nat) : Bool := ss.any fun s => readsR (rowsL s.x) v
theorem foldl_take {α β : Type} (f : β → α → β) (b : β) (xs : List α) (k : Nat) (d : α) (h : k < xs.length) : (xs.take (k + 1)).foldl f b = f ((xs.take k).foldl f b) (xs[k]?.getD d) := by
 rw [List.take_succ_eq_append_getElem h, List.foldl_append, List.getElem?_eq_getElem h]; rfl
theorem guardsP_snoc (ps : List (List Int)) (fs : List Frm) (k : Nat) (h : k < fs.length) : guardsP ps (fs.take (k + 1)) = addPb (guardsP ps (fs.take k)) (partL (fs[k]?.getD ([], [], 0)).1) := foldl_take _ _ _ _ _ h
theorem rowsP_snoc (ps : List (List Int)) (rs : List RowM) (k : Nat) (h : k < rs.length) : rowsP ps (rs.take (k + 1)) = guardsP (rowsP ps (rs.take k)) (rs[k]?.getD noR).guards := foldl_take _ _ _ _ _ h
theorem actsP_snoc (ps : List (List Int)) (ss : List L2V) (k : Nat) (h : k < ss.length) : actsP ps (ss.take (k + 1)) = rowsP (actsP ps (ss.take k)) (rowsL (ss[k]?.getD noL).x) := foldl_take _ _ _ _ _ h
theorem pinsA_snoc (ss : List L2V) (k : Nat) (h : k < ss.length) (v : Nat) : pinsA (ss.take (k + 1)) v = (pinsA (ss.take k) v || readsR (rowsL (ss[k]?.getD noL).x) v) := by
 rw [pinsA, List.take_succ_eq_append_getElem h, List.any_append, List.getElem?_eq_getElem h]
 simp [pinsA]
theorem has_mem (p : List Int) : ∀ (ps : List (List Int)) (k : Nat), (hasFrom p k ps < 0 ↔ p ∉ ps)
 | [], k => by simp [hasFrom]
 | q :: ps, k => by
  rw [hasFrom]
  by_cases e : q = p
  ·subst e; simp [eqB]
  ·have h1 : eqB q p = false := by simp [eqB, e]
   rw [h1]
   have := has_mem p ps (k + 1)
   simp only [Bool.false_eq_true, if_false, this, List.mem_cons, not_or]
   exact ⟨fun h => ⟨fun h2 => e h2.symm, h⟩, fun h => h.2⟩
theorem addP_has {ps : List (List Int)} {p : List Int} (h : ¬ hasFrom p 0 ps < 0) : addPb ps p = ps := by
 rw [has_mem] at h
 rw [addPb, if_pos (.inl (Classical.not_not.1 h))]
theorem addP_zero {ps : List (List Int)} {p : List Int} (h : p = [0, 0, 0]) : addPb ps p = ps := by rw [addPb, if_pos (.inr h)]
theorem addP_new {ps : List (List Int)} {p : List Int} (h : hasFrom p 0 ps < 0) (h2 : p ≠ [0, 0, 0]) : addPb ps p = ps ++ [p] := by
 rw [has_mem] at h
 rw [addPb, if_neg (by rintro (h' | h'); exact h h'; exact h2 h')]

theorem Ints.blkB {w : World} {b off n : Nat} {zs : List Int} (h : Ints w (some ⟨b, off, none⟩) n zs) (hn : 0 < n) : b < w.heap.size := by
 obtain ⟨b', o', e, hc⟩ := h.2 0 hn
 simp only [Option.some.injEq, Addr.mk.injEq, and_true] at e
 obtain ⟨rfl, rfl⟩ := e
 exact block_lt hc
/-- A slice of parts, in memory made since w: no part lies in its block. -/
structure JP (w : World) (G cap : Nat) (ts : List IV) (W : World) : Prop where
 b : Below w.heap.size w W
 o : W.ownsRow w.heap.size 23 1 (.slice (some ⟨G, 0, none⟩) ts.length cap) ts.length (ts.map IV.v)
 k : ∀ j, j < ts.length → (ts[j]?.getD noI).n = 3 ∧ Ints W (ts[j]?.getD noI).a 3 (ts[j]?.getD noI).x ∧ ∀ b o, (ts[j]?.getD noI).a = some ⟨b, o, none⟩ → b ≠ G
theorem JP.nil (w W : World) (hb : Below w.heap.size w W) : JP w W.heap.size 0 [] (W.alloc (.cells #[] 23)) :=
 ⟨hb.alloc hb.size _, World.ownsRow_lit W #[] 0 hb.size (by unfold maxLen; omega) rfl, fun j hj => by simp at hj⟩
theorem JP.below {w W W' : World} {G cap : Nat} {ts : List IV} (j : JP w G cap ts W) (h : Below W.heap.size W W') : JP w G cap ts W' :=
 ⟨j.b.trans (h.mono j.b.size), own_below j.o h, fun i hi => by obtain ⟨a, b, c⟩ := j.k i hi; exact ⟨a, b.below h, c⟩⟩
theorem JP.lt {w W : World} {G cap : Nat} {ts : List IV} (j : JP w G cap ts W) : w.heap.size ≤ G ∧ G < W.heap.size := by
 rcases j.o.2 with ⟨h, _⟩ | ⟨g, cap', cur, h, hg, hh, _⟩
 ·cases h
 ·simp only [Value.slice.injEq, Option.some.injEq, Addr.mk.injEq, and_true, true_and] at h
  obtain ⟨rfl, _⟩ := h
  exact ⟨hg, lt_of_block hh⟩
theorem JP.g {w W : World} {G cap : Nat} {ts : List IV} (j : JP w G cap ts W) : ISG W (some ⟨G, 0, none⟩) ts := fun i hi => by
 obtain ⟨h1, h2, h3⟩ := j.k i hi
 refine ⟨G, 0, rfl, ?_, ?_, by omega⟩
 ·rw [Nat.zero_add, own_cell j.o i (by omega), List.getElem?_map, List.getElem?_eq_getElem hi]; rfl
 ·rw [h1]; exact h2
theorem JP.app {w W W' : World} {G cap g cp k : Nat} {ts : List IV} {s : IV} {o : Obj} (j : JP w G cap ts W) (hk : ts.length = k) (hs : s.n = 3) (hI : Ints W s.a 3 s.x) (hb : ∀ b o, s.a = some ⟨b, o, none⟩ → b ≠ G)
  (hown : W'.ownsRow w.heap.size 23 1 (.slice (some ⟨g, 0, none⟩) (k + 1) cp) (k + 1) (ts.map IV.v ++ [s.v])) (hg : (W.alloc o).grownBy W' (some G)) (hat : g = G ∨ W.heap.size ≤ g) : JP w g cp (ts ++ [s]) W' := by
 subst hk
 have A : Below W.heap.size W (W.alloc o) := (Below.refl _ _).alloc (Nat.le_refl _) _
 have ja := j.below A
 have T : Touch (fun y => y = G) (W.alloc o) W' := ⟨hg.os, hg.tape, hg.output, hg.size, fun z hz hn => hg.block z hz (fun e => hn (by simpa using e))⟩
 have key : ∀ (a : Option Addr) (x : List Int), Ints W a 3 x → (∀ b o, a = some ⟨b, o, none⟩ → b ≠ G) → Ints W' a 3 x ∧ ∀ b o, a = some ⟨b, o, none⟩ → b ≠ g := fun a x h1 h2 => by
  refine ⟨(h1.below A).offC (fun b o e => h2 b o e) T, fun b o e => ?_⟩
  have h3 := h2 b o e
  subst e
  have := h1.blkB (by omega)
  omega
 refine ⟨ja.b.grown hg ja.b.size (fun z hz => ?_), ?_, fun i hi => ?_⟩
 ·have := j.lt
  simp only [Option.some.injEq] at hz
  omega
 ·rw [List.length_append, List.map_append]; exact hown
 ·by_cases h : i < ts.length
  ·rw [List.getElem?_append_left h]
   obtain ⟨a, b, c⟩ := j.k i h
   exact ⟨a, key _ _ b c⟩
  ·rw [List.length_append, List.length_singleton] at hi
   obtain rfl : i = ts.length := by omega
   rw [List.getElem?_append_right (Nat.le_refl _), Nat.sub_self]
   exact ⟨hs, key _ _ hI hb⟩

end Go.Proofs.YtdigmokjedckeaaGreatDoor
namespace Go.Proofs.YtdigmokjedckeaaGreatDoor
open Go.RowKit Go.Deep
open Go.WideMaps (ArrKey)
set_option linter.unusedVariables false
set_option maxRecDepth 100000

abbrev kV (a b c : Int) : Value := .agg #[.int .i64 a, .int .i64 b, .int .i64 c]
abbrev KT : TypeId := 165
theorem arr3 : ArrKey Tryz.prog KT 3 3 := ⟨Tryz.underlying165, by kernel_rfl, by kernel_rfl, by kernel_rfl⟩
theorem law3 : Maps.Keyed Tryz.prog KT := Maps.Keyed.of_law arr3.law
theorem szT : ∃ m, Tryz.prog.types.size = m + 1 := ⟨Tryz.prog.types.size - 1, by have h : (0 : Nat) < Tryz.prog.types.size := of_decide_eq_true (by kernel_rfl); omega⟩
def kL (a b c : Int) : Lit := .string (keyBytes [.int .i64 a, .int .i64 b, .int .i64 c])
theorem keyOf_three {a b c : Int} (wa : (Lit.int .i64 a).wf = true) (wb : (Lit.int .i64 b).wf = true) (wc : (Lit.int .i64 c).wf = true) : keyOf Tryz.prog KT (kV a b c) = some (kL a b c) := by
 have hkt := arr3.keyType szT
 obtain ⟨m, hm⟩ := szT
 unfold keyOf
 simp only [arr3.hu]
 rw [if_pos (by simp [hkt, Value.formed, arr3.hu, arr3.size]), hm]
 unfold Program.keyLits
 simp only [arr3.hu, Value.cells]
 rw [if_pos (by rw [arr3.size]; rfl), show List.range 3 = [0, 1, 2] from rfl, List.mapM_cons, List.mapM_cons, List.mapM_cons, List.mapM_nil]
 simp [arr3.one, Program.keyLits, Tryz.underlying3, wa, wb, wc, kL]
theorem lit_one {m : Nat} {x : Value} {L : List Lit} (h : Tryz.prog.keyLits (m + 1) 3 [x] = some L) : ∃ a, x = .int .i64 a ∧ (Lit.int .i64 a).wf = true ∧ L = [.int .i64 a] := by
 unfold Program.keyLits at h
 simp only [Tryz.underlying3] at h
 split at h
 all_goals first
  | (cases h; done)
  | skip
 all_goals simp_all
theorem inv3 {key : Value} {kl : Lit} (h : keyOf Tryz.prog KT key = some kl) : ∃ a b c, key = kV a b c ∧ kl = kL a b c ∧ (Lit.int .i64 a).wf = true ∧ (Lit.int .i64 b).wf = true ∧ (Lit.int .i64 c).wf = true := by
 obtain ⟨xs, L, rfl, hl, rfl⟩ := keyOf_top arr3.wide h
 obtain ⟨m, hm⟩ := szT
 rw [hm] at hl
 unfold Program.keyLits at hl
 simp only [arr3.hu] at hl
 split at hl
 ·rename_i hlen
  rw [arr3.size] at hlen
  obtain ⟨x, y, z, rfl⟩ : ∃ x y z, xs = #[x, y, z] := by
   match xs, hlen with
   | ⟨[x, y, z]⟩, _ => exact ⟨x, y, z, rfl⟩
  rw [show List.range 3 = [0, 1, 2] from rfl, List.mapM_cons, List.mapM_cons, List.mapM_cons, List.mapM_nil] at hl
  simp only [arr3.one, bind, pure, Option.map_eq_some_iff, Option.bind_eq_some_iff] at hl
  obtain ⟨aa, ⟨l0, h0, l1', ⟨l1, h1, l2', ⟨l2, h2, l3, e3, e2⟩, e1⟩, e0⟩, rfl⟩ := hl
  simp only [Option.some.injEq] at e3 e2 e1 e0
  subst e3 e2 e1 e0
  obtain ⟨a, rfl, wa, rfl⟩ := lit_one (m := m) (x := x) (by simpa using h0)
  obtain ⟨b, rfl, wb, rfl⟩ := lit_one (m := m) (x := y) (by simpa using h1)
  obtain ⟨c, rfl, wc, rfl⟩ := lit_one (m := m) (x := z) (by simpa using h2)
  exact ⟨a, b, c, rfl, rfl, wa, wb, wc⟩
 ·cases hl

/-- A part as a key. -/
def kP (p : List Int) : Lit := kL (p[0]?.getD 0) (p[1]?.getD 0) (p[2]?.getD 0)
def wfP (p : List Int) : Prop := p.length = 3 ∧ ∀ i, i < 3 → (Lit.int .i64 (p[i]?.getD 0)).wf = true
theorem keyOf_P {p : List Int} (h : wfP p) : keyOf Tryz.prog KT (kV (p[0]?.getD 0) (p[1]?.getD 0) (p[2]?.getD 0)) = some (kP p) := keyOf_three (h.2 0 (by omega)) (h.2 1 (by omega)) (h.2 2 (by omega))
theorem three_eq {p : List Int} (h : p.length = 3) : p = [p[0]?.getD 0, p[1]?.getD 0, p[2]?.getD 0] := by
 match p, h with
 | [a, b, c], _ => rfl
theorem kP_inj {p q : List Int} (hp : wfP p) (hq : wfP q) (h : kP p = kP q) : p = q := by
 have := law3.inj (keyOf_P hp) (h ▸ keyOf_P hq)
 simp only [kV, Value.agg.injEq, Array.mk.injEq, List.cons.injEq, Value.int.injEq, true_and, and_true] at this
 obtain ⟨h0, h1, h2⟩ := this
 rw [three_eq hp.1, three_eq hq.1, h0, h1, h2]
theorem wf_wrap (z : Int) : (Lit.int .i64 (wrap64 z)).wf = true := wrap64_wf z
theorem wfP_part {C : List Int} (h : C.length = 3) : wfP (partL C) := by
 refine ⟨by rw [part_len, h], fun i hi => ?_⟩
 rw [partL, mulW_get (by omega)]
 exact wf_wrap _
theorem key_lit (p : List Int) : WideAt.IsKeyLit (kP p) := trivial

/-- What the map of the parts' places holds. -/
structure MapIs (D : DataW Unit) (ps : List (List Int)) : Prop where
 sz : Maps.size D = ps.length
 ix : ∀ j, j < ps.length → ∀ z, D.atKey (kP (ps[j]?.getD [])) z = .lit (.int .i64 j)
 has : ∀ p, wfP p → (Maps.has D (kP p) = true ↔ p ∈ ps)
 wf : ∀ p ∈ ps, wfP p
theorem MapIs.empty : MapIs (.map []) [] := ⟨rfl, fun j hj => by simp at hj, fun p _ => by simp [Maps.has], fun p hp => by simp at hp⟩
theorem MapIs.put {D : DataW Unit} {ps : List (List Int)} {p : List Int} (h : MapIs D ps) (hT : Maps.Tidy D) (hp : wfP p) (hn : p ∉ ps) : MapIs (D.put (kP p) (.lit (.int .i64 (ps.length : Int)))) (ps ++ [p]) := by
 have hno : Maps.has D (kP p) = false := by
  cases hh : Maps.has D (kP p) with
  | false => rfl
  | true => exact absurd ((h.has p hp).1 hh) hn
 refine ⟨?_, fun j hj z => ?_, fun q hq => ?_, fun q hq => ?_⟩
 ·rw [Maps.size_put hT, hno, h.sz]; simp
 ·by_cases e : j < ps.length
  ·have hm : ps[j]?.getD [] ∈ ps := by rw [List.getElem?_eq_getElem e]; exact List.getElem_mem e
   rw [List.getElem?_append_left e, Maps.atKey_put_other (fun e2 => hn (by rw [← kP_inj (h.wf _ hm) hp e2]; exact hm))]
   exact h.ix j e z
  ·rw [List.length_append, List.length_singleton] at hj
   obtain rfl : j = ps.length := by omega
   rw [List.getElem?_append_right (Nat.le_refl _), Nat.sub_self]
   exact Maps.atKey_put_same hT.isMap (key_lit p) _ z
 ·by_cases e : q = p
  ·subst e
   simp [Maps.has_put_same hT.isMap (key_lit q)]
  ·rw [Maps.has_put_other (fun e2 => e (kP_inj hq hp e2)), h.has q hq]
   simp [e]
 ·rcases List.mem_append.1 hq with hq | hq
  ·exact h.wf q hq
  ·simp only [List.mem_cons, List.not_mem_nil, or_false] at hq
   subst hq; exact hp

end Go.Proofs.YtdigmokjedckeaaGreatDoor
namespace Go.Proofs.YtdigmokjedckeaaGreatDoor
open Go.RowKit Go.Deep
set_option linter.unusedVariables false
set_option maxRecDepth 100000

abbrev ET : TypeId := 3
/-- The map of the parts' places. -/
abbrev OwnM (W : World) (B n : Nat) (D : DataW Unit) : Prop := W.ownsMap Tryz.prog KT (plainElem Tryz.prog ET) B n D
theorem OwnM.no {W : World} {B n : Nat} {D : DataW Unit} (h : OwnM W B n D) : ∀ o, W.cell? ⟨B, o, none⟩ = none := fun o => by
 obtain ⟨es, clock, hb, _⟩ := h
 simp [World.cell?, hb]
theorem FormsAt.pastM {W W' : World} {B n : Nat} {D : DataW Unit} {a : Option Addr} {fs : List Frm} (h : FormsAt W a fs) (m : OwnM W B n D) (t : Touch (fun z => z = B) W W') : FormsAt W' a fs :=
 h.past (fun o v hv => by rw [m.no o] at hv; cases hv) t
theorem touch_grownQ {W W' : World} {B : Nat} (h : W.grownBy W' (some B)) : Touch (fun z => z = B) W W' := ⟨h.os, h.tape, h.output, h.size, fun z hz hn => h.block z hz (fun e => hn (by simpa using e))⟩
theorem OwnM.below {W W' : World} {B n : Nat} {D : DataW Unit} (h : OwnM W B n D) (b : Below W.heap.size W W') : OwnM W' B n D := by
 obtain ⟨es, clock, hb, r⟩ := h
 exact ⟨es, clock, (b.block B (lt_of_block hb)).trans hb, r⟩
theorem OwnM.touch {S : Nat → Prop} {W W' : World} {B n : Nat} {D : DataW Unit} (h : OwnM W B n D) (t : Touch S W W') (hn : ¬ S B) : OwnM W' B n D := by
 obtain ⟨es, clock, hb, r⟩ := h
 exact ⟨es, clock, (t.block B (lt_of_block hb) hn).trans hb, r⟩
theorem zeroE (w : World) : (zeroValue ET).run Tryz.prog w = .ok (.int .i64 0) w := by kernel_rfl
theorem three_set {W : World} {P : Nat} {vs : List Value} {t : TypeId} (h : Cel W P vs t) (hl : vs.length = 3) (x y z : Value) : Cel (W.setCells P 0 [x, y, z]) P [x, y, z] t ∧ Touch (fun k => k = P) W (W.setCells P 0 [x, y, z]) := by
 simp only [World.setCells]
 refine ⟨?_, (((Touch.refl (fun k => k = P) W).setCell rfl _).setCell rfl _).setCell rfl _⟩
 have := ((h.set 0 x).set 1 y).set 2 z
 match vs, hl with
 | [a, b, c], _ => exact this

theorem eq3 {p : List Int} (hp : wfP p) (w : World) : ∃ r : Bool, (Op.equalIn 10000 KT (kV (p[0]?.getD 0) (p[1]?.getD 0) (p[2]?.getD 0)) (kV 0 0 0)).run Tryz.prog w = .ok r w ∧ (r = true ↔ p = [0, 0, 0]) := by
 have h0 : wfP [0, 0, 0] := ⟨rfl, fun i hi => by
  match i, hi with
  | 0, _ => rfl
  | 1, _ => rfl
  | 2, _ => rfl⟩
 obtain ⟨r, h1, h2⟩ := run_equal_deep w (m := 2) (by omega) (arr3.at 0) arr3.wide (keyOf_P hp) (keyOf_P h0)
 exact ⟨r, h1, h2.trans ⟨fun h => kP_inj hp h0 h, fun h => by rw [h]⟩⟩

set_option maxHeartbeats 3200000 in
theorem iput_any (B n : Nat) (D : DataW Unit) (ps : List (List Int)) (ad : Option Addr) (N cap : Nat) (fs : List Frm) (w : World) (hm : OwnM w B n D) (hD : MapIs D ps) (hn : n ≤ 1000000000) (hN : fs.length = N) (hF : FormsAt w ad fs) (hfit : ∀ k, k < N → fitX 10000000 (fs[k]?.getD ([], [], 0))) (hN1 : N ≤ 1048576) :
  Calls Tryz.prog 106 #[.map (some B), .slice ad N cap] w fun e w' => (∃ v, e = .returned v) ∧ Touch (fun z => z = B) w w' ∧ ∃ D', OwnM w' B (n + N) D' ∧ MapIs D' (guardsP ps fs) := by
 have HN : Hid (fs.length = N) := hN
 have HF : Hid (FormsAt w ad fs) := hF
 have HFT : Hid _ := hfit
 have HM : Hid (OwnM w B n D) := hm
 have HD : Hid (MapIs D ps) := hD
 have hBw : B < w.heap.size := hm.lt
 clear hN hF hfit hm hD
 go_enter Tryz.func106, Tryz.ntmps106
 go_wp2_with fail
 go_loopw [5, 6, 7, 8, 9, 12] (fun _ _ _ _ _ i wr => ∃ (k : Nat) (D : DataW Unit), k ≤ N ∧ i = .int .i64 k ∧ Touch (fun z => z = B) w wr ∧ OwnM wr B (n + k) D ∧ MapIs D (guardsP ps (fs.take k))) (fun _ _ _ _ _ i _ => N - (intOf i).toNat)
 case atStart => exact ⟨0, D, Nat.zero_le _, rfl, Touch.refl _ _, HM.out, HD.out⟩
 case round =>
  clear HD
  obtain ⟨k, D1, hk, rfl, t, m, d⟩ := hrel
  have HD : Hid (MapIs D1 (guardsP ps (fs.take k))) := d
  clear d
  by_cases hlt : k < N
  ·have hlt' : (k : Int) < N := by omega
   have hkl : k < fs.length := by rw [HN.out]; exact hlt
   have HS : Hid (guardsP ps (fs.take (k + 1)) = addPb (guardsP ps (fs.take k)) (partL (fs[k]?.getD ([], [], 0)).1)) := guardsP_snoc ps fs k hkl
   have HW : Hid (wfP (partL (fs[k]?.getD ([], [], 0)).1)) := wfP_part (HFT.out k hlt).1
   obtain ⟨b, off, rfl, a', c', ca, cc, c0, c1, c2, iC, iD⟩ := (HF.out.pastM HM.out t) k hkl
   generalize (fs[k]?.getD ([], [], 0)).1 = C at *
   generalize (fs[k]?.getD ([], [], 0)).2.2 = kz at *
   generalize guardsP ps (fs.take k) = qs at *
   have lB : B < wr.heap.size := m.lt
   have b1 : Below wr.heap.size wr ((wr.alloc (.cells #[.slice a' 3 ca, .slice c' 2 cc, .int .i64 kz] 98)).alloc (.cells #[.int .i64 0, .int .i64 0, .int .i64 0] KT)) := ((Below.refl _ _).alloc (Nat.le_refl _) _).alloc (by simp) _
   have fb := (Cel.new wr [.slice a' 3 ca, .slice c' 2 cc, .int .i64 kz] 98).alloc (.cells #[.int .i64 0, .int .i64 0, .int .i64 0] KT)
   have pb := Cel.new (wr.alloc (.cells #[.slice a' 3 ca, .slice c' 2 cc, .int .i64 kz] 98)) [.int .i64 0, .int .i64 0, .int .i64 0] KT
   rw [World.size_alloc] at pb
   go_upto_region 4 with fail
   obtain ⟨Z, hZ⟩ : ∃ Z, Z = (wr.alloc (.cells #[.slice a' 3 ca, .slice c' 2 cc, .int .i64 kz] 98)).alloc (.cells #[.int .i64 0, .int .i64 0, .int .i64 0] KT) := ⟨_, rfl⟩
   rw [← hZ] at b1 fb pb ⊢
   clear hZ c0 c1 c2
   have KP : Hid (∀ W, Below Z.heap.size Z W → (W.cell? ⟨wr.heap.size, 0, none⟩ = some (.slice a' 3 ca) ∧ W.cell? ⟨wr.heap.size, 1, none⟩ = some (.slice c' 2 cc) ∧ W.cell? ⟨wr.heap.size, 2, none⟩ = some (.int .i64 kz))) := fun W hW => ⟨(fb.below hW).cell 0, (fb.below hW).cell 1, (fb.below hW).cell 2⟩
   have e0 : Below Z.heap.size Z Z.drew := (Below.refl _ _).drew
   have hSS := And.intro (KP.out _ e0) (True.intro)
   have lP := pb.lt
   refine wp_region_ends (fun w' => w'.cell? ⟨wr.heap.size, 0, none⟩ = some (.slice a' 3 ca) ∧ w'.cell? ⟨wr.heap.size, 1, none⟩ = some (.slice c' 2 cc) ∧ w'.cell? ⟨wr.heap.size, 2, none⟩ = some (.int .i64 kz)) (fun _ => True) 3 (by kernel_rfl) ?_
   refine wpAnyE_take0 (i := 0) (v := ?av0) rfl (by kernel_rfl) (by kernel_rfl) (by kernel_rfl) (by decide) (fun _ _ _ h => h) (Or.inl ⟨by rfl, ?ahy0⟩) hSS ?_
   case ahy0 => (intro wz hSw; (try dsimp only at hSw); go_simp; try (with_reducible rfl))
   refine wpAnyE_take0 (i := 1) (v := ?av1) rfl (by kernel_rfl) (by kernel_rfl) (by kernel_rfl) (by decide) (fun _ _ _ h => h) (Or.inl ⟨by rfl, ?ahy1⟩) hSS ?_
   case ahy1 => (intro wz hSw; (try dsimp only at hSw); go_simp; try (with_reducible rfl))
   simp only [Act.put, List.setIfInBounds_toArray, List.set_cons_succ, List.set_cons_zero, List.getElem_toArray, List.getElem_cons_succ, List.getElem_cons_zero]
   clear hSS
   refine wpAnyE_one (i := 2) (by kernel_rfl) rfl (fun K hK => ?_)
   go_simp
   refine (ipart_any _ 3 _ _ 2 _ _ C _ ((iC.below b1).below e0) (by omega)).mono ?_
   rintro ee w4 ⟨rfl, bd4, k4⟩
   have b4 : Below Z.heap.size Z w4 := e0.trans (bd4.mono e0.size)
   have zd : Z.drew.heap.size = Z.heap.size := rfl
   rw [zd] at k4
   (try dsimp only)
   refine hK.out _ _ ⟨KP.out _ b4, fun _ => trivial⟩ ?_
   clear hK K
   have p4 := pb.below b4
   have hp3 : (partL C).length = 3 := HW.out.1
   have hr : (Builtin.copy_ #[23, 23] 3 #[.slice (some ⟨wr.heap.size + 1, 0, none⟩) 3 3, .slice (some ⟨Z.heap.size + 1, 0, none⟩) 3 3]).run Tryz.prog w4 = .ok (goInt 3) (w4.setCells (wr.heap.size + 1) 0 [.int .i64 ((partL C)[0]?.getD 0), .int .i64 ((partL C)[1]?.getD 0), .int .i64 ((partL C)[2]?.getD 0)]) :=
    run_copy_cells w4 23 23 3 3 (wr.heap.size + 1) 0 3 3 ⟨Z.heap.size + 1, 0, none⟩ 3 3 [.int .i64 ((partL C)[0]?.getD 0), .int .i64 ((partL C)[1]?.getD 0), .int .i64 ((partL C)[2]?.getD 0)] Tryz.underlying23 (by kernel_rfl) rfl
     (fun j v hv => by
      have hadd : (⟨Z.heap.size + 1, 0, none⟩ : Addr).add j = ⟨Z.heap.size + 1, j, none⟩ := by
       by_cases h0 : j = 0
       ·subst h0; simp [Addr.add]
       ·simp [Addr.add, h0]
      rw [hadd]
      match j with
      | 0 => simp only [List.getElem?_cons_zero, Option.some.injEq] at hv; subst hv; rw [k4.cell 0 (by omega), List.getD_eq_getElem?_getD]
      | 1 => simp only [List.getElem?_cons_zero, List.getElem?_cons_succ, Option.some.injEq] at hv; subst hv; rw [k4.cell 1 (by omega), List.getD_eq_getElem?_getD]
      | 2 => simp only [List.getElem?_cons_zero, List.getElem?_cons_succ, Option.some.injEq] at hv; subst hv; rw [k4.cell 2 (by omega), List.getD_eq_getElem?_getD]
      | j + 3 => simp at hv)
     (fun j hj => by
      have hj3 : j < 3 := hj
      rw [Nat.zero_add, p4.cell j]
      match j, hj3 with
      | 0, _ => rfl
      | 1, _ => rfl
      | 2, _ => rfl)
     (fun j hj => by rw [Nat.zero_add]; exact p4.free j)
     (by simp [Value.oneCell'])
   obtain ⟨p5, t5⟩ := three_set p4 rfl (.int .i64 ((partL C)[0]?.getD 0)) (.int .i64 ((partL C)[1]?.getD 0)) (.int .i64 ((partL C)[2]?.getD 0))
   have s4 := b4.size
   have s1 := b1.size
   have m5 : OwnM (w4.setCells (wr.heap.size + 1) 0 [.int .i64 ((partL C)[0]?.getD 0), .int .i64 ((partL C)[1]?.getD 0), .int .i64 ((partL C)[2]?.getD 0)]) B (n + k) D1 := ((m.below b1).below b4).touch t5 (fun h => by have : B = wr.heap.size + 1 := h; omega)
   have T5 : Touch (fun z => z = B) w (w4.setCells (wr.heap.size + 1) 0 [.int .i64 ((partL C)[0]?.getD 0), .int .i64 ((partL C)[1]?.getD 0), .int .i64 ((partL C)[2]?.getD 0)]) := by
    have tw := t.size
    have tb := (t.trans (Touch.of b1)).trans (Touch.of b4)
    refine ⟨t5.os.trans tb.os, t5.tape.trans tb.tape, t5.output.trans tb.output, Nat.le_trans tb.size t5.size, fun z hz hz2 => ?_⟩
    rw [t5.block z (Nat.lt_of_lt_of_le hz tb.size) (by omega)]
    exact tb.block z hz hz2
   have KP5 : (w4.setCells (wr.heap.size + 1) 0 [.int .i64 ((partL C)[0]?.getD 0), .int .i64 ((partL C)[1]?.getD 0), .int .i64 ((partL C)[2]?.getD 0)]).cell? ⟨wr.heap.size, 0, none⟩ = some (.slice a' 3 ca) ∧ (w4.setCells (wr.heap.size + 1) 0 [.int .i64 ((partL C)[0]?.getD 0), .int .i64 ((partL C)[1]?.getD 0), .int .i64 ((partL C)[2]?.getD 0)]).cell? ⟨wr.heap.size, 1, none⟩ = some (.slice c' 2 cc) ∧ (w4.setCells (wr.heap.size + 1) 0 [.int .i64 ((partL C)[0]?.getD 0), .int .i64 ((partL C)[1]?.getD 0), .int .i64 ((partL C)[2]?.getD 0)]).cell? ⟨wr.heap.size, 2, none⟩ = some (.int .i64 kz) := by
    have := fb.below b4
    have := Cel.touch this t5 (fun h => by have : wr.heap.size = wr.heap.size + 1 := h; omega)
    exact ⟨this.cell 0, this.cell 1, this.cell 2⟩
   refine wpAnyE_one (i := 3) (by kernel_rfl) rfl (fun K hK => ?_)
   rw [if_pos (by kernel_rfl)]
   refine Go.Lib.wp_copy_run w4 (.tmp 16) (.tmp 18) 23 23 rfl (.slice (some ⟨wr.heap.size + 1, 0, none⟩) 3 3) (.slice (some ⟨Z.heap.size + 1, 0, none⟩) 3 3) (by rfl) (by rfl) hr ?_
   (try dsimp only)
   refine hK.out _ _ ⟨KP5, fun h => absurd (show true = false from h) (by decide)⟩ ?_
   clear hK K
   refine wpAnyE_done (by kernel_rfl) ?_ _
   generalize w4.setCells (wr.heap.size + 1) 0 [.int .i64 ((partL C)[0]?.getD 0), .int .i64 ((partL C)[1]?.getD 0), .int .i64 ((partL C)[2]?.getD 0)] = w5 at *
   clear KP5 KP hr p4 t5 k4 bd4 b4 pb fb b1 m t iC iD e0 zd
   obtain ⟨g0, g1, g2⟩ : w5.cell? ⟨wr.heap.size + 1, 0, none⟩ = some (.int .i64 ((partL C)[0]?.getD 0)) ∧ w5.cell? ⟨wr.heap.size + 1, 1, none⟩ = some (.int .i64 ((partL C)[1]?.getD 0)) ∧ w5.cell? ⟨wr.heap.size + 1, 2, none⟩ = some (.int .i64 ((partL C)[2]?.getD 0)) := ⟨p5.cell 0, p5.cell 1, p5.cell 2⟩
   obtain ⟨rz, hrz, hrz2⟩ := eq3 HW.out w5
   have HRZ : Hid (rz = true ↔ partL C = [0, 0, 0]) := hrz2
   clear hrz2
   have HKEY : Hid (keyOf Tryz.prog KT (kV ((partL C)[0]?.getD 0) ((partL C)[1]?.getD 0) ((partL C)[2]?.getD 0)) = some (kP (partL C))) := keyOf_P HW.out
   have HP3 : Hid (partL C = [(partL C)[0]?.getD 0, (partL C)[1]?.getD 0, (partL C)[2]?.getD 0]) := three_eq hp3
   generalize hx0 : (partL C)[0]?.getD 0 = x0 at *
   generalize hx1 : (partL C)[1]?.getD 0 = x1 at *
   generalize hx2 : (partL C)[2]?.getD 0 = x2 at *
   clear hx0 hx1 hx2 hp3
   have HSZ : Hid (Maps.size D1 = qs.length) := HD.out.sz
   cases hh : Maps.has D1 (kP (partL C))
   ·have HNI : Hid (partL C ∉ qs) := fun hin => by
     have := (HD.out.has _ HW.out).2 hin
     rw [hh] at this
     cases this
    cases rz
    ·have HNZ : Hid (partL C ≠ [0, 0, 0]) := fun e => by
      have := HRZ.out.2 e
      cases this
     have hszb : Maps.size D1 ≤ n + k := m5.size_le
     have HWF : Hid ((Lit.int .i64 (Maps.size D1 : Int)).wf = true) := WalkArith.wf_i64 (by omega)
     go_wp2_with (first | (at_len; refine wpList_len_own _ rfl (.tmp 20) 157 rfl KT ET Tryz.underlying157 (plainElem Tryz.prog ET) B _ D1 rfl m5 ?_) | (at_lookup; refine wpList_lookup_own_ok_int _ rfl (.tmp 23) (.tmp 24) 157 rfl KT ET .i64 law3 Tryz.underlying157 Tryz.underlying3 (zeroE _) B _ D1 rfl m5 _ _ rfl HKEY.out ?_; intro cq hatq hwq) | (at_mapUpdate; refine wpList_mapUpdate_own _ rfl (.tmp 35) (.tmp 36) (.tmp 37) 157 rfl KT ET law3 Tryz.underlying157 (plainElem Tryz.prog ET) B _ D1 rfl m5 (by unfold maxLen; omega) _ _ _ rfl rfl HKEY.out (.lit (.int .i64 (Maps.size D1))) [] (plainElem_int Tryz.underlying3 HWF.out) ?_; intro w6 hown6 hgrow6))
     have HD6 : Hid (MapIs (D1.put (kP (partL C)) (.lit (.int .i64 (Maps.size D1 : Int)))) (guardsP ps (fs.take (k + 1)))) := by
      have := HD.out.put (m5.tidy law3) HW.out HNI.out
      rw [HSZ.out, HS.out, addPb, if_neg (by rintro (h | h); exact HNI.out h; exact HNZ.out h)]
      exact this
     have T6 := T5.trans (touch_grownQ hgrow6)
     have m6 : OwnM w6 B (n + (k + 1)) _ := hown6
     clear m5 T5 hown6 hgrow6
     go_wp2
     go_roundw
     case rel => exact ⟨k + 1, _, by omega, by go_num, T6, m6, HD6.out⟩
     case measure => simp [intOf]; omega
    ·have HD6 : Hid (MapIs D1 (guardsP ps (fs.take (k + 1)))) := by
      have e : partL C = [0, 0, 0] := HRZ.out.1 rfl
      show MapIs _ _
      rw [HS.out, addP_zero e]
      exact HD.out
     have m6 : OwnM w5 B (n + (k + 1)) D1 := m5.mono (by omega)
     go_wp2_with (first | (at_len; refine wpList_len_own _ rfl (.tmp 20) 157 rfl KT ET Tryz.underlying157 (plainElem Tryz.prog ET) B _ D1 rfl m5 ?_) | (at_lookup; refine wpList_lookup_own_ok_int _ rfl (.tmp 23) (.tmp 24) 157 rfl KT ET .i64 law3 Tryz.underlying157 Tryz.underlying3 (zeroE _) B _ D1 rfl m5 _ _ rfl HKEY.out ?_; intro cq hatq hwq))
     go_roundw
     case rel => exact ⟨k + 1, D1, by omega, by go_num, T5, m6, HD6.out⟩
     case measure => simp [intOf]; omega
   ·have HD6 : Hid (MapIs D1 (guardsP ps (fs.take (k + 1)))) := by
     have e : partL C ∈ qs := (HD.out.has _ HW.out).1 hh
     show MapIs _ _
     rw [HS.out, addPb, if_pos (.inl e)]
     exact HD.out
    have m6 : OwnM w5 B (n + (k + 1)) D1 := m5.mono (by omega)
    go_wp2_with (first | (at_len; refine wpList_len_own _ rfl (.tmp 20) 157 rfl KT ET Tryz.underlying157 (plainElem Tryz.prog ET) B _ D1 rfl m5 ?_) | (at_lookup; refine wpList_lookup_own_ok_int _ rfl (.tmp 23) (.tmp 24) 157 rfl KT ET .i64 law3 Tryz.underlying157 Tryz.underlying3 (zeroE _) B _ D1 rfl m5 _ _ rfl HKEY.out ?_; intro cq hatq hwq))
    go_roundw
    case rel => exact ⟨k + 1, D1, by omega, by go_num, T5, m6, HD6.out⟩
    case measure => simp [intOf]; omega
  ·obtain rfl : k = N := by omega
   have HE : Hid (MapIs D1 (guardsP ps fs)) := by
    have := HD.out
    rw [List.take_of_length_le (by rw [HN.out]; exact Nat.le_refl _)] at this
    exact this
   clear HD
   go_wp2
   go_end0
   exact ⟨⟨_, rfl⟩, t, D1, m, HE.out⟩

end Go.Proofs.YtdigmokjedckeaaGreatDoor
namespace Go.Proofs.YtdigmokjedckeaaGreatDoor
open Go.RowKit Go.Deep
set_option linter.unusedVariables false
set_option maxRecDepth 100000

theorem grown_of_touch {W W' : World} {B : Nat} (h : Touch (fun z => z = B) W W') : W.grownBy W' (some B) := ⟨h.os, h.tape, h.output, h.size, fun z hz hn => h.block z hz (fun e => hn (by rw [e]))⟩
theorem Tryz.infoKey : (Tryz.prog.info? KT).map (fun i => (i.zero, i.size, i.bytes)) = some (some (.agg #[.int .i64 0, .int .i64 0, .int .i64 0]), 3, 24) := by kernel_rfl
/-- The places of block L hold parts. -/
def KeyAt (cur : List Value) (j : Nat) (p : List Int) : Prop := cur[j * 3]? = some (.int .i64 (p[0]?.getD 0)) ∧ cur[j * 3 + 1]? = some (.int .i64 (p[1]?.getD 0)) ∧ cur[j * 3 + 2]? = some (.int .i64 (p[2]?.getD 0))
theorem KeyAt.set_same {cur : List Value} {j : Nat} (p : List Int) (h : j * 3 + 2 < cur.length) : KeyAt (((cur.set (j * 3) (.int .i64 (p[0]?.getD 0))).set (j * 3 + 1) (.int .i64 (p[1]?.getD 0))).set (j * 3 + 2) (.int .i64 (p[2]?.getD 0))) j p := by
 refine ⟨?_, ?_, ?_⟩
 ·rw [List.getElem?_set_ne (by omega), List.getElem?_set_ne (by omega), List.getElem?_set_self (by omega)]
 ·rw [List.getElem?_set_ne (by omega), List.getElem?_set_self (by rw [List.length_set]; omega)]
 ·rw [List.getElem?_set_self (by rw [List.length_set, List.length_set]; omega)]
theorem KeyAt.set_other {cur : List Value} {i j : Nat} {q : List Int} (h : KeyAt cur i q) (hne : i ≠ j) (x y z : Value) : KeyAt (((cur.set (j * 3) x).set (j * 3 + 1) y).set (j * 3 + 2) z) i q := by
 refine ⟨?_, ?_, ?_⟩
 ·rw [List.getElem?_set_ne (by omega), List.getElem?_set_ne (by omega), List.getElem?_set_ne (by omega)]; exact h.1
 ·rw [List.getElem?_set_ne (by omega), List.getElem?_set_ne (by omega), List.getElem?_set_ne (by omega)]; exact h.2.1
 ·rw [List.getElem?_set_ne (by omega), List.getElem?_set_ne (by omega), List.getElem?_set_ne (by omega)]; exact h.2.2
theorem MapIs.idx {D : DataW Unit} {ps : List (List Int)} (h : MapIs D ps) {p : List Int} (hp : wfP p) (hh : Maps.has D (kP p) = true) {c : Int} (hc : ∀ z, D.atKey (kP p) z = .lit (.int .i64 c)) : ∃ j, j < ps.length ∧ ps[j]?.getD [] = p ∧ c = j := by
 obtain ⟨j, hj, e⟩ := List.getElem_of_mem ((h.has p hp).1 hh)
 have e' : ps[j]?.getD [] = p := by rw [List.getElem?_eq_getElem hj]; exact e
 have h1 := h.ix j hj (.lit (.int .i64 0))
 rw [e', hc] at h1
 simp only [DataW.lit.injEq, Lit.int.injEq, true_and] at h1
 exact ⟨j, hj, e', h1⟩
theorem MapIs.one {D : DataW Unit} {ps : List (List Int)} (h : MapIs D ps) {i j : Nat} (hi : i < ps.length) (hj : j < ps.length) (e : kP (ps[i]?.getD []) = kP (ps[j]?.getD [])) : i = j := by
 have h1 := h.ix i hi (.lit (.int .i64 0))
 have h2 := h.ix j hj (.lit (.int .i64 0))
 rw [e, h2] at h1
 simp only [DataW.lit.injEq, Lit.int.injEq, true_and] at h1
 omega

set_option maxHeartbeats 3200000 in
theorem iorder_any (B n : Nat) (D : DataW Unit) (ps : List (List Int)) (w : World) (hm : OwnM w B n D) (hD : MapIs D ps) (hl : ps.length ≤ 1048576) :
  Calls Tryz.prog 109 #[.map (some B)] w fun e w' => ∃ L cur, e = .returned (.slice (some ⟨L, 0, none⟩) ps.length ps.length) ∧ Below w.heap.size w w' ∧ w.heap.size ≤ L ∧ Cel w' L cur KT ∧ ∀ j, j < ps.length → KeyAt cur j (ps[j]?.getD []) := by
 have HD : Hid (MapIs D ps) := hD
 have hsz : Maps.size D = ps.length := hD.sz
 have HSZ : Hid (Maps.size D = ps.length) := hsz
 obtain ⟨N, hN⟩ : ∃ N, N = Maps.size D := ⟨_, rfl⟩
 have HN : Hid (N = Maps.size D) := hN
 have hNl : N ≤ 1048576 := by omega
 have lB := hm.lt
 obtain ⟨i0, hi, hz0, hz1, hz2⟩ := info_parts Tryz.infoKey
 obtain ⟨w2, hrun, o2, g2⟩ := run_make_full (P := Tryz.prog) (w := w) w.heap.size 163 KT i0 (.agg #[.int .i64 0, .int .i64 0, .int .i64 0]) 3 Tryz.underlying163 hi hz0 hz1 .i64 .i64 N (by rw [hz2]; omega) (by unfold maxLen; omega) (Nat.le_refl _)
 have hrun' : (Instr.makeSlice 163 (.int .i64 (N : Int)) (.int .i64 (N : Int))).run Tryz.prog w = .ok (.slice (some ⟨w.heap.size, 0, none⟩) N N) w2 := hrun
 have b2 : Below w.heap.size w w2 := (Below.refl _ _).grown g2 (Nat.le_refl _) (by simp)
 obtain ⟨cur, hc2, hl2⟩ : ∃ cur : List Value, Cel w2 w.heap.size cur KT ∧ N * 3 ≤ cur.length := by
  rcases o2.2 with ⟨e, _⟩ | ⟨g, cp, cur, hv, hg, hh, hl, hc, hs, ht⟩
  ·cases e
  ·cases hv
   exact ⟨cur.toList, by unfold Cel; simpa using hh, by rw [Array.length_toList]; omega⟩
 have m2 : OwnM w2 B n D := OwnM.below hm b2
 have OwnM0 : Hid (OwnM w B n D) := hm
 clear hrun o2 g2 hm hD hsz hN

 go_enter Tryz.func109, Tryz.ntmps109
 go_wp2_with (first | (at_len; refine wpList_len_own _ rfl (.tmp 6) 156 rfl KT ET Tryz.underlying156 (plainElem Tryz.prog ET) B _ D rfl (OwnM0.out) ?_; rw [← HN.out]) | (at_range; refine wpList_range_own _ rfl (.tmp 9) 156 rfl KT ET law3 Tryz.underlying156 (plainElem Tryz.prog ET) B n D rfl m2 ?_; intro w3 hrg3 hg3 hs3))
 go_frame
 have b3 : Below w2.heap.size w2 w3 := (Below.refl _ _).grown hg3 (Nat.le_refl _) (by simp)
 have c3 := hc2.below b3
 have B3 := b2.trans (b3.mono b2.size)
 obtain ⟨L, hL⟩ : ∃ L, L = w.heap.size := ⟨_, rfl⟩
 rw [← hL] at c3 ⊢
 have lL := c3.lt
 have lL0 : w.heap.size ≤ L := by omega
 have s2 := b2.size
 have lr : L < w2.heap.size := by rw [hL]; exact hc2.lt
 obtain ⟨r, hr⟩ : ∃ r, r = w2.heap.size := ⟨_, rfl⟩
 rw [← hr] at hrg3 ⊢
 have lr' : L < r := by omega
 have lB' : B < L := by omega
 clear hrun' hc2 hg3 hs3 m2 b2 b3 hL hr
 go_loopw [4, 5] (fun _ _ wr => ∃ (left : Lit → Bool) (cnt : Nat) (cur : List Value), wr.ranges Tryz.prog KT (plainElem Tryz.prog ET) B r n D left cnt ∧ (∀ kl, left kl = true → Maps.has D kl = true) ∧ Cel wr L cur KT ∧ N * 3 ≤ cur.length ∧ (∀ j, j < ps.length → left (kP (ps[j]?.getD [])) = false → KeyAt cur j (ps[j]?.getD [])) ∧ Below w.heap.size w wr) (fun _ _ wr => wr.rangeLeft B r)
 case atStart =>
  refine ⟨Maps.has D, Maps.size D, cur, hrg3, fun _ h => h, c3, hl2, fun j hj h => ?_, B3⟩
  have hm : ps[j]?.getD [] ∈ ps := by rw [List.getElem?_eq_getElem hj]; exact List.getElem_mem hj
  rw [(HD.out.has _ (HD.out.wf _ hm)).2 hm] at h
  cases h
 case round =>
  clear hrg3 c3 hl2 B3 lL
  clear cur
  obtain ⟨left, cnt, cur, hrg, hsub, hc, hlc, hat, hb⟩ := hrel
  have HSUB : Hid _ := hsub
  have HAT : Hid (∀ j, j < ps.length → left (kP (ps[j]?.getD [])) = false → KeyAt cur j (ps[j]?.getD [])) := hat
  clear hsub hat
  go_wp2_with (at_next; refine wpList_next_ranges (α := Int × Int × Int) (β := Int) _ rfl (.tmp 10) rfl KT law3 (plainElem Tryz.prog ET) (fun x => kV x.1 x.2.1 x.2.2) (fun c => .int .i64 c) (fun key kl h => by obtain ⟨a, b, c, e, _⟩ := inv3 h; exact ⟨(a, b, c), e⟩) (fun v y h => by obtain ⟨c, e, _⟩ := plainElem_int_inv Tryz.underlying3 h; exact ⟨c, e⟩) B r n D left cnt rfl hrg ?_ ?_)
  ·intro h0 hl0
   have HE : Hid (∀ j, j < ps.length → KeyAt cur j (ps[j]?.getD [])) := fun j hj => HAT.out j hj (hl0 _)
   have HNP : Hid (N = ps.length) := HN.out.trans HSZ.out
   go_wp2
   go_ret
   exact ⟨L, cur, by rw [← HNP.out]; rfl, hb, lL0, hc, HE.out⟩
  ·intro x0 x1 x2 c kl yd yp w4 cnt4 hkey hleft hv hat hrg4 hlt4 hg4 hs4 hen
   (try dsimp only at hkey); (try dsimp only at hv); (try dsimp only at hen)
   obtain ⟨j, hj, hpj, hcj⟩ : ∃ j, j < ps.length ∧ ps[j]?.getD [] = [x0, x1, x2] ∧ c = (j : Int) := by
    obtain ⟨a, b, c', e, ek, wa, wb, wc⟩ := inv3 hkey
    simp only [kV, Value.agg.injEq, Array.mk.injEq, List.cons.injEq, Value.int.injEq, true_and, and_true] at e
    obtain ⟨rfl, rfl, rfl⟩ := e
    have hp : wfP [x0, x1, x2] := ⟨rfl, fun i hi => by
     match i, hi with
     | 0, _ => exact wa
     | 1, _ => exact wb
     | 2, _ => exact wc⟩
    obtain ⟨c2, e2, e3, _⟩ := plainElem_int_inv Tryz.underlying3 hv
    cases e2
    simp only [Prod.mk.injEq] at e3
    subst ek
    exact HD.out.idx hp (HSUB.out _ hleft) (fun z => by rw [show kP [x0, x1, x2] = kL x0 x1 x2 from rfl, hat z, e3.1])
   have HKL : Hid (kl = kP (ps[j]?.getD [])) := by
    show kl = _
    obtain ⟨a, b, c', e, ek, _⟩ := inv3 hkey
    simp only [kV, Value.agg.injEq, Array.mk.injEq, List.cons.injEq, Value.int.injEq, true_and, and_true] at e
    obtain ⟨rfl, rfl, rfl⟩ := e
    rw [hpj]; exact ek
   subst hcj
   have hjN : (j : Int) < N := by have h1 := HN.out; have h2 := HSZ.out; omega
   have hj0 : ¬ ((j : Int) < 0) := by omega
   have c4 : Cel w4 L cur KT := hc.touch (touch_grownQ hg4) (fun h => by have : L = r := h; omega)
   have B4 : Below w.heap.size w w4 := hb.trans ((touch_grownQ hg4).below hb.size (fun k hk => by have : k = r := hk; omega))
   have A4 : Below w4.heap.size w4 (w4.alloc (.cells #[.int .i64 x0, .int .i64 x1, .int .i64 x2] KT)) := (Below.refl _ _).alloc (Nat.le_refl _) _
   have rg5 := hrg4.alloc (.cells #[.int .i64 x0, .int .i64 x1, .int .i64 x2] KT)
   have c5 := c4.alloc (.cells #[.int .i64 x0, .int .i64 x1, .int .i64 x2] KT)
   have B5 := B4.trans (A4.mono B4.size)
   have hlj : j * 3 + 2 < cur.length := by have h1 := HN.out; have h2 := HSZ.out; omega
   have hleft' := hrg.left_eq
   have HLE : Hid (wr.rangeLeft B r = cnt) := hleft'
   have kb := Cel.new w4 [.int .i64 x0, .int .i64 x1, .int .i64 x2] KT
   clear hc hb hrg hg4 hs4 hrg4 c4 B4 A4 hleft'
   obtain ⟨q0, q1, q2⟩ : (w4.alloc (.cells #[.int .i64 x0, .int .i64 x1, .int .i64 x2] KT)).cell? ⟨w4.heap.size, 0, none⟩ = some (.int .i64 x0) ∧ (w4.alloc (.cells #[.int .i64 x0, .int .i64 x1, .int .i64 x2] KT)).cell? ⟨w4.heap.size, 1, none⟩ = some (.int .i64 x1) ∧ (w4.alloc (.cells #[.int .i64 x0, .int .i64 x1, .int .i64 x2] KT)).cell? ⟨w4.heap.size, 2, none⟩ = some (.int .i64 x2) := ⟨kb.cell 0, kb.cell 1, kb.cell 2⟩
   have lLw : L < (w4.alloc (.cells #[.int .i64 x0, .int .i64 x1, .int .i64 x2] KT)).heap.size := c5.lt
   obtain ⟨y0, y1, y2⟩ : (∃ v, (w4.alloc (.cells #[.int .i64 x0, .int .i64 x1, .int .i64 x2] KT)).cell? ⟨L, j * 3, none⟩ = some v) ∧ (∃ v, (w4.alloc (.cells #[.int .i64 x0, .int .i64 x1, .int .i64 x2] KT)).cell? ⟨L, j * 3 + 1, none⟩ = some v) ∧ (∃ v, (w4.alloc (.cells #[.int .i64 x0, .int .i64 x1, .int .i64 x2] KT)).cell? ⟨L, j * 3 + 2, none⟩ = some v) := ⟨⟨_, (c5.cell _).trans (List.getElem?_eq_getElem (by omega))⟩, ⟨_, (c5.cell _).trans (List.getElem?_eq_getElem (by omega))⟩, ⟨_, (c5.cell _).trans (List.getElem?_eq_getElem (by omega))⟩⟩
   obtain ⟨v0, y0⟩ := y0
   obtain ⟨v1, y1⟩ := y1
   obtain ⟨v2, y2⟩ := y2
   have z0 := c5.free (j * 3)
   have z1 := c5.free (j * 3 + 1)
   have z2 := c5.free (j * 3 + 2)
   have T6 : Touch (fun z => z = L) (w4.alloc (.cells #[.int .i64 x0, .int .i64 x1, .int .i64 x2] KT)) ((((w4.alloc (.cells #[.int .i64 x0, .int .i64 x1, .int .i64 x2] KT)).setCell ⟨L, j * 3, none⟩ (.int .i64 x0)).setCell ⟨L, j * 3 + 1, none⟩ (.int .i64 x1)).setCell ⟨L, j * 3 + 2, none⟩ (.int .i64 x2)) := Touch.setCell (S := fun z => z = L) (Touch.setCell (S := fun z => z = L) (Touch.setCell (S := fun z => z = L) (Touch.refl _ _) rfl _) rfl _) rfl _
   have c6 := ((c5.set (j * 3) (.int .i64 x0)).set (j * 3 + 1) (.int .i64 x1)).set (j * 3 + 2) (.int .i64 x2)
   have rg6 := rg5.kept (grown_of_touch T6) (by simp; omega) (by simp; omega)
   have B6 := B5.trans (T6.below B5.size (fun k hk => by have : k = L := hk; omega))
   have HAT6 : Hid (∀ i, i < ps.length → (left (kP (ps[i]?.getD [])) && !(kP (ps[i]?.getD [])).sameKey kl) = false → KeyAt (((cur.set (j * 3) (.int .i64 x0)).set (j * 3 + 1) (.int .i64 x1)).set (j * 3 + 2) (.int .i64 x2)) i (ps[i]?.getD [])) := fun i hi hf => by
    by_cases e : i = j
    ·subst e
     rw [hpj]
     exact KeyAt.set_same [x0, x1, x2] hlj
    ·refine KeyAt.set_other (HAT.out i hi ?_) e _ _ _
     cases hlf : left (kP (ps[i]?.getD [])) with
     | false => rfl
     | true =>
      rw [hlf] at hf
      simp only [Bool.true_and, Bool.not_eq_false'] at hf
      have := WideAt.sameKey_eq hf
      rw [HKL.out] at this
      exact absurd (HD.out.one hi hj this) e
   have HSUB6 : Hid (∀ z, (left z && !z.sameKey kl) = true → Maps.has D z = true) := fun z hz => by
    simp only [Bool.and_eq_true] at hz
    exact HSUB.out z hz.1
   have HLC : Hid (N * 3 ≤ (((cur.set (j * 3) (.int .i64 x0)).set (j * 3 + 1) (.int .i64 x1)).set (j * 3 + 2) (.int .i64 x2)).length) := by show _ ≤ _; simpa using hlc
   clear c5 B5 rg5 T6 HKL hpj
   go_wp2
   go_roundw
   case rel => exact ⟨_, cnt4, _, rg6, HSUB6.out, c6, HLC.out, HAT6.out, B6⟩
   case measure => rw [rg6.left_eq, HLE.out]; omega

end Go.Proofs.YtdigmokjedckeaaGreatDoor
