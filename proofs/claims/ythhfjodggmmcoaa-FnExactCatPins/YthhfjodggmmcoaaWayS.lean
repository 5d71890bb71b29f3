/-
  One step on (rowWalk.from), where it is known what comes of it.
-/
import Derived.Test.YthhfjodggmmcoaaWayQ
namespace Go.Proofs.Ythhfjodggmmcoaa
open Go.RowKit Go.Deep Go.Shelf
set_option linter.unusedVariables false
set_option maxRecDepth 100000
attribute [local go_sem] Oper.semAt_some

set_option maxHeartbeats 6400000 in
theorem from_step (l : Nat) (SG N sc i0 : Nat) (hlt : i0 < N) (hi1 : i0 ≤ 12) (ga : Option Addr) (ng gc : Nat) (pa : Option Addr) (cp : Nat) (ta : Option Addr) (nt tc : Nat) (ty : TypeId) (sv : Value) (cur : List Value) (J : World → Prop) (W : World) (n : Nat) (hC : Cel W SG cur 160) (hv : cur[i0]? = some (.iface ty sv))
    (hpast : ∀ X m, Below W.heap.size W X → CallsIn Fence.wide m Try.prog 122 #[wayV ga ng gc pa cp ta nt tc false, .iface ty sv, .int .i64 ((i0 : Int) + 1), goV l (some ⟨SG, 0, none⟩) N sc] X fun e Y => e = .returned (.bool true) ∧ J Y ∧ KpR X Y) :
    CallsIn Fence.wide n Try.prog 107 #[walkV l (some ⟨SG, 0, none⟩) N sc, .int .i64 (i0 : Int), wayV ga ng gc pa cp ta nt tc false] W fun e Y => e = .returned (.bool true) ∧ J Y ∧ KpR W Y := by
  have hdd : ∀ k : Nat, (Fence.wide.depth.isSome = true → 1 ≤ k) := fun k h => by simp [Fence.wide] at h
  have hge : ¬ ((N : Int) ≤ i0) := by omega
  have hlt' : (i0 : Int) < N := by omega
  have hw : IntKind.i64.wrap ((i0 : Int) + 1) = (i0 : Int) + 1 := wrap_id (by omega) (by omega)
  have A : Below W.heap.size W ((W.alloc (.cells #[.slice (some ⟨SG, 0, none⟩) N sc, .func (.yield l) #[] #[]] 148)).alloc (.cells #[.slice ga ng gc, .slice pa 3 cp, .slice ta nt tc, .bool false] 151)) := ((Below.refl _ _).alloc (Nat.le_refl _) _).alloc (by simp) _
  have x0 := (Cel.new W [.slice (some ⟨SG, 0, none⟩) N sc, .func (.yield l) #[] #[]] 148).alloc (.cells #[.slice ga ng gc, .slice pa 3 cp, .slice ta nt tc, .bool false] 151)
  have y0 := Cel.new (W.alloc (.cells #[.slice (some ⟨SG, 0, none⟩) N sc, .func (.yield l) #[] #[]] 148)) [.slice ga ng gc, .slice pa 3 cp, .slice ta nt tc, .bool false] 151
  rw [World.size_alloc] at y0
  have s0 := hC.below A
  refine callsIn_of_wp Try.func107 rfl trivial ?_ rfl
  simp only [Try.ntmps107, List.size_toArray, List.length_cons, List.length_nil, Nat.reduceAdd, Nat.reduceSub, Array.replicate_succ, Array.replicate_zero, List.push_toArray, List.append_toArray, List.nil_append, List.cons_append]
  gi_wp2_with fail
  obtain ⟨W0, hW0⟩ : ∃ W0, W0 = (W.alloc (.cells #[.slice (some ⟨SG, 0, none⟩) N sc, .func (.yield l) #[] #[]] 148)).alloc (.cells #[.slice ga ng gc, .slice pa 3 cp, .slice ta nt tc, .bool false] 151) := ⟨_, rfl⟩
  rw [← hW0] at A x0 y0 s0 ⊢
  clear hW0
  have KP : Hid (∀ X, KpR W0 X → ((X.cell? ⟨W.heap.size, 0, none⟩ = some (.slice (some ⟨SG, 0, none⟩) N sc) ∧ X.cell? ⟨W.heap.size, 1, none⟩ = some (.func (.yield l) #[] #[])) ∧ (X.cell? ⟨W.heap.size + 1, 0, none⟩ = some (.slice ga ng gc) ∧ X.cell? ⟨W.heap.size + 1, 1, none⟩ = some (.slice pa 3 cp) ∧ X.cell? ⟨W.heap.size + 1, 2, none⟩ = some (.slice ta nt tc) ∧ X.cell? ⟨W.heap.size + 1, 3, none⟩ = some (.bool false)) ∧ X.cell? ⟨SG, i0, none⟩ = some (.iface ty sv))) := fun X hX => by
    have a1 := x0.keepR hX (by decide) (by decide)
    have a2 := y0.keepR hX (by decide) (by decide)
    have a3 := s0.keepR hX (by decide) (by decide)
    exact ⟨⟨a1.cell 0, a1.cell 1⟩, a2.four, (a3.cell i0).trans hv⟩
  have e0 : Below W0.heap.size W0 W0.drew := (Below.refl _ _).drew
  have hSS := KP.out _ (KpR.of e0)
  have HP : Hid _ := hpast _ (n - 1) (A.trans (e0.mono A.size))
  clear x0 y0 s0 hpast
  refine wpIn_region_S (fun w' => (w'.cell? ⟨W.heap.size, 0, none⟩ = some (.slice (some ⟨SG, 0, none⟩) N sc) ∧ w'.cell? ⟨W.heap.size, 1, none⟩ = some (.func (.yield l) #[] #[])) ∧ (w'.cell? ⟨W.heap.size + 1, 0, none⟩ = some (.slice ga ng gc) ∧ w'.cell? ⟨W.heap.size + 1, 1, none⟩ = some (.slice pa 3 cp) ∧ w'.cell? ⟨W.heap.size + 1, 2, none⟩ = some (.slice ta nt tc) ∧ w'.cell? ⟨W.heap.size + 1, 3, none⟩ = some (.bool false)) ∧ w'.cell? ⟨SG, i0, none⟩ = some (.iface ty sv)) (by kernel_rfl) ?_
  refine wpAnyS_take (i := 0) (v := ?v0) rfl rfl (by kernel_rfl) (by kernel_rfl) (by kernel_rfl) (fun _ _ _ h => h) (Or.inl ⟨by rfl, ?y0⟩) (fun _ => rfl) hSS ?_
  case y0 => (intro wz hSw; (try dsimp only at hSw); go_simp; try (with_reducible rfl))
  refine wpAnyS_take (i := 1) (v := ?v1) rfl rfl (by kernel_rfl) (by kernel_rfl) (by kernel_rfl) (fun _ _ _ h => h) (Or.inl ⟨by rfl, ?y1⟩) (fun _ => rfl) hSS ?_
  case y1 => (intro wz hSw; (try dsimp only at hSw); go_simp; try (with_reducible rfl))
  refine wpAnyS_take (i := 2) (v := ?v2) rfl rfl (by kernel_rfl) (by kernel_rfl) (by kernel_rfl) (fun _ _ _ h => h) (Or.inl ⟨by rfl, ?y2⟩) (fun _ => rfl) hSS ?_
  case y2 => (intro wz hSw; (try dsimp only at hSw); go_simp; try (with_reducible rfl))
  refine wpAnyS_take (i := 3) (v := ?v3) rfl rfl (by kernel_rfl) (by kernel_rfl) (by kernel_rfl) (fun _ _ _ h => h) (Or.inl ⟨by rfl, ?y3⟩) (fun _ => rfl) hSS ?_
  case y3 => (intro wz hSw; (try dsimp only at hSw); go_simp; try (with_reducible rfl))
  refine wpAnyS_take (i := 4) (v := ?v4) rfl rfl (by kernel_rfl) (by kernel_rfl) (by kernel_rfl) (fun _ _ _ h => h) (Or.inl ⟨by rfl, ?y4⟩) (fun _ => rfl) hSS ?_
  case y4 => (intro wz hSw; (try dsimp only at hSw); go_simp; try (with_reducible rfl))
  refine wpAnyS_take (i := 5) (v := ?v5) rfl rfl (by kernel_rfl) (by kernel_rfl) (by kernel_rfl) (fun _ _ _ h => h) (Or.inl ⟨by rfl, ?y5⟩) (fun _ => rfl) hSS ?_
  case y5 => (intro wz hSw; (try dsimp only at hSw); go_simp; try (with_reducible rfl))
  refine wpAnyS_take (i := 6) (v := ?v6) rfl rfl (by kernel_rfl) (by kernel_rfl) (by kernel_rfl) (fun _ _ _ h => h) (Or.inl ⟨by rfl, ?y6⟩) (fun _ => rfl) hSS ?_
  case y6 => (intro wz hSw; (try dsimp only at hSw); go_simp; try (with_reducible rfl))
  refine wpAnyS_take (i := 7) (v := ?v7) rfl rfl (by kernel_rfl) (by kernel_rfl) (by kernel_rfl) (fun _ _ _ h => h) (Or.inl ⟨by rfl, ?y7⟩) (fun _ => rfl) hSS ?_
  case y7 => (intro wz hSw; (try dsimp only at hSw); go_simp; try (with_reducible rfl))
  refine wpAnyS_take (i := 8) (v := ?v8) rfl rfl (by kernel_rfl) (by kernel_rfl) (by kernel_rfl) (fun _ _ _ h => h) (Or.inl ⟨by rfl, ?y8⟩) (fun _ => rfl) hSS ?_
  case y8 => (intro wz hSw; (try dsimp only at hSw); go_simp; try (with_reducible rfl))
  refine wpAnyS_take (i := 9) (v := ?v9) rfl rfl (by kernel_rfl) (by kernel_rfl) (by kernel_rfl) (fun _ _ _ h => h) (Or.inl ⟨by rfl, ?y9⟩) (fun _ => rfl) hSS ?_
  case y9 => (intro wz hSw; (try dsimp only at hSw); go_simp; try (with_reducible rfl))
  clear hSS
  refine wpAnyS_one (i := 10) (by kernel_rfl) rfl (fun K hK => ?_)
  go_simp
  refine ⟨trivial, hdd _, CallsIn.mono HP.out ?_⟩
  rintro e w1 ⟨rfl, j1, k1⟩
  have K1 : KpR W0 w1 := (KpR.of e0).trans k1
  have KK := (KpR.of A).trans K1
  (try dsimp only)
  refine hK.out _ _ (KP.out _ K1) ?_
  clear hK K HP
  refine wpAnyS_one (i := 11) (by kernel_rfl) rfl (fun K hK => ?_)
  go_simp
  refine hK.out _ _ (KP.out _ K1) ?_
  clear hK K
  refine wpAnyS_done (by kernel_rfl) ?_ _
  clear KP
  gi_wp2
  go_ret
  exact ⟨rfl, j1, KK⟩

end Go.Proofs.Ythhfjodggmmcoaa
