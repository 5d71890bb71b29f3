/-
  All ways through steps, as the program walks them and tells them (rowWalk.from): at an end.
-/
import Derived.Test.YthhfjodggmmcoaaWayK2
import Derived.Shelf.Abstract
import Derived.Shelf.RegionOpen
import Derived.WalkKit
import Derived.OwnWalkIn
import Derived.TacticsInMore
import Derived.LoopNIn
import Derived.LoopIn
namespace Go.Proofs.Ythhfjodggmmcoaa
open Go.RowKit Go.Deep Go.Shelf
set_option linter.unusedVariables false
set_option maxRecDepth 100000
attribute [local go_sem] Oper.semAt_some

abbrev walkV (l : Nat) (sa : Option Addr) (N sc : Nat) : Value := .agg #[.slice sa N sc, .func (.yield l) #[] #[]]
/-- What a round answers, handed a row that lies in memory made since n₀. -/
def Rounds (l n₀ : Nat) (J : List RowM → World → Prop) : Prop := ∀ (m : Nat) (pre : List RowM) (v : Value) (r : RowM) (X : World), J pre X → RowFit r → RowX X n₀ v r → YieldAt Fence.wide m Try.prog l #[v] X fun e Y => e = .returned (.bool true) ∧ J (pre ++ [r]) Y ∧ KpR X Y

set_option maxHeartbeats 3200000 in
theorem from_end (l n₀ : Nat) (J : List RowM → World → Prop) (hJ : ∀ pre X Y, J pre X → Below X.heap.size X Y → J pre Y) (hY : Rounds l n₀ J) (sa : Option Addr) (N sc : Nat) (i0 : Nat) (hi : N ≤ i0) (hi1 : i0 ≤ 12) (y : Way) (pa : Option Addr) (cp : Nat) (ga : Option Addr) (ng gc : Nat) (ta : Option Addr) (nt tc : Nat) (st : Bool) (q : RowM) (pre : List RowM) (W : World) (n : Nat) (hn0 : n₀ ≤ W.heap.size) (h0 : J pre W) (hq : RowFit q)
    (hrow : ∀ X, Below W.heap.size W X → Calls Try.prog 121 #[wayV ga ng gc pa cp ta nt tc st] X fun e X' => ∃ v, e = .returned v ∧ Below X.heap.size X X' ∧ RowX X' X.heap.size v q) :
    CallsIn Fence.wide n Try.prog 107 #[walkV l sa N sc, .int .i64 (i0 : Int), wayV ga ng gc pa cp ta nt tc st] W fun e W' => e = .returned (.bool true) ∧ J (pre ++ [q]) W' ∧ KpR W W' := by
  have hge : (N : Int) ≤ i0 := by omega
  have A : Below W.heap.size W ((W.alloc (.cells #[.slice sa N sc, .func (.yield l) #[] #[]] 148)).alloc (.cells #[.slice ga ng gc, .slice pa 3 cp, .slice ta nt tc, .bool st] 151)) := ((Below.refl _ _).alloc (Nat.le_refl _) _).alloc (by simp) _
  have x0 := (Cel.new W [.slice sa N sc, .func (.yield l) #[] #[]] 148).alloc (.cells #[.slice ga ng gc, .slice pa 3 cp, .slice ta nt tc, .bool st] 151)
  have y0 := Cel.new (W.alloc (.cells #[.slice sa N sc, .func (.yield l) #[] #[]] 148)) [.slice ga ng gc, .slice pa 3 cp, .slice ta nt tc, .bool st] 151
  rw [World.size_alloc] at y0
  refine callsIn_of_wp Try.func107 rfl trivial ?_ rfl
  simp only [Try.ntmps107, List.size_toArray, List.length_cons, List.length_nil, Nat.reduceAdd, Nat.reduceSub, Array.replicate_succ, Array.replicate_zero, List.push_toArray, List.append_toArray, List.nil_append, List.cons_append]
  gi_wp2_with fail
  obtain ⟨W0, hW0⟩ : ∃ W0, W0 = (W.alloc (.cells #[.slice sa N sc, .func (.yield l) #[] #[]] 148)).alloc (.cells #[.slice ga ng gc, .slice pa 3 cp, .slice ta nt tc, .bool st] 151) := ⟨_, rfl⟩
  rw [← hW0] at A x0 y0 ⊢
  clear hW0
  have KP : Hid (∀ X, KpR W0 X → ((X.cell? ⟨W.heap.size, 0, none⟩ = some (.slice sa N sc) ∧ X.cell? ⟨W.heap.size, 1, none⟩ = some (.func (.yield l) #[] #[])) ∧ (X.cell? ⟨W.heap.size + 1, 0, none⟩ = some (.slice ga ng gc) ∧ X.cell? ⟨W.heap.size + 1, 1, none⟩ = some (.slice pa 3 cp) ∧ X.cell? ⟨W.heap.size + 1, 2, none⟩ = some (.slice ta nt tc) ∧ X.cell? ⟨W.heap.size + 1, 3, none⟩ = some (.bool st)))) := fun X hX => by
    have a1 := x0.keepR hX (by decide) (by decide)
    have a2 := y0.keepR hX (by decide) (by decide)
    exact ⟨⟨a1.cell 0, a1.cell 1⟩, a2.four⟩
  have e0 : Below W0.heap.size W0 W0.drew := (Below.refl _ _).drew
  have hSS := KP.out _ (KpR.of e0)
  refine wpIn_region_S (fun w' => (w'.cell? ⟨W.heap.size, 0, none⟩ = some (.slice sa N sc) ∧ w'.cell? ⟨W.heap.size, 1, none⟩ = some (.func (.yield l) #[] #[])) ∧ (w'.cell? ⟨W.heap.size + 1, 0, none⟩ = some (.slice ga ng gc) ∧ w'.cell? ⟨W.heap.size + 1, 1, none⟩ = some (.slice pa 3 cp) ∧ w'.cell? ⟨W.heap.size + 1, 2, none⟩ = some (.slice ta nt tc) ∧ w'.cell? ⟨W.heap.size + 1, 3, none⟩ = some (.bool st))) (by kernel_rfl) ?_
  refine wpAnyS_take (i := 0) (v := ?v0) rfl rfl (by kernel_rfl) (by kernel_rfl) (by kernel_rfl) (fun _ _ _ h => h) (Or.inl ⟨by rfl, ?y0⟩) (fun _ => rfl) hSS ?_
  case y0 => (intro wz hSw; (try dsimp only at hSw); go_simp; try (with_reducible rfl))
  refine wpAnyS_take (i := 1) (v := ?v1) rfl rfl (by kernel_rfl) (by kernel_rfl) (by kernel_rfl) (fun _ _ _ h => h) (Or.inl ⟨by rfl, ?y1⟩) (fun _ => rfl) hSS ?_
  case y1 => (intro wz hSw; (try dsimp only at hSw); go_simp; try (with_reducible rfl))
  refine wpAnyS_take (i := 2) (v := ?v2) rfl rfl (by kernel_rfl) (by kernel_rfl) (by kernel_rfl) (fun _ _ _ h => h) (Or.inl ⟨by rfl, ?y2⟩) (fun _ => rfl) hSS ?_
  case y2 => (intro wz hSw; (try dsimp only at hSw); go_simp; try (with_reducible rfl))
  clear hSS
  refine wpAnyS_one (i := 3) (by kernel_rfl) rfl (fun K hK => ?_)
  go_simp
  refine ⟨trivial, fun h => by simp [Fence.wide] at h, (callsIn_wide.2 (hrow _ (A.trans (e0.mono A.size)))).mono ?_⟩
  rintro e w1 ⟨v, rfl, bd1, rx⟩
  have b1 : Below W0.heap.size W0 w1 := below_of_drew bd1
  have hS1 := KP.out _ (KpR.of b1)
  have J1 := hJ _ _ _ h0 (A.trans (b1.mono A.size))
  have sA := A.size
  have rx' : RowX w1 n₀ v q := by
    obtain ⟨ga', gc', aa, ac, ta', tc', e, f0, f1, f2⟩ := rx
    have hs : n₀ ≤ W0.drew.heap.size := by show n₀ ≤ W0.heap.size; omega
    exact ⟨ga', gc', aa, ac, ta', tc', e, f0.mono (fun k hk => by omega), f1.mono (fun k hk => by omega), f2.mono (fun k hk => by omega)⟩
  (try dsimp only)
  refine hK.out _ _ hS1 ?_
  clear hK K bd1 rx
  obtain ⟨fn, tmps, assign, body, hy, hR⟩ := hY (n - 1) pre v q w1 J1 hq rx'
  refine wpAnyS_one (i := 4) (by kernel_rfl) rfl (fun K hK => ?_)
  go_simp
  refine ⟨fun h => by simp [Fence.wide] at h, hR.mono ?_⟩
  rintro e w2 ⟨rfl, J2, k2⟩
  have K2 := (KpR.of b1).trans k2
  have hS2 := KP.out _ K2
  (try dsimp only)
  refine hK.out _ _ hS2 ?_
  clear hK K hR hy
  refine wpAnyS_one (i := 5) (by kernel_rfl) rfl (fun K hK => ?_)
  go_simp
  refine hK.out _ _ hS2 ?_
  clear hK K
  refine wpAnyS_done (by kernel_rfl) ?_ _
  have KK := (KpR.of A).trans K2
  clear KP hS1 hS2 x0 y0
  gi_wp2
  go_ret
  exact ⟨rfl, J2, KK⟩

end Go.Proofs.Ythhfjodggmmcoaa
