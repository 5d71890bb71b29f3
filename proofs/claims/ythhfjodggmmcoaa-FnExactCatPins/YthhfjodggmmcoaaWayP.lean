/-
  Behind a step (rowWay.past), where it is known what comes of going on.
-/
import Derived.Test.YthhfjodggmmcoaaWayF
namespace Go.Proofs.Ythhfjodggmmcoaa
open Go.RowKit Go.Deep Go.Shelf
set_option linter.unusedVariables false
set_option maxRecDepth 100000
attribute [local go_sem] Oper.semAt_some

abbrev goV (l : Nat) (sa : Option Addr) (N sc : Nat) : Value := .func (.func 107) #[walkV l sa N sc] #[]
/-- What comes of going on, from X on. -/
def GoesOn (l : Nat) (sa : Option Addr) (N sc : Nat) (i : Int) (v : Value) (J : World → Prop) (X : World) : Prop := ∀ m, CallsIn Fence.wide m Try.prog 107 #[walkV l sa N sc, .int .i64 i, v] X fun e Y => e = .returned (.bool true) ∧ J Y ∧ KpR X Y

theorem is_test_test (v : Value) (w : World) : (Instr.typeAssert (.iface 168 v) 160 168 true).run Try.prog w = .ok (.tuple #[v, .bool true]) w := by kernel_rfl
theorem is_test_add (v : Value) (w : World) : (Instr.typeAssert (.iface 168 v) 160 170 true).run Try.prog w = .ok (.tuple #[.agg #[.int .i64 0, .slice none 0 0, .slice none 0 0, .int .i64 0], .bool false]) w := by kernel_rfl
theorem is_test_print (v : Value) (w : World) : (Instr.typeAssert (.iface 168 v) 160 172 true).run Try.prog w = .ok (.tuple #[.agg #[.slice none 0 0, .slice none 0 0, .int .i64 0], .bool false]) w := by kernel_rfl
theorem is_add_test (v : Value) (w : World) : (Instr.typeAssert (.iface 170 v) 160 168 true).run Try.prog w = .ok (.tuple #[.agg #[.int .i64 0, .slice none 0 0, .slice none 0 0, .int .i64 0], .bool false]) w := by kernel_rfl
theorem is_add_add (v : Value) (w : World) : (Instr.typeAssert (.iface 170 v) 160 170 true).run Try.prog w = .ok (.tuple #[v, .bool true]) w := by kernel_rfl
theorem is_add_print (v : Value) (w : World) : (Instr.typeAssert (.iface 170 v) 160 172 true).run Try.prog w = .ok (.tuple #[.agg #[.slice none 0 0, .slice none 0 0, .int .i64 0], .bool false]) w := by kernel_rfl
theorem is_print_test (v : Value) (w : World) : (Instr.typeAssert (.iface 172 v) 160 168 true).run Try.prog w = .ok (.tuple #[.agg #[.int .i64 0, .slice none 0 0, .slice none 0 0, .int .i64 0], .bool false]) w := by kernel_rfl
theorem is_print_add (v : Value) (w : World) : (Instr.typeAssert (.iface 172 v) 160 170 true).run Try.prog w = .ok (.tuple #[.agg #[.int .i64 0, .slice none 0 0, .slice none 0 0, .int .i64 0], .bool false]) w := by kernel_rfl
theorem is_print_print (v : Value) (w : World) : (Instr.typeAssert (.iface 172 v) 160 172 true).run Try.prog w = .ok (.tuple #[v, .bool true]) w := by kernel_rfl
theorem is_stop_test (v : Value) (w : World) : (Instr.typeAssert (.iface 174 v) 160 168 true).run Try.prog w = .ok (.tuple #[.agg #[.int .i64 0, .slice none 0 0, .slice none 0 0, .int .i64 0], .bool false]) w := by kernel_rfl
theorem is_stop_add (v : Value) (w : World) : (Instr.typeAssert (.iface 174 v) 160 170 true).run Try.prog w = .ok (.tuple #[.agg #[.int .i64 0, .slice none 0 0, .slice none 0 0, .int .i64 0], .bool false]) w := by kernel_rfl
theorem is_stop_print (v : Value) (w : World) : (Instr.typeAssert (.iface 174 v) 160 172 true).run Try.prog w = .ok (.tuple #[.agg #[.slice none 0 0, .slice none 0 0, .int .i64 0], .bool false]) w := by kernel_rfl

set_option maxHeartbeats 3200000 in
theorem past_stop (l : Nat) (sa : Option Addr) (N sc : Nat) (nx : Int) (ga : Option Addr) (ng gc : Nat) (pa : Option Addr) (cp : Nat) (ta : Option Addr) (nt tc : Nat) (J : World → Prop) (W : World) (n : Nat)
    (hgo : ∀ X, Below W.heap.size W X → GoesOn l sa N sc 6 (wayV ga ng gc pa cp ta nt tc true) J X) :
    CallsIn Fence.wide n Try.prog 122 #[wayV ga ng gc pa cp ta nt tc false, .iface 174 (.agg #[]), .int .i64 nx, goV l sa N sc] W fun e Y => e = .returned (.bool true) ∧ J Y ∧ KpR W Y := by
  have hdd : ∀ k : Nat, (Fence.wide.depth.isSome = true → 1 ≤ k) := fun k h => by simp [Fence.wide] at h
  refine callsIn_of_wp Try.func122 rfl trivial ?_ rfl
  simp only [Try.ntmps122, List.size_toArray, List.length_cons, List.length_nil, Nat.reduceAdd, Nat.reduceSub, Array.replicate_succ, Array.replicate_zero, List.push_toArray, List.append_toArray, List.nil_append, List.cons_append]
  have t1 := is_stop_test
  have t2 := is_stop_add
  have t3 := is_stop_print
  have A : Below W.heap.size W (W.alloc (.cells #[.slice ga ng gc, .slice pa 3 cp, .slice ta nt tc, .bool true] 151)) := (Below.refl _ _).alloc (Nat.le_refl _) _
  have hc := hgo _ A
  gi_wp2_with fail
  refine ⟨trivial, hdd _, (hc _).mono ?_⟩
  rintro e w1 ⟨rfl, j1, k1⟩
  have kk := (KpR.of A).trans k1
  clear hc
  gi_wp2
  go_ret
  exact ⟨rfl, j1, kk⟩

set_option maxHeartbeats 6400000 in
theorem past_print (l : Nat) (sa : Option Addr) (N sc : Nat) (nx : Int) (i : Nat) (y : Way) (hy : WayOk i y) (h6 : i ≤ 5) (g : FV) (hs : smallB g.n g.m g.C g.D g.K = true) (ga : Option Addr) (ng gc : Nat) (pa : Option Addr) (cp : Nat) (ta : Option Addr) (nt tc : Nat) (J : World → Prop) (W : World) (n : Nat) (hA : g.At W) (hP : FormsAt W pa y.pots) (hT : FormsAt W ta y.tells) (htl : y.tells.length = nt)
    (hgo : ∀ X ta' tc', Below W.heap.size W X → FormsAt X ta' (y.tells ++ [intoX g y.pots]) → GoesOn l sa N sc nx (wayV ga ng gc pa cp ta' (nt + 1) tc' false) J X) :
    CallsIn Fence.wide n Try.prog 122 #[wayV ga ng gc pa cp ta nt tc false, .iface 172 (.agg #[.slice g.a g.n g.cap, .slice g.c g.m g.cap', .int .i64 g.K]), .int .i64 nx, goV l sa N sc] W fun e Y => e = .returned (.bool true) ∧ J Y ∧ KpR W Y := by
  have hdd : ∀ k : Nat, (Fence.wide.depth.isSome = true → 1 ≤ k) := fun k h => by simp [Fence.wide] at h
  obtain ⟨fit1, fit2, -⟩ := hy.into (by omega) (f := g) hs hA.D.1
  have HF1 : Hid _ := fit1
  have HF2 : Hid _ := fit2
  have HY : Hid (WayOk i y) := hy
  have HTL : Hid (y.tells.length = nt) := htl
  have nt1 : nt ≤ 100 := by have := hy.tl; omega
  obtain ⟨FX, hFX⟩ : ∃ FX, FX = intoX g y.pots := ⟨_, rfl⟩
  have HFX : Hid (intoX g y.pots = FX) := hFX.symm
  have lXC := fit2.c
  have lXD := fit2.d
  rw [← hFX] at lXC lXD
  clear fit1 fit2 hy htl hFX
  have A0 : Below W.heap.size W ((W.alloc (.cells #[.slice ga ng gc, .slice pa 3 cp, .slice ta nt tc, .bool false] 151)).alloc (.cells #[.slice g.a g.n g.cap, .slice g.c g.m g.cap', .int .i64 g.K] 172)) := ((Below.refl _ _).alloc (Nat.le_refl _) _).alloc (by simp) _
  have x0 := (Cel.new W [.slice ga ng gc, .slice pa 3 cp, .slice ta nt tc, .bool false] 151).alloc (.cells #[.slice g.a g.n g.cap, .slice g.c g.m g.cap', .int .i64 g.K] 172)
  have y0 := Cel.new (W.alloc (.cells #[.slice ga ng gc, .slice pa 3 cp, .slice ta nt tc, .bool false] 151)) [.slice g.a g.n g.cap, .slice g.c g.m g.cap', .int .i64 g.K] 172
  rw [World.size_alloc] at y0
  have t0 := is_print_test
  have t1 := is_print_add
  have t2 := is_print_print
  refine callsIn_of_wp Try.func122 rfl trivial ?_ rfl
  simp only [Try.ntmps122, List.size_toArray, List.length_cons, List.length_nil, Nat.reduceAdd, Nat.reduceSub, Array.replicate_succ, Array.replicate_zero, List.push_toArray, List.append_toArray, List.nil_append, List.cons_append]
  gi_wp2_with fail
  obtain ⟨W0, hW0⟩ : ∃ W0, W0 = (W.alloc (.cells #[.slice ga ng gc, .slice pa 3 cp, .slice ta nt tc, .bool false] 151)).alloc (.cells #[.slice g.a g.n g.cap, .slice g.c g.m g.cap', .int .i64 g.K] 172) := ⟨_, rfl⟩
  rw [← hW0] at A0 x0 y0 ⊢
  clear hW0
  have KA : Hid (∀ X, KpR W0 X → Cel X W.heap.size [.slice ga ng gc, .slice pa 3 cp, .slice ta nt tc, .bool false] 151) := fun X hX => x0.keepR hX (by decide) (by decide)
  have KB : Hid (∀ X, KpR W0 X → Cel X (W.heap.size + 1) [.slice g.a g.n g.cap, .slice g.c g.m g.cap', .int .i64 g.K] 172) := fun X hX => y0.keepR hX (by decide) (by decide)
  have KP : Hid (∀ X, KpR W0 X → ((X.cell? ⟨W.heap.size, 0, none⟩ = some (.slice ga ng gc) ∧ X.cell? ⟨W.heap.size, 1, none⟩ = some (.slice pa 3 cp) ∧ X.cell? ⟨W.heap.size, 2, none⟩ = some (.slice ta nt tc) ∧ X.cell? ⟨W.heap.size, 3, none⟩ = some (.bool false)) ∧ (X.cell? ⟨W.heap.size + 1, 0, none⟩ = some (.slice g.a g.n g.cap) ∧ X.cell? ⟨W.heap.size + 1, 1, none⟩ = some (.slice g.c g.m g.cap') ∧ X.cell? ⟨W.heap.size + 1, 2, none⟩ = some (.int .i64 g.K)))) := fun X hX => ⟨(KA.out X hX).four, (KB.out X hX).cell 0, (KB.out X hX).cell 1, (KB.out X hX).cell 2⟩
  have e0 : Below W0.heap.size W0 W0.drew := (Below.refl _ _).drew
  have hSS := KP.out _ (KpR.of e0)
  refine wpIn_region_S (fun w' => (w'.cell? ⟨W.heap.size, 0, none⟩ = some (.slice ga ng gc) ∧ w'.cell? ⟨W.heap.size, 1, none⟩ = some (.slice pa 3 cp) ∧ w'.cell? ⟨W.heap.size, 2, none⟩ = some (.slice ta nt tc) ∧ w'.cell? ⟨W.heap.size, 3, none⟩ = some (.bool false)) ∧ (w'.cell? ⟨W.heap.size + 1, 0, none⟩ = some (.slice g.a g.n g.cap) ∧ w'.cell? ⟨W.heap.size + 1, 1, none⟩ = some (.slice g.c g.m g.cap') ∧ w'.cell? ⟨W.heap.size + 1, 2, none⟩ = some (.int .i64 g.K))) (by kernel_rfl) ?_
  refine wpAnyS_take (i := 0) (v := ?v0) rfl rfl (by kernel_rfl) (by kernel_rfl) (by kernel_rfl) (fun _ _ _ h => h) (Or.inl ⟨by rfl, ?y0⟩) (fun _ => rfl) hSS ?_
  case y0 => (intro wz hSw; (try dsimp only at hSw); go_simp; try (with_reducible rfl))
  refine wpAnyS_take (i := 1) (v := ?v1) rfl rfl (by kernel_rfl) (by kernel_rfl) (by kernel_rfl) (fun _ _ _ h => h) (Or.inl ⟨by rfl, ?y1⟩) (fun _ => rfl) hSS ?_
  case y1 => (intro wz hSw; (try dsimp only at hSw); go_simp; try (with_reducible rfl))
  refine wpAnyS_take (i := 2) (v := ?v2) rfl rfl (by kernel_rfl) (by kernel_rfl) (by kernel_rfl) (fun _ _ _ h => h) (Or.inl ⟨by rfl, ?y2⟩) (fun _ => rfl) hSS ?_
  case y2 => (intro wz hSw; (try dsimp only at hSw); go_simp; try (with_reducible rfl))
  refine wpAnyS_take (i := 3) (v := ?v3) rfl rfl (by kernel_rfl) (by kernel_rfl) (by kernel_rfl) (fun _ _ _ h => h) (Or.inl ⟨by rfl, ?y3⟩) (fun _ => rfl) hSS ?_
  case y3 => (intro wz hSw; (try dsimp only at hSw); go_simp; try (with_reducible rfl))
  refine wpAnyS_take (i := 4) (v := ?v4) rfl rfl (by kernel_rfl) (by kernel_rfl) (by kernel_rfl) (fun _ _ _ h => h) (Or.inl ⟨by rfl, ?y4⟩) (fun _ => rfl) hSS ?_
  case y4 => (intro wz hSw; (try dsimp only at hSw); go_simp; try (with_reducible rfl))
  refine wpAnyS_take (i := 5) (v := ?v5) rfl rfl (by kernel_rfl) (by kernel_rfl) (by kernel_rfl) (fun _ _ _ h => h) (Or.inl ⟨by rfl, ?y5⟩) (fun _ => rfl) hSS ?_
  case y5 => (intro wz hSw; (try dsimp only at hSw); go_simp; try (with_reducible rfl))
  refine wpAnyS_take (i := 6) (v := ?v6) rfl rfl (by kernel_rfl) (by kernel_rfl) (by kernel_rfl) (fun _ _ _ h => h) (Or.inl ⟨by rfl, ?y6⟩) (fun _ => rfl) hSS ?_
  case y6 => (intro wz hSw; (try dsimp only at hSw); go_simp; try (with_reducible rfl))
  clear hSS
  refine wpAnyS_one (i := 7) (by kernel_rfl) rfl (fun K hK => ?_)
  go_simp
  refine ⟨trivial, hdd _, (callsIn_wide.2 (iintoW_any HY.out (by omega) g hs _ (hA.below (A0.trans (e0.mono A0.size))) _ _ (hP.keep (A0.trans (e0.mono A0.size))))).mono ?_⟩
  rintro e w1 ⟨B1, B2, c1, c2, rfl, bd1, y1, y2, y3, k1, k2⟩
  rw [HFX.out] at k1 k2 ⊢
  have b1 : Below W0.heap.size W0 w1 := below_of_drew bd1
  have E1 := A0.trans (b1.mono A0.size)
  clear bd1 y1 y2 y3
  (try dsimp only)
  refine hK.out _ _ (KP.out _ (KpR.of b1)) ?_
  clear hK K
  refine wpAnyS_one (i := 8) (by kernel_rfl) rfl (fun K hK => ?_)
  go_simp
  refine ⟨trivial, hdd _, (callsIn_wide.2 (itell_any FX y.tells _ _ _ _ _ _ _ _ _ _ _ _ _ _ HTL.out nt1 (hT.keep E1) (k1.ints' lXC) (k2.ints' lXD))).mono ?_⟩
  rintro e w2 ⟨G, cG, rfl, b2', F2⟩
  have b2 := b1.trans (b2'.mono b1.size)
  have E2 := A0.trans (b2.mono A0.size)
  have HG2 : Hid _ := hgo w2 _ cG E2 (by rw [HFX.out]; exact F2)
  clear k1 k2
  (try dsimp only)
  refine hK.out _ _ (KP.out _ (KpR.of b2)) ?_
  clear hK K
  refine wpAnyS_one (i := 9) (by kernel_rfl) rfl (fun K hK => ?_)
  go_simp
  refine ⟨trivial, hdd _, (HG2.out _).mono ?_⟩
  rintro e w3 ⟨rfl, j3, k3⟩
  have K3 := (KpR.of b2).trans k3
  have KK := (KpR.of A0).trans K3
  (try dsimp only)
  refine hK.out _ _ (KP.out _ K3) ?_
  clear hK K
  refine wpAnyS_one (i := 10) (by kernel_rfl) rfl (fun K hK => ?_)
  go_simp
  refine hK.out _ _ (KP.out _ K3) ?_
  clear hK K
  refine wpAnyS_done (by kernel_rfl) ?_ _
  clear KP KA KB x0 y0 HG2
  gi_wp2
  go_ret
  exact ⟨rfl, j3, KK⟩

set_option maxHeartbeats 6400000 in
theorem past_add (l : Nat) (sa : Option Addr) (N sc : Nat) (nx : Int) (i : Nat) (y : Way) (hy : WayOk i y) (h6 : i ≤ 5) (g : FV) (hs : smallB g.n g.m g.C g.D g.K = true) (ga : Option Addr) (ng gc : Nat) (pa : Option Addr) (cp : Nat) (ta : Option Addr) (nt tc : Nat) (J : World → Prop) (W : World) (n : Nat) (hA : g.At W) (hP : FormsAt W pa y.pots) (hT : FormsAt W ta y.tells) (htl : y.tells.length = nt)
    (p : Nat) (hp : p < 3) (hgo : ∀ X pa' cp', Below W.heap.size W X → FormsAt X pa' (y.add p (intoX g y.pots)).pots → GoesOn l sa N sc nx (wayV ga ng gc pa' cp' ta nt tc false) J X) :
    CallsIn Fence.wide n Try.prog 122 #[wayV ga ng gc pa cp ta nt tc false, .iface 170 (.agg #[.int .i64 (p : Int), .slice g.a g.n g.cap, .slice g.c g.m g.cap', .int .i64 g.K]), .int .i64 nx, goV l sa N sc] W fun e Y => e = .returned (.bool true) ∧ J Y ∧ KpR W Y := by
  have hdd : ∀ k : Nat, (Fence.wide.depth.isSome = true → 1 ≤ k) := fun k h => by simp [Fence.wide] at h
  obtain ⟨fit1, fit2, -⟩ := hy.into (by omega) (f := g) hs hA.D.1
  have HF1 : Hid _ := fit1
  have HF2 : Hid _ := fit2
  have HY : Hid (WayOk i y) := hy
  have HTL : Hid (y.tells.length = nt) := htl
  have nt1 : nt ≤ 100 := by have := hy.tl; omega
  obtain ⟨FX, hFX⟩ : ∃ FX, FX = intoX g y.pots := ⟨_, rfl⟩
  have HFX : Hid (intoX g y.pots = FX) := hFX.symm
  have lXC := fit2.c
  have lXD := fit2.d
  rw [← hFX] at lXC lXD
  have hw := wb_pos i
  have hw6 := wb_six (n := i) (by omega)
  have hq := hy.pf p hp
  rw [show min i 6 = i by omega] at hq
  have HQ1 : Hid (fitX 10000000 (y.pots[p]?.getD noX)) := hq.mono (by omega)
  have HQ3 : Hid (fitX 10000000 (plusX (y.pots[p]?.getD noX) (intoX g y.pots))) := (plusX_fit hq fit1 (by omega)).mono (by omega)
  clear fit1 fit2 hy htl hFX hq
  have A0 : Below W.heap.size W ((W.alloc (.cells #[.slice ga ng gc, .slice pa 3 cp, .slice ta nt tc, .bool false] 151)).alloc (.cells #[.int .i64 (p : Int), .slice g.a g.n g.cap, .slice g.c g.m g.cap', .int .i64 g.K] 170)) := ((Below.refl _ _).alloc (Nat.le_refl _) _).alloc (by simp) _
  have x0 := (Cel.new W [.slice ga ng gc, .slice pa 3 cp, .slice ta nt tc, .bool false] 151).alloc (.cells #[.int .i64 (p : Int), .slice g.a g.n g.cap, .slice g.c g.m g.cap', .int .i64 g.K] 170)
  have y0 := Cel.new (W.alloc (.cells #[.slice ga ng gc, .slice pa 3 cp, .slice ta nt tc, .bool false] 151)) [.int .i64 (p : Int), .slice g.a g.n g.cap, .slice g.c g.m g.cap', .int .i64 g.K] 170
  rw [World.size_alloc] at y0
  have t0 := is_add_test
  have t1 := is_add_add
  have t2 := is_add_print
  refine callsIn_of_wp Try.func122 rfl trivial ?_ rfl
  simp only [Try.ntmps122, List.size_toArray, List.length_cons, List.length_nil, Nat.reduceAdd, Nat.reduceSub, Array.replicate_succ, Array.replicate_zero, List.push_toArray, List.append_toArray, List.nil_append, List.cons_append]
  gi_wp2_with fail
  obtain ⟨W0, hW0⟩ : ∃ W0, W0 = (W.alloc (.cells #[.slice ga ng gc, .slice pa 3 cp, .slice ta nt tc, .bool false] 151)).alloc (.cells #[.int .i64 (p : Int), .slice g.a g.n g.cap, .slice g.c g.m g.cap', .int .i64 g.K] 170) := ⟨_, rfl⟩
  rw [← hW0] at A0 x0 y0 ⊢
  clear hW0
  have KA : Hid (∀ X, KpR W0 X → Cel X W.heap.size [.slice ga ng gc, .slice pa 3 cp, .slice ta nt tc, .bool false] 151) := fun X hX => x0.keepR hX (by decide) (by decide)
  have KB : Hid (∀ X, KpR W0 X → Cel X (W.heap.size + 1) [.int .i64 (p : Int), .slice g.a g.n g.cap, .slice g.c g.m g.cap', .int .i64 g.K] 170) := fun X hX => y0.keepR hX (by decide) (by decide)
  have KP : Hid (∀ X, KpR W0 X → ((X.cell? ⟨W.heap.size, 0, none⟩ = some (.slice ga ng gc) ∧ X.cell? ⟨W.heap.size, 1, none⟩ = some (.slice pa 3 cp) ∧ X.cell? ⟨W.heap.size, 2, none⟩ = some (.slice ta nt tc) ∧ X.cell? ⟨W.heap.size, 3, none⟩ = some (.bool false)) ∧ (X.cell? ⟨W.heap.size + 1, 0, none⟩ = some (.int .i64 (p : Int)) ∧ X.cell? ⟨W.heap.size + 1, 1, none⟩ = some (.slice g.a g.n g.cap) ∧ X.cell? ⟨W.heap.size + 1, 2, none⟩ = some (.slice g.c g.m g.cap') ∧ X.cell? ⟨W.heap.size + 1, 3, none⟩ = some (.int .i64 g.K)))) := fun X hX => ⟨(KA.out X hX).four, (KB.out X hX).cell 0, (KB.out X hX).cell 1, (KB.out X hX).cell 2, (KB.out X hX).cell 3⟩
  have e0 : Below W0.heap.size W0 W0.drew := (Below.refl _ _).drew
  have hSS := KP.out _ (KpR.of e0)
  refine wpIn_region_S (fun w' => (w'.cell? ⟨W.heap.size, 0, none⟩ = some (.slice ga ng gc) ∧ w'.cell? ⟨W.heap.size, 1, none⟩ = some (.slice pa 3 cp) ∧ w'.cell? ⟨W.heap.size, 2, none⟩ = some (.slice ta nt tc) ∧ w'.cell? ⟨W.heap.size, 3, none⟩ = some (.bool false)) ∧ (w'.cell? ⟨W.heap.size + 1, 0, none⟩ = some (.int .i64 (p : Int)) ∧ w'.cell? ⟨W.heap.size + 1, 1, none⟩ = some (.slice g.a g.n g.cap) ∧ w'.cell? ⟨W.heap.size + 1, 2, none⟩ = some (.slice g.c g.m g.cap') ∧ w'.cell? ⟨W.heap.size + 1, 3, none⟩ = some (.int .i64 g.K))) (by kernel_rfl) ?_
  refine wpAnyS_take (i := 0) (v := ?v0) rfl rfl (by kernel_rfl) (by kernel_rfl) (by kernel_rfl) (fun _ _ _ h => h) (Or.inl ⟨by rfl, ?y0⟩) (fun _ => rfl) hSS ?_
  case y0 => (intro wz hSw; (try dsimp only at hSw); go_simp; try (with_reducible rfl))
  refine wpAnyS_take (i := 1) (v := ?v1) rfl rfl (by kernel_rfl) (by kernel_rfl) (by kernel_rfl) (fun _ _ _ h => h) (Or.inl ⟨by rfl, ?y1⟩) (fun _ => rfl) hSS ?_
  case y1 => (intro wz hSw; (try dsimp only at hSw); go_simp; try (with_reducible rfl))
  refine wpAnyS_take (i := 2) (v := ?v2) rfl rfl (by kernel_rfl) (by kernel_rfl) (by kernel_rfl) (fun _ _ _ h => h) (Or.inl ⟨by rfl, ?y2⟩) (fun _ => rfl) hSS ?_
  case y2 => (intro wz hSw; (try dsimp only at hSw); go_simp; try (with_reducible rfl))
  refine wpAnyS_take (i := 3) (v := ?v3) rfl rfl (by kernel_rfl) (by kernel_rfl) (by kernel_rfl) (fun _ _ _ h => h) (Or.inl ⟨by rfl, ?y3⟩) (fun _ => rfl) hSS ?_
  case y3 => (intro wz hSw; (try dsimp only at hSw); go_simp; try (with_reducible rfl))
  refine wpAnyS_take (i := 4) (v := ?v4) rfl rfl (by kernel_rfl) (by kernel_rfl) (by kernel_rfl) (fun _ _ _ h => h) (Or.inl ⟨by rfl, ?y4⟩) (fun _ => rfl) hSS ?_
  case y4 => (intro wz hSw; (try dsimp only at hSw); go_simp; try (with_reducible rfl))
  refine wpAnyS_take (i := 5) (v := ?v5) rfl rfl (by kernel_rfl) (by kernel_rfl) (by kernel_rfl) (fun _ _ _ h => h) (Or.inl ⟨by rfl, ?y5⟩) (fun _ => rfl) hSS ?_
  case y5 => (intro wz hSw; (try dsimp only at hSw); go_simp; try (with_reducible rfl))
  refine wpAnyS_take (i := 6) (v := ?v6) rfl rfl (by kernel_rfl) (by kernel_rfl) (by kernel_rfl) (fun _ _ _ h => h) (Or.inl ⟨by rfl, ?y6⟩) (fun _ => rfl) hSS ?_
  case y6 => (intro wz hSw; (try dsimp only at hSw); go_simp; try (with_reducible rfl))
  refine wpAnyS_take (i := 7) (v := ?v7) rfl rfl (by kernel_rfl) (by kernel_rfl) (by kernel_rfl) (fun _ _ _ h => h) (Or.inl ⟨by rfl, ?y7⟩) (fun _ => rfl) hSS ?_
  case y7 => (intro wz hSw; (try dsimp only at hSw); go_simp; try (with_reducible rfl))
  refine wpAnyS_take (i := 8) (v := ?v8) rfl rfl (by kernel_rfl) (by kernel_rfl) (by kernel_rfl) (fun _ _ _ h => h) (Or.inl ⟨by rfl, ?y8⟩) (fun _ => rfl) hSS ?_
  case y8 => (intro wz hSw; (try dsimp only at hSw); go_simp; try (with_reducible rfl))
  clear hSS
  refine wpAnyS_one (i := 9) (by kernel_rfl) rfl (fun K hK => ?_)
  go_simp
  refine ⟨trivial, hdd _, (callsIn_wide.2 (iintoW_any HY.out (by omega) g hs _ (hA.below (A0.trans (e0.mono A0.size))) _ _ (hP.keep (A0.trans (e0.mono A0.size))))).mono ?_⟩
  rintro e w1 ⟨B1, B2, c1, c2, rfl, bd1, y1, y2, y3, k1, k2⟩
  rw [HFX.out] at k1 k2 ⊢
  have b1 : Below W0.heap.size W0 w1 := below_of_drew bd1
  have E1 := A0.trans (b1.mono A0.size)
  clear bd1 y1 y2 y3
  (try dsimp only)
  refine hK.out _ _ (KP.out _ (KpR.of b1)) ?_
  clear hK K
  refine wpAnyS_one (i := 10) (by kernel_rfl) rfl (fun K hK => ?_)
  go_simp
  refine ⟨trivial, hdd _, (callsIn_wide.2 (iadding_any y p hp FX _ _ _ _ _ _ _ _ _ _ _ _ _ _ HY.out.pl (hP.keep E1) (k1.ints' lXC) (k2.ints' lXD) HQ1.out (by rw [← HFX.out]; exact HF2.out) (by rw [← HFX.out]; exact HQ3.out))).mono ?_⟩
  rintro e w2 ⟨G, cG, rfl, b2', F2⟩
  have b2 := b1.trans (b2'.mono b1.size)
  have E2 := A0.trans (b2.mono A0.size)
  have HG2 : Hid _ := hgo w2 _ cG E2 (by rw [HFX.out]; exact F2)
  clear k1 k2
  (try dsimp only)
  refine hK.out _ _ (KP.out _ (KpR.of b2)) ?_
  clear hK K
  refine wpAnyS_one (i := 11) (by kernel_rfl) rfl (fun K hK => ?_)
  go_simp
  refine ⟨trivial, hdd _, (HG2.out _).mono ?_⟩
  rintro e w3 ⟨rfl, j3, k3⟩
  have K3 := (KpR.of b2).trans k3
  have KK := (KpR.of A0).trans K3
  (try dsimp only)
  refine hK.out _ _ (KP.out _ K3) ?_
  clear hK K
  refine wpAnyS_one (i := 12) (by kernel_rfl) rfl (fun K hK => ?_)
  go_simp
  refine hK.out _ _ (KP.out _ K3) ?_
  clear hK K
  refine wpAnyS_done (by kernel_rfl) ?_ _
  clear KP KA KB x0 y0 HG2
  gi_wp2
  go_ret
  exact ⟨rfl, j3, KK⟩

end Go.Proofs.Ythhfjodggmmcoaa
