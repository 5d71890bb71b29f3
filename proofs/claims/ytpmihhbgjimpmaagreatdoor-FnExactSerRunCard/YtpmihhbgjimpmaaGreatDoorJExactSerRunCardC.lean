/-
  Lemmas that the claim's last text rests on: Leave, Leave2, Stops, RunI, FvC, FvL, RunC, SerS, KeyI, RowsY, Put, Walk, RowsS, Reads, WayC.
-/
import Derived.Test.YtpmihhbgjimpmaaGreatDoorRunS
import Derived.Laws.Pointers
import Derived.Defers
import Derived.Recover
import Derived.Test.YtpmihhbgjimpmaaGreatDoorAdd
import Derived.Test.YtpmihhbgjimpmaaGreatDoorAt
import Derived.Test.YtpmihhbgjimpmaaGreatDoorJExactSerRunCardA
import Derived.Test.YtpmihhbgjimpmaaGreatDoorSerP
import Derived.Test.YtpmihhbgjimpmaaGreatDoorJExactSerRunCardB
import Derived.Lib.SmallJoins
import Derived.Test.YtpmihhbgjimpmaaGreatDoorKeyed
import Derived.OrdersIn
import Derived.OrdersHeld
import Derived.RangeFuncNested
import Derived.RangeFuncBound
import Derived.RangeFuncCalls
import Derived.RangeFuncLeaves
import Derived.Deep.AppendLies
namespace Go.Proofs.YtpmihhbgjimpmaaGreatDoor
open Go.RowKit
set_option linter.unusedVariables false
set_option maxRecDepth 100000

theorem as_testStep_testStep (v : Value) (w : World) : (Instr.typeAssert (.iface 198 v) 156 198 true).run Tryz.prog w = .ok (.tuple #[v, .bool true]) w := by kernel_rfl
theorem as_testStep_addStep (v : Value) (w : World) : (Instr.typeAssert (.iface 198 v) 156 200 true).run Tryz.prog w = .ok (.tuple #[.agg #[.int .i64 0, .slice none 0 0, .slice none 0 0, .int .i64 0], .bool false]) w := by kernel_rfl
theorem as_testStep_printStep (v : Value) (w : World) : (Instr.typeAssert (.iface 198 v) 156 202 true).run Tryz.prog w = .ok (.tuple #[.agg #[.slice none 0 0, .slice none 0 0, .int .i64 0], .bool false]) w := by kernel_rfl
theorem as_testStep_stopStep (v : Value) (w : World) : (Instr.typeAssert (.iface 198 v) 156 203 true).run Tryz.prog w = .ok (.tuple #[.agg #[], .bool false]) w := by kernel_rfl
theorem as_addStep_testStep (v : Value) (w : World) : (Instr.typeAssert (.iface 200 v) 156 198 true).run Tryz.prog w = .ok (.tuple #[.agg #[.int .i64 0, .slice none 0 0, .slice none 0 0, .int .i64 0], .bool false]) w := by kernel_rfl
theorem as_addStep_addStep (v : Value) (w : World) : (Instr.typeAssert (.iface 200 v) 156 200 true).run Tryz.prog w = .ok (.tuple #[v, .bool true]) w := by kernel_rfl
theorem as_addStep_printStep (v : Value) (w : World) : (Instr.typeAssert (.iface 200 v) 156 202 true).run Tryz.prog w = .ok (.tuple #[.agg #[.slice none 0 0, .slice none 0 0, .int .i64 0], .bool false]) w := by kernel_rfl
theorem as_addStep_stopStep (v : Value) (w : World) : (Instr.typeAssert (.iface 200 v) 156 203 true).run Tryz.prog w = .ok (.tuple #[.agg #[], .bool false]) w := by kernel_rfl
theorem as_printStep_testStep (v : Value) (w : World) : (Instr.typeAssert (.iface 202 v) 156 198 true).run Tryz.prog w = .ok (.tuple #[.agg #[.int .i64 0, .slice none 0 0, .slice none 0 0, .int .i64 0], .bool false]) w := by kernel_rfl
theorem as_printStep_addStep (v : Value) (w : World) : (Instr.typeAssert (.iface 202 v) 156 200 true).run Tryz.prog w = .ok (.tuple #[.agg #[.int .i64 0, .slice none 0 0, .slice none 0 0, .int .i64 0], .bool false]) w := by kernel_rfl
theorem as_printStep_printStep (v : Value) (w : World) : (Instr.typeAssert (.iface 202 v) 156 202 true).run Tryz.prog w = .ok (.tuple #[v, .bool true]) w := by kernel_rfl
theorem as_printStep_stopStep (v : Value) (w : World) : (Instr.typeAssert (.iface 202 v) 156 203 true).run Tryz.prog w = .ok (.tuple #[.agg #[], .bool false]) w := by kernel_rfl
theorem as_stopStep_testStep (v : Value) (w : World) : (Instr.typeAssert (.iface 203 v) 156 198 true).run Tryz.prog w = .ok (.tuple #[.agg #[.int .i64 0, .slice none 0 0, .slice none 0 0, .int .i64 0], .bool false]) w := by kernel_rfl
theorem as_stopStep_addStep (v : Value) (w : World) : (Instr.typeAssert (.iface 203 v) 156 200 true).run Tryz.prog w = .ok (.tuple #[.agg #[.int .i64 0, .slice none 0 0, .slice none 0 0, .int .i64 0], .bool false]) w := by kernel_rfl
theorem as_stopStep_printStep (v : Value) (w : World) : (Instr.typeAssert (.iface 203 v) 156 202 true).run Tryz.prog w = .ok (.tuple #[.agg #[.slice none 0 0, .slice none 0 0, .int .i64 0], .bool false]) w := by kernel_rfl
theorem as_stopStep_stopStep (v : Value) (w : World) : (Instr.typeAssert (.iface 203 v) 156 203 true).run Tryz.prog w = .ok (.tuple #[v, .bool true]) w := by kernel_rfl

set_option maxHeartbeats 800000 in
theorem leave_stop (Dd : Nat) (w : World) :
    Calls Tryz.prog 115 #[.pointer (some ⟨Dd, 0, none⟩), .iface 203 (.agg #[])] w fun e w' => e = .panicked [{ v := .iface 161 (.agg #[]), recovered := false }] ∧ Below w.heap.size w w' := by
  have h1 := as_stopStep_testStep
  have h2 := as_stopStep_addStep
  have h3 := as_stopStep_printStep
  have h4 := as_stopStep_stopStep
  go_enter Tryz.func115, Tryz.ntmps115
  go_wp2
  exact ⟨rfl, rfl, (Below.refl _ _).alloc (Nat.le_refl _) _⟩

/-- While the program runs an act: old memory, what it does it with, the pots, what was told. -/
structure DR (w1 : World) (Dd B cp : Nat) (ua : Option Addr) (cu : Nat) (v : Value) (x tl : List Int) (W : World) : Prop where
  b : Below w1.heap.size w1 W
  d : Cel W Dd [.slice (some ⟨B, 0, none⟩) 3 cp, .slice ua 2 cu, v] 114
  ox : OwnX W (some ⟨B, 0, none⟩) B 3 x
  j : JA w1 v tl W
  ne : v.ownBlock ≠ some B
  nd : v.ownBlock ≠ some Dd

section
variable {w1 W W' : World} {Dd B cp : Nat} {ua : Option Addr} {cu : Nat} {v : Value} {x tl : List Int}
theorem DR.below (s : DR w1 Dd B cp ua cu v x tl W) (h : Below W.heap.size W W') : DR w1 Dd B cp ua cu v x tl W' := ⟨s.b.trans (h.mono s.b.size), s.d.below h, s.ox.below h, s.j.below h, s.ne, s.nd⟩
theorem DR.alloc (s : DR w1 Dd B cp ua cu v x tl W) (o : Obj) : DR w1 Dd B cp ua cu v x tl (W.alloc o) := s.below ((Below.refl _ _).alloc (Nat.le_refl _) _)
theorem DR.set (s : DR w1 Dd B cp ua cu v x tl W) (hB : w1.heap.size ≤ B) (hDB : Dd ≠ B) {i : Nat} (hi : i < 3) (y : Int) : DR w1 Dd B cp ua cu v (x.set i y) tl (W.setCell ⟨B, i, none⟩ (.int .i64 y)) :=
  ⟨s.b.setCell hB _, s.d.setOther hDB _ _, s.ox.set hi y, s.j.set hB s.ne _ _, s.ne, s.nd⟩
theorem DR.app {y : Int} {g cap k H : Nat} {o : Obj} (s : DR w1 Dd B cp ua cu v x tl W) (hD : w1.heap.size ≤ Dd) (hDB : Dd ≠ B) (hk : tl.length = k) (hown : W'.ownsRow w1.heap.size 3 1 (.slice (some ⟨g, 0, none⟩) (k + 1) cap) (k + 1) (tl.map (Value.int .i64) ++ [.int .i64 y])) (hg : (W.alloc o).grownBy W' v.ownBlock) (hat : v.ownBlock = some g ∨ g = H) (hH : B < H) (hH2 : Dd < H) :
    DR w1 Dd B cp ua cu (.slice (some ⟨g, 0, none⟩) (k + 1) cap) x (tl ++ [y]) (W'.setCell ⟨Dd, 2, none⟩ (.slice (some ⟨g, 0, none⟩) (k + 1) cap)) := by
  have j' := s.j.app hk hown hg
  have nb : g ≠ B := fun e => by
    rcases hat with h | h
    · exact s.ne (by rw [h, e])
    · omega
  have nd : g ≠ Dd := fun e => by
    rcases hat with h | h
    · exact s.nd (by rw [h, e])
    · omega
  have nb' : Value.ownBlock (.slice (some ⟨g, 0, none⟩) (k + 1) cap) ≠ some B := by show some g ≠ some B; intro e; simp only [Option.some.injEq] at e; exact nb e
  have nd' : Value.ownBlock (.slice (some ⟨g, 0, none⟩) (k + 1) cap) ≠ some Dd := by show some g ≠ some Dd; intro e; simp only [Option.some.injEq] at e; exact nd e
  exact ⟨j'.b.setCell hD _, (s.d.grown hg s.nd).set 2 _, (s.ox.grown hg s.ne).setOther (fun _ => hDB) _ _, j'.set hD nd' _ _, nb', nd'⟩
end

set_option maxHeartbeats 1600000 in
theorem leave_test (w1 : World) (Dd B cp : Nat) (ua : Option Addr) (cu : Nat) (v : Value) (x tl : List Int) (skip : Int) (ga : Option Addr) (gcap : Nat) (gc : Option Addr) (gcap' : Nat) (K : Int) (C D U : List Int) (y P R : Int) (W : World) (s : DR w1 Dd B cp ua cu v x tl W) (iC : Ints W ga 3 C) (iD : Ints W gc 2 D) (iU : Ints W ua 2 U) (hy : atV C D K x U = y)
    (p1 : bndP P C x) (p2 : bndP R D U) (zP : 0 ≤ P) (zQ : 0 ≤ R) (tP : P ≤ 100000000000) (tQ : R ≤ 100000000000) (bK : -10000000 ≤ K ∧ K ≤ 10000000) :
    Calls Tryz.prog 115 #[.pointer (some ⟨Dd, 0, none⟩), .iface 198 (.agg #[.int .i64 skip, .slice ga 3 gcap, .slice gc 2 gcap', .int .i64 K])] W fun e w' => e = .returned (.int .i64 (if y < 0 then skip else 0)) ∧ Below W.heap.size W w' := by
  have h1 := as_testStep_testStep
  have HY : Hid (atV C D K x U = y) := hy
  clear hy
  have al : Below W.heap.size W (W.alloc (.cells #[.int .i64 skip, .slice ga 3 gcap, .slice gc 2 gcap', .int .i64 K] 198)) := (Below.refl _ _).alloc (Nat.le_refl _) _
  have bxa := Cel.new W [.int .i64 skip, .slice ga 3 gcap, .slice gc 2 gcap', .int .i64 K] 198
  have sa := s.below al
  have ia := iC.below al
  have ib := iD.below al
  have iu := iU.below al
  go_enter Tryz.func115, Tryz.ntmps115
  go_upto_region 4 with fail
  obtain ⟨Wa, hWa⟩ : ∃ Wa, Wa = W.alloc (.cells #[.int .i64 skip, .slice ga 3 gcap, .slice gc 2 gcap', .int .i64 K] 198) := ⟨_, rfl⟩
  rw [← hWa] at sa bxa ia ib iu al ⊢
  clear hWa s iC iD iU
  have hn : Wa.cell? ⟨Dd, 0, none⟩ = some (.slice (some ⟨B, 0, none⟩) 3 cp) ∧ Wa.cell? ⟨Dd, 1, none⟩ = some (.slice ua 2 cu) ∧ Wa.cell? ⟨W.heap.size, 1, none⟩ = some (.slice ga 3 gcap) ∧ Wa.cell? ⟨W.heap.size, 2, none⟩ = some (.slice gc 2 gcap') ∧ Wa.cell? ⟨W.heap.size, 3, none⟩ = some (.int .i64 K) := ⟨sa.d.cell 0, sa.d.cell 1, bxa.cell 1, bxa.cell 2, bxa.cell 3⟩
  go_region_held3 (fun w' => w'.cell? ⟨Dd, 0, none⟩ = some (.slice (some ⟨B, 0, none⟩) 3 cp) ∧ w'.cell? ⟨Dd, 1, none⟩ = some (.slice ua 2 cu) ∧ w'.cell? ⟨W.heap.size, 1, none⟩ = some (.slice ga 3 gcap) ∧ w'.cell? ⟨W.heap.size, 2, none⟩ = some (.slice gc 2 gcap') ∧ w'.cell? ⟨W.heap.size, 3, none⟩ = some (.int .i64 K)) (first | with_reducible assumption | exact hn)
    (first
      | (go_at_call 145
         refine (iatG_any _ _ _ _ _ C D _ _ _ _ x U _ (by exact ia.below (Below.refl _ _).drew) (by exact ib.below (Below.refl _ _).drew) (by exact sa.ox.ints.below (Below.refl _ _).drew) (by exact iu.below (Below.refl _ _).drew) P R p1 p2 zP zQ tP tQ bK).mono ?_
         rintro ee w3 ⟨rfl, b3⟩
         rw [HY.out]
         have b3' := below_of_drew b3
         have sd3 := sa.d.below b3'
         have bx3 := bxa.below b3'
         have hn3 : w3.cell? ⟨Dd, 0, none⟩ = some (.slice (some ⟨B, 0, none⟩) 3 cp) ∧ w3.cell? ⟨Dd, 1, none⟩ = some (.slice ua 2 cu) ∧ w3.cell? ⟨W.heap.size, 1, none⟩ = some (.slice ga 3 gcap) ∧ w3.cell? ⟨W.heap.size, 2, none⟩ = some (.slice gc 2 gcap') ∧ w3.cell? ⟨W.heap.size, 3, none⟩ = some (.int .i64 K) := ⟨sd3.cell 0, sd3.cell 1, bx3.cell 1, bx3.cell 2, bx3.cell 3⟩))
  have bb := al.trans (b3'.mono al.size)
  have k0 := bx3.cell 0
  simp only [List.getElem?_cons_zero] at k0
  by_cases hneg : y < 0
  · go_wp2
    go_ret
    exact ⟨rfl, bb⟩
  · go_wp2
    go_ret
    exact ⟨rfl, bb⟩

end Go.Proofs.YtpmihhbgjimpmaaGreatDoor
namespace Go.Proofs.YtpmihhbgjimpmaaGreatDoor
open Go.RowKit
set_option linter.unusedVariables false
set_option maxRecDepth 100000

theorem touch_grown {S : Nat → Prop} {w W W' : World} {row : Option Nat} (h : Touch S w W) (g : W.grownBy W' row) (hr : ∀ k, row = some k → S k) : Touch S w W' :=
  ⟨g.os.trans h.os, g.tape.trans h.tape, g.output.trans h.output, Nat.le_trans h.size g.size, fun k hk hs => (g.block k (Nat.lt_of_lt_of_le hk h.size) (fun e => hs (hr k e.symm))).trans (h.block k hk hs)⟩

set_option maxHeartbeats 3200000 in
theorem leave_add (w1 : World) (Dd B cp : Nat) (ua : Option Addr) (cu : Nat) (v : Value) (x tl : List Int) (pn : Nat) (xp : Int) (ga : Option Addr) (gcap : Nat) (gc : Option Addr) (gcap' : Nat) (K : Int) (C D U : List Int) (y P R : Int) (W : World) (s : DR w1 Dd B cp ua cu v x tl W) (iC : Ints W ga 3 C) (iD : Ints W gc 2 D) (iU : Ints W ua 2 U) (hy : atV C D K x U = y)
    (p1 : bndP P C x) (p2 : bndP R D U) (zP : 0 ≤ P) (zQ : 0 ≤ R) (tP : P ≤ 100000000000) (tQ : R ≤ 100000000000) (bK : -10000000 ≤ K ∧ K ≤ 10000000) (hpn : pn < 3) (hxp : x[pn]?.getD 0 = xp) (r1 : -10000000000 ≤ xp) (r2 : xp ≤ 10000000000) (r3 : -1000000000000 ≤ y) (r4 : y ≤ 1000000000000) (hB : w1.heap.size ≤ B) (hDB : Dd ≠ B) :
    Calls Tryz.prog 115 #[.pointer (some ⟨Dd, 0, none⟩), .iface 200 (.agg #[.int .i64 (pn : Int), .slice ga 3 gcap, .slice gc 2 gcap', .int .i64 K])] W fun e w' => e = .returned (.int .i64 0) ∧ DR w1 Dd B cp ua cu v (x.set pn (xp + y)) tl w' ∧ Touch (fun z => z = B) W w' := by
  have h1 := as_addStep_testStep
  have h2 := as_addStep_addStep
  have HY : Hid (atV C D K x U = y) := hy
  have HXP : Hid (x[pn]?.getD 0 = xp) := hxp
  clear hy hxp
  have hwr : IntKind.i64.wrap (xp + y) = xp + y := wrap_id (by omega) (by omega)
  have hpn' : (pn : Int) < 3 := by omega
  have al : Below W.heap.size W (W.alloc (.cells #[.int .i64 (pn : Int), .slice ga 3 gcap, .slice gc 2 gcap', .int .i64 K] 200)) := (Below.refl _ _).alloc (Nat.le_refl _) _
  have bxa := Cel.new W [.int .i64 (pn : Int), .slice ga 3 gcap, .slice gc 2 gcap', .int .i64 K] 200
  have sa := s.below al
  have ia := iC.below al
  have ib := iD.below al
  have iu := iU.below al
  have lB := s.ox.lt (by omega)
  have lD := s.d.lt
  have cellp : ∀ Z, OwnX Z (some ⟨B, 0, none⟩) B 3 x → Z.cell? ⟨B, pn, none⟩ = some (.int .i64 xp) ∧ Z.frozen? ⟨B, pn, none⟩ = false := fun Z hZ => by
    obtain ⟨_, h1, h2⟩ := hZ.pos (by omega)
    exact ⟨by rw [h1 pn hpn, HXP.out], h2 pn⟩
  have CP : Hid _ := cellp
  clear cellp
  go_enter Tryz.func115, Tryz.ntmps115
  go_upto_region 8 with fail
  obtain ⟨Wa, hWa⟩ : ∃ Wa, Wa = W.alloc (.cells #[.int .i64 (pn : Int), .slice ga 3 gcap, .slice gc 2 gcap', .int .i64 K] 200) := ⟨_, rfl⟩
  rw [← hWa] at sa bxa ia ib iu al ⊢
  clear hWa s iC iD iU
  have zal := al.size
  obtain ⟨ck, fk⟩ := CP.out Wa sa.ox
  have hSS : (Wa.drew.cell? ⟨Dd, 0, none⟩ = some (.slice (some ⟨B, 0, none⟩) 3 cp) ∧ Wa.drew.cell? ⟨Dd, 1, none⟩ = some (.slice ua 2 cu) ∧ Wa.drew.cell? ⟨W.heap.size, 0, none⟩ = some (.int .i64 (pn : Int)) ∧ Wa.drew.cell? ⟨W.heap.size, 1, none⟩ = some (.slice ga 3 gcap) ∧ Wa.drew.cell? ⟨W.heap.size, 2, none⟩ = some (.slice gc 2 gcap') ∧ Wa.drew.cell? ⟨W.heap.size, 3, none⟩ = some (.int .i64 K)) ∧ Wa.drew.cell? ⟨B, pn, none⟩ = some (.int .i64 xp) := ⟨⟨sa.d.cell 0, sa.d.cell 1, bxa.cell 0, bxa.cell 1, bxa.cell 2, bxa.cell 3⟩, ck⟩
  refine wp_region_ends (fun w' => w'.cell? ⟨Dd, 0, none⟩ = some (.slice (some ⟨B, 0, none⟩) 3 cp) ∧ w'.cell? ⟨Dd, 1, none⟩ = some (.slice ua 2 cu) ∧ w'.cell? ⟨W.heap.size, 0, none⟩ = some (.int .i64 (pn : Int)) ∧ w'.cell? ⟨W.heap.size, 1, none⟩ = some (.slice ga 3 gcap) ∧ w'.cell? ⟨W.heap.size, 2, none⟩ = some (.slice gc 2 gcap') ∧ w'.cell? ⟨W.heap.size, 3, none⟩ = some (.int .i64 K)) (fun w' => w'.cell? ⟨B, pn, none⟩ = some (.int .i64 xp)) 20 (by kernel_rfl) ?_
  refine wpAnyE_take0 (i := 0) (v := ?v0) rfl (by kernel_rfl) (by kernel_rfl) (by kernel_rfl) (by decide) (fun _ _ _ h => h) (Or.inl ⟨by rfl, ?hy0⟩) hSS ?_
  case hy0 => (intro wz hSw; (try dsimp only at hSw); go_simp; try (with_reducible rfl))
  refine wpAnyE_take0 (i := 1) (v := ?v1) rfl (by kernel_rfl) (by kernel_rfl) (by kernel_rfl) (by decide) (fun _ _ _ h => h) (Or.inl ⟨by rfl, ?hy1⟩) hSS ?_
  case hy1 => (intro wz hSw; (try dsimp only at hSw); go_simp; try (with_reducible rfl))
  refine wpAnyE_take0 (i := 2) (v := ?v2) rfl (by kernel_rfl) (by kernel_rfl) (by kernel_rfl) (by decide) (fun _ _ _ h => h) (Or.inl ⟨by rfl, ?hy2⟩) hSS ?_
  case hy2 => (intro wz hSw; (try dsimp only at hSw); go_simp; try (with_reducible rfl))
  refine wpAnyE_take0 (i := 3) (v := ?v3) rfl (by kernel_rfl) (by kernel_rfl) (by kernel_rfl) (by decide) (fun _ _ _ h => h) (Or.inl ⟨by rfl, ?hy3⟩) hSS ?_
  case hy3 => (intro wz hSw; (try dsimp only at hSw); go_simp; try (with_reducible rfl))
  refine wpAnyE_take0 (i := 4) (v := ?v4) rfl (by kernel_rfl) (by kernel_rfl) (by kernel_rfl) (by decide) (fun _ _ _ h => h) (Or.inl ⟨by rfl, ?hy4⟩) hSS ?_
  case hy4 => (intro wz hSw; (try dsimp only at hSw); go_simp; try (with_reducible rfl))
  refine wpAnyE_take0 (i := 5) (v := ?v5) rfl (by kernel_rfl) (by kernel_rfl) (by kernel_rfl) (by decide) (fun _ _ _ h => h) (Or.inl ⟨by rfl, ?hy5⟩) hSS ?_
  case hy5 => (intro wz hSw; (try dsimp only at hSw); go_simp; try (with_reducible rfl))
  refine wpAnyE_take0 (i := 6) (v := ?v6) rfl (by kernel_rfl) (by kernel_rfl) (by kernel_rfl) (by decide) (fun _ _ _ h => h) (Or.inl ⟨by rfl, ?hy6⟩) hSS ?_
  case hy6 => (intro wz hSw; (try dsimp only at hSw); go_simp; try (with_reducible rfl))
  refine wpAnyE_take1 (i := 7) (v := ?v7) rfl rfl (by kernel_rfl) (by kernel_rfl) (by kernel_rfl) (by decide) (by rfl) (by simp [Region.binds]) (fun _ _ _ h => h) (Or.inl ⟨by rfl, ?hy7⟩) hSS ?_
  case hy7 => (intro wz hSw; (try dsimp only at hSw); go_simp; try (with_reducible rfl))
  refine wpAnyE_take0 (i := 8) (v := ?v8) rfl (by kernel_rfl) (by kernel_rfl) (by kernel_rfl) (by decide) (fun _ _ _ h => h) (Or.inl ⟨by rfl, ?hy8⟩) hSS ?_
  case hy8 => (intro wz hSw; (try dsimp only at hSw); go_simp; try (with_reducible rfl))
  refine wpAnyE_take0 (i := 9) (v := ?v9) rfl (by kernel_rfl) (by kernel_rfl) (by kernel_rfl) (by decide) (fun _ _ _ h => h) (Or.inl ⟨by rfl, ?hy9⟩) hSS ?_
  case hy9 => (intro wz hSw; (try dsimp only at hSw); go_simp; try (with_reducible rfl))
  refine wpAnyE_take0 (i := 10) (v := ?v10) rfl (by kernel_rfl) (by kernel_rfl) (by kernel_rfl) (by decide) (fun _ _ _ h => h) (Or.inl ⟨by rfl, ?hy10⟩) hSS ?_
  case hy10 => (intro wz hSw; (try dsimp only at hSw); go_simp; try (with_reducible rfl))
  refine wpAnyE_take0 (i := 11) (v := ?v11) rfl (by kernel_rfl) (by kernel_rfl) (by kernel_rfl) (by decide) (fun _ _ _ h => h) (Or.inl ⟨by rfl, ?hy11⟩) hSS ?_
  case hy11 => (intro wz hSw; (try dsimp only at hSw); go_simp; try (with_reducible rfl))
  refine wpAnyE_take0 (i := 12) (v := ?v12) rfl (by kernel_rfl) (by kernel_rfl) (by kernel_rfl) (by decide) (fun _ _ _ h => h) (Or.inl ⟨by rfl, ?hy12⟩) hSS ?_
  case hy12 => (intro wz hSw; (try dsimp only at hSw); go_simp; try (with_reducible rfl))
  refine wpAnyE_take0 (i := 13) (v := ?v13) rfl (by kernel_rfl) (by kernel_rfl) (by kernel_rfl) (by decide) (fun _ _ _ h => h) (Or.inl ⟨by rfl, ?hy13⟩) hSS ?_
  case hy13 => (intro wz hSw; (try dsimp only at hSw); go_simp; try (with_reducible rfl))
  refine wpAnyE_take0 (i := 14) (v := ?v14) rfl (by kernel_rfl) (by kernel_rfl) (by kernel_rfl) (by decide) (fun _ _ _ h => h) (Or.inl ⟨by rfl, ?hy14⟩) hSS ?_
  case hy14 => (intro wz hSw; (try dsimp only at hSw); go_simp; try (with_reducible rfl))
  refine wpAnyE_take0 (i := 15) (v := ?v15) rfl (by kernel_rfl) (by kernel_rfl) (by kernel_rfl) (by decide) (fun _ _ _ h => h) (Or.inl ⟨by rfl, ?hy15⟩) hSS ?_
  case hy15 => (intro wz hSw; (try dsimp only at hSw); go_simp; try (with_reducible rfl))
  refine wpAnyE_take0 (i := 16) (v := ?v16) rfl (by kernel_rfl) (by kernel_rfl) (by kernel_rfl) (by decide) (fun _ _ _ h => h) (Or.inl ⟨by rfl, ?hy16⟩) hSS ?_
  case hy16 => (intro wz hSw; (try dsimp only at hSw); go_simp; try (with_reducible rfl))
  refine wpAnyE_take0 (i := 17) (v := ?v17) rfl (by kernel_rfl) (by kernel_rfl) (by kernel_rfl) (by decide) (fun _ _ _ h => h) (Or.inl ⟨by rfl, ?hy17⟩) hSS ?_
  case hy17 => (intro wz hSw; (try dsimp only at hSw); go_simp; try (with_reducible rfl))
  refine wpAnyE_one (i := 18) (by kernel_rfl) rfl (fun Kn hK => ?_)
  go_simp
  refine (iatG_any _ _ _ _ _ C D _ _ _ _ x U _ (ia.below (Below.refl _ _).drew) (ib.below (Below.refl _ _).drew) (sa.ox.ints.below (Below.refl _ _).drew) (iu.below (Below.refl _ _).drew) P R p1 p2 zP zQ tP tQ bK).mono ?_
  rintro ee w3 ⟨rfl, b3⟩
  rw [HY.out]
  have b3' := below_of_drew b3
  have z3 := b3'.size
  have s3 := sa.below b3'
  have bx3 := bxa.below b3'
  obtain ⟨ck3, fk3⟩ := CP.out w3 s3.ox
  have hSS3 : (w3.cell? ⟨Dd, 0, none⟩ = some (.slice (some ⟨B, 0, none⟩) 3 cp) ∧ w3.cell? ⟨Dd, 1, none⟩ = some (.slice ua 2 cu) ∧ w3.cell? ⟨W.heap.size, 0, none⟩ = some (.int .i64 (pn : Int)) ∧ w3.cell? ⟨W.heap.size, 1, none⟩ = some (.slice ga 3 gcap) ∧ w3.cell? ⟨W.heap.size, 2, none⟩ = some (.slice gc 2 gcap') ∧ w3.cell? ⟨W.heap.size, 3, none⟩ = some (.int .i64 K)) ∧ w3.cell? ⟨B, pn, none⟩ = some (.int .i64 xp) := ⟨⟨s3.d.cell 0, s3.d.cell 1, bx3.cell 0, bx3.cell 1, bx3.cell 2, bx3.cell 3⟩, ck3⟩
  have s4 := s3.set hB hDB hpn (xp + y)
  have bx4 := bx3.setOther (show W.heap.size ≠ B by omega) pn (.int .i64 (xp + y))
  have hSS4 : (w3.setCell ⟨B, pn, none⟩ (.int .i64 (xp + y))).cell? ⟨Dd, 0, none⟩ = some (.slice (some ⟨B, 0, none⟩) 3 cp) ∧ (w3.setCell ⟨B, pn, none⟩ (.int .i64 (xp + y))).cell? ⟨Dd, 1, none⟩ = some (.slice ua 2 cu) ∧ (w3.setCell ⟨B, pn, none⟩ (.int .i64 (xp + y))).cell? ⟨W.heap.size, 0, none⟩ = some (.int .i64 (pn : Int)) ∧ (w3.setCell ⟨B, pn, none⟩ (.int .i64 (xp + y))).cell? ⟨W.heap.size, 1, none⟩ = some (.slice ga 3 gcap) ∧ (w3.setCell ⟨B, pn, none⟩ (.int .i64 (xp + y))).cell? ⟨W.heap.size, 2, none⟩ = some (.slice gc 2 gcap') ∧ (w3.setCell ⟨B, pn, none⟩ (.int .i64 (xp + y))).cell? ⟨W.heap.size, 3, none⟩ = some (.int .i64 K) := ⟨s4.d.cell 0, s4.d.cell 1, bx4.cell 0, bx4.cell 1, bx4.cell 2, bx4.cell 3⟩
  dsimp only
  refine hK.out _ _ ⟨hSS3.1, fun _ => hSS3.2⟩ ?_
  clear hK hSS
  refine wpAnyE_take0 (i := 19) (v := ?v19) rfl (by kernel_rfl) (by kernel_rfl) (by kernel_rfl) (by decide) (fun _ _ _ h => h) (Or.inl ⟨by rfl, ?hy19⟩) hSS3 ?_
  case hy19 => (intro wz hSw; (try dsimp only at hSw); go_simp; try (with_reducible rfl))
  refine wpAnyE_one (i := 20) (by kernel_rfl) rfl (fun Kn hK => ?_)
  go_simp
  refine hK.out _ _ ⟨hSS3.1, fun _ => hSS3.2⟩ ?_
  clear hK
  refine wpAnyE_one (i := 21) (by kernel_rfl) rfl (fun Kn hK => ?_)
  go_simp
  refine hK.out _ _ ⟨hSS4, fun h => absurd (show true = false from h) (by decide)⟩ ?_
  clear hK
  refine wpAnyE_done (by kernel_rfl) ?_ _
  have zz : Touch (fun z => z = B) W (w3.setCell ⟨B, pn, none⟩ (.int .i64 (xp + y))) := Touch.setCell (S := fun z => z = B) ((Touch.of al).trans (Touch.of b3')) rfl _
  clear b3 b3' sa bxa ia ib iu bx3 bx4 hSS3 hSS4 ck fk ck3 fk3 s3 al
  go_wp2
  go_ret
  exact ⟨rfl, s4, zz⟩

set_option maxHeartbeats 3200000 in
theorem leave_tell (w1 : World) (Dd B cp : Nat) (ua : Option Addr) (cu : Nat) (v : Value) (x tl : List Int) (tn : Nat) (ga : Option Addr) (gcap : Nat) (gc : Option Addr) (gcap' : Nat) (K : Int) (C D U : List Int) (y P R : Int) (W : World) (s : DR w1 Dd B cp ua cu v x tl W) (iC : Ints W ga 3 C) (iD : Ints W gc 2 D) (iU : Ints W ua 2 U) (hy : atV C D K x U = y)
    (p1 : bndP P C x) (p2 : bndP R D U) (zP : 0 ≤ P) (zQ : 0 ≤ R) (tP : P ≤ 100000000000) (tQ : R ≤ 100000000000) (bK : -10000000 ≤ K ∧ K ≤ 10000000) (htn : tl.length = tn) (ht6 : tn ≤ 100) (hB : w1.heap.size ≤ B) (hD : w1.heap.size ≤ Dd) (hDB : Dd ≠ B) :
    Calls Tryz.prog 115 #[.pointer (some ⟨Dd, 0, none⟩), .iface 202 (.agg #[.slice ga 3 gcap, .slice gc 2 gcap', .int .i64 K])] W fun e w' => e = .returned (.int .i64 0) ∧ (∃ v', DR w1 Dd B cp ua cu v' x (tl ++ [y]) w' ∧ ∀ F, F < W.heap.size → v.ownBlock ≠ some F → v'.ownBlock ≠ some F) ∧ Touch (fun z => z = Dd ∨ v.ownBlock = some z) W w' := by
  have h1 := as_printStep_testStep
  have h2 := as_printStep_addStep
  have h3 := as_printStep_printStep
  obtain ⟨i0, hi, hz0, hz1, hz2⟩ := info_parts Tryz.infoInt
  have HY : Hid (atV C D K x U = y) := hy
  have HTN : Hid (tl.length = tn) := htn
  clear hy htn
  have al : Below W.heap.size W (W.alloc (.cells #[.slice ga 3 gcap, .slice gc 2 gcap', .int .i64 K] 202)) := (Below.refl _ _).alloc (Nat.le_refl _) _
  have bxa := Cel.new W [.slice ga 3 gcap, .slice gc 2 gcap', .int .i64 K] 202
  have sa := s.below al
  have ia := iC.below al
  have ib := iD.below al
  have iu := iU.below al
  have lB := s.ox.lt (by omega)
  have lD := s.d.lt
  have lv : ∀ z, v.ownBlock = some z → z < W.heap.size := fun z hz => (s.j.o.lt z hz).2
  have HLV : Hid _ := lv
  clear lv
  go_enter Tryz.func115, Tryz.ntmps115
  go_upto_region 11 with fail
  obtain ⟨Wa, hWa⟩ : ∃ Wa, Wa = W.alloc (.cells #[.slice ga 3 gcap, .slice gc 2 gcap', .int .i64 K] 202) := ⟨_, rfl⟩
  rw [← hWa] at sa bxa ia ib iu al ⊢
  clear hWa s iC iD iU
  have zal := al.size
  have hSS : (Wa.drew.cell? ⟨Dd, 0, none⟩ = some (.slice (some ⟨B, 0, none⟩) 3 cp) ∧ Wa.drew.cell? ⟨Dd, 1, none⟩ = some (.slice ua 2 cu) ∧ Wa.drew.cell? ⟨W.heap.size, 0, none⟩ = some (.slice ga 3 gcap) ∧ Wa.drew.cell? ⟨W.heap.size, 1, none⟩ = some (.slice gc 2 gcap') ∧ Wa.drew.cell? ⟨W.heap.size, 2, none⟩ = some (.int .i64 K)) ∧ Wa.drew.cell? ⟨Dd, 2, none⟩ = some v := ⟨⟨sa.d.cell 0, sa.d.cell 1, bxa.cell 0, bxa.cell 1, bxa.cell 2⟩, sa.d.cell 2⟩
  refine wp_region_ends (fun w' => w'.cell? ⟨Dd, 0, none⟩ = some (.slice (some ⟨B, 0, none⟩) 3 cp) ∧ w'.cell? ⟨Dd, 1, none⟩ = some (.slice ua 2 cu) ∧ w'.cell? ⟨W.heap.size, 0, none⟩ = some (.slice ga 3 gcap) ∧ w'.cell? ⟨W.heap.size, 1, none⟩ = some (.slice gc 2 gcap') ∧ w'.cell? ⟨W.heap.size, 2, none⟩ = some (.int .i64 K)) (fun w' => w'.cell? ⟨Dd, 2, none⟩ = some v) 18 (by kernel_rfl) ?_
  refine wpAnyE_take0 (i := 0) (v := ?v0) rfl (by kernel_rfl) (by kernel_rfl) (by kernel_rfl) (by decide) (fun _ _ _ h => h) (Or.inl ⟨by rfl, ?hy0⟩) hSS ?_
  case hy0 => (intro wz hSw; (try dsimp only at hSw); go_simp; try (with_reducible rfl))
  refine wpAnyE_take0 (i := 1) (v := ?v1) rfl (by kernel_rfl) (by kernel_rfl) (by kernel_rfl) (by decide) (fun _ _ _ h => h) (Or.inl ⟨by rfl, ?hy1⟩) hSS ?_
  case hy1 => (intro wz hSw; (try dsimp only at hSw); go_simp; try (with_reducible rfl))
  refine wpAnyE_take0 (i := 2) (v := ?v2) rfl (by kernel_rfl) (by kernel_rfl) (by kernel_rfl) (by decide) (fun _ _ _ h => h) (Or.inl ⟨by rfl, ?hy2⟩) hSS ?_
  case hy2 => (intro wz hSw; (try dsimp only at hSw); go_simp; try (with_reducible rfl))
  refine wpAnyE_take0 (i := 3) (v := ?v3) rfl (by kernel_rfl) (by kernel_rfl) (by kernel_rfl) (by decide) (fun _ _ _ h => h) (Or.inl ⟨by rfl, ?hy3⟩) hSS ?_
  case hy3 => (intro wz hSw; (try dsimp only at hSw); go_simp; try (with_reducible rfl))
  refine wpAnyE_take1 (i := 4) (v := ?v4) rfl rfl (by kernel_rfl) (by kernel_rfl) (by kernel_rfl) (by decide) (by rfl) (by simp [Region.binds]) (fun _ _ _ h => h) (Or.inl ⟨by rfl, ?hy4⟩) hSS ?_
  case hy4 => (intro wz hSw; (try dsimp only at hSw); go_simp; try (with_reducible rfl))
  refine wpAnyE_take0 (i := 5) (v := ?v5) rfl (by kernel_rfl) (by kernel_rfl) (by kernel_rfl) (by decide) (fun _ _ _ h => h) (Or.inl ⟨by rfl, ?hy5⟩) hSS ?_
  case hy5 => (intro wz hSw; (try dsimp only at hSw); go_simp; try (with_reducible rfl))
  refine wpAnyE_take0 (i := 6) (v := ?v6) rfl (by kernel_rfl) (by kernel_rfl) (by kernel_rfl) (by decide) (fun _ _ _ h => h) (Or.inl ⟨by rfl, ?hy6⟩) hSS ?_
  case hy6 => (intro wz hSw; (try dsimp only at hSw); go_simp; try (with_reducible rfl))
  refine wpAnyE_take0 (i := 7) (v := ?v7) rfl (by kernel_rfl) (by kernel_rfl) (by kernel_rfl) (by decide) (fun _ _ _ h => h) (Or.inl ⟨by rfl, ?hy7⟩) hSS ?_
  case hy7 => (intro wz hSw; (try dsimp only at hSw); go_simp; try (with_reducible rfl))
  refine wpAnyE_take0 (i := 8) (v := ?v8) rfl (by kernel_rfl) (by kernel_rfl) (by kernel_rfl) (by decide) (fun _ _ _ h => h) (Or.inl ⟨by rfl, ?hy8⟩) hSS ?_
  case hy8 => (intro wz hSw; (try dsimp only at hSw); go_simp; try (with_reducible rfl))
  refine wpAnyE_take0 (i := 9) (v := ?v9) rfl (by kernel_rfl) (by kernel_rfl) (by kernel_rfl) (by decide) (fun _ _ _ h => h) (Or.inl ⟨by rfl, ?hy9⟩) hSS ?_
  case hy9 => (intro wz hSw; (try dsimp only at hSw); go_simp; try (with_reducible rfl))
  refine wpAnyE_take0 (i := 10) (v := ?v10) rfl (by kernel_rfl) (by kernel_rfl) (by kernel_rfl) (by decide) (fun _ _ _ h => h) (Or.inl ⟨by rfl, ?hy10⟩) hSS ?_
  case hy10 => (intro wz hSw; (try dsimp only at hSw); go_simp; try (with_reducible rfl))
  refine wpAnyE_take0 (i := 11) (v := ?v11) rfl (by kernel_rfl) (by kernel_rfl) (by kernel_rfl) (by decide) (fun _ _ _ h => h) (Or.inl ⟨by rfl, ?hy11⟩) hSS ?_
  case hy11 => (intro wz hSw; (try dsimp only at hSw); go_simp; try (with_reducible rfl))
  refine wpAnyE_take0 (i := 12) (v := ?v12) rfl (by kernel_rfl) (by kernel_rfl) (by kernel_rfl) (by decide) (fun _ _ _ h => h) (Or.inl ⟨by rfl, ?hy12⟩) hSS ?_
  case hy12 => (intro wz hSw; (try dsimp only at hSw); go_simp; try (with_reducible rfl))
  refine wpAnyE_take0 (i := 13) (v := ?v13) rfl (by kernel_rfl) (by kernel_rfl) (by kernel_rfl) (by decide) (fun _ _ _ h => h) (Or.inl ⟨by rfl, ?hy13⟩) hSS ?_
  case hy13 => (intro wz hSw; (try dsimp only at hSw); go_simp; try (with_reducible rfl))
  refine wpAnyE_take0 (i := 14) (v := ?v14) rfl (by kernel_rfl) (by kernel_rfl) (by kernel_rfl) (by decide) (fun _ _ _ h => h) (Or.inl ⟨by rfl, ?hy14⟩) hSS ?_
  case hy14 => (intro wz hSw; (try dsimp only at hSw); go_simp; try (with_reducible rfl))
  refine wpAnyE_one (i := 15) (by kernel_rfl) rfl (fun Kn hK => ?_)
  go_simp
  refine (iatG_any _ _ _ _ _ C D _ _ _ _ x U _ (ia.below (Below.refl _ _).drew) (ib.below (Below.refl _ _).drew) (sa.ox.ints.below (Below.refl _ _).drew) (iu.below (Below.refl _ _).drew) P R p1 p2 zP zQ tP tQ bK).mono ?_
  rintro ee w3 ⟨rfl, b3⟩
  rw [HY.out]
  have b3' := below_of_drew b3
  have z3 := b3'.size
  have s3 := sa.below b3'
  have bx3 := bxa.below b3'
  have jo := s3.j.o
  rw [HTN.out] at jo
  have hjb := s3.j.b.size
  have s3a := s3.alloc (.cells #[.int .i64 y] 3)
  have bx3a := bx3.alloc (.cells #[.int .i64 y] 3)
  have hSS3 : (w3.cell? ⟨Dd, 0, none⟩ = some (.slice (some ⟨B, 0, none⟩) 3 cp) ∧ w3.cell? ⟨Dd, 1, none⟩ = some (.slice ua 2 cu) ∧ w3.cell? ⟨W.heap.size, 0, none⟩ = some (.slice ga 3 gcap) ∧ w3.cell? ⟨W.heap.size, 1, none⟩ = some (.slice gc 2 gcap') ∧ w3.cell? ⟨W.heap.size, 2, none⟩ = some (.int .i64 K)) ∧ w3.cell? ⟨Dd, 2, none⟩ = some v := ⟨⟨s3.d.cell 0, s3.d.cell 1, bx3.cell 0, bx3.cell 1, bx3.cell 2⟩, s3.d.cell 2⟩
  have hSS4 : ((w3.alloc (.cells #[.int .i64 y] 3)).cell? ⟨Dd, 0, none⟩ = some (.slice (some ⟨B, 0, none⟩) 3 cp) ∧ (w3.alloc (.cells #[.int .i64 y] 3)).cell? ⟨Dd, 1, none⟩ = some (.slice ua 2 cu) ∧ (w3.alloc (.cells #[.int .i64 y] 3)).cell? ⟨W.heap.size, 0, none⟩ = some (.slice ga 3 gcap) ∧ (w3.alloc (.cells #[.int .i64 y] 3)).cell? ⟨W.heap.size, 1, none⟩ = some (.slice gc 2 gcap') ∧ (w3.alloc (.cells #[.int .i64 y] 3)).cell? ⟨W.heap.size, 2, none⟩ = some (.int .i64 K)) ∧ (w3.alloc (.cells #[.int .i64 y] 3)).cell? ⟨Dd, 2, none⟩ = some v := ⟨⟨s3a.d.cell 0, s3a.d.cell 1, bx3a.cell 0, bx3a.cell 1, bx3a.cell 2⟩, s3a.d.cell 2⟩
  dsimp only
  refine hK.out _ _ ⟨hSS3.1, fun _ => hSS3.2⟩ ?_
  clear hK hSS
  refine wpAnyE_one (i := 16) (by kernel_rfl) rfl (fun Kn hK => ?_)
  go_simp
  refine hK.out _ _ ⟨hSS4.1, fun _ => hSS4.2⟩ ?_
  clear hK
  refine wpAnyE_one (i := 17) (by kernel_rfl) rfl (fun Kn hK => ?_)
  refine step_append_lies _ (by rfl) _ _ _ (by rfl) w1.heap.size 3 i0 (.int .i64 0) 1 8 Tryz.underlying24 hi hz0 hz1 hz2 rfl (by decide) v tn (tl.map (Value.int .i64)) (by rfl) (jo.alloc _) ⟨w3.heap.size, 0, none⟩ 1 1 [.int .i64 y] (by rfl) rfl (news1 _ _ _) (one1 _ _) (by omega) (by unfold maxLen; omega) (by omega) (by rw [World.size_alloc]; omega) _ rfl ?_
  intro g4 cp4 w4 hown hgrow hat hlt4
  have d4 := s3.d.grown hgrow s3.nd
  have bx4 := bx3.grown hgrow (fun e => by have := HLV.out _ e; omega)
  have fd4 := d4.free 2
  have cd4 := d4.cell 2
  simp only [List.getElem?_cons_zero, List.getElem?_cons_succ] at cd4
  have s5 := s3.app hD hDB HTN.out hown hgrow hat (by rw [World.size_alloc]; omega) (by rw [World.size_alloc]; omega)
  have bx5 := bx4.setOther (show W.heap.size ≠ Dd by omega) 2 (.slice (some ⟨g4, 0, none⟩) (tn + 1) cp4)
  have hSS5 : (w4.cell? ⟨Dd, 0, none⟩ = some (.slice (some ⟨B, 0, none⟩) 3 cp) ∧ w4.cell? ⟨Dd, 1, none⟩ = some (.slice ua 2 cu) ∧ w4.cell? ⟨W.heap.size, 0, none⟩ = some (.slice ga 3 gcap) ∧ w4.cell? ⟨W.heap.size, 1, none⟩ = some (.slice gc 2 gcap') ∧ w4.cell? ⟨W.heap.size, 2, none⟩ = some (.int .i64 K)) ∧ w4.cell? ⟨Dd, 2, none⟩ = some v := ⟨⟨d4.cell 0, d4.cell 1, bx4.cell 0, bx4.cell 1, bx4.cell 2⟩, cd4⟩
  have hSS6 : (w4.setCell ⟨Dd, 2, none⟩ (.slice (some ⟨g4, 0, none⟩) (tn + 1) cp4)).cell? ⟨Dd, 0, none⟩ = some (.slice (some ⟨B, 0, none⟩) 3 cp) ∧ (w4.setCell ⟨Dd, 2, none⟩ (.slice (some ⟨g4, 0, none⟩) (tn + 1) cp4)).cell? ⟨Dd, 1, none⟩ = some (.slice ua 2 cu) ∧ (w4.setCell ⟨Dd, 2, none⟩ (.slice (some ⟨g4, 0, none⟩) (tn + 1) cp4)).cell? ⟨W.heap.size, 0, none⟩ = some (.slice ga 3 gcap) ∧ (w4.setCell ⟨Dd, 2, none⟩ (.slice (some ⟨g4, 0, none⟩) (tn + 1) cp4)).cell? ⟨W.heap.size, 1, none⟩ = some (.slice gc 2 gcap') ∧ (w4.setCell ⟨Dd, 2, none⟩ (.slice (some ⟨g4, 0, none⟩) (tn + 1) cp4)).cell? ⟨W.heap.size, 2, none⟩ = some (.int .i64 K) := ⟨s5.d.cell 0, s5.d.cell 1, bx5.cell 0, bx5.cell 1, bx5.cell 2⟩
  have zz : Touch (fun z => z = Dd ∨ v.ownBlock = some z) W (w4.setCell ⟨Dd, 2, none⟩ (.slice (some ⟨g4, 0, none⟩) (tn + 1) cp4)) :=
    Touch.setCell (S := fun z => z = Dd ∨ v.ownBlock = some z) (touch_grown (((Touch.of al).trans (Touch.of b3')).trans (Touch.of ((Below.refl _ _).alloc (Nat.le_refl _) _))) hgrow (fun z hz => .inr hz)) (.inl rfl) _
  have nf : ∀ F, F < W.heap.size → v.ownBlock ≠ some F → Value.ownBlock (.slice (some ⟨g4, 0, none⟩) (tn + 1) cp4) ≠ some F := fun F hF hne e => by
    have e' : g4 = F := by
      have : some g4 = some F := e
      simpa using this
    rcases hat with h | h
    · exact hne (by rw [h, e'])
    · rw [World.size_alloc] at h; omega
  refine hK.out _ _ ⟨hSS5.1, fun _ => hSS5.2⟩ ?_
  clear hK
  refine wpAnyE_one (i := 18) (by kernel_rfl) rfl (fun Kn hK => ?_)
  go_simp
  refine hK.out _ _ ⟨hSS5.1, fun _ => hSS5.2⟩ ?_
  clear hK
  refine wpAnyE_one (i := 19) (by kernel_rfl) rfl (fun Kn hK => ?_)
  go_simp
  refine hK.out _ _ ⟨hSS5.1, fun _ => hSS5.2⟩ ?_
  clear hK
  refine wpAnyE_one (i := 20) (by kernel_rfl) rfl (fun Kn hK => ?_)
  go_simp
  refine hK.out _ _ ⟨hSS6, fun h => absurd (show true = false from h) (by decide)⟩ ?_
  clear hK
  refine wpAnyE_done (by kernel_rfl) ?_ _
  clear b3 b3' sa bxa ia ib iu bx3 bx4 bx5 hSS3 hSS4 hSS5 hSS6 s3 s3a bx3a al d4 fd4 cd4 hown hgrow jo
  go_wp2
  go_ret
  exact ⟨rfl, ⟨_, s5, nf⟩, zz⟩

end Go.Proofs.YtpmihhbgjimpmaaGreatDoor
namespace Go.Proofs.YtpmihhbgjimpmaaGreatDoor
open Go.RowKit
set_option linter.unusedVariables false
set_option maxRecDepth 100000

theorem as_nil_sign (w : World) : (Instr.typeAssert .nilIface 20 161 true).run Tryz.prog w = .ok (.tuple #[.agg #[], .bool false]) w := by kernel_rfl
theorem as_sign_sign (w : World) : (Instr.typeAssert (.iface 161 (.agg #[])) 20 161 true).run Tryz.prog w = .ok (.tuple #[.agg #[], .bool true]) w := by kernel_rfl
theorem ne_nil_nil (w : World) : (binOp .neq 20 .nilIface .nilIface).run Tryz.prog w = .ok (.bool false) w := by kernel_rfl
theorem ne_sign_nil (w : World) : (binOp .neq 20 (.iface 161 (.agg #[])) .nilIface).run Tryz.prog w = .ok (.bool true) w := by kernel_rfl

theorem catch_idle (F : Nat) (b : Bool) (w : World) (hc : w.cell? ⟨F, 0, none⟩ = some (.bool b)) (hz : w.frozen? ⟨F, 0, none⟩ = false) :
    CallsD Tryz.prog 114 #[.pointer (some ⟨F, 0, none⟩)] .returning w fun e u' w' => e = .returned (.tuple #[]) ∧ u' = .returning ∧ w' = w.setCell ⟨F, 0, none⟩ (.bool false) := by
  have h1 := as_nil_sign
  have h2 := ne_nil_nil
  refine callsD_of_wpS Tryz.func114 rfl fun c₀ cs hu => ?_
  apply wpS_seq
  apply wpS_region
  simp [wpOpsS, go_sem, recoverD, hu, Tryz.ntmps114, Exit.thenS]
  refine wpS_of_wp ?_
  go_wp2
  cases c₀
  simp_all [bodyPostS, results, Tryz.results114]

set_option maxHeartbeats 1600000 in
theorem catch_stop (F : Nat) (b : Bool) (older : List PanicEntry) (w : World) (hc : w.cell? ⟨F, 0, none⟩ = some (.bool b)) (hz : w.frozen? ⟨F, 0, none⟩ = false) :
    CallsD Tryz.prog 114 #[.pointer (some ⟨F, 0, none⟩)] (.panicking ({ v := .iface 161 (.agg #[]), recovered := false } :: older)) w fun e u' w' => e = .returned (.tuple #[]) ∧ u' = .panicking ({ v := .iface 161 (.agg #[]), recovered := true } :: older) ∧ w' = w.setCell ⟨F, 0, none⟩ (.bool true) := by
  have h1 := as_sign_sign
  have h2 := ne_sign_nil
  refine callsD_of_wpS Tryz.func114 rfl fun c₀ cs hu => ?_
  apply wpS_seq
  apply wpS_region
  simp [wpOpsS, go_sem, recoverD, hu, Tryz.ntmps114, Exit.thenS]
  refine wpS_of_wp ?_
  go_wp2
  simp [bodyPostS, results, Tryz.results114]

theorem DR.other {w1 W : World} {Dd B cp : Nat} {ua : Option Addr} {cu : Nat} {v : Value} {x tl : List Int} (s : DR w1 Dd B cp ua cu v x tl W) {F : Nat} (h1 : w1.heap.size ≤ F) (h2 : Dd ≠ F) (h3 : F ≠ B) (nF : v.ownBlock ≠ some F) (i : Nat) (y : Value) : DR w1 Dd B cp ua cu v x tl (W.setCell ⟨F, i, none⟩ y) :=
  ⟨s.b.setCell h1 _, s.d.setOther h2 _ _, s.ox.setOther (fun _ => h3) _ _, s.j.set h1 nF _ _, s.ne, s.nd⟩

set_option maxHeartbeats 6400000 in
theorem stops_any (w1 : World) (Dd B cp : Nat) (ua : Option Addr) (cu : Nat) (v : Value) (ad : Option Addr) (N : Nat) (ls : List LV) (V U : List Int) (sa : Option Addr) (scap G : Nat) (W : World)
    (hN : ls.length = N) (h6 : N ≤ 6) (hF : LinesG w1 ad ls) (hall : ls.all LV.ok = true) (hsa : 0 < N → sa = some ⟨G, 0, none⟩) (hst : ∀ i, i < N → w1.cell? ⟨G, i, none⟩ = some (stepV (ls[i]?.getD noLV))) (iU : Ints w1 ua 2 U) (bU : bnd 9 U) (bV : bnd 10000 V) (hVL : V.length = 3)
    (s0 : DR w1 Dd B cp ua cu v V [] W) (hB : w1.heap.size ≤ B) (hD : w1.heap.size ≤ Dd) (hDB : Dd ≠ B) :
    Calls Tryz.prog 70 #[.pointer (some ⟨Dd, 0, none⟩), .slice sa N scap] W fun e w' => e = .returned (.bool (runL U ls V).1) ∧ Below w1.heap.size w1 w' ∧ ((runL U ls V).1 = false → ∃ v' , DR w1 Dd B cp ua cu v' (runL U ls V).2.1 (runL U ls V).2.2 w' ∧ (runL U ls V).2.2.length ≤ 100) := by
  have HN : Hid (ls.length = N) := hN
  have HO : Hid (ls.all LV.ok = true) := hall
  have HST : Hid _ := hst
  have HSA : Hid _ := hsa
  clear hN hall hst hsa
  have hmf : ∀ (fn : Fn) (first cap : Array Value) (w : World), (Instr.makeFunc fn first cap).run Tryz.prog w = .ok (.func fn first cap) w := fun _ _ _ _ => rfl
  have sF := s0.alloc (.cells #[.bool false] 4)
  have cF := Cel.new W [.bool false] 4
  have nF : v.ownBlock ≠ some W.heap.size := fun e => by have := (s0.j.o.lt _ e).2; omega
  have lB := s0.ox.lt (by omega)
  have lD := s0.d.lt
  have HAT : Hid (At U ls V 0 V []) := At.start bV hVL
  clear s0
  go_enter_defers Tryz.func70, Tryz.ntmps70
  go_wp2_with fail
  go_loopw [5] (fun i wr => ∃ (k : Nat) (x tl : List Int) (v' : Value), k ≤ 12 ∧ i = .int .i64 k ∧ At U ls V k x tl ∧ DR w1 Dd B cp ua cu v' x tl wr ∧ Cel wr W.heap.size [.bool false] 4 ∧ v'.ownBlock ≠ some W.heap.size) (fun i _ => N - (intOf i).toNat)
  case atStart => exact ⟨0, V, [], v, by omega, rfl, HAT.out, sF, cF, nF⟩
  case round =>
    clear sF cF nF HAT
    obtain ⟨k, x, tl, v', hk12, rfl, hAt, s, cF, nF⟩ := hrel
    have HAT : Hid (At U ls V k x tl) := hAt
    clear hAt
    have c0 := cF.cell 0
    have f0 := cF.free 0
    simp only [List.getElem?_cons_zero] at c0
    have zw := s.b.size
    have z1 : w1.heap.size ≤ W.heap.size := by omega
    by_cases hlt : k < N
    · obtain ⟨b, off, rfl, hc, hAtL⟩ := (hF.below s.b) k (by rw [HN.out]; exact hlt)
      have hok := allL_at (k := k) HO.out (by rw [HN.out]; exact hlt)
      have hkl : Hid (k < ls.length) := by show k < ls.length; rw [HN.out]; exact hlt
      have h6l : Hid (ls.length ≤ 6) := by show ls.length ≤ 6; rw [HN.out]; exact h6
      have bX := HAT.out.b (by omega)
      have bd6 := bd_six (n := k) (by omega)
      have bdp := bd_pos k
      obtain rfl := HSA.out (by omega)
      have hstep : wr.cell? ⟨G, k, none⟩ = some (stepV (ls[k]?.getD noLV)) := by
        have h0 := HST.out k hlt
        rw [s.b.cell (p := ⟨G, k, none⟩) (block_lt h0)]; exact h0
      generalize HG : ls[k]?.getD noLV = g at *
      have HG' : Hid (ls[k]?.getD noLV = g) := HG
      clear HG hc
      obtain ⟨gk, gp, gz, ⟨ga, gn, gcap, gc, gm, gcap', gK, gC, gD⟩⟩ := g
      obtain ⟨iC, iD, hn, hm⟩ := hAtL
      simp only at iC iD hn hm
      have iUr := iU.below s.b
      have hok' : lineB gk gp gz gn gm gC gD gK = true := hok
      clear hok
      by_cases hk1 : gk = 1
      · subst hk1
        obtain ⟨z1', z2', hsm⟩ := line_one hok'
        obtain ⟨rfl, rfl, bC, bD, bK1, bK2⟩ := small_elim hsm
        obtain ⟨q1, q2, q3, q4⟩ := small_at bC bD bK1 bK2 bX bU (by omega)
        obtain ⟨y, hy⟩ : ∃ y, atV gC gD gK x U = y := ⟨_, rfl⟩
        have HY : Hid (atV gC gD gK x U = y) := hy
        have HS : Hid (∀ j, (j = if y < 0 then k + 1 + gz.toNat else k + 1) → At U ls V j x tl) := fun j hj => HAT.out.skip hkl.out h6l.out HG'.out rfl (by rw [hj, ← hy]; rfl)
        have hstep' : wr.cell? ⟨G, k, none⟩ = some (.iface 198 (.agg #[.int .i64 gz, .slice ga 3 gcap, .slice gc 2 gcap', .int .i64 gK])) := by rw [hstep]; rfl
        clear hy hok' hsm bX q3 q4 hstep
        by_cases hneg : y < 0
        · go_wp2_with fail
          refine (leave_test w1 Dd B cp ua cu v' x tl _ _ _ _ _ _ gC gD U y _ _ _ s iC iD iUr HY.out q1 q2 (by omega) (by omega) (by omega) (by omega) ⟨by omega, by omega⟩).mono ?_
          rintro e w3 ⟨rfl, b3⟩
          rw [if_pos hneg]
          have s3 := s.below b3
          have cF3 := cF.below b3
          clear b3 s iC iD iUr q1 q2 c0 f0 cF hstep'
          go_wp2
          go_roundw
          case rel => exact ⟨k + 1 + gz.toNat, x, tl, v', by omega, by go_num, HS.out _ (by rw [if_pos hneg]), s3, cF3, nF⟩
          case measure => simp [intOf]; omega
        · go_wp2_with fail
          refine (leave_test w1 Dd B cp ua cu v' x tl _ _ _ _ _ _ gC gD U y _ _ _ s iC iD iUr HY.out q1 q2 (by omega) (by omega) (by omega) (by omega) ⟨by omega, by omega⟩).mono ?_
          rintro e w3 ⟨rfl, b3⟩
          rw [if_neg (by omega)]
          have s3 := s.below b3
          have cF3 := cF.below b3
          clear b3 s iC iD iUr q1 q2 c0 f0 cF hstep'
          go_wp2
          go_roundw
          case rel => exact ⟨k + 1, x, tl, v', by omega, by go_num, HS.out _ (by rw [if_neg (by omega)]), s3, cF3, nF⟩
          case measure => simp [intOf]; omega
      by_cases hk2 : gk = 2
      · subst hk2
        obtain ⟨z1', z2', hsm⟩ := line_two hok'
        obtain ⟨rfl, rfl, bC, bD, bK1, bK2⟩ := small_elim hsm
        obtain ⟨q1, q2, q3, q4⟩ := small_at bC bD bK1 bK2 bX bU (by omega)
        obtain ⟨pn, rfl⟩ := Int.eq_ofNat_of_zero_le z1'
        have hpn : pn < 3 := by omega
        obtain ⟨xp, hxp⟩ : ∃ xp, x[pn]?.getD 0 = xp := ⟨_, rfl⟩
        have HXP : Hid (x[pn]?.getD 0 = xp) := hxp
        obtain ⟨r1, r2⟩ := bX pn
        rw [hxp] at r1 r2
        obtain ⟨y, hy⟩ : ∃ y, atV gC gD gK x U = y := ⟨_, rfl⟩
        have HY : Hid (atV gC gD gK x U = y) := hy
        rw [hy] at q3 q4
        have HS : Hid (At U ls V (k + 1) (x.set pn (xp + y)) tl) := by
          have := HAT.out.add hkl.out h6l.out HG'.out rfl (by show _ ≤ atV gC gD gK x U; rw [hy]; omega) (by show atV gC gD gK x U ≤ _; rw [hy]; omega)
          simp only [Int.toNat_natCast, hxp] at this
          rw [show atF x U ⟨ga, 3, gcap, gc, 2, gcap', gK, gC, gD⟩ = y from hy] at this
          exact this
        have hstep' : wr.cell? ⟨G, k, none⟩ = some (.iface 200 (.agg #[.int .i64 (pn : Int), .slice ga 3 gcap, .slice gc 2 gcap', .int .i64 gK])) := by rw [hstep]; rfl
        clear hy hxp hok' hsm bX hstep
        go_wp2_with fail
        refine (leave_add w1 Dd B cp ua cu v' x tl pn xp _ _ _ _ _ gC gD U y _ _ _ s iC iD iUr HY.out q1 q2 (by omega) (by omega) (by omega) (by omega) ⟨by omega, by omega⟩ hpn HXP.out (by omega) (by omega) (by omega) (by omega) hB hDB).mono ?_
        rintro e w3 ⟨rfl, s3, t3⟩
        have cF3 := cF.touch t3 (fun e => by omega)
        clear t3 s iC iD iUr q1 q2 c0 f0 cF hstep'
        go_wp2
        go_roundw
        case rel => exact ⟨k + 1, _, tl, v', by omega, by go_num, HS.out, s3, cF3, nF⟩
        case measure => simp [intOf]; omega
      by_cases hk3 : gk = 3
      · subst hk3
        have hsm := line_three hok'
        obtain ⟨rfl, rfl, bC, bD, bK1, bK2⟩ := small_elim hsm
        obtain ⟨q1, q2, q3, q4⟩ := small_at bC bD bK1 bK2 bX bU (by omega)
        obtain ⟨y, hy⟩ : ∃ y, atV gC gD gK x U = y := ⟨_, rfl⟩
        have HY : Hid (atV gC gD gK x U = y) := hy
        have HS : Hid (At U ls V (k + 1) x (tl ++ [y])) := by
          have := HAT.out.tell hkl.out h6l.out HG'.out rfl
          rw [show atF x U ⟨ga, 3, gcap, gc, 2, gcap', gK, gC, gD⟩ = y from hy] at this
          exact this
        have ht := HAT.out.t
        have hstep' : wr.cell? ⟨G, k, none⟩ = some (.iface 202 (.agg #[.slice ga 3 gcap, .slice gc 2 gcap', .int .i64 gK])) := by rw [hstep]; rfl
        have lF := cF.lt
        clear hy hok' hsm bX q3 q4 hstep
        go_wp2_with fail
        refine (leave_tell w1 Dd B cp ua cu v' x tl tl.length _ _ _ _ _ gC gD U y _ _ _ s iC iD iUr HY.out q1 q2 (by omega) (by omega) (by omega) (by omega) ⟨by omega, by omega⟩ rfl (by omega) hB hD hDB).mono ?_
        rintro e w3 ⟨rfl, ⟨v2, s3, nf⟩, t3⟩
        have cF3 := cF.touch t3 (fun e => by
          rcases e with e | e
          · omega
          · exact nF e)
        have nF3 := nf _ lF nF
        clear t3 s iC iD iUr q1 q2 c0 f0 cF hstep' nf
        go_wp2
        go_roundw
        case rel => exact ⟨k + 1, x, tl ++ [y], v2, by omega, by go_num, HS.out, s3, cF3, nF3⟩
        case measure => simp [intOf]; omega
      have hk4 : gk = 4 := by
        apply Classical.byContradiction
        intro h4
        simp [lineB, hk1, hk2, hk3, h4] at hok'
      subst hk4
      have hstop : (runL U ls V).1 = true := HAT.out.stop hkl.out h6l.out HG'.out hk1 hk2 hk3
      have HSTOP : Hid ((runL U ls V).1 = true) := hstop
      have hstep' : wr.cell? ⟨G, k, none⟩ = some (.iface 203 (.agg #[])) := by rw [hstep]; rfl
      clear hstop hstep hok' bX
      go_wp2_with fail
      refine (leave_stop _ _).mono ?_
      rintro e w3 ⟨rfl, b3⟩
      have s3 := s.below b3
      have cF3 := cF.below b3
      clear b3 s cF c0 f0
      go_wp2
      refine leaves_cons (f := 114) (args := #[.pointer (some ⟨W.heap.size, 0, none⟩)]) (by simp) (by simp [go_sem]) ?_
      refine (catch_stop W.heap.size false [] _ (cF3.cell 0) (cF3.free 0)).mono ?_
      rintro e u' w'' ⟨rfl, rfl, rfl⟩
      have cF4 := (cF3.set 0 (.bool true)).cell 0
      simp only [List.set_cons_zero, List.getElem?_cons_zero] at cF4
      have b4 : Below w1.heap.size w1 (w3.setCell ⟨W.heap.size, 0, none⟩ (.bool true)) := s3.b.setCell z1 _
      simp [Leaves, settle, results, Tryz.results70, go_sem, cF4]
      exact ⟨HSTOP.out, b4, fun h => by rw [HSTOP.out] at h; cases h⟩
    · have hd := HAT.out.done (by rw [HN.out]; omega)
      have HD : Hid (runL U ls V = (false, x, tl)) := hd
      have ht := HAT.out.t
      clear hd
      go_wp2
      have cF1 := cF.set 0 (.bool false)
      refine leaves_cons (f := 114) (args := #[.pointer (some ⟨W.heap.size, 0, none⟩)]) (by simp) (by simp [go_sem]) ?_
      refine (catch_idle W.heap.size false _ (cF1.cell 0) (cF1.free 0)).mono ?_
      rintro e u' w'' ⟨rfl, rfl, rfl⟩
      have cF2 := (cF1.set 0 (.bool false)).cell 0
      have s2 := (s.other (F := W.heap.size) z1 (by omega) (by omega) nF 0 (.bool false)).other (F := W.heap.size) z1 (by omega) (by omega) nF 0 (.bool false)
      simp only [List.set_cons_zero, List.getElem?_cons_zero] at cF2
      simp [Leaves, settle, results, Tryz.results70, go_sem, cF2]
      rw [HD.out]
      exact ⟨rfl, s2.b, fun _ => ⟨⟨v', s2⟩, by show tl.length ≤ 100; omega⟩⟩

end Go.Proofs.YtpmihhbgjimpmaaGreatDoor
namespace Go.Proofs.YtpmihhbgjimpmaaGreatDoor
open Go.RowKit
set_option linter.unusedVariables false
set_option maxRecDepth 100000

theorem JS.open {w W : World} {v : Value} {ls : List LV} {N : Nat} (j : JS w v (ls.map stepV) W) (hN : ls.length = N) : ∃ sa cap G, v = .slice sa N cap ∧ (0 < N → sa = some ⟨G, 0, none⟩) ∧ ∀ i, i < N → W.cell? ⟨G, i, none⟩ = some (stepV (ls[i]?.getD noLV)) := by
  have hl : (ls.map stepV).length = N := by rw [List.length_map, hN]
  rcases j.o.2 with ⟨hv, h⟩ | ⟨g, cap', cur, hv, hg, hh, hcl, _, hs, ht⟩
  · rw [hl] at h
    subst h
    exact ⟨none, 0, 0, hv, fun h => by omega, fun i h => by omega⟩
  · have o := j.o
    rw [hl] at hv o
    rw [hv] at o
    refine ⟨some ⟨g, 0, none⟩, cap', g, hv, fun _ => rfl, fun i hi => ?_⟩
    rw [o.cellAt i (by omega), List.getElem?_map, List.getElem?_eq_getElem (by omega)]
    rfl

set_option maxHeartbeats 6400000 in
theorem irun_any (ad : Option Addr) (N cap : Nat) (ls : List LV) (v : Option Addr) (p cv : Nat) (V : List Int) (u : Option Addr) (q cu : Nat) (U : List Int) (w : World) (hN : ls.length = N) (hF : LinesG w ad ls) (hN1 : N ≤ 1048576) (hV : Ints w v p V) (hU : Ints w u q U) (hp : p ≤ 1048576) (hq : q ≤ 1048576) :
    Calls Tryz.prog 24 #[.slice ad N cap, .slice v p cv, .slice u q cu] w fun e w' => ResD w w' e (runCode N ls p V q U) (runTells N ls p V q U) (runPots N ls p V q U) := by
  have rc0 := Cel.new w [.int .i64 0, .slice none 0 0] 54
  have B0 : Below w.heap.size w (w.alloc (.cells #[.int .i64 0, .slice none 0 0] 54)) := (Below.refl _ _).alloc (Nat.le_refl _) _
  have HN : Hid (ls.length = N) := hN
  clear hN
  obtain ⟨rb, hrb⟩ : ∃ rb, rb = actB N ls := ⟨_, rfl⟩
  obtain ⟨vb, hvb⟩ : ∃ vb, vb = okN 3 10000 p V := ⟨_, rfl⟩
  obtain ⟨ub, hub⟩ : ∃ ub, ub = okN 2 9 q U := ⟨_, rfl⟩
  have HR : Hid (rb = actB N ls) := hrb
  have HV : Hid (vb = okN 3 10000 p V) := hvb
  have HU : Hid (ub = okN 2 9 q U) := hub
  clear hrb hvb hub
  go_enter Tryz.func24, Tryz.ntmps24
  go_wp2_with fail
  refine (isteps_any _ _ _ ls _ HN.out (hF.below B0) hN1).mono ?_
  rintro e w1 ⟨sv, rfl, b1, hj⟩
  have rc1 := rc0.below b1
  have B1 := B0.trans (b1.mono B0.size)
  have hlt1 := rc1.lt
  rw [← HR.out] at hj ⊢
  clear b1 rc0 B0
  obtain ⟨d0, d1, f0, f1⟩ := rc1.pair
  cases rb
  · have E : Hid _ := run_no (p := p) (q := q) (V := V) (U := U) (show runB N ls p V q U = false by rw [runB, ← HR.out]; rfl)
    go_wp2
    refine bodyPost_ret (v := .tuple #[resV 0 none 0 0, .slice none 0 0]) (by simp [results, Tryz.results24, go_sem, d0, d1]) rfl ?_
    obtain ⟨e1, e2, e3⟩ := E.out
    rw [e1, e2, e3]
    exact ⟨none, 0, 0, 0, _, 0, 0, 0, rfl, rfl, rfl, (B1.setCell (by simp only []; omega) _).setCell (by simp only []; omega) _, OwnX.nil _ _ _, OwnX.nil _ _ _, fun h => by omega, fun h => by omega, fun h => by omega⟩
  have js : Hid _ := hj rfl
  clear hj
  go_wp2_with fail
  refine (ival_any _ _ _ V _ (hV.below B1) hp).mono ?_
  rintro e w2 ⟨rfl, hw2⟩
  rw [← HV.out, hw2]
  clear hw2
  cases vb
  · have E : Hid _ := run_no (p := p) (q := q) (V := V) (U := U) (show runB N ls p V q U = false by rw [runB, ← HR.out, ← HV.out]; rfl)
    go_wp2
    refine bodyPost_ret (v := .tuple #[resV 0 none 0 0, .slice none 0 0]) (by simp [results, Tryz.results24, go_sem, d0, d1]) rfl ?_
    obtain ⟨e1, e2, e3⟩ := E.out
    rw [e1, e2, e3]
    exact ⟨none, 0, 0, 0, _, 0, 0, 0, rfl, rfl, rfl, (B1.setCell (by simp only []; omega) _).setCell (by simp only []; omega) _, OwnX.nil _ _ _, OwnX.nil _ _ _, fun h => by omega, fun h => by omega, fun h => by omega⟩
  go_wp2_with fail
  refine (iarg_any _ _ _ U _ (hU.below B1) hq).mono ?_
  rintro e w2 ⟨rfl, hw2⟩
  rw [← HU.out, hw2]
  clear hw2
  cases ub
  · have E : Hid _ := run_no (p := p) (q := q) (V := V) (U := U) (show runB N ls p V q U = false by rw [runB, ← HR.out, ← HV.out, ← HU.out]; rfl)
    go_wp2
    refine bodyPost_ret (v := .tuple #[resV 0 none 0 0, .slice none 0 0]) (by simp [results, Tryz.results24, go_sem, d0, d1]) rfl ?_
    obtain ⟨e1, e2, e3⟩ := E.out
    rw [e1, e2, e3]
    exact ⟨none, 0, 0, 0, _, 0, 0, 0, rfl, rfl, rfl, (B1.setCell (by simp only []; omega) _).setCell (by simp only []; omega) _, OwnX.nil _ _ _, OwnX.nil _ _ _, fun h => by omega, fun h => by omega, fun h => by omega⟩
  have HB : Hid (runB N ls p V q U = true) := by show _ = _; rw [runB, ← HR.out, ← HV.out, ← HU.out]; rfl
  obtain ⟨h6, hall⟩ := actB_six HR.out.symm
  have HO : Hid (ls.all LV.ok = true) := hall
  obtain ⟨rfl, bV⟩ := okN_nat (c := 3) (by omega) HV.out.symm
  obtain ⟨rfl, bU⟩ := okN_nat (c := 2) (by omega) HU.out.symm
  have HVL : Hid (V.length = 3) := hV.1
  obtain ⟨sa, scap, G, rfl, hsa, hst⟩ := js.out.open HN.out
  have HSA : Hid _ := hsa
  have HST : Hid _ := hst
  clear hsa hst js hall
  go_wp2_with fail
  refine (clone_any _ _ _ V _ (hV.below B1) (by omega) (by omega)).mono ?_
  rintro e w2 ⟨r, rfl, j⟩
  have rc2 := rc1.below j.b
  have B2 := B1.trans (j.b.mono B1.size)
  have jb := j.b
  obtain ⟨x0, cx, B, rfl, hX, hB⟩ := j.ownx HVL.out
  have hB' := hB (by omega)
  obtain ⟨eB, _, _⟩ := hX.pos (by omega)
  subst eB
  have lB := hX.lt (by omega)
  have s0 : DR w1 w2.heap.size B cx u cu (.slice none 0 0) V [] (w2.alloc (.cells #[.slice (some ⟨B, 0, none⟩) 3 cx, .slice u 2 cu, .slice none 0 0] 114)) := by
    refine ⟨jb.alloc jb.size _, Cel.new w2 _ _, hX.alloc _, ⟨jb.alloc jb.size _, World.ownsRow_nil _ _ _ _⟩, ?_, ?_⟩ <;> (intro h; cases h)
  have rc2a := rc2.alloc (.cells #[.slice (some ⟨B, 0, none⟩) 3 cx, .slice u 2 cu, .slice none 0 0] 114)
  have rc1' : Hid (Cel w1 w.heap.size [.int .i64 0, .slice none 0 0] 54) := rc1
  clear d0 d1 f0 f1 rc1 j hB hX rc2
  have z2 := jb.size
  go_wp2_with fail
  refine (stops_any w1 w2.heap.size B cx u cu (.slice none 0 0) ad N ls V U sa scap G _ HN.out h6 (hF.below B1) HO.out HSA.out HST.out (hU.below B1) bU bV HVL.out s0 hB' z2 (by omega)).mono ?_
  rintro e w3 ⟨rfl, b3, hgo⟩
  have B3 : Below w.heap.size w w3 := B1.trans (b3.mono B1.size)
  obtain ⟨cw0, cw1⟩ : w1.heap.size ≤ w3.heap.size ∧ w.heap.size < w1.heap.size := ⟨b3.size, hlt1⟩
  have rc3 : Cel w3 w.heap.size [.int .i64 0, .slice none 0 0] 54 := by
    have := rc1'.out
    unfold Cel at *
    rw [b3.block _ hlt1]; exact this
  obtain ⟨⟨stp, x, tl⟩, hrun⟩ : ∃ r, runL U ls V = r := ⟨_, rfl⟩
  rw [hrun] at hgo ⊢
  have HRUN : Hid (runL U ls V = (stp, x, tl)) := hrun
  clear hrun s0 rc2a
  obtain ⟨d0, d1, f0, f1⟩ := rc3.pair
  cases stp
  case true =>
    have E : Hid _ := run_stop HB.out (by rw [HRUN.out])
    clear hgo
    go_wp2_with fail
    refine (clone_any _ _ _ V _ (hV.below B3) (by omega) (by omega)).mono ?_
    rintro e w4 ⟨r, rfl, j⟩
    have rc4 := rc3.below j.b
    obtain ⟨x4, cx4, B4, rfl, hX4, hB4⟩ := j.ownx HVL.out
    have bb := B3.trans (j.b.mono B3.size)
    clear d0 d1 f0 f1
    obtain ⟨d0, d1, f0, f1⟩ := rc4.pair
    have hlt4 := rc4.lt
    clear rc4 j rc3
    go_wp2
    refine bodyPost_ret (v := .tuple #[resV 2 none 0 0, .slice x4 3 cx4]) (by simp [results, Tryz.results24, go_sem, d0, d1]) rfl ?_
    obtain ⟨e1, e2, e3⟩ := E.out
    rw [e1, e2, e3]
    refine ⟨none, 0, 0, 0, x4, 3, cx4, B4, rfl, rfl, HVL.out, ?_, OwnX.nil _ _ _, ?_, fun h => by omega, fun h => by have := hB4 h; omega, fun h => by omega⟩
    · exact (bb.setCell (Nat.le_refl _) _).setCell (Nat.le_refl _) _
    · exact (hX4.setOther (fun h => by have := hB4 h; omega) _ _).setOther (fun h => by have := hB4 h; omega) _ _
  case false =>
    have E : Hid _ := run_go HB.out HRUN.out
    obtain ⟨v', s3, htl⟩ := hgo rfl
    clear hgo
    obtain ⟨tn, htn⟩ : ∃ tn, tl.length = tn := ⟨_, rfl⟩
    have HTN : Hid (tl.length = tn) := htn
    obtain ⟨ta, ctt, BT, hv, hT, hBT⟩ := s3.j.ownx HTN.out
    have hne : 0 < tn → BT ≠ B := fun h0 e => by
      obtain ⟨e1, _, _⟩ := hT.pos h0
      exact s3.ne (by rw [hv, e1, e]; rfl)
    have ox := s3.ox
    have c0 := s3.d.cell 0
    have c2 := s3.d.cell 2
    simp only [List.getElem?_cons_zero, List.getElem?_cons_succ] at c0 c2
    clear htn s3
    subst hv
    go_wp2_with fail
    refine (done_any _ _ _ _ B _ _ _ BT V x tl _ (hV.below B3) ox hT hne (w.heap.size + 1) (fun h => by have := hBT h; omega) (by omega) (by omega)).mono ?_
    rintro e w6 ⟨ra, rn, rcap, RB1, pb, pm, pcap, RB2, rfl, L1, L2, b6, O1, O2, y1, y2, y3⟩
    have rc6 := rc3.below b6
    have b66 := B3.trans (b6.mono B3.size)
    have hlt6 := rc6.lt
    clear d0 d1 f0 f1
    obtain ⟨d0, d1, f0, f1⟩ := rc6.pair
    clear rc6 rc3 ox hT c0 c2
    go_wp2
    refine bodyPost_ret (v := .tuple #[resV (endCode x) ra rn rcap, .slice pb pm pcap]) (by simp [results, Tryz.results24, go_sem, d0, d1]) rfl ?_
    obtain ⟨e1, e2, e3⟩ := E.out
    rw [e1, e2, e3]
    refine ⟨ra, rn, rcap, RB1, pb, pm, pcap, RB2, rfl, L1, L2, ?_, ?_, ?_, fun h => by have := y1 h; omega, fun h => by have := y2 h; omega, y3⟩
    · exact (b66.setCell (Nat.le_refl _) _).setCell (Nat.le_refl _) _
    · exact (O1.setOther (fun h => by have := y1 h; omega) _ _).setOther (fun h => by have := y1 h; omega) _ _
    · exact (O2.setOther (fun h => by have := y2 h; omega) _ _).setOther (fun h => by have := y2 h; omega) _ _

end Go.Proofs.YtpmihhbgjimpmaaGreatDoor
namespace Go.Proofs.YtpmihhbgjimpmaaGreatDoor
open Go.RowKit
set_option linter.unusedVariables false

/-- Both lists of a form lie in memory. -/
structure FA (w : World) (a : Option Addr) (n : Nat) (c : Option Addr) (m : Nat) (f : Frm) : Prop where
  C : Ints w a n f.1
  D : Ints w c m f.2.1
  hn : n ≤ 1048576
  hm : m ≤ 1048576
theorem FA.below {w w' : World} {a c : Option Addr} {n m : Nat} {f : Frm} (h : FA w a n c m f) (b : Below w.heap.size w w') : FA w' a n c m f := ⟨h.C.below b, h.D.below b, h.hn, h.hm⟩
/-- A call has made this form. -/
def Mk (w w' : World) (e : Ending) (f : Frm) : Prop := ∃ a n cap c m cap', e = .returned (formV a n cap c m cap' f.2.2) ∧ FA w' a n c m f ∧ Below w.heap.size w w'
theorem Mk.of {w w' : World} {e : Ending} {C D : List Int} {K : Int} (h : Res w w' e C D K) (h1 : C.length ≤ 1048576) (h2 : D.length ≤ 1048576) : Mk w w' e (C, D, K) := by
  obtain ⟨a, n, cap, c, m, cap', B1, B2, he, rfl, rfl, hb, o1, o2, _, _, _⟩ := h
  exact ⟨a, _, cap, c, _, cap', he, ⟨o1.ints, o2.ints, h1, h2⟩, hb⟩

def okP (f : Frm) : Bool := formB f.1.length f.2.1.length f.1 f.2.1 f.2.2
def vOk (V : List Int) : Bool := okN 3 10000 V.length V
def aOk (A : List Int) : Bool := okN 2 9 A.length A
def addB (f g : Frm) : Bool := addOk f.1.length f.2.1.length f.1 f.2.1 f.2.2 g.1.length g.2.1.length g.1 g.2.1 g.2.2
def addP (f g : Frm) : Frm := (keepL (addB f g) (lin f.1 g.1 1), keepL (addB f g) (lin f.2.1 g.2.1 1), keepK (addB f g) (f.2.2 + 1 * g.2.2))
def timB (f : Frm) (k : Int) : Bool := timOk f.1.length f.2.1.length f.1 f.2.1 f.2.2 k
def timP (f : Frm) (k : Int) : Frm := (keepL (timB f k) (mulL k f.1), keepL (timB f k) (mulL k f.2.1), keepK (timB f k) (k * f.2.2))
def atB (f : Frm) (V A : List Int) : Bool := atOk f.1.length f.2.1.length V.length A.length f.1 f.2.1 f.2.2 V A
def atP (f : Frm) (V A : List Int) : Int := atN f.1.length f.2.1.length V.length A.length f.1 f.2.1 f.2.2 V A
def potP (v : Int) : Frm := (potC v, potD v, 0)
def zeroP : Frm := ([0, 0, 0], [0, 0], 0)
def coP (f g : Frm) : Bool := eqF f.1 f.2.1 f.2.2 g.1 g.2.1 g.2.2
theorem coP_same (f : Frm) : coP f f = true := eqF_refl _ _ _
theorem coP_of {f g : Frm} (h : f = g) : coP f g = true := h ▸ coP_same f
theorem lin_le {xs ys : List Int} {n : Int} {N : Nat} (h : xs.length ≤ N) : (lin xs ys n).length ≤ N := by simp only [lin, List.length_zipWith]; omega

theorem pAdd (f g : Frm) (a : Option Addr) (n cap : Nat) (c : Option Addr) (m cap' : Nat) (a2 : Option Addr) (n2 cap2 : Nat) (c2 : Option Addr) (m2 cap2' : Nat) (w : World) (hf : FA w a n c m f) (hg : FA w a2 n2 c2 m2 g) :
    Calls Tryz.prog 191 #[formV a n cap c m cap' f.2.2, formV a2 n2 cap2 c2 m2 cap2' g.2.2] w fun e w' => Mk w w' e (addP f g) := by
  obtain rfl := hf.C.1
  obtain rfl := hf.D.1
  obtain rfl := hg.C.1
  obtain rfl := hg.D.1
  exact (iadd_any a _ cap c _ cap' f.2.2 f.1 f.2.1 a2 _ cap2 c2 _ cap2' g.2.2 g.1 g.2.1 w hf.C hf.D hg.C hg.D hf.hn hf.hm hg.hn hg.hm).mono fun e w' h => Mk.of h (keepL_len (lin_le hf.hn)) (keepL_len (lin_le hf.hm))

theorem pTim (f : Frm) (k : Int) (a : Option Addr) (n cap : Nat) (c : Option Addr) (m cap' : Nat) (w : World) (hf : FA w a n c m f) :
    Calls Tryz.prog 192 #[formV a n cap c m cap' f.2.2, .int .i64 k] w fun e w' => Mk w w' e (timP f k) := by
  obtain rfl := hf.C.1
  obtain rfl := hf.D.1
  exact (itim_any a _ cap c _ cap' f.2.2 f.1 f.2.1 k w hf.C hf.D hf.hn hf.hm).mono fun e w' h => Mk.of h (keepL_len (by rw [mulL_len]; exact hf.hn)) (keepL_len (by rw [mulL_len]; exact hf.hm))

theorem pZero (w : World) : Calls Tryz.prog 52 #[] w fun e w' => Mk w w' e zeroP := (izero_res w).mono fun e w' h => Mk.of h (by simp) (by simp)

theorem pPot (v : Int) (w : World) : Calls Tryz.prog 157 #[.int .i64 v] w fun e w' => Mk w w' e (potP v) := (ipot_any v w).mono fun e w' h => Mk.of h (potC_len v) (potD_len v)

theorem pOk (f : Frm) (a : Option Addr) (n cap : Nat) (c : Option Addr) (m cap' : Nat) (w : World) (hf : FA w a n c m f) :
    Calls Tryz.prog 51 #[formV a n cap c m cap' f.2.2] w fun e w' => e = .returned (.bool (okP f)) ∧ Below w.heap.size w w' := by
  obtain rfl := hf.C.1
  obtain rfl := hf.D.1
  go_enter Tryz.func51, Tryz.ntmps51
  go_wp2_with fail
  refine (iok_any a _ cap c _ cap' f.2.2 f.1 f.2.1 _ (hf.C.alloc _) (hf.D.alloc _) hf.hn hf.hm).mono ?_
  rintro e w1 ⟨rfl, b1⟩
  go_wp2
  go_ret
  exact ⟨rfl, ((Below.refl _ _).alloc (Nat.le_refl _) _).trans (b1.mono (by simp))⟩

set_option maxHeartbeats 400000 in
theorem coI_any (a c : Option Addr) (n m cap cap' : Nat) (xs ys : List Int) (w : World) (h : Ints w a n xs) (h' : Ints w c m ys) (hn : n ≤ 1048576) (hm : m ≤ 1048576) :
    Calls Tryz.prog 17 #[.slice a n cap, .slice c m cap'] w fun e w' => e = .returned (.bool (eqB xs ys)) ∧ Below w.heap.size w w' := by
  have hx := h.1
  have HX : Hid (xs.length = n) := hx
  have hy := h'.1
  have HY : Hid (ys.length = m) := hy
  clear hx hy
  by_cases hc : n = m
  · subst hc
    go_enter Tryz.func17, Tryz.ntmps17
    go_wp2_with fail
    go_loopw [5] (fun i wr => ∃ k : Nat, k ≤ n ∧ i = .int .i64 k ∧ Below w.heap.size w wr ∧ xs.take k = ys.take k) (fun i _ => n - (intOf i).toNat)
    case atStart => exact ⟨0, Nat.zero_le _, rfl, Below.refl _ _, rfl⟩
    case round =>
      obtain ⟨k, hk, rfl, hnx, hall⟩ := hrel
      have HA : Hid (xs.take k = ys.take k) := hall
      clear hall
      by_cases hlt : k < n
      · obtain ⟨b, off, rfl, hcell⟩ := (h.below hnx).pos (by omega)
        obtain ⟨b', off', rfl, hcell'⟩ := (h'.below hnx).pos (by omega)
        have hck := hcell k hlt
        have hck' := hcell' k hlt
        have hlt' : (k : Int) < (n : Int) := by omega
        clear hcell hcell' h h'
        go_wp2_with fail
        go_quiet (fail)
        cases he : (xs[k]?.getD 0 != ys[k]?.getD 0)
        · go_wp2
          go_roundw
          case rel => exact ⟨k + 1, by omega, by go_num, below_drewN hnx _, take_same_succ (by rw [HX.out]; exact hlt) (by rw [HY.out]; exact hlt) HA.out (by simpa using he)⟩
          case measure => simp [intOf]; omega
        · go_wp2
          go_ret
          exact ⟨ret_bool (by rw [eqB_false (k := k) (by simpa using he)]), below_drewN hnx _⟩
      · go_wp2
        go_ret
        exact ⟨ret_bool (by rw [eqB_true HX.out HY.out (by omega) HA.out]), hnx⟩
  · have hne : ((n : Int) != (m : Int)) = true := by simp; omega
    go_enter Tryz.func17, Tryz.ntmps17
    go_wp2
    go_ret
    exact ⟨ret_bool (by rw [eqB_len (by rw [HX.out, HY.out]; exact hc)]), Below.refl _ _⟩

/-- Zero is ok: what every program of this kind says. -/
theorem coHolds_any (w : World) : Calls Tryz.prog 14 #[] w fun e w' => e = .returned (.bool true) ∧ Below w.heap.size w w' := by
  go_enter Tryz.func14, Tryz.ntmps14
  go_wp2_with fail
  refine (pZero _).mono ?_
  rintro e w1 ⟨a, n, cap, c, m, cap', rfl, h1, b1⟩
  go_wp2_with fail
  refine (pOk zeroP _ _ _ _ _ _ _ h1).mono ?_
  rintro e w2 ⟨rfl, b2⟩
  have hz : okP zeroP = true := by decide
  rw [hz]
  go_wp2
  go_ret
  exact ⟨rfl, b1.trans (b2.mono b1.size)⟩

end Go.Proofs.YtpmihhbgjimpmaaGreatDoor
namespace Go.Proofs.YtpmihhbgjimpmaaGreatDoor
open Go.RowKit
set_option linter.unusedVariables false

theorem pair_of {A : List Int} (h : A.length = 2) : ∃ x y, A = [x, y] := by
  match A, h with
  | [x, y], _ => exact ⟨x, y, rfl⟩
theorem three_of {A : List Int} (h : A.length = 3) : ∃ x y z, A = [x, y, z] := by
  match A, h with
  | [x, y, z], _ => exact ⟨x, y, z, rfl⟩
/-- Within what a form's numbers may be. -/
def inM (x : Int) : Prop := -10000000 ≤ x ∧ x ≤ 10000000
theorem okP_of {x y z s t K : Int} (hx : inM x) (hy : inM y) (hz : inM z) (hs : inM s) (ht : inM t) (hK : inM K) : okP ([x, y, z], [s, t], K) = true := by
  unfold inM at *
  simp [okP, formB, okN, allB, inB]
  omega
theorem okP_shape {f : Frm} (h : okP f = true) : ∃ x y z s t K, f = ([x, y, z], [s, t], K) ∧ inM x ∧ inM y ∧ inM z ∧ inM s ∧ inM t ∧ inM K := by
  obtain ⟨C, D, K⟩ := f
  obtain ⟨l1, l2, b1, b2, b3, b4⟩ := formB_elim h
  obtain ⟨x, y, z, rfl⟩ := three_of l1
  obtain ⟨s, t, rfl⟩ := pair_of l2
  have c0 := b1 0
  have c1 := b1 1
  have c2 := b1 2
  have d0 := b2 0
  have d1 := b2 1
  simp only [List.getElem?_cons_zero, List.getElem?_cons_succ, Option.getD_some] at c0 c1 c2 d0 d1
  exact ⟨x, y, z, s, t, K, rfl, c0, c1, c2, d0, d1, ⟨b3, b4⟩⟩
theorem okP_no {x y z s t K : Int} (h : okP ([x, y, z], [s, t], K) = true) : inM x ∧ inM y ∧ inM z ∧ inM s ∧ inM t ∧ inM K := by
  obtain ⟨x', y', z', s', t', K', e, h⟩ := okP_shape h
  simp only [Prod.mk.injEq, List.cons.injEq, and_true] at e
  obtain ⟨⟨rfl, rfl, rfl⟩, ⟨rfl, rfl⟩, rfl⟩ := e
  exact h
theorem timP_no {f : Frm} {k : Int} (h : timB f k = false) : timP f k = ([], [], 0) := by unfold timP; rw [h]; rfl
theorem timP_yes {f : Frm} {k : Int} (h : timB f k = true) : timP f k = (mulL k f.1, mulL k f.2.1, k * f.2.2) := by unfold timP; rw [h]; rfl
theorem timB_ok {f : Frm} {k : Int} (h : timB f k = true) : okP f = true ∧ -10000000 ≤ k ∧ k ≤ 10000000 := by
  unfold timB timOk at h
  simp only [Bool.and_eq_true] at h
  exact ⟨h.1.1, inB_iff.1 h.1.2⟩
theorem timB_not {f : Frm} {k : Int} (h : okP f = false) : timB f k = false := by
  unfold okP at h
  unfold timB timOk
  rw [h]; rfl
theorem tim_shape {x y z s t K k : Int} (h : okP ([x, y, z], [s, t], K) = true) (h1 : -10000000 ≤ k) (h2 : k ≤ 10000000) (h3 : okP ([k * x, k * y, k * z], [k * s, k * t], k * K) = true) : timP ([x, y, z], [s, t], K) k = ([k * x, k * y, k * z], [k * s, k * t], k * K) := by
  have hb : timB ([x, y, z], [s, t], K) k = true := by
    unfold timB timOk
    unfold okP at h h3
    rw [h, inB_iff.2 ⟨h1, h2⟩]
    exact h3
  rw [timP_yes hb]
  rfl
theorem tim_one {f : Frm} (h : okP f = true) : timP f 1 = f := by
  obtain ⟨x, y, z, s, t, K, rfl, _⟩ := okP_shape h
  have e := tim_shape (k := 1) h (by omega) (by omega) (by simpa using h)
  simpa using e
theorem tim_nil {f : Frm} (h : okP f = true) : timP f 0 = zeroP := by
  obtain ⟨x, y, z, s, t, K, rfl, _⟩ := okP_shape h
  have e := tim_shape (k := 0) h (by omega) (by omega) (by simp; decide)
  simpa [zeroP] using e
theorem tim_neg {x y z s t K : Int} (h : okP ([x, y, z], [s, t], K) = true) : timP ([x, y, z], [s, t], K) (-1) = ([-x, -y, -z], [-s, -t], -K) ∧ okP ([-x, -y, -z], [-s, -t], -K) = true := by
  obtain ⟨a1, a2, a3, a4, a5, a6⟩ := okP_no h
  have h' : okP ([-x, -y, -z], [-s, -t], -K) = true := okP_of (by unfold inM at *; omega) (by unfold inM at *; omega) (by unfold inM at *; omega) (by unfold inM at *; omega) (by unfold inM at *; omega) (by unfold inM at *; omega)
  have e := tim_shape (k := -1) h (by omega) (by omega) (by simpa using h')
  exact ⟨by simpa using e, h'⟩
theorem tim_back {f : Frm} (h : okP f = true) : timP (timP f (-1)) (-1) = f := by
  obtain ⟨x, y, z, s, t, K, rfl, _⟩ := okP_shape h
  obtain ⟨e, h'⟩ := tim_neg h
  rw [e, (tim_neg h').1]
  simp
theorem add_neg {f : Frm} (h : okP f = true) : addP f (timP f (-1)) = zeroP := by
  obtain ⟨x, y, z, s, t, K, rfl, _⟩ := okP_shape h
  obtain ⟨e, h'⟩ := tim_neg h
  rw [e]
  have hb : addB ([x, y, z], [s, t], K) ([-x, -y, -z], [-s, -t], -K) = true := by
    unfold addB addOk
    unfold okP at h h'
    rw [h, h']
    simp [lin, formB, okN, allB, inB]
    omega
  unfold addP
  rw [hb]
  simp [keepL, keepK, lin, zeroP]
  omega
theorem dot_mul {xs V : List Int} {n : Int} {k : Nat} (h : xs.length = k) : ∀ j, j ≤ k → dot (mulL n xs) V j = n * dot xs V j
  | 0, _ => by simp [dot]
  | j + 1, hj => by
    have ih := dot_mul (V := V) (n := n) h j (by omega)
    have e := mulL_get (n := n) (zs := xs) (i := j) (by omega)
    simp only [dot, ih, e]
    rw [Int.mul_add, Int.mul_assoc]
theorem at_bnd {f : Frm} {V A : List Int} : -10000000000000 ≤ atP f V A ∧ atP f V A ≤ 10000000000000 := by
  unfold atP
  cases h : atOk f.1.length f.2.1.length V.length A.length f.1 f.2.1 f.2.2 V A
  · rw [atN_no h]; omega
  · rw [atN_yes h]
    unfold atOk at h
    simp only [Bool.and_eq_true] at h
    obtain ⟨⟨h1, h2⟩, h3⟩ := h
    obtain ⟨_, _, b1, b2, b3, b4⟩ := formB_elim h1
    have v1 := (okN_elim (by omega) h2).2
    have a1 := (okN_elim (by omega) h3).2
    have d1 := dot_bnd (bndP_of b1 v1 (by omega) (by omega)) 3
    have d2 := dot_bnd (bndP_of b2 a1 (by omega) (by omega)) 2
    unfold atV
    omega
theorem tim_at {f : Frm} {k : Int} {V A : List Int} (h : atB (timP f k) V A = true) : atB f V A = true ∧ atP (timP f k) V A = k * atP f V A := by
  have hb : timB f k = true := by
    cases hb : timB f k
    · rw [timP_no hb] at h
      unfold atB atOk at h
      simp [formB, okN] at h
    · rfl
  obtain ⟨h1, _, _⟩ := timB_ok hb
  have h' := h
  unfold atB atOk at h'
  simp only [Bool.and_eq_true] at h'
  obtain ⟨⟨_, hV⟩, hA⟩ := h'
  have t1 : atB f V A = true := by unfold okP at h1; unfold atB atOk; rw [h1, hV, hA]; rfl
  refine ⟨t1, ?_⟩
  have l1 := formB_elim h1
  unfold atP
  rw [atN_yes h, atN_yes t1, timP_yes hb]
  unfold atV
  rw [dot_mul l1.1 3 (by omega), dot_mul l1.2.1 2 (by omega)]
  dsimp only
  rw [Int.mul_add, Int.mul_add]

end Go.Proofs.YtpmihhbgjimpmaaGreatDoor
namespace Go.Proofs.YtpmihhbgjimpmaaGreatDoor
open Go.RowKit
set_option linter.unusedVariables false
set_option maxRecDepth 100000

theorem goL_len (U : List Int) (ls : List LV) : ∀ (f i : Nat) (x tl : List Int), (goL U ls f i x tl).2.1.length = x.length ∧ (goL U ls f i x tl).2.2.length ≤ tl.length + f
  | 0, i, x, tl => by simp [goL]
  | f + 1, i, x, tl => by
    unfold goL
    split
    · split
      · have h := goL_len U ls f (if atF x U (ls[i]?.getD noLV).f < 0 then i + 1 + (ls[i]?.getD noLV).skip.toNat else i + 1) x tl
        exact ⟨h.1, by omega⟩
      · split
        · have h := goL_len U ls f (i + 1) (x.set (ls[i]?.getD noLV).pot.toNat (x[(ls[i]?.getD noLV).pot.toNat]?.getD 0 + atF x U (ls[i]?.getD noLV).f)) tl
          exact ⟨by rw [h.1, List.length_set], by omega⟩
        · split
          · have h := goL_len U ls f (i + 1) x (tl ++ [atF x U (ls[i]?.getD noLV).f])
            rw [List.length_append] at h
            exact ⟨h.1, by simp only [List.length_cons, List.length_nil] at h; omega⟩
          · simp
    · simp
theorem goL_stop (U : List Int) (ls : List LV) (s : LV) (hs : s.kind = 4) : ∀ (f i : Nat) (x tl : List Int), (goL U (ls ++ [s]) f i x tl).1 = true ∨ (goL U (ls ++ [s]) f i x tl = goL U ls f i x tl ∧ (goL U ls f i x tl).1 = false)
  | 0, i, x, tl => by right; simp [goL]
  | f + 1, i, x, tl => by
    by_cases hi : i < ls.length
    · have e : (ls ++ [s])[i]?.getD noLV = ls[i]?.getD noLV := by rw [List.getElem?_append_left hi]
      unfold goL
      rw [if_pos hi, if_pos (by rw [List.length_append]; omega), e]
      split
      · exact goL_stop U ls s hs f _ x tl
      · split
        · exact goL_stop U ls s hs f _ _ tl
        · split
          · exact goL_stop U ls s hs f _ x _
          · left; rfl
    · by_cases hl : i = ls.length
      · left
        subst hl
        unfold goL
        rw [if_pos (by rw [List.length_append]; simp)]
        have e : (ls ++ [s])[ls.length]?.getD noLV = s := by simp
        rw [e, hs]
        rfl
      · right
        unfold goL
        rw [if_neg hi, if_neg (by rw [List.length_append]; simp; omega)]
        exact ⟨rfl, rfl⟩
theorem runTells_le (N : Nat) (ls : List LV) (p : Nat) (V : List Int) (q : Nat) (U : List Int) : (runTells N ls p V q U).length ≤ 7 := by
  have h := (goL_len U ls 7 0 V []).2
  unfold runTells
  split
  · split
    · simp
    · unfold endTells
      split
      · unfold runL; simpa using h
      · simp
  · simp
theorem runPots_le (N : Nat) (ls : List LV) (p : Nat) (V : List Int) (q : Nat) (U : List Int) : (runPots N ls p V q U).length ≤ V.length := by
  have h := (goL_len U ls 7 0 V []).1
  unfold runPots
  split
  · split
    · exact Nat.le_refl _
    · unfold endPots
      split
      · unfold runL; omega
      · exact Nat.le_refl _
  · simp
/-- A call has done an act: what came of it, and what the pots have. -/
def RunM (w w' : World) (e : Ending) (code : Int) (tl pl : List Int) : Prop := ∃ a n cap b m cap', e = .returned (.tuple #[resV code a n cap, .slice b m cap']) ∧ Ints w' a n tl ∧ Ints w' b m pl ∧ Below w.heap.size w w'
theorem RunM.of {w w' : World} {e : Ending} {code : Int} {tl pl : List Int} (h : ResD w w' e code tl pl) : RunM w w' e code tl pl := by
  obtain ⟨a, n, cap, B1, b, m, cap', B2, he, h1, h2, hb, o1, o2, _⟩ := h
  exact ⟨a, n, cap, b, m, cap', he, o1.ints, o2.ints, hb⟩

end Go.Proofs.YtpmihhbgjimpmaaGreatDoor
namespace Go.Proofs.YtpmihhbgjimpmaaGreatDoor
open Go.RowKit Go.Deep Go.Joins
set_option linter.unusedVariables false
set_option maxRecDepth 100000

/-- A result as it is told. -/
def dRs (f : RsV) : Int × List Int := (f.c, f.t.x)
/-- What SerRun has made: the results, each list in a block of its own; what the pots have. -/
def SerD (w w' : World) (r : Ending) (X : List (Int × List Int) × List Int) : Prop :=
  ∃ v ts bs a n cap B, r = .returned (.tuple #[v, .slice a n cap]) ∧ JRs w v ts bs w' ∧ ts.map dRs = X.1 ∧ X.2.length = n ∧ n ≤ 1048576 ∧ OwnX w' a B n X.2 ∧ (0 < n → w.heap.size ≤ B ∧ some B ≠ v.ownBlock ∧ ∀ j, j < ts.length → 0 < (ts[j]?.getD noRs).t.n → bs j ≠ B)
def serX (cl : Int) (N : Nat) (ss : List L2V) (gn : Nat) (G : List Int) (sn : Nat) (S : List Int) (ln : Nat) (fs : List LgV) : List (Int × List Int) × List Int :=
  if plnB cl N ss gn G sn S && logB cl N ln fs then serL ss S fs else ([], [])
theorem serX_no {cl : Int} {N : Nat} {ss : List L2V} {gn : Nat} {G : List Int} {sn : Nat} {S : List Int} {ln : Nat} {fs : List LgV} (h : (plnB cl N ss gn G sn S && logB cl N ln fs) = false) : serX cl N ss gn G sn S ln fs = ([], []) := by rw [serX, h]; rfl
theorem serX_yes {cl : Int} {N : Nat} {ss : List L2V} {gn : Nat} {G : List Int} {sn : Nat} {S : List Int} {ln : Nat} {fs : List LgV} (h1 : plnB cl N ss gn G sn S = true) (h2 : logB cl N ln fs = true) : serX cl N ss gn G sn S ln fs = serL ss S fs := by rw [serX, h1, h2]; rfl
theorem JRs.rebase {w w1 W : World} {v : Value} {ts : List RsV} {bs : Nat → Nat} (j : JRs w1 v ts bs W) (b : Below w.heap.size w w1) : JRs w v ts bs W :=
  ⟨b.trans (j.b.mono b.size), ownsRow_le j.o b.size, fun i hi => by
    obtain ⟨h1, h2, h3⟩ := j.k i hi
    exact ⟨h1, h2, fun h => ⟨Nat.le_trans b.size (h3 h).1, (h3 h).2⟩⟩, j.d⟩
/-- A call of the log is of an act that the plan has. -/
theorem log_act {cl : Int} {N ln : Nat} {fs : List LgV} {k : Nat} (h : logB cl N ln fs = true) (hk : k < fs.length) : ∃ c : Nat, (fs[k]?.getD noLg).c = (c : Int) ∧ c < N := by
  simp only [logB, Bool.and_eq_true] at h
  have h1 := List.all_eq_true.1 h.2 _ (List.getElem_mem hk)
  simp only [lgOk, inCallB, Bool.and_eq_true] at h1
  have h2 := inB_iff.1 h1.1.2.2.1
  rw [List.getElem?_eq_getElem hk]
  exact ⟨(fs[k].c).toNat, by show fs[k].c = _; omega, by omega⟩
theorem ser_ts {ts : List RsV} {R : List (Int × List Int)} {f : RsV} {x : Int × List Int} (h : ts.map dRs = R) (hx : dRs f = x) : (ts ++ [f]).map dRs = R ++ [x] := by rw [List.map_append, h, ← hx]; rfl
/-- A round has done a call: the result in a box of its own, the pots, in new memory. -/
def SerQ (W wx : World) (s t : Value) (code : Int) (tl pl : List Int) : Prop :=
  ∃ X a n ca A b m cb B, s = .pointer (some ⟨X, 0, none⟩) ∧ t = .slice b m cb ∧ tl.length = n ∧ pl.length = m ∧ Below W.heap.size W wx ∧ Cel wx X [.int .i64 code, .slice a n ca] 54 ∧ OwnX wx a A n tl ∧ OwnX wx b B m pl ∧ (0 < n → W.heap.size ≤ A) ∧ (0 < m → W.heap.size ≤ B) ∧ (0 < n → 0 < m → A ≠ B)

set_option maxHeartbeats 12800000 in
theorem sser_any (cl : Int) (ad : Option Addr) (N cap : Nat) (ga : Option Addr) (gn gc : Nat) (sa : Option Addr) (sn sc : Nat) (ss : List L2V) (G S : List Int) (la : Option Addr) (ln lc : Nat) (fs : List LgV) (w : World) (hA : PlAt w ad N ss ga gn G sa sn S) (hN : fs.length = ln) (hF : LgSG w la fs) (hz : ln ≤ 1048576) :
    Calls Tryz.prog 22 #[plV cl ad N cap ga gn gc sa sn sc, .slice la ln lc] w fun r w' => SerD w w' r (serX cl N ss gn G sn S ln fs) := by
  have HN : Hid (fs.length = ln) := hN
  obtain ⟨R, hR⟩ : ∃ R, serX cl N ss gn G sn S ln fs = R := ⟨_, rfl⟩
  have HRX : Hid (serX cl N ss gn G sn S ln fs = R) := hR
  rw [hR]
  clear hN hR
  obtain ⟨zi, hi, hz0, hz1, hz2⟩ := info_parts Tryz.infoResResult
  have q := Cel.new w [.int .i64 cl, .slice ad N cap, .slice ga gn gc, .slice sa sn sc] 26
  have B0 := (Below.refl w.heap.size w).alloc (Nat.le_refl _) (.cells #[.int .i64 cl, .slice ad N cap, .slice ga gn gc, .slice sa sn sc] 26)
  obtain ⟨W0, hW0⟩ : ∃ W, W = w.alloc (.cells #[.int .i64 cl, .slice ad N cap, .slice ga gn gc, .slice sa sn sc] 26) := ⟨_, rfl⟩
  obtain ⟨Y, hY⟩ : ∃ Y, Y = w.heap.size := ⟨_, rfl⟩
  have hY1 : w.heap.size ≤ Y ∧ Y ≤ w.heap.size := by omega
  go_enter Tryz.func22, Tryz.ntmps22
  go_upto_region 1 with fail
  rw [← hW0] at q B0
  rw [← hW0, ← hY]
  rw [← hY] at q
  clear hW0 hY
  have g0 := q.cell 0
  have g1 := q.cell 1
  have g2 := q.cell 2
  have g3 := q.cell 3
  simp only [List.getElem?_cons_zero, List.getElem?_cons_succ] at g0 g1 g2 g3
  have none_ : ∀ (W : World), Below w.heap.size w W → SerD w ((W.alloc (.cells #[] 54)).alloc (.cells #[] 3)) (.returned (.tuple #[.slice (some ⟨W.heap.size, 0, none⟩) 0 0, .slice (some ⟨W.heap.size + 1, 0, none⟩) 0 0])) ([], []) := fun W hW =>
    ⟨_, [], fun _ => 0, _, 0, 0, 0, rfl, ((JRs.lit W (fun _ => 0)).rebase hW).below ((Below.refl _ _).alloc (Nat.le_refl _) _), rfl, rfl, by omega, OwnX.nil _ _ _, fun h => by omega⟩
  have NONE : Hid _ := none_
  clear none_
  cases h1 : plnB cl N ss gn G sn S
  · obtain rfl : R = ([], []) := by rw [← HRX.out]; exact serX_no (by rw [h1]; rfl)
    go_wp2_with fail
    refine (splnok_any cl ad N cap ss ga gn gc G sa sn sc S _ (hA.below B0)).mono ?_
    rintro e w1 ⟨rfl, b1⟩
    rw [h1]
    go_wp2
    go_ret2
    exact NONE.out _ (B0.trans (b1.mono B0.size))
  · have hp := pln_parts h1
    have hn4 := pln_acts h1
    go_wp2_with fail
    refine (splnok_any cl ad N cap ss ga gn gc G sa sn sc S _ (hA.below B0)).mono ?_
    rintro e w1 ⟨rfl, b1⟩
    rw [h1]
    have B1 := B0.trans (b1.mono B0.size)
    replace q := q.below b1
    clear g0 g1 g2 g3 b1 B0
    have g0 := q.cell 0
    have g1 := q.cell 1
    have g2 := q.cell 2
    have g3 := q.cell 3
    simp only [List.getElem?_cons_zero, List.getElem?_cons_succ] at g0 g1 g2 g3
    go_wp2_with fail
    refine (slog_any cl ad N cap ga gn gc sa sn sc la ln lc fs _ HN.out (hF.below B1) hz hp.1 hn4).mono ?_
    rintro e w2 ⟨rfl, b2⟩
    have B2 := B1.trans (b2.mono B1.size)
    replace q := q.below b2
    clear g0 g1 g2 g3 b2 B1
    cases h2 : logB cl N ln fs
    · obtain rfl : R = ([], []) := by rw [← HRX.out]; exact serX_no (by rw [h2]; simp)
      go_wp2
      go_ret2
      exact NONE.out _ B2
    · obtain rfl : R = serL ss S fs := by rw [← HRX.out]; exact serX_yes h1 h2
      clear HRX
      clear NONE
      obtain rfl : sn = 3 := by
        have h := h1
        simp only [plnB, okN, Bool.and_eq_true, decide_eq_true_eq] at h
        have := h.2.2.1.1
        omega
      have LA : Hid _ := h2
      clear h1 h2
      have g0 := q.cell 0
      have g1 := q.cell 1
      have g2 := q.cell 2
      have g3 := q.cell 3
      simp only [List.getElem?_cons_zero, List.getElem?_cons_succ] at g0 g1 g2 g3
      have al : Below w2.heap.size w2 (w2.alloc (.cells #[] 3)) := (Below.refl _ _).alloc (Nat.le_refl _) _
      have o0 : (w2.alloc (.cells #[] 3)).ownsRow w2.heap.size 3 1 (.slice (some ⟨w2.heap.size, 0, none⟩) 0 0) 0 [] := World.ownsRow_lit w2 #[] 0 (Nat.le_refl _) (by unfold maxLen; omega) rfl
      have hBa := (hA.s.below B2).below al
      have g3a := (q.below al).cell 3
      simp only [List.getElem?_cons_zero, List.getElem?_cons_succ] at g3a
      go_wp2_with (at_builtin; go_must (refine wpList_plain rfl (fun K hK => ?_); refine wp_copyN (.tmp 22) (.tmp 24) rfl w2.heap.size w2.heap.size sa 3 sc S (by rfl) o0 (by rfl) hBa (by omega) (by omega) (by rw [World.size_alloc]; omega) (Nat.le_refl _) ?_))
      intro c3 PB0 w3 bn3 tn3 op hB3 hor
      refine hK _ _ ?_
      clear hK K
      have b3 := al.trans bn3
      have B3 := B2.trans (b3.mono B2.size)
      replace q := q.below b3
      clear g0 g1 g2 g3 g3a bn3 tn3 al o0 hBa hor b3
      have j0 := JRs.lit w3 (fun _ => 0)
      have lY := q.lt
      have A3 : Below w3.heap.size w3 (w3.alloc (.cells #[] 54)) := (Below.refl _ _).alloc (Nat.le_refl _) _
      have op0 := op.below A3
      have hS3 := op.1
      have lo0 : w.heap.size ≤ PB0 ∧ some PB0 ≠ (Value.slice (some ⟨w3.heap.size, 0, none⟩) 0 0).ownBlock := ⟨Nat.le_trans B2.size hB3, fun e => by simp only [Value.ownBlock, Option.some.injEq] at e; have := op.lt (by omega); omega⟩
      clear op A3 hB3
      have HQ : Hid _ := q
      clear q B2
      go_wp2_with fail
      go_loopw [6, 7, 8, 9, 10] (fun vals out i _ _ wr => ∃ (k : Nat) (ts : List RsV) (bs : Nat → Nat) (pa : Option Addr) (pn pc PB : Nat), k ≤ ln ∧ i = .int .i64 k ∧ vals = .slice pa pn pc ∧ Hid (ts.length = k) ∧ JRs w3 out ts bs wr ∧ Hid (ts.map dRs = (serL ss S (fs.take k)).1) ∧ Hid ((serL ss S (fs.take k)).2.length = pn) ∧ pn ≤ 1048576 ∧ OwnX wr pa PB pn (serL ss S (fs.take k)).2 ∧ Hid (0 < pn → w.heap.size ≤ PB ∧ some PB ≠ out.ownBlock ∧ ∀ j, j < ts.length → 0 < (ts[j]?.getD noRs).t.n → bs j ≠ PB)) (fun _ _ i _ _ _ => ln - (intOf i).toNat)
      case atStart => exact ⟨0, [], fun _ => 0, _, 3, _, PB0, Nat.zero_le _, rfl, rfl, rfl, j0, rfl, hS3, by omega, op0, fun _ => ⟨lo0.1, lo0.2, fun j hj => by simp at hj⟩⟩
      case round =>
        clear j0 op0 lo0 hS3
        obtain ⟨k, ts, bs, pa, pn, pc, PB, hk, rfl, rfl, htl, j, HS, HPL, hpn, op, HPB⟩ := hrel
        have Bw := B3.trans (j.b.mono B3.size)
        obtain ⟨va, vc, rfl⟩ := j.isSlice htl.out
        by_cases hlt : k < ln
        · have hlt' : (k : Int) < ln := by omega
          obtain ⟨b, off, rfl, hc6, hg1, -, -⟩ := (hF.below Bw) k (by rw [HN.out]; exact hlt)
          obtain ⟨c, hgc, hcN⟩ := log_act LA.out (by rw [HN.out]; exact hlt)
          have STEP : Hid _ := serL_step (ss := ss) (V := S) (k := k) (by rw [HN.out]; exact hlt)
          obtain ⟨e0, e1, e2, e3, e4, e5⟩ := cellsLg hc6
          clear e0 e1 e4 e5 hc6
          generalize fs[k]?.getD noLg = g at *
          obtain ⟨gx, gq, gc, ⟨gta, gtn, gtc, gtx⟩, ge, gu⟩ := g
          obtain rfl : gc = (c : Int) := hgc
          obtain ⟨gi, gz⟩ := hg1
          replace gi : Ints wr gta gtn gtx := gi
          replace gz : gtn ≤ 1048576 := gz
          replace e2 : wr.cell? ⟨b, off + k * 6 + 2, none⟩ = some (.int .i64 (c : Int)) := e2
          replace e3 : wr.cell? ⟨b, off + k * 6 + 3, none⟩ = some (.slice gta gtn gtc) := e3
          obtain ⟨ba, bo, rfl, ha, hl⟩ := (hA.a.below Bw) c (by rw [hA.ha]; exact hcN)
          have hcN' : (c : Int) < (N : Int) := by omega
          obtain ⟨hx1, hx2, hx3⟩ := hl
          obtain ⟨RC, hRC⟩ : ∃ x, x = runCode (ss[c]?.getD noL).n (ss[c]?.getD noL).x pn (serL ss S (fs.take k)).2 gtn gtx := ⟨_, rfl⟩
          obtain ⟨RT, hRT⟩ : ∃ x, x = runTells (ss[c]?.getD noL).n (ss[c]?.getD noL).x pn (serL ss S (fs.take k)).2 gtn gtx := ⟨_, rfl⟩
          obtain ⟨RP, hRP⟩ : ∃ x, x = runPots (ss[c]?.getD noL).n (ss[c]?.getD noL).x pn (serL ss S (fs.take k)).2 gtn gtx := ⟨_, rfl⟩
          have HST : Hid (serL ss S (fs.take (k + 1)) = ((serL ss S (fs.take k)).1 ++ [(RC, RT)], RP)) := by
            show _ = _
            rw [STEP.out, serStep]
            dsimp only
            rw [Int.toNat_natCast, HPL.out, hRC, hRT, hRP]
          have hT7 : RT.length ≤ 7 := by rw [hRT]; exact runTells_le _ _ _ _ _ _
          have hP3 : RP.length ≤ 1048576 := by rw [hRP]; exact Nat.le_trans (runPots_le _ _ _ _ _ _) (by rw [HPL.out]; exact hpn)
          have HR : Hid (RC = _ ∧ RT = _ ∧ RP = _) := ⟨hRC, hRT, hRP⟩
          clear hRC hRT hRP STEP
          have HV : Hid ((serL ss S (fs.take k)).2.length = pn) := HPL.out
          generalize (serL ss S (fs.take k)).2 = VV at *
          generalize ss[c]?.getD noL = al at *
          obtain ⟨aa, an, ac, ax⟩ := al
          replace ha : wr.cell? ⟨ba, bo + c, none⟩ = some (.slice aa an ac) := ha
          replace hx1 : ax.length = an := hx1
          replace hx2 : LinesG wr aa ax := hx2
          replace hx3 : an ≤ 1048576 := hx3
          have HX1 : Hid (ax.length = an) := hx1
          clear hx1
          have q := Cel.below HQ.out j.b
          have g1 := q.cell 1
          simp only [List.getElem?_cons_zero, List.getElem?_cons_succ] at g1
          go_upto_region 8 with fail
          go_cut [9, 10] from 27 to 58 (fun x y wx => SerQ wr wx x y RC RT RP)
          case first =>
            have KP : Hid (∀ X, Below wr.heap.size wr X → X.cell? ⟨Y, 1, none⟩ = some (.slice (some ⟨ba, bo, none⟩) N cap) ∧ X.cell? ⟨b, off + k * 6 + 2, none⟩ = some (.int .i64 (c : Int)) ∧ X.cell? ⟨b, off + k * 6 + 3, none⟩ = some (.slice gta gtn gtc) ∧ X.cell? ⟨ba, bo + c, none⟩ = some (.slice aa an ac)) := fun X hX => ⟨(hX.cell (p := ⟨Y, 1, none⟩) (block_lt g1)).trans g1, (hX.cell (p := ⟨b, off + k * 6 + 2, none⟩) (block_lt e2)).trans e2, (hX.cell (p := ⟨b, off + k * 6 + 3, none⟩) (block_lt e3)).trans e3, (hX.cell (p := ⟨ba, bo + c, none⟩) (block_lt ha)).trans ha⟩
            have d : Below wr.heap.size wr wr.drew := (Below.refl _ _).drew
            have hSS : (wr.drew.cell? ⟨Y, 1, none⟩ = some (.slice (some ⟨ba, bo, none⟩) N cap) ∧ wr.drew.cell? ⟨b, off + k * 6 + 2, none⟩ = some (.int .i64 (c : Int)) ∧ wr.drew.cell? ⟨b, off + k * 6 + 3, none⟩ = some (.slice gta gtn gtc) ∧ wr.drew.cell? ⟨ba, bo + c, none⟩ = some (.slice aa an ac)) ∧ True := ⟨KP.out _ d, trivial⟩
            refine wp_region_ends (fun X => X.cell? ⟨Y, 1, none⟩ = some (.slice (some ⟨ba, bo, none⟩) N cap) ∧ X.cell? ⟨b, off + k * 6 + 2, none⟩ = some (.int .i64 (c : Int)) ∧ X.cell? ⟨b, off + k * 6 + 3, none⟩ = some (.slice gta gtn gtc) ∧ X.cell? ⟨ba, bo + c, none⟩ = some (.slice aa an ac)) (fun _ => True) 23 (by kernel_rfl) ?_
            obtain ⟨V0, hV0⟩ : ∃ V, V = wr.drew := ⟨_, rfl⟩
            rw [← hV0] at hSS d
            rw [← hV0]
            clear hV0
            have yd0 := d.size
            refine tkL (i := 0) rfl hSS ?_
            refine tkL (i := 1) rfl hSS ?_
            refine tkL (i := 2) rfl hSS ?_
            refine tkL (i := 3) rfl hSS ?_
            refine tkL (i := 4) rfl hSS ?_
            refine tkL (i := 5) rfl hSS ?_
            refine tkL (i := 6) rfl hSS ?_
            refine tkL (i := 7) rfl hSS ?_
            refine tkL (i := 8) rfl hSS ?_
            refine tkL (i := 9) rfl hSS ?_
            refine tkL (i := 10) rfl hSS ?_
            refine tkL (i := 11) rfl hSS ?_
            refine tkL (i := 12) rfl hSS ?_
            refine tkL (i := 13) rfl hSS ?_
            refine tkL (i := 14) rfl hSS ?_
            refine tkL (i := 15) rfl hSS ?_
            refine tkL (i := 16) rfl hSS ?_
            (try simp only [Act.put, List.setIfInBounds_toArray, List.set_cons_succ, List.set_cons_zero, List.getElem_toArray, List.getElem_cons_succ, List.getElem_cons_zero])
            refine wpAnyE_two (i := 17) (j := 21) (by kernel_rfl) rfl rfl (fun K hK => ?_) (fun K hK => ?_)
            · go_simp
              refine (srun_any _ an _ ax _ pn _ VV _ gtn _ gtx _ HX1.out (hx2.below d) hx3 (op.ints.below d) (gi.below d) hpn gz).mono ?_
              rintro ee V1 ⟨ra, n1, rc, RA, rb, m1, rd, RB, rfl, ln1, ln2, bv, o1, o2, lo1, lo2, ne12⟩
              rw [← HR.out.1]
              rw [← HR.out.2.1] at ln1 o1
              rw [← HR.out.2.2] at ln2 o2
              have yV1 := bv.size
              replace d := d.trans (bv.mono d.size)
              clear bv
              (try dsimp only)
              replace hSS : (V1.cell? ⟨Y, 1, none⟩ = some (.slice (some ⟨ba, bo, none⟩) N cap) ∧ V1.cell? ⟨b, off + k * 6 + 2, none⟩ = some (.int .i64 (c : Int)) ∧ V1.cell? ⟨b, off + k * 6 + 3, none⟩ = some (.slice gta gtn gtc) ∧ V1.cell? ⟨ba, bo + c, none⟩ = some (.slice aa an ac)) ∧ True := ⟨KP.out _ d, trivial⟩
              refine hK.out _ _ ⟨hSS.1, fun _ => trivial⟩ ?_
              clear hK K
              refine tkL (i := 18) rfl hSS ?_
              refine tkL (i := 19) rfl hSS ?_
              refine tkL (i := 20) rfl hSS ?_
              (try simp only [Act.put, List.setIfInBounds_toArray, List.set_cons_succ, List.set_cons_zero, List.getElem_toArray, List.getElem_cons_succ, List.getElem_cons_zero])
              refine wpAnyE_one (i := 21) (by kernel_rfl) rfl (fun K hK => ?_)
              go_simp
              obtain ⟨V2, hV2⟩ : ∃ W, W = V1.alloc (.cells #[.int .i64 0, .slice none 0 0] 54) := ⟨_, rfl⟩
              have bv : Below V1.heap.size V1 V2 := by rw [hV2]; exact (Below.refl _ _).alloc (Nat.le_refl _) _
              have nx1 : 0 < n1 → RA ≠ V1.heap.size := fun h => by have := o1.lt h; omega
              have nx2 : 0 < m1 → RB ≠ V1.heap.size := fun h => by have := o2.lt h; omega
              replace o1 := o1.below bv
              replace o2 := o2.below bv
              have xb : Cel V2 V1.heap.size [.int .i64 0, .slice none 0 0] 54 := by rw [hV2]; exact Cel.new V1 _ _
              have lb := xb.lt
              have yV2 := d.size
              replace d := d.trans (bv.mono d.size)
              rw [← hV2]
              clear bv hV2
              replace hSS : (V2.cell? ⟨Y, 1, none⟩ = some (.slice (some ⟨ba, bo, none⟩) N cap) ∧ V2.cell? ⟨b, off + k * 6 + 2, none⟩ = some (.int .i64 (c : Int)) ∧ V2.cell? ⟨b, off + k * 6 + 3, none⟩ = some (.slice gta gtn gtc) ∧ V2.cell? ⟨ba, bo + c, none⟩ = some (.slice aa an ac)) ∧ True := ⟨KP.out _ d, trivial⟩
              refine hK.out _ _ ⟨hSS.1, fun _ => trivial⟩ ?_
              clear hK K
              have xS := ((xb.set 0 (.int .i64 RC)).set 1 (.slice ra n1 rc))
              simp only [List.set_cons_zero, List.set_cons_succ] at xS
              have T := ((Touch.refl (fun z => z = V1.heap.size) V2).setCell (B := V1.heap.size) (i := 0) rfl (.int .i64 RC)).setCell (B := V1.heap.size) (i := 1) rfl (.slice ra n1 rc)
              have y0 := xb.cell 0
              have y1 := xb.cell 1
              have f0 := xb.free 0
              have f1 := xb.free 1
              simp only [List.getElem?_cons_zero, List.getElem?_cons_succ] at y0 y1
              have dS := d.trans (T.below (B := wr.heap.size) (by omega) (fun z hz => by have hz : z = V1.heap.size := hz; omega))
              refine wpAnyE_one (i := 22) (by kernel_rfl) rfl (fun K hK => ?_)
              go_simp
              refine hK.out _ _ ⟨KP.out _ dS, fun _ => trivial⟩ ?_
              clear hK K
              refine wpAnyE_one (i := 23) (by kernel_rfl) rfl (fun K hK => ?_)
              go_simp
              refine hK.out _ _ ⟨KP.out _ dS, fun _ => trivial⟩ ?_
              clear hK K
              refine wpAnyE_done (by kernel_rfl) ?_ _
              clear hSS y0 f0 y1 f1
              go_wp2_with fail
              go_meet
              case rel => exact ⟨V1.heap.size, ra, n1, rc, RA, rb, m1, rd, RB, rfl, rfl, ln1, ln2, dS, xS, o1.touch T (fun h0 hz => nx1 h0 hz), o2.touch T (fun h0 hz => nx2 h0 hz), fun h => by have := lo1 h; omega, fun h => by have := lo2 h; omega, ne12⟩
            · go_simp
              obtain ⟨V3, hV3⟩ : ∃ W, W = V0.alloc (.cells #[.int .i64 0, .slice none 0 0] 54) := ⟨_, rfl⟩
              have bv : Below V0.heap.size V0 V3 := by rw [hV3]; exact (Below.refl _ _).alloc (Nat.le_refl _) _
              have xb : Cel V3 V0.heap.size [.int .i64 0, .slice none 0 0] 54 := by rw [hV3]; exact Cel.new V0 _ _
              have lb := xb.lt
              have yV3 := d.size
              replace d := d.trans (bv.mono d.size)
              rw [← hV3]
              clear bv hV3
              replace hSS : (V3.cell? ⟨Y, 1, none⟩ = some (.slice (some ⟨ba, bo, none⟩) N cap) ∧ V3.cell? ⟨b, off + k * 6 + 2, none⟩ = some (.int .i64 (c : Int)) ∧ V3.cell? ⟨b, off + k * 6 + 3, none⟩ = some (.slice gta gtn gtc) ∧ V3.cell? ⟨ba, bo + c, none⟩ = some (.slice aa an ac)) ∧ True := ⟨KP.out _ d, trivial⟩
              refine hK.out _ _ ⟨hSS.1, fun _ => trivial⟩ ?_
              clear hK K
              refine wpAnyE_one (i := 17) (by kernel_rfl) rfl (fun K hK => ?_)
              go_simp
              refine (srun_any _ an _ ax _ pn _ VV _ gtn _ gtx _ HX1.out (hx2.below d) hx3 (op.ints.below d) (gi.below d) hpn gz).mono ?_
              rintro ee V4 ⟨ra, n1, rc, RA, rb, m1, rd, RB, rfl, ln1, ln2, bv, o1, o2, lo1, lo2, ne12⟩
              rw [← HR.out.1]
              rw [← HR.out.2.1] at ln1 o1
              rw [← HR.out.2.2] at ln2 o2
              replace xb := xb.below bv
              have nx1 : 0 < n1 → RA ≠ V0.heap.size := fun h => by have := lo1 h; omega
              have nx2 : 0 < m1 → RB ≠ V0.heap.size := fun h => by have := lo2 h; omega
              have yV4 := bv.size
              replace d := d.trans (bv.mono d.size)
              clear bv
              (try dsimp only)
              replace hSS : (V4.cell? ⟨Y, 1, none⟩ = some (.slice (some ⟨ba, bo, none⟩) N cap) ∧ V4.cell? ⟨b, off + k * 6 + 2, none⟩ = some (.int .i64 (c : Int)) ∧ V4.cell? ⟨b, off + k * 6 + 3, none⟩ = some (.slice gta gtn gtc) ∧ V4.cell? ⟨ba, bo + c, none⟩ = some (.slice aa an ac)) ∧ True := ⟨KP.out _ d, trivial⟩
              refine hK.out _ _ ⟨hSS.1, fun _ => trivial⟩ ?_
              clear hK K
              refine tkL (i := 18) rfl hSS ?_
              refine tkL (i := 19) rfl hSS ?_
              refine tkL (i := 20) rfl hSS ?_
              (try simp only [Act.put, List.setIfInBounds_toArray, List.set_cons_succ, List.set_cons_zero, List.getElem_toArray, List.getElem_cons_succ, List.getElem_cons_zero])
              have xS := ((xb.set 0 (.int .i64 RC)).set 1 (.slice ra n1 rc))
              simp only [List.set_cons_zero, List.set_cons_succ] at xS
              have T := ((Touch.refl (fun z => z = V0.heap.size) V4).setCell (B := V0.heap.size) (i := 0) rfl (.int .i64 RC)).setCell (B := V0.heap.size) (i := 1) rfl (.slice ra n1 rc)
              have y0 := xb.cell 0
              have y1 := xb.cell 1
              have f0 := xb.free 0
              have f1 := xb.free 1
              simp only [List.getElem?_cons_zero, List.getElem?_cons_succ] at y0 y1
              have dS := d.trans (T.below (B := wr.heap.size) (by omega) (fun z hz => by have hz : z = V0.heap.size := hz; omega))
              refine wpAnyE_one (i := 22) (by kernel_rfl) rfl (fun K hK => ?_)
              go_simp
              refine hK.out _ _ ⟨KP.out _ dS, fun _ => trivial⟩ ?_
              clear hK K
              refine wpAnyE_one (i := 23) (by kernel_rfl) rfl (fun K hK => ?_)
              go_simp
              refine hK.out _ _ ⟨KP.out _ dS, fun _ => trivial⟩ ?_
              clear hK K
              refine wpAnyE_done (by kernel_rfl) ?_ _
              clear hSS y0 f0 y1 f1
              go_wp2_with fail
              go_meet
              case rel => exact ⟨V0.heap.size, ra, n1, rc, RA, rb, m1, rd, RB, rfl, rfl, ln1, ln2, dS, xS, o1.touch T (fun h0 hz => nx1 h0 hz), o2.touch T (fun h0 hz => nx2 h0 hz), fun h => by have := lo1 h; omega, fun h => by have := lo2 h; omega, ne12⟩
          case rest =>
          obtain ⟨w11, hwc⟩ : ∃ W, W = wc := ⟨wc, rfl⟩
          rw [← hwc] at hcut
          rw [← hwc]
          clear hwc
          obtain ⟨X9, ra, n1, rc, RA, rb, m1, rd, RB, rfl, rfl, ln1, ln2, bb, xb, o1, o2, lo1, lo2, ne12⟩ := hcut
          have j4 := j.below bb
          have zz := bb.size
          have LN1 : Hid (RT.length = n1) := ln1
          have LN2 : Hid (RP.length = m1) := ln2
          have hn1 : n1 ≤ 1048576 := by omega
          have hm1 : m1 ≤ 1048576 := by omega
          have jown : ∀ z, (Value.slice va k vc).ownBlock = some z → w3.heap.size ≤ z ∧ z < wr.heap.size := fun z hz => j.own hz
          have jk : ∀ i, i < k → 0 < (ts[i]?.getD noRs).t.n → bs i < wr.heap.size := fun i hi h0 => ((j.k i (by rw [htl.out]; exact hi)).1).lt h0
          have j3s := j.b.size
          have hlo : Hid (0 < n1 → w3.heap.size ≤ RA ∧ some RA ≠ (Value.slice va k vc).ownBlock) := fun h0 => by
            have h2 := lo1 h0
            exact ⟨by omega, fun e => by have := (jown _ e.symm).2; omega⟩
          have hnew : Hid (0 < n1 → ∀ i, i < k → 0 < (ts[i]?.getD noRs).t.n → bs i ≠ RA) := fun h0 i hi hi0 => by
            have h2 := lo1 h0
            have h1 := jk i hi hi0
            omega
          clear ln1 ln2 op HPB q g1 e2 e3 ha gi hx2 HR HX1 HV j bb
          have x0 := xb.cell 0
          have x1 := xb.cell 1
          simp only [List.getElem?_cons_zero, List.getElem?_cons_succ] at x0 x1
          have A : Below w11.heap.size w11 (w11.alloc (.cells #[.int .i64 RC, .slice ra n1 rc] 54)) := (Below.refl _ _).alloc (Nat.le_refl _) _
          have j5 := j4.below A
          have ho : (w11.alloc (.cells #[.int .i64 RC, .slice ra n1 rc] 54)).ownsRow w3.heap.size 54 2 (.slice va k vc) k (ts.flatMap RsV.cs) := by
            have := j5.o
            rw [htl.out] at this
            exact this
          have z4 := j4.b.size
          go_wp2_with (at_builtin; go_must (refine wpList_append_lies _ rfl (.tmp 55) (.tmp 57) 49 rfl w3.heap.size 54 zi _ 2 32 Tryz.underlying49 hi hz0 hz1 hz2 rfl (by decide) (.slice va k vc) k (ts.flatMap RsV.cs) rfl ho ⟨w11.heap.size, 0, none⟩ 1 1 [.int .i64 RC, .slice ra n1 rc] rfl rfl (World.news_of_block (cs := #[.int .i64 RC, .slice ra n1 rc]) (t := 54) (fr := (0, 0)) (heap_alloc_new w11 _)) (by simp [Value.oneCell']) (by omega) (by unfold maxLen; omega) (by omega) (by rw [World.size_alloc]; omega) _ rfl ?_); intro g cp w6 hown hgrow hat hlt1)
          have lo1b : 0 < n1 → RA < w11.heap.size := fun h => o1.lt h
          have lo2b : 0 < m1 → RB < w11.heap.size := fun h => o2.lt h
          have HO : Hid (OwnX w6 rb RB m1 RP) := by
            by_cases h0 : 0 < m1
            · exact OwnX.grown o2 hgrow (fun e => by have := (jown _ e).2; have := lo2 h0; omega)
            · obtain rfl : m1 = 0 := by omega
              exact ⟨o2.1, .inl rfl⟩
          have hat' : (Value.slice (some ⟨g, 0, none⟩) (k + 1) cp).ownBlock = (Value.slice va k vc).ownBlock ∨ (Value.slice (some ⟨g, 0, none⟩) (k + 1) cp).ownBlock = some (w11.alloc (.cells #[.int .i64 RC, .slice ra n1 rc] 54)).heap.size := hat.elim (fun h => .inl (by rw [h]; rfl)) (fun h => .inr (by rw [h]; rfl))
          have j6 := j4.app (s := ⟨RC, ⟨ra, n1, rc, RT⟩⟩) htl.out o1 hn1 hlo.out hnew.out hown hgrow hat'
          have HPB2 : Hid (0 < m1 → w.heap.size ≤ RB ∧ some RB ≠ (Value.slice (some ⟨g, 0, none⟩) (k + 1) cp).ownBlock ∧ ∀ j, j < (ts ++ [(⟨RC, ⟨ra, n1, rc, RT⟩⟩ : RsV)]).length → 0 < ((ts ++ [(⟨RC, ⟨ra, n1, rc, RT⟩⟩ : RsV)])[j]?.getD noRs).t.n → (if j < k then bs j else RA) ≠ RB) := fun h0 => by
            have h2 := lo2 h0
            have h3 := lo2b h0
            have h4 := Bw.size
            refine ⟨by omega, fun e => ?_, fun j hj hj0 => ?_⟩
            · rcases hat' with h | h
              · rw [h] at e
                have := (jown _ e.symm).2
                omega
              · rw [h, World.size_alloc] at e
                simp only [Option.some.injEq] at e
                omega
            · rw [List.length_append, htl.out, List.length_singleton] at hj
              by_cases hjk : j < k
              · rw [if_pos hjk]
                rw [List.getElem?_append_left (by rw [htl.out]; exact hjk)] at hj0
                have := jk j hjk hj0
                omega
              · obtain rfl : j = k := by omega
                rw [if_neg hjk]
                rw [List.getElem?_append_right (by rw [htl.out]; exact Nat.le_refl _), htl.out, Nat.sub_self] at hj0
                exact ne12 hj0 h0
          have HT2 : Hid ((ts ++ [(⟨RC, ⟨ra, n1, rc, RT⟩⟩ : RsV)]).map dRs = (serL ss S (fs.take (k + 1))).1) := by
            show _ = _
            rw [HST.out]
            exact ser_ts HS.out rfl
          have HP2 : Hid ((serL ss S (fs.take (k + 1))).2.length = m1) := by
            show _ = _
            rw [HST.out]; exact LN2.out
          have HO2 : Hid (OwnX w6 rb RB m1 (serL ss S (fs.take (k + 1))).2) := by
            show OwnX _ _ _ _ _
            rw [HST.out]; exact HO.out
          clear hown hgrow hat hat' j5 j4 ho o1 o2 x0 x1 xb A jown jk lo1 lo2 ne12
          go_wp2
          go_roundw
          case rel => exact ⟨k + 1, _, _, _, m1, _, RB, by omega, by go_num, rfl, by show _ = _; rw [List.length_append, htl.out]; rfl, j6, HT2, HP2, hm1, HO2.out, HPB2⟩
          case measure => simp [intOf]; omega
        · obtain rfl : k = ln := by omega
          go_wp2
          go_ret2
          rw [List.take_of_length_le (by rw [HN.out]; exact Nat.le_refl _)] at HS HPL op
          exact ⟨_, ts, bs, pa, pn, pc, PB, rfl, j.rebase B3, HS.out, HPL.out, hpn, op, HPB.out⟩

end Go.Proofs.YtpmihhbgjimpmaaGreatDoor
namespace Go.Proofs.YtpmihhbgjimpmaaGreatDoor
open Go.RowKit
set_option linter.unusedVariables false

section
variable {F : Fence} {n : Nat} {P : Program} {ops : Array Oper} {Q : Exit → Act → World → Prop} {md : Region.Mode} {S : World → Prop}

/-- What an operation leaves of an activation: its own slot alone, and calls put off. -/
def Left (o : Oper) (a a' : Act) : Prop := ∃ u ds, a' = ({ a with defers := ds } : Act).put o.dst u
theorem wpIn_left {o : Oper} {a : Act} {w : World} {K : Act → World → Prop} (h : o.wpIn F n P a w K Q) : o.wpIn F n P a w (fun a' w' => Left o a a' ∧ K a' w') Q := by
  unfold Oper.wpIn at *
  refine ⟨h.1, ?_⟩
  have h := h.2
  generalize (o.semAt F.round a.eval).run P w = r at *
  cases r with
  | ok x w' =>
    cases x <;> simp only [Oper.uponIn] at h ⊢ <;>
      first
        | exact ⟨⟨_, _, rfl⟩, h⟩
        | exact ⟨h.1, CallsIn.mono h.2 (fun e w'' he => by cases e <;> first | exact ⟨⟨_, _, rfl⟩, he⟩ | exact he)⟩
        | exact ⟨h.1, RowsIn.mono h.2 (fun _ _ he => ⟨⟨_, _, rfl⟩, he⟩)⟩
        | exact ⟨h.1, RoundIn.mono h.2 (fun e w'' he => by cases e <;> first | exact ⟨⟨_, _, rfl⟩, he⟩ | exact he)⟩
        | exact h
  | halt x w' => cases x <;> simp only [Oper.uponIn] at h ⊢ <;> exact h
theorem wpOpIn_left {j : Nat} {oj : Oper} (hj : ops[j]? = some oj) {a : Act} {w : World} {K : Act → World → Prop} (h : wpOpIn F n P ops Q j K a w) : wpOpIn F n P ops Q j (fun a' w' => Left oj a a' ∧ K a' w') a w := by
  unfold wpOpIn at *
  simp only [hj] at *
  split
  · rename_i hw
    simp only [hw, if_true] at h
    exact wpIn_left h
  · rename_i hw
    simp only [hw] at h
    exact ⟨h.1, ⟨undef, a.defers, rfl⟩, h.2⟩

/-- Yields where S holds, and makes no call. -/
def YieldsS (P : Program) (ops : Array Oper) (S : World → Prop) (o : Oper) (v : Value) (a : Act) : Prop := YieldsIf P ops S o v a ∧ ∀ w, o.about P w a.eval = none
theorem YieldsS.left {oi oj : Oper} {v : Value} {a a' : Act} (hy : YieldsS P ops S oi v a) (hap : oi.apart ops oj = true) (hsi : ∀ cs b, oi.op ≠ .select cs b) (h : Left oj a a') : YieldsS P ops S oi v a' := by
  obtain ⟨u, ds, rfl⟩ := h
  obtain ⟨h1, h2, h3⟩ := Oper.apart_spec hap
  refine ⟨YieldsIf.of_same (a := ({ a with defers := ds } : Act)) (YieldsIf.of_same hy.1 rfl rfl) (execOp_put oi hsi _ oj.dst u h3) (wanted_put oi _ oj.dst u h3), fun w => ?_⟩
  rw [about_put oi w _ oj.dst u h3]
  exact hy.2 w
theorem YieldsS.wpOpIn {i : Nat} {o : Oper} {v : Value} {a : Act} (hro : F.round = none) (hi : ops[i]? = some o) (hy : YieldsS P ops S o v a) {K : Act → World → Prop} {w : World} (hS : S w) (h : K (a.put o.dst v) w) : wpOpIn F n P ops Q i K a w := by
  unfold Go.wpOpIn
  simp only [hi]
  have hab : ∀ f, o.about P w a.eval = some f → F.fn f := fun f hf => by rw [hy.2 w] at hf; cases hf
  rcases hy.1 with ⟨hw, hv⟩ | ⟨hw, rfl⟩
  · simp only [hw, if_true, Oper.wpIn, hro, Oper.semAt_none, hv w hS, Oper.uponIn]; exact ⟨hab, h⟩
  · simp only [hw, Bool.false_eq_true, if_false]; exact ⟨hab, h⟩
/-- The same slot, filled by a constant. -/
def still (oi : Oper) (v : Value) : Oper := { oi with op := .move (.const v), guard := none, after := #[] }
theorem still_yields (oi : Oper) (v : Value) (a : Act) : YieldsFenced P ops (still oi v) v a := by
  refine ⟨.inl ⟨rfl, fun w => ?_⟩, fun w => rfl⟩
  simp [still, execOp, Act.eval]

theorem still_apart {oi oj : Oper} {v : Value} (h : oi.apart ops oj = true) : (still oi v).apart ops oj = true := by
  simp only [Oper.apart, Bool.and_eq_true] at h ⊢
  refine ⟨h.1, ?_⟩
  cases oj.dst with
  | none => rfl
  | some d => simp [still, Oper.looksAt, Op.operands]
theorem wpOpIn_putS {j : Nat} {oi oj : Oper} {v : Value} (hro : F.round = none) (hj : ops[j]? = some oj) (hap : oi.apart ops oj = true)
    (hsi : ∀ cs b, oi.op ≠ .select cs b) (hsj : ∀ cs b, oj.op ≠ .select cs b)
    (hQ : ∀ c a w, Q (.panic c) (a.put oi.dst v) w → Q (.panic c) a w) {K : Act → World → Prop} {a : Act} {w : World}
    (hy : YieldsS P ops S oi v a) (h : wpOpIn F n P ops Q j K (a.put oi.dst v) w) :
    wpOpIn F n P ops Q j (fun a' w' => YieldsS P ops S oi v a' ∧ K (a'.put oi.dst v) w') a w :=
  wpOpIn_mono (fun a' w' hh => ⟨hy.left hap hsi hh.1, hh.2.2⟩) (wpOpIn_left hj (wpOpIn_put (oi := still oi v) hro hj (still_apart hap) (fun cs b e => by cases e) hsj hQ (still_yields oi v a) h))

/-- Whatever order is picked from here on; S holds behind every operation. -/
def wpAnyS (F : Fence) (n : Nat) (P : Program) (md : Region.Mode) (ops : Array Oper) (Q : Exit → Act → World → Prop) (S : World → Prop) : Nat → Array Bool → Act → World → Prop
  | 0, listed, a, w => Region.ready md ops listed = [] ∧ Q .normal a w
  | fuel + 1, listed, a, w =>
    (Region.ready md ops listed = [] → Q .normal a w) ∧
    ∀ i ∈ Region.ready md ops listed, wpOpIn F n P ops Q i (fun a' w' => S w' ∧ wpAnyS F n P md ops Q S fuel (listed.setIfInBounds i true) a' w') a w
theorem wpAnyIn_of_S : ∀ (fuel : Nat) (listed : Array Bool) (a : Act) (w : World), wpAnyS F n P md ops Q S fuel listed a w → wpAnyIn F n P md ops Q fuel listed a w
  | 0, _, _, _, h => h
  | fuel + 1, _, _, _, h => ⟨h.1, fun i hi => wpOpIn_mono (fun a' w' h' => wpAnyIn_of_S fuel _ a' w' h'.2) (h.2 i hi)⟩
theorem wpAnyS_first {i : Nat} {oi : Oper} {v : Value} (hro : F.round = none) (hi : ops[i]? = some oi) (hsel : ∀ (j : Nat) (o : Oper) cs b, ops[j]? = some o → o.op ≠ .select cs b)
    (hQ : ∀ c a w, Q (.panic c) (a.put oi.dst v) w → Q (.panic c) a w) :
    ∀ (fuel : Nat) (listed : Array Bool) (a : Act) (w : World),
      (∀ j oj, ops[j]? = some oj → j ≠ i → listed.getD j true = false → (∀ e ∈ oj.after, Region.binds md e = true → e.on ≠ i) → oi.apart ops oj = true) →
      i ∈ Region.ready md ops listed → YieldsS P ops S oi v a → S w →
      wpAnyS F n P md ops Q S fuel (listed.setIfInBounds i true) (a.put oi.dst v) w → wpAnyS F n P md ops Q S (fuel + 1) listed a w := by
  intro fuel
  induction fuel with
  | zero =>
    intro listed a w _ hr hy hS H
    refine ⟨fun h => (by rw [h] at hr; cases hr), fun j hj => ?_⟩
    by_cases hji : j = i
    · subst hji; exact hy.wpOpIn hro hi hS ⟨hS, H⟩
    · have := ready_mono hj hji
      rw [H.1] at this
      cases this
  | succ fuel ih =>
    intro listed a w hfree hr hy hS H
    refine ⟨fun h => (by rw [h] at hr; cases hr), fun j hj => ?_⟩
    by_cases hji : j = i
    · subst hji; exact hy.wpOpIn hro hi hS ⟨hS, H⟩
    · have h1 := H.2 j (ready_mono hj hji)
      obtain ⟨hjun, oj, hoj, hall⟩ := mem_ready.1 hj
      have h2 := wpOpIn_putS hro hoj (hfree j oj hoj hji hjun (not_waits (i := i) (j := j) hr hall)) (fun cs b => hsel i oi cs b hi) (fun cs b => hsel j oj cs b hoj) hQ hy h1
      have hfree' : ∀ k ok, ops[k]? = some ok → k ≠ i → (listed.setIfInBounds j true).getD k true = false →
          (∀ e ∈ ok.after, Region.binds md e = true → e.on ≠ i) → oi.apart ops ok = true := fun k ok hk hki hun hno => by
        refine hfree k ok hk hki ?_ hno
        by_cases hjk : j = k
        · subst hjk; exact hjun
        · rw [getD_set_ne true hjk] at hun; exact hun
      refine wpOpIn_mono (fun a' w' h3 => ⟨h3.2.1, ih (listed.setIfInBounds j true) a' w' hfree' (ready_mono hr (Ne.symm hji)) h3.1 h3.2.1 ?_⟩) h2
      rw [Array.setIfInBounds_comm _ _ hji]
      exact h3.2.2
theorem wpAnyS_take {i : Nat} {oi : Oper} {v : Value} {fuel : Nat} {listed : Array Bool} {a : Act} {w : World} (hro : F.round = none) (hi : ops[i]? = some oi)
    (hs : Region.noSelect ops = true) (hf : Region.free md ops listed i = true) (hr : (Region.ready md ops listed).contains i = true)
    (hQ : ∀ c a w, Q (.panic c) (a.put oi.dst v) w → Q (.panic c) a w) (hy : YieldsIf P ops S oi v a) (hab : ∀ w, oi.about P w a.eval = none) (hS : S w)
    (h : wpAnyS F n P md ops Q S fuel (listed.setIfInBounds i true) (a.put oi.dst v) w) : wpAnyS F n P md ops Q S (fuel + 1) listed a w :=
  wpAnyS_first hro hi (Region.noSelect_spec hs) hQ fuel listed a w (Region.free_spec hi hf) (by simpa using hr) ⟨hy, hab⟩ hS h
/-- One operation alone may come up. -/
theorem wpAnyS_one {i : Nat} {o : Oper} {fuel : Nat} {listed : Array Bool} {a : Act} {w : World} (hr : Region.ready md ops listed = [i]) (ho : ops[i]? = some o)
    (h : ∀ K' : Act → World → Prop, Shut (∀ a w, S w → wpAnyS F n P md ops Q S fuel (listed.setIfInBounds i true) a w → K' a w) → if Region.wanted o (yielded ops a.tmps) = true then Oper.wpIn F n P o a w K' Q else (∀ f, o.about P w a.eval = some f → F.fn f) ∧ K' (a.put o.dst undef) w) : wpAnyS F n P md ops Q S (fuel + 1) listed a w := by
  refine ⟨fun h0 => (by rw [hr] at h0; cases h0), fun j hj => ?_⟩
  rw [hr] at hj
  rcases List.mem_cons.1 hj with rfl | hj
  · exact wpOpIn_step ho (fun K' hK => h K' (fun a w hS hW => hK a w ⟨hS, hW⟩))
  · cases hj
theorem wpAnyS_done {listed : Array Bool} {a : Act} {w : World} (hr : Region.ready md ops listed = []) (h : Q .normal a w) : ∀ fuel, wpAnyS F n P md ops Q S fuel listed a w
  | 0 => ⟨hr, h⟩
  | _ + 1 => ⟨fun _ => h, by rw [hr]; simp⟩
theorem wpIn_region_S {id : Nat} {a : Act} {w : World} (S : World → Prop) (hm : P.follows .mixedOrders = true)
    (h : wpAnyS F n P .any ops Q S ops.size (Array.replicate ops.size false) a w.drew) : (Code.region id ops true).wpIn F n P Q a w :=
  wpIn_region_any hm (wpAnyIn_of_S _ _ _ _ h)

end
end Go.Proofs.YtpmihhbgjimpmaaGreatDoor
namespace Go.Proofs.YtpmihhbgjimpmaaGreatDoor
open Go.RowKit
set_option linter.unusedVariables false

section
variable {P : Program} {n : Nat} {α : Type}

/-- How a round is left: it goes on. -/
def roundOn (B : Nat) (Kp : World → World → Prop) (I : List α → World → Prop) (xs : List α) (W : World) : Exit → Act → World → Prop
  | .normal, _, W' => KeepsFrom B W W' ∧ Kp W W' ∧ I xs W'
  | _, _, _ => False

theorem wpIn_rows {g : Operand} {ps : Array Tmp} {assign body : Code} {Q : Exit → Act → World → Prop} {a : Act} {w : World} {gf : Nat} {lb : Array Value}
    (hg : a.eval g = .func (.func gf) #[] lb) (eg : ∀ args w, (callFunc gf args).run P w = .ok (.enter gf args) w)
    {encs : α → Array Value} (hps : ∀ x, (encs x).size = ps.size) (A : List α → α → World → Prop) (Kp : World → World → Prop) (Sx : List α → Prop) (I : List α → World → Prop)
    (hI : ∀ pre X Y, I pre X → Below X.heap.size X Y → I pre Y) (hIb : ∀ pre X l r r', I pre X → X.heap[l]? = some (.loop r) → w.heap.size < l → I pre (X.putObj l (.loop r')))
    (hKb : ∀ X l r r', X.heap[l]? = some (.loop r) → Kp X (X.putObj l (.loop r'))) (hKt : ∀ X Y Z, Kp X Y → Kp Y Z → Kp X Z) (h0 : I [] w)
    (hseq : ∀ (l : Nat) (J : List α → World → Prop) (W : World), (∀ pre X Y, J pre X → Below X.heap.size X Y → J pre Y) → Below w.heap.size w W → J [] W →
      (∀ m pre x X, J pre X → A pre x X → YieldAt Fence.wide m P l (encs x) X fun e Y => e = .returned (.bool true) ∧ J (pre ++ [x]) Y ∧ Kp X Y) →
      CallsIn Fence.wide (n - 1) P gf (#[.func (.yield l) #[] #[]] ++ lb) W fun e Y => (∃ v, e = .returned v) ∧ ∃ xs, Sx xs ∧ J xs Y)
    (hround : ∀ (m l : Nat) (pre : List α) (x : α) (X : World) (r : Loop), I pre X → A pre x X → X.heap[l]? = some (.loop r) → w.heap.size < l →
      assign.wpIn (Fence.wide.inRound l) m P (Exit.then (fun a' Y => KeepsFrom w.heap.size X Y ∧ Kp X Y ∧ body.wpIn (Fence.wide.inRound l) m P (roundOn w.heap.size Kp I (pre ++ [x]) (Y.putObj l (.loop { r with state := .busy }))) a' (Y.putObj l (.loop { r with state := .busy }))) (fun _ _ _ => False))
        { tmps := (ps.zip (encs x)).foldl (fun t (p, v) => t.setIfInBounds p v) a.tmps, defers := [] } X)
    (hdone : ∀ (D : Nat) (xs : List α) (W : World), w.heap.size ≤ D → Sx xs → I xs W → W.heap[D]? = some (.deferred (some [])) → Q .normal { a with defers := { target := .collected D, args := #[] } :: a.defers } W) :
    (Code.rangeFunc g ps assign body).wpIn Fence.wide n P Q a w := by
  refine wpIn_rangeFunc ?_
  intro fn _
  obtain ⟨r0, hr0⟩ : ∃ r0 : Loop, r0 = { state := .ready, pending := none, fn, tmps := a.tmps, params := ps, assign, body, defers := w.heap.size } := ⟨_, rfl⟩
  obtain ⟨W1, hW1⟩ : ∃ W1, W1 = (w.alloc (.deferred (some []))).alloc (.loop r0) := ⟨_, rfl⟩
  have b1 : Below w.heap.size w W1 := by rw [hW1]; exact ((Below.refl _ w).alloc (Nat.le_refl _) _).alloc (by simp) _
  have hL : W1.heap[w.heap.size + 1]? = some (.loop r0) := by
    rw [hW1]; have := World.alloc_heap_new (w.alloc (.deferred (some []))) (.loop r0); rwa [World.size_alloc] at this
  have hD : W1.heap[w.heap.size]? = some (.deferred (some [])) := by
    rw [hW1]; exact (Below.heap_alloc _ _ _ (by simp)).trans (World.alloc_heap_new w _)
  refine ⟨w.heap.size + 1, [{ target := .collected w.heap.size, args := #[] }], W1, { target := .fn (.func gf) lb, args := #[.func (.yield (w.heap.size + 1)) #[] #[]] }, W1, gf, #[.func (.yield (w.heap.size + 1)) #[] #[]] ++ lb, W1, ?_, ?_, ?_, ?_, ?_, ?_⟩
  · rw [hW1, hr0]; exact run_enterLoop_outer _ _ _ _ _
  · simp only [resolve, hg]
    simp [go_sem]
  · intro f' _; trivial
  · simp [invoke, go_sem, eg]
  · intro h; simp [Fence.wide] at h
  · refine (hseq (w.heap.size + 1) (fun pre W => I pre W ∧ W.heap[w.heap.size + 1]? = some (.loop r0) ∧ W.heap[w.heap.size]? = some (.deferred (some []))) W1 ?_ b1 ⟨hI _ _ _ h0 b1, hL, hD⟩ ?_).mono ?_
    · rintro pre X Y ⟨i1, i2, i3⟩ hb
      exact ⟨hI _ _ _ i1 hb, (hb.block _ (Array.getElem?_eq_some_iff.1 i2).1).trans i2, (hb.block _ (Array.getElem?_eq_some_iff.1 i3).1).trans i3⟩
    · rintro m pre x X ⟨i1, i2, i3⟩ hA
      have hy := run_yield (P := P) (args := encs x) i2 (by rw [hr0]; exact hps x)
      rw [hr0] at hy
      refine ⟨fn, _, assign, body, hy, roundIn_of_wpIn trivial (wpIn_mono (hround m _ pre x X r0 i1 hA i2 (by omega)) ?_)⟩
      rintro e a' Y hp
      cases e with
      | normal =>
        obtain ⟨k1, k2, hb⟩ := hp
        have j2 := k1.same _ _ (by omega) i2 rfl
        have j3 := k1.same _ _ (Nat.le_refl _) i3 rfl
        refine ⟨_, run_beginRound j2 (by rw [hr0]), wpIn_mono hb ?_⟩
        rintro e a'' Z hq
        cases e with
        | normal =>
          obtain ⟨q1, q2, q3⟩ := hq
          have hl : w.heap.size + 1 < Y.heap.size := (Array.getElem?_eq_some_iff.1 j2).1
          have m2 := q1.same _ _ (by omega) (World.putObj_heap_same (o := .loop { r0 with state := .busy }) hl) rfl
          have m3 := q1.same _ _ (Nat.le_refl _) ((World.putObj_heap_other (by omega)).trans j3) rfl
          have hz : w.heap.size + 1 < Z.heap.size := (Array.getElem?_eq_some_iff.1 m2).1
          refine ⟨_, _, run_endRound none m2, rfl, ⟨hIb _ _ _ _ _ q3 m2 (by omega), ?_, (World.putObj_heap_other (by omega)).trans m3⟩, hKt _ _ _ (hKt _ _ _ (hKt _ _ _ k2 (hKb _ _ _ _ j2)) q2) (hKb _ _ _ _ m2)⟩
          rw [World.putObj_heap_same hz, hr0]
          rfl
        | ret => exact hq.elim
        | exit id => exact hq.elim
        | goto t => exact hq.elim
        | panic c => exact hq.elim
        | outgrown => exact hq.elim
      | ret => exact hp.elim
      | exit id => exact hp.elim
      | goto t => exact hp.elim
      | panic c => exact hp.elim
      | outgrown => exact hp.elim
    · rintro e W2 ⟨⟨v, rfl⟩, xs, hS, i1, i2, i3⟩
      exact ⟨none, _, by have := run_endLoop (P := P) i2 (by rw [hr0]; simp); rw [hr0] at this; rw [hr0] at i2; exact this, hdone _ xs _ (Nat.le_refl _) hS (hIb _ _ _ _ _ i1 i2 (by omega)) ((World.putObj_heap_other (by omega)).trans i3)⟩

end
end Go.Proofs.YtpmihhbgjimpmaaGreatDoor
namespace Go.Proofs.YtpmihhbgjimpmaaGreatDoor
open Go.RowKit
set_option linter.unusedVariables false

theorem Ints.by {W W' : World} {G : Nat} {a : Option Addr} {n : Nat} {zs : List Int} (h : Ints W a n zs) (t : Touch (fun x => x = G) W W') (hne : ∀ b o, a = some ⟨b, o, none⟩ → b ≠ G) : Ints W' a n zs := by
  refine ⟨h.1, fun i hi => ?_⟩
  obtain ⟨b, off, e, hc⟩ := h.2 i hi
  refine ⟨b, off, e, ?_⟩
  rw [World.cell?_of_block (t.block b (block_lt hc) (hne b off e))]
  exact hc

theorem JF.put {base W : World} {G cp : Nat} {xs : List Value} {fs : List Frm} (j : JF base G cp 3 xs fs W) (hn : fs.length = 3) {p : Nat} (hp : p < 3) {B1 B2 ca cc : Nat} {C D : List Int} {K : Int} (k1 : Blk W B1 C) (l1 : C.length = 3) (k2 : Blk W B2 D) (l2 : D.length = 2) (n1 : B1 ≠ G) (n2 : B2 ≠ G) :
    FormsAt (((W.setCell ⟨G, p * 3, none⟩ (.slice (some ⟨B1, 0, none⟩) 3 ca)).setCell ⟨G, p * 3 + 1, none⟩ (.slice (some ⟨B2, 0, none⟩) 2 cc)).setCell ⟨G, p * 3 + 2, none⟩ (.int .i64 K)) (some ⟨G, 0, none⟩) (fs.set p (C, D, K)) := by
  have hT := j.t
  have hx := j.o.1
  rcases j.o.2 with ⟨h, _⟩ | ⟨g, cap', cur, h, hg, hh, hl, _, hcs, ht⟩
  · cases h
  simp only [Value.slice.injEq, Option.some.injEq, Addr.mk.injEq, and_true, true_and] at h
  obtain ⟨rfl, rfl⟩ := h
  have cel : Cel W G cur.toList 95 := by unfold Cel; simpa using hh
  have hlen : 9 ≤ cur.toList.length := by
    have := congrArg List.length ht
    rw [List.length_take, hx] at this
    omega
  have hat : ∀ i, i < 9 → cur.toList[i]? = xs[i]? := fun i hi => by
    rw [← ht, List.getElem?_take, if_pos (by omega)]
  have c3 := ((cel.set (p * 3) (.slice (some ⟨B1, 0, none⟩) 3 ca)).set (p * 3 + 1) (.slice (some ⟨B2, 0, none⟩) 2 cc)).set (p * 3 + 2) (.int .i64 K)
  have tt : Touch (fun x => x = G) W (((W.setCell ⟨G, p * 3, none⟩ (.slice (some ⟨B1, 0, none⟩) 3 ca)).setCell ⟨G, p * 3 + 1, none⟩ (.slice (some ⟨B2, 0, none⟩) 2 cc)).setCell ⟨G, p * 3 + 2, none⟩ (.int .i64 K)) := (((Touch.refl (fun x => x = G) W).setCell rfl _).setCell rfl _).setCell rfl _
  have m1 := (k1.ints' l1).by tt (fun b o e => by simp only [Option.some.injEq, Addr.mk.injEq, and_true] at e; omega)
  have m2 := (k2.ints' l2).by tt (fun b o e => by simp only [Option.some.injEq, Addr.mk.injEq, and_true] at e; omega)
  intro i hi
  rw [List.length_set, hn] at hi
  by_cases e : p = i
  · subst e
    rw [List.getElem?_set_self (by omega)]
    refine ⟨G, 0, rfl, _, _, ca, cc, ?_, ?_, ?_, m1, m2⟩
    · rw [Nat.zero_add, c3.cell, List.getElem?_set_ne (by omega), List.getElem?_set_ne (by omega), List.getElem?_set_self (by omega)]
    · rw [Nat.zero_add, c3.cell, List.getElem?_set_ne (by omega), List.getElem?_set_self (by rw [List.length_set]; omega)]
    · rw [Nat.zero_add, c3.cell, List.getElem?_set_self (by rw [List.length_set, List.length_set]; omega)]; rfl
  · rw [List.getElem?_set_ne e]
    obtain ⟨a', c', x, y, e0, e1, e2, i1, i2, q1, q2⟩ := hT i hi
    refine ⟨G, 0, rfl, a', c', x, y, ?_, ?_, ?_, i1.by tt q1, i2.by tt q2⟩
    · rw [Nat.zero_add, c3.cell, List.getElem?_set_ne (by omega), List.getElem?_set_ne (by omega), List.getElem?_set_ne (by omega), hat _ (by omega)]; exact e0
    · rw [Nat.zero_add, c3.cell, List.getElem?_set_ne (by omega), List.getElem?_set_ne (by omega), List.getElem?_set_ne (by omega), hat _ (by omega)]; exact e1
    · rw [Nat.zero_add, c3.cell, List.getElem?_set_ne (by omega), List.getElem?_set_ne (by omega), List.getElem?_set_ne (by omega), hat _ (by omega)]; exact e2

end Go.Proofs.YtpmihhbgjimpmaaGreatDoor
namespace Go.Proofs.YtpmihhbgjimpmaaGreatDoor
open Go.RowKit Go.Deep
set_option linter.unusedVariables false
set_option maxRecDepth 100000

theorem goW_stop {ls : List LV} {f i : Nat} {y : Way} {g : LV} (hi : i < ls.length) (hf : 0 < f) (hg : ls[i]?.getD noLV = g) (h1 : ¬ g.kind = 1) (h2 : ¬ g.kind = 2) (h3 : ¬ g.kind = 3) : goW ls f i y = [stopW y] := by
  obtain ⟨f, rfl⟩ : ∃ f', f = f' + 1 := ⟨f - 1, by omega⟩
  rw [goW, if_pos hi, hg, if_neg h1, if_neg h2, if_neg h3]
theorem FOff.noForms {W : World} {S : Nat → Prop} {a : Option Addr} : FOff W S a [] := fun W' t i hi => by simp at hi
theorem lineW {k p z : Int} {n m : Nat} {C D : List Int} {K : Int} (h : lineB k p z n m C D K = true) (h4 : ¬ k = 4) : smallB n m C D K = true ∧ (k = 1 ∨ k = 2 ∨ k = 3) ∧ (k = 1 → 1 ≤ z ∧ z ≤ 6) ∧ (k = 2 → 0 ≤ p ∧ p < 3) := by
  by_cases h1 : k = 1
  · subst h1
    simp [lineB] at h
    have := inB_iff.1 h.1.2
    exact ⟨h.2, Or.inl rfl, fun _ => this, fun e => by omega⟩
  by_cases h2 : k = 2
  · subst h2
    simp [lineB] at h
    have := inB_iff.1 h.1.1
    exact ⟨h.2, Or.inr (Or.inl rfl), fun e => by omega, fun _ => ⟨this.1, by omega⟩⟩
  by_cases h3 : k = 3
  · subst h3
    simp [lineB] at h
    exact ⟨h.2, Or.inr (Or.inr rfl), fun e => by omega, fun e => by omega⟩
  simp [lineB, h1, h2, h3, h4] at h
theorem TermsOk.ext {W : World} {G : Nat} {xs : List Value} {T T' : List Frm} {n : Nat} (h : TermsOk W G xs T n) (e : ∀ j, j < n → T'[j]?.getD ([], [], 0) = T[j]?.getD ([], [], 0)) : TermsOk W G xs T' n := fun j hj => by
  obtain ⟨a', c', ca, cc, e0, e1, e2, i1, i2, n1, n2⟩ := h j hj
  rw [e j hj]
  exact ⟨a', c', ca, cc, e0, e1, e2, i1, i2, n1, n2⟩
/-- One form more, at the end of a copy. -/
theorem JF.snoc {w W W' : World} {G cap n : Nat} {xs : List Value} {fs : List Frm} {g cp B1 B2 ca cc : Nat} {C D : List Int} {K : Int} (j : JF w G cap n xs fs W) (hn : fs.length = n) (hown : W'.ownsRow w.heap.size 95 3 (.slice (some ⟨g, 0, none⟩) (n + 1) cp) (n + 1) (xs ++ [.slice (some ⟨B1, 0, none⟩) 3 ca, .slice (some ⟨B2, 0, none⟩) 2 cc, .int .i64 K])) (hgrow : W.grownBy W' (some G)) {H : Nat} (hat : some G = some g ∨ g = H) (hH : W.heap.size = H)
    (k1 : Ints W (some ⟨B1, 0, none⟩) 3 C) (k2 : Ints W (some ⟨B2, 0, none⟩) 2 D) (n1 : B1 ≠ G) (n2 : B2 ≠ G) : Below w.heap.size w W' ∧ FormsAt W' (some ⟨g, 0, none⟩) (fs ++ [(C, D, K)]) := by
  have hG := j.lt
  have hat' : g = G ∨ W.heap.size ≤ g := by
    rcases hat with h | h
    · simp only [Option.some.injEq] at h; exact Or.inl h.symm
    · exact Or.inr (by omega)
  have t1 : TermsOk W G xs (fs ++ [(C, D, K)]) n := j.t.ext (fun i hi => by rw [List.getElem?_append_left (by omega)])
  have t2 := t1.step j.o.1 hgrow hat' (ca := ca) (cc := cc) (K := K) k1 k2 n1 n2 (by rw [List.getElem?_append_right (by omega), hn, Nat.sub_self]; rfl)
  exact ⟨j.b.grown hgrow j.b.size (fun z hz => by simp only [Option.some.injEq] at hz; omega), t2.forms (by rw [List.length_append, hn]; rfl) hown⟩

theorem JF.frz {w W : World} {G cap n : Nat} {xs : List Value} {fs : List Frm} (j : JF w G cap n xs fs W) (i : Nat) : W.frozen? ⟨G, i, none⟩ = false := by
  rcases j.o.2 with ⟨h, _⟩ | ⟨g, cap', cur, h, hg, hh, _⟩
  · cases h
  · simp only [Value.slice.injEq, Option.some.injEq, Addr.mk.injEq, and_true, true_and] at h
    obtain ⟨rfl, _⟩ := h
    have : Cel W G cur.toList 95 := by unfold Cel; simpa using hh
    exact this.free i

end Go.Proofs.YtpmihhbgjimpmaaGreatDoor
namespace Go.Proofs.YtpmihhbgjimpmaaGreatDoor
open Go.RowKit Go.Deep
set_option linter.unusedVariables false
set_option maxRecDepth 100000

/-- All ways through an act; none, if it is not ok. -/
def rowsB (N : Nat) (ls : List LV) : List RowM := if actB N ls then rowsL ls else []
theorem actB_parts {N : Nat} {ls : List LV} (h : actB N ls = true) : N ≤ 6 ∧ ls.all LV.ok = true := by
  simp only [actB, Bool.and_eq_true, decide_eq_true_eq] at h
  exact ⟨by omega, h.1.2⟩
/-- The three pots of the beginning, laid in a row. -/
theorem way0_at {W : World} {B : Nat} {a0 a1 a2 c0 c1 c2 : Option Addr} {x0 x1 x2 y0 y1 y2 : Nat} (h : Cel W B [.slice a0 3 x0, .slice c0 2 y0, .int .i64 0, .slice a1 3 x1, .slice c1 2 y1, .int .i64 0, .slice a2 3 x2, .slice c2 2 y2, .int .i64 0] 95)
    (i0 : Ints W a0 3 ([0, 0, 0].set 0 1)) (j0 : Ints W c0 2 [0, 0]) (i1 : Ints W a1 3 ([0, 0, 0].set 1 1)) (j1 : Ints W c1 2 [0, 0]) (i2 : Ints W a2 3 ([0, 0, 0].set 2 1)) (j2 : Ints W c2 2 [0, 0]) : FormsAt W (some ⟨B, 0, none⟩) way0.pots := fun i hi => by
  have hi' : i < 3 := hi
  match i, hi' with
  | 0, _ => exact ⟨B, 0, rfl, a0, c0, x0, y0, h.cell 0, h.cell 1, h.cell 2, i0, j0⟩
  | 1, _ => exact ⟨B, 0, rfl, a1, c1, x1, y1, h.cell 3, h.cell 4, h.cell 5, i1, j1⟩
  | 2, _ => exact ⟨B, 0, rfl, a2, c2, x2, y2, h.cell 6, h.cell 7, h.cell 8, i2, j2⟩
theorem FormsAt.noForms {W : World} {a : Option Addr} : FormsAt W a [] := fun i hi => by simp at hi

end Go.Proofs.YtpmihhbgjimpmaaGreatDoor
namespace Go.Proofs.YtpmihhbgjimpmaaGreatDoor
open Go.RowKit Go.Deep
set_option linter.unusedVariables false
set_option maxRecDepth 100000

/-- Three bools that can be read. -/
def Bools (W : World) (a : Option Addr) (f : Nat → Bool) : Prop := ∃ b off, a = some ⟨b, off, none⟩ ∧ ∀ v, v < 3 → W.cell? ⟨b, off + v, none⟩ = some (.bool (f v))
theorem Bools.below {W W' : World} {a : Option Addr} {f : Nat → Bool} (h : Bools W a f) (b : Below W.heap.size W W') : Bools W' a f := by
  obtain ⟨b0, off, e, hc⟩ := h
  exact ⟨b0, off, e, fun v hv => (b.cell (p := ⟨b0, off + v, none⟩) (block_lt (hc v hv))).trans (hc v hv)⟩
/-- Three bools in a block, free to be written. -/
def OwnB (W : World) (G : Nat) (f : Nat → Bool) : Prop := ∃ cur : List Value, Cel W G cur 4 ∧ ∀ v, v < 3 → cur[v]? = some (.bool (f v))
theorem OwnB.lt {W : World} {G : Nat} {f : Nat → Bool} (h : OwnB W G f) : G < W.heap.size := by obtain ⟨cur, hc, _⟩ := h; exact hc.lt
theorem OwnB.bools {W : World} {G : Nat} {f : Nat → Bool} (h : OwnB W G f) : Bools W (some ⟨G, 0, none⟩) f := by
  obtain ⟨cur, hc, hv⟩ := h
  exact ⟨G, 0, rfl, fun v hh => by rw [Nat.zero_add, hc.cell v]; exact hv v hh⟩
theorem OwnB.set {W : World} {G : Nat} {f : Nat → Bool} (h : OwnB W G f) {u : Nat} (hu : u < 3) (x : Bool) : OwnB (W.setCell ⟨G, u, none⟩ (.bool x)) G (fun v => if v = u then x else f v) := by
  obtain ⟨cur, hc, hv⟩ := h
  have hl : u < cur.length := (List.getElem?_eq_some_iff.1 (hv u hu)).1
  refine ⟨_, hc.set u _, fun v hh => ?_⟩
  by_cases e : v = u
  · subst e; rw [List.getElem?_set_self hl]; simp
  · rw [List.getElem?_set_ne (by omega)]; simp only [e, if_false]; exact hv v hh
theorem OwnB.ext {W : World} {G : Nat} {f g : Nat → Bool} (h : OwnB W G f) (e : ∀ v, v < 3 → f v = g v) : OwnB W G g := by
  obtain ⟨cur, hc, hv⟩ := h
  exact ⟨cur, hc, fun v hh => by rw [← e v hh]; exact hv v hh⟩
/-- Pots that forms have are marked. -/
def hasP (f : Frm) (v : Nat) : Bool := f.1[v]?.getD 0 != 0
def readsF (r : Nat → Bool) (fs : List Frm) (v : Nat) : Bool := r v || fs.any (fun f => hasP f v)
theorem readsF_snoc (r : Nat → Bool) (fs : List Frm) (k : Nat) (hk : k < fs.length) (v : Nat) : readsF r (fs.take (k + 1)) v = (readsF r (fs.take k) v || hasP (fs[k]?.getD ([], [], 0)) v) := by
  rw [readsF, readsF, List.take_succ_eq_append_getElem hk, List.any_append, List.getElem?_eq_getElem hk]
  simp [Bool.or_assoc]
theorem Tryz.infoBool : (Tryz.prog.info? 4).map (fun i => (i.zero, i.size, i.bytes)) = some (some (.bool false), 1, 1) := by kernel_rfl

end Go.Proofs.YtpmihhbgjimpmaaGreatDoor
namespace Go.Proofs.YtpmihhbgjimpmaaGreatDoor
open Go.RowKit Go.Deep
set_option linter.unusedVariables false
set_option maxRecDepth 100000

set_option maxHeartbeats 3200000 in
theorem icopied_any (a : Option Addr) (cap : Nat) (c : Option Addr) (cap' : Nat) (K : Int) (C D : List Int) (w : World) (hC : Ints w a 3 C) (hD : Ints w c 2 D) :
    Calls Tryz.prog 245 #[formV a 3 cap c 2 cap' K] w fun e w' => ∃ B1 B2 c1 c2, e = .returned (formV (some ⟨B1, 0, none⟩) 3 c1 (some ⟨B2, 0, none⟩) 2 c2 K) ∧ Below w.heap.size w w' ∧ w.heap.size ≤ B1 ∧ B1 ≠ B2 ∧ w.heap.size ≤ B2 ∧ Ints w' (some ⟨B1, 0, none⟩) 3 C ∧ Ints w' (some ⟨B2, 0, none⟩) 2 D := by
  have H1 : TimesH w a cap c cap' K ((w.alloc (Obj.cells #[Value.slice a 3 cap, Value.slice c 2 cap', Value.int IntKind.i64 K] 95)).alloc (Obj.cells #[Value.slice none 0 0, Value.slice none 0 0, Value.int IntKind.i64 0] 95)) :=
    ⟨(Cel.new w _ _).alloc _, by have := Cel.new (w.alloc (Obj.cells #[Value.slice a 3 cap, Value.slice c 2 cap', Value.int IntKind.i64 K] 95)) [.slice none 0 0, .slice none 0 0, .int .i64 0] 95; rw [World.size_alloc] at this; exact this, ((Below.refl _ _).alloc (Nat.le_refl _) _).alloc (by simp) _⟩
  go_enter Tryz.func245, Tryz.ntmps245
  go_upto_region 1 with fail
  obtain ⟨W0, hW0⟩ : ∃ w2, w2 = (w.alloc (Obj.cells #[Value.slice a 3 cap, Value.slice c 2 cap', Value.int IntKind.i64 K] 95)).alloc (Obj.cells #[Value.slice none 0 0, Value.slice none 0 0, Value.int IntKind.i64 0] 95) := ⟨_, rfl⟩
  rw [← hW0] at H1 ⊢
  clear hW0
  have KP : Hid (∀ W, Below W0.heap.size W0 W → TimesH w a cap c cap' K W) := fun W hW => H1.below hW
  have lr := H1.r.lt
  have c0 : Below W0.heap.size W0 W0.drew := (Below.refl _ _).drew
  have hSS : (W0.drew.cell? ⟨w.heap.size, 0, none⟩ = some (.slice a 3 cap) ∧ W0.drew.cell? ⟨w.heap.size, 1, none⟩ = some (.slice c 2 cap') ∧ W0.drew.cell? ⟨w.heap.size, 2, none⟩ = some (.int .i64 K)) ∧ True := ⟨(KP.out _ c0).cells, trivial⟩
  have hb0 := H1.b
  clear H1
  refine wp_region_ends (fun w' => w'.cell? ⟨w.heap.size, 0, none⟩ = some (.slice a 3 cap) ∧ w'.cell? ⟨w.heap.size, 1, none⟩ = some (.slice c 2 cap') ∧ w'.cell? ⟨w.heap.size, 2, none⟩ = some (.int .i64 K)) (fun _ => True) 9 (by kernel_rfl) ?_
  refine wpAnyE_take0 (i := 0) (v := ?v0) rfl (by kernel_rfl) (by kernel_rfl) (by kernel_rfl) (by decide) (fun _ _ _ h => h) (Or.inl ⟨by rfl, ?hy0⟩) hSS ?_
  case hy0 => (intro wz hSw; (try dsimp only at hSw); go_simp; try (with_reducible rfl))
  refine wpAnyE_take0 (i := 1) (v := ?v1) rfl (by kernel_rfl) (by kernel_rfl) (by kernel_rfl) (by decide) (fun _ _ _ h => h) (Or.inl ⟨by rfl, ?hy1⟩) hSS ?_
  case hy1 => (intro wz hSw; (try dsimp only at hSw); go_simp; try (with_reducible rfl))
  refine wpAnyE_take0 (i := 3) (v := ?v3) rfl (by kernel_rfl) (by kernel_rfl) (by kernel_rfl) (by decide) (fun _ _ _ h => h) (Or.inl ⟨by rfl, ?hy3⟩) hSS ?_
  case hy3 => (intro wz hSw; (try dsimp only at hSw); go_simp; try (with_reducible rfl))
  refine wpAnyE_take0 (i := 4) (v := ?v4) rfl (by kernel_rfl) (by kernel_rfl) (by kernel_rfl) (by decide) (fun _ _ _ h => h) (Or.inl ⟨by rfl, ?hy4⟩) hSS ?_
  case hy4 => (intro wz hSw; (try dsimp only at hSw); go_simp; try (with_reducible rfl))
  refine wpAnyE_take0 (i := 6) (v := ?v6) rfl (by kernel_rfl) (by kernel_rfl) (by kernel_rfl) (by decide) (fun _ _ _ h => h) (Or.inl ⟨by rfl, ?hy6⟩) hSS ?_
  case hy6 => (intro wz hSw; (try dsimp only at hSw); go_simp; try (with_reducible rfl))
  refine wpAnyE_take0 (i := 7) (v := ?v7) rfl (by kernel_rfl) (by kernel_rfl) (by kernel_rfl) (by decide) (fun _ _ _ h => h) (Or.inl ⟨by rfl, ?hy7⟩) hSS ?_
  case hy7 => (intro wz hSw; (try dsimp only at hSw); go_simp; try (with_reducible rfl))
  clear hSS
  have sb0 := hb0.size
  refine wpAnyE_one (i := 2) (by kernel_rfl) rfl (fun K' hK => ?_)
  go_simp
  refine (clone_any _ _ _ C _ ((hC.below hb0).below c0) (by omega) (by omega)).mono ?_
  rintro ee w1 ⟨v1, rfl, j1⟩
  have e1 := below_of_drew j1.b
  obtain ⟨a1, p1, B1, rfl, o1, g1⟩ := j1.ownx hC.1
  have i1 := o1.ints
  obtain ⟨rfl, -, -⟩ := o1.pos (by omega)
  have y1 : W0.heap.size ≤ B1 := g1 (by omega)
  have l1 := o1.lt (by omega)
  clear j1 o1 g1
  (try dsimp only)
  refine hK.out _ _ ⟨(KP.out _ e1).cells, fun _ => trivial⟩ ?_
  clear hK K'
  refine wpAnyE_one (i := 5) (by kernel_rfl) rfl (fun K' hK => ?_)
  go_simp
  refine (clone_any _ _ _ D _ ((hD.below hb0).below e1) (by omega) (by omega)).mono ?_
  rintro ee w2 ⟨v2, rfl, j2⟩
  have e2 := e1.trans (j2.b.mono e1.size)
  have i1' := i1.below j2.b
  obtain ⟨a2, p2, B2, rfl, o2, g2⟩ := j2.ownx hD.1
  have i2 := o2.ints
  obtain ⟨rfl, -, -⟩ := o2.pos (by omega)
  have y2 : w1.heap.size ≤ B2 := g2 (by omega)
  have l2 := o2.lt (by omega)
  have s1 := e1.size
  have s2 := j2.b.size
  clear j2 o2 g2 i1
  (try dsimp only)
  refine hK.out _ _ ⟨(KP.out _ e2).cells, fun _ => trivial⟩ ?_
  clear hK K'
  refine wpAnyE_one (i := 8) (by kernel_rfl) rfl (fun K' hK => ?_)
  go_simp
  refine hK.out _ _ ⟨(KP.out _ e2).cells, fun _ => trivial⟩ ?_
  clear hK K'
  have HY := KP.out _ e2
  obtain ⟨r0, r1, r2, r3, r4, r5⟩ := HY.room
  obtain ⟨s0', s1', s2', -, -, -⟩ := HY.r.trio
  have T : Touch (fun z => z = w.heap.size + 1) w2 (((w2.setCell ⟨w.heap.size + 1, 0, none⟩ (.slice (some ⟨B1, 0, none⟩) 3 p1)).setCell ⟨w.heap.size + 1, 1, none⟩ (.slice (some ⟨B2, 0, none⟩) 2 p2)).setCell ⟨w.heap.size + 1, 2, none⟩ (.int .i64 K)) := (((Touch.refl (fun z => z = w.heap.size + 1) w2).setCell rfl _).setCell rfl _).setCell rfl _
  have r6 := ((HY.r.set 0 (.slice (some ⟨B1, 0, none⟩) 3 p1)).set 1 (.slice (some ⟨B2, 0, none⟩) 2 p2)).set 2 (.int .i64 K)
  simp only [List.set_cons_zero, List.set_cons_succ] at r6
  have p6 := HY.p.touch T (fun h => by have := h; omega)
  obtain ⟨h0, h1, h2, -, -, -⟩ := r6.trio
  obtain ⟨x0, x1, x2, -, -, -⟩ := p6.trio
  refine wpAnyE_one (i := 9) (by kernel_rfl) rfl (fun K' hK => ?_)
  go_simp
  refine hK.out _ _ ⟨⟨x0, x1, x2⟩, fun h => absurd (show true = false from h) (by decide)⟩ ?_
  clear hK K'
  refine wpAnyE_done (by kernel_rfl) ?_ _
  have q1 := i1'.by T (fun b o e => by simp only [Option.some.injEq, Addr.mk.injEq, and_true] at e; omega)
  have q2 := i2.by T (fun b o e => by simp only [Option.some.injEq, Addr.mk.injEq, and_true] at e; omega)
  have BB := (hb0.trans (e2.mono hb0.size)).trans (T.below (by omega) (fun z hz => by omega))
  clear HY r0 r1 r2 r3 r4 r5 s0' s1' s2' r6 p6 x0 x1 x2 T i1' i2
  go_wp2
  refine bodyPost_ret (v := formV (some ⟨B1, 0, none⟩) 3 p1 (some ⟨B2, 0, none⟩) 2 p2 K) (by simp [results, Tryz.results245, go_sem, h0, h1, h2]) rfl ?_
  exact ⟨B1, B2, p1, p2, rfl, BB, by omega, by omega, by omega, q1, q2⟩

theorem Tryz.copiedForm (v : Value) (w : World) : (Go.method 414 95 v "loop.example/concord/impl.copied").run Tryz.prog w = .ok (245, v) w := by kernel_rfl

set_option maxHeartbeats 3200000 in
theorem icopiesBy_any (ad : Option Addr) (N cap : Nat) (fs : List Frm) (w : World) (hN : fs.length = N) (hF : FormsAt w ad fs) (hfit : ∀ k, k < N → fitX 10000000 (fs[k]?.getD ([], [], 0))) (hN1 : N ≤ 1048576) :
    Calls Tryz.prog 190 #[.slice ad N cap, .func (.methodOf 95 "loop.example/concord/impl.copied") #[] #[]] w fun e w' => ∃ v xs, e = .returned v ∧ JV w v N xs fs w' := by
  have HN : Hid (fs.length = N) := hN
  have HFT : Hid _ := hfit
  have HF : Hid (FormsAt w ad fs) := hF
  clear hN hfit hF
  obtain ⟨zi, hi, hz0, hz1, hz2⟩ := info_parts Tryz.infoForm
  have hm := Tryz.copiedForm
  go_enter Tryz.func190, Tryz.ntmps190
  go_wp2_with fail
  go_loopw [5, 7, 10] (fun r _ i wr => ∃ (k : Nat) (xs : List Value), k ≤ N ∧ i = .int .i64 k ∧ JV w r k xs fs wr) (fun _ _ i _ => N - (intOf i).toNat)
  case atStart => exact ⟨0, [], Nat.zero_le _, rfl, JV.nil w _⟩
  case round =>
    obtain ⟨k, xs, hk, rfl, j⟩ := hrel
    by_cases hlt : k < N
    · obtain ⟨va, vc, rfl⟩ := j.isSlice
      have hlt' : (k : Int) < N := by omega
      obtain ⟨b, off, rfl, a', c', ca, cc, c0, c1, c2, iC, iD⟩ := (HF.out.keep j.b) k (by rw [HN.out]; exact hlt)
      have hfit := HFT.out k hlt
      generalize HG : fs[k]?.getD ([], [], 0) = f at *
      have HT : Hid (fs[k]?.getD ([], [], 0) = f) := HG
      clear HG
      obtain ⟨fC, fD, fK⟩ := f
      have lC : fC.length = 3 := hfit.c
      have lD : fD.length = 2 := hfit.d
      simp only at c2 iC iD
      clear hfit
      have A1 : Below wr.heap.size wr (wr.alloc (.cells #[.slice a' 3 ca, .slice c' 2 cc, .int .i64 fK] 95)) := (Below.refl _ _).alloc (Nat.le_refl _) _
      go_wp2_with fail
      refine (icopied_any _ _ _ _ _ fC fD _ (iC.below A1) (iD.below A1)).mono ?_
      rintro ee w3 ⟨Z1, Z2, x0, y0, rfl, b3, z1, z2, z3, k1, k2⟩
      rw [World.size_alloc] at z1 z3
      have b3' := A1.trans (b3.mono A1.size)
      have j3 := j.below b3'
      have sz := j.b.size
      have sz3 := b3'.size
      have A : Below w3.heap.size w3 (w3.alloc (.cells #[.slice (some ⟨Z1, 0, none⟩) 3 x0, .slice (some ⟨Z2, 0, none⟩) 2 y0, .int .i64 fK] 95)) := (Below.refl _ _).alloc (Nat.le_refl _) _
      have j4 := j3.below A
      have k1' := k1.below A
      have k2' := k2.below A
      have n1 : (Value.slice va k vc).ownBlock ≠ some Z1 := fun e => by have := (j.own e).2; omega
      have n2 : (Value.slice va k vc).ownBlock ≠ some Z2 := fun e => by have := (j.own e).2; omega
      clear j j3 c0 c1 c2 iC iD A1 b3 b3'
      go_wp2_with (at_builtin; go_must (refine wpList_append_lies _ rfl (.tmp 14) (.tmp 18) 176 rfl w.heap.size 95 zi _ 3 56 Tryz.underlying176 hi hz0 hz1 hz2 rfl (by decide) (.slice va k vc) k xs rfl j4.o ⟨w3.heap.size, 0, none⟩ 1 1 [.slice (some ⟨Z1, 0, none⟩) 3 x0, .slice (some ⟨Z2, 0, none⟩) 2 y0, .int .i64 fK] rfl rfl (World.news_of_block (cs := #[.slice (some ⟨Z1, 0, none⟩) 3 x0, .slice (some ⟨Z2, 0, none⟩) 2 y0, .int .i64 fK]) (t := 95) (fr := (0, 0)) (heap_alloc_new w3 _)) (by simp [Value.oneCell']) (by omega) (by unfold maxLen; omega) (by omega) (by rw [World.size_alloc]; omega) _ rfl ?_); intro g cp w4 hown hgrow hat hlt1)
      have j5 := j4.app hown hgrow hat rfl k1' k2' n1 n2 (by omega) (by omega) HT.out
      clear hown hgrow hat j4 k1 k2 k1' k2'
      go_wp2
      go_roundw
      case rel => exact ⟨k + 1, _, by omega, by go_num, j5⟩
      case measure => simp [intOf]; omega
    · obtain rfl : k = N := by omega
      go_wp2
      go_ret
      exact ⟨_, xs, rfl, j⟩

theorem icopies_any (ad : Option Addr) (N cap : Nat) (fs : List Frm) (w : World) (hN : fs.length = N) (hF : FormsAt w ad fs) (hfit : ∀ k, k < N → fitX 10000000 (fs[k]?.getD ([], [], 0))) (hN1 : N ≤ 1048576) :
    Calls Tryz.prog 180 #[.slice ad N cap] w fun e w' => ∃ v xs, e = .returned v ∧ JV w v N xs fs w' := by
  go_enter Tryz.func180, Tryz.ntmps180
  go_wp2_with fail
  refine (icopiesBy_any _ _ _ fs _ hN hF hfit hN1).mono ?_
  rintro e w1 ⟨v, xs, rfl, j⟩
  go_wp2
  go_ret
  exact ⟨v, xs, rfl, j⟩

end Go.Proofs.YtpmihhbgjimpmaaGreatDoor
