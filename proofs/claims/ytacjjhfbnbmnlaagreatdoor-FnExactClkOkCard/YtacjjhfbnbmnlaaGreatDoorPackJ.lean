/-
  Texts that the claim's last one rests on, behind one another: WayS, WayZ, WayH, IReads, BoolS, CatPW, CatL, Trt, TrtW, Plan, CatPL.
-/
import Derived.Test.YtacjjhfbnbmnlaaGreatDoorPackH
import Derived.Test.YtacjjhfbnbmnlaaGreatDoorPackF
import Derived.Test.YtacjjhfbnbmnlaaGreatDoorPackG
import Derived.Test.YtacjjhfbnbmnlaaGreatDoorPackA
import Derived.Test.YtacjjhfbnbmnlaaGreatDoorPackC
namespace Go.Proofs.YtacjjhfbnbmnlaaGreatDoor
open Go.RowKit Go.Deep Go.Shelf
set_option linter.unusedVariables false
set_option maxRecDepth 100000
attribute [local go_sem] Oper.semAt_some

set_option maxHeartbeats 6400000 in
theorem from_step (l : Nat) (SG N sc i0 : Nat) (hlt : i0 < N) (hi1 : i0 ≤ 12) (ga : Option Addr) (ng gc : Nat) (pa : Option Addr) (cp : Nat) (ta : Option Addr) (nt tc : Nat) (ty : TypeId) (sv : Value) (cur : List Value) (J : World → Prop) (W : World) (n : Nat) (hC : Cel W SG cur 254) (hv : cur[i0]? = some (.iface ty sv))
    (hpast : ∀ X m, Below W.heap.size W X → CallsIn Fence.wide m Tryz.prog 203 #[wayV ga ng gc pa cp ta nt tc false, .iface ty sv, .int .i64 ((i0 : Int) + 1), goV l (some ⟨SG, 0, none⟩) N sc] X fun e Y => e = .returned (.bool true) ∧ J Y ∧ KpR X Y) :
    CallsIn Fence.wide n Tryz.prog 189 #[walkV l (some ⟨SG, 0, none⟩) N sc, .int .i64 (i0 : Int), wayV ga ng gc pa cp ta nt tc false] W fun e Y => e = .returned (.bool true) ∧ J Y ∧ KpR W Y := by
  have hdd : ∀ k : Nat, (Fence.wide.depth.isSome = true → 1 ≤ k) := fun k h => by simp [Fence.wide] at h
  have hge : ¬ ((N : Int) ≤ i0) := by omega
  have hlt' : (i0 : Int) < N := by omega
  have hw : IntKind.i64.wrap ((i0 : Int) + 1) = (i0 : Int) + 1 := wrap_id (by omega) (by omega)
  have A : Below W.heap.size W ((W.alloc (.cells #[.slice (some ⟨SG, 0, none⟩) N sc, .func (.yield l) #[] #[]] 243)).alloc (.cells #[.slice ga ng gc, .slice pa 3 cp, .slice ta nt tc, .bool false] 246)) := ((Below.refl _ _).alloc (Nat.le_refl _) _).alloc (by simp) _
  have x0 := (Cel.new W [.slice (some ⟨SG, 0, none⟩) N sc, .func (.yield l) #[] #[]] 243).alloc (.cells #[.slice ga ng gc, .slice pa 3 cp, .slice ta nt tc, .bool false] 246)
  have y0 := Cel.new (W.alloc (.cells #[.slice (some ⟨SG, 0, none⟩) N sc, .func (.yield l) #[] #[]] 243)) [.slice ga ng gc, .slice pa 3 cp, .slice ta nt tc, .bool false] 246
  rw [World.size_alloc] at y0
  have s0 := hC.below A
  refine callsIn_of_wp Tryz.func189 rfl trivial ?_ rfl
  simp only [Tryz.ntmps189, List.size_toArray, List.length_cons, List.length_nil, Nat.reduceAdd, Nat.reduceSub, Array.replicate_succ, Array.replicate_zero, List.push_toArray, List.append_toArray, List.nil_append, List.cons_append]
  gi_wp2_with fail
  obtain ⟨W0, hW0⟩ : ∃ W0, W0 = (W.alloc (.cells #[.slice (some ⟨SG, 0, none⟩) N sc, .func (.yield l) #[] #[]] 243)).alloc (.cells #[.slice ga ng gc, .slice pa 3 cp, .slice ta nt tc, .bool false] 246) := ⟨_, rfl⟩
  rw [← hW0] at A x0 y0 s0 ⊢
  clear hW0
  have KP : Hid (∀ X, KpR W0 X → ((X.cell? ⟨W.heap.size, 0, none⟩ = some (.slice (some ⟨SG, 0, none⟩) N sc) ∧ X.cell? ⟨W.heap.size, 1, none⟩ = some (.func (.yield l) #[] #[])) ∧ (X.cell? ⟨W.heap.size + 1, 0, none⟩ = some (.slice ga ng gc) ∧ X.cell? ⟨W.heap.size + 1, 1, none⟩ = some (.slice pa 3 cp) ∧ X.cell? ⟨W.heap.size + 1, 2, none⟩ = some (.slice ta nt tc) ∧ X.cell? ⟨W.heap.size + 1, 3, none⟩ = some (.bool false)) ∧ X.cell? ⟨SG, i0, none⟩ = some (.iface ty sv))) := fun X hX => by
    have a1 := x0.keepR hX (by decide) (by decide)
    have a2 := y0.keepR hX (by decide) (by decide)
    have a3 := s0.keepR hX (by decide) (by decide)
    exact ⟨⟨a1.cell 0, a1.cell 1⟩, a2.four, (a3.cell i0).trans hv⟩
  have e0 : Below W0.heap.size W0 W0.drew := (Below.refl _ _).drew
  have hSS := KP.out _ (KpR.of e0)
  have HP : Hid _ := hpast _ (n - 1) (A.trans (e0.mono A.size))
  clear x0 y0 s0 hpast
  refine wpIn_region_S (fun w' => (w'.cell? ⟨W.heap.size, 0, none⟩ = some (.slice (some ⟨SG, 0, none⟩) N sc) ∧ w'.cell? ⟨W.heap.size, 1, none⟩ = some (.func (.yield l) #[] #[])) ∧ (w'.cell? ⟨W.heap.size + 1, 0, none⟩ = some (.slice ga ng gc) ∧ w'.cell? ⟨W.heap.size + 1, 1, none⟩ = some (.slice pa 3 cp) ∧ w'.cell? ⟨W.heap.size + 1, 2, none⟩ = some (.slice ta nt tc) ∧ w'.cell? ⟨W.heap.size + 1, 3, none⟩ = some (.bool false)) ∧ w'.cell? ⟨SG, i0, none⟩ = some (.iface ty sv)) (by kernel_rfl) ?_
  refine wpAnyS_take (i := 0) (v := ?v0) rfl rfl (by kernel_rfl) (by kernel_rfl) (by kernel_rfl) (fun _ _ _ h => h) (Or.inl ⟨by rfl, ?y0⟩) (fun _ => rfl) hSS ?_
  case y0 => (intro wz hSw; (try dsimp only at hSw); go_simp; try (with_reducible rfl))
  refine wpAnyS_take (i := 1) (v := ?v1) rfl rfl (by kernel_rfl) (by kernel_rfl) (by kernel_rfl) (fun _ _ _ h => h) (Or.inl ⟨by rfl, ?y1⟩) (fun _ => rfl) hSS ?_
  case y1 => (intro wz hSw; (try dsimp only at hSw); go_simp; try (with_reducible rfl))
  refine wpAnyS_take (i := 2) (v := ?v2) rfl rfl (by kernel_rfl) (by kernel_rfl) (by kernel_rfl) (fun _ _ _ h => h) (Or.inl ⟨by rfl, ?y2⟩) (fun _ => rfl) hSS ?_
  case y2 => (intro wz hSw; (try dsimp only at hSw); go_simp; try (with_reducible rfl))
  refine wpAnyS_take (i := 3) (v := ?v3) rfl rfl (by kernel_rfl) (by kernel_rfl) (by kernel_rfl) (fun _ _ _ h => h) (Or.inl ⟨by rfl, ?y3⟩) (fun _ => rfl) hSS ?_
  case y3 => (intro wz hSw; (try dsimp only at hSw); go_simp; try (with_reducible rfl))
  refine wpAnyS_take (i := 4) (v := ?v4) rfl rfl (by kernel_rfl) (by kernel_rfl) (by kernel_rfl) (fun _ _ _ h => h) (Or.inl ⟨by rfl, ?y4⟩) (fun _ => rfl) hSS ?_
  case y4 => (intro wz hSw; (try dsimp only at hSw); go_simp; try (with_reducible rfl))
  refine wpAnyS_take (i := 5) (v := ?v5) rfl rfl (by kernel_rfl) (by kernel_rfl) (by kernel_rfl) (fun _ _ _ h => h) (Or.inl ⟨by rfl, ?y5⟩) (fun _ => rfl) hSS ?_
  case y5 => (intro wz hSw; (try dsimp only at hSw); go_simp; try (with_reducible rfl))
  refine wpAnyS_take (i := 6) (v := ?v6) rfl rfl (by kernel_rfl) (by kernel_rfl) (by kernel_rfl) (fun _ _ _ h => h) (Or.inl ⟨by rfl, ?y6⟩) (fun _ => rfl) hSS ?_
  case y6 => (intro wz hSw; (try dsimp only at hSw); go_simp; try (with_reducible rfl))
  refine wpAnyS_take (i := 7) (v := ?v7) rfl rfl (by kernel_rfl) (by kernel_rfl) (by kernel_rfl) (fun _ _ _ h => h) (Or.inl ⟨by rfl, ?y7⟩) (fun _ => rfl) hSS ?_
  case y7 => (intro wz hSw; (try dsimp only at hSw); go_simp; try (with_reducible rfl))
  refine wpAnyS_take (i := 8) (v := ?v8) rfl rfl (by kernel_rfl) (by kernel_rfl) (by kernel_rfl) (fun _ _ _ h => h) (Or.inl ⟨by rfl, ?y8⟩) (fun _ => rfl) hSS ?_
  case y8 => (intro wz hSw; (try dsimp only at hSw); go_simp; try (with_reducible rfl))
  refine wpAnyS_take (i := 9) (v := ?v9) rfl rfl (by kernel_rfl) (by kernel_rfl) (by kernel_rfl) (fun _ _ _ h => h) (Or.inl ⟨by rfl, ?y9⟩) (fun _ => rfl) hSS ?_
  case y9 => (intro wz hSw; (try dsimp only at hSw); go_simp; try (with_reducible rfl))
  clear hSS
  refine wpAnyS_one (i := 10) (by kernel_rfl) rfl (fun K hK => ?_)
  go_simp
  refine ⟨trivial, hdd _, CallsIn.mono HP.out ?_⟩
  rintro e w1 ⟨rfl, j1, k1⟩
  have K1 : KpR W0 w1 := (KpR.of e0).trans k1
  have KK := (KpR.of A).trans K1
  (try dsimp only)
  refine hK.out _ _ (KP.out _ K1) ?_
  clear hK K HP
  refine wpAnyS_one (i := 11) (by kernel_rfl) rfl (fun K hK => ?_)
  go_simp
  refine hK.out _ _ (KP.out _ K1) ?_
  clear hK K
  refine wpAnyS_done (by kernel_rfl) ?_ _
  clear KP
  gi_wp2
  go_ret
  exact ⟨rfl, j1, KK⟩

end Go.Proofs.YtacjjhfbnbmnlaaGreatDoor

namespace Go.Proofs.YtacjjhfbnbmnlaaGreatDoor
open Go.RowKit Go.Deep Go.Shelf
set_option linter.unusedVariables false
set_option maxRecDepth 100000

/-- Steps in memory; their forms can be read. -/
def Stp (W : World) (SG N : Nat) (ls : List LV) : Prop := ∃ cur, Cel W SG cur 254 ∧ ∀ j, j < N → cur[j]? = some (stepV (ls[j]?.getD noLV))
def LinesIn (W : World) (ls : List LV) : Prop := ∀ j, j < ls.length → (ls[j]?.getD noLV).f.At W
theorem FV.At.keepR {g : FV} {X Y : World} (h : g.At X) (k : KpR X Y) : g.At Y := ⟨h.C.keepR k, h.D.keepR k, h.hn, h.hm⟩
theorem Stp.keepR {X Y : World} {SG N : Nat} {ls : List LV} (h : Stp X SG N ls) (k : KpR X Y) : Stp Y SG N ls := by
  obtain ⟨cur, hc, hv⟩ := h
  exact ⟨cur, hc.keepR k (by decide) (by decide), hv⟩
theorem LinesIn.keepR {X Y : World} {ls : List LV} (h : LinesIn X ls) (k : KpR X Y) : LinesIn Y ls := fun j hj => (h j hj).keepR k

theorem from_any (l n₀ : Nat) (J : List RowM → World → Prop) (hJ : ∀ pre X Y, J pre X → Below X.heap.size X Y → J pre Y) (M : Nat) (hY : Rounds l n₀ J M) (SG N sc : Nat) (ls : List LV) (hN : ls.length = N) (h6 : N ≤ 6) (hall : ls.all LV.ok = true) (f : Nat) :
    ∀ (i0 : Nat) (y : Way) (pa : Option Addr) (cp : Nat) (ga : Option Addr) (ng gc : Nat) (ta : Option Addr) (nt tc : Nat) (pre : List RowM) (W : World) (n : Nat), f ≤ 7 → N ≤ i0 + f → i0 ≤ 12 → WayOk i0 y → y.guards.length = ng → y.tells.length = nt → Stp W SG N ls → LinesIn W ls → FormsAt W pa y.pots → FormsAt W ga y.guards → FormsAt W ta y.tells → n₀ ≤ W.heap.size → J pre W → pre.length + (goW ls f i0 y).length ≤ M →
    CallsIn Fence.wide n Tryz.prog 189 #[walkV l (some ⟨SG, 0, none⟩) N sc, .int .i64 (i0 : Int), wayV ga ng gc pa cp ta nt tc false] W fun e Y => e = .returned (.bool true) ∧ J (pre ++ goW ls f i0 y) Y ∧ KpR W Y := by
  have atEnd : ∀ (f i0 : Nat) (y : Way) (pa : Option Addr) (cp : Nat) (ga : Option Addr) (ng gc : Nat) (ta : Option Addr) (nt tc : Nat) (pre : List RowM) (W : World) (n : Nat), N ≤ i0 → i0 ≤ 12 → WayOk i0 y → y.guards.length = ng → y.tells.length = nt → FormsAt W pa y.pots → FormsAt W ga y.guards → FormsAt W ta y.tells → n₀ ≤ W.heap.size → J pre W → pre.length + (goW ls f i0 y).length ≤ M →
      CallsIn Fence.wide n Tryz.prog 189 #[walkV l (some ⟨SG, 0, none⟩) N sc, .int .i64 (i0 : Int), wayV ga ng gc pa cp ta nt tc false] W fun e Y => e = .returned (.bool true) ∧ J (pre ++ goW ls f i0 y) Y ∧ KpR W Y := by
    intro f i0 y pa cp ga ng gc ta nt tc pre W n hi hi1 hy hg ht hP hG hT hn0 h0
    rw [goW_end (by omega)]
    intro hM
    have hM' : pre.length < M := by simp only [List.length_cons, List.length_nil] at hM; omega
    have g1 := hy.gl
    have g2 := hy.tl
    exact from_end l n₀ J hJ M hY _ N sc i0 hi hi1 y pa cp ga ng gc ta nt tc false (endW y) pre W n hn0 h0 (endW_fit hy (by omega)) hM' (fun X hb => irow_end y ga ng gc pa cp ta nt tc X hy.pl hg ht (hP.keep hb) (hG.keep hb) (hT.keep hb) (fun k hk => (hy.pf k hk).mono (by have := wb_six (n := min i0 6) (by omega); omega)) (fun k hk => hy.gf k (by omega)) (fun k hk => hy.tf k (by omega)) (by omega) (by omega))
  induction f with
  | zero => intro i0 y pa cp ga ng gc ta nt tc pre W n _ hfu hi1 hy hg ht _ _ hP hG hT hn0 h0 hM; exact atEnd 0 i0 y pa cp ga ng gc ta nt tc pre W n (by omega) hi1 hy hg ht hP hG hT hn0 h0 hM
  | succ f ih =>
    intro i0 y pa cp ga ng gc ta nt tc pre W n hf7 hfu hi1 hy hg ht hS hLI hP hG hT hn0 h0 hM
    by_cases hlt : i0 < N
    · have hl : i0 < ls.length := by omega
      have hok : (ls[i0]?.getD noLV).ok = true := by
        rw [List.getElem?_eq_getElem hl]
        exact List.all_eq_true.1 hall _ (List.getElem_mem hl)
      obtain ⟨cur, hC, hv⟩ := hS
      have hv0 := hv i0 hlt
      have hA := hLI i0 hl
      have hS' : Stp W SG N ls := ⟨cur, hC, hv⟩
      rw [goW, if_pos hl] at hM ⊢
      generalize ls[i0]?.getD noLV = q at *
      have e1 : ((i0 + 1 : Nat) : Int) = (i0 : Int) + 1 := by omega
      by_cases hk4 : q.kind = 4
      · rw [if_neg (by omega), if_neg (by omega), if_neg (by omega)] at hM ⊢
        have hM' : pre.length < M := by simp only [List.length_cons, List.length_nil] at hM; omega
        have hst : stepV q = .iface 277 (.agg #[]) := by simp [stepV, hk4]
        rw [hst] at hv0
        have g1 := hy.gl
        refine from_step l SG N sc i0 hlt hi1 ga ng gc pa cp ta nt tc _ _ cur _ W n hC hv0 (fun X m hb => past_stop l _ N sc _ ga ng gc pa cp ta nt tc _ X m (fun X2 hb2 m2 => ?_))
        have hb' := hb.trans (hb2.mono hb.size)
        exact from_end l n₀ J hJ M hY _ N sc 6 h6 (by omega) y pa cp ga ng gc ta nt tc true (stopW y) pre X2 m2 (by have := hb'.size; omega) (hJ _ _ _ h0 hb') (stopW_fit hy (by omega)) hM' (fun X3 hb3 => irow_stop y ga ng gc pa cp ta nt tc X3 hg (hG.keep (hb'.trans (hb3.mono hb'.size))) (fun k hk => hy.gf k (by omega)) (by omega))
      · obtain ⟨hsm, hkk, hz, hp⟩ := lineW (show lineB q.kind q.pot q.skip q.f.n q.f.m q.f.C q.f.D q.f.K = true from hok) hk4
        obtain ⟨f1, f2, f3⟩ := hy.into (by omega) (f := q.f) hsm hA.D.1
        rcases hkk with e | e | e
        · rw [if_pos e] at hM ⊢
          rw [List.length_append] at hM
          obtain ⟨z1, z2⟩ := hz e
          have hst : stepV q = .iface 271 (.agg #[.int .i64 q.skip, .slice q.f.a q.f.n q.f.cap, .slice q.f.c q.f.m q.f.cap', .int .i64 q.f.K]) := by simp [stepV, e]
          rw [hst] at hv0
          have e2 : ((i0 + 1 + q.skip.toNat : Nat) : Int) = (i0 : Int) + 1 + q.skip := by omega
          refine from_step l SG N sc i0 hlt hi1 ga ng gc pa cp ta nt tc _ _ cur _ W n hC hv0 (fun X m hb => ?_)
          have kX : KpR W X := KpR.of hb
          refine past_test l _ N sc _ q.skip ⟨by omega, by omega⟩ ⟨by omega, by omega⟩ i0 y hy (by omega) q.f hsm ga ng gc pa cp ta nt tc (J (pre ++ goW ls f (i0 + 1) (y.guard (intoX q.f y.pots)))) _ (fun A B a b => hJ _ _ _ a b) X m (hA.keepR kX) (hP.keepR kX) (hG.keepR kX) hg (fun X2 ga' gc' hb2 F m2 => ?_) (fun X2 ga' gc' k2 j2 F m2 => ?_)
          · have k2 : KpR W X2 := kX.trans (KpR.of hb2)
            have := ih (i0 + 1) (y.guard (intoX q.f y.pots)) pa cp ga' (ng + 1) gc' ta nt tc pre X2 m2 (by omega) (by omega) (by omega) (hy.guard (by omega) f2) (by show (y.guards ++ [_]).length = ng + 1; rw [List.length_append, hg]; rfl) ht (hS'.keepR k2) (hLI.keepR k2) (hP.keepR k2) F (hT.keepR k2) (Nat.le_trans hn0 k2.size) (hJ _ _ _ (hJ _ _ _ h0 hb) hb2) (by omega)
            rw [e1] at this
            exact this
          · have k3 : KpR W X2 := kX.trans k2
            have := ih (i0 + 1 + q.skip.toNat) (y.guard (minusX (intoX q.f y.pots))) pa cp ga' (ng + 1) gc' ta nt tc _ X2 m2 (by omega) (by omega) (by omega) (hy.guard (by omega) f3) (by show (y.guards ++ [_]).length = ng + 1; rw [List.length_append, hg]; rfl) ht (hS'.keepR k3) (hLI.keepR k3) (hP.keepR k3) F (hT.keepR k3) (Nat.le_trans hn0 k3.size) j2 (by rw [List.length_append]; omega)
            rw [e2, List.append_assoc] at this
            exact this
        · rw [if_neg (by omega), if_pos e] at hM ⊢
          obtain ⟨z1, z2⟩ := hp e
          obtain ⟨p, hpq⟩ : ∃ p : Nat, q.pot = p := ⟨q.pot.toNat, by omega⟩
          have hpn : q.pot.toNat = p := by omega
          have hst : stepV q = .iface 273 (.agg #[.int .i64 (p : Int), .slice q.f.a q.f.n q.f.cap, .slice q.f.c q.f.m q.f.cap', .int .i64 q.f.K]) := by simp [stepV, e, hpq]
          rw [hst] at hv0
          rw [hpn] at hM ⊢
          refine from_step l SG N sc i0 hlt hi1 ga ng gc pa cp ta nt tc _ _ cur _ W n hC hv0 (fun X m hb => ?_)
          have kX : KpR W X := KpR.of hb
          refine past_add l _ N sc _ i0 y hy (by omega) q.f hsm ga ng gc pa cp ta nt tc _ X m (hA.keepR kX) (hP.keepR kX) (hT.keepR kX) ht p (by omega) (fun X2 pa' cp' hb2 F m2 => ?_)
          have k2 : KpR W X2 := kX.trans (KpR.of hb2)
          have := ih (i0 + 1) (y.add p (intoX q.f y.pots)) pa' cp' ga ng gc ta nt tc pre X2 m2 (by omega) (by omega) (by omega) (hy.add (by omega) (by omega) f1) hg ht (hS'.keepR k2) (hLI.keepR k2) F (hG.keepR k2) (hT.keepR k2) (Nat.le_trans hn0 k2.size) (hJ _ _ _ (hJ _ _ _ h0 hb) hb2) hM
          rw [e1] at this
          exact this
        · rw [if_neg (by omega), if_neg (by omega), if_pos e] at hM ⊢
          have hst : stepV q = .iface 275 (.agg #[.slice q.f.a q.f.n q.f.cap, .slice q.f.c q.f.m q.f.cap', .int .i64 q.f.K]) := by simp [stepV, e]
          rw [hst] at hv0
          refine from_step l SG N sc i0 hlt hi1 ga ng gc pa cp ta nt tc _ _ cur _ W n hC hv0 (fun X m hb => ?_)
          have kX : KpR W X := KpR.of hb
          refine past_print l _ N sc _ i0 y hy (by omega) q.f hsm ga ng gc pa cp ta nt tc _ X m (hA.keepR kX) (hP.keepR kX) (hT.keepR kX) ht (fun X2 ta' tc' hb2 F m2 => ?_)
          have k2 : KpR W X2 := kX.trans (KpR.of hb2)
          have := ih (i0 + 1) (y.tell (intoX q.f y.pots)) pa cp ga ng gc ta' (nt + 1) tc' pre X2 m2 (by omega) (by omega) (by omega) (hy.tell (by omega) f2) hg (by show (y.tells ++ [_]).length = nt + 1; rw [List.length_append, ht]; rfl) (hS'.keepR k2) (hLI.keepR k2) (hP.keepR k2) (hG.keepR k2) F (Nat.le_trans hn0 k2.size) (hJ _ _ _ (hJ _ _ _ h0 hb) hb2) hM
          rw [e1] at this
          exact this
    · exact atEnd (f + 1) i0 y pa cp ga ng gc ta nt tc pre W n (by omega) hi1 hy hg ht hP hG hT hn0 h0 hM

end Go.Proofs.YtacjjhfbnbmnlaaGreatDoor

namespace Go.Proofs.YtacjjhfbnbmnlaaGreatDoor
open Go.RowKit Go.Deep Go.Shelf
set_option linter.unusedVariables false
set_option maxRecDepth 100000
attribute [local go_sem] Oper.semAt_some

theorem LinesG.lin {W : World} {ad : Option Addr} {ls : List LV} (h : LinesG W ad ls) : LinesIn W ls := fun j hj => by
  obtain ⟨b, off, _, _, ha⟩ := h j hj
  exact ha
theorem JS.stp {w W : World} {v : Value} {ls : List LV} (j : JS w v (ls.map stepV) W) : ∃ sa sc, v = .slice sa ls.length sc ∧ (ls.length = 0 ∨ ∃ SG, sa = some ⟨SG, 0, none⟩ ∧ Stp W SG ls.length ls) := by
  rcases j.o.2 with ⟨e, h0⟩ | ⟨g, cap, cur, hv, hg, hh, hl, hc, hs, ht⟩
  · rw [List.length_map] at h0
    exact ⟨none, 0, by rw [h0]; exact e, Or.inl h0⟩
  · rw [List.length_map] at hv ht
    refine ⟨_, cap, hv, Or.inr ⟨g, rfl, cur.toList, hh, fun i hi => ?_⟩⟩
    rw [Nat.mul_one] at ht
    have : (cur.toList.take ls.length)[i]? = cur.toList[i]? := List.getElem?_take_of_lt hi
    rw [← this, ht, List.getElem?_map, List.getElem?_eq_getElem hi]
    rfl

theorem rs_func {P : Program} {w : World} {a : Addr} {m : Mode} (fn : Fn) (first captured : Array Value) : (store a (.func fn first captured) m).run P w = stored P w a (.func fn first captured) m := run_store P w a _ m rfl
attribute [local go_sem] rs_func

set_option maxHeartbeats 3200000 in
theorem through_any (l n₀ : Nat) (J : List RowM → World → Prop) (hJ : ∀ pre X Y, J pre X → Below X.heap.size X Y → J pre Y) (hY : Rounds l n₀ J 128) (aB : Nat) (ad : Option Addr) (N cap : Nat) (ls : List LV) (W : World) (n : Nat) (hN : ls.length = N) (hF : LinesG W ad ls) (hN1 : N ≤ 1048576) (hok : actB N ls = true) (hc : W.cell? ⟨aB, 0, none⟩ = some (.slice ad N cap)) (hn0 : n₀ ≤ W.heap.size) (h0 : J [] W) :
    CallsIn Fence.wide n Tryz.prog 188 #[.func (.yield l) #[] #[], .pointer (some ⟨aB, 0, none⟩)] W fun e Y => (∃ v, e = .returned v) ∧ J (rowsL ls) Y ∧ KpR W Y := by
  have hdd : ∀ k : Nat, (Fence.wide.depth.isSome = true → 1 ≤ k) := fun k h => by simp [Fence.wide] at h
  refine callsIn_of_wp Tryz.func188 rfl trivial ?_ rfl
  simp only [Tryz.ntmps188, List.size_toArray, List.length_cons, List.length_nil, Nat.reduceAdd, Nat.reduceSub, Array.replicate_succ, Array.replicate_zero, List.push_toArray, List.append_toArray, List.nil_append, List.cons_append]
  gi_wp2_with fail
  refine ⟨trivial, hdd _, (callsIn_wide.2 (isteps_any ad N cap ls _ hN hF hN1)).mono ?_⟩
  rintro e w1 ⟨sv, rfl, b1, js⟩
  rw [hok]
  have js := js hok
  obtain ⟨sa, sc, rfl, hst⟩ := js.stp
  rw [hN] at hst ⊢
  gi_wp2_with fail
  have bA : Below w1.heap.size w1 (w1.alloc (.cells #[.slice sa N sc, .func (.yield l) #[] #[]] 243)) := (Below.refl _ _).alloc (Nat.le_refl _) _
  have x0 := Cel.new w1 [.slice sa N sc, .func (.yield l) #[] #[]] 243
  obtain ⟨W0, hW0⟩ : ∃ W0, W0 = w1.alloc (.cells #[.slice sa N sc, .func (.yield l) #[] #[]] 243) := ⟨_, rfl⟩
  rw [← hW0] at bA x0 ⊢
  clear hW0
  have A : Below W.heap.size W W0 := b1.trans (bA.mono b1.size)
  have e0 : Below W0.heap.size W0 W0.drew := (Below.refl _ _).drew
  have KP : Hid (∀ X, KpR W0 X → (X.cell? ⟨w1.heap.size, 0, none⟩ = some (.slice sa N sc) ∧ X.cell? ⟨w1.heap.size, 1, none⟩ = some (.func (.yield l) #[] #[]))) := fun X hX => by
    have a1 := x0.keepR hX (by decide) (by decide)
    exact ⟨a1.cell 0, a1.cell 1⟩
  have hSS := KP.out _ (KpR.of e0)
  refine wpIn_region_S (fun w' => w'.cell? ⟨w1.heap.size, 0, none⟩ = some (.slice sa N sc) ∧ w'.cell? ⟨w1.heap.size, 1, none⟩ = some (.func (.yield l) #[] #[])) (by kernel_rfl) ?_
  refine wpAnyS_take (i := 0) (v := ?v0) rfl rfl (by kernel_rfl) (by kernel_rfl) (by kernel_rfl) (fun _ _ _ h => h) (Or.inl ⟨by rfl, ?y0⟩) (fun _ => rfl) hSS ?_
  case y0 => (intro wz hSw; (try dsimp only at hSw); go_simp; try (with_reducible rfl))
  clear hSS
  refine wpAnyS_one (i := 1) (by kernel_rfl) rfl (fun K hK => ?_)
  go_simp
  refine ⟨trivial, fun h => by simp [Fence.wide] at h, (callsIn_wide.2 (ipots_any _)).mono ?_⟩
  rintro e w2 ⟨v, xs, rfl, jv⟩
  obtain ⟨pa, cp, rfl, hP⟩ := jv.slice rfl
  have b2 : Below W0.heap.size W0 w2 := below_of_drew jv.b
  have hS2 := KP.out _ (KpR.of b2)
  have B2 : Below W.heap.size W w2 := A.trans (b2.mono A.size)
  have J2 := hJ _ _ _ h0 B2
  (try dsimp only)
  refine hK.out _ _ hS2 ?_
  clear hK K
  refine wpAnyS_take (i := 2) (v := ?v2) rfl rfl (by kernel_rfl) (by kernel_rfl) (by kernel_rfl) (fun _ _ _ h => h) (Or.inl ⟨by rfl, ?y2⟩) (fun _ => rfl) hS2 ?_
  case y2 => (intro wz hSw; (try dsimp only at hSw); go_simp; try (with_reducible rfl))
  have sB := B2.size
  have HC : Hid (CallsIn Fence.wide (n - 1) Tryz.prog 189 #[walkV l sa N sc, .int .i64 0, wayV none 0 0 pa cp none 0 0 false] w2 fun e Y => e = .returned (.bool true) ∧ J (rowsL ls) Y ∧ KpR w2 Y) := by
    obtain ⟨h6, hall⟩ := actB_parts hok
    have hy := WayOk.start
    have hG : ∀ X, FormsAt X none way0.guards := fun X i hi => by simp [way0] at hi
    have hT : ∀ X, FormsAt X none way0.tells := fun X i hi => by simp [way0] at hi
    rcases hst with hz | ⟨SG, rfl, hst⟩
    · have := from_end l n₀ J hJ 128 hY sa N sc 0 (by omega) (by omega) way0 pa cp none 0 0 none 0 0 false (endW way0) [] w2 (n - 1) (by omega) J2 (endW_fit hy (by omega)) (by simp) (fun X hb => irow_end way0 none 0 0 pa cp none 0 0 X hy.pl rfl rfl (hP.keep hb) (hG X) (hT X) (fun k hk => (hy.pf k hk).mono (by have := wb_six (n := min 0 6) (by omega); omega)) (fun k hk => hy.gf k (by omega)) (fun k hk => hy.tf k (by omega)) (by omega) (by omega))
      rw [rowsL, goW_end (by omega)]
      exact this
    · have k2 : KpR w1 w2 := (KpR.of bA).trans (KpR.of b2)
      exact from_any l n₀ J hJ 128 hY SG N sc ls hN h6 hall 7 0 way0 pa cp none 0 0 none 0 0 [] w2 (n - 1) (by omega) (by omega) (by omega) hy rfl rfl (hst.keepR k2) (hF.lin.keepR (KpR.of B2)) hP (hG _) (hT _) (by omega) J2 (by have := goW_128 (ls := ls) (f := 7) (i := 0) (y := way0) (by omega); simp only [List.length_nil]; omega)
  refine wpAnyS_one (i := 3) (by kernel_rfl) rfl (fun K hK => ?_)
  go_simp
  refine ⟨trivial, fun h => by simp [Fence.wide] at h, HC.out.mono ?_⟩
  rintro e w3 ⟨rfl, J3, k3⟩
  have hS3 := KP.out _ ((KpR.of b2).trans k3)
  (try dsimp only)
  refine hK.out _ _ hS3 ?_
  clear hK K
  refine wpAnyS_done (by kernel_rfl) ?_ _
  have KK := (KpR.of B2).trans k3
  clear KP HC
  gi_wp2
  go_end0
  exact ⟨⟨_, rfl⟩, J3, KK⟩

end Go.Proofs.YtacjjhfbnbmnlaaGreatDoor

namespace Go.Proofs.YtacjjhfbnbmnlaaGreatDoor
open Go.RowKit Go.Deep Go.Shelf
set_option linter.unusedVariables false
set_option maxRecDepth 100000
attribute [local go_sem] Oper.semAt_some

set_option maxHeartbeats 1600000 in
theorem ithrough_any (ad : Option Addr) (N cap : Nat) (w : World) :
    Calls Tryz.prog 154 #[.slice ad N cap] w fun e w' => ∃ B, e = .returned (.func (.func 188) #[] #[.pointer (some ⟨B, 0, none⟩)]) ∧ Below w.heap.size w w' ∧ Cel w' B [.slice ad N cap] 131 := by
  have b := (Below.refl w.heap.size w).alloc (Nat.le_refl _) (.cells #[.slice ad N cap] 131)
  have c := Cel.new w [.slice ad N cap] 131
  go_enter Tryz.func154, Tryz.ntmps154
  go_wp2
  go_ret
  exact ⟨_, rfl, b, c⟩

theorem Cel.loop {X : World} {B l : Nat} {vs : List Value} {t : TypeId} {r r' : Loop} (h : Cel X B vs t) (hl : X.heap[l]? = some (.loop r)) : Cel (X.putObj l (.loop r')) B vs t := by
  have hne : B ≠ l := fun e => by
    subst e
    unfold Cel at h
    rw [hl] at h
    cases h
  unfold Cel at *
  rw [World.putObj_heap_other hne]; exact h
theorem below_loop {w X : World} {n l : Nat} {r' : Loop} (h : Below n w X) (hl : n ≤ l) : Below n w (X.putObj l (.loop r')) :=
  ⟨h.os, h.tape, h.output, by simpa [World.putObj] using h.size, fun k hk => (World.putObj_heap_other (by omega)).trans (h.block k hk)⟩

theorem Cel.defer {X : World} {B l : Nat} {vs : List Value} {t : TypeId} {r : Option (List Deferred)} {o : Obj} (h : Cel X B vs t) (hl : X.heap[l]? = some (.deferred r)) : Cel (X.putObj l o) B vs t := by
  have hne : B ≠ l := fun e => by
    subst e
    unfold Cel at h
    rw [hl] at h
    cases h
  unfold Cel at *
  rw [World.putObj_heap_other hne]; exact h
theorem below_put {w X : World} {n l : Nat} {o : Obj} (h : Below n w X) (hl : n ≤ l) : Below n w (X.putObj l o) :=
  ⟨h.os, h.tape, h.output, by simpa [World.putObj] using h.size, fun k hk => (World.putObj_heap_other (by omega)).trans (h.block k hk)⟩
theorem cel_past {S : Nat → Prop} {X Y : World} {B : Nat} {vs : List Value} {t : TypeId} (h : Cel X B vs t) (k : Touch S X Y) (hn : ¬ S B) : Cel Y B vs t := by
  have hl := h.lt
  unfold Cel at *
  rw [k.block B hl hn]; exact h
theorem below_touch {w X Y : World} {G : Nat} (h : Below w.heap.size w X) (t : Touch (fun k => k = G) X Y) (hG : w.heap.size ≤ G) : Below w.heap.size w Y :=
  ⟨t.os.trans h.os, t.tape.trans h.tape, t.output.trans h.output, Nat.le_trans h.size t.size, fun k hk => (t.block k (Nat.lt_of_lt_of_le hk h.size) (by omega)).trans (h.block k hk)⟩
theorem OwnBB.loose {X : World} {G : Nat} {f : Nat → Bool} (h : OwnBB X G f) : Loose X.heap[G]? := fun cs t fr e => by
  unfold OwnBB Cel at h
  rw [h] at e
  cases e
  refine ⟨Or.inl rfl, fun i q => ?_⟩
  match i with
  | 0 => simp
  | 1 => simp
  | 2 => simp
  | i + 3 => simp
theorem OwnBB.kpR {X Y : World} {G : Nat} {f : Nat → Bool} (h : OwnBB X G f) (t : Touch (fun k => k = G) X Y) : KpR X Y := t.mono (fun k e => by subst e; exact h.loose)
theorem keeps_below {B : Nat} {X Y : World} (h : Below X.heap.size X Y) : KeepsFrom B X Y := ⟨h.size, fun k o _ hk _ => (h.block k (lt_of_block hk)).trans hk⟩
theorem keeps_touch {B G : Nat} {X Y : World} (t : Touch (fun k => k = G) X Y) (hG : G < B) : KeepsFrom B X Y := ⟨t.size, fun k o hB hk _ => (t.block k (lt_of_block hk) (by omega)).trans hk⟩

set_option maxHeartbeats 3200000 in
theorem icatreads_in (ad : Option Addr) (N cap : Nat) (ls : List LV) (w : World) (n : Nat) (hN : ls.length = N) (hF : LinesG w ad ls) (hN1 : N ≤ 1048576) :
    CallsIn Fence.wide n Tryz.prog 156 #[.slice ad N cap] w fun e w' => Below w.heap.size w w' ∧ ((actB N ls = false ∧ e = .returned (.slice none 0 0)) ∨ (actB N ls = true ∧ ∃ G cG, e = .returned (.slice (some ⟨G, 0, none⟩) 3 cG) ∧ w.heap.size ≤ G ∧ OwnBB w' G (readsR (rowsL ls)))) := by
  have hdd : ∀ k : Nat, (Fence.wide.depth.isSome = true → 1 ≤ k) := fun k h => by simp [Fence.wide] at h
  refine callsIn_of_wp_marks Tryz.func156 rfl trivial ?_ rfl
  simp only [Tryz.ntmps156, List.size_toArray, List.length_cons, List.length_nil, Nat.reduceAdd, Nat.reduceSub, Array.replicate_succ, Array.replicate_zero, List.push_toArray, List.append_toArray, List.nil_append, List.cons_append]
  gi_wp2_with fail
  refine ⟨trivial, hdd _, (callsIn_wide.2 (iact_any ad N cap ls _ hN hF hN1)).mono ?_⟩
  rintro e w1 ⟨rfl, b1⟩
  obtain ⟨u, hu⟩ : ∃ u, actB N ls = u := ⟨_, rfl⟩
  rw [hu]
  cases u with
  | false =>
    gi_wp2
    exact ⟨_, results_tmp rfl _ _ _, b1, Or.inl ⟨hu, rfl⟩⟩
  | true =>
    obtain ⟨i0, hi, hz0, hz1, hz2⟩ := info_parts Tryz.infoBool
    obtain ⟨w2, hrun, o2, g2⟩ := run_make_full (P := Tryz.prog) (w := w1) w1.heap.size 73 4 i0 (.bool false) 1 Tryz.underlying73 hi hz0 hz1 .i64 .i64 3 (by rw [hz2]; omega) (by unfold maxLen; omega) (Nat.le_refl _)
    have hrun' : (Instr.makeSlice 73 (.int .i64 3) (.int .i64 3)).run Tryz.prog w1 = .ok (.slice (some ⟨w1.heap.size, 0, none⟩) 3 3) w2 := hrun
    have b2 : Below w1.heap.size w1 w2 := (Below.refl _ _).grown g2 (Nat.le_refl _) (by simp)
    have O2 : OwnBB w2 w1.heap.size (fun _ => false) := by
      rcases o2.2 with ⟨e, _⟩ | ⟨g, cp, cur, hv, hg, hh, hl, hc, hs, ht⟩
      · cases e
      · cases hv
        have hl3 : cur.toList.length = 3 := by rw [Array.length_toList]; omega
        rw [List.take_of_length_le (by omega)] at ht
        have : cur = #[.bool false, .bool false, .bool false] := by
          apply Array.toList_inj.1
          rw [ht]; simpa [Value.cells] using toList_madeCells_one (.bool false) 3
        rw [this] at hh
        exact hh
    clear hrun o2 g2
    gi_wp2_with fail
    have bA : Below w2.heap.size w2 (w2.alloc (.cells #[.slice (some ⟨w1.heap.size, 0, none⟩) 3 3] 73)) := (Below.refl _ _).alloc (Nat.le_refl _) _
    have C3 := Cel.new w2 [.slice (some ⟨w1.heap.size, 0, none⟩) 3 3] 73
    have O3 := O2.below bA
    obtain ⟨w3, hw3⟩ : ∃ w3, w3 = w2.alloc (.cells #[.slice (some ⟨w1.heap.size, 0, none⟩) 3 3] 73) := ⟨_, rfl⟩
    rw [← hw3] at bA C3 O3 ⊢
    have lG := Cel.lt O2
    clear hw3 hrun' O2
    refine ⟨trivial, hdd _, (callsIn_wide.2 (ithrough_any ad N cap w3)).mono ?_⟩
    rintro e w4 ⟨B, rfl, b4, cB⟩
    have C4 := C3.below b4
    have O4 := O3.below b4
    have s2 := b2.size
    have sA := bA.size
    have s4 := b4.size
    have B4 : Below w.heap.size w w4 := ((b1.trans (b2.mono b1.size)).trans (bA.mono (Nat.le_trans b1.size s2))).trans (b4.mono (Nat.le_trans (Nat.le_trans b1.size s2) sA))
    have F4 := hF.below B4
    gi_wp2_with fail
    have s1 := b1.size
    refine wpIn_rows (α := Value × RowM) (gf := 188) (lb := #[.pointer (some ⟨B, 0, none⟩)]) rfl (enters_of Tryz.func188 (by kernel_rfl) rfl) (encs := fun x => #[x.1]) (fun _ => rfl)
      (fun _ x X => RowFit x.2 ∧ RowX X w4.heap.size x.1 x.2) KpR (fun xs => xs.map Prod.snd = rowsL ls)
      (fun pre X => OwnBB X w1.heap.size (readsR (pre.map Prod.snd)) ∧ Cel X w2.heap.size [.slice (some ⟨w1.heap.size, 0, none⟩) 3 3] 73 ∧ Below w.heap.size w X)
      (fun pre X Y h b => ⟨h.1.below b, h.2.1.below b, h.2.2.trans (b.mono h.2.2.size)⟩)
      (fun pre X l r r' h hl lt => ⟨Cel.loop h.1 hl, h.2.1.loop hl, below_loop h.2.2 (by have := B4.size; omega)⟩) KpR.loop (fun X Y Z => KpR.trans) ⟨O4, C4, B4⟩ ?seq ?round ?done
    case seq =>
      intro l J W hJ hb hJ0 hY
      have e0 : (#[.func (.yield l) #[] #[]] ++ #[.pointer (some ⟨B, 0, none⟩)] : Array Value) = #[.func (.yield l) #[] #[], .pointer (some ⟨B, 0, none⟩)] := rfl
      rw [e0]
      refine (through_any l w4.heap.size (fun rs X => ∃ xs : List (Value × RowM), xs.map Prod.snd = rs ∧ J xs X) (fun rs X Y h b => ?_) (fun m rs v r X h fit rx _ => ?_) B ad N cap ls W (n - 1) hN (F4.below hb) hN1 hu ((cB.below hb).cell 0) hb.size ⟨[], rfl, hJ0⟩).mono ?_
      · obtain ⟨xs, e, j⟩ := h
        exact ⟨xs, e, hJ _ _ _ j b⟩
      · obtain ⟨xs, e, j⟩ := h
        obtain ⟨fn, tmps, assign, body, hy, hR⟩ := hY m xs (v, r) X j ⟨fit, rx⟩
        refine ⟨fn, tmps, assign, body, hy, hR.mono ?_⟩
        rintro e' Y ⟨a, b, c⟩
        exact ⟨a, ⟨xs ++ [(v, r)], by simp [e], b⟩, c⟩
      · rintro e Y ⟨h1, ⟨xs, e1, j⟩, _⟩
        exact ⟨h1, xs, e1, j⟩
    case round =>
      rintro m l pre ⟨v, rm⟩ X r ⟨hO, hC, hB⟩ ⟨fit, rx⟩ hl hlt
      dsimp only at fit rx
      obtain ⟨ga, gc, aa, ac, ta, tc, rfl, f0, f1, f2⟩ := rx
      dsimp only
      gi_wp2_with fail
      have bx : Below X.heap.size X (X.alloc (.cells #[.slice ga rm.guards.length gc, .slice aa rm.adds.length ac, .slice ta rm.tells.length tc, .bool rm.stop] 135)) := (Below.refl _ _).alloc (Nat.le_refl _) _
      have cx := Cel.new X [.slice ga rm.guards.length gc, .slice aa rm.adds.length ac, .slice ta rm.tells.length tc, .bool rm.stop] 135
      have hl1 := (bx.block l (lt_of_block hl)).trans hl
      refine ⟨keeps_below bx, KpR.of bx, ?_⟩
      have O1 : OwnBB _ _ _ := Cel.loop (r' := { r with state := .busy }) (hO.below bx) hl1
      have C1 := Cel.loop (r' := { r with state := .busy }) (hC.below bx) hl1
      have X1 := Cel.loop (r' := { r with state := .busy }) cx hl1
      have k1 : KpR X _ := (KpR.of bx).trans (KpR.loop _ l r { r with state := .busy } hl1)
      have B1 := below_loop (r' := { r with state := .busy }) (hB.trans (bx.mono hB.size)) (l := l) (by have := B4.size; omega)
      obtain ⟨Y, hY⟩ : ∃ Y, Y = (X.alloc (.cells #[.slice ga rm.guards.length gc, .slice aa rm.adds.length ac, .slice ta rm.tells.length tc, .bool rm.stop] 135)).putObj l (.loop { r with state := .busy }) := ⟨_, rfl⟩
      rw [← hY] at O1 C1 X1 k1 B1 ⊢
      clear hY
      have FA := f1.at.keepR k1
      have FT := f2.at.keepR k1
      have hc := C1.cell 0
      have hx1 := X1.cell 1
      have lX := Cel.lt hO
      gi_wp2_with fail
      refine ⟨trivial, hdd _, CallsIn.mono (CallsIn.inRound l (callsIn_wide.2 (imarkpots_any _ _ _ _ _ _ rm.adds Y O1 rfl FA fit.a (by have := fit.la; omega)))) ?_⟩
      rintro e Y1 ⟨⟨v1, rfl⟩, t1, O2⟩
      have C2 := cel_past C1 t1 (by omega)
      have X2 := cel_past X1 t1 (by omega)
      have FT2 := FT.past2 O1.no t1
      have hc2 := C2.cell 0
      have hx2 := X2.cell 2
      clear hc hx1
      gi_wp2_with fail
      refine ⟨trivial, hdd _, CallsIn.mono (CallsIn.inRound l (callsIn_wide.2 (imarkpots_any _ _ _ _ _ _ rm.tells Y1 O2 rfl FT2 fit.t (by have := fit.lt; omega)))) ?_⟩
      rintro e Y2 ⟨⟨v2, rfl⟩, t2, O3⟩
      have C3' := cel_past C2 t2 (by omega)
      clear hc2 hx2
      gi_wp2_with fail
      refine ⟨(keeps_touch t1 (by omega)).trans (keeps_touch t2 (by omega)), (O1.kpR t1).trans (O2.kpR t2), O3.ext (fun v hv => ?_), C3', below_touch (below_touch B1 t1 (by omega)) t2 (by omega)⟩
      simp [readsF, readsR, Bool.or_assoc]
    case done =>
      rintro D xs W hD hS ⟨hO, hC, hB⟩ hK
      have hc := hC.cell 0
      gi_wp2
      refine ⟨by simp, .inl ⟨_, _, rfl, run_takeDeferred hK, ?_⟩⟩
      refine ⟨_, results_tmp rfl _ _ _, ?_⟩
      rw [hS] at hO
      exact ⟨below_put hB (by have := B4.size; omega), Or.inr ⟨hu, _, _, rfl, s1, Cel.defer hO hK⟩⟩

theorem icatreads_any (ad : Option Addr) (N cap : Nat) (ls : List LV) (w : World) (hN : ls.length = N) (hF : LinesG w ad ls) (hN1 : N ≤ 1048576) :
    Calls Tryz.prog 156 #[.slice ad N cap] w fun e w' => Below w.heap.size w w' ∧ ((actB N ls = false ∧ e = .returned (.slice none 0 0)) ∨ (actB N ls = true ∧ ∃ G cG, e = .returned (.slice (some ⟨G, 0, none⟩) 3 cG) ∧ w.heap.size ≤ G ∧ OwnBB w' G (readsR (rowsL ls)))) :=
  callsIn_wide.1 (icatreads_in ad N cap ls w 0 hN hF hN1)

end Go.Proofs.YtacjjhfbnbmnlaaGreatDoor

namespace Go.Proofs.YtacjjhfbnbmnlaaGreatDoor
open Go.RowKit Go.Deep
set_option linter.unusedVariables false
set_option maxRecDepth 100000

/-- Bools that can be read. -/
def BA (W : World) (a : Option Addr) (n : Nat) (f : Nat → Bool) : Prop := ∀ j, j < n → ∃ b off, a = some ⟨b, off, none⟩ ∧ W.cell? ⟨b, off + j, none⟩ = some (.bool (f j))
theorem BA.none {W : World} {a : Option Addr} {f : Nat → Bool} : BA W a 0 f := fun j hj => by omega
theorem Bools.ba {W : World} {a : Option Addr} {f : Nat → Bool} (h : Bools W a f) : BA W a 3 f := fun j hj => by
  obtain ⟨b, off, e, hc⟩ := h
  exact ⟨b, off, e, hc j hj⟩
theorem OwnBB.ba {W : World} {G : Nat} {f : Nat → Bool} (h : OwnBB W G f) : BA W (some ⟨G, 0, Option.none⟩) 3 f := fun j hj => ⟨G, 0, rfl, by rw [Nat.zero_add]; exact (h.at hj).1⟩
theorem BA.below {W W' : World} {a : Option Addr} {n : Nat} {f : Nat → Bool} (h : BA W a n f) (b : Below W.heap.size W W') : BA W' a n f := fun j hj => by
  obtain ⟨b0, off, e, hc⟩ := h j hj
  exact ⟨b0, off, e, (b.cell (p := ⟨b0, off + j, Option.none⟩) (block_lt hc)).trans hc⟩
def rampB (j : Nat) : Bool := (1 + j) % 3 == 0

end Go.Proofs.YtacjjhfbnbmnlaaGreatDoor

namespace Go.Proofs.YtacjjhfbnbmnlaaGreatDoor
open Go.RowKit Go.Deep
set_option linter.unusedVariables false
set_option maxRecDepth 100000

theorem catB_parts {N : Nat} {ss : List L2V} (h : catB N ss = true) : N ≤ 4 ∧ ss.all L2V.ok = true := by
  simp only [catB, Bool.and_eq_true] at h
  have := inB_iff.1 h.1
  exact ⟨by omega, h.2⟩

set_option maxHeartbeats 3200000 in
theorem icatpins_any (ad : Option Addr) (N cap : Nat) (ss : List L2V) (w : World) (hN : ss.length = N) (hF : LSG w ad ss) (hN1 : N ≤ 1048576) :
    Calls Tryz.prog 112 #[.slice ad N cap] w fun e w' => Below w.heap.size w w' ∧ ((catB N ss = false ∧ e = .returned (.slice none 0 0)) ∨ (catB N ss = true ∧ ∃ G cG, e = .returned (.slice (some ⟨G, 0, none⟩) 3 cG) ∧ w.heap.size ≤ G ∧ OwnBB w' G (pinsA ss))) := by
  have HN : Hid (ss.length = N) := hN
  have HF : Hid (LSG w ad ss) := hF
  clear hN
  obtain ⟨u, hu⟩ : ∃ u, catB N ss = u := ⟨_, rfl⟩
  have HU : Hid (catB N ss = u) := hu
  go_enter Tryz.func112, Tryz.ntmps112
  go_wp2_with fail
  refine (icat_any _ _ _ ss _ HN.out hF hN1).mono ?_
  rintro e w1 ⟨rfl, b1⟩
  rw [hu]
  clear hu hF
  cases u with
  | false =>
    go_wp2
    go_ret
    exact ⟨b1, .inl ⟨HU.out, rfl⟩⟩
  | true =>
    obtain ⟨i0, hi, hz0, hz1, hz2⟩ := info_parts Tryz.infoBool
    obtain ⟨w2, hrun, o2, g2⟩ := run_make_full (P := Tryz.prog) (w := w1) w1.heap.size 73 4 i0 (.bool false) 1 Tryz.underlying73 hi hz0 hz1 .i64 .i64 3 (by rw [hz2]; omega) (by unfold maxLen; omega) (Nat.le_refl _)
    have hrun' : (Instr.makeSlice 73 (.int .i64 3) (.int .i64 3)).run Tryz.prog w1 = .ok (.slice (some ⟨w1.heap.size, 0, none⟩) 3 3) w2 := hrun
    have b2 : Below w1.heap.size w1 w2 := (Below.refl _ _).grown g2 (Nat.le_refl _) (by simp)
    have O2 : OwnBB w2 w1.heap.size (pinsA (ss.take 0)) := by
      rcases o2.2 with ⟨e, _⟩ | ⟨g, cp, cur, hv, hg, hh, hl, hc, hs, ht⟩
      · cases e
      · cases hv
        have hl3 : cur.toList.length = 3 := by rw [Array.length_toList]; omega
        rw [List.take_of_length_le (by omega)] at ht
        have : cur = #[.bool false, .bool false, .bool false] := by
          apply Array.toList_inj.1
          rw [ht]; simpa [Value.cells] using toList_madeCells_one (.bool false) 3
        rw [this] at hh
        exact hh
    have B2 := b1.trans (b2.mono b1.size)
    have lG0 := b1.size
    have N4 := (catB_parts HU.out).1
    have HALL : Hid (ss.all L2V.ok = true) := (catB_parts HU.out).2
    obtain ⟨G, hG⟩ : ∃ G, G = w1.heap.size := ⟨_, rfl⟩
    rw [← hG] at O2 lG0 hrun'
    clear hrun o2 g2 b1 b2 hG
    go_wp2_with fail
    go_loopw [5, 6, 7, 14] (fun _ _ _ i wr => ∃ k : Nat, k ≤ N ∧ i = .int .i64 k ∧ Below w.heap.size w wr ∧ OwnBB wr G (pinsA (ss.take k))) (fun _ _ _ i _ => N - (intOf i).toNat)
    case atStart => exact ⟨0, Nat.zero_le _, rfl, B2, O2⟩
    case round =>
      clear B2 O2 hrun'
      obtain ⟨k, hk, rfl, hb, o⟩ := hrel
      by_cases hlt : k < N
      · have hlt' : (k : Int) < N := by omega
        have his : k < ss.length := by rw [HN.out]; exact hlt
        obtain ⟨ab, ao, rfl, hc, hLG⟩ := (HF.out.below hb) k his
        have HSB : Hid (∀ v, pinsA (ss.take (k + 1)) v = (pinsA (ss.take k) v || readsR (rowsL (ss[k]?.getD noL).x) v)) := fun v => pinsA_snoc ss k his v
        have hsok : (ss[k]?.getD noL).ok = true := by
          rw [List.getElem?_eq_getElem his]
          exact List.all_eq_true.1 HALL.out _ (List.getElem_mem his)
        obtain ⟨s, hs⟩ : ∃ s, s = ss[k]?.getD noL := ⟨_, rfl⟩
        rw [← hs] at hc hLG HSB hsok
        obtain ⟨sa, sn, sc, sx⟩ := s
        have hAct : actB sn sx = true := hsok
        obtain ⟨hxl, hLin, hsn⟩ := hLG
        have hc' : wr.cell? ⟨ab, ao + k, none⟩ = some (.slice sa sn sc) := hc
        have HXL : Hid (sx.length = sn) := hxl
        have HLIN : Hid (LinesG wr sa sx) := hLin
        have HAC : Hid (actB sn sx = true) := hAct
        clear hs hc hsok hxl hLin hAct
        go_wp2_with fail
        refine (icatreads_any _ _ _ sx _ HXL.out HLIN.out hsn).mono ?_
        rintro ee w3 ⟨b3, h⟩
        obtain ⟨G3, c3, rfl, lG3, o3⟩ : ∃ G3 c3, ee = .returned (.slice (some ⟨G3, 0, none⟩) 3 c3) ∧ wr.heap.size ≤ G3 ∧ OwnBB w3 G3 (readsR (rowsL sx)) := by
          rcases h with ⟨h, _⟩ | ⟨_, G3, c3, h1, h2, h3⟩
          · rw [HAC.out] at h; cases h
          · exact ⟨G3, c3, h1, h2, h3⟩
        have lo : G < wr.heap.size := Cel.lt o
        have hb3 := hb.trans (b3.mono hb.size)
        have oo : OwnBB w3 G (fun v => if v < 0 then pinsA (ss.take (k + 1)) v else pinsA (ss.take k) v) := (o.below b3).ext (fun v hv => by simp)
        obtain ⟨rd, hrd⟩ : ∃ rd, rd = readsR (rowsL sx) := ⟨_, rfl⟩
        have HSB' : Hid (∀ v, pinsA (ss.take (k + 1)) v = (pinsA (ss.take k) v || rd v)) := fun v => by rw [hrd]; exact HSB.out v
        rw [← hrd] at o3
        have ne3 : G ≠ G3 := by omega
        clear h o b3 hb HXL HLIN HAC HSB hrd hc'
        go_wp2_with fail
        go_loopw [6, 7, 21] (fun _ _ i wr => ∃ u : Nat, u ≤ 3 ∧ i = .int .i64 u ∧ Below w.heap.size w wr ∧ OwnBB wr G3 rd ∧ OwnBB wr G (fun v => if v < u then pinsA (ss.take (k + 1)) v else pinsA (ss.take k) v)) (fun _ _ i _ => 3 - (intOf i).toNat)
        case atStart => exact ⟨0, by omega, rfl, hb3, o3, oo⟩
        case round =>
          clear hb3 o3 oo
          obtain ⟨u, hu, rfl, hb, o3, o⟩ := hrel
          by_cases hu3 : u < 3
          · have hu' : (u : Int) < 3 := by omega
            have r0 := (o3.at hu3).1
            have g0 : wr.cell? ⟨G, u, none⟩ = some (.bool (pinsA (ss.take k) u)) := by
              have := (o.at hu3).1
              simpa using this
            have fz := (o.at hu3).2
            cases hold : pinsA (ss.take k) u
            · rw [hold] at g0
              have O2 : Hid (OwnBB (wr.setCell ⟨G, u, none⟩ (.bool (rd u))) G (fun v => if v < u + 1 then pinsA (ss.take (k + 1)) v else pinsA (ss.take k) v)) := (o.set hu3 (rd u)).ext (fun v hv => by
                by_cases e : v = u
                · subst e; simp only [if_true, Nat.lt_succ_self]; rw [HSB'.out, hold]; simp
                · simp only [e, if_false]
                  by_cases e2 : v < u
                  · rw [if_pos e2, if_pos (by omega)]
                  · rw [if_neg e2, if_neg (by omega)])
              have B2 := hb.setCell (p := ⟨G, u, none⟩) (by simpa using lG0) (.bool (rd u))
              have o32 : OwnBB (wr.setCell ⟨G, u, none⟩ (.bool (rd u))) G3 rd := Cel.setOther o3 (by omega) _ _
              clear o o3 hold
              go_wp2
              go_roundw
              case rel => exact ⟨u + 1, by omega, by go_num, B2, o32, O2.out⟩
              case measure => simp [intOf]; omega
            · rw [hold] at g0
              have O2 : Hid (OwnBB (wr.setCell ⟨G, u, none⟩ (.bool true)) G (fun v => if v < u + 1 then pinsA (ss.take (k + 1)) v else pinsA (ss.take k) v)) := (o.set hu3 true).ext (fun v hv => by
                by_cases e : v = u
                · subst e; simp only [if_true, Nat.lt_succ_self]; rw [HSB'.out, hold]; simp
                · simp only [e, if_false]
                  by_cases e2 : v < u
                  · rw [if_pos e2, if_pos (by omega)]
                  · rw [if_neg e2, if_neg (by omega)])
              have B2 := hb.setCell (p := ⟨G, u, none⟩) (by simpa using lG0) (.bool true)
              have o32 : OwnBB (wr.setCell ⟨G, u, none⟩ (.bool true)) G3 rd := Cel.setOther o3 (by omega) _ _
              clear o o3 hold
              go_wp2
              go_roundw
              case rel => exact ⟨u + 1, by omega, by go_num, B2, o32, O2.out⟩
              case measure => simp [intOf]; omega
          · obtain rfl : u = 3 := by omega
            have O3 : Hid (OwnBB wr G (pinsA (ss.take (k + 1)))) := o.ext (fun v hv => by simp only [hv, if_true])
            clear o o3
            go_wp2
            go_roundw
            case rel => exact ⟨k + 1, by omega, by go_num, hb, O3.out⟩
            case measure => simp [intOf]; omega
      · obtain rfl : k = N := by omega
        have O3 : OwnBB wr G (pinsA ss) := by
          have : ss.take k = ss := List.take_of_length_le (by rw [HN.out]; exact Nat.le_refl _)
          rw [this] at o; exact o
        go_wp2
        go_ret
        exact ⟨hb, .inr ⟨HU.out, G, 3, rfl, lG0, O3⟩⟩

end Go.Proofs.YtacjjhfbnbmnlaaGreatDoor

namespace Go.Proofs.YtacjjhfbnbmnlaaGreatDoor
open Go.RowKit
set_option linter.unusedVariables false

theorem goW_copies {ls gs : List LV} (hl : gs.length = ls.length) (h : copiesL ls gs) (f : Nat) : ∀ (i : Nat) (y : Way), goW gs f i y = goW ls f i y := by
  induction f with
  | zero => intro i y; rfl
  | succ f ih =>
    intro i y
    rw [goW, goW, hl]
    by_cases hi : i < ls.length
    · obtain ⟨a1, a2, a3, a4, a5, a6, _⟩ := h i (by omega)
      have e : intoX (gs[i]?.getD noLV).f y.pots = intoX (ls[i]?.getD noLV).f y.pots := by rw [intoX, intoX, a4, a5, a6]
      rw [if_pos hi, if_pos hi, a1, a2, a3, e, ih, ih, ih, ih]
    · rw [if_neg hi, if_neg hi]
theorem rowsL_copies {ls gs : List LV} (hl : gs.length = ls.length) (h : copiesL ls gs) : rowsL gs = rowsL ls := goW_copies hl h 7 0 way0

/-- How many bools are answered. -/
def lenB (v : Bool) : Nat := if v then 3 else 0
theorem lenB_le (v : Bool) : lenB v ≤ 3 := by cases v <;> simp [lenB]

end Go.Proofs.YtacjjhfbnbmnlaaGreatDoor

namespace Go.Proofs.YtacjjhfbnbmnlaaGreatDoor
open Go.ChangeShapes Go.WideShapes Go.ChangeAt Go.RowKit Go.Joins
set_option linter.unusedVariables false
set_option maxRecDepth 100000

/-- A treaty as a value. -/
abbrev treV (a : Option Addr) (n cap : Nat) (c : Option Addr) (m cap' : Nat) : Value := .agg #[.slice a n cap, .slice c m cap']

end Go.Proofs.YtacjjhfbnbmnlaaGreatDoor

namespace Go.Proofs.YtacjjhfbnbmnlaaGreatDoor
open Go.RowKit
set_option linter.unusedVariables false

/-- A treaty is ok. -/
def trtB (n m : Nat) (C D : List Int) : Bool := okN 3 10000 n C && (inB m 1 3 && betB 0 50 D)

set_option maxHeartbeats 800000 in
theorem strt_any (a : Option Addr) (n cap : Nat) (c : Option Addr) (m cap' : Nat) (C D : List Int) (w : World) (hC : Ints w a n C) (hD : Ints w c m D) (hn : n ≤ 1048576) (hm : m ≤ 1048576) :
    Calls Tryz.prog 90 #[treV a n cap c m cap'] w fun e w' => e = .returned (.bool (trtB n m C D)) ∧ Below w.heap.size w w' := by
  have HD : Hid (D.length = m) := hD.1
  cases h1 : okN 3 10000 n C
  · go_enter Tryz.func90, Tryz.ntmps90
    go_wp2_with fail
    refine (sval_any _ _ _ C _ (hC.alloc _) hn).mono ?_
    rintro e w1 ⟨rfl, rfl⟩
    go_wp2
    go_ret
    exact ⟨ret_bool (by simp [trtB, h1]), (Below.refl _ _).alloc (Nat.le_refl _) _⟩
  · cases h2 : inB m 1 3
    · go_enter Tryz.func90, Tryz.ntmps90
      go_wp2_with fail
      refine (sval_any _ _ _ C _ (hC.alloc _) hn).mono ?_
      rintro e w1 ⟨rfl, rfl⟩
      go_wp2_with fail
      refine (in_any _ _ _ _).mono ?_
      rintro e w1 ⟨rfl, rfl⟩
      go_wp2
      go_ret
      exact ⟨ret_bool (by simp [trtB, h2]), (Below.refl _ _).alloc (Nat.le_refl _) _⟩
    · go_enter Tryz.func90, Tryz.ntmps90
      go_wp2_with fail
      refine (sval_any _ _ _ C _ (hC.alloc _) hn).mono ?_
      rintro e w1 ⟨rfl, rfl⟩
      go_wp2_with fail
      refine (in_any _ _ _ _).mono ?_
      rintro e w1 ⟨rfl, rfl⟩
      go_wp2_with fail
      go_loop [3] (fun i => ∃ k : Nat, k ≤ m ∧ i = .int .i64 k ∧ betB 0 50 (D.take k) = true) (fun i => m - (intOf i).toNat)
      case atStart => exact ⟨0, Nat.zero_le _, rfl, rfl⟩
      case round =>
        obtain ⟨k, hk, rfl, hall⟩ := hrel
        have HA : Hid (betB 0 50 (D.take k) = true) := hall
        clear hall
        by_cases hlt : k < m
        · obtain ⟨b, off, rfl, hcell⟩ := (hD.alloc (.cells #[.slice a n cap, .slice c m cap'] 125 (0, 0))).pos (by omega)
          have hck := hcell k hlt
          clear hcell hC hD
          cases hin : inB (D[k]?.getD 0) 0 50
          · go_wp2_with fail
            refine (in_any _ _ _ _).mono ?_
            rintro e w1 ⟨rfl, rfl⟩
            go_wp2
            go_ret
            exact ⟨ret_bool (by rw [trtB, betB_false (by rw [HD.out]; exact hlt) hin]; simp), (Below.refl _ _).alloc (Nat.le_refl _) _⟩
          · go_wp2_with fail
            refine (in_any _ _ _ _).mono ?_
            rintro e w1 ⟨rfl, rfl⟩
            go_wp2
            go_round
            case rel => exact ⟨k + 1, by omega, by go_num, betB_step (by rw [HD.out]; exact hlt) HA.out hin⟩
            case measure => simp [intOf]; omega
        · go_wp2
          go_ret
          exact ⟨ret_bool (by rw [trtB, h1, h2, betB_end (by rw [HD.out]; omega) HA.out]; rfl), (Below.refl _ _).alloc (Nat.le_refl _) _⟩

set_option maxHeartbeats 800000 in
theorem itrt_any (a : Option Addr) (n cap : Nat) (c : Option Addr) (m cap' : Nat) (C D : List Int) (w : World) (hC : Ints w a n C) (hD : Ints w c m D) (hn : n ≤ 1048576) (hm : m ≤ 1048576) :
    Calls Tryz.prog 108 #[treV a n cap c m cap'] w fun e w' => e = .returned (.bool (trtB n m C D)) ∧ Below w.heap.size w w' := by
  cases h1 : okN 3 10000 n C
  · go_enter Tryz.func108, Tryz.ntmps108
    go_wp2_with fail
    refine (ival_any _ _ _ C _ (hC.alloc _) hn).mono ?_
    rintro e w1 ⟨rfl, rfl⟩
    go_wp2
    go_ret
    exact ⟨ret_bool (by simp [trtB, h1]), (Below.refl _ _).alloc (Nat.le_refl _) _⟩
  · by_cases h2 : 1 ≤ m
    · by_cases h3 : m ≤ 3
      · have h4 : inB m 1 3 = true := inB_iff.2 ⟨by omega, by omega⟩
        have H4 : Hid _ := h4
        clear h4
        go_enter Tryz.func108, Tryz.ntmps108
        go_wp2_with fail
        refine (ival_any _ _ _ C _ (hC.alloc _) hn).mono ?_
        rintro e w1 ⟨rfl, rfl⟩
        go_wp2_with fail
        refine (between_any _ _ _ D _ _ _ (hD.alloc _) hm).mono ?_
        rintro e w1 ⟨rfl, rfl⟩
        go_wp2
        go_ret
        exact ⟨ret_bool (by rw [trtB, h1, H4.out]; rfl), (Below.refl _ _).alloc (Nat.le_refl _) _⟩
      · have h4 : inB m 1 3 = false := inB_not.2 (by omega)
        have H4 : Hid _ := h4
        clear h4
        go_enter Tryz.func108, Tryz.ntmps108
        go_wp2_with fail
        refine (ival_any _ _ _ C _ (hC.alloc _) hn).mono ?_
        rintro e w1 ⟨rfl, rfl⟩
        go_wp2
        go_ret
        exact ⟨ret_bool (by rw [trtB, H4.out]; simp), (Below.refl _ _).alloc (Nat.le_refl _) _⟩
    · have h4 : inB m 1 3 = false := inB_not.2 (by omega)
      have H4 : Hid _ := h4
      clear h4
      go_enter Tryz.func108, Tryz.ntmps108
      go_wp2_with fail
      refine (ival_any _ _ _ C _ (hC.alloc _) hn).mono ?_
      rintro e w1 ⟨rfl, rfl⟩
      go_wp2
      go_ret
      exact ⟨ret_bool (by rw [trtB, H4.out]; simp), (Below.refl _ _).alloc (Nat.le_refl _) _⟩

/-- What the first k sites but one may. -/
def others (D : List Int) (s : Int) : Nat → Int
  | 0 => 0
  | k + 1 => if (k : Int) = s then others D s k else wrap64 (others D s k + D[k]?.getD 0)

/-- Parts are ok. -/
def partsB (ss : List IV) : Bool := ss.all fun s => okN 3 10000000 s.n s.x
theorem partsB_step {ss : List IV} {k : Nat} (h : k < ss.length) (h1 : partsB (ss.take k) = true) (h2 : okN 3 10000000 (ss[k]?.getD noI).n (ss[k]?.getD noI).x = true) : partsB (ss.take (k + 1)) = true := by
  unfold partsB at *
  rw [List.take_succ_eq_append_getElem h, List.all_append, h1]
  rw [List.getElem?_eq_getElem h] at h2
  simpa using h2
theorem partsB_end {ss : List IV} {k : Nat} (h : ss.length ≤ k) (h1 : partsB (ss.take k) = true) : partsB ss = true := by
  rwa [List.take_of_length_le h] at h1
theorem partsB_false {ss : List IV} {k : Nat} (h : k < ss.length) (hn : okN 3 10000000 (ss[k]?.getD noI).n (ss[k]?.getD noI).x = false) : partsB ss = false := by
  unfold partsB
  rw [List.all_eq_false]
  refine ⟨ss[k], List.getElem_mem h, ?_⟩
  rw [List.getElem?_eq_getElem h] at hn
  simpa using hn
theorem partsB_at {ss : List IV} {k : Nat} (h : k < ss.length) (hp : partsB ss = true) : okN 3 10000000 (ss[k]?.getD noI).n (ss[k]?.getD noI).x = true := by
  cases hn : okN 3 10000000 (ss[k]?.getD noI).n (ss[k]?.getD noI).x
  · rw [partsB_false h hn] at hp; cases hp
  · rfl

set_option maxHeartbeats 800000 in
theorem sparts_any (ad : Option Addr) (N cap : Nat) (ss : List IV) (w : World) (hN : ss.length = N) (hF : ISG w ad ss) (hN1 : N ≤ 1048576) :
    Calls Tryz.prog 144 #[.slice ad N cap] w fun e w' => e = .returned (.bool (partsB ss)) ∧ w' = w := by
  have HN : Hid (ss.length = N) := hN
  clear hN
  go_enter Tryz.func144, Tryz.ntmps144
  go_wp2_with fail
  go_loop [3] (fun i => ∃ k : Nat, k ≤ N ∧ i = .int .i64 k ∧ partsB (ss.take k) = true) (fun i => N - (intOf i).toNat)
  case atStart => exact ⟨0, Nat.zero_le _, rfl, rfl⟩
  case round =>
    obtain ⟨k, hk, rfl, hall⟩ := hrel
    have HA : Hid _ := hall
    clear hall
    by_cases hlt : k < N
    · obtain ⟨b, off, rfl, hc, hr⟩ := hF k (by rw [HN.out]; exact hlt)
      have H1 : Hid _ := partsB_step (ss := ss) (k := k) (by rw [HN.out]; exact hlt) HA.out
      have H2 : Hid _ := partsB_false (ss := ss) (k := k) (by rw [HN.out]; exact hlt)
      generalize HG : ss[k]?.getD noI = g at *
      clear HG hF HA
      obtain ⟨ga, gn, gcap, gx⟩ := g
      have hc' : w.cell? ⟨b, off + k, none⟩ = some (.slice ga gn gcap) := hc
      clear hc
      cases he : okN 3 10000000 gn gx
      · go_wp2_with fail
        refine (all_any _ _ _ gx _ _ _ hr.1 hr.2 (by omega) (by omega)).mono ?_
        rintro e w1 ⟨rfl, rfl⟩
        rw [he]
        go_wp2
        go_ret
        exact ⟨ret_bool (by rw [H2.out he]), rfl⟩
      · go_wp2_with fail
        refine (all_any _ _ _ gx _ _ _ hr.1 hr.2 (by omega) (by omega)).mono ?_
        rintro e w1 ⟨rfl, rfl⟩
        rw [he]
        go_wp2
        go_round
        case rel => exact ⟨k + 1, by omega, by go_num, H1.out he⟩
        case measure => simp [intOf]; omega
    · go_wp2
      go_ret
      exact ⟨ret_bool (by rw [partsB_end (by rw [HN.out]; omega) HA.out]), rfl⟩

set_option maxHeartbeats 800000 in
theorem iparts_any (ad : Option Addr) (N cap : Nat) (ss : List IV) (w : World) (hN : ss.length = N) (hF : ISG w ad ss) (hN1 : N ≤ 1048576) :
    Calls Tryz.prog 183 #[.slice ad N cap] w fun e w' => e = .returned (.bool (partsB ss)) ∧ w' = w := by
  have HN : Hid (ss.length = N) := hN
  clear hN
  go_enter Tryz.func183, Tryz.ntmps183
  go_wp2_with fail
  go_loop [4, 7] (fun _ i => ∃ k : Nat, k ≤ N ∧ i = .int .i64 k ∧ partsB (ss.take k) = true) (fun _ i => N - (intOf i).toNat)
  case atStart => exact ⟨0, Nat.zero_le _, rfl, rfl⟩
  case round =>
    obtain ⟨k, hk, rfl, hall⟩ := hrel
    have HA : Hid _ := hall
    clear hall
    by_cases hlt : k < N
    · obtain ⟨b, off, rfl, hc, hr⟩ := hF k (by rw [HN.out]; exact hlt)
      have H1 : Hid _ := partsB_step (ss := ss) (k := k) (by rw [HN.out]; exact hlt) HA.out
      have H2 : Hid _ := partsB_false (ss := ss) (k := k) (by rw [HN.out]; exact hlt)
      generalize HG : ss[k]?.getD noI = g at *
      clear HG hF HA
      obtain ⟨ga, gn, gcap, gx⟩ := g
      have hc' : w.cell? ⟨b, off + k, none⟩ = some (.slice ga gn gcap) := hc
      clear hc
      by_cases hn3 : (gn : Int) = 3
      · have hn3' : ((gn : Int) != 3) = false := by simp [hn3]
        have H3 : Hid ((gn : Int) = 3) := hn3
        clear hn3
        cases he : allB 10000000 gx
        · go_wp2_with fail
          refine (within_any _ _ _ gx _ _ hr.1 hr.2 (by omega) (by omega)).mono ?_
          rintro e w1 ⟨rfl, rfl⟩
          rw [he]
          go_wp2
          go_ret
          exact ⟨ret_bool (by rw [H2.out (by rw [okN_is H3.out, he])]), rfl⟩
        · go_wp2_with fail
          refine (within_any _ _ _ gx _ _ hr.1 hr.2 (by omega) (by omega)).mono ?_
          rintro e w1 ⟨rfl, rfl⟩
          rw [he]
          go_wp2
          go_round
          case rel => exact ⟨k + 1, by omega, by go_num, H1.out (by rw [okN_is H3.out, he])⟩
          case measure => simp [intOf]; omega
      · have hn3' : ((gn : Int) != 3) = true := by simp [hn3]
        have H3 : Hid (¬ (gn : Int) = 3) := hn3
        clear hn3
        go_wp2
        go_ret
        exact ⟨ret_bool (by rw [H2.out (okN_not H3.out)]), rfl⟩
    · go_wp2
      go_ret
      exact ⟨ret_bool (by rw [partsB_end (by rw [HN.out]; omega) HA.out]), rfl⟩

theorem imay_any (a : Option Addr) (n cap : Nat) (zs : List Int) (w : World) (h : Ints w a n zs) (hn : n ≤ 1048576) :
    Calls Tryz.prog 184 #[.slice a n cap] w fun e w' => e = .returned (.bool (okN 3 20000 n zs)) ∧ w' = w := by
  by_cases hc : (n : Int) = 3
  · have hc' : ((n : Int) == 3) = true := by simp [hc]
    have HC : Hid ((n : Int) = 3) := hc
    clear hc
    go_enter Tryz.func184, Tryz.ntmps184
    go_wp2_with fail
    refine (within_any _ _ _ zs _ _ h hn (by omega) (by omega)).mono ?_
    rintro e w' ⟨rfl, rfl⟩
    go_wp2
    go_ret
    exact ⟨ret_bool (by rw [okN_is HC.out]), rfl⟩
  · have hc' : ((n : Int) == 3) = false := by simpa using hc
    go_enter Tryz.func184, Tryz.ntmps184
    go_wp2
    go_ret
    exact ⟨ret_bool (by rw [okN_not hc]), rfl⟩

end Go.Proofs.YtacjjhfbnbmnlaaGreatDoor

namespace Go.Proofs.YtacjjhfbnbmnlaaGreatDoor
open Go.ChangeShapes Go.WideShapes Go.ChangeAt Go.RowKit Go.Joins
set_option linter.unusedVariables false
set_option maxRecDepth 100000

/-- A plan as a value. -/
abbrev plV (cl : Int) (ad : Option Addr) (N cap : Nat) (ga : Option Addr) (gn gc : Nat) (sa : Option Addr) (sn sc : Nat) : Value := .agg #[.int .i64 cl, .slice ad N cap, .slice ga gn gc, .slice sa sn sc]

/-- What a plan holds, that may be copied. -/
structure PlAt (w : World) (ad : Option Addr) (N : Nat) (ss : List L2V) (ga : Option Addr) (gn : Nat) (G : List Int) (sa : Option Addr) (sn : Nat) (S : List Int) : Prop where
  a : LSG w ad ss
  ha : ss.length = N
  za : N ≤ 1048576
  g : Ints w ga gn G
  zg : gn ≤ 1048576
  s : Ints w sa sn S
  zs : sn ≤ 1048576
theorem PlAt.below {w w' : World} {ad : Option Addr} {N : Nat} {ss : List L2V} {ga : Option Addr} {gn : Nat} {G : List Int} {sa : Option Addr} {sn : Nat} {S : List Int} (h : PlAt w ad N ss ga gn G sa sn S) (b : Below w.heap.size w w') : PlAt w' ad N ss ga gn G sa sn S :=
  ⟨h.a.below b, h.ha, h.za, h.g.below b, h.zg, h.s.below b, h.zs⟩
theorem PlAt.alloc {w : World} {ad : Option Addr} {N : Nat} {ss : List L2V} {ga : Option Addr} {gn : Nat} {G : List Int} {sa : Option Addr} {sn : Nat} {S : List Int} (h : PlAt w ad N ss ga gn G sa sn S) (o : Obj) : PlAt (w.alloc o) ad N ss ga gn G sa sn S :=
  h.below ((Below.refl _ _).alloc (Nat.le_refl _) _)

theorem Cel.quadP {w : World} {B : Nat} {x y z u : Value} {t : TypeId} (h : Cel w B [x, y, z, u] t) : w.cell? ⟨B, 0, none⟩ = some x ∧ w.cell? ⟨B, 1, none⟩ = some y ∧ w.cell? ⟨B, 2, none⟩ = some z ∧ w.cell? ⟨B, 3, none⟩ = some u := ⟨h.cell 0, h.cell 1, h.cell 2, h.cell 3⟩
/-- A box, and all that came before is as it was. -/
structure BP (w : World) (B : Nat) (la : List Value) (ty : TypeId) (W : World) : Prop where
  p : Cel W B la ty
  b : Below w.heap.size w W
theorem BP.new (w : World) (la : List Value) (ty : TypeId) : BP w w.heap.size la ty (w.alloc (.cells la.toArray ty)) := ⟨Cel.new w la ty, (Below.refl _ _).alloc (Nat.le_refl _) _⟩
theorem BP.below {w W W' : World} {B : Nat} {la : List Value} {ty : TypeId} (h : BP w B la ty W) (b : Below W.heap.size W W') : BP w B la ty W' := ⟨h.p.below b, h.b.trans (b.mono h.b.size)⟩
theorem BP.alloc {w W : World} {B : Nat} {la : List Value} {ty : TypeId} (h : BP w B la ty W) (o : Obj) : BP w B la ty (W.alloc o) := h.below ((Below.refl _ _).alloc (Nat.le_refl _) _)

theorem ML2.setLow {W : World} {B N : Nat} {ts : List L2V} (h : ML2 W B N ts) {X : Nat} (hX : X < B) (i : Nat) (v : Value) : ML2 (W.setCell ⟨X, i, none⟩ v) B N ts := by
  have T : Touch (fun x => x = X) W (W.setCell ⟨X, i, none⟩ v) := Touch.setCell (S := fun x => x = X) (Touch.refl _ _) rfl _
  obtain ⟨vs, h1, h2, h3⟩ := h.c
  obtain ⟨c, c1, c2, c3⟩ := h.d
  exact ⟨⟨vs, h1.setOther (by omega) _ _, h2, h3⟩, fun i hi => (h.l i hi).touch T (fun x hx => by omega), c, c1, by rw [size_setCell]; exact c2, c3⟩

set_option maxHeartbeats 1600000 in
theorem szP_any (cl : Int) (ad : Option Addr) (N cap : Nat) (ss : List L2V) (ga : Option Addr) (gn gc : Nat) (G : List Int) (sa : Option Addr) (sn sc : Nat) (S : List Int) (l : Int) (w : World)
    (ha : ss.length = N) (hA : LSM w ad ss) (hN1 : N ≤ maxLen) (hG : Ints w ga gn G) (hG1 : gn ≤ maxLen) (hS : Ints w sa sn S) (hS1 : sn ≤ maxLen) (h0 : 0 ≤ l) (hl : l ≤ 1048576) :
    Calls Tryz.prog 9 #[plV cl ad N cap ga gn gc sa sn sc, .int .i64 l] w fun e w' => ∃ r, e = .returned (.int .i64 r) ∧ -1 ≤ r ∧ r ≤ 1048576 ∧ (0 ≤ r → PlAt w ad N ss ga gn G sa sn S) ∧ Below w.heap.size w w' := by
  have n0 := BP.new w [.int .i64 cl, .slice ad N cap, .slice ga gn gc, .slice sa sn sc] 25
  have HA : Hid (ss.length = N) := ha
  clear ha
  go_enter Tryz.func9, Tryz.ntmps9
  go_wp2_with fail
  refine (szL2S_any _ _ _ ss _ _ HA.out (hA.below n0.b) hN1 h0 hl).mono ?_
  rintro e w1 ⟨r1, rfl, p1, q1, s1, b1⟩
  have n1 := n0.below b1
  obtain ⟨c0, c1, c2, c3⟩ := n1.p.quadP
  by_cases h1 : r1 < 0
  · go_wp2
    go_ret
    exact ⟨-1, rfl, by omega, by omega, fun h => by omega, n1.b⟩
  have h1' : 0 ≤ r1 := by omega
  obtain ⟨zN, sN⟩ := s1 h1'
  have HSN : Hid _ := sN
  clear s1 sN h1
  have g2 := leftOf_ge r1 gn
  obtain ⟨r2, hr2⟩ : ∃ r, r = leftOf r1 gn := ⟨_, rfl⟩
  have HR2 : Hid _ := hr2
  rw [← hr2] at g2
  clear hr2
  go_wp2_with fail
  refine (sz_any _ _ _ _ _ hG1 h1' q1).mono ?_
  rintro e w2 ⟨rfl, rfl⟩
  rw [← HR2.out]
  by_cases h2 : r2 < 0
  · go_wp2
    go_ret
    exact ⟨-1, rfl, by omega, by omega, fun h => by omega, n1.b⟩
  have h2' : 0 ≤ r2 := by omega
  have z2 := leftOf_le (l := r1) (n := gn) (by rw [← HR2.out]; exact h2')
  rw [← HR2.out] at z2
  have g3 := leftOf_ge r2 sn
  obtain ⟨r3, hr3⟩ : ∃ r, r = leftOf r2 sn := ⟨_, rfl⟩
  have HR3 : Hid _ := hr3
  rw [← hr3] at g3
  clear hr3 h2
  have q2 : r2 ≤ 1048576 := by omega
  have zg : gn ≤ 1048576 := by omega
  clear z2
  go_wp2_with fail
  refine (sz_any _ _ _ _ _ hS1 h2' q2).mono ?_
  rintro e w2 ⟨rfl, rfl⟩
  rw [← HR3.out]
  by_cases h3 : r3 < 0
  · go_wp2
    go_ret
    exact ⟨-1, rfl, by omega, by omega, fun h => by omega, n1.b⟩
  have h3' : 0 ≤ r3 := by omega
  have z3 := leftOf_le (l := r2) (n := sn) (by rw [← HR3.out]; exact h3')
  rw [← HR3.out] at z3
  have q3 : r3 ≤ 1048576 := by omega
  have zs : sn ≤ 1048576 := by omega
  clear z3 h3
  go_wp2
  go_ret
  exact ⟨r3, rfl, by omega, q3, fun _ => ⟨hA.g HSN.out, HA.out, zN, hG, zg, hS, zs⟩, n1.b⟩

set_option maxHeartbeats 3200000 in
theorem toP_sep (cl : Int) (ad : Option Addr) (N cap : Nat) (ss : List L2V) (ga : Option Addr) (gn gc : Nat) (G : List Int) (sa : Option Addr) (sn sc : Nat) (S : List Int) (w : World) (h : PlAt w ad N ss ga gn G sa sn S) :
    Calls Tryz.prog 12 #[plV cl ad N cap ga gn gc sa sn sc] w fun e w' => ∃ B1 B2 B3 ts, e = .returned (plV cl (some ⟨B1, 0, none⟩) N N (some ⟨B2, 0, none⟩) gn gn (some ⟨B3, 0, none⟩) sn sn) ∧
      ts.length = N ∧ copiesL2S ss ts ∧ Below w.heap.size w w' ∧ ML2 w' B1 N ts ∧ Blk w' B2 G ∧ Blk w' B3 S ∧ w.heap.size ≤ B1 ∧ B2 < B3 ∧ B3 < w'.heap.size ∧ (∃ c : Nat → Nat, B1 < c 0 ∧ c N ≤ B2 ∧ ∀ i, i < N → c i ≤ c (i + 1) ∧ InR (c i) (c (i + 1)) (ts[i]?.getD noL)) := by
  have HN : Hid (ss.length = N) := h.ha
  have za := h.za
  have zg := h.zg
  have zs := h.zs
  go_enter Tryz.func12, Tryz.ntmps12
  go_wp2_with fail
  refine (toL2S_any _ _ _ ss _ HN.out (((h.alloc _).alloc _).alloc _).a za).mono ?_
  rintro e w1 ⟨ts, rfl, lt, cp, b1, m1⟩
  have HT : Hid (ts.length = N) := lt
  have HC : Hid (copiesL2S ss ts) := cp
  clear lt cp
  have p0 := (((Cel.new w _ _).alloc _).alloc _).below b1
  have pr := ((Cel.new (w.alloc _) _ _).alloc _).below b1
  have px := (Cel.new ((w.alloc _).alloc _) _ _).below b1
  rw [World.size_alloc] at pr
  rw [World.size_alloc, World.size_alloc] at px
  rw [World.size_alloc, World.size_alloc, World.size_alloc] at m1
  have s1 := m1.lt
  have HD : Hid (∃ c : Nat → Nat, w.heap.size + 1 + 1 + 1 < c 0 ∧ c N ≤ w1.heap.size ∧ ∀ i, i < N → c i ≤ c (i + 1) ∧ InR (c i) (c (i + 1)) (ts[i]?.getD noL)) := by
    obtain ⟨c, c1, c2, c3⟩ := m1.d
    rw [HT.out] at c2 c3
    exact ⟨c, c1, c2, c3⟩
  have B1 : Below w.heap.size w w1 := ((((Below.refl _ _).alloc (Nat.le_refl _) _).alloc (by simp) _).alloc (by simp; omega) _).trans (b1.mono (by simp; omega))
  clear b1
  obtain ⟨c0, c1, c2, c3⟩ := p0.quadP
  obtain ⟨d0, d1, d2, d3⟩ := px.quadP
  have f0 := px.free 1
  go_wp2_with fail
  have B1s := B1.setCell (p := ⟨w.heap.size + 1 + 1, 1, none⟩) (by show w.heap.size ≤ w.heap.size + 1 + 1; omega) (Value.slice (some ⟨w.heap.size + 1 + 1 + 1, 0, none⟩) N N)
  refine (to_any _ _ _ G _ (h.below B1s).g zg).mono ?_
  rintro e w2 ⟨rfl, b2, k2⟩
  clear c0 c1 c2 c3 d0 d1 d2 d3 f0
  have r0 := (p0.setOther (by omega) _ _).below b2
  have rr := (pr.setOther (by omega) _ _).below b2
  have rx := (px.set _ _).below b2
  have n1 := (m1.setLow (X := w.heap.size + 1 + 1) (by omega) 1 _).below b2
  have B2 := B1s.trans (b2.mono B1s.size)
  rw [size_setCell] at k2
  have s2 := k2.lt
  clear p0 pr px m1 b2 B1 B1s
  simp only [List.set_cons_zero, List.set_cons_succ] at rx
  obtain ⟨c0, c1, c2, c3⟩ := r0.quadP
  obtain ⟨d0, d1, d2, d3⟩ := rx.quadP
  have f0 := rx.free 2
  go_wp2_with fail
  have B2s := B2.setCell (p := ⟨w.heap.size + 1 + 1, 2, none⟩) (by show w.heap.size ≤ w.heap.size + 1 + 1; omega) (Value.slice (some ⟨w1.heap.size, 0, none⟩) gn gn)
  refine (to_any _ _ _ S _ (h.below B2s).s zs).mono ?_
  rintro e w3 ⟨rfl, b3, k3⟩
  clear c0 c1 c2 c3 d0 d1 d2 d3 f0
  have tr := (rr.setOther (by omega) _ _).below b3
  have tx := (rx.set _ _).below b3
  have n1' := (n1.setLow (X := w.heap.size + 1 + 1) (by omega) 2 _).below b3
  have k2' := (k2.setOther (B' := w.heap.size + 1 + 1) (by omega) 2 _).below b3
  have B3 := B2s.trans (b3.mono B2s.size)
  rw [size_setCell] at k3
  have s3 := k3.lt
  clear r0 rr rx n1 k2 b3 B2 B2s
  simp only [List.set_cons_zero, List.set_cons_succ] at tx
  obtain ⟨d0, d1, d2, d3⟩ := tx.quadP
  obtain ⟨e0, e1, e2, e3⟩ := tr.quadP
  have f0 := tx.free 3
  have f2 := tr.free 0
  have f3 := tr.free 1
  have f4 := tr.free 2
  have f5 := tr.free 3
  have hlt1 : w.heap.size + 1 < w3.heap.size := by omega
  have hlt2 : w.heap.size + 1 + 1 < w3.heap.size := by omega
  go_wp2
  refine bodyPost_ret (v := plV cl (some ⟨w.heap.size + 1 + 1 + 1, 0, none⟩) N N (some ⟨w1.heap.size, 0, none⟩) gn gn (some ⟨w2.heap.size, 0, none⟩) sn sn) (by simp [results, Tryz.results12, go_sem, e0, e1, e2, e3]) rfl ⟨_, _, _, ts, rfl, HT.out, HC.out, ?_, ?_, ?_, ?_, by omega, by omega, by simp only [size_setCell]; omega, HD.out⟩
  · exact ((((B3.setCell (by simp only []; omega) _).setCell (by simp only []; omega) _).setCell (by simp only []; omega) _).setCell (by simp only []; omega) _).setCell (by simp only []; omega) _
  · exact ((((n1'.setLow (by omega) _ _).setLow (by omega) _ _).setLow (by omega) _ _).setLow (by omega) _ _).setLow (by omega) _ _
  · exact ((((k2'.setOther (by omega) _ _).setOther (by omega) _ _).setOther (by omega) _ _).setOther (by omega) _ _).setOther (by omega) _ _
  · exact ((((k3.setOther (by omega) _ _).setOther (by omega) _ _).setOther (by omega) _ _).setOther (by omega) _ _).setOther (by omega) _ _

theorem toP_any (cl : Int) (ad : Option Addr) (N cap : Nat) (ss : List L2V) (ga : Option Addr) (gn gc : Nat) (G : List Int) (sa : Option Addr) (sn sc : Nat) (S : List Int) (w : World) (h : PlAt w ad N ss ga gn G sa sn S) :
    Calls Tryz.prog 12 #[plV cl ad N cap ga gn gc sa sn sc] w fun e w' => ∃ B1 B2 B3 ts, e = .returned (plV cl (some ⟨B1, 0, none⟩) N N (some ⟨B2, 0, none⟩) gn gn (some ⟨B3, 0, none⟩) sn sn) ∧
      ts.length = N ∧ copiesL2S ss ts ∧ Below w.heap.size w w' ∧ ML2 w' B1 N ts ∧ Blk w' B2 G ∧ Blk w' B3 S :=
  (toP_sep cl ad N cap ss ga gn gc G sa sn sc S w h).mono fun e w' hx => by
    obtain ⟨B1, B2, B3, ts, h1, h2, h3, h4, h5, h6, h7, _⟩ := hx
    exact ⟨B1, B2, B3, ts, h1, h2, h3, h4, h5, h6, h7⟩

theorem copies_mapP {ss ts : List L2V} (hl : ts.length = ss.length) (h : copiesL2S ss ts) : ts.map L2V.ok = ss.map L2V.ok := by
  apply List.ext_getElem?
  intro i
  by_cases hi : i < ts.length
  · obtain ⟨e1, e2, e3⟩ := h i hi
    have : (ts[i]?.getD noL).ok = (ss[i]?.getD noL).ok := by rw [L2V.ok, L2V.ok, e1]; exact copiesL_act e2 e3
    rw [List.getElem?_eq_getElem hi, List.getElem?_eq_getElem (by omega)] at this
    simp only [Option.getD_some] at this
    rw [List.getElem?_map, List.getElem?_map, List.getElem?_eq_getElem hi, List.getElem?_eq_getElem (by omega)]
    simp [this]
  · rw [List.getElem?_eq_none (by simp; omega), List.getElem?_eq_none (by simp; omega)]
theorem copies_catP {ss ts : List L2V} {N : Nat} (hl : ts.length = ss.length) (h : copiesL2S ss ts) : catB N ts = catB N ss := by
  have h3 := copies_mapP hl h
  have e1 : ∀ xs : List L2V, xs.all L2V.ok = (xs.map L2V.ok).all id := fun xs => by simp [List.all_map]
  rw [catB, catB, e1, e1, h3]
theorem copies_sameP {ss ts us : List L2V} {N : Nat} (h1 : ts.length = N) (h2 : us.length = N) (c1 : copiesL2S ss ts) (c2 : copiesL2S ss us) (hl : ∀ i, i < N → (ts[i]?.getD noL).x.length = (ts[i]?.getD noL).n) : ∀ i, i < N → sameL2 (ts[i]?.getD noL) (us[i]?.getD noL) := fun i hi => by
  obtain ⟨a1, a2, a3⟩ := c1 i (by omega)
  obtain ⟨b1, b2, b3⟩ := c2 i (by omega)
  refine ⟨by rw [a1, b1], fun j hj => ?_⟩
  have e1 := hl i hi
  exact copiesL_same (N := (ts[i]?.getD noL).n) e1 (by rw [b2, ← a2]; exact e1) a3 b3 j hj
theorem ML2.lens {W : World} {B N : Nat} {ts : List L2V} (h : ML2 W B N ts) (hl : ts.length = N) : ∀ i, i < N → (ts[i]?.getD noL).x.length = (ts[i]?.getD noL).n := fun i hi => by
  obtain ⟨b, off, _, _, h⟩ := h.g i (by rw [hl]; exact hi)
  exact h.1

set_option maxHeartbeats 1600000 in
/-- Held against a plan that holds the same. -/
theorem eqP_same (cl : Int) (ad : Option Addr) (N cap : Nat) (ss : List L2V) (ga : Option Addr) (gn gc : Nat) (G : List Int) (sa : Option Addr) (sn sc : Nat) (S : List Int) (ad' : Option Addr) (cap' : Nat) (ss' : List L2V) (ga' : Option Addr) (gc' : Nat) (sa' : Option Addr) (sc' : Nat) (w : World)
    (h : PlAt w ad N ss ga gn G sa sn S) (h' : PlAt w ad' N ss' ga' gn G sa' sn S) (hs : ∀ i, i < N → sameL2 (ss[i]?.getD noL) (ss'[i]?.getD noL)) :
    Calls Tryz.prog 15 #[plV cl ad N cap ga gn gc sa sn sc, plV cl ad' N cap' ga' gn gc' sa' sn sc'] w fun e w' => e = .returned (.bool true) ∧ Below w.heap.size w w' := by
  have E1 : Hid _ := hs
  clear hs
  have HG := eqB_refl G
  have HS := eqB_refl S
  have hcl : (cl != cl) = false := by simp
  have n0 := (BP.new w [.int .i64 cl, .slice ad N cap, .slice ga gn gc, .slice sa sn sc] 34).alloc (.cells #[.int .i64 cl, .slice ad' N cap', .slice ga' gn gc', .slice sa' sn sc'] 34)
  have y0 := Cel.new (w.alloc (.cells #[.int .i64 cl, .slice ad N cap, .slice ga gn gc, .slice sa sn sc] 34)) [.int .i64 cl, .slice ad' N cap', .slice ga' gn gc', .slice sa' sn sc'] 34
  rw [World.size_alloc] at y0
  go_enter Tryz.func15, Tryz.ntmps15
  go_wp2_with fail
  refine (eqL2S_same _ _ _ _ _ ss ss' _ h.ha h'.ha ((h.alloc _).alloc _).a ((h'.alloc _).alloc _).a h.za E1.out).mono ?_
  rintro e w1 ⟨rfl, b1⟩
  have n1 := n0.below b1
  have y1 := y0.below b1
  clear n0 y0 b1
  obtain ⟨c0, c1, c2, c3⟩ := n1.p.quadP
  obtain ⟨d0, d1, d2, d3⟩ := y1.quadP
  go_wp2_with fail
  refine (eq_any _ _ _ _ _ _ G G _ (h.below n1.b).g (h'.below n1.b).g h.zg h.zg).mono ?_
  rintro e w2 ⟨rfl, b2⟩
  rw [HG]
  have n2 := n1.below b2
  have y2 := y1.below b2
  clear n1 y1 b2 c0 c1 c2 c3 d0 d1 d2 d3
  obtain ⟨c0, c1, c2, c3⟩ := n2.p.quadP
  obtain ⟨d0, d1, d2, d3⟩ := y2.quadP
  go_wp2_with fail
  refine (eq_any _ _ _ _ _ _ S S _ (h.below n2.b).s (h'.below n2.b).s h.zs h.zs).mono ?_
  rintro e w3 ⟨rfl, b3⟩
  rw [HS]
  have n3 := n2.below b3
  go_wp2
  go_ret
  exact ⟨rfl, n3.b⟩

/-- A plan is ok. -/
def plnB (cl : Int) (N : Nat) (ss : List L2V) (gn : Nat) (G : List Int) (sn : Nat) (S : List Int) : Bool := inB cl 1 4 && (catB N ss && (okN 3 1000 sn S && trtB sn gn S G))

theorem open_LSC {H : Type} {enc : TypeId × Value → H} {W : World} {fuel : Nat} {v : Value} {y : DataW H × List MemPlace}
    (hf : DataW.trod enc Tryz.prog W 0 (fun _ => true) true fuel 22 [v] = some y) :
    ∃ ad N cap ss, v = .slice ad N cap ∧ ss.length = N ∧ LSM W ad ss ∧ N ≤ maxLen := by
  obtain ⟨ad, N, cap, ss, hv, hl, hN, hall⟩ := open_sliceC noL (fun s => [L2V.v s]) (fun s => LM W s) (c := 1) (by omega) Tryz.underlying22 (by kernel_rfl) (fun _ => rfl) (fun fuel cs x hx => by
    have hl : cs.length = 1 := (trod_lenL Tryz.underlying116 hx)
    match cs, hl with
    | [c], _ =>
      obtain ⟨s, hs, hr⟩ := open_L1 hx
      exact ⟨s, by rw [hs], hr⟩) hf
  refine ⟨ad, N, cap, ss, hv, hl, fun i hi => ?_, hN⟩
  obtain ⟨b, off, e, hc, hr⟩ := hall i hi
  have h0 := hc 0 (by omega)
  simp only [Nat.mul_one, Nat.add_zero, List.getElem?_cons_zero] at h0
  exact ⟨b, off, e, h0, hr⟩

theorem open_plan {H : Type} {enc : TypeId × Value → H} {W : World} {r : Reach} {b0 : Nat} {v : Value} {d : DataW H} {p : List MemPlace}
    (hv : Value.okWide Tryz.prog W r b0 25 v) (h : DataW.Trod enc Tryz.prog W 0 (fun _ => true) true 25 v d p) :
    ∃ cl ad N cap ss ga gn gc G sa sn sc S, v = plV cl ad N cap ga gn gc sa sn sc ∧ (Lit.int .i64 cl).wf = true ∧ ss.length = N ∧ LSM W ad ss ∧ N ≤ maxLen ∧ Ints W ga gn G ∧ gn ≤ maxLen ∧ Ints W sa sn S ∧ sn ≤ maxLen := by
  obtain ⟨v0, v1, v2, v3, y0, y1, y2, y3, k, rfl, -, -, h0, h1, h2, h3⟩ := open_agg4 Tryz.underlying25 (by kernel_rfl) (by kernel_rfl) hv h
  obtain ⟨cl, rfl, wc⟩ := open_num h0
  obtain ⟨ad, N, cap, ss, rfl, hl, hM, hN⟩ := open_LSC h1
  obtain ⟨ga, gn, gc, G, rfl, hG, hg⟩ := open_row h2
  obtain ⟨sa, sn, sc, S, rfl, hS, hs⟩ := open_row h3
  exact ⟨cl, ad, N, cap, ss, ga, gn, gc, G, sa, sn, sc, S, rfl, wc, hl, hM, hN, hG, hg, hS, hs⟩

end Go.Proofs.YtacjjhfbnbmnlaaGreatDoor

namespace Go.Proofs.YtacjjhfbnbmnlaaGreatDoor
open Go.RowKit
set_option linter.unusedVariables false

theorem rows_map {ss ts : List L2V} (hl : ts.length = ss.length) (h : copiesL2S ss ts) : ts.map (fun s => rowsL s.x) = ss.map (fun s => rowsL s.x) := by
  apply List.ext_getElem?
  intro i
  by_cases hi : i < ts.length
  · obtain ⟨e1, e2, e3⟩ := h i hi
    have := rowsL_copies e2 e3
    rw [List.getElem?_eq_getElem hi, List.getElem?_eq_getElem (by omega)] at this
    simp only [Option.getD_some] at this
    rw [List.getElem?_map, List.getElem?_map, List.getElem?_eq_getElem hi, List.getElem?_eq_getElem (by omega)]
    simp [this]
  · rw [List.getElem?_eq_none (by simp; omega), List.getElem?_eq_none (by simp; omega)]
theorem pins_copies {ss ts : List L2V} (hl : ts.length = ss.length) (h : copiesL2S ss ts) : pinsA ts = pinsA ss := by
  funext v
  have e : ∀ xs : List L2V, pinsA xs v = (xs.map (fun s => rowsL s.x)).any (fun r => readsR r v) := fun xs => by simp [pinsA, List.any_map, Function.comp_def]
  rw [e, e, rows_map hl h]
theorem catP_copies {ss ts : List L2V} (hl : ts.length = ss.length) (h : copiesL2S ss ts) : catP ts = catP ss := by
  have e : ∀ xs : List L2V, catP xs = (xs.map (fun s => rowsL s.x)).foldl rowsP pots3 := fun xs => by rw [catP, actsP, List.foldl_map]
  rw [e, e, rows_map hl h]

theorem icatpins_at (v : Bool) (R : Nat → Bool) (ad : Option Addr) (N cap : Nat) (gs : List L2V) (w : World) (hN : gs.length = N) (hF : LSG w ad gs) (hN1 : N ≤ 1048576) (hv : catB N gs = v) (hR : pinsA gs = R) :
    Calls Tryz.prog 112 #[.slice ad N cap] w fun e w' => ∃ a cp, e = .returned (.slice a (lenB v) cp) ∧ Below w.heap.size w w' ∧ (v = false ∨ (v = true ∧ ∃ G, a = some ⟨G, 0, none⟩ ∧ w.heap.size ≤ G ∧ OwnBB w' G R)) := by
  refine (icatpins_any ad N cap gs w hN hF hN1).mono ?_
  rintro e w' ⟨b, ⟨h, rfl⟩ | ⟨h, G, cG, rfl, hG, o⟩⟩
  · rw [hv] at h; subst h
    exact ⟨_, 0, rfl, b, Or.inl rfl⟩
  · rw [hv] at h; subst h; subst hR
    exact ⟨_, cG, rfl, b, Or.inr ⟨rfl, G, rfl, hG, o⟩⟩

end Go.Proofs.YtacjjhfbnbmnlaaGreatDoor

