/-
  All ways through steps, as the program walks them and tells them (rowWalk.from). Of an act that is ok.
-/
import Derived.Test.YthhfjodggmmcoaaWayS
namespace Go.Proofs.Ythhfjodggmmcoaa
open Go.RowKit Go.Deep Go.Shelf
set_option linter.unusedVariables false
set_option maxRecDepth 100000

/-- Steps in memory; their forms can be read. -/
def Stp (W : World) (SG N : Nat) (ls : List LV) : Prop := ∃ cur, Cel W SG cur 160 ∧ ∀ j, j < N → cur[j]? = some (stepV (ls[j]?.getD noLV))
def LinesIn (W : World) (ls : List LV) : Prop := ∀ j, j < ls.length → (ls[j]?.getD noLV).f.At W
theorem FV.At.keepR {g : FV} {X Y : World} (h : g.At X) (k : KpR X Y) : g.At Y := ⟨h.C.keepR k, h.D.keepR k, h.hn, h.hm⟩
theorem Stp.keepR {X Y : World} {SG N : Nat} {ls : List LV} (h : Stp X SG N ls) (k : KpR X Y) : Stp Y SG N ls := by
  obtain ⟨cur, hc, hv⟩ := h
  exact ⟨cur, hc.keepR k (by decide) (by decide), hv⟩
theorem LinesIn.keepR {X Y : World} {ls : List LV} (h : LinesIn X ls) (k : KpR X Y) : LinesIn Y ls := fun j hj => (h j hj).keepR k

theorem from_any (l n₀ : Nat) (J : List RowM → World → Prop) (hJ : ∀ pre X Y, J pre X → Below X.heap.size X Y → J pre Y) (hY : Rounds l n₀ J) (SG N sc : Nat) (ls : List LV) (hN : ls.length = N) (h6 : N ≤ 6) (hall : ls.all LV.ok = true) (f : Nat) :
    ∀ (i0 : Nat) (y : Way) (pa : Option Addr) (cp : Nat) (ga : Option Addr) (ng gc : Nat) (ta : Option Addr) (nt tc : Nat) (pre : List RowM) (W : World) (n : Nat), f ≤ 7 → N ≤ i0 + f → i0 ≤ 12 → WayOk i0 y → y.guards.length = ng → y.tells.length = nt → Stp W SG N ls → LinesIn W ls → FormsAt W pa y.pots → FormsAt W ga y.guards → FormsAt W ta y.tells → n₀ ≤ W.heap.size → J pre W →
    CallsIn Fence.wide n Try.prog 107 #[walkV l (some ⟨SG, 0, none⟩) N sc, .int .i64 (i0 : Int), wayV ga ng gc pa cp ta nt tc false] W fun e Y => e = .returned (.bool true) ∧ J (pre ++ goW ls f i0 y) Y ∧ KpR W Y := by
  have atEnd : ∀ (f i0 : Nat) (y : Way) (pa : Option Addr) (cp : Nat) (ga : Option Addr) (ng gc : Nat) (ta : Option Addr) (nt tc : Nat) (pre : List RowM) (W : World) (n : Nat), N ≤ i0 → i0 ≤ 12 → WayOk i0 y → y.guards.length = ng → y.tells.length = nt → FormsAt W pa y.pots → FormsAt W ga y.guards → FormsAt W ta y.tells → n₀ ≤ W.heap.size → J pre W →
      CallsIn Fence.wide n Try.prog 107 #[walkV l (some ⟨SG, 0, none⟩) N sc, .int .i64 (i0 : Int), wayV ga ng gc pa cp ta nt tc false] W fun e Y => e = .returned (.bool true) ∧ J (pre ++ goW ls f i0 y) Y ∧ KpR W Y := by
    intro f i0 y pa cp ga ng gc ta nt tc pre W n hi hi1 hy hg ht hP hG hT hn0 h0
    rw [goW_end (by omega)]
    have g1 := hy.gl
    have g2 := hy.tl
    exact from_end l n₀ J hJ hY _ N sc i0 hi hi1 y pa cp ga ng gc ta nt tc false (endW y) pre W n hn0 h0 (endW_fit hy (by omega)) (fun X hb => irow_end y ga ng gc pa cp ta nt tc X hy.pl hg ht (hP.keep hb) (hG.keep hb) (hT.keep hb) (fun k hk => (hy.pf k hk).mono (by have := wb_six (n := min i0 6) (by omega); omega)) (fun k hk => hy.gf k (by omega)) (fun k hk => hy.tf k (by omega)) (by omega) (by omega))
  induction f with
  | zero => intro i0 y pa cp ga ng gc ta nt tc pre W n _ hfu hi1 hy hg ht _ _ hP hG hT hn0 h0; exact atEnd 0 i0 y pa cp ga ng gc ta nt tc pre W n (by omega) hi1 hy hg ht hP hG hT hn0 h0
  | succ f ih =>
    intro i0 y pa cp ga ng gc ta nt tc pre W n hf7 hfu hi1 hy hg ht hS hLI hP hG hT hn0 h0
    by_cases hlt : i0 < N
    · have hl : i0 < ls.length := by omega
      have hok : (ls[i0]?.getD noLV).ok = true := by
        rw [List.getElem?_eq_getElem hl]
        exact List.all_eq_true.1 hall _ (List.getElem_mem hl)
      obtain ⟨cur, hC, hv⟩ := hS
      have hv0 := hv i0 hlt
      have hA := hLI i0 hl
      have hS' : Stp W SG N ls := ⟨cur, hC, hv⟩
      rw [goW, if_pos hl]
      generalize ls[i0]?.getD noLV = q at *
      have e1 : ((i0 + 1 : Nat) : Int) = (i0 : Int) + 1 := by omega
      by_cases hk4 : q.kind = 4
      · rw [if_neg (by omega), if_neg (by omega), if_neg (by omega)]
        have hst : stepV q = .iface 174 (.agg #[]) := by simp [stepV, hk4]
        rw [hst] at hv0
        have g1 := hy.gl
        refine from_step l SG N sc i0 hlt hi1 ga ng gc pa cp ta nt tc _ _ cur _ W n hC hv0 (fun X m hb => past_stop l _ N sc _ ga ng gc pa cp ta nt tc _ X m (fun X2 hb2 m2 => ?_))
        have hb' := hb.trans (hb2.mono hb.size)
        exact from_end l n₀ J hJ hY _ N sc 6 h6 (by omega) y pa cp ga ng gc ta nt tc true (stopW y) pre X2 m2 (by have := hb'.size; omega) (hJ _ _ _ h0 hb') (stopW_fit hy (by omega)) (fun X3 hb3 => irow_stop y ga ng gc pa cp ta nt tc X3 hg (hG.keep (hb'.trans (hb3.mono hb'.size))) (fun k hk => hy.gf k (by omega)) (by omega))
      · obtain ⟨hsm, hkk, hz, hp⟩ := lineW (show lineB q.kind q.pot q.skip q.f.n q.f.m q.f.C q.f.D q.f.K = true from hok) hk4
        obtain ⟨f1, f2, f3⟩ := hy.into (by omega) (f := q.f) hsm hA.D.1
        rcases hkk with e | e | e
        · rw [if_pos e]
          obtain ⟨z1, z2⟩ := hz e
          have hst : stepV q = .iface 168 (.agg #[.int .i64 q.skip, .slice q.f.a q.f.n q.f.cap, .slice q.f.c q.f.m q.f.cap', .int .i64 q.f.K]) := by simp [stepV, e]
          rw [hst] at hv0
          have e2 : ((i0 + 1 + q.skip.toNat : Nat) : Int) = (i0 : Int) + 1 + q.skip := by omega
          refine from_step l SG N sc i0 hlt hi1 ga ng gc pa cp ta nt tc _ _ cur _ W n hC hv0 (fun X m hb => ?_)
          have kX : KpR W X := KpR.of hb
          refine past_test l _ N sc _ q.skip ⟨by omega, by omega⟩ ⟨by omega, by omega⟩ i0 y hy (by omega) q.f hsm ga ng gc pa cp ta nt tc (J (pre ++ goW ls f (i0 + 1) (y.guard (intoX q.f y.pots)))) _ (fun A B a b => hJ _ _ _ a b) X m (hA.keepR kX) (hP.keepR kX) (hG.keepR kX) hg (fun X2 ga' gc' hb2 F m2 => ?_) (fun X2 ga' gc' k2 j2 F m2 => ?_)
          · have k2 : KpR W X2 := kX.trans (KpR.of hb2)
            have := ih (i0 + 1) (y.guard (intoX q.f y.pots)) pa cp ga' (ng + 1) gc' ta nt tc pre X2 m2 (by omega) (by omega) (by omega) (hy.guard (by omega) f2) (by show (y.guards ++ [_]).length = ng + 1; rw [List.length_append, hg]; rfl) ht (hS'.keepR k2) (hLI.keepR k2) (hP.keepR k2) F (hT.keepR k2) (Nat.le_trans hn0 k2.size) (hJ _ _ _ (hJ _ _ _ h0 hb) hb2)
            rw [e1] at this
            exact this
          · have k3 : KpR W X2 := kX.trans k2
            have := ih (i0 + 1 + q.skip.toNat) (y.guard (minusX (intoX q.f y.pots))) pa cp ga' (ng + 1) gc' ta nt tc _ X2 m2 (by omega) (by omega) (by omega) (hy.guard (by omega) f3) (by show (y.guards ++ [_]).length = ng + 1; rw [List.length_append, hg]; rfl) ht (hS'.keepR k3) (hLI.keepR k3) (hP.keepR k3) F (hT.keepR k3) (Nat.le_trans hn0 k3.size) j2
            rw [e2, List.append_assoc] at this
            exact this
        · rw [if_neg (by omega), if_pos e]
          obtain ⟨z1, z2⟩ := hp e
          obtain ⟨p, hpq⟩ : ∃ p : Nat, q.pot = p := ⟨q.pot.toNat, by omega⟩
          have hpn : q.pot.toNat = p := by omega
          have hst : stepV q = .iface 170 (.agg #[.int .i64 (p : Int), .slice q.f.a q.f.n q.f.cap, .slice q.f.c q.f.m q.f.cap', .int .i64 q.f.K]) := by simp [stepV, e, hpq]
          rw [hst] at hv0
          rw [hpn]
          refine from_step l SG N sc i0 hlt hi1 ga ng gc pa cp ta nt tc _ _ cur _ W n hC hv0 (fun X m hb => ?_)
          have kX : KpR W X := KpR.of hb
          refine past_add l _ N sc _ i0 y hy (by omega) q.f hsm ga ng gc pa cp ta nt tc _ X m (hA.keepR kX) (hP.keepR kX) (hT.keepR kX) ht p (by omega) (fun X2 pa' cp' hb2 F m2 => ?_)
          have k2 : KpR W X2 := kX.trans (KpR.of hb2)
          have := ih (i0 + 1) (y.add p (intoX q.f y.pots)) pa' cp' ga ng gc ta nt tc pre X2 m2 (by omega) (by omega) (by omega) (hy.add (by omega) (by omega) f1) hg ht (hS'.keepR k2) (hLI.keepR k2) F (hG.keepR k2) (hT.keepR k2) (Nat.le_trans hn0 k2.size) (hJ _ _ _ (hJ _ _ _ h0 hb) hb2)
          rw [e1] at this
          exact this
        · rw [if_neg (by omega), if_neg (by omega), if_pos e]
          have hst : stepV q = .iface 172 (.agg #[.slice q.f.a q.f.n q.f.cap, .slice q.f.c q.f.m q.f.cap', .int .i64 q.f.K]) := by simp [stepV, e]
          rw [hst] at hv0
          refine from_step l SG N sc i0 hlt hi1 ga ng gc pa cp ta nt tc _ _ cur _ W n hC hv0 (fun X m hb => ?_)
          have kX : KpR W X := KpR.of hb
          refine past_print l _ N sc _ i0 y hy (by omega) q.f hsm ga ng gc pa cp ta nt tc _ X m (hA.keepR kX) (hP.keepR kX) (hT.keepR kX) ht (fun X2 ta' tc' hb2 F m2 => ?_)
          have k2 : KpR W X2 := kX.trans (KpR.of hb2)
          have := ih (i0 + 1) (y.tell (intoX q.f y.pots)) pa cp ga ng gc ta' (nt + 1) tc' pre X2 m2 (by omega) (by omega) (by omega) (hy.tell (by omega) f2) hg (by show (y.tells ++ [_]).length = nt + 1; rw [List.length_append, ht]; rfl) (hS'.keepR k2) (hLI.keepR k2) (hP.keepR k2) (hG.keepR k2) F (Nat.le_trans hn0 k2.size) (hJ _ _ _ (hJ _ _ _ h0 hb) hb2)
          rw [e1] at this
          exact this
    · exact atEnd (f + 1) i0 y pa cp ga ng gc ta nt tc pre W n (by omega) hi1 hy hg ht hP hG hT hn0 h0

end Go.Proofs.Ythhfjodggmmcoaa
