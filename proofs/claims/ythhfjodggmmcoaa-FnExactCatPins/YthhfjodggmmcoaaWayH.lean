/-
  The iterator over an act's rows (what rowsThrough hands back), where the act is ok.
-/
import Derived.Test.YthhfjodggmmcoaaWayZ
import Derived.Test.YthhfjodggmmcoaaWayI
namespace Go.Proofs.Ythhfjodggmmcoaa
open Go.RowKit Go.Deep Go.Shelf
set_option linter.unusedVariables false
set_option maxRecDepth 100000
attribute [local go_sem] Oper.semAt_some

theorem LinesG.lin {W : World} {ad : Option Addr} {ls : List LV} (h : LinesG W ad ls) : LinesIn W ls := fun j hj => by
  obtain ⟨b, off, _, _, ha⟩ := h j hj
  exact ha
theorem JS.stp {w W : World} {v : Value} {ls : List LV} (j : JS w v (ls.map stepV) W) : ∃ sa sc, v = .slice sa ls.length sc ∧ (ls.length = 0 ∨ ∃ SG, sa = some ⟨SG, 0, none⟩ ∧ Stp W SG ls.length ls) := by
  rcases j.o.2 with ⟨e, h0⟩ | ⟨g, cap, cur, hv, hg, hh, hl, hc, hs, ht⟩
  · rw [List.length_map] at h0
    exact ⟨none, 0, by rw [h0]; exact e, Or.inl h0⟩
  · rw [List.length_map] at hv ht
    refine ⟨_, cap, hv, Or.inr ⟨g, rfl, cur.toList, hh, fun i hi => ?_⟩⟩
    rw [Nat.mul_one] at ht
    have : (cur.toList.take ls.length)[i]? = cur.toList[i]? := List.getElem?_take_of_lt hi
    rw [← this, ht, List.getElem?_map, List.getElem?_eq_getElem hi]
    rfl

theorem rs_func {P : Program} {w : World} {a : Addr} {m : Mode} (fn : Fn) (first captured : Array Value) : (store a (.func fn first captured) m).run P w = stored P w a (.func fn first captured) m := run_store P w a _ m rfl
attribute [local go_sem] rs_func

set_option maxHeartbeats 3200000 in
theorem through_any (l n₀ : Nat) (J : List RowM → World → Prop) (hJ : ∀ pre X Y, J pre X → Below X.heap.size X Y → J pre Y) (hY : Rounds l n₀ J) (aB : Nat) (ad : Option Addr) (N cap : Nat) (ls : List LV) (W : World) (n : Nat) (hN : ls.length = N) (hF : LinesG W ad ls) (hN1 : N ≤ 1048576) (hok : actB N ls = true) (hc : W.cell? ⟨aB, 0, none⟩ = some (.slice ad N cap)) (hn0 : n₀ ≤ W.heap.size) (h0 : J [] W) :
    CallsIn Fence.wide n Try.prog 105 #[.func (.yield l) #[] #[], .pointer (some ⟨aB, 0, none⟩)] W fun e Y => (∃ v, e = .returned v) ∧ J (rowsL ls) Y ∧ KpR W Y := by
  have hdd : ∀ k : Nat, (Fence.wide.depth.isSome = true → 1 ≤ k) := fun k h => by simp [Fence.wide] at h
  refine callsIn_of_wp Try.func105 rfl trivial ?_ rfl
  simp only [Try.ntmps105, List.size_toArray, List.length_cons, List.length_nil, Nat.reduceAdd, Nat.reduceSub, Array.replicate_succ, Array.replicate_zero, List.push_toArray, List.append_toArray, List.nil_append, List.cons_append]
  gi_wp2_with fail
  refine ⟨trivial, hdd _, (callsIn_wide.2 (isteps_any ad N cap ls _ hN hF hN1)).mono ?_⟩
  rintro e w1 ⟨sv, rfl, b1, js⟩
  rw [hok]
  have js := js hok
  obtain ⟨sa, sc, rfl, hst⟩ := js.stp
  rw [hN] at hst ⊢
  gi_wp2_with fail
  have bA : Below w1.heap.size w1 (w1.alloc (.cells #[.slice sa N sc, .func (.yield l) #[] #[]] 148)) := (Below.refl _ _).alloc (Nat.le_refl _) _
  have x0 := Cel.new w1 [.slice sa N sc, .func (.yield l) #[] #[]] 148
  obtain ⟨W0, hW0⟩ : ∃ W0, W0 = w1.alloc (.cells #[.slice sa N sc, .func (.yield l) #[] #[]] 148) := ⟨_, rfl⟩
  rw [← hW0] at bA x0 ⊢
  clear hW0
  have A : Below W.heap.size W W0 := b1.trans (bA.mono b1.size)
  have e0 : Below W0.heap.size W0 W0.drew := (Below.refl _ _).drew
  have KP : Hid (∀ X, KpR W0 X → (X.cell? ⟨w1.heap.size, 0, none⟩ = some (.slice sa N sc) ∧ X.cell? ⟨w1.heap.size, 1, none⟩ = some (.func (.yield l) #[] #[]))) := fun X hX => by
    have a1 := x0.keepR hX (by decide) (by decide)
    exact ⟨a1.cell 0, a1.cell 1⟩
  have hSS := KP.out _ (KpR.of e0)
  refine wpIn_region_S (fun w' => w'.cell? ⟨w1.heap.size, 0, none⟩ = some (.slice sa N sc) ∧ w'.cell? ⟨w1.heap.size, 1, none⟩ = some (.func (.yield l) #[] #[])) (by kernel_rfl) ?_
  refine wpAnyS_take (i := 0) (v := ?v0) rfl rfl (by kernel_rfl) (by kernel_rfl) (by kernel_rfl) (fun _ _ _ h => h) (Or.inl ⟨by rfl, ?y0⟩) (fun _ => rfl) hSS ?_
  case y0 => (intro wz hSw; (try dsimp only at hSw); go_simp; try (with_reducible rfl))
  clear hSS
  refine wpAnyS_one (i := 1) (by kernel_rfl) rfl (fun K hK => ?_)
  go_simp
  refine ⟨trivial, fun h => by simp [Fence.wide] at h, (callsIn_wide.2 (ipots_any _)).mono ?_⟩
  rintro e w2 ⟨v, xs, rfl, jv⟩
  obtain ⟨pa, cp, rfl, hP⟩ := jv.slice rfl
  have b2 : Below W0.heap.size W0 w2 := below_of_drew jv.b
  have hS2 := KP.out _ (KpR.of b2)
  have B2 : Below W.heap.size W w2 := A.trans (b2.mono A.size)
  have J2 := hJ _ _ _ h0 B2
  (try dsimp only)
  refine hK.out _ _ hS2 ?_
  clear hK K
  refine wpAnyS_take (i := 2) (v := ?v2) rfl rfl (by kernel_rfl) (by kernel_rfl) (by kernel_rfl) (fun _ _ _ h => h) (Or.inl ⟨by rfl, ?y2⟩) (fun _ => rfl) hS2 ?_
  case y2 => (intro wz hSw; (try dsimp only at hSw); go_simp; try (with_reducible rfl))
  have sB := B2.size
  have HC : Hid (CallsIn Fence.wide (n - 1) Try.prog 107 #[walkV l sa N sc, .int .i64 0, wayV none 0 0 pa cp none 0 0 false] w2 fun e Y => e = .returned (.bool true) ∧ J (rowsL ls) Y ∧ KpR w2 Y) := by
    obtain ⟨h6, hall⟩ := actB_parts hok
    have hy := WayOk.start
    have hG : ∀ X, FormsAt X none way0.guards := fun X i hi => by simp [way0] at hi
    have hT : ∀ X, FormsAt X none way0.tells := fun X i hi => by simp [way0] at hi
    rcases hst with hz | ⟨SG, rfl, hst⟩
    · have := from_end l n₀ J hJ hY sa N sc 0 (by omega) (by omega) way0 pa cp none 0 0 none 0 0 false (endW way0) [] w2 (n - 1) (by omega) J2 (endW_fit hy (by omega)) (fun X hb => irow_end way0 none 0 0 pa cp none 0 0 X hy.pl rfl rfl (hP.keep hb) (hG X) (hT X) (fun k hk => (hy.pf k hk).mono (by have := wb_six (n := min 0 6) (by omega); omega)) (fun k hk => hy.gf k (by omega)) (fun k hk => hy.tf k (by omega)) (by omega) (by omega))
      rw [rowsL, goW_end (by omega)]
      exact this
    · have k2 : KpR w1 w2 := (KpR.of bA).trans (KpR.of b2)
      exact from_any l n₀ J hJ hY SG N sc ls hN h6 hall 7 0 way0 pa cp none 0 0 none 0 0 [] w2 (n - 1) (by omega) (by omega) (by omega) hy rfl rfl (hst.keepR k2) (hF.lin.keepR (KpR.of B2)) hP (hG _) (hT _) (by omega) J2
  refine wpAnyS_one (i := 3) (by kernel_rfl) rfl (fun K hK => ?_)
  go_simp
  refine ⟨trivial, fun h => by simp [Fence.wide] at h, HC.out.mono ?_⟩
  rintro e w3 ⟨rfl, J3, k3⟩
  have hS3 := KP.out _ ((KpR.of b2).trans k3)
  (try dsimp only)
  refine hK.out _ _ hS3 ?_
  clear hK K
  refine wpAnyS_done (by kernel_rfl) ?_ _
  have KK := (KpR.of B2).trans k3
  clear KP HC
  gi_wp2
  go_end0
  exact ⟨⟨_, rfl⟩, J3, KK⟩

end Go.Proofs.Ythhfjodggmmcoaa
