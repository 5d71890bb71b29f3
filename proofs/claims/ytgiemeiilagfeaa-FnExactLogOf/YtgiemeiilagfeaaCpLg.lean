/-
  A call that was done, copied as the program does. Lengths at most 1048576.
-/
import Derived.Test.YtgiemeiilagfeaaJLg
import Derived.Test.YtgiemeiilagfeaaSpR
namespace Go.Proofs.Ytgiemeiilagfeaa
open Go.RowKit Go.Deep
set_option linter.unusedVariables false
set_option maxRecDepth 100000

set_option maxHeartbeats 3200000 in
theorem icopLg_any (x q c : Int) (B n cap : Nat) (zs : List Int) (e : Int) (D m cap' : Nat) (ys : List Int) (w : World) (h : Blk w B zs) (hl : zs.length = n) (hn : n ≤ 1048576) (h' : Blk w D ys) (hl' : ys.length = m) (hm : m ≤ 1048576) :
    Calls Try.prog 25 #[lgV x q c (some ⟨B, 0, none⟩) n cap e (some ⟨D, 0, none⟩) m cap'] w fun ee w' => ∃ a1 c1 A1 a2 c2 A2, ee = .returned (lgV x q c a1 n c1 e a2 m c2) ∧ Below w.heap.size w w' ∧ OwnX w' a1 A1 n zs ∧ (0 < n → w.heap.size ≤ A1) ∧ OwnX w' a2 A2 m ys ∧ (0 < m → w.heap.size ≤ A2) ∧ (0 < n → 0 < m → A1 ≠ A2) := by
  have p0 := (Cel.new w [.int .i64 x, .int .i64 q, .int .i64 c, .slice (some ⟨B, 0, none⟩) n cap, .int .i64 e, .slice (some ⟨D, 0, none⟩) m cap'] 52).alloc (.cells #[.int .i64 0, .int .i64 0, .int .i64 0, .slice none 0 0, .int .i64 0, .slice none 0 0] 52)
  have r0 := Cel.new (w.alloc (.cells #[.int .i64 x, .int .i64 q, .int .i64 c, .slice (some ⟨B, 0, none⟩) n cap, .int .i64 e, .slice (some ⟨D, 0, none⟩) m cap'] 52)) [.int .i64 0, .int .i64 0, .int .i64 0, .slice none 0 0, .int .i64 0, .slice none 0 0] 52
  rw [World.size_alloc] at r0
  have B0 := ((Below.refl w.heap.size w).alloc (Nat.le_refl _) (.cells #[.int .i64 x, .int .i64 q, .int .i64 c, .slice (some ⟨B, 0, none⟩) n cap, .int .i64 e, .slice (some ⟨D, 0, none⟩) m cap'] 52)).alloc (by simp) (.cells #[.int .i64 0, .int .i64 0, .int .i64 0, .slice none 0 0, .int .i64 0, .slice none 0 0] 52)
  have HZ : Hid (zs.length = n) := hl
  have HY : Hid (ys.length = m) := hl'
  clear hl hl'
  go_enter Try.func25, Try.ntmps25
  go_upto_region 1 with fail
  obtain ⟨W0, hW0⟩ : ∃ W, W = (w.alloc (.cells #[.int .i64 x, .int .i64 q, .int .i64 c, .slice (some ⟨B, 0, none⟩) n cap, .int .i64 e, .slice (some ⟨D, 0, none⟩) m cap'] 52)).alloc (.cells #[.int .i64 0, .int .i64 0, .int .i64 0, .slice none 0 0, .int .i64 0, .slice none 0 0] 52) := ⟨_, rfl⟩
  rw [← hW0] at p0 r0 B0 ⊢
  clear hW0
  have s0 := r0.lt
  have KP : Hid (∀ W, Below W0.heap.size W0 W → W.cell? ⟨w.heap.size, 0, none⟩ = some (.int .i64 x) ∧ W.cell? ⟨w.heap.size, 1, none⟩ = some (.int .i64 q) ∧ W.cell? ⟨w.heap.size, 2, none⟩ = some (.int .i64 c) ∧ W.cell? ⟨w.heap.size, 3, none⟩ = some (.slice (some ⟨B, 0, none⟩) n cap) ∧ W.cell? ⟨w.heap.size, 4, none⟩ = some (.int .i64 e) ∧ W.cell? ⟨w.heap.size, 5, none⟩ = some (.slice (some ⟨D, 0, none⟩) m cap')) := fun W hW => (p0.below hW).sixL
  have d0 : Below W0.heap.size W0 W0.drew := (Below.refl _ _).drew
  have hSS : (W0.drew.cell? ⟨w.heap.size, 0, none⟩ = some (.int .i64 x) ∧ W0.drew.cell? ⟨w.heap.size, 1, none⟩ = some (.int .i64 q) ∧ W0.drew.cell? ⟨w.heap.size, 2, none⟩ = some (.int .i64 c) ∧ W0.drew.cell? ⟨w.heap.size, 3, none⟩ = some (.slice (some ⟨B, 0, none⟩) n cap) ∧ W0.drew.cell? ⟨w.heap.size, 4, none⟩ = some (.int .i64 e) ∧ W0.drew.cell? ⟨w.heap.size, 5, none⟩ = some (.slice (some ⟨D, 0, none⟩) m cap')) ∧ True := ⟨KP.out _ d0, trivial⟩
  refine wp_region_ends (fun w' => w'.cell? ⟨w.heap.size, 0, none⟩ = some (.int .i64 x) ∧ w'.cell? ⟨w.heap.size, 1, none⟩ = some (.int .i64 q) ∧ w'.cell? ⟨w.heap.size, 2, none⟩ = some (.int .i64 c) ∧ w'.cell? ⟨w.heap.size, 3, none⟩ = some (.slice (some ⟨B, 0, none⟩) n cap) ∧ w'.cell? ⟨w.heap.size, 4, none⟩ = some (.int .i64 e) ∧ w'.cell? ⟨w.heap.size, 5, none⟩ = some (.slice (some ⟨D, 0, none⟩) m cap')) (fun _ => True) 7 (by kernel_rfl) ?_
  obtain ⟨V0, hV0⟩ : ∃ V, V = W0.drew := ⟨_, rfl⟩
  rw [← hV0] at hSS d0 ⊢
  have f0 : V0.heap.size ≤ W0.heap.size ∧ W0.heap.size ≤ V0.heap.size := by rw [hV0]; exact ⟨Nat.le_refl _, Nat.le_refl _⟩
  clear hV0
  refine tkL (i := 0) rfl hSS ?_
  refine tkL (i := 1) rfl hSS ?_
  refine tkL (i := 3) rfl hSS ?_
  refine tkL (i := 4) rfl hSS ?_
  clear hSS
  (try simp only [Act.put, List.setIfInBounds_toArray, List.set_cons_succ, List.set_cons_zero, List.getElem_toArray, List.getElem_cons_succ, List.getElem_cons_zero])
  refine wpAnyE_one (i := 2) (by kernel_rfl) rfl (fun K hK => ?_)
  go_simp
  refine (icopCall_any _ _ _ _ _ _ zs _ ((h.below B0).below d0) HZ.out hn).mono ?_
  rintro ee w1 ⟨a1, c1, A1, rfl, b1, o1, g1⟩
  have d1 := d0.trans (b1.mono d0.size)
  (try dsimp only)
  refine hK.out _ _ ⟨KP.out _ d1, fun _ => trivial⟩ ?_
  clear hK K
  refine wpAnyE_one (i := 5) (by kernel_rfl) rfl (fun K hK => ?_)
  go_simp
  refine (icopRes_any _ _ _ _ ys _ ((h'.below B0).below d1) HY.out hm).mono ?_
  rintro ee w2 ⟨a2, c2, A2, rfl, b2, o2, g2⟩
  have d2 := d1.trans (b2.mono d1.size)
  have o1' := o1.below b2
  have sA : 0 < n → A1 < w1.heap.size := fun h0 => o1.lt h0
  have f1 := b1.size
  have f2 := b2.size
  have f3 := d2.size
  have r2 := r0.below d2
  (try dsimp only)
  refine hK.out _ _ ⟨KP.out _ d2, fun _ => trivial⟩ ?_
  clear hK K
  refine wpAnyE_one (i := 6) (by kernel_rfl) rfl (fun K hK => ?_)
  go_simp
  refine hK.out _ _ ⟨KP.out _ d2, fun _ => trivial⟩ ?_
  clear hK K
  obtain ⟨y0, y1, y2, y3, y4, y5⟩ := r2.sixL
  have z0 := r2.free 0
  have z1 := r2.free 1
  have z2 := r2.free 2
  have z3 := r2.free 3
  have z4 := r2.free 4
  have z5 := r2.free 5
  have s2 := r2.lt
  have B2 := B0.trans (d2.mono B0.size)
  have BB : Below w.heap.size w ((((((w2.setCell ⟨w.heap.size + 1, 0, none⟩ (.int .i64 x)).setCell ⟨w.heap.size + 1, 1, none⟩ (.int .i64 q)).setCell ⟨w.heap.size + 1, 2, none⟩ (.int .i64 c)).setCell ⟨w.heap.size + 1, 3, none⟩ (.slice a1 n c1)).setCell ⟨w.heap.size + 1, 4, none⟩ (.int .i64 e)).setCell ⟨w.heap.size + 1, 5, none⟩ (.slice a2 m c2)) := ((((((B2).setCell (by simp only []; omega) _).setCell (by simp only []; omega) _).setCell (by simp only []; omega) _).setCell (by simp only []; omega) _).setCell (by simp only []; omega) _).setCell (by simp only []; omega) _
  have OA : OwnX ((((((w2.setCell ⟨w.heap.size + 1, 0, none⟩ (.int .i64 x)).setCell ⟨w.heap.size + 1, 1, none⟩ (.int .i64 q)).setCell ⟨w.heap.size + 1, 2, none⟩ (.int .i64 c)).setCell ⟨w.heap.size + 1, 3, none⟩ (.slice a1 n c1)).setCell ⟨w.heap.size + 1, 4, none⟩ (.int .i64 e)).setCell ⟨w.heap.size + 1, 5, none⟩ (.slice a2 m c2)) a1 A1 n zs := ((((((o1').setOther (fun h0 => by have := g1 h0; omega) _ _).setOther (fun h0 => by have := g1 h0; omega) _ _).setOther (fun h0 => by have := g1 h0; omega) _ _).setOther (fun h0 => by have := g1 h0; omega) _ _).setOther (fun h0 => by have := g1 h0; omega) _ _).setOther (fun h0 => by have := g1 h0; omega) _ _
  have OB : OwnX ((((((w2.setCell ⟨w.heap.size + 1, 0, none⟩ (.int .i64 x)).setCell ⟨w.heap.size + 1, 1, none⟩ (.int .i64 q)).setCell ⟨w.heap.size + 1, 2, none⟩ (.int .i64 c)).setCell ⟨w.heap.size + 1, 3, none⟩ (.slice a1 n c1)).setCell ⟨w.heap.size + 1, 4, none⟩ (.int .i64 e)).setCell ⟨w.heap.size + 1, 5, none⟩ (.slice a2 m c2)) a2 A2 m ys := ((((((o2).setOther (fun h0 => by have := g2 h0; omega) _ _).setOther (fun h0 => by have := g2 h0; omega) _ _).setOther (fun h0 => by have := g2 h0; omega) _ _).setOther (fun h0 => by have := g2 h0; omega) _ _).setOther (fun h0 => by have := g2 h0; omega) _ _).setOther (fun h0 => by have := g2 h0; omega) _ _
  have PS : Cel ((((((w2.setCell ⟨w.heap.size + 1, 0, none⟩ (.int .i64 x)).setCell ⟨w.heap.size + 1, 1, none⟩ (.int .i64 q)).setCell ⟨w.heap.size + 1, 2, none⟩ (.int .i64 c)).setCell ⟨w.heap.size + 1, 3, none⟩ (.slice a1 n c1)).setCell ⟨w.heap.size + 1, 4, none⟩ (.int .i64 e)).setCell ⟨w.heap.size + 1, 5, none⟩ (.slice a2 m c2)) w.heap.size [.int .i64 x, .int .i64 q, .int .i64 c, .slice (some ⟨B, 0, none⟩) n cap, .int .i64 e, .slice (some ⟨D, 0, none⟩) m cap'] 52 := (((((((p0.below d2)).setOther (by omega) _ _).setOther (by omega) _ _).setOther (by omega) _ _).setOther (by omega) _ _).setOther (by omega) _ _).setOther (by omega) _ _
  have rS := (((((r2.set 0 (.int .i64 x)).set 1 (.int .i64 q)).set 2 (.int .i64 c)).set 3 (.slice a1 n c1)).set 4 (.int .i64 e)).set 5 (.slice a2 m c2)
  simp only [List.set_cons_zero, List.set_cons_succ] at rS
  refine wpAnyE_one (i := 7) (by kernel_rfl) rfl (fun K hK => ?_)
  go_simp
  obtain ⟨WZ, hWZ⟩ : ∃ W, W = ((((((w2.setCell ⟨w.heap.size + 1, 0, none⟩ (.int .i64 x)).setCell ⟨w.heap.size + 1, 1, none⟩ (.int .i64 q)).setCell ⟨w.heap.size + 1, 2, none⟩ (.int .i64 c)).setCell ⟨w.heap.size + 1, 3, none⟩ (.slice a1 n c1)).setCell ⟨w.heap.size + 1, 4, none⟩ (.int .i64 e)).setCell ⟨w.heap.size + 1, 5, none⟩ (.slice a2 m c2)) := ⟨_, rfl⟩
  rw [← hWZ] at rS PS OA OB BB ⊢
  refine hK.out _ _ ⟨PS.sixL, fun _ => trivial⟩ ?_
  clear hK K
  refine wpAnyE_done (by kernel_rfl) ?_ _
  clear y0 y1 y2 y3 y4 y5 z0 z1 z2 z3 z4 z5 hWZ
  obtain ⟨y0, y1, y2, y3, y4, y5⟩ := rS.sixL
  go_wp2
  refine bodyPost_ret (v := lgV x q c a1 n c1 e a2 m c2) (by simp [results, Try.results25, go_sem, y0, y1, y2, y3, y4, y5]) rfl ⟨a1, c1, A1, a2, c2, A2, rfl, BB, OA, fun h0 => ?_, OB, fun h0 => ?_, fun h0 h1 => ?_⟩
  · have := g1 h0; omega
  · have := g2 h0; omega
  · have := sA h0; have := g2 h1; omega

end Go.Proofs.Ytgiemeiilagfeaa
