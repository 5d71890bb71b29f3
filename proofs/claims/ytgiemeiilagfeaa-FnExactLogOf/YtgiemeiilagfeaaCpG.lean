/-
  Copies as the program makes them: a call. Lengths at most 1048576.
-/
import Derived.Test.YtgiemeiilagfeaaCpE
namespace Go.Proofs.Ytgiemeiilagfeaa
open Go.RowKit Go.Deep
set_option linter.unusedVariables false
set_option maxRecDepth 100000

abbrev qV (x q c : Int) (a : Option Addr) (n cap : Nat) : Value := .agg #[.int .i64 x, .int .i64 q, .int .i64 c, .slice a n cap]

set_option maxHeartbeats 1600000 in
theorem icopCall_any (x q c : Int) (B n cap : Nat) (zs : List Int) (w : World) (h : Blk w B zs) (hl : zs.length = n) (hn : n ≤ 1048576) :
    Calls Try.prog 44 #[qV x q c (some ⟨B, 0, none⟩) n cap] w fun e w' => ∃ a' cap' B', e = .returned (qV x q c a' n cap') ∧ Below w.heap.size w w' ∧ OwnX w' a' B' n zs ∧ (0 < n → w.heap.size ≤ B') := by
  have p0 := (Cel.new w [.int .i64 x, .int .i64 q, .int .i64 c, .slice (some ⟨B, 0, none⟩) n cap] 49).alloc (.cells #[.int .i64 0, .int .i64 0, .int .i64 0, .slice none 0 0] 49)
  have r0 := Cel.new (w.alloc (.cells #[.int .i64 x, .int .i64 q, .int .i64 c, .slice (some ⟨B, 0, none⟩) n cap] 49)) [.int .i64 0, .int .i64 0, .int .i64 0, .slice none 0 0] 49
  rw [World.size_alloc] at r0
  have B0 := ((Below.refl w.heap.size w).alloc (Nat.le_refl _) (.cells #[.int .i64 x, .int .i64 q, .int .i64 c, .slice (some ⟨B, 0, none⟩) n cap] 49)).alloc (by simp) (.cells #[.int .i64 0, .int .i64 0, .int .i64 0, .slice none 0 0] 49)
  have HL : Hid _ := hl
  clear hl
  go_enter Try.func44, Try.ntmps44
  go_upto_region 1 with fail
  obtain ⟨W0, hW0⟩ : ∃ W, W = (w.alloc (.cells #[.int .i64 x, .int .i64 q, .int .i64 c, .slice (some ⟨B, 0, none⟩) n cap] 49)).alloc (.cells #[.int .i64 0, .int .i64 0, .int .i64 0, .slice none 0 0] 49) := ⟨_, rfl⟩
  rw [← hW0] at p0 r0 B0 ⊢
  clear hW0
  have c3 := p0.cell 3
  simp only [List.getElem?_cons_zero, List.getElem?_cons_succ] at c3
  go_wp2_with fail
  refine (cloneN_any _ _ _ zs _ (h.below B0) HL.out hn).mono ?_
  rintro ee w1 ⟨a', cap', B', rfl, b1, o1, g1⟩
  have p1 := p0.below b1
  have r1 := r0.below b1
  have z3 := p1.free 3
  have T : Touch (fun y => y = w.heap.size) w1 (w1.setCell ⟨w.heap.size, 3, none⟩ (.slice a' n cap')) := (Touch.refl (fun y => y = w.heap.size) w1).setCell rfl _
  have p2 := p1.set 3 (.slice a' n cap')
  simp only [List.set_cons_zero, List.set_cons_succ] at p2
  have r2 := r1.touch T (fun h => by have : w.heap.size + 1 = w.heap.size := h; omega)
  have s1 := r1.lt
  have s0 := r0.lt
  have o2 := o1.touch T (fun h0 h => by have h : B' = w.heap.size := h; have := g1 h0; omega)
  have B2 := (B0.trans (b1.mono B0.size)).trans (T.below (by omega) (fun z hz => by have hz : z = w.heap.size := hz; omega))
  have B3 : Below w.heap.size w (w1.setCell ⟨w.heap.size, 3, none⟩ (.slice a' n cap')) := B2
  obtain ⟨W2, hW2⟩ : ∃ W, W = w1.setCell ⟨w.heap.size, 3, none⟩ (.slice a' n cap') := ⟨_, rfl⟩
  have e0 := p1.cell 3
  simp only [List.getElem?_cons_zero, List.getElem?_cons_succ] at e0
  go_upto_region 2 with fail
  rw [← hW2] at p2 r2 o2 B2 B3 ⊢
  have x0 := p2.cell 0
  have x1 := p2.cell 1
  have x2 := p2.cell 2
  have x3 := p2.cell 3
  have f0 := r2.cell 0
  have f1 := r2.cell 1
  have f2 := r2.cell 2
  have f3 := r2.cell 3
  have z0 := r2.free 0
  have z1 := r2.free 1
  have z2 := r2.free 2
  have z3' := r2.free 3
  have s2 := r2.lt
  simp only [List.getElem?_cons_zero, List.getElem?_cons_succ] at x0 x1 x2 x3 f0 f1 f2 f3
  clear hW2 T p1 r1 p0 r0 e0 c3 z3
  go_wp2
  refine bodyPost_ret (v := qV x q c a' n cap') (by simp [results, Try.results44, go_sem, f0, f1, f2, f3]) rfl ⟨a', cap', B', rfl, ?_, ?_, ?_⟩
  · exact (((B2.setCell (by simp only []; omega) _).setCell (by simp only []; omega) _).setCell (by simp only []; omega) _).setCell (by simp only []; omega) _
  · refine (((o2.setOther (fun h0 => ?_) _ _).setOther (fun h0 => ?_) _ _).setOther (fun h0 => ?_) _ _).setOther (fun h0 => ?_) _ _
    all_goals (have := g1 h0; omega)
  · intro h0; have := g1 h0; omega

end Go.Proofs.Ytgiemeiilagfeaa
