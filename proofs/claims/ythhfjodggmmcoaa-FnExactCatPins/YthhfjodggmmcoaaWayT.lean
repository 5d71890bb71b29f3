/-
  A way that is guarded by a form more, or tells one more, as the program makes it. At most 100 forms.
-/
import Derived.Test.YthhfjodggmmcoaaWayK
namespace Go.Proofs.Ythhfjodggmmcoaa
open Go.RowKit Go.Deep
set_option linter.unusedVariables false
set_option maxRecDepth 100000

/-- A block that holds no number holds no form. -/
theorem FormsAt.past2 {W W' : World} {X : Nat} {a : Option Addr} {fs : List Frm} (h : FormsAt W a fs) (hx : ∀ o q, W.cell? ⟨X, o, none⟩ ≠ some (.int .i64 q)) (t : Touch (fun z => z = X) W W') : FormsAt W' a fs := fun i hi => by
  obtain ⟨b, off, e, a', c', ca, cc, c0, c1, c2, iC, iD⟩ := h i hi
  have hne : b ≠ X := fun e2 => by subst e2; exact hx _ _ c2
  have hb := block_lt c0
  refine ⟨b, off, e, a', c', ca, cc, ?_, ?_, ?_, iC.past hx t, iD.past hx t⟩
  · simp only [World.cell?] at c0 ⊢; rw [t.block b hb hne]; exact c0
  · simp only [World.cell?] at c1 ⊢; rw [t.block b hb hne]; exact c1
  · simp only [World.cell?] at c2 ⊢; rw [t.block b hb hne]; exact c2

set_option maxHeartbeats 3200000 in
theorem iguard_any (X : Frm) (fs : List Frm) (ga : Option Addr) (ng gc : Nat) (pa : Option Addr) (cp : Nat) (ta : Option Addr) (nt tc : Nat) (st : Bool) (fa : Option Addr) (fc : Nat) (fd : Option Addr) (fe : Nat) (w : World) (hl : fs.length = ng) (hn : ng ≤ 100) (hG : FormsAt w ga fs) (hX1 : Ints w fa 3 X.1) (hX2 : Ints w fd 2 X.2.1) :
    Calls Try.prog 131 #[wayV ga ng gc pa cp ta nt tc st, formV fa 3 fc fd 2 fe X.2.2] w fun e w' => ∃ G cG, e = .returned (wayV (some ⟨G, 0, none⟩) (ng + 1) cG pa cp ta nt tc st) ∧ Below w.heap.size w w' ∧ FormsAt w' (some ⟨G, 0, none⟩) (fs ++ [X]) := by
  have HL : Hid (fs.length = ng) := hl
  clear hl
  have B3 : Below w.heap.size w (((w.alloc (.cells #[.slice ga ng gc, .slice pa 3 cp, .slice ta nt tc, .bool st] 151)).alloc (.cells #[.slice fa 3 fc, .slice fd 2 fe, .int .i64 X.2.2] 86)).alloc (.cells #[.slice none 0 0, .slice none 0 0, .slice none 0 0, .bool false] 151)) := (((Below.refl _ _).alloc (Nat.le_refl _) _).alloc (by simp) _).alloc (by simp; omega) _
  have B5 : Below w.heap.size w (((((w.alloc (.cells #[.slice ga ng gc, .slice pa 3 cp, .slice ta nt tc, .bool st] 151)).alloc (.cells #[.slice fa 3 fc, .slice fd 2 fe, .int .i64 X.2.2] 86)).alloc (.cells #[.slice none 0 0, .slice none 0 0, .slice none 0 0, .bool false] 151)).alloc (.cells #[.slice fa 3 fc, .slice fd 2 fe, .int .i64 X.2.2] 86)).alloc (.cells #[.slice ga ng gc, .slice (some ⟨w.heap.size + 1 + 1 + 1, 0, none⟩) 1 1] 88)) := (B3.alloc B3.size _).alloc (B3.alloc B3.size _).size _
  have q0 := ((((Cel.new w [.slice ga ng gc, .slice pa 3 cp, .slice ta nt tc, .bool st] 151).alloc (.cells #[.slice fa 3 fc, .slice fd 2 fe, .int .i64 X.2.2] 86)).alloc (.cells #[.slice none 0 0, .slice none 0 0, .slice none 0 0, .bool false] 151)).alloc (.cells #[.slice fa 3 fc, .slice fd 2 fe, .int .i64 X.2.2] 86)).alloc (.cells #[.slice ga ng gc, .slice (some ⟨w.heap.size + 1 + 1 + 1, 0, none⟩) 1 1] 88)
  have r0 := ((Cel.new (((w.alloc (.cells #[.slice ga ng gc, .slice pa 3 cp, .slice ta nt tc, .bool st] 151)).alloc (.cells #[.slice fa 3 fc, .slice fd 2 fe, .int .i64 X.2.2] 86))) [.slice none 0 0, .slice none 0 0, .slice none 0 0, .bool false] 151).alloc (.cells #[.slice fa 3 fc, .slice fd 2 fe, .int .i64 X.2.2] 86)).alloc (.cells #[.slice ga ng gc, .slice (some ⟨w.heap.size + 1 + 1 + 1, 0, none⟩) 1 1] 88)
  have f0 := (Cel.new ((((w.alloc (.cells #[.slice ga ng gc, .slice pa 3 cp, .slice ta nt tc, .bool st] 151)).alloc (.cells #[.slice fa 3 fc, .slice fd 2 fe, .int .i64 X.2.2] 86)).alloc (.cells #[.slice none 0 0, .slice none 0 0, .slice none 0 0, .bool false] 151))) [.slice fa 3 fc, .slice fd 2 fe, .int .i64 X.2.2] 86).alloc (.cells #[.slice ga ng gc, .slice (some ⟨w.heap.size + 1 + 1 + 1, 0, none⟩) 1 1] 88)
  have s0 := Cel.new (((((w.alloc (.cells #[.slice ga ng gc, .slice pa 3 cp, .slice ta nt tc, .bool st] 151)).alloc (.cells #[.slice fa 3 fc, .slice fd 2 fe, .int .i64 X.2.2] 86)).alloc (.cells #[.slice none 0 0, .slice none 0 0, .slice none 0 0, .bool false] 151)).alloc (.cells #[.slice fa 3 fc, .slice fd 2 fe, .int .i64 X.2.2] 86))) [.slice ga ng gc, .slice (some ⟨w.heap.size + 1 + 1 + 1, 0, none⟩) 1 1] 88
  simp only [World.size_alloc] at r0 f0 s0
  have hF : FormsAt ((((((w.alloc (.cells #[.slice ga ng gc, .slice pa 3 cp, .slice ta nt tc, .bool st] 151)).alloc (.cells #[.slice fa 3 fc, .slice fd 2 fe, .int .i64 X.2.2] 86)).alloc (.cells #[.slice none 0 0, .slice none 0 0, .slice none 0 0, .bool false] 151)).alloc (.cells #[.slice fa 3 fc, .slice fd 2 fe, .int .i64 X.2.2] 86)).alloc (.cells #[.slice ga ng gc, .slice (some ⟨w.heap.size + 1 + 1 + 1, 0, none⟩) 1 1] 88))) (some ⟨w.heap.size + 1 + 1 + 1, 0, none⟩) [X] := fun i hi => by
    simp only [List.length_cons, List.length_nil] at hi
    obtain rfl : i = 0 := by omega
    exact ⟨_, 0, rfl, fa, fd, fc, fe, f0.cell 0, f0.cell 1, f0.cell 2, hX1.below B5, hX2.below B5⟩
  have hG5 := hG.keep B5
  go_enter Try.func131, Try.ntmps131
  go_wp2_with fail
  refine (iconcat_any _ _ _ _ fs _ _ X _ s0 HL.out hn hG5 hF).mono ?_
  rintro e w1 ⟨G, cG, rfl, b1, F1⟩
  have B1 := B5.trans (b1.mono B5.size)
  have q1 := q0.below b1
  have r1 := r0.below b1
  have lq := q1.lt
  have lr := r1.lt
  clear q0 r0 f0 s0 hF hG5 b1
  obtain ⟨c0, c1, c2, c3⟩ := q1.four
  have y0 := q1.free 0
  have T1 : Touch (fun k => k = w.heap.size) w1 (w1.setCell ⟨w.heap.size, 0, none⟩ (.slice (some ⟨G, 0, none⟩) (ng + 1) cG)) := Touch.setCell (S := fun k => k = w.heap.size) (Touch.refl _ _) rfl _
  have q2 := q1.set 0 (.slice (some ⟨G, 0, none⟩) (ng + 1) cG)
  simp only [List.set_cons_zero] at q2
  have r2 := r1.touch T1 (fun h => by have := h; omega)
  have F2 := F1.past2 (boxNo q1) T1
  have B2 := B1.trans (T1.below B1.size (fun k hk => by omega))
  go_upto_region 2 with fail
  clear q1 r1 F1 T1 B1 c0 c1 c2 c3 y0
  generalize (w1.setCell ⟨w.heap.size, 0, none⟩ (.slice (some ⟨G, 0, none⟩) (ng + 1) cG)) = w2 at *
  obtain ⟨c0, c1, c2, c3⟩ := q2.four
  obtain ⟨l0, l1, l2, l3⟩ := r2.four
  have fy0 := r2.free 0
  have fy1 := r2.free 1
  have fy2 := r2.free 2
  have fy3 := r2.free 3
  obtain ⟨x', T'⟩ := put4 r2 rfl (.slice (some ⟨G, 0, none⟩) (ng + 1) cG) (.slice pa 3 cp) (.slice ta nt tc) (.bool st)
  have F3 := F2.past2 (boxNo r2) T'
  have BB := B2.trans (T'.below B2.size (fun k hk => by omega))
  obtain ⟨e0, e1, e2, e3⟩ := x'.four
  have lr2 := r2.lt
  clear F2 r2 T' x' q2
  go_wp2
  refine bodyPost_ret (v := wayV (some ⟨G, 0, none⟩) (ng + 1) cG pa cp ta nt tc st) (by simp [results, Try.results131, go_sem, e0, e1, e2, e3]) rfl ?_
  exact ⟨G, cG, rfl, BB, F3⟩

set_option maxHeartbeats 3200000 in
theorem itell_any (X : Frm) (fs : List Frm) (ga : Option Addr) (ng gc : Nat) (pa : Option Addr) (cp : Nat) (ta : Option Addr) (nt tc : Nat) (st : Bool) (fa : Option Addr) (fc : Nat) (fd : Option Addr) (fe : Nat) (w : World) (hl : fs.length = nt) (hn : nt ≤ 100) (hG : FormsAt w ta fs) (hX1 : Ints w fa 3 X.1) (hX2 : Ints w fd 2 X.2.1) :
    Calls Try.prog 134 #[wayV ga ng gc pa cp ta nt tc st, formV fa 3 fc fd 2 fe X.2.2] w fun e w' => ∃ G cG, e = .returned (wayV ga ng gc pa cp (some ⟨G, 0, none⟩) (nt + 1) cG st) ∧ Below w.heap.size w w' ∧ FormsAt w' (some ⟨G, 0, none⟩) (fs ++ [X]) := by
  have HL : Hid (fs.length = nt) := hl
  clear hl
  have B3 : Below w.heap.size w (((w.alloc (.cells #[.slice ga ng gc, .slice pa 3 cp, .slice ta nt tc, .bool st] 151)).alloc (.cells #[.slice fa 3 fc, .slice fd 2 fe, .int .i64 X.2.2] 86)).alloc (.cells #[.slice none 0 0, .slice none 0 0, .slice none 0 0, .bool false] 151)) := (((Below.refl _ _).alloc (Nat.le_refl _) _).alloc (by simp) _).alloc (by simp; omega) _
  have B5 : Below w.heap.size w (((((w.alloc (.cells #[.slice ga ng gc, .slice pa 3 cp, .slice ta nt tc, .bool st] 151)).alloc (.cells #[.slice fa 3 fc, .slice fd 2 fe, .int .i64 X.2.2] 86)).alloc (.cells #[.slice none 0 0, .slice none 0 0, .slice none 0 0, .bool false] 151)).alloc (.cells #[.slice fa 3 fc, .slice fd 2 fe, .int .i64 X.2.2] 86)).alloc (.cells #[.slice ta nt tc, .slice (some ⟨w.heap.size + 1 + 1 + 1, 0, none⟩) 1 1] 88)) := (B3.alloc B3.size _).alloc (B3.alloc B3.size _).size _
  have q0 := ((((Cel.new w [.slice ga ng gc, .slice pa 3 cp, .slice ta nt tc, .bool st] 151).alloc (.cells #[.slice fa 3 fc, .slice fd 2 fe, .int .i64 X.2.2] 86)).alloc (.cells #[.slice none 0 0, .slice none 0 0, .slice none 0 0, .bool false] 151)).alloc (.cells #[.slice fa 3 fc, .slice fd 2 fe, .int .i64 X.2.2] 86)).alloc (.cells #[.slice ta nt tc, .slice (some ⟨w.heap.size + 1 + 1 + 1, 0, none⟩) 1 1] 88)
  have r0 := ((Cel.new (((w.alloc (.cells #[.slice ga ng gc, .slice pa 3 cp, .slice ta nt tc, .bool st] 151)).alloc (.cells #[.slice fa 3 fc, .slice fd 2 fe, .int .i64 X.2.2] 86))) [.slice none 0 0, .slice none 0 0, .slice none 0 0, .bool false] 151).alloc (.cells #[.slice fa 3 fc, .slice fd 2 fe, .int .i64 X.2.2] 86)).alloc (.cells #[.slice ta nt tc, .slice (some ⟨w.heap.size + 1 + 1 + 1, 0, none⟩) 1 1] 88)
  have f0 := (Cel.new ((((w.alloc (.cells #[.slice ga ng gc, .slice pa 3 cp, .slice ta nt tc, .bool st] 151)).alloc (.cells #[.slice fa 3 fc, .slice fd 2 fe, .int .i64 X.2.2] 86)).alloc (.cells #[.slice none 0 0, .slice none 0 0, .slice none 0 0, .bool false] 151))) [.slice fa 3 fc, .slice fd 2 fe, .int .i64 X.2.2] 86).alloc (.cells #[.slice ta nt tc, .slice (some ⟨w.heap.size + 1 + 1 + 1, 0, none⟩) 1 1] 88)
  have s0 := Cel.new (((((w.alloc (.cells #[.slice ga ng gc, .slice pa 3 cp, .slice ta nt tc, .bool st] 151)).alloc (.cells #[.slice fa 3 fc, .slice fd 2 fe, .int .i64 X.2.2] 86)).alloc (.cells #[.slice none 0 0, .slice none 0 0, .slice none 0 0, .bool false] 151)).alloc (.cells #[.slice fa 3 fc, .slice fd 2 fe, .int .i64 X.2.2] 86))) [.slice ta nt tc, .slice (some ⟨w.heap.size + 1 + 1 + 1, 0, none⟩) 1 1] 88
  simp only [World.size_alloc] at r0 f0 s0
  have hF : FormsAt ((((((w.alloc (.cells #[.slice ga ng gc, .slice pa 3 cp, .slice ta nt tc, .bool st] 151)).alloc (.cells #[.slice fa 3 fc, .slice fd 2 fe, .int .i64 X.2.2] 86)).alloc (.cells #[.slice none 0 0, .slice none 0 0, .slice none 0 0, .bool false] 151)).alloc (.cells #[.slice fa 3 fc, .slice fd 2 fe, .int .i64 X.2.2] 86)).alloc (.cells #[.slice ta nt tc, .slice (some ⟨w.heap.size + 1 + 1 + 1, 0, none⟩) 1 1] 88))) (some ⟨w.heap.size + 1 + 1 + 1, 0, none⟩) [X] := fun i hi => by
    simp only [List.length_cons, List.length_nil] at hi
    obtain rfl : i = 0 := by omega
    exact ⟨_, 0, rfl, fa, fd, fc, fe, f0.cell 0, f0.cell 1, f0.cell 2, hX1.below B5, hX2.below B5⟩
  have hG5 := hG.keep B5
  go_enter Try.func134, Try.ntmps134
  go_wp2_with fail
  refine (iconcat_any _ _ _ _ fs _ _ X _ s0 HL.out hn hG5 hF).mono ?_
  rintro e w1 ⟨G, cG, rfl, b1, F1⟩
  have B1 := B5.trans (b1.mono B5.size)
  have q1 := q0.below b1
  have r1 := r0.below b1
  have lq := q1.lt
  have lr := r1.lt
  clear q0 r0 f0 s0 hF hG5 b1
  obtain ⟨c0, c1, c2, c3⟩ := q1.four
  have y0 := q1.free 2
  have T1 : Touch (fun k => k = w.heap.size) w1 (w1.setCell ⟨w.heap.size, 2, none⟩ (.slice (some ⟨G, 0, none⟩) (nt + 1) cG)) := Touch.setCell (S := fun k => k = w.heap.size) (Touch.refl _ _) rfl _
  have q2 := q1.set 2 (.slice (some ⟨G, 0, none⟩) (nt + 1) cG)
  simp only [List.set_cons_zero, List.set_cons_succ] at q2
  have r2 := r1.touch T1 (fun h => by have := h; omega)
  have F2 := F1.past2 (boxNo q1) T1
  have B2 := B1.trans (T1.below B1.size (fun k hk => by omega))
  go_upto_region 2 with fail
  clear q1 r1 F1 T1 B1 c0 c1 c2 c3 y0
  generalize (w1.setCell ⟨w.heap.size, 2, none⟩ (.slice (some ⟨G, 0, none⟩) (nt + 1) cG)) = w2 at *
  obtain ⟨c0, c1, c2, c3⟩ := q2.four
  obtain ⟨l0, l1, l2, l3⟩ := r2.four
  have fy0 := r2.free 0
  have fy1 := r2.free 1
  have fy2 := r2.free 2
  have fy3 := r2.free 3
  obtain ⟨x', T'⟩ := put4 r2 rfl (.slice ga ng gc) (.slice pa 3 cp) (.slice (some ⟨G, 0, none⟩) (nt + 1) cG) (.bool st)
  have F3 := F2.past2 (boxNo r2) T'
  have BB := B2.trans (T'.below B2.size (fun k hk => by omega))
  obtain ⟨e0, e1, e2, e3⟩ := x'.four
  have lr2 := r2.lt
  clear F2 r2 T' x' q2
  go_wp2
  refine bodyPost_ret (v := wayV ga ng gc pa cp (some ⟨G, 0, none⟩) (nt + 1) cG st) (by simp [results, Try.results134, go_sem, e0, e1, e2, e3]) rfl ?_
  exact ⟨G, cG, rfl, BB, F3⟩

end Go.Proofs.Ythhfjodggmmcoaa
