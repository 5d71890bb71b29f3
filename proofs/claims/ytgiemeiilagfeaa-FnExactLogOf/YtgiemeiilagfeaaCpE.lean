/-
  Copies as the program makes them: a list, a result, what was done, a call, what was told; each list in a block of its own. Lengths at most 1048576.
-/
import Derived.Test.YtgiemeiilagfeaaDonE
import Derived.Test.YtgiemeiilagfeaaCalE
import Derived.Test.YtgiemeiilagfeaaGotE
import Derived.Test.YtgiemeiilagfeaaOwn
namespace Go.Proofs.Ytgiemeiilagfeaa
open Go.RowKit Go.Deep
set_option linter.unusedVariables false
set_option maxRecDepth 100000

set_option maxHeartbeats 800000 in
theorem cloneN_any (B n cap : Nat) (zs : List Int) (w : World) (h : Blk w B zs) (hl : zs.length = n) (hn : n ≤ 1048576) :
    Calls Try.prog 67 #[.slice (some ⟨B, 0, none⟩) n cap] w fun e w' => ∃ a' cap' B', e = .returned (.slice a' n cap') ∧ Below w.heap.size w w' ∧ OwnX w' a' B' n zs ∧ (0 < n → w.heap.size ≤ B') := by
  by_cases h0 : 0 < n
  · refine (clone_any _ n cap zs w (h.ints' hl) hn h0).mono ?_
    rintro e w' ⟨v, rfl, j⟩
    obtain ⟨a, c, B', rfl, o, g⟩ := j.ownx hl
    exact ⟨a, c, B', rfl, j.b, o, g⟩
  · obtain rfl : n = 0 := by omega
    have hz : zs = [] := List.eq_nil_of_length_eq_zero hl
    subst hz
    have hnil : ∀ w, (binOp .eql 42 (.slice (some ⟨B, 0, none⟩) 0 cap) (.slice none 0 0)).run Try.prog w = .ok (.bool false) w := fun w => Go.Lib.run_eql_slice_nil w _ _ _ _ _ _ _ Try.underlying42
    have B0 := (Below.refl w.heap.size w).alloc (Nat.le_refl _) (.cells #[] 3)
    clear h
    go_enter Try.func67, Try.ntmps67
    go_wp2
    go_ret
    exact ⟨_, _, 0, rfl, B0, OwnX.nil _ _ _, fun h => by omega⟩

set_option maxHeartbeats 1600000 in
theorem icopRes_any (c : Int) (B n cap : Nat) (zs : List Int) (w : World) (h : Blk w B zs) (hl : zs.length = n) (hn : n ≤ 1048576) :
    Calls Try.prog 45 #[resP c (some ⟨B, 0, none⟩) n cap] w fun e w' => ∃ a' cap' B', e = .returned (resP c a' n cap') ∧ Below w.heap.size w w' ∧ OwnX w' a' B' n zs ∧ (0 < n → w.heap.size ≤ B') := by
  have p0 := (Cel.new w [.int .i64 c, .slice (some ⟨B, 0, none⟩) n cap] 50).alloc (.cells #[.int .i64 0, .slice none 0 0] 50)
  have r0 := Cel.new (w.alloc (.cells #[.int .i64 c, .slice (some ⟨B, 0, none⟩) n cap] 50)) [.int .i64 0, .slice none 0 0] 50
  rw [World.size_alloc] at r0
  have B0 := ((Below.refl w.heap.size w).alloc (Nat.le_refl _) (.cells #[.int .i64 c, .slice (some ⟨B, 0, none⟩) n cap] 50)).alloc (by simp) (.cells #[.int .i64 0, .slice none 0 0] 50)
  have HL : Hid _ := hl
  clear hl
  go_enter Try.func45, Try.ntmps45
  go_upto_region 1 with fail
  obtain ⟨W0, hW0⟩ : ∃ W, W = (w.alloc (.cells #[.int .i64 c, .slice (some ⟨B, 0, none⟩) n cap] 50)).alloc (.cells #[.int .i64 0, .slice none 0 0] 50) := ⟨_, rfl⟩
  rw [← hW0] at p0 r0 B0 ⊢
  clear hW0
  have c0 := p0.cell 0
  have c1 := p0.cell 1
  have d0 := r0.cell 0
  have d1 := r0.cell 1
  simp only [List.getElem?_cons_zero, List.getElem?_cons_succ] at c0 c1 d0 d1
  go_region_with (first | (go_at_call 67; refine (cloneN_any _ _ _ zs _ (by exact (h.below B0).below (Below.refl _ _).drew) HL.out hn).mono ?_; rintro ee w1 ⟨a', cap', B', rfl, bd1, o1, g1⟩; have b1 := below_of_drew bd1; have p1 := p0.below b1; have r1 := r0.below b1; have e0 := p1.cell 0; have e1 := p1.cell 1; have f0 := r1.cell 0; have f1 := r1.cell 1; have z0 := r1.free 0; have z1 := r1.free 1; simp only [List.getElem?_cons_zero, List.getElem?_cons_succ] at e0 e1 f0 f1))
  all_goals
    have s1 := r1.lt
    have s0 := r0.lt
    have hsz : W0.heap.size ≤ W0.drew.heap.size := Nat.le_refl _
    go_wp2
    refine bodyPost_ret (v := resP c a' n cap') (by simp [results, Try.results45, go_sem, f0, f1]) rfl ⟨a', cap', B', rfl, ?_, ?_, ?_⟩
    · exact ((B0.trans (b1.mono B0.size)).setCell (by simp only []; omega) _).setCell (by simp only []; omega) _
    · refine (o1.setOther (fun h0 => ?_) _ _).setOther (fun h0 => ?_) _ _
      · have := g1 h0; have : W0.heap.size ≤ B' := this; omega
      · have := g1 h0; have : W0.heap.size ≤ B' := this; omega
    · intro h0; have := g1 h0; have : W0.heap.size ≤ B' := this; omega

end Go.Proofs.Ytgiemeiilagfeaa
