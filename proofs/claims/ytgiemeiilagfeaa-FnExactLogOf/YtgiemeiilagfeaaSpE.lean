/-
  Copies as the specification makes them: a call, a result. Lengths at most 1048576.
-/
import Derived.Test.YtgiemeiilagfeaaCpG
import Derived.Test.YtgiemeiilagfeaaKeyed
import Derived.Lib.Hide
namespace Go.Proofs.Ytgiemeiilagfeaa
open Go.RowKit Go.Deep
set_option linter.unusedVariables false
set_option maxRecDepth 100000

set_option maxHeartbeats 3200000 in
theorem scopCall_any (x q c : Int) (B n cap : Nat) (zs : List Int) (w : World) (h : Blk w B zs) (hl : zs.length = n) (hn : n ≤ 1048576) :
    Calls Try.prog 22 #[qV x q c (some ⟨B, 0, none⟩) n cap] w fun e w' => ∃ a' cap' B', e = .returned (qV x q c a' n cap') ∧ Below w.heap.size w w' ∧ OwnX w' a' B' n zs ∧ (0 < n → w.heap.size ≤ B') := by
  have p0 := (Cel.new w [.int .i64 x, .int .i64 q, .int .i64 c, .slice (some ⟨B, 0, none⟩) n cap] 49).alloc (.cells #[.int .i64 0, .int .i64 0, .int .i64 0, .slice none 0 0] 49)
  have r0 := Cel.new (w.alloc (.cells #[.int .i64 x, .int .i64 q, .int .i64 c, .slice (some ⟨B, 0, none⟩) n cap] 49)) [.int .i64 0, .int .i64 0, .int .i64 0, .slice none 0 0] 49
  rw [World.size_alloc] at r0
  have B0 := ((Below.refl w.heap.size w).alloc (Nat.le_refl _) (.cells #[.int .i64 x, .int .i64 q, .int .i64 c, .slice (some ⟨B, 0, none⟩) n cap] 49)).alloc (by simp) (.cells #[.int .i64 0, .int .i64 0, .int .i64 0, .slice none 0 0] 49)
  have HZ : Hid (zs.length = n) := hl
  clear hl
  obtain ⟨i0, hi, hz0, hz1, hz2⟩ := info_parts Try.infoInt
  go_enter Try.func22, Try.ntmps22
  go_upto_region 1 with fail
  obtain ⟨W0, hW0⟩ : ∃ W, W = (w.alloc (.cells #[.int .i64 x, .int .i64 q, .int .i64 c, .slice (some ⟨B, 0, none⟩) n cap] 49)).alloc (.cells #[.int .i64 0, .int .i64 0, .int .i64 0, .slice none 0 0] 49) := ⟨_, rfl⟩
  rw [← hW0] at p0 r0 B0 ⊢
  clear hW0
  have s0 := r0.lt
  have AL : Below W0.heap.size W0 (W0.alloc (.cells #[] 3)) := (Below.refl _ _).alloc (Nat.le_refl _) _
  have pa := p0.below AL
  have c3 := pa.cell 3
  have z3 := pa.free 3
  simp only [List.getElem?_cons_zero, List.getElem?_cons_succ] at c3
  by_cases h0 : 0 < n
  · obtain ⟨b, off, e, hcell⟩ := ((h.below B0).ints' HZ.out).pos h0
    simp only [Option.some.injEq, Addr.mk.injEq, and_true] at e
    obtain ⟨rfl, rfl⟩ := e
    have hcl : ∀ i, i < n → (W0.alloc (.cells #[] 3)).cell? ⟨B, 0 + i, none⟩ = some (.int .i64 (zs.getD i 0)) := fun i hi => by
      rw [AL.cell (p := ⟨B, 0 + i, none⟩) (block_lt (hcell i hi))]; exact hcell i hi
    have HC : Hid _ := newsI hcl HZ.out
    have HL : Hid ((zs.map (Value.int .i64)).length = n * 1) := by show _ = _; rw [List.length_map, HZ.out, Nat.mul_one]
    have HJ : Hid _ := (JA.lit W0).o
    clear hcl hcell h pa z3
    go_wp2_with (at_builtin; go_must (refine wpList_append_lies _ rfl (.tmp 3) (.tmp 5) 42 rfl W0.heap.size 3 i0 (.int .i64 0) 1 8 Try.underlying42 hi hz0 hz1 hz2 rfl (by decide) _ 0 [] rfl HJ.out ⟨B, 0, none⟩ n cap (zs.map (Value.int .i64)) rfl HL.out HC.out (oneI _) h0 (by unfold maxLen; omega) (by omega) (by rw [World.size_alloc]; omega) _ rfl ?_); intro g cp W1 hown hgrow hat hlt1; refine Hid.out ?_)
    refine Lib.hid ?_
    have j := JA.copied HZ.out hown hgrow
    obtain ⟨a', cap', B', hv, o1, g1⟩ := j.ownx HZ.out
    have p1 := p0.below j.b
    have r1 := r0.below j.b
    have x3 := p1.cell 3
    have z3 := p1.free 3
    simp only [List.getElem?_cons_zero, List.getElem?_cons_succ] at x3
    have f1 := j.b.size
    have BB1 := B0.trans (j.b.mono B0.size)
    clear hown hgrow hat j AL c3 HC HL HJ
    (try simp only [Nat.zero_add])
    rw [hv]
    clear hv
    have p2 := p1.set 3 (.slice a' n cap')
    simp only [List.set_cons_zero, List.set_cons_succ] at p2
    have T : Touch (fun y => y = w.heap.size) W1 (W1.setCell ⟨w.heap.size, 3, none⟩ (.slice a' n cap')) := (Touch.refl (fun y => y = w.heap.size) W1).setCell rfl _
    have r2 := r1.touch T (fun h => by have : w.heap.size + 1 = w.heap.size := h; omega)
    have o2 := o1.touch T (fun h0 h => by have h : B' = w.heap.size := h; have := g1 h0; omega)
    have B2 : Below w.heap.size w (W1.setCell ⟨w.heap.size, 3, none⟩ (.slice a' n cap')) := BB1.trans (T.below (by omega) (fun z hz => by have hz : z = w.heap.size := hz; omega))
    go_upto_region 2 with fail
    obtain ⟨W2, hW2⟩ : ∃ W, W = W1.setCell ⟨w.heap.size, 3, none⟩ (.slice a' n cap') := ⟨_, rfl⟩
    rw [← hW2] at p2 r2 o2 B2 ⊢
    have x0 := p2.cell 0
    have x1 := p2.cell 1
    have x2 := p2.cell 2
    have x3 := p2.cell 3
    have f0 := r2.cell 0
    have f1 := r2.cell 1
    have f2 := r2.cell 2
    have f3 := r2.cell 3
    have z0 := r2.free 0
    have z1 := r2.free 1
    have z2 := r2.free 2
    have z3' := r2.free 3
    have s2 := r2.lt
    simp only [List.getElem?_cons_zero, List.getElem?_cons_succ] at x0 x1 x2 x3 f0 f1 f2 f3
    clear hW2 T p1 r1 z3
    go_wp2
    refine bodyPost_ret (v := qV x q c a' n cap') (by simp [results, Try.results22, go_sem, f0, f1, f2, f3]) rfl ⟨a', cap', B', rfl, ?_, ?_, ?_⟩
    · exact (((B2.setCell (by simp only []; omega) _).setCell (by simp only []; omega) _).setCell (by simp only []; omega) _).setCell (by simp only []; omega) _
    · refine (((o2.setOther (fun h0 => ?_) _ _).setOther (fun h0 => ?_) _ _).setOther (fun h0 => ?_) _ _).setOther (fun h0 => ?_) _ _
      all_goals (have := g1 h0; omega)
    · intro h0; have := g1 h0; omega
  · obtain rfl : n = 0 := by omega
    have hzs : zs = [] := List.eq_nil_of_length_eq_zero HZ.out
    subst hzs
    have o1 : OwnX (W0.alloc (.cells #[] 3)) (some ⟨W0.heap.size, 0, none⟩) 0 0 [] := OwnX.nil _ _ _
    have g1 : 0 < 0 → W0.heap.size ≤ 0 := fun h => absurd h (Nat.lt_irrefl _)
    have p1 := pa
    have r1 := r0.below AL
    have f1 := AL.size
    have BB1 := B0.trans (AL.mono B0.size)
    clear pa h p0 r0 AL
    have p2 := p1.set 3 (.slice (some ⟨W0.heap.size, 0, none⟩) 0 0)
    simp only [List.set_cons_zero, List.set_cons_succ] at p2
    have T : Touch (fun y => y = w.heap.size) (W0.alloc (.cells #[] 3)) ((W0.alloc (.cells #[] 3)).setCell ⟨w.heap.size, 3, none⟩ (.slice (some ⟨W0.heap.size, 0, none⟩) 0 0)) := (Touch.refl (fun y => y = w.heap.size) (W0.alloc (.cells #[] 3))).setCell rfl _
    have r2 := r1.touch T (fun h => by have : w.heap.size + 1 = w.heap.size := h; omega)
    have o2 := o1.touch T (fun h0 h => by have h : 0 = w.heap.size := h; have := g1 h0; omega)
    have B2 : Below w.heap.size w ((W0.alloc (.cells #[] 3)).setCell ⟨w.heap.size, 3, none⟩ (.slice (some ⟨W0.heap.size, 0, none⟩) 0 0)) := BB1.trans (T.below (by omega) (fun z hz => by have hz : z = w.heap.size := hz; omega))
    go_upto_region 2 with fail
    obtain ⟨W2, hW2⟩ : ∃ W, W = (W0.alloc (.cells #[] 3)).setCell ⟨w.heap.size, 3, none⟩ (.slice (some ⟨W0.heap.size, 0, none⟩) 0 0) := ⟨_, rfl⟩
    rw [← hW2] at p2 r2 o2 B2 ⊢
    have x0 := p2.cell 0
    have x1 := p2.cell 1
    have x2 := p2.cell 2
    have x3 := p2.cell 3
    have f0 := r2.cell 0
    have f1 := r2.cell 1
    have f2 := r2.cell 2
    have f3 := r2.cell 3
    have z0 := r2.free 0
    have z1 := r2.free 1
    have z2 := r2.free 2
    have z3' := r2.free 3
    have s2 := r2.lt
    simp only [List.getElem?_cons_zero, List.getElem?_cons_succ] at x0 x1 x2 x3 f0 f1 f2 f3
    clear hW2 T p1 r1 z3
    go_wp2
    refine bodyPost_ret (v := qV x q c (some ⟨W0.heap.size, 0, none⟩) 0 0) (by simp [results, Try.results22, go_sem, f0, f1, f2, f3]) rfl ⟨some ⟨W0.heap.size, 0, none⟩, 0, 0, rfl, ?_, ?_, ?_⟩
    · exact (((B2.setCell (by simp only []; omega) _).setCell (by simp only []; omega) _).setCell (by simp only []; omega) _).setCell (by simp only []; omega) _
    · refine (((o2.setOther (fun h0 => ?_) _ _).setOther (fun h0 => ?_) _ _).setOther (fun h0 => ?_) _ _).setOther (fun h0 => ?_) _ _
      all_goals (have := g1 h0; omega)
    · intro h0; have := g1 h0; omega

end Go.Proofs.Ytgiemeiilagfeaa
