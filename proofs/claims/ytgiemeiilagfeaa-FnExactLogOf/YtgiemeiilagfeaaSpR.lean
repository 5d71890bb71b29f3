/-
  A result's copy, as the specification makes it. Lengths at most 1048576.
-/
import Derived.Test.YtgiemeiilagfeaaSpE
import Derived.Test.YtgiemeiilagfeaaTk
namespace Go.Proofs.Ytgiemeiilagfeaa
open Go.RowKit Go.Deep
set_option linter.unusedVariables false
set_option maxRecDepth 100000

set_option maxHeartbeats 3200000 in
theorem scopRes_any (c : Int) (B n cap : Nat) (zs : List Int) (w : World) (h : Blk w B zs) (hl : zs.length = n) (hn : n ≤ 1048576) :
    Calls Try.prog 23 #[resP c (some ⟨B, 0, none⟩) n cap] w fun e w' => ∃ a' cap' B', e = .returned (resP c a' n cap') ∧ Below w.heap.size w w' ∧ OwnX w' a' B' n zs ∧ (0 < n → w.heap.size ≤ B') := by
  have p0 := (Cel.new w [.int .i64 c, .slice (some ⟨B, 0, none⟩) n cap] 50).alloc (.cells #[.int .i64 0, .slice none 0 0] 50)
  have r0 := Cel.new (w.alloc (.cells #[.int .i64 c, .slice (some ⟨B, 0, none⟩) n cap] 50)) [.int .i64 0, .slice none 0 0] 50
  rw [World.size_alloc] at r0
  have B0 := ((Below.refl w.heap.size w).alloc (Nat.le_refl _) (.cells #[.int .i64 c, .slice (some ⟨B, 0, none⟩) n cap] 50)).alloc (by simp) (.cells #[.int .i64 0, .slice none 0 0] 50)
  have HZ : Hid (zs.length = n) := hl
  clear hl
  obtain ⟨i0, hi, hz0, hz1, hz2⟩ := info_parts Try.infoInt
  go_enter Try.func23, Try.ntmps23
  go_upto_region 1 with fail
  obtain ⟨W0, hW0⟩ : ∃ W, W = (w.alloc (.cells #[.int .i64 c, .slice (some ⟨B, 0, none⟩) n cap] 50)).alloc (.cells #[.int .i64 0, .slice none 0 0] 50) := ⟨_, rfl⟩
  rw [← hW0] at p0 r0 B0 ⊢
  clear hW0
  have s0 := r0.lt
  have KP : Hid (∀ W, Below W0.heap.size W0 W → W.cell? ⟨w.heap.size, 0, none⟩ = some (.int .i64 c) ∧ W.cell? ⟨w.heap.size, 1, none⟩ = some (.slice (some ⟨B, 0, none⟩) n cap)) := fun W hW => ⟨(p0.below hW).cell 0, (p0.below hW).cell 1⟩
  have d0 : Below W0.heap.size W0 W0.drew := (Below.refl _ _).drew
  have hSS : (W0.drew.cell? ⟨w.heap.size, 0, none⟩ = some (.int .i64 c) ∧ W0.drew.cell? ⟨w.heap.size, 1, none⟩ = some (.slice (some ⟨B, 0, none⟩) n cap)) ∧ True := ⟨KP.out _ d0, trivial⟩
  refine wp_region_ends (fun w' => w'.cell? ⟨w.heap.size, 0, none⟩ = some (.int .i64 c) ∧ w'.cell? ⟨w.heap.size, 1, none⟩ = some (.slice (some ⟨B, 0, none⟩) n cap)) (fun _ => True) 7 (by kernel_rfl) ?_
  obtain ⟨V0, hV0⟩ : ∃ V, V = W0.drew := ⟨_, rfl⟩
  rw [← hV0] at hSS d0 ⊢
  have f0 : V0.heap.size ≤ W0.heap.size ∧ W0.heap.size ≤ V0.heap.size := by rw [hV0]; exact ⟨Nat.le_refl _, Nat.le_refl _⟩
  clear hV0
  refine tkL (i := 0) rfl hSS ?_
  refine tkL (i := 1) rfl hSS ?_
  refine tkL (i := 3) rfl hSS ?_
  refine tkL (i := 4) rfl hSS ?_
  clear hSS
  have AL : Below V0.heap.size V0 (V0.alloc (.cells #[] 3)) := (Below.refl _ _).alloc (Nat.le_refl _) _
  have hAL : Below W0.heap.size W0 (V0.alloc (.cells #[] 3)) := d0.trans (AL.mono d0.size)
  refine wpAnyE_one (i := 2) (by kernel_rfl) rfl (fun K hK => ?_)
  go_simp
  refine hK.out _ _ ⟨KP.out _ hAL, fun _ => trivial⟩ ?_
  clear hK K
  refine wpAnyE_one (i := 5) (by kernel_rfl) rfl (fun K hK => ?_)
  by_cases h0 : 0 < n
  · obtain ⟨b, off, e, hcell⟩ := ((h.below B0).ints' HZ.out).pos h0
    simp only [Option.some.injEq, Addr.mk.injEq, and_true] at e
    obtain ⟨rfl, rfl⟩ := e
    have hcl : ∀ i, i < n → (V0.alloc (.cells #[] 3)).cell? ⟨B, 0 + i, none⟩ = some (.int .i64 (zs.getD i 0)) := fun i hi => by
      rw [hAL.cell (p := ⟨B, 0 + i, none⟩) (block_lt (hcell i hi))]; exact hcell i hi
    have HC : Hid _ := newsI hcl HZ.out
    have HL : Hid ((zs.map (Value.int .i64)).length = n * 1) := by show _ = _; rw [List.length_map, HZ.out, Nat.mul_one]
    have HJ : Hid _ := (JA.lit V0).o
    rw [if_pos (by rfl)]
    refine wp_append_lies _ (.tmp 5) (.tmp 7) 42 rfl V0.heap.size 3 i0 (.int .i64 0) 1 8 Try.underlying42 hi hz0 hz1 hz2 rfl (by omega) (.slice (some ⟨V0.heap.size, 0, none⟩) 0 0) 0 [] (by rfl) HJ.out ⟨B, 0, none⟩ n cap (zs.map (Value.int .i64)) (by rfl) HL.out HC.out (oneI _) h0 (by unfold maxLen; omega) (by omega) AL.size (V0.heap.size + 1) (by rw [World.size_alloc]) ?_
    intro g cp W1 hown hgrow hat hlt1
    have j := JA.copied HZ.out hown hgrow
    obtain ⟨a', cap', B', hv, o1, g1⟩ := j.ownx HZ.out
    have g1 : 0 < n → W0.heap.size ≤ B' := fun h => by have := g1 h; omega
    have b1 := d0.trans (j.b.mono d0.size)
    (try simp only [Nat.zero_add])
    rw [hv]
    clear hv
    clear hown hgrow hat j hcl hcell HC HL HJ
    refine hK.out _ _ ⟨KP.out _ b1, fun _ => trivial⟩ ?_
    clear hK K
    refine wpAnyE_one (i := 6) (by kernel_rfl) rfl (fun K hK => ?_)
    go_simp
    refine hK.out _ _ ⟨KP.out _ b1, fun _ => trivial⟩ ?_
    clear hK K
    have r2 := r0.below b1
    have z0 := r2.free 0
    have z1 := r2.free 1
    have y0 := r2.cell 0
    have y1 := r2.cell 1
    simp only [List.getElem?_cons_zero, List.getElem?_cons_succ] at y0 y1
    have T : Touch (fun z => z = w.heap.size + 1) W1 ((W1.setCell ⟨w.heap.size + 1, 0, none⟩ (.int .i64 c)).setCell ⟨w.heap.size + 1, 1, none⟩ (.slice a' n cap')) := ((Touch.refl (fun z => z = w.heap.size + 1) W1).setCell rfl _).setCell rfl _
    have r6 := (r2.set 0 (.int .i64 c)).set 1 (.slice a' n cap')
    simp only [List.set_cons_zero, List.set_cons_succ] at r6
    have p6 := (p0.below b1).touch T (fun h => by have : w.heap.size = w.heap.size + 1 := h; omega)
    have h0' := r6.cell 0
    have h1' := r6.cell 1
    have x0 := p6.cell 0
    have x1 := p6.cell 1
    simp only [List.getElem?_cons_zero, List.getElem?_cons_succ] at h0' h1' x0 x1
    refine wpAnyE_one (i := 7) (by kernel_rfl) rfl (fun K hK => ?_)
    go_simp
    refine hK.out _ _ ⟨⟨x0, x1⟩, fun h => absurd (show true = false from h) (by decide)⟩ ?_
    clear hK K
    refine wpAnyE_done (by kernel_rfl) ?_ _
    have q1 := o1.touch T (fun h0 e => by have e : B' = w.heap.size + 1 := e; have := g1 h0; omega)
    have BB := (B0.trans (b1.mono B0.size)).trans (T.below (by have := b1.size; omega) (fun z hz => by omega))
    clear r2 z0 z1 y0 y1 r6 p6 x0 x1 T o1
    go_wp2
    refine bodyPost_ret (v := resP c a' n cap') (by simp [results, Try.results23, go_sem, h0', h1']) rfl ?_
    exact ⟨a', cap', B', rfl, BB, q1, fun h => by have := g1 h; omega⟩
  · obtain rfl : n = 0 := by omega
    have hzs : zs = [] := List.eq_nil_of_length_eq_zero HZ.out
    subst hzs
    go_simp
    have o1 : OwnX (V0.alloc (.cells #[] 3)) (some ⟨V0.heap.size, 0, none⟩) 0 0 [] := OwnX.nil _ _ _
    have g1 : 0 < 0 → W0.heap.size ≤ 0 := fun h => absurd h (Nat.lt_irrefl _)
    have b1 := hAL
    refine hK.out _ _ ⟨KP.out _ b1, fun _ => trivial⟩ ?_
    clear hK K
    refine wpAnyE_one (i := 6) (by kernel_rfl) rfl (fun K hK => ?_)
    go_simp
    refine hK.out _ _ ⟨KP.out _ b1, fun _ => trivial⟩ ?_
    clear hK K
    have r2 := r0.below b1
    have z0 := r2.free 0
    have z1 := r2.free 1
    have y0 := r2.cell 0
    have y1 := r2.cell 1
    simp only [List.getElem?_cons_zero, List.getElem?_cons_succ] at y0 y1
    have T : Touch (fun z => z = w.heap.size + 1) (V0.alloc (.cells #[] 3)) (((V0.alloc (.cells #[] 3)).setCell ⟨w.heap.size + 1, 0, none⟩ (.int .i64 c)).setCell ⟨w.heap.size + 1, 1, none⟩ (.slice (some ⟨V0.heap.size, 0, none⟩) 0 0)) := ((Touch.refl (fun z => z = w.heap.size + 1) (V0.alloc (.cells #[] 3))).setCell rfl _).setCell rfl _
    have r6 := (r2.set 0 (.int .i64 c)).set 1 (.slice (some ⟨V0.heap.size, 0, none⟩) 0 0)
    simp only [List.set_cons_zero, List.set_cons_succ] at r6
    have p6 := (p0.below b1).touch T (fun h => by have : w.heap.size = w.heap.size + 1 := h; omega)
    have h0' := r6.cell 0
    have h1' := r6.cell 1
    have x0 := p6.cell 0
    have x1 := p6.cell 1
    simp only [List.getElem?_cons_zero, List.getElem?_cons_succ] at h0' h1' x0 x1
    refine wpAnyE_one (i := 7) (by kernel_rfl) rfl (fun K hK => ?_)
    go_simp
    refine hK.out _ _ ⟨⟨x0, x1⟩, fun h => absurd (show true = false from h) (by decide)⟩ ?_
    clear hK K
    refine wpAnyE_done (by kernel_rfl) ?_ _
    have q1 := o1.touch T (fun h0 e => by have e : 0 = w.heap.size + 1 := e; have := g1 h0; omega)
    have BB := (B0.trans (b1.mono B0.size)).trans (T.below (by have := b1.size; omega) (fun z hz => by omega))
    clear r2 z0 z1 y0 y1 r6 p6 x0 x1 T o1
    go_wp2
    refine bodyPost_ret (v := resP c (some ⟨V0.heap.size, 0, none⟩) 0 0) (by simp [results, Try.results23, go_sem, h0', h1']) rfl ?_
    exact ⟨(some ⟨V0.heap.size, 0, none⟩), 0, 0, rfl, BB, q1, fun h => by have := g1 h; omega⟩

end Go.Proofs.Ytgiemeiilagfeaa
