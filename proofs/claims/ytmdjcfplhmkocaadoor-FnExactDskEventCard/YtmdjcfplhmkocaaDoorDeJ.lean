/-
  The event 'call', and 'clerkrises', as the program reads them.
-/
import Derived.Test.YtmdjcfplhmkocaaDoorDeI
namespace Go.Proofs.YtmdjcfplhmkocaaDoor
open Go.RowKit Go.MapKept
set_option linter.unusedVariables false
set_option linter.unusedSimpArgs false
set_option maxRecDepth 100000

theorem Ints.blkB' {w : World} {b off n : Nat} {zs : List Int} (h : Ints w (some ⟨b, off, none⟩) n zs) (hn : 0 < n) : b < w.heap.size := block_lt (zs_at h (i := 0) hn)
theorem Ints.drop2 {W : World} {b off : Nat} {zs : List Int} (h : Ints W (some ⟨b, off, none⟩) 4 zs) : Ints W (some ⟨b, off + 2, none⟩) 2 (zs.drop 2) := ⟨by rw [List.length_drop, h.1], fun i hi => ⟨b, off + 2, rfl, by
  have c := zs_at h (i := 2 + i) (by omega)
  rw [← Nat.add_assoc] at c
  rw [c, List.getD_eq_getElem?_getD, List.getElem?_drop]⟩⟩
theorem clone2_any (a : Option Addr) (cap : Nat) (zs : List Int) (w : World) (h : Ints w a 2 zs) :
    Calls Tryd.prog 37 #[.slice a 2 cap] w fun e w' => ∃ a' c', e = .returned (.slice a' 2 c') ∧ JA w (.slice a' 2 c') zs w' := by
  refine (clone_any a 2 cap zs w h (by omega) (by omega)).mono ?_
  rintro e w' ⟨v, rfl, j⟩
  obtain ⟨a', c', e, -⟩ := j.ints
  rw [h.1] at e
  exact ⟨a', c', by rw [e], by rw [← e]; exact j⟩
theorem own_weak {W : World} {m n : Nat} {e : TypeId} {k : Nat} {v : Value} {c : Nat} {xs : List Value} (h : W.ownsRow m e k v c xs) (hm : n ≤ m) : W.ownsRow n e k v c xs := ⟨h.1, by
  rcases h.2 with h2 | ⟨g, cap, cur, hv, hg, r⟩
  · exact Or.inl h2
  · exact Or.inr ⟨g, cap, cur, hv, Nat.le_trans hm hg, r⟩⟩
theorem own_set {W : World} {m : Nat} {e : TypeId} {k : Nat} {v : Value} {c : Nat} {xs : List Value} (h : W.ownsRow m e k v c xs) {r : Nat} (hr : r < m) (i : Nat) (x : Value) : (W.setCell ⟨r, i, none⟩ x).ownsRow m e k v c xs := by
  refine ⟨h.1, ?_⟩
  rcases h.2 with h2 | ⟨g, cap, cur, hv, hg, hh, q⟩
  · exact Or.inl h2
  · refine Or.inr ⟨g, cap, cur, hv, hg, ?_, q⟩
    rw [Below.heap_setCell _ _ _ _ (show g ≠ r by omega)]; exact hh
set_option maxHeartbeats 4000000 in
theorem icall_any (a : Option Addr) (n cap : Nat) (zs : List Int) (w : World) (h : Ints w a n zs) (hcap : n ≤ cap) :
    Calls Tryd.prog 28 #[.int .i64 1, .slice a n cap] w (EvP (callL zs) w) := by
  have hl : zs.length = n := h.1
  by_cases hn : n = 4
  · subst hn
    obtain ⟨b, off, rfl, -⟩ := h.pos (by omega)
    have hb := h.blkB' (by omega)
    have B0 := below2 (w := w) (.cells #[.int .i64 0, .int .i64 0, .int .i64 0, .slice none 0 0] 26) (.cells #[.int .i64 1, .int .i64 0, .int .i64 0, .slice none 0 0] 26)
    have hi := h.below B0
    have c0 := zs_at hi (i := 0) (by omega)
    have c1 := zs_at hi (i := 1) (by omega)
    have c1' : ∀ X : World, Below w.heap.size w X → X.cell? ⟨b, off + 1, none⟩ = some (.int .i64 (zs[1]?.getD 0)) := fun X hX => zs_at (h.below hX) (i := 1) (by omega)
    have hd := hi.drop2
    obtain ⟨z0, hz0⟩ : ∃ z, zs[0]?.getD 0 = z := ⟨_, rfl⟩
    obtain ⟨z1, hz1⟩ : ∃ z, zs[1]?.getD 0 = z := ⟨_, rfl⟩
    rw [hz0, Nat.add_zero] at c0
    rw [hz1] at c1 c1'
    have p4 : (4 : Int) ≤ (cap : Int) := by omega
    by_cases h1 : z1 < 0
    · rw [show callL zs = noE from by rw [callL, if_neg (by rw [hz1]; omega)]]
      clear hl hz0 hz1 h hi hd
      go_enter Tryd.func28, Tryd.ntmps28
      go_wp2
      exact bodyPost_ret (v := .tuple #[evV 0 0 0 none 0 0, .bool false]) (by simp [results, Tryd.results28, go_sem]) rfl (EvP.no (below2 _ _))
    · have HC : Hid (callL zs = if (0 : Int) ≤ z0 then (1, z0, z1, zs.drop 2, true) else noE) := by
        show _ = _
        rw [callL, hz0, hz1]
        by_cases q : (0 : Int) ≤ z0
        · rw [if_pos q, if_pos ⟨by omega, q, by omega⟩]
        · rw [if_neg q, if_neg (fun x => q x.2.1)]
      obtain ⟨xs, hxs⟩ : ∃ xs, zs.drop 2 = xs := ⟨_, rfl⟩
      have HL2 : Hid (xs.length = 2) := by show _ = _; rw [← hxs, List.length_drop]; omega
      rw [hxs] at hd HC
      have r0 := (Cel.new w [.int .i64 0, .int .i64 0, .int .i64 0, .slice none 0 0] 26).alloc (.cells #[.int .i64 1, .int .i64 0, .int .i64 0, .slice none 0 0] 26)
      have e0 := Cel.new (w.alloc (.cells #[.int .i64 0, .int .i64 0, .int .i64 0, .slice none 0 0] 26)) [.int .i64 1, .int .i64 0, .int .i64 0, .slice none 0 0] 26
      rw [World.size_alloc] at e0
      clear hl hz0 hz1 h hi hxs
      go_enter Tryd.func28, Tryd.ntmps28
      go_upto_region 13 with fail
      obtain ⟨W0, hW0⟩ : ∃ W, W = (w.alloc (.cells #[.int .i64 0, .int .i64 0, .int .i64 0, .slice none 0 0] 26)).alloc (.cells #[.int .i64 1, .int .i64 0, .int .i64 0, .slice none 0 0] 26) := ⟨_, rfl⟩
      rw [← hW0] at r0 e0 B0 c0 c1 hd ⊢
      have cd : W0.drew.cell? ⟨b, off + 1, none⟩ = some (.int .i64 z1) := c1
      clear hW0
      have hd2 : Ints W0.drew (some ⟨b, off + 2, none⟩) 2 xs := hd.below (Below.refl _ _).drew
      have lb : b < W0.heap.size := by have := e0.lt; omega
      go_region_with (first | (go_at_call 37; refine (clone2_any _ _ xs _ (by exact hd2)).mono ?_; rintro ee w1 ⟨a', c', rfl, j1⟩; have bd1 := j1.b; have b1 := below_of_drew bd1; have r1 := r0.below b1; have e1 := e0.below b1; have d1 : w1.cell? ⟨b, off + 1, none⟩ = some (.int .i64 z1) := (b1.cell (p := ⟨b, off + 1, none⟩) lb).trans c1; have f2 := e1.cell 2; have f3 := e1.cell 3; have q2 := e1.free 2; have q3 := e1.free 3; simp only [List.getElem?_cons_zero, List.getElem?_cons_succ] at f2 f3))
      all_goals
        have d0 : w1.cell? ⟨b, off, none⟩ = some (.int .i64 z0) := (b1.cell (p := ⟨b, off, none⟩) lb).trans c0
        have f0 := e1.cell 0
        have f1 := e1.cell 1
        have q0 := e1.free 0
        have q1 := e1.free 1
        have g0 := r1.cell 0
        have g1 := r1.cell 1
        have g2 := r1.cell 2
        have g3 := r1.cell 3
        have k0 := r1.free 0
        have k1 := r1.free 1
        have k2 := r1.free 2
        have k3 := r1.free 3
        simp only [List.getElem?_cons_zero, List.getElem?_cons_succ] at f0 f1 g0 g1 g2 g3
        have lw : w.heap.size + 1 < w1.heap.size := e1.lt
        have hne : ¬ b = w.heap.size + 1 := by omega
        have BB : Below w.heap.size w w1 := B0.trans (b1.mono B0.size)
        have lw0 : w.heap.size < W0.drew.heap.size := by have h : w.heap.size + 1 < W0.heap.size := e0.lt; show w.heap.size < W0.heap.size; omega
        have lw1 : w.heap.size + 1 < W0.drew.heap.size := by have h : w.heap.size + 1 < W0.heap.size := e0.lt; exact h
        have hne2 : ¬ b = w.heap.size := by omega
        by_cases hz : 0 ≤ z0
        · have hz' : ¬ z0 < 0 := by omega
          go_wp2
          all_goals rw [HC.out, if_pos (by omega)]
          all_goals exact bodyPost_ret (v := .tuple #[evV 1 z0 z1 a' 2 c', .bool true]) (by simp [results, Tryd.results28, go_sem, g0, g1, g2, g3]) rfl ⟨a', 2, c', rfl, HL2.out, ⟨by repeat (first | refine Below.setCell ?_ (by simp) _ | exact BB), own_weak (by repeat (first | refine own_set ?_ (by first | exact lw0 | exact lw1) _ _ | exact j1.o)) B0.size⟩⟩
        · have hz' : z0 < 0 := by omega
          go_wp2
          all_goals rw [HC.out, if_neg (by omega)]
          all_goals exact bodyPost_ret (v := .tuple #[evV 0 0 0 none 0 0, .bool false]) (by simp [results, Tryd.results28, go_sem, g0, g1, g2, g3]) rfl (EvP.no (by repeat (first | refine Below.setCell ?_ (by simp) _ | exact BB)))
  · rw [show callL zs = noE from by rw [callL, if_neg (by omega)]]
    clear hl h
    have hi : ¬ (n : Int) = 4 := by omega
    have hi2 : ((n : Int) == 4) = false := by simpa using hi
    go_enter Tryd.func28, Tryd.ntmps28
    go_wp2
    exact bodyPost_ret (v := .tuple #[evV 0 0 0 none 0 0, .bool false]) (by simp [results, Tryd.results28, go_sem]) rfl (EvP.no (below2 _ _))

end Go.Proofs.YtmdjcfplhmkocaaDoor
