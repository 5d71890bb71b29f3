/-
  The event 'clerkrises', as the program reads it.
-/
import Derived.Test.YtmdjcfplhmkocaaDoorDeO
namespace Go.Proofs.YtmdjcfplhmkocaaDoor
open Go.RowKit Go.MapKept
set_option linter.unusedVariables false
set_option linter.unusedSimpArgs false
set_option maxRecDepth 100000

theorem Cel.put4 {w : World} {B : Nat} {x0 x1 x2 x3 : Value} {t : TypeId} (r : Cel w B [x0, x1, x2, x3] t) (y0 y1 y2 y3 : Value) : Cel ((((w.setCell ⟨B, 0, none⟩ y0).setCell ⟨B, 1, none⟩ y1).setCell ⟨B, 2, none⟩ y2).setCell ⟨B, 3, none⟩ y3) B [y0, y1, y2, y3] t := (((r.set 0 y0).set 1 y1).set 2 y2).set 3 y3
theorem below_put4 {w X : World} {n B : Nat} (h : Below n w X) (hB : n ≤ B) (y0 y1 y2 y3 : Value) : Below n w ((((X.setCell ⟨B, 0, none⟩ y0).setCell ⟨B, 1, none⟩ y1).setCell ⟨B, 2, none⟩ y2).setCell ⟨B, 3, none⟩ y3) := (((h.setCell (p := ⟨B, 0, none⟩) hB y0).setCell (p := ⟨B, 1, none⟩) hB y1).setCell (p := ⟨B, 2, none⟩) hB y2).setCell (p := ⟨B, 3, none⟩) hB y3
theorem own_put4 {W : World} {m : Nat} {e : TypeId} {k : Nat} {v : Value} {c : Nat} {xs : List Value} (h : W.ownsRow m e k v c xs) {B : Nat} (hB : B < m) (y0 y1 y2 y3 : Value) : ((((W.setCell ⟨B, 0, none⟩ y0).setCell ⟨B, 1, none⟩ y1).setCell ⟨B, 2, none⟩ y2).setCell ⟨B, 3, none⟩ y3).ownsRow m e k v c xs := own_set (own_set (own_set (own_set h hB 0 y0) hB 1 y1) hB 2 y2) hB 3 y3

set_option maxHeartbeats 1600000 in
theorem irise_any (a : Option Addr) (n cap : Nat) (zs : List Int) (w : World) (h : Ints w a n zs) :
    Calls Tryd.prog 29 #[.slice a n cap] w (EvP (bareL 10 1 zs) w) := by
  have B0 : Below w.heap.size w (w.alloc (.cells #[.int .i64 0, .int .i64 0, .int .i64 0, .slice none 0 0] 26)) := (Below.refl _ _).alloc (Nat.le_refl _) _
  have r0 := Cel.new w [.int .i64 0, .int .i64 0, .int .i64 0, .slice none 0 0] 26
  have hI := h.below B0
  go_enter Tryd.func29, Tryd.ntmps29
  go_wp2_with fail
  refine (ibare_any 10 (Or.inr rfl) a n cap zs _ hI).mono ?_
  rintro e w1 ⟨a', n', cap', rfl, hn', j⟩
  have r1 := r0.below j.b
  have g0 := r1.cell 0
  have g1 := r1.cell 1
  have g2 := r1.cell 2
  have g3 := r1.cell 3
  have k0 := r1.free 0
  have k1 := r1.free 1
  have k2 := r1.free 2
  have k3 := r1.free 3
  simp only [List.getElem?_cons_zero, List.getElem?_cons_succ] at g0 g1 g2 g3
  have lw := r1.lt
  have BB : Below w.heap.size w w1 := B0.trans (j.b.mono B0.size)
  by_cases hz : zs.length = 0
  · have e1 : bareL 10 0 zs = (10, 0, 0, [], true) := by rw [bareL, if_pos hz]
    have HE : Hid (bareL 10 1 zs = (10, 1, 0, [], true)) := by show _ = _; rw [bareL, if_pos hz]
    rw [e1] at hn' j ⊢
    have hn0 : n' = 0 := hn'.symm
    subst hn0
    clear hz e1 h hI
    have d := (r1.put4 (.int .i64 10) (.int .i64 1) (.int .i64 0) (.slice a' 0 cap')).below ((Below.refl _ _).alloc (Nat.le_refl _) (.cells #[.int .i64 10, .int .i64 1, .int .i64 0, .slice a' 0 cap'] 26))
    have d0 := d.cell 0
    have d1 := d.cell 1
    have d2 := d.cell 2
    have d3 := d.cell 3
    simp only [List.getElem?_cons_zero, List.getElem?_cons_succ] at d0 d1 d2 d3
    have b2 := below_put4 BB (Nat.le_refl _) (.int .i64 10) (.int .i64 1) (.int .i64 0) (.slice a' 0 cap')
    have b3 := b2.alloc b2.size (.cells #[.int .i64 10, .int .i64 1, .int .i64 0, .slice a' 0 cap'] 26)
    have JO : ((((w1.setCell ⟨w.heap.size, 0, none⟩ (.int .i64 10)).setCell ⟨w.heap.size, 1, none⟩ (.int .i64 1)).setCell ⟨w.heap.size, 2, none⟩ (.int .i64 0)).setCell ⟨w.heap.size, 3, none⟩ (.slice a' 0 cap')).ownsRow (w.heap.size + 1) 3 1 (.slice a' 0 cap') 0 [] := own_put4 (by have := j.o; rw [World.size_alloc] at this; exact this) (Nat.lt_succ_self _) _ _ _ _
    have JA' := JA.below (w := w) (v := .slice a' 0 cap') (xs := []) ⟨b2, own_weak JO (Nat.le_succ w.heap.size)⟩ ((Below.refl _ _).alloc (Nat.le_refl _) (.cells #[.int .i64 10, .int .i64 1, .int .i64 0, .slice a' 0 cap'] 26))
    go_wp2
    rw [HE.out]
    exact bodyPost_ret (v := .tuple #[evV 10 1 0 a' 0 cap', .bool true]) (by simp [results, Tryd.results29, go_sem, d0, d1, d2, d3]) rfl ⟨a', 0, cap', rfl, rfl, JA'⟩
  · have e1 : bareL 10 0 zs = noE := by rw [bareL, if_neg hz]
    have HE : Hid (bareL 10 1 zs = noE) := by show _ = _; rw [bareL, if_neg hz]
    rw [e1] at hn' j ⊢
    clear hz e1 h hI
    have d := (r1.put4 (.int .i64 0) (.int .i64 0) (.int .i64 0) (.slice none 0 0)).below ((Below.refl _ _).alloc (Nat.le_refl _) (.cells #[.int .i64 0, .int .i64 0, .int .i64 0, .slice a' n' cap'] 26))
    have d0 := d.cell 0
    have d1 := d.cell 1
    have d2 := d.cell 2
    have d3 := d.cell 3
    simp only [List.getElem?_cons_zero, List.getElem?_cons_succ] at d0 d1 d2 d3
    have b2 := below_put4 BB (Nat.le_refl _) (.int .i64 0) (.int .i64 0) (.int .i64 0) (.slice none 0 0)
    have b3 := b2.alloc b2.size (.cells #[.int .i64 0, .int .i64 0, .int .i64 0, .slice a' n' cap'] 26)
    go_wp2
    all_goals rw [HE.out]
    all_goals exact bodyPost_ret (v := .tuple #[evV 0 0 0 none 0 0, .bool false]) (by simp [results, Tryd.results29, go_sem, d0, d1, d2, d3, noE]) rfl (EvP.no b3)

end Go.Proofs.YtmdjcfplhmkocaaDoor
