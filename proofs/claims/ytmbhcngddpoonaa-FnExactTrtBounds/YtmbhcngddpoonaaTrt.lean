/-
  Treaties: the size, a copy, one held against another, an argument that is one. Lengths at most 1048576 where one is copied.
-/
import Derived.Test.YtmbhcngddpoonaaForms
import Derived.Test.YtmbhcngddpoonaaOpen
namespace Go.Proofs.Ytmbhcngddpoonaa
open Go.ChangeShapes Go.WideShapes Go.ChangeAt Go.RowKit Go.Joins
set_option linter.unusedVariables false
set_option maxRecDepth 100000

/-- A treaty as a value. -/
abbrev treV (a : Option Addr) (n cap : Nat) (c : Option Addr) (m cap' : Nat) : Value := .agg #[.slice a n cap, .slice c m cap']

theorem szT_any (a : Option Addr) (n cap : Nat) (c : Option Addr) (m cap' : Nat) (l : Int) (w : World) (hn : n ≤ maxLen) (hm : m ≤ maxLen) (h0 : 0 ≤ l) (hl : l ≤ 1048576) :
    Calls Try.prog 9 #[treV a n cap c m cap', .int .i64 l] w fun e w' => e = .returned (.int .i64 (leftOf (leftOf l n) m)) ∧ Below w.heap.size w w' := by
  have g1 := leftOf_ge l n
  by_cases h : leftOf l n < 0
  · go_enter Try.func9, Try.ntmps9
    go_wp2_with fail
    refine (sz_any _ _ _ _ _ hn h0 hl).mono ?_
    rintro e w1 ⟨rfl, rfl⟩
    go_wp2
    go_ret
    exact ⟨ret_int (by rw [leftOf_below h]), (Below.refl _ _).alloc (Nat.le_refl _) _⟩
  · have h1 : 0 ≤ leftOf l n := by omega
    have h2 := (leftOf_le h1).2
    have g2 := leftOf_ge (leftOf l n) m
    clear h
    by_cases h' : leftOf (leftOf l n) m < 0
    · go_enter Try.func9, Try.ntmps9
      go_wp2_with fail
      refine (sz_any _ _ _ _ _ hn h0 hl).mono ?_
      rintro e w1 ⟨rfl, rfl⟩
      go_wp2_with fail
      refine (sz_any _ _ _ _ _ hm h1 (by omega)).mono ?_
      rintro e w1 ⟨rfl, rfl⟩
      go_wp2
      go_ret
      exact ⟨ret_int (by omega), (Below.refl _ _).alloc (Nat.le_refl _) _⟩
    · go_enter Try.func9, Try.ntmps9
      go_wp2_with fail
      refine (sz_any _ _ _ _ _ hn h0 hl).mono ?_
      rintro e w1 ⟨rfl, rfl⟩
      go_wp2_with fail
      refine (sz_any _ _ _ _ _ hm h1 (by omega)).mono ?_
      rintro e w1 ⟨rfl, rfl⟩
      go_wp2
      go_ret
      exact ⟨ret_int rfl, (Below.refl _ _).alloc (Nat.le_refl _) _⟩

set_option maxHeartbeats 800000 in
theorem toT_any (a : Option Addr) (n cap : Nat) (c : Option Addr) (m cap' : Nat) (C D : List Int) (w : World) (hC : Ints w a n C) (hD : Ints w c m D) (hn : n ≤ 1048576) (hm : m ≤ 1048576) :
    Calls Try.prog 11 #[treV a n cap c m cap'] w fun e w' => ∃ B1 B2, e = .returned (treV (some ⟨B1, 0, none⟩) n n (some ⟨B2, 0, none⟩) m m) ∧ Below w.heap.size w w' ∧ w.heap.size ≤ B1 ∧ B1 < B2 ∧ Blk w' B1 C ∧ Blk w' B2 D := by
  go_enter Try.func11, Try.ntmps11
  go_wp2_with fail
  refine (to_any _ _ _ _ _ (((hC.alloc _).alloc _).alloc _) hn).mono ?_
  rintro e w1 ⟨rfl, b1, k1⟩
  have p0 := (((Cel.new w _ _).alloc _).alloc _).below b1
  have p1 := ((Cel.new (w.alloc _) _ _).alloc _).below b1
  have p2 := (Cel.new ((w.alloc _).alloc _) _ _).below b1
  rw [World.size_alloc] at p1
  rw [World.size_alloc, World.size_alloc] at p2
  rw [World.size_alloc, World.size_alloc, World.size_alloc] at k1
  have s1 := k1.lt
  have B1 : Below w.heap.size w w1 := ((((Below.refl _ _).alloc (Nat.le_refl _) _).alloc (by simp) _).alloc (by simp; omega) _).trans (b1.mono (by simp; omega))
  clear b1
  have g0 := p2.cell 0
  have g1 := p2.free 0
  have g2 := p0.cell 1
  simp only [List.getElem?_cons_zero, List.getElem?_cons_succ] at g0 g2
  go_wp2_with fail
  have B2 := B1.setCell (p := ⟨w.heap.size + 1 + 1, 0, none⟩) (by show w.heap.size ≤ w.heap.size + 1 + 1; omega) (Value.slice (some { block := w.heap.size + 1 + 1 + 1, off := 0 }) n n)
  refine (to_any _ _ _ _ _ (hD.below B2) hm).mono ?_
  rintro e w2 ⟨rfl, b2, k2⟩
  have q0 := (p0.setOther (by omega) _ _).below b2
  have q1 := (p1.setOther (by omega) _ _).below b2
  have q2 := (p2.set _ _).below b2
  have k1' := (k1.setOther (by omega) _ _).below b2
  have B3 := B2.trans (b2.mono B2.size)
  have s2 := k2.lt
  rw [size_setCell] at k2 s2
  clear g0 g1 g2 p0 p1 p2 k1 b2 B1 B2
  have g0 := q2.cell 0
  have g1 := q2.cell 1
  have g3 := q2.free 1
  have g6 := q1.cell 0
  have g7 := q1.cell 1
  have g9 := q1.free 0
  have g10 := q1.free 1
  simp only [List.getElem?_cons_zero, List.getElem?_cons_succ, List.set_cons_zero] at g0 g1 g6 g7
  have hlt1 : w.heap.size + 1 < w2.heap.size := by omega
  have hlt2 : w.heap.size + 1 + 1 < w2.heap.size := by omega
  go_wp2
  refine bodyPost_ret (v := treV (some ⟨w.heap.size + 1 + 1 + 1, 0, none⟩) n n (some ⟨w1.heap.size, 0, none⟩) m m) (by simp [results, Try.results11, go_sem, g6, g7]) rfl ⟨_, _, rfl, ?_, by omega, s1, ?_, ?_⟩
  · exact (((B3.setCell (by simp only []; omega) _).setCell (by simp only []; omega) _).setCell (by simp only []; omega) _)
  · exact (((k1'.setOther (by omega) _ _).setOther (by omega) _ _).setOther (by omega) _ _)
  · exact (((k2.setOther (by omega) _ _).setOther (by omega) _ _).setOther (by omega) _ _)

set_option maxHeartbeats 800000 in
theorem eqT_same (a : Option Addr) (n cap : Nat) (c : Option Addr) (m cap' : Nat) (C D : List Int) (a' : Option Addr) (cap2 : Nat) (c' : Option Addr) (cap3 : Nat) (w : World)
    (hC : Ints w a n C) (hD : Ints w c m D) (hC' : Ints w a' n C) (hD' : Ints w c' m D) (hn : n ≤ 1048576) (hm : m ≤ 1048576) :
    Calls Try.prog 13 #[treV a n cap c m cap', treV a' n cap2 c' m cap3] w fun e w' => e = .returned (.bool true) ∧ Below w.heap.size w w' := by
  have h1 := eqB_refl C
  have h2 := eqB_refl D
  go_enter Try.func13, Try.ntmps13
  go_wp2_with fail
  refine (eq_any _ _ _ _ _ _ C C _ ((hC.alloc _).alloc _) ((hC'.alloc _).alloc _) hn hn).mono ?_
  rintro e w1 ⟨rfl, b1⟩
  have q0 := ((Cel.new w _ _).alloc _).below b1
  have q1 := (Cel.new (w.alloc _) _ _).below b1
  rw [World.size_alloc] at q1
  have g0 := q0.cell 1
  have g1 := q1.cell 1
  simp only [List.getElem?_cons_zero, List.getElem?_cons_succ] at g0 g1
  go_wp2_with fail
  refine (eq_any _ _ _ _ _ _ D D _ (((hD.alloc _).alloc _).below b1) (((hD'.alloc _).alloc _).below b1) hm hm).mono ?_
  rintro e w2 ⟨rfl, b2⟩
  go_wp2
  go_ret
  have B1 := (((Below.refl _ _).alloc (Nat.le_refl _) _).alloc (by simp) _).trans (b1.mono (by simp; omega))
  exact ⟨rfl, B1.trans (b2.mono B1.size)⟩

theorem open_treaty {H : Type} {enc : TypeId × Value → H} {W : World} {r : Reach} {b0 : Nat} {v : Value} {d : DataW H} {p : List MemPlace}
    (hv : Value.okWide Try.prog W r b0 24 v) (h : DataW.Trod enc Try.prog W 0 (fun _ => true) true 24 v d p) :
    ∃ a n cap c m cap' C D, v = treV a n cap c m cap' ∧ Ints W a n C ∧ Ints W c m D ∧ n ≤ maxLen ∧ m ≤ maxLen := by
  obtain ⟨v0, v1, y0, y1, k, rfl, -, -, h0, h1⟩ := open_agg2 Try.underlying24 (by kernel_rfl) (by kernel_rfl) hv h
  obtain ⟨a, n, cap, C, rfl, hC, hn⟩ := open_row h0
  obtain ⟨c, m, cap', D, rfl, hD, hm⟩ := open_row h1
  exact ⟨a, n, cap, c, m, cap', C, D, rfl, hC, hD, hn, hm⟩

end Go.Proofs.Ytmbhcngddpoonaa
