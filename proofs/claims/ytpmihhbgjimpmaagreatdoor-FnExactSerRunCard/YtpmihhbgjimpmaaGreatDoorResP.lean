/-
  Results as arguments: the size, a copy, one held against another. Lengths at most 1048576 where one is copied.
-/
import Derived.Test.YtpmihhbgjimpmaaGreatDoorForms
import Derived.Test.YtpmihhbgjimpmaaGreatDoorOpen
namespace Go.Proofs.YtpmihhbgjimpmaaGreatDoor
open Go.ChangeShapes Go.WideShapes Go.ChangeAt Go.RowKit Go.Joins
set_option linter.unusedVariables false
set_option maxRecDepth 100000

/-- A result as a value. -/
abbrev resP (code : Int) (a : Option Addr) (n cap : Nat) : Value := .agg #[.int .i64 code, .slice a n cap]

theorem szR_any (code : Int) (a : Option Addr) (n cap : Nat) (l : Int) (w : World) (hn : n ≤ maxLen) (h0 : 0 ≤ l) (hl : l ≤ 1048576) :
    Calls Tryz.prog 118 #[resP code a n cap, .int .i64 l] w fun e w' => e = .returned (.int .i64 (leftOf l n)) ∧ Below w.heap.size w w' := by
  have g1 := leftOf_ge l n
  by_cases h : leftOf l n < 0
  · go_enter Tryz.func118, Tryz.ntmps118
    go_wp2_with fail
    refine (sz_any _ _ _ _ _ hn h0 hl).mono ?_
    rintro e w1 ⟨rfl, rfl⟩
    go_wp2
    go_ret
    exact ⟨ret_int (by omega), (Below.refl _ _).alloc (Nat.le_refl _) _⟩
  · go_enter Tryz.func118, Tryz.ntmps118
    go_wp2_with fail
    refine (sz_any _ _ _ _ _ hn h0 hl).mono ?_
    rintro e w1 ⟨rfl, rfl⟩
    go_wp2
    go_ret
    exact ⟨ret_int rfl, (Below.refl _ _).alloc (Nat.le_refl _) _⟩

set_option maxHeartbeats 800000 in
theorem toR_any (code : Int) (a : Option Addr) (n cap : Nat) (C : List Int) (w : World) (hC : Ints w a n C) (hn : n ≤ 1048576) :
    Calls Tryz.prog 121 #[resP code a n cap] w fun e w' => ∃ B1, e = .returned (resP code (some ⟨B1, 0, none⟩) n n) ∧ Below w.heap.size w w' ∧ w.heap.size ≤ B1 ∧ Blk w' B1 C := by
  go_enter Tryz.func121, Tryz.ntmps121
  go_wp2_with fail
  refine (to_any _ _ _ _ _ (((hC.alloc _).alloc _).alloc _) hn).mono ?_
  rintro e w1 ⟨rfl, b1, k1⟩
  have p1 := ((Cel.new (w.alloc _) _ _).alloc _).below b1
  have p2 := (Cel.new ((w.alloc _).alloc _) _ _).below b1
  rw [World.size_alloc] at p1
  rw [World.size_alloc, World.size_alloc] at p2
  rw [World.size_alloc, World.size_alloc, World.size_alloc] at k1
  have s1 := k1.lt
  have B1 : Below w.heap.size w w1 := ((((Below.refl _ _).alloc (Nat.le_refl _) _).alloc (by simp) _).alloc (by simp; omega) _).trans (b1.mono (by simp; omega))
  clear b1
  have g0 := p2.cell 0
  have g1 := p2.cell 1
  have g2 := p2.free 1
  have g6 := p1.cell 0
  have g7 := p1.cell 1
  have g9 := p1.free 0
  have g10 := p1.free 1
  simp only [List.getElem?_cons_zero, List.getElem?_cons_succ] at g0 g1 g6 g7
  have hlt1 : w.heap.size + 1 < w1.heap.size := by omega
  have hlt2 : w.heap.size + 1 + 1 < w1.heap.size := by omega
  go_wp2
  refine bodyPost_ret (v := resP code (some ⟨w.heap.size + 1 + 1 + 1, 0, none⟩) n n) (by simp [results, Tryz.results121, go_sem, g6, g7]) rfl ⟨_, rfl, ?_, by omega, ?_⟩
  · exact (((B1.setCell (by simp only []; omega) _).setCell (by simp only []; omega) _).setCell (by simp only []; omega) _)
  · exact (((k1.setOther (by omega) _ _).setOther (by omega) _ _).setOther (by omega) _ _)

theorem eqR_same (code : Int) (a : Option Addr) (n cap : Nat) (a' : Option Addr) (cap' : Nat) (tl : List Int) (w : World) (h : Ints w a n tl) (h' : Ints w a' n tl) (hn : n ≤ 1048576) :
    Calls Tryz.prog 79 #[resP code a n cap, resP code a' n cap'] w fun e w' => e = .returned (.bool true) ∧ Below w.heap.size w w' := by
  have hc : (code != code) = false := by simp
  have HE := eqB_refl tl
  go_enter Tryz.func79, Tryz.ntmps79
  go_wp2_with fail
  refine (eq_any _ _ _ _ _ _ tl tl _ ((h.alloc _).alloc _) ((h'.alloc _).alloc _) hn hn).mono ?_
  rintro e w1 ⟨rfl, b1⟩
  rw [HE]
  go_wp2
  go_ret
  exact ⟨rfl, (((Below.refl _ _).alloc (Nat.le_refl _) _).alloc (by simp) _).trans (b1.mono (by simp; omega))⟩

theorem open_res {H : Type} {enc : TypeId × Value → H} {W : World} {r : Reach} {b0 : Nat} {v : Value} {d : DataW H} {p : List MemPlace}
    (hv : Value.okWide Tryz.prog W r b0 121 v) (h : DataW.Trod enc Tryz.prog W 0 (fun _ => true) true 121 v d p) :
    ∃ code a n cap C, v = resP code a n cap ∧ (Lit.int .i64 code).wf = true ∧ Ints W a n C ∧ n ≤ maxLen := by
  obtain ⟨v0, v1, y0, y1, k, rfl, -, -, h0, h1⟩ := open_agg2 Tryz.underlying121 (by kernel_rfl) (by kernel_rfl) hv h
  obtain ⟨code, rfl, wc⟩ := open_num h0
  obtain ⟨a, n, cap, C, rfl, hC, hn⟩ := open_row h1
  exact ⟨code, a, n, cap, C, rfl, wc, hC, hn⟩

end Go.Proofs.YtpmihhbgjimpmaaGreatDoor
