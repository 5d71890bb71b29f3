/-
  Lines of acts: a copy of one, one held against another, its size; when one is ok; the step that the program makes of one. Lengths at most 1048576.
-/
import Derived.Test.YtpnldfembbfgdaaLines
import Derived.Test.YtpnldfembbfgdaaOpenS
namespace Go.Proofs.Ytpnldfembbfgdaa
open Go.ChangeShapes Go.WideShapes Go.ChangeAt Go.RowKit Go.Joins Go.Deep
set_option linter.unusedVariables false
set_option maxRecDepth 100000

/-- A line as a value. -/
abbrev lineV (kind pot skip : Int) (a : Option Addr) (n cap : Nat) (c : Option Addr) (m cap' : Nat) (K : Int) : Value := .agg #[.int .i64 kind, .int .i64 pot, .int .i64 skip, .slice a n cap, .slice c m cap', .int .i64 K]
theorem Cel.six {w : World} {B : Nat} {x0 x1 x2 x3 x4 x5 : Value} {t : TypeId} (h : Cel w B [x0, x1, x2, x3, x4, x5] t) : w.cell? ⟨B, 0, none⟩ = some x0 ∧ w.cell? ⟨B, 1, none⟩ = some x1 ∧ w.cell? ⟨B, 2, none⟩ = some x2 ∧ w.cell? ⟨B, 3, none⟩ = some x3 ∧ w.cell? ⟨B, 4, none⟩ = some x4 ∧ w.cell? ⟨B, 5, none⟩ = some x5 := ⟨h.cell 0, h.cell 1, h.cell 2, h.cell 3, h.cell 4, h.cell 5⟩
theorem Cel.frees {w : World} {B : Nat} {vs : List Value} {t : TypeId} (h : Cel w B vs t) : w.frozen? ⟨B, 0, none⟩ = false ∧ w.frozen? ⟨B, 1, none⟩ = false ∧ w.frozen? ⟨B, 2, none⟩ = false ∧ w.frozen? ⟨B, 3, none⟩ = false ∧ w.frozen? ⟨B, 4, none⟩ = false ∧ w.frozen? ⟨B, 5, none⟩ = false := ⟨h.free 0, h.free 1, h.free 2, h.free 3, h.free 4, h.free 5⟩

/-- A box that a call lays first, and old memory. -/
structure BL (w : World) (B : Nat) (la : List Value) (ty : TypeId) (W : World) : Prop where
  p : Cel W B la ty
  b : Below w.heap.size w W
theorem BL.new (w : World) (la : List Value) (ty : TypeId) : BL w w.heap.size la ty (w.alloc (.cells la.toArray ty)) := ⟨Cel.new w la ty, (Below.refl _ _).alloc (Nat.le_refl _) _⟩
theorem BL.below {w W W' : World} {B : Nat} {la : List Value} {ty : TypeId} (h : BL w B la ty W) (b : Below W.heap.size W W') : BL w B la ty W' := ⟨h.p.below b, h.b.trans (b.mono h.b.size)⟩
theorem BL.alloc {w W : World} {B : Nat} {la : List Value} {ty : TypeId} (h : BL w B la ty W) (o : Obj) : BL w B la ty (W.alloc o) := h.below ((Below.refl _ _).alloc (Nat.le_refl _) _)



set_option maxHeartbeats 1600000 in
theorem sline_any (kind pot skip : Int) (a : Option Addr) (n cap : Nat) (c : Option Addr) (m cap' : Nat) (K : Int) (C D : List Int) (w : World) (hC : Ints w a n C) (hD : Ints w c m D) (hn : n ≤ 1048576) (hm : m ≤ 1048576) :
    Calls Try.prog 96 #[lineV kind pot skip a n cap c m cap' K] w fun e w' => e = .returned (.bool (lineB kind pot skip n m C D K)) ∧ Below w.heap.size w w' := by
  have n0 := BL.new w [.int .i64 kind, .int .i64 pot, .int .i64 skip, .slice a n cap, .slice c m cap', .int .i64 K] 113
  by_cases hk1 : kind = 1
  · subst hk1
    by_cases hp : pot = 0
    · subst hp
      cases hs : inB skip 1 6
      · go_enter Try.func96, Try.ntmps96
        go_wp2_with fail
        refine (in_any _ _ _ _).mono ?_
        rintro e w1 ⟨rfl, rfl⟩
        rw [hs]
        go_wp2
        go_ret
        exact ⟨ret_bool (by simp [lineB, hs]), n0.b⟩
      · go_enter Try.func96, Try.ntmps96
        go_wp2_with fail
        refine (in_any _ _ _ _).mono ?_
        rintro e w1 ⟨rfl, rfl⟩
        rw [hs]
        go_wp2_with fail
        refine (sSmall_any _ _ _ _ _ _ _ C D _ (hC.below n0.b) (hD.below n0.b) hn hm).mono ?_
        rintro e w1 ⟨rfl, b1⟩
        go_wp2
        go_ret
        exact ⟨ret_bool (by simp [lineB, hs]), (n0.below b1).b⟩
    · have hp' : (pot == 0) = false := by simp [hp]
      go_enter Try.func96, Try.ntmps96
      go_wp2
      go_ret
      exact ⟨ret_bool (by simp [lineB, hp]), n0.b⟩
  · by_cases hk2 : kind = 2
    · subst hk2
      cases hp : inB pot 0 2
      · go_enter Try.func96, Try.ntmps96
        go_wp2_with fail
        refine (in_any _ _ _ _).mono ?_
        rintro e w1 ⟨rfl, rfl⟩
        rw [hp]
        go_wp2
        go_ret
        exact ⟨ret_bool (by simp [lineB, hp]), n0.b⟩
      · by_cases hs : skip = 0
        · subst hs
          go_enter Try.func96, Try.ntmps96
          go_wp2_with fail
          refine (in_any _ _ _ _).mono ?_
          rintro e w1 ⟨rfl, rfl⟩
          rw [hp]
          go_wp2_with fail
          refine (sSmall_any _ _ _ _ _ _ _ C D _ (hC.below n0.b) (hD.below n0.b) hn hm).mono ?_
          rintro e w1 ⟨rfl, b1⟩
          go_wp2
          go_ret
          exact ⟨ret_bool (by simp [lineB, hp]), (n0.below b1).b⟩
        · have hs' : (skip == 0) = false := by simp [hs]
          go_enter Try.func96, Try.ntmps96
          go_wp2_with fail
          refine (in_any _ _ _ _).mono ?_
          rintro e w1 ⟨rfl, rfl⟩
          rw [hp]
          go_wp2
          go_ret
          exact ⟨ret_bool (by simp [lineB, hs]), n0.b⟩
    · by_cases hk3 : kind = 3
      · subst hk3
        by_cases hp : pot = 0
        · subst hp
          by_cases hs : skip = 0
          · subst hs
            go_enter Try.func96, Try.ntmps96
            go_wp2_with fail
            refine (sSmall_any _ _ _ _ _ _ _ C D _ (hC.below n0.b) (hD.below n0.b) hn hm).mono ?_
            rintro e w1 ⟨rfl, b1⟩
            go_wp2
            go_ret
            exact ⟨ret_bool (by simp [lineB, ]), (n0.below b1).b⟩
          · have hs' : (skip == 0) = false := by simp [hs]
            go_enter Try.func96, Try.ntmps96
            go_wp2
            go_ret
            exact ⟨ret_bool (by simp [lineB, hs]), n0.b⟩
        · have hp' : (pot == 0) = false := by simp [hp]
          go_enter Try.func96, Try.ntmps96
          go_wp2
          go_ret
          exact ⟨ret_bool (by simp [lineB, hp]), n0.b⟩
      · have hk1' : (kind == 1) = false := by simp [hk1]
        have hk2' : (kind == 2) = false := by simp [hk2]
        have hk3' : (kind == 3) = false := by simp [hk3]
        by_cases hk4 : kind = 4
        · subst hk4
          by_cases hp : pot = 0
          · subst hp
            by_cases hs : skip = 0
            · subst hs
              by_cases hl : (n : Int) + m = 0
              · have hl' : ((n : Int) + m == 0) = true := by simp [hl]
                go_enter Try.func96, Try.ntmps96
                go_wp2
                go_ret
                exact ⟨ret_bool (by simp only [lineB, hl', Int.reduceEq, if_false, beq_self_eq_true, Bool.true_and]), n0.b⟩
              · have hl' : ((n : Int) + m == 0) = false := by simpa using hl
                go_enter Try.func96, Try.ntmps96
                go_wp2
                go_ret
                exact ⟨ret_bool (by simp only [lineB, hl', Int.reduceEq, if_false, beq_self_eq_true, Bool.true_and, Bool.false_and]), n0.b⟩
            · have hs' : (skip == 0) = false := by simp [hs]
              go_enter Try.func96, Try.ntmps96
              go_wp2
              go_ret
              exact ⟨ret_bool (by simp [lineB, hs]), n0.b⟩
          · have hp' : (pot == 0) = false := by simp [hp]
            go_enter Try.func96, Try.ntmps96
            go_wp2
            go_ret
            exact ⟨ret_bool (by simp [lineB, hp]), n0.b⟩
        · have hk4' : (kind == 4) = false := by simp [hk4]
          go_enter Try.func96, Try.ntmps96
          go_wp2
          go_ret
          exact ⟨ret_bool (by simp [lineB, hk1, hk2, hk3, hk4]), n0.b⟩

theorem ret_step {u v : Value} {a b : Bool} (h : u = v) (h' : a = b) : Ending.returned (.tuple #[u, .bool a]) = .returned (.tuple #[v, .bool b]) := by rw [h, h']

end Go.Proofs.Ytpnldfembbfgdaa
