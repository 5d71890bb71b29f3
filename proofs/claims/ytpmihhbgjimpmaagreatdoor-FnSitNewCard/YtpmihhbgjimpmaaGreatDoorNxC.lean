/-
  Lemmas that the claim's last text rests on.
-/
import Derived.Laws.Pointers
import Derived.Defers
import Derived.Recover
import Derived.Laws.BitsAllLaws
import Derived.Test.YtpmihhbgjimpmaaGreatDoorNxB
namespace Go.Proofs.YtpmihhbgjimpmaaGreatDoor
open Go.ChangeShapes Go.WideShapes Go.ChangeAt Go.RowKit Go.Joins Go.Deep
open Option.some renaming injEq → qA
open World renaming size_alloc → qB
open List renaming getElem?_eq_getElem → qC, getElem?_cons_zero → qD, getElem?_cons_succ → qE, length_append → qF, take_succ_eq_append_getElem → qG
open Nat renaming le_refl → qH, zero_le → qI
set_option linter.unusedVariables false
set_option maxRecDepth 100000
set_option maxHeartbeats 25600000
variable {B B1 B2 cap cap' k lo m n : Nat} {C D zs : List Int} {K : Int} {W W' w w' : World} {a c : Option Addr} {l : LV} {ls : List LV} {v : Value} {xs : List Value}
abbrev lineV (kind pot skip : Int) (a : Option Addr) (n cap : Nat) (c : Option Addr) (m cap' : Nat) (K : Int) : Value := .agg #[.int .i64 kind, .int .i64 pot, .int .i64 skip, .slice a n cap, .slice c m cap', .int .i64 K]
theorem Cel.six {x0 x1 x2 x3 x4 x5 : Value} {t : TypeId} (h : Cel w B [x0, x1, x2, x3, x4, x5] t) : w.cell? ⟨B, 0, none⟩ = some x0 /\ w.cell? ⟨B, 1, none⟩ = some x1 /\ w.cell? ⟨B, 2, none⟩ = some x2 /\ w.cell? ⟨B, 3, none⟩ = some x3 /\ w.cell? ⟨B, 4, none⟩ = some x4 /\ w.cell? ⟨B, 5, none⟩ = some x5 := ⟨h.cell 0, h.cell 1, h.cell 2, h.cell 3, h.cell 4, h.cell 5⟩
structure BL (w : World) (B : Nat) (la : List Value) (ty : TypeId) (W : World) : Prop where
 p : Cel W B la ty
 b : Below w.heap.size w W
theorem BL.new (w : World) (la : List Value) (ty : TypeId) : BL w w.heap.size la ty (w.alloc (.cells la.toArray ty)) := ⟨Cel.new w la ty, bal⟩
theorem BL.below {la : List Value} {ty : TypeId} (h : BL w B la ty W) (b : Below W.heap.size W W') : BL w B la ty W' := ⟨h.p.below b, h.b.trans (b.mono h.b.size)⟩
theorem BL.alloc {la : List Value} {ty : TypeId} (h : BL w B la ty W) (o : Obj) : BL w B la ty (W.alloc o) := h.below (bal)
theorem szL_any (kind pot skip : Int) (a : Option Addr) (n cap : Nat) (c : Option Addr) (m cap' : Nat) (K l : Int) (w : World) (hn : n <= maxLen) (hm : m <= maxLen) (h0 : 0 <= l) (hl : l <= 1048576) :
  Calls Tryz.prog 146 #[lineV kind pot skip a n cap c m cap' K, .int .i64 l] w fun e w' => e = .returned (.int .i64 (leftOf (leftOf l n) m)) /\ Below w.heap.size w w' := by
 have g2 := leftOf_ge (leftOf l n) m;have n0 := BL.new w [.int .i64 kind, .int .i64 pot, .int .i64 skip, .slice a n cap, .slice c m cap', .int .i64 K] 208
 by_cases h : leftOf (leftOf l n) m < 0
 ·go_enter Tryz.func146, Tryz.ntmps146
  go_wp2_with fail
  refine (szF_any hn hm h0 hl).mono ?_;rintro e w1 ⟨rfl, b1⟩
  go_wp2
  go_ret
  exact ⟨ret_int (by omega), (n0.below b1).b⟩
 go_enter Tryz.func146, Tryz.ntmps146
 go_wp2_with fail
 refine (szF_any hn hm h0 hl).mono ?_;rintro e w1 ⟨rfl, b1⟩
 go_wp2
 go_ret
 exact ⟨rfl, (n0.below b1).b⟩
def stepV (l : LV) : Value :=
 if l.kind = 1 then .iface 198 (.agg #[.int .i64 l.skip, .slice l.f.a l.f.n l.f.cap, .slice l.f.c l.f.m l.f.cap', .int .i64 l.f.K])
 else if l.kind = 2 then .iface 200 (.agg #[.int .i64 l.pot, .slice l.f.a l.f.n l.f.cap, .slice l.f.c l.f.m l.f.cap', .int .i64 l.f.K])
 else if l.kind = 3 then .iface 202 (.agg #[.slice l.f.a l.f.n l.f.cap, .slice l.f.c l.f.m l.f.cap', .int .i64 l.f.K])
 else if l.kind = 4 then .iface 203 (.agg #[])
 else .nilIface
theorem sline_any {kind pot skip : Int} (C D : List Int) {w : World} (hC : Ints w a n C) (hD : Ints w c m D) (hn : n <= 1048576) (hm : m <= 1048576) :
  Calls Tryz.prog 128 #[lineV kind pot skip a n cap c m cap' K] w fun e w' => e = .returned (.bool (lineB kind pot skip n m C D K)) /\ Below w.heap.size w w' := by
 have n0 := BL.new w [.int .i64 kind, .int .i64 pot, .int .i64 skip, .slice a n cap, .slice c m cap', .int .i64 K] 153
 by_cases hk1 : kind = 1
 ·subst hk1
  by_cases hp : pot = 0
  ·subst hp
   cases hs : inB skip 1 6
   ·go_enter Tryz.func128, Tryz.ntmps128
    go_wp2_with fail
    refine (in_any).mono ?_;rintro e w1 ⟨rfl, rfl⟩;rw [hs]
    go_wp2
    go_ret
    exact ⟨ret_bool (by simp [lineB, hs]), n0.b⟩
   go_enter Tryz.func128, Tryz.ntmps128
   go_wp2_with fail
   refine (in_any).mono ?_;rintro e w1 ⟨rfl, rfl⟩;rw [hs]
   go_wp2_with fail
   refine (sSmall_any C D (hC.below n0.b) (hD.below n0.b) hn hm).mono ?_;rintro e w1 ⟨rfl, b1⟩
   go_wp2
   go_ret
   exact ⟨ret_bool (by simp [lineB, hs]), (n0.below b1).b⟩
  have hp' : (pot == 0) = false := by simp [hp]
  go_enter Tryz.func128, Tryz.ntmps128
  go_wp2
  go_ret
  exact ⟨ret_bool (by simp [lineB, hp]), n0.b⟩
 by_cases hk2 : kind = 2
 ·subst hk2
  cases hp : inB pot 0 2
  ·go_enter Tryz.func128, Tryz.ntmps128
   go_wp2_with fail
   refine (in_any).mono ?_;rintro e w1 ⟨rfl, rfl⟩;rw [hp]
   go_wp2
   go_ret
   exact ⟨ret_bool (by simp [lineB, hp]), n0.b⟩
  by_cases hs : skip = 0
  ·subst hs
   go_enter Tryz.func128, Tryz.ntmps128
   go_wp2_with fail
   refine (in_any).mono ?_;rintro e w1 ⟨rfl, rfl⟩;rw [hp]
   go_wp2_with fail
   refine (sSmall_any C D (hC.below n0.b) (hD.below n0.b) hn hm).mono ?_;rintro e w1 ⟨rfl, b1⟩
   go_wp2
   go_ret
   exact ⟨ret_bool (by simp [lineB, hp]), (n0.below b1).b⟩
  have hs' : (skip == 0) = false := by simp [hs]
  go_enter Tryz.func128, Tryz.ntmps128
  go_wp2_with fail
  refine (in_any).mono ?_;rintro e w1 ⟨rfl, rfl⟩;rw [hp]
  go_wp2
  go_ret
  exact ⟨ret_bool (by simp [lineB, hs]), n0.b⟩
 by_cases hk3 : kind = 3
 ·subst hk3
  by_cases hp : pot = 0
  ·subst hp
   by_cases hs : skip = 0
   ·subst hs
    go_enter Tryz.func128, Tryz.ntmps128
    go_wp2_with fail
    refine (sSmall_any C D (hC.below n0.b) (hD.below n0.b) hn hm).mono ?_;rintro e w1 ⟨rfl, b1⟩
    go_wp2
    go_ret
    exact ⟨ret_bool (by simp [lineB, ]), (n0.below b1).b⟩
   have hs' : (skip == 0) = false := by simp [hs]
   go_enter Tryz.func128, Tryz.ntmps128
   go_wp2
   go_ret
   exact ⟨ret_bool (by simp [lineB, hs]), n0.b⟩
  have hp' : (pot == 0) = false := by simp [hp]
  go_enter Tryz.func128, Tryz.ntmps128
  go_wp2
  go_ret
  exact ⟨ret_bool (by simp [lineB, hp]), n0.b⟩
 have hk1' : (kind == 1) = false := by simp [hk1]
 have hk2' : (kind == 2) = false := by simp [hk2]
 have hk3' : (kind == 3) = false := by simp [hk3]
 by_cases hk4 : kind = 4
 ·subst hk4
  by_cases hp : pot = 0
  ·subst hp
   by_cases hs : skip = 0
   ·subst hs
    by_cases hl : (n : Int) + m = 0
    ·have hl' : ((n : Int) + m == 0) = true := by simp [hl]
     go_enter Tryz.func128, Tryz.ntmps128
     go_wp2
     go_ret
     exact ⟨ret_bool (by simp only [lineB, hl', Int.reduceEq, if_false, beq_self_eq_true, Bool.true_and]), n0.b⟩
    have hl' : ((n : Int) + m == 0) = false := by simpa using hl
    go_enter Tryz.func128, Tryz.ntmps128
    go_wp2
    go_ret
    exact ⟨ret_bool (by simp only [lineB, hl', Int.reduceEq, if_false, beq_self_eq_true, Bool.true_and, Bool.false_and]), n0.b⟩
   have hs' : (skip == 0) = false := by simp [hs]
   go_enter Tryz.func128, Tryz.ntmps128
   go_wp2
   go_ret
   exact ⟨ret_bool (by simp [lineB, hs]), n0.b⟩
  have hp' : (pot == 0) = false := by simp [hp]
  go_enter Tryz.func128, Tryz.ntmps128
  go_wp2
  go_ret
  exact ⟨ret_bool (by simp [lineB, hp]), n0.b⟩
 have hk4' : (kind == 4) = false := by simp [hk4]
 go_enter Tryz.func128, Tryz.ntmps128
 go_wp2
 go_ret
 exact ⟨ret_bool (by simp [lineB, hk1, hk2, hk3, hk4]), n0.b⟩
theorem iSmall_any (C D : List Int) {w : World} (hC : Ints w a n C) (hD : Ints w c m D) (hn : n <= 1048576) (hm : m <= 1048576) :
  Calls Tryz.prog 143 #[formV a n cap c m cap' K] w fun e w' => e = .returned (.bool (smallB n m C D K)) /\ Below w.heap.size w w' := by
 have n0 := BL.new w [.slice a n cap, .slice c m cap', .int .i64 K] 95;obtain ⟨fb, hfb⟩ : ∃ fb, fb = formB n m C D K := ⟨_, rfl⟩
 have HF : Hid (fb = formB n m C D K) := hfb;clear hfb
 go_enter Tryz.func143, Tryz.ntmps143
 go_wp2_with fail
 refine (iok_any _ _ _ _ _ C D (hC.alloc _) (hD.alloc _) hn hm).mono ?_;rintro e w1 ⟨rfl, b1⟩;have n1 := n0.below b1;rw [<- HF.out];clear n0 b1;have c0 := n1.p.cell 0;have c1 := n1.p.cell 1;have c2 := n1.p.cell 2;simp only [qD, qE] at c0 c1 c2
 cases fb
 ·have hs : smallB n m C D K = false := by
   cases hh : smallB n m C D K
   ·rfl
   have := small_ok hh; rw [<- HF.out] at this; cases this
  go_wp2
  go_ret
  exact ⟨ret_bool hs.symm, n1.b⟩
 have HS : Hid _ := small_eq HF.out.symm
 cases h3 : allB 2 C
 ·go_wp2_with fail
  refine (within_any _ _ _ C (hC.below n1.b) hn).mono ?_;rintro e w2 ⟨rfl, rfl⟩;rw [h3]
  go_wp2
  go_ret
  exact ⟨ret_bool (by rw [HS.out, h3]; rfl), n1.b⟩
 cases h4 : allB 2 D
 ·go_wp2_with fail
  refine (within_any _ _ _ C (hC.below n1.b) hn).mono ?_;rintro e w2 ⟨rfl, rfl⟩;rw [h3]
  go_wp2_with fail
  refine (within_any _ _ _ D (hD.below n1.b) hm).mono ?_;rintro e w2 ⟨rfl, rfl⟩;rw [h4]
  go_wp2
  go_ret
  exact ⟨ret_bool (by rw [HS.out, h3, h4]; rfl), n1.b⟩
 go_wp2_with fail
 refine (within_any _ _ _ C (hC.below n1.b) hn).mono ?_;rintro e w2 ⟨rfl, rfl⟩;rw [h3]
 go_wp2_with fail
 refine (within_any _ _ _ D (hD.below n1.b) hm).mono ?_;rintro e w2 ⟨rfl, rfl⟩;rw [h4]
 go_wp2_with fail
 refine (within_any (some ⟨_, 0, none⟩) 1 1 [K] ?_ (by omega)).mono ?_
 ·refine ⟨rfl, fun i hi => ⟨_, 0, rfl, ?_⟩⟩;obtain rfl : i = 0 := by omega
  exact (Cel.new _ [.int .i64 K] _).cell 0
 rintro e w2 ⟨rfl, rfl⟩
 go_wp2
 go_ret
 exact ⟨ret_bool (by rw [allB_one, HS.out, h3, h4]; rfl), (n1.alloc _).b⟩
theorem iNoth_any :
  Calls Tryz.prog 144 #[formV a n cap c m cap' K] w fun e w' => e = .returned (.bool (((n : Int) + m == 0) && (K == 0))) /\ Below w.heap.size w w' := by
 have n0 := BL.new w [.slice a n cap, .slice c m cap', .int .i64 K] 95
 by_cases h1 : (n : Int) = 0
 ·obtain rfl : n = 0 := by omega
  by_cases h2 : (m : Int) = 0
  ·obtain rfl : m = 0 := by omega
   go_enter Tryz.func144, Tryz.ntmps144
   go_wp2
   go_ret
   exact ⟨ret_bool (by simp), n0.b⟩
  have h2' : ((m : Int) == 0) = false := by simpa using h2
  go_enter Tryz.func144, Tryz.ntmps144
  go_wp2
  go_ret
  exact ⟨ret_bool (by simp; omega), n0.b⟩
 have h1' : ((n : Int) == 0) = false := by simpa using h1
 go_enter Tryz.func144, Tryz.ntmps144
 go_wp2
 go_ret
 exact ⟨ret_bool (by simp; omega), n0.b⟩
theorem ret_step {u : Value} {a b : Bool} (h : u = v) (h' : a = b) : Ending.returned (.tuple #[u, .bool a]) = .returned (.tuple #[v, .bool b]) := by rw [h, h']
theorem istep_any {kind pot skip : Int} (C D : List Int) {w : World} (hC : Ints w a n C) (hD : Ints w c m D) (hn : n <= 1048576) (hm : m <= 1048576) :
  Calls Tryz.prog 113 #[lineV kind pot skip a n cap c m cap' K] w fun e w' => e = .returned (.tuple #[stepV ⟨kind, pot, skip, ⟨a, n, cap, c, m, cap', K, C, D⟩⟩, .bool (lineB kind pot skip n m C D K)]) /\ Below w.heap.size w w' := by
 have n0 := BL.new w [.int .i64 kind, .int .i64 pot, .int .i64 skip, .slice a n cap, .slice c m cap', .int .i64 K] 153
 by_cases hk1 : kind = 1
 ·subst hk1
  by_cases hp : pot = 0
  ·subst hp
   by_cases hs1 : 1 <= skip
   ·by_cases hs2 : skip <= 6
    ·have hs : inB skip 1 6 = true := inB_iff.2 ⟨hs1, hs2⟩
     go_enter Tryz.func113, Tryz.ntmps113
     go_wp2_with fail
     refine (iSmall_any C D (hC.below n0.b) (hD.below n0.b) hn hm).mono ?_;rintro e w1 ⟨rfl, b1⟩;obtain ⟨c0, c1, c2, c3, c4, c5⟩ := (n0.below b1).p.six
     go_wp2
     go_ret2
     exact ⟨ret_step (by simp [stepV]) (by simp [lineB, hs]), (n0.below b1).b⟩
    have hs : inB skip 1 6 = false := inB_not.2 (by omega)
    go_enter Tryz.func113, Tryz.ntmps113
    go_wp2
    go_ret2
    exact ⟨ret_step (by simp [stepV]) (by simp [lineB, hs]), n0.b⟩
   have hs : inB skip 1 6 = false := inB_not.2 (by omega)
   go_enter Tryz.func113, Tryz.ntmps113
   go_wp2
   go_ret2
   exact ⟨ret_step (by simp [stepV]) (by simp [lineB, hs]), n0.b⟩
  have hp' : (pot == 0) = false := by simp [hp]
  go_enter Tryz.func113, Tryz.ntmps113
  go_wp2
  go_ret2
  exact ⟨ret_step (by simp [stepV]) (by simp [lineB, hp]), n0.b⟩
 by_cases hk2 : kind = 2
 ·subst hk2
  by_cases hp1 : 0 <= pot
  ·by_cases hp2 : pot < 3
   ·have hp : inB pot 0 2 = true := inB_iff.2 ⟨hp1, by omega⟩
    by_cases hs : skip = 0
    ·subst hs
     go_enter Tryz.func113, Tryz.ntmps113
     go_wp2_with fail
     refine (place_any).mono ?_;rintro e w1 ⟨rfl, rfl⟩;rw [decide_eq_true (show 0 <= pot /\ pot < 3 from ⟨hp1, hp2⟩)]
     go_wp2_with fail
     refine (iSmall_any C D (hC.below n0.b) (hD.below n0.b) hn hm).mono ?_;rintro e w1 ⟨rfl, b1⟩;obtain ⟨c0, c1, c2, c3, c4, c5⟩ := (n0.below b1).p.six
     go_wp2
     go_ret2
     exact ⟨ret_step (by simp [stepV]) (by simp [lineB, hp]), (n0.below b1).b⟩
    have hs' : (skip == 0) = false := by simp [hs]
    go_enter Tryz.func113, Tryz.ntmps113
    go_wp2_with fail
    refine (place_any).mono ?_;rintro e w1 ⟨rfl, rfl⟩;rw [decide_eq_true (show 0 <= pot /\ pot < 3 from ⟨hp1, hp2⟩)]
    go_wp2
    go_ret2
    exact ⟨ret_step (by simp [stepV]) (by simp [lineB, hs]), n0.b⟩
   have hp : inB pot 0 2 = false := inB_not.2 (by omega)
   go_enter Tryz.func113, Tryz.ntmps113
   go_wp2_with fail
   refine (place_any).mono ?_;rintro e w1 ⟨rfl, rfl⟩;rw [decide_eq_false (show ¬ (0 <= pot /\ pot < 3) by omega)]
   go_wp2
   go_ret2
   exact ⟨ret_step (by simp [stepV]) (by simp [lineB, hp]), n0.b⟩
  have hp : inB pot 0 2 = false := inB_not.2 (by omega)
  go_enter Tryz.func113, Tryz.ntmps113
  go_wp2_with fail
  refine (place_any).mono ?_;rintro e w1 ⟨rfl, rfl⟩;rw [decide_eq_false (show ¬ (0 <= pot /\ pot < 3) by omega)]
  go_wp2
  go_ret2
  exact ⟨ret_step (by simp [stepV]) (by simp [lineB, hp]), n0.b⟩
 by_cases hk3 : kind = 3
 ·subst hk3
  by_cases hp : pot = 0
  ·subst hp
   by_cases hs : skip = 0
   ·subst hs
    go_enter Tryz.func113, Tryz.ntmps113
    go_wp2_with fail
    refine (iSmall_any C D (hC.below n0.b) (hD.below n0.b) hn hm).mono ?_;rintro e w1 ⟨rfl, b1⟩;obtain ⟨c0, c1, c2, c3, c4, c5⟩ := (n0.below b1).p.six
    go_wp2
    go_ret2
    exact ⟨ret_step (by simp [stepV]) (by simp [lineB, ]), (n0.below b1).b⟩
   have hs' : (skip == 0) = false := by simp [hs]
   go_enter Tryz.func113, Tryz.ntmps113
   go_wp2
   go_ret2
   exact ⟨ret_step (by simp [stepV]) (by simp [lineB, hs]), n0.b⟩
  have hp' : (pot == 0) = false := by simp [hp]
  go_enter Tryz.func113, Tryz.ntmps113
  go_wp2
  go_ret2
  exact ⟨ret_step (by simp [stepV]) (by simp [lineB, hp]), n0.b⟩
 have hk1' : (kind == 1) = false := by simp [hk1]
 have hk2' : (kind == 2) = false := by simp [hk2]
 have hk3' : (kind == 3) = false := by simp [hk3]
 by_cases hk4 : kind = 4
 ·subst hk4
  by_cases hp : pot = 0
  ·subst hp
   by_cases hs : skip = 0
   ·subst hs
    go_enter Tryz.func113, Tryz.ntmps113
    go_wp2_with fail
    refine (iNoth_any).mono ?_;rintro e w1 ⟨rfl, b1⟩;obtain ⟨c0, c1, c2, c3, c4, c5⟩ := (n0.below b1).p.six
    go_wp2
    go_ret2
    exact ⟨ret_step (by simp [stepV]) (by simp only [lineB, Int.reduceEq, if_false, beq_self_eq_true, Bool.true_and]), (n0.below b1).b⟩
   have hs' : (skip == 0) = false := by simp [hs]
   go_enter Tryz.func113, Tryz.ntmps113
   go_wp2
   go_ret2
   exact ⟨ret_step (by simp [stepV]) (by simp [lineB, hs]), n0.b⟩
  have hp' : (pot == 0) = false := by simp [hp]
  go_enter Tryz.func113, Tryz.ntmps113
  go_wp2
  go_ret2
  exact ⟨ret_step (by simp [stepV]) (by simp [lineB, hp]), n0.b⟩
 have hk4' : (kind == 4) = false := by simp [hk4]
 go_enter Tryz.func113, Tryz.ntmps113
 go_wp2
 go_ret2
 exact ⟨ret_step (by simp [stepV, hk1, hk2, hk3, hk4]) (by simp [lineB, hk1, hk2, hk3, hk4]), n0.b⟩
def LinesG (w : World) (ad : Option Addr) (ls : List LV) : Prop :=
 ∀ i, i < ls.length -> ∃ b off, ad = some ⟨b, off, none⟩ /\ (∀ r, r < 6 -> w.cell? ⟨b, off + i * 6 + r, none⟩ = (ls[i]?.getD noLV).cs[r]?) /\ (ls[i]?.getD noLV).f.At w
theorem cells_below {b o : Nat} (h : ∀ r, r < 6 -> w.cell? ⟨b, o + r, none⟩ = l.cs[r]?) (hb : Below w.heap.size w w') : ∀ r, r < 6 -> w'.cell? ⟨b, o + r, none⟩ = l.cs[r]? := fun r hr => by
 have hl : b < w.heap.size := by
  have := h 0 (by omega)
  exact block_lt (v := .int .i64 l.kind) (by rw [this]; rfl)
 rw [hb.cell (p := ⟨b, o + r, none⟩) hl]; exact h r hr
theorem LinesG.below {ad : Option Addr} (h : LinesG w ad ls) (hb : Below w.heap.size w w') : LinesG w' ad ls := fun i hi => by
 obtain ⟨b, off, e, hc, ha⟩ := h i hi
 exact ⟨b, off, e, cells_below hc hb, ha.below hb⟩
theorem six_of {b o : Nat} (h : ∀ r, r < 6 -> w.cell? ⟨b, o + r, none⟩ = l.cs[r]?) :
  w.cell? ⟨b, o, none⟩ = some (.int .i64 l.kind) /\ w.cell? ⟨b, o + 1, none⟩ = some (.int .i64 l.pot) /\ w.cell? ⟨b, o + 2, none⟩ = some (.int .i64 l.skip) /\ w.cell? ⟨b, o + 3, none⟩ = some (.slice l.f.a l.f.n l.f.cap) /\ w.cell? ⟨b, o + 4, none⟩ = some (.slice l.f.c l.f.m l.f.cap') /\ w.cell? ⟨b, o + 5, none⟩ = some (.int .i64 l.f.K) :=
 ⟨h 0 (by omega), h 1 (by omega), h 2 (by omega), h 3 (by omega), h 4 (by omega), h 5 (by omega)⟩
structure ML (W : World) (B lo N : Nat) (gs : List LV) (p q : Nat -> Nat) : Prop where
 c : ∃ vs : List Value, W.heap[B]? = some (.cells vs.toArray 153 (0, 0)) /\ vs.length = N * 6 /\ ∀ i, i < gs.length -> ∀ r, r < 6 -> vs[i * 6 + r]? = (gs[i]?.getD noLV).cs[r]?
 l : ∀ i, i < gs.length -> (gs[i]?.getD noLV).f.a = some ⟨p i, 0, none⟩ /\ (gs[i]?.getD noLV).f.c = some ⟨q i, 0, none⟩ /\ Blk W (p i) (gs[i]?.getD noLV).f.C /\ Blk W (q i) (gs[i]?.getD noLV).f.D /\ (gs[i]?.getD noLV).f.C.length = (gs[i]?.getD noLV).f.n /\ (gs[i]?.getD noLV).f.D.length = (gs[i]?.getD noLV).f.m /\ (gs[i]?.getD noLV).f.n <= 1048576 /\ (gs[i]?.getD noLV).f.m <= 1048576 /\ lo <= p i /\ p i < q i /\ q i < W.heap.size /\ ∀ j, j < i -> q j < p i
 b : B < lo
 s : lo <= W.heap.size
def LV.ok (l : LV) : Bool := lineB l.kind l.pot l.skip l.f.n l.f.m l.f.C l.f.D l.f.K
def LV.tst (l : LV) : Bool := l.kind == 1
def tests (ls : List LV) : Nat := ls.countP LV.tst
def actB (N : Nat) (ls : List LV) : Bool := decide ((N : Int) <= 6) && ls.all LV.ok && decide ((tests ls : Int) <= 3)
theorem allL_take_succ (h : k < ls.length) (h1 : (ls.take k).all LV.ok = true) (h2 : (ls[k]?.getD noLV).ok = true) : (ls.take (k + 1)).all LV.ok = true := by
 rw [qG h, List.all_append, h1];rw [qC h] at h2;simpa using h2
theorem allL_no (h : k < ls.length) (h2 : (ls[k]?.getD noLV).ok = false) : ls.all LV.ok = false := by
 rw [List.all_eq_false];rw [qC h] at h2
 exact ⟨ls[k], List.getElem_mem h, by simpa using h2⟩
theorem tests_succ (h : k < ls.length) : tests (ls.take (k + 1)) = tests (ls.take k) + (if (ls[k]?.getD noLV).tst then 1 else 0) := by
 unfold tests;rw [qG h, List.countP_append, qC h];simp [List.countP_cons]
theorem tests_yes (h : k < ls.length) {g : LV} (hg : ls[k]?.getD noLV = g) (hk : g.kind = 1) : tests (ls.take (k + 1)) = tests (ls.take k) + 1 := by
 rw [tests_succ h, hg, LV.tst, hk]; rfl
theorem tests_no (h : k < ls.length) {g : LV} (hg : ls[k]?.getD noLV = g) (hk : (g.kind == 1) = false) : tests (ls.take (k + 1)) = tests (ls.take k) := by
 rw [tests_succ h, hg, LV.tst, hk]; rfl
theorem sact_any {ad : Option Addr} (N cap : Nat) (ls : List LV) {w : World} (hN : ls.length = N) (hF : LinesG w ad ls) (hN1 : N <= 1048576) :
  Calls Tryz.prog 89 #[.slice ad N cap] w fun e w' => e = .returned (.bool (actB N ls)) /\ Below w.heap.size w w' := by
 have HN : Hid (ls.length = N) := hN;clear hN
 go_enter Tryz.func89, Tryz.ntmps89
 go_wp2_with fail
 go_loopw [3, 4] (fun t i wr => ∃ k : Nat, k <= N /\ i = .int .i64 k /\ (∃ j : Nat, j <= k /\ t = .int .i64 j /\ j = tests (ls.take k)) /\ Below w.heap.size w wr /\ (ls.take k).all LV.ok = true) (fun _ i _ => N - (intOf i).toNat)
 case atStart => exact ⟨0, qI _, rfl, ⟨0, qH _, rfl, rfl⟩, Below.refl _ _, by simp⟩
 case round =>
  obtain ⟨k, hk, rfl, ⟨j, hj, rfl, hjt⟩, hb, hall⟩ := hrel;have HA : Hid ((ls.take k).all LV.ok = true) := hall;have HJ : Hid (j = tests (ls.take k)) := hjt;clear hall hjt
  by_cases hlt : k < N
  ·obtain ⟨b, off, rfl, hc, hAt⟩ := (hF.below hb) k (by rw [HN.out]; exact hlt);generalize HG : ls[k]?.getD noLV = g at *;have HG' : Hid (ls[k]?.getD noLV = g) := HG;clear HG hF;obtain ⟨e0, e1, e2, e3, e4, e5⟩ := six_of hc;have HC : Hid _ := hc;clear hc;obtain ⟨gk, gp, gz, ⟨ga, gn, gcap, gc, gm, gcap', gK, gC, gD⟩⟩ := g;obtain ⟨iC, iD, hn, hm⟩ := hAt;simp only at e0 e1 e2 e3 e4 e5 iC iD hn hm
   cases hf : lineB gk gp gz gn gm gC gD gK
   ·go_wp2_with fail
    refine (sline_any gC gD iC iD hn hm).mono ?_;rintro e w1 ⟨rfl, b1⟩;have B1 := btr hb b1;rw [hf]
    go_wp2
    go_ret
    exact ⟨ret_bool (by rw [actB, allL_no (k := k) (by rw [HN.out]; exact hlt) (by rw [HG'.out]; exact hf)]; simp), B1⟩
   by_cases h1 : gk = 1
   ·subst h1;have HT : Hid (j + 1 = tests (ls.take (k + 1))) := by show j + 1 = _; rw [tests_yes (by rw [HN.out]; exact hlt) HG'.out rfl, <- HJ.out]
    go_wp2_with fail
    refine (sline_any gC gD iC iD hn hm).mono ?_;rintro e w1 ⟨rfl, b1⟩;have B1 := btr hb b1;obtain ⟨f0, f1, f2, f3, f4, f5⟩ := six_of (cells_below HC.out b1);simp only at f0;clear b1 hb iC iD e0 e1 e2 e3 e4 e5 f1 f2 f3 f4 f5;rw [hf]
    go_wp2
    go_roundw
    case rel => exact ⟨k + 1, by omega, by go_num, ⟨j + 1, by omega, by go_num, HT.out⟩, B1, allL_take_succ (by rw [HN.out]; exact hlt) HA.out (by rw [HG'.out]; exact hf)⟩
    case measure => simp [intOf]; omega
   have h1' : (gk == 1) = false := by simp [h1]
   have HT : Hid (j = tests (ls.take (k + 1))) := by show j = _; rw [tests_no (by rw [HN.out]; exact hlt) HG'.out h1', <- HJ.out]
   go_wp2_with fail
   refine (sline_any gC gD iC iD hn hm).mono ?_;rintro e w1 ⟨rfl, b1⟩;have B1 := btr hb b1;obtain ⟨f0, f1, f2, f3, f4, f5⟩ := six_of (cells_below HC.out b1);simp only at f0;clear b1 hb iC iD e0 e1 e2 e3 e4 e5 f1 f2 f3 f4 f5;rw [hf]
   go_wp2
   go_roundw
   case rel => exact ⟨k + 1, by omega, by go_num, ⟨j, by omega, rfl, HT.out⟩, B1, allL_take_succ (by rw [HN.out]; exact hlt) HA.out (by rw [HG'.out]; exact hf)⟩
   case measure => simp [intOf]; omega
  obtain rfl : k = N := by omega
  have HT : Hid (ls.take k = ls) := List.take_of_length_le (by rw [HN.out]; omega)
  have HAB : Hid (actB k ls = (decide ((k : Int) <= 6) && decide ((j : Int) <= 3))) := by
   show actB k ls = _
   have h1 := HA.out;have h2 := HJ.out;rw [HT.out] at h1 h2;rw [actB, h1, <- h2, Bool.and_true]
  by_cases h6 : (k : Int) <= 6
  ·go_wp2
   go_ret
   exact ⟨ret_bool (by rw [HAB.out]; simp; omega), hb⟩
  go_wp2
  go_ret
  exact ⟨ret_bool (by rw [HAB.out]; simp; omega), hb⟩
structure JS (w : World) (v : Value) (xs : List Value) (W : World) : Prop where
 b : Below w.heap.size w W
 o : W.ownsRow w.heap.size 156 1 v xs.length xs
theorem JS.nil (w : World) : JS w (.slice none 0 0) [] w := ⟨Below.refl _ _, World.ownsRow_nil w _ _ _⟩
theorem JS.below (j : JS w v xs W) (h : Below W.heap.size W W') : JS w v xs W' := by
 refine ⟨j.b.trans (h.mono j.b.size), j.o.1, ?_⟩
 rcases j.o.2 with h2 | ⟨g, cap, cur, hv, hg, hh, r⟩
 ·exact Or.inl h2
 exact Or.inr ⟨g, cap, cur, hv, hg, by rw [h.block g (lt_of_block hh)]; exact hh, r⟩
theorem JS.alloc (j : JS w v xs W) (o : Obj) : JS w v xs (W.alloc o) := j.below (bal)
theorem JS.app {y : Value} {g : Nat} {o : Obj} (j : JS w v xs W) (hk : xs.length = k) (hown : W'.ownsRow w.heap.size 156 1 (.slice (some ⟨g, 0, none⟩) (k + 1) cap) (k + 1) (xs ++ [y])) (hg : (W.alloc o).grownBy W' v.ownBlock) :
  JS w (.slice (some ⟨g, 0, none⟩) (k + 1) cap) (xs ++ [y]) W' := by
 have j' := j.alloc o;refine ⟨j'.b.grown hg j'.b.size (fun k hk => (j'.o.lt k hk).1), ?_⟩;rw [qF, hk]
 exact hown
theorem stepV_iface (h : l.ok = true) : ∃ ty v, stepV l = .iface ty v := by
 unfold stepV
 by_cases h1 : l.kind = 1
 ·rw [if_pos h1]; exact ⟨_, _, rfl⟩
 by_cases h2 : l.kind = 2
 ·rw [if_neg h1, if_pos h2]; exact ⟨_, _, rfl⟩
 by_cases h3 : l.kind = 3
 ·rw [if_neg h1, if_neg h2, if_pos h3]; exact ⟨_, _, rfl⟩
 by_cases h4 : l.kind = 4
 ·rw [if_neg h1, if_neg h2, if_neg h3, if_pos h4]; exact ⟨_, _, rfl⟩
 simp [LV.ok, lineB, h1, h2, h3, h4] at h
theorem news_one {x : Value} {t : TypeId} : ∀ j u, [x][j]? = some u -> (w.alloc (.cells #[x] t)).cell? ((⟨w.heap.size, 0, none⟩ : Addr).add j) = some u := fun j u hu => by
 match j, hu with
 | 0, hu =>
  simp only [qD, qA] at hu;subst hu;simp [Addr.add]
theorem Tryz.infoStep : (Tryz.prog.info? 156).map (fun i => (i.zero, i.size, i.bytes)) = some (some .nilIface, 1, 16) := by kernel_rfl
theorem isteps_any (ad : Option Addr) (N cap : Nat) (ls : List LV) {w : World} (hN : ls.length = N) (hF : LinesG w ad ls) (hN1 : N <= 1048576) :
  Calls Tryz.prog 68 #[.slice ad N cap] w fun e w' => ∃ sv, e = .returned (.tuple #[sv, .bool (actB N ls)]) /\ Below w.heap.size w w' /\ (actB N ls = true -> JS w sv (ls.map stepV) w') := by
 have HN : Hid (ls.length = N) := hN;clear hN;obtain ⟨i0, hi, hz0, hz1, hz2⟩ := info_parts Tryz.infoStep
 by_cases h6 : 6 < N
 ·have HB : Hid (actB N ls = false) := by show actB N ls = false; rw [actB, decide_eq_false (by omega)]; rfl
  go_enter Tryz.func68, Tryz.ntmps68
  go_wp2
  go_ret2
  exact ⟨_, ret_step rfl HB.out.symm, Below.refl _ _, fun h => by rw [HB.out] at h; cases h⟩
 have h6' : N <= 6 := by omega
 clear h6
 go_enter Tryz.func68, Tryz.ntmps68
 go_wp2_with fail
 go_loopw [4, 5, 7, 8, 9, 15] (fun v t _ _ _ i wr => ∃ k : Nat, k <= N /\ i = .int .i64 k /\ (∃ j : Nat, j <= k /\ t = .int .i64 j /\ j = tests (ls.take k)) /\ (∃ xs : List Value, xs.length = k /\ xs = (ls.take k).map stepV /\ JS w v xs wr) /\ (ls.take k).all LV.ok = true) (fun _ _ _ _ _ i _ => N - (intOf i).toNat)
 case atStart => exact ⟨0, qI _, rfl, ⟨0, qH _, rfl, rfl⟩, ⟨[], rfl, rfl, JS.nil w⟩, by simp⟩
 case round =>
  obtain ⟨k, hk, rfl, ⟨j, hj, rfl, hjt⟩, ⟨xs, hxl, hxs, jj⟩, hall⟩ := hrel;have HA : Hid ((ls.take k).all LV.ok = true) := hall;have HJ : Hid (j = tests (ls.take k)) := hjt;have HXL : Hid (xs.length = k) := hxl;have HXS : Hid (xs = (ls.take k).map stepV) := hxs;clear hall hjt hxl hxs
  by_cases hlt : k < N
  ·obtain ⟨b, off, rfl, hc, hAt⟩ := (hF.below jj.b) k (by rw [HN.out]; exact hlt)
   have HXX0 : Hid ((ls.take (k + 1)).map stepV = (ls.take k).map stepV ++ [stepV (ls[k]?.getD noLV)]) := by
    have hl : k < ls.length := by rw [HN.out]; exact hlt
    show _ = _
    rw [qG hl, List.map_append, qC hl]; rfl
   generalize HG : ls[k]?.getD noLV = g at *;have HG' : Hid (ls[k]?.getD noLV = g) := HG;clear HG hF;obtain ⟨e0, e1, e2, e3, e4, e5⟩ := six_of hc;clear hc;obtain ⟨gk, gp, gz, ⟨ga, gn, gcap, gc, gm, gcap', gK, gC, gD⟩⟩ := g;obtain ⟨iC, iD, hn, hm⟩ := hAt;simp only at e0 e1 e2 e3 e4 e5 iC iD hn hm
   cases hf : lineB gk gp gz gn gm gC gD gK
   ·have HB : Hid (actB N ls = false) := by show actB N ls = false; rw [actB, allL_no (k := k) (by rw [HN.out]; exact hlt) (by rw [HG'.out]; exact hf)]; simp
    go_wp2_with fail
    refine (istep_any gC gD (iC.alloc _) (iD.alloc _) hn hm).mono ?_;rintro e w1 ⟨rfl, b1⟩;have j1 := (jj.alloc _).below b1;rw [hf];obtain ⟨sv, hsv⟩ : ∃ sv, sv = stepV ⟨gk, gp, gz, ⟨ga, gn, gcap, gc, gm, gcap', gK, gC, gD⟩⟩ := ⟨_, rfl⟩
    rw [<- hsv]
    go_wp2
    go_ret2
    exact ⟨_, ret_step rfl HB.out.symm, j1.b, fun h => by rw [HB.out] at h; cases h⟩
   obtain ⟨ty, vv, hsv⟩ := stepV_iface (l := ⟨gk, gp, gz, ⟨ga, gn, gcap, gc, gm, gcap', gK, gC, gD⟩⟩) hf;have HSV : Hid (stepV ⟨gk, gp, gz, ⟨ga, gn, gcap, gc, gm, gcap', gK, gC, gD⟩⟩ = .iface ty vv) := hsv;have HS1 : Hid (∀ u ∈ [Value.iface ty vv], u.oneCell' = true) := fun u hu => by simp at hu; subst hu; rfl
   have HXX : Hid (xs ++ [.iface ty vv] = (ls.take (k + 1)).map stepV) := by show _ = _; rw [HXX0.out, HXS.out, hsv]
   clear hsv
   by_cases h1 : gk = 1
   ·subst h1;have HT : Hid (j + 1 = tests (ls.take (k + 1))) := by show j + 1 = _; rw [tests_yes (by rw [HN.out]; exact hlt) HG'.out rfl, <- HJ.out]
    go_wp2_with fail
    refine (istep_any gC gD (iC.alloc _) (iD.alloc _) hn hm).mono ?_;rintro e w1 ⟨rfl, b1⟩;have j1 := (jj.alloc _).below b1;have bx := (Cel.new wr _ _).below b1;obtain ⟨f0, f1, f2, f3, f4, f5⟩ := bx.six;have jo := j1.o;rw [HXL.out] at jo;have hjb := j1.b.size;rw [hf, HSV.out];clear jj b1 iC iD e0 e1 e2 e3 e4 e5 f1 f2 f3 f4 f5 bx
    go_wp2_with (at_builtin; go_must (refine wpList_append_lies _ rfl (.tmp 31) (.tmp 33) 110 rfl w.heap.size 156 i0 .nilIface 1 16 Tryz.underlying110 hi hz0 hz1 hz2 rfl (by decide) _ _ _ rfl (jo.alloc _) ⟨w1.heap.size, 0, none⟩ 1 1 [.iface ty vv] rfl rfl (news_one) HS1.out (by omega) (by unfold maxLen; omega) (by omega) (by rw [qB]; omega) _ rfl ?_); intro g cp w2 hown hgrow hat hlt1)
    have j2 := j1.app HXL.out hown hgrow;clear hown hgrow jo j1 hat
    go_wp2
    go_roundw
    case rel => exact ⟨k + 1, by omega, by go_num, ⟨j + 1, by omega, by go_num, HT.out⟩, ⟨_, by rw [qF, HXL.out]; rfl, HXX.out, j2⟩, allL_take_succ (by rw [HN.out]; exact hlt) HA.out (by rw [HG'.out]; exact hf)⟩
    case measure => simp [intOf]; omega
   have h1' : (gk == 1) = false := by simp [h1]
   have HT : Hid (j = tests (ls.take (k + 1))) := by show j = _; rw [tests_no (by rw [HN.out]; exact hlt) HG'.out h1', <- HJ.out]
   go_wp2_with fail
   refine (istep_any gC gD (iC.alloc _) (iD.alloc _) hn hm).mono ?_;rintro e w1 ⟨rfl, b1⟩;have j1 := (jj.alloc _).below b1;have bx := (Cel.new wr _ _).below b1;obtain ⟨f0, f1, f2, f3, f4, f5⟩ := bx.six;have jo := j1.o;rw [HXL.out] at jo;have hjb := j1.b.size;rw [hf, HSV.out];clear jj b1 iC iD e0 e1 e2 e3 e4 e5 f1 f2 f3 f4 f5 bx
   go_wp2_with (at_builtin; go_must (refine wpList_append_lies _ rfl (.tmp 31) (.tmp 33) 110 rfl w.heap.size 156 i0 .nilIface 1 16 Tryz.underlying110 hi hz0 hz1 hz2 rfl (by decide) _ _ _ rfl (jo.alloc _) ⟨w1.heap.size, 0, none⟩ 1 1 [.iface ty vv] rfl rfl (news_one) HS1.out (by omega) (by unfold maxLen; omega) (by omega) (by rw [qB]; omega) _ rfl ?_); intro g cp w2 hown hgrow hat hlt1)
   have j2 := j1.app HXL.out hown hgrow;clear hown hgrow jo j1 hat
   go_wp2
   go_roundw
   case rel => exact ⟨k + 1, by omega, by go_num, ⟨j, by omega, rfl, HT.out⟩, ⟨_, by rw [qF, HXL.out]; rfl, HXX.out, j2⟩, allL_take_succ (by rw [HN.out]; exact hlt) HA.out (by rw [HG'.out]; exact hf)⟩
   case measure => simp [intOf]; omega
  obtain rfl : k = N := by omega
  have HT : Hid (ls.take k = ls) := List.take_of_length_le (by rw [HN.out]; omega)
  have HAB : Hid (actB k ls = decide ((j : Int) <= 3)) := by
   show actB k ls = _
   have h1 := HA.out;have h2 := HJ.out;rw [HT.out] at h1 h2;rw [actB, h1, <- h2, Bool.and_true, decide_eq_true (by omega), Bool.true_and]
  have HX2 : Hid (xs = ls.map stepV) := by show _ = _; rw [HXS.out, HT.out]
  go_wp2
  go_ret2
  exact ⟨_, ret_step rfl HAB.out.symm, jj.b, fun _ => by rw [<- HX2.out]; exact jj⟩
theorem iact_any (ad : Option Addr) (N cap : Nat) (ls : List LV) {w : World} (hN : ls.length = N) (hF : LinesG w ad ls) (hN1 : N <= 1048576) :
  Calls Tryz.prog 127 #[.slice ad N cap] w fun e w' => e = .returned (.bool (actB N ls)) /\ Below w.heap.size w w' := by
 go_enter Tryz.func127, Tryz.ntmps127
 go_wp2_with fail
 refine (isteps_any _ _ _ ls hN hF hN1).mono ?_;rintro e w1 ⟨sv, rfl, b1, -⟩
 go_wp2
 go_ret
 exact ⟨rfl, b1⟩
def three (cs : List (List Value)) : Prop := ∀ c ∈ cs, c.length = 3
theorem Tryz.infoForm : (Tryz.prog.info? 95).map (fun i => (i.zero, i.size, i.bytes)) = some (some (.agg #[.slice none 0 0, .slice none 0 0, .int .i64 0]), 3, 56) := by kernel_rfl
def atF (V U : List Int) (f : FV) : Int := atV f.C f.D f.K V U
abbrev resV (code : Int) (a : Option Addr) (n cap : Nat) : Value := .agg #[.int .i64 code, .slice a n cap]
structure MK2 (W : World) (B N s k : Nat) (gs : List FV) (p q : Nat -> Nat) (wr : World) : Prop where
 c : ∃ cur : Array Value, wr.heap[B]? = some (.cells cur 95 (0, 0)) /\ cur.size = N * 3 /\ ∀ i, i < N -> cur[i * 3]? = some (.slice (gs[i]?.getD noFV).a (gs[i]?.getD noFV).n (gs[i]?.getD noFV).cap) /\ cur[i * 3 + 1]? = some (.slice (gs[i]?.getD noFV).c (gs[i]?.getD noFV).m (gs[i]?.getD noFV).cap')
 o : ∀ i, k <= i -> i < N -> Blk wr (p i) (gs[i]?.getD noFV).C /\ Blk wr (q i) (gs[i]?.getD noFV).D
 t : Touch (fun x => B <= x /\ x < s) W wr
def bd : Nat -> Int
 | 0 => 10000
 | n + 1 => 7 * bd n + 56
def goL (U : List Int) (ls : List LV) : Nat -> Nat -> List Int -> List Int -> Bool × List Int × List Int
 | 0, _, x, tl => (false, x, tl)
 | f + 1, i, x, tl =>
  if i < ls.length then
   if (ls[i]?.getD noLV).kind = 1 then goL U ls f (if atF x U (ls[i]?.getD noLV).f < 0 then i + 1 + (ls[i]?.getD noLV).skip.toNat else i + 1) x tl
   else if (ls[i]?.getD noLV).kind = 2 then goL U ls f (i + 1) (x.set (ls[i]?.getD noLV).pot.toNat (x[(ls[i]?.getD noLV).pot.toNat]?.getD 0 + atF x U (ls[i]?.getD noLV).f)) tl
   else if (ls[i]?.getD noLV).kind = 3 then goL U ls f (i + 1) x (tl ++ [atF x U (ls[i]?.getD noLV).f])
   else (true, x, tl)
  else (false, x, tl)
def runL (U : List Int) (ls : List LV) (V : List Int) : Bool × List Int × List Int := goL U ls 7 0 V []
structure At (U : List Int) (ls : List LV) (V : List Int) (i : Nat) (x tl : List Int) : Prop where
 r : ∃ f, 7 <= i + f /\ runL U ls V = goL U ls f i x tl
 b : i <= 6 -> bnd (bd i) x
 l : x.length = 3
 t : tl.length <= i
section
variable {w1 W W' : World} {Dd B cp : Nat} {ua : Option Addr} {cu : Nat} {v : Value} {x tl : List Int}
end
theorem izero_any (w : World) :
  Calls Tryz.prog 52 #[] w fun e w' => ∃ B1 B2, e = .returned (formV (some ⟨B1, 0, none⟩) 3 3 (some ⟨B2, 0, none⟩) 2 2 0) /\ Below w.heap.size w w' /\ w.heap.size <= B1 /\ B1 ≠ B2 /\ w.heap.size <= B2 /\ Blk w' B1 [0, 0, 0] /\ Blk w' B2 [0, 0] := by
 go_enter Tryz.func52, Tryz.ntmps52
 go_wp2_with fail
 refine (sum_any none 0 0 [] 0 rfl (fun i hi => by simp at hi) (fun i hi => by simp at hi)).mono ?_;rintro e w1 ⟨B1, B2, rfl, b1, h1, h2, h3, k1, k2⟩;have r := (Cel.new w _ _).below b1;have r0 := r.cell 0;have r1 := r.cell 1;have r2 := r.cell 2;have r3 := r.free 0;have r4 := r.free 1;have r5 := r.free 2;simp only [qD, qE] at r0 r1 r2;rw [qB] at h1 h3;have hb : Below w.heap.size w w1 := (bal).trans (b1.mono (by simp))
 go_wp2
 refine bodyPost_ret (v := formV (some ⟨B1, 0, none⟩) 3 3 (some ⟨B2, 0, none⟩) 2 2 0) (by simp [results, Tryz.results52, go_sem, r0, r1, r2, sumK]) rfl ⟨B1, B2, rfl, ?_, by omega, h2, by omega, ?_, ?_⟩
 ·exact ((hb.setCell (qH _) _).setCell (qH _) _).setCell (qH _) _
 ·exact ((k1.so).so).so
 exact ((k2.so).so).so
theorem szero_res (w : World) : Calls Tryz.prog 172 #[] w fun e w' => Res w w' e [0, 0, 0] [0, 0] 0 :=
 (szero_any w).mono fun e w' ⟨B1, B2, he, hb, h1, h2, h3, k1, k2⟩ => Res.of he rfl rfl hb h1 h2 h3 k1 k2
theorem izero_res (w : World) : Calls Tryz.prog 52 #[] w fun e w' => Res w w' e [0, 0, 0] [0, 0] 0 :=
 (izero_any w).mono fun e w' ⟨B1, B2, he, hb, h1, h2, h3, k1, k2⟩ => Res.of he rfl rfl hb h1 h2 h3 k1 k2
def potC (v : Int) : List Int := if 0 <= v /\ v <= 2 then [0, 0, 0].set v.toNat 1 else []
def potD (v : Int) : List Int := if 0 <= v /\ v <= 2 then [0, 0] else []
theorem potC_in (v : Int) (k : Nat) (hv : v = k) (hk : k <= 2 := by omega) : potC v = [0, 0, 0].set k 1 := by subst hv; unfold potC; rw [if_pos (by omega)]; rfl
theorem potD_in (v : Int) (h0 : 0 <= v := by omega) (h2 : v <= 2 := by omega) : potD v = [0, 0] := by unfold potD; rw [if_pos ⟨h0, h2⟩]
theorem potC_out (v : Int) (h : ¬ (0 <= v /\ v <= 2)) : potC v = [] := by unfold potC; rw [if_neg h]
theorem potD_out (v : Int) (h : ¬ (0 <= v /\ v <= 2)) : potD v = [] := by unfold potD; rw [if_neg h]
theorem ipot_any {v : Int} :
  Calls Tryz.prog 157 #[.int .i64 v] w fun e w' => Res w w' e (potC v) (potD v) 0 := by
 by_cases h : 0 <= v /\ v <= 2
 ·obtain ⟨h0, h2⟩ := h;have hi : inB v 0 2 = true := inB_iff.2 ⟨h0, h2⟩;obtain ⟨k, rfl⟩ := Int.eq_ofNat_of_zero_le h0;have hk : k < 3 := by omega
  have hk' : (k : Int) < 3 := by omega
  rw [potC_in (k : Int) k rfl, potD_in (k : Int)]
  go_enter Tryz.func157, Tryz.ntmps157
  go_wp2_with fail
  refine (place_any).mono ?_;rintro e w0 ⟨rfl, rfl⟩;rw [decide_eq_true (show 0 <= (k : Int) /\ (k : Int) < 3 from ⟨h0, hk'⟩)]
  go_wp2_with fail
  refine (izero_any _).mono ?_;rintro e w1 ⟨B1, B2, rfl, b1, g1, g2, g3, k1, k2⟩;rw [qB] at g1 g3;have r := (Cel.new w _ _).below b1;have hb : Below w.heap.size w w1 := (bal).trans (b1.mono (by simp));have hrl := r.lt
  have c0 : w1.cell? ⟨B1, k, none⟩ = some (.int .i64 0) := by
   have := k1.cell k (by simpa using hk);rw [this]
   match k, hk with
   | 0, _ => rfl
   | 1, _ => rfl
   | 2, _ => rfl
  have c1 := k1.free k;have hB1 := k1.lt;have hB2 := k2.lt;have k3 := k1.set k 1;have k4 := k2.setOther (B' := B1) (by omega) k (.int .i64 1);have r' := r.setOther (B' := B1) (by omega) k (.int .i64 1);have hb' := hb.setCell (p := ⟨B1, k, none⟩) (by show w.heap.size <= B1; omega) (.int .i64 1);have r0 := r'.cell 0;have r1 := r'.cell 1;have r2 := r'.cell 2;have r3 := r'.free 0;have r4 := r'.free 1;have r5 := r'.free 2;simp only [qD, qE] at r0 r1 r2;clear hi
  go_wp2
  refine bodyPost_ret (v := formV (some ⟨B1, 0, none⟩) 3 3 (some ⟨B2, 0, none⟩) 2 2 0) (by simp [results, Tryz.results157, go_sem, r0, r1, r2, hrl]) rfl (Res.of (B1 := B1) (B2 := B2) rfl (by simp) rfl ?_ (by omega) g2 (by omega) ?_ ?_)
  ·exact (((hb'.setCell (qH _) _).setCell (qH _) _).setCell (qH _) _).alloc (by rw [size_setCell, size_setCell, size_setCell, size_setCell]; omega) _
  ·exact (((k3.so).so).so).alloc _
  exact (((k4.so).so).so).alloc _
 rw [potC_out v h, potD_out v h]
 go_enter Tryz.func157, Tryz.ntmps157
 go_wp2_with fail
 refine (place_any).mono ?_;rintro e w0 ⟨rfl, rfl⟩;rw [decide_eq_false (show ¬ (0 <= v /\ v < 3) by omega)]
 go_wp2
 exact bodyPost_ret (v := formV none 0 0 none 0 0 0) (by simp [results, Tryz.results157, go_sem]) rfl (Res.none rfl (bal))
structure FA (w : World) (a : Option Addr) (n : Nat) (c : Option Addr) (m : Nat) (f : Frm) : Prop where
 C : Ints w a n f.1
 D : Ints w c m f.2.1
 hn : n <= 1048576
 hm : m <= 1048576
theorem FA.below {f : Frm} (h : FA w a n c m f) (b : Below w.heap.size w w') : FA w' a n c m f := ⟨h.C.below b, h.D.below b, h.hn, h.hm⟩
def Mk (w w' : World) (e : Ending) (f : Frm) : Prop := ∃ a n cap c m cap', e = .returned (formV a n cap c m cap' f.2.2) /\ FA w' a n c m f /\ Below w.heap.size w w'
theorem Mk.of {e : Ending} (h : Res w w' e C D K) (h1 : C.length <= 1048576) (h2 : D.length <= 1048576) : Mk w w' e (C, D, K) := by
 obtain ⟨a, n, cap, c, m, cap', B1, B2, he, rfl, rfl, hb, o1, o2, _, _, _⟩ := h
 exact ⟨a, _, cap, c, _, cap', he, ⟨o1.ints, o2.ints, h1, h2⟩, hb⟩
def okP (f : Frm) : Bool := formB f.1.length f.2.1.length f.1 f.2.1 f.2.2
def zeroP : Frm := ([0, 0, 0], [0, 0], 0)
theorem pZero : Calls Tryz.prog 52 #[] w fun e w' => Mk w w' e zeroP := (izero_res w).mono fun e w' h => Mk.of h (by simp) (by simp)
theorem pOk (f : Frm) (a : Option Addr) (n cap : Nat) (c : Option Addr) (m cap' : Nat) (w : World) (hf : FA w a n c m f) :
  Calls Tryz.prog 51 #[formV a n cap c m cap' f.2.2] w fun e w' => e = .returned (.bool (okP f)) /\ Below w.heap.size w w' := by
 obtain rfl := hf.C.1;obtain rfl := hf.D.1
 go_enter Tryz.func51, Tryz.ntmps51
 go_wp2_with fail
 refine (iok_any a cap c cap' f.2.2 f.1 f.2.1 (hf.C.alloc _) (hf.D.alloc _) hf.hn hf.hm).mono ?_;rintro e w1 ⟨rfl, b1⟩
 go_wp2
 go_ret
 exact ⟨rfl, (bal).trans (b1.mono (by simp))⟩
theorem coI_any (xs ys : List Int) (w : World) (h : Ints w a n xs) (h' : Ints w c m ys) (hn : n <= 1048576) (hm : m <= 1048576) :
  Calls Tryz.prog 17 #[.slice a n cap, .slice c m cap'] w fun e w' => e = .returned (.bool (eqB xs ys)) /\ Below w.heap.size w w' := by
 have hx := h.1;have HX : Hid (xs.length = n) := hx;have hy := h'.1;have HY : Hid (ys.length = m) := hy;clear hx hy
 by_cases hc : n = m
 ·subst hc
  go_enter Tryz.func17, Tryz.ntmps17
  go_wp2_with fail
  go_loopw [5] (fun i wr => ∃ k : Nat, k <= n /\ i = .int .i64 k /\ Below w.heap.size w wr /\ xs.take k = ys.take k) (fun i _ => n - (intOf i).toNat)
  case atStart => exact ⟨0, qI _, rfl, Below.refl _ _, rfl⟩
  case round =>
   obtain ⟨k, hk, rfl, hnx, hall⟩ := hrel;have HA : Hid (xs.take k = ys.take k) := hall;clear hall
   by_cases hlt : k < n
   ·obtain ⟨b, off, rfl, hcell⟩ := (h.below hnx).pos (by omega);obtain ⟨b', off', rfl, hcell'⟩ := (h'.below hnx).pos (by omega);have hck := hcell k hlt;have hck' := hcell' k hlt;have hlt' : (k : Int) < (n : Int) := by omega
    clear hcell hcell' h h'
    go_wp2_with fail
    go_quiet (fail)
    cases he : (xs[k]?.getD 0 != ys[k]?.getD 0)
    ·go_wp2
     go_roundw
     case rel => exact ⟨k + 1, by omega, by go_num, below_drewN hnx _, take_same_succ (by rw [HX.out]; exact hlt) (by rw [HY.out]; exact hlt) HA.out (by simpa using he)⟩
     case measure => simp [intOf]; omega
    go_wp2
    go_ret
    exact ⟨ret_bool (by rw [eqB_false (k := k) (by simpa using he)]), below_drewN hnx _⟩
   go_wp2
   go_ret
   exact ⟨ret_bool (by rw [eqB_true HX.out HY.out (by omega) HA.out]), hnx⟩
 have hne : ((n : Int) != (m : Int)) = true := by simp; omega
 go_enter Tryz.func17, Tryz.ntmps17
 go_wp2
 go_ret
 exact ⟨ret_bool (by rw [eqB_len (by rw [HX.out, HY.out]; exact hc)]), Below.refl _ _⟩
theorem coHolds_any : Calls Tryz.prog 14 #[] w fun e w' => e = .returned (.bool true) /\ Below w.heap.size w w' := by
 go_enter Tryz.func14, Tryz.ntmps14
 go_wp2_with fail
 refine (pZero).mono ?_;rintro e w1 ⟨a, n, cap, c, m, cap', rfl, h1, b1⟩
 go_wp2_with fail
 refine (pOk zeroP _ _ _ _ _ _ _ h1).mono ?_;rintro e w2 ⟨rfl, b2⟩;have hz : okP zeroP = true := by decide
 rw [hz]
 go_wp2
 go_ret
 exact ⟨rfl, btr b1 b2⟩
theorem i64_xor_nat (a b : Nat) (ha : a < 4294967296) (hb : b < 4294967296) : bits .xor .i64 (a : Int) (b : Int) = ((a ^^^ b : Nat) : Int) := by
 have hx : a ^^^ b < 2 ^ 32 := Nat.xor_lt_two_pow (by omega) (by omega)
 show IntKind.i64.wrap ((BitVec.ofInt 64 (a : Int) ^^^ BitVec.ofInt 64 (b : Int)).toNat : Int) = _
 rw [BitVec.toNat_xor, ofInt_u64 a (by omega), ofInt_u64 b (by omega), IntKind.wrap_i64]
 omega
theorem i64_xor_bnd {x : Int} (y : Int) (h1 : 0 <= x) (h2 : x < 4294967296) (h3 : 0 <= y) (h4 : y < 4294967296) : 0 <= bits .xor .i64 x y /\ bits .xor .i64 x y < 4294967296 := by
 obtain ⟨A, rfl⟩ := Int.eq_ofNat_of_zero_le h1;obtain ⟨B, rfl⟩ := Int.eq_ofNat_of_zero_le h3;have hx : A ^^^ B < 2 ^ 32 := Nat.xor_lt_two_pow (by omega) (by omega);rw [i64_xor_nat A B (by omega) (by omega)]
 omega
def BInts (w : World) (a : Option Addr) (n : Nat) (bs : List Int) : Prop :=
 bs.length = n /\ (∀ i, i < n -> ∃ b off, a = some ⟨b, off, none⟩ /\ w.cell? ⟨b, off + i, none⟩ = some (.int .u8 (bs.getD i 0))) /\ ∀ i : Nat, 0 <= bs[i]?.getD 0 /\ bs[i]?.getD 0 <= 255
theorem BInts.pos (h : BInts w a n zs) (hn : 0 < n) :
  ∃ b off, a = some ⟨b, off, none⟩ /\ ∀ i, i < n -> w.cell? ⟨b, off + i, none⟩ = some (.int .u8 (zs.getD i 0)) := by
 obtain ⟨b, off, hab, _⟩ := h.2.1 0 hn;refine ⟨b, off, hab, fun i hi => ?_⟩;obtain ⟨b', off', hab', hc⟩ := h.2.1 i hi;rw [hab] at hab';simp only [qA, Addr.mk.injEq, and_true] at hab';obtain ⟨rfl, rfl⟩ := hab'
 exact hc
theorem BInts.below (h : BInts w a n zs) (hb : Below w.heap.size w w') : BInts w' a n zs := by
 refine ⟨h.1, fun i hi => ?_, h.2.2⟩;obtain ⟨b, off, hab, hc⟩ := h.2.1 i hi
 exact ⟨b, off, hab, by rw [hb.cell (p := ⟨b, off + i, none⟩) (block_lt hc)]; exact hc⟩
theorem BInts.take (h : BInts w a n zs) (k : Nat) (hk : k <= n) : BInts w a k (zs.take k) := by
 refine ⟨by rw [List.length_take, h.1]; omega, fun i hi => ?_, fun i => ?_⟩
 ·obtain ⟨b, off, hab, hc⟩ := h.2.1 i (by omega)
  exact ⟨b, off, hab, by rw [hc]; simp [hi]⟩
 have := h.2.2 i
 by_cases hi : i < k
 ·rw [List.getElem?_take_of_lt hi]; exact this
 rw [List.getElem?_eq_none (by rw [List.length_take]; omega)]; simp
structure Rd (w : World) (R : Nat) (a : Option Addr) (n cap : Nat) (bs : List Int) (p : Int) : Prop where
 c : Cel w R [.slice a n cap, .int .i64 p] 132
 b : BInts w a n bs
 hn : n <= 2000
 ne : 0 < n -> ∀ b o, a = some ⟨b, o, none⟩ -> b ≠ R
theorem Rd.below {R : Nat} {bs : List Int} {p : Int} (h : Rd w R a n cap bs p) (b : Below w.heap.size w w') : Rd w' R a n cap bs p := ⟨h.c.below b, h.b.below b, h.hn, h.ne⟩
theorem pick_any (R : Nat) (a : Option Addr) (n cap : Nat) (bs : List Int) (p k : Int) {w : World} (hR : Rd w R a n cap bs p) (hp : 0 <= p := by omega) (hp1 : p <= 10000000 := by omega) (hk : 1 <= k := by omega) (hk1 : k <= 1000 := by omega) :
  Calls Tryz.prog 61 #[.pointer (some ⟨R, 0, none⟩), .int .i64 k] w fun e w' => ∃ r, 0 <= r /\ r < k /\ e = .returned (.int .i64 r) /\ Touch (fun x => x = R) w w' /\ Rd w' R a n cap bs (p + 1) := by
 obtain ⟨hc, hB, hn, hne⟩ := hR;have c0 := hc.cell 0;have c1 := hc.cell 1;have c2 := hc.free 1;simp only [qD, qE] at c0 c1;have T1 : Touch (fun x => x = R) w (w.setCell ⟨R, 1, none⟩ (.int .i64 (p + 1))) := Touch.setCell (S := fun x => x = R) (Touch.refl _ w) (B := R) rfl _
 have R1 : Rd (w.setCell ⟨R, 1, none⟩ (.int .i64 (p + 1))) R a n cap bs (p + 1) := by
  refine ⟨hc.set 1 _, ⟨hB.1, fun i hi => ?_, hB.2.2⟩, hn, hne⟩;obtain ⟨b, off, hab, hcc⟩ := hB.2.1 i hi
  exact ⟨b, off, hab, (World.cell?_of_block (Below.heap_setCell w ⟨R, 1, none⟩ _ b (hne (by omega) b off hab))).trans hcc⟩
 clear hc
 by_cases h0 : n = 0
 ·subst h0
  go_enter Tryz.func61, Tryz.ntmps61
  go_wp2
  go_ret
  exact ⟨0, by omega, by omega, rfl, T1, R1⟩
 obtain ⟨b, off, rfl, hcell⟩ := hB.pos (by omega);have hbR : ¬ b = R := hne (by omega) b off rfl;have hbR' : ¬ R = b := fun h => hbR h.symm;obtain ⟨q, rfl⟩ := Int.eq_ofNat_of_zero_le hp;have hn0 : ((n : Int) == 0) = false := by simp; omega
 by_cases hq : q < n
 ·have hq' : (q : Int) < (n : Int) := by omega
  have hx := hcell q hq;obtain ⟨x1, x2⟩ := hB.2.2 q;clear hcell hB
  go_enter Tryz.func61, Tryz.ntmps61
  go_wp2
  go_ret
  exact ⟨_, Int.emod_nonneg _ (by omega), Int.emod_lt_of_pos _ (by omega), rfl, T1, R1⟩
 have hq' : ¬ (q : Int) < (n : Int) := by omega
 have hnz : ¬ (n : Int) = 0 := by omega
 have hkz : ¬ k = 0 := by omega
 obtain ⟨i, hi⟩ : ∃ i : Nat, (q : Int) % (n : Int) = i := ⟨((q : Int) % (n : Int)).toNat, by have := Int.emod_nonneg (q : Int) hnz; omega⟩
 obtain ⟨j, hj⟩ : ∃ j : Nat, ((q : Int) * 7 + 3) % (n : Int) = j := ⟨(((q : Int) * 7 + 3) % (n : Int)).toNat, by have := Int.emod_nonneg ((q : Int) * 7 + 3) hnz; omega⟩
 have hi1 : (i : Int) < n := by rw [<- hi]; exact Int.emod_lt_of_pos _ (by omega)
 have hj1 : (j : Int) < n := by rw [<- hj]; exact Int.emod_lt_of_pos _ (by omega)
 have hx := hcell i (by omega);have hy := hcell j (by omega);obtain ⟨x1, x2⟩ := hB.2.2 i;obtain ⟨x3, x4⟩ := hB.2.2 j;have d1 : 0 <= (q : Int) / (n : Int) := Int.ediv_nonneg (by omega) (by omega);have d2 : (q : Int) / (n : Int) <= q := Int.ediv_le_self _ (by omega);clear hcell hB
 go_enter Tryz.func61, Tryz.ntmps61
 go_wp2_with fail
 go_quiet (fail)
 go_wp2
 go_ret
 have X1 : 0 <= bs[i]?.getD 0 * 131 + bs[j]?.getD 0 * 1117 + (q : Int) * 29 + (q : Int) / (n : Int) * 53 := by omega
 have X2 : bs[i]?.getD 0 * 131 + bs[j]?.getD 0 * 1117 + (q : Int) * 29 + (q : Int) / (n : Int) * 53 < 4294967296 := by omega
 have X3 := i64_xor_bnd ((bs[i]?.getD 0 * 131 + bs[j]?.getD 0 * 1117 + (q : Int) * 29 + (q : Int) / (n : Int) * 53) / 64) X1 (by omega) (by omega) (by omega);have bd := below_drewN (Below.refl (w.setCell ⟨R, 1, none⟩ (.int .i64 ((q : Int) + 1))).heap.size (w.setCell ⟨R, 1, none⟩ (.int .i64 ((q : Int) + 1))))
 exact ⟨_, Int.tmod_nonneg _ X3.1, Int.tmod_lt_of_pos _ (by omega), rfl, T1.trans (Touch.of (bd _)), R1.below (bd _)⟩
theorem Rd.touch {S : Nat -> Prop} {R : Nat} {bs : List Int} {p : Int} (h : Rd w R a n cap bs p) (t : Touch S w w') (hR : ¬ S R) (hS : 0 < n -> ∀ b o, a = some ⟨b, o, none⟩ -> ¬ S b) : Rd w' R a n cap bs p := by
 refine ⟨h.c.touch t hR, ⟨h.b.1, fun i hi => ?_, h.b.2.2⟩, h.hn, h.ne⟩;obtain ⟨b, off, hab, hcc⟩ := h.b.2.1 i hi
 exact ⟨b, off, hab, (World.cell?_of_block (t.block b (block_lt hcc) (hS (by omega) b off hab))).trans hcc⟩
theorem open_any (bs : List Int) {w : World} (h : BInts w a n bs) (hn : n <= cap) (hn1 : n <= 1048576) (hc : cap <= maxLen) :
  Calls Tryz.prog 41 #[.slice a n cap] w fun e w' => ∃ R n' cap2 bs', e = .returned (.pointer (some ⟨R, 0, none⟩)) /\ Below w.heap.size w w' /\ w.heap.size <= R /\ Rd w' R a n' cap2 bs' 0 := by
 have key : ∀ k, k <= n -> k <= 2000 -> ∀ cap2 : Nat, Rd (w.alloc (.cells #[.slice a k cap2, .int .i64 0] 132)) w.heap.size a k cap2 (bs.take k) 0 := by
  intro k hk hk2 cap2;refine ⟨Cel.new w _ _, (h.take k hk).below (bal), hk2, fun h0 b o hab => ?_⟩;obtain ⟨b', o', hab', hcc⟩ := h.2.1 0 (by omega);rw [hab] at hab';simp only [qA, Addr.mk.injEq, and_true] at hab';have := block_lt hcc
  omega
 unfold maxLen at hc
 by_cases h2 : n <= 2000
 ·go_enter Tryz.func41, Tryz.ntmps41
  go_wp2
  go_ret
  exact ⟨_, n, cap, _, rfl, bal, qH _, key n (qH _) h2 cap⟩
 obtain ⟨b, off, rfl, hcell⟩ := h.pos (by omega)
 go_enter Tryz.func41, Tryz.ntmps41
 go_wp2
 go_ret
 exact ⟨_, 2000, cap, _, rfl, bal, qH _, key 2000 (by omega) (by omega) cap⟩
structure F32 (w : World) (lo B1 B2 : Nat) (C D : List Int) : Prop where
 k1 : Blk w B1 C
 k2 : Blk w B2 D
 l1 : C.length = 3
 l2 : D.length = 2
 b1 : lo <= B1
 b2 : lo <= B2
 ne : B1 ≠ B2
theorem F32.below (h : F32 w lo B1 B2 C D) (b : Below w.heap.size w w') : F32 w' lo B1 B2 C D := ⟨h.k1.below b, h.k2.below b, h.l1, h.l2, h.b1, h.b2, h.ne⟩
theorem F32.setOther {X : Nat} (h : F32 w lo B1 B2 C D) (h1 : B1 ≠ X) (h2 : B2 ≠ X) (i : Nat) (v : Value) : F32 (w.setCell ⟨X, i, none⟩ v) lo B1 B2 C D := ⟨h.k1.setOther h1 _ _, h.k2.setOther h2 _ _, h.l1, h.l2, h.b1, h.b2, h.ne⟩
theorem F32.setD (h : F32 w lo B1 B2 C D) (i : Nat) (x : Int) : F32 (w.setCell ⟨B2, i, none⟩ (.int .i64 x)) lo B1 B2 C (D.set i x) := ⟨h.k1.setOther h.ne _ _, h.k2.set i x, h.l1, by rw [List.length_set]; exact h.l2, h.b1, h.b2, h.ne⟩
theorem F32.setC (h : F32 w lo B1 B2 C D) (i : Nat) (x : Int) : F32 (w.setCell ⟨B1, i, none⟩ (.int .i64 x)) lo B1 B2 (C.set i x) D := ⟨h.k1.set i x, h.k2.setOther (fun e => h.ne e.symm) _ _, by rw [List.length_set]; exact h.l1, h.l2, h.b1, h.b2, h.ne⟩
theorem F32.mono {lo' : Nat} (h : F32 w lo B1 B2 C D) (hl : lo' <= lo) : F32 w lo' B1 B2 C D := ⟨h.k1, h.k2, h.l1, h.l2, Nat.le_trans hl h.b1, Nat.le_trans hl h.b2, h.ne⟩
theorem szero_f : Calls Tryz.prog 172 #[] w fun e w' => ∃ B1 B2, e = .returned (formV (some ⟨B1, 0, none⟩) 3 3 (some ⟨B2, 0, none⟩) 2 2 0) /\ Below w.heap.size w w' /\ F32 w' w.heap.size B1 B2 [0, 0, 0] [0, 0] :=
 (szero_any w).mono fun e w' ⟨B1, B2, he, hb, h1, h2, h3, k1, k2⟩ => ⟨B1, B2, he, hb, k1, k2, rfl, rfl, h1, h3, h2⟩
theorem num_f (a b k : Int) {w : World} : Calls Tryz.prog 170 #[.int .i64 a, .int .i64 b, .int .i64 k] w fun e w' => ∃ B1 B2, e = .returned (formV (some ⟨B1, 0, none⟩) 3 3 (some ⟨B2, 0, none⟩) 2 2 k) /\ Below w.heap.size w w' /\ F32 w' w.heap.size B1 B2 [0, 0, 0] [a, b] := by
 have bx := Cel.new w [.slice none 0 0, .slice none 0 0, .int .i64 0] 95;have B0 := (Below.refl w.heap.size w).alloc (qH _) (.cells #[.slice none 0 0, .slice none 0 0, .int .i64 0] 95)
 go_enter Tryz.func170, Tryz.ntmps170
 go_wp2_with fail
 refine (szero_f).mono ?_;rintro e w1 ⟨B1, B2, rfl, b1, f1⟩;have al := (Below.refl w1.heap.size w1).alloc (qH _) (.cells #[.slice (some ⟨B1, 0, none⟩) 3 3, .slice (some ⟨B2, 0, none⟩) 2 2, .int .i64 0] 95);have b2 := btr b1 al;have bx2 := bx.below b2;have BW := btr B0 b2;have f2 := f1.below al;have cb := Cel.new w1 [.slice (some ⟨B1, 0, none⟩) 3 3, .slice (some ⟨B2, 0, none⟩) 2 2, .int .i64 0] 95;have z1 := f1.b1;have z2 := f1.b2;rw [qB] at z1 z2;have lt1 := f1.k1.lt;have lt2 := f1.k2.lt;obtain ⟨W1, hW1⟩ : ∃ W, W = w1.alloc (.cells #[.slice (some ⟨B1, 0, none⟩) 3 3, .slice (some ⟨B2, 0, none⟩) 2 2, .int .i64 0] 95) := ⟨_, rfl⟩
 have hbw := bx.lt;have hlw : w.heap.size < w1.heap.size := (bx.below b1).lt
 go_upto_region 2 with fail
 rw [<- hW1] at bx2 BW f2 cb ⊢;clear hW1 bx B0 b1 al b2 f1;have c0 := cb.cell 0;have c1 := cb.cell 1;have c2 := cb.cell 2;simp only [qD, qE] at c0 c1 c2;have d0 := f2.k2.cell 0 (by decide);have d1 := f2.k2.cell 1 (by decide);have e0 := f2.k2.free 0;have e1 := f2.k2.free 1;have q2 := cb.free 2;have r0 := bx2.cell 0;have r1 := bx2.cell 1;have r2 := bx2.cell 2;have g0 := bx2.free 0;have g1 := bx2.free 1;have g2 := bx2.free 2;simp only [qD, qE] at r0 r1 r2;have lt3 := bx2.lt;have lt4 := cb.lt;have lt5 := f2.k2.lt;have n1 : ¬ B2 = w1.heap.size := by omega
 have n2 : ¬ B2 = w.heap.size := by omega
 have n3 : ¬ w1.heap.size = w.heap.size := by omega
 have n4 : ¬ w1.heap.size = B2 := by omega
 have n5 : ¬ w.heap.size = B2 := by omega
 have n6 : ¬ w.heap.size = w1.heap.size := by omega
 go_wp2
 refine bodyPost_ret (v := formV (some ⟨B1, 0, none⟩) 3 3 (some ⟨B2, 0, none⟩) 2 2 k) (by simp [results, Tryz.results170, go_sem, r0, r1, r2]) rfl ⟨B1, B2, rfl, ?_, ?_⟩
 ·exact (((((BW.setCell (p := ⟨B2, 0, none⟩) (by show w.heap.size <= B2; omega) _).setCell (p := ⟨B2, 1, none⟩) (by show w.heap.size <= B2; omega) _).setCell (p := ⟨w1.heap.size, 2, none⟩) (by show w.heap.size <= w1.heap.size; omega) _).setCell (qH _) _).setCell (qH _) _).setCell (qH _) _
 have m1 : B1 ≠ w1.heap.size := by omega
 have m2 : B1 ≠ w.heap.size := by omega
 exact ((((((f2.setD 0 a).setD 1 b).setOther m1 n1 2 _).setOther m2 n2 0 _).setOther m2 n2 1 _).setOther m2 n2 2 _).mono (by rw [qB]; omega)
theorem Touch.setNewF {S : Nat -> Prop} (h : Touch S w W) {B : Nat} (hB : w.heap.size <= B) (i : Nat) (v : Value) : Touch S w (W.setCell ⟨B, i, none⟩ v) :=
 ⟨h.os, h.tape, h.output, by rw [size_setCell]; exact h.size, fun k hk hs => by rw [Below.heap_setCell _ _ _ _ (by simp only []; omega)]; exact h.block k hk hs⟩
theorem with_f (B1 B2 v : Nat) (x K : Int) {lo : Nat} {C D : List Int} {w : World} (hf : F32 w lo B1 B2 C D) (hv : v < 3 := by omega) :
  Calls Tryz.prog 169 #[formV (some ⟨B1, 0, none⟩) 3 3 (some ⟨B2, 0, none⟩) 2 2 K, .int .i64 v, .int .i64 x] w fun e w' => e = .returned (formV (some ⟨B1, 0, none⟩) 3 3 (some ⟨B2, 0, none⟩) 2 2 K) /\ Touch (fun z => z = B1) w w' /\ F32 w' lo B1 B2 (C.set v x) D := by
 have lt1 := hf.k1.lt;have lt2 := hf.k2.lt;have al := ((Below.refl w.heap.size w).alloc (qH _) (.cells #[.slice (some ⟨B1, 0, none⟩) 3 3, .slice (some ⟨B2, 0, none⟩) 2 2, .int .i64 K] 95)).alloc (by simp) (.cells #[.slice none 0 0, .slice none 0 0, .int .i64 0] 95);have pb := (Cel.new w [.slice (some ⟨B1, 0, none⟩) 3 3, .slice (some ⟨B2, 0, none⟩) 2 2, .int .i64 K] 95).alloc (.cells #[.slice none 0 0, .slice none 0 0, .int .i64 0] 95);have rb := Cel.new (w.alloc (.cells #[.slice (some ⟨B1, 0, none⟩) 3 3, .slice (some ⟨B2, 0, none⟩) 2 2, .int .i64 K] 95)) [.slice none 0 0, .slice none 0 0, .int .i64 0] 95;rw [qB] at rb;have f2 := hf.below al;obtain ⟨W1, hW1⟩ : ∃ W, W = (w.alloc (.cells #[.slice (some ⟨B1, 0, none⟩) 3 3, .slice (some ⟨B2, 0, none⟩) 2 2, .int .i64 K] 95)).alloc (.cells #[.slice none 0 0, .slice none 0 0, .int .i64 0] 95) := ⟨_, rfl⟩
 have hv3 : (v : Int) < 3 := by omega
 go_enter Tryz.func169, Tryz.ntmps169
 go_upto_region 1 with fail
 rw [<- hW1] at al pb rb f2 ⊢;clear hW1 hf;have c0 := pb.cell 0;have c1 := pb.cell 1;have c2 := pb.cell 2;have r0 := rb.cell 0;have r1 := rb.cell 1;have r2 := rb.cell 2;have g0 := rb.free 0;have g1 := rb.free 1;have g2 := rb.free 2;simp only [qD, qE] at c0 c1 c2 r0 r1 r2;have d0 := f2.k1.cell v (by rw [f2.l1]; exact hv);have e0 := f2.k1.free v;have lt3 := pb.lt;have lt4 := rb.lt;have lt5 := f2.k1.lt;have n1 : ¬ B1 = w.heap.size := by omega
 have n2 : ¬ B1 = w.heap.size + 1 := by omega
 have n3 : ¬ w.heap.size = B1 := by omega
 have n4 : ¬ w.heap.size + 1 = B1 := by omega
 go_wp2
 refine bodyPost_ret (v := formV (some ⟨B1, 0, none⟩) 3 3 (some ⟨B2, 0, none⟩) 2 2 K) (by simp [results, Tryz.results169, go_sem, r0, r1, r2]) rfl ⟨rfl, ?_, ?_⟩
 ·have t1 : Touch (fun z => z = B1) w (W1.setCell ⟨B1, v, none⟩ (.int .i64 x)) := Touch.setCell (S := fun z => z = B1) (Touch.of al) rfl _
  exact ((t1.setNewF (B := w.heap.size + 1) (by omega) 0 _).setNewF (B := w.heap.size + 1) (by omega) 1 _).setNewF (B := w.heap.size + 1) (by omega) 2 _
 have m1 : B1 ≠ w.heap.size + 1 := n2;have m2 : B2 ≠ w.heap.size + 1 := by omega
 exact (((f2.setC v x).setOther m1 m2 0 _).setOther m1 m2 1 _).setOther m1 m2 2 _
end Go.Proofs.YtpmihhbgjimpmaaGreatDoor
