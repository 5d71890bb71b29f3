/-
  Lines of acts: a copy of one, one held against another, its size; when one is ok; the step that the program makes of one. Lengths at most 1048576.
-/
import Derived.Test.YtfmpcihghlnlnaaGreatDoorQI
namespace Go.Proofs.YtfmpcihghlnlnaaGreatDoor
open Go.ChangeShapes Go.WideShapes Go.ChangeAt Go.RowKit Go.Joins Go.Deep
open World renaming size_alloc → qA
set_option linter.unusedVariables false
set_option maxRecDepth 100000
set_option maxHeartbeats 25600000
variable {B cap cap' m n : Nat} {K kind pot skip : Int} {a c : Option Addr} {w : World}
abbrev lineV (kind pot skip : Int) (a : Option Addr) (n cap : Nat) (c : Option Addr) (m cap' : Nat) (K : Int) : Value := .agg #[.int .i64 kind, .int .i64 pot, .int .i64 skip, .slice a n cap, .slice c m cap', .int .i64 K]
theorem Cel.six {x0 x1 x2 x3 x4 x5 : Value} {t : TypeId} (h : Cel w B [x0, x1, x2, x3, x4, x5] t) : w.cell? ⟨B, 0, none⟩ = some x0 /\ w.cell? ⟨B, 1, none⟩ = some x1 /\ w.cell? ⟨B, 2, none⟩ = some x2 /\ w.cell? ⟨B, 3, none⟩ = some x3 /\ w.cell? ⟨B, 4, none⟩ = some x4 /\ w.cell? ⟨B, 5, none⟩ = some x5 := ⟨h.cell 0, h.cell 1, h.cell 2, h.cell 3, h.cell 4, h.cell 5⟩
theorem Cel.frees {vs : List Value} {t : TypeId} (h : Cel w B vs t) : w.frozen? ⟨B, 0, none⟩ = false /\ w.frozen? ⟨B, 1, none⟩ = false /\ w.frozen? ⟨B, 2, none⟩ = false /\ w.frozen? ⟨B, 3, none⟩ = false /\ w.frozen? ⟨B, 4, none⟩ = false /\ w.frozen? ⟨B, 5, none⟩ = false := ⟨h.free 0, h.free 1, h.free 2, h.free 3, h.free 4, h.free 5⟩
structure BL (w : World) (B : Nat) (la : List Value) (ty : TypeId) (W : World) : Prop where
 p : Cel W B la ty
 b : Below w.heap.size w W
theorem BL.new (w : World) (la : List Value) (ty : TypeId) : BL w w.heap.size la ty (w.alloc (.cells la.toArray ty)) := ⟨Cel.new w la ty, bal⟩
theorem BL.below {W W' : World} {la : List Value} {ty : TypeId} (h : BL w B la ty W) (b : Below W.heap.size W W') : BL w B la ty W' := ⟨h.p.below b, h.b.trans (b.mono h.b.size)⟩
theorem BL.alloc {W : World} {la : List Value} {ty : TypeId} (h : BL w B la ty W) (o : Obj) : BL w B la ty (W.alloc o) := h.below (bal)
theorem szL_any {l : Int} (hn : n <= maxLen) (hm : m <= maxLen) (h0 : 0 <= l) (hl : l <= 1048576) :
  Calls Tryz.prog 54 #[lineV kind pot skip a n cap c m cap' K, .int .i64 l] w fun e w' => e = .returned (.int .i64 (leftOf (leftOf l n) m)) /\ Below w.heap.size w w' := by
 have g2 := leftOf_ge (leftOf l n) m;have n0 := BL.new w [.int .i64 kind, .int .i64 pot, .int .i64 skip, .slice a n cap, .slice c m cap', .int .i64 K] 102
 by_cases h : leftOf (leftOf l n) m < 0
 ·go_enter Tryz.func54, Tryz.ntmps54
  go_wp2_with fail
  refine (szF_any hn hm h0 hl).mono ?_;rintro e w1 ⟨rfl, b1⟩
  go_wp2
  go_ret
  exact ⟨ret_int (by omega), (n0.below b1).b⟩
 go_enter Tryz.func54, Tryz.ntmps54
 go_wp2_with fail
 refine (szF_any hn hm h0 hl).mono ?_;rintro e w1 ⟨rfl, b1⟩
 go_wp2
 go_ret
 exact ⟨rfl, (n0.below b1).b⟩
theorem toL_any (C D : List Int) {w : World} (hC : Ints w a n C) (hD : Ints w c m D) (hn : n <= 1048576) (hm : m <= 1048576) :
  Calls Tryz.prog 72 #[lineV kind pot skip a n cap c m cap' K] w fun e w' => ∃ B1 B2, e = .returned (lineV kind pot skip (some ⟨B1, 0, none⟩) n n (some ⟨B2, 0, none⟩) m m K) /\ Below w.heap.size w w' /\ w.heap.size <= B1 /\ B1 < B2 /\ Blk w' B1 C /\ Blk w' B2 D := by
 go_enter Tryz.func72, Tryz.ntmps72
 go_wp2_with fail
 refine (toF_any C D (((hC.alloc _).alloc _).alloc _) (((hD.alloc _).alloc _).alloc _) hn hm).mono ?_;rintro e w1 ⟨B1, B2, rfl, b1, o1, o2, k1, k2⟩;have rr := ((Cel.new (w.alloc _) _ _).alloc _).below b1;have rx := (Cel.new ((w.alloc _).alloc _) _ _).below b1;rw [qA] at rr;rw [qA, qA] at rx;rw [qA, qA, qA] at o1;have B3 : Below w.heap.size w w1 := (((bal).alloc (by simp) _).alloc (by simp; omega) _).trans (b1.mono (by simp; omega));have s1 := k1.lt;have s2 := k2.lt;clear b1;obtain ⟨d0, d1, d2, d3, d4, d5⟩ := rx.six;obtain ⟨e0, e1, e2, e3, e4, e5⟩ := rr.six;obtain ⟨f0, f1, f2, f3, f4, f5⟩ := rx.frees;obtain ⟨h0, h1, h2, h3, h4, h5⟩ := rr.frees;have hlt1 : w.heap.size + 1 < w1.heap.size := by omega
 have hlt2 : w.heap.size + 1 + 1 < w1.heap.size := by omega
 go_wp2
 refine bodyPost_ret (v := lineV kind pot skip (some ⟨B1, 0, none⟩) n n (some ⟨B2, 0, none⟩) m m K) (by simp [results, Tryz.results72, go_sem, e0, e1, e2, e3, e4, e5]) rfl ⟨B1, B2, rfl, ?_, by omega, o2, ?_, ?_⟩
 ·exact ((((((((B3.setCell (by simp only []; omega) _).setCell (by simp only []; omega) _).setCell (by simp only []; omega) _).setCell (by simp only []; omega) _).setCell (by simp only []; omega) _).setCell (by simp only []; omega) _).setCell (by simp only []; omega) _).setCell (by simp only []; omega) _).setCell (by simp only []; omega) _
 ·exact ((((((((k1.so).so).so).so).so).so).so).so).so
 exact ((((((((k2.so).so).so).so).so).so).so).so).so
theorem eqL_same (C D : List Int) {a' : Option Addr} {n' cap2 : Nat} {c' : Option Addr} {m' cap3 : Nat} {K' : Int} (C' D' : List Int) {w : World}
  (hC : Ints w a n C) (hD : Ints w c m D) (hC' : Ints w a' n' C') (hD' : Ints w c' m' D') (hn : n <= 1048576) (hm : m <= 1048576) (hn' : n' <= 1048576) (hm' : m' <= 1048576) (he : eqF C D K C' D' K' = true) :
  Calls Tryz.prog 92 #[lineV kind pot skip a n cap c m cap' K, lineV kind pot skip a' n' cap2 c' m' cap3 K'] w fun e w' => e = .returned (.bool true) /\ Below w.heap.size w w' := by
 have h1 : (kind != kind) = false := by simp
 have h2 : (pot != pot) = false := by simp
 have h3 : (skip != skip) = false := by simp
 have HE : Hid (eqF C D K C' D' K' = true) := he;clear he
 go_enter Tryz.func92, Tryz.ntmps92
 go_wp2_with fail
 refine (eqF_any C D C' D' ((hC.alloc _).alloc _) ((hD.alloc _).alloc _) ((hC'.alloc _).alloc _) ((hD'.alloc _).alloc _) hn hm hn' hm').mono ?_;rintro e w1 ⟨rfl, b1⟩;rw [HE.out]
 go_wp2
 go_ret
 exact ⟨rfl, ((bal).alloc (by simp) _).trans (b1.mono (by simp; omega))⟩
def stepV (l : LV) : Value :=
 if l.kind = 1 then .iface 216 (.agg #[.int .i64 l.skip, .slice l.f.a l.f.n l.f.cap, .slice l.f.c l.f.m l.f.cap', .int .i64 l.f.K])
 else if l.kind = 2 then .iface 218 (.agg #[.int .i64 l.pot, .slice l.f.a l.f.n l.f.cap, .slice l.f.c l.f.m l.f.cap', .int .i64 l.f.K])
 else if l.kind = 3 then .iface 220 (.agg #[.slice l.f.a l.f.n l.f.cap, .slice l.f.c l.f.m l.f.cap', .int .i64 l.f.K])
 else if l.kind = 4 then .iface 222 (.agg #[])
 else .nilIface
theorem sline_any (C D : List Int) {w : World} (hC : Ints w a n C) (hD : Ints w c m D) (hn : n <= 1048576) (hm : m <= 1048576) :
  Calls Tryz.prog 97 #[lineV kind pot skip a n cap c m cap' K] w fun e w' => e = .returned (.bool (lineB kind pot skip n m C D K)) /\ Below w.heap.size w w' := by
 have n0 := BL.new w [.int .i64 kind, .int .i64 pot, .int .i64 skip, .slice a n cap, .slice c m cap', .int .i64 K] 123
 by_cases hk1 : kind = 1
 ·subst hk1
  by_cases hp : pot = 0
  ·subst hp
   cases hs : inB skip 1 6
   ·go_enter Tryz.func97, Tryz.ntmps97
    go_wp2_with fail
    refine (in_any).mono ?_;rintro e w1 ⟨rfl, rfl⟩;rw [hs]
    go_wp2
    go_ret
    exact ⟨ret_bool (by simp [lineB, hs]), n0.b⟩
   go_enter Tryz.func97, Tryz.ntmps97
   go_wp2_with fail
   refine (in_any).mono ?_;rintro e w1 ⟨rfl, rfl⟩;rw [hs]
   go_wp2_with fail
   refine (sSmall_any C D (hC.below n0.b) (hD.below n0.b) hn hm).mono ?_;rintro e w1 ⟨rfl, b1⟩
   go_wp2
   go_ret
   exact ⟨ret_bool (by simp [lineB, hs]), (n0.below b1).b⟩
  have hp' : (pot == 0) = false := by simp [hp]
  go_enter Tryz.func97, Tryz.ntmps97
  go_wp2
  go_ret
  exact ⟨ret_bool (by simp [lineB, hp]), n0.b⟩
 by_cases hk2 : kind = 2
 ·subst hk2
  cases hp : inB pot 0 2
  ·go_enter Tryz.func97, Tryz.ntmps97
   go_wp2_with fail
   refine (in_any).mono ?_;rintro e w1 ⟨rfl, rfl⟩;rw [hp]
   go_wp2
   go_ret
   exact ⟨ret_bool (by simp [lineB, hp]), n0.b⟩
  by_cases hs : skip = 0
  ·subst hs
   go_enter Tryz.func97, Tryz.ntmps97
   go_wp2_with fail
   refine (in_any).mono ?_;rintro e w1 ⟨rfl, rfl⟩;rw [hp]
   go_wp2_with fail
   refine (sSmall_any C D (hC.below n0.b) (hD.below n0.b) hn hm).mono ?_;rintro e w1 ⟨rfl, b1⟩
   go_wp2
   go_ret
   exact ⟨ret_bool (by simp [lineB, hp]), (n0.below b1).b⟩
  have hs' : (skip == 0) = false := by simp [hs]
  go_enter Tryz.func97, Tryz.ntmps97
  go_wp2_with fail
  refine (in_any).mono ?_;rintro e w1 ⟨rfl, rfl⟩;rw [hp]
  go_wp2
  go_ret
  exact ⟨ret_bool (by simp [lineB, hs]), n0.b⟩
 by_cases hk3 : kind = 3
 ·subst hk3
  by_cases hp : pot = 0
  ·subst hp
   by_cases hs : skip = 0
   ·subst hs
    go_enter Tryz.func97, Tryz.ntmps97
    go_wp2_with fail
    refine (sSmall_any C D (hC.below n0.b) (hD.below n0.b) hn hm).mono ?_;rintro e w1 ⟨rfl, b1⟩
    go_wp2
    go_ret
    exact ⟨ret_bool (by simp [lineB, ]), (n0.below b1).b⟩
   have hs' : (skip == 0) = false := by simp [hs]
   go_enter Tryz.func97, Tryz.ntmps97
   go_wp2
   go_ret
   exact ⟨ret_bool (by simp [lineB, hs]), n0.b⟩
  have hp' : (pot == 0) = false := by simp [hp]
  go_enter Tryz.func97, Tryz.ntmps97
  go_wp2
  go_ret
  exact ⟨ret_bool (by simp [lineB, hp]), n0.b⟩
 have hk1' : (kind == 1) = false := by simp [hk1]
 have hk2' : (kind == 2) = false := by simp [hk2]
 have hk3' : (kind == 3) = false := by simp [hk3]
 by_cases hk4 : kind = 4
 ·subst hk4
  by_cases hp : pot = 0
  ·subst hp
   by_cases hs : skip = 0
   ·subst hs
    by_cases hl : (n : Int) + m = 0
    ·have hl' : ((n : Int) + m == 0) = true := by simp [hl]
     go_enter Tryz.func97, Tryz.ntmps97
     go_wp2
     go_ret
     exact ⟨ret_bool (by simp only [lineB, hl', Int.reduceEq, if_false, beq_self_eq_true, Bool.true_and]), n0.b⟩
    have hl' : ((n : Int) + m == 0) = false := by simpa using hl
    go_enter Tryz.func97, Tryz.ntmps97
    go_wp2
    go_ret
    exact ⟨ret_bool (by simp only [lineB, hl', Int.reduceEq, if_false, beq_self_eq_true, Bool.true_and, Bool.false_and]), n0.b⟩
   have hs' : (skip == 0) = false := by simp [hs]
   go_enter Tryz.func97, Tryz.ntmps97
   go_wp2
   go_ret
   exact ⟨ret_bool (by simp [lineB, hs]), n0.b⟩
  have hp' : (pot == 0) = false := by simp [hp]
  go_enter Tryz.func97, Tryz.ntmps97
  go_wp2
  go_ret
  exact ⟨ret_bool (by simp [lineB, hp]), n0.b⟩
 have hk4' : (kind == 4) = false := by simp [hk4]
 go_enter Tryz.func97, Tryz.ntmps97
 go_wp2
 go_ret
 exact ⟨ret_bool (by simp [lineB, hk1, hk2, hk3, hk4]), n0.b⟩
theorem iSmall_any (C D : List Int) {w : World} (hC : Ints w a n C) (hD : Ints w c m D) (hn : n <= 1048576) (hm : m <= 1048576) :
  Calls Tryz.prog 163 #[formV a n cap c m cap' K] w fun e w' => e = .returned (.bool (smallB n m C D K)) /\ Below w.heap.size w w' := by
 have n0 := BL.new w [.slice a n cap, .slice c m cap', .int .i64 K] 106;obtain ⟨fb, hfb⟩ : ∃ fb, fb = formB n m C D K := ⟨_, rfl⟩
 have HF : Hid (fb = formB n m C D K) := hfb;clear hfb
 go_enter Tryz.func163, Tryz.ntmps163
 go_wp2_with fail
 refine (iok_any C D (hC.alloc _) (hD.alloc _) hn hm).mono ?_;rintro e w1 ⟨rfl, b1⟩;have n1 := n0.below b1;rw [<- HF.out];clear n0 b1;have c0 := n1.p.cell 0;have c1 := n1.p.cell 1;have c2 := n1.p.cell 2;simp only [List.getElem?_cons_zero, List.getElem?_cons_succ] at c0 c1 c2
 cases fb
 ·have hs : smallB n m C D K = false := by
   cases hh : smallB n m C D K
   ·rfl
   have := small_ok hh; rw [<- HF.out] at this; cases this
  go_wp2
  go_ret
  exact ⟨ret_bool hs.symm, n1.b⟩
 have HS : Hid _ := small_eq HF.out.symm
 cases h3 : allB 2 C
 ·go_wp2_with fail
  refine (within_any _ _ _ C (hC.below n1.b) hn).mono ?_;rintro e w2 ⟨rfl, rfl⟩;rw [h3]
  go_wp2
  go_ret
  exact ⟨ret_bool (by rw [HS.out, h3]; rfl), n1.b⟩
 cases h4 : allB 2 D
 ·go_wp2_with fail
  refine (within_any _ _ _ C (hC.below n1.b) hn).mono ?_;rintro e w2 ⟨rfl, rfl⟩;rw [h3]
  go_wp2_with fail
  refine (within_any _ _ _ D (hD.below n1.b) hm).mono ?_;rintro e w2 ⟨rfl, rfl⟩;rw [h4]
  go_wp2
  go_ret
  exact ⟨ret_bool (by rw [HS.out, h3, h4]; rfl), n1.b⟩
 go_wp2_with fail
 refine (within_any _ _ _ C (hC.below n1.b) hn).mono ?_;rintro e w2 ⟨rfl, rfl⟩;rw [h3]
 go_wp2_with fail
 refine (within_any _ _ _ D (hD.below n1.b) hm).mono ?_;rintro e w2 ⟨rfl, rfl⟩;rw [h4]
 go_wp2_with fail
 refine (within_any (some ⟨_, 0, none⟩) 1 1 [K] ?_ (by omega)).mono ?_
 ·refine ⟨rfl, fun i hi => ⟨_, 0, rfl, ?_⟩⟩;obtain rfl : i = 0 := by omega
  exact (Cel.new _ [.int .i64 K] _).cell 0
 rintro e w2 ⟨rfl, rfl⟩
 go_wp2
 go_ret
 exact ⟨ret_bool (by rw [allB_one, HS.out, h3, h4]; rfl), (n1.alloc _).b⟩
theorem iNoth_any :
  Calls Tryz.prog 164 #[formV a n cap c m cap' K] w fun e w' => e = .returned (.bool (((n : Int) + m == 0) && (K == 0))) /\ Below w.heap.size w w' := by
 have n0 := BL.new w [.slice a n cap, .slice c m cap', .int .i64 K] 106
 by_cases h1 : (n : Int) = 0
 ·obtain rfl : n = 0 := by omega
  by_cases h2 : (m : Int) = 0
  ·obtain rfl : m = 0 := by omega
   go_enter Tryz.func164, Tryz.ntmps164
   go_wp2
   go_ret
   exact ⟨ret_bool (by simp), n0.b⟩
  have h2' : ((m : Int) == 0) = false := by simpa using h2
  go_enter Tryz.func164, Tryz.ntmps164
  go_wp2
  go_ret
  exact ⟨ret_bool (by simp; omega), n0.b⟩
 have h1' : ((n : Int) == 0) = false := by simpa using h1
 go_enter Tryz.func164, Tryz.ntmps164
 go_wp2
 go_ret
 exact ⟨ret_bool (by simp; omega), n0.b⟩
theorem ret_step {u v : Value} {a b : Bool} (h : u = v) (h' : a = b) : Ending.returned (.tuple #[u, .bool a]) = .returned (.tuple #[v, .bool b]) := by rw [h, h']
theorem istep_any (C D : List Int) {w : World} (hC : Ints w a n C) (hD : Ints w c m D) (hn : n <= 1048576) (hm : m <= 1048576) :
  Calls Tryz.prog 153 #[lineV kind pot skip a n cap c m cap' K] w fun e w' => e = .returned (.tuple #[stepV ⟨kind, pot, skip, ⟨a, n, cap, c, m, cap', K, C, D⟩⟩, .bool (lineB kind pot skip n m C D K)]) /\ Below w.heap.size w w' := by
 have n0 := BL.new w [.int .i64 kind, .int .i64 pot, .int .i64 skip, .slice a n cap, .slice c m cap', .int .i64 K] 123
 by_cases hk1 : kind = 1
 ·subst hk1
  by_cases hp : pot = 0
  ·subst hp
   by_cases hs1 : 1 <= skip
   ·by_cases hs2 : skip <= 6
    ·have hs : inB skip 1 6 = true := inB_iff.2 ⟨hs1, hs2⟩
     go_enter Tryz.func153, Tryz.ntmps153
     go_wp2_with fail
     refine (iSmall_any C D (hC.below n0.b) (hD.below n0.b) hn hm).mono ?_;rintro e w1 ⟨rfl, b1⟩;obtain ⟨c0, c1, c2, c3, c4, c5⟩ := (n0.below b1).p.six
     go_wp2
     go_ret2
     exact ⟨ret_step (by simp [stepV]) (by simp [lineB, hs]), (n0.below b1).b⟩
    have hs : inB skip 1 6 = false := inB_not.2 (by omega)
    go_enter Tryz.func153, Tryz.ntmps153
    go_wp2
    go_ret2
    exact ⟨ret_step (by simp [stepV]) (by simp [lineB, hs]), n0.b⟩
   have hs : inB skip 1 6 = false := inB_not.2 (by omega)
   go_enter Tryz.func153, Tryz.ntmps153
   go_wp2
   go_ret2
   exact ⟨ret_step (by simp [stepV]) (by simp [lineB, hs]), n0.b⟩
  have hp' : (pot == 0) = false := by simp [hp]
  go_enter Tryz.func153, Tryz.ntmps153
  go_wp2
  go_ret2
  exact ⟨ret_step (by simp [stepV]) (by simp [lineB, hp]), n0.b⟩
 by_cases hk2 : kind = 2
 ·subst hk2
  by_cases hp1 : 0 <= pot
  ·by_cases hp2 : pot < 3
   ·have hp : inB pot 0 2 = true := inB_iff.2 ⟨hp1, by omega⟩
    by_cases hs : skip = 0
    ·subst hs
     go_enter Tryz.func153, Tryz.ntmps153
     go_wp2_with fail
     refine (place_any).mono ?_;rintro e w1 ⟨rfl, rfl⟩;rw [decide_eq_true (show 0 <= pot /\ pot < 3 from ⟨hp1, hp2⟩)]
     go_wp2_with fail
     refine (iSmall_any C D (hC.below n0.b) (hD.below n0.b) hn hm).mono ?_;rintro e w1 ⟨rfl, b1⟩;obtain ⟨c0, c1, c2, c3, c4, c5⟩ := (n0.below b1).p.six
     go_wp2
     go_ret2
     exact ⟨ret_step (by simp [stepV]) (by simp [lineB, hp]), (n0.below b1).b⟩
    have hs' : (skip == 0) = false := by simp [hs]
    go_enter Tryz.func153, Tryz.ntmps153
    go_wp2_with fail
    refine (place_any).mono ?_;rintro e w1 ⟨rfl, rfl⟩;rw [decide_eq_true (show 0 <= pot /\ pot < 3 from ⟨hp1, hp2⟩)]
    go_wp2
    go_ret2
    exact ⟨ret_step (by simp [stepV]) (by simp [lineB, hs]), n0.b⟩
   have hp : inB pot 0 2 = false := inB_not.2 (by omega)
   go_enter Tryz.func153, Tryz.ntmps153
   go_wp2_with fail
   refine (place_any).mono ?_;rintro e w1 ⟨rfl, rfl⟩;rw [decide_eq_false (show ¬ (0 <= pot /\ pot < 3) by omega)]
   go_wp2
   go_ret2
   exact ⟨ret_step (by simp [stepV]) (by simp [lineB, hp]), n0.b⟩
  have hp : inB pot 0 2 = false := inB_not.2 (by omega)
  go_enter Tryz.func153, Tryz.ntmps153
  go_wp2_with fail
  refine (place_any).mono ?_;rintro e w1 ⟨rfl, rfl⟩;rw [decide_eq_false (show ¬ (0 <= pot /\ pot < 3) by omega)]
  go_wp2
  go_ret2
  exact ⟨ret_step (by simp [stepV]) (by simp [lineB, hp]), n0.b⟩
 by_cases hk3 : kind = 3
 ·subst hk3
  by_cases hp : pot = 0
  ·subst hp
   by_cases hs : skip = 0
   ·subst hs
    go_enter Tryz.func153, Tryz.ntmps153
    go_wp2_with fail
    refine (iSmall_any C D (hC.below n0.b) (hD.below n0.b) hn hm).mono ?_;rintro e w1 ⟨rfl, b1⟩;obtain ⟨c0, c1, c2, c3, c4, c5⟩ := (n0.below b1).p.six
    go_wp2
    go_ret2
    exact ⟨ret_step (by simp [stepV]) (by simp [lineB, ]), (n0.below b1).b⟩
   have hs' : (skip == 0) = false := by simp [hs]
   go_enter Tryz.func153, Tryz.ntmps153
   go_wp2
   go_ret2
   exact ⟨ret_step (by simp [stepV]) (by simp [lineB, hs]), n0.b⟩
  have hp' : (pot == 0) = false := by simp [hp]
  go_enter Tryz.func153, Tryz.ntmps153
  go_wp2
  go_ret2
  exact ⟨ret_step (by simp [stepV]) (by simp [lineB, hp]), n0.b⟩
 have hk1' : (kind == 1) = false := by simp [hk1]
 have hk2' : (kind == 2) = false := by simp [hk2]
 have hk3' : (kind == 3) = false := by simp [hk3]
 by_cases hk4 : kind = 4
 ·subst hk4
  by_cases hp : pot = 0
  ·subst hp
   by_cases hs : skip = 0
   ·subst hs
    go_enter Tryz.func153, Tryz.ntmps153
    go_wp2_with fail
    refine (iNoth_any).mono ?_;rintro e w1 ⟨rfl, b1⟩;obtain ⟨c0, c1, c2, c3, c4, c5⟩ := (n0.below b1).p.six
    go_wp2
    go_ret2
    exact ⟨ret_step (by simp [stepV]) (by simp only [lineB, Int.reduceEq, if_false, beq_self_eq_true, Bool.true_and]), (n0.below b1).b⟩
   have hs' : (skip == 0) = false := by simp [hs]
   go_enter Tryz.func153, Tryz.ntmps153
   go_wp2
   go_ret2
   exact ⟨ret_step (by simp [stepV]) (by simp [lineB, hs]), n0.b⟩
  have hp' : (pot == 0) = false := by simp [hp]
  go_enter Tryz.func153, Tryz.ntmps153
  go_wp2
  go_ret2
  exact ⟨ret_step (by simp [stepV]) (by simp [lineB, hp]), n0.b⟩
 have hk4' : (kind == 4) = false := by simp [hk4]
 go_enter Tryz.func153, Tryz.ntmps153
 go_wp2
 go_ret2
 exact ⟨ret_step (by simp [stepV, hk1, hk2, hk3, hk4]) (by simp [lineB, hk1, hk2, hk3, hk4]), n0.b⟩
end Go.Proofs.YtfmpcihghlnlnaaGreatDoor
