/-
  Acts that are drawn with pots and arguments, and done; results compared.
-/
import Derived.Test.YtblabbjjkgelfaaRunC
import Derived.Test.YtblabbjjkgelfaaDrAy
namespace Go.Proofs.Ytblabbjjkgelfaa
open Go.RowKit
set_option linter.unusedVariables false
set_option maxRecDepth 100000

theorem pRun (ad : Option Addr) (N cap : Nat) (ls : List LV) (v : Option Addr) (p cv : Nat) (V : List Int) (u : Option Addr) (q cu : Nat) (U : List Int) (w : World) (hN : ls.length = N) (hF : LinesG w ad ls) (hN1 : N ≤ 1048576) (hV : Ints w v p V) (hU : Ints w u q U) (hp : p ≤ 1048576) (hq : q ≤ 1048576) :
    Calls Try.prog 12 #[.slice ad N cap, .slice v p cv, .slice u q cu] w fun e w' => RunM w w' e (runCode N ls p V q U) (runTells N ls p V q U) (runPots N ls p V q U) :=
  (irun_any ad N cap ls v p cv V u q cu U w hN hF hN1 hV hU hp hq).mono fun e w' h => RunM.of h

theorem qRun (ad : Option Addr) (N cap : Nat) (ls : List LV) (v : Option Addr) (p cv : Nat) (V : List Int) (u : Option Addr) (q cu : Nat) (U : List Int) (w : World) (hN : ls.length = N) (hF : LinesG w ad ls) (hN1 : N ≤ 1048576) (hV : Ints w v p V) (hU : Ints w u q U) (hp : p ≤ 1048576) (hq : q ≤ 1048576) :
    Calls Try.prog 13 #[.slice ad N cap, .slice v p cv, .slice u q cu] w fun e w' => RunM w w' e (runCode N ls p V q U) (runTells N ls p V q U) (runPots N ls p V q U) :=
  (srun_any ad N cap ls v p cv V u q cu U w hN hF hN1 hV hU hp hq).mono fun e w' h => RunM.of h

/-- Two results are the same. -/
def coRB (c d : Int) (xs ys : List Int) : Bool := (c == d) && eqB xs ys
theorem coRB_same (c : Int) (xs : List Int) : coRB c c xs xs = true := by simp [coRB, eqB]

set_option maxHeartbeats 800000 in
theorem coR_any (c d : Int) (a : Option Addr) (n cap : Nat) (b : Option Addr) (m cap' : Nat) (xs ys : List Int) (w : World) (h : Ints w a n xs) (h' : Ints w b m ys) (hn : n ≤ 1048576) (hm : m ≤ 1048576) :
    Calls Try.prog 14 #[resV c a n cap, resV d b m cap'] w fun e w' => e = .returned (.bool (coRB c d xs ys)) ∧ Below w.heap.size w w' := by
  cases h1 : (c == d)
  · go_enter Try.func14, Try.ntmps14
    go_wp2
    go_ret
    exact ⟨ret_bool (by simp [coRB, h1]), ((Below.refl _ _).alloc (Nat.le_refl _) _).alloc (by simp) _⟩
  · go_enter Try.func14, Try.ntmps14
    go_wp2_with fail
    refine (coI_any _ _ _ _ _ _ xs ys _ ((h.alloc _).alloc _) ((h'.alloc _).alloc _) hn hm).mono ?_
    rintro e w1 ⟨rfl, b1⟩
    go_wp2
    go_ret
    exact ⟨ret_bool (by simp [coRB, h1]), (((Below.refl _ _).alloc (Nat.le_refl _) _).alloc (by simp) _).trans (b1.mono (by simp; omega))⟩

set_option maxHeartbeats 1600000 in
theorem dRun (a : Option Addr) (n cap : Nat) (bs : List Int) (w : World) (h : BInts w a n bs) (hn : n ≤ cap) (hn1 : n ≤ 1048576) (hc : cap ≤ maxLen) :
    Calls Try.prog 11 #[.slice a n cap] w fun e w' => ∃ ad N c ls va p cv V ua q cu A base, e = .returned (.tuple #[.slice ad N c, .slice va p cv, .slice ua q cu]) ∧ Below w.heap.size w w' ∧ LinesG w' ad ls ∧ ls.length = N ∧ N ≤ 8 ∧ w'.ownsRow base 30 6 (.slice ad N c) N (ls.flatMap LV.cs) ∧ Ints w' va p V ∧ Ints w' ua q A ∧ p ≤ 4 ∧ q ≤ 4 := by
  go_enter Try.func11, Try.ntmps11
  go_wp2_with fail
  refine (open_any _ _ _ bs _ h hn hn1 hc).mono ?_
  rintro e w1 ⟨R, n', cap2, bs', rfl, b1, hR, r1⟩
  have hRl := r1.c.lt
  go_wp2_with fail
  refine (any_f R a n' cap2 bs' 0 16 _ r1 (by omega) (by omega) (by omega) (by omega) r1.ha).mono ?_
  rintro e w2 ⟨ad, N, c, ls, q, rfl, j, hN, hN8, q0, q1⟩
  go_wp2_with fail
  refine (vals_gen R a n' cap2 bs' q 16 _ j.r (by omega) (by omega) (by omega) (by omega) j.r.ha).mono ?_
  rintro e w3 ⟨va, vp, cv, V, q3, rfl, d3⟩
  have u2 := d3.q0
  have u3 := d3.q1
  have hsz := j.t.size
  replace j := j.pick d3.t d3.r
  go_wp2_with fail
  refine (args_gen R a n' cap2 bs' q3 16 _ d3.r (by omega) (by omega) (by omega) (by omega) d3.r.ha).mono ?_
  rintro e w4 ⟨ua, uq, cu, A, q4, rfl, d4⟩
  replace j := j.pick d4.t d4.r
  have hV := d3.i.off d4.t (fun b o e hs => by have := d3.lo b o e; omega)
  have BB : Below w.heap.size w w4 := b1.trans (j.t.below (by have := b1.size; omega) (fun k hk => by omega))
  have o := j.o
  rw [hN] at o
  have hG := j.g hN
  have hA := d4.i
  have p3 := d3.h4
  have p4 := d4.h4
  clear r1 b1 d3 d4
  go_wp2
  go_ret3
  exact ⟨_, N, c, ls, _, vp, cv, V, _, uq, cu, A, _, rfl, BB, hG, hN, hN8, o, hV, hA, p3, p4⟩

end Go.Proofs.Ytblabbjjkgelfaa
