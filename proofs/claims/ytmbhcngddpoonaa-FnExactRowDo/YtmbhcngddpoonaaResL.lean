/-
  What an act came to, held against another, marked; a row's lists marked. Lengths at most 1048576.
-/
import Derived.Test.YtmbhcngddpoonaaRowDoS
import Derived.Test.YtmbhcngddpoonaaMarkS2
namespace Go.Proofs.Ytmbhcngddpoonaa
open Go.RowKit
set_option linter.unusedVariables false
set_option maxRecDepth 100000

theorem eqRes_same (code : Int) (a : Option Addr) (n cap : Nat) (a' : Option Addr) (cap' : Nat) (tl : List Int) (w : World) (h : Ints w a n tl) (h' : Ints w a' n tl) (hn : n ≤ 1048576) :
    Calls Try.prog 34 #[resV code a n cap, resV code a' n cap'] w fun e w' => e = .returned (.bool true) ∧ Below w.heap.size w w' := by
  have hc : (code != code) = false := by simp
  have HE := eqB_refl tl
  go_enter Try.func34, Try.ntmps34
  go_wp2_with fail
  refine (eq_any _ _ _ _ _ _ tl tl _ ((h.alloc _).alloc _) ((h'.alloc _).alloc _) hn hn).mono ?_
  rintro e w1 ⟨rfl, b1⟩
  rw [HE]
  go_wp2
  go_ret
  exact ⟨rfl, (((Below.refl _ _).alloc (Nat.le_refl _) _).alloc (by simp) _).trans (b1.mono (by simp; omega))⟩

theorem markRes_any (code : Int) (a : Option Addr) (n cap B : Nat) (tl : List Int) (k : Int) (w : World) (h : OwnX w a B n tl) (hn : n ≤ 1048576) (hk0 : 0 ≤ k) (hk : k ≤ 1000000000000000) :
    Calls Try.prog 38 #[resV code a n cap, .int .i64 k] w fun e w' => e = .returned (.int .i64 (k + n)) ∧ Touch (fun x => x = B ∧ 0 < n) w w' ∧ OwnX w' a B n (ramp k n) := by
  go_enter Try.func38, Try.ntmps38
  go_wp2_with fail
  refine (markX_any _ _ _ B tl _ _ (h.alloc _) hn hk0 hk).mono ?_
  rintro e w1 ⟨rfl, t1, o1⟩
  go_wp2
  go_ret
  exact ⟨rfl, (Touch.of ((Below.refl _ _).alloc (Nat.le_refl _) _)).trans t1, o1⟩

theorem heldRes_any (code : Int) (a : Option Addr) (n cap : Nat) (k : Int) (w : World) (h : Ints w a n (ramp k n)) (hn : n ≤ 1048576) (hk0 : 0 ≤ k) (hk : k ≤ 1000000000000000) :
    Calls Try.prog 39 #[resV code a n cap, .int .i64 k] w fun e w' => e = .returned (.int .i64 (k + n)) ∧ Below w.heap.size w w' := by
  have h0 : 0 ≤ k + (n : Int) := by omega
  go_enter Try.func39, Try.ntmps39
  go_wp2_with fail
  refine (held_any _ _ _ _ _ (h.alloc _) hn hk0 hk).mono ?_
  rintro e w1 ⟨rfl, hw⟩
  rw [hw]
  go_wp2
  go_ret
  exact ⟨rfl, (Below.refl _ _).alloc (Nat.le_refl _) _⟩

set_option maxHeartbeats 1600000 in
theorem markRow_any (lo B1 B2 B3 G A T : Nat) (gs ls ts : List FV) (X Y Z : List (List Value)) (p1 q1 p2 q2 p3 q3 : Nat → Nat) (cg ca ct : Nat) (st : Bool) (k : Int) (w : World) (h : RM w lo B1 B2 B3 G A T gs ls ts X Y Z p1 q1 p2 q2 p3 q3) (zg : G ≤ 1048576) (za : A ≤ 1048576) (zt : T ≤ 1048576) (s : Nat) (hs : s ≤ w.heap.size) (h3s : B3 < s) (hq : ∀ i, i < T → q3 i < s) (hk0 : 0 ≤ k) (hk : k ≤ 10000000) :
    Calls Try.prog 36 #[rowV (some ⟨B1, 0, none⟩) G cg (some ⟨B2, 0, none⟩) A ca (some ⟨B3, 0, none⟩) T ct st, .int .i64 k] w fun e w' => ∃ r, e = .returned (.int .i64 r) ∧ 0 ≤ r ∧ r ≤ 100000000000000 ∧ Touch (fun x => B1 ≤ x ∧ x < s) w w' := by
  have n0 := Cel.new w [.slice (some ⟨B1, 0, none⟩) G cg, .slice (some ⟨B2, 0, none⟩) A ca, .slice (some ⟨B3, 0, none⟩) T ct, .bool st] 62
  have h0 := h.below ((Below.refl _ _).alloc (Nat.le_refl _) (.cells #[.slice (some ⟨B1, 0, none⟩) G cg, .slice (some ⟨B2, 0, none⟩) A ca, .slice (some ⟨B3, 0, none⟩) T ct, .bool st] 62))
  have l2 := h.l2
  have l3 := h.l3
  have T0 : Touch (fun x => B1 ≤ x ∧ x < s) w (w.alloc (.cells #[.slice (some ⟨B1, 0, none⟩) G cg, .slice (some ⟨B2, 0, none⟩) A ca, .slice (some ⟨B3, 0, none⟩) T ct, .bool st] 62)) := Touch.of ((Below.refl _ _).alloc (Nat.le_refl _) _)
  have HQ3 : Hid _ := hq
  clear hq
  go_enter Try.func36, Try.ntmps36
  go_wp2_with fail
  refine (markFS2_any B1 _ _ _ B2 _ gs p1 q1 _ _ h0.g h0.hg h0.xg zg hk0 (by omega) l2 h0.u1).mono ?_
  rintro e w1 ⟨r1, rfl, r10, r11, t1⟩
  have n1 := n0.touch t1 (fun e => by omega)
  have a1 := h0.a.touch t1 (fun k hk => .inl hk.2) (fun hk => by omega)
  have c1 := h0.t.touch t1 (fun k hk => .inl (by omega)) (fun hk => by omega)
  obtain ⟨e0, e1, e2, e3⟩ := n1.quad
  have T1 := T0.trans (t1.mono (fun x hx => ⟨hx.1, by omega⟩))
  clear T0 n0 t1
  go_wp2_with fail
  refine (markFS2_any B2 _ _ _ B3 _ ls p2 q2 _ _ a1 h0.ha h0.xa za r10 (by omega) l3 h0.u2).mono ?_
  rintro e w2 ⟨r2, rfl, r20, r21, t2⟩
  have n2 := n1.touch t2 (fun e => by omega)
  have c2 := c1.touch t2 (fun k hk => .inl hk.2) (fun hk => by omega)
  clear e0 e1 e2 e3
  obtain ⟨e0, e1, e2, e3⟩ := n2.quad
  have T2 := T1.trans (t2.mono (fun x hx => ⟨by omega, by omega⟩))
  clear T1 n1 t2 a1 c1
  go_wp2_with fail
  refine (markFS2_any B3 _ _ _ s _ ts p3 q3 _ _ c2 h0.ht h0.xt zt r20 (by omega) h3s HQ3.out).mono ?_
  rintro e w3 ⟨r3, rfl, r30, r31, t3⟩
  have T3 := T2.trans (t3.mono (fun x hx => ⟨by omega, by omega⟩))
  clear T2 n2 t3 c2 e0 e1 e2 e3
  go_wp2
  go_ret
  exact ⟨r3, rfl, r30, by omega, T3⟩

end Go.Proofs.Ytmbhcngddpoonaa
