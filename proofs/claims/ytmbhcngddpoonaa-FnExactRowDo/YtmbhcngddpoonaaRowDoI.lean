/-
  RowDo: both functions come to the same code, tells and pots. Lengths at most 1048576.
-/
import Derived.Test.YtmbhcngddpoonaaDo
import Derived.Test.YtmbhcngddpoonaaSum5
namespace Go.Proofs.Ytmbhcngddpoonaa
open Go.RowKit
set_option linter.unusedVariables false
set_option maxRecDepth 100000

theorem BX.touch {S : Nat → Prop} {w W W' : World} {B : Nat} {la : List Value} {ty : TypeId} (h : BX w B la ty W) (t : Touch S W W') (hs : ∀ k, S k → w.heap.size ≤ k) (hn : ¬ S B) : BX w B la ty W' :=
  ⟨h.p.touch t hn, h.b.trans (t.below h.b.size hs)⟩

/-- All that is asked for is ok. -/
def doB (gs ls ts : List FV) (A T : Nat) (st : Bool) (p q : Nat) (V U : List Int) : Bool := rowB gs ls ts A T st && okN 3 10000 p V && okN 2 9 q U
/-- What the pots would have. -/
def doX (ls : List FV) (V U : List Int) : List Int := List.zipWith (· + ·) V (ls.map (atF V U))
def doCode (gs ls ts : List FV) (A T : Nat) (st : Bool) (p q : Nat) (V U : List Int) : Int := if doB gs ls ts A T st p q V U then (if st then 2 else endCode (doX ls V U)) else 0
def doTells (gs ls ts : List FV) (A T : Nat) (st : Bool) (p q : Nat) (V U : List Int) : List Int := if doB gs ls ts A T st p q V U then (if st then [] else endTells (doX ls V U) (ts.map (atF V U))) else []
def doPots (gs ls ts : List FV) (A T : Nat) (st : Bool) (p q : Nat) (V U : List Int) : List Int := if doB gs ls ts A T st p q V U then (if st then V else endPots V (doX ls V U)) else []
theorem do_no {gs ls ts : List FV} {A T : Nat} {st : Bool} {p q : Nat} {V U : List Int} (h : doB gs ls ts A T st p q V U = false) : doCode gs ls ts A T st p q V U = 0 ∧ doTells gs ls ts A T st p q V U = [] ∧ doPots gs ls ts A T st p q V U = [] := by
  simp [doCode, doTells, doPots, h]
theorem do_stop {gs ls ts : List FV} {A T : Nat} {p q : Nat} {V U : List Int} (h : doB gs ls ts A T true p q V U = true) : doCode gs ls ts A T true p q V U = 2 ∧ doTells gs ls ts A T true p q V U = [] ∧ doPots gs ls ts A T true p q V U = V := by
  simp [doCode, doTells, doPots, h]
theorem do_go {gs ls ts : List FV} {A T : Nat} {p q : Nat} {V U : List Int} (h : doB gs ls ts A T false p q V U = true) : doCode gs ls ts A T false p q V U = endCode (doX ls V U) ∧ doTells gs ls ts A T false p q V U = endTells (doX ls V U) (ts.map (atF V U)) ∧ doPots gs ls ts A T false p q V U = endPots V (doX ls V U) := by
  simp [doCode, doTells, doPots, h]
theorem rowB_three {gs ls ts : List FV} {A T : Nat} (h : rowB gs ls ts A T false = true) : A = 3 := by
  simp only [rowB, Bool.and_eq_true] at h
  have := h.2
  simp at this
  omega
theorem Cel.pair {w : World} {B : Nat} {x y : Value} {t : TypeId} (h : Cel w B [x, y] t) : w.cell? ⟨B, 0, none⟩ = some x ∧ w.cell? ⟨B, 1, none⟩ = some y ∧ w.frozen? ⟨B, 0, none⟩ = false ∧ w.frozen? ⟨B, 1, none⟩ = false := ⟨h.cell 0, h.cell 1, h.free 0, h.free 1⟩

set_option maxHeartbeats 6400000 in
theorem idoing_any (g : Option Addr) (G cg : Nat) (gs : List FV) (a : Option Addr) (A ca : Nat) (ls : List FV) (t : Option Addr) (T ct : Nat) (ts : List FV) (st : Bool) (v : Option Addr) (p cv : Nat) (V : List Int) (u : Option Addr) (q cu : Nat) (U : List Int) (w : World) (h : RowAt w g G gs a A ls t T ts) (hV : Ints w v p V) (hU : Ints w u q U) (hp : p ≤ 1048576) (hq : q ≤ 1048576) :
    Calls Try.prog 33 #[rowV g G cg a A ca t T ct st, .slice v p cv, .slice u q cu] w fun e w' => ResD w w' e (doCode gs ls ts A T st p q V U) (doTells gs ls ts A T st p q V U) (doPots gs ls ts A T st p q V U) := by
  have n0 := (BX.new w [.slice g G cg, .slice a A ca, .slice t T ct, .bool st] 62).alloc (.cells #[.int .i64 0, .slice none 0 0] 57)
  have rc0 := Cel.new (w.alloc (.cells #[.slice g G cg, .slice a A ca, .slice t T ct, .bool st] 62)) [.int .i64 0, .slice none 0 0] 57
  rw [World.size_alloc] at rc0
  have zt := h.zt
  obtain ⟨i0, hi, hz0, hz1, hz2⟩ := info_parts Try.infoInt
  obtain ⟨rb, hrb⟩ : ∃ rb, rb = rowB gs ls ts A T st := ⟨_, rfl⟩
  obtain ⟨vb, hvb⟩ : ∃ vb, vb = okN 3 10000 p V := ⟨_, rfl⟩
  obtain ⟨ub, hub⟩ : ∃ ub, ub = okN 2 9 q U := ⟨_, rfl⟩
  have HR : Hid (rb = rowB gs ls ts A T st) := hrb
  have HV : Hid (vb = okN 3 10000 p V) := hvb
  have HU : Hid (ub = okN 2 9 q U) := hub
  clear hrb hvb hub
  go_enter Try.func33, Try.ntmps33
  go_wp2_with fail
  refine (irow_any _ _ _ gs _ _ _ ls _ _ _ ts _ _ ((h.alloc _).alloc _)).mono ?_
  rintro e w1 ⟨rfl, b1⟩
  have n1 := n0.below b1
  have rc1 := rc0.below b1
  have hlt1 := rc1.lt
  rw [← HR.out]
  clear n0 b1 rc0
  obtain ⟨c0, c1, c2, c3⟩ := n1.p.quad
  obtain ⟨d0, d1, f0, f1⟩ := rc1.pair
  cases rb
  · have E : Hid _ := do_no (p := p) (q := q) (V := V) (U := U) (show doB gs ls ts A T st p q V U = false by rw [doB, ← HR.out]; rfl)
    go_wp2
    refine bodyPost_ret (v := .tuple #[resV 0 none 0 0, .slice none 0 0]) (by simp [results, Try.results33, go_sem, d0, d1]) rfl ?_
    obtain ⟨e1, e2, e3⟩ := E.out
    rw [e1, e2, e3]
    exact ⟨none, 0, 0, 0, _, 0, 0, 0, rfl, rfl, rfl, (n1.b.setCell (by simp only []; omega) _).setCell (by simp only []; omega) _, OwnX.nil _ _ _, OwnX.nil _ _ _, fun h => by omega, fun h => by omega, fun h => by omega⟩
  go_wp2_with fail
  refine (ival_any _ _ _ V _ (hV.below n1.b) hp).mono ?_
  rintro e w2 ⟨rfl, hw2⟩
  rw [← HV.out, hw2]
  clear hw2
  cases vb
  · have E : Hid _ := do_no (p := p) (q := q) (V := V) (U := U) (show doB gs ls ts A T st p q V U = false by rw [doB, ← HR.out, ← HV.out]; rfl)
    go_wp2
    refine bodyPost_ret (v := .tuple #[resV 0 none 0 0, .slice none 0 0]) (by simp [results, Try.results33, go_sem, d0, d1]) rfl ?_
    obtain ⟨e1, e2, e3⟩ := E.out
    rw [e1, e2, e3]
    exact ⟨none, 0, 0, 0, _, 0, 0, 0, rfl, rfl, rfl, (n1.b.setCell (by simp only []; omega) _).setCell (by simp only []; omega) _, OwnX.nil _ _ _, OwnX.nil _ _ _, fun h => by omega, fun h => by omega, fun h => by omega⟩
  go_wp2_with fail
  refine (iarg_any _ _ _ U _ (hU.below n1.b) hq).mono ?_
  rintro e w2 ⟨rfl, hw2⟩
  rw [← HU.out, hw2]
  clear hw2
  cases ub
  · have E : Hid _ := do_no (p := p) (q := q) (V := V) (U := U) (show doB gs ls ts A T st p q V U = false by rw [doB, ← HR.out, ← HV.out, ← HU.out]; rfl)
    go_wp2
    refine bodyPost_ret (v := .tuple #[resV 0 none 0 0, .slice none 0 0]) (by simp [results, Try.results33, go_sem, d0, d1]) rfl ?_
    obtain ⟨e1, e2, e3⟩ := E.out
    rw [e1, e2, e3]
    exact ⟨none, 0, 0, 0, _, 0, 0, 0, rfl, rfl, rfl, (n1.b.setCell (by simp only []; omega) _).setCell (by simp only []; omega) _, OwnX.nil _ _ _, OwnX.nil _ _ _, fun h => by omega, fun h => by omega, fun h => by omega⟩
  have HB : Hid (doB gs ls ts A T st p q V U = true) := by show _ = _; rw [doB, ← HR.out, ← HV.out, ← HU.out]; rfl
  obtain ⟨og, ol, ot⟩ := rowB_g HR.out.symm
  obtain ⟨rfl, bV⟩ := okN_nat (c := 3) (by omega) HV.out.symm
  obtain ⟨rfl, bU⟩ := okN_nat (c := 2) (by omega) HU.out.symm
  have HVL : Hid (V.length = 3) := hV.1
  cases st
  case true =>
    have E : Hid _ := do_stop HB.out
    go_wp2_with fail
    refine (clone_any _ _ _ V _ (hV.below n1.b) (by omega) (by omega)).mono ?_
    rintro e w2 ⟨r, rfl, j⟩
    have rc2 := rc1.below j.b
    obtain ⟨x, cx, B, rfl, hX, hB⟩ := j.ownx HVL.out
    have bb := n1.b.trans (j.b.mono n1.b.size)
    clear c0 c1 c2 c3 d0 d1 f0 f1
    obtain ⟨d0, d1, f0, f1⟩ := rc2.pair
    have hlt2 := rc2.lt
    clear rc2 j rc1
    go_wp2
    refine bodyPost_ret (v := .tuple #[resV 2 none 0 0, .slice x 3 cx]) (by simp [results, Try.results33, go_sem, d0, d1]) rfl ?_
    obtain ⟨e1, e2, e3⟩ := E.out
    rw [e1, e2, e3]
    refine ⟨none, 0, 0, 0, x, 3, cx, B, rfl, rfl, HVL.out, ?_, OwnX.nil _ _ _, ?_, fun h => by omega, fun h => by have := hB h; have := n1.b.size; omega, fun h => by omega⟩
    · exact (bb.setCell (by simp only []; omega) _).setCell (by simp only []; omega) _
    · exact (hX.setOther (fun h => by have := hB h; omega) _ _).setOther (fun h => by have := hB h; omega) _ _
  case false =>
    have E : Hid _ := do_go HB.out
    obtain rfl := rowB_three HR.out.symm
    have OT : Hid (ts.all FV.ok = true) := ot
    have OL : Hid (ls.all FV.ok = true) := ol
    have bY := ats_bnd ol bV bU
    clear og ol ot
    go_wp2_with fail
    refine (formsAt_any _ _ _ ls _ _ _ _ V U _ h.ha (h.below n1.b).a (by omega) OL.out (hV.below n1.b) (hU.below n1.b) bV bU).mono ?_
    rintro e w3 ⟨r, rfl, j⟩
    have rc3 := rc1.below j.b
    have n3 := n1.below j.b
    obtain ⟨ya, cy, BY, rfl, hY, hBY⟩ := j.ownx (n := 3) (by rw [List.length_map, h.ha])
    clear c0 c1 c2 c3 rc1 n1 j hBY d0 d1 f0 f1
    go_wp2_with fail
    refine (sums_any _ _ _ _ V _ 10000 1000000000000 _ (hV.below n3.b) hY.ints bV bY (by omega) (by omega)).mono ?_
    rintro e w4 ⟨x, cx, B, rfl, b4, hX4, hB⟩
    have rc4 := rc3.below b4
    have n4 := n3.below b4
    have z3 := n3.b.size
    have hr3 := rc3.lt
    have hB' : w.heap.size + 1 + 1 ≤ B := by omega
    have hq3 := n3.p.lt
    clear rc3 n3 hY b4 bY
    obtain ⟨c0, c1, c2, c3⟩ := n4.p.quad
    go_wp2_with fail
    refine (formsAt_any _ _ _ ts _ _ _ _ V U _ h.ht (h.below n4.b).t zt OT.out (hV.below n4.b) (hU.below n4.b) bV bU).mono ?_
    rintro e w5 ⟨r, rfl, j⟩
    have rc5 := rc4.below j.b
    have n5 := n4.below j.b
    have hX5 := hX4.below j.b
    have lB4 := hX4.lt (by omega)
    obtain ⟨ta, ctt, BT, rfl, hT, hBT⟩ := j.ownx (n := T) (by rw [List.length_map, h.ht])
    have z5 := j.b.size
    clear c0 c1 c2 c3 rc4 n4 j hX4
    go_wp2_with fail
    refine (done_any _ _ _ _ B _ _ _ BT V _ _ _ (hV.below n5.b) hX5 hT (fun h => by have := hBT h; omega) (w.heap.size + 1 + 1) (fun h => by have := hBT h; omega) (by omega) (by omega)).mono ?_
    rintro e w6 ⟨ra, rn, rcap, RB1, pb, pm, pcap, RB2, rfl, L1, L2, b6, O1, O2, g1, g2, g3⟩
    have rc6 := rc5.below b6
    have n6 := n5.below b6
    have hlt6 := rc6.lt
    clear rc5 n5 hX5 hT hBT
    obtain ⟨d0, d1, f0, f1⟩ := rc6.pair
    clear rc6
    go_wp2
    refine bodyPost_ret (v := .tuple #[resV (endCode (List.zipWith (· + ·) V (ls.map (atF V U)))) ra rn rcap, .slice pb pm pcap]) (by simp [results, Try.results33, go_sem, d0, d1]) rfl ?_
    obtain ⟨e1, e2, e3⟩ := E.out
    rw [e1, e2, e3]
    refine ⟨ra, rn, rcap, RB1, pb, pm, pcap, RB2, rfl, L1, L2, ?_, ?_, ?_, fun h => by have := g1 h; omega, fun h => by have := g2 h; omega, g3⟩
    · exact (n6.b.setCell (by simp only []; omega) _).setCell (by simp only []; omega) _
    · exact (O1.setOther (fun h => by have := g1 h; omega) _ _).setOther (fun h => by have := g1 h; omega) _ _
    · exact (O2.setOther (fun h => by have := g2 h; omega) _ _).setOther (fun h => by have := g2 h; omega) _ _

end Go.Proofs.Ytmbhcngddpoonaa
