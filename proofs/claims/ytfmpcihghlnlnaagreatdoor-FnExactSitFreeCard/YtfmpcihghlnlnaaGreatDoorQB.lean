/-
  Lemmas that the claim's last text rests on.
-/
import Derived.Lib.SmallJoins
import Derived.Test.YtfmpcihghlnlnaaGreatDoorQA
namespace Go.Proofs.YtfmpcihghlnlnaaGreatDoor
open Go.RowKit Go.ChangeShapes Go.WideShapes Go.ChangeAt Go.Joins
open World renaming size_alloc → qA
open List renaming getElem?_cons_zero → qB, getElem?_cons_succ → qC
set_option linter.unusedVariables false
set_option maxRecDepth 100000
set_option maxHeartbeats 25600000
variable {B cap cap' m n : Nat} {K : Int} {S : Nat -> Prop} {W w w' : World} {a c : Option Addr} {v : Value} {zs : List Int}
theorem sz_any (a : Option Addr) (n cap : Nat) (l : Int) (w : World) (hn : n <= maxLen) (h0 : 0 <= l) (hl : l <= 1048576) :
  Calls Tryz.prog 16 #[.slice a n cap, .int .i64 l] w fun e w' => e = .returned (.int .i64 (leftOf l n)) /\ w' = w := by
 unfold maxLen at hn
 by_cases h : l < n
 ·go_enter Tryz.func16, Tryz.ntmps16
  go_wp2
  go_ret
  exact ⟨ret_int (by rw [leftOf_neg h]), rfl⟩
 go_enter Tryz.func16, Tryz.ntmps16
 go_wp2
 go_ret
 exact ⟨ret_int (by rw [leftOf_pos (by omega)]), rfl⟩
theorem szF_any {l : Int} (hn : n <= maxLen) (hm : m <= maxLen) (h0 : 0 <= l) (hl : l <= 1048576) :
  Calls Tryz.prog 94 #[formV a n cap c m cap' K, .int .i64 l] w fun e w' => e = .returned (.int .i64 (leftOf (leftOf l n) m)) /\ Below w.heap.size w w' := by
 have g1 := leftOf_ge l n
 by_cases h : leftOf l n < 0
 ·go_enter Tryz.func94, Tryz.ntmps94
  go_wp2_with fail
  refine (sz_any _ _ _ _ _ hn h0 hl).mono ?_;rintro e w1 ⟨rfl, rfl⟩
  go_wp2
  go_ret
  exact ⟨ret_int (by rw [leftOf_below h]), bal⟩
 have h1 : 0 <= leftOf l n := by omega
 have h2 := (leftOf_le h1).2;have g2 := leftOf_ge (leftOf l n) m;clear h
 by_cases h' : leftOf (leftOf l n) m < 0
 ·go_enter Tryz.func94, Tryz.ntmps94
  go_wp2_with fail
  refine (sz_any _ _ _ _ _ hn h0 hl).mono ?_;rintro e w1 ⟨rfl, rfl⟩
  go_wp2_with fail
  refine (sz_any _ _ _ _ _ hm h1 (by omega)).mono ?_;rintro e w1 ⟨rfl, rfl⟩
  go_wp2
  go_ret
  exact ⟨ret_int (by omega), bal⟩
 go_enter Tryz.func94, Tryz.ntmps94
 go_wp2_with fail
 refine (sz_any _ _ _ _ _ hn h0 hl).mono ?_;rintro e w1 ⟨rfl, rfl⟩
 go_wp2_with fail
 refine (sz_any _ _ _ _ _ hm h1 (by omega)).mono ?_;rintro e w1 ⟨rfl, rfl⟩
 go_wp2
 go_ret
 exact ⟨ret_int rfl, bal⟩
theorem toF_any (C D : List Int) {w : World} (hC : Ints w a n C) (hD : Ints w c m D) (hn : n <= 1048576) (hm : m <= 1048576) :
  Calls Tryz.prog 103 #[formV a n cap c m cap' K] w fun e w' => ∃ B1 B2, e = .returned (formV (some ⟨B1, 0, none⟩) n n (some ⟨B2, 0, none⟩) m m K) /\ Below w.heap.size w w' /\ w.heap.size <= B1 /\ B1 < B2 /\ Blk w' B1 C /\ Blk w' B2 D := by
 go_enter Tryz.func103, Tryz.ntmps103
 go_wp2_with fail
 refine (to_any _ (((hC.alloc _).alloc _).alloc _) hn).mono ?_;rintro e w1 ⟨rfl, b1, k1⟩;have p0 := (((Cel.new w _ _).alloc _).alloc _).below b1;have p1 := ((Cel.new (w.alloc _) _ _).alloc _).below b1;have p2 := (Cel.new ((w.alloc _).alloc _) _ _).below b1;rw [qA] at p1;rw [qA, qA] at p2;rw [qA, qA, qA] at k1;have s1 := k1.lt;have B1 : Below w.heap.size w w1 := (((bal).alloc (by simp) _).alloc (by simp; omega) _).trans (b1.mono (by simp; omega));clear b1;have g0 := p2.cell 0;have g1 := p2.free 0;have g2 := p0.cell 1;simp only [qB, qC] at g0 g2
 go_wp2_with fail
 have B2 := B1.setCell (p := ⟨w.heap.size + 1 + 1, 0, none⟩) (by show w.heap.size <= w.heap.size + 1 + 1; omega) (Value.slice (some { block := w.heap.size + 1 + 1 + 1, off := 0 }) n n);refine (to_any _ (hD.below B2) hm).mono ?_;rintro e w2 ⟨rfl, b2, k2⟩;have q0 := (p0.so).below b2;have q1 := (p1.so).below b2;have q2 := (p2.set _ _).below b2;have k1' := (k1.so).below b2;have B3 := btr B2 b2;have s2 := k2.lt;rw [size_setCell] at k2 s2;clear g0 g1 g2 p0 p1 p2 k1 b2 B1 B2;have g0 := q2.cell 0;have g1 := q2.cell 1;have g2 := q2.cell 2;have g3 := q2.free 1;have g4 := q2.free 2;have g5 := q0.cell 2;have g6 := q1.cell 0;have g7 := q1.cell 1;have g8 := q1.cell 2;have g9 := q1.free 0;have g10 := q1.free 1;have g11 := q1.free 2;simp only [qB, qC, List.set_cons_zero] at g0 g1 g2 g5 g6 g7 g8;have hlt1 : w.heap.size + 1 < w2.heap.size := by omega
 have hlt2 : w.heap.size + 1 + 1 < w2.heap.size := by omega
 go_wp2
 refine bodyPost_ret (v := formV (some ⟨w.heap.size + 1 + 1 + 1, 0, none⟩) n n (some ⟨w1.heap.size, 0, none⟩) m m K) (by simp [results, Tryz.results103, go_sem, g6, g7, g8]) rfl ⟨_, _, rfl, ?_, by omega, s1, ?_, ?_⟩
 ·exact (((((B3.setCell (by simp only []; omega) _).setCell (by simp only []; omega) _).setCell (by simp only []; omega) _).setCell (by simp only []; omega) _).setCell (by simp only []; omega) _)
 ·exact (((((k1'.so).so).so).so).so)
 exact (((((k2.so).so).so).so).so)
theorem sok_any (C D : List Int) {w : World} (hC : Ints w a n C) (hD : Ints w c m D) (hn : n <= 1048576) (hm : m <= 1048576) :
  Calls Tryz.prog 136 #[formV a n cap c m cap' K] w fun e w' => e = .returned (.bool (formB n m C D K)) /\ Below w.heap.size w w' := by
 cases h1 : okN 3 10000000 n C
 ·go_enter Tryz.func136, Tryz.ntmps136
  go_wp2_with fail
  refine (all_any C _ _ (hC.alloc _) hn).mono ?_;rintro e w1 ⟨rfl, rfl⟩
  go_wp2
  go_ret
  exact ⟨ret_bool (by simp [formB, h1]), bal⟩
 cases h2 : okN 2 10000000 m D
 ·go_enter Tryz.func136, Tryz.ntmps136
  go_wp2_with fail
  refine (all_any C _ _ (hC.alloc _) hn).mono ?_;rintro e w1 ⟨rfl, rfl⟩
  go_wp2_with fail
  refine (all_any D _ _ (hD.alloc _) hm).mono ?_;rintro e w1 ⟨rfl, rfl⟩
  go_wp2
  go_ret
  exact ⟨ret_bool (by simp [formB, h1, h2]), bal⟩
 go_enter Tryz.func136, Tryz.ntmps136
 go_wp2_with fail
 refine (all_any C _ _ (hC.alloc _) hn).mono ?_;rintro e w1 ⟨rfl, rfl⟩
 go_wp2_with fail
 refine (all_any D _ _ (hD.alloc _) hm).mono ?_;rintro e w1 ⟨rfl, rfl⟩
 go_wp2_with fail
 refine (in_any).mono ?_;rintro e w1 ⟨rfl, rfl⟩
 go_wp2
 go_ret
 exact ⟨ret_bool (by simp [formB, h1, h2]), bal⟩
theorem iok_any (C D : List Int) {w : World} (hC : Ints w a n C) (hD : Ints w c m D) (hn : n <= 1048576) (hm : m <= 1048576) :
  Calls Tryz.prog 177 #[formV a n cap c m cap' K] w fun e w' => e = .returned (.bool (formB n m C D K)) /\ Below w.heap.size w w' := by
 by_cases h1 : (n : Int) = 3
 ·have h1' : ((n : Int) == 3) = true := by simp [h1]
  have H1 : Hid ((n : Int) = 3) := h1;clear h1
  by_cases h2 : (m : Int) = 2
  ·have h2' : ((m : Int) == 2) = true := by simp [h2]
   have H2 : Hid ((m : Int) = 2) := h2;clear h2
   cases h3 : allB 10000000 C
   ·go_enter Tryz.func177, Tryz.ntmps177
    go_wp2_with fail
    refine (within_any _ _ _ C (hC.alloc _) hn).mono ?_;rintro e w1 ⟨rfl, rfl⟩
    go_wp2
    go_ret
    exact ⟨ret_bool (by simp [formB, okN_is H1.out, h3]), bal⟩
   cases h4 : allB 10000000 D
   ·go_enter Tryz.func177, Tryz.ntmps177
    go_wp2_with fail
    refine (within_any _ _ _ C (hC.alloc _) hn).mono ?_;rintro e w1 ⟨rfl, rfl⟩
    go_wp2_with fail
    refine (within_any _ _ _ D (hD.alloc _) hm).mono ?_;rintro e w1 ⟨rfl, rfl⟩
    go_wp2
    go_ret
    exact ⟨ret_bool (by simp [formB, okN_is H1.out, okN_is H2.out, h3, h4]), bal⟩
   go_enter Tryz.func177, Tryz.ntmps177
   go_wp2_with fail
   refine (within_any _ _ _ C (hC.alloc _) hn).mono ?_;rintro e w1 ⟨rfl, rfl⟩
   go_wp2_with fail
   refine (within_any _ _ _ D (hD.alloc _) hm).mono ?_;rintro e w1 ⟨rfl, rfl⟩
   go_wp2_with fail
   refine (within_any (some ⟨w.heap.size + 1, 0, none⟩) 1 1 [K] ?_ (by omega)).mono ?_
   ·refine ⟨rfl, fun i hi => ⟨w.heap.size + 1, 0, rfl, ?_⟩⟩;obtain rfl : i = 0 := by omega
    simp [go_sem]
   rintro e w1 ⟨rfl, rfl⟩
   go_wp2
   go_ret
   exact ⟨ret_bool (by rw [allB_one]; simp [formB, okN_is H1.out, okN_is H2.out, h3, h4]), (bal).alloc (by simp) _⟩
  have h2' : ((m : Int) == 2) = false := by simpa using h2
  go_enter Tryz.func177, Tryz.ntmps177
  go_wp2
  go_ret
  exact ⟨ret_bool (by simp [formB, okN_not h2]), bal⟩
 have h1' : ((n : Int) == 3) = false := by simpa using h1
 go_enter Tryz.func177, Tryz.ntmps177
 go_wp2
 go_ret
 exact ⟨ret_bool (by simp [formB, okN_not h1]), bal⟩
theorem eqF_any (C D : List Int) {a' : Option Addr} {n' cap2 : Nat} {c' : Option Addr} {m' cap3 : Nat} {K' : Int} (C' D' : List Int) {w : World}
  (hC : Ints w a n C) (hD : Ints w c m D) (hC' : Ints w a' n' C') (hD' : Ints w c' m' D') (hn : n <= 1048576) (hm : m <= 1048576) (hn' : n' <= 1048576) (hm' : m' <= 1048576) :
  Calls Tryz.prog 128 #[formV a n cap c m cap' K, formV a' n' cap2 c' m' cap3 K'] w fun e w' => e = .returned (.bool (eqF C D K C' D' K')) /\ Below w.heap.size w w' := by
 cases h1 : eqB C C'
 ·go_enter Tryz.func128, Tryz.ntmps128
  go_wp2_with fail
  refine (eq_any C C' ((hC.alloc _).alloc _) ((hC'.alloc _).alloc _) hn hn').mono ?_;rintro e w1 ⟨rfl, b1⟩
  go_wp2
  go_ret
  exact ⟨ret_bool (by simp [eqF, h1]), ((bal).alloc (by simp) _).trans (b1.mono (by simp; omega))⟩
 cases h2 : eqB D D'
 ·go_enter Tryz.func128, Tryz.ntmps128
  go_wp2_with fail
  refine (eq_any C C' ((hC.alloc _).alloc _) ((hC'.alloc _).alloc _) hn hn').mono ?_;rintro e w1 ⟨rfl, b1⟩;have q0 := ((Cel.new w _ _).alloc _).below b1;have q1 := (Cel.new (w.alloc _) _ _).below b1;rw [qA] at q1;have g0 := q0.cell 1;have g1 := q1.cell 1;simp only [qB, qC] at g0 g1
  go_wp2_with fail
  refine (eq_any D D' (((hD.alloc _).alloc _).below b1) (((hD'.alloc _).alloc _).below b1) hm hm').mono ?_;rintro e w2 ⟨rfl, b2⟩
  go_wp2
  go_ret
  have B1 := ((bal).alloc (by simp) _).trans (b1.mono (by simp; omega))
  exact ⟨ret_bool (by simp [eqF, h2]), btr B1 b2⟩
 cases h3 : (K != K')
 all_goals
  go_enter Tryz.func128, Tryz.ntmps128
  go_wp2_with fail
  refine (eq_any C C' ((hC.alloc _).alloc _) ((hC'.alloc _).alloc _) hn hn').mono ?_;rintro e w1 ⟨rfl, b1⟩;have q0 := ((Cel.new w _ _).alloc _).below b1;have q1 := (Cel.new (w.alloc _) _ _).below b1;rw [qA] at q1;have g0 := q0.cell 1;have g1 := q1.cell 1;simp only [qB, qC] at g0 g1
  go_wp2_with fail
  refine (eq_any D D' (((hD.alloc _).alloc _).below b1) (((hD'.alloc _).alloc _).below b1) hm hm').mono ?_;rintro e w2 ⟨rfl, b2⟩;have g2 := (q0.below b2).cell 2;have g3 := (q1.below b2).cell 2;simp only [qB, qC] at g2 g3
  go_wp2
  go_ret
  have B1 := ((bal).alloc (by simp) _).trans (b1.mono (by simp; omega));have h4 := h3;simp at h4
  exact ⟨ret_bool (by simp [eqF, h1, h2, h4]), btr B1 b2⟩
theorem open_row {H : Type} {enc : TypeId × Value -> H} {fuel : Nat} {y : DataW H × List MemPlace}
  (hf : DataW.trod enc Tryz.prog W 0 (fun _ => true) true fuel 23 [v] = some y) : ∃ a n cap zs, v = .slice a n cap /\ Ints W a n zs /\ n <= maxLen := by
 rcases open_ints Tryz.underlying23 Tryz.underlying3 (by kernel_rfl) hf with ⟨hcs, _⟩ | ⟨x, l, c, zs, hcs, _, hl, hm, hz, _, hcell, hwz⟩
 ·simp at hcs
  exact ⟨none, 0, 0, [], hcs, ⟨rfl, fun i hi => by omega⟩, by unfold maxLen; omega⟩
 simp at hcs;have hr : IsRow .i64 W (some x) l c zs := .inr ⟨x, rfl, hl, hm, by simpa using hz, hcell, hwz⟩
 exact ⟨some x, l, c, zs.take l, hcs, hr.ints, by omega⟩
theorem open_num {H : Type} {enc : TypeId × Value -> H} {fuel : Nat} {y : DataW H × List MemPlace}
  (hf : DataW.trod enc Tryz.prog W 0 (fun _ => true) true fuel 3 [v] = some y) : ∃ K : Int, v = .int .i64 K /\ (Lit.int .i64 K).wf = true := by
 obtain ⟨K, e0, _, wK⟩ := DataW.trod_int Tryz.underlying3 hf;simp at e0
 exact ⟨K, e0, wK⟩
theorem open_numT {H : Type} {enc : TypeId × Value -> H} {r : Reach} {b0 : Nat} {d : DataW H} {p : List MemPlace}
  (h : DataW.Trod enc Tryz.prog W 0 (fun _ => true) true 3 v d p) (hv : Value.okWide Tryz.prog W r b0 3 v) : ∃ K : Int, v = .int .i64 K /\ (Lit.int .i64 K).wf = true := by
 obtain ⟨K, rfl, rfl, rfl, wK⟩ := open_int Tryz.underlying3 hv h
 exact ⟨K, rfl, wK⟩
abbrev treV (a : Option Addr) (n cap : Nat) (c : Option Addr) (m cap' : Nat) : Value := .agg #[.slice a n cap, .slice c m cap']
structure Touch (S : Nat -> Prop) (w w' : World) : Prop where
 os : w'.os = w.os
 tape : w'.tape = w.tape
 output : w'.output = w.output
 size : w.heap.size <= w'.heap.size
 block : ∀ k, k < w.heap.size -> ¬ S k -> w'.heap[k]? = w.heap[k]?
theorem Touch.refl (S : Nat -> Prop) (w : World) : Touch S w w := ⟨rfl, rfl, rfl, Nat.le_refl _, fun _ _ _ => rfl⟩
theorem Touch.of (h : Below w.heap.size w w') : Touch S w w' := ⟨h.os, h.tape, h.output, h.size, fun k hk _ => h.block k hk⟩
theorem Touch.trans {a b c : World} (h : Touch S a b) (k : Touch S b c) : Touch S a c :=
 ⟨k.os.trans h.os, k.tape.trans h.tape, k.output.trans h.output, Nat.le_trans h.size k.size, fun i hi hn => (k.block i (Nat.lt_of_lt_of_le hi h.size) hn).trans (h.block i hi hn)⟩
theorem Touch.mono {T : Nat -> Prop} {a b : World} (h : Touch S a b) (hs : ∀ k, S k -> T k) : Touch T a b := ⟨h.os, h.tape, h.output, h.size, fun i hi hn => h.block i hi (fun hh => hn (hs i hh))⟩
theorem Touch.below (h : Touch S w w') (hB : B <= w.heap.size) (hS : ∀ k, S k -> B <= k) : Below B w w' :=
 ⟨h.os, h.tape, h.output, h.size, fun k hk => h.block k (by omega) (fun hh => by have := hS k hh; omega)⟩
theorem Touch.setCell (h : Touch S w w') {B i : Nat} (hB : S B) (v : Value) : Touch S w (w'.setCell ⟨B, i, none⟩ v) :=
 ⟨h.os, h.tape, h.output, by rw [size_setCell]; exact h.size, fun k hk hn => by rw [Below.heap_setCell _ _ _ _ (fun e => hn (by subst e; exact hB))]; exact h.block k hk hn⟩
def OwnAt (w : World) (a : Option Addr) (B : Nat) (zs : List Int) : Prop := zs = [] \/ (a = some ⟨B, 0, none⟩ /\ Blk w B zs)
theorem OwnAt.ints (h : OwnAt w a B zs) : Ints w a zs.length zs := by
 rcases h with rfl | ⟨rfl, h⟩
 ·exact ⟨rfl, fun i hi => by simp at hi⟩
 exact h.ints
theorem OwnAt.ints' (h : OwnAt w a B zs) (hn : zs.length = n) : Ints w a n zs := hn ▸ h.ints
theorem OwnAt.lt (h : OwnAt w a B zs) (hn : 0 < zs.length) : B < w.heap.size := by
 rcases h with rfl | ⟨rfl, h⟩
 ·simp at hn
 exact h.lt
theorem OwnAt.below (h : OwnAt w a B zs) (hb : Below w.heap.size w w') : OwnAt w' a B zs := by
 rcases h with rfl | ⟨rfl, h⟩
 ·exact .inl rfl
 exact .inr ⟨rfl, h.below hb⟩
theorem OwnAt.touch (h : OwnAt w a B zs) (hb : Touch S w w') (hn : ¬ S B) : OwnAt w' a B zs := by
 rcases h with rfl | ⟨rfl, h⟩
 ·exact .inl rfl
 exact .inr ⟨rfl, by unfold Blk at *; rw [hb.block B (lt_of_block h) hn]; exact h⟩
theorem Cel.touch {vs : List Value} {t : TypeId} (h : Cel w B vs t) (hb : Touch S w w') (hn : ¬ S B) : Cel w' B vs t := by
 unfold Cel at *; rw [hb.block B (lt_of_block h) hn]; exact h
theorem Ints.touch (h : Ints w a n zs) (hb : Touch S w w') (hB : B <= w.heap.size) (hS : ∀ k, S k -> B <= k) (hl : ∀ b o, a = some ⟨b, o, none⟩ -> b < B) : Ints w' a n zs := by
 refine ⟨h.1, fun i hi => ?_⟩;obtain ⟨b, off, hab, hc⟩ := h.2 i hi
 exact ⟨b, off, hab, by rw [(hb.below hB hS).cell (p := ⟨b, off + i, none⟩) (hl _ _ hab)]; exact hc⟩
def ramp (k : Int) : Nat -> List Int
 | 0 => []
 | n + 1 => ramp k n ++ [k + n]
def marked (k : Int) (zs : List Int) (i : Nat) : List Int := ramp k i ++ zs.drop i
def Res (w w' : World) (e : Ending) (C D : List Int) (K : Int) : Prop :=
 ∃ a n cap c m cap' B1 B2, e = .returned (formV a n cap c m cap' K) /\ C.length = n /\ D.length = m /\ Below w.heap.size w w' /\ OwnAt w' a B1 C /\ OwnAt w' c B2 D /\ (0 < n -> w.heap.size <= B1) /\ (0 < m -> w.heap.size <= B2) /\ (0 < n -> 0 < m -> B1 ≠ B2)
theorem Res.of {e : Ending} {C D : List Int} {B1 B2 : Nat} (he : e = .returned (formV (some ⟨B1, 0, none⟩) n n (some ⟨B2, 0, none⟩) m m K)) (hn : C.length = n) (hm : D.length = m)
  (hb : Below w.heap.size w w') (h1 : w.heap.size <= B1) (h2 : B1 ≠ B2) (h3 : w.heap.size <= B2) (k1 : Blk w' B1 C) (k2 : Blk w' B2 D) : Res w w' e C D K :=
 ⟨_, _, _, _, _, _, B1, B2, he, hn, hm, hb, .inr ⟨rfl, k1⟩, .inr ⟨rfl, k2⟩, fun _ => h1, fun _ => h3, fun _ _ => h2⟩
theorem Res.none {e : Ending} (he : e = .returned (formV none 0 0 none 0 0 0)) (hb : Below w.heap.size w w') : Res w w' e [] [] 0 :=
 ⟨_, _, _, _, _, _, 0, 0, he, rfl, rfl, hb, .inl rfl, .inl rfl, fun h => by omega, fun h => by omega, fun h => by omega⟩
end Go.Proofs.YtfmpcihghlnlnaaGreatDoor
