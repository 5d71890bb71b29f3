/-
  Lemmas that the claim's last text rests on.
-/
import Derived.Test.YtemcinobgdphnaaGreatQRQ
namespace Go.Proofs.YtemcinobgdphnaaGreat
open Go.RowKit Go.Deep
open List renaming getElem?_eq_getElem → qA, getElem?_cons_zero → qB, getElem?_cons_succ → qC, take_of_length_le → qD, take_succ_eq_append_getElem → qE
open Nat renaming le_refl → qF, zero_le → qG
set_option linter.unusedVariables false
set_option maxRecDepth 100000
set_option maxHeartbeats 25600000
variable {B cap cap' k m n : Nat} {E : List Int} {a c : Option Addr} {g : Int} {ss ts : List IV} {t : TypeId} {v0 v1 : Value} {w : World}
section
variable {P : Program} {n : Nat} {α : Type}
def roundLeft (B : Nat) (Kp : World -> World -> Prop) (I : List α -> World -> Prop) (Ix : Code -> List α -> World -> Prop) (xs : List α) (W : World) : Exit -> Act -> World -> Prop
 | .normal, _, W' => KeepsFrom B W W' /\ Kp W W' /\ I xs W'
 | .ret, _, W' => KeepsFrom B W W' /\ Kp W W' /\ Ix .ret xs W'
 | .exit id, _, W' => KeepsFrom B W W' /\ Kp W W' /\ Ix (.exit id) xs W'
 | .goto t, _, W' => KeepsFrom B W W' /\ Kp W W' /\ Ix (.goto t) xs W'
 | _, _, _ => False
theorem wpIn_rowsL {g : Operand} {ps : Array Tmp} {assign body : Code} {Q : Exit -> Act -> World -> Prop} {a : Act} {gf : Nat} {lb : Array Value}
  (hg : a.eval g = .func (.func gf) #[] lb) (eg : ∀ args w, (callFunc gf args).run P w = .ok (.enter gf args) w)
  {encs : α -> Array Value} (hps : ∀ x, (encs x).size = ps.size) (A : List α -> α -> World -> Prop) (Kp : World -> World -> Prop) (Sx Sp : List α -> Prop) (I : List α -> World -> Prop) (Ix : Code -> List α -> World -> Prop)
  (hI : ∀ pre X Y, I pre X -> Below X.heap.size X Y -> I pre Y) (hIb : ∀ pre X l r r', I pre X -> X.heap[l]? = some (.loop r) -> w.heap.size < l -> I pre (X.putObj l (.loop r')))
  (hXb : ∀ c pre X l r r', Ix c pre X -> X.heap[l]? = some (.loop r) -> w.heap.size < l -> Ix c pre (X.putObj l (.loop r')))
  (hKb : ∀ X l r r', X.heap[l]? = some (.loop r) -> Kp X (X.putObj l (.loop r'))) (hKt : ∀ X Y Z, Kp X Y -> Kp Y Z -> Kp X Z) (h0 : I [] w)
  (hseq : ∀ (l : Nat) (J D : List α -> World -> Prop) (W : World), (∀ pre X Y, J pre X -> Below X.heap.size X Y -> J pre Y) -> Below w.heap.size w W -> J [] W ->
   (∀ m pre x X, J pre X -> A pre x X -> YieldAt Fence.wide m P l (encs x) X fun e Y => ∃ b : Bool, e = .returned (.bool b) /\ ((b = true /\ J (pre ++ [x]) Y) \/ (b = false /\ D (pre ++ [x]) Y)) /\ Kp X Y) ->
   CallsIn Fence.wide (n - 1) P gf (#[.func (.yield l) #[] #[]] ++ lb) W fun e Y => (∃ v, e = .returned v) /\ ((∃ xs, Sx xs /\ J xs Y) \/ ∃ xs, Sp xs /\ D xs Y))
  (hround : ∀ (m l : Nat) (pre : List α) (x : α) (X : World) (r : Loop), I pre X -> A pre x X -> X.heap[l]? = some (.loop r) -> w.heap.size < l ->
   assign.wpIn (Fence.wide.inRound l) m P (Exit.then (fun a' Y => KeepsFrom w.heap.size X Y /\ Kp X Y /\ body.wpIn (Fence.wide.inRound l) m P (roundLeft w.heap.size Kp I Ix (pre ++ [x]) (Y.putObj l (.loop { r with state := .busy }))) a' (Y.putObj l (.loop { r with state := .busy }))) (fun _ _ _ => False))
    { tmps := (ps.zip (encs x)).foldl (fun t (p, v) => t.setIfInBounds p v) a.tmps, defers := [] } X)
  (hdone : ∀ (D : Nat) (xs : List α) (W : World), w.heap.size <= D -> Sx xs -> I xs W -> W.heap[D]? = some (.deferred (some [])) -> Q .normal { a with defers := { target := .collected D, args := #[] } :: a.defers } W)
  (hstop : ∀ (D : Nat) (c : Code) (xs : List α) (W : World), w.heap.size <= D -> Sp xs -> Ix c xs W -> W.heap[D]? = some (.deferred (some [])) -> c.wpIn Fence.wide n P Q { a with defers := { target := .collected D, args := #[] } :: a.defers } W) :
  (Code.rangeFunc g ps assign body).wpIn Fence.wide n P Q a w := by
 refine wpIn_rangeFunc ?_;intro fn _;obtain ⟨r0, hr0⟩ : ∃ r0 : Loop, r0 = { state := .ready, pending := none, fn, tmps := a.tmps, params := ps, assign, body, defers := w.heap.size } := ⟨_, rfl⟩
 obtain ⟨W1, hW1⟩ : ∃ W1, W1 = (w.alloc (.deferred (some []))).alloc (.loop r0) := ⟨_, rfl⟩
 have b1 : Below w.heap.size w W1 := by rw [hW1]; exact ((Below.refl _ w).alloc (qF _) _).alloc (by simp) _
 have hL : W1.heap[w.heap.size + 1]? = some (.loop r0) := by
  rw [hW1]; have := World.alloc_heap_new (w.alloc (.deferred (some []))) (.loop r0); rwa [World.size_alloc] at this
 have hD : W1.heap[w.heap.size]? = some (.deferred (some [])) := by
  rw [hW1]; exact (Below.heap_alloc _ _ _ (by simp)).trans (World.alloc_heap_new w _)
 refine ⟨w.heap.size + 1, [{ target := .collected w.heap.size, args := #[] }], W1, { target := .fn (.func gf) lb, args := #[.func (.yield (w.heap.size + 1)) #[] #[]] }, W1, gf, #[.func (.yield (w.heap.size + 1)) #[] #[]] ++ lb, W1, ?_, ?_, ?_, ?_, ?_, ?_⟩
 ·rw [hW1, hr0]; exact run_enterLoop_outer _ _ _ _ _
 ·simp only [resolve, hg];simp [go_sem]
 ·intro f' _; trivial
 ·simp [invoke, go_sem, eg]
 ·intro h; simp [Fence.wide] at h
 refine (hseq (w.heap.size + 1) (fun pre W => I pre W /\ W.heap[w.heap.size + 1]? = some (.loop r0) /\ W.heap[w.heap.size]? = some (.deferred (some [])))
  (fun pre W => ∃ c, Ix c pre W /\ W.heap[w.heap.size + 1]? = some (.loop { r0 with state := .done, pending := some c }) /\ W.heap[w.heap.size]? = some (.deferred (some []))) W1 ?_ b1 ⟨hI _ _ _ h0 b1, hL, hD⟩ ?_).mono ?_
 ·rintro pre X Y ⟨i1, i2, i3⟩ hb
  exact ⟨hI _ _ _ i1 hb, (hb.block _ (Array.getElem?_eq_some_iff.1 i2).1).trans i2, (hb.block _ (Array.getElem?_eq_some_iff.1 i3).1).trans i3⟩
 ·rintro m pre x X ⟨i1, i2, i3⟩ hA;have hy := run_yield (P := P) (args := encs x) i2 (by rw [hr0]; exact hps x);rw [hr0] at hy;refine ⟨fn, _, assign, body, hy, roundIn_of_wpIn trivial (wpIn_mono (hround m _ pre x X r0 i1 hA i2 (by omega)) ?_)⟩;rintro e a' Y hp
  cases e with
  | normal =>
   obtain ⟨k1, k2, hb⟩ := hp;have j2 := k1.same _ _ (by omega) i2 rfl;have j3 := k1.same _ _ (qF _) i3 rfl;refine ⟨_, run_beginRound j2 (by rw [hr0]), wpIn_mono hb ?_⟩;have hl : w.heap.size + 1 < Y.heap.size := (Array.getElem?_eq_some_iff.1 j2).1
   have left : ∀ (c : Code) (Z : World), KeepsFrom w.heap.size (Y.putObj (w.heap.size + 1) (.loop { r0 with state := .busy })) Z -> Kp (Y.putObj (w.heap.size + 1) (.loop { r0 with state := .busy })) Z -> Ix c (pre ++ [x]) Z ->
     ∃ v w', (Instr.endRound (w.heap.size + 1) (some c)).run P Z = .ok v w' /\ (∃ b : Bool, (Ending.returned v) = .returned (.bool b) /\ ((b = true /\ I (pre ++ [x]) w' /\ w'.heap[w.heap.size + 1]? = some (.loop r0) /\ w'.heap[w.heap.size]? = some (.deferred (some []))) \/ (b = false /\ ∃ c, Ix c (pre ++ [x]) w' /\ w'.heap[w.heap.size + 1]? = some (.loop { r0 with state := .done, pending := some c }) /\ w'.heap[w.heap.size]? = some (.deferred (some [])))) /\ Kp X w') := by
    intro c Z q1 q2 q3;have m2 := q1.same _ _ (by omega) (World.putObj_heap_same (o := .loop { r0 with state := .busy }) hl) rfl;have m3 := q1.same _ _ (qF _) ((World.putObj_heap_other (by omega)).trans j3) rfl;have hz : w.heap.size + 1 < Z.heap.size := (Array.getElem?_eq_some_iff.1 m2).1;refine ⟨_, _, run_endRound (some c) m2, false, rfl, Or.inr ⟨rfl, c, hXb _ _ _ _ _ _ q3 m2 (by omega), ?_, (World.putObj_heap_other (by omega)).trans m3⟩, hKt _ _ _ (hKt _ _ _ (hKt _ _ _ k2 (hKb _ _ _ _ j2)) q2) (hKb _ _ _ _ m2)⟩;rw [World.putObj_heap_same hz]
    rfl
   rintro e a'' Z hq
   cases e with
   | normal =>
    obtain ⟨q1, q2, q3⟩ := hq;have m2 := q1.same _ _ (by omega) (World.putObj_heap_same (o := .loop { r0 with state := .busy }) hl) rfl;have m3 := q1.same _ _ (qF _) ((World.putObj_heap_other (by omega)).trans j3) rfl;have hz : w.heap.size + 1 < Z.heap.size := (Array.getElem?_eq_some_iff.1 m2).1;refine ⟨_, _, run_endRound none m2, true, rfl, Or.inl ⟨rfl, hIb _ _ _ _ _ q3 m2 (by omega), ?_, (World.putObj_heap_other (by omega)).trans m3⟩, hKt _ _ _ (hKt _ _ _ (hKt _ _ _ k2 (hKb _ _ _ _ j2)) q2) (hKb _ _ _ _ m2)⟩;rw [World.putObj_heap_same hz, hr0]
    rfl
   | ret => exact left _ Z hq.1 hq.2.1 hq.2.2
   | exit id => exact left _ Z hq.1 hq.2.1 hq.2.2
   | goto t => exact left _ Z hq.1 hq.2.1 hq.2.2
   | panic c => exact hq.elim
   | outgrown => exact hq.elim
  | ret => exact hp.elim
  | exit id => exact hp.elim
  | goto t => exact hp.elim
  | panic c => exact hp.elim
  | outgrown => exact hp.elim
 rintro e W2 ⟨⟨v, rfl⟩, ⟨xs, hS, i1, i2, i3⟩ | ⟨xs, hS, c, i1, i2, i3⟩⟩
 ·exact ⟨none, _, by have := run_endLoop (P := P) i2 (by rw [hr0]; simp); rw [hr0] at this; rw [hr0] at i2; exact this, hdone _ xs _ (qF _) hS (hIb _ _ _ _ _ i1 i2 (by omega)) ((World.putObj_heap_other (by omega)).trans i3)⟩
 exact ⟨some c, _, run_endLoop (P := P) i2 (by simp), hstop _ c xs _ (qF _) hS (hXb _ _ _ _ _ _ i1 i2 (by omega)) ((World.putObj_heap_other (by omega)).trans i3)⟩
end
def trtB (n m : Nat) (C D : List Int) : Bool := okN 3 10000 n C && (inB m 1 3 && betB 0 50 D)
theorem strt_any (C D : List Int) {w : World} (hC : Ints w a n C) (hD : Ints w c m D) (hn : n <= 1048576) (hm : m <= 1048576) :
  Calls Tryz.prog 21 #[treV a n cap c m cap'] w fun e w' => e = .returned (.bool (trtB n m C D)) /\ Below w.heap.size w w' := by
 have HD : Hid (D.length = m) := hD.1
 cases h1 : okN 3 10000 n C
 ·go_enter Tryz.func21, Tryz.ntmps21
  go_wp2_with fail
  refine (sval_any C (hC.alloc _) hn).mono ?_;rintro e w1 ⟨rfl, rfl⟩
  go_wp2
  go_ret
  exact ⟨ret_bool (by simp [trtB, h1]), bal⟩
 cases h2 : inB m 1 3
 ·go_enter Tryz.func21, Tryz.ntmps21
  go_wp2_with fail
  refine (sval_any C (hC.alloc _) hn).mono ?_;rintro e w1 ⟨rfl, rfl⟩
  go_wp2_with fail
  refine (in_any).mono ?_;rintro e w1 ⟨rfl, rfl⟩
  go_wp2
  go_ret
  exact ⟨ret_bool (by simp [trtB, h2]), bal⟩
 go_enter Tryz.func21, Tryz.ntmps21
 go_wp2_with fail
 refine (sval_any C (hC.alloc _) hn).mono ?_;rintro e w1 ⟨rfl, rfl⟩
 go_wp2_with fail
 refine (in_any).mono ?_;rintro e w1 ⟨rfl, rfl⟩
 go_wp2_with fail
 go_loop [3] (fun i => ∃ k : Nat, k <= m /\ i = .int .i64 k /\ betB 0 50 (D.take k) = true) (fun i => m - (intOf i).toNat)
 case atStart => exact ⟨0, qG _, rfl, rfl⟩
 case round =>
  obtain ⟨k, hk, rfl, hall⟩ := hrel;have HA : Hid (betB 0 50 (D.take k) = true) := hall;clear hall
  by_cases hlt : k < m
  ·obtain ⟨b, off, rfl, hcell⟩ := (hD.alloc (.cells #[.slice a n cap, .slice c m cap'] 26 (0, 0))).pos (by omega);have hck := hcell k hlt;clear hcell hC hD
   cases hin : inB (D[k]?.getD 0) 0 50
   ·go_wp2_with fail
    refine (in_any).mono ?_;rintro e w1 ⟨rfl, rfl⟩
    go_wp2
    go_ret
    exact ⟨ret_bool (by rw [trtB, betB_false (by rw [HD.out]; exact hlt) hin]; simp), bal⟩
   go_wp2_with fail
   refine (in_any).mono ?_;rintro e w1 ⟨rfl, rfl⟩
   go_wp2
   go_round
   case rel => exact ⟨k + 1, by omega, by go_num, betB_step (by rw [HD.out]; exact hlt) HA.out hin⟩
   case measure => simp [intOf]; omega
  go_wp2
  go_ret
  exact ⟨ret_bool (by rw [trtB, h1, h2, betB_end (by rw [HD.out]; omega) HA.out]; rfl), bal⟩
theorem itrt_any (C D : List Int) {w : World} (hC : Ints w a n C) (hD : Ints w c m D) (hn : n <= 1048576) (hm : m <= 1048576) :
  Calls Tryz.prog 23 #[treV a n cap c m cap'] w fun e w' => e = .returned (.bool (trtB n m C D)) /\ Below w.heap.size w w' := by
 cases h1 : okN 3 10000 n C
 ·go_enter Tryz.func23, Tryz.ntmps23
  go_wp2_with fail
  refine (ival_any C (hC.alloc _) hn).mono ?_;rintro e w1 ⟨rfl, rfl⟩
  go_wp2
  go_ret
  exact ⟨ret_bool (by simp [trtB, h1]), bal⟩
 by_cases h2 : 1 <= m
 ·by_cases h3 : m <= 3
  ·have h4 : inB m 1 3 = true := inB_iff.2 ⟨by omega, by omega⟩;have H4 : Hid _ := h4;clear h4
   go_enter Tryz.func23, Tryz.ntmps23
   go_wp2_with fail
   refine (ival_any C (hC.alloc _) hn).mono ?_;rintro e w1 ⟨rfl, rfl⟩
   go_wp2_with fail
   refine (between_any D _ _ (hD.alloc _) hm).mono ?_;rintro e w1 ⟨rfl, rfl⟩
   go_wp2
   go_ret
   exact ⟨ret_bool (by rw [trtB, h1, H4.out]; rfl), bal⟩
  have h4 : inB m 1 3 = false := inB_not.2 (by omega);have H4 : Hid _ := h4;clear h4
  go_enter Tryz.func23, Tryz.ntmps23
  go_wp2_with fail
  refine (ival_any C (hC.alloc _) hn).mono ?_;rintro e w1 ⟨rfl, rfl⟩
  go_wp2
  go_ret
  exact ⟨ret_bool (by rw [trtB, H4.out]; simp), bal⟩
 have h4 : inB m 1 3 = false := inB_not.2 (by omega);have H4 : Hid _ := h4;clear h4
 go_enter Tryz.func23, Tryz.ntmps23
 go_wp2_with fail
 refine (ival_any C (hC.alloc _) hn).mono ?_;rintro e w1 ⟨rfl, rfl⟩
 go_wp2
 go_ret
 exact ⟨ret_bool (by rw [trtB, H4.out]; simp), bal⟩
def others (D : List Int) (s : Int) : Nat -> Int
 | 0 => 0
 | k + 1 => if (k : Int) = s then others D s k else wrap64 (others D s k + D[k]?.getD 0)
theorem sothers_any (D : List Int) (s : Int) {w : World} (hD : Ints w c m D) (hm : m <= 1048576 := by omega) :
  Calls Tryz.prog 152 #[treV a n cap c m cap', .int .i64 s] w fun e w' => e = .returned (.int .i64 (others D s m)) /\ Below w.heap.size w w' := by
 go_enter Tryz.func152, Tryz.ntmps152
 go_wp2_with fail
 go_loop [5, 6] (fun x i => ∃ k : Nat, k <= m /\ i = .int .i64 k /\ x = .int .i64 (others D s k)) (fun _ i => m - (intOf i).toNat)
 case atStart => exact ⟨0, qG _, rfl, rfl⟩
 case round =>
  obtain ⟨k, hk, rfl, rfl⟩ := hrel
  by_cases hlt : k < m
  ·obtain ⟨b, off, rfl, hcell⟩ := (hD.alloc (.cells #[.slice a n cap, .slice c m cap'] 26 (0, 0))).pos (by omega);have hck := hcell k hlt;clear hcell hD;have HO : Hid (others D s (k + 1) = if (k : Int) = s then others D s k else wrap64 (others D s k + D[k]?.getD 0)) := rfl;obtain ⟨y, hy⟩ : ∃ y, y = others D s k := ⟨_, rfl⟩
   rw [<- hy] at HO;rw [<- hy];clear hy
   by_cases hs : (k : Int) = s
   ·have hs' : ((k : Int) != s) = false := by simp [hs]
    have HS : Hid ((k : Int) = s) := hs;clear hs
    go_wp2
    go_round
    case rel => exact ⟨k + 1, by omega, by go_num, by rw [HO.out, if_pos HS.out]⟩
    case measure => simp [intOf]; omega
   have hs' : ((k : Int) != s) = true := by simp [hs]
   have HS : Hid (¬ (k : Int) = s) := hs;clear hs
   go_wp2
   go_round
   case rel => exact ⟨k + 1, by omega, by go_num, by rw [HO.out, if_neg HS.out]⟩
   case measure => simp [intOf]; omega
  obtain rfl : k = m := by omega
  go_wp2
  go_ret
  exact ⟨rfl, bal⟩
theorem iothers_any (D : List Int) (s : Int) {w : World} (hD : Ints w c m D) (hm : m <= 1048576) :
  Calls Tryz.prog 125 #[treV a n cap c m cap', .int .i64 s] w fun e w' => e = .returned (.int .i64 (others D s m)) /\ Below w.heap.size w w' := by
 go_enter Tryz.func125, Tryz.ntmps125
 go_wp2_with fail
 go_loop [5, 6, 7, 11] (fun x _ _ i => ∃ k : Nat, k <= m /\ i = .int .i64 k /\ x = .int .i64 (others D s k)) (fun _ _ _ i => m - (intOf i).toNat)
 case atStart => exact ⟨0, qG _, rfl, rfl⟩
 case round =>
  obtain ⟨k, hk, rfl, rfl⟩ := hrel
  by_cases hlt : k < m
  ·obtain ⟨b, off, rfl, hcell⟩ := (hD.alloc (.cells #[.slice a n cap, .slice c m cap'] 26 (0, 0))).pos (by omega);have hck := hcell k hlt;clear hcell hD;have HO : Hid (others D s (k + 1) = if (k : Int) = s then others D s k else wrap64 (others D s k + D[k]?.getD 0)) := rfl;obtain ⟨y, hy⟩ : ∃ y, y = others D s k := ⟨_, rfl⟩
   rw [<- hy] at HO;rw [<- hy];clear hy
   by_cases hs : (k : Int) = s
   ·have hs' : ((k : Int) != s) = false := by simp [hs]
    have HS : Hid ((k : Int) = s) := hs;clear hs
    go_wp2
    go_round
    case rel => exact ⟨k + 1, by omega, by go_num, by rw [HO.out, if_pos HS.out]⟩
    case measure => simp [intOf]; omega
   have hs' : ((k : Int) != s) = true := by simp [hs]
   have HS : Hid (¬ (k : Int) = s) := hs;clear hs
   go_wp2
   go_round
   case rel => exact ⟨k + 1, by omega, by go_num, by rw [HO.out, if_neg HS.out]⟩
   case measure => simp [intOf]; omega
  obtain rfl : k = m := by omega
  go_wp2
  go_ret
  exact ⟨rfl, bal⟩
def partsB (ss : List IV) : Bool := ss.all fun s => okN 3 10000000 s.n s.x
theorem partsB_step (h : k < ss.length) (h1 : partsB (ss.take k) = true) (h2 : okN 3 10000000 (ss[k]?.getD noI).n (ss[k]?.getD noI).x = true) : partsB (ss.take (k + 1)) = true := by
 unfold partsB at *;rw [qE h, List.all_append, h1];rw [qA h] at h2;simpa using h2
theorem partsB_end (h : ss.length <= k) (h1 : partsB (ss.take k) = true) : partsB ss = true := by
 rwa [qD h] at h1
theorem partsB_false (h : k < ss.length) (hn : okN 3 10000000 (ss[k]?.getD noI).n (ss[k]?.getD noI).x = false) : partsB ss = false := by
 unfold partsB;rw [List.all_eq_false];refine ⟨ss[k], List.getElem_mem h, ?_⟩;rw [qA h] at hn;simpa using hn
theorem partsB_at (h : k < ss.length) (hp : partsB ss = true) : okN 3 10000000 (ss[k]?.getD noI).n (ss[k]?.getD noI).x = true := by
 cases hn : okN 3 10000000 (ss[k]?.getD noI).n (ss[k]?.getD noI).x
 ·rw [partsB_false h hn] at hp; cases hp
 rfl
theorem sparts_any {ad : Option Addr} {N : Nat} (ss : List IV) {w : World} (hN : ss.length = N) (hF : ISG w ad ss) (hN1 : N <= 1048576) :
  Calls Tryz.prog 102 #[.slice ad N cap] w fun e w' => e = .returned (.bool (partsB ss)) /\ w' = w := by
 have HN : Hid (ss.length = N) := hN;clear hN
 go_enter Tryz.func102, Tryz.ntmps102
 go_wp2_with fail
 go_loop [3] (fun i => ∃ k : Nat, k <= N /\ i = .int .i64 k /\ partsB (ss.take k) = true) (fun i => N - (intOf i).toNat)
 case atStart => exact ⟨0, qG _, rfl, rfl⟩
 case round =>
  obtain ⟨k, hk, rfl, hall⟩ := hrel;have HA : Hid _ := hall;clear hall
  by_cases hlt : k < N
  ·obtain ⟨b, off, rfl, hc, hr⟩ := hF k (by rw [HN.out]; exact hlt);have H1 : Hid _ := partsB_step (ss := ss) (k := k) (by rw [HN.out]; exact hlt) HA.out;have H2 : Hid _ := partsB_false (ss := ss) (k := k) (by rw [HN.out]; exact hlt);generalize HG : ss[k]?.getD noI = g at *;clear HG hF HA;obtain ⟨ga, gn, gcap, gx⟩ := g;have hc' : w.cell? ⟨b, off + k, none⟩ = some (.slice ga gn gcap) := hc;clear hc
   cases he : okN 3 10000000 gn gx
   ·go_wp2_with fail
    refine (all_any gx _ _ hr.1 hr.2).mono ?_;rintro e w1 ⟨rfl, rfl⟩;rw [he]
    go_wp2
    go_ret
    exact ⟨ret_bool (by rw [H2.out he]), rfl⟩
   go_wp2_with fail
   refine (all_any gx _ _ hr.1 hr.2).mono ?_;rintro e w1 ⟨rfl, rfl⟩;rw [he]
   go_wp2
   go_round
   case rel => exact ⟨k + 1, by omega, by go_num, H1.out he⟩
   case measure => simp [intOf]; omega
  go_wp2
  go_ret
  exact ⟨ret_bool (by rw [partsB_end (by rw [HN.out]; omega) HA.out]), rfl⟩
theorem iparts_any {ad : Option Addr} {N : Nat} (ss : List IV) {w : World} (hN : ss.length = N) (hF : ISG w ad ss) (hN1 : N <= 1048576) :
  Calls Tryz.prog 84 #[.slice ad N cap] w fun e w' => e = .returned (.bool (partsB ss)) /\ w' = w := by
 have HN : Hid (ss.length = N) := hN;clear hN
 go_enter Tryz.func84, Tryz.ntmps84
 go_wp2_with fail
 go_loop [4, 7] (fun _ i => ∃ k : Nat, k <= N /\ i = .int .i64 k /\ partsB (ss.take k) = true) (fun _ i => N - (intOf i).toNat)
 case atStart => exact ⟨0, qG _, rfl, rfl⟩
 case round =>
  obtain ⟨k, hk, rfl, hall⟩ := hrel;have HA : Hid _ := hall;clear hall
  by_cases hlt : k < N
  ·obtain ⟨b, off, rfl, hc, hr⟩ := hF k (by rw [HN.out]; exact hlt);have H1 : Hid _ := partsB_step (ss := ss) (k := k) (by rw [HN.out]; exact hlt) HA.out;have H2 : Hid _ := partsB_false (ss := ss) (k := k) (by rw [HN.out]; exact hlt);generalize HG : ss[k]?.getD noI = g at *;clear HG hF HA;obtain ⟨ga, gn, gcap, gx⟩ := g;have hc' : w.cell? ⟨b, off + k, none⟩ = some (.slice ga gn gcap) := hc;clear hc
   by_cases hn3 : (gn : Int) = 3
   ·have hn3' : ((gn : Int) != 3) = false := by simp [hn3]
    have H3 : Hid ((gn : Int) = 3) := hn3;clear hn3
    cases he : allB 10000000 gx
    ·go_wp2_with fail
     refine (within_any _ _ _ gx hr.1 hr.2).mono ?_;rintro e w1 ⟨rfl, rfl⟩;rw [he]
     go_wp2
     go_ret
     exact ⟨ret_bool (by rw [H2.out (by rw [okN_is H3.out, he])]), rfl⟩
    go_wp2_with fail
    refine (within_any _ _ _ gx hr.1 hr.2).mono ?_;rintro e w1 ⟨rfl, rfl⟩;rw [he]
    go_wp2
    go_round
    case rel => exact ⟨k + 1, by omega, by go_num, H1.out (by rw [okN_is H3.out, he])⟩
    case measure => simp [intOf]; omega
   have hn3' : ((gn : Int) != 3) = true := by simp [hn3]
   have H3 : Hid (¬ (gn : Int) = 3) := hn3;clear hn3
   go_wp2
   go_ret
   exact ⟨ret_bool (by rw [H2.out (okN_not H3.out)]), rfl⟩
  go_wp2
  go_ret
  exact ⟨ret_bool (by rw [partsB_end (by rw [HN.out]; omega) HA.out]), rfl⟩
theorem imay_any (zs : List Int) {w : World} (h : Ints w a n zs) (hn : n <= 1048576) :
  Calls Tryz.prog 85 #[.slice a n cap] w fun e w' => e = .returned (.bool (okN 3 20000 n zs)) /\ w' = w := by
 by_cases hc : (n : Int) = 3
 ·have hc' : ((n : Int) == 3) = true := by simp [hc]
  have HC : Hid ((n : Int) = 3) := hc;clear hc
  go_enter Tryz.func85, Tryz.ntmps85
  go_wp2_with fail
  refine (within_any _ _ _ zs h hn).mono ?_;rintro e w' ⟨rfl, rfl⟩
  go_wp2
  go_ret
  exact ⟨ret_bool (by rw [okN_is HC.out]), rfl⟩
 have hc' : ((n : Int) == 3) = false := by simpa using hc
 go_enter Tryz.func85, Tryz.ntmps85
 go_wp2
 go_ret
 exact ⟨ret_bool (by rw [okN_not hc]), rfl⟩
theorem times5_any (xs ys : List Int) {P : Int} {w : World} (h : Ints w a 3 xs) (h' : Ints w c 3 ys) (hP : bndP P xs ys) (h0 : 0 <= P) (hb : P <= 1000000000000) :
  Calls Tryz.prog 103 #[.slice a 3 cap, .slice c 3 cap'] w fun e w' => e = .returned (.int .i64 (dot xs ys 3)) /\ Below w.heap.size w w' := by
 have HP : Hid (bndP P xs ys) := hP;clear hP
 go_enter Tryz.func103, Tryz.ntmps103
 go_wp2_with fail
 go_loopw [5, 6] (fun s i wr => ∃ k : Nat, k <= 3 /\ i = .int .i64 k /\ s = .int .i64 (dot xs ys k) /\ Below w.heap.size w wr) (fun _ i _ => 3 - (intOf i).toNat)
 case atStart => exact ⟨0, by omega, rfl, rfl, Below.refl _ _⟩
 case round =>
  obtain ⟨k, hk, rfl, rfl, hb'⟩ := hrel
  by_cases hlt : k < 3
  ·obtain ⟨b, off, rfl, hcell⟩ := (h.below hb').pos (by omega);obtain ⟨b', off', rfl, hcell'⟩ := (h'.below hb').pos (by omega);have hck := hcell k hlt;have hck' := hcell' k hlt;have hlt' : (k : Int) < 3 := by omega
   obtain ⟨p1, p2⟩ := HP.out k;have d := dot_bnd HP.out k;have kP : (k : Int) * P <= 1000 * P := Int.mul_le_mul_of_nonneg_right (by omega) h0;have d1 : -1000000000000000 <= dot xs ys k := by omega
   have d2 : dot xs ys k <= 1000000000000000 := by omega
   have d3 : -1000000000000 <= xs[k]?.getD 0 * ys[k]?.getD 0 := by omega
   have d4 : xs[k]?.getD 0 * ys[k]?.getD 0 <= 1000000000000 := by omega
   clear hcell hcell' h h' d kP p1 p2 hb h0
   go_wp2_with fail
   go_quiet (fail)
   go_wp2
   go_roundw
   case rel => exact ⟨k + 1, by omega, by go_num, by simp only [dot], below_drewN hb' _⟩
   case measure => simp [intOf]; omega
  obtain rfl : k = 3 := by omega
  go_wp2
  go_ret
  exact ⟨rfl, hb'⟩
def viewB (n m : Nat) (C D : List Int) (ss : List IV) (s : Int) (k : Nat) (E : List Int) : Bool := trtB n m C D && (partsB ss && (inB s 0 ((m : Int) - 1) && okN 3 20000 k E))
def keepsB (g : Int) (E : List Int) (ss : List IV) : Bool := ss.all fun p => inB (dot p.x E 3) (-g) g
theorem keepsB_step (h : k < ss.length) (h1 : keepsB g E (ss.take k) = true) (h2 : inB (dot (ss[k]?.getD noI).x E 3) (-g) g = true) : keepsB g E (ss.take (k + 1)) = true := by
 unfold keepsB at *;rw [qE h, List.all_append, h1];rw [qA h] at h2;simpa using h2
theorem keepsB_end (h : ss.length <= k) (h1 : keepsB g E (ss.take k) = true) : keepsB g E ss = true := by
 rwa [qD h] at h1
theorem keepsB_false (h : k < ss.length) (hn : inB (dot (ss[k]?.getD noI).x E 3) (-g) g = false) : keepsB g E ss = false := by
 unfold keepsB;rw [List.all_eq_false];refine ⟨ss[k], List.getElem_mem h, ?_⟩;rw [qA h] at hn;simpa using hn
theorem viewB_elim {C D : List Int} {s : Int} (h : viewB n m C D ss s k E = true) :
  n = 3 /\ bnd 10000 C /\ 1 <= m /\ m <= 3 /\ partsB ss = true /\ 0 <= s /\ s < m /\ k = 3 /\ bnd 20000 E /\ (∀ i : Nat, i < D.length -> 0 <= D[i]?.getD 0 /\ D[i]?.getD 0 <= 50) := by
 simp only [viewB, trtB, Bool.and_eq_true] at h;obtain ⟨⟨h1, h2, h3⟩, h4, h5, h6⟩ := h;have a := okN_elim (by omega) h1;have b := okN_elim (by omega) h6;have c := inB_iff.1 h2;have d := inB_iff.1 h5;refine ⟨by omega, a.2, by omega, by omega, h4, d.1, by omega, by omega, b.2, fun i hi => ?_⟩;unfold betB at h3;rw [List.all_eq_true] at h3;have := inB_iff.1 (h3 D[i] (List.getElem_mem hi));rw [qA hi];simpa using this
def keepB (n m : Nat) (C D : List Int) (ss : List IV) (s : Int) (k : Nat) (E : List Int) : Bool := viewB n m C D ss s k E && keepsB (D[s.toNat]?.getD 0) E ss
theorem place_in (s : Int) (m : Nat) : decide (0 <= s /\ s < (m : Int)) = inB s 0 ((m : Int) - 1) := by
 unfold inB
 apply decide_eq_decide.2
 omega
abbrev viewV (a : Option Addr) (n cap : Nat) (c : Option Addr) (m cap' : Nat) (ad : Option Addr) (N pc : Nat) (s : Int) (e : Option Addr) (k ec : Nat) (u : Option Addr) (l uc : Nat) : Value := .agg #[.slice a n cap, .slice c m cap', .slice ad N pc, .int .i64 s, .slice e k ec, .slice u l uc]
theorem Cel.sixK {v2 v3 v4 v5 : Value} (h : Cel w B [v0, v1, v2, v3, v4, v5] t) : w.cell? ⟨B, 0, none⟩ = some v0 /\ w.cell? ⟨B, 1, none⟩ = some v1 /\ w.cell? ⟨B, 2, none⟩ = some v2 /\ w.cell? ⟨B, 3, none⟩ = some v3 /\ w.cell? ⟨B, 4, none⟩ = some v4 /\ w.cell? ⟨B, 5, none⟩ = some v5 := ⟨h.cell 0, h.cell 1, h.cell 2, h.cell 3, h.cell 4, h.cell 5⟩
theorem vok_any (a : Option Addr) (n cap : Nat) (c : Option Addr) (m cap' : Nat) (ad : Option Addr) (N pc : Nat) (s : Int) (e : Option Addr) (k ec : Nat) (u : Option Addr) (l uc : Nat) (C D E : List Int) (ss : List IV) {w : World}
  (hC : Ints w a n C) (hD : Ints w c m D) (hE : Ints w e k E) (hN : ss.length = N) (hF : ISG w ad ss) (hn : n <= 1048576) (hm : m <= 1048576) (hk : k <= 1048576) (hN1 : N <= 1048576) :
  Calls Tryz.prog 49 #[viewV a n cap c m cap' ad N pc s e k ec u l uc] w fun r w' => r = .returned (.bool (viewB n m C D ss s k E)) /\ Below w.heap.size w w' := by
 have HN : Hid (ss.length = N) := hN;clear hN;have q0 := Cel.new w [.slice a n cap, .slice c m cap', .slice ad N pc, .int .i64 s, .slice e k ec, .slice u l uc] 72;have b0 := (Below.refl w.heap.size w).alloc (qF _) (.cells #[.slice a n cap, .slice c m cap', .slice ad N pc, .int .i64 s, .slice e k ec, .slice u l uc] 72)
 cases h1 : trtB n m C D
 ·go_enter Tryz.func49, Tryz.ntmps49
  go_wp2_with fail
  refine (itrt_any C D (hC.below b0) (hD.below b0) hn hm).mono ?_;rintro r w1 ⟨rfl, b1⟩;have B1 := btr b0 b1;rw [h1]
  go_wp2
  go_ret
  exact ⟨ret_bool (by simp [viewB, h1]), B1⟩
 cases h2 : partsB ss
 ·go_enter Tryz.func49, Tryz.ntmps49
  go_wp2_with fail
  refine (itrt_any C D (hC.below b0) (hD.below b0) hn hm).mono ?_;rintro r w1 ⟨rfl, b1⟩;have B1 := btr b0 b1;obtain ⟨c0, c1, c2, c3, c4, c5⟩ := (q0.below b1).sixK;rw [h1]
  go_wp2_with fail
  refine (iparts_any ss HN.out (hF.below B1) hN1).mono ?_;rintro r w2 ⟨rfl, rfl⟩;rw [h2]
  go_wp2
  go_ret
  exact ⟨ret_bool (by simp [viewB, h2]), B1⟩
 cases h3 : inB s 0 ((m : Int) - 1)
 ·go_enter Tryz.func49, Tryz.ntmps49
  go_wp2_with fail
  refine (itrt_any C D (hC.below b0) (hD.below b0) hn hm).mono ?_;rintro r w1 ⟨rfl, b1⟩;have B1 := btr b0 b1;obtain ⟨c0, c1, c2, c3, c4, c5⟩ := (q0.below b1).sixK;rw [h1]
  go_wp2_with fail
  refine (iparts_any ss HN.out (hF.below B1) hN1).mono ?_;rintro r w2 ⟨rfl, rfl⟩;rw [h2]
  go_wp2_with fail
  refine (place_any).mono ?_;rintro r w3 ⟨rfl, rfl⟩;rw [place_in, h3]
  go_wp2
  go_ret
  exact ⟨ret_bool (by simp [viewB, h3]), B1⟩
 go_enter Tryz.func49, Tryz.ntmps49
 go_wp2_with fail
 refine (itrt_any C D (hC.below b0) (hD.below b0) hn hm).mono ?_;rintro r w1 ⟨rfl, b1⟩;have B1 := btr b0 b1;obtain ⟨c0, c1, c2, c3, c4, c5⟩ := (q0.below b1).sixK;rw [h1]
 go_wp2_with fail
 refine (iparts_any ss HN.out (hF.below B1) hN1).mono ?_;rintro r w2 ⟨rfl, rfl⟩;rw [h2]
 go_wp2_with fail
 refine (place_any).mono ?_;rintro r w3 ⟨rfl, rfl⟩;rw [place_in, h3]
 go_wp2_with fail
 refine (imay_any E (hE.below B1) hk).mono ?_;rintro r w4 ⟨rfl, rfl⟩
 go_wp2
 go_ret
 exact ⟨ret_bool (by simp [viewB, h1, h2, h3]), B1⟩
theorem vkeeps_any (a : Option Addr) (n cap : Nat) (c : Option Addr) (m cap' : Nat) (ad : Option Addr) (N pc : Nat) (s : Int) (e : Option Addr) (ec : Nat) (u : Option Addr) (l uc : Nat) (C D E : List Int) (ss : List IV) {w : World}
  (hD : Ints w c m D) (hE : Ints w e 3 E) (hN : ss.length = N) (hF : ISG w ad ss) (hN1 : N <= 1048576) (hm3 : m <= 3) (hs : 0 <= s) (hs' : s < m) (hp : partsB ss = true) (bE : bnd 20000 E) (bD : ∀ i : Nat, i < D.length -> 0 <= D[i]?.getD 0 /\ D[i]?.getD 0 <= 50) :
  Calls Tryz.prog 50 #[viewV a n cap c m cap' ad N pc s e 3 ec u l uc] w fun r w' => r = .returned (.bool (keepsB (D[s.toNat]?.getD 0) E ss)) /\ Below w.heap.size w w' := by
 have HN : Hid (ss.length = N) := hN;have HP : Hid (partsB ss = true) := hp;clear hN hp;have q0 := Cel.new w [.slice a n cap, .slice c m cap', .slice ad N pc, .int .i64 s, .slice e 3 ec, .slice u l uc] 72;have b0 := (Below.refl w.heap.size w).alloc (qF _) (.cells #[.slice a n cap, .slice c m cap', .slice ad N pc, .int .i64 s, .slice e 3 ec, .slice u l uc] 72);obtain ⟨t, rfl⟩ : ∃ t : Nat, s = t := ⟨s.toNat, by omega⟩
 have ht : t < m := by omega
 have bg := bD t (by rw [hD.1]; exact ht);obtain ⟨b, off, rfl, hcell⟩ := (hD.below b0).pos (by omega);have hck := hcell t ht;rw [Int.toNat_natCast];have hck' : (w.alloc (.cells #[.slice a n cap, .slice (some ⟨b, off, none⟩) m cap', .slice ad N pc, .int .i64 (t : Int), .slice e 3 ec, .slice u l uc] 72)).cell? ⟨b, off + t, none⟩ = some (.int .i64 (D[t]?.getD 0)) := by rw [hck]; simp
 generalize HG : D[t]?.getD 0 = g at *;clear HG hck hcell bD hD
 go_enter Tryz.func50, Tryz.ntmps50
 go_wp2_with fail
 go_loopw [5, 16] (fun _ i wr => ∃ k : Nat, k <= N /\ i = .int .i64 k /\ Below w.heap.size w wr /\ Cel wr w.heap.size [.slice a n cap, .slice (some ⟨b, off, none⟩) m cap', .slice ad N pc, .int .i64 (t : Int), .slice e 3 ec, .slice u l uc] 72 /\ keepsB g E (ss.take k) = true) (fun _ i _ => N - (intOf i).toNat)
 case atStart => exact ⟨0, qG _, rfl, b0, q0, rfl⟩
 case round =>
  clear hck' q0 b0;obtain ⟨k, hk, rfl, hb, q1, hall⟩ := hrel;have HA : Hid _ := hall;clear hall
  by_cases hlt : k < N
  ·obtain ⟨b2, off2, rfl, hc, hr⟩ := (hF.below hb) k (by rw [HN.out]; exact hlt);have H1 : Hid _ := keepsB_step (g := g) (E := E) (ss := ss) (k := k) (by rw [HN.out]; exact hlt) HA.out;have H2 : Hid _ := keepsB_false (g := g) (E := E) (ss := ss) (k := k) (by rw [HN.out]; exact hlt);have H3 := partsB_at (ss := ss) (k := k) (by rw [HN.out]; exact hlt) HP.out;generalize HG : ss[k]?.getD noI = p at *;clear HG hF HA;obtain ⟨ga, gn, gcap, gx⟩ := p;obtain ⟨e3, bx⟩ := okN_elim (by omega) H3;obtain rfl : gn = 3 := by have : (gn : Int) = 3 := e3; omega
   have hP := bndP_of bx bE;have hc' : wr.cell? ⟨b2, off2 + k, none⟩ = some (.slice ga 3 gcap) := hc;have c4 := q1.cell 4;simp only [qB, qC] at c4;have hr1 : Ints wr ga 3 gx := hr.1;clear hc H3 e3;have dn := dot_bnd hP 3
   go_wp2_with fail
   refine (psum_any gx E hr1 (hE.below hb) (by omega) hP).mono ?_;rintro r w1 ⟨rfl, rfl⟩;have H1' : Hid (inB (dot gx E 3) (-g) g = true -> keepsB g E (ss.take (k + 1)) = true) := H1;have H2' : Hid (inB (dot gx E 3) (-g) g = false -> keepsB g E ss = false) := H2;generalize HG : dot gx E 3 = x at *;clear HG H1 H2 hP dn
   go_wp2_with fail
   refine (within_any (some ⟨w1.heap.size, 0, none⟩) 1 1 [x] ?_ (by omega)).mono ?_
   ·refine ⟨rfl, fun i hi => ⟨w1.heap.size, 0, rfl, ?_⟩⟩;obtain rfl : i = 0 := by omega
    simp [go_sem]
   rintro r w2 ⟨rfl, rfl⟩;rw [allB_one]
   cases he : inB x (-g) g
   ·go_wp2
    go_ret
    exact ⟨ret_bool (by rw [H2'.out he]), hb.alloc hb.size _⟩
   go_wp2
   go_roundw
   case rel => exact ⟨k + 1, by omega, by go_num, hb.alloc hb.size _, q1.alloc _, H1'.out he⟩
   case measure => simp [intOf]; omega
  go_wp2
  go_ret
  exact ⟨ret_bool (by rw [keepsB_end (by rw [HN.out]; omega) HA.out]), hb⟩
theorem skeep_any (a : Option Addr) (n cap : Nat) (c : Option Addr) (m cap' : Nat) (ad : Option Addr) (N pc : Nat) (s : Int) (e : Option Addr) (k ec : Nat) (C D E : List Int) (ss : List IV) {w : World}
  (hC : Ints w a n C) (hD : Ints w c m D) (hE : Ints w e k E) (hN : ss.length = N) (hF : ISG w ad ss) (hn : n <= 1048576) (hm : m <= 1048576) (hk : k <= 1048576) (hN1 : N <= 1048576) :
  Calls Tryz.prog 57 #[treV a n cap c m cap', .slice ad N pc, .int .i64 s, .slice e k ec] w fun r w' => r = .returned (.bool (keepB n m C D ss s k E)) /\ Below w.heap.size w w' := by
 have HN : Hid (ss.length = N) := hN;clear hN;have b0 := (Below.refl w.heap.size w).alloc (qF _) (.cells #[.slice a n cap, .slice c m cap'] 26);have q0 := Cel.new w [.slice a n cap, .slice c m cap'] 26
 cases h1 : trtB n m C D
 ·go_enter Tryz.func57, Tryz.ntmps57
  go_wp2_with fail
  refine (strt_any C D (hC.below b0) (hD.below b0) hn hm).mono ?_;rintro r w1 ⟨rfl, b1⟩;have B1 := btr b0 b1;rw [h1]
  go_wp2
  go_ret
  exact ⟨ret_bool (by simp [keepB, viewB, h1]), B1⟩
 cases h2 : partsB ss
 ·go_enter Tryz.func57, Tryz.ntmps57
  go_wp2_with fail
  refine (strt_any C D (hC.below b0) (hD.below b0) hn hm).mono ?_;rintro r w1 ⟨rfl, b1⟩;have B1 := btr b0 b1;rw [h1]
  go_wp2_with fail
  refine (sparts_any ss HN.out (hF.below B1) hN1).mono ?_;rintro r w2 ⟨rfl, rfl⟩;rw [h2]
  go_wp2
  go_ret
  exact ⟨ret_bool (by simp [keepB, viewB, h2]), B1⟩
 cases h3 : inB s 0 ((m : Int) - 1)
 ·go_enter Tryz.func57, Tryz.ntmps57
  go_wp2_with fail
  refine (strt_any C D (hC.below b0) (hD.below b0) hn hm).mono ?_;rintro r w1 ⟨rfl, b1⟩;have B1 := btr b0 b1;have c1 := (q0.below b1).cell 1;simp only [qB, qC] at c1;rw [h1]
  go_wp2_with fail
  refine (sparts_any ss HN.out (hF.below B1) hN1).mono ?_;rintro r w2 ⟨rfl, rfl⟩;rw [h2]
  go_wp2_with fail
  refine (in_any).mono ?_;rintro r w3 ⟨rfl, rfl⟩;rw [h3]
  go_wp2
  go_ret
  exact ⟨ret_bool (by simp [keepB, viewB, h3]), B1⟩
 cases h4 : okN 3 20000 k E
 ·go_enter Tryz.func57, Tryz.ntmps57
  go_wp2_with fail
  refine (strt_any C D (hC.below b0) (hD.below b0) hn hm).mono ?_;rintro r w1 ⟨rfl, b1⟩;have B1 := btr b0 b1;have c1 := (q0.below b1).cell 1;simp only [qB, qC] at c1;rw [h1]
  go_wp2_with fail
  refine (sparts_any ss HN.out (hF.below B1) hN1).mono ?_;rintro r w2 ⟨rfl, rfl⟩;rw [h2]
  go_wp2_with fail
  refine (in_any).mono ?_;rintro r w3 ⟨rfl, rfl⟩;rw [h3]
  go_wp2_with fail
  refine (all_any E _ _ (hE.below B1) hk).mono ?_;rintro r w4 ⟨rfl, rfl⟩;rw [h4]
  go_wp2
  go_ret
  exact ⟨ret_bool (by simp [keepB, viewB, h4]), B1⟩
 have hv : viewB n m C D ss s k E = true := by simp [viewB, h1, h2, h3, h4]
 obtain ⟨-, -, m1, m2, hp0, s0, s1, e2, bE, bD⟩ := viewB_elim hv;have HP : Hid _ := hp0;have HV : Hid _ := hv;have H1 : Hid _ := h1;have H2 : Hid _ := h2;have H3 : Hid _ := h3;have H4 : Hid _ := h4;clear hp0 hv h1 h2 h3 h4;subst e2;obtain ⟨t, rfl⟩ : ∃ t : Nat, s = t := ⟨s.toNat, by omega⟩
 have ht : t < m := by omega
 have bg := bD t (by rw [hD.1]; exact ht);obtain ⟨b, off, rfl, hcell⟩ := hD.pos (by omega);have hck := hcell t ht;have hck' : w.cell? ⟨b, off + t, none⟩ = some (.int .i64 (D[t]?.getD 0)) := by rw [hck]; simp
 have hkb : keepB n m C D ss t 3 E = keepsB (D[t]?.getD 0) E ss := by rw [keepB, HV.out]; simp
 rw [hkb];clear hkb;generalize HG : D[t]?.getD 0 = g at *;clear HG hck hcell bD;have ht' : (t : Int) < (m : Int) := by omega
 go_enter Tryz.func57, Tryz.ntmps57
 go_wp2_with fail
 refine (strt_any C D (hC.below b0) (hD.below b0) hn hm).mono ?_;rintro r w1 ⟨rfl, b1⟩;have B1 := btr b0 b1;have q1 := q0.below b1;have c1 := q1.cell 1;simp only [qB, qC] at c1;rw [H1.out]
 go_wp2_with fail
 refine (sparts_any ss HN.out (hF.below B1) hN1).mono ?_;rintro r w2 ⟨rfl, rfl⟩;rw [H2.out]
 go_wp2_with fail
 refine (in_any).mono ?_;rintro r w3 ⟨rfl, rfl⟩;rw [H3.out]
 go_wp2_with fail
 refine (all_any E _ _ (hE.below B1) hk).mono ?_;rintro r w4 ⟨rfl, rfl⟩;rw [H4.out];have dk : w4.cell? ⟨b, off + t, none⟩ = some (.int .i64 g) := by rw [B1.cell (p := ⟨b, off + t, none⟩) (block_lt hck')]; exact hck'
 clear c1 b1 b0 q0 hC hD
 go_wp2_with fail
 go_loopw [9] (fun i wr => ∃ k : Nat, k <= N /\ i = .int .i64 k /\ Below w.heap.size w wr /\ Cel wr w.heap.size [.slice a n cap, .slice (some ⟨b, off, none⟩) m cap'] 26 /\ keepsB g E (ss.take k) = true) (fun i _ => N - (intOf i).toNat)
 case atStart => exact ⟨0, qG _, rfl, B1, q1, rfl⟩
 case round =>
  clear dk B1 q1;obtain ⟨j, hj, rfl, hb, q1, hall⟩ := hrel;have HA : Hid _ := hall;clear hall
  by_cases hlt : j < N
  ·obtain ⟨b2, off2, rfl, hc, hr⟩ := (hF.below hb) j (by rw [HN.out]; exact hlt);have H1 : Hid _ := keepsB_step (g := g) (E := E) (ss := ss) (k := j) (by rw [HN.out]; exact hlt) HA.out;have H2 : Hid _ := keepsB_false (g := g) (E := E) (ss := ss) (k := j) (by rw [HN.out]; exact hlt);have H3 := partsB_at (ss := ss) (k := j) (by rw [HN.out]; exact hlt) HP.out;have dk : wr.cell? ⟨b, off + t, none⟩ = some (.int .i64 g) := by rw [hb.cell (p := ⟨b, off + t, none⟩) (block_lt hck')]; exact hck'
   generalize HG : ss[j]?.getD noI = p at *;clear HG hF HA;obtain ⟨ga, gn, gcap, gx⟩ := p;obtain ⟨e3, bx⟩ := okN_elim (by omega) H3;obtain rfl : gn = 3 := by have : (gn : Int) = 3 := e3; omega
   have hP := bndP_of bx bE;have hr1 : Ints wr ga 3 gx := hr.1;have hE1 := hE.below hb;have hc' : wr.cell? ⟨b2, off2 + j, none⟩ = some (.slice ga 3 gcap) := hc;have H1' : Hid (inB (dot gx E 3) (-g) g = true -> keepsB g E (ss.take (j + 1)) = true) := H1;have H2' : Hid (inB (dot gx E 3) (-g) g = false -> keepsB g E ss = false) := H2;clear hc H3 e3 hr H1 H2 hck' hE;have hlt' : (j : Int) < (N : Int) := by omega
   go_upto_region 6 with fail
   have hn0 : wr.cell? ⟨w.heap.size, 1, none⟩ = some (.slice (some ⟨b, off, none⟩) m cap') /\ wr.cell? ⟨b, off + t, none⟩ = some (.int .i64 g) /\ wr.cell? ⟨b2, off2 + j, none⟩ = some (.slice ga 3 gcap) := ⟨q1.cell 1, dk, hc'⟩
   go_region_held3 (fun w' => w'.cell? ⟨w.heap.size, 1, none⟩ = some (.slice (some ⟨b, off, none⟩) m cap') /\ w'.cell? ⟨b, off + t, none⟩ = some (.int .i64 g) /\ w'.cell? ⟨b2, off2 + j, none⟩ = some (.slice ga 3 gcap)) (first | with_reducible assumption | exact hn0)
    (first
     | (go_at_call 103
        refine (times5_any gx E (by exact hr1.below (Below.refl _ _).drew) (by exact hE1.below (Below.refl _ _).drew) hP (by omega) (by omega)).mono ?_;rintro ee w3 ⟨rfl, b3⟩;have b3' := below_of_drew b3;have q3 := q1.below b3';have d3 := (b3'.cell (p := ⟨b, off + t, none⟩) (block_lt dk)).trans dk;have e3 := (b3'.cell (p := ⟨b2, off2 + j, none⟩) (block_lt hc')).trans hc'
        have hn3 : w3.cell? ⟨w.heap.size, 1, none⟩ = some (.slice (some ⟨b, off, none⟩) m cap') /\ w3.cell? ⟨b, off + t, none⟩ = some (.int .i64 g) /\ w3.cell? ⟨b2, off2 + j, none⟩ = some (.slice ga 3 gcap) := ⟨q3.cell 1, d3, e3⟩)
     | (go_at_call 55
        refine (in_any).mono ?_
        rintro ee w4 ⟨rfl, rfl⟩))
   have hb2 := btr hb b3';have hw : IntKind.i64.wrap (-g) = -g := wrap_id (by omega) (by omega);rw [hw]
   cases he : inB (dot gx E 3) (-g) g
   ·go_wp2
    go_ret
    exact ⟨ret_bool (by rw [H2'.out he]), hb2⟩
   go_wp2
   go_roundw
   case rel => exact ⟨j + 1, by omega, by go_num, hb2, q3, H1'.out he⟩
   case measure => simp [intOf]; omega
  go_wp2
  go_ret
  exact ⟨ret_bool (by rw [keepsB_end (by rw [HN.out]; omega) HA.out]), hb⟩
theorem copies_pair (hl : ts.length = ss.length) (h : copiesIS ss ts) : ts.map (fun p => (p.n, p.x)) = ss.map (fun p => (p.n, p.x)) := by
 apply List.ext_getElem?
 intro i
 by_cases hi : i < ts.length
 ·have h0 := h i hi;have h1 := h0.1;have h2 := h0.2;rw [qA hi, qA (by omega)] at h1 h2;simp only [Option.getD_some] at h1 h2;rw [List.getElem?_map, List.getElem?_map, qA hi, qA (by omega)];simp [h1, h2]
 rw [List.getElem?_eq_none (by simp; omega), List.getElem?_eq_none (by simp; omega)]
theorem partsB_copy (hl : ts.length = ss.length) (h : copiesIS ss ts) : partsB ts = partsB ss := by
 have e : ∀ l : List IV, partsB l = (l.map (fun p => (p.n, p.x))).all fun q => okN 3 10000000 q.1 q.2 := fun l => by rw [List.all_map]; rfl
 rw [e, e, copies_pair hl h]
theorem keepsB_copy (hl : ts.length = ss.length) (h : copiesIS ss ts) : keepsB g E ts = keepsB g E ss := by
 have e : ∀ l : List IV, keepsB g E l = (l.map (fun p => (p.n, p.x))).all fun q => inB (dot q.2 E 3) (-g) g := fun l => by rw [List.all_map]; rfl
 rw [e, e, copies_pair hl h]
theorem viewB_copy {C D : List Int} {s : Int} (hl : ts.length = ss.length) (h : copiesIS ss ts) : viewB n m C D ts s k E = viewB n m C D ss s k E := by
 rw [viewB, viewB, partsB_copy hl h]
theorem Cel.two (h : Cel w B [v0, v1] t) : w.cell? ⟨B, 0, none⟩ = some v0 /\ w.cell? ⟨B, 1, none⟩ = some v1 := ⟨h.cell 0, h.cell 1⟩
theorem Cel.three {v2 : Value} (h : Cel w B [v0, v1, v2] t) : w.cell? ⟨B, 0, none⟩ = some v0 /\ w.cell? ⟨B, 1, none⟩ = some v1 /\ w.cell? ⟨B, 2, none⟩ = some v2 := ⟨h.cell 0, h.cell 1, h.cell 2⟩
theorem zip_take {xs ys : List Int} (hx : k < xs.length) (hy : k < ys.length) : (List.zipWith (· + ·) xs ys).take (k + 1) = (List.zipWith (· + ·) xs ys).take k ++ [xs[k]?.getD 0 + ys[k]?.getD 0] := by
 have hl : k < (List.zipWith (· + ·) xs ys).length := by rw [List.length_zipWith]; omega
 rw [qE hl, List.getElem_zipWith, qA hx, qA hy]
 rfl
theorem sum5_any (xs ys : List Int) {w : World} (h : Ints w a 3 xs) (h' : Ints w c 3 ys) (hM : bnd 1000000000 xs) (hM' : bnd 1000000000 ys) :
  Calls Tryz.prog 130 #[.slice a 3 cap, .slice c 3 cap'] w fun e w' => ∃ v, e = .returned v /\ JA w v (List.zipWith (· + ·) xs ys) w' := by
 have HX : Hid (xs.length = 3) := h.1;have HY : Hid (ys.length = 3) := h'.1;obtain ⟨i0, hi, hz0, hz1, hz2⟩ := info_parts Tryz.infoInt
 go_enter Tryz.func130, Tryz.ntmps130
 go_wp2_with fail
 go_loopw [5, 6] (fun v i wr => ∃ k : Nat, k <= 3 /\ i = .int .i64 k /\ ∃ zs : List Int, zs.length = k /\ zs = (List.zipWith (· + ·) xs ys).take k /\ JA w v zs wr) (fun _ i _ => 3 - (intOf i).toNat)
 case atStart => exact ⟨0, by omega, rfl, [], rfl, rfl, JA.lit w⟩
 case round =>
  obtain ⟨k, hk, rfl, zs, hzl, hzs, j⟩ := hrel;have HL : Hid (zs.length = k) := hzl;have HZS : Hid (zs = (List.zipWith (· + ·) xs ys).take k) := hzs;clear hzl hzs
  by_cases hlt : k < 3
  ·obtain ⟨b, off, rfl, hcell⟩ := h.pos (by omega);obtain ⟨b', off', rfl, hcell'⟩ := h'.pos (by omega);have c0 : w.cell? ⟨b, off + k, none⟩ = some (.int .i64 (xs[k]?.getD 0)) := by rw [hcell k hlt]; simp
   have c1 : w.cell? ⟨b', off' + k, none⟩ = some (.int .i64 (ys[k]?.getD 0)) := by rw [hcell' k hlt]; simp
   have HP : Hid _ := zip_take (xs := xs) (ys := ys) (k := k) (by rw [HX.out]; exact hlt) (by rw [HY.out]; exact hlt);obtain ⟨m1, m2⟩ := hM k;obtain ⟨m3, m4⟩ := hM' k;generalize HG : xs[k]?.getD 0 = x at *;generalize HG' : ys[k]?.getD 0 = y at *;clear HG HG' hcell hcell' hM hM' h h'
   have KP : Hid (∀ W : World, Below w.heap.size w W -> W.cell? ⟨b, off + k, none⟩ = some (.int .i64 x) /\ W.cell? ⟨b', off' + k, none⟩ = some (.int .i64 y)) := fun W hW =>
    ⟨by rw [hW.cell (p := ⟨b, off + k, none⟩) (block_lt c0)]; exact c0, by rw [hW.cell (p := ⟨b', off' + k, none⟩) (block_lt c1)]; exact c1⟩
   have hSS := And.intro (KP.out _ j.b.drew) (True.intro);clear c0 c1;have hlt' : (k : Int) < 3 := by omega
   have hwr : IntKind.i64.wrap (x + y) = x + y := wrap_id (by omega) (by omega)
   go_upto_region 5 with fail
   refine wp_region_ends (fun w' => w'.cell? ⟨b, off + k, none⟩ = some (.int .i64 x) /\ w'.cell? ⟨b', off' + k, none⟩ = some (.int .i64 y)) (fun _ => True) 12 (by kernel_rfl) ?_;refine tkl 0 rfl hSS ?_;refine tkl 1 rfl hSS ?_;refine tkl 2 rfl hSS ?_;refine tkl 3 rfl hSS ?_;refine tkl 4 rfl hSS ?_;refine tkl 5 rfl hSS ?_;refine tkl 6 rfl hSS ?_;refine tkl 7 rfl hSS ?_;refine tkl 8 rfl hSS ?_;refine tkl 9 rfl hSS ?_;refine wo1 10 rfl fun K hK => ?_;go_simp;have j1 := j.below (W' := wr.drew) ((Below.refl _ _).drew);have jo := j1.o;rw [HL.out] at jo;have j2 := j1.alloc (.cells #[.int .i64 (x + y)] 3);have hjb := j1.b.size;refine kk0 hK (KP.out _ j2.b) ?_;clear hK K hSS;refine wo1 11 rfl fun K hK => ?_;rw [if_pos (by rfl)];refine wp_append_lies _ (.tmp 12) (.tmp 22) 24 rfl w.heap.size 3 i0 (.int .i64 0) 1 8 Tryz.underlying24 hi hz0 hz1 hz2 rfl (by decide) _ k _ (by rfl) (jo.alloc _) ⟨wr.heap.size, 0, none⟩ 1 1 [.int .i64 (x + y)] (by rfl) (by rfl) (news1 wr.drew) (one1) (by omega) (by unfold maxLen; omega) (by omega) j2.b.size _ rfl ?_;intro g cp2 w6 hown hgrow hat hlt6;have j6 := j1.app HL.out hown hgrow;refine kk0 hK (KP.out _ j6.b) ?_;clear hK K hown hgrow hat j1 j2 jo j;refine wo1 12 rfl fun K hK => ?_;go_simp;refine kk0 hK (KP.out _ j6.b) ?_;refine wod ?_ _
   go_wp2
   go_roundw
   case rel => exact ⟨k + 1, by omega, by go_num, _, by rw [List.length_append, HL.out]; rfl, by rw [HP.out, HZS.out], j6⟩
   case measure => simp [intOf]; omega
  obtain rfl : k = 3 := by omega
  have e : zs = List.zipWith (· + ·) xs ys := by rw [HZS.out, qD (by rw [List.length_zipWith, HX.out, HY.out]; omega)]
  subst e
  go_wp2
  go_ret
  exact ⟨_, rfl, j⟩
theorem sums_any (xs ys : List Int) (M M' : Int) {w : World} (h : Ints w a 3 xs) (h' : Ints w c 3 ys) (hM : bnd M xs) (hM' : bnd M' ys) (hb : M <= 2000000000000000000 := by omega) (hb' : M' <= 2000000000000000000 := by omega) :
  Calls Tryz.prog 91 #[.slice a 3 cap, .slice c 3 cap'] w fun e w' => ∃ a' cap2 B, e = .returned (.slice a' 3 cap2) /\ Below w.heap.size w w' /\ OwnX w' a' B 3 (List.zipWith (· + ·) xs ys) /\ w.heap.size <= B := by
 have HX : Hid (xs.length = 3) := h.1
 go_enter Tryz.func91, Tryz.ntmps91
 go_wp2_with fail
 refine (clone_any _ _ xs h).mono ?_;rintro e w1 ⟨v, rfl, j⟩;have hc1 := h'.below j.b;have B1 := j.b;obtain ⟨x, cx, B, rfl, hO, hB0⟩ := j.ownx HX.out;have hB := hB0 (by omega);clear j hB0
 go_wp2_with fail
 refine (addX_any B xs ys M M' hO hc1 (fun b o e => by
  obtain ⟨b1, o1, e1, hcell⟩ := h'.pos (by omega);rw [e1] at e;simp only [Option.some.injEq, Addr.mk.injEq, and_true] at e;have := block_lt (hcell 0 (by omega))
  omega) (by omega) hM hM' hb hb').mono ?_
 rintro e w2 ⟨rfl, t2, hO2⟩;have B2 : Below w.heap.size w w2 := B1.trans (t2.below B1.size (fun k hk => by rw [hk.1]; exact hB))
 go_wp2
 go_ret
 exact ⟨_, _, B, rfl, B2, hO2, hB⟩
end Go.Proofs.YtemcinobgdphnaaGreat
