/-
  Lemmas that the claim's last text rests on.
-/
import Derived.Test.YtdaiaohlkdolmaaGreatRows
import Derived.WalkKit
import Derived.ProofKit
import Derived.OpenShut
import Derived.ShutString
import Derived.ChangeOld
import Derived.Below
import Derived.BigQuiet
import Derived.Deep.QuietTactic
import Derived.Deep.RegionWith
import Derived.WalkLawsBesides
import Derived.WalkSpells
import Derived.Deep.RegionHeld3
import Derived.RegionTactic
import Derived.OrdersIn
import Derived.OrdersHeld
import Derived.RangeFuncNested
import Derived.RangeFuncBound
import Derived.RangeFuncCalls
import Derived.RangeFuncLeaves
namespace Go.Proofs.YtdaiaohlkdolmaaGreat
open Go.RowKit
open Option.some renaming injEq → qA
open List renaming getElem?_eq_getElem → qB, take_of_length_le → qC, take_succ_eq_append_getElem → qD
open Nat renaming le_refl → qE, zero_le → qF
set_option linter.unusedVariables false
set_option maxRecDepth 100000
set_option maxHeartbeats 25600000
variable {B B' cap k n : Nat} {a : Option Addr} {hi l lo m : Int} {t : TypeId} {v0 v1 v2 : Value} {vs : List Value} {w w' : World} {xs ys zs : List Int}
theorem btr {v u : World} (h : Below w.heap.size w v) (k : Below v.heap.size v u) : Below w.heap.size w u := h.trans (k.mono h.size)
theorem bal {o : Obj} : Below w.heap.size w (w.alloc o) := (Below.refl _ _).alloc (qE _) _
def Ints (w : World) (a : Option Addr) (n : Nat) (zs : List Int) : Prop :=
 zs.length = n /\ ∀ i, i < n -> ∃ b off, a = some ⟨b, off, none⟩ /\ w.cell? ⟨b, off + i, none⟩ = some (.int .i64 (zs.getD i 0))
def Blk (w : World) (B : Nat) (zs : List Int) : Prop := w.heap[B]? = some (.cells (zs.map (Value.int .i64)).toArray 3 (0, 0))
theorem Ints.pos (h : Ints w a n zs) (hn : 0 < n) :
  ∃ b off, a = some ⟨b, off, none⟩ /\ ∀ i, i < n -> w.cell? ⟨b, off + i, none⟩ = some (.int .i64 (zs.getD i 0)) := by
 obtain ⟨b, off, hab, _⟩ := h.2 0 hn;refine ⟨b, off, hab, fun i hi => ?_⟩;obtain ⟨b', off', hab', hc⟩ := h.2 i hi;rw [hab] at hab';simp only [qA, Addr.mk.injEq, and_true] at hab';obtain ⟨rfl, rfl⟩ := hab'
 exact hc
theorem block_lt {b off : Nat} {v : Value} (h : w.cell? ⟨b, off, none⟩ = some v) : b < w.heap.size := by
 apply Classical.byContradiction
 intro hn;have : w.heap[b]? = none := by simp; omega
 simp [World.cell?, this] at h
theorem Ints.below (h : Ints w a n zs) (hb : Below w.heap.size w w') : Ints w' a n zs := by
 refine ⟨h.1, fun i hi => ?_⟩;obtain ⟨b, off, hab, hc⟩ := h.2 i hi
 exact ⟨b, off, hab, by rw [hb.cell (p := ⟨b, off + i, none⟩) (block_lt hc)]; exact hc⟩
theorem Blk.lt (h : Blk w B zs) : B < w.heap.size := lt_of_block h
theorem Blk.cell (h : Blk w B zs) (i : Nat) (hi : i < zs.length) : w.cell? ⟨B, i, none⟩ = some (.int .i64 (zs.getD i 0)) := by
 unfold Blk at h;simp [World.cell?, h, hi]
theorem Blk.free (h : Blk w B zs) (i : Nat) : w.frozen? ⟨B, i, none⟩ = false := by
 unfold Blk at h;simp [World.frozen?, h]
theorem Blk.ints (h : Blk w B zs) : Ints w (some ⟨B, 0, none⟩) zs.length zs :=
 ⟨rfl, fun i hi => ⟨B, 0, rfl, by simpa using h.cell i hi⟩⟩
theorem Blk.ints' (h : Blk w B zs) (hn : zs.length = n) : Ints w (some ⟨B, 0, none⟩) n zs := hn ▸ h.ints
theorem Blk.below (h : Blk w B zs) (hb : Below w.heap.size w w') : Blk w' B zs := by
 unfold Blk at *;rw [hb.block B (lt_of_block h)]; exact h
theorem Blk.set (h : Blk w B zs) (i : Nat) (x : Int) : Blk (w.setCell ⟨B, i, none⟩ (.int .i64 x)) B (zs.set i x) := by
 unfold Blk at *;have := heap_setCell_same w B i _ _ (.int .i64 x) h;rw [this];simp [List.map_set]
theorem Blk.setOther (h : Blk w B zs) (hne : B ≠ B') (i : Nat) (x : Value) : Blk (w.setCell ⟨B', i, none⟩ x) B zs := by
 unfold Blk at *;rw [Below.heap_setCell _ _ _ _ hne]; exact h
theorem Blk.made (w : World) (n : Nat) (o : World) (h : o.ownsRow w.heap.size 3 1 (.slice (some ⟨w.heap.size, 0, none⟩) n n) n (madeCells (Value.cells (.int .i64 0)) (n * 1)).toList) : Blk o w.heap.size (List.replicate n 0) := by
 rcases h.2 with ⟨h', _⟩ | ⟨g', cap', cur, h', _, hg, _, _, hcs, htake⟩
 ·simp at h'
 simp only [Value.slice.injEq, qA, Addr.mk.injEq, and_true, true_and] at h';obtain ⟨rfl, rfl⟩ := h';unfold Blk;rw [hg]
 have hcur : cur.toList = (List.replicate n (Value.int .i64 0)) := by
  rw [qC (by simp [hcs])] at htake;rw [htake];simpa [Value.cells] using toList_madeCells_one (.int .i64 0) n
 have : cur = (List.replicate n (Value.int .i64 0)).toArray := by
  rw [<- hcur]
 rw [this];simp
def inB (n lo hi : Int) : Bool := decide (lo <= n /\ n <= hi)
theorem inB_iff {n : Int} : inB n lo hi = true ↔ lo <= n /\ n <= hi := by simp [inB]
theorem inB_not {n : Int} : inB n lo hi = false ↔ ¬ (lo <= n /\ n <= hi) := by rw [<- inB_iff]; simp
def allB (m : Int) (zs : List Int) : Bool := zs.all fun n => inB n (-m) m
def okN (c m : Int) (n : Nat) (zs : List Int) : Bool := decide ((n : Int) = c) && allB m zs
theorem okN_not {c : Int} (h : ¬ (n : Int) = c) : okN c m n zs = false := by simp [okN, h]
theorem okN_is {c : Int} (h : (n : Int) = c) : okN c m n zs = allB m zs := by simp [okN, h]
theorem allB_take_succ (m : Int) (zs : List Int) (k : Nat) (h : k < zs.length) : allB m (zs.take (k + 1)) = (allB m (zs.take k) && inB (zs[k]?.getD 0) (-m) m) := by
 unfold allB;rw [qD h, List.all_append];rw [qB h];simp only [List.all_cons, List.all_nil, Bool.and_true, Option.getD_some]
theorem allB_step (h : k < zs.length) (h1 : allB m (zs.take k) = true) (h2 : inB (zs[k]?.getD 0) (-m) m = true) : allB m (zs.take (k + 1)) = true := by
 rw [allB_take_succ m zs k h, h1, h2]; rfl
theorem allB_end (h : zs.length <= k) (h1 : allB m (zs.take k) = true) : allB m zs = true := by
 rwa [qC h] at h1
theorem allB_false (h : k < zs.length) (hn : inB (zs[k]?.getD 0) (-m) m = false) : allB m zs = false := by
 unfold allB;rw [List.all_eq_false];refine ⟨zs[k], List.getElem_mem h, ?_⟩;rw [qB h] at hn;simpa using hn
def eqB (xs ys : List Int) : Bool := decide (xs = ys)
theorem eqB_refl (xs : List Int) : eqB xs xs = true := by simp [eqB]
theorem take_same_succ (h1 : k < xs.length) (h2 : k < ys.length) (h : xs.take k = ys.take k) (he : xs[k]?.getD 0 = ys[k]?.getD 0) : xs.take (k + 1) = ys.take (k + 1) := by
 rw [qD h1, qD h2, h];rw [qB h1, qB h2] at he;simp only [Option.getD_some] at he;rw [he]
theorem eqB_true (h1 : xs.length = n) (h2 : ys.length = n) (hk : n <= k) (h : xs.take k = ys.take k) : eqB xs ys = true := by
 rw [qC (by omega), qC (by omega)] at h;simp [eqB, h]
theorem eqB_false (he : xs[k]?.getD 0 ≠ ys[k]?.getD 0) : eqB xs ys = false := by
 simp only [eqB, decide_eq_false_iff_not];intro h
 exact he (by rw [h])
theorem eqB_len (h : xs.length ≠ ys.length) : eqB xs ys = false := by
 simp only [eqB, decide_eq_false_iff_not];intro e
 exact h (by rw [e])
def upTo (zs : List Int) (n k : Nat) : List Int := zs.take k ++ List.replicate (n - k) 0
theorem upTo_zero (zs : List Int) (n : Nat) : upTo zs n 0 = List.replicate n 0 := by simp [upTo]
theorem upTo_len (h : zs.length = n) (hk : k <= n) : (upTo zs n k).length = n := by simp [upTo]; omega
theorem upTo_end (h : zs.length = n) (hk : n <= k) : upTo zs n k = zs := by
 unfold upTo;rw [qC (by omega), Nat.sub_eq_zero_of_le hk]; simp
theorem upTo_succ (h : zs.length = n) (hk : k < n) : (upTo zs n k).set k (zs[k]?.getD 0) = upTo zs n (k + 1) := by
 unfold upTo;have hl : (zs.take k).length = k := by simp; omega
 rw [List.set_append_right _ _ (by omega), hl, Nat.sub_self];rw [qD (by omega), qB (by omega)];have : n - k = (n - (k + 1)) + 1 := by omega
 rw [this, List.replicate_succ];simp only [List.set_cons_zero, Option.getD_some, List.append_assoc, List.cons_append, List.nil_append]
theorem ret_bool {a b : Bool} (h : a = b) : Ending.returned (.bool a) = .returned (.bool b) := by rw [h]
theorem ret_int {k : IntKind} {a b : Int} (h : a = b) : Ending.returned (.int k a) = .returned (.int k b) := by rw [h]
theorem own : ownKnob Tryz.prog.godebug = none := by kernel_rfl
theorem laidOut : laidOutB Tryz.prog = true := by kernel_rfl
def IsRow (k : IntKind) (w : World) (a : Option Addr) (len cap : Nat) (zs : List Int) : Prop :=
 (a = none /\ len = 0 /\ cap = 0 /\ zs = []) \/
 ∃ x, a = some x /\ len <= cap /\ cap <= maxLen /\ zs.length = cap /\ (∀ i, i < zs.length -> w.cell? (x.add i) = some (.int k (zs.getD i 0))) /\ ∀ n ∈ zs, (Lit.int k n).wf = true
theorem IsRow.ints {len : Nat} (h : IsRow .i64 w a len cap zs) : Ints w a len (zs.take len) := by
 rcases h with ⟨rfl, rfl, rfl, rfl⟩ | ⟨x, rfl, hl, hm, hz, hcell, hwz⟩
 ·exact ⟨rfl, fun i hi => by omega⟩
 refine ⟨by simp; omega, fun i hi => ?_⟩;obtain ⟨b, off, spot⟩ := x;have hc0 := hcell 0 (by omega);have hspot : spot = none := by simpa [Addr.add] using World.cell?_spot hc0
 subst hspot;refine ⟨b, off, rfl, ?_⟩;have hc := hcell i (by omega)
 have : w.cell? ⟨b, off + i, none⟩ = some (.int .i64 (zs.getD i 0)) := by
  by_cases h0 : i = 0
  ·subst h0; simpa [Addr.add] using hc
  simpa [Addr.add, h0] using hc
 rw [this];simp [hi]
theorem Ints.alloc (h : Ints w a n zs) (o : Obj) : Ints (w.alloc o) a n zs := h.below (bal)
def formB (n m : Nat) (C D : List Int) (K : Int) : Bool := okN 3 10000000 n C && okN 2 10000000 m D && inB K (-10000000) 10000000
def eqF (C D : List Int) (K : Int) (C' D' : List Int) (K' : Int) : Bool := eqB C C' && eqB D D' && decide (K = K')
theorem eqF_refl {C D : List Int} {K : Int} : eqF C D K C D K = true := by simp [eqF, eqB]
def leftOf (l : Int) (n : Nat) : Int := if l < 0 then -1 else if l < n then -1 else l - n
theorem leftOf_neg (h : l < n) : leftOf l n = -1 := by unfold leftOf; by_cases h0 : l < 0 <;> simp [h0, h]
theorem leftOf_pos (h : (n : Int) <= l) : leftOf l n = l - n := by unfold leftOf; rw [if_neg (by omega), if_neg (by omega)]
theorem leftOf_below (h : l < 0) : leftOf l n = -1 := by unfold leftOf; rw [if_pos h]
theorem leftOf_ge (l : Int) (n : Nat) : -1 <= leftOf l n := by unfold leftOf; split <;> (try split) <;> omega
theorem leftOf_le (h : 0 <= leftOf l n) : (n : Int) <= l /\ leftOf l n <= l := by
 unfold leftOf at *; split at h <;> (try split at h) <;> simp_all <;> omega
abbrev formV (a : Option Addr) (n cap : Nat) (c : Option Addr) (m cap' : Nat) (K : Int) : Value := .agg #[.slice a n cap, .slice c m cap', .int .i64 K]
theorem allB_one (m x : Int) : allB m [x] = inB x (-m) m := by simp [allB]
theorem below_of_drew (h : Below B w.drew w') : Below B w w' := ⟨h.os, h.tape, h.output, h.size, h.block⟩
theorem size_setCell (w : World) (a : Addr) (v : Value) : (w.setCell a v).heap.size = w.heap.size := by simp [World.setCell]
def Cel (w : World) (B : Nat) (vs : List Value) (t : TypeId) : Prop := w.heap[B]? = some (.cells vs.toArray t (0, 0))
theorem Cel.lt (h : Cel w B vs t) : B < w.heap.size := lt_of_block h
theorem Cel.cell (h : Cel w B vs t) (i : Nat) : w.cell? ⟨B, i, none⟩ = vs[i]? := by
 unfold Cel at h;simp [World.cell?, h]
theorem Cel.free (h : Cel w B vs t) (i : Nat) : w.frozen? ⟨B, i, none⟩ = false := by
 unfold Cel at h;simp [World.frozen?, h]
theorem Cel.below (h : Cel w B vs t) (hb : Below w.heap.size w w') : Cel w' B vs t := by
 unfold Cel at *;rw [hb.block B (lt_of_block h)]; exact h
theorem Cel.set (h : Cel w B vs t) (i : Nat) (x : Value) : Cel (w.setCell ⟨B, i, none⟩ x) B (vs.set i x) t := by
 unfold Cel at *;rw [heap_setCell_same w B i _ _ x h];simp
theorem Cel.setOther (h : Cel w B vs t) (hne : B ≠ B') (i : Nat) (x : Value) : Cel (w.setCell ⟨B', i, none⟩ x) B vs t := by
 unfold Cel at *;rw [Below.heap_setCell _ _ _ _ hne]; exact h
theorem Cel.new (w : World) (vs : List Value) (t : TypeId) : Cel (w.alloc (.cells vs.toArray t)) w.heap.size vs t := heap_alloc_new w _
theorem Cel.alloc (h : Cel w B vs t) (o : Obj) : Cel (w.alloc o) B vs t := h.below (bal)
theorem Blk.alloc (h : Blk w B zs) (o : Obj) : Blk (w.alloc o) B zs := h.below (bal)
theorem Blk.so (h : Blk w B zs) {i : Nat} {x : Value} (hne : B ≠ B' := by omega) : Blk (w.setCell ⟨B', i, none⟩ x) B zs := h.setOther hne i x
theorem Cel.so (h : Cel w B vs t) {i : Nat} {x : Value} (hne : B ≠ B' := by omega) : Cel (w.setCell ⟨B', i, none⟩ x) B vs t := h.setOther hne i x
theorem Cel.c1 (h : Cel w B [v0] t) : w.cell? ⟨B, 0, none⟩ = some v0 := h.cell 0
theorem Cel.c2 (h : Cel w B [v0, v1] t) : w.cell? ⟨B, 0, none⟩ = some v0 /\ w.cell? ⟨B, 1, none⟩ = some v1 := ⟨h.cell 0, h.cell 1⟩
theorem Cel.c3 (h : Cel w B [v0, v1, v2] t) : w.cell? ⟨B, 0, none⟩ = some v0 /\ w.cell? ⟨B, 1, none⟩ = some v1 /\ w.cell? ⟨B, 2, none⟩ = some v2 := ⟨h.cell 0, h.cell 1, h.cell 2⟩
theorem Cel.c4 {v3 : Value} (h : Cel w B [v0, v1, v2, v3] t) : w.cell? ⟨B, 0, none⟩ = some v0 /\ w.cell? ⟨B, 1, none⟩ = some v1 /\ w.cell? ⟨B, 2, none⟩ = some v2 /\ w.cell? ⟨B, 3, none⟩ = some v3 := ⟨h.cell 0, h.cell 1, h.cell 2, h.cell 3⟩
theorem Cel.c6 {v3 v4 v5 : Value} (h : Cel w B [v0, v1, v2, v3, v4, v5] t) : w.cell? ⟨B, 0, none⟩ = some v0 /\ w.cell? ⟨B, 1, none⟩ = some v1 /\ w.cell? ⟨B, 2, none⟩ = some v2 /\ w.cell? ⟨B, 3, none⟩ = some v3 /\ w.cell? ⟨B, 4, none⟩ = some v4 /\ w.cell? ⟨B, 5, none⟩ = some v5 := ⟨h.cell 0, h.cell 1, h.cell 2, h.cell 3, h.cell 4, h.cell 5⟩
theorem in_any {n : Int} :
  Calls Tryz.prog 24 #[.int .i64 n, .int .i64 lo, .int .i64 hi] w fun e w' => e = .returned (.bool (inB n lo hi)) /\ w' = w := by
 by_cases h1 : lo <= n
 ·by_cases h2 : n <= hi
  ·go_enter Tryz.func24, Tryz.ntmps24
   go_wp2
   go_ret
   exact ⟨ret_bool (by rw [inB_iff.2 ⟨h1, h2⟩]), rfl⟩
  have h2' : hi < n := by omega
  go_enter Tryz.func24, Tryz.ntmps24
  go_wp2
  go_ret
  exact ⟨ret_bool (by rw [inB_not.2 (by omega)]), rfl⟩
 have h1' : n < lo := by omega
 go_enter Tryz.func24, Tryz.ntmps24
 go_wp2
 go_ret
 exact ⟨ret_bool (by rw [inB_not.2 (by omega)]), rfl⟩
theorem all_any (zs : List Int) (c m : Int) {w : World} (h : Ints w a n zs) (hn : n <= 1048576) (hm0 : 0 <= m := by omega) (hm : m <= 1000000000000000 := by omega) :
  Calls Tryz.prog 46 #[.slice a n cap, .int .i64 c, .int .i64 m] w fun e w' => e = .returned (.bool (okN c m n zs)) /\ w' = w := by
 have hz := h.1;have HZ : Hid (zs.length = n) := hz;clear hz
 by_cases hc : (n : Int) = c
 ·subst hc
  go_enter Tryz.func46, Tryz.ntmps46
  go_wp2_with fail
  go_loop [7] (fun i => ∃ k : Nat, k <= n /\ i = .int .i64 k /\ allB m (zs.take k) = true) (fun i => n - (intOf i).toNat)
  case atStart => exact ⟨0, qF _, rfl, rfl⟩
  case round =>
   obtain ⟨k, hk, rfl, hall⟩ := hrel;have HA : Hid (allB m (zs.take k) = true) := hall;clear hall
   by_cases hlt : k < n
   ·obtain ⟨b, off, rfl, hcell⟩ := h.pos (by omega);have hck := hcell k hlt;clear hcell
    cases hin : inB (zs[k]?.getD 0) (-m) m
    ·go_wp2_with (go_at_call 24; refine (in_any).mono ?_; rintro e w' ⟨rfl, rfl⟩)
     go_ret
     exact ⟨ret_bool (by rw [okN_is rfl, allB_false (by rw [HZ.out]; exact hlt) hin]), rfl⟩
    go_wp2_with (go_at_call 24; refine (in_any).mono ?_; rintro e w' ⟨rfl, rfl⟩)
    go_round
    case rel => exact ⟨k + 1, by omega, by go_num, allB_step (by rw [HZ.out]; exact hlt) HA.out hin⟩
    case measure => simp [intOf]; omega
   go_wp2
   go_ret
   exact ⟨ret_bool (by rw [okN_is rfl, allB_end (by rw [HZ.out]; omega) HA.out]), rfl⟩
 have hne : ((n : Int) != c) = true := by simp [hc]
 go_enter Tryz.func46, Tryz.ntmps46
 go_wp2
 go_ret
 exact ⟨ret_bool (by rw [okN_not hc]), rfl⟩
def betB (lo hi : Int) (zs : List Int) : Bool := zs.all fun n => inB n lo hi
theorem betB_step (h : k < zs.length) (h1 : betB lo hi (zs.take k) = true) (h2 : inB (zs[k]?.getD 0) lo hi = true) : betB lo hi (zs.take (k + 1)) = true := by
 unfold betB at *;rw [qD h, List.all_append, h1];rw [qB h] at h2;simpa using h2
theorem betB_end (h : zs.length <= k) (h1 : betB lo hi (zs.take k) = true) : betB lo hi zs = true := by
 rwa [qC h] at h1
theorem betB_false (h : k < zs.length) (hn : inB (zs[k]?.getD 0) lo hi = false) : betB lo hi zs = false := by
 unfold betB;rw [List.all_eq_false];refine ⟨zs[k], List.getElem_mem h, ?_⟩;rw [qB h] at hn;simpa using hn
theorem between_any (zs : List Int) (lo hi : Int) {w : World} (h : Ints w a n zs) (hn : n <= 1048576) :
  Calls Tryz.prog 91 #[.int .i64 lo, .int .i64 hi, .slice a n cap] w fun e w' => e = .returned (.bool (betB lo hi zs)) /\ w' = w := by
 have hz := h.1;have HZ : Hid (zs.length = n) := hz;clear hz
 go_enter Tryz.func91, Tryz.ntmps91
 go_wp2_with fail
 go_loop [8, 11] (fun _ i => ∃ k : Nat, k <= n /\ i = .int .i64 k /\ betB lo hi (zs.take k) = true) (fun _ i => n - (intOf i).toNat)
 case atStart => exact ⟨0, qF _, rfl, rfl⟩
 case round =>
  obtain ⟨k, hk, rfl, hall⟩ := hrel;have HA : Hid (betB lo hi (zs.take k) = true) := hall;clear hall
  by_cases hlt : k < n
  ·obtain ⟨b, off, rfl, hcell⟩ := h.pos (by omega);have hck := hcell k hlt;clear hcell
   by_cases h1 : lo <= zs[k]?.getD 0
   ·by_cases h2 : zs[k]?.getD 0 <= hi
    ·go_wp2
     go_round
     case rel => exact ⟨k + 1, by omega, by go_num, betB_step (by rw [HZ.out]; exact hlt) HA.out (inB_iff.2 ⟨h1, h2⟩)⟩
     case measure => simp [intOf]; omega
    go_wp2
    go_ret
    exact ⟨ret_bool (by rw [betB_false (by rw [HZ.out]; exact hlt) (inB_not.2 (by omega))]), rfl⟩
   go_wp2
   go_ret
   exact ⟨ret_bool (by rw [betB_false (by rw [HZ.out]; exact hlt) (inB_not.2 (by omega))]), rfl⟩
  go_wp2
  go_ret
  exact ⟨ret_bool (by rw [betB_end (by rw [HZ.out]; omega) HA.out]), rfl⟩
theorem within_any (a : Option Addr) (n cap : Nat) (zs : List Int) {m : Int} {w : World} (h : Ints w a n zs) (hn : n <= 1048576) (hm0 : 0 <= m := by omega) (hm : m <= 1000000000000000 := by omega) :
  Calls Tryz.prog 61 #[.int .i64 m, .slice a n cap] w fun e w' => e = .returned (.bool (allB m zs)) /\ w' = w := by
 go_enter Tryz.func61, Tryz.ntmps61
 go_wp2_with fail
 refine (between_any zs (-m) m h hn).mono ?_;rintro e w' ⟨rfl, rfl⟩
 go_wp2
 go_ret
 exact ⟨rfl, rfl⟩
theorem place_any {k n : Int} :
  Calls Tryz.prog 32 #[.int .i64 k, .int .i64 n] w fun e w' => e = .returned (.bool (decide (0 <= k /\ k < n))) /\ w' = w := by
 by_cases h1 : 0 <= k
 ·by_cases h2 : k < n
  all_goals
   go_enter Tryz.func32, Tryz.ntmps32
   go_wp2
   go_ret
   exact ⟨ret_bool (by simp; try omega), rfl⟩
 go_enter Tryz.func32, Tryz.ntmps32
 go_wp2
 go_ret
 exact ⟨ret_bool (by simp; try omega), rfl⟩
theorem Tryz.infoInt : (Tryz.prog.info? 3).map (fun i => (i.zero, i.size, i.bytes)) = some (some (.int .i64 0), 1, 8) := by kernel_rfl
theorem to_any (zs : List Int) {w : World} (h : Ints w a n zs) (hn : n <= 1048576) :
  Calls Tryz.prog 9 #[.slice a n cap] w fun e w' => e = .returned (.slice (some ⟨w.heap.size, 0, none⟩) n n) /\ Below w.heap.size w w' /\ Blk w' w.heap.size zs := by
 have hz := h.1;have HZ : Hid (zs.length = n) := hz;clear hz;obtain ⟨i0, hi, hz0, hz1, hz2⟩ := info_parts Tryz.infoInt
 go_enter Tryz.func9, Tryz.ntmps9
 go_wp2_with (at_make; refine wpList_make_full _ rfl (.tmp 6) (.tmp 6) 23 rfl w.heap.size 3 i0 (.int .i64 0) 1 Tryz.underlying23 hi hz0 hz1 .i64 .i64 _ _ n rfl rfl rfl rfl (by rw [hz2]; omega) (by unfold maxLen; omega) (qE _) ?_; intro w1 hown hgrow)
 have hb1 := Blk.made w n w1 hown;have HB : Below w.heap.size w w1 := (Below.refl _ _).grown hgrow (qE _) (by simp);clear hown hgrow hi hz0 hz1 hz2
 go_loopw [4] (fun i wr => ∃ k : Nat, k <= n /\ i = .int .i64 k /\ Below w.heap.size w wr /\ Blk wr w.heap.size (upTo zs n k)) (fun i _ => n - (intOf i).toNat)
 case atStart => exact ⟨0, qF _, rfl, HB, by rw [upTo_zero]; exact hb1⟩
 case round =>
  obtain ⟨k, hk, rfl, hnx, hblk⟩ := hrel
  by_cases hlt : k < n
  ·obtain ⟨b, off, rfl, hcell⟩ := h.pos (by omega)
   have hck : wr.cell? ⟨b, off + k, none⟩ = some (.int .i64 (zs[k]?.getD 0)) := by
    have h0 := hcell k hlt;rw [hnx.cell (p := ⟨b, off + k, none⟩) (block_lt h0), h0]; simp
   have hco : wr.cell? ⟨w.heap.size, k, none⟩ = some (.int .i64 ((upTo zs n k)[k]?.getD 0)) := by
    have := hblk.cell k (by rw [upTo_len HZ.out hk]; exact hlt);simpa using this
   have hfo := hblk.free k
   have R : Blk (wr.setCell ⟨w.heap.size, k, none⟩ (.int .i64 (zs[k]?.getD 0))) w.heap.size (upTo zs n (k + 1)) := by
    have := hblk.set k (zs[k]?.getD 0);rwa [upTo_succ HZ.out hlt] at this
   have R2 : Below w.heap.size w (wr.setCell ⟨w.heap.size, k, none⟩ (.int .i64 (zs[k]?.getD 0))) := hnx.setCell (qE _) _;clear hcell hb1 HB
   go_wp2
   go_roundw
   case rel => exact ⟨k + 1, by omega, by go_num, R2, R⟩
   case measure => simp [intOf]; omega
  go_wp2
  go_ret
  exact ⟨rfl, hnx, by rw [upTo_end HZ.out (by omega)] at hblk; exact hblk⟩
theorem eq_any {c : Option Addr} {m cap' : Nat} (xs ys : List Int) {w : World} (h : Ints w a n xs) (h' : Ints w c m ys) (hn : n <= 1048576) (hm : m <= 1048576) :
  Calls Tryz.prog 12 #[.slice a n cap, .slice c m cap'] w fun e w' => e = .returned (.bool (eqB xs ys)) /\ Below w.heap.size w w' := by
 have hx := h.1;have HX : Hid (xs.length = n) := hx;have hy := h'.1;have HY : Hid (ys.length = m) := hy;clear hx hy
 by_cases hc : n = m
 ·subst hc
  go_enter Tryz.func12, Tryz.ntmps12
  go_wp2_with fail
  go_loopw [5] (fun i wr => ∃ k : Nat, k <= n /\ i = .int .i64 k /\ Below w.heap.size w wr /\ xs.take k = ys.take k) (fun i _ => n - (intOf i).toNat)
  case atStart => exact ⟨0, qF _, rfl, Below.refl _ _, rfl⟩
  case round =>
   obtain ⟨k, hk, rfl, hnx, hall⟩ := hrel;have HA : Hid (xs.take k = ys.take k) := hall;clear hall
   by_cases hlt : k < n
   ·obtain ⟨b, off, rfl, hcell⟩ := (h.below hnx).pos (by omega);obtain ⟨b', off', rfl, hcell'⟩ := (h'.below hnx).pos (by omega);have hck := hcell k hlt;have hck' := hcell' k hlt;have hlt' : (k : Int) < (n : Int) := by omega
    clear hcell hcell' h h'
    go_wp2_with fail
    go_quiet (fail)
    cases he : (xs[k]?.getD 0 != ys[k]?.getD 0)
    ·go_wp2
     go_roundw
     case rel => exact ⟨k + 1, by omega, by go_num, below_drewN hnx _, take_same_succ (by rw [HX.out]; exact hlt) (by rw [HY.out]; exact hlt) HA.out (by simpa using he)⟩
     case measure => simp [intOf]; omega
    go_wp2
    go_ret
    exact ⟨ret_bool (by rw [eqB_false (k := k) (by simpa using he)]), below_drewN hnx _⟩
   go_wp2
   go_ret
   exact ⟨ret_bool (by rw [eqB_true HX.out HY.out (by omega) HA.out]), hnx⟩
 have hne : ((n : Int) != (m : Int)) = true := by simp; omega
 go_enter Tryz.func12, Tryz.ntmps12
 go_wp2
 go_ret
 exact ⟨ret_bool (by rw [eqB_len (by rw [HX.out, HY.out]; exact hc)]), Below.refl _ _⟩
theorem sval_any (zs : List Int) {w : World} (h : Ints w a n zs) (hn : n <= 1048576) :
  Calls Tryz.prog 83 #[.slice a n cap] w fun e w' => e = .returned (.bool (okN 3 10000 n zs)) /\ w' = w := by
 go_enter Tryz.func83, Tryz.ntmps83
 go_wp2_with fail
 refine (all_any zs _ _ h hn).mono ?_;rintro e w' ⟨rfl, rfl⟩
 go_wp2
 go_ret
 exact ⟨rfl, rfl⟩
theorem sarg_any (zs : List Int) {w : World} (h : Ints w a n zs) (hn : n <= 1048576) :
  Calls Tryz.prog 25 #[.slice a n cap] w fun e w' => e = .returned (.bool (okN 2 9 n zs)) /\ w' = w := by
 go_enter Tryz.func25, Tryz.ntmps25
 go_wp2_with fail
 refine (all_any zs _ _ h hn).mono ?_;rintro e w' ⟨rfl, rfl⟩
 go_wp2
 go_ret
 exact ⟨rfl, rfl⟩
theorem ival_any (zs : List Int) {w : World} (h : Ints w a n zs) (hn : n <= 1048576) :
  Calls Tryz.prog 97 #[.slice a n cap] w fun e w' => e = .returned (.bool (okN 3 10000 n zs)) /\ w' = w := by
 by_cases hc : (n : Int) = 3
 ·have hc' : ((n : Int) == 3) = true := by simp [hc]
  have HC : Hid ((n : Int) = 3) := hc;clear hc
  go_enter Tryz.func97, Tryz.ntmps97
  go_wp2_with fail
  refine (within_any _ _ _ zs h hn).mono ?_;rintro e w' ⟨rfl, rfl⟩
  go_wp2
  go_ret
  exact ⟨ret_bool (by rw [okN_is HC.out]), rfl⟩
 have hc' : ((n : Int) == 3) = false := by simpa using hc
 go_enter Tryz.func97, Tryz.ntmps97
 go_wp2
 go_ret
 exact ⟨ret_bool (by rw [okN_not hc]), rfl⟩
theorem iarg_any (zs : List Int) {w : World} (h : Ints w a n zs) (hn : n <= 1048576) :
  Calls Tryz.prog 33 #[.slice a n cap] w fun e w' => e = .returned (.bool (okN 2 9 n zs)) /\ w' = w := by
 by_cases hc : (n : Int) = 2
 ·have hc' : ((n : Int) == 2) = true := by simp [hc]
  have HC : Hid ((n : Int) = 2) := hc;clear hc
  go_enter Tryz.func33, Tryz.ntmps33
  go_wp2_with fail
  refine (within_any _ _ _ zs h hn).mono ?_;rintro e w' ⟨rfl, rfl⟩
  go_wp2
  go_ret
  exact ⟨ret_bool (by rw [okN_is HC.out]), rfl⟩
 have hc' : ((n : Int) == 2) = false := by simpa using hc
 go_enter Tryz.func33, Tryz.ntmps33
 go_wp2
 go_ret
 exact ⟨ret_bool (by rw [okN_not hc]), rfl⟩
section
variable {P : Program} {ops : Array Oper} {Q : Exit -> Act -> World -> Prop} {md : Region.Mode} {S0 S : World -> Prop} {s : Nat}
def wpAnyE (P : Program) (md : Region.Mode) (ops : Array Oper) (Q : Exit -> Act -> World -> Prop) (S0 S : World -> Prop) (s : Nat) : Nat -> Array Bool -> Act -> World -> Prop
 | 0, listed, a, w => Region.ready md ops listed = [] /\ Q .normal a w
 | fuel + 1, listed, a, w =>
  (Region.ready md ops listed = [] -> Q .normal a w) /\
  ∀ i ∈ Region.ready md ops listed, wpOp P ops Q i (fun a' w' => (S0 w' /\ ((listed.setIfInBounds i true).getD s true = false -> S w')) /\ wpAnyE P md ops Q S0 S s fuel (listed.setIfInBounds i true) a' w') a w
theorem wpAny_of_ends : ∀ (fuel : Nat) (listed : Array Bool) (a : Act) (w : World), wpAnyE P md ops Q S0 S s fuel listed a w -> wpAny P md ops Q fuel listed a w
 | 0, _, _, _, h => h
 | fuel + 1, _, _, _, h => ⟨h.1, fun i hi => wpOp_mono (fun a' w' h' => wpAny_of_ends fuel _ a' w' h'.2) (h.2 i hi)⟩
theorem not_waits {i j : Nat} {listed : Array Bool} {oj : Oper} (hr : i ∈ Region.ready md ops listed) (hall : ∀ e ∈ oj.after, Region.binds md e = true -> listed.getD e.on false = true) : ∀ e ∈ oj.after, Region.binds md e = true -> e.on ≠ i := fun e he hb heq => by
 have h1 := hall e he hb;have h0 := (mem_ready.1 hr).1;rw [heq] at h1
 rcases Nat.lt_or_ge i listed.size with h' | h'
 ·simp [h'] at h0 h1; rw [h0] at h1; cases h1
 simp [Array.getElem?_eq_none h'] at h1
theorem wpAnyE_first0 {i : Nat} {oi : Oper} {v : Value} (hi : ops[i]? = some oi) (hsel : ∀ (j : Nat) (o : Oper) cs b, ops[j]? = some o -> o.op ≠ .select cs b)
  (hQ : ∀ c a w, Q (.panic c) (a.put oi.dst v) w -> Q (.panic c) a w) (his : i ≠ s) :
  ∀ (fuel : Nat) (listed : Array Bool) (a : Act) (w : World),
   (∀ j oj, ops[j]? = some oj -> j ≠ i -> listed.getD j true = false -> (∀ e ∈ oj.after, Region.binds md e = true -> e.on ≠ i) -> oi.apart ops oj = true) ->
   i ∈ Region.ready md ops listed -> YieldsIf P ops S0 oi v a -> (S0 w /\ (listed.getD s true = false -> S w)) ->
   wpAnyE P md ops Q S0 S s fuel (listed.setIfInBounds i true) (a.put oi.dst v) w -> wpAnyE P md ops Q S0 S s (fuel + 1) listed a w := by
 intro fuel
 induction fuel with
 | zero =>
  intro listed a w _ hr hy hS H;refine ⟨fun h => (by rw [h] at hr; cases hr), fun j hj => ?_⟩
  by_cases hji : j = i
  ·subst hji; exact hy.wpOp hi hS.1 ⟨⟨hS.1, fun h => hS.2 (by rw [getD_set_ne true his] at h; exact h)⟩, H⟩
  have := ready_mono hj hji;rw [H.1] at this
  cases this
 | succ fuel ih =>
  intro listed a w hfree hr hy hS H;refine ⟨fun h => (by rw [h] at hr; cases hr), fun j hj => ?_⟩
  by_cases hji : j = i
  ·subst hji; exact hy.wpOp hi hS.1 ⟨⟨hS.1, fun h => hS.2 (by rw [getD_set_ne true his] at h; exact h)⟩, H⟩
  have h1 := H.2 j (ready_mono hj hji);obtain ⟨hjun, oj, hoj, hall⟩ := mem_ready.1 hj;have h2 := wpOp_putIf hoj (hfree j oj hoj hji hjun (not_waits (i := i) (j := j) hr hall)) (fun cs b => hsel i oi cs b hi) (fun cs b => hsel j oj cs b hoj) hQ hy h1
  have hfree' : ∀ k ok, ops[k]? = some ok -> k ≠ i -> (listed.setIfInBounds j true).getD k true = false ->
    (∀ e ∈ ok.after, Region.binds md e = true -> e.on ≠ i) -> oi.apart ops ok = true := fun k ok hk hki hun hno => by
   refine hfree k ok hk hki ?_ hno
   by_cases hjk : j = k
   ·subst hjk; exact hjun
   rw [getD_set_ne true hjk] at hun; exact hun
  refine wpOp_mono (fun a' w' h3 => ?_) h2;have hS' : S0 w' /\ ((listed.setIfInBounds j true).getD s true = false -> S w') := ⟨h3.2.1.1, fun h => h3.2.1.2 (by rw [Array.setIfInBounds_comm _ _ (Ne.symm hji), getD_set_ne true his]; exact h)⟩
  refine ⟨hS', ih (listed.setIfInBounds j true) a' w' hfree' (ready_mono hr (Ne.symm hji)) h3.1 hS' ?_⟩;rw [Array.setIfInBounds_comm _ _ hji]
  exact h3.2.2
theorem wpAnyE_first1 {i : Nat} {oi os : Oper} {v : Value} (hi : ops[i]? = some oi) (hsel : ∀ (j : Nat) (o : Oper) cs b, ops[j]? = some o -> o.op ≠ .select cs b)
  (hQ : ∀ c a w, Q (.panic c) (a.put oi.dst v) w -> Q (.panic c) a w) (his : i ≠ s) (hos : ops[s]? = some os) (hw : ∃ e ∈ os.after, Region.binds md e = true /\ e.on = i) :
  ∀ (fuel : Nat) (listed : Array Bool) (a : Act) (w : World),
   (∀ j oj, ops[j]? = some oj -> j ≠ i -> listed.getD j true = false -> (∀ e ∈ oj.after, Region.binds md e = true -> e.on ≠ i) -> oi.apart ops oj = true) ->
   i ∈ Region.ready md ops listed -> listed.getD s true = false -> YieldsIf P ops S oi v a -> (S0 w /\ (listed.getD s true = false -> S w)) ->
   wpAnyE P md ops Q S0 S s fuel (listed.setIfInBounds i true) (a.put oi.dst v) w -> wpAnyE P md ops Q S0 S s (fuel + 1) listed a w := by
 intro fuel
 induction fuel with
 | zero =>
  intro listed a w _ hr hls hy hS H;refine ⟨fun h => (by rw [h] at hr; cases hr), fun j hj => ?_⟩
  by_cases hji : j = i
  ·subst hji; exact hy.wpOp hi (hS.2 hls) ⟨⟨hS.1, fun h => hS.2 (by rw [getD_set_ne true his] at h; exact h)⟩, H⟩
  have := ready_mono hj hji;rw [H.1] at this
  cases this
 | succ fuel ih =>
  intro listed a w hfree hr hls hy hS H;refine ⟨fun h => (by rw [h] at hr; cases hr), fun j hj => ?_⟩
  by_cases hji : j = i
  ·subst hji; exact hy.wpOp hi (hS.2 hls) ⟨⟨hS.1, fun h => hS.2 (by rw [getD_set_ne true his] at h; exact h)⟩, H⟩
  have h1 := H.2 j (ready_mono hj hji);obtain ⟨hjun, oj, hoj, hall⟩ := mem_ready.1 hj;have hnot := not_waits (i := i) (j := j) hr hall
  have hjs : j ≠ s := fun e => by
   subst e;rw [hos] at hoj;obtain ⟨x, hx, hb, ho⟩ := hw;rw [qA] at hoj;subst hoj
   exact hnot x hx hb ho
  have h2 := wpOp_putIf hoj (hfree j oj hoj hji hjun hnot) (fun cs b => hsel i oi cs b hi) (fun cs b => hsel j oj cs b hoj) hQ hy h1
  have hfree' : ∀ k ok, ops[k]? = some ok -> k ≠ i -> (listed.setIfInBounds j true).getD k true = false ->
    (∀ e ∈ ok.after, Region.binds md e = true -> e.on ≠ i) -> oi.apart ops ok = true := fun k ok hk hki hun hno => by
   refine hfree k ok hk hki ?_ hno
   by_cases hjk : j = k
   ·subst hjk; exact hjun
   rw [getD_set_ne true hjk] at hun; exact hun
  have hls' : (listed.setIfInBounds j true).getD s true = false := by rw [getD_set_ne true hjs]; exact hls
  refine wpOp_mono (fun a' w' h3 => ?_) h2;have hS' : S0 w' /\ ((listed.setIfInBounds j true).getD s true = false -> S w') := ⟨h3.2.1.1, fun h => h3.2.1.2 (by rw [Array.setIfInBounds_comm _ _ (Ne.symm hji), getD_set_ne true his]; exact h)⟩
  refine ⟨hS', ih (listed.setIfInBounds j true) a' w' hfree' (ready_mono hr (Ne.symm hji)) hls' h3.1 hS' ?_⟩;rw [Array.setIfInBounds_comm _ _ hji]
  exact h3.2.2
theorem wpAnyE_take0 {i : Nat} {oi : Oper} {v : Value} {fuel : Nat} {listed : Array Bool} {a : Act} {w : World} (hi : ops[i]? = some oi)
  (hs : Region.noSelect ops = true) (hf : Region.free md ops listed i = true) (hr : (Region.ready md ops listed).contains i = true) (his : i ≠ s)
  (hQ : ∀ c a w, Q (.panic c) (a.put oi.dst v) w -> Q (.panic c) a w) (hy : YieldsIf P ops S0 oi v a) (hS : S0 w /\ S w)
  (h : wpAnyE P md ops Q S0 S s fuel (listed.setIfInBounds i true) (a.put oi.dst v) w) : wpAnyE P md ops Q S0 S s (fuel + 1) listed a w :=
 wpAnyE_first0 hi (Region.noSelect_spec hs) hQ his fuel listed a w (Region.free_spec hi hf) (by simpa using hr) hy ⟨hS.1, fun _ => hS.2⟩ h
theorem wpAnyE_take1 {i : Nat} {oi os : Oper} {v : Value} {fuel : Nat} {listed : Array Bool} {a : Act} {w : World} (hi : ops[i]? = some oi) (hos : ops[s]? = some os)
  (hs : Region.noSelect ops = true) (hf : Region.free md ops listed i = true) (hr : (Region.ready md ops listed).contains i = true) (his : i ≠ s) (hls : listed.getD s true = false)
  (hw : ∃ e ∈ os.after, Region.binds md e = true /\ e.on = i)
  (hQ : ∀ c a w, Q (.panic c) (a.put oi.dst v) w -> Q (.panic c) a w) (hy : YieldsIf P ops S oi v a) (hS : S0 w /\ S w)
  (h : wpAnyE P md ops Q S0 S s fuel (listed.setIfInBounds i true) (a.put oi.dst v) w) : wpAnyE P md ops Q S0 S s (fuel + 1) listed a w :=
 wpAnyE_first1 hi (Region.noSelect_spec hs) hQ his hos hw fuel listed a w (Region.free_spec hi hf) (by simpa using hr) hls hy ⟨hS.1, fun _ => hS.2⟩ h
theorem kk0 {S0 : World -> Prop} {c : Prop} {R K : Act -> World -> Prop} (hK : Shut (∀ a w, (S0 w /\ (c -> True)) -> R a w -> K a w)) {a : Act} {w : World} (h : S0 w) (hr : R a w) : K a w := hK.out a w ⟨h, fun _ => trivial⟩ hr
theorem tkE {i : Nat} {oi : Oper} {v : Value} {fuel : Nat} {listed : Array Bool} {a : Act} {w : World} (hi : ops[i]? = some oi) (hy : YieldsIf P ops S0 oi v a) (hS : S0 w /\ S w)
  (h : wpAnyE P md ops Q S0 S s fuel (listed.setIfInBounds i true) (a.put oi.dst v) w)
  (hs : Region.noSelect ops = true := by kernel_rfl) (hf : Region.free md ops listed i = true := by kernel_rfl) (hr : (Region.ready md ops listed).contains i = true := by kernel_rfl) (his : i ≠ s := by decide)
  (hQ : ∀ c a w, Q (.panic c) (a.put oi.dst v) w -> Q (.panic c) a w := by exact fun _ _ _ h => h) : wpAnyE P md ops Q S0 S s (fuel + 1) listed a w :=
 wpAnyE_take0 hi hs hf hr his hQ hy hS h
theorem tkl (i : Nat) {oi : Oper} {v : Value} {fuel : Nat} {listed : Array Bool} {a : Act} {w : World} (hi : ops[i]? = some oi) (hS : S0 w /\ S w)
  (h : wpAnyE P md ops Q S0 S s fuel (listed.setIfInBounds i true) (a.put oi.dst v) w)
  (hw : Region.wanted oi (yielded ops a.tmps) = true := by rfl)
  (hy : ∀ w, S0 w -> (execOp a.eval oi).run P w = .ok (.value v) w := by (intro wz hSw; (try dsimp only at hSw); go_simp; try (with_reducible rfl)))
  (hs : Region.noSelect ops = true := by kernel_rfl) (hf : Region.free md ops listed i = true := by kernel_rfl) (hr : (Region.ready md ops listed).contains i = true := by kernel_rfl) (his : i ≠ s := by decide)
  (hQ : ∀ c a w, Q (.panic c) (a.put oi.dst v) w -> Q (.panic c) a w := by exact fun _ _ _ h => h) : wpAnyE P md ops Q S0 S s (fuel + 1) listed a w :=
 wpAnyE_take0 hi hs hf hr his hQ (Or.inl ⟨hw, hy⟩) hS h
theorem tku (i : Nat) {oi : Oper} {fuel : Nat} {listed : Array Bool} {a : Act} {w : World} (hi : ops[i]? = some oi) (hS : S0 w /\ S w)
  (h : wpAnyE P md ops Q S0 S s fuel (listed.setIfInBounds i true) (a.put oi.dst undef) w)
  (hw : Region.wanted oi (yielded ops a.tmps) = false := by kernel_rfl)
  (hs : Region.noSelect ops = true := by kernel_rfl) (hf : Region.free md ops listed i = true := by kernel_rfl) (hr : (Region.ready md ops listed).contains i = true := by kernel_rfl) (his : i ≠ s := by decide)
  (hQ : ∀ c a w, Q (.panic c) (a.put oi.dst undef) w -> Q (.panic c) a w := by exact fun _ _ _ h => h) : wpAnyE P md ops Q S0 S s (fuel + 1) listed a w :=
 wpAnyE_take0 hi hs hf hr his hQ (Or.inr ⟨hw, rfl⟩) hS h
theorem tkM {i : Nat} {oi os : Oper} {v : Value} {fuel : Nat} {listed : Array Bool} {a : Act} {w : World} (hi : ops[i]? = some oi) (hos : ops[s]? = some os) (hS : S0 w /\ S w)
  (h : wpAnyE P md ops Q S0 S s fuel (listed.setIfInBounds i true) (a.put oi.dst v) w)
  (hw : Region.wanted oi (yielded ops a.tmps) = true := by rfl)
  (hy : ∀ w, S w -> (execOp a.eval oi).run P w = .ok (.value v) w := by (intro wz hSw; (try dsimp only at hSw); go_simp; try (with_reducible rfl)))
  (hs : Region.noSelect ops = true := by kernel_rfl) (hf : Region.free md ops listed i = true := by kernel_rfl) (hr : (Region.ready md ops listed).contains i = true := by kernel_rfl) (his : i ≠ s := by decide)
  (hls : listed.getD s true = false := by rfl) (hb : ∃ e ∈ os.after, Region.binds md e = true /\ e.on = i := by simp [Region.binds])
  (hQ : ∀ c a w, Q (.panic c) (a.put oi.dst v) w -> Q (.panic c) a w := by exact fun _ _ _ h => h) : wpAnyE P md ops Q S0 S s (fuel + 1) listed a w :=
 wpAnyE_take1 hi hos hs hf hr his hls hb hQ (Or.inl ⟨hw, hy⟩) hS h
theorem wpAnyE_one {i : Nat} {o : Oper} {fuel : Nat} {listed : Array Bool} {a : Act} {w : World} (hr : Region.ready md ops listed = [i]) (ho : ops[i]? = some o)
  (h : ∀ K' : Act -> World -> Prop, Shut (∀ a w, (S0 w /\ ((listed.setIfInBounds i true).getD s true = false -> S w)) -> wpAnyE P md ops Q S0 S s fuel (listed.setIfInBounds i true) a w -> K' a w) -> if Region.wanted o (yielded ops a.tmps) = true then Oper.wp P o a w K' Q else K' (a.put o.dst undef) w) : wpAnyE P md ops Q S0 S s (fuel + 1) listed a w := by
 refine ⟨fun h0 => (by rw [hr] at h0; cases h0), fun j hj => ?_⟩;rw [hr] at hj
 rcases List.mem_cons.1 hj with rfl | hj
 ·exact wpOp_step ho (fun K' hK => h K' (fun a w hS hW => hK a w ⟨hS, hW⟩))
 cases hj
theorem wo1 (i : Nat) {o : Oper} {fuel : Nat} {listed : Array Bool} {a : Act} {w : World} (ho : ops[i]? = some o)
  (h : ∀ K' : Act -> World -> Prop, Shut (∀ a w, (S0 w /\ ((listed.setIfInBounds i true).getD s true = false -> S w)) -> wpAnyE P md ops Q S0 S s fuel (listed.setIfInBounds i true) a w -> K' a w) -> if Region.wanted o (yielded ops a.tmps) = true then Oper.wp P o a w K' Q else K' (a.put o.dst undef) w) (hr : Region.ready md ops listed = [i] := by kernel_rfl) : wpAnyE P md ops Q S0 S s (fuel + 1) listed a w := by
 refine ⟨fun h0 => (by rw [hr] at h0; cases h0), fun j hj => ?_⟩;rw [hr] at hj
 rcases List.mem_cons.1 hj with rfl | hj
 ·exact wpOp_step ho (fun K' hK => h K' (fun a w hS hW => hK a w ⟨hS, hW⟩))
 cases hj
theorem wpAnyE_two {i j : Nat} {oi oj : Oper} {fuel : Nat} {listed : Array Bool} {a : Act} {w : World} (hr : Region.ready md ops listed = [i, j]) (hi : ops[i]? = some oi) (hj : ops[j]? = some oj)
  (h1 : ∀ K' : Act -> World -> Prop, Shut (∀ a w, (S0 w /\ ((listed.setIfInBounds i true).getD s true = false -> S w)) -> wpAnyE P md ops Q S0 S s fuel (listed.setIfInBounds i true) a w -> K' a w) -> if Region.wanted oi (yielded ops a.tmps) = true then Oper.wp P oi a w K' Q else K' (a.put oi.dst undef) w)
  (h2 : ∀ K' : Act -> World -> Prop, Shut (∀ a w, (S0 w /\ ((listed.setIfInBounds j true).getD s true = false -> S w)) -> wpAnyE P md ops Q S0 S s fuel (listed.setIfInBounds j true) a w -> K' a w) -> if Region.wanted oj (yielded ops a.tmps) = true then Oper.wp P oj a w K' Q else K' (a.put oj.dst undef) w) : wpAnyE P md ops Q S0 S s (fuel + 1) listed a w := by
 refine ⟨fun h0 => (by rw [hr] at h0; cases h0), fun z hz => ?_⟩;rw [hr] at hz
 rcases List.mem_cons.1 hz with rfl | hz
 ·exact wpOp_step hi (fun K' hK => h1 K' (fun a w hS hW => hK a w ⟨hS, hW⟩))
 rcases List.mem_cons.1 hz with rfl | hz
 ·exact wpOp_step hj (fun K' hK => h2 K' (fun a w hS hW => hK a w ⟨hS, hW⟩))
 cases hz
theorem wo2 (i j : Nat) {oi oj : Oper} {fuel : Nat} {listed : Array Bool} {a : Act} {w : World} (hi : ops[i]? = some oi) (hj : ops[j]? = some oj)
  (h1 : ∀ K' : Act -> World -> Prop, Shut (∀ a w, (S0 w /\ ((listed.setIfInBounds i true).getD s true = false -> S w)) -> wpAnyE P md ops Q S0 S s fuel (listed.setIfInBounds i true) a w -> K' a w) -> if Region.wanted oi (yielded ops a.tmps) = true then Oper.wp P oi a w K' Q else K' (a.put oi.dst undef) w)
  (h2 : ∀ K' : Act -> World -> Prop, Shut (∀ a w, (S0 w /\ ((listed.setIfInBounds j true).getD s true = false -> S w)) -> wpAnyE P md ops Q S0 S s fuel (listed.setIfInBounds j true) a w -> K' a w) -> if Region.wanted oj (yielded ops a.tmps) = true then Oper.wp P oj a w K' Q else K' (a.put oj.dst undef) w) (hr : Region.ready md ops listed = [i, j] := by kernel_rfl) : wpAnyE P md ops Q S0 S s (fuel + 1) listed a w := by
 refine ⟨fun h0 => (by rw [hr] at h0; cases h0), fun z hz => ?_⟩;rw [hr] at hz
 rcases List.mem_cons.1 hz with rfl | hz
 ·exact wpOp_step hi (fun K' hK => h1 K' (fun a w hS hW => hK a w ⟨hS, hW⟩))
 rcases List.mem_cons.1 hz with rfl | hz
 ·exact wpOp_step hj (fun K' hK => h2 K' (fun a w hS hW => hK a w ⟨hS, hW⟩))
 cases hz
theorem wpAnyE_done {listed : Array Bool} {a : Act} {w : World} (hr : Region.ready md ops listed = []) (h : Q .normal a w) : ∀ fuel, wpAnyE P md ops Q S0 S s fuel listed a w
 | 0 => ⟨hr, h⟩
 | _ + 1 => ⟨fun _ => h, by rw [hr]; simp⟩
theorem wp_region_ends {id : Nat} {a : Act} {w : World} (S0 S : World -> Prop) (s : Nat) (hm : P.follows .mixedOrders = true)
  (h : wpAnyE P .any ops Q S0 S s ops.size (Array.replicate ops.size false) a w.drew) : (Code.region id ops true).wp P Q a w :=
 wp_region_any hm (wpAny_of_ends _ _ _ _ h)
theorem wod {listed : Array Bool} {a : Act} {w : World} (h : Q .normal a w) (fuel : Nat) (hr : Region.ready md ops listed = [] := by kernel_rfl) : wpAnyE P md ops Q S0 S s fuel listed a w := wpAnyE_done hr h fuel
end
section
variable {F : Fence} {n : Nat} {P : Program} {ops : Array Oper} {Q : Exit -> Act -> World -> Prop} {md : Region.Mode} {S : World -> Prop}
def Left (o : Oper) (a a' : Act) : Prop := ∃ u ds, a' = ({ a with defers := ds } : Act).put o.dst u
theorem wpIn_left {o : Oper} {a : Act} {w : World} {K : Act -> World -> Prop} (h : o.wpIn F n P a w K Q) : o.wpIn F n P a w (fun a' w' => Left o a a' /\ K a' w') Q := by
 unfold Oper.wpIn at *;refine ⟨h.1, ?_⟩;have h := h.2;generalize (o.semAt F.round a.eval).run P w = r at *
 cases r with
 | ok x w' =>
  cases x <;> simp only [Oper.uponIn] at h ⊢ <;>
   first
    | exact ⟨⟨_, _, rfl⟩, h⟩
    | exact ⟨h.1, CallsIn.mono h.2 (fun e w'' he => by cases e <;> first | exact ⟨⟨_, _, rfl⟩, he⟩ | exact he)⟩
    | exact ⟨h.1, RowsIn.mono h.2 (fun _ _ he => ⟨⟨_, _, rfl⟩, he⟩)⟩
    | exact ⟨h.1, RoundIn.mono h.2 (fun e w'' he => by cases e <;> first | exact ⟨⟨_, _, rfl⟩, he⟩ | exact he)⟩
    | exact h
 | halt x w' => cases x <;> simp only [Oper.uponIn] at h ⊢ <;> exact h
theorem wpOpIn_left {j : Nat} {oj : Oper} (hj : ops[j]? = some oj) {a : Act} {w : World} {K : Act -> World -> Prop} (h : wpOpIn F n P ops Q j K a w) : wpOpIn F n P ops Q j (fun a' w' => Left oj a a' /\ K a' w') a w := by
 unfold wpOpIn at *;simp only [hj] at *
 split
 ·rename_i hw
  simp only [hw, if_true] at h
  exact wpIn_left h
 rename_i hw
 simp only [hw] at h
 exact ⟨h.1, ⟨undef, a.defers, rfl⟩, h.2⟩
def YieldsS (P : Program) (ops : Array Oper) (S : World -> Prop) (o : Oper) (v : Value) (a : Act) : Prop := YieldsIf P ops S o v a /\ ∀ w, o.about P w a.eval = none
theorem YieldsS.left {oi oj : Oper} {v : Value} {a a' : Act} (hy : YieldsS P ops S oi v a) (hap : oi.apart ops oj = true) (hsi : ∀ cs b, oi.op ≠ .select cs b) (h : Left oj a a') : YieldsS P ops S oi v a' := by
 obtain ⟨u, ds, rfl⟩ := h;obtain ⟨h1, h2, h3⟩ := Oper.apart_spec hap;refine ⟨YieldsIf.of_same (a := ({ a with defers := ds } : Act)) (YieldsIf.of_same hy.1 rfl rfl) (execOp_put oi hsi _ oj.dst u h3) (wanted_put oi _ oj.dst u h3), fun w => ?_⟩;rw [about_put oi w _ oj.dst u h3]
 exact hy.2 w
theorem YieldsS.wpOpIn {i : Nat} {o : Oper} {v : Value} {a : Act} (hro : F.round = none) (hi : ops[i]? = some o) (hy : YieldsS P ops S o v a) {K : Act -> World -> Prop} {w : World} (hS : S w) (h : K (a.put o.dst v) w) : wpOpIn F n P ops Q i K a w := by
 unfold Go.wpOpIn;simp only [hi];have hab : ∀ f, o.about P w a.eval = some f -> F.fn f := fun f hf => by rw [hy.2 w] at hf; cases hf
 rcases hy.1 with ⟨hw, hv⟩ | ⟨hw, rfl⟩
 ·simp only [hw, if_true, Oper.wpIn, hro, Oper.semAt_none, hv w hS, Oper.uponIn]; exact ⟨hab, h⟩
 simp only [hw, Bool.false_eq_true, if_false]; exact ⟨hab, h⟩
def still (oi : Oper) (v : Value) : Oper := { oi with op := .move (.const v), guard := none, after := #[] }
theorem still_yields (oi : Oper) (v : Value) (a : Act) : YieldsFenced P ops (still oi v) v a := by
 refine ⟨.inl ⟨rfl, fun w => ?_⟩, fun w => rfl⟩;simp [still, execOp, Act.eval]
theorem still_apart {oi oj : Oper} {v : Value} (h : oi.apart ops oj = true) : (still oi v).apart ops oj = true := by
 simp only [Oper.apart, Bool.and_eq_true] at h ⊢;refine ⟨h.1, ?_⟩
 cases oj.dst with
 | none => rfl
 | some d => simp [still, Oper.looksAt, Op.operands]
theorem wpOpIn_putS {j : Nat} {oi oj : Oper} {v : Value} (hro : F.round = none) (hj : ops[j]? = some oj) (hap : oi.apart ops oj = true)
  (hsi : ∀ cs b, oi.op ≠ .select cs b) (hsj : ∀ cs b, oj.op ≠ .select cs b)
  (hQ : ∀ c a w, Q (.panic c) (a.put oi.dst v) w -> Q (.panic c) a w) {K : Act -> World -> Prop} {a : Act} {w : World}
  (hy : YieldsS P ops S oi v a) (h : wpOpIn F n P ops Q j K (a.put oi.dst v) w) :
  wpOpIn F n P ops Q j (fun a' w' => YieldsS P ops S oi v a' /\ K (a'.put oi.dst v) w') a w :=
 wpOpIn_mono (fun a' w' hh => ⟨hy.left hap hsi hh.1, hh.2.2⟩) (wpOpIn_left hj (wpOpIn_put (oi := still oi v) hro hj (still_apart hap) (fun cs b e => by cases e) hsj hQ (still_yields oi v a) h))
def wpAnyS (F : Fence) (n : Nat) (P : Program) (md : Region.Mode) (ops : Array Oper) (Q : Exit -> Act -> World -> Prop) (S : World -> Prop) : Nat -> Array Bool -> Act -> World -> Prop
 | 0, listed, a, w => Region.ready md ops listed = [] /\ Q .normal a w
 | fuel + 1, listed, a, w =>
  (Region.ready md ops listed = [] -> Q .normal a w) /\
  ∀ i ∈ Region.ready md ops listed, wpOpIn F n P ops Q i (fun a' w' => S w' /\ wpAnyS F n P md ops Q S fuel (listed.setIfInBounds i true) a' w') a w
theorem wpAnyIn_of_S : ∀ (fuel : Nat) (listed : Array Bool) (a : Act) (w : World), wpAnyS F n P md ops Q S fuel listed a w -> wpAnyIn F n P md ops Q fuel listed a w
 | 0, _, _, _, h => h
 | fuel + 1, _, _, _, h => ⟨h.1, fun i hi => wpOpIn_mono (fun a' w' h' => wpAnyIn_of_S fuel _ a' w' h'.2) (h.2 i hi)⟩
theorem wpAnyS_first {i : Nat} {oi : Oper} {v : Value} (hro : F.round = none) (hi : ops[i]? = some oi) (hsel : ∀ (j : Nat) (o : Oper) cs b, ops[j]? = some o -> o.op ≠ .select cs b)
  (hQ : ∀ c a w, Q (.panic c) (a.put oi.dst v) w -> Q (.panic c) a w) :
  ∀ (fuel : Nat) (listed : Array Bool) (a : Act) (w : World),
   (∀ j oj, ops[j]? = some oj -> j ≠ i -> listed.getD j true = false -> (∀ e ∈ oj.after, Region.binds md e = true -> e.on ≠ i) -> oi.apart ops oj = true) ->
   i ∈ Region.ready md ops listed -> YieldsS P ops S oi v a -> S w ->
   wpAnyS F n P md ops Q S fuel (listed.setIfInBounds i true) (a.put oi.dst v) w -> wpAnyS F n P md ops Q S (fuel + 1) listed a w := by
 intro fuel
 induction fuel with
 | zero =>
  intro listed a w _ hr hy hS H;refine ⟨fun h => (by rw [h] at hr; cases hr), fun j hj => ?_⟩
  by_cases hji : j = i
  ·subst hji; exact hy.wpOpIn hro hi hS ⟨hS, H⟩
  have := ready_mono hj hji;rw [H.1] at this
  cases this
 | succ fuel ih =>
  intro listed a w hfree hr hy hS H;refine ⟨fun h => (by rw [h] at hr; cases hr), fun j hj => ?_⟩
  by_cases hji : j = i
  ·subst hji; exact hy.wpOpIn hro hi hS ⟨hS, H⟩
  have h1 := H.2 j (ready_mono hj hji);obtain ⟨hjun, oj, hoj, hall⟩ := mem_ready.1 hj;have h2 := wpOpIn_putS hro hoj (hfree j oj hoj hji hjun (not_waits (i := i) (j := j) hr hall)) (fun cs b => hsel i oi cs b hi) (fun cs b => hsel j oj cs b hoj) hQ hy h1
  have hfree' : ∀ k ok, ops[k]? = some ok -> k ≠ i -> (listed.setIfInBounds j true).getD k true = false ->
    (∀ e ∈ ok.after, Region.binds md e = true -> e.on ≠ i) -> oi.apart ops ok = true := fun k ok hk hki hun hno => by
   refine hfree k ok hk hki ?_ hno
   by_cases hjk : j = k
   ·subst hjk; exact hjun
   rw [getD_set_ne true hjk] at hun; exact hun
  refine wpOpIn_mono (fun a' w' h3 => ⟨h3.2.1, ih (listed.setIfInBounds j true) a' w' hfree' (ready_mono hr (Ne.symm hji)) h3.1 h3.2.1 ?_⟩) h2;rw [Array.setIfInBounds_comm _ _ hji]
  exact h3.2.2
theorem wpAnyS_take {i : Nat} {oi : Oper} {v : Value} {fuel : Nat} {listed : Array Bool} {a : Act} {w : World} (hro : F.round = none) (hi : ops[i]? = some oi)
  (hs : Region.noSelect ops = true) (hf : Region.free md ops listed i = true) (hr : (Region.ready md ops listed).contains i = true)
  (hQ : ∀ c a w, Q (.panic c) (a.put oi.dst v) w -> Q (.panic c) a w) (hy : YieldsIf P ops S oi v a) (hab : ∀ w, oi.about P w a.eval = none) (hS : S w)
  (h : wpAnyS F n P md ops Q S fuel (listed.setIfInBounds i true) (a.put oi.dst v) w) : wpAnyS F n P md ops Q S (fuel + 1) listed a w :=
 wpAnyS_first hro hi (Region.noSelect_spec hs) hQ fuel listed a w (Region.free_spec hi hf) (by simpa using hr) ⟨hy, hab⟩ hS h
theorem tks (i : Nat) {oi : Oper} {v : Value} {fuel : Nat} {listed : Array Bool} {a : Act} {w : World} (hro : F.round = none) (hi : ops[i]? = some oi) (hS : S w)
  (h : wpAnyS F n P md ops Q S fuel (listed.setIfInBounds i true) (a.put oi.dst v) w)
  (hw : Region.wanted oi (yielded ops a.tmps) = true := by rfl)
  (hy : ∀ w, S w -> (execOp a.eval oi).run P w = .ok (.value v) w := by (intro wz hSw; (try dsimp only at hSw); go_simp; try (with_reducible rfl)))
  (hab : ∀ w, oi.about P w a.eval = none := by exact fun _ => rfl)
  (hs : Region.noSelect ops = true := by kernel_rfl) (hf : Region.free md ops listed i = true := by kernel_rfl) (hr : (Region.ready md ops listed).contains i = true := by kernel_rfl)
  (hQ : ∀ c a w, Q (.panic c) (a.put oi.dst v) w -> Q (.panic c) a w := by exact fun _ _ _ h => h) : wpAnyS F n P md ops Q S (fuel + 1) listed a w :=
 wpAnyS_take hro hi hs hf hr hQ (Or.inl ⟨hw, hy⟩) hab hS h
theorem wpAnyS_one {i : Nat} {o : Oper} {fuel : Nat} {listed : Array Bool} {a : Act} {w : World} (hr : Region.ready md ops listed = [i]) (ho : ops[i]? = some o)
  (h : ∀ K' : Act -> World -> Prop, Shut (∀ a w, S w -> wpAnyS F n P md ops Q S fuel (listed.setIfInBounds i true) a w -> K' a w) -> if Region.wanted o (yielded ops a.tmps) = true then Oper.wpIn F n P o a w K' Q else (∀ f, o.about P w a.eval = some f -> F.fn f) /\ K' (a.put o.dst undef) w) : wpAnyS F n P md ops Q S (fuel + 1) listed a w := by
 refine ⟨fun h0 => (by rw [hr] at h0; cases h0), fun j hj => ?_⟩;rw [hr] at hj
 rcases List.mem_cons.1 hj with rfl | hj
 ·exact wpOpIn_step ho (fun K' hK => h K' (fun a w hS hW => hK a w ⟨hS, hW⟩))
 cases hj
theorem wpAnyS_done {listed : Array Bool} {a : Act} {w : World} (hr : Region.ready md ops listed = []) (h : Q .normal a w) : ∀ fuel, wpAnyS F n P md ops Q S fuel listed a w
 | 0 => ⟨hr, h⟩
 | _ + 1 => ⟨fun _ => h, by rw [hr]; simp⟩
theorem wpIn_region_S {id : Nat} {a : Act} {w : World} (S : World -> Prop) (hm : P.follows .mixedOrders = true)
  (h : wpAnyS F n P .any ops Q S ops.size (Array.replicate ops.size false) a w.drew) : (Code.region id ops true).wpIn F n P Q a w :=
 wpIn_region_any hm (wpAnyIn_of_S _ _ _ _ h)
end
section
variable {P : Program} {n : Nat} {α : Type}
def roundOn (B : Nat) (Kp : World -> World -> Prop) (I : List α -> World -> Prop) (xs : List α) (W : World) : Exit -> Act -> World -> Prop
 | .normal, _, W' => KeepsFrom B W W' /\ Kp W W' /\ I xs W'
 | _, _, _ => False
theorem wpIn_rows {g : Operand} {ps : Array Tmp} {assign body : Code} {Q : Exit -> Act -> World -> Prop} {a : Act} {gf : Nat} {lb : Array Value}
  (hg : a.eval g = .func (.func gf) #[] lb) (eg : ∀ args w, (callFunc gf args).run P w = .ok (.enter gf args) w)
  {encs : α -> Array Value} (hps : ∀ x, (encs x).size = ps.size) (A : List α -> α -> World -> Prop) (Kp : World -> World -> Prop) (Sx : List α -> Prop) (I : List α -> World -> Prop)
  (hI : ∀ pre X Y, I pre X -> Below X.heap.size X Y -> I pre Y) (hIb : ∀ pre X l r r', I pre X -> X.heap[l]? = some (.loop r) -> w.heap.size < l -> I pre (X.putObj l (.loop r')))
  (hKb : ∀ X l r r', X.heap[l]? = some (.loop r) -> Kp X (X.putObj l (.loop r'))) (hKt : ∀ X Y Z, Kp X Y -> Kp Y Z -> Kp X Z) (h0 : I [] w)
  (hseq : ∀ (l : Nat) (J : List α -> World -> Prop) (W : World), (∀ pre X Y, J pre X -> Below X.heap.size X Y -> J pre Y) -> Below w.heap.size w W -> J [] W ->
   (∀ m pre x X, J pre X -> A pre x X -> YieldAt Fence.wide m P l (encs x) X fun e Y => e = .returned (.bool true) /\ J (pre ++ [x]) Y /\ Kp X Y) ->
   CallsIn Fence.wide (n - 1) P gf (#[.func (.yield l) #[] #[]] ++ lb) W fun e Y => (∃ v, e = .returned v) /\ ∃ xs, Sx xs /\ J xs Y)
  (hround : ∀ (m l : Nat) (pre : List α) (x : α) (X : World) (r : Loop), I pre X -> A pre x X -> X.heap[l]? = some (.loop r) -> w.heap.size < l ->
   assign.wpIn (Fence.wide.inRound l) m P (Exit.then (fun a' Y => KeepsFrom w.heap.size X Y /\ Kp X Y /\ body.wpIn (Fence.wide.inRound l) m P (roundOn w.heap.size Kp I (pre ++ [x]) (Y.putObj l (.loop { r with state := .busy }))) a' (Y.putObj l (.loop { r with state := .busy }))) (fun _ _ _ => False))
    { tmps := (ps.zip (encs x)).foldl (fun t (p, v) => t.setIfInBounds p v) a.tmps, defers := [] } X)
  (hdone : ∀ (D : Nat) (xs : List α) (W : World), w.heap.size <= D -> Sx xs -> I xs W -> W.heap[D]? = some (.deferred (some [])) -> Q .normal { a with defers := { target := .collected D, args := #[] } :: a.defers } W) :
  (Code.rangeFunc g ps assign body).wpIn Fence.wide n P Q a w := by
 refine wpIn_rangeFunc ?_;intro fn _;obtain ⟨r0, hr0⟩ : ∃ r0 : Loop, r0 = { state := .ready, pending := none, fn, tmps := a.tmps, params := ps, assign, body, defers := w.heap.size } := ⟨_, rfl⟩
 obtain ⟨W1, hW1⟩ : ∃ W1, W1 = (w.alloc (.deferred (some []))).alloc (.loop r0) := ⟨_, rfl⟩
 have b1 : Below w.heap.size w W1 := by rw [hW1]; exact ((Below.refl _ w).alloc (qE _) _).alloc (by simp) _
 have hL : W1.heap[w.heap.size + 1]? = some (.loop r0) := by
  rw [hW1]; have := World.alloc_heap_new (w.alloc (.deferred (some []))) (.loop r0); rwa [World.size_alloc] at this
 have hD : W1.heap[w.heap.size]? = some (.deferred (some [])) := by
  rw [hW1]; exact (Below.heap_alloc _ _ _ (by simp)).trans (World.alloc_heap_new w _)
 refine ⟨w.heap.size + 1, [{ target := .collected w.heap.size, args := #[] }], W1, { target := .fn (.func gf) lb, args := #[.func (.yield (w.heap.size + 1)) #[] #[]] }, W1, gf, #[.func (.yield (w.heap.size + 1)) #[] #[]] ++ lb, W1, ?_, ?_, ?_, ?_, ?_, ?_⟩
 ·rw [hW1, hr0]; exact run_enterLoop_outer _ _ _ _ _
 ·simp only [resolve, hg];simp [go_sem]
 ·intro f' _; trivial
 ·simp [invoke, go_sem, eg]
 ·intro h; simp [Fence.wide] at h
 refine (hseq (w.heap.size + 1) (fun pre W => I pre W /\ W.heap[w.heap.size + 1]? = some (.loop r0) /\ W.heap[w.heap.size]? = some (.deferred (some []))) W1 ?_ b1 ⟨hI _ _ _ h0 b1, hL, hD⟩ ?_).mono ?_
 ·rintro pre X Y ⟨i1, i2, i3⟩ hb
  exact ⟨hI _ _ _ i1 hb, (hb.block _ (Array.getElem?_eq_some_iff.1 i2).1).trans i2, (hb.block _ (Array.getElem?_eq_some_iff.1 i3).1).trans i3⟩
 ·rintro m pre x X ⟨i1, i2, i3⟩ hA;have hy := run_yield (P := P) (args := encs x) i2 (by rw [hr0]; exact hps x);rw [hr0] at hy;refine ⟨fn, _, assign, body, hy, roundIn_of_wpIn trivial (wpIn_mono (hround m _ pre x X r0 i1 hA i2 (by omega)) ?_)⟩;rintro e a' Y hp
  cases e with
  | normal =>
   obtain ⟨k1, k2, hb⟩ := hp;have j2 := k1.same _ _ (by omega) i2 rfl;have j3 := k1.same _ _ (qE _) i3 rfl;refine ⟨_, run_beginRound j2 (by rw [hr0]), wpIn_mono hb ?_⟩;rintro e a'' Z hq
   cases e with
   | normal =>
    obtain ⟨q1, q2, q3⟩ := hq;have hl : w.heap.size + 1 < Y.heap.size := (Array.getElem?_eq_some_iff.1 j2).1;have m2 := q1.same _ _ (by omega) (World.putObj_heap_same (o := .loop { r0 with state := .busy }) hl) rfl;have m3 := q1.same _ _ (qE _) ((World.putObj_heap_other (by omega)).trans j3) rfl;have hz : w.heap.size + 1 < Z.heap.size := (Array.getElem?_eq_some_iff.1 m2).1;refine ⟨_, _, run_endRound none m2, rfl, ⟨hIb _ _ _ _ _ q3 m2 (by omega), ?_, (World.putObj_heap_other (by omega)).trans m3⟩, hKt _ _ _ (hKt _ _ _ (hKt _ _ _ k2 (hKb _ _ _ _ j2)) q2) (hKb _ _ _ _ m2)⟩;rw [World.putObj_heap_same hz, hr0]
    rfl
   | ret => exact hq.elim
   | exit id => exact hq.elim
   | goto t => exact hq.elim
   | panic c => exact hq.elim
   | outgrown => exact hq.elim
  | ret => exact hp.elim
  | exit id => exact hp.elim
  | goto t => exact hp.elim
  | panic c => exact hp.elim
  | outgrown => exact hp.elim
 rintro e W2 ⟨⟨v, rfl⟩, xs, hS, i1, i2, i3⟩
 exact ⟨none, _, by have := run_endLoop (P := P) i2 (by rw [hr0]; simp); rw [hr0] at this; rw [hr0] at i2; exact this, hdone _ xs _ (qE _) hS (hIb _ _ _ _ _ i1 i2 (by omega)) ((World.putObj_heap_other (by omega)).trans i3)⟩
end
end Go.Proofs.YtdaiaohlkdolmaaGreat
