/-
  Lemmas that the claim's last text rests on.
-/
import Derived.Test.YtpmihhbgjimpmaaGreatDoorRows
import Derived.WalkKit
import Derived.ProofKit
import Derived.OpenShut
import Derived.ShutString
import Derived.ChangeOld
import Derived.Below
import Derived.BigQuiet
import Derived.Deep.QuietTactic
import Derived.Deep.RegionWith
import Derived.WalkLawsBesides
import Derived.WalkSpells
import Derived.Deep.AppendLies
import Derived.Lib.SliceRun
import Derived.Deep.DeepCutAuto
import Derived.BigRegion
import Derived.Deep.RegionHeld3
namespace Go.Proofs.YtpmihhbgjimpmaaGreatDoor
open Go.RowKit
open Option.some renaming injEq → qA
open Addr.mk renaming injEq → qB
open List renaming set_cons_zero → qC, getElem?_eq_getElem → qD, getElem?_cons_zero → qE, getElem?_cons_succ → qF, take_of_length_le → qG, take_succ_eq_append_getElem → qH
open Nat renaming le_refl → qI, zero_le → qJ
set_option linter.unusedVariables false
set_option maxRecDepth 100000
set_option maxHeartbeats 25600000
variable {B B' cap k n : Nat} {K M c hi l lo m : Int} {S : Nat -> Prop} {W W' w w' : World} {a : Option Addr} {t : TypeId} {v v0 v1 v2 : Value} {vs : List Value} {xs ys zs : List Int}
theorem btr {v u : World} (h : Below w.heap.size w v) (k : Below v.heap.size v u) : Below w.heap.size w u := h.trans (k.mono h.size)
theorem bal {o : Obj} : Below w.heap.size w (w.alloc o) := (Below.refl _ _).alloc (qI _) _
def Ints (w : World) (a : Option Addr) (n : Nat) (zs : List Int) : Prop :=
 zs.length = n /\ ∀ i, i < n -> ∃ b off, a = some ⟨b, off, none⟩ /\ w.cell? ⟨b, off + i, none⟩ = some (.int .i64 (zs.getD i 0))
def Blk (w : World) (B : Nat) (zs : List Int) : Prop := w.heap[B]? = some (.cells (zs.map (Value.int .i64)).toArray 3 (0, 0))
theorem Ints.pos (h : Ints w a n zs) (hn : 0 < n) :
  ∃ b off, a = some ⟨b, off, none⟩ /\ ∀ i, i < n -> w.cell? ⟨b, off + i, none⟩ = some (.int .i64 (zs.getD i 0)) := by
 obtain ⟨b, off, hab, _⟩ := h.2 0 hn;refine ⟨b, off, hab, fun i hi => ?_⟩;obtain ⟨b', off', hab', hc⟩ := h.2 i hi;rw [hab] at hab';simp only [qA, qB, and_true] at hab';obtain ⟨rfl, rfl⟩ := hab'
 exact hc
theorem block_lt {b off : Nat} (h : w.cell? ⟨b, off, none⟩ = some v) : b < w.heap.size := by
 apply Classical.byContradiction
 intro hn;have : w.heap[b]? = none := by simp; omega
 simp [World.cell?, this] at h
theorem Ints.below (h : Ints w a n zs) (hb : Below w.heap.size w w') : Ints w' a n zs := by
 refine ⟨h.1, fun i hi => ?_⟩;obtain ⟨b, off, hab, hc⟩ := h.2 i hi
 exact ⟨b, off, hab, by rw [hb.cell (p := ⟨b, off + i, none⟩) (block_lt hc)]; exact hc⟩
theorem Blk.lt (h : Blk w B zs) : B < w.heap.size := lt_of_block h
theorem Blk.cell (h : Blk w B zs) (i : Nat) (hi : i < zs.length) : w.cell? ⟨B, i, none⟩ = some (.int .i64 (zs.getD i 0)) := by
 unfold Blk at h;simp [World.cell?, h, hi]
theorem Blk.free (h : Blk w B zs) (i : Nat) : w.frozen? ⟨B, i, none⟩ = false := by
 unfold Blk at h;simp [World.frozen?, h]
theorem Blk.ints (h : Blk w B zs) : Ints w (some ⟨B, 0, none⟩) zs.length zs :=
 ⟨rfl, fun i hi => ⟨B, 0, rfl, by simpa using h.cell i hi⟩⟩
theorem Blk.ints' (h : Blk w B zs) (hn : zs.length = n) : Ints w (some ⟨B, 0, none⟩) n zs := hn ▸ h.ints
theorem Blk.below (h : Blk w B zs) (hb : Below w.heap.size w w') : Blk w' B zs := by
 unfold Blk at *;rw [hb.block B (lt_of_block h)]; exact h
theorem Blk.set (h : Blk w B zs) (i : Nat) (x : Int) : Blk (w.setCell ⟨B, i, none⟩ (.int .i64 x)) B (zs.set i x) := by
 unfold Blk at *;have := heap_setCell_same w B i _ _ (.int .i64 x) h;rw [this];simp [List.map_set]
theorem Blk.setOther (h : Blk w B zs) (hne : B ≠ B') (i : Nat) (x : Value) : Blk (w.setCell ⟨B', i, none⟩ x) B zs := by
 unfold Blk at *;rw [Below.heap_setCell _ _ _ _ hne]; exact h
theorem Blk.made (w : World) (n : Nat) (o : World) (h : o.ownsRow w.heap.size 3 1 (.slice (some ⟨w.heap.size, 0, none⟩) n n) n (madeCells (Value.cells (.int .i64 0)) (n * 1)).toList) : Blk o w.heap.size (List.replicate n 0) := by
 rcases h.2 with ⟨h', _⟩ | ⟨g', cap', cur, h', _, hg, _, _, hcs, htake⟩
 ·simp at h'
 simp only [Value.slice.injEq, qA, qB, and_true, true_and] at h';obtain ⟨rfl, rfl⟩ := h';unfold Blk;rw [hg]
 have hcur : cur.toList = (List.replicate n (Value.int .i64 0)) := by
  rw [qG (by simp [hcs])] at htake;rw [htake];simpa [Value.cells] using toList_madeCells_one (.int .i64 0) n
 have : cur = (List.replicate n (Value.int .i64 0)).toArray := by
  rw [<- hcur]
 rw [this];simp
def inB (n lo hi : Int) : Bool := decide (lo <= n /\ n <= hi)
theorem inB_iff {n : Int} : inB n lo hi = true ↔ lo <= n /\ n <= hi := by simp [inB]
theorem inB_not {n : Int} : inB n lo hi = false ↔ ¬ (lo <= n /\ n <= hi) := by rw [<- inB_iff]; simp
def allB (m : Int) (zs : List Int) : Bool := zs.all fun n => inB n (-m) m
def okN (c m : Int) (n : Nat) (zs : List Int) : Bool := decide ((n : Int) = c) && allB m zs
theorem okN_not (h : ¬ (n : Int) = c) : okN c m n zs = false := by simp [okN, h]
theorem okN_is (h : (n : Int) = c) : okN c m n zs = allB m zs := by simp [okN, h]
theorem allB_take_succ (m : Int) (zs : List Int) (k : Nat) (h : k < zs.length) : allB m (zs.take (k + 1)) = (allB m (zs.take k) && inB (zs[k]?.getD 0) (-m) m) := by
 unfold allB;rw [qH h, List.all_append];rw [qD h];simp only [List.all_cons, List.all_nil, Bool.and_true, Option.getD_some]
theorem allB_step (h : k < zs.length) (h1 : allB m (zs.take k) = true) (h2 : inB (zs[k]?.getD 0) (-m) m = true) : allB m (zs.take (k + 1)) = true := by
 rw [allB_take_succ m zs k h, h1, h2]; rfl
theorem allB_end (h : zs.length <= k) (h1 : allB m (zs.take k) = true) : allB m zs = true := by
 rwa [qG h] at h1
theorem allB_false (h : k < zs.length) (hn : inB (zs[k]?.getD 0) (-m) m = false) : allB m zs = false := by
 unfold allB;rw [List.all_eq_false];refine ⟨zs[k], List.getElem_mem h, ?_⟩;rw [qD h] at hn;simpa using hn
def eqB (xs ys : List Int) : Bool := decide (xs = ys)
theorem eqB_refl (xs : List Int) : eqB xs xs = true := by simp [eqB]
theorem take_same_succ (h1 : k < xs.length) (h2 : k < ys.length) (h : xs.take k = ys.take k) (he : xs[k]?.getD 0 = ys[k]?.getD 0) : xs.take (k + 1) = ys.take (k + 1) := by
 rw [qH h1, qH h2, h];rw [qD h1, qD h2] at he;simp only [Option.getD_some] at he;rw [he]
theorem eqB_true (h1 : xs.length = n) (h2 : ys.length = n) (hk : n <= k) (h : xs.take k = ys.take k) : eqB xs ys = true := by
 rw [qG (by omega), qG (by omega)] at h;simp [eqB, h]
theorem eqB_false (he : xs[k]?.getD 0 ≠ ys[k]?.getD 0) : eqB xs ys = false := by
 simp only [eqB, decide_eq_false_iff_not];intro h
 exact he (by rw [h])
theorem eqB_len (h : xs.length ≠ ys.length) : eqB xs ys = false := by
 simp only [eqB, decide_eq_false_iff_not];intro e
 exact h (by rw [e])
def upTo (zs : List Int) (n k : Nat) : List Int := zs.take k ++ List.replicate (n - k) 0
theorem upTo_zero (zs : List Int) (n : Nat) : upTo zs n 0 = List.replicate n 0 := by simp [upTo]
theorem upTo_len (h : zs.length = n) (hk : k <= n) : (upTo zs n k).length = n := by simp [upTo]; omega
theorem upTo_end (h : zs.length = n) (hk : n <= k := by omega) : upTo zs n k = zs := by
 unfold upTo;rw [qG (by omega), Nat.sub_eq_zero_of_le hk]; simp
theorem upTo_succ (h : zs.length = n) (hk : k < n) : (upTo zs n k).set k (zs[k]?.getD 0) = upTo zs n (k + 1) := by
 unfold upTo;have hl : (zs.take k).length = k := by simp; omega
 rw [List.set_append_right _ _ (by omega), hl, Nat.sub_self];rw [qH (by omega), qD (by omega)];have : n - k = (n - (k + 1)) + 1 := by omega
 rw [this, List.replicate_succ];simp only [qC, Option.getD_some, List.append_assoc, List.cons_append, List.nil_append]
theorem ret_bool {a b : Bool} (h : a = b) : Ending.returned (.bool a) = .returned (.bool b) := by rw [h]
theorem ret_int {k : IntKind} {a b : Int} (h : a = b) : Ending.returned (.int k a) = .returned (.int k b) := by rw [h]
theorem own : ownKnob Tryz.prog.godebug = none := by kernel_rfl
theorem laidOut : laidOutB Tryz.prog = true := by kernel_rfl
theorem Ints.alloc (h : Ints w a n zs) (o : Obj) : Ints (w.alloc o) a n zs := h.below (bal)
def formB (n m : Nat) (C D : List Int) (K : Int) : Bool := okN 3 10000000 n C && okN 2 10000000 m D && inB K (-10000000) 10000000
def leftOf (l : Int) (n : Nat) : Int := if l < 0 then -1 else if l < n then -1 else l - n
theorem leftOf_neg (h : l < n) : leftOf l n = -1 := by unfold leftOf; by_cases h0 : l < 0 <;> simp [h0, h]
theorem leftOf_pos (h : (n : Int) <= l) : leftOf l n = l - n := by unfold leftOf; rw [if_neg (by omega), if_neg (by omega)]
theorem leftOf_below (h : l < 0) : leftOf l n = -1 := by unfold leftOf; rw [if_pos h]
theorem leftOf_ge (l : Int) (n : Nat) : -1 <= leftOf l n := by unfold leftOf; split <;> (try split) <;> omega
theorem leftOf_le (h : 0 <= leftOf l n) : (n : Int) <= l /\ leftOf l n <= l := by
 unfold leftOf at *; split at h <;> (try split at h) <;> simp_all <;> omega
abbrev formV (a : Option Addr) (n cap : Nat) (c : Option Addr) (m cap' : Nat) (K : Int) : Value := .agg #[.slice a n cap, .slice c m cap', .int .i64 K]
theorem allB_one (m x : Int) : allB m [x] = inB x (-m) m := by simp [allB]
theorem below_of_drew (h : Below B w.drew w') : Below B w w' := ⟨h.os, h.tape, h.output, h.size, h.block⟩
theorem size_setCell (w : World) (a : Addr) (v : Value) : (w.setCell a v).heap.size = w.heap.size := by simp [World.setCell]
def Cel (w : World) (B : Nat) (vs : List Value) (t : TypeId) : Prop := w.heap[B]? = some (.cells vs.toArray t (0, 0))
theorem Cel.lt (h : Cel w B vs t) : B < w.heap.size := lt_of_block h
theorem Cel.cell (h : Cel w B vs t) (i : Nat) : w.cell? ⟨B, i, none⟩ = vs[i]? := by
 unfold Cel at h;simp [World.cell?, h]
theorem Cel.free (h : Cel w B vs t) (i : Nat) : w.frozen? ⟨B, i, none⟩ = false := by
 unfold Cel at h;simp [World.frozen?, h]
theorem Cel.below (h : Cel w B vs t) (hb : Below w.heap.size w w') : Cel w' B vs t := by
 unfold Cel at *;rw [hb.block B (lt_of_block h)]; exact h
theorem Cel.set (h : Cel w B vs t) (i : Nat) (x : Value) : Cel (w.setCell ⟨B, i, none⟩ x) B (vs.set i x) t := by
 unfold Cel at *;rw [heap_setCell_same w B i _ _ x h];simp
theorem Cel.setOther (h : Cel w B vs t) (hne : B ≠ B') (i : Nat) (x : Value) : Cel (w.setCell ⟨B', i, none⟩ x) B vs t := by
 unfold Cel at *;rw [Below.heap_setCell _ _ _ _ hne]; exact h
theorem Cel.new (w : World) (vs : List Value) (t : TypeId) : Cel (w.alloc (.cells vs.toArray t)) w.heap.size vs t := heap_alloc_new w _
theorem Cel.alloc (h : Cel w B vs t) (o : Obj) : Cel (w.alloc o) B vs t := h.below (bal)
theorem Blk.alloc (h : Blk w B zs) (o : Obj) : Blk (w.alloc o) B zs := h.below (bal)
theorem Blk.so (h : Blk w B zs) {i : Nat} {x : Value} (hne : B ≠ B' := by omega) : Blk (w.setCell ⟨B', i, none⟩ x) B zs := h.setOther hne i x
theorem Cel.so (h : Cel w B vs t) {i : Nat} {x : Value} (hne : B ≠ B' := by omega) : Cel (w.setCell ⟨B', i, none⟩ x) B vs t := h.setOther hne i x
theorem Cel.c1 (h : Cel w B [v0] t) : w.cell? ⟨B, 0, none⟩ = some v0 := h.cell 0
theorem Cel.c2 (h : Cel w B [v0, v1] t) : w.cell? ⟨B, 0, none⟩ = some v0 /\ w.cell? ⟨B, 1, none⟩ = some v1 := ⟨h.cell 0, h.cell 1⟩
theorem Cel.c3 (h : Cel w B [v0, v1, v2] t) : w.cell? ⟨B, 0, none⟩ = some v0 /\ w.cell? ⟨B, 1, none⟩ = some v1 /\ w.cell? ⟨B, 2, none⟩ = some v2 := ⟨h.cell 0, h.cell 1, h.cell 2⟩
theorem Cel.c4 {v3 : Value} (h : Cel w B [v0, v1, v2, v3] t) : w.cell? ⟨B, 0, none⟩ = some v0 /\ w.cell? ⟨B, 1, none⟩ = some v1 /\ w.cell? ⟨B, 2, none⟩ = some v2 /\ w.cell? ⟨B, 3, none⟩ = some v3 := ⟨h.cell 0, h.cell 1, h.cell 2, h.cell 3⟩
theorem Cel.c6 {v3 v4 v5 : Value} (h : Cel w B [v0, v1, v2, v3, v4, v5] t) : w.cell? ⟨B, 0, none⟩ = some v0 /\ w.cell? ⟨B, 1, none⟩ = some v1 /\ w.cell? ⟨B, 2, none⟩ = some v2 /\ w.cell? ⟨B, 3, none⟩ = some v3 /\ w.cell? ⟨B, 4, none⟩ = some v4 /\ w.cell? ⟨B, 5, none⟩ = some v5 := ⟨h.cell 0, h.cell 1, h.cell 2, h.cell 3, h.cell 4, h.cell 5⟩
theorem in_any {n : Int} :
  Calls Tryz.prog 47 #[.int .i64 n, .int .i64 lo, .int .i64 hi] w fun e w' => e = .returned (.bool (inB n lo hi)) /\ w' = w := by
 by_cases h1 : lo <= n
 ·by_cases h2 : n <= hi
  ·go_enter Tryz.func47, Tryz.ntmps47
   go_wp2
   go_ret
   exact ⟨ret_bool (by rw [inB_iff.2 ⟨h1, h2⟩]), rfl⟩
  have h2' : hi < n := by omega
  go_enter Tryz.func47, Tryz.ntmps47
  go_wp2
  go_ret
  exact ⟨ret_bool (by rw [inB_not.2 (by omega)]), rfl⟩
 have h1' : n < lo := by omega
 go_enter Tryz.func47, Tryz.ntmps47
 go_wp2
 go_ret
 exact ⟨ret_bool (by rw [inB_not.2 (by omega)]), rfl⟩
theorem all_any (zs : List Int) {c m : Int} {w : World} (h : Ints w a n zs) (hn : n <= 1048576) (hm0 : 0 <= m := by omega) (hm : m <= 1000000000000000 := by omega) :
  Calls Tryz.prog 49 #[.slice a n cap, .int .i64 c, .int .i64 m] w fun e w' => e = .returned (.bool (okN c m n zs)) /\ w' = w := by
 have hz := h.1;have HZ : Hid (zs.length = n) := hz;clear hz
 by_cases hc : (n : Int) = c
 ·subst hc
  go_enter Tryz.func49, Tryz.ntmps49
  go_wp2_with fail
  go_loop [7] (fun i => ∃ k : Nat, k <= n /\ i = .int .i64 k /\ allB m (zs.take k) = true) (fun i => n - (intOf i).toNat)
  case atStart => exact ⟨0, qJ _, rfl, rfl⟩
  case round =>
   obtain ⟨k, hk, rfl, hall⟩ := hrel;have HA : Hid (allB m (zs.take k) = true) := hall;clear hall
   by_cases hlt : k < n
   ·obtain ⟨b, off, rfl, hcell⟩ := h.pos (by omega);have hck := hcell k hlt;clear hcell
    cases hin : inB (zs[k]?.getD 0) (-m) m
    ·go_wp2_with (go_at_call 47; refine (in_any).mono ?_; rintro e w' ⟨rfl, rfl⟩)
     go_ret
     exact ⟨ret_bool (by rw [okN_is rfl, allB_false (by rw [HZ.out]; exact hlt) hin]), rfl⟩
    go_wp2_with (go_at_call 47; refine (in_any).mono ?_; rintro e w' ⟨rfl, rfl⟩)
    go_round
    case rel => exact ⟨k + 1, by omega, by go_num, allB_step (by rw [HZ.out]; exact hlt) HA.out hin⟩
    case measure => simp [intOf]; omega
   go_wp2
   go_ret
   exact ⟨ret_bool (by rw [okN_is rfl, allB_end (by rw [HZ.out]; omega) HA.out]), rfl⟩
 have hne : ((n : Int) != c) = true := by simp [hc]
 go_enter Tryz.func49, Tryz.ntmps49
 go_wp2
 go_ret
 exact ⟨ret_bool (by rw [okN_not hc]), rfl⟩
def betB (lo hi : Int) (zs : List Int) : Bool := zs.all fun n => inB n lo hi
theorem betB_step (h : k < zs.length) (h1 : betB lo hi (zs.take k) = true) (h2 : inB (zs[k]?.getD 0) lo hi = true) : betB lo hi (zs.take (k + 1)) = true := by
 unfold betB at *;rw [qH h, List.all_append, h1];rw [qD h] at h2;simpa using h2
theorem betB_end (h : zs.length <= k) (h1 : betB lo hi (zs.take k) = true) : betB lo hi zs = true := by
 rwa [qG h] at h1
theorem betB_false (h : k < zs.length) (hn : inB (zs[k]?.getD 0) lo hi = false) : betB lo hi zs = false := by
 unfold betB;rw [List.all_eq_false];refine ⟨zs[k], List.getElem_mem h, ?_⟩;rw [qD h] at hn;simpa using hn
theorem between_any (zs : List Int) (lo hi : Int) {w : World} (h : Ints w a n zs) (hn : n <= 1048576) :
  Calls Tryz.prog 85 #[.int .i64 lo, .int .i64 hi, .slice a n cap] w fun e w' => e = .returned (.bool (betB lo hi zs)) /\ w' = w := by
 have hz := h.1;have HZ : Hid (zs.length = n) := hz;clear hz
 go_enter Tryz.func85, Tryz.ntmps85
 go_wp2_with fail
 go_loop [8, 11] (fun _ i => ∃ k : Nat, k <= n /\ i = .int .i64 k /\ betB lo hi (zs.take k) = true) (fun _ i => n - (intOf i).toNat)
 case atStart => exact ⟨0, qJ _, rfl, rfl⟩
 case round =>
  obtain ⟨k, hk, rfl, hall⟩ := hrel;have HA : Hid (betB lo hi (zs.take k) = true) := hall;clear hall
  by_cases hlt : k < n
  ·obtain ⟨b, off, rfl, hcell⟩ := h.pos (by omega);have hck := hcell k hlt;clear hcell
   by_cases h1 : lo <= zs[k]?.getD 0
   ·by_cases h2 : zs[k]?.getD 0 <= hi
    ·go_wp2
     go_round
     case rel => exact ⟨k + 1, by omega, by go_num, betB_step (by rw [HZ.out]; exact hlt) HA.out (inB_iff.2 ⟨h1, h2⟩)⟩
     case measure => simp [intOf]; omega
    go_wp2
    go_ret
    exact ⟨ret_bool (by rw [betB_false (by rw [HZ.out]; exact hlt) (inB_not.2 (by omega))]), rfl⟩
   go_wp2
   go_ret
   exact ⟨ret_bool (by rw [betB_false (by rw [HZ.out]; exact hlt) (inB_not.2 (by omega))]), rfl⟩
  go_wp2
  go_ret
  exact ⟨ret_bool (by rw [betB_end (by rw [HZ.out]; omega) HA.out]), rfl⟩
theorem within_any (a : Option Addr) (n cap : Nat) (zs : List Int) {m : Int} {w : World} (h : Ints w a n zs) (hn : n <= 1048576) (hm0 : 0 <= m := by omega) (hm : m <= 1000000000000000 := by omega) :
  Calls Tryz.prog 72 #[.int .i64 m, .slice a n cap] w fun e w' => e = .returned (.bool (allB m zs)) /\ w' = w := by
 go_enter Tryz.func72, Tryz.ntmps72
 go_wp2_with fail
 refine (between_any zs (-m) m h hn).mono ?_;rintro e w' ⟨rfl, rfl⟩
 go_wp2
 go_ret
 exact ⟨rfl, rfl⟩
theorem place_any {k n : Int} :
  Calls Tryz.prog 138 #[.int .i64 k, .int .i64 n] w fun e w' => e = .returned (.bool (decide (0 <= k /\ k < n))) /\ w' = w := by
 by_cases h1 : 0 <= k
 ·by_cases h2 : k < n
  all_goals
   go_enter Tryz.func138, Tryz.ntmps138
   go_wp2
   go_ret
   exact ⟨ret_bool (by simp; try omega), rfl⟩
 go_enter Tryz.func138, Tryz.ntmps138
 go_wp2
 go_ret
 exact ⟨ret_bool (by simp; try omega), rfl⟩
theorem Tryz.infoInt : (Tryz.prog.info? 3).map (fun i => (i.zero, i.size, i.bytes)) = some (some (.int .i64 0), 1, 8) := by kernel_rfl
theorem sval_any (zs : List Int) {w : World} (h : Ints w a n zs) (hn : n <= 1048576) :
  Calls Tryz.prog 90 #[.slice a n cap] w fun e w' => e = .returned (.bool (okN 3 10000 n zs)) /\ w' = w := by
 go_enter Tryz.func90, Tryz.ntmps90
 go_wp2_with fail
 refine (all_any zs h hn).mono ?_;rintro e w' ⟨rfl, rfl⟩
 go_wp2
 go_ret
 exact ⟨rfl, rfl⟩
theorem sarg_any (a : Option Addr) (n cap : Nat) (zs : List Int) (w : World) (h : Ints w a n zs) (hn : n <= 1048576) :
  Calls Tryz.prog 110 #[.slice a n cap] w fun e w' => e = .returned (.bool (okN 2 9 n zs)) /\ w' = w := by
 go_enter Tryz.func110, Tryz.ntmps110
 go_wp2_with fail
 refine (all_any zs h hn).mono ?_;rintro e w' ⟨rfl, rfl⟩
 go_wp2
 go_ret
 exact ⟨rfl, rfl⟩
theorem ival_any (zs : List Int) {w : World} (h : Ints w a n zs) (hn : n <= 1048576) :
  Calls Tryz.prog 25 #[.slice a n cap] w fun e w' => e = .returned (.bool (okN 3 10000 n zs)) /\ w' = w := by
 by_cases hc : (n : Int) = 3
 ·have hc' : ((n : Int) == 3) = true := by simp [hc]
  have HC : Hid ((n : Int) = 3) := hc;clear hc
  go_enter Tryz.func25, Tryz.ntmps25
  go_wp2_with fail
  refine (within_any _ _ _ zs h hn).mono ?_;rintro e w' ⟨rfl, rfl⟩
  go_wp2
  go_ret
  exact ⟨ret_bool (by rw [okN_is HC.out]), rfl⟩
 have hc' : ((n : Int) == 3) = false := by simpa using hc
 go_enter Tryz.func25, Tryz.ntmps25
 go_wp2
 go_ret
 exact ⟨ret_bool (by rw [okN_not hc]), rfl⟩
theorem iarg_any (zs : List Int) {w : World} (h : Ints w a n zs) (hn : n <= 1048576) :
  Calls Tryz.prog 69 #[.slice a n cap] w fun e w' => e = .returned (.bool (okN 2 9 n zs)) /\ w' = w := by
 by_cases hc : (n : Int) = 2
 ·have hc' : ((n : Int) == 2) = true := by simp [hc]
  have HC : Hid ((n : Int) = 2) := hc;clear hc
  go_enter Tryz.func69, Tryz.ntmps69
  go_wp2_with fail
  refine (within_any _ _ _ zs h hn).mono ?_;rintro e w' ⟨rfl, rfl⟩
  go_wp2
  go_ret
  exact ⟨ret_bool (by rw [okN_is HC.out]), rfl⟩
 have hc' : ((n : Int) == 2) = false := by simpa using hc
 go_enter Tryz.func69, Tryz.ntmps69
 go_wp2
 go_ret
 exact ⟨ret_bool (by rw [okN_not hc]), rfl⟩
theorem sz_any (hn : n <= maxLen) (h0 : 0 <= l) (hl : l <= 1048576) :
  Calls Tryz.prog 74 #[.slice a n cap, .int .i64 l] w fun e w' => e = .returned (.int .i64 (leftOf l n)) /\ w' = w := by
 unfold maxLen at hn
 by_cases h : l < n
 ·go_enter Tryz.func74, Tryz.ntmps74
  go_wp2
  go_ret
  exact ⟨ret_int (by rw [leftOf_neg h]), rfl⟩
 go_enter Tryz.func74, Tryz.ntmps74
 go_wp2
 go_ret
 exact ⟨ret_int (by rw [leftOf_pos (by omega)]), rfl⟩
theorem szF_any {c : Option Addr} {m cap' : Nat} (hn : n <= maxLen) (hm : m <= maxLen) (h0 : 0 <= l) (hl : l <= 1048576) :
  Calls Tryz.prog 166 #[formV a n cap c m cap' K, .int .i64 l] w fun e w' => e = .returned (.int .i64 (leftOf (leftOf l n) m)) /\ Below w.heap.size w w' := by
 have g1 := leftOf_ge l n
 by_cases h : leftOf l n < 0
 ·go_enter Tryz.func166, Tryz.ntmps166
  go_wp2_with fail
  refine (sz_any hn h0 hl).mono ?_;rintro e w1 ⟨rfl, rfl⟩
  go_wp2
  go_ret
  exact ⟨ret_int (by rw [leftOf_below h]), bal⟩
 have h1 : 0 <= leftOf l n := by omega
 have h2 := (leftOf_le h1).2;have g2 := leftOf_ge (leftOf l n) m;clear h
 by_cases h' : leftOf (leftOf l n) m < 0
 ·go_enter Tryz.func166, Tryz.ntmps166
  go_wp2_with fail
  refine (sz_any hn h0 hl).mono ?_;rintro e w1 ⟨rfl, rfl⟩
  go_wp2_with fail
  refine (sz_any hm h1 (by omega)).mono ?_;rintro e w1 ⟨rfl, rfl⟩
  go_wp2
  go_ret
  exact ⟨ret_int (by omega), bal⟩
 go_enter Tryz.func166, Tryz.ntmps166
 go_wp2_with fail
 refine (sz_any hn h0 hl).mono ?_;rintro e w1 ⟨rfl, rfl⟩
 go_wp2_with fail
 refine (sz_any hm h1 (by omega)).mono ?_;rintro e w1 ⟨rfl, rfl⟩
 go_wp2
 go_ret
 exact ⟨ret_int rfl, bal⟩
theorem iok_any (a : Option Addr) {n : Nat} (cap : Nat) (c : Option Addr) {m : Nat} (cap' : Nat) (K : Int) (C D : List Int) {w : World} (hC : Ints w a n C) (hD : Ints w c m D) (hn : n <= 1048576) (hm : m <= 1048576) :
  Calls Tryz.prog 91 #[formV a n cap c m cap' K] w fun e w' => e = .returned (.bool (formB n m C D K)) /\ Below w.heap.size w w' := by
 by_cases h1 : (n : Int) = 3
 ·have h1' : ((n : Int) == 3) = true := by simp [h1]
  have H1 : Hid ((n : Int) = 3) := h1;clear h1
  by_cases h2 : (m : Int) = 2
  ·have h2' : ((m : Int) == 2) = true := by simp [h2]
   have H2 : Hid ((m : Int) = 2) := h2;clear h2
   cases h3 : allB 10000000 C
   ·go_enter Tryz.func91, Tryz.ntmps91
    go_wp2_with fail
    refine (within_any _ _ _ C (hC.alloc _) hn).mono ?_;rintro e w1 ⟨rfl, rfl⟩
    go_wp2
    go_ret
    exact ⟨ret_bool (by simp [formB, okN_is H1.out, h3]), bal⟩
   cases h4 : allB 10000000 D
   ·go_enter Tryz.func91, Tryz.ntmps91
    go_wp2_with fail
    refine (within_any _ _ _ C (hC.alloc _) hn).mono ?_;rintro e w1 ⟨rfl, rfl⟩
    go_wp2_with fail
    refine (within_any _ _ _ D (hD.alloc _) hm).mono ?_;rintro e w1 ⟨rfl, rfl⟩
    go_wp2
    go_ret
    exact ⟨ret_bool (by simp [formB, okN_is H1.out, okN_is H2.out, h3, h4]), bal⟩
   go_enter Tryz.func91, Tryz.ntmps91
   go_wp2_with fail
   refine (within_any _ _ _ C (hC.alloc _) hn).mono ?_;rintro e w1 ⟨rfl, rfl⟩
   go_wp2_with fail
   refine (within_any _ _ _ D (hD.alloc _) hm).mono ?_;rintro e w1 ⟨rfl, rfl⟩
   go_wp2_with fail
   refine (within_any (some ⟨w.heap.size + 1, 0, none⟩) 1 1 [K] ?_ (by omega)).mono ?_
   ·refine ⟨rfl, fun i hi => ⟨w.heap.size + 1, 0, rfl, ?_⟩⟩;obtain rfl : i = 0 := by omega
    simp [go_sem]
   rintro e w1 ⟨rfl, rfl⟩
   go_wp2
   go_ret
   exact ⟨ret_bool (by rw [allB_one]; simp [formB, okN_is H1.out, okN_is H2.out, h3, h4]), (bal).alloc (by simp) _⟩
  have h2' : ((m : Int) == 2) = false := by simpa using h2
  go_enter Tryz.func91, Tryz.ntmps91
  go_wp2
  go_ret
  exact ⟨ret_bool (by simp [formB, okN_not h2]), bal⟩
 have h1' : ((n : Int) == 3) = false := by simpa using h1
 go_enter Tryz.func91, Tryz.ntmps91
 go_wp2
 go_ret
 exact ⟨ret_bool (by simp [formB, okN_not h1]), bal⟩
structure Touch (S : Nat -> Prop) (w w' : World) : Prop where
 os : w'.os = w.os
 tape : w'.tape = w.tape
 output : w'.output = w.output
 size : w.heap.size <= w'.heap.size
 block : ∀ k, k < w.heap.size -> ¬ S k -> w'.heap[k]? = w.heap[k]?
theorem Touch.refl (S : Nat -> Prop) (w : World) : Touch S w w := ⟨rfl, rfl, rfl, qI _, fun _ _ _ => rfl⟩
theorem Touch.of (h : Below w.heap.size w w') : Touch S w w' := ⟨h.os, h.tape, h.output, h.size, fun k hk _ => h.block k hk⟩
theorem Touch.trans {a b c : World} (h : Touch S a b) (k : Touch S b c) : Touch S a c :=
 ⟨k.os.trans h.os, k.tape.trans h.tape, k.output.trans h.output, Nat.le_trans h.size k.size, fun i hi hn => (k.block i (Nat.lt_of_lt_of_le hi h.size) hn).trans (h.block i hi hn)⟩
theorem Touch.mono {T : Nat -> Prop} {a b : World} (h : Touch S a b) (hs : ∀ k, S k -> T k) : Touch T a b := ⟨h.os, h.tape, h.output, h.size, fun i hi hn => h.block i hi (fun hh => hn (hs i hh))⟩
theorem Touch.below (h : Touch S w w') (hB : B <= w.heap.size) (hS : ∀ k, S k -> B <= k) : Below B w w' :=
 ⟨h.os, h.tape, h.output, h.size, fun k hk => h.block k (by omega) (fun hh => by have := hS k hh; omega)⟩
theorem Touch.setCell (h : Touch S w w') {B i : Nat} (hB : S B) (v : Value) : Touch S w (w'.setCell ⟨B, i, none⟩ v) :=
 ⟨h.os, h.tape, h.output, by rw [size_setCell]; exact h.size, fun k hk hn => by rw [Below.heap_setCell _ _ _ _ (fun e => hn (by subst e; exact hB))]; exact h.block k hk hn⟩
def OwnAt (w : World) (a : Option Addr) (B : Nat) (zs : List Int) : Prop := zs = [] \/ (a = some ⟨B, 0, none⟩ /\ Blk w B zs)
theorem OwnAt.ints (h : OwnAt w a B zs) : Ints w a zs.length zs := by
 rcases h with rfl | ⟨rfl, h⟩
 ·exact ⟨rfl, fun i hi => by simp at hi⟩
 exact h.ints
theorem OwnAt.touch (h : OwnAt w a B zs) (hb : Touch S w w') (hn : ¬ S B) : OwnAt w' a B zs := by
 rcases h with rfl | ⟨rfl, h⟩
 ·exact .inl rfl
 exact .inr ⟨rfl, by unfold Blk at *; rw [hb.block B (lt_of_block h) hn]; exact h⟩
theorem Cel.touch (h : Cel w B vs t) (hb : Touch S w w') (hn : ¬ S B) : Cel w' B vs t := by
 unfold Cel at *; rw [hb.block B (lt_of_block h) hn]; exact h
def ramp (k : Int) : Nat -> List Int
 | 0 => []
 | n + 1 => ramp k n ++ [k + n]
def marked (k : Int) (zs : List Int) (i : Nat) : List Int := ramp k i ++ zs.drop i
def Res (w w' : World) (e : Ending) (C D : List Int) (K : Int) : Prop :=
 ∃ a n cap c m cap' B1 B2, e = .returned (formV a n cap c m cap' K) /\ C.length = n /\ D.length = m /\ Below w.heap.size w w' /\ OwnAt w' a B1 C /\ OwnAt w' c B2 D /\ (0 < n -> w.heap.size <= B1) /\ (0 < m -> w.heap.size <= B2) /\ (0 < n -> 0 < m -> B1 ≠ B2)
theorem Res.of {e : Ending} {C D : List Int} {m B1 B2 : Nat} (he : e = .returned (formV (some ⟨B1, 0, none⟩) n n (some ⟨B2, 0, none⟩) m m K)) (hn : C.length = n) (hm : D.length = m)
  (hb : Below w.heap.size w w') (h1 : w.heap.size <= B1) (h2 : B1 ≠ B2) (h3 : w.heap.size <= B2) (k1 : Blk w' B1 C) (k2 : Blk w' B2 D) : Res w w' e C D K :=
 ⟨_, _, _, _, _, _, B1, B2, he, hn, hm, hb, .inr ⟨rfl, k1⟩, .inr ⟨rfl, k2⟩, fun _ => h1, fun _ => h3, fun _ _ => h2⟩
theorem Res.none {e : Ending} (he : e = .returned (formV none 0 0 none 0 0 0)) (hb : Below w.heap.size w w') : Res w w' e [] [] 0 :=
 ⟨_, _, _, _, _, _, 0, 0, he, rfl, rfl, hb, .inl rfl, .inl rfl, fun h => by omega, fun h => by omega, fun h => by omega⟩
structure JA (w : World) (v : Value) (xs : List Int) (W : World) : Prop where
 b : Below w.heap.size w W
 o : W.ownsRow w.heap.size 3 1 v xs.length (xs.map (Value.int .i64))
theorem JA.lit (w : World) : JA w (.slice (some ⟨w.heap.size, 0, none⟩) 0 0) [] (w.alloc (.cells #[] 3)) :=
 ⟨bal, World.ownsRow_lit w #[] 0 (qI _) (by unfold maxLen; omega) rfl⟩
theorem JA.own {v' : Value} (j : JA w v xs W) (o : W'.ownsRow w.heap.size 3 1 v' ys.length (ys.map (Value.int .i64))) (g : W.grownBy W' v.ownBlock) : JA w v' ys W' :=
 ⟨j.b.grown g j.b.size (fun k hk => (j.o.lt k hk).1), o⟩
theorem news1 (w : World) {x : Value} {t : TypeId} : ∀ j u, [x][j]? = some u -> (w.alloc (.cells #[x] t)).cell? ((⟨w.heap.size, 0, none⟩ : Addr).add j) = some u := fun j u hu => by
 match j, hu with
 | 0, hu =>
  simp only [qE, qA] at hu;subst hu;simp [Addr.add]
def OwnX (W : World) (a : Option Addr) (B n : Nat) (zs : List Int) : Prop :=
 zs.length = n /\ (n = 0 \/ (a = some ⟨B, 0, none⟩ /\ ∃ cur : List Value, Cel W B cur 3 /\ ∀ i, i < n -> cur[i]? = some (.int .i64 (zs[i]?.getD 0))))
theorem OwnX.ints (h : OwnX W a B n zs) : Ints W a n zs := by
 refine ⟨h.1, fun i hi => ?_⟩
 rcases h.2 with h0 | ⟨rfl, cur, hc, hv⟩
 ·omega
 refine ⟨B, 0, rfl, ?_⟩;rw [Nat.zero_add, hc.cell i, hv i hi];simp
theorem OwnX.below (h : OwnX W a B n zs) (b : Below W.heap.size W W') : OwnX W' a B n zs := by
 refine ⟨h.1, ?_⟩
 rcases h.2 with h0 | ⟨e, cur, hc, hv⟩
 ·exact .inl h0
 exact .inr ⟨e, cur, hc.below b, hv⟩
theorem OwnX.touch (h : OwnX W a B n zs) (t : Touch S W W') (hn : 0 < n -> ¬ S B) : OwnX W' a B n zs := by
 refine ⟨h.1, ?_⟩
 rcases h.2 with h0 | ⟨e, cur, hc, hv⟩
 ·exact .inl h0
 by_cases h0 : 0 < n
 ·exact .inr ⟨e, cur, hc.touch t (hn h0), hv⟩
 exact .inl (by omega)
theorem OwnX.lt (h : OwnX W a B n zs) (hn : 0 < n) : B < W.heap.size := by
 rcases h.2 with h0 | ⟨e, cur, hc, hv⟩
 ·omega
 exact hc.lt
theorem OwnX.nil (W : World) (a : Option Addr) (B : Nat) : OwnX W a B 0 [] := ⟨rfl, .inl rfl⟩
theorem OwnX.pos (h : OwnX W a B n zs) (hn : 0 < n) : a = some ⟨B, 0, none⟩ /\ (∀ i, i < n -> W.cell? ⟨B, i, none⟩ = some (.int .i64 (zs[i]?.getD 0))) /\ ∀ i, W.frozen? ⟨B, i, none⟩ = false := by
 rcases h.2 with h0 | ⟨rfl, cur, hc, hv⟩
 ·omega
 exact ⟨rfl, fun i hi => by rw [hc.cell i, hv i hi], fun i => hc.free i⟩
theorem JA.ownx (j : JA w v xs W) (hn : xs.length = n) : ∃ a cap B, v = .slice a n cap /\ OwnX W a B n xs /\ (0 < n -> w.heap.size <= B) := by
 subst hn
 rcases j.o.2 with ⟨hv, h⟩ | ⟨g, cap', cur, rfl, hg, hh, hl, _, hs, ht⟩
 ·rw [h];have : xs = [] := List.eq_nil_of_length_eq_zero h;subst this
  exact ⟨none, 0, 0, hv, OwnX.nil _ _ _, fun h => by omega⟩
 refine ⟨some ⟨g, 0, none⟩, cap', g, rfl, ⟨rfl, .inr ⟨rfl, cur.toList, by unfold Cel; simpa using hh, fun i hi => ?_⟩⟩, fun _ => hg⟩;have h1 : (cur.toList.take (xs.length * 1))[i]? = (xs.map (Value.int .i64))[i]? := by rw [ht]
 rw [List.getElem?_take, if_pos (by omega)] at h1;rw [h1];simp [hi]
def bnd (M : Int) (zs : List Int) : Prop := ∀ i : Nat, -M <= zs[i]?.getD 0 /\ zs[i]?.getD 0 <= M
def added (xs ys : List Int) (k : Nat) : List Int := (List.zipWith (· + ·) (xs.take k) (ys.take k)) ++ xs.drop k
theorem added_zero (xs ys : List Int) : added xs ys 0 = xs := by simp [added]
theorem added_end (xs ys : List Int) (k : Nat) (h : xs.length <= k) (h' : ys.length <= k) : added xs ys k = List.zipWith (· + ·) xs ys := by
 unfold added;rw [qG h, qG h', List.drop_eq_nil_of_le h, List.append_nil]
theorem added_len (xs ys : List Int) (k : Nat) (h : xs.length = ys.length) : (added xs ys k).length = xs.length := by simp [added]; omega
theorem added_get (xs ys : List Int) (k : Nat) (h : xs.length = ys.length) (hk : k < xs.length) : (added xs ys k)[k]?.getD 0 = xs[k]?.getD 0 := by
 unfold added;have hl : (List.zipWith (· + ·) (xs.take k) (ys.take k)).length = k := by simp; omega
 rw [List.getElem?_append_right (by omega), hl, Nat.sub_self, List.getElem?_drop];simp
theorem added_succ (xs ys : List Int) (k : Nat) (h : xs.length = ys.length) (hk : k < xs.length) : (added xs ys k).set k (xs[k]?.getD 0 + ys[k]?.getD 0) = added xs ys (k + 1) := by
 unfold added;have hl : (List.zipWith (· + ·) (xs.take k) (ys.take k)).length = k := by simp; omega
 rw [List.set_append_right _ _ (by omega), hl, Nat.sub_self, List.drop_eq_getElem_cons hk, qC];rw [qH hk, qH (by omega), List.zipWith_append (by simp; omega)];simp only [List.zipWith_cons_cons, List.zipWith_nil_left, List.append_assoc, List.cons_append, List.nil_append];rw [qD hk, qD (by omega)]
 rfl
theorem addEach_any (n : Nat) {cap : Nat} (B : Nat) {a c : Option Addr} {cap' : Nat} (xs ys : List Int) (M M' : Int) {w : World} (h : OwnAt w a B xs) (h' : Ints w c n ys) (hne : ∀ b o, c = some ⟨b, o, none⟩ -> b ≠ B)
  (hz : xs.length = n) (hn : n <= 1048576) (hM : bnd M xs) (hM' : bnd M' ys) (hb : M <= 2000000000000000000 := by omega) (hb' : M' <= 2000000000000000000 := by omega) :
  Calls Tryz.prog 129 #[.slice a n cap, .slice c n cap'] w fun e w' => e = .returned (.tuple #[]) /\ Touch (fun x => x = B /\ 0 < n) w w' /\ OwnAt w' a B (List.zipWith (· + ·) xs ys) := by
 have HX : Hid (xs.length = n) := hz;have HY : Hid (ys.length = n) := h'.1;clear hz
 go_enter Tryz.func129, Tryz.ntmps129
 go_wp2_with fail
 go_loopw [4, 5, 8] (fun _ _ i wr => ∃ j : Nat, j <= n /\ i = .int .i64 j /\ Touch (fun x => x = B /\ 0 < n) w wr /\ OwnAt wr a B (added xs ys j)) (fun _ _ i _ => n - (intOf i).toNat)
 case atStart => exact ⟨0, qJ _, rfl, Touch.refl _ _, by rw [added_zero]; exact h⟩
 case round =>
  obtain ⟨j, hj, rfl, ht, ho⟩ := hrel
  by_cases hlt : j < n
  ·rcases ho with ho | ⟨rfl, hbk⟩
   ·have := added_len xs ys j (by rw [HX.out, HY.out]);rw [ho, HX.out] at this;simp at this
    omega
   obtain ⟨b, off, rfl, hcell⟩ := h'.pos (by omega)
   have hck : wr.cell? ⟨b, off + j, none⟩ = some (.int .i64 (ys[j]?.getD 0)) := by
    have h0 := hcell j hlt;have : wr.cell? ⟨b, off + j, none⟩ = w.cell? ⟨b, off + j, none⟩ := World.cell?_of_block (ht.block b (block_lt h0) (fun e => hne b off rfl e.1));rw [this, h0]; simp
   have hco : wr.cell? ⟨B, j, none⟩ = some (.int .i64 (xs[j]?.getD 0)) := by
    have := hbk.cell j (by rw [added_len xs ys j (by rw [HX.out, HY.out]), HX.out]; exact hlt);rw [this];have := added_get xs ys j (by rw [HX.out, HY.out]) (by rw [HX.out]; exact hlt);simp [this]
   have hf := hbk.free j;obtain ⟨m1, m2⟩ := hM j;obtain ⟨m3, m4⟩ := hM' j
   have R : Blk (wr.setCell ⟨B, j, none⟩ (.int .i64 (xs[j]?.getD 0 + ys[j]?.getD 0))) B (added xs ys (j + 1)) := by
    have := hbk.set j (xs[j]?.getD 0 + ys[j]?.getD 0);rwa [added_succ xs ys j (by rw [HX.out, HY.out]) (by rw [HX.out]; exact hlt)] at this
   have R2 : Touch (fun x => x = B /\ 0 < n) w (wr.setCell ⟨B, j, none⟩ (.int .i64 (xs[j]?.getD 0 + ys[j]?.getD 0))) := ht.setCell ⟨rfl, by omega⟩ _;clear h hbk hcell h' hM hM' hne
   go_wp2
   go_roundw
   case rel => exact ⟨j + 1, by omega, by go_num, R2, .inr ⟨rfl, R⟩⟩
   case measure => simp [intOf]; omega
  go_wp2
  go_end0
  obtain rfl : j = n := by omega
  exact ⟨rfl, ht, by rw [added_end xs ys j (by rw [HX.out]; exact qI _) (by rw [HY.out]; exact qI _)] at ho; exact ho⟩
theorem make3 (w : World) : (Instr.makeSlice 24 (.int .i64 3) (.int .i64 3)).run Tryz.prog w = .ok (.slice (some ⟨w.heap.size, 0, none⟩) 3 3) (w.alloc (.cells #[.int .i64 0, .int .i64 0, .int .i64 0] 3)) := by kernel_rfl
theorem make2 (w : World) : (Instr.makeSlice 24 (.int .i64 2) (.int .i64 2)).run Tryz.prog w = .ok (.slice (some ⟨w.heap.size, 0, none⟩) 2 2) (w.alloc (.cells #[.int .i64 0, .int .i64 0] 3)) := by kernel_rfl
theorem four0 (w : World) {o0 o1 o2 o3 : Obj} : ((((w.alloc o0).alloc o1).alloc o2).alloc o3).drew.heap[w.heap.size]? = some o0 := by
 show ((((w.heap.push o0).push o1).push o2).push o3)[w.heap.size]? = some o0
 simp only [Array.getElem?_push, Array.size_push]
 repeat (first | rw [if_pos trivial] | rw [if_neg (by omega)])
theorem four1 (w : World) {o0 o1 o2 o3 : Obj} : ((((w.alloc o0).alloc o1).alloc o2).alloc o3).drew.heap[w.heap.size + 1]? = some o1 := by
 show ((((w.heap.push o0).push o1).push o2).push o3)[w.heap.size + 1]? = some o1
 simp only [Array.getElem?_push, Array.size_push]
 repeat (first | rw [if_pos trivial] | rw [if_neg (by omega)])
theorem four2 (w : World) {o0 o1 o2 o3 : Obj} : ((((w.alloc o0).alloc o1).alloc o2).alloc o3).drew.heap[w.heap.size + 1 + 1]? = some o2 := by
 show ((((w.heap.push o0).push o1).push o2).push o3)[w.heap.size + 1 + 1]? = some o2
 simp only [Array.getElem?_push, Array.size_push]
 repeat (first | rw [if_pos trivial] | rw [if_neg (by omega)])
theorem four3 (w : World) {o0 o1 o2 o3 : Obj} : ((((w.alloc o0).alloc o1).alloc o2).alloc o3).drew.heap[w.heap.size + 1 + 1 + 1]? = some o3 := by
 show ((((w.heap.push o0).push o1).push o2).push o3)[w.heap.size + 1 + 1 + 1]? = some o3
 simp only [Array.getElem?_push, Array.size_push]
 repeat (first | rw [if_pos trivial] | rw [if_neg (by omega)])
theorem fourB (w : World) {o0 o1 o2 o3 : Obj} : Below w.heap.size w ((((w.alloc o0).alloc o1).alloc o2).alloc o3).drew :=
 ((((bal).alloc (by simp) _).alloc (by simp; omega) _).alloc (by simp; omega) _).drew
theorem three1 (w : World) {o0 o1 o2 : Obj} : (((w.alloc o0).alloc o1).alloc o2).heap[w.heap.size + 1]? = some o1 := by
 show (((w.heap.push o0).push o1).push o2)[w.heap.size + 1]? = some o1
 simp only [Array.getElem?_push, Array.size_push]
 repeat (first | rw [if_pos trivial] | rw [if_neg (by omega)])
theorem three2 (w : World) {o0 o1 o2 : Obj} : (((w.alloc o0).alloc o1).alloc o2).heap[w.heap.size + 1 + 1]? = some o2 := by
 show (((w.heap.push o0).push o1).push o2)[w.heap.size + 1 + 1]? = some o2
 simp only [Array.getElem?_push, Array.size_push]
 repeat (first | rw [if_pos trivial] | rw [if_neg (by omega)])
theorem szero_any (w : World) :
  Calls Tryz.prog 172 #[] w fun e w' => ∃ B1 B2, e = .returned (formV (some ⟨B1, 0, none⟩) 3 3 (some ⟨B2, 0, none⟩) 2 2 0) /\ Below w.heap.size w w' /\ w.heap.size <= B1 /\ B1 ≠ B2 /\ w.heap.size <= B2 /\ Blk w' B1 [0, 0, 0] /\ Blk w' B2 [0, 0] := by
 go_enter Tryz.func172, Tryz.ntmps172
 go_wp2
 exact bodyPost_ret (v := formV (some ⟨w.heap.size + 1, 0, none⟩) 3 3 (some ⟨w.heap.size + 1 + 1, 0, none⟩) 2 2 0) (by simp [results, Tryz.results172, go_sem]) rfl ⟨_, _, rfl, ((bal).alloc (by simp) _).alloc (by simp; omega) _, by omega, by omega, by omega, three1 w, three2 w⟩
abbrev Frm := List Int × List Int × Int
def sumC (fs : List Frm) : Nat -> List Int
 | 0 => [0, 0, 0]
 | k + 1 => List.zipWith (· + ·) (sumC fs k) (fs[k]?.getD ([], [], 0)).1
def sumD (fs : List Frm) : Nat -> List Int
 | 0 => [0, 0]
 | k + 1 => List.zipWith (· + ·) (sumD fs k) (fs[k]?.getD ([], [], 0)).2.1
def sumK (fs : List Frm) : Nat -> Int
 | 0 => 0
 | k + 1 => sumK fs k + (fs[k]?.getD ([], [], 0)).2.2
def fits (M : Int) (f : Frm) : Prop := f.1.length = 3 /\ f.2.1.length = 2 /\ bnd M f.1 /\ bnd M f.2.1 /\ -M <= f.2.2 /\ f.2.2 <= M
theorem zip_get (xs ys : List Int) (h : xs.length = ys.length) (i : Nat) : (List.zipWith (· + ·) xs ys)[i]?.getD 0 = xs[i]?.getD 0 + ys[i]?.getD 0 := by
 by_cases hi : i < xs.length
 ·have hy : i < ys.length := by omega
  have hz : i < (List.zipWith (· + ·) xs ys).length := by simp; omega
  rw [qD hi, qD hy, qD hz];simp
 have hy : ys.length <= i := by omega
 have hx : xs.length <= i := by omega
 have hz : (List.zipWith (· + ·) xs ys).length <= i := by simp; omega
 rw [List.getElem?_eq_none hx, List.getElem?_eq_none hy, List.getElem?_eq_none hz]
 rfl
theorem bnd_zip {M' : Int} (h : xs.length = ys.length) (hx : bnd M xs) (hy : bnd M' ys) : bnd (M + M') (List.zipWith (· + ·) xs ys) := by
 intro i;rw [zip_get xs ys h];have := hx i;have := hy i
 omega
theorem sumC_len {fs : List Frm} (h : ∀ i, i < fs.length -> fits M (fs[i]?.getD ([], [], 0))) : ∀ k, k <= fs.length -> (sumC fs k).length = 3
 | 0, _ => rfl
 | k + 1, hk => by
  have ih := sumC_len h k (by omega);have := (h k (by omega)).1;simp [sumC, ih, this]
theorem sumD_len {fs : List Frm} (h : ∀ i, i < fs.length -> fits M (fs[i]?.getD ([], [], 0))) : ∀ k, k <= fs.length -> (sumD fs k).length = 2
 | 0, _ => rfl
 | k + 1, hk => by
  have ih := sumD_len h k (by omega);have := (h k (by omega)).2.1;simp [sumD, ih, this]
theorem bnd_zeros (n : Nat) : bnd 0 (List.replicate n 0) := by
 intro i
 by_cases hi : i < n <;> simp [hi]
theorem sumC_bnd {fs : List Frm} (h : ∀ i, i < fs.length -> fits M (fs[i]?.getD ([], [], 0))) : ∀ k : Nat, k <= fs.length -> bnd (k * M) (sumC fs k)
 | 0, _ => by simpa [sumC] using bnd_zeros 3
 | k + 1, hk => by
  have hf := h k (by omega);have ih := sumC_bnd h k (by omega);have := bnd_zip (by rw [sumC_len h k (by omega), hf.1]) ih hf.2.2.1;have e : ((k + 1 : Nat) : Int) * M = k * M + M := by rw [Int.natCast_add, Int.add_mul]; simp
  rw [e]; exact this
theorem sumD_bnd {fs : List Frm} (h : ∀ i, i < fs.length -> fits M (fs[i]?.getD ([], [], 0))) : ∀ k : Nat, k <= fs.length -> bnd (k * M) (sumD fs k)
 | 0, _ => by simpa [sumD] using bnd_zeros 2
 | k + 1, hk => by
  have hf := h k (by omega);have ih := sumD_bnd h k (by omega);have := bnd_zip (by rw [sumD_len h k (by omega), hf.2.1]) ih hf.2.2.2.1;have e : ((k + 1 : Nat) : Int) * M = k * M + M := by rw [Int.natCast_add, Int.add_mul]; simp
  rw [e]; exact this
theorem sumK_bnd {fs : List Frm} (h : ∀ i, i < fs.length -> fits M (fs[i]?.getD ([], [], 0))) : ∀ k : Nat, k <= fs.length -> -(k * M) <= sumK fs k /\ sumK fs k <= k * M
 | 0, _ => by simp [sumK]
 | k + 1, hk => by
  have hf := (h k (by omega)).2.2.2.2;have ih := sumK_bnd h k (by omega);have e : ((k + 1 : Nat) : Int) * M = k * M + M := by rw [Int.natCast_add, Int.add_mul]; simp
  rw [e];simp only [sumK]
  omega
def FormsAt (w : World) (a : Option Addr) (fs : List Frm) : Prop :=
 ∀ i, i < fs.length -> ∃ b off, a = some ⟨b, off, none⟩ /\ ∃ a' c' cap cap', w.cell? ⟨b, off + i * 3, none⟩ = some (.slice a' 3 cap) /\ w.cell? ⟨b, off + i * 3 + 1, none⟩ = some (.slice c' 2 cap') /\ w.cell? ⟨b, off + i * 3 + 2, none⟩ = some (.int .i64 (fs[i]?.getD ([], [], 0)).2.2) /\
  Ints w a' 3 (fs[i]?.getD ([], [], 0)).1 /\ Ints w c' 2 (fs[i]?.getD ([], [], 0)).2.1
theorem sum_any (a : Option Addr) (N cap : Nat) (fs : List Frm) (M : Int) {w : World} (hN : fs.length = N) (hF : FormsAt w a fs) (hfit : ∀ i, i < fs.length -> fits M (fs[i]?.getD ([], [], 0))) (hM0 : 0 <= M := by omega) (hN1 : N <= 1000 := by omega) (hM : M <= 1000000000000000 := by omega) :
  Calls Tryz.prog 92 #[.slice a N cap] w fun e w' => ∃ B1 B2, e = .returned (formV (some ⟨B1, 0, none⟩) 3 3 (some ⟨B2, 0, none⟩) 2 2 (sumK fs N)) /\ Below w.heap.size w w' /\ w.heap.size <= B1 /\ B1 ≠ B2 /\ w.heap.size <= B2 /\ Blk w' B1 (sumC fs N) /\ Blk w' B2 (sumD fs N) := by
 have HN : Hid (fs.length = N) := hN;clear hN;have hm3 := make3;have hm2 := make2
 go_enter Tryz.func92, Tryz.ntmps92
 go_upto_region 1 with fail
 go_cut [2, 3] (fun r s wx => r = .pointer (some ⟨w.heap.size, 0, none⟩) /\ ∃ S A B, s = .pointer (some ⟨S, 0, none⟩) /\ Cel wx S [.slice (some ⟨A, 0, none⟩) 3 3, .slice (some ⟨B, 0, none⟩) 2 2, .int .i64 0] 95 /\ Blk wx A [0, 0, 0] /\ Blk wx B [0, 0] /\ Cel wx w.heap.size [.slice none 0 0, .slice none 0 0, .int .i64 0] 95 /\ Below w.heap.size w wx /\ w.heap.size < A /\ w.heap.size < B /\ w.heap.size < S /\ A ≠ B /\ A ≠ S /\ B ≠ S)
 case first =>
  go_region
  all_goals
   go_wp2_with fail
   go_meet
   case rel =>
    exact ⟨rfl, _, _, _, rfl, (by first | exact four1 w | exact four2 w | exact four3 w), (by first | exact four1 w | exact four2 w | exact four3 w), (by first | exact four1 w | exact four2 w | exact four3 w), four0 w, fourB w, by omega, by omega, by omega, by omega, by omega, by omega⟩
 case rest =>
  obtain ⟨rfl, S, A, B, rfl, hS, hA, hB, hR, hb, hlA, hlB, hlS, hAB, hAS, hBS⟩ := hcut;clear hm3 hm2
  go_wp2_with fail
  go_loopw [5, 11] (fun _ i wr => ∃ k : Nat, k <= N /\ i = .int .i64 k /\ Cel wr S [.slice (some ⟨A, 0, none⟩) 3 3, .slice (some ⟨B, 0, none⟩) 2 2, .int .i64 (sumK fs k)] 95 /\ Blk wr A (sumC fs k) /\ Blk wr B (sumD fs k) /\ Cel wr w.heap.size [.slice none 0 0, .slice none 0 0, .int .i64 0] 95 /\ Below w.heap.size w wr) (fun _ i _ => N - (intOf i).toNat)
  case atStart => exact ⟨0, qJ _, rfl, hS, hA, hB, hR, hb⟩
  case round =>
   clear hS hA hB hR hb;obtain ⟨k, hk, rfl, hS, hA, hB, hR, hb⟩ := hrel
   by_cases hlt : k < N
   ·obtain ⟨b, off, rfl, a', c', cp, cp', e0, e1, e2, iC, iD⟩ := hF k (by rw [HN.out]; exact hlt);have hfk := hfit k (by rw [HN.out]; exact hlt);have lC := sumC_len hfit k (by rw [HN.out]; exact hk);have lD := sumD_len hfit k (by rw [HN.out]; exact hk);have bC := sumC_bnd hfit k (by rw [HN.out]; exact hk);have bD := sumD_bnd hfit k (by rw [HN.out]; exact hk);have bK := sumK_bnd hfit k (by rw [HN.out]; exact hk)
    have kM : (k : Int) * M <= 1000000000000000000 := by
     have h1 : (k : Int) * M <= 1000 * M := Int.mul_le_mul_of_nonneg_right (by omega) hM0
     omega
    have f0 : wr.cell? ⟨b, off + k * 3, none⟩ = some (.slice a' 3 cp) := (hb.cell (p := ⟨b, off + k * 3, none⟩) (block_lt e0)).trans e0;have f1 : wr.cell? ⟨b, off + k * 3 + 1, none⟩ = some (.slice c' 2 cp') := (hb.cell (p := ⟨b, off + k * 3 + 1, none⟩) (block_lt e0)).trans e1;have f2 := (hb.cell (p := ⟨b, off + k * 3 + 2, none⟩) (block_lt e0)).trans e2;generalize HK : sumK fs k = sk at *;have HK' : Hid (sumK fs k = sk) := HK;clear HK;generalize HF : (fs[k]?.getD ([], [], 0)) = g at *;have HF' : Hid ((fs[k]?.getD ([], [], 0)) = g) := HF;clear HF;obtain ⟨gC, gD, gK⟩ := g;obtain ⟨l1, l2, b1, b2, b3, b4⟩ := hfk;simp only at l1 l2 b1 b2 b3 b4 f2 iC iD e2;have hbl := block_lt e0;have hSl := hS.lt;have hAl := hA.lt;have hBl := hB.lt;have s0 := hS.cell 0;simp only [qE] at s0
    have nC : ∀ b o, a' = some ⟨b, o, none⟩ -> b ≠ A := fun b o h => by
     obtain ⟨b', o', h', hc⟩ := iC.2 0 (by omega);rw [h] at h';simp only [qA, qB, and_true] at h';have := block_lt hc
     omega
    have nD : ∀ b o, c' = some ⟨b, o, none⟩ -> b ≠ B := fun b o h => by
     obtain ⟨b', o', h', hc⟩ := iD.2 0 (by omega);rw [h] at h';simp only [qA, qB, and_true] at h';have := block_lt hc
     omega
    have lAC : ∀ b o, c' = some ⟨b, o, none⟩ -> b < w.heap.size := fun b o h => by
     obtain ⟨b', o', h', hc⟩ := iD.2 0 (by omega);rw [h] at h';simp only [qA, qB, and_true] at h';have := block_lt hc
     omega
    go_wp2_with fail
    refine (addEach_any 3 A (sumC fs k) gC (k * M) M (.inr ⟨rfl, hA.alloc _⟩) ((iC.below hb).alloc _) nC lC (by omega) bC b1).mono ?_;rintro e w1 ⟨rfl, t1, o1⟩;have hF1 := (Cel.new wr _ _).touch t1 (by omega);have hS1 := (hS.alloc _).touch t1 (by omega);have hR1 := (hR.alloc _).touch t1 (by omega);have hB1 : OwnAt w1 (some ⟨B, 0, none⟩) B (sumD fs k) := OwnAt.touch (.inr ⟨rfl, hB.alloc _⟩) t1 (by omega);have hb1 : Below w.heap.size w w1 := (hb.alloc hb.size _).trans (t1.below (by have := hb.size; simp; omega) (by intro k h; omega));have iD1 : Ints w1 c' 2 gD := iD.below hb1;clear s0 f0 f1 f2 hS hR hA hB hb t1;have z1 : wr.heap.size < w1.heap.size := hF1.lt;have s1 := hS1.cell 1;have s2 := hF1.cell 1;simp only [qE, qF] at s1 s2
    go_wp2_with fail
    refine (addEach_any 2 B (sumD fs k) gD (k * M) M hB1 iD1 nD lD (by omega) bD b2).mono ?_;rintro e w2 ⟨rfl, t2, o2⟩;have hF2 := hF1.touch t2 (by omega);have hS2 := hS1.touch t2 (by omega);have hR2 := hR1.touch t2 (by omega);have o1' := o1.touch t2 (by omega);have hb2 : Below w.heap.size w w2 := hb1.trans (t2.below (by have := hb1.size; omega) (by intro k h; omega));clear s1 s2 hS1 hR1 hF1 hB1 hb1 t2 o1;have s1 := hS2.cell 2;have s2 := hF2.cell 2;have s3 := hS2.free 2;simp only [qE, qF] at s1 s2;obtain ⟨bK1, bK2⟩ := bK;have bK3 : -1000000000000000000 <= sk := by omega
    have bK4 : sk <= 1000000000000000000 := by omega
    have hS3 := hS2.set 2 (.int .i64 (sk + gK));have hR3 := hR2.setOther (B' := S) (by omega) 2 (.int .i64 (sk + gK));have hb3 := hb2.setCell (p := ⟨S, 2, none⟩) (by show w.heap.size <= S; omega) (.int .i64 (sk + gK))
    have RA : Blk (w2.setCell ⟨S, 2, none⟩ (.int .i64 (sk + gK))) A (sumC fs (k + 1)) := by
     rcases o1' with h0 | ⟨_, h0⟩
     ·have := congrArg List.length h0; simp [lC, l1] at this
     have := h0.setOther (B' := S) hAS 2 (.int .i64 (sk + gK));simp only [sumC]; rw [HF'.out]; exact this
    have RB : Blk (w2.setCell ⟨S, 2, none⟩ (.int .i64 (sk + gK))) B (sumD fs (k + 1)) := by
     rcases o2 with h0 | ⟨_, h0⟩
     ·have := congrArg List.length h0; simp [lD, l2] at this
     have := h0.setOther (B' := S) hBS 2 (.int .i64 (sk + gK));simp only [sumD]; rw [HF'.out]; exact this
    have RS : Cel (w2.setCell ⟨S, 2, none⟩ (.int .i64 (sk + gK))) S [.slice (some ⟨A, 0, none⟩) 3 3, .slice (some ⟨B, 0, none⟩) 2 2, .int .i64 (sumK fs (k + 1))] 95 := by
     simp only [List.set_cons_succ, qC] at hS3;simp only [sumK]; rw [HF'.out, HK'.out]; exact hS3
    clear bK1 bK2 hS3 o1' o2 hS2 hR2 hb2 hF2 bC bD lC lD b1 b2 nC nD lAC iC iD iD1 hF hfit e0 e1 e2
    go_wp2
    go_roundw
    case rel => exact ⟨k + 1, by omega, by go_num, RS, RA, RB, hR3, hb3⟩
    case measure => simp [intOf]; omega
   obtain rfl : k = N := by omega
   have s0 := hS.cell 0;have s1 := hS.cell 1;have s2 := hS.cell 2;have r0 := hR.cell 0;have r1 := hR.cell 1;have r2 := hR.cell 2;have r3 := hR.free 0;have r4 := hR.free 1;have r5 := hR.free 2;simp only [qE, qF] at s0 s1 s2 r0 r1 r2
   go_wp2
   refine bodyPost_ret (v := formV (some ⟨A, 0, none⟩) 3 3 (some ⟨B, 0, none⟩) 2 2 (sumK fs k)) (by simp [results, Tryz.results92, go_sem, r0, r1, r2]) rfl ⟨A, B, rfl, ?_, by omega, hAB, by omega, ?_, ?_⟩
   ·exact ((hb.setCell (qI _) _).setCell (qI _) _).setCell (qI _) _
   ·exact ((hA.so).so).so
   exact ((hB.so).so).so
def dot (xs ys : List Int) : Nat -> Int
 | 0 => 0
 | k + 1 => dot xs ys k + xs[k]?.getD 0 * ys[k]?.getD 0
def bndP (P : Int) (xs ys : List Int) : Prop := ∀ i : Nat, -P <= xs[i]?.getD 0 * ys[i]?.getD 0 /\ xs[i]?.getD 0 * ys[i]?.getD 0 <= P
theorem dot_bnd {P : Int} (h : bndP P xs ys) : ∀ k : Nat, -(k * P) <= dot xs ys k /\ dot xs ys k <= k * P
 | 0 => by simp [dot]
 | k + 1 => by
  have ih := dot_bnd h k;have hk := h k;have e : ((k + 1 : Nat) : Int) * P = k * P + P := by rw [Int.natCast_add, Int.add_mul]; simp
  rw [e];simp only [dot]
  omega
theorem bndP_of {M' : Int} (hx : bnd M xs) (hy : bnd M' ys) (h0 : 0 <= M) (h1 : 0 <= M') : bndP (M * M') xs ys := by
 intro i;obtain ⟨a1, a2⟩ := hx i;obtain ⟨b1, b2⟩ := hy i;generalize xs[i]?.getD 0 = x at *;generalize ys[i]?.getD 0 = y at *;have hx' : x.natAbs <= M.toNat := by omega
 have hy' : y.natAbs <= M'.toNat := by omega
 have hm : (x * y).natAbs <= M.toNat * M'.toNat := by rw [Int.natAbs_mul]; exact Nat.mul_le_mul hx' hy'
 have e : ((M.toNat * M'.toNat : Nat) : Int) = M * M' := by rw [Int.natCast_mul, Int.toNat_of_nonneg h0, Int.toNat_of_nonneg h1]
 omega
theorem allB_bnd (hm : 0 <= m) (h : allB m zs = true) : bnd m zs := by
 intro i
 by_cases hi : i < zs.length
 ·unfold allB at h;rw [List.all_eq_true] at h;have := inB_iff.1 (h zs[i] (List.getElem_mem hi));rw [qD hi];simpa using this
 rw [List.getElem?_eq_none (by omega)];simp; omega
theorem okN_elim (hm : 0 <= m) (h : okN c m n zs = true) : (n : Int) = c /\ bnd m zs := by
 simp only [okN, Bool.and_eq_true, decide_eq_true_eq] at h
 exact ⟨h.1, allB_bnd hm h.2⟩
theorem formB_elim {m : Nat} {C D : List Int} (h : formB n m C D K = true) : n = 3 /\ m = 2 /\ bnd 10000000 C /\ bnd 10000000 D /\ -10000000 <= K /\ K <= 10000000 := by
 simp only [formB, Bool.and_eq_true] at h;obtain ⟨⟨h1, h2⟩, h3⟩ := h;have a := okN_elim (by omega) h1;have b := okN_elim (by omega) h2;have c := inB_iff.1 h3
 exact ⟨by omega, by omega, a.2, b.2, c.1, c.2⟩
theorem psum_any {c : Option Addr} {cap' : Nat} (xs ys : List Int) {P : Int} {w : World} (h : Ints w a n xs) (h' : Ints w c n ys) (hn : n <= 1000) (hP : bndP P xs ys) (h0 : 0 <= P) (hb : P <= 1000000000000) :
  Calls Tryz.prog 155 #[.slice a n cap, .slice c n cap'] w fun e w' => e = .returned (.int .i64 (dot xs ys n)) /\ w' = w := by
 go_enter Tryz.func155, Tryz.ntmps155
 go_wp2_with fail
 go_loop [5, 6, 7, 10] (fun s _ _ i => ∃ k : Nat, k <= n /\ i = .int .i64 k /\ s = .int .i64 (dot xs ys k)) (fun _ _ _ i => n - (intOf i).toNat)
 case atStart => exact ⟨0, qJ _, rfl, rfl⟩
 case round =>
  obtain ⟨k, hk, rfl, rfl⟩ := hrel
  by_cases hlt : k < n
  ·obtain ⟨b, off, rfl, hcell⟩ := h.pos (by omega);obtain ⟨b', off', rfl, hcell'⟩ := h'.pos (by omega);have hck := hcell k hlt;have hck' := hcell' k hlt;have hlt' : (k : Int) < (n : Int) := by omega
   obtain ⟨p1, p2⟩ := hP k;have d := dot_bnd hP k;have kP : (k : Int) * P <= 1000 * P := Int.mul_le_mul_of_nonneg_right (by omega) h0;have d1 : -1000000000000000 <= dot xs ys k := by omega
   have d2 : dot xs ys k <= 1000000000000000 := by omega
   have d3 : -1000000000000 <= xs[k]?.getD 0 * ys[k]?.getD 0 := by omega
   have d4 : xs[k]?.getD 0 * ys[k]?.getD 0 <= 1000000000000 := by omega
   clear hcell hcell' h h' d kP p1 p2 hP hb h0
   go_wp2
   go_round
   case rel => exact ⟨k + 1, by omega, by go_num, by simp only [dot]⟩
   case measure => simp [intOf]; omega
  go_wp2
  go_ret
  obtain rfl : k = n := by omega
  exact ⟨rfl, rfl⟩
def atV (C D : List Int) (K : Int) (V A : List Int) : Int := dot C V 3 + dot D A 2 + K
def lin (xs ys : List Int) (n : Int) : List Int := List.zipWith (fun x y => x + n * y) xs ys
theorem lin_len {n : Int} (hx : xs.length = k) (hy : ys.length = k) : (lin xs ys n).length = k := by simp [lin, hx, hy]
theorem lin_get {n : Int} {i : Nat} (hx : xs.length = k) (hy : ys.length = k) (hi : i < k) : (lin xs ys n)[i]?.getD 0 = xs[i]?.getD 0 + n * ys[i]?.getD 0 := by
 have h1 : i < xs.length := by omega
 have h2 : i < ys.length := by omega
 have h3 : i < (lin xs ys n).length := by rw [lin_len hx hy]; exact hi
 rw [qD h1, qD h2, qD h3];simp [lin]
def bndT (P n : Int) (ys : List Int) : Prop := ∀ i : Nat, -P <= n * ys[i]?.getD 0 /\ n * ys[i]?.getD 0 <= P
theorem bndT_of {N n : Int} (hy : bnd M ys) (h1 : -N <= n) (h2 : n <= N) (h0 : 0 <= M) (h3 : 0 <= N) : bndT (N * M) n ys := by
 intro i;obtain ⟨b1, b2⟩ := hy i;generalize ys[i]?.getD 0 = y at *;have hx' : n.natAbs <= N.toNat := by omega
 have hy' : y.natAbs <= M.toNat := by omega
 have hm : (n * y).natAbs <= N.toNat * M.toNat := by rw [Int.natAbs_mul]; exact Nat.mul_le_mul hx' hy'
 have e : ((N.toNat * M.toNat : Nat) : Int) = N * M := by rw [Int.natCast_mul, Int.toNat_of_nonneg h3, Int.toNat_of_nonneg h0]
 omega
def mulL (n : Int) (zs : List Int) : List Int := zs.map fun z => n * z
theorem mulL_get {n : Int} {i : Nat} (h : i < zs.length) : (mulL n zs)[i]?.getD 0 = n * zs[i]?.getD 0 := by
 simp [mulL, h]
theorem timesEach_any {l : Nat} (zs : List Int) {n : Int} {w : World} (h : Ints w a l zs) (hl : l <= 1048576) (ht : bndT 1000000000000000000 n zs) :
  Calls Tryz.prog 173 #[.slice a l cap, .int .i64 n] w fun e w' => e = .returned (.slice (some ⟨w.heap.size, 0, none⟩) l l) /\ Below w.heap.size w w' /\ Blk w' w.heap.size (mulL n zs) := by
 have HZ : Hid (zs.length = l) := h.1;have HM : Hid ((mulL n zs).length = l) := by show (mulL n zs).length = l; simp [mulL, h.1]
 obtain ⟨i0, hi, hz0, hz1, hz2⟩ := info_parts Tryz.infoInt
 go_enter Tryz.func173, Tryz.ntmps173
 go_wp2_with (at_make; refine wpList_make_full _ rfl (.tmp 9) (.tmp 9) 24 rfl w.heap.size 3 i0 (.int .i64 0) 1 Tryz.underlying24 hi hz0 hz1 .i64 .i64 _ _ l rfl rfl rfl rfl (by rw [hz2]; omega) (by unfold maxLen; omega) (qI _) ?_; intro w1 hown hgrow)
 have hb1 := Blk.made w l w1 hown;have HB : Below w.heap.size w w1 := (Below.refl _ _).grown hgrow (qI _) (by simp);clear hown hgrow hi hz0 hz1 hz2
 go_loopw [6, 7, 13] (fun _ _ i wr => ∃ k : Nat, k <= l /\ i = .int .i64 k /\ Below w.heap.size w wr /\ Blk wr w.heap.size (upTo (mulL n zs) l k)) (fun _ _ i _ => l - (intOf i).toNat)
 case atStart => exact ⟨0, qJ _, rfl, HB, by rw [upTo_zero]; exact hb1⟩
 case round =>
  obtain ⟨k, hk, rfl, hnx, hblk⟩ := hrel
  by_cases hlt : k < l
  ·obtain ⟨b, off, rfl, hcell⟩ := (h.below hnx).pos (by omega);have hck := hcell k hlt;have hco := hblk.cell k (by rw [upTo_len HM.out hk]; exact hlt);have hfo := hblk.free k;obtain ⟨d1, d2⟩ := ht k;have R := hblk.set k ((mulL n zs)[k]?.getD 0);rw [upTo_succ HM.out hlt, mulL_get (by rw [HZ.out]; exact hlt)] at R;have R2 := hnx.setCell (p := ⟨w.heap.size, k, none⟩) (qI _) (.int .i64 (n * zs[k]?.getD 0));clear hcell hb1 HB h ht hblk hnx
   go_wp2
   go_roundw
   case rel => exact ⟨k + 1, by omega, by go_num, R2, R⟩
   case measure => simp [intOf]; omega
  go_wp2
  go_ret
  exact ⟨rfl, hnx, by rw [upTo_end HM.out] at hblk; exact hblk⟩
end Go.Proofs.YtpmihhbgjimpmaaGreatDoor
