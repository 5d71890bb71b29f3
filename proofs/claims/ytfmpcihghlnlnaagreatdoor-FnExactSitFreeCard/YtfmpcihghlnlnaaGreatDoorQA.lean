/-
  Lemmas that the claim's last text rests on.
-/
import Derived.Test.YtfmpcihghlnlnaaGreatDoorRows
import Derived.WalkKit
import Derived.ProofKit
import Derived.OpenShut
import Derived.ShutString
import Derived.ChangeOld
import Derived.Below
import Derived.BigQuiet
import Derived.Deep.QuietTactic
import Derived.Deep.RegionWith
import Derived.WalkLawsBesides
import Derived.WalkSpells
namespace Go.Proofs.YtfmpcihghlnlnaaGreatDoor
open Go.RowKit
open List renaming getElem?_eq_getElem → qA, take_of_length_le → qB, take_succ_eq_append_getElem → qC
open Nat renaming le_refl → qD, zero_le → qE
set_option linter.unusedVariables false
set_option maxRecDepth 100000
set_option maxHeartbeats 25600000
variable {B B' cap k n : Nat} {a : Option Addr} {hi l lo m : Int} {t : TypeId} {v0 v1 v2 : Value} {vs : List Value} {w w' : World} {xs ys zs : List Int}
theorem btr {v u : World} (h : Below w.heap.size w v) (k : Below v.heap.size v u) : Below w.heap.size w u := h.trans (k.mono h.size)
theorem bal {o : Obj} : Below w.heap.size w (w.alloc o) := (Below.refl _ _).alloc (qD _) _
def Ints (w : World) (a : Option Addr) (n : Nat) (zs : List Int) : Prop :=
 zs.length = n /\ ∀ i, i < n -> ∃ b off, a = some ⟨b, off, none⟩ /\ w.cell? ⟨b, off + i, none⟩ = some (.int .i64 (zs.getD i 0))
def Blk (w : World) (B : Nat) (zs : List Int) : Prop := w.heap[B]? = some (.cells (zs.map (Value.int .i64)).toArray 3 (0, 0))
theorem Ints.pos (h : Ints w a n zs) (hn : 0 < n) :
  ∃ b off, a = some ⟨b, off, none⟩ /\ ∀ i, i < n -> w.cell? ⟨b, off + i, none⟩ = some (.int .i64 (zs.getD i 0)) := by
 obtain ⟨b, off, hab, _⟩ := h.2 0 hn;refine ⟨b, off, hab, fun i hi => ?_⟩;obtain ⟨b', off', hab', hc⟩ := h.2 i hi;rw [hab] at hab';simp only [Option.some.injEq, Addr.mk.injEq, and_true] at hab';obtain ⟨rfl, rfl⟩ := hab'
 exact hc
theorem block_lt {b off : Nat} {v : Value} (h : w.cell? ⟨b, off, none⟩ = some v) : b < w.heap.size := by
 apply Classical.byContradiction
 intro hn;have : w.heap[b]? = none := by simp; omega
 simp [World.cell?, this] at h
theorem Ints.below (h : Ints w a n zs) (hb : Below w.heap.size w w') : Ints w' a n zs := by
 refine ⟨h.1, fun i hi => ?_⟩;obtain ⟨b, off, hab, hc⟩ := h.2 i hi
 exact ⟨b, off, hab, by rw [hb.cell (p := ⟨b, off + i, none⟩) (block_lt hc)]; exact hc⟩
theorem Blk.lt (h : Blk w B zs) : B < w.heap.size := lt_of_block h
theorem Blk.cell (h : Blk w B zs) (i : Nat) (hi : i < zs.length) : w.cell? ⟨B, i, none⟩ = some (.int .i64 (zs.getD i 0)) := by
 unfold Blk at h;simp [World.cell?, h, hi]
theorem Blk.free (h : Blk w B zs) (i : Nat) : w.frozen? ⟨B, i, none⟩ = false := by
 unfold Blk at h;simp [World.frozen?, h]
theorem Blk.ints (h : Blk w B zs) : Ints w (some ⟨B, 0, none⟩) zs.length zs :=
 ⟨rfl, fun i hi => ⟨B, 0, rfl, by simpa using h.cell i hi⟩⟩
theorem Blk.ints' (h : Blk w B zs) (hn : zs.length = n) : Ints w (some ⟨B, 0, none⟩) n zs := hn ▸ h.ints
theorem Blk.below (h : Blk w B zs) (hb : Below w.heap.size w w') : Blk w' B zs := by
 unfold Blk at *;rw [hb.block B (lt_of_block h)]; exact h
theorem Blk.set (h : Blk w B zs) (i : Nat) (x : Int) : Blk (w.setCell ⟨B, i, none⟩ (.int .i64 x)) B (zs.set i x) := by
 unfold Blk at *;have := heap_setCell_same w B i _ _ (.int .i64 x) h;rw [this];simp [List.map_set]
theorem Blk.setOther (h : Blk w B zs) (hne : B ≠ B') (i : Nat) (x : Value) : Blk (w.setCell ⟨B', i, none⟩ x) B zs := by
 unfold Blk at *;rw [Below.heap_setCell _ _ _ _ hne]; exact h
theorem Blk.made (w : World) (n : Nat) (o : World) (h : o.ownsRow w.heap.size 3 1 (.slice (some ⟨w.heap.size, 0, none⟩) n n) n (madeCells (Value.cells (.int .i64 0)) (n * 1)).toList) : Blk o w.heap.size (List.replicate n 0) := by
 rcases h.2 with ⟨h', _⟩ | ⟨g', cap', cur, h', _, hg, _, _, hcs, htake⟩
 ·simp at h'
 simp only [Value.slice.injEq, Option.some.injEq, Addr.mk.injEq, and_true, true_and] at h';obtain ⟨rfl, rfl⟩ := h';unfold Blk;rw [hg]
 have hcur : cur.toList = (List.replicate n (Value.int .i64 0)) := by
  rw [qB (by simp [hcs])] at htake;rw [htake];simpa [Value.cells] using toList_madeCells_one (.int .i64 0) n
 have : cur = (List.replicate n (Value.int .i64 0)).toArray := by
  rw [<- hcur]
 rw [this];simp
def inB (n lo hi : Int) : Bool := decide (lo <= n /\ n <= hi)
theorem inB_iff {n : Int} : inB n lo hi = true ↔ lo <= n /\ n <= hi := by simp [inB]
theorem inB_not {n : Int} : inB n lo hi = false ↔ ¬ (lo <= n /\ n <= hi) := by rw [<- inB_iff]; simp
def allB (m : Int) (zs : List Int) : Bool := zs.all fun n => inB n (-m) m
def okN (c m : Int) (n : Nat) (zs : List Int) : Bool := decide ((n : Int) = c) && allB m zs
theorem okN_not {c : Int} (h : ¬ (n : Int) = c) : okN c m n zs = false := by simp [okN, h]
theorem okN_is {c : Int} (h : (n : Int) = c) : okN c m n zs = allB m zs := by simp [okN, h]
theorem allB_take_succ (m : Int) (zs : List Int) (k : Nat) (h : k < zs.length) : allB m (zs.take (k + 1)) = (allB m (zs.take k) && inB (zs[k]?.getD 0) (-m) m) := by
 unfold allB;rw [qC h, List.all_append];rw [qA h];simp only [List.all_cons, List.all_nil, Bool.and_true, Option.getD_some]
theorem allB_step (h : k < zs.length) (h1 : allB m (zs.take k) = true) (h2 : inB (zs[k]?.getD 0) (-m) m = true) : allB m (zs.take (k + 1)) = true := by
 rw [allB_take_succ m zs k h, h1, h2]; rfl
theorem allB_end (h : zs.length <= k) (h1 : allB m (zs.take k) = true) : allB m zs = true := by
 rwa [qB h] at h1
theorem allB_false (h : k < zs.length) (hn : inB (zs[k]?.getD 0) (-m) m = false) : allB m zs = false := by
 unfold allB;rw [List.all_eq_false];refine ⟨zs[k], List.getElem_mem h, ?_⟩;rw [qA h] at hn;simpa using hn
def eqB (xs ys : List Int) : Bool := decide (xs = ys)
theorem eqB_refl (xs : List Int) : eqB xs xs = true := by simp [eqB]
theorem take_same_succ (h1 : k < xs.length) (h2 : k < ys.length) (h : xs.take k = ys.take k) (he : xs[k]?.getD 0 = ys[k]?.getD 0) : xs.take (k + 1) = ys.take (k + 1) := by
 rw [qC h1, qC h2, h];rw [qA h1, qA h2] at he;simp only [Option.getD_some] at he;rw [he]
theorem eqB_true (h1 : xs.length = n) (h2 : ys.length = n) (hk : n <= k) (h : xs.take k = ys.take k) : eqB xs ys = true := by
 rw [qB (by omega), qB (by omega)] at h;simp [eqB, h]
theorem eqB_false (he : xs[k]?.getD 0 ≠ ys[k]?.getD 0) : eqB xs ys = false := by
 simp only [eqB, decide_eq_false_iff_not];intro h
 exact he (by rw [h])
theorem eqB_len (h : xs.length ≠ ys.length) : eqB xs ys = false := by
 simp only [eqB, decide_eq_false_iff_not];intro e
 exact h (by rw [e])
def upTo (zs : List Int) (n k : Nat) : List Int := zs.take k ++ List.replicate (n - k) 0
theorem upTo_zero (zs : List Int) (n : Nat) : upTo zs n 0 = List.replicate n 0 := by simp [upTo]
theorem upTo_len (h : zs.length = n) (hk : k <= n) : (upTo zs n k).length = n := by simp [upTo]; omega
theorem upTo_end (h : zs.length = n) (hk : n <= k) : upTo zs n k = zs := by
 unfold upTo;rw [qB (by omega), Nat.sub_eq_zero_of_le hk]; simp
theorem upTo_succ (h : zs.length = n) (hk : k < n) : (upTo zs n k).set k (zs[k]?.getD 0) = upTo zs n (k + 1) := by
 unfold upTo;have hl : (zs.take k).length = k := by simp; omega
 rw [List.set_append_right _ _ (by omega), hl, Nat.sub_self];rw [qC (by omega), qA (by omega)];have : n - k = (n - (k + 1)) + 1 := by omega
 rw [this, List.replicate_succ];simp only [List.set_cons_zero, Option.getD_some, List.append_assoc, List.cons_append, List.nil_append]
theorem ret_bool {a b : Bool} (h : a = b) : Ending.returned (.bool a) = .returned (.bool b) := by rw [h]
theorem ret_int {k : IntKind} {a b : Int} (h : a = b) : Ending.returned (.int k a) = .returned (.int k b) := by rw [h]
theorem own : ownKnob Tryz.prog.godebug = none := by kernel_rfl
theorem laidOut : laidOutB Tryz.prog = true := by kernel_rfl
def IsRow (k : IntKind) (w : World) (a : Option Addr) (len cap : Nat) (zs : List Int) : Prop :=
 (a = none /\ len = 0 /\ cap = 0 /\ zs = []) \/
 ∃ x, a = some x /\ len <= cap /\ cap <= maxLen /\ zs.length = cap /\ (∀ i, i < zs.length -> w.cell? (x.add i) = some (.int k (zs.getD i 0))) /\ ∀ n ∈ zs, (Lit.int k n).wf = true
theorem IsRow.ints {len : Nat} (h : IsRow .i64 w a len cap zs) : Ints w a len (zs.take len) := by
 rcases h with ⟨rfl, rfl, rfl, rfl⟩ | ⟨x, rfl, hl, hm, hz, hcell, hwz⟩
 ·exact ⟨rfl, fun i hi => by omega⟩
 refine ⟨by simp; omega, fun i hi => ?_⟩;obtain ⟨b, off, spot⟩ := x;have hc0 := hcell 0 (by omega);have hspot : spot = none := by simpa [Addr.add] using World.cell?_spot hc0
 subst hspot;refine ⟨b, off, rfl, ?_⟩;have hc := hcell i (by omega)
 have : w.cell? ⟨b, off + i, none⟩ = some (.int .i64 (zs.getD i 0)) := by
  by_cases h0 : i = 0
  ·subst h0; simpa [Addr.add] using hc
  simpa [Addr.add, h0] using hc
 rw [this];simp [hi]
theorem Ints.alloc (h : Ints w a n zs) (o : Obj) : Ints (w.alloc o) a n zs := h.below (bal)
def formB (n m : Nat) (C D : List Int) (K : Int) : Bool := okN 3 10000000 n C && okN 2 10000000 m D && inB K (-10000000) 10000000
def eqF (C D : List Int) (K : Int) (C' D' : List Int) (K' : Int) : Bool := eqB C C' && eqB D D' && decide (K = K')
theorem eqF_refl {C D : List Int} {K : Int} : eqF C D K C D K = true := by simp [eqF, eqB]
def leftOf (l : Int) (n : Nat) : Int := if l < 0 then -1 else if l < n then -1 else l - n
theorem leftOf_neg (h : l < n) : leftOf l n = -1 := by unfold leftOf; by_cases h0 : l < 0 <;> simp [h0, h]
theorem leftOf_pos (h : (n : Int) <= l) : leftOf l n = l - n := by unfold leftOf; rw [if_neg (by omega), if_neg (by omega)]
theorem leftOf_below (h : l < 0) : leftOf l n = -1 := by unfold leftOf; rw [if_pos h]
theorem leftOf_ge (l : Int) (n : Nat) : -1 <= leftOf l n := by unfold leftOf; split <;> (try split) <;> omega
theorem leftOf_le (h : 0 <= leftOf l n) : (n : Int) <= l /\ leftOf l n <= l := by
 unfold leftOf at *; split at h <;> (try split at h) <;> simp_all <;> omega
abbrev formV (a : Option Addr) (n cap : Nat) (c : Option Addr) (m cap' : Nat) (K : Int) : Value := .agg #[.slice a n cap, .slice c m cap', .int .i64 K]
theorem allB_one (m x : Int) : allB m [x] = inB x (-m) m := by simp [allB]
theorem below_of_drew (h : Below B w.drew w') : Below B w w' := ⟨h.os, h.tape, h.output, h.size, h.block⟩
theorem size_setCell (w : World) (a : Addr) (v : Value) : (w.setCell a v).heap.size = w.heap.size := by simp [World.setCell]
def Cel (w : World) (B : Nat) (vs : List Value) (t : TypeId) : Prop := w.heap[B]? = some (.cells vs.toArray t (0, 0))
theorem Cel.lt (h : Cel w B vs t) : B < w.heap.size := lt_of_block h
theorem Cel.cell (h : Cel w B vs t) (i : Nat) : w.cell? ⟨B, i, none⟩ = vs[i]? := by
 unfold Cel at h;simp [World.cell?, h]
theorem Cel.free (h : Cel w B vs t) (i : Nat) : w.frozen? ⟨B, i, none⟩ = false := by
 unfold Cel at h;simp [World.frozen?, h]
theorem Cel.below (h : Cel w B vs t) (hb : Below w.heap.size w w') : Cel w' B vs t := by
 unfold Cel at *;rw [hb.block B (lt_of_block h)]; exact h
theorem Cel.set (h : Cel w B vs t) (i : Nat) (x : Value) : Cel (w.setCell ⟨B, i, none⟩ x) B (vs.set i x) t := by
 unfold Cel at *;rw [heap_setCell_same w B i _ _ x h];simp
theorem Cel.setOther (h : Cel w B vs t) (hne : B ≠ B') (i : Nat) (x : Value) : Cel (w.setCell ⟨B', i, none⟩ x) B vs t := by
 unfold Cel at *;rw [Below.heap_setCell _ _ _ _ hne]; exact h
theorem Cel.new (w : World) (vs : List Value) (t : TypeId) : Cel (w.alloc (.cells vs.toArray t)) w.heap.size vs t := heap_alloc_new w _
theorem Cel.alloc (h : Cel w B vs t) (o : Obj) : Cel (w.alloc o) B vs t := h.below (bal)
theorem Blk.alloc (h : Blk w B zs) (o : Obj) : Blk (w.alloc o) B zs := h.below (bal)
theorem Blk.so (h : Blk w B zs) {i : Nat} {x : Value} (hne : B ≠ B' := by omega) : Blk (w.setCell ⟨B', i, none⟩ x) B zs := h.setOther hne i x
theorem Cel.so (h : Cel w B vs t) {i : Nat} {x : Value} (hne : B ≠ B' := by omega) : Cel (w.setCell ⟨B', i, none⟩ x) B vs t := h.setOther hne i x
theorem Cel.c1 (h : Cel w B [v0] t) : w.cell? ⟨B, 0, none⟩ = some v0 := h.cell 0
theorem Cel.c2 (h : Cel w B [v0, v1] t) : w.cell? ⟨B, 0, none⟩ = some v0 /\ w.cell? ⟨B, 1, none⟩ = some v1 := ⟨h.cell 0, h.cell 1⟩
theorem Cel.c3 (h : Cel w B [v0, v1, v2] t) : w.cell? ⟨B, 0, none⟩ = some v0 /\ w.cell? ⟨B, 1, none⟩ = some v1 /\ w.cell? ⟨B, 2, none⟩ = some v2 := ⟨h.cell 0, h.cell 1, h.cell 2⟩
theorem Cel.c4 {v3 : Value} (h : Cel w B [v0, v1, v2, v3] t) : w.cell? ⟨B, 0, none⟩ = some v0 /\ w.cell? ⟨B, 1, none⟩ = some v1 /\ w.cell? ⟨B, 2, none⟩ = some v2 /\ w.cell? ⟨B, 3, none⟩ = some v3 := ⟨h.cell 0, h.cell 1, h.cell 2, h.cell 3⟩
theorem Cel.c6 {v3 v4 v5 : Value} (h : Cel w B [v0, v1, v2, v3, v4, v5] t) : w.cell? ⟨B, 0, none⟩ = some v0 /\ w.cell? ⟨B, 1, none⟩ = some v1 /\ w.cell? ⟨B, 2, none⟩ = some v2 /\ w.cell? ⟨B, 3, none⟩ = some v3 /\ w.cell? ⟨B, 4, none⟩ = some v4 /\ w.cell? ⟨B, 5, none⟩ = some v5 := ⟨h.cell 0, h.cell 1, h.cell 2, h.cell 3, h.cell 4, h.cell 5⟩
theorem in_any {n : Int} :
  Calls Tryz.prog 34 #[.int .i64 n, .int .i64 lo, .int .i64 hi] w fun e w' => e = .returned (.bool (inB n lo hi)) /\ w' = w := by
 by_cases h1 : lo <= n
 ·by_cases h2 : n <= hi
  ·go_enter Tryz.func34, Tryz.ntmps34
   go_wp2
   go_ret
   exact ⟨ret_bool (by rw [inB_iff.2 ⟨h1, h2⟩]), rfl⟩
  have h2' : hi < n := by omega
  go_enter Tryz.func34, Tryz.ntmps34
  go_wp2
  go_ret
  exact ⟨ret_bool (by rw [inB_not.2 (by omega)]), rfl⟩
 have h1' : n < lo := by omega
 go_enter Tryz.func34, Tryz.ntmps34
 go_wp2
 go_ret
 exact ⟨ret_bool (by rw [inB_not.2 (by omega)]), rfl⟩
theorem all_any (zs : List Int) (c m : Int) {w : World} (h : Ints w a n zs) (hn : n <= 1048576) (hm0 : 0 <= m := by omega) (hm : m <= 1000000000000000 := by omega) :
  Calls Tryz.prog 56 #[.slice a n cap, .int .i64 c, .int .i64 m] w fun e w' => e = .returned (.bool (okN c m n zs)) /\ w' = w := by
 have hz := h.1;have HZ : Hid (zs.length = n) := hz;clear hz
 by_cases hc : (n : Int) = c
 ·subst hc
  go_enter Tryz.func56, Tryz.ntmps56
  go_wp2_with fail
  go_loop [7] (fun i => ∃ k : Nat, k <= n /\ i = .int .i64 k /\ allB m (zs.take k) = true) (fun i => n - (intOf i).toNat)
  case atStart => exact ⟨0, qE _, rfl, rfl⟩
  case round =>
   obtain ⟨k, hk, rfl, hall⟩ := hrel;have HA : Hid (allB m (zs.take k) = true) := hall;clear hall
   by_cases hlt : k < n
   ·obtain ⟨b, off, rfl, hcell⟩ := h.pos (by omega);have hck := hcell k hlt;clear hcell
    cases hin : inB (zs[k]?.getD 0) (-m) m
    ·go_wp2_with (go_at_call 34; refine (in_any).mono ?_; rintro e w' ⟨rfl, rfl⟩)
     go_ret
     exact ⟨ret_bool (by rw [okN_is rfl, allB_false (by rw [HZ.out]; exact hlt) hin]), rfl⟩
    go_wp2_with (go_at_call 34; refine (in_any).mono ?_; rintro e w' ⟨rfl, rfl⟩)
    go_round
    case rel => exact ⟨k + 1, by omega, by go_num, allB_step (by rw [HZ.out]; exact hlt) HA.out hin⟩
    case measure => simp [intOf]; omega
   go_wp2
   go_ret
   exact ⟨ret_bool (by rw [okN_is rfl, allB_end (by rw [HZ.out]; omega) HA.out]), rfl⟩
 have hne : ((n : Int) != c) = true := by simp [hc]
 go_enter Tryz.func56, Tryz.ntmps56
 go_wp2
 go_ret
 exact ⟨ret_bool (by rw [okN_not hc]), rfl⟩
def betB (lo hi : Int) (zs : List Int) : Bool := zs.all fun n => inB n lo hi
theorem betB_step (h : k < zs.length) (h1 : betB lo hi (zs.take k) = true) (h2 : inB (zs[k]?.getD 0) lo hi = true) : betB lo hi (zs.take (k + 1)) = true := by
 unfold betB at *;rw [qC h, List.all_append, h1];rw [qA h] at h2;simpa using h2
theorem betB_end (h : zs.length <= k) (h1 : betB lo hi (zs.take k) = true) : betB lo hi zs = true := by
 rwa [qB h] at h1
theorem betB_false (h : k < zs.length) (hn : inB (zs[k]?.getD 0) lo hi = false) : betB lo hi zs = false := by
 unfold betB;rw [List.all_eq_false];refine ⟨zs[k], List.getElem_mem h, ?_⟩;rw [qA h] at hn;simpa using hn
theorem between_any (zs : List Int) (lo hi : Int) {w : World} (h : Ints w a n zs) (hn : n <= 1048576) :
  Calls Tryz.prog 74 #[.int .i64 lo, .int .i64 hi, .slice a n cap] w fun e w' => e = .returned (.bool (betB lo hi zs)) /\ w' = w := by
 have hz := h.1;have HZ : Hid (zs.length = n) := hz;clear hz
 go_enter Tryz.func74, Tryz.ntmps74
 go_wp2_with fail
 go_loop [8, 11] (fun _ i => ∃ k : Nat, k <= n /\ i = .int .i64 k /\ betB lo hi (zs.take k) = true) (fun _ i => n - (intOf i).toNat)
 case atStart => exact ⟨0, qE _, rfl, rfl⟩
 case round =>
  obtain ⟨k, hk, rfl, hall⟩ := hrel;have HA : Hid (betB lo hi (zs.take k) = true) := hall;clear hall
  by_cases hlt : k < n
  ·obtain ⟨b, off, rfl, hcell⟩ := h.pos (by omega);have hck := hcell k hlt;clear hcell
   by_cases h1 : lo <= zs[k]?.getD 0
   ·by_cases h2 : zs[k]?.getD 0 <= hi
    ·go_wp2
     go_round
     case rel => exact ⟨k + 1, by omega, by go_num, betB_step (by rw [HZ.out]; exact hlt) HA.out (inB_iff.2 ⟨h1, h2⟩)⟩
     case measure => simp [intOf]; omega
    go_wp2
    go_ret
    exact ⟨ret_bool (by rw [betB_false (by rw [HZ.out]; exact hlt) (inB_not.2 (by omega))]), rfl⟩
   go_wp2
   go_ret
   exact ⟨ret_bool (by rw [betB_false (by rw [HZ.out]; exact hlt) (inB_not.2 (by omega))]), rfl⟩
  go_wp2
  go_ret
  exact ⟨ret_bool (by rw [betB_end (by rw [HZ.out]; omega) HA.out]), rfl⟩
theorem within_any (a : Option Addr) (n cap : Nat) (zs : List Int) {m : Int} {w : World} (h : Ints w a n zs) (hn : n <= 1048576) (hm0 : 0 <= m := by omega) (hm : m <= 1000000000000000 := by omega) :
  Calls Tryz.prog 76 #[.int .i64 m, .slice a n cap] w fun e w' => e = .returned (.bool (allB m zs)) /\ w' = w := by
 go_enter Tryz.func76, Tryz.ntmps76
 go_wp2_with fail
 refine (between_any zs (-m) m h hn).mono ?_;rintro e w' ⟨rfl, rfl⟩
 go_wp2
 go_ret
 exact ⟨rfl, rfl⟩
theorem place_any {k n : Int} :
  Calls Tryz.prog 49 #[.int .i64 k, .int .i64 n] w fun e w' => e = .returned (.bool (decide (0 <= k /\ k < n))) /\ w' = w := by
 by_cases h1 : 0 <= k
 ·by_cases h2 : k < n
  all_goals
   go_enter Tryz.func49, Tryz.ntmps49
   go_wp2
   go_ret
   exact ⟨ret_bool (by simp; try omega), rfl⟩
 go_enter Tryz.func49, Tryz.ntmps49
 go_wp2
 go_ret
 exact ⟨ret_bool (by simp; try omega), rfl⟩
theorem Tryz.infoInt : (Tryz.prog.info? 3).map (fun i => (i.zero, i.size, i.bytes)) = some (some (.int .i64 0), 1, 8) := by kernel_rfl
theorem to_any (zs : List Int) {w : World} (h : Ints w a n zs) (hn : n <= 1048576) :
  Calls Tryz.prog 23 #[.slice a n cap] w fun e w' => e = .returned (.slice (some ⟨w.heap.size, 0, none⟩) n n) /\ Below w.heap.size w w' /\ Blk w' w.heap.size zs := by
 have hz := h.1;have HZ : Hid (zs.length = n) := hz;clear hz;obtain ⟨i0, hi, hz0, hz1, hz2⟩ := info_parts Tryz.infoInt
 go_enter Tryz.func23, Tryz.ntmps23
 go_wp2_with (at_make; refine wpList_make_full _ rfl (.tmp 6) (.tmp 6) 23 rfl w.heap.size 3 i0 (.int .i64 0) 1 Tryz.underlying23 hi hz0 hz1 .i64 .i64 _ _ n rfl rfl rfl rfl (by rw [hz2]; omega) (by unfold maxLen; omega) (qD _) ?_; intro w1 hown hgrow)
 have hb1 := Blk.made w n w1 hown;have HB : Below w.heap.size w w1 := (Below.refl _ _).grown hgrow (qD _) (by simp);clear hown hgrow hi hz0 hz1 hz2
 go_loopw [4] (fun i wr => ∃ k : Nat, k <= n /\ i = .int .i64 k /\ Below w.heap.size w wr /\ Blk wr w.heap.size (upTo zs n k)) (fun i _ => n - (intOf i).toNat)
 case atStart => exact ⟨0, qE _, rfl, HB, by rw [upTo_zero]; exact hb1⟩
 case round =>
  obtain ⟨k, hk, rfl, hnx, hblk⟩ := hrel
  by_cases hlt : k < n
  ·obtain ⟨b, off, rfl, hcell⟩ := h.pos (by omega)
   have hck : wr.cell? ⟨b, off + k, none⟩ = some (.int .i64 (zs[k]?.getD 0)) := by
    have h0 := hcell k hlt;rw [hnx.cell (p := ⟨b, off + k, none⟩) (block_lt h0), h0]; simp
   have hco : wr.cell? ⟨w.heap.size, k, none⟩ = some (.int .i64 ((upTo zs n k)[k]?.getD 0)) := by
    have := hblk.cell k (by rw [upTo_len HZ.out hk]; exact hlt);simpa using this
   have hfo := hblk.free k
   have R : Blk (wr.setCell ⟨w.heap.size, k, none⟩ (.int .i64 (zs[k]?.getD 0))) w.heap.size (upTo zs n (k + 1)) := by
    have := hblk.set k (zs[k]?.getD 0);rwa [upTo_succ HZ.out hlt] at this
   have R2 : Below w.heap.size w (wr.setCell ⟨w.heap.size, k, none⟩ (.int .i64 (zs[k]?.getD 0))) := hnx.setCell (qD _) _;clear hcell hb1 HB
   go_wp2
   go_roundw
   case rel => exact ⟨k + 1, by omega, by go_num, R2, R⟩
   case measure => simp [intOf]; omega
  go_wp2
  go_ret
  exact ⟨rfl, hnx, by rw [upTo_end HZ.out (by omega)] at hblk; exact hblk⟩
theorem eq_any {c : Option Addr} {m cap' : Nat} (xs ys : List Int) {w : World} (h : Ints w a n xs) (h' : Ints w c m ys) (hn : n <= 1048576) (hm : m <= 1048576) :
  Calls Tryz.prog 29 #[.slice a n cap, .slice c m cap'] w fun e w' => e = .returned (.bool (eqB xs ys)) /\ Below w.heap.size w w' := by
 have hx := h.1;have HX : Hid (xs.length = n) := hx;have hy := h'.1;have HY : Hid (ys.length = m) := hy;clear hx hy
 by_cases hc : n = m
 ·subst hc
  go_enter Tryz.func29, Tryz.ntmps29
  go_wp2_with fail
  go_loopw [5] (fun i wr => ∃ k : Nat, k <= n /\ i = .int .i64 k /\ Below w.heap.size w wr /\ xs.take k = ys.take k) (fun i _ => n - (intOf i).toNat)
  case atStart => exact ⟨0, qE _, rfl, Below.refl _ _, rfl⟩
  case round =>
   obtain ⟨k, hk, rfl, hnx, hall⟩ := hrel;have HA : Hid (xs.take k = ys.take k) := hall;clear hall
   by_cases hlt : k < n
   ·obtain ⟨b, off, rfl, hcell⟩ := (h.below hnx).pos (by omega);obtain ⟨b', off', rfl, hcell'⟩ := (h'.below hnx).pos (by omega);have hck := hcell k hlt;have hck' := hcell' k hlt;have hlt' : (k : Int) < (n : Int) := by omega
    clear hcell hcell' h h'
    go_wp2_with fail
    go_quiet (fail)
    cases he : (xs[k]?.getD 0 != ys[k]?.getD 0)
    ·go_wp2
     go_roundw
     case rel => exact ⟨k + 1, by omega, by go_num, below_drewN hnx _, take_same_succ (by rw [HX.out]; exact hlt) (by rw [HY.out]; exact hlt) HA.out (by simpa using he)⟩
     case measure => simp [intOf]; omega
    go_wp2
    go_ret
    exact ⟨ret_bool (by rw [eqB_false (k := k) (by simpa using he)]), below_drewN hnx _⟩
   go_wp2
   go_ret
   exact ⟨ret_bool (by rw [eqB_true HX.out HY.out (by omega) HA.out]), hnx⟩
 have hne : ((n : Int) != (m : Int)) = true := by simp; omega
 go_enter Tryz.func29, Tryz.ntmps29
 go_wp2
 go_ret
 exact ⟨ret_bool (by rw [eqB_len (by rw [HX.out, HY.out]; exact hc)]), Below.refl _ _⟩
theorem sval_any (zs : List Int) {w : World} (h : Ints w a n zs) (hn : n <= 1048576) :
  Calls Tryz.prog 65 #[.slice a n cap] w fun e w' => e = .returned (.bool (okN 3 10000 n zs)) /\ w' = w := by
 go_enter Tryz.func65, Tryz.ntmps65
 go_wp2_with fail
 refine (all_any zs _ _ h hn).mono ?_;rintro e w' ⟨rfl, rfl⟩
 go_wp2
 go_ret
 exact ⟨rfl, rfl⟩
theorem sarg_any (zs : List Int) {w : World} (h : Ints w a n zs) (hn : n <= 1048576) :
  Calls Tryz.prog 39 #[.slice a n cap] w fun e w' => e = .returned (.bool (okN 2 9 n zs)) /\ w' = w := by
 go_enter Tryz.func39, Tryz.ntmps39
 go_wp2_with fail
 refine (all_any zs _ _ h hn).mono ?_;rintro e w' ⟨rfl, rfl⟩
 go_wp2
 go_ret
 exact ⟨rfl, rfl⟩
theorem ival_any (zs : List Int) {w : World} (h : Ints w a n zs) (hn : n <= 1048576) :
  Calls Tryz.prog 105 #[.slice a n cap] w fun e w' => e = .returned (.bool (okN 3 10000 n zs)) /\ w' = w := by
 by_cases hc : (n : Int) = 3
 ·have hc' : ((n : Int) == 3) = true := by simp [hc]
  have HC : Hid ((n : Int) = 3) := hc;clear hc
  go_enter Tryz.func105, Tryz.ntmps105
  go_wp2_with fail
  refine (within_any _ _ _ zs h hn).mono ?_;rintro e w' ⟨rfl, rfl⟩
  go_wp2
  go_ret
  exact ⟨ret_bool (by rw [okN_is HC.out]), rfl⟩
 have hc' : ((n : Int) == 3) = false := by simpa using hc
 go_enter Tryz.func105, Tryz.ntmps105
 go_wp2
 go_ret
 exact ⟨ret_bool (by rw [okN_not hc]), rfl⟩
theorem iarg_any (zs : List Int) {w : World} (h : Ints w a n zs) (hn : n <= 1048576) :
  Calls Tryz.prog 83 #[.slice a n cap] w fun e w' => e = .returned (.bool (okN 2 9 n zs)) /\ w' = w := by
 by_cases hc : (n : Int) = 2
 ·have hc' : ((n : Int) == 2) = true := by simp [hc]
  have HC : Hid ((n : Int) = 2) := hc;clear hc
  go_enter Tryz.func83, Tryz.ntmps83
  go_wp2_with fail
  refine (within_any _ _ _ zs h hn).mono ?_;rintro e w' ⟨rfl, rfl⟩
  go_wp2
  go_ret
  exact ⟨ret_bool (by rw [okN_is HC.out]), rfl⟩
 have hc' : ((n : Int) == 2) = false := by simpa using hc
 go_enter Tryz.func83, Tryz.ntmps83
 go_wp2
 go_ret
 exact ⟨ret_bool (by rw [okN_not hc]), rfl⟩
end Go.Proofs.YtfmpcihghlnlnaaGreatDoor
