/-
  Lemmas that the claim's last text rests on.
-/
import Derived.Maps.OwnSet
import Derived.Maps.RangeWalk
import Derived.WideKeyArr2
import Derived.Lib.SlBuf
import Derived.Laws.IdiomCopy
import Derived.Test.YtfmpcihghlnlnaaGreatDoorQX
import Derived.Test.YtfmpcihghlnlnaaGreatDoorQW
namespace Go.Proofs.YtfmpcihghlnlnaaGreatDoor
open Go.RowKit Go.Deep
open Go.WideMaps (ArrKey)
open Option.some renaming injEq → qA
open List renaming getElem?_eq_getElem → qB, getElem?_cons_zero → qC, length_append → qD, take_of_length_le → qE, take_succ_eq_append_getElem → qF
open Nat renaming le_refl → qG, zero_le → qH
set_option linter.unusedVariables false
set_option maxRecDepth 100000
set_option maxHeartbeats 25600000
variable {B G N cap k n : Nat} {W W' w : World} {p : List Int} {ps : List (List Int)} {ts : List IV}
theorem copiesL_same {fs gs hs : List LV} (hg : gs.length = N) (hh : hs.length = N) (h1 : copiesL fs gs) (h2 : copiesL fs hs) : ∀ i, i < N -> sameL (gs[i]?.getD noLV) (hs[i]?.getD noLV) := fun i hi => by
 obtain ⟨a1, a2, a3, a4, a5, a6, _⟩ := h1 i (by omega);obtain ⟨b1, b2, b3, b4, b5, b6, _⟩ := h2 i (by omega);refine ⟨by rw [a1, b1], by rw [a2, b2], by rw [a3, b3], ?_⟩;rw [a4, a5, a6, b4, b5, b6]
 exact eqF_refl
theorem copiesL_map {α : Type} (P : LV -> α) (hP : ∀ f g : LV, f.kind = g.kind -> f.pot = g.pot -> f.skip = g.skip -> f.f.C = g.f.C -> f.f.D = g.f.D -> f.f.K = g.f.K -> f.f.n = g.f.n -> f.f.m = g.f.m -> P f = P g) {fs gs : List LV} (hl : gs.length = fs.length) (h : copiesL fs gs) : gs.map P = fs.map P := by
 apply List.ext_getElem?
 intro i
 by_cases hi : i < gs.length
 ·obtain ⟨a1, a2, a3, a4, a5, a6, a7, a8⟩ := h i hi;have := hP _ _ a1 a2 a3 a4 a5 a6 a7 a8;rw [qB hi, qB (by omega)] at this;simp only [Option.getD_some] at this;rw [List.getElem?_map, List.getElem?_map, qB hi, qB (by omega)];simp [this]
 rw [List.getElem?_eq_none (by simp; omega), List.getElem?_eq_none (by simp; omega)]
theorem copiesL_act {fs gs : List LV} (hl : gs.length = fs.length) (h : copiesL fs gs) : actB N gs = actB N fs := by
 have h1 := copiesL_map LV.ok (fun f g a1 a2 a3 a4 a5 a6 a7 a8 => by simp only [LV.ok, a1, a2, a3, a4, a5, a6, a7, a8]) hl h;have h2 := copiesL_map LV.tst (fun f g a1 a2 a3 a4 a5 a6 a7 a8 => by simp only [LV.tst, a1]) hl h;have e1 : ∀ xs : List LV, xs.all LV.ok = (xs.map LV.ok).all id := fun xs => by simp [List.all_map]
 have e2 : ∀ xs : List LV, tests xs = (xs.map LV.tst).countP id := fun xs => by simp [tests, List.countP_map]
 rw [actB, actB, e1, e1, e2, e2, h1, h2]
def L2V.ok (s : L2V) : Bool := actB s.n s.x
def catB (N : Nat) (ss : List L2V) : Bool := inB N 1 4 && ss.all L2V.ok
theorem allC_take_succ {ls : List L2V} (h : k < ls.length) (h1 : (ls.take k).all L2V.ok = true) (h2 : (ls[k]?.getD noL).ok = true) : (ls.take (k + 1)).all L2V.ok = true := by
 rw [qF h, List.all_append, h1];rw [qB h] at h2;simpa using h2
theorem allC_no {ls : List L2V} (h : k < ls.length) (h2 : (ls[k]?.getD noL).ok = false) : ls.all L2V.ok = false := by
 rw [List.all_eq_false];rw [qB h] at h2
 exact ⟨ls[k], List.getElem_mem h, by simpa using h2⟩
theorem scat_any {ad : Option Addr} (ss : List L2V) {w : World} (hN : ss.length = N) (hF : LSG w ad ss) (hN1 : N <= 1048576) :
  Calls Tryz.prog 38 #[.slice ad N cap] w fun e w' => e = .returned (.bool (catB N ss)) /\ Below w.heap.size w w' := by
 have HN : Hid (ss.length = N) := hN;clear hN
 cases hib : inB N 1 4
 ·go_enter Tryz.func38, Tryz.ntmps38
  go_wp2_with fail
  refine (in_any).mono ?_;rintro e w1 ⟨rfl, rfl⟩;rw [hib]
  go_wp2
  go_ret
  exact ⟨ret_bool (by rw [catB, hib]; rfl), Below.refl _ _⟩
 go_enter Tryz.func38, Tryz.ntmps38
 go_wp2_with fail
 refine (in_any).mono ?_;rintro e w1 ⟨rfl, hw1⟩;rw [hib, hw1];clear hw1
 go_wp2_with fail
 have HCB : Hid (catB N ss = ss.all L2V.ok) := by show catB N ss = _; rw [catB, hib]; rfl
 go_loopw [3] (fun  i wr => ∃ k : Nat, k <= N /\ i = .int .i64 k /\ Below w.heap.size w wr /\ (ss.take k).all L2V.ok = true) (fun i _ => N - (intOf i).toNat)
 case atStart => exact ⟨0, qH _, rfl, Below.refl _ _, by simp⟩
 case round =>
  obtain ⟨k, hk, rfl, hb, hall⟩ := hrel;have HA : Hid ((ss.take k).all L2V.ok = true) := hall;clear hall
  by_cases hlt : k < N
  ·obtain ⟨b, off, rfl, hc, hr⟩ := (hF.below hb) k (by rw [HN.out]; exact hlt);generalize HG : ss[k]?.getD noL = g at *;have HG' : Hid (ss[k]?.getD noL = g) := HG;clear HG hF;obtain ⟨ga, gn, gcap, gx⟩ := g;have hc' : wr.cell? ⟨b, off + k, none⟩ = some (.slice ga gn gcap) := hc;clear hc
   cases hf : actB gn gx
   ·go_wp2_with fail
    refine (sact_any gx hr.1 hr.2.1 hr.2.2).mono ?_;rintro e w1 ⟨rfl, b1⟩;rw [hf]
    go_wp2
    go_ret
    exact ⟨ret_bool (by rw [HCB.out, allC_no (k := k) (by rw [HN.out]; exact hlt) (by rw [HG'.out]; exact hf)]), btr hb b1⟩
   go_wp2_with fail
   refine (sact_any gx hr.1 hr.2.1 hr.2.2).mono ?_;rintro e w1 ⟨rfl, b1⟩;rw [hf]
   go_wp2
   go_roundw
   case rel => exact ⟨k + 1, by omega, by go_num, btr hb b1, allC_take_succ (by rw [HN.out]; exact hlt) HA.out (by rw [HG'.out]; exact hf)⟩
   case measure => simp [intOf]; omega
  go_wp2
  go_ret
  exact ⟨ret_bool (by rw [HCB.out]; have := HA.out; rw [qE (by rw [HN.out]; omega)] at this; exact this.symm), hb⟩
theorem icat_any (ad : Option Addr) (N cap : Nat) (ss : List L2V) {w : World} (hN : ss.length = N) (hF : LSG w ad ss) (hN1 : N <= 1048576) :
  Calls Tryz.prog 75 #[.slice ad N cap] w fun e w' => e = .returned (.bool (catB N ss)) /\ Below w.heap.size w w' := by
 have HN : Hid (ss.length = N) := hN;clear hN
 by_cases h1 : N < 1
 ·have hib : inB N 1 4 = false := inB_not.2 (by omega)
  go_enter Tryz.func75, Tryz.ntmps75
  go_wp2
  go_ret
  exact ⟨ret_bool (by rw [catB, hib]; rfl), Below.refl _ _⟩
 by_cases h4 : 4 < N
 ·have hib : inB N 1 4 = false := inB_not.2 (by omega)
  go_enter Tryz.func75, Tryz.ntmps75
  go_wp2
  go_ret
  exact ⟨ret_bool (by rw [catB, hib]; rfl), Below.refl _ _⟩
 have hib : inB N 1 4 = true := inB_iff.2 (by omega)
 go_enter Tryz.func75, Tryz.ntmps75
 go_wp2_with fail
 have HCB : Hid (catB N ss = ss.all L2V.ok) := by show catB N ss = _; rw [catB, hib]; rfl
 go_loopw [4, 15] (fun _ i wr => ∃ k : Nat, k <= N /\ i = .int .i64 k /\ Below w.heap.size w wr /\ (ss.take k).all L2V.ok = true) (fun _ i _ => N - (intOf i).toNat)
 case atStart => exact ⟨0, qH _, rfl, Below.refl _ _, by simp⟩
 case round =>
  obtain ⟨k, hk, rfl, hb, hall⟩ := hrel;have HA : Hid ((ss.take k).all L2V.ok = true) := hall;clear hall
  by_cases hlt : k < N
  ·obtain ⟨b, off, rfl, hc, hr⟩ := (hF.below hb) k (by rw [HN.out]; exact hlt);generalize HG : ss[k]?.getD noL = g at *;have HG' : Hid (ss[k]?.getD noL = g) := HG;clear HG hF;obtain ⟨ga, gn, gcap, gx⟩ := g;have hc' : wr.cell? ⟨b, off + k, none⟩ = some (.slice ga gn gcap) := hc;clear hc
   cases hf : actB gn gx
   ·go_wp2_with fail
    refine (iact_any _ _ _ gx hr.1 hr.2.1 hr.2.2).mono ?_;rintro e w1 ⟨rfl, b1⟩;rw [hf]
    go_wp2
    go_ret
    exact ⟨ret_bool (by rw [HCB.out, allC_no (k := k) (by rw [HN.out]; exact hlt) (by rw [HG'.out]; exact hf)]), btr hb b1⟩
   go_wp2_with fail
   refine (iact_any _ _ _ gx hr.1 hr.2.1 hr.2.2).mono ?_;rintro e w1 ⟨rfl, b1⟩;rw [hf]
   go_wp2
   go_roundw
   case rel => exact ⟨k + 1, by omega, by go_num, btr hb b1, allC_take_succ (by rw [HN.out]; exact hlt) HA.out (by rw [HG'.out]; exact hf)⟩
   case measure => simp [intOf]; omega
  go_wp2
  go_ret
  exact ⟨ret_bool (by rw [HCB.out]; have := HA.out; rw [qE (by rw [HN.out]; omega)] at this; exact this.symm), hb⟩
def addPb (ps : List (List Int)) (p : List Int) : List (List Int) := if p ∈ ps \/ p = [0, 0, 0] then ps else ps ++ [p]
def guardsP (ps : List (List Int)) (fs : List Frm) : List (List Int) := fs.foldl (fun ps f => addPb ps (partL f.1)) ps
def rowsP (ps : List (List Int)) (rs : List RowM) : List (List Int) := rs.foldl (fun ps r => guardsP ps r.guards) ps
def actsP (ps : List (List Int)) (ss : List L2V) : List (List Int) := ss.foldl (fun ps s => rowsP ps (rowsL s.x)) ps
def pots3 : List (List Int) := [[1, 0, 0], [0, 1, 0], [0, 0, 1]]
def catP (ss : List L2V) : List (List Int) := actsP pots3 ss
def pinsA (ss : List L2V) (v : Nat) : Bool := ss.any fun s => readsR (rowsL s.x) v
theorem foldl_take {α β : Type} {f : β -> α -> β} {b : β} {xs : List α} {d : α} (h : k < xs.length) : (xs.take (k + 1)).foldl f b = f ((xs.take k).foldl f b) (xs[k]?.getD d) := by
 rw [qF h, List.foldl_append, qB h]; rfl
theorem guardsP_snoc (ps : List (List Int)) (fs : List Frm) (k : Nat) (h : k < fs.length) : guardsP ps (fs.take (k + 1)) = addPb (guardsP ps (fs.take k)) (partL (fs[k]?.getD ([], [], 0)).1) := foldl_take h
theorem rowsP_snoc {rs : List RowM} (h : k < rs.length) : rowsP ps (rs.take (k + 1)) = guardsP (rowsP ps (rs.take k)) (rs[k]?.getD noR).guards := foldl_take h
theorem actsP_snoc {ss : List L2V} (h : k < ss.length) : actsP ps (ss.take (k + 1)) = rowsP (actsP ps (ss.take k)) (rowsL (ss[k]?.getD noL).x) := foldl_take h
theorem pinsA_snoc (ss : List L2V) (k : Nat) (h : k < ss.length) (v : Nat) : pinsA (ss.take (k + 1)) v = (pinsA (ss.take k) v || readsR (rowsL (ss[k]?.getD noL).x) v) := by
 rw [pinsA, qF h, List.any_append, qB h];simp [pinsA]
theorem has_mem (p : List Int) : ∀ (ps : List (List Int)) (k : Nat), (hasFrom p k ps < 0 ↔ p ∉ ps)
 | [], k => by simp [hasFrom]
 | q :: ps, k => by
  rw [hasFrom]
  by_cases e : q = p
  ·subst e; simp [eqB]
  have h1 : eqB q p = false := by simp [eqB, e]
  rw [h1];have := has_mem p ps (k + 1);simp only [Bool.false_eq_true, if_false, this, List.mem_cons, not_or]
  exact ⟨fun h => ⟨fun h2 => e h2.symm, h⟩, fun h => h.2⟩
theorem addP_has (h : ¬ hasFrom p 0 ps < 0) : addPb ps p = ps := by
 rw [has_mem] at h;rw [addPb, if_pos (.inl (Classical.not_not.1 h))]
theorem addP_zero (h : p = [0, 0, 0]) : addPb ps p = ps := by rw [addPb, if_pos (.inr h)]
theorem addP_new (h : hasFrom p 0 ps < 0) (h2 : p ≠ [0, 0, 0]) : addPb ps p = ps ++ [p] := by
 rw [has_mem] at h;rw [addPb, if_neg (by rintro (h' | h'); exact h h'; exact h2 h')]
theorem Ints.blkB {b off : Nat} {zs : List Int} (h : Ints w (some ⟨b, off, none⟩) n zs) (hn : 0 < n) : b < w.heap.size := by
 obtain ⟨b', o', e, hc⟩ := h.2 0 hn;simp only [qA, Addr.mk.injEq, and_true] at e;obtain ⟨rfl, rfl⟩ := e
 exact block_lt hc
structure JP (w : World) (G cap : Nat) (ts : List IV) (W : World) : Prop where
 b : Below w.heap.size w W
 o : W.ownsRow w.heap.size 23 1 (.slice (some ⟨G, 0, none⟩) ts.length cap) ts.length (ts.map IV.v)
 k : ∀ j, j < ts.length -> (ts[j]?.getD noI).n = 3 /\ Ints W (ts[j]?.getD noI).a 3 (ts[j]?.getD noI).x /\ ∀ b o, (ts[j]?.getD noI).a = some ⟨b, o, none⟩ -> b ≠ G
theorem JP.nil (w W : World) (hb : Below w.heap.size w W) : JP w W.heap.size 0 [] (W.alloc (.cells #[] 23)) :=
 ⟨hb.alloc hb.size _, World.ownsRow_lit W #[] 0 hb.size (by unfold maxLen; omega) rfl, fun j hj => by simp at hj⟩
theorem JP.below (j : JP w G cap ts W) (h : Below W.heap.size W W') : JP w G cap ts W' :=
 ⟨j.b.trans (h.mono j.b.size), own_below j.o h, fun i hi => by obtain ⟨a, b, c⟩ := j.k i hi; exact ⟨a, b.below h, c⟩⟩
theorem JP.lt (j : JP w G cap ts W) : w.heap.size <= G /\ G < W.heap.size := by
 rcases j.o.2 with ⟨h, _⟩ | ⟨g, cap', cur, h, hg, hh, _⟩
 ·cases h
 simp only [Value.slice.injEq, qA, Addr.mk.injEq, and_true, true_and] at h;obtain ⟨rfl, _⟩ := h
 exact ⟨hg, lt_of_block hh⟩
theorem JP.g (j : JP w G cap ts W) : ISG W (some ⟨G, 0, none⟩) ts := fun i hi => by
 obtain ⟨h1, h2, h3⟩ := j.k i hi;refine ⟨G, 0, rfl, ?_, ?_, by omega⟩
 ·rw [Nat.zero_add, own_cell j.o i (by omega), List.getElem?_map, qB hi]; rfl
 rw [h1]; exact h2
theorem JP.app {g cp : Nat} {s : IV} {o : Obj} (j : JP w G cap ts W) (hk : ts.length = k) (hs : s.n = 3) (hI : Ints W s.a 3 s.x) (hb : ∀ b o, s.a = some ⟨b, o, none⟩ -> b ≠ G)
  (hown : W'.ownsRow w.heap.size 23 1 (.slice (some ⟨g, 0, none⟩) (k + 1) cp) (k + 1) (ts.map IV.v ++ [s.v])) (hg : (W.alloc o).grownBy W' (some G)) (hat : g = G \/ W.heap.size <= g) : JP w g cp (ts ++ [s]) W' := by
 subst hk;have A : Below W.heap.size W (W.alloc o) := bal;have ja := j.below A;have T : Touch (fun y => y = G) (W.alloc o) W' := ⟨hg.os, hg.tape, hg.output, hg.size, fun z hz hn => hg.block z hz (fun e => hn (by simpa using e))⟩
 have key : ∀ (a : Option Addr) (x : List Int), Ints W a 3 x -> (∀ b o, a = some ⟨b, o, none⟩ -> b ≠ G) -> Ints W' a 3 x /\ ∀ b o, a = some ⟨b, o, none⟩ -> b ≠ g := fun a x h1 h2 => by
  refine ⟨(h1.below A).offC (fun b o e => h2 b o e) T, fun b o e => ?_⟩;have h3 := h2 b o e;subst e;have := h1.blkB (by omega)
  omega
 refine ⟨ja.b.grown hg ja.b.size (fun z hz => ?_), ?_, fun i hi => ?_⟩
 ·have := j.lt;simp only [qA] at hz
  omega
 ·rw [qD, List.map_append]; exact hown
 by_cases h : i < ts.length
 ·rw [List.getElem?_append_left h];obtain ⟨a, b, c⟩ := j.k i h
  exact ⟨a, key _ _ b c⟩
 rw [qD, List.length_singleton] at hi;obtain rfl : i = ts.length := by omega
 rw [List.getElem?_append_right (qG _), Nat.sub_self]
 exact ⟨hs, key _ _ hI hb⟩
abbrev kV (a b c : Int) : Value := .agg #[.int .i64 a, .int .i64 b, .int .i64 c]
abbrev KT : TypeId := 163
theorem arr3 : ArrKey Tryz.prog KT 3 3 := ⟨Tryz.underlying163, by kernel_rfl, by kernel_rfl, by kernel_rfl⟩
theorem law3 : Maps.Keyed Tryz.prog KT := Maps.Keyed.of_law arr3.law
theorem szT : ∃ m, Tryz.prog.types.size = m + 1 := ⟨Tryz.prog.types.size - 1, by have h : (0 : Nat) < Tryz.prog.types.size := of_decide_eq_true (by kernel_rfl); omega⟩
def kL (a b c : Int) : Lit := .string (keyBytes [.int .i64 a, .int .i64 b, .int .i64 c])
theorem keyOf_three {a b c : Int} (wa : (Lit.int .i64 a).wf = true) (wb : (Lit.int .i64 b).wf = true) (wc : (Lit.int .i64 c).wf = true) : keyOf Tryz.prog KT (kV a b c) = some (kL a b c) := by
 have hkt := arr3.keyType szT;obtain ⟨m, hm⟩ := szT;unfold keyOf;simp only [arr3.hu];rw [if_pos (by simp [hkt, Value.formed, arr3.hu, arr3.size]), hm];unfold Program.keyLits;simp only [arr3.hu, Value.cells];rw [if_pos (by rw [arr3.size]; rfl), show List.range 3 = [0, 1, 2] from rfl, List.mapM_cons, List.mapM_cons, List.mapM_cons, List.mapM_nil];simp [arr3.one, Program.keyLits, Tryz.underlying3, wa, wb, wc, kL]
theorem lit_one {m : Nat} {x : Value} {L : List Lit} (h : Tryz.prog.keyLits (m + 1) 3 [x] = some L) : ∃ a, x = .int .i64 a /\ (Lit.int .i64 a).wf = true /\ L = [.int .i64 a] := by
 unfold Program.keyLits at h;simp only [Tryz.underlying3] at h
 split at h
 all_goals first
  | (cases h; done)
  | skip
 all_goals simp_all
theorem inv3 {key : Value} {kl : Lit} (h : keyOf Tryz.prog KT key = some kl) : ∃ a b c, key = kV a b c /\ kl = kL a b c /\ (Lit.int .i64 a).wf = true /\ (Lit.int .i64 b).wf = true /\ (Lit.int .i64 c).wf = true := by
 obtain ⟨xs, L, rfl, hl, rfl⟩ := keyOf_top arr3.wide h;obtain ⟨m, hm⟩ := szT;rw [hm] at hl;unfold Program.keyLits at hl;simp only [arr3.hu] at hl
 split at hl
 ·rename_i hlen
  rw [arr3.size] at hlen
  obtain ⟨x, y, z, rfl⟩ : ∃ x y z, xs = #[x, y, z] := by
   match xs, hlen with
   | ⟨[x, y, z]⟩, _ => exact ⟨x, y, z, rfl⟩
  rw [show List.range 3 = [0, 1, 2] from rfl, List.mapM_cons, List.mapM_cons, List.mapM_cons, List.mapM_nil] at hl;simp only [arr3.one, bind, pure, Option.map_eq_some_iff, Option.bind_eq_some_iff] at hl;obtain ⟨aa, ⟨l0, h0, l1', ⟨l1, h1, l2', ⟨l2, h2, l3, e3, e2⟩, e1⟩, e0⟩, rfl⟩ := hl;simp only [qA] at e3 e2 e1 e0;subst e3 e2 e1 e0;obtain ⟨a, rfl, wa, rfl⟩ := lit_one (m := m) (x := x) (by simpa using h0);obtain ⟨b, rfl, wb, rfl⟩ := lit_one (m := m) (x := y) (by simpa using h1);obtain ⟨c, rfl, wc, rfl⟩ := lit_one (m := m) (x := z) (by simpa using h2)
  exact ⟨a, b, c, rfl, rfl, wa, wb, wc⟩
 cases hl
def kP (p : List Int) : Lit := kL (p[0]?.getD 0) (p[1]?.getD 0) (p[2]?.getD 0)
def wfP (p : List Int) : Prop := p.length = 3 /\ ∀ i, i < 3 -> (Lit.int .i64 (p[i]?.getD 0)).wf = true
theorem keyOf_P (h : wfP p) : keyOf Tryz.prog KT (kV (p[0]?.getD 0) (p[1]?.getD 0) (p[2]?.getD 0)) = some (kP p) := keyOf_three (h.2 0 (by omega)) (h.2 1 (by omega)) (h.2 2 (by omega))
theorem three_eq (h : p.length = 3) : p = [p[0]?.getD 0, p[1]?.getD 0, p[2]?.getD 0] := by
 match p, h with
 | [a, b, c], _ => rfl
theorem kP_inj {q : List Int} (hp : wfP p) (hq : wfP q) (h : kP p = kP q) : p = q := by
 have := law3.inj (keyOf_P hp) (h ▸ keyOf_P hq);simp only [kV, Value.agg.injEq, Array.mk.injEq, List.cons.injEq, Value.int.injEq, true_and, and_true] at this;obtain ⟨h0, h1, h2⟩ := this;rw [three_eq hp.1, three_eq hq.1, h0, h1, h2]
theorem wf_wrap {z : Int} : (Lit.int .i64 (wrap64 z)).wf = true := wrap64_wf z
theorem wfP_part {C : List Int} (h : C.length = 3) : wfP (partL C) := by
 refine ⟨by rw [part_len, h], fun i hi => ?_⟩;rw [partL, mulW_get (by omega)]
 exact wf_wrap
theorem key_lit (p : List Int) : WideAt.IsKeyLit (kP p) := trivial
structure MapIs (D : DataW Unit) (ps : List (List Int)) : Prop where
 sz : Maps.size D = ps.length
 ix : ∀ j, j < ps.length -> ∀ z, D.atKey (kP (ps[j]?.getD [])) z = .lit (.int .i64 j)
 has : ∀ p, wfP p -> (Maps.has D (kP p) = true ↔ p ∈ ps)
 wf : ∀ p ∈ ps, wfP p
theorem MapIs.empty : MapIs (.map []) [] := ⟨rfl, fun j hj => by simp at hj, fun p _ => by simp [Maps.has], fun p hp => by simp at hp⟩
theorem MapIs.put {D : DataW Unit} (h : MapIs D ps) (hT : Maps.Tidy D) (hp : wfP p) (hn : p ∉ ps) : MapIs (D.put (kP p) (.lit (.int .i64 (ps.length : Int)))) (ps ++ [p]) := by
 have hno : Maps.has D (kP p) = false := by
  cases hh : Maps.has D (kP p) with
  | false => rfl
  | true => exact absurd ((h.has p hp).1 hh) hn
 refine ⟨?_, fun j hj z => ?_, fun q hq => ?_, fun q hq => ?_⟩
 ·rw [Maps.size_put hT, hno, h.sz]; simp
 ·by_cases e : j < ps.length
  ·have hm : ps[j]?.getD [] ∈ ps := by rw [qB e]; exact List.getElem_mem e
   rw [List.getElem?_append_left e, Maps.atKey_put_other (fun e2 => hn (by rw [<- kP_inj (h.wf _ hm) hp e2]; exact hm))]
   exact h.ix j e z
  rw [qD, List.length_singleton] at hj;obtain rfl : j = ps.length := by omega
  rw [List.getElem?_append_right (qG _), Nat.sub_self]
  exact Maps.atKey_put_same hT.isMap (key_lit p) _ z
 ·by_cases e : q = p
  ·subst e;simp [Maps.has_put_same hT.isMap (key_lit q)]
  rw [Maps.has_put_other (fun e2 => e (kP_inj hq hp e2)), h.has q hq];simp [e]
 rcases List.mem_append.1 hq with hq | hq
 ·exact h.wf q hq
 simp only [List.mem_cons, List.not_mem_nil, or_false] at hq;subst hq; exact hp
abbrev ET : TypeId := 3
abbrev OwnM (W : World) (B n : Nat) (D : DataW Unit) : Prop := W.ownsMap Tryz.prog KT (plainElem Tryz.prog ET) B n D
theorem OwnM.no {D : DataW Unit} (h : OwnM W B n D) : ∀ o, W.cell? ⟨B, o, none⟩ = none := fun o => by
 obtain ⟨es, clock, hb, _⟩ := h;simp [World.cell?, hb]
theorem FormsAt.pastM {D : DataW Unit} {a : Option Addr} {fs : List Frm} (h : FormsAt W a fs) (m : OwnM W B n D) (t : Touch (fun z => z = B) W W') : FormsAt W' a fs :=
 h.past (fun o v hv => by rw [m.no o] at hv; cases hv) t
theorem touch_grownQ (h : W.grownBy W' (some B)) : Touch (fun z => z = B) W W' := ⟨h.os, h.tape, h.output, h.size, fun z hz hn => h.block z hz (fun e => hn (by simpa using e))⟩
theorem OwnM.below {D : DataW Unit} (h : OwnM W B n D) (b : Below W.heap.size W W') : OwnM W' B n D := by
 obtain ⟨es, clock, hb, r⟩ := h
 exact ⟨es, clock, (b.block B (lt_of_block hb)).trans hb, r⟩
theorem OwnM.touch {S : Nat -> Prop} {D : DataW Unit} (h : OwnM W B n D) (t : Touch S W W') (hn : ¬ S B) : OwnM W' B n D := by
 obtain ⟨es, clock, hb, r⟩ := h
 exact ⟨es, clock, (t.block B (lt_of_block hb) hn).trans hb, r⟩
theorem zeroE : (zeroValue ET).run Tryz.prog w = .ok (.int .i64 0) w := by kernel_rfl
theorem three_set {P : Nat} {vs : List Value} {t : TypeId} (h : Cel W P vs t) (hl : vs.length = 3) (x y z : Value) : Cel (W.setCells P 0 [x, y, z]) P [x, y, z] t /\ Touch (fun k => k = P) W (W.setCells P 0 [x, y, z]) := by
 simp only [World.setCells];refine ⟨?_, (((Touch.refl (fun k => k = P) W).setCell rfl _).setCell rfl _).setCell rfl _⟩;have := ((h.set 0 x).set 1 y).set 2 z
 match vs, hl with
 | [a, b, c], _ => exact this
theorem eq3 (hp : wfP p) (w : World) : ∃ r : Bool, (Op.equalIn 10000 KT (kV (p[0]?.getD 0) (p[1]?.getD 0) (p[2]?.getD 0)) (kV 0 0 0)).run Tryz.prog w = .ok r w /\ (r = true ↔ p = [0, 0, 0]) := by
 have h0 : wfP [0, 0, 0] := ⟨rfl, fun i hi => by
  match i, hi with
  | 0, _ => rfl
  | 1, _ => rfl
  | 2, _ => rfl⟩
 obtain ⟨r, h1, h2⟩ := run_equal_deep w (m := 2) (by omega) (arr3.at 0) arr3.wide (keyOf_P hp) (keyOf_P h0)
 exact ⟨r, h1, h2.trans ⟨fun h => kP_inj hp h0 h, fun h => by rw [h]⟩⟩
theorem iput_any (B n : Nat) (D : DataW Unit) (ps : List (List Int)) (ad : Option Addr) (N cap : Nat) (fs : List Frm) (w : World) (hm : OwnM w B n D) (hD : MapIs D ps) (hn : n <= 1000000000) (hN : fs.length = N) (hF : FormsAt w ad fs) (hfit : ∀ k, k < N -> fitX 10000000 (fs[k]?.getD ([], [], 0))) (hN1 : N <= 1048576 := by omega) :
  Calls Tryz.prog 106 #[.map (some B), .slice ad N cap] w fun e w' => (∃ v, e = .returned v) /\ Touch (fun z => z = B) w w' /\ ∃ D', OwnM w' B (n + N) D' /\ MapIs D' (guardsP ps fs) := by
 have HN : Hid (fs.length = N) := hN;have HF : Hid (FormsAt w ad fs) := hF;have HFT : Hid _ := hfit;have HM : Hid (OwnM w B n D) := hm;have HD : Hid (MapIs D ps) := hD;have hBw : B < w.heap.size := hm.lt;clear hN hF hfit hm hD
 go_enter Tryz.func106, Tryz.ntmps106
 go_wp2_with fail
 go_loopw [5, 6, 7, 8, 9, 12] (fun _ _ _ _ _ i wr => ∃ (k : Nat) (D : DataW Unit), k <= N /\ i = .int .i64 k /\ Touch (fun z => z = B) w wr /\ OwnM wr B (n + k) D /\ MapIs D (guardsP ps (fs.take k))) (fun _ _ _ _ _ i _ => N - (intOf i).toNat)
 case atStart => exact ⟨0, D, qH _, rfl, Touch.refl _ _, HM.out, HD.out⟩
 case round =>
  clear HD;obtain ⟨k, D1, hk, rfl, t, m, d⟩ := hrel;have HD : Hid (MapIs D1 (guardsP ps (fs.take k))) := d;clear d
  by_cases hlt : k < N
  ·have hlt' : (k : Int) < N := by omega
   have hkl : k < fs.length := by rw [HN.out]; exact hlt
   have HS : Hid (guardsP ps (fs.take (k + 1)) = addPb (guardsP ps (fs.take k)) (partL (fs[k]?.getD ([], [], 0)).1)) := guardsP_snoc ps fs k hkl;have HW : Hid (wfP (partL (fs[k]?.getD ([], [], 0)).1)) := wfP_part (HFT.out k hlt).1;obtain ⟨b, off, rfl, a', c', ca, cc, c0, c1, c2, iC, iD⟩ := (HF.out.pastM HM.out t) k hkl;generalize (fs[k]?.getD ([], [], 0)).1 = C at *;generalize (fs[k]?.getD ([], [], 0)).2.2 = kz at *;generalize guardsP ps (fs.take k) = qs at *;have lB : B < wr.heap.size := m.lt;have b1 : Below wr.heap.size wr ((wr.alloc (.cells #[.slice a' 3 ca, .slice c' 2 cc, .int .i64 kz] 106)).alloc (.cells #[.int .i64 0, .int .i64 0, .int .i64 0] KT)) := (bal).alloc (by simp) _;have fb := (Cel.new wr [.slice a' 3 ca, .slice c' 2 cc, .int .i64 kz] 106).alloc (.cells #[.int .i64 0, .int .i64 0, .int .i64 0] KT);have pb := Cel.new (wr.alloc (.cells #[.slice a' 3 ca, .slice c' 2 cc, .int .i64 kz] 106)) [.int .i64 0, .int .i64 0, .int .i64 0] KT;rw [World.size_alloc] at pb
   go_upto_region 4 with fail
   obtain ⟨Z, hZ⟩ : ∃ Z, Z = (wr.alloc (.cells #[.slice a' 3 ca, .slice c' 2 cc, .int .i64 kz] 106)).alloc (.cells #[.int .i64 0, .int .i64 0, .int .i64 0] KT) := ⟨_, rfl⟩
   rw [<- hZ] at b1 fb pb ⊢;clear hZ c0 c1 c2;have KP : Hid (∀ W, Below Z.heap.size Z W -> (W.cell? ⟨wr.heap.size, 0, none⟩ = some (.slice a' 3 ca) /\ W.cell? ⟨wr.heap.size, 1, none⟩ = some (.slice c' 2 cc) /\ W.cell? ⟨wr.heap.size, 2, none⟩ = some (.int .i64 kz))) := fun W hW => ⟨(fb.below hW).cell 0, (fb.below hW).cell 1, (fb.below hW).cell 2⟩
   have e0 : Below Z.heap.size Z Z.drew := (Below.refl _ _).drew;have hSS := And.intro (KP.out _ e0) (True.intro);have lP := pb.lt;refine wp_region_ends (fun w' => w'.cell? ⟨wr.heap.size, 0, none⟩ = some (.slice a' 3 ca) /\ w'.cell? ⟨wr.heap.size, 1, none⟩ = some (.slice c' 2 cc) /\ w'.cell? ⟨wr.heap.size, 2, none⟩ = some (.int .i64 kz)) (fun _ => True) 3 (by kernel_rfl) ?_;refine tkl 0 rfl hSS ?_;refine tkl 1 rfl hSS ?_;simp only [Act.put, List.setIfInBounds_toArray, List.set_cons_succ, List.set_cons_zero, List.getElem_toArray, List.getElem_cons_succ, List.getElem_cons_zero];clear hSS;refine wo1 2 rfl fun K hK => ?_;go_simp;refine (ipart_any 3 2 C ((iC.below b1).below e0)).mono ?_;rintro ee w4 ⟨rfl, bd4, k4⟩;have b4 : Below Z.heap.size Z w4 := btr e0 bd4;have zd : Z.drew.heap.size = Z.heap.size := rfl;rw [zd] at k4;(try dsimp only);refine kk0 hK (KP.out _ b4) ?_;have p4 := pb.below b4;have hp3 : (partL C).length = 3 := HW.out.1
   have hr : (Builtin.copy_ #[23, 23] 3 #[.slice (some ⟨wr.heap.size + 1, 0, none⟩) 3 3, .slice (some ⟨Z.heap.size + 1, 0, none⟩) 3 3]).run Tryz.prog w4 = .ok (goInt 3) (w4.setCells (wr.heap.size + 1) 0 [.int .i64 ((partL C)[0]?.getD 0), .int .i64 ((partL C)[1]?.getD 0), .int .i64 ((partL C)[2]?.getD 0)]) :=
    run_copy_cells w4 23 23 3 3 (wr.heap.size + 1) 0 3 3 ⟨Z.heap.size + 1, 0, none⟩ 3 3 [.int .i64 ((partL C)[0]?.getD 0), .int .i64 ((partL C)[1]?.getD 0), .int .i64 ((partL C)[2]?.getD 0)] Tryz.underlying23 (by kernel_rfl) rfl
     (fun j v hv => by
      have hadd : (⟨Z.heap.size + 1, 0, none⟩ : Addr).add j = ⟨Z.heap.size + 1, j, none⟩ := by
       by_cases h0 : j = 0
       ·subst h0; simp [Addr.add]
       simp [Addr.add, h0]
      rw [hadd]
      match j with
      | 0 => simp only [qC, qA] at hv; subst hv; rw [k4.cell 0 (by omega), List.getD_eq_getElem?_getD]
      | 1 => simp only [qC, List.getElem?_cons_succ, qA] at hv; subst hv; rw [k4.cell 1 (by omega), List.getD_eq_getElem?_getD]
      | 2 => simp only [qC, List.getElem?_cons_succ, qA] at hv; subst hv; rw [k4.cell 2 (by omega), List.getD_eq_getElem?_getD]
      | j + 3 => simp at hv)
     (fun j hj => by
      have hj3 : j < 3 := hj;rw [Nat.zero_add, p4.cell j]
      match j, hj3 with
      | 0, _ => rfl
      | 1, _ => rfl
      | 2, _ => rfl)
     (fun j hj => by rw [Nat.zero_add]; exact p4.free j)
     (by simp [Value.oneCell'])
   obtain ⟨p5, t5⟩ := three_set p4 rfl (.int .i64 ((partL C)[0]?.getD 0)) (.int .i64 ((partL C)[1]?.getD 0)) (.int .i64 ((partL C)[2]?.getD 0));have s4 := b4.size;have s1 := b1.size;have m5 : OwnM (w4.setCells (wr.heap.size + 1) 0 [.int .i64 ((partL C)[0]?.getD 0), .int .i64 ((partL C)[1]?.getD 0), .int .i64 ((partL C)[2]?.getD 0)]) B (n + k) D1 := ((m.below b1).below b4).touch t5 (fun h => by have : B = wr.heap.size + 1 := h; omega)
   have T5 : Touch (fun z => z = B) w (w4.setCells (wr.heap.size + 1) 0 [.int .i64 ((partL C)[0]?.getD 0), .int .i64 ((partL C)[1]?.getD 0), .int .i64 ((partL C)[2]?.getD 0)]) := by
    have tw := t.size;have tb := (t.trans (Touch.of b1)).trans (Touch.of b4);refine ⟨t5.os.trans tb.os, t5.tape.trans tb.tape, t5.output.trans tb.output, Nat.le_trans tb.size t5.size, fun z hz hz2 => ?_⟩;rw [t5.block z (Nat.lt_of_lt_of_le hz tb.size) (by omega)]
    exact tb.block z hz hz2
   have KP5 : (w4.setCells (wr.heap.size + 1) 0 [.int .i64 ((partL C)[0]?.getD 0), .int .i64 ((partL C)[1]?.getD 0), .int .i64 ((partL C)[2]?.getD 0)]).cell? ⟨wr.heap.size, 0, none⟩ = some (.slice a' 3 ca) /\ (w4.setCells (wr.heap.size + 1) 0 [.int .i64 ((partL C)[0]?.getD 0), .int .i64 ((partL C)[1]?.getD 0), .int .i64 ((partL C)[2]?.getD 0)]).cell? ⟨wr.heap.size, 1, none⟩ = some (.slice c' 2 cc) /\ (w4.setCells (wr.heap.size + 1) 0 [.int .i64 ((partL C)[0]?.getD 0), .int .i64 ((partL C)[1]?.getD 0), .int .i64 ((partL C)[2]?.getD 0)]).cell? ⟨wr.heap.size, 2, none⟩ = some (.int .i64 kz) := by
    have := fb.below b4;have := Cel.touch this t5 (fun h => by have : wr.heap.size = wr.heap.size + 1 := h; omega)
    exact ⟨this.cell 0, this.cell 1, this.cell 2⟩
   refine wo1 3 rfl fun K hK => ?_;rw [if_pos (by kernel_rfl)];refine Go.Lib.wp_copy_run w4 (.tmp 16) (.tmp 18) 23 23 rfl (.slice (some ⟨wr.heap.size + 1, 0, none⟩) 3 3) (.slice (some ⟨Z.heap.size + 1, 0, none⟩) 3 3) (by rfl) (by rfl) hr ?_;(try dsimp only);refine hK.out _ _ ⟨KP5, fun h => absurd (show true = false from h) (by decide)⟩ ?_;refine wod ?_ _;generalize w4.setCells (wr.heap.size + 1) 0 [.int .i64 ((partL C)[0]?.getD 0), .int .i64 ((partL C)[1]?.getD 0), .int .i64 ((partL C)[2]?.getD 0)] = w5 at *;clear KP5 KP hr p4 t5 k4 bd4 b4 pb fb b1 m t iC iD e0 zd;obtain ⟨g0, g1, g2⟩ : w5.cell? ⟨wr.heap.size + 1, 0, none⟩ = some (.int .i64 ((partL C)[0]?.getD 0)) /\ w5.cell? ⟨wr.heap.size + 1, 1, none⟩ = some (.int .i64 ((partL C)[1]?.getD 0)) /\ w5.cell? ⟨wr.heap.size + 1, 2, none⟩ = some (.int .i64 ((partL C)[2]?.getD 0)) := ⟨p5.cell 0, p5.cell 1, p5.cell 2⟩
   obtain ⟨rz, hrz, hrz2⟩ := eq3 HW.out w5;have HRZ : Hid (rz = true ↔ partL C = [0, 0, 0]) := hrz2;clear hrz2;have HKEY : Hid (keyOf Tryz.prog KT (kV ((partL C)[0]?.getD 0) ((partL C)[1]?.getD 0) ((partL C)[2]?.getD 0)) = some (kP (partL C))) := keyOf_P HW.out;have HP3 : Hid (partL C = [(partL C)[0]?.getD 0, (partL C)[1]?.getD 0, (partL C)[2]?.getD 0]) := three_eq hp3;generalize hx0 : (partL C)[0]?.getD 0 = x0 at *;generalize hx1 : (partL C)[1]?.getD 0 = x1 at *;generalize hx2 : (partL C)[2]?.getD 0 = x2 at *;clear hx0 hx1 hx2 hp3;have HSZ : Hid (Maps.size D1 = qs.length) := HD.out.sz
   cases hh : Maps.has D1 (kP (partL C))
   ·have HNI : Hid (partL C ∉ qs) := fun hin => by
     have := (HD.out.has _ HW.out).2 hin;rw [hh] at this
     cases this
    cases rz
    ·have HNZ : Hid (partL C ≠ [0, 0, 0]) := fun e => by
      have := HRZ.out.2 e
      cases this
     have hszb : Maps.size D1 <= n + k := m5.size_le;have HWF : Hid ((Lit.int .i64 (Maps.size D1 : Int)).wf = true) := WalkArith.wf_i64 (by omega)
     go_wp2_with (first | (at_len; refine wpList_len_own _ rfl (.tmp 20) 155 rfl KT ET Tryz.underlying155 (plainElem Tryz.prog ET) B _ D1 rfl m5 ?_) | (at_lookup; refine wpList_lookup_own_ok_int _ rfl (.tmp 23) (.tmp 24) 155 rfl KT ET .i64 law3 Tryz.underlying155 Tryz.underlying3 (zeroE) B _ D1 rfl m5 _ _ rfl HKEY.out ?_; intro cq hatq hwq) | (at_mapUpdate; refine wpList_mapUpdate_own _ rfl (.tmp 35) (.tmp 36) (.tmp 37) 155 rfl KT ET law3 Tryz.underlying155 (plainElem Tryz.prog ET) B _ D1 rfl m5 (by unfold maxLen; omega) _ _ _ rfl rfl HKEY.out (.lit (.int .i64 (Maps.size D1))) [] (plainElem_int Tryz.underlying3 HWF.out) ?_; intro w6 hown6 hgrow6))
     have HD6 : Hid (MapIs (D1.put (kP (partL C)) (.lit (.int .i64 (Maps.size D1 : Int)))) (guardsP ps (fs.take (k + 1)))) := by
      have := HD.out.put (m5.tidy law3) HW.out HNI.out;rw [HSZ.out, HS.out, addPb, if_neg (by rintro (h | h); exact HNI.out h; exact HNZ.out h)]
      exact this
     have T6 := T5.trans (touch_grownQ hgrow6);have m6 : OwnM w6 B (n + (k + 1)) _ := hown6;clear m5 T5 hown6 hgrow6
     go_wp2
     go_roundw
     case rel => exact ⟨k + 1, _, by omega, by go_num, T6, m6, HD6.out⟩
     case measure => simp [intOf]; omega
    have HD6 : Hid (MapIs D1 (guardsP ps (fs.take (k + 1)))) := by
     have e : partL C = [0, 0, 0] := HRZ.out.1 rfl
     show MapIs _ _
     rw [HS.out, addP_zero e]
     exact HD.out
    have m6 : OwnM w5 B (n + (k + 1)) D1 := m5.mono (by omega)
    go_wp2_with (first | (at_len; refine wpList_len_own _ rfl (.tmp 20) 155 rfl KT ET Tryz.underlying155 (plainElem Tryz.prog ET) B _ D1 rfl m5 ?_) | (at_lookup; refine wpList_lookup_own_ok_int _ rfl (.tmp 23) (.tmp 24) 155 rfl KT ET .i64 law3 Tryz.underlying155 Tryz.underlying3 (zeroE) B _ D1 rfl m5 _ _ rfl HKEY.out ?_; intro cq hatq hwq))
    go_roundw
    case rel => exact ⟨k + 1, D1, by omega, by go_num, T5, m6, HD6.out⟩
    case measure => simp [intOf]; omega
   have HD6 : Hid (MapIs D1 (guardsP ps (fs.take (k + 1)))) := by
    have e : partL C ∈ qs := (HD.out.has _ HW.out).1 hh
    show MapIs _ _
    rw [HS.out, addPb, if_pos (.inl e)]
    exact HD.out
   have m6 : OwnM w5 B (n + (k + 1)) D1 := m5.mono (by omega)
   go_wp2_with (first | (at_len; refine wpList_len_own _ rfl (.tmp 20) 155 rfl KT ET Tryz.underlying155 (plainElem Tryz.prog ET) B _ D1 rfl m5 ?_) | (at_lookup; refine wpList_lookup_own_ok_int _ rfl (.tmp 23) (.tmp 24) 155 rfl KT ET .i64 law3 Tryz.underlying155 Tryz.underlying3 (zeroE) B _ D1 rfl m5 _ _ rfl HKEY.out ?_; intro cq hatq hwq))
   go_roundw
   case rel => exact ⟨k + 1, D1, by omega, by go_num, T5, m6, HD6.out⟩
   case measure => simp [intOf]; omega
  obtain rfl : k = N := by omega
  have HE : Hid (MapIs D1 (guardsP ps fs)) := by
   have := HD.out;rw [qE (by rw [HN.out]; exact qG _)] at this
   exact this
  clear HD
  go_wp2
  go_end0
  exact ⟨⟨_, rfl⟩, t, D1, m, HE.out⟩
end Go.Proofs.YtfmpcihghlnlnaaGreatDoor
