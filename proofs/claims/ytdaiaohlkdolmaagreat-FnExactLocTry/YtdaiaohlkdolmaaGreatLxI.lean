/-
  Lemmas that the claim's last text rests on.
-/
import Derived.Lib.SliceRun
import Derived.Test.YtdaiaohlkdolmaaGreatLxH
namespace Go.Proofs.YtdaiaohlkdolmaaGreat
open Go.RowKit Go.Deep
open Option.some renaming injEq → qA
open Addr.mk renaming injEq → qB
open World renaming size_alloc → qC
open List renaming getElem?_eq_getElem → qD, getElem?_cons_zero → qE, getElem?_set_ne → qF, getElem?_set_self → qG
open Nat renaming le_refl → qH, zero_le → qI
set_option linter.unusedVariables false
set_option maxRecDepth 100000
set_option maxHeartbeats 25600000
variable {B G N cap cap' k n : Nat} {K : Int} {W W' w : World} {a ad c : Option Addr} {f : Nat -> Bool} {v : Value} {xs zs : List Int}
def Bools (W : World) (a : Option Addr) (f : Nat -> Bool) : Prop := ∃ b off, a = some ⟨b, off, none⟩ /\ ∀ v, v < 3 -> W.cell? ⟨b, off + v, none⟩ = some (.bool (f v))
theorem Bools.below (h : Bools W a f) (b : Below W.heap.size W W') : Bools W' a f := by
 obtain ⟨b0, off, e, hc⟩ := h
 exact ⟨b0, off, e, fun v hv => (b.cell (p := ⟨b0, off + v, none⟩) (block_lt (hc v hv))).trans (hc v hv)⟩
def OwnB (W : World) (G : Nat) (f : Nat -> Bool) : Prop := ∃ cur : List Value, Cel W G cur 4 /\ ∀ v, v < 3 -> cur[v]? = some (.bool (f v))
theorem OwnB.lt (h : OwnB W G f) : G < W.heap.size := by obtain ⟨cur, hc, _⟩ := h; exact hc.lt
theorem OwnB.bools (h : OwnB W G f) : Bools W (some ⟨G, 0, none⟩) f := by
 obtain ⟨cur, hc, hv⟩ := h
 exact ⟨G, 0, rfl, fun v hh => by rw [Nat.zero_add, hc.cell v]; exact hv v hh⟩
theorem OwnB.set (h : OwnB W G f) {u : Nat} (hu : u < 3) (x : Bool) : OwnB (W.setCell ⟨G, u, none⟩ (.bool x)) G (fun v => if v = u then x else f v) := by
 obtain ⟨cur, hc, hv⟩ := h;have hl : u < cur.length := (List.getElem?_eq_some_iff.1 (hv u hu)).1;refine ⟨_, hc.set u _, fun v hh => ?_⟩
 by_cases e : v = u
 ·subst e; rw [qG hl]; simp
 rw [qF (by omega)]; simp only [e, if_false]; exact hv v hh
theorem OwnB.ext {g : Nat -> Bool} (h : OwnB W G f) (e : ∀ v, v < 3 -> f v = g v) : OwnB W G g := by
 obtain ⟨cur, hc, hv⟩ := h
 exact ⟨cur, hc, fun v hh => by rw [<- e v hh]; exact hv v hh⟩
def hasP (f : Frm) (v : Nat) : Bool := f.1[v]?.getD 0 != 0
def readsF (r : Nat -> Bool) (fs : List Frm) (v : Nat) : Bool := r v || fs.any (fun f => hasP f v)
theorem readsF_snoc (r : Nat -> Bool) (fs : List Frm) (k : Nat) (hk : k < fs.length) (v : Nat) : readsF r (fs.take (k + 1)) v = (readsF r (fs.take k) v || hasP (fs[k]?.getD ([], [], 0)) v) := by
 rw [readsF, readsF, List.take_succ_eq_append_getElem hk, List.any_append, qD hk];simp [Bool.or_assoc]
theorem Tryz.infoBool : (Tryz.prog.info? 4).map (fun i => (i.zero, i.size, i.bytes)) = some (some (.bool false), 1, 1) := by kernel_rfl
theorem sreads_any {pa : Option Addr} {pc : Nat} {r : Nat -> Bool} (fs : List Frm) {w : World} (hB : Bools w pa r) (hN : fs.length = N) (hF : FormsAt w ad fs) (hfit : ∀ k, k < N -> fitX 10000000 (fs[k]?.getD ([], [], 0))) (hN1 : N <= 1048576 := by omega) :
  Calls Tryz.prog 49 #[.slice pa 3 pc, .slice ad N cap] w fun e w' => ∃ G cG, e = .returned (.slice (some ⟨G, 0, none⟩) 3 cG) /\ Below w.heap.size w w' /\ w.heap.size <= G /\ OwnB w' G (readsF r fs) := by
 have HN : Hid (fs.length = N) := hN;have HF : Hid (FormsAt w ad fs) := hF;have HFT : Hid _ := hfit;clear hN hF hfit;obtain ⟨zi, hi, hz0, hz1, hz2⟩ := info_parts Tryz.infoBool;obtain ⟨pb, po, rfl, hpc⟩ := hB;have A : Below w.heap.size w (w.alloc (.cells #[] 4)) := bal;have HOL := World.ownsRow_lit (e := 4) (size := 1) (base := w.heap.size) w #[] 0 (qH _) (by unfold maxLen; omega) rfl
 have HNW : Hid (∀ j u, ([.bool (r 0), .bool (r 1), .bool (r 2)] : List Value)[j]? = some u -> (w.alloc (.cells #[] 4)).cell? ((⟨pb, po, none⟩ : Addr).add j) = some u) := fun j u hu => by
  have hadd : (⟨pb, po, none⟩ : Addr).add j = ⟨pb, po + j, none⟩ := by
   by_cases h0 : j = 0
   ·subst h0; simp [Addr.add]
   simp [Addr.add, h0]
  rw [hadd];have key : ∀ v, v < 3 -> (w.alloc (.cells #[] 4)).cell? ⟨pb, po + v, none⟩ = some (.bool (r v)) := fun v hv => by rw [A.cell (p := ⟨pb, po + v, none⟩) (block_lt (hpc v hv))]; exact hpc v hv
  match j with
  | 0 => simp only [qE, qA] at hu; subst hu; exact key 0 (by omega)
  | 1 => simp only [qE, List.getElem?_cons_succ, qA] at hu; subst hu; exact key 1 (by omega)
  | 2 => simp only [qE, List.getElem?_cons_succ, qA] at hu; subst hu; exact key 2 (by omega)
  | j + 3 => simp at hu
 clear hpc
 go_enter Tryz.func49, Tryz.ntmps49
 go_wp2_with (at_builtin; go_must (refine wpList_append_lies _ rfl (.tmp 8) (.tmp 9) 52 rfl w.heap.size 4 zi _ 1 1 Tryz.underlying52 hi hz0 hz1 hz2 rfl (by decide) (.slice (some ⟨w.heap.size, 0, none⟩) 0 0) 0 [] rfl HOL ⟨pb, po, none⟩ 3 pc [.bool (r 0), .bool (r 1), .bool (r 2)] rfl rfl HNW.out (by simp [Value.oneCell']) (by omega) (by unfold maxLen; omega) (by omega) (by rw [qC]; omega) _ rfl ?_); intro G cG w1 hown hgrow hat hlt1)
 have b1 : Below w.heap.size w w1 := A.grown hgrow A.size (fun k hk => by have h' : some w.heap.size = some k := hk; simp only [qA] at h'; omega)
 have o1 : OwnB w1 G (readsF r (fs.take 0)) /\ w.heap.size <= G := by
  rcases hown.2 with ⟨h', _⟩ | ⟨g', cap', cur, h', hb, hg, _, _, hcs, htake⟩
  ·cases h'
  simp only [Value.slice.injEq, qA, qB, and_true, true_and] at h';obtain ⟨rfl, rfl⟩ := h';refine ⟨⟨cur.toList, by unfold Cel; simpa using hg, fun v hv => ?_⟩, hb⟩;have h1 : (cur.toList.take ((0 + 3) * 1))[v]? = ([.bool (r 0), .bool (r 1), .bool (r 2)] : List Value)[v]? := by rw [htake]; rfl
  rw [List.getElem?_take, if_pos (by omega)] at h1;rw [h1]
  match v, hv with
  | 0, _ => simp [readsF]
  | 1, _ => simp [readsF]
  | 2, _ => simp [readsF]
 obtain ⟨o1, lG⟩ := o1;clear hown hgrow hat HNW HOL A
 go_wp2_with fail
 go_loopw [6, 7] (fun i _ wr => ∃ k : Nat, k <= N /\ i = .int .i64 k /\ Below w.heap.size w wr /\ OwnB wr G (readsF r (fs.take k))) (fun i _ _ => N - (intOf i).toNat)
 case atStart => exact ⟨0, qI _, rfl, b1, o1⟩
 case round =>
  clear b1 o1;obtain ⟨k, hk, rfl, hb, o⟩ := hrel
  by_cases hlt : k < N
  ·have hlt' : (k : Int) < N := by omega
   have hkl : k < fs.length := by rw [HN.out]; exact hlt
   have HS : Hid (∀ v, readsF r (fs.take (k + 1)) v = (readsF r (fs.take k) v || hasP (fs[k]?.getD ([], [], 0)) v)) := fun v => readsF_snoc r fs k hkl v;have hfit := HFT.out k hlt;obtain ⟨lC, -, -, -, -, -⟩ := hfit;have o' : OwnB wr G (fun v => if v < 0 then readsF r (fs.take (k + 1)) v else readsF r (fs.take k) v) := o.ext (fun v hv => by simp);clear o;have HW : Hid (Below w.heap.size w wr) := hb;clear hb
   go_wp2_with fail
   go_loopw [7] (fun v w2 => ∃ u : Nat, u <= 3 /\ v = .int .i64 u /\ Below w.heap.size w w2 /\ OwnB w2 G (fun v => if v < u then readsF r (fs.take (k + 1)) v else readsF r (fs.take k) v)) (fun v _ => 3 - (intOf v).toNat)
   case atStart => exact ⟨0, by omega, rfl, HW.out, o'⟩
   case round =>
    clear o' HW;obtain ⟨u, hu, rfl, hb, o⟩ := hrel
    by_cases hu3 : u < 3
    ·have hu' : (u : Int) < 3 := by omega
     obtain ⟨b, off, rfl, a', c', ca, cc, c0, c1, c2, iC, iD⟩ := (HF.out.keep hb) k hkl;obtain ⟨cb, co, rfl, cv⟩ := iC.2 u hu3;have hval : (fs[k]?.getD ([], [], 0)).1.getD u 0 = (fs[k]?.getD ([], [], 0)).1[u]?.getD 0 := by rw [List.getD_eq_getElem?_getD]
     rw [hval] at cv;have HH : Hid (hasP (fs[k]?.getD ([], [], 0)) u = ((fs[k]?.getD ([], [], 0)).1[u]?.getD 0 != 0)) := rfl;generalize (fs[k]?.getD ([], [], 0)).1[u]?.getD 0 = z at *;have lG2 := o.lt
     by_cases hz : z = 0
     ·have hz' : (z != 0) = false := by simp [hz]
      have O2 : OwnB wr G (fun v => if v < u + 1 then readsF r (fs.take (k + 1)) v else readsF r (fs.take k) v) := o.ext (fun v hv => by
       by_cases e : v = u
       ·subst e; simp only [Nat.lt_irrefl, if_false, Nat.lt_succ_self, if_true]; rw [HS.out, HH.out, hz']; simp
       by_cases e2 : v < u
       ·rw [if_pos e2, if_pos (by omega)]
       rw [if_neg e2, if_neg (by omega)])
      have HO2 : Hid (OwnB wr G (fun v => if v < u + 1 then readsF r (fs.take (k + 1)) v else readsF r (fs.take k) v)) := O2;clear o O2
      go_wp2
      go_roundw
      case rel => exact ⟨u + 1, by omega, by go_num, hb, HO2.out⟩
      case measure => simp [intOf]; omega
     have hz' : (z != 0) = true := by simp [hz]
     obtain ⟨cur, hc, hv⟩ := o;have g0 : wr.cell? ⟨G, u, none⟩ = some _ := (hc.cell u).trans (hv u hu3);have fz := hc.free u;have o2 := OwnB.set (W := wr) (G := G) ⟨cur, hc, hv⟩ hu3 true
     have O2 : Hid (OwnB (wr.setCell ⟨G, u, none⟩ (.bool true)) G (fun v => if v < u + 1 then readsF r (fs.take (k + 1)) v else readsF r (fs.take k) v)) := o2.ext (fun v hv => by
      by_cases e : v = u
      ·subst e; simp only [if_true, Nat.lt_succ_self]; rw [HS.out, HH.out, hz']; simp
      simp only [e, if_false]
      by_cases e2 : v < u
      ·rw [if_pos e2, if_pos (by omega)]
      rw [if_neg e2, if_neg (by omega)])
     have B2 := hb.setCell (p := ⟨G, u, none⟩) lG (.bool true);clear o2 hc hv
     go_wp2
     go_roundw
     case rel => exact ⟨u + 1, by omega, by go_num, B2, O2.out⟩
     case measure => simp [intOf]; omega
    obtain rfl : u = 3 := by omega
    have O3 : Hid (OwnB wr G (readsF r (fs.take (k + 1)))) := o.ext (fun v hv => by simp only [hv, if_true]);clear o
    go_wp2
    go_roundw
    case rel => exact ⟨k + 1, by omega, by go_num, hb, O3.out⟩
    case measure => simp [intOf]; omega
  obtain rfl : k = N := by omega
  have O3 : OwnB wr G (readsF r fs) := by
   have : fs.take k = fs := List.take_of_length_le (by rw [HN.out]; exact qH _);rw [this] at o; exact o
  go_wp2
  go_ret
  exact ⟨G, cG, rfl, hb, lG, O3⟩
structure JA (w : World) (v : Value) (xs : List Int) (W : World) : Prop where
 b : Below w.heap.size w W
 o : W.ownsRow w.heap.size 3 1 v xs.length (xs.map (Value.int .i64))
theorem JA.nil (w : World) : JA w (.slice none 0 0) [] w := ⟨Below.refl _ _, World.ownsRow_nil w _ _ _⟩
theorem JA.lit (w : World) : JA w (.slice (some ⟨w.heap.size, 0, none⟩) 0 0) [] (w.alloc (.cells #[] 3)) :=
 ⟨bal, World.ownsRow_lit w #[] 0 (qH _) (by unfold maxLen; omega) rfl⟩
theorem JA.alloc (j : JA w v xs W) (o : Obj) : JA w v xs (W.alloc o) := ⟨j.b.alloc j.b.size _, j.o.alloc o⟩
theorem JA.below (j : JA w v xs W) (h : Below W.heap.size W W') : JA w v xs W' := by
 refine ⟨j.b.trans (h.mono j.b.size), j.o.1, ?_⟩
 rcases j.o.2 with h2 | ⟨g, cap, cur, hv, hg, hh, r⟩
 ·exact Or.inl h2
 exact Or.inr ⟨g, cap, cur, hv, hg, by rw [h.block g (lt_of_block hh)]; exact hh, r⟩
theorem JA.own {v' : Value} {ys : List Int} (j : JA w v xs W) (o : W'.ownsRow w.heap.size 3 1 v' ys.length (ys.map (Value.int .i64))) (g : W.grownBy W' v.ownBlock) : JA w v' ys W' :=
 ⟨j.b.grown g j.b.size (fun k hk => (j.o.lt k hk).1), o⟩
theorem JA.ints (j : JA w v xs W) : ∃ a cap, v = .slice a xs.length cap /\ xs.length <= cap /\ Ints W a xs.length xs /\ (∀ b o, a = some ⟨b, o, none⟩ -> w.heap.size <= b /\ b < W.heap.size) := by
 rcases j.o.2 with ⟨hv, h⟩ | ⟨g, cap', cur, rfl, hg, hh, hl, _, _⟩
 ·rw [h];have : xs = [] := List.eq_nil_of_length_eq_zero h;subst this
  exact ⟨none, 0, hv, qH _, ⟨rfl, fun i hi => by omega⟩, fun b o e => by cases e⟩
 refine ⟨some ⟨g, 0, none⟩, cap', rfl, hl, ⟨rfl, fun i hi => ⟨g, 0, rfl, ?_⟩⟩, fun b o e => ?_⟩
 ·have := j.o.cellAt i (by omega);rw [Nat.zero_add, this];simp [hi]
 simp only [qA, qB, and_true] at e;obtain ⟨rfl, rfl⟩ := e
 exact ⟨hg, lt_of_block hh⟩
theorem news1 (w : World) {x : Value} {t : TypeId} : ∀ j u, [x][j]? = some u -> (w.alloc (.cells #[x] t)).cell? ((⟨w.heap.size, 0, none⟩ : Addr).add j) = some u := fun j u hu => by
 match j, hu with
 | 0, hu =>
  simp only [qE, qA] at hu;subst hu;simp [Addr.add]
theorem one1 {k : IntKind} {x : Int} : ∀ u ∈ [Value.int k x], u.oneCell' = true := fun u hu => by
 simp at hu; subst hu; rfl
theorem JA.app {y : Int} {g : Nat} {o : Obj} (j : JA w v xs W) (hk : xs.length = k) (hown : W'.ownsRow w.heap.size 3 1 (.slice (some ⟨g, 0, none⟩) (k + 1) cap) (k + 1) (xs.map (Value.int .i64) ++ [.int .i64 y])) (hg : (W.alloc o).grownBy W' v.ownBlock) :
  JA w (.slice (some ⟨g, 0, none⟩) (k + 1) cap) (xs ++ [y]) W' := by
 refine (j.alloc o).own ?_ hg;rw [List.length_append, hk, List.map_append]
 exact hown
def OwnX (W : World) (a : Option Addr) (B n : Nat) (zs : List Int) : Prop :=
 zs.length = n /\ (n = 0 \/ (a = some ⟨B, 0, none⟩ /\ ∃ cur : List Value, Cel W B cur 3 /\ ∀ i, i < n -> cur[i]? = some (.int .i64 (zs[i]?.getD 0))))
theorem OwnX.ints (h : OwnX W a B n zs) : Ints W a n zs := by
 refine ⟨h.1, fun i hi => ?_⟩
 rcases h.2 with h0 | ⟨rfl, cur, hc, hv⟩
 ·omega
 refine ⟨B, 0, rfl, ?_⟩;rw [Nat.zero_add, hc.cell i, hv i hi];simp
theorem OwnX.below (h : OwnX W a B n zs) (b : Below W.heap.size W W') : OwnX W' a B n zs := by
 refine ⟨h.1, ?_⟩
 rcases h.2 with h0 | ⟨e, cur, hc, hv⟩
 ·exact .inl h0
 exact .inr ⟨e, cur, hc.below b, hv⟩
theorem OwnX.alloc (h : OwnX W a B n zs) (o : Obj) : OwnX (W.alloc o) a B n zs := h.below (bal)
theorem OwnX.touch {S : Nat -> Prop} (h : OwnX W a B n zs) (t : Touch S W W') (hn : 0 < n -> ¬ S B) : OwnX W' a B n zs := by
 refine ⟨h.1, ?_⟩
 rcases h.2 with h0 | ⟨e, cur, hc, hv⟩
 ·exact .inl h0
 by_cases h0 : 0 < n
 ·exact .inr ⟨e, cur, hc.touch t (hn h0), hv⟩
 exact .inl (by omega)
theorem OwnX.lt (h : OwnX W a B n zs) (hn : 0 < n) : B < W.heap.size := by
 rcases h.2 with h0 | ⟨e, cur, hc, hv⟩
 ·omega
 exact hc.lt
theorem OwnX.setOther {X : Nat} (h : OwnX W a B n zs) (hX : 0 < n -> X ≠ B) (i : Nat) (v : Value) : OwnX (W.setCell ⟨X, i, none⟩ v) a B n zs := by
 refine h.touch (S := fun k => k = X) (Touch.setCell (S := fun k => k = X) (Touch.refl _ _) rfl v) (fun h0 e => hX h0 e.symm)
theorem OwnX.nil (W : World) (a : Option Addr) (B : Nat) : OwnX W a B 0 [] := ⟨rfl, .inl rfl⟩
theorem OwnX.pos (h : OwnX W a B n zs) (hn : 0 < n) : a = some ⟨B, 0, none⟩ /\ (∀ i, i < n -> W.cell? ⟨B, i, none⟩ = some (.int .i64 (zs[i]?.getD 0))) /\ ∀ i, W.frozen? ⟨B, i, none⟩ = false := by
 rcases h.2 with h0 | ⟨rfl, cur, hc, hv⟩
 ·omega
 exact ⟨rfl, fun i hi => by rw [hc.cell i, hv i hi], fun i => hc.free i⟩
theorem OwnX.set (h : OwnX W a B n zs) {i : Nat} (hi : i < n) (x : Int) : OwnX (W.setCell ⟨B, i, none⟩ (.int .i64 x)) a B n (zs.set i x) := by
 refine ⟨by rw [List.length_set]; exact h.1, ?_⟩
 rcases h.2 with h0 | ⟨e, cur, hc, hv⟩
 ·omega
 refine .inr ⟨e, cur.set i (.int .i64 x), hc.set _ _, fun j hj => ?_⟩
 have hl : i < cur.length := by
  have := hv i hi
  exact (List.getElem?_eq_some_iff.1 this).1
 have hz := h.1
 by_cases e : j = i
 ·subst e;rw [qG hl, qG (by omega)]; rfl
 rw [qF (by omega), hv j hj, qF (by omega)]
theorem JA.ownx (j : JA w v xs W) (hn : xs.length = n) : ∃ a cap B, v = .slice a n cap /\ OwnX W a B n xs /\ (0 < n -> w.heap.size <= B) := by
 subst hn
 rcases j.o.2 with ⟨hv, h⟩ | ⟨g, cap', cur, rfl, hg, hh, hl, _, hs, ht⟩
 ·rw [h];have : xs = [] := List.eq_nil_of_length_eq_zero h;subst this
  exact ⟨none, 0, 0, hv, OwnX.nil _ _ _, fun h => by omega⟩
 refine ⟨some ⟨g, 0, none⟩, cap', g, rfl, ⟨rfl, .inr ⟨rfl, cur.toList, by unfold Cel; simpa using hh, fun i hi => ?_⟩⟩, fun _ => hg⟩;have h1 : (cur.toList.take (xs.length * 1))[i]? = (xs.map (Value.int .i64))[i]? := by rw [ht]
 rw [List.getElem?_take, if_pos (by omega)] at h1;rw [h1];simp [hi]
theorem markX_any (B : Nat) (zs : List Int) {k : Int} {w : World} (h : OwnX w a B n zs) (hn : n <= 1048576) (hk0 : 0 <= k) (hk : k <= 1000000000000000) :
  Calls Tryz.prog 17 #[.slice a n cap, .int .i64 k] w fun e w' => e = .returned (.int .i64 (k + n)) /\ Touch (fun x => x = B /\ 0 < n) w w' /\ OwnX w' a B n (ramp k n) := by
 have HZ : Hid (zs.length = n) := h.1
 go_enter Tryz.func17, Tryz.ntmps17
 go_wp2_with fail
 go_loopw [1, 5] (fun kk i wr => ∃ j : Nat, j <= n /\ i = .int .i64 j /\ kk = .int .i64 (k + j) /\ Touch (fun x => x = B /\ 0 < n) w wr /\ OwnX wr a B n (marked k zs j)) (fun _ i _ => n - (intOf i).toNat)
 case atStart => exact ⟨0, qI _, rfl, by simp, Touch.refl _ _, by rw [marked_zero]; exact h⟩
 case round =>
  obtain ⟨j, hj, rfl, rfl, ht, ho⟩ := hrel
  by_cases hlt : j < n
  ·obtain ⟨rfl, hcs, hfs⟩ := ho.pos (by omega);have hc := hcs j hlt;have hf := hfs j
   have R : OwnX (wr.setCell ⟨B, j, none⟩ (.int .i64 (k + j))) (some ⟨B, 0, none⟩) B n (marked k zs (j + 1)) := by
    have := ho.set hlt (k + j);rwa [marked_succ k zs j (by rw [HZ.out]; exact hlt)] at this
   have R2 : Touch (fun x => x = B /\ 0 < n) w (wr.setCell ⟨B, j, none⟩ (.int .i64 (k + j))) := ht.setCell ⟨rfl, by omega⟩ _;clear h ho hcs hfs
   go_wp2
   go_roundw
   case rel => exact ⟨j + 1, by omega, by go_num, by go_num, R2, R⟩
   case measure => simp [intOf]; omega
  go_wp2
  go_ret
  obtain rfl : j = n := by omega
  exact ⟨rfl, ht, by rw [marked_end k zs j (by rw [HZ.out]; exact qH _)] at ho; exact ho⟩
theorem addX_any (B : Nat) {a c : Option Addr} {cap' : Nat} (xs ys : List Int) (M M' : Int) {w : World} (h : OwnX w a B n xs) (h' : Ints w c n ys) (hne : ∀ b o, c = some ⟨b, o, none⟩ -> b ≠ B)
  (hn : n <= 1048576) (hM : bnd M xs) (hM' : bnd M' ys) (hb : M <= 2000000000000000000) (hb' : M' <= 2000000000000000000) :
  Calls Tryz.prog 101 #[.slice a n cap, .slice c n cap'] w fun e w' => e = .returned (.tuple #[]) /\ Touch (fun x => x = B /\ 0 < n) w w' /\ OwnX w' a B n (List.zipWith (· + ·) xs ys) := by
 have HX : Hid (xs.length = n) := h.1;have HY : Hid (ys.length = n) := h'.1
 go_enter Tryz.func101, Tryz.ntmps101
 go_wp2_with fail
 go_loopw [4, 5, 8] (fun _ _ i wr => ∃ j : Nat, j <= n /\ i = .int .i64 j /\ Touch (fun x => x = B /\ 0 < n) w wr /\ OwnX wr a B n (added xs ys j)) (fun _ _ i _ => n - (intOf i).toNat)
 case atStart => exact ⟨0, qI _, rfl, Touch.refl _ _, by rw [added_zero]; exact h⟩
 case round =>
  obtain ⟨j, hj, rfl, ht, ho⟩ := hrel
  by_cases hlt : j < n
  ·obtain ⟨rfl, hcs, hfs⟩ := ho.pos (by omega);obtain ⟨b, off, rfl, hcell⟩ := h'.pos (by omega)
   have hck : wr.cell? ⟨b, off + j, none⟩ = some (.int .i64 (ys[j]?.getD 0)) := by
    have h0 := hcell j hlt;have : wr.cell? ⟨b, off + j, none⟩ = w.cell? ⟨b, off + j, none⟩ := World.cell?_of_block (ht.block b (block_lt h0) (fun e => hne b off rfl e.1));rw [this, h0]; simp
   have hco : wr.cell? ⟨B, j, none⟩ = some (.int .i64 (xs[j]?.getD 0)) := by
    rw [hcs j hlt, added_get xs ys j (by rw [HX.out, HY.out]) (by rw [HX.out]; exact hlt)]
   have hf := hfs j;obtain ⟨m1, m2⟩ := hM j;obtain ⟨m3, m4⟩ := hM' j
   have R : OwnX (wr.setCell ⟨B, j, none⟩ (.int .i64 (xs[j]?.getD 0 + ys[j]?.getD 0))) (some ⟨B, 0, none⟩) B n (added xs ys (j + 1)) := by
    have := ho.set hlt (xs[j]?.getD 0 + ys[j]?.getD 0);rwa [added_succ xs ys j (by rw [HX.out, HY.out]) (by rw [HX.out]; exact hlt)] at this
   have R2 : Touch (fun x => x = B /\ 0 < n) w (wr.setCell ⟨B, j, none⟩ (.int .i64 (xs[j]?.getD 0 + ys[j]?.getD 0))) := ht.setCell ⟨rfl, by omega⟩ _;clear h ho hcell h' hM hM' hne hcs hfs
   go_wp2
   go_roundw
   case rel => exact ⟨j + 1, by omega, by go_num, R2, R⟩
   case measure => simp [intOf]; omega
  go_wp2
  go_end0
  obtain rfl : j = n := by omega
  exact ⟨rfl, ht, by rw [added_end xs ys j (by rw [HX.out]; exact qH _) (by rw [HY.out]; exact qH _)] at ho; exact ho⟩
theorem newsI {b off : Nat} (h : ∀ i, i < n -> w.cell? ⟨b, off + i, none⟩ = some (.int .i64 (zs.getD i 0))) (hl : zs.length = n) : ∀ j u, (zs.map (Value.int .i64))[j]? = some u -> w.cell? ((⟨b, off, none⟩ : Addr).add j) = some u := fun j u hu => by
 have hj : j < n := by
  have := (List.getElem?_eq_some_iff.1 hu).1;simpa [hl] using this
 have hadd : (⟨b, off, none⟩ : Addr).add j = ⟨b, off + j, none⟩ := by
  by_cases h0 : j = 0
  ·subst h0; simp [Addr.add]
  simp [Addr.add, h0]
 rw [hadd, h j hj];rw [List.getElem?_map, qD (by omega)] at hu;simp only [Option.map_some, qA] at hu;rw [<- hu];simp [hl, hj]
theorem oneI : ∀ u ∈ zs.map (Value.int .i64), u.oneCell' = true := fun u hu => by
 obtain ⟨x, _, rfl⟩ := List.mem_map.1 hu
 rfl
theorem JA.copied {g : Nat} (hn : zs.length = n) (hown : W'.ownsRow w.heap.size 3 1 (.slice (some ⟨g, 0, none⟩) (0 + n) cap) (0 + n) ([] ++ zs.map (Value.int .i64))) (hg : (w.alloc (.cells #[] 3)).grownBy W' (Value.ownBlock (.slice (some ⟨w.heap.size, 0, none⟩) 0 0))) :
  JA w (.slice (some ⟨g, 0, none⟩) n cap) zs W' := by
 have h0 := JA.lit w;refine h0.own (ys := zs) ?_ hg;rw [hn];simpa using hown
theorem clone_any (n cap : Nat) (zs : List Int) {w : World} (h : Ints w a n zs) (hn : n <= 1048576 := by omega) (h0 : 0 < n := by omega) :
  Calls Tryz.prog 40 #[.slice a n cap] w fun e w' => ∃ v, e = .returned v /\ JA w v zs w' := by
 have HZ : Hid (zs.length = n) := h.1;obtain ⟨i0, hi, hz0, hz1, hz2⟩ := info_parts Tryz.infoInt;obtain ⟨b, off, rfl, hcell⟩ := h.pos h0
 have hcl : ∀ i, i < n -> (w.alloc (.cells #[] 3)).cell? ⟨b, off + i, none⟩ = some (.int .i64 (zs.getD i 0)) := fun i hi => by
  rw [((Below.refl w.heap.size w).alloc (qH _) _).cell (p := ⟨b, off + i, none⟩) (block_lt (hcell i hi))]; exact hcell i hi
 have HC : Hid _ := newsI hcl HZ.out;have HL : Hid ((zs.map (Value.int .i64)).length = n * 1) := by show _ = _; rw [List.length_map, HZ.out, Nat.mul_one]
 have HJ : Hid _ := (JA.lit w).o;clear hcl hcell h;have hnil : ∀ w, (binOp .eql 23 (.slice (some ⟨b, off, none⟩) n cap) (.slice none 0 0)).run Tryz.prog w = .ok (.bool false) w := fun w => Go.Lib.run_eql_slice_nil w _ _ _ _ _ _ _ Tryz.underlying23
 go_enter Tryz.func40, Tryz.ntmps40
 go_wp2_with (at_builtin; go_must (refine wpList_append_lies _ rfl (.tmp 5) (.tmp 6) 23 rfl w.heap.size 3 i0 (.int .i64 0) 1 8 Tryz.underlying23 hi hz0 hz1 hz2 rfl (by decide) _ 0 [] rfl HJ.out ⟨b, off, none⟩ n cap (zs.map (Value.int .i64)) rfl HL.out HC.out (oneI) h0 (by unfold maxLen; omega) (by omega) (by rw [qC]; omega) _ rfl ?_); intro g cp w1 hown hgrow hat hlt1)
 have j := JA.copied HZ.out hown hgrow;clear hown hgrow
 go_wp2
 go_ret
 exact ⟨_, rfl, j⟩
theorem ilack_any (C D : List Int) {w : World} (hC : Ints w a 3 C) (hD : Ints w c 2 D) (bC : bnd 10000000 C) (bD : bnd 10000000 D) (bK1 : -10000000 <= K) (bK2 : K <= 10000000) (hfit : fitX 10000000 (minusX (C, D, K))) :
  Calls Tryz.prog 124 #[formV a 3 cap c 2 cap' K] w fun e w' => ∃ B1 B2, e = .returned (formV (some ⟨B1, 0, none⟩) 3 3 (some ⟨B2, 0, none⟩) 2 2 (-K - 1)) /\ Below w.heap.size w w' /\ w.heap.size <= B1 /\ B1 ≠ B2 /\ w.heap.size <= B2 /\ Blk w' B1 (mulL (-1) C) /\ Blk w' B2 (mulL (-1) D) := by
 have hok : formB 3 2 (mulL (-1) C) (mulL (-1) D) (-K - 1) = true := by
  have := fit_ok hfit;simp only [minusX] at this;rw [show -1 * K - 1 = -K - 1 by omega] at this
  exact this
 have HOK : Hid _ := hok;have lC : (mulL (-1) C).length = 3 := by rw [mulL_len]; exact hC.1
 have lD : (mulL (-1) D).length = 2 := by rw [mulL_len]; exact hD.1
 clear hok hfit;have A2 : Below w.heap.size w ((w.alloc (.cells #[.slice a 3 cap, .slice c 2 cap', .int .i64 K] 81)).alloc (.cells #[.slice none 0 0, .slice none 0 0, .int .i64 0] 81)) := (bal).alloc (by simp) _;have rr := Cel.new (w.alloc (.cells #[.slice a 3 cap, .slice c 2 cap', .int .i64 K] 81)) [.slice none 0 0, .slice none 0 0, .int .i64 0] 81;rw [qC] at rr
 go_enter Tryz.func124, Tryz.ntmps124
 go_wp2_with fail
 refine (times_any C D (hC.below A2) (hD.below A2) (tim_bnd bC (by omega) (by omega)) (tim_bnd bD (by omega) (by omega)) (tim_num bK1 bK2 (by omega) (by omega))).mono ?_;rintro e w3 ⟨B1, B2, rfl, b3, y1, y2, y3, k1, k2⟩;rw [show (-1 : Int) * K = -K by omega];rw [qC, qC] at y1 y3;have B3 := btr A2 b3;have r3 := rr.below b3;have l1 := k1.lt;have l2 := k2.lt;have lr := r3.lt;clear A2 b3 rr;have hw : IntKind.i64.wrap (-K - 1) = -K - 1 := wrap_id (by omega) (by omega);have A4 : Below w3.heap.size w3 (w3.alloc (.cells #[.slice (some ⟨B1, 0, none⟩) 3 3, .slice (some ⟨B2, 0, none⟩) 2 2, .int .i64 (-K - 1)] 81)) := bal;have m1 := k1.below A4;have m2 := k2.below A4;have r4 := r3.below A4;have B4 := btr B3 A4;clear k1 k2 r3 A4 B3
 go_wp2_with fail
 refine (orN_yes (mulL (-1) C) (mulL (-1) D) (m1.ints' lC) (m2.ints' lD) (by omega) (by omega) HOK.out).mono ?_;rintro e w5 ⟨rfl, b5⟩;have n1 := m1.below b5;have n2 := m2.below b5;have r5 := r4.below b5;have B5 := btr B4 b5;obtain ⟨e0, e1, e2, e3, e4, e5⟩ := r5.trio;have r6 := ((r5.set 0 (.slice (some ⟨B1, 0, none⟩) 3 3)).set 1 (.slice (some ⟨B2, 0, none⟩) 2 2)).set 2 (.int .i64 (-K - 1));simp only [List.set_cons_zero, List.set_cons_succ] at r6;obtain ⟨h0, h1, h2, h3, h4, h5⟩ := r6.trio;clear m1 m2 r4 B4 b5
 go_wp2
 refine bodyPost_ret (v := formV (some ⟨B1, 0, none⟩) 3 3 (some ⟨B2, 0, none⟩) 2 2 (-K - 1)) (by simp [results, Tryz.results124, go_sem, h0, h1, h2]) rfl ?_;refine ⟨B1, B2, rfl, ?_, by omega, y2, by omega, ?_, ?_⟩
 ·exact ((B5.setCell (by simp only []; omega) _).setCell (by simp only []; omega) _).setCell (by simp only []; omega) _
 ·exact ((n1.so).so).so
 exact ((n2.so).so).so
theorem way0_get (hk : k < 3) : way0.pots[k]?.getD ([], [], 0) = (([0, 0, 0] : List Int).set k 1, [0, 0], 0) := by
 match k, hk with
 | 0, _ => rfl
 | 1, _ => rfl
 | 2, _ => rfl
theorem ipots_any : Calls Tryz.prog 63 #[] w fun e w' => ∃ v xs, e = .returned v /\ JV w v 3 xs way0.pots w' := by
 obtain ⟨zi, hi, hz0, hz1, hz2⟩ := info_parts Tryz.infoForm
 go_enter Tryz.func63, Tryz.ntmps63
 go_wp2_with fail
 go_loopw [1, 2, 3] (fun r _ i wr => ∃ (k : Nat) (xs : List Value), k <= 3 /\ i = .int .i64 k /\ JV w r k xs way0.pots wr) (fun _ _ i _ => 3 - (intOf i).toNat)
 case atStart => exact ⟨0, [], by omega, rfl, JV.nil w _⟩
 case round =>
  obtain ⟨k, xs, hk, rfl, j⟩ := hrel
  by_cases hlt : k < 3
  ·obtain ⟨va, vc, rfl⟩ := j.isSlice;have hlt' : (k : Int) < 3 := by omega
   have HT : Hid _ := way0_get hlt
   go_wp2_with fail
   refine (ipot_any).mono ?_;rintro ee w3 ⟨a0, n0, x0, c0, m0, y0, Z1, Z2, rfl, L1, L2, b3, o1, o2, g1, g2, g3⟩;rw [potC_in (k : Int) k rfl] at L1 o1;rw [potD_in (k : Int)] at L2 o2;obtain rfl : n0 = 3 := by rw [<- L1]; simp
   obtain rfl : m0 = 2 := by rw [<- L2]; simp
   rcases o1 with h | ⟨rfl, k1⟩
   ·rw [h] at L1; cases L1
   rcases o2 with h | ⟨rfl, k2⟩
   ·cases h
   have z1 := g1 (by omega);have z2 := g2 (by omega);clear g1 g2 g3;have j3 := j.below b3;have sz := j.b.size;have sz3 := b3.size;have A : Below w3.heap.size w3 (w3.alloc (.cells #[.slice (some ⟨Z1, 0, none⟩) 3 x0, .slice (some ⟨Z2, 0, none⟩) 2 y0, .int .i64 0] 81)) := bal;have j4 := j3.below A;have k1' := k1.below A;have k2' := k2.below A;have n1 : (Value.slice va k vc).ownBlock ≠ some Z1 := fun e => by have := (j.own e).2; omega
   have n2 : (Value.slice va k vc).ownBlock ≠ some Z2 := fun e => by have := (j.own e).2; omega
   have l3 : (([0, 0, 0] : List Int).set k 1).length = 3 := by simp
   clear j j3
   go_wp2_with (at_builtin; go_must (refine wpList_append_lies _ rfl (.tmp 6) (.tmp 9) 66 rfl w.heap.size 81 zi _ 3 56 Tryz.underlying66 hi hz0 hz1 hz2 rfl (by decide) (.slice va k vc) k xs rfl j4.o ⟨w3.heap.size, 0, none⟩ 1 1 [.slice (some ⟨Z1, 0, none⟩) 3 x0, .slice (some ⟨Z2, 0, none⟩) 2 y0, .int .i64 0] rfl rfl (World.news_of_block (cs := #[.slice (some ⟨Z1, 0, none⟩) 3 x0, .slice (some ⟨Z2, 0, none⟩) 2 y0, .int .i64 0]) (t := 81) (fr := (0, 0)) (heap_alloc_new w3 _)) (by simp [Value.oneCell']) (by omega) (by unfold maxLen; omega) (by omega) (by rw [qC]; omega) _ rfl ?_); intro g cp w4 hown hgrow hat hlt1)
   have j5 := j4.app hown hgrow hat rfl (k1'.ints' l3) (k2'.ints' rfl) n1 n2 (by omega) (by omega) HT.out;clear hown hgrow hat j4 k1 k2 k1' k2'
   go_wp2
   go_roundw
   case rel => exact ⟨k + 1, _, by omega, by go_num, j5⟩
   case measure => simp [intOf]; omega
  obtain rfl : k = 3 := by omega
  go_wp2
  go_ret
  exact ⟨_, xs, rfl, j⟩
theorem icopied_any (C D : List Int) {w : World} (hC : Ints w a 3 C) (hD : Ints w c 2 D) :
  Calls Tryz.prog 155 #[formV a 3 cap c 2 cap' K] w fun e w' => ∃ B1 B2 c1 c2, e = .returned (formV (some ⟨B1, 0, none⟩) 3 c1 (some ⟨B2, 0, none⟩) 2 c2 K) /\ Below w.heap.size w w' /\ w.heap.size <= B1 /\ B1 ≠ B2 /\ w.heap.size <= B2 /\ Ints w' (some ⟨B1, 0, none⟩) 3 C /\ Ints w' (some ⟨B2, 0, none⟩) 2 D := by
 have H1 : TimesH w a cap c cap' K ((w.alloc (Obj.cells #[Value.slice a 3 cap, Value.slice c 2 cap', Value.int IntKind.i64 K] 81)).alloc (Obj.cells #[Value.slice none 0 0, Value.slice none 0 0, Value.int IntKind.i64 0] 81)) :=
  ⟨(Cel.new w _ _).alloc _, by have := Cel.new (w.alloc (Obj.cells #[Value.slice a 3 cap, Value.slice c 2 cap', Value.int IntKind.i64 K] 81)) [.slice none 0 0, .slice none 0 0, .int .i64 0] 81; rw [qC] at this; exact this, (bal).alloc (by simp) _⟩
 go_enter Tryz.func155, Tryz.ntmps155
 go_upto_region 1 with fail
 obtain ⟨W0, hW0⟩ : ∃ w2, w2 = (w.alloc (Obj.cells #[Value.slice a 3 cap, Value.slice c 2 cap', Value.int IntKind.i64 K] 81)).alloc (Obj.cells #[Value.slice none 0 0, Value.slice none 0 0, Value.int IntKind.i64 0] 81) := ⟨_, rfl⟩
 rw [<- hW0] at H1 ⊢;clear hW0;have KP : Hid (∀ W, Below W0.heap.size W0 W -> TimesH w a cap c cap' K W) := fun W hW => H1.below hW;have lr := H1.r.lt;have c0 : Below W0.heap.size W0 W0.drew := (Below.refl _ _).drew;have hSS : (W0.drew.cell? ⟨w.heap.size, 0, none⟩ = some (.slice a 3 cap) /\ W0.drew.cell? ⟨w.heap.size, 1, none⟩ = some (.slice c 2 cap') /\ W0.drew.cell? ⟨w.heap.size, 2, none⟩ = some (.int .i64 K)) /\ True := ⟨(KP.out _ c0).cells, trivial⟩
 have hb0 := H1.b;clear H1;refine wp_region_ends (fun w' => w'.cell? ⟨w.heap.size, 0, none⟩ = some (.slice a 3 cap) /\ w'.cell? ⟨w.heap.size, 1, none⟩ = some (.slice c 2 cap') /\ w'.cell? ⟨w.heap.size, 2, none⟩ = some (.int .i64 K)) (fun _ => True) 9 (by kernel_rfl) ?_;refine tkl 0 rfl hSS ?_;refine tkl 1 rfl hSS ?_;refine tkl 3 rfl hSS ?_;refine tkl 4 rfl hSS ?_;refine tkl 6 rfl hSS ?_;refine tkl 7 rfl hSS ?_;clear hSS;have sb0 := hb0.size;refine wpAnyE_one (i := 2) (by kernel_rfl) rfl (fun K' hK => ?_);go_simp;refine (clone_any _ _ C ((hC.below hb0).below c0)).mono ?_;rintro ee w1 ⟨v1, rfl, j1⟩;have e1 := below_of_drew j1.b;obtain ⟨a1, p1, B1, rfl, o1, g1⟩ := j1.ownx hC.1;have i1 := o1.ints;obtain ⟨rfl, -, -⟩ := o1.pos (by omega);have y1 : W0.heap.size <= B1 := g1 (by omega);have l1 := o1.lt (by omega);clear j1 o1 g1;(try dsimp only);refine kk0 hK ((KP.out _ e1).cells) ?_;clear hK K';refine wpAnyE_one (i := 5) (by kernel_rfl) rfl (fun K' hK => ?_);go_simp;refine (clone_any _ _ D ((hD.below hb0).below e1)).mono ?_;rintro ee w2 ⟨v2, rfl, j2⟩;have e2 := e1.trans (j2.b.mono e1.size);have i1' := i1.below j2.b;obtain ⟨a2, p2, B2, rfl, o2, g2⟩ := j2.ownx hD.1;have i2 := o2.ints;obtain ⟨rfl, -, -⟩ := o2.pos (by omega);have y2 : w1.heap.size <= B2 := g2 (by omega);have l2 := o2.lt (by omega);have s1 := e1.size;have s2 := j2.b.size;clear j2 o2 g2 i1;(try dsimp only);refine kk0 hK ((KP.out _ e2).cells) ?_;clear hK K';refine wpAnyE_one (i := 8) (by kernel_rfl) rfl (fun K' hK => ?_)
 go_simp;refine kk0 hK ((KP.out _ e2).cells) ?_;clear hK K';have HY := KP.out _ e2;obtain ⟨r0, r1, r2, r3, r4, r5⟩ := HY.room;obtain ⟨s0', s1', s2', -, -, -⟩ := HY.r.trio;have T : Touch (fun z => z = w.heap.size + 1) w2 (((w2.setCell ⟨w.heap.size + 1, 0, none⟩ (.slice (some ⟨B1, 0, none⟩) 3 p1)).setCell ⟨w.heap.size + 1, 1, none⟩ (.slice (some ⟨B2, 0, none⟩) 2 p2)).setCell ⟨w.heap.size + 1, 2, none⟩ (.int .i64 K)) := (((Touch.refl (fun z => z = w.heap.size + 1) w2).setCell rfl _).setCell rfl _).setCell rfl _;have r6 := ((HY.r.set 0 (.slice (some ⟨B1, 0, none⟩) 3 p1)).set 1 (.slice (some ⟨B2, 0, none⟩) 2 p2)).set 2 (.int .i64 K);simp only [List.set_cons_zero, List.set_cons_succ] at r6;have p6 := HY.p.touch T (fun h => by have := h; omega);obtain ⟨h0, h1, h2, -, -, -⟩ := r6.trio;obtain ⟨x0, x1, x2, -, -, -⟩ := p6.trio;refine wpAnyE_one (i := 9) (by kernel_rfl) rfl (fun K' hK => ?_);go_simp;refine hK.out _ _ ⟨⟨x0, x1, x2⟩, fun h => absurd (show true = false from h) (by decide)⟩ ?_;clear hK K';refine wod ?_ _;have q1 := i1'.by T (fun b o e => by simp only [qA, qB, and_true] at e; omega);have q2 := i2.by T (fun b o e => by simp only [qA, qB, and_true] at e; omega);have BB := (hb0.trans (e2.mono hb0.size)).trans (T.below (by omega) (fun z hz => by omega));clear HY r0 r1 r2 r3 r4 r5 s0' s1' s2' r6 p6 x0 x1 x2 T i1' i2
 go_wp2
 refine bodyPost_ret (v := formV (some ⟨B1, 0, none⟩) 3 p1 (some ⟨B2, 0, none⟩) 2 p2 K) (by simp [results, Tryz.results155, go_sem, h0, h1, h2]) rfl ?_
 exact ⟨B1, B2, p1, p2, rfl, BB, by omega, by omega, by omega, q1, q2⟩
theorem Tryz.copiedForm (v : Value) (w : World) : (Go.method 292 81 v "loop.example/concord/impl.copied").run Tryz.prog w = .ok (155, v) w := by kernel_rfl
theorem icopiesBy_any (fs : List Frm) {w : World} (hN : fs.length = N) (hF : FormsAt w ad fs) (hfit : ∀ k, k < N -> fitX 10000000 (fs[k]?.getD ([], [], 0))) (hN1 : N <= 1048576) :
  Calls Tryz.prog 128 #[.slice ad N cap, .func (.methodOf 81 "loop.example/concord/impl.copied") #[] #[]] w fun e w' => ∃ v xs, e = .returned v /\ JV w v N xs fs w' := by
 have HN : Hid (fs.length = N) := hN;have HFT : Hid _ := hfit;have HF : Hid (FormsAt w ad fs) := hF;clear hN hfit hF;obtain ⟨zi, hi, hz0, hz1, hz2⟩ := info_parts Tryz.infoForm;have hm := Tryz.copiedForm
 go_enter Tryz.func128, Tryz.ntmps128
 go_wp2_with fail
 go_loopw [5, 7, 10] (fun r _ i wr => ∃ (k : Nat) (xs : List Value), k <= N /\ i = .int .i64 k /\ JV w r k xs fs wr) (fun _ _ i _ => N - (intOf i).toNat)
 case atStart => exact ⟨0, [], qI _, rfl, JV.nil w _⟩
 case round =>
  obtain ⟨k, xs, hk, rfl, j⟩ := hrel
  by_cases hlt : k < N
  ·obtain ⟨va, vc, rfl⟩ := j.isSlice;have hlt' : (k : Int) < N := by omega
   obtain ⟨b, off, rfl, a', c', ca, cc, c0, c1, c2, iC, iD⟩ := (HF.out.keep j.b) k (by rw [HN.out]; exact hlt);have hfit := HFT.out k hlt;generalize HG : fs[k]?.getD ([], [], 0) = f at *;have HT : Hid (fs[k]?.getD ([], [], 0) = f) := HG;clear HG;obtain ⟨fC, fD, fK⟩ := f;have lC : fC.length = 3 := hfit.c;have lD : fD.length = 2 := hfit.d;simp only at c2 iC iD;clear hfit;have A1 : Below wr.heap.size wr (wr.alloc (.cells #[.slice a' 3 ca, .slice c' 2 cc, .int .i64 fK] 81)) := bal
   go_wp2_with fail
   refine (icopied_any fC fD (iC.below A1) (iD.below A1)).mono ?_;rintro ee w3 ⟨Z1, Z2, x0, y0, rfl, b3, z1, z2, z3, k1, k2⟩;rw [qC] at z1 z3;have b3' := A1.trans (b3.mono A1.size);have j3 := j.below b3';have sz := j.b.size;have sz3 := b3'.size;have A : Below w3.heap.size w3 (w3.alloc (.cells #[.slice (some ⟨Z1, 0, none⟩) 3 x0, .slice (some ⟨Z2, 0, none⟩) 2 y0, .int .i64 fK] 81)) := bal;have j4 := j3.below A;have k1' := k1.below A;have k2' := k2.below A;have n1 : (Value.slice va k vc).ownBlock ≠ some Z1 := fun e => by have := (j.own e).2; omega
   have n2 : (Value.slice va k vc).ownBlock ≠ some Z2 := fun e => by have := (j.own e).2; omega
   clear j j3 c0 c1 c2 iC iD A1 b3 b3'
   go_wp2_with (at_builtin; go_must (refine wpList_append_lies _ rfl (.tmp 14) (.tmp 18) 66 rfl w.heap.size 81 zi _ 3 56 Tryz.underlying66 hi hz0 hz1 hz2 rfl (by decide) (.slice va k vc) k xs rfl j4.o ⟨w3.heap.size, 0, none⟩ 1 1 [.slice (some ⟨Z1, 0, none⟩) 3 x0, .slice (some ⟨Z2, 0, none⟩) 2 y0, .int .i64 fK] rfl rfl (World.news_of_block (cs := #[.slice (some ⟨Z1, 0, none⟩) 3 x0, .slice (some ⟨Z2, 0, none⟩) 2 y0, .int .i64 fK]) (t := 81) (fr := (0, 0)) (heap_alloc_new w3 _)) (by simp [Value.oneCell']) (by omega) (by unfold maxLen; omega) (by omega) (by rw [qC]; omega) _ rfl ?_); intro g cp w4 hown hgrow hat hlt1)
   have j5 := j4.app hown hgrow hat rfl k1' k2' n1 n2 (by omega) (by omega) HT.out;clear hown hgrow hat j4 k1 k2 k1' k2'
   go_wp2
   go_roundw
   case rel => exact ⟨k + 1, _, by omega, by go_num, j5⟩
   case measure => simp [intOf]; omega
  obtain rfl : k = N := by omega
  go_wp2
  go_ret
  exact ⟨_, xs, rfl, j⟩
theorem icopies_any (fs : List Frm) {w : World} (hN : fs.length = N) (hF : FormsAt w ad fs) (hfit : ∀ k, k < N -> fitX 10000000 (fs[k]?.getD ([], [], 0))) (hN1 : N <= 1048576) :
  Calls Tryz.prog 120 #[.slice ad N cap] w fun e w' => ∃ v xs, e = .returned v /\ JV w v N xs fs w' := by
 go_enter Tryz.func120, Tryz.ntmps120
 go_wp2_with fail
 refine (icopiesBy_any fs hN hF hfit hN1).mono ?_;rintro e w1 ⟨v, xs, rfl, j⟩
 go_wp2
 go_ret
 exact ⟨v, xs, rfl, j⟩
abbrev wayV (ga : Option Addr) (ng gc : Nat) (pa : Option Addr) (cp : Nat) (ta : Option Addr) (nt tc : Nat) (st : Bool) : Value := .agg #[.slice ga ng gc, .slice pa 3 cp, .slice ta nt tc, .bool st]
theorem resYes {w' : World} {e : Ending} {C D : List Int} (h : Res w w' e C D K) (hC : C.length = 3) (hD : D.length = 2) : ∃ B1 B2 c1 c2, e = .returned (formV (some ⟨B1, 0, none⟩) 3 c1 (some ⟨B2, 0, none⟩) 2 c2 K) /\ Below w.heap.size w w' /\ w.heap.size <= B1 /\ B1 ≠ B2 /\ w.heap.size <= B2 /\ Blk w' B1 C /\ Blk w' B2 D := by
 obtain ⟨a, n, cap, c, m, cap', B1, B2, rfl, L1, L2, b, o1, o2, g1, g2, g3⟩ := h;obtain rfl : n = 3 := by omega
 obtain rfl : m = 2 := by omega
 rcases o1 with h | ⟨rfl, k1⟩
 ·rw [h] at hC; cases hC
 rcases o2 with h | ⟨rfl, k2⟩
 ·rw [h] at hD; cases hD
 exact ⟨B1, B2, cap, cap', rfl, b, g1 (by omega), g3 (by omega) (by omega), g2 (by omega), k1, k2⟩
theorem iaddX_any (f : Frm) {a2 : Option Addr} {cap2 : Nat} {c2 : Option Addr} {cap2' : Nat} (g : Frm) {w : World} (hC : Ints w a 3 f.1) (hD : Ints w c 2 f.2.1) (hC2 : Ints w a2 3 g.1) (hD2 : Ints w c2 2 g.2.1) (h1 : fitX 10000000 f) (h2 : fitX 10000000 g) (h3 : fitX 10000000 (plusX f g)) :
  Calls Tryz.prog 129 #[formV a 3 cap c 2 cap' f.2.2, formV a2 3 cap2 c2 2 cap2' g.2.2] w fun e w' => ∃ B1 B2 c1 c2, e = .returned (formV (some ⟨B1, 0, none⟩) 3 c1 (some ⟨B2, 0, none⟩) 2 c2 (plusX f g).2.2) /\ Below w.heap.size w w' /\ w.heap.size <= B1 /\ B1 ≠ B2 /\ w.heap.size <= B2 /\ Blk w' B1 (plusX f g).1 /\ Blk w' B2 (plusX f g).2.1 := by
 have hok : addOk 3 2 f.1 f.2.1 f.2.2 3 2 g.1 g.2.1 g.2.2 = true := by
  have e3 : formB 3 2 (lin f.1 g.1 1) (lin f.2.1 g.2.1 1) (f.2.2 + 1 * g.2.2) = true := fit_ok h3;unfold addOk;rw [fit_ok h1, fit_ok h2, e3]; rfl
 refine (iadd_any a 3 cap c 2 cap' f.2.2 f.1 f.2.1 a2 3 cap2 c2 2 cap2' g.2.2 g.1 g.2.1 w hC hD hC2 hD2 (by omega) (by omega) (by omega) (by omega)).mono ?_;intro e w' h;rw [hok] at h
 exact resYes h h3.c h3.d
theorem lin_neg (xs ys : List Int) : lin xs (mulL (-1) ys) 1 = lin xs ys (-1) := by
 unfold lin mulL;rw [List.zipWith_map_right]
 congr 1
 funext x y
 omega
def negX (k : Nat) : Frm := (mulL (-1) (([0, 0, 0] : List Int).set k 1), mulL (-1) [0, 0], -1 * 0)
theorem plus_neg (f : Frm) (k : Nat) : plusX f (negX k) = lessX f k := by
 simp only [plusX, negX, lessX, lin_neg];rw [show f.2.2 + 1 * (-1 * 0) = f.2.2 + -1 * 0 by omega]
theorem negX_fit (hk : k < 3) : fitX 1 (negX k) := by
 have b3 : bnd 1 (mulL (-1) (([0, 0, 0] : List Int).set k 1)) := fun i => by
  match k, hk, i with
  | 0, _, 0 => simp [mulL]
  | 0, _, 1 => simp [mulL]
  | 0, _, 2 => simp [mulL]
  | 0, _, i + 3 => simp [mulL]
  | 1, _, 0 => simp [mulL]
  | 1, _, 1 => simp [mulL]
  | 1, _, 2 => simp [mulL]
  | 1, _, i + 3 => simp [mulL]
  | 2, _, 0 => simp [mulL]
  | 2, _, 1 => simp [mulL]
  | 2, _, 2 => simp [mulL]
  | 2, _, i + 3 => simp [mulL]
 have b2 : bnd 1 (mulL (-1) ([0, 0] : List Int)) := fun i => by
  match i with
  | 0 => simp [mulL]
  | 1 => simp [mulL]
  | i + 2 => simp [mulL]
 exact ⟨by simp [negX, mulL], by simp [negX, mulL], b3, b2, by simp [negX], by simp [negX]⟩
theorem inegpot_any (k : Nat) (hk : k < 3) {a : Option Addr} {cap : Nat} {c : Option Addr} {cap' : Nat} {w : World} (hC : Ints w a 3 (([0, 0, 0] : List Int).set k 1)) (hD : Ints w c 2 [0, 0]) :
  Calls Tryz.prog 130 #[formV a 3 cap c 2 cap' 0, .int .i64 (-1)] w fun e w' => ∃ B1 B2 c1 c2, e = .returned (formV (some ⟨B1, 0, none⟩) 3 c1 (some ⟨B2, 0, none⟩) 2 c2 (negX k).2.2) /\ Below w.heap.size w w' /\ w.heap.size <= B1 /\ B1 ≠ B2 /\ w.heap.size <= B2 /\ Blk w' B1 (negX k).1 /\ Blk w' B2 (negX k).2.1 := by
 have h1 : formB 3 2 (([0, 0, 0] : List Int).set k 1) [0, 0] 0 = true := by
  match k, hk with
  | 0, _ => decide
  | 1, _ => decide
  | 2, _ => decide
 have h2 : formB 3 2 (negX k).1 (negX k).2.1 (negX k).2.2 = true := fit_ok ((negX_fit hk).mono (by omega))
 have hok : timOk 3 2 (([0, 0, 0] : List Int).set k 1) [0, 0] 0 (-1) = true := by
  unfold timOk;rw [h1];have h2' : formB 3 2 (mulL (-1) (([0, 0, 0] : List Int).set k 1)) (mulL (-1) [0, 0]) (-1 * 0) = true := h2;rw [h2']; rfl
 refine (itim_any a 3 cap c 2 cap' 0 (-1) w hC hD (by omega) (by omega)).mono ?_;intro e w' h;rw [hok] at h
 exact resYes h (negX_fit hk).c (negX_fit hk).d
theorem iadds_any (y : Way) {ga : Option Addr} {ng gc : Nat} {pa : Option Addr} {cp : Nat} {ta : Option Addr} {nt tc : Nat} {st : Bool} {w : World} (hp : y.pots.length = 3) (hP : FormsAt w pa y.pots) (fp : ∀ k, k < 3 -> fitX 9000000 (y.pots[k]?.getD noX)) :
  Calls Tryz.prog 121 #[wayV ga ng gc pa cp ta nt tc st] w fun e w' => ∃ v xs, e = .returned v /\ JV w v 3 xs (endW y).adds w' := by
 have HPL : Hid (y.pots.length = 3) := hp;have HFP : Hid _ := fp;have HP : Hid (FormsAt w pa y.pots) := hP;clear hp fp hP;obtain ⟨zi, hi, hz0, hz1, hz2⟩ := info_parts Tryz.infoForm;have B0 : Below w.heap.size w (w.alloc (.cells #[.slice ga ng gc, .slice pa 3 cp, .slice ta nt tc, .bool st] 138)) := bal;have j0 : JV w (.slice none 0 0) 0 [] (endW y).adds (w.alloc (.cells #[.slice ga ng gc, .slice pa 3 cp, .slice ta nt tc, .bool st] 138)) := (JV.nil w _).below B0
 go_enter Tryz.func121, Tryz.ntmps121
 go_wp2_with fail
 go_loopw [3, 4, 5, 9] (fun r _ _ i wr => ∃ (k : Nat) (xs : List Value), k <= 3 /\ i = .int .i64 k /\ JV w r k xs (endW y).adds wr) (fun _ _ _ i _ => 3 - (intOf i).toNat)
 case atStart => exact ⟨0, [], by omega, rfl, j0⟩
 case round =>
  clear j0 B0;obtain ⟨k, xs, hk, rfl, j⟩ := hrel
  by_cases hlt : k < 3
  ·obtain ⟨va, vc, rfl⟩ := j.isSlice;have hlt' : (k : Int) < 3 := by omega
   obtain ⟨b, off, rfl, a', c', ca, cc, c0, c1, c2, iC, iD⟩ := (HP.out.keep j.b) k (by rw [HPL.out]; exact hlt);have hfit : fitX 9000000 (y.pots[k]?.getD ([], [], 0)) := HFP.out k hlt;generalize HG : y.pots[k]?.getD ([], [], 0) = f at *
   have HT : Hid ((endW y).adds[k]?.getD ([], [], 0) = lessX f k) := by
    show _ = _
    rw [show (endW y).adds = (List.range 3).map (fun v => lessX (y.pots[v]?.getD noX) v) from rfl, List.getElem?_map, List.getElem?_range hlt]
    show lessX (y.pots[k]?.getD noX) k = _
    rw [show y.pots[k]?.getD noX = f from HG]
   clear HG;have fit1 : fitX 10000000 f := hfit.mono (by omega);have fit3 : fitX 10000000 (plusX f (negX k)) := (plusX_fit hfit (negX_fit hlt)).mono (by omega);have fit4 : fitX 10000000 (lessX f k) := by rw [<- plus_neg]; exact fit3
   have HF1 : Hid _ := fit1;have HF3 : Hid _ := fit3;have lC := fit4.c;have lD := fit4.d;have HPN : Hid (plusX f (negX k) = lessX f k) := plus_neg f k;clear hfit fit1 fit3 fit4;have A1 : Below wr.heap.size wr (wr.alloc (.cells #[.slice a' 3 ca, .slice c' 2 cc, .int .i64 f.2.2] 81)) := bal;have bx := Cel.new wr [.slice a' 3 ca, .slice c' 2 cc, .int .i64 f.2.2] 81
   go_upto_region 5 with fail
   have z0 : wr.heap.size < (wr.alloc (.cells #[.slice a' 3 ca, .slice c' 2 cc, .int .i64 f.2.2] 81)).heap.size := by rw [qC]; omega
   generalize (wr.alloc (.cells #[.slice a' 3 ca, .slice c' 2 cc, .int .i64 f.2.2] 81)) = W0 at *;have KP : Hid (∀ W, Below W0.heap.size W0 W -> Cel W wr.heap.size [.slice a' 3 ca, .slice c' 2 cc, .int .i64 f.2.2] 81) := fun W hW => bx.below hW
   have KQ : Hid (∀ W, Below W0.heap.size W0 W -> (W.cell? ⟨wr.heap.size, 0, none⟩ = some (.slice a' 3 ca) /\ W.cell? ⟨wr.heap.size, 1, none⟩ = some (.slice c' 2 cc) /\ W.cell? ⟨wr.heap.size, 2, none⟩ = some (.int .i64 f.2.2))) := fun W hW => by
    obtain ⟨n0, n1, n2, _, _, _⟩ := (KP.out W hW).trio
    exact ⟨n0, n1, n2⟩
   have jW := j.below A1;have iC0 := iC.below A1;have iD0 := iD.below A1;have e0 : Below W0.heap.size W0 W0.drew := (Below.refl _ _).drew;have hSS := And.intro (KQ.out _ e0) (True.intro);have OWN : Hid (∀ G : Nat, (Value.slice va k vc).ownBlock = some G -> G < wr.heap.size) := fun G e => (j.own e).2;have sw := jW.b.size;clear bx j iC iD c0 c1 c2 A1;refine wp_region_ends (fun w' => w'.cell? ⟨wr.heap.size, 0, none⟩ = some (.slice a' 3 ca) /\ w'.cell? ⟨wr.heap.size, 1, none⟩ = some (.slice c' 2 cc) /\ w'.cell? ⟨wr.heap.size, 2, none⟩ = some (.int .i64 f.2.2)) (fun _ => True) 8 (by kernel_rfl) ?_;refine tkl 0 rfl hSS ?_;refine tkl 1 rfl hSS ?_;refine tkl 2 rfl hSS ?_;clear hSS;refine wo1 3 rfl fun K hK => ?_;go_simp;refine (ipot_any).mono ?_;intro ee w1 hR;rw [potC_in (k : Int) k rfl, potD_in (k : Int)] at hR;obtain ⟨P1, P2, p1, p2, rfl, b1, -, -, -, u1, u2⟩ := resYes hR (by simp) rfl;have e1 := below_of_drew b1;clear hR b1;(try dsimp only);refine kk0 hK (KQ.out _ e1) ?_;refine wo1 4 rfl fun K hK => ?_;go_simp;refine (inegpot_any k hlt (u1.ints' (by simp)) (u2.ints' rfl)).mono ?_;rintro ee w2 ⟨N1, N2, q1, q2, rfl, b2, -, -, -, v1, v2⟩;have e2 := e1.trans (b2.mono e1.size);clear b2 u1 u2;(try dsimp only);refine kk0 hK (KQ.out _ e2) ?_;refine wo1 5 rfl fun K hK => ?_;go_simp;refine (iaddX_any f (negX k) (iC0.below e2) (iD0.below e2) (v1.ints' (by simp [negX, mulL])) (v2.ints' (by simp [negX, mulL])) HF1.out ((negX_fit hlt).mono (by omega)) HF3.out).mono ?_;rw [HPN.out]
   rintro ee w3 ⟨Z1, Z2, x0, y0, rfl, b3, z1, z2, z3, k1, k2⟩;have e3 := e2.trans (b3.mono e2.size);have s2 := e2.size;have s3 := b3.size;clear b3 v1 v2;(try dsimp only);refine kk0 hK (KQ.out _ e3) ?_;refine wo1 6 rfl fun K hK => ?_;go_simp;have A : Below w3.heap.size w3 (w3.alloc (.cells #[.slice (some ⟨Z1, 0, none⟩) 3 x0, .slice (some ⟨Z2, 0, none⟩) 2 y0, .int .i64 (lessX f k).2.2] 81)) := bal;have e4 := e3.trans (A.mono e3.size);have j4 := jW.below e4;have k1' := k1.below A;have k2' := k2.below A;have n1 : (Value.slice va k vc).ownBlock ≠ some Z1 := fun e => by have := OWN.out _ e; omega
   have n2 : (Value.slice va k vc).ownBlock ≠ some Z2 := fun e => by have := OWN.out _ e; omega
   refine kk0 hK (KQ.out _ e4) ?_;clear hK K jW;refine wo1 7 rfl fun K hK => ?_;rw [if_pos (by rfl)];refine wp_append_lies _ (.tmp 14) (.tmp 20) 66 rfl w.heap.size 81 zi _ 3 56 Tryz.underlying66 hi hz0 hz1 hz2 rfl (by omega) (.slice va k vc) k xs (by rfl) j4.o ⟨w3.heap.size, 0, none⟩ 1 1 [.slice (some ⟨Z1, 0, none⟩) 3 x0, .slice (some ⟨Z2, 0, none⟩) 2 y0, .int .i64 (lessX f k).2.2] (by rfl) (by rfl) (World.news_of_block (cs := #[.slice (some ⟨Z1, 0, none⟩) 3 x0, .slice (some ⟨Z2, 0, none⟩) 2 y0, .int .i64 (lessX f k).2.2]) (t := 81) (fr := (0, 0)) (heap_alloc_new w3 _)) (by simp [Value.oneCell']) (by omega) (by unfold maxLen; omega) (by omega) j4.b.size _ rfl ?_;intro g cpg w4 hown hgrow hat hltg;have j5 := j4.app hown hgrow hat rfl (k1'.ints' lC) (k2'.ints' lD) n1 n2 (by omega) (by omega) HT.out;have bx4 := (KP.out _ e4).grew hgrow (fun e => by have := OWN.out _ e; omega);obtain ⟨m0, m1, m2, -, -, -⟩ := bx4.trio;refine hK.out _ _ ⟨⟨m0, m1, m2⟩, fun _ => trivial⟩ ?_;clear hK K hown hgrow hat j4 k1 k2 k1' k2' n1 n2;refine wo1 8 rfl fun K hK => ?_;go_simp;refine hK.out _ _ ⟨⟨m0, m1, m2⟩, fun _ => trivial⟩ ?_;refine wod ?_ _;clear bx4 m0 m1 m2 KP KQ
   go_wp2
   go_roundw
   case rel => exact ⟨k + 1, _, by omega, by go_num, j5⟩
   case measure => simp [intOf]; omega
  obtain rfl : k = 3 := by omega
  go_wp2
  go_ret
  exact ⟨_, xs, rfl, j⟩
structure RowFit (r : RowM) : Prop where
 g : ∀ k, k < r.guards.length -> fitX 10000000 (r.guards[k]?.getD ([], [], 0))
 a : ∀ k, k < r.adds.length -> fitX 10000000 (r.adds[k]?.getD ([], [], 0))
 t : ∀ k, k < r.tells.length -> fitX 10000000 (r.tells[k]?.getD ([], [], 0))
 lg : r.guards.length <= 1000
 la : r.adds.length <= 3
 lt : r.tells.length <= 1000
theorem endW_fit {i : Nat} {y : Way} (h : WayOk i y) (hi : i <= 1000 := by omega) : RowFit (endW y) := by
 refine ⟨fun k hk => h.gf k hk, fun k hk => ?_, fun k hk => h.tf k hk, ?_, ?_, ?_⟩
 ·have hk3 : k < 3 := by
   have : (endW y).adds.length = 3 := by simp [endW]
   omega
  have e : (endW y).adds[k]?.getD ([], [], 0) = lessX (y.pots[k]?.getD noX) k := by
   rw [show (endW y).adds = (List.range 3).map (fun v => lessX (y.pots[v]?.getD noX) v) from rfl, List.getElem?_map, List.getElem?_range hk3]
   rfl
  rw [e, <- plus_neg];have h1 := h.pf k hk3;have h6 := wb_six (n := min i 6) (by omega);have hp := wb_pos (min i 6)
  exact (plusX_fit h1 (negX_fit hk3)).mono (by omega)
 ·show y.guards.length <= 1000; have := h.gl; omega
 ·simp [endW]
 show y.tells.length <= 1000; have := h.tl; omega
theorem stopW_fit {i : Nat} {y : Way} (h : WayOk i y) (hi : i <= 1000 := by omega) : RowFit (stopW y) :=
 ⟨fun k hk => h.gf k hk, fun k hk => by simp [stopW] at hk, fun k hk => by simp [stopW] at hk, by show y.guards.length <= 1000; have := h.gl; omega, by simp [stopW], by simp [stopW]⟩
theorem goW_fit {ls : List LV} (h6 : ls.length <= 6) (hall : ls.all LV.ok = true) (hD : ∀ k, k < ls.length -> (ls[k]?.getD noLV).f.D.length = (ls[k]?.getD noLV).f.m) (f : Nat) : ∀ (i : Nat) (y : Way), i <= 12 + 7 * (7 - f) -> f <= 7 -> WayOk i y -> ∀ r ∈ goW ls f i y, RowFit r := by
 induction f with
 | zero => intro i y hi _ h r hr; simp only [goW, List.mem_cons, List.not_mem_nil, or_false] at hr; subst hr; exact endW_fit h
 | succ f ih =>
  intro i y hi hf7 h r hr;rw [goW] at hr
  by_cases hl : i < ls.length
  ·rw [if_pos hl] at hr
   have hok : (ls[i]?.getD noLV).ok = true := by
    rw [qD hl]
    exact List.all_eq_true.1 hall _ (List.getElem_mem hl)
   have hDD := hD i hl;generalize ls[i]?.getD noLV = q at *
   by_cases hk4 : q.kind = 4
   ·rw [if_neg (by omega), if_neg (by omega), if_neg (by omega)] at hr;simp only [List.mem_cons, List.not_mem_nil, or_false] at hr;subst hr
    exact stopW_fit h
   obtain ⟨hsm, hkk, hz, hp⟩ := lineW (show lineB q.kind q.pot q.skip q.f.n q.f.m q.f.C q.f.D q.f.K = true from hok) hk4;obtain ⟨f1, f2, f3⟩ := h.into (by omega) (f := q.f) hsm hDD
   rcases hkk with e | e | e
   ·rw [if_pos e] at hr;have hz' := hz e
    rcases List.mem_append.1 hr with hr | hr
    ·exact ih _ _ (by omega) (by omega) (h.guard (by omega) f2) r hr
    exact ih _ _ (by omega) (by omega) (h.guard (by omega) f3) r hr
   ·rw [if_neg (by omega), if_pos e] at hr;have hp' := hp e
    exact ih _ _ (by omega) (by omega) (h.add (by omega) (by omega) f1) r hr
   rw [if_neg (by omega), if_neg (by omega), if_pos e] at hr
   exact ih _ _ (by omega) (by omega) (h.tell (by omega) f2) r hr
  rw [if_neg hl] at hr;simp only [List.mem_cons, List.not_mem_nil, or_false] at hr;subst hr
  exact endW_fit h
def readsR (rs : List RowM) (v : Nat) : Bool := rs.any fun r => r.adds.any (fun f => hasP f v) || r.tells.any (fun f => hasP f v)
theorem readsR_snoc (rs : List RowM) (k : Nat) (hk : k < rs.length) (v : Nat) : readsR (rs.take (k + 1)) v = readsF (readsF (readsR (rs.take k)) (rs[k]?.getD noR).adds) (rs[k]?.getD noR).tells v := by
 rw [readsR, List.take_succ_eq_append_getElem hk, List.any_append, qD hk];simp [readsF, readsR, Bool.or_assoc]
theorem rowsL_fit {ls : List LV} (h6 : ls.length <= 6) (hall : ls.all LV.ok = true) (hF : LinesG w ad ls) : ∀ r ∈ rowsL ls, RowFit r :=
 goW_fit h6 hall (fun k hk => by obtain ⟨b, off, e, hc, hA⟩ := hF k hk; exact hA.D.1) 7 0 way0 (by omega) (by omega) WayOk.start
theorem OwnB.below (h : OwnB W G f) (b : Below W.heap.size W W') : OwnB W' G f := by
 obtain ⟨cur, hc, hv⟩ := h
 exact ⟨cur, hc.below b, hv⟩
end Go.Proofs.YtdaiaohlkdolmaaGreat
