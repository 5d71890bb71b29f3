/-
  Lemmas that the claim's last text rests on.
-/
import Derived.Lib.SliceRun
import Derived.Test.YtfmpcihghlnlnaaGreatDoorQP
namespace Go.Proofs.YtfmpcihghlnlnaaGreatDoor
open Go.RowKit Go.Deep
open Option.some renaming injEq → qA
open World renaming size_alloc → qB
open List renaming getElem?_cons_zero → qC, getElem?_set_ne → qD, getElem?_set_self → qE
open Nat renaming le_refl → qF
set_option linter.unusedVariables false
set_option maxRecDepth 100000
set_option maxHeartbeats 25600000
variable {B G N cap n : Nat} {W W' w : World} {a : Option Addr} {f : Nat -> Bool} {v : Value} {xs zs : List Int}
def rowsB (N : Nat) (ls : List LV) : List RowM := if actB N ls then rowsL ls else []
theorem JR.noRows (w : World) : JR w w.heap.size 0 [] [] (w.alloc (.cells #[] 113)) :=
 ⟨bal, World.ownsRow_lit w #[] 0 (qF _) (by unfold maxLen; omega) rfl, fun j hj => by simp at hj, fun j hj => by simp at hj⟩
theorem actB_parts {ls : List LV} (h : actB N ls = true) : N <= 6 /\ ls.all LV.ok = true := by
 simp only [actB, Bool.and_eq_true, decide_eq_true_eq] at h
 exact ⟨by omega, h.1.2⟩
theorem way0_at {a0 a1 a2 c0 c1 c2 : Option Addr} {x0 x1 x2 y0 y1 y2 : Nat} (h : Cel W B [.slice a0 3 x0, .slice c0 2 y0, .int .i64 0, .slice a1 3 x1, .slice c1 2 y1, .int .i64 0, .slice a2 3 x2, .slice c2 2 y2, .int .i64 0] 106)
  (i0 : Ints W a0 3 ([0, 0, 0].set 0 1)) (j0 : Ints W c0 2 [0, 0]) (i1 : Ints W a1 3 ([0, 0, 0].set 1 1)) (j1 : Ints W c1 2 [0, 0]) (i2 : Ints W a2 3 ([0, 0, 0].set 2 1)) (j2 : Ints W c2 2 [0, 0]) : FormsAt W (some ⟨B, 0, none⟩) way0.pots := fun i hi => by
 have hi' : i < 3 := hi
 match i, hi' with
 | 0, _ => exact ⟨B, 0, rfl, a0, c0, x0, y0, h.cell 0, h.cell 1, h.cell 2, i0, j0⟩
 | 1, _ => exact ⟨B, 0, rfl, a1, c1, x1, y1, h.cell 3, h.cell 4, h.cell 5, i1, j1⟩
 | 2, _ => exact ⟨B, 0, rfl, a2, c2, x2, y2, h.cell 6, h.cell 7, h.cell 8, i2, j2⟩
theorem FormsAt.noForms : FormsAt W a [] := fun i hi => by simp at hi
theorem srows_any {ad : Option Addr} (ls : List LV) {w : World} (hN : ls.length = N) (hF : LinesG w ad ls) (hN1 : N <= 1048576) :
  Calls Tryz.prog 59 #[.slice ad N cap] w fun e w' => ∃ G cp xs, e = .returned (.slice (some ⟨G, 0, none⟩) (rowsB N ls).length cp) /\ JR w G cp xs (rowsB N ls) w' := by
 have HN : Hid (ls.length = N) := hN;clear hN;obtain ⟨u, hu⟩ : ∃ u, actB N ls = u := ⟨_, rfl⟩
 have HU : Hid (actB N ls = u) := hu
 go_enter Tryz.func59, Tryz.ntmps59
 go_wp2_with fail
 refine (sact_any ls HN.out hF hN1).mono ?_;rintro e w1 ⟨rfl, b1⟩;rw [hu];clear hu
 cases u with
 | false =>
  have J := (JR.noRows w1).mono b1
  go_wp2
  go_ret
  rw [rowsB, HU.out]
  exact ⟨_, _, _, rfl, J⟩
 | true =>
  obtain ⟨h6, hall⟩ := actB_parts HU.out;have HA : Hid (ls.all LV.ok = true) := hall;clear hall
  go_wp2_with fail
  refine (spot_any _ _).mono ?_;rintro ee w2 ⟨a0, n0, x0, c0, m0, y0, Z1, Z2, rfl, L1, L2, b2, o1, o2, -, -, -⟩;rw [potC_in (0 : Int) 0 rfl] at L1 o1;rw [potD_in (0 : Int)] at L2 o2;obtain rfl : n0 = 3 := by rw [<- L1]; simp
  obtain rfl : m0 = 2 := by rw [<- L2]; simp
  have i0 := o1.ints;have j0 := o2.ints;rw [L1] at i0;rw [L2] at j0;clear o1 o2 L1 L2 Z1 Z2
  go_wp2_with fail
  refine (spot_any _ _).mono ?_;rintro ee w3 ⟨a1, n1, x1, c1, m1, y1, Z1, Z2, rfl, L1, L2, b3, o1, o2, -, -, -⟩;rw [potC_in (1 : Int) 1 rfl] at L1 o1;rw [potD_in (1 : Int)] at L2 o2;obtain rfl : n1 = 3 := by rw [<- L1]; simp
  obtain rfl : m1 = 2 := by rw [<- L2]; simp
  have i1 := o1.ints;have j1 := o2.ints;rw [L1] at i1;rw [L2] at j1;clear o1 o2 L1 L2 Z1 Z2
  go_wp2_with fail
  refine (spot_any _ _).mono ?_;rintro ee w4 ⟨a2, n2, x2, c2, m2, y2, Z1, Z2, rfl, L1, L2, b4, o1, o2, -, -, -⟩;rw [potC_in (2 : Int) 2 rfl] at L1 o1;rw [potD_in (2 : Int)] at L2 o2;obtain rfl : n2 = 3 := by rw [<- L1]; simp
  obtain rfl : m2 = 2 := by rw [<- L2]; simp
  have i2 := o1.ints;have j2 := o2.ints;rw [L1] at i2;rw [L2] at j2;clear o1 o2 L1 L2 Z1 Z2;have B2 := btr b1 b2;have B3 := btr B2 b3;have B4 := btr B3 b4;have A1 : Below w4.heap.size w4 (w4.alloc (.cells #[.slice a0 3 x0, .slice c0 2 y0, .int .i64 0, .slice a1 3 x1, .slice c1 2 y1, .int .i64 0, .slice a2 3 x2, .slice c2 2 y2, .int .i64 0] 106)) := bal;have A2 := (A1.alloc A1.size (.cells #[] 106))
  have A3 := (A2.alloc A2.size (.cells #[] 106))
  have i0' := ((i0.below b3).below b4).below A3;have j0' := ((j0.below b3).below b4).below A3;have i1' := (i1.below b4).below A3;have j1' := (j1.below b4).below A3;have i2' := i2.below A3;have j2' := j2.below A3;have nb := ((Cel.new w4 [.slice a0 3 x0, .slice c0 2 y0, .int .i64 0, .slice a1 3 x1, .slice c1 2 y1, .int .i64 0, .slice a2 3 x2, .slice c2 2 y2, .int .i64 0] 106).alloc (.cells #[] 106)).alloc (.cells #[] 106);have FP := way0_at nb i0' j0' i1' j1' i2' j2';have BA := btr B4 A3;clear i0 j0 i1 j1 i2 j2 i0' j0' i1' j1' i2' j2' nb B2 B3 b2 b3 b4
  go_wp2_with fail
  refine (swalk_any ad N cap ls HN.out h6 HA.out 7 0 way0 _ _ _ _ _ _ _ _ _ (by omega) (by omega) (by omega) WayOk.start rfl rfl (hF.below BA) FP FormsAt.noForms FormsAt.noForms).mono ?_;rintro ee w5 ⟨G, cp, xs, rfl, J⟩;have J' := J.mono BA;clear J FP
  go_wp2
  go_ret
  rw [rowsB, HU.out]
  exact ⟨G, cp, xs, rfl, J'⟩
def Bools (W : World) (a : Option Addr) (f : Nat -> Bool) : Prop := ∃ b off, a = some ⟨b, off, none⟩ /\ ∀ v, v < 3 -> W.cell? ⟨b, off + v, none⟩ = some (.bool (f v))
theorem Bools.below (h : Bools W a f) (b : Below W.heap.size W W') : Bools W' a f := by
 obtain ⟨b0, off, e, hc⟩ := h
 exact ⟨b0, off, e, fun v hv => (b.cell (p := ⟨b0, off + v, none⟩) (block_lt (hc v hv))).trans (hc v hv)⟩
def OwnB (W : World) (G : Nat) (f : Nat -> Bool) : Prop := ∃ cur : List Value, Cel W G cur 4 /\ ∀ v, v < 3 -> cur[v]? = some (.bool (f v))
theorem OwnB.lt (h : OwnB W G f) : G < W.heap.size := by obtain ⟨cur, hc, _⟩ := h; exact hc.lt
theorem OwnB.bools (h : OwnB W G f) : Bools W (some ⟨G, 0, none⟩) f := by
 obtain ⟨cur, hc, hv⟩ := h
 exact ⟨G, 0, rfl, fun v hh => by rw [Nat.zero_add, hc.cell v]; exact hv v hh⟩
theorem OwnB.set (h : OwnB W G f) {u : Nat} (hu : u < 3) (x : Bool) : OwnB (W.setCell ⟨G, u, none⟩ (.bool x)) G (fun v => if v = u then x else f v) := by
 obtain ⟨cur, hc, hv⟩ := h;have hl : u < cur.length := (List.getElem?_eq_some_iff.1 (hv u hu)).1;refine ⟨_, hc.set u _, fun v hh => ?_⟩
 by_cases e : v = u
 ·subst e; rw [qE hl]; simp
 rw [qD (by omega)]; simp only [e, if_false]; exact hv v hh
theorem OwnB.ext {g : Nat -> Bool} (h : OwnB W G f) (e : ∀ v, v < 3 -> f v = g v) : OwnB W G g := by
 obtain ⟨cur, hc, hv⟩ := h
 exact ⟨cur, hc, fun v hh => by rw [<- e v hh]; exact hv v hh⟩
def hasP (f : Frm) (v : Nat) : Bool := f.1[v]?.getD 0 != 0
def readsF (r : Nat -> Bool) (fs : List Frm) (v : Nat) : Bool := r v || fs.any (fun f => hasP f v)
theorem readsF_snoc (r : Nat -> Bool) (fs : List Frm) (k : Nat) (hk : k < fs.length) (v : Nat) : readsF r (fs.take (k + 1)) v = (readsF r (fs.take k) v || hasP (fs[k]?.getD ([], [], 0)) v) := by
 rw [readsF, readsF, List.take_succ_eq_append_getElem hk, List.any_append, List.getElem?_eq_getElem hk];simp [Bool.or_assoc]
theorem Tryz.infoBool : (Tryz.prog.info? 4).map (fun i => (i.zero, i.size, i.bytes)) = some (some (.bool false), 1, 1) := by kernel_rfl
theorem sreads_any {pa : Option Addr} {pc : Nat} {r : Nat -> Bool} {ad : Option Addr} (fs : List Frm) {w : World} (hB : Bools w pa r) (hN : fs.length = N) (hF : FormsAt w ad fs) (hfit : ∀ k, k < N -> fitX 10000000 (fs[k]?.getD ([], [], 0))) (hN1 : N <= 1048576 := by omega) :
  Calls Tryz.prog 60 #[.slice pa 3 pc, .slice ad N cap] w fun e w' => ∃ G cG, e = .returned (.slice (some ⟨G, 0, none⟩) 3 cG) /\ Below w.heap.size w w' /\ w.heap.size <= G /\ OwnB w' G (readsF r fs) := by
 have HN : Hid (fs.length = N) := hN;have HF : Hid (FormsAt w ad fs) := hF;have HFT : Hid _ := hfit;clear hN hF hfit;obtain ⟨zi, hi, hz0, hz1, hz2⟩ := info_parts Tryz.infoBool;obtain ⟨pb, po, rfl, hpc⟩ := hB;have A : Below w.heap.size w (w.alloc (.cells #[] 4)) := bal;have HOL := World.ownsRow_lit (e := 4) (size := 1) (base := w.heap.size) w #[] 0 (qF _) (by unfold maxLen; omega) rfl
 have HNW : Hid (∀ j u, ([.bool (r 0), .bool (r 1), .bool (r 2)] : List Value)[j]? = some u -> (w.alloc (.cells #[] 4)).cell? ((⟨pb, po, none⟩ : Addr).add j) = some u) := fun j u hu => by
  have hadd : (⟨pb, po, none⟩ : Addr).add j = ⟨pb, po + j, none⟩ := by
   by_cases h0 : j = 0
   ·subst h0; simp [Addr.add]
   simp [Addr.add, h0]
  rw [hadd];have key : ∀ v, v < 3 -> (w.alloc (.cells #[] 4)).cell? ⟨pb, po + v, none⟩ = some (.bool (r v)) := fun v hv => by rw [A.cell (p := ⟨pb, po + v, none⟩) (block_lt (hpc v hv))]; exact hpc v hv
  match j with
  | 0 => simp only [qC, qA] at hu; subst hu; exact key 0 (by omega)
  | 1 => simp only [qC, List.getElem?_cons_succ, qA] at hu; subst hu; exact key 1 (by omega)
  | 2 => simp only [qC, List.getElem?_cons_succ, qA] at hu; subst hu; exact key 2 (by omega)
  | j + 3 => simp at hu
 clear hpc
 go_enter Tryz.func60, Tryz.ntmps60
 go_wp2_with (at_builtin; go_must (refine wpList_append_lies _ rfl (.tmp 8) (.tmp 9) 77 rfl w.heap.size 4 zi _ 1 1 Tryz.underlying77 hi hz0 hz1 hz2 rfl (by decide) (.slice (some ⟨w.heap.size, 0, none⟩) 0 0) 0 [] rfl HOL ⟨pb, po, none⟩ 3 pc [.bool (r 0), .bool (r 1), .bool (r 2)] rfl rfl HNW.out (by simp [Value.oneCell']) (by omega) (by unfold maxLen; omega) (by omega) (by rw [qB]; omega) _ rfl ?_); intro G cG w1 hown hgrow hat hlt1)
 have b1 : Below w.heap.size w w1 := A.grown hgrow A.size (fun k hk => by have h' : some w.heap.size = some k := hk; simp only [qA] at h'; omega)
 have o1 : OwnB w1 G (readsF r (fs.take 0)) /\ w.heap.size <= G := by
  rcases hown.2 with ⟨h', _⟩ | ⟨g', cap', cur, h', hb, hg, _, _, hcs, htake⟩
  ·cases h'
  simp only [Value.slice.injEq, qA, Addr.mk.injEq, and_true, true_and] at h';obtain ⟨rfl, rfl⟩ := h';refine ⟨⟨cur.toList, by unfold Cel; simpa using hg, fun v hv => ?_⟩, hb⟩;have h1 : (cur.toList.take ((0 + 3) * 1))[v]? = ([.bool (r 0), .bool (r 1), .bool (r 2)] : List Value)[v]? := by rw [htake]; rfl
  rw [List.getElem?_take, if_pos (by omega)] at h1;rw [h1]
  match v, hv with
  | 0, _ => simp [readsF]
  | 1, _ => simp [readsF]
  | 2, _ => simp [readsF]
 obtain ⟨o1, lG⟩ := o1;clear hown hgrow hat HNW HOL A
 go_wp2_with fail
 go_loopw [6, 7] (fun i _ wr => ∃ k : Nat, k <= N /\ i = .int .i64 k /\ Below w.heap.size w wr /\ OwnB wr G (readsF r (fs.take k))) (fun i _ _ => N - (intOf i).toNat)
 case atStart => exact ⟨0, Nat.zero_le _, rfl, b1, o1⟩
 case round =>
  clear b1 o1;obtain ⟨k, hk, rfl, hb, o⟩ := hrel
  by_cases hlt : k < N
  ·have hlt' : (k : Int) < N := by omega
   have hkl : k < fs.length := by rw [HN.out]; exact hlt
   have HS : Hid (∀ v, readsF r (fs.take (k + 1)) v = (readsF r (fs.take k) v || hasP (fs[k]?.getD ([], [], 0)) v)) := fun v => readsF_snoc r fs k hkl v;have hfit := HFT.out k hlt;obtain ⟨lC, -, -, -, -, -⟩ := hfit;have o' : OwnB wr G (fun v => if v < 0 then readsF r (fs.take (k + 1)) v else readsF r (fs.take k) v) := o.ext (fun v hv => by simp);clear o;have HW : Hid (Below w.heap.size w wr) := hb;clear hb
   go_wp2_with fail
   go_loopw [7] (fun v w2 => ∃ u : Nat, u <= 3 /\ v = .int .i64 u /\ Below w.heap.size w w2 /\ OwnB w2 G (fun v => if v < u then readsF r (fs.take (k + 1)) v else readsF r (fs.take k) v)) (fun v _ => 3 - (intOf v).toNat)
   case atStart => exact ⟨0, by omega, rfl, HW.out, o'⟩
   case round =>
    clear o' HW;obtain ⟨u, hu, rfl, hb, o⟩ := hrel
    by_cases hu3 : u < 3
    ·have hu' : (u : Int) < 3 := by omega
     obtain ⟨b, off, rfl, a', c', ca, cc, c0, c1, c2, iC, iD⟩ := (HF.out.keep hb) k hkl;obtain ⟨cb, co, rfl, cv⟩ := iC.2 u hu3;have hval : (fs[k]?.getD ([], [], 0)).1.getD u 0 = (fs[k]?.getD ([], [], 0)).1[u]?.getD 0 := by rw [List.getD_eq_getElem?_getD]
     rw [hval] at cv;have HH : Hid (hasP (fs[k]?.getD ([], [], 0)) u = ((fs[k]?.getD ([], [], 0)).1[u]?.getD 0 != 0)) := rfl;generalize (fs[k]?.getD ([], [], 0)).1[u]?.getD 0 = z at *;have lG2 := o.lt
     by_cases hz : z = 0
     ·have hz' : (z != 0) = false := by simp [hz]
      have O2 : OwnB wr G (fun v => if v < u + 1 then readsF r (fs.take (k + 1)) v else readsF r (fs.take k) v) := o.ext (fun v hv => by
       by_cases e : v = u
       ·subst e; simp only [Nat.lt_irrefl, if_false, Nat.lt_succ_self, if_true]; rw [HS.out, HH.out, hz']; simp
       by_cases e2 : v < u
       ·rw [if_pos e2, if_pos (by omega)]
       rw [if_neg e2, if_neg (by omega)])
      have HO2 : Hid (OwnB wr G (fun v => if v < u + 1 then readsF r (fs.take (k + 1)) v else readsF r (fs.take k) v)) := O2;clear o O2
      go_wp2
      go_roundw
      case rel => exact ⟨u + 1, by omega, by go_num, hb, HO2.out⟩
      case measure => simp [intOf]; omega
     have hz' : (z != 0) = true := by simp [hz]
     obtain ⟨cur, hc, hv⟩ := o;have g0 : wr.cell? ⟨G, u, none⟩ = some _ := (hc.cell u).trans (hv u hu3);have fz := hc.free u;have o2 := OwnB.set (W := wr) (G := G) ⟨cur, hc, hv⟩ hu3 true
     have O2 : Hid (OwnB (wr.setCell ⟨G, u, none⟩ (.bool true)) G (fun v => if v < u + 1 then readsF r (fs.take (k + 1)) v else readsF r (fs.take k) v)) := o2.ext (fun v hv => by
      by_cases e : v = u
      ·subst e; simp only [if_true, Nat.lt_succ_self]; rw [HS.out, HH.out, hz']; simp
      simp only [e, if_false]
      by_cases e2 : v < u
      ·rw [if_pos e2, if_pos (by omega)]
      rw [if_neg e2, if_neg (by omega)])
     have B2 := hb.setCell (p := ⟨G, u, none⟩) lG (.bool true);clear o2 hc hv
     go_wp2
     go_roundw
     case rel => exact ⟨u + 1, by omega, by go_num, B2, O2.out⟩
     case measure => simp [intOf]; omega
    obtain rfl : u = 3 := by omega
    have O3 : Hid (OwnB wr G (readsF r (fs.take (k + 1)))) := o.ext (fun v hv => by simp only [hv, if_true]);clear o
    go_wp2
    go_roundw
    case rel => exact ⟨k + 1, by omega, by go_num, hb, O3.out⟩
    case measure => simp [intOf]; omega
  obtain rfl : k = N := by omega
  have O3 : OwnB wr G (readsF r fs) := by
   have : fs.take k = fs := List.take_of_length_le (by rw [HN.out]; exact qF _);rw [this] at o; exact o
  go_wp2
  go_ret
  exact ⟨G, cG, rfl, hb, lG, O3⟩
structure JA (w : World) (v : Value) (xs : List Int) (W : World) : Prop where
 b : Below w.heap.size w W
 o : W.ownsRow w.heap.size 3 1 v xs.length (xs.map (Value.int .i64))
theorem JA.nil (w : World) : JA w (.slice none 0 0) [] w := ⟨Below.refl _ _, World.ownsRow_nil w _ _ _⟩
theorem JA.lit (w : World) : JA w (.slice (some ⟨w.heap.size, 0, none⟩) 0 0) [] (w.alloc (.cells #[] 3)) :=
 ⟨bal, World.ownsRow_lit w #[] 0 (qF _) (by unfold maxLen; omega) rfl⟩
theorem JA.alloc (j : JA w v xs W) (o : Obj) : JA w v xs (W.alloc o) := ⟨j.b.alloc j.b.size _, j.o.alloc o⟩
theorem JA.below (j : JA w v xs W) (h : Below W.heap.size W W') : JA w v xs W' := by
 refine ⟨j.b.trans (h.mono j.b.size), j.o.1, ?_⟩
 rcases j.o.2 with h2 | ⟨g, cap, cur, hv, hg, hh, r⟩
 ·exact Or.inl h2
 exact Or.inr ⟨g, cap, cur, hv, hg, by rw [h.block g (lt_of_block hh)]; exact hh, r⟩
theorem JA.own {v' : Value} {ys : List Int} (j : JA w v xs W) (o : W'.ownsRow w.heap.size 3 1 v' ys.length (ys.map (Value.int .i64))) (g : W.grownBy W' v.ownBlock) : JA w v' ys W' :=
 ⟨j.b.grown g j.b.size (fun k hk => (j.o.lt k hk).1), o⟩
theorem JA.ints (j : JA w v xs W) : ∃ a cap, v = .slice a xs.length cap /\ xs.length <= cap /\ Ints W a xs.length xs /\ (∀ b o, a = some ⟨b, o, none⟩ -> w.heap.size <= b /\ b < W.heap.size) := by
 rcases j.o.2 with ⟨hv, h⟩ | ⟨g, cap', cur, rfl, hg, hh, hl, _, _⟩
 ·rw [h];have : xs = [] := List.eq_nil_of_length_eq_zero h;subst this
  exact ⟨none, 0, hv, qF _, ⟨rfl, fun i hi => by omega⟩, fun b o e => by cases e⟩
 refine ⟨some ⟨g, 0, none⟩, cap', rfl, hl, ⟨rfl, fun i hi => ⟨g, 0, rfl, ?_⟩⟩, fun b o e => ?_⟩
 ·have := j.o.cellAt i (by omega);rw [Nat.zero_add, this];simp [hi]
 simp only [qA, Addr.mk.injEq, and_true] at e;obtain ⟨rfl, rfl⟩ := e
 exact ⟨hg, lt_of_block hh⟩
theorem news1 (w : World) {x : Value} {t : TypeId} : ∀ j u, [x][j]? = some u -> (w.alloc (.cells #[x] t)).cell? ((⟨w.heap.size, 0, none⟩ : Addr).add j) = some u := fun j u hu => by
 match j, hu with
 | 0, hu =>
  simp only [qC, qA] at hu;subst hu;simp [Addr.add]
theorem one1 {k : IntKind} {x : Int} : ∀ u ∈ [Value.int k x], u.oneCell' = true := fun u hu => by
 simp at hu; subst hu; rfl
theorem JA.app {y : Int} {g k : Nat} {o : Obj} (j : JA w v xs W) (hk : xs.length = k) (hown : W'.ownsRow w.heap.size 3 1 (.slice (some ⟨g, 0, none⟩) (k + 1) cap) (k + 1) (xs.map (Value.int .i64) ++ [.int .i64 y])) (hg : (W.alloc o).grownBy W' v.ownBlock) :
  JA w (.slice (some ⟨g, 0, none⟩) (k + 1) cap) (xs ++ [y]) W' := by
 refine (j.alloc o).own ?_ hg;rw [List.length_append, hk, List.map_append]
 exact hown
def OwnX (W : World) (a : Option Addr) (B n : Nat) (zs : List Int) : Prop :=
 zs.length = n /\ (n = 0 \/ (a = some ⟨B, 0, none⟩ /\ ∃ cur : List Value, Cel W B cur 3 /\ ∀ i, i < n -> cur[i]? = some (.int .i64 (zs[i]?.getD 0))))
theorem OwnX.ints (h : OwnX W a B n zs) : Ints W a n zs := by
 refine ⟨h.1, fun i hi => ?_⟩
 rcases h.2 with h0 | ⟨rfl, cur, hc, hv⟩
 ·omega
 refine ⟨B, 0, rfl, ?_⟩;rw [Nat.zero_add, hc.cell i, hv i hi];simp
theorem OwnX.below (h : OwnX W a B n zs) (b : Below W.heap.size W W') : OwnX W' a B n zs := by
 refine ⟨h.1, ?_⟩
 rcases h.2 with h0 | ⟨e, cur, hc, hv⟩
 ·exact .inl h0
 exact .inr ⟨e, cur, hc.below b, hv⟩
theorem OwnX.alloc (h : OwnX W a B n zs) (o : Obj) : OwnX (W.alloc o) a B n zs := h.below (bal)
theorem OwnX.touch {S : Nat -> Prop} (h : OwnX W a B n zs) (t : Touch S W W') (hn : 0 < n -> ¬ S B) : OwnX W' a B n zs := by
 refine ⟨h.1, ?_⟩
 rcases h.2 with h0 | ⟨e, cur, hc, hv⟩
 ·exact .inl h0
 by_cases h0 : 0 < n
 ·exact .inr ⟨e, cur, hc.touch t (hn h0), hv⟩
 exact .inl (by omega)
theorem OwnX.lt (h : OwnX W a B n zs) (hn : 0 < n) : B < W.heap.size := by
 rcases h.2 with h0 | ⟨e, cur, hc, hv⟩
 ·omega
 exact hc.lt
theorem OwnX.setOther {X : Nat} (h : OwnX W a B n zs) (hX : 0 < n -> X ≠ B) (i : Nat) (v : Value) : OwnX (W.setCell ⟨X, i, none⟩ v) a B n zs := by
 refine h.touch (S := fun k => k = X) (Touch.setCell (S := fun k => k = X) (Touch.refl _ _) rfl v) (fun h0 e => hX h0 e.symm)
theorem OwnX.nil (W : World) (a : Option Addr) (B : Nat) : OwnX W a B 0 [] := ⟨rfl, .inl rfl⟩
theorem OwnX.pos (h : OwnX W a B n zs) (hn : 0 < n) : a = some ⟨B, 0, none⟩ /\ (∀ i, i < n -> W.cell? ⟨B, i, none⟩ = some (.int .i64 (zs[i]?.getD 0))) /\ ∀ i, W.frozen? ⟨B, i, none⟩ = false := by
 rcases h.2 with h0 | ⟨rfl, cur, hc, hv⟩
 ·omega
 exact ⟨rfl, fun i hi => by rw [hc.cell i, hv i hi], fun i => hc.free i⟩
theorem OwnX.set (h : OwnX W a B n zs) {i : Nat} (hi : i < n) (x : Int) : OwnX (W.setCell ⟨B, i, none⟩ (.int .i64 x)) a B n (zs.set i x) := by
 refine ⟨by rw [List.length_set]; exact h.1, ?_⟩
 rcases h.2 with h0 | ⟨e, cur, hc, hv⟩
 ·omega
 refine .inr ⟨e, cur.set i (.int .i64 x), hc.set _ _, fun j hj => ?_⟩
 have hl : i < cur.length := by
  have := hv i hi
  exact (List.getElem?_eq_some_iff.1 this).1
 have hz := h.1
 by_cases e : j = i
 ·subst e;rw [qE hl, qE (by omega)]; rfl
 rw [qD (by omega), hv j hj, qD (by omega)]
theorem JA.ownx (j : JA w v xs W) (hn : xs.length = n) : ∃ a cap B, v = .slice a n cap /\ OwnX W a B n xs /\ (0 < n -> w.heap.size <= B) := by
 subst hn
 rcases j.o.2 with ⟨hv, h⟩ | ⟨g, cap', cur, rfl, hg, hh, hl, _, hs, ht⟩
 ·rw [h];have : xs = [] := List.eq_nil_of_length_eq_zero h;subst this
  exact ⟨none, 0, 0, hv, OwnX.nil _ _ _, fun h => by omega⟩
 refine ⟨some ⟨g, 0, none⟩, cap', g, rfl, ⟨rfl, .inr ⟨rfl, cur.toList, by unfold Cel; simpa using hh, fun i hi => ?_⟩⟩, fun _ => hg⟩;have h1 : (cur.toList.take (xs.length * 1))[i]? = (xs.map (Value.int .i64))[i]? := by rw [ht]
 rw [List.getElem?_take, if_pos (by omega)] at h1;rw [h1];simp [hi]
theorem addX_any (B : Nat) {a c : Option Addr} {cap' : Nat} (xs ys : List Int) (M M' : Int) {w : World} (h : OwnX w a B n xs) (h' : Ints w c n ys) (hne : ∀ b o, c = some ⟨b, o, none⟩ -> b ≠ B)
  (hn : n <= 1048576) (hM : bnd M xs) (hM' : bnd M' ys) (hb : M <= 2000000000000000000) (hb' : M' <= 2000000000000000000) :
  Calls Tryz.prog 151 #[.slice a n cap, .slice c n cap'] w fun e w' => e = .returned (.tuple #[]) /\ Touch (fun x => x = B /\ 0 < n) w w' /\ OwnX w' a B n (List.zipWith (· + ·) xs ys) := by
 have HX : Hid (xs.length = n) := h.1;have HY : Hid (ys.length = n) := h'.1
 go_enter Tryz.func151, Tryz.ntmps151
 go_wp2_with fail
 go_loopw [4, 5, 8] (fun _ _ i wr => ∃ j : Nat, j <= n /\ i = .int .i64 j /\ Touch (fun x => x = B /\ 0 < n) w wr /\ OwnX wr a B n (added xs ys j)) (fun _ _ i _ => n - (intOf i).toNat)
 case atStart => exact ⟨0, Nat.zero_le _, rfl, Touch.refl _ _, by rw [added_zero]; exact h⟩
 case round =>
  obtain ⟨j, hj, rfl, ht, ho⟩ := hrel
  by_cases hlt : j < n
  ·obtain ⟨rfl, hcs, hfs⟩ := ho.pos (by omega);obtain ⟨b, off, rfl, hcell⟩ := h'.pos (by omega)
   have hck : wr.cell? ⟨b, off + j, none⟩ = some (.int .i64 (ys[j]?.getD 0)) := by
    have h0 := hcell j hlt;have : wr.cell? ⟨b, off + j, none⟩ = w.cell? ⟨b, off + j, none⟩ := World.cell?_of_block (ht.block b (block_lt h0) (fun e => hne b off rfl e.1));rw [this, h0]; simp
   have hco : wr.cell? ⟨B, j, none⟩ = some (.int .i64 (xs[j]?.getD 0)) := by
    rw [hcs j hlt, added_get xs ys j (by rw [HX.out, HY.out]) (by rw [HX.out]; exact hlt)]
   have hf := hfs j;obtain ⟨m1, m2⟩ := hM j;obtain ⟨m3, m4⟩ := hM' j
   have R : OwnX (wr.setCell ⟨B, j, none⟩ (.int .i64 (xs[j]?.getD 0 + ys[j]?.getD 0))) (some ⟨B, 0, none⟩) B n (added xs ys (j + 1)) := by
    have := ho.set hlt (xs[j]?.getD 0 + ys[j]?.getD 0);rwa [added_succ xs ys j (by rw [HX.out, HY.out]) (by rw [HX.out]; exact hlt)] at this
   have R2 : Touch (fun x => x = B /\ 0 < n) w (wr.setCell ⟨B, j, none⟩ (.int .i64 (xs[j]?.getD 0 + ys[j]?.getD 0))) := ht.setCell ⟨rfl, by omega⟩ _;clear h ho hcell h' hM hM' hne hcs hfs
   go_wp2
   go_roundw
   case rel => exact ⟨j + 1, by omega, by go_num, R2, R⟩
   case measure => simp [intOf]; omega
  go_wp2
  go_end0
  obtain rfl : j = n := by omega
  exact ⟨rfl, ht, by rw [added_end xs ys j (by rw [HX.out]; exact qF _) (by rw [HY.out]; exact qF _)] at ho; exact ho⟩
theorem newsI {b off : Nat} (h : ∀ i, i < n -> w.cell? ⟨b, off + i, none⟩ = some (.int .i64 (zs.getD i 0))) (hl : zs.length = n) : ∀ j u, (zs.map (Value.int .i64))[j]? = some u -> w.cell? ((⟨b, off, none⟩ : Addr).add j) = some u := fun j u hu => by
 have hj : j < n := by
  have := (List.getElem?_eq_some_iff.1 hu).1;simpa [hl] using this
 have hadd : (⟨b, off, none⟩ : Addr).add j = ⟨b, off + j, none⟩ := by
  by_cases h0 : j = 0
  ·subst h0; simp [Addr.add]
  simp [Addr.add, h0]
 rw [hadd, h j hj];rw [List.getElem?_map, List.getElem?_eq_getElem (by omega)] at hu;simp only [Option.map_some, qA] at hu;rw [<- hu];simp [hl, hj]
theorem oneI : ∀ u ∈ zs.map (Value.int .i64), u.oneCell' = true := fun u hu => by
 obtain ⟨x, _, rfl⟩ := List.mem_map.1 hu
 rfl
theorem JA.copied {g : Nat} (hn : zs.length = n) (hown : W'.ownsRow w.heap.size 3 1 (.slice (some ⟨g, 0, none⟩) (0 + n) cap) (0 + n) ([] ++ zs.map (Value.int .i64))) (hg : (w.alloc (.cells #[] 3)).grownBy W' (Value.ownBlock (.slice (some ⟨w.heap.size, 0, none⟩) 0 0))) :
  JA w (.slice (some ⟨g, 0, none⟩) n cap) zs W' := by
 have h0 := JA.lit w;refine h0.own (ys := zs) ?_ hg;rw [hn];simpa using hown
theorem clone_any (n cap : Nat) (zs : List Int) {w : World} (h : Ints w a n zs) (hn : n <= 1048576 := by omega) (h0 : 0 < n := by omega) :
  Calls Tryz.prog 90 #[.slice a n cap] w fun e w' => ∃ v, e = .returned v /\ JA w v zs w' := by
 have HZ : Hid (zs.length = n) := h.1;obtain ⟨i0, hi, hz0, hz1, hz2⟩ := info_parts Tryz.infoInt;obtain ⟨b, off, rfl, hcell⟩ := h.pos h0
 have hcl : ∀ i, i < n -> (w.alloc (.cells #[] 3)).cell? ⟨b, off + i, none⟩ = some (.int .i64 (zs.getD i 0)) := fun i hi => by
  rw [((Below.refl w.heap.size w).alloc (qF _) _).cell (p := ⟨b, off + i, none⟩) (block_lt (hcell i hi))]; exact hcell i hi
 have HC : Hid _ := newsI hcl HZ.out;have HL : Hid ((zs.map (Value.int .i64)).length = n * 1) := by show _ = _; rw [List.length_map, HZ.out, Nat.mul_one]
 have HJ : Hid _ := (JA.lit w).o;clear hcl hcell h;have hnil : ∀ w, (binOp .eql 23 (.slice (some ⟨b, off, none⟩) n cap) (.slice none 0 0)).run Tryz.prog w = .ok (.bool false) w := fun w => Go.Lib.run_eql_slice_nil w _ _ _ _ _ _ _ Tryz.underlying23
 go_enter Tryz.func90, Tryz.ntmps90
 go_wp2_with (at_builtin; go_must (refine wpList_append_lies _ rfl (.tmp 5) (.tmp 6) 23 rfl w.heap.size 3 i0 (.int .i64 0) 1 8 Tryz.underlying23 hi hz0 hz1 hz2 rfl (by decide) _ 0 [] rfl HJ.out ⟨b, off, none⟩ n cap (zs.map (Value.int .i64)) rfl HL.out HC.out (oneI) h0 (by unfold maxLen; omega) (by omega) (by rw [qB]; omega) _ rfl ?_); intro g cp w1 hown hgrow hat hlt1)
 have j := JA.copied HZ.out hown hgrow;clear hown hgrow
 go_wp2
 go_ret
 exact ⟨_, rfl, j⟩
theorem ilack_any {c : Option Addr} {cap' : Nat} {K : Int} (C D : List Int) {w : World} (hC : Ints w a 3 C) (hD : Ints w c 2 D) (bC : bnd 10000000 C) (bD : bnd 10000000 D) (bK1 : -10000000 <= K) (bK2 : K <= 10000000) (hfit : fitX 10000000 (minusX (C, D, K))) :
  Calls Tryz.prog 170 #[formV a 3 cap c 2 cap' K] w fun e w' => ∃ B1 B2, e = .returned (formV (some ⟨B1, 0, none⟩) 3 3 (some ⟨B2, 0, none⟩) 2 2 (-K - 1)) /\ Below w.heap.size w w' /\ w.heap.size <= B1 /\ B1 ≠ B2 /\ w.heap.size <= B2 /\ Blk w' B1 (mulL (-1) C) /\ Blk w' B2 (mulL (-1) D) := by
 have hok : formB 3 2 (mulL (-1) C) (mulL (-1) D) (-K - 1) = true := by
  have := fit_ok hfit;simp only [minusX] at this;rw [show -1 * K - 1 = -K - 1 by omega] at this
  exact this
 have HOK : Hid _ := hok;have lC : (mulL (-1) C).length = 3 := by rw [mulL_len]; exact hC.1
 have lD : (mulL (-1) D).length = 2 := by rw [mulL_len]; exact hD.1
 clear hok hfit;have A2 : Below w.heap.size w ((w.alloc (.cells #[.slice a 3 cap, .slice c 2 cap', .int .i64 K] 106)).alloc (.cells #[.slice none 0 0, .slice none 0 0, .int .i64 0] 106)) := (bal).alloc (by simp) _;have rr := Cel.new (w.alloc (.cells #[.slice a 3 cap, .slice c 2 cap', .int .i64 K] 106)) [.slice none 0 0, .slice none 0 0, .int .i64 0] 106;rw [qB] at rr
 go_enter Tryz.func170, Tryz.ntmps170
 go_wp2_with fail
 refine (times_any C D (hC.below A2) (hD.below A2) (tim_bnd bC (by omega) (by omega)) (tim_bnd bD (by omega) (by omega)) (tim_num bK1 bK2 (by omega) (by omega))).mono ?_;rintro e w3 ⟨B1, B2, rfl, b3, y1, y2, y3, k1, k2⟩;rw [show (-1 : Int) * K = -K by omega];rw [qB, qB] at y1 y3;have B3 := btr A2 b3;have r3 := rr.below b3;have l1 := k1.lt;have l2 := k2.lt;have lr := r3.lt;clear A2 b3 rr;have hw : IntKind.i64.wrap (-K - 1) = -K - 1 := wrap_id (by omega) (by omega);have A4 : Below w3.heap.size w3 (w3.alloc (.cells #[.slice (some ⟨B1, 0, none⟩) 3 3, .slice (some ⟨B2, 0, none⟩) 2 2, .int .i64 (-K - 1)] 106)) := bal;have m1 := k1.below A4;have m2 := k2.below A4;have r4 := r3.below A4;have B4 := btr B3 A4;clear k1 k2 r3 A4 B3
 go_wp2_with fail
 refine (orN_yes (mulL (-1) C) (mulL (-1) D) (m1.ints' lC) (m2.ints' lD) (by omega) (by omega) HOK.out).mono ?_;rintro e w5 ⟨rfl, b5⟩;have n1 := m1.below b5;have n2 := m2.below b5;have r5 := r4.below b5;have B5 := btr B4 b5;obtain ⟨e0, e1, e2, e3, e4, e5⟩ := r5.trio;have r6 := ((r5.set 0 (.slice (some ⟨B1, 0, none⟩) 3 3)).set 1 (.slice (some ⟨B2, 0, none⟩) 2 2)).set 2 (.int .i64 (-K - 1));simp only [List.set_cons_zero, List.set_cons_succ] at r6;obtain ⟨h0, h1, h2, h3, h4, h5⟩ := r6.trio;clear m1 m2 r4 B4 b5
 go_wp2
 refine bodyPost_ret (v := formV (some ⟨B1, 0, none⟩) 3 3 (some ⟨B2, 0, none⟩) 2 2 (-K - 1)) (by simp [results, Tryz.results170, go_sem, h0, h1, h2]) rfl ?_;refine ⟨B1, B2, rfl, ?_, by omega, y2, by omega, ?_, ?_⟩
 ·exact ((B5.setCell (by simp only []; omega) _).setCell (by simp only []; omega) _).setCell (by simp only []; omega) _
 ·exact ((n1.so).so).so
 exact ((n2.so).so).so
theorem way0_get {k : Nat} (hk : k < 3) : way0.pots[k]?.getD ([], [], 0) = (([0, 0, 0] : List Int).set k 1, [0, 0], 0) := by
 match k, hk with
 | 0, _ => rfl
 | 1, _ => rfl
 | 2, _ => rfl
theorem ipots_any : Calls Tryz.prog 107 #[] w fun e w' => ∃ v xs, e = .returned v /\ JV w v 3 xs way0.pots w' := by
 obtain ⟨zi, hi, hz0, hz1, hz2⟩ := info_parts Tryz.infoForm
 go_enter Tryz.func107, Tryz.ntmps107
 go_wp2_with fail
 go_loopw [1, 2, 3] (fun r _ i wr => ∃ (k : Nat) (xs : List Value), k <= 3 /\ i = .int .i64 k /\ JV w r k xs way0.pots wr) (fun _ _ i _ => 3 - (intOf i).toNat)
 case atStart => exact ⟨0, [], by omega, rfl, JV.nil w _⟩
 case round =>
  obtain ⟨k, xs, hk, rfl, j⟩ := hrel
  by_cases hlt : k < 3
  ·obtain ⟨va, vc, rfl⟩ := j.isSlice;have hlt' : (k : Int) < 3 := by omega
   have HT : Hid _ := way0_get hlt
   go_wp2_with fail
   refine (ipot_any).mono ?_;rintro ee w3 ⟨a0, n0, x0, c0, m0, y0, Z1, Z2, rfl, L1, L2, b3, o1, o2, g1, g2, g3⟩;rw [potC_in (k : Int) k rfl] at L1 o1;rw [potD_in (k : Int)] at L2 o2;obtain rfl : n0 = 3 := by rw [<- L1]; simp
   obtain rfl : m0 = 2 := by rw [<- L2]; simp
   rcases o1 with h | ⟨rfl, k1⟩
   ·rw [h] at L1; cases L1
   rcases o2 with h | ⟨rfl, k2⟩
   ·cases h
   have z1 := g1 (by omega);have z2 := g2 (by omega);clear g1 g2 g3;have j3 := j.below b3;have sz := j.b.size;have sz3 := b3.size;have A : Below w3.heap.size w3 (w3.alloc (.cells #[.slice (some ⟨Z1, 0, none⟩) 3 x0, .slice (some ⟨Z2, 0, none⟩) 2 y0, .int .i64 0] 106)) := bal;have j4 := j3.below A;have k1' := k1.below A;have k2' := k2.below A;have n1 : (Value.slice va k vc).ownBlock ≠ some Z1 := fun e => by have := (j.own e).2; omega
   have n2 : (Value.slice va k vc).ownBlock ≠ some Z2 := fun e => by have := (j.own e).2; omega
   have l3 : (([0, 0, 0] : List Int).set k 1).length = 3 := by simp
   clear j j3
   go_wp2_with (at_builtin; go_must (refine wpList_append_lies _ rfl (.tmp 6) (.tmp 9) 111 rfl w.heap.size 106 zi _ 3 56 Tryz.underlying111 hi hz0 hz1 hz2 rfl (by decide) (.slice va k vc) k xs rfl j4.o ⟨w3.heap.size, 0, none⟩ 1 1 [.slice (some ⟨Z1, 0, none⟩) 3 x0, .slice (some ⟨Z2, 0, none⟩) 2 y0, .int .i64 0] rfl rfl (World.news_of_block (cs := #[.slice (some ⟨Z1, 0, none⟩) 3 x0, .slice (some ⟨Z2, 0, none⟩) 2 y0, .int .i64 0]) (t := 106) (fr := (0, 0)) (heap_alloc_new w3 _)) (by simp [Value.oneCell']) (by omega) (by unfold maxLen; omega) (by omega) (by rw [qB]; omega) _ rfl ?_); intro g cp w4 hown hgrow hat hlt1)
   have j5 := j4.app hown hgrow hat rfl (k1'.ints' l3) (k2'.ints' rfl) n1 n2 (by omega) (by omega) HT.out;clear hown hgrow hat j4 k1 k2 k1' k2'
   go_wp2
   go_roundw
   case rel => exact ⟨k + 1, _, by omega, by go_num, j5⟩
   case measure => simp [intOf]; omega
  obtain rfl : k = 3 := by omega
  go_wp2
  go_ret
  exact ⟨_, xs, rfl, j⟩
end Go.Proofs.YtfmpcihghlnlnaaGreatDoor
