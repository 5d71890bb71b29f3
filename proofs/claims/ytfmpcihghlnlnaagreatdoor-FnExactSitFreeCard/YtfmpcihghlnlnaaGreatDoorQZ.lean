/-
  Lemmas that the claim's last text rests on.
-/
import Derived.Test.YtfmpcihghlnlnaaGreatDoorQY
namespace Go.Proofs.YtfmpcihghlnlnaaGreatDoor
open Go.RowKit Go.Deep
open Option.some renaming injEq → qA
open World renaming size_alloc → qB
open List renaming getElem?_eq_getElem → qC, getElem?_set_ne → qD, take_of_length_le → qE, getElem?_set_self → qF
open Nat renaming le_refl → qG
set_option linter.unusedVariables false
set_option maxRecDepth 100000
set_option maxHeartbeats 25600000
variable {G Gr cr n0 : Nat} {W W' : World} {rs : List RowM} {xs : List Value}
theorem grown_of_touch {B : Nat} (h : Touch (fun z => z = B) W W') : W.grownBy W' (some B) := ⟨h.os, h.tape, h.output, h.size, fun z hz hn => h.block z hz (fun e => hn (by rw [e]))⟩
theorem Tryz.infoKey : (Tryz.prog.info? KT).map (fun i => (i.zero, i.size, i.bytes)) = some (some (.agg #[.int .i64 0, .int .i64 0, .int .i64 0]), 3, 24) := by kernel_rfl
def KeyAt (cur : List Value) (j : Nat) (p : List Int) : Prop := cur[j * 3]? = some (.int .i64 (p[0]?.getD 0)) /\ cur[j * 3 + 1]? = some (.int .i64 (p[1]?.getD 0)) /\ cur[j * 3 + 2]? = some (.int .i64 (p[2]?.getD 0))
theorem KeyAt.set_same {cur : List Value} {j : Nat} (p : List Int) (h : j * 3 + 2 < cur.length) : KeyAt (((cur.set (j * 3) (.int .i64 (p[0]?.getD 0))).set (j * 3 + 1) (.int .i64 (p[1]?.getD 0))).set (j * 3 + 2) (.int .i64 (p[2]?.getD 0))) j p := by
 refine ⟨?_, ?_, ?_⟩
 ·rw [qD (by omega), qD (by omega), qF (by omega)]
 ·rw [qD (by omega), qF (by rw [List.length_set]; omega)]
 rw [qF (by rw [List.length_set, List.length_set]; omega)]
theorem KeyAt.set_other {cur : List Value} {i j : Nat} {q : List Int} (h : KeyAt cur i q) (hne : i ≠ j) (x y z : Value) : KeyAt (((cur.set (j * 3) x).set (j * 3 + 1) y).set (j * 3 + 2) z) i q := by
 refine ⟨?_, ?_, ?_⟩
 ·rw [qD (by omega), qD (by omega), qD (by omega)]; exact h.1
 ·rw [qD (by omega), qD (by omega), qD (by omega)]; exact h.2.1
 rw [qD (by omega), qD (by omega), qD (by omega)]; exact h.2.2
theorem MapIs.idx {D : DataW Unit} {ps : List (List Int)} (h : MapIs D ps) {p : List Int} (hp : wfP p) (hh : Maps.has D (kP p) = true) {c : Int} (hc : ∀ z, D.atKey (kP p) z = .lit (.int .i64 c)) : ∃ j, j < ps.length /\ ps[j]?.getD [] = p /\ c = j := by
 obtain ⟨j, hj, e⟩ := List.getElem_of_mem ((h.has p hp).1 hh);have e' : ps[j]?.getD [] = p := by rw [qC hj]; exact e
 have h1 := h.ix j hj (.lit (.int .i64 0));rw [e', hc] at h1;simp only [DataW.lit.injEq, Lit.int.injEq, true_and] at h1
 exact ⟨j, hj, e', h1⟩
theorem MapIs.one {D : DataW Unit} {ps : List (List Int)} (h : MapIs D ps) {i j : Nat} (hi : i < ps.length) (hj : j < ps.length) (e : kP (ps[i]?.getD []) = kP (ps[j]?.getD [])) : i = j := by
 have h1 := h.ix i hi (.lit (.int .i64 0));have h2 := h.ix j hj (.lit (.int .i64 0));rw [e, h2] at h1;simp only [DataW.lit.injEq, Lit.int.injEq, true_and] at h1
 omega
theorem iorder_any (B n : Nat) (D : DataW Unit) (ps : List (List Int)) (w : World) (hm : OwnM w B n D) (hD : MapIs D ps) (hl : ps.length <= 1048576 := by omega) :
  Calls Tryz.prog 109 #[.map (some B)] w fun e w' => ∃ L cur, e = .returned (.slice (some ⟨L, 0, none⟩) ps.length ps.length) /\ Below w.heap.size w w' /\ w.heap.size <= L /\ Cel w' L cur KT /\ ∀ j, j < ps.length -> KeyAt cur j (ps[j]?.getD []) := by
 have HD : Hid (MapIs D ps) := hD;have hsz : Maps.size D = ps.length := hD.sz;have HSZ : Hid (Maps.size D = ps.length) := hsz;obtain ⟨N, hN⟩ : ∃ N, N = Maps.size D := ⟨_, rfl⟩
 have HN : Hid (N = Maps.size D) := hN;have hNl : N <= 1048576 := by omega
 have lB := hm.lt;obtain ⟨i0, hi, hz0, hz1, hz2⟩ := info_parts Tryz.infoKey;obtain ⟨w2, hrun, o2, g2⟩ := run_make_full (P := Tryz.prog) (w := w) w.heap.size 161 KT i0 (.agg #[.int .i64 0, .int .i64 0, .int .i64 0]) 3 Tryz.underlying161 hi hz0 hz1 .i64 .i64 N (by rw [hz2]; omega) (by unfold maxLen; omega) (qG _);have hrun' : (Instr.makeSlice 161 (.int .i64 (N : Int)) (.int .i64 (N : Int))).run Tryz.prog w = .ok (.slice (some ⟨w.heap.size, 0, none⟩) N N) w2 := hrun;have b2 : Below w.heap.size w w2 := (Below.refl _ _).grown g2 (qG _) (by simp)
 obtain ⟨cur, hc2, hl2⟩ : ∃ cur : List Value, Cel w2 w.heap.size cur KT /\ N * 3 <= cur.length := by
  rcases o2.2 with ⟨e, _⟩ | ⟨g, cp, cur, hv, hg, hh, hl, hc, hs, ht⟩
  ·cases e
  cases hv
  exact ⟨cur.toList, by unfold Cel; simpa using hh, by rw [Array.length_toList]; omega⟩
 have m2 : OwnM w2 B n D := OwnM.below hm b2;have OwnM0 : Hid (OwnM w B n D) := hm;clear hrun o2 g2 hm hD hsz hN
 go_enter Tryz.func109, Tryz.ntmps109
 go_wp2_with (first | (at_len; refine wpList_len_own _ rfl (.tmp 6) 154 rfl KT ET Tryz.underlying154 (plainElem Tryz.prog ET) B _ D rfl (OwnM0.out) ?_; rw [<- HN.out]) | (at_range; refine wpList_range_own _ rfl (.tmp 9) 154 rfl KT ET law3 Tryz.underlying154 (plainElem Tryz.prog ET) B n D rfl m2 ?_; intro w3 hrg3 hg3 hs3))
 go_frame
 have b3 : Below w2.heap.size w2 w3 := (Below.refl _ _).grown hg3 (qG _) (by simp);have c3 := hc2.below b3;have B3 := btr b2 b3;obtain ⟨L, hL⟩ : ∃ L, L = w.heap.size := ⟨_, rfl⟩
 rw [<- hL] at c3 ⊢;have lL := c3.lt;have lL0 : w.heap.size <= L := by omega
 have s2 := b2.size;have lr : L < w2.heap.size := by rw [hL]; exact hc2.lt
 obtain ⟨r, hr⟩ : ∃ r, r = w2.heap.size := ⟨_, rfl⟩
 rw [<- hr] at hrg3 ⊢;have lr' : L < r := by omega
 have lB' : B < L := by omega
 clear hrun' hc2 hg3 hs3 m2 b2 b3 hL hr
 go_loopw [4, 5] (fun _ _ wr => ∃ (left : Lit -> Bool) (cnt : Nat) (cur : List Value), wr.ranges Tryz.prog KT (plainElem Tryz.prog ET) B r n D left cnt /\ (∀ kl, left kl = true -> Maps.has D kl = true) /\ Cel wr L cur KT /\ N * 3 <= cur.length /\ (∀ j, j < ps.length -> left (kP (ps[j]?.getD [])) = false -> KeyAt cur j (ps[j]?.getD [])) /\ Below w.heap.size w wr) (fun _ _ wr => wr.rangeLeft B r)
 case atStart =>
  refine ⟨Maps.has D, Maps.size D, cur, hrg3, fun _ h => h, c3, hl2, fun j hj h => ?_, B3⟩;have hm : ps[j]?.getD [] ∈ ps := by rw [qC hj]; exact List.getElem_mem hj
  rw [(HD.out.has _ (HD.out.wf _ hm)).2 hm] at h
  cases h
 case round =>
  clear hrg3 c3 hl2 B3 lL;clear cur;obtain ⟨left, cnt, cur, hrg, hsub, hc, hlc, hat, hb⟩ := hrel;have HSUB : Hid _ := hsub;have HAT : Hid (∀ j, j < ps.length -> left (kP (ps[j]?.getD [])) = false -> KeyAt cur j (ps[j]?.getD [])) := hat;clear hsub hat
  go_wp2_with (at_next; refine wpList_next_ranges (α := Int × Int × Int) (β := Int) _ rfl (.tmp 10) rfl KT law3 (plainElem Tryz.prog ET) (fun x => kV x.1 x.2.1 x.2.2) (fun c => .int .i64 c) (fun key kl h => by obtain ⟨a, b, c, e, _⟩ := inv3 h; exact ⟨(a, b, c), e⟩) (fun v y h => by obtain ⟨c, e, _⟩ := plainElem_int_inv Tryz.underlying3 h; exact ⟨c, e⟩) B r n D left cnt rfl hrg ?_ ?_)
  ·intro h0 hl0;have HE : Hid (∀ j, j < ps.length -> KeyAt cur j (ps[j]?.getD [])) := fun j hj => HAT.out j hj (hl0 _);have HNP : Hid (N = ps.length) := HN.out.trans HSZ.out
   go_wp2
   go_ret
   exact ⟨L, cur, by rw [<- HNP.out]; rfl, hb, lL0, hc, HE.out⟩
  intro x0 x1 x2 c kl yd yp w4 cnt4 hkey hleft hv hat hrg4 hlt4 hg4 hs4 hen;(try dsimp only at hkey); (try dsimp only at hv); (try dsimp only at hen)
  obtain ⟨j, hj, hpj, hcj⟩ : ∃ j, j < ps.length /\ ps[j]?.getD [] = [x0, x1, x2] /\ c = (j : Int) := by
   obtain ⟨a, b, c', e, ek, wa, wb, wc⟩ := inv3 hkey;simp only [kV, Value.agg.injEq, Array.mk.injEq, List.cons.injEq, Value.int.injEq, true_and, and_true] at e;obtain ⟨rfl, rfl, rfl⟩ := e
   have hp : wfP [x0, x1, x2] := ⟨rfl, fun i hi => by
    match i, hi with
    | 0, _ => exact wa
    | 1, _ => exact wb
    | 2, _ => exact wc⟩
   obtain ⟨c2, e2, e3, _⟩ := plainElem_int_inv Tryz.underlying3 hv
   cases e2
   simp only [Prod.mk.injEq] at e3;subst ek
   exact HD.out.idx hp (HSUB.out _ hleft) (fun z => by rw [show kP [x0, x1, x2] = kL x0 x1 x2 from rfl, hat z, e3.1])
  have HKL : Hid (kl = kP (ps[j]?.getD [])) := by
   show kl = _
   obtain ⟨a, b, c', e, ek, _⟩ := inv3 hkey;simp only [kV, Value.agg.injEq, Array.mk.injEq, List.cons.injEq, Value.int.injEq, true_and, and_true] at e;obtain ⟨rfl, rfl, rfl⟩ := e;rw [hpj]; exact ek
  subst hcj;have hjN : (j : Int) < N := by have h1 := HN.out; have h2 := HSZ.out; omega
  have hj0 : ¬ ((j : Int) < 0) := by omega
  have c4 : Cel w4 L cur KT := hc.touch (touch_grownQ hg4) (fun h => by have : L = r := h; omega);have B4 : Below w.heap.size w w4 := hb.trans ((touch_grownQ hg4).below hb.size (fun k hk => by have : k = r := hk; omega));have A4 : Below w4.heap.size w4 (w4.alloc (.cells #[.int .i64 x0, .int .i64 x1, .int .i64 x2] KT)) := bal;have rg5 := hrg4.alloc (.cells #[.int .i64 x0, .int .i64 x1, .int .i64 x2] KT);have c5 := c4.alloc (.cells #[.int .i64 x0, .int .i64 x1, .int .i64 x2] KT);have B5 := btr B4 A4;have hlj : j * 3 + 2 < cur.length := by have h1 := HN.out; have h2 := HSZ.out; omega
  have hleft' := hrg.left_eq;have HLE : Hid (wr.rangeLeft B r = cnt) := hleft';have kb := Cel.new w4 [.int .i64 x0, .int .i64 x1, .int .i64 x2] KT;clear hc hb hrg hg4 hs4 hrg4 c4 B4 A4 hleft';obtain ⟨q0, q1, q2⟩ : (w4.alloc (.cells #[.int .i64 x0, .int .i64 x1, .int .i64 x2] KT)).cell? ⟨w4.heap.size, 0, none⟩ = some (.int .i64 x0) /\ (w4.alloc (.cells #[.int .i64 x0, .int .i64 x1, .int .i64 x2] KT)).cell? ⟨w4.heap.size, 1, none⟩ = some (.int .i64 x1) /\ (w4.alloc (.cells #[.int .i64 x0, .int .i64 x1, .int .i64 x2] KT)).cell? ⟨w4.heap.size, 2, none⟩ = some (.int .i64 x2) := ⟨kb.cell 0, kb.cell 1, kb.cell 2⟩
  have lLw : L < (w4.alloc (.cells #[.int .i64 x0, .int .i64 x1, .int .i64 x2] KT)).heap.size := c5.lt;obtain ⟨y0, y1, y2⟩ : (∃ v, (w4.alloc (.cells #[.int .i64 x0, .int .i64 x1, .int .i64 x2] KT)).cell? ⟨L, j * 3, none⟩ = some v) /\ (∃ v, (w4.alloc (.cells #[.int .i64 x0, .int .i64 x1, .int .i64 x2] KT)).cell? ⟨L, j * 3 + 1, none⟩ = some v) /\ (∃ v, (w4.alloc (.cells #[.int .i64 x0, .int .i64 x1, .int .i64 x2] KT)).cell? ⟨L, j * 3 + 2, none⟩ = some v) := ⟨⟨_, (c5.cell _).trans (qC (by omega))⟩, ⟨_, (c5.cell _).trans (qC (by omega))⟩, ⟨_, (c5.cell _).trans (qC (by omega))⟩⟩
  obtain ⟨v0, y0⟩ := y0;obtain ⟨v1, y1⟩ := y1;obtain ⟨v2, y2⟩ := y2;have z0 := c5.free (j * 3);have z1 := c5.free (j * 3 + 1);have z2 := c5.free (j * 3 + 2);have T6 : Touch (fun z => z = L) (w4.alloc (.cells #[.int .i64 x0, .int .i64 x1, .int .i64 x2] KT)) ((((w4.alloc (.cells #[.int .i64 x0, .int .i64 x1, .int .i64 x2] KT)).setCell ⟨L, j * 3, none⟩ (.int .i64 x0)).setCell ⟨L, j * 3 + 1, none⟩ (.int .i64 x1)).setCell ⟨L, j * 3 + 2, none⟩ (.int .i64 x2)) := Touch.setCell (S := fun z => z = L) (Touch.setCell (S := fun z => z = L) (Touch.setCell (S := fun z => z = L) (Touch.refl _ _) rfl _) rfl _) rfl _;have c6 := ((c5.set (j * 3) (.int .i64 x0)).set (j * 3 + 1) (.int .i64 x1)).set (j * 3 + 2) (.int .i64 x2);have rg6 := rg5.kept (grown_of_touch T6) (by simp; omega) (by simp; omega);have B6 := B5.trans (T6.below B5.size (fun k hk => by have : k = L := hk; omega))
  have HAT6 : Hid (∀ i, i < ps.length -> (left (kP (ps[i]?.getD [])) && !(kP (ps[i]?.getD [])).sameKey kl) = false -> KeyAt (((cur.set (j * 3) (.int .i64 x0)).set (j * 3 + 1) (.int .i64 x1)).set (j * 3 + 2) (.int .i64 x2)) i (ps[i]?.getD [])) := fun i hi hf => by
   by_cases e : i = j
   ·subst e;rw [hpj]
    exact KeyAt.set_same [x0, x1, x2] hlj
   refine KeyAt.set_other (HAT.out i hi ?_) e _ _ _
   cases hlf : left (kP (ps[i]?.getD [])) with
   | false => rfl
   | true =>
    rw [hlf] at hf;simp only [Bool.true_and, Bool.not_eq_false'] at hf;have := WideAt.sameKey_eq hf;rw [HKL.out] at this
    exact absurd (HD.out.one hi hj this) e
  have HSUB6 : Hid (∀ z, (left z && !z.sameKey kl) = true -> Maps.has D z = true) := fun z hz => by
   simp only [Bool.and_eq_true] at hz
   exact HSUB.out z hz.1
  have HLC : Hid (N * 3 <= (((cur.set (j * 3) (.int .i64 x0)).set (j * 3 + 1) (.int .i64 x1)).set (j * 3 + 2) (.int .i64 x2)).length) := by show _ <= _; simpa using hlc
  clear c5 B5 rg5 T6 HKL hpj
  go_wp2
  go_roundw
  case rel => exact ⟨_, cnt4, _, rg6, HSUB6.out, c6, HLC.out, HAT6.out, B6⟩
  case measure => rw [rg6.left_eq, HLE.out]; omega
theorem oneSl {a : Option Addr} {n c : Nat} : ∀ u ∈ [Value.slice a n c], u.oneCell' = true := fun u hu => by
 simp at hu; subst hu; rfl
theorem field_C (a : Option Addr) (n ca : Nat) (c : Option Addr) (m cc : Nat) (K : Int) (W : World) : (Instr.field 106 (formV a n ca c m cc K) 0).run Tryz.prog W = .ok (.slice a n ca) W := by kernel_rfl
theorem OwnB.grown {Gp : Nat} {f : Nat -> Bool} {o : Obj} (h : OwnB W Gp f) (hg : (W.alloc o).grownBy W' (some G)) (hne : Gp ≠ G) : OwnB W' Gp f := by
 obtain ⟨cur, hc, hv⟩ := h
 exact ⟨cur, (hc.alloc o).grew hg (by simpa using fun e => hne e.symm), hv⟩
structure JQ (n0 Gr cr G : Nat) (xs : List Value) (rs : List RowM) (W : World) : Prop where
 o : W.ownsRow n0 113 4 (.slice (some ⟨Gr, 0, none⟩) rs.length cr) rs.length xs
 r : RowsOk W (fun k => k < n0 \/ k = G) xs rs
 ne : Gr ≠ G
theorem JQ.of {w : World} (j : JR w Gr cr xs rs W) (hG : G < w.heap.size) : JQ w.heap.size Gr cr G xs rs W :=
 ⟨j.o, j.r.map (fun _ _ f => f.mono (fun k hk => Or.inl (by omega))), by have := j.lt; omega⟩
theorem JQ.lt (j : JQ n0 Gr cr G xs rs W) : n0 <= Gr /\ Gr < W.heap.size := by
 rcases j.o.2 with ⟨h, _⟩ | ⟨g, cap', cur, h, hg, hh, _⟩
 ·cases h
 simp only [Value.slice.injEq, qA, Addr.mk.injEq, and_true, true_and] at h;obtain ⟨rfl, _⟩ := h
 exact ⟨hg, lt_of_block hh⟩
theorem JQ.below (j : JQ n0 Gr cr G xs rs W) (b : Below W.heap.size W W') : JQ n0 Gr cr G xs rs W' :=
 ⟨own_below j.o b, j.r.map (fun _ _ f => f.below b), j.ne⟩
theorem JQ.grown {g : Nat} {o : Obj} (j : JQ n0 Gr cr G xs rs W) (hg : (W.alloc o).grownBy W' (some G)) (hat : g = G \/ W.heap.size < g) : JQ n0 Gr cr g xs rs W' := by
 have A : Below W.heap.size W (W.alloc o) := bal;have ja := j.below A;have T : Touch (fun y => y = G) (W.alloc o) W' := ⟨hg.os, hg.tape, hg.output, hg.size, fun z hz hn => hg.block z hz (fun e => hn (by simpa using e))⟩
 refine ⟨own_off ja.o (fun z hz hs => ?_) T, ja.r.map (fun _ _ f => f.grown hg (by rw [qB]; omega)), ?_⟩
 ·have hz' : some Gr = some z := hz;simp only [qA] at hz'
  exact j.ne (by omega)
 have := j.lt;have := j.ne
 omega
theorem pots3_take {k : Nat} (h : k < 3) : pots3.take (k + 1) = pots3.take k ++ [([0, 0, 0] : List Int).set k 1] := by
 match k, h with
 | 0, _ => rfl
 | 1, _ => rfl
 | 2, _ => rfl
theorem partL_len3 {f : Frm} {M : Int} (h : fitX M f) : (partL f.1).length = 3 := by
 rw [part_len]; exact h.1
theorem sboth_any {ad : Option Addr} {N cap : Nat} (ss : List L2V) {w : World} (hN : ss.length = N) (hF : LSG w ad ss) (hok : ss.all L2V.ok = true) (hN4 : N <= 4) :
  Calls Tryz.prog 35 #[.slice ad N cap] w fun e w' => ∃ G cG ts nt Gp cp, e = .returned (.tuple #[.slice (some ⟨G, 0, none⟩) nt cG, .slice (some ⟨Gp, 0, none⟩) 3 cp]) /\ ts.length = nt /\ JP w G cG ts w' /\ ts.map IV.x = catP ss /\ nt <= 600000 /\ OwnB w' Gp (pinsA ss) /\ w.heap.size <= Gp := by
 have HN : Hid (ss.length = N) := hN;have HOK : Hid (ss.all L2V.ok = true) := hok;have HF : Hid (LSG w ad ss) := hF;clear hN hok hF;obtain ⟨i0, hi, hz0, hz1, hz2⟩ := info_parts Tryz.infoI;have b0 : Below w.heap.size w ((w.alloc (.cells #[] 23)).alloc (.cells #[.bool false, .bool false, .bool false] 4)) := (bal).alloc (by simp) _;have j0 : JP w w.heap.size 0 [] ((w.alloc (.cells #[] 23)).alloc (.cells #[.bool false, .bool false, .bool false] 4)) := (JP.nil w w (Below.refl _ _)).below (bal)
 have p0 : OwnB ((w.alloc (.cells #[] 23)).alloc (.cells #[.bool false, .bool false, .bool false] 4)) (w.heap.size + 1) (pinsA (ss.take 0)) := by
  refine ⟨[.bool false, .bool false, .bool false], ?_, fun v hv => ?_⟩
  ·have := Cel.new (w.alloc (.cells #[] 23)) [.bool false, .bool false, .bool false] 4;rw [qB] at this; exact this
  match v, hv with
  | 0, _ => simp [pinsA]
  | 1, _ => simp [pinsA]
  | 2, _ => simp [pinsA]
 go_enter Tryz.func35, Tryz.ntmps35
 go_wp2_with fail
 go_loopw [4, 6] (fun out v wr => ∃ (k G cG : Nat) (ts : List IV), k <= 3 /\ v = .int .i64 k /\ out = .slice (some ⟨G, 0, none⟩) k cG /\ ts.length = k /\ JP w G cG ts wr /\ ts.map IV.x = pots3.take k /\ OwnB wr (w.heap.size + 1) (pinsA (ss.take 0)) /\ w.heap.size + 1 ≠ G) (fun _ v _ => 3 - (intOf v).toNat)
 case atStart => exact ⟨0, _, _, [], by omega, rfl, rfl, rfl, j0, rfl, p0, by omega⟩
 case round =>
  clear j0 p0 b0;obtain ⟨k, G, cG, ts, hk, rfl, rfl, hl, jp, hx, p, pne⟩ := hrel;have HL : Hid (ts.length = k) := hl;have HX : Hid (ts.map IV.x = pots3.take k) := hx;clear hl hx
  by_cases hlt : k < 3
  ·have hlt' : (k : Int) < 3 := by omega
   have HP : Hid (potC (k : Int) = [0, 0, 0].set k 1) := potC_in _ k rfl;have lG := jp.lt
   go_wp2_with fail
   refine (spot_any _ _).mono ?_;rintro e w1 ⟨a, n, ca, c, m, cc, B1, B2, rfl, hn, hm, b1, o1, o2, g1, g2, ne⟩;have hn3 : n = 3 := by rw [<- hn, HP.out]; simp
   subst hn3;have I1 : Ints w1 a 3 (potC (k : Int)) := o1.ints' hn
   have Hne : Hid (∀ b o, a = some ⟨b, o, none⟩ -> b ≠ G) := fun b o e => by
    rcases o1 with h | ⟨h, _⟩
    ·rw [h] at hn; cases hn
    rw [h] at e;simp only [qA, Addr.mk.injEq, and_true] at e;have := g1 (by omega)
    omega
   have jp1 := jp.below b1;have p1 := p.below b1;have jo := jp1.o;rw [HL.out] at jo;have js := jp1.b.size;have hfl : ∀ W, (Instr.field 106 (formV a 3 ca c m cc 0) 0).run Tryz.prog W = .ok (.slice a 3 ca) W := fun W => field_C a 3 ca c m cc 0 W;clear jp p b1 o1 o2 hn hm ne g1 g2
   go_wp2_with (at_builtin; go_must (refine wpList_append_lies _ rfl (.tmp 18) (.tmp 22) 76 rfl w.heap.size 23 i0 _ 1 24 Tryz.underlying76 hi hz0 hz1 hz2 rfl (by decide) _ _ _ rfl (jo.alloc _) ⟨w1.heap.size, 0, none⟩ 1 1 [.slice a 3 ca] rfl rfl (news1 w1) oneSl (by omega) (by unfold maxLen; omega) (by omega) (by rw [qB]; omega) _ rfl ?_); intro g cp2 w2 hown hgrow hat hlt1)
   have hat' : g = G \/ w1.heap.size <= g := by
    rcases hat with h | h
    ·have h' : some G = some g := h;simp only [qA] at h'
     exact Or.inl h'.symm
    rw [qB] at h
    exact Or.inr (by omega)
   have jp2 := jp1.app (s := ⟨a, 3, ca, potC (k : Int)⟩) HL.out rfl I1 Hne.out hown hgrow hat';have lp1 := p1.lt;have p2 := p1.grown hgrow pne;have pne2 : w.heap.size + 1 ≠ g := by omega
   have HX2 : Hid ((ts ++ [(⟨a, 3, ca, potC (k : Int)⟩ : IV)]).map IV.x = pots3.take (k + 1)) := by
    show _ = _
    rw [List.map_append, HX.out, pots3_take hlt, <- HP.out]; rfl
   have HL2 : Hid ((ts ++ [(⟨a, 3, ca, potC (k : Int)⟩ : IV)]).length = k + 1) := by show _ = _; rw [List.length_append, HL.out]; rfl
   clear hown hgrow hat jo jp1 p1 I1 Hne
   go_wp2
   go_roundw
   case rel => exact ⟨k + 1, g, cp2, _, by omega, by go_num, rfl, HL2.out, jp2, HX2.out, p2, pne2⟩
   case measure => simp [intOf]; omega
  obtain rfl : k = 3 := by omega
  have HX3 : Hid (ts.map IV.x = actsP pots3 (ss.take 0)) := HX.out;have hb3 := jp.b;clear HX
  go_wp2_with fail
  go_loopw [4, 5, 7, 8, 9, 10, 11] (fun out pins i _ _ _ _ wr => ∃ (ia G cG nt Gp cp : Nat) (ts : List IV), ia <= N /\ i = .int .i64 ia /\ out = .slice (some ⟨G, 0, none⟩) nt cG /\ pins = .slice (some ⟨Gp, 0, none⟩) 3 cp /\ ts.length = nt /\ nt <= 3 + 128000 * ia /\ JP w G cG ts wr /\ ts.map IV.x = actsP pots3 (ss.take ia) /\ OwnB wr Gp (pinsA (ss.take ia)) /\ w.heap.size <= Gp /\ Gp ≠ G) (fun _ _ i _ _ _ _ _ => N - (intOf i).toNat)
  case atStart => exact ⟨0, G, cG, 3, w.heap.size + 1, 3, ts, by omega, rfl, rfl, rfl, HL.out, by omega, jp, HX3.out, p, by omega, pne⟩
  case round =>
   clear jp p pne HX3 HL hb3 hlt hk;obtain ⟨ia, G, cG, nt, Gp, cp, ts, hia, rfl, rfl, rfl, hl, hnt, jp, hx, p, lGp, pne⟩ := hrel;have HL : Hid (ts.length = nt) := hl;have HX : Hid (ts.map IV.x = actsP pots3 (ss.take ia)) := hx;clear hl hx
   by_cases hlt : ia < N
   ·have hlt' : (ia : Int) < N := by omega
    have his : ia < ss.length := by rw [HN.out]; exact hlt
    obtain ⟨ab, ao, rfl, hc, hLG⟩ := (HF.out.below jp.b) ia his;have HSA : Hid (∀ ps, ps = actsP pots3 (ss.take ia) -> rowsP ps (rowsL (ss[ia]?.getD noL).x) = actsP pots3 (ss.take (ia + 1))) := fun ps h => by rw [h, actsP_snoc his]
    have HSB : Hid (∀ v, pinsA (ss.take (ia + 1)) v = (pinsA (ss.take ia) v || readsR (rowsL (ss[ia]?.getD noL).x) v)) := fun v => pinsA_snoc ss ia his v
    have hsok : (ss[ia]?.getD noL).ok = true := by
     rw [qC his]
     exact List.all_eq_true.1 HOK.out _ (List.getElem_mem his)
    obtain ⟨s, hs⟩ : ∃ s, s = ss[ia]?.getD noL := ⟨_, rfl⟩
    rw [<- hs] at hc hLG HSA HSB hsok;obtain ⟨sa, sn, sc, sx⟩ := s;have hAct : actB sn sx = true := hsok;obtain ⟨hxl, hLin, hsn⟩ := hLG;have hc' : wr.cell? ⟨ab, ao + ia, none⟩ = some (.slice sa sn sc) := hc;have HXL : Hid (sx.length = sn) := hxl;have HLIN : Hid (LinesG wr sa sx) := hLin;have lG := jp.lt;clear hs hc hsok hxl hLin;have HAC : Hid (actB sn sx = true) := hAct;clear hAct
    go_wp2_with fail
    refine (srows_any sx HXL.out HLIN.out hsn).mono ?_;rw [show rowsB sn sx = rowsL sx from by rw [rowsB, HAC.out]; rfl];rintro ee w3 ⟨Gr, cr, xs, rfl, j3⟩;have HFIT : Hid (∀ r ∈ rowsL sx, RowFit r) := rowsL_fit (by rw [HXL.out]; exact (actB_parts HAC.out).1) (actB_parts HAC.out).2 HLIN.out;have jq3 : JQ wr.heap.size Gr cr G xs (rowsL sx) w3 := JQ.of j3 lG.2;have p3 := p.below j3.b;have jp3 := jp.below j3.b;obtain ⟨R, hR⟩ : ∃ R, R = rowsL sx := ⟨_, rfl⟩
    have HSA' : Hid (∀ ps, ps = actsP pots3 (ss.take ia) -> rowsP ps R = actsP pots3 (ss.take (ia + 1))) := fun ps h => by rw [hR]; exact HSA.out ps h
    have HSB' : Hid (∀ v, pinsA (ss.take (ia + 1)) v = (pinsA (ss.take ia) v || readsR R v)) := fun v => by rw [hR]; exact HSB.out v
    have q1 : R.length <= 128 := by rw [hR]; exact goW_128 (by omega)
    rw [<- hR] at jq3 HFIT ⊢;obtain ⟨n0, hn0⟩ : ∃ n0, n0 = wr.heap.size := ⟨_, rfl⟩
    rw [<- hn0] at jq3;obtain ⟨PS, hPS⟩ : ∃ PS, PS = actsP pots3 (ss.take ia) := ⟨_, rfl⟩
    obtain ⟨PB, hPB⟩ : ∃ PB, PB = pinsA (ss.take ia) := ⟨_, rfl⟩
    obtain ⟨pinK, hpin⟩ : ∃ pinK : Nat -> Nat -> Bool, pinK = fun k v => PB v || readsR (R.take k) v := ⟨_, rfl⟩
    have HPK : Hid (pinK = fun k v => PB v || readsR (R.take k) v) := hpin;have p4 : OwnB w3 Gp (pinK 0) := p3.ext (fun v _ => by rw [hpin, hPB]; simp [readsR]);have HX0 : Hid (ts.map IV.x = rowsP PS (R.take 0)) := by show _ = _; rw [HX.out, hPS]; rfl
    have HSA2 : Hid (rowsP PS R = actsP pots3 (ss.take (ia + 1))) := HSA'.out PS hPS;have HSB2 : Hid (∀ v, pinsA (ss.take (ia + 1)) v = pinK R.length v) := fun v => by rw [HSB'.out v, hpin, hPB]; dsimp only; rw [qE (qG _)]
    clear j3 hR HSA HSB HSA' HSB' hn0 hPS hPB hpin p p3 jp HX HLIN HXL HAC hc'
    go_wp2_with fail
    go_loopw [4, 5, 9, 10, 11] (fun out pins i _ _ wr => ∃ (k G cG nt Gp cp : Nat) (ts : List IV), k <= R.length /\ i = .int .i64 k /\ out = .slice (some ⟨G, 0, none⟩) nt cG /\ pins = .slice (some ⟨Gp, 0, none⟩) 3 cp /\ ts.length = nt /\ nt <= 3 + 128000 * ia + 1000 * k /\ JP w G cG ts wr /\ ts.map IV.x = rowsP PS (R.take k) /\ OwnB wr Gp (pinK k) /\ w.heap.size <= Gp /\ Gp ≠ G /\ JQ n0 Gr cr G xs R wr) (fun _ _ i _ _ _ => R.length - (intOf i).toNat)
    case atStart => exact ⟨0, G, cG, nt, Gp, cp, ts, by omega, rfl, rfl, rfl, HL.out, by omega, jp3, HX0.out, p4, lGp, pne, jq3⟩
    case round =>
     clear jp3 p4 pne HX0 HL jq3 hnt lGp lG;obtain ⟨k, Go, cGo, nt, G, cG, ts, hk, rfl, rfl, rfl, hl, hnt, jp, hx, o, lGp, pne, j⟩ := hrel;have HL : Hid (ts.length = nt) := hl;have HX : Hid (ts.map IV.x = rowsP PS (R.take k)) := hx;have hb := jp.b;clear hl hx
     by_cases hlt3 : k < R.length
     ·have hlt3' : (k : Int) < R.length := by omega
      obtain ⟨ga, gc, aa, ac, ta, tc, x0, x1, x2, x3, f0, f1, f2⟩ := j.r k hlt3
      have HSP : Hid (∀ v, pinK (k + 1) v = readsF (readsF (pinK k) (R[k]?.getD noR).adds) (R[k]?.getD noR).tells v) := fun v => by
       rw [HPK.out]
       show (PB v || readsR (R.take (k + 1)) v) = _
       rw [readsR_snoc R k hlt3 v];simp [readsF, Bool.or_assoc]
      have HSG : Hid (∀ ps, ps = rowsP PS (R.take k) -> guardsP ps (R[k]?.getD noR).guards = rowsP PS (R.take (k + 1))) := fun ps h => by rw [h, rowsP_snoc hlt3]
      have hfit : RowFit (R[k]?.getD noR) := HFIT.out _ (by rw [qC hlt3]; exact List.getElem_mem hlt3);have HRK : Hid (∀ W, JQ n0 Gr cr Go xs R W -> True) := fun _ _ => trivial;obtain ⟨q, hq⟩ : ∃ q, q = R[k]?.getD noR := ⟨_, rfl⟩
      have HQ : Hid (q = R[k]?.getD noR) := hq;rw [<- hq] at x0 x1 x2 x3 f0 f1 f2 HSP HSG hfit;have HA : Hid _ := hfit.a;have HTt : Hid _ := hfit.t;have HGf : Hid _ := hfit.g;have la := hfit.la;have lt := hfit.lt;have lgq := hfit.lg;have sl := j.o.1;have n1 := (own_cell j.o (k * 4 + 1) (by omega)).trans x1;have n2 := (own_cell j.o (k * 4 + 2) (by omega)).trans x2;have lGr := j.lt;have FA := f1.at;have FT := f2.at;have KP : Hid (∀ W, Below wr.heap.size wr W -> (W.cell? ⟨Gr, k * 4 + 1, none⟩ = some (.slice aa q.adds.length ac) /\ W.cell? ⟨Gr, k * 4 + 2, none⟩ = some (.slice ta q.tells.length tc))) := fun W hW => ⟨(hW.cell (p := ⟨Gr, k * 4 + 1, none⟩) lGr.2).trans n1, (hW.cell (p := ⟨Gr, k * 4 + 2, none⟩) lGr.2).trans n2⟩
      have e0 : Below wr.heap.size wr wr.drew := (Below.refl _ _).drew;have hSS := And.intro (KP.out _ e0) (True.intro);have lGo := jp.lt;clear hfit x0 x1 x2 x3 f0 f1 f2 hq
      go_upto_region 14 with fail
      refine wp_region_ends (fun w' => w'.cell? ⟨Gr, k * 4 + 1, none⟩ = some (.slice aa q.adds.length ac) /\ w'.cell? ⟨Gr, k * 4 + 2, none⟩ = some (.slice ta q.tells.length tc)) (fun _ => True) 13 (by kernel_rfl) ?_;refine tkl 0 rfl hSS ?_;refine tkl 1 rfl hSS ?_;refine tkl 2 rfl hSS ?_;refine tkl 3 rfl hSS ?_;refine tkl 4 rfl hSS ?_;refine tkl 5 rfl hSS ?_;refine tkl 7 rfl hSS ?_;refine tkl 8 rfl hSS ?_;refine tkl 9 rfl hSS ?_;refine tkl 10 rfl hSS ?_;refine tkl 11 rfl hSS ?_;clear hSS;refine wo1 6 rfl fun K hK => ?_;go_simp;refine (sreads_any q.adds (o.bools.below e0) rfl (FA.keep e0) HA.out).mono ?_;rintro ee w4 ⟨G4, c4, rfl, bd4, l4, o4⟩;have b4 := below_of_drew bd4;have l4x : wr.heap.size <= G4 := l4;clear bd4 l4;(try dsimp only);refine kk0 hK (KP.out _ b4) ?_;refine wo1 12 rfl fun K hK => ?_;go_simp;refine (sreads_any q.tells o4.bools rfl (FT.keep b4) HTt.out).mono ?_;rintro ee w5 ⟨G5, c5, rfl, bd5, l5, o5⟩;have b5 := b4.trans (bd5.mono b4.size);have s4 := b4.size;have sb := hb.size;have O5 : Hid (OwnB w5 G5 (pinK (k + 1))) := o5.ext (fun v _ => (HSP.out v).symm);have J5 := j.below b5;have P5 := jp.below b5;have B5 := hb.trans (b5.mono hb.size);clear bd5 o4 o5 o j jp;(try dsimp only);refine kk0 hK (KP.out _ b5) ?_;refine wo1 13 rfl fun K hK => ?_;go_simp;refine kk0 hK (KP.out _ b5) ?_;refine wod ?_ _;clear KP b4 b5 FA FT n1 n2;have pne5 : G5 ≠ Go := by omega
      have lG5 : w.heap.size <= G5 := by omega
      obtain ⟨PG, hPG⟩ : ∃ PG, PG = rowsP PS (R.take k) := ⟨_, rfl⟩
      have HSG2 : Hid (guardsP PG q.guards = rowsP PS (R.take (k + 1))) := HSG.out PG hPG;have HXG : Hid (ts.map IV.x = guardsP PG (q.guards.take 0)) := by show _ = _; rw [HX.out, hPG]; rfl
      obtain ⟨NG, hNG⟩ : ∃ NG, NG = q.guards.length := ⟨_, rfl⟩
      have HNG : Hid (NG = q.guards.length) := hNG;rw [<- hNG] at lgq;clear hPG HSG HX HSP hNG hb lGp pne sl lGr lGo e0
      go_wp2_with fail
      go_loopw [4, 10, 11] (fun out i _ wr => ∃ (g G cG nt : Nat) (ts : List IV), g <= NG /\ i = .int .i64 g /\ out = .slice (some ⟨G, 0, none⟩) nt cG /\ ts.length = nt /\ nt <= 3 + 128000 * ia + 1000 * k + g /\ JP w G cG ts wr /\ ts.map IV.x = guardsP PG (q.guards.take g) /\ OwnB wr G5 (pinK (k + 1)) /\ G5 ≠ G /\ JQ n0 Gr cr G xs R wr) (fun _ i _ _ => NG - (intOf i).toNat)
      case atStart => exact ⟨0, Go, cGo, nt, ts, by omega, rfl, rfl, HL.out, by omega, P5, HXG.out, O5.out, pne5, J5⟩
      case round =>
       clear O5 P5 J5 HXG HL pne5 hnt B5 l5 s4 sb;obtain ⟨g, G, cG, nt, ts, hg, rfl, rfl, hl, hnt, jp, hx, o, pne, j⟩ := hrel;have HL : Hid (ts.length = nt) := hl;have HX : Hid (ts.map IV.x = guardsP PG (q.guards.take g)) := hx;clear hl hx;obtain ⟨ga, gc, aa, ac, ta, tc, x0, x1, x2, x3, f0, f1, f2⟩ := j.r k hlt3;rw [<- HQ.out] at x0 f0;have sl := j.o.1;have n0' := (own_cell j.o (k * 4) (by omega)).trans x0;rw [<- HNG.out] at n0';have lGr := j.lt;have lG := jp.lt
       by_cases hlt4 : g < NG
       ·have hlt4' : (g : Int) < NG := by omega
        have hgl : g < q.guards.length := by rw [<- HNG.out]; exact hlt4
        have HSX : Hid (guardsP PG (q.guards.take (g + 1)) = addPb (guardsP PG (q.guards.take g)) (partL (q.guards[g]?.getD ([], [], 0)).1)) := guardsP_snoc PG q.guards g hgl;have hl3 : (partL (q.guards[g]?.getD ([], [], 0)).1).length = 3 := partL_len3 (HGf.out g hgl);obtain ⟨fb, fo, rfl, a', c', ca, cc, c0, c1, c2, iC, iD⟩ := f0.at g hgl;generalize (q.guards[g]?.getD ([], [], 0)).1 = C at *;generalize (q.guards[g]?.getD ([], [], 0)).2.2 = kz at *;have HPL : Hid ((partL C).length = 3) := hl3;clear f0 f1 f2 x0 x1 x2 x3 iD hl3
        go_wp2_with fail
        refine (spart_new _ 3 _ _ 2 _ _ C _ iC (by omega)).mono ?_;rintro ee w6 ⟨pa, pc, rfl, b6, i6, l6⟩;have jp6 := jp.below b6;have o6 := o.below b6;have j6 := j.below b6;have HL6 : Hid (∀ b o, pa = some ⟨b, o, none⟩ -> b ≠ G) := fun b o e => by have := (l6 b o e).1; omega
        clear jp o j b6 iC c0 c1 c2 n0' l6 lG lGr
        go_wp2_with fail
        refine (shas_any nt cG ts 3 (partL C) HL.out jp6.g (by omega) i6).mono ?_;rintro ee w7 ⟨rfl, b7⟩;have jp7 := jp6.below b7;have o7 := o6.below b7;have j7 := j6.below b7;have i7 := i6.below b7;obtain ⟨hv, hhv⟩ : ∃ hv, hv = hasI ts (partL C) := ⟨_, rfl⟩
        have HV : Hid (hv = hasFrom (partL C) 0 (guardsP PG (q.guards.take g))) := by show _ = _; rw [hhv, hasI, HX.out]
        rw [<- hhv];clear jp6 o6 j6 i6 b7 hhv
        by_cases hneg : hv < 0
        ·go_wp2_with fail
         refine (szero_any).mono ?_;rintro ee w8 ⟨B1, B2, rfl, b8, y1, y12, y2, k1, k2⟩;have hfl : ∀ W, (Instr.field 106 (formV (some ⟨B1, 0, none⟩) 3 3 (some ⟨B2, 0, none⟩) 2 2 0) 0).run Tryz.prog W = .ok (.slice (some ⟨B1, 0, none⟩) 3 3) W := fun W => field_C _ _ _ _ _ _ _ W;have jp8 := jp7.below b8;have o8 := o7.below b8;have j8 := j7.below b8;have i8 := i7.below b8;clear jp7 o7 j7 i7 b8 y1 y12 y2 k2
         go_wp2_with fail
         refine (l4same_any 3 3 (partL C) [0, 0, 0] i8 (k1.ints' rfl) (by omega) (by omega)).mono ?_;rintro ee w9 ⟨rfl, b9⟩;have jp9 := jp8.below b9;have o9 := o8.below b9;have j9 := j8.below b9;have i9 := i8.below b9;clear jp8 o8 j8 i8 b9 k1 hfl
         cases hz : eqB (partL C) [0, 0, 0]
         ·have HNZ : Hid (partL C ≠ [0, 0, 0]) := fun e => by rw [e] at hz; simp [eqB] at hz
          have jo := jp9.o;rw [HL.out] at jo;have js := jp9.b.size;have lo9 := o9.lt;clear hz
          go_wp2_with (at_builtin; go_must (refine wpList_append_lies _ rfl (.tmp 84) (.tmp 86) 76 rfl w.heap.size 23 i0 _ 1 24 Tryz.underlying76 hi hz0 hz1 hz2 rfl (by decide) _ _ _ rfl (jo.alloc _) ⟨w9.heap.size, 0, none⟩ 1 1 [.slice pa 3 pc] rfl rfl (news1 w9) oneSl (by omega) (by unfold maxLen; omega) (by omega) (by rw [qB]; omega) _ rfl ?_); intro gg cp2 w10 hown hgrow hat hlt1)
          have hat' : gg = G \/ w9.heap.size < gg := by
           rcases hat with h | h
           ·have h' : some G = some gg := h;simp only [qA] at h'
            exact Or.inl h'.symm
           rw [qB] at h
           exact Or.inr (by omega)
          have jp10 := jp9.app (s := ⟨pa, 3, pc, partL C⟩) HL.out rfl i9 HL6.out hown hgrow (by omega);have o10 := o9.grown hgrow pne;have j10 := j9.grown hgrow hat'
          have HXa : Hid ((ts ++ [(⟨pa, 3, pc, partL C⟩ : IV)]).map IV.x = guardsP PG (q.guards.take (g + 1))) := by
           show _ = _
           rw [List.map_append, HX.out, HSX.out, addP_new (by rw [<- HV.out]; exact hneg) HNZ.out]; rfl
          have HLa : Hid ((ts ++ [(⟨pa, 3, pc, partL C⟩ : IV)]).length = nt + 1) := by show _ = _; rw [List.length_append, HL.out]; rfl
          have pne10 : G5 ≠ gg := by omega
          clear hown hgrow hat jo jp9 o9 j9 i9 HL6 HNZ
          go_wp2
          go_roundw
          case rel => exact ⟨g + 1, gg, cp2, nt + 1, _, by omega, by go_num, rfl, HLa.out, by omega, jp10, HXa.out, o10, pne10, j10⟩
          case measure => simp [intOf]; omega
         have HXa : Hid (ts.map IV.x = guardsP PG (q.guards.take (g + 1))) := by
          show _ = _
          rw [HX.out, HSX.out, addP_zero (by simpa [eqB] using hz)]
         clear hz HX
         go_wp2
         go_roundw
         case rel => exact ⟨g + 1, G, cG, nt, ts, by omega, by go_num, rfl, HL.out, by omega, jp9, HXa.out, o9, pne, j9⟩
         case measure => simp [intOf]; omega
        have HXa : Hid (ts.map IV.x = guardsP PG (q.guards.take (g + 1))) := by
         show _ = _
         rw [HX.out, HSX.out, addP_has (by rw [<- HV.out]; exact hneg)]
        clear HX
        go_wp2
        go_roundw
        case rel => exact ⟨g + 1, G, cG, nt, ts, by omega, by go_num, rfl, HL.out, by omega, jp7, HXa.out, o7, pne, j7⟩
        case measure => simp [intOf]; omega
       obtain rfl : g = NG := by omega
       have HXe : Hid (ts.map IV.x = rowsP PS (R.take (k + 1))) := by
        show _ = _
        rw [HX.out, qE (by rw [<- HNG.out]; exact qG _), HSG2.out]
       clear f0 f1 f2 x0 x1 x2 x3 HX
       go_wp2
       go_roundw
       case rel => exact ⟨k + 1, G, cG, nt, G5, c5, ts, by omega, by go_num, rfl, rfl, HL.out, by omega, jp, HXe.out, o, lG5, pne, j⟩
       case measure => simp [intOf]; omega
     obtain rfl : k = R.length := by omega
     have HXe : Hid (ts.map IV.x = actsP pots3 (ss.take (ia + 1))) := by
      show _ = _
      rw [HX.out, qE (qG _), HSA2.out]
     have oe : OwnB wr G (pinsA (ss.take (ia + 1))) := o.ext (fun v _ => (HSB2.out v).symm);clear o HX
     go_wp2
     go_roundw
     case rel =>
      refine ⟨_, _, _, _, _, _, _, _, _, _, _, _, _, _, _, _, _, _, _, _, _, _, _, _, _, _, _, _, _, _, _, _, _, _, _, _, _, _, _, _, _, _, _, _, _, _, _, _, _, _, _, _, _, _, _, _, _, _, _, _, _, _, _, _, _, _, _, _, _, _, _, ?_, rfl⟩
      exact ⟨ia + 1, Go, cGo, nt, G, cG, ts, by omega, by go_num, rfl, rfl, HL.out, by omega, jp, HXe.out, oe, lGp, pne⟩
     case measure => simp [intOf]; omega
   obtain rfl : ia = N := by omega
   have hall : ss.take ia = ss := qE (by rw [HN.out]; exact qG _);have HXe : Hid (ts.map IV.x = catP ss) := by show _ = _; rw [HX.out, hall]; rfl
   have oe : OwnB wr Gp (pinsA ss) := by rw [hall] at p; exact p
   clear hall p HX
   go_wp2
   go_ret2
   exact ⟨G, cG, ts, nt, Gp, cp, rfl, HL.out, jp, HXe.out, by omega, oe, lGp⟩
end Go.Proofs.YtfmpcihghlnlnaaGreatDoor
