/-
  Lemmas that the claim's last text rests on.
-/
import Derived.Test.YtemcinobgdphnaaGreatQRH
namespace Go.Proofs.YtemcinobgdphnaaGreat
open Go.RowKit
open Option.some renaming injEq → qA
open Addr.mk renaming injEq → qB
open World renaming size_alloc → qC
open List renaming getElem?_cons_zero → qD, getElem?_cons_succ → qE, length_append → qF
open Nat renaming le_refl → qG
set_option linter.unusedVariables false
set_option maxRecDepth 100000
set_option maxHeartbeats 25600000
variable {C xs : List Int} {K y : Int} {w : World}
structure JTr (wL : World) (R TB : Nat) (a : Option Addr) (n cap : Nat) (bs : List Int) (q : Int) (bv v' v : Value) (G : List Int) (W : World) : Prop where
 t : Touch (fun x => x = R \/ x = TB) wL W
 r : Rd W R a n cap bs q
 o : W.ownsRow wL.heap.size 3 1 v G.length (G.map (Value.int .i64))
 cb : Cel W TB [bv, v'] 26
 lR : R < wL.heap.size
 lT : TB < wL.heap.size
 ne : TB ≠ R
 lb : 0 < n -> ∀ b o, a = some ⟨b, o, none⟩ -> b < wL.heap.size /\ b ≠ TB
 gB : bnd 51 G
section
variable {wL W W' : World} {R TB : Nat} {a : Option Addr} {n cap : Nat} {bs : List Int} {q : Int} {bv v' v : Value} {G : List Int}
theorem own_belowD {base : Nat} {e : TypeId} {s : Nat} {m : Nat} {xs : List Value} (h : W.ownsRow base e s v m xs) (b : Below W.heap.size W W') : W'.ownsRow base e s v m xs := by
 obtain ⟨h1, h2⟩ := h;refine ⟨h1, ?_⟩
 rcases h2 with h2 | ⟨g, cap, cur, hv, hg, hh, r⟩
 ·exact Or.inl h2
 exact Or.inr ⟨g, cap, cur, hv, hg, by rw [b.block g (lt_of_block hh)]; exact hh, r⟩
theorem JTr.below (j : JTr wL R TB a n cap bs q bv v' v G W) (b : Below W.heap.size W W') : JTr wL R TB a n cap bs q bv v' v G W' :=
 ⟨j.t.trans (Touch.of b), j.r.below b, own_belowD j.o b, j.cb.below b, j.lR, j.lT, j.ne, j.lb, j.gB⟩
theorem JTr.pick {q' : Int} (j : JTr wL R TB a n cap bs q bv v' v G W) (t : Touch (fun x => x = R) W W') (r : Rd W' R a n cap bs q') : JTr wL R TB a n cap bs q' bv v' v G W' :=
 ⟨j.t.trans (t.mono (fun k h => Or.inl h)), r, ownsRow_touch j.o t (fun k h => by have := j.lR; omega), j.cb.touch t j.ne, j.lR, j.lT, j.ne, j.lb, j.gB⟩
theorem bnd.app {M : Int} {zs : List Int} (h : bnd M zs) (h1 : -M <= y) (h2 : y <= M) (h0 : 0 <= M) : bnd M (zs ++ [y]) := by
 intro i
 by_cases hi : i < zs.length
 ·rw [List.getElem?_append_left hi]; exact h i
 by_cases he : i = zs.length
 ·subst he; simp; omega
 rw [List.getElem?_eq_none (by rw [qF]; simp; omega)]; simp; omega
theorem JTr.app {g c k : Nat} (j : JTr wL R TB a n cap bs q bv v' v G W) (hk : G.length = k) (y1 : -51 <= y) (y2 : y <= 51) (hown : W'.ownsRow wL.heap.size 3 1 (.slice (some ⟨g, 0, none⟩) (k + 1) c) (k + 1) (G.map (Value.int .i64) ++ [.int .i64 y])) (hg : W.grownBy W' v.ownBlock) : JTr wL R TB a n cap bs q bv v' (.slice (some ⟨g, 0, none⟩) (k + 1) c) (G ++ [y]) W' := by
 have hr : ∀ x, v.ownBlock = some x -> wL.heap.size <= x := fun x hx => (j.o.lt x hx).1;have lR := j.lR;have lT := j.lT;have T : Touch (fun x => wL.heap.size <= x) W W' := ⟨hg.os, hg.tape, hg.output, hg.size, fun x hx hs => hg.block x hx (fun e => hs (hr x e.symm))⟩
 refine ⟨j.t.grown hg hr, j.r.touch T (by omega) (fun h0 b o hab => by have := (j.lb h0 b o hab).1; omega), ?_, j.cb.touch T (by omega), j.lR, j.lT, j.ne, j.lb, j.gB.app y1 y2 (by omega)⟩;rw [qF, hk, List.map_append]
 exact hown
theorem JTr.store (j : JTr wL R TB a n cap bs q bv v' v G W) : JTr wL R TB a n cap bs q bv v v G (W.setCell ⟨TB, 1, none⟩ v) := by
 have lT := j.lT;have T : Touch (fun x => x = TB) W (W.setCell ⟨TB, 1, none⟩ v) := Touch.setCell (S := fun x => x = TB) (Touch.refl _ _) rfl _
 exact ⟨j.t.trans (T.mono (fun k h => Or.inr h)), j.r.touch T (fun e => j.ne e.symm) (fun h0 b o e h => (j.lb h0 b o e).2 h), ownsRow_touch j.o T (fun k h => by omega), j.cb.set 1 v, j.lR, j.lT, j.ne, j.lb, j.gB⟩
theorem JTr.ints (j : JTr wL R TB a n cap bs q bv v' v G W) (h0 : 0 < G.length) : ∃ g c, v = .slice (some ⟨g, 0, none⟩) G.length c /\ wL.heap.size <= g /\ OwnX W (some ⟨g, 0, none⟩) g G.length G /\ (∀ i, W.frozen? ⟨g, i, none⟩ = false) /\ g < W.heap.size := by
 rcases j.o.2 with ⟨_, h⟩ | ⟨g, cap', cur, rfl, hg, hh, hl, _, _⟩
 ·omega
 have hC : Cel W g cur.toList 3 := by unfold Cel; simpa using hh
 refine ⟨g, cap', rfl, hg, ⟨rfl, .inr ⟨rfl, cur.toList, hC, fun i hi => ?_⟩⟩, fun i => j.o.frozenAt i, lt_of_block hh⟩;have := j.o.cellAt i (by omega);rw [<- hC.cell i, this];simp [hi]
end
structure TrN (w w' : World) (R : Nat) (a : Option Addr) (n cap : Nat) (bs : List Int) (p q : Int) (ba : Option Addr) (bn : Nat) (B : List Int) (ga : Option Addr) (gn : Nat) (G : List Int) : Prop where
 t : Touch (fun x => x = R) w w'
 r : Rd w' R a n cap bs q
 b : Ints w' ba bn B
 g : Ints w' ga gn G
 b4 : bn <= 4
 g3 : gn <= 3
 lb : ∀ b o, ba = some ⟨b, o, none⟩ -> w.heap.size <= b
 lg : ∀ b o, ga = some ⟨b, o, none⟩ -> w.heap.size <= b
 gB : bnd 51 G
 q0 : p <= q
 q1 : q <= p + 40
 gx : ∃ gb, OwnX w' ga gb gn G /\ (0 < gn -> w.heap.size <= gb /\ ∀ b o, ba = some ⟨b, o, none⟩ -> b ≠ gb)
theorem TrN.set {W : World} {R : Nat} {a : Option Addr} {n cap : Nat} {bs : List Int} {p q : Int} {ba : Option Addr} {bn : Nat} {B : List Int} {ga : Option Addr} {gn : Nat} {G : List Int} (h : TrN w W R a n cap bs p q ba bn B ga gn G) {X : Nat} (hX : w.heap.size <= X) (h1 : ∀ b o, ba = some ⟨b, o, none⟩ -> b ≠ X) (h2 : ∀ b o, ga = some ⟨b, o, none⟩ -> b ≠ X) (hR : R < w.heap.size) (ha : 0 < n -> ∀ b o, a = some ⟨b, o, none⟩ -> b < w.heap.size) (i : Nat) (v : Value) : TrN w (W.setCell ⟨X, i, none⟩ v) R a n cap bs p q ba bn B ga gn G :=
 ⟨h.t.setNewF hX i v, h.r.setNew (by omega) (fun h0 b o e => by have := ha h0 b o e; omega) i v, h.b.setFar h1 i v, h.g.setFar h2 i v, h.b4, h.g3, h.lb, h.lg, h.gB, h.q0, h.q1, by (obtain ⟨gb, ho, hh⟩ := h.gx; exact ⟨gb, ho.setOther (fun h0 e => h2 gb 0 (ho.pos h0).1 e.symm) i v, hh⟩)⟩
theorem litT_5 (j : Nat) (hj : j < 5) : -51 <= ([0, 3, 10, 30, 50] : List Int)[j]?.getD 0 /\ ([0, 3, 10, 30, 50] : List Int)[j]?.getD 0 <= 51 := by
 rcases j with _ | _ | _ | _ | _ | j <;> first | omega | simp
theorem litT_2 (j : Nat) (hj : j < 2) : -51 <= ([-1, 51] : List Int)[j]?.getD 0 /\ ([-1, 51] : List Int)[j]?.getD 0 <= 51 := by
 rcases j with _ | _ | j <;> first | omega | simp
theorem treaty_f (R : Nat) (a : Option Addr) (n cap : Nat) (bs : List Int) (p N : Int) {w : World} (hR : Rd w R a n cap bs p) (hp : 0 <= p) (hp1 : p <= 8000000) (hN : 1 <= N) (hN1 : N <= 1000) (ha : 0 < n -> ∀ b o, a = some ⟨b, o, none⟩ -> b < w.heap.size) :
  Calls Tryz.prog 41 #[.pointer (some ⟨R, 0, none⟩), .int .i64 N] w fun e w' => ∃ ba bn bc ga gn gc B G q, e = .returned (treV ba bn bc ga gn gc) /\ TrN w w' R a n cap bs p q ba bn B ga gn G := by
 have hRl := hR.c.lt;have rb := Cel.new w [.slice none 0 0, .slice none 0 0] 26;have B0 := (Below.refl w.heap.size w).alloc (qG _) (.cells #[.slice none 0 0, .slice none 0 0] 26);obtain ⟨i0, hi, hz0, hz1, hz2⟩ := info_parts Tryz.infoInt
 go_enter Tryz.func41, Tryz.ntmps41
 go_wp2_with fail
 refine (vals_gen R a n cap bs p 99 (hR.below B0) (by omega) (by omega) (by omega) (by omega) (hR.below B0).ha).mono ?_;rintro e w1 ⟨ba, bn, bc, B, q1, rfl, d1⟩;have u0 := d1.q0;have u1 := d1.q1;have b4 := d1.h4;have z3 := d1.t.size;have lb0 := d1.lo;rw [qC] at z3 lb0;have al := (Below.refl w1.heap.size w1).alloc (qG _) (.cells #[.slice ba bn bc, .slice none 0 0] 26);have rb1 := (rb.touch d1.t (by omega)).below al;have bI := d1.i.below al;have r1 := d1.r.below al;have cb := Cel.new w1 [.slice ba bn bc, .slice none 0 0] 26;have tw1 := ((Touch.of (S := fun x => x = R) B0).trans d1.t).trans (Touch.of al);have lb1 := d1.hi;obtain ⟨TB, hTB⟩ : ∃ x, x = w1.heap.size := ⟨_, rfl⟩
 obtain ⟨W2, hW2⟩ : ∃ W, W = w1.alloc (.cells #[.slice ba bn bc, .slice none 0 0] 26) := ⟨_, rfl⟩
 have hTB1 : w.heap.size < TB := by omega
 have cbl : TB < W2.heap.size := by rw [hW2, hTB, qC]; omega
 rw [<- hW2] at rb1 bI r1 cb tw1;rw [<- hTB] at cb lb1
 go_wp2_with fail
 rw [<- hW2, <- hTB];clear hTB hW2 hR rb B0 d1 al;refine (pick_any R a n cap bs q1 3 r1).mono ?_;rintro e wL ⟨r, r0, r3, rfl, t3, R3⟩;obtain ⟨rk, rfl⟩ := Int.eq_ofNat_of_zero_le r0;have hRT : R < TB := by omega
 have hRt : TB ≠ R := by omega
 have rbL := rb1.touch t3 (by omega);have bIL := bI.off t3 (fun b o e hs => by have := lb0 b o e; omega);have cbL := cb.touch t3 hRt;have tw := tw1.trans t3;have wLs := t3.size
 have jL : JTr wL R TB a n cap bs (q1 + 1) (.slice ba bn bc) (.slice none 0 0) (.slice none 0 0) [] wL :=
  ⟨Touch.refl _ _, R3, World.ownsRow_nil _ _ _ _, cbL, by omega, by omega, hRt, fun h0 b o e => by have := ha h0 b o e; exact ⟨by omega, by omega⟩, fun i => by simp⟩
 have hb := bIL;have lb' : ∀ b o, ba = some ⟨b, o, none⟩ -> w.heap.size <= b /\ b ≠ R := fun b o e => by have := lb0 b o e; exact ⟨by omega, by omega⟩
 have lbn : ∀ b o, ba = some ⟨b, o, none⟩ -> w.heap.size < b := fun b o e => by have := lb0 b o e; omega
 clear rb1 bI r1 cb tw1 t3 R3 cbL bIL r0;have HBX : ∀ b o, ba = some ⟨b, o, none⟩ -> b ≠ TB := fun b o e => by have := lb1 b o e; omega
 have lbu : ∀ b o, ba = some ⟨b, o, none⟩ -> b < TB := lb1;clear lb1
 go_wp2_with fail
 go_loopw [6] (fun i wr => ∃ (k l : Nat) (v : Value) (G : List Int) (q : Int) (z : Nat), k + l = rk + 1 /\ z = 0 /\ i = .int .i64 l /\ G.length = k /\ JTr wL R TB a n cap bs q (.slice ba bn bc) v v G wr /\ q1 + 1 <= q /\ q <= q1 + 1 + k) (fun i _ => (intOf i).toNat)
 case atStart => exact ⟨0, rk + 1, _, [], q1 + 1, 0, by omega, rfl, by go_num, rfl, jL, by omega, by omega⟩
 case round =>
  clear jL;obtain ⟨k, l, v, G, q, _, hkl, _, rfl, hG, j, hq0, hq1⟩ := hrel;have HG : Hid (G.length = k) := hG;clear hG
  by_cases hl : 0 < l
  ·have hl' : (0 : Int) < (l : Int) := by omega
   go_upto_region 5 with fail
   refine wp_region_ends (fun _ => True) (fun X => X.cell? ⟨TB, 1, none⟩ = some v) 9 (by kernel_rfl) ?_;have sd := j.below ((Below.refl _ _).drew);obtain ⟨V0, hV0⟩ : ∃ V, V = wr.drew := ⟨_, rfl⟩
   rw [<- hV0] at sd ⊢;clear hV0 j;have hSS : True /\ (fun X : World => X.cell? ⟨TB, 1, none⟩ = some v) V0 := ⟨trivial, sd.cb.cell 1⟩
   refine tkl 0 rfl hSS ?_;refine tkM (i := 1) rfl rfl hSS ?_;refine tkl 3 rfl hSS ?_;clear hSS;refine wpAnyE_two (i := 2) (j := 4) (by kernel_rfl) rfl rfl (fun Kn hK => ?_) (fun Kn hK => ?_)
   ·go_simp;have al := (Below.refl V0.heap.size V0).alloc (qG _) (.cells #[.int .i64 0, .int .i64 3, .int .i64 10, .int .i64 30, .int .i64 50] 3);have lb := Cel.new V0 [.int .i64 0, .int .i64 3, .int .i64 10, .int .i64 30, .int .i64 50] 3;have nl : V0.heap.size ≠ R := by have h1 := sd.lR; have h2 := sd.t.size; omega
    have sa := sd.below al;clear al;refine hK.out _ _ ⟨trivial, fun _ => sa.cb.cell 1⟩ ?_;clear hK;refine wpAnyE_one (i := 4) (by kernel_rfl) rfl (fun Kn hK => ?_);go_simp;refine (pick_any R a n cap bs _ 5 sa.r).mono ?_;rintro e w5 ⟨rj, r0, r1, rfl, t5, R5⟩;obtain ⟨j, rfl⟩ := Int.eq_ofNat_of_zero_le r0;have hj : j < 5 := by omega
    have hj' : (j : Int) < 5 := by omega
    clear r0 r1;have sb := sa.pick t5 R5;replace lb := lb.touch t5 nl;clear t5 R5 sa sd;dsimp only;refine hK.out _ _ ⟨trivial, fun _ => sb.cb.cell 1⟩ ?_;clear hK;have hSS : True /\ (fun X : World => X.cell? ⟨TB, 1, none⟩ = some v) w5 := ⟨trivial, sb.cb.cell 1⟩
    refine tkl 5 rfl hSS ?_;clear hSS;have hc := lit_cell (xs := [0, 3, 10, 30, 50]) lb hj;have hy := litT_5 j hj;generalize ([0, 3, 10, 30, 50] : List Int)[j]?.getD 0 = y at hc hy;refine wpAnyE_one (i := 6) (by kernel_rfl) rfl (fun Kn hK => ?_);go_simp;refine hK.out _ _ ⟨trivial, fun _ => sb.cb.cell 1⟩ ?_;clear hK;clear hc lb;obtain ⟨V3, hV3⟩ : ∃ V, V = w5 := ⟨_, rfl⟩
    rw [<- hV3] at sb;rw [<- hV3];clear hV3;refine wpAnyE_one (i := 7) (by kernel_rfl) rfl (fun Kn hK => ?_);go_simp;have al := (Below.refl V3.heap.size V3).alloc (qG _) (.cells #[.int .i64 y] 3);have s7 := sb.below al;refine hK.out _ _ ⟨trivial, fun _ => s7.cb.cell 1⟩ ?_;clear hK;have hsz := s7.t.size;clear al;refine wpAnyE_one (i := 8) (by kernel_rfl) rfl (fun Kn hK => ?_);rw [if_pos (by rfl)];refine wp_append_lies _ (.tmp 18) (.tmp 24) 24 rfl wL.heap.size 3 i0 _ 1 8 Tryz.underlying24 hi hz0 hz1 hz2 rfl (by omega) v k (G.map (Value.int .i64)) (by rfl) (by have h := s7.o; rw [HG.out] at h; exact h) ⟨V3.heap.size, 0, none⟩ 1 1 [.int .i64 y] (by rfl) (by rfl) (World.news_of_block (cs := #[.int .i64 y]) (t := 3) (fr := (0, 0)) (heap_alloc_new V3 _)) (by simp [Value.oneCell']) (by omega) (by unfold maxLen; omega) (by omega) hsz (V3.heap.size + 1) (by rw [qC]) ?_;intro g c w8 hown hgrow _ _;have s8 := s7.app HG.out hy.1 hy.2 hown hgrow;clear hown hgrow;refine hK.out _ _ ⟨trivial, fun _ => s8.cb.cell 1⟩ ?_;clear hK;refine wpAnyE_one (i := 9) (by kernel_rfl) rfl (fun Kn hK => ?_);go_simp;refine hK.out _ _ ⟨trivial, fun _ => s8.cb.cell 1⟩ ?_;clear hK;have f1 := s8.cb.free 1;have c1 := s8.cb.cell 1;have lt1 := s8.cb.lt;simp only [qD, qE] at c1;have s9 := s8.store;refine wpAnyE_one (i := 10) (by kernel_rfl) rfl (fun Kn hK => ?_);go_simp;refine hK.out _ _ ⟨trivial, fun h => absurd h (by decide)⟩ ?_;clear hK;refine wod ?_ _
    clear f1 c1 s8 s7
    go_wp2
    go_roundw
    case rel => exact ⟨k + 1, l - 1, _, _, _, _, by omega, by omega, by go_num, by show _ = _; rw [qF, HG.out]; rfl, s9, by omega, by omega⟩
    case measure => simp [intOf]; omega
   go_simp;refine (pick_any R a n cap bs _ 5 sd.r).mono ?_;rintro e w5 ⟨rj, r0, r1, rfl, t5, R5⟩;obtain ⟨j, rfl⟩ := Int.eq_ofNat_of_zero_le r0;have hj : j < 5 := by omega
   have hj' : (j : Int) < 5 := by omega
   clear r0 r1;have sa := sd.pick t5 R5;clear t5 R5 sd;dsimp only;refine hK.out _ _ ⟨trivial, fun _ => sa.cb.cell 1⟩ ?_;clear hK;refine wpAnyE_one (i := 2) (by kernel_rfl) rfl (fun Kn hK => ?_);go_simp;have al := (Below.refl w5.heap.size w5).alloc (qG _) (.cells #[.int .i64 0, .int .i64 3, .int .i64 10, .int .i64 30, .int .i64 50] 3);have lb := Cel.new w5 [.int .i64 0, .int .i64 3, .int .i64 10, .int .i64 30, .int .i64 50] 3;have nl : w5.heap.size ≠ R := by have h1 := sa.lR; have h2 := sa.t.size; omega
   have sb := sa.below al;clear al;refine hK.out _ _ ⟨trivial, fun _ => sb.cb.cell 1⟩ ?_;clear hK;clear sa;have hSS : True /\ (fun X : World => X.cell? ⟨TB, 1, none⟩ = some v) (w5.alloc (.cells #[.int .i64 0, .int .i64 3, .int .i64 10, .int .i64 30, .int .i64 50] 3)) := ⟨trivial, sb.cb.cell 1⟩
   refine tkl 5 rfl hSS ?_;clear hSS;have hc := lit_cell (xs := [0, 3, 10, 30, 50]) lb hj;have hy := litT_5 j hj;generalize ([0, 3, 10, 30, 50] : List Int)[j]?.getD 0 = y at hc hy;refine wpAnyE_one (i := 6) (by kernel_rfl) rfl (fun Kn hK => ?_);go_simp;refine hK.out _ _ ⟨trivial, fun _ => sb.cb.cell 1⟩ ?_;clear hK;clear hc lb;obtain ⟨V3, hV3⟩ : ∃ V, V = (w5.alloc (.cells #[.int .i64 0, .int .i64 3, .int .i64 10, .int .i64 30, .int .i64 50] 3)) := ⟨_, rfl⟩
   rw [<- hV3] at sb;rw [<- hV3];clear hV3;refine wpAnyE_one (i := 7) (by kernel_rfl) rfl (fun Kn hK => ?_);go_simp;have al := (Below.refl V3.heap.size V3).alloc (qG _) (.cells #[.int .i64 y] 3);have s7 := sb.below al;refine hK.out _ _ ⟨trivial, fun _ => s7.cb.cell 1⟩ ?_;clear hK;have hsz := s7.t.size;clear al;refine wpAnyE_one (i := 8) (by kernel_rfl) rfl (fun Kn hK => ?_);rw [if_pos (by rfl)];refine wp_append_lies _ (.tmp 18) (.tmp 24) 24 rfl wL.heap.size 3 i0 _ 1 8 Tryz.underlying24 hi hz0 hz1 hz2 rfl (by omega) v k (G.map (Value.int .i64)) (by rfl) (by have h := s7.o; rw [HG.out] at h; exact h) ⟨V3.heap.size, 0, none⟩ 1 1 [.int .i64 y] (by rfl) (by rfl) (World.news_of_block (cs := #[.int .i64 y]) (t := 3) (fr := (0, 0)) (heap_alloc_new V3 _)) (by simp [Value.oneCell']) (by omega) (by unfold maxLen; omega) (by omega) hsz (V3.heap.size + 1) (by rw [qC]) ?_;intro g c w8 hown hgrow _ _;have s8 := s7.app HG.out hy.1 hy.2 hown hgrow;clear hown hgrow;refine hK.out _ _ ⟨trivial, fun _ => s8.cb.cell 1⟩ ?_;clear hK;refine wpAnyE_one (i := 9) (by kernel_rfl) rfl (fun Kn hK => ?_);go_simp;refine hK.out _ _ ⟨trivial, fun _ => s8.cb.cell 1⟩ ?_;clear hK;have f1 := s8.cb.free 1;have c1 := s8.cb.cell 1;have lt1 := s8.cb.lt;simp only [qD, qE] at c1;have s9 := s8.store;refine wpAnyE_one (i := 10) (by kernel_rfl) rfl (fun Kn hK => ?_);go_simp;refine hK.out _ _ ⟨trivial, fun h => absurd h (by decide)⟩ ?_;clear hK;refine wod ?_ _
   clear f1 c1 s8 s7
   go_wp2
   go_roundw
   case rel => exact ⟨k + 1, l - 1, _, _, _, _, by omega, by omega, by go_num, by show _ = _; rw [qF, HG.out]; rfl, s9, by omega, by omega⟩
   case measure => simp [intOf]; omega
  have hl' : ¬ (0 : Int) < (l : Int) := by omega
  have hl0 : l = 0 := by omega
  have hk1 : 0 < k := by omega
  have hk3 : k <= 3 := by omega
  go_wp2_with fail
  refine (pick_any R a n cap bs q N j.r).mono ?_;rintro e w6 ⟨u, x0, x1, rfl, t6, R6⟩;replace j := j.pick t6 R6;clear t6 R6;obtain ⟨g, c, rfl, hg, hgI, hgf, hgl⟩ := j.ints (by rw [HG.out]; omega);rw [HG.out] at hgI j
  by_cases hu : 0 < u
  ·have hbI := hb.off j.t (fun b o e h => h.elim (fun h => (lb' b o e).2 h) (fun h => HBX b o e h));have rb9 := rbL.touch j.t (by omega);have tw9 : Touch (fun x => x = R) w w6 := ⟨j.t.os.trans tw.os, j.t.tape.trans tw.tape, j.t.output.trans tw.output, Nat.le_trans tw.size j.t.size, fun x hx hs => (j.t.block x (Nat.lt_of_lt_of_le hx tw.size) (by omega)).trans (tw.block x hx hs)⟩
   have hN : TrN w w6 R a n cap bs p _ ba bn _ (some ⟨g, 0, none⟩) k _ := ⟨tw9, j.r, hbI, hgI.ints, by omega, by omega, fun b o e => (lb' b o e).1, fun b o e => by simp only [qA, qB] at e; omega, j.gB, by omega, by omega, ⟨_, hgI, fun h0 => ⟨by omega, fun b o e => by have := lbu b o e; omega⟩⟩⟩
   have d0 := j.cb.cell 0;have d1 := j.cb.cell 1;have e0 := rb9.cell 0;have e1 := rb9.cell 1;have f0 := rb9.free 0;have f1 := rb9.free 1;have ll := rb9.lt;simp only [qD, qE] at d0 d1 e0 e1
   go_wp2
   have hZ := (hN.set (X := w.heap.size) (qG _) (fun b o e => by have := hN.lb b o e; have := lbn b o e; omega) (fun b o e => by simp only [qA, qB] at e; omega) hRl ha 0 (.slice ba bn bc)).set (X := w.heap.size) (qG _) (fun b o e => by have := lbn b o e; omega) (fun b o e => by simp only [qA, qB] at e; omega) hRl ha 1 (.slice (some ⟨g, 0, none⟩) k c);refine bodyPost_ret (v := treV ba bn bc (some ⟨g, 0, none⟩) k c) (by simp [results, Tryz.results41, go_sem, e0, e1]) rfl ⟨ba, bn, bc, (some ⟨g, 0, none⟩), k, c, _, _, _, rfl, hZ⟩
  obtain rfl : u = 0 := by omega
  clear hgI hgf
  go_wp2_with fail
  refine (pick_any R a n cap bs (q + 1) 3 j.r).mono ?_;rintro e w7 ⟨s, y0, y1, rfl, t7, R7⟩;replace j := j.pick t7 R7;have z7 := t7.size;clear t7 R7 x0 x1 hu
  rcases (show s = 0 \/ s = 1 \/ s = 2 from by omega) with rfl | rfl | rfl
  ·go_wp2_with fail
   refine (vals_gen R a n cap bs (q + 1 + 1) 1 j.r (by omega) (by omega) (by omega) (by omega) j.r.ha).mono ?_;rintro e w8 ⟨ba2, bn2, bc2, B2, q8, rfl, d8⟩;have v0 := d8.q0;have v1 := d8.q1;have b42 := d8.h4;have hsz := j.t.size;have lT := j.lT;replace j := j.pick d8.t d8.r;have lb2 := d8.lo;have i8 := d8.i;clear d8;obtain ⟨g2, c2, e2, hg2, hI2, hf2, hl2⟩ := j.ints (by rw [HG.out]; omega);simp only [Value.slice.injEq, qA, qB, and_true] at e2;obtain ⟨rfl, hkk, rfl⟩ := e2;clear hkk;rw [HG.out] at hI2;have c0 := j.cb.cell 0;have f0' := j.cb.free 0;have ltb := j.cb.lt;simp only [qD] at c0;have T9 : Touch (fun x => x = R \/ x = TB) wL (w8.setCell ⟨TB, 0, none⟩ (.slice ba2 bn2 bc2)) := Touch.setCell (S := fun x => x = R \/ x = TB) j.t (Or.inr rfl) _;have r9 := j.r.setNew (B := TB) (fun e => hRt e) (fun h0 b o e => (j.lb h0 b o e).2) 0 (.slice ba2 bn2 bc2);have cb9 := j.cb.set 0 (.slice ba2 bn2 bc2);have IS9 := hI2.setOther (X := TB) (fun _ e => by omega) 0 (.slice ba2 bn2 bc2);have i9 := i8.setFar (B := TB) (fun b o e => by have := lb2 b o e; omega) 0 (.slice ba2 bn2 bc2);have gB9 := j.gB;replace lbn : ∀ b o, ba2 = some ⟨b, o, none⟩ -> w.heap.size < b := fun b o e => by have := lb2 b o e; omega
   clear j hI2 hf2 i8 hb lb' HBX
   go_upto_region 14 with fail
   obtain ⟨W9, hW9⟩ : ∃ V, V = w8.setCell ⟨TB, 0, none⟩ (.slice ba2 bn2 bc2) := ⟨_, rfl⟩
   rw [<- hW9] at T9 r9 cb9 IS9 i9 ⊢;clear hW9 c0 f0' ltb;have rb9 := rbL.touch T9 (by omega);have tw9 : Touch (fun x => x = R) w W9 := ⟨T9.os.trans tw.os, T9.tape.trans tw.tape, T9.output.trans tw.output, Nat.le_trans tw.size T9.size, fun x hx hs => (T9.block x (Nat.lt_of_lt_of_le hx tw.size) (by omega)).trans (tw.block x hx hs)⟩
   have hN : TrN w W9 R a n cap bs p _ ba2 bn2 _ (some ⟨g, 0, none⟩) k _ := ⟨tw9, r9, i9, IS9.ints, by omega, by omega, fun b o e => by have := lbn b o e; omega, fun b o e => by simp only [qA, qB] at e; omega, gB9, by omega, by omega, ⟨_, IS9, fun h0 => ⟨by omega, fun b o e => by have := lb2 b o e; omega⟩⟩⟩
   have d0 := cb9.cell 0;have d1 := cb9.cell 1;have e0 := rb9.cell 0;have e1 := rb9.cell 1;have f0 := rb9.free 0;have f1 := rb9.free 1;have ll := rb9.lt;simp only [qD, qE] at d0 d1 e0 e1
   go_wp2
   have hZ := (hN.set (X := w.heap.size) (qG _) (fun b o e => by have := hN.lb b o e; have := lbn b o e; omega) (fun b o e => by simp only [qA, qB] at e; omega) hRl ha 0 (.slice ba2 bn2 bc2)).set (X := w.heap.size) (qG _) (fun b o e => by have := lbn b o e; omega) (fun b o e => by simp only [qA, qB] at e; omega) hRl ha 1 (.slice (some ⟨g, 0, none⟩) k c);refine bodyPost_ret (v := treV ba2 bn2 bc2 (some ⟨g, 0, none⟩) k c) (by simp [results, Tryz.results41, go_sem, e0, e1]) rfl ⟨ba2, bn2, bc2, (some ⟨g, 0, none⟩), k, c, _, _, _, rfl, hZ⟩
  ·have al := (Below.refl w7.heap.size w7).alloc (qG _) (.cells #[] 3);have hsz := j.t.size;have lT := j.lT;replace j := j.below al;have c1 := j.cb.cell 1;have f1' := j.cb.free 1;have ltb := j.cb.lt;simp only [qD, qE] at c1;have T9 : Touch (fun x => x = R \/ x = TB) wL ((w7.alloc (.cells #[] 3)).setCell ⟨TB, 1, none⟩ (.slice (some ⟨w7.heap.size, 0, none⟩) 0 0)) := Touch.setCell (S := fun x => x = R \/ x = TB) j.t (Or.inr rfl) _;have r9 := j.r.setNew (B := TB) (fun e => hRt e) (fun h0 b o e => (j.lb h0 b o e).2) 1 (.slice (some ⟨w7.heap.size, 0, none⟩) 0 0);have cb9 := j.cb.set 1 (.slice (some ⟨w7.heap.size, 0, none⟩) 0 0);have IS9 : OwnX ((w7.alloc (.cells #[] 3)).setCell ⟨TB, 1, none⟩ (.slice (some ⟨w7.heap.size, 0, none⟩) 0 0)) (some ⟨w7.heap.size, 0, none⟩) w7.heap.size 0 [] := OwnX.nil _ _ _;have gB9 : bnd 51 [] := fun i => by simp
   have hb9 := hb.off T9 (fun b o e h => h.elim (fun h => (lb' b o e).2 h) (fun h => HBX b o e h));clear j al hb
   go_upto_region 14 with fail
   obtain ⟨W9, hW9⟩ : ∃ V, V = (w7.alloc (.cells #[] 3)).setCell ⟨TB, 1, none⟩ (.slice (some ⟨w7.heap.size, 0, none⟩) 0 0) := ⟨_, rfl⟩
   rw [<- hW9] at T9 r9 cb9 IS9 hb9 ⊢;clear hW9 c1 f1' ltb;have rb9 := rbL.touch T9 (by omega);have tw9 : Touch (fun x => x = R) w W9 := ⟨T9.os.trans tw.os, T9.tape.trans tw.tape, T9.output.trans tw.output, Nat.le_trans tw.size T9.size, fun x hx hs => (T9.block x (Nat.lt_of_lt_of_le hx tw.size) (by omega)).trans (tw.block x hx hs)⟩
   have hN : TrN w W9 R a n cap bs p _ ba bn _ (some ⟨w7.heap.size, 0, none⟩) 0 _ := ⟨tw9, r9, hb9, IS9.ints, by omega, by omega, fun b o e => (lb' b o e).1, fun b o e => by simp only [qA, qB] at e; omega, gB9, by omega, by omega, ⟨_, IS9, fun h0 => ⟨by omega, fun b o e => by have := lbu b o e; omega⟩⟩⟩
   have d0 := cb9.cell 0;have d1 := cb9.cell 1;have e0 := rb9.cell 0;have e1 := rb9.cell 1;have f0 := rb9.free 0;have f1 := rb9.free 1;have ll := rb9.lt;simp only [qD, qE] at d0 d1 e0 e1
   go_wp2
   have hZ := (hN.set (X := w.heap.size) (qG _) (fun b o e => by have := hN.lb b o e; have := lbn b o e; omega) (fun b o e => by simp only [qA, qB] at e; omega) hRl ha 0 (.slice ba bn bc)).set (X := w.heap.size) (qG _) (fun b o e => by have := lbn b o e; omega) (fun b o e => by simp only [qA, qB] at e; omega) hRl ha 1 (.slice (some ⟨w7.heap.size, 0, none⟩) 0 0);refine bodyPost_ret (v := treV ba bn bc (some ⟨w7.heap.size, 0, none⟩) 0 0) (by simp [results, Tryz.results41, go_sem, e0, e1]) rfl ⟨ba, bn, bc, (some ⟨w7.heap.size, 0, none⟩), 0, 0, _, _, _, rfl, hZ⟩
  go_upto_region 9 with fail
  refine wp_region_ends (fun X => X.cell? ⟨TB, 1, none⟩ = some (.slice (some ⟨g, 0, none⟩) k c)) (fun _ => True) 8 (by kernel_rfl) ?_;have sd := j.below ((Below.refl _ _).drew);obtain ⟨V0, hV0⟩ : ∃ V, V = w7.drew := ⟨_, rfl⟩
  rw [<- hV0] at sd ⊢;clear hV0 j;have hSS : (fun X : World => X.cell? ⟨TB, 1, none⟩ = some (.slice (some ⟨g, 0, none⟩) k c)) V0 /\ True := ⟨sd.cb.cell 1, trivial⟩
  refine tkl 0 rfl hSS ?_;refine tkl 1 rfl hSS ?_;refine tkl 3 rfl hSS ?_;clear hSS;refine wpAnyE_two (i := 2) (j := 4) (by kernel_rfl) rfl rfl (fun Kn hK => ?_) (fun Kn hK => ?_)
  ·go_simp;have al := (Below.refl V0.heap.size V0).alloc (qG _) (.cells #[.int .i64 (-1), .int .i64 51] 3);have lb := Cel.new V0 [.int .i64 (-1), .int .i64 51] 3;have nl : V0.heap.size ≠ R := by have h1 := sd.lR; have h2 := sd.t.size; omega
   have sa := sd.below al;clear al;refine kk0 hK (sa.cb.cell 1) ?_;clear hK;refine wpAnyE_one (i := 4) (by kernel_rfl) rfl (fun Kn hK => ?_);go_simp;refine (pick_any R a n cap bs _ 2 sa.r).mono ?_;rintro e w8 ⟨ri2, r0, r1, rfl, t5, R5⟩;obtain ⟨i2, rfl⟩ := Int.eq_ofNat_of_zero_le r0;have hi2 : i2 < 2 := by omega
   have hi2' : (i2 : Int) < 2 := by omega
   clear r0 r1;have sb := sa.pick t5 R5;replace lb := lb.touch t5 nl;clear t5 R5 sa sd;dsimp only;refine kk0 hK (sb.cb.cell 1) ?_;clear hK;have hSS : (fun X : World => X.cell? ⟨TB, 1, none⟩ = some (.slice (some ⟨g, 0, none⟩) k c)) w8 /\ True := ⟨sb.cb.cell 1, trivial⟩
   refine tkl 5 rfl hSS ?_;have hc := lit_cell (xs := [-1, 51]) lb hi2;have hy := litT_2 i2 hi2;generalize ([-1, 51] : List Int)[i2]?.getD 0 = y at hc hy;refine wpAnyE_one (i := 6) (by kernel_rfl) rfl (fun Kn hK => ?_);go_simp;refine kk0 hK (sb.cb.cell 1) ?_;clear hK;clear hc lb;refine tkl 7 rfl hSS ?_;clear hSS;obtain ⟨g2, c2, e2, hg2, hI2, hf2, hl2⟩ := sb.ints (by rw [HG.out]; omega);simp only [Value.slice.injEq, qA, qB, and_true] at e2;obtain ⟨rfl, hkk, rfl⟩ := e2;clear hkk;rw [HG.out] at hI2;have kc : (w8).cell? ⟨g, 0, none⟩ = some (.int .i64 (G[0]?.getD 0)) := (hI2.pos (by omega)).2.1 0 (by omega);have kf := hf2 0;have lTB := sb.lT;have nTB : g ≠ TB := by omega
   have cb9 := sb.cb.setOther (B' := g) (fun e => nTB e.symm) 0 (.int .i64 y);have IS9 := hI2.set (i := 0) (by omega) y;refine wpAnyE_one (i := 8) (by kernel_rfl) rfl (fun Kn hK => ?_);go_simp;refine kk0 hK (cb9.cell 1) ?_;clear hK;refine wod ?_ _;clear kc kf;have T9 : Touch (fun x => x = R \/ x = TB) wL ((w8).setCell ⟨g, 0, none⟩ (.int .i64 y)) := sb.t.setNewF hg2 0 _;have r9 := sb.r.setNew (B := g) (by omega) (fun h0 b o e => by have := (sb.lb h0 b o e).1; omega) 0 (.int .i64 y);have gB9 := sb.gB.set 0 hy.1 hy.2;clear sb hI2 hf2;obtain ⟨W9, hW9⟩ : ∃ V, V = (w8).setCell ⟨g, 0, none⟩ (.int .i64 y) := ⟨_, rfl⟩
   rw [<- hW9] at cb9 IS9 T9 r9;rw [<- hW9];clear hW9;have rb9 := rbL.touch T9 (by omega);have tw9 : Touch (fun x => x = R) w W9 := ⟨T9.os.trans tw.os, T9.tape.trans tw.tape, T9.output.trans tw.output, Nat.le_trans tw.size T9.size, fun x hx hs => (T9.block x (Nat.lt_of_lt_of_le hx tw.size) (by omega)).trans (tw.block x hx hs)⟩
   have hN : TrN w W9 R a n cap bs p _ ba bn _ (some ⟨g, 0, none⟩) k _ := ⟨tw9, r9, hb.off T9 (fun b o e h => h.elim (fun h => (lb' b o e).2 h) (fun h => HBX b o e h)), IS9.ints, by omega, by omega, fun b o e => (lb' b o e).1, fun b o e => by simp only [qA, qB] at e; omega, gB9, by omega, by omega, ⟨_, IS9, fun h0 => ⟨by omega, fun b o e => by have := lbu b o e; omega⟩⟩⟩
   have d0 := cb9.cell 0;have d1 := cb9.cell 1;have e0 := rb9.cell 0;have e1 := rb9.cell 1;have f0 := rb9.free 0;have f1 := rb9.free 1;have ll := rb9.lt;simp only [qD, qE] at d0 d1 e0 e1
   go_wp2
   have hZ := (hN.set (X := w.heap.size) (qG _) (fun b o e => by have := hN.lb b o e; have := lbn b o e; omega) (fun b o e => by simp only [qA, qB] at e; omega) hRl ha 0 (.slice ba bn bc)).set (X := w.heap.size) (qG _) (fun b o e => by have := lbn b o e; omega) (fun b o e => by simp only [qA, qB] at e; omega) hRl ha 1 (.slice (some ⟨g, 0, none⟩) k c);refine bodyPost_ret (v := treV ba bn bc (some ⟨g, 0, none⟩) k c) (by simp [results, Tryz.results41, go_sem, e0, e1]) rfl ⟨ba, bn, bc, (some ⟨g, 0, none⟩), k, c, _, _, _, rfl, hZ⟩
  go_simp;refine (pick_any R a n cap bs _ 2 sd.r).mono ?_;rintro e w8 ⟨ri2, r0, r1, rfl, t5, R5⟩;obtain ⟨i2, rfl⟩ := Int.eq_ofNat_of_zero_le r0;have hi2 : i2 < 2 := by omega
  have hi2' : (i2 : Int) < 2 := by omega
  clear r0 r1;have sa := sd.pick t5 R5;clear t5 R5 sd;dsimp only;refine kk0 hK (sa.cb.cell 1) ?_;clear hK;refine wpAnyE_one (i := 2) (by kernel_rfl) rfl (fun Kn hK => ?_);go_simp;have al := (Below.refl w8.heap.size w8).alloc (qG _) (.cells #[.int .i64 (-1), .int .i64 51] 3);have lb := Cel.new w8 [.int .i64 (-1), .int .i64 51] 3;have nl : w8.heap.size ≠ R := by have h1 := sa.lR; have h2 := sa.t.size; omega
  have sb := sa.below al;clear al;refine kk0 hK (sb.cb.cell 1) ?_;clear hK;clear sa;have hSS : (fun X : World => X.cell? ⟨TB, 1, none⟩ = some (.slice (some ⟨g, 0, none⟩) k c)) (w8.alloc (.cells #[.int .i64 (-1), .int .i64 51] 3)) /\ True := ⟨sb.cb.cell 1, trivial⟩
  refine tkl 5 rfl hSS ?_;have hc := lit_cell (xs := [-1, 51]) lb hi2;have hy := litT_2 i2 hi2;generalize ([-1, 51] : List Int)[i2]?.getD 0 = y at hc hy;refine wpAnyE_one (i := 6) (by kernel_rfl) rfl (fun Kn hK => ?_);go_simp;refine kk0 hK (sb.cb.cell 1) ?_;clear hK;clear hc lb;refine tkl 7 rfl hSS ?_;clear hSS;obtain ⟨g2, c2, e2, hg2, hI2, hf2, hl2⟩ := sb.ints (by rw [HG.out]; omega);simp only [Value.slice.injEq, qA, qB, and_true] at e2;obtain ⟨rfl, hkk, rfl⟩ := e2;clear hkk;rw [HG.out] at hI2;have kc : ((w8.alloc (.cells #[.int .i64 (-1), .int .i64 51] 3))).cell? ⟨g, 0, none⟩ = some (.int .i64 (G[0]?.getD 0)) := (hI2.pos (by omega)).2.1 0 (by omega);have kf := hf2 0;have lTB := sb.lT;have nTB : g ≠ TB := by omega
  have cb9 := sb.cb.setOther (B' := g) (fun e => nTB e.symm) 0 (.int .i64 y);have IS9 := hI2.set (i := 0) (by omega) y;refine wpAnyE_one (i := 8) (by kernel_rfl) rfl (fun Kn hK => ?_);go_simp;refine kk0 hK (cb9.cell 1) ?_;clear hK;refine wod ?_ _;clear kc kf;have T9 : Touch (fun x => x = R \/ x = TB) wL (((w8.alloc (.cells #[.int .i64 (-1), .int .i64 51] 3))).setCell ⟨g, 0, none⟩ (.int .i64 y)) := sb.t.setNewF hg2 0 _;have r9 := sb.r.setNew (B := g) (by omega) (fun h0 b o e => by have := (sb.lb h0 b o e).1; omega) 0 (.int .i64 y);have gB9 := sb.gB.set 0 hy.1 hy.2;clear sb hI2 hf2;obtain ⟨W9, hW9⟩ : ∃ V, V = ((w8.alloc (.cells #[.int .i64 (-1), .int .i64 51] 3))).setCell ⟨g, 0, none⟩ (.int .i64 y) := ⟨_, rfl⟩
  rw [<- hW9] at cb9 IS9 T9 r9;rw [<- hW9];clear hW9;have rb9 := rbL.touch T9 (by omega);have tw9 : Touch (fun x => x = R) w W9 := ⟨T9.os.trans tw.os, T9.tape.trans tw.tape, T9.output.trans tw.output, Nat.le_trans tw.size T9.size, fun x hx hs => (T9.block x (Nat.lt_of_lt_of_le hx tw.size) (by omega)).trans (tw.block x hx hs)⟩
  have hN : TrN w W9 R a n cap bs p _ ba bn _ (some ⟨g, 0, none⟩) k _ := ⟨tw9, r9, hb.off T9 (fun b o e h => h.elim (fun h => (lb' b o e).2 h) (fun h => HBX b o e h)), IS9.ints, by omega, by omega, fun b o e => (lb' b o e).1, fun b o e => by simp only [qA, qB] at e; omega, gB9, by omega, by omega, ⟨_, IS9, fun h0 => ⟨by omega, fun b o e => by have := lbu b o e; omega⟩⟩⟩
  have d0 := cb9.cell 0;have d1 := cb9.cell 1;have e0 := rb9.cell 0;have e1 := rb9.cell 1;have f0 := rb9.free 0;have f1 := rb9.free 1;have ll := rb9.lt;simp only [qD, qE] at d0 d1 e0 e1
  go_wp2
  have hZ := (hN.set (X := w.heap.size) (qG _) (fun b o e => by have := hN.lb b o e; have := lbn b o e; omega) (fun b o e => by simp only [qA, qB] at e; omega) hRl ha 0 (.slice ba bn bc)).set (X := w.heap.size) (qG _) (fun b o e => by have := lbn b o e; omega) (fun b o e => by simp only [qA, qB] at e; omega) hRl ha 1 (.slice (some ⟨g, 0, none⟩) k c);refine bodyPost_ret (v := treV ba bn bc (some ⟨g, 0, none⟩) k c) (by simp [results, Tryz.results41, go_sem, e0, e1]) rfl ⟨ba, bn, bc, (some ⟨g, 0, none⟩), k, c, _, _, _, rfl, hZ⟩
def three (cs : List (List Value)) : Prop := ∀ c ∈ cs, c.length = 3
theorem Tryz.infoForm : (Tryz.prog.info? 86).map (fun i => (i.zero, i.size, i.bytes)) = some (some (.agg #[.slice none 0 0, .slice none 0 0, .int .i64 0]), 3, 56) := by kernel_rfl
def intoC (C : List Int) (fs : List FV) : Nat -> List Int
 | 0 => [0, 0, 0]
 | k + 1 => lin (intoC C fs k) (fs[k]?.getD noFV).C (C[k]?.getD 0)
def intoD (C D : List Int) (fs : List FV) : Nat -> List Int
 | 0 => D
 | k + 1 => lin (intoD C D fs k) (fs[k]?.getD noFV).D (C[k]?.getD 0)
def intoK (C : List Int) (K : Int) (fs : List FV) : Nat -> Int
 | 0 => K
 | k + 1 => intoK C K fs k + C[k]?.getD 0 * (fs[k]?.getD noFV).K
theorem lin_mul (xs ys : List Int) (n : Int) : List.zipWith (· + ·) xs (mulL n ys) = lin xs ys n := by
 simp [lin, mulL, List.zipWith_map_right]
def terms (C D : List Int) (K : Int) (fs : List FV) : List Frm := ([0, 0, 0], D, K) :: (List.range 3).map fun i => (mulL (C[i]?.getD 0) (fs[i]?.getD noFV).C, mulL (C[i]?.getD 0) (fs[i]?.getD noFV).D, C[i]?.getD 0 * (fs[i]?.getD noFV).K)
theorem zip0 (h : xs.length = 3) : List.zipWith (· + ·) [0, 0, 0] xs = xs := by
 match xs, h with
 | [x, y, z], _ => simp
theorem zip02 (h : xs.length = 2) : List.zipWith (· + ·) [0, 0] xs = xs := by
 match xs, h with
 | [x, y], _ => simp
theorem terms_sum {D : List Int} {fs : List FV} (hD : D.length = 2) :
  sumC (terms C D K fs) 4 = intoC C fs 3 /\ sumD (terms C D K fs) 4 = intoD C D fs 3 /\ sumK (terms C D K fs) 4 = intoK C K fs 3 := by
 have t0 : (terms C D K fs)[0]? = some ([0, 0, 0], D, K) := rfl;have t1 : (terms C D K fs)[1]? = some (mulL (C[0]?.getD 0) (fs[0]?.getD noFV).C, mulL (C[0]?.getD 0) (fs[0]?.getD noFV).D, C[0]?.getD 0 * (fs[0]?.getD noFV).K) := rfl;have t2 : (terms C D K fs)[2]? = some (mulL (C[1]?.getD 0) (fs[1]?.getD noFV).C, mulL (C[1]?.getD 0) (fs[1]?.getD noFV).D, C[1]?.getD 0 * (fs[1]?.getD noFV).K) := rfl;have t3 : (terms C D K fs)[3]? = some (mulL (C[2]?.getD 0) (fs[2]?.getD noFV).C, mulL (C[2]?.getD 0) (fs[2]?.getD noFV).D, C[2]?.getD 0 * (fs[2]?.getD noFV).K) := rfl;refine ⟨?_, ?_, ?_⟩
 ·simp only [sumC, t0, t1, t2, t3, Option.getD_some, intoC];rw [zip0 (xs := [0, 0, 0]) rfl, lin_mul, lin_mul, lin_mul]
 ·simp only [sumD, t0, t1, t2, t3, Option.getD_some, intoD];rw [zip02 hD, lin_mul, lin_mul, lin_mul]
 simp only [sumK, t0, t1, t2, t3, Option.getD_some, intoK]
 omega
theorem without_any {a : Option Addr} {n cap : Nat} {c : Option Addr} {m cap' : Nat} :
  Calls Tryz.prog 164 #[formV a n cap c m cap' K] w fun e w' => ∃ P, e = .returned (formV (some ⟨P, 0, none⟩) 3 3 c m cap' K) /\ Below w.heap.size w w' /\ w.heap.size <= P /\ Blk w' P [0, 0, 0] := by
 have hm3 := make3
 go_enter Tryz.func164, Tryz.ntmps164
 go_wp2_with fail
 go_region
 go_wp2
 exact bodyPost_ret (v := formV (some ⟨w.heap.size + 1 + 1, 0, none⟩) 3 3 c m cap' K) (by simp [results, Tryz.results164, go_sem]) rfl ⟨_, rfl, (((bal).alloc (by simp) _).alloc (by simp; omega) _).drew, by omega, three2 w⟩
theorem lin_bnd {M P n : Int} {ys : List Int} {k : Nat} (h1 : xs.length = k) (h2 : ys.length = k) (hx : bnd M xs) (hy : bndT P n ys) (h0 : 0 <= M + P) : bnd (M + P) (lin xs ys n) := by
 intro i
 by_cases hi : i < k
 ·rw [lin_get h1 h2 hi];have := hx i;have := hy i
  omega
 have : (lin xs ys n)[i]? = none := List.getElem?_eq_none (by rw [lin_len h1 h2]; omega);rw [this];simp only [Option.getD_none]
 omega
theorem mul_bnd {x : Int} (a1 : -10000000 <= x) (a2 : x <= 10000000) (h1 : -10000000 <= y) (h2 : y <= 10000000) : -100000000000000 <= x * y /\ x * y <= 100000000000000 := by
 have hx' : x.natAbs <= 10000000 := by omega
 have hy' : y.natAbs <= 10000000 := by omega
 have hm : (x * y).natAbs <= 10000000 * 10000000 := by rw [Int.natAbs_mul]; exact Nat.mul_le_mul hx' hy'
 omega
theorem mulT_bnd {k : Int} (h : bnd 10000000 C) (h1 : -10000000 <= k) (h2 : k <= 10000000) : bndT 100000000000000 k C := by
 intro i;have := h i
 exact mul_bnd h1 h2 this.1 this.2
structure OkF (g : FV) : Prop where
 n : g.n = 3
 m : g.m = 2
 lC : g.C.length = 3
 lD : g.D.length = 2
 bC : bnd 10000000 g.C
 bD : bnd 10000000 g.D
 k1 : -10000000 <= g.K
 k2 : g.K <= 10000000
theorem OkF.of {g : FV} (h : g.At w) (ok : g.ok = true) : OkF g := by
 obtain ⟨n3, m2, bC, bD, bK1, bK2⟩ := formB_elim ok
 exact ⟨n3, m2, by have := h.C.1; omega, by have := h.D.1; omega, bC, bD, bK1, bK2⟩
structure IntoF (C D : List Int) (K : Int) (fs : List FV) (k : Nat) : Prop where
 lC : (intoC C fs k).length = 3
 lD : (intoD C D fs k).length = 2
 bC : bnd (k * 100000000000000) (intoC C fs k)
 bD : bnd (10000000 + k * 100000000000000) (intoD C D fs k)
 k1 : -(10000000 + k * 100000000000000) <= intoK C K fs k
 k2 : intoK C K fs k <= 10000000 + k * 100000000000000
theorem IntoF.of {D : List Int} {fs : List FV} (hD : D.length = 2) (bC : bnd 10000000 C) (bD : bnd 10000000 D) (k1 : -10000000 <= K) (k2 : K <= 10000000) (ho : ∀ i, i < 3 -> OkF (fs[i]?.getD noFV)) : ∀ k : Nat, k <= 3 -> IntoF C D K fs k
 | 0, _ => ⟨rfl, hD, by simpa [intoC] using bnd_zeros 3, by simpa [intoD] using bD, by simpa [intoK] using k1, by simpa [intoK] using k2⟩
 | k + 1, hk => by
  have ih := IntoF.of hD bC bD k1 k2 ho k (by omega);have g := ho k (by omega);have bc := bC k;have e : ((k + 1 : Nat) : Int) = k + 1 := by omega
  have tC := mulT_bnd g.bC bc.1 bc.2;have tD := mulT_bnd g.bD bc.1 bc.2;have tK := mul_bnd bc.1 bc.2 g.k1 g.k2;have i1 := ih.k1;have i2 := ih.k2;refine ⟨lin_len ih.lC g.lC, lin_len ih.lD g.lD, ?_, ?_, ?_, ?_⟩
  ·have := lin_bnd ih.lC g.lC ih.bC tC (by omega);intro i;have := this i;simp only [intoC]
   omega
  ·have := lin_bnd ih.lD g.lD ih.bD tD (by omega);intro i;have := this i;simp only [intoD]
   omega
  ·simp only [intoK]; omega
  simp only [intoK]; omega
def intoOk (n m : Nat) (C D : List Int) (K : Int) (N : Nat) (fs : List FV) : Bool := formB n m C D K && decide (N = 3) && fs.all FV.ok && formB 3 2 (intoC C fs 3) (intoD C D fs 3) (intoK C K fs 3)
structure IH (w : World) (a : Option Addr) (n cap : Nat) (c : Option Addr) (m cap' : Nat) (K : Int) (w' : World) : Prop where
 p : Cel w' w.heap.size [.slice a n cap, .slice c m cap', .int .i64 K] 86
 r : Cel w' (w.heap.size + 1) [.slice none 0 0, .slice none 0 0, .int .i64 0] 86
 b : Below w.heap.size w w'
section
variable {w W w3 : World} {a c : Option Addr} {n cap m cap' : Nat} {K : Int}
theorem IH.below (h : IH w a n cap c m cap' K W) (b : Below W.heap.size W w3) : IH w a n cap c m cap' K w3 := ⟨h.p.below b, h.r.below b, h.b.trans (b.mono h.b.size)⟩
theorem IH.drew (h : IH w a n cap c m cap' K W) : IH w a n cap c m cap' K W.drew := ⟨h.p, h.r, h.b.drew⟩
theorem IH.alloc (h : IH w a n cap c m cap' K W) (o : Obj) : IH w a n cap c m cap' K (W.alloc o) := h.below (bal)
theorem IH.set (h : IH w a n cap c m cap' K W) {X : Nat} (hX : w.heap.size + 1 < X) (i : Nat) (v : Value) : IH w a n cap c m cap' K (W.setCell ⟨X, i, none⟩ v) :=
 ⟨h.p.setOther (by omega) i v, h.r.setOther (by omega) i v, h.b.setCell (by show w.heap.size <= X; omega) v⟩
theorem IH.new : IH w a n cap c m cap' K ((w.alloc (Obj.cells #[Value.slice a n cap, Value.slice c m cap', Value.int IntKind.i64 K] 86)).alloc (Obj.cells #[Value.slice none 0 0, Value.slice none 0 0, Value.int IntKind.i64 0] 86)) :=
 ⟨(Cel.new w _ _).alloc _, by have := Cel.new (w.alloc (Obj.cells #[Value.slice a n cap, Value.slice c m cap', Value.int IntKind.i64 K] 86)) [.slice none 0 0, .slice none 0 0, .int .i64 0] 86; rw [qC] at this; exact this, (bal).alloc (by simp) _⟩
theorem IH.cells (h : IH w a n cap c m cap' K W) :
  W.cell? ⟨w.heap.size, 0, none⟩ = some (.slice a n cap) /\ W.cell? ⟨w.heap.size, 1, none⟩ = some (.slice c m cap') /\ W.cell? ⟨w.heap.size, 2, none⟩ = some (.int .i64 K) := ⟨h.p.cell 0, h.p.cell 1, h.p.cell 2⟩
theorem IH.room (h : IH w a n cap c m cap' K W) :
  W.cell? ⟨w.heap.size + 1, 0, none⟩ = some (.slice none 0 0) /\ W.cell? ⟨w.heap.size + 1, 1, none⟩ = some (.slice none 0 0) /\ W.cell? ⟨w.heap.size + 1, 2, none⟩ = some (.int .i64 0) /\ W.frozen? ⟨w.heap.size + 1, 0, none⟩ = false /\ W.frozen? ⟨w.heap.size + 1, 1, none⟩ = false /\ W.frozen? ⟨w.heap.size + 1, 2, none⟩ = false := ⟨h.r.cell 0, h.r.cell 1, h.r.cell 2, h.r.free 0, h.r.free 1, h.r.free 2⟩
theorem IH.none (h : IH w a n cap c m cap' K W) : Res w (((W.setCell ⟨w.heap.size + 1, 0, Option.none⟩ (.slice Option.none 0 0)).setCell ⟨w.heap.size + 1, 1, Option.none⟩ (.slice Option.none 0 0)).setCell ⟨w.heap.size + 1, 2, Option.none⟩ (.int .i64 0)) (.returned (formV Option.none 0 0 Option.none 0 0 0)) [] [] 0 :=
 Res.none rfl (((h.b.setCell (by simp only []; omega) _).setCell (by simp only []; omega) _).setCell (by simp only []; omega) _)
end
theorem sinto_no (a : Option Addr) (n cap : Nat) (c : Option Addr) (m cap' : Nat) (K : Int) (C D : List Int) (ad : Option Addr) (N capN : Nat) (fs : List FV) (w : World) (hC : Ints w a n C) (hD : Ints w c m D) (hn : n <= 1048576) (hm : m <= 1048576)
  (hN : fs.length = N) (hF : FormsG w ad fs) (hN1 : N <= 1048576) (hno : (formB n m C D K && decide (N = 3) && fs.all FV.ok) = false) :
  Calls Tryz.prog 147 #[formV a n cap c m cap' K, .slice ad N capN] w fun e w' => Res w w' e [] [] 0 := by
 have n0 := IH.new (w := w) (a := a) (n := n) (cap := cap) (c := c) (m := m) (cap' := cap') (K := K);have HN : Hid (fs.length = N) := hN;clear hN
 cases h1 : formB n m C D K
 ·clear hno
  go_enter Tryz.func147, Tryz.ntmps147
  go_wp2_with fail
  refine (sok_any C D (hC.below n0.b) (hD.below n0.b) hn hm).mono ?_;rintro e w1 ⟨rfl, b1⟩;have H := n0.below b1;obtain ⟨r0, r1, r2, r3, r4, r5⟩ := H.room
  go_wp2
  exact bodyPost_ret (v := formV none 0 0 none 0 0 0) (by simp [results, Tryz.results147, go_sem, r0, r1, r2]) rfl H.none
 by_cases h2 : (N : Int) = 3
 ·obtain rfl : N = 3 := by omega
  have hno' : fs.all FV.ok = false := by simpa [h1] using hno
  clear hno h2;have f0 := hF 0 (by rw [HN.out]; omega);have f1 := hF 1 (by rw [HN.out]; omega);have f2 := hF 2 (by rw [HN.out]; omega);obtain ⟨b, off, rfl, p0, p1, p2, A0⟩ := f0;obtain ⟨b', off', hb', q0, q1, q2, A1⟩ := f1;simp only [qA, qB, and_true] at hb';obtain ⟨rfl, rfl⟩ := hb';obtain ⟨b', off', hb', r0, r1, r2, A2⟩ := f2;simp only [qA, qB, and_true] at hb';obtain ⟨rfl, rfl⟩ := hb'
  have hor : (fs[0]?.getD noFV).ok = false \/ (fs[1]?.getD noFV).ok = false \/ (fs[2]?.getD noFV).ok = false := by
   match fs, HN.out with
   | [x, y, z], _ =>
    simp only [List.all_cons, List.all_nil, Bool.and_true] at hno';simp only [qD, qE, Option.getD_some]
    revert hno'
    cases x.ok <;> cases y.ok <;> cases z.ok <;> simp
  generalize fs[0]?.getD noFV = x at *;generalize fs[1]?.getD noFV = y at *;generalize fs[2]?.getD noFV = z at *;obtain ⟨xa, xn, xcap, xc, xm, xcap', xK, xC, xD⟩ := x;obtain ⟨ya, yn, ycap, yc, ym, ycap', yK, yC, yD⟩ := y;obtain ⟨za, zn, zcap, zc, zm, zcap', zK, zC, zD⟩ := z;obtain ⟨x1, x2, x3, x4⟩ := A0;obtain ⟨y1, y2, y3, y4⟩ := A1;obtain ⟨z1, z2, z3, z4⟩ := A2;simp only [FV.ok] at p0 p1 p2 q0 q1 q2 r0 r1 r2 hor x1 x2 x3 x4 y1 y2 y3 y4 z1 z2 z3 z4;have lb := block_lt p0;have nb := n0.b;clear hF hno';rw [Nat.zero_mul, Nat.add_zero] at p0 p1 p2;rw [Nat.one_mul] at q0 q1 q2;have e6 : off + 2 * 3 = off + 6 := rfl;rw [e6] at r0 r1 r2
  cases hx : formB xn xm xC xD xK
  ·go_enter Tryz.func147, Tryz.ntmps147
   go_wp2_with fail
   refine (sok_any C D (hC.below n0.b) (hD.below n0.b) hn hm).mono ?_;rintro e w1 ⟨rfl, b1⟩;have H1 := n0.below b1;have s0 := (H1.b.cell (p := ⟨b, off, none⟩) lb).trans p0;have s1 := (H1.b.cell (p := ⟨b, off + 1, none⟩) lb).trans p1;have s2 := (H1.b.cell (p := ⟨b, off + 2, none⟩) lb).trans p2
   go_wp2_with fail
   refine (sok_any xC xD (x1.below H1.b) (x2.below H1.b) x3 x4).mono ?_;rintro e w2 ⟨rfl, b2⟩;have H2 := H1.below b2;obtain ⟨g0, g1, g2, g3, g4, g5⟩ := H2.room
   go_wp2
   exact bodyPost_ret (v := formV none 0 0 none 0 0 0) (by simp [results, Tryz.results147, go_sem, g0, g1, g2]) rfl H2.none
  cases hy : formB yn ym yC yD yK
  ·go_enter Tryz.func147, Tryz.ntmps147
   go_wp2_with fail
   refine (sok_any C D (hC.below n0.b) (hD.below n0.b) hn hm).mono ?_;rintro e w1 ⟨rfl, b1⟩;have H1 := n0.below b1;have s0 := (H1.b.cell (p := ⟨b, off, none⟩) lb).trans p0;have s1 := (H1.b.cell (p := ⟨b, off + 1, none⟩) lb).trans p1;have s2 := (H1.b.cell (p := ⟨b, off + 2, none⟩) lb).trans p2
   go_wp2_with fail
   refine (sok_any xC xD (x1.below H1.b) (x2.below H1.b) x3 x4).mono ?_;rintro e w2 ⟨rfl, b2⟩;have H2 := H1.below b2;have t0 := (H2.b.cell (p := ⟨b, off + 3, none⟩) lb).trans q0;have t1 := (H2.b.cell (p := ⟨b, off + 3 + 1, none⟩) lb).trans q1;have t2 := (H2.b.cell (p := ⟨b, off + 3 + 2, none⟩) lb).trans q2
   go_wp2_with fail
   refine (sok_any yC yD (y1.below H2.b) (y2.below H2.b) y3 y4).mono ?_;rintro e w3 ⟨rfl, b3⟩;have H3 := H2.below b3;obtain ⟨g0, g1, g2, g3, g4, g5⟩ := H3.room
   go_wp2
   exact bodyPost_ret (v := formV none 0 0 none 0 0 0) (by simp [results, Tryz.results147, go_sem, g0, g1, g2]) rfl H3.none
  have hz : formB zn zm zC zD zK = false := by simpa [hx, hy] using hor
  go_enter Tryz.func147, Tryz.ntmps147
  go_wp2_with fail
  refine (sok_any C D (hC.below n0.b) (hD.below n0.b) hn hm).mono ?_;rintro e w1 ⟨rfl, b1⟩;have H1 := n0.below b1;have s0 := (H1.b.cell (p := ⟨b, off, none⟩) lb).trans p0;have s1 := (H1.b.cell (p := ⟨b, off + 1, none⟩) lb).trans p1;have s2 := (H1.b.cell (p := ⟨b, off + 2, none⟩) lb).trans p2
  go_wp2_with fail
  refine (sok_any xC xD (x1.below H1.b) (x2.below H1.b) x3 x4).mono ?_;rintro e w2 ⟨rfl, b2⟩;have H2 := H1.below b2;have t0 := (H2.b.cell (p := ⟨b, off + 3, none⟩) lb).trans q0;have t1 := (H2.b.cell (p := ⟨b, off + 3 + 1, none⟩) lb).trans q1;have t2 := (H2.b.cell (p := ⟨b, off + 3 + 2, none⟩) lb).trans q2
  go_wp2_with fail
  refine (sok_any yC yD (y1.below H2.b) (y2.below H2.b) y3 y4).mono ?_;rintro e w3 ⟨rfl, b3⟩;have H3 := H2.below b3;have u0 := (H3.b.cell (p := ⟨b, off + 6, none⟩) lb).trans r0;have u1 := (H3.b.cell (p := ⟨b, off + 6 + 1, none⟩) lb).trans r1;have u2 := (H3.b.cell (p := ⟨b, off + 6 + 2, none⟩) lb).trans r2
  go_wp2_with fail
  refine (sok_any zC zD (z1.below H3.b) (z2.below H3.b) z3 z4).mono ?_;rintro e w4 ⟨rfl, b4⟩;have H4 := H3.below b4;obtain ⟨g0, g1, g2, g3, g4, g5⟩ := H4.room
  go_wp2
  exact bodyPost_ret (v := formV none 0 0 none 0 0 0) (by simp [results, Tryz.results147, go_sem, g0, g1, g2]) rfl H4.none
 clear hno;have h2' : ((N : Int) != 3) = true := by simpa using h2
 go_enter Tryz.func147, Tryz.ntmps147
 go_wp2_with fail
 refine (sok_any C D (hC.below n0.b) (hD.below n0.b) hn hm).mono ?_;rintro e w1 ⟨rfl, b1⟩;have H := n0.below b1;obtain ⟨r0, r1, r2, r3, r4, r5⟩ := H.room
 go_wp2
 exact bodyPost_ret (v := formV none 0 0 none 0 0 0) (by simp [results, Tryz.results147, go_sem, r0, r1, r2]) rfl H.none
end Go.Proofs.YtemcinobgdphnaaGreat
