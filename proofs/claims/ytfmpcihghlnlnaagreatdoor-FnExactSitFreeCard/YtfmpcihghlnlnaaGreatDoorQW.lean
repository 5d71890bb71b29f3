/-
  Lemmas that the claim's last text rests on.
-/
import Derived.Test.YtfmpcihghlnlnaaGreatDoorQV
namespace Go.Proofs.YtfmpcihghlnlnaaGreatDoor
open Go.RowKit Go.Deep Go.Shelf
open List renaming getElem?_eq_getElem → qA, length_append → qB, length_cons → qC, length_nil → qD
open Nat renaming le_refl → qE, zero_le → qF
set_option linter.unusedVariables false
set_option maxRecDepth 100000
set_option maxHeartbeats 25600000
variable {B G N cap l n : Nat} {X Y w : World} {ad : Option Addr} {ls : List LV} {t : TypeId} {vs : List Value}
def Stp (W : World) (SG N : Nat) (ls : List LV) : Prop := ∃ cur, Cel W SG cur 205 /\ ∀ j, j < N -> cur[j]? = some (stepV (ls[j]?.getD noLV))
def LinesIn (W : World) (ls : List LV) : Prop := ∀ j, j < ls.length -> (ls[j]?.getD noLV).f.At W
theorem FV.At.keepR {g : FV} (h : g.At X) (k : KpR X Y) : g.At Y := ⟨h.C.keepR k, h.D.keepR k, h.hn, h.hm⟩
theorem Stp.keepR {SG : Nat} (h : Stp X SG N ls) (k : KpR X Y) : Stp Y SG N ls := by
 obtain ⟨cur, hc, hv⟩ := h
 exact ⟨cur, hc.keepR k (by decide) (by decide), hv⟩
theorem LinesIn.keepR (h : LinesIn X ls) (k : KpR X Y) : LinesIn Y ls := fun j hj => (h j hj).keepR k
theorem from_any (l n₀ : Nat) (J D : List RowM -> World -> Prop) (hJ : ∀ pre X Y, J pre X -> Below X.heap.size X Y -> J pre Y) (M : Nat) (hY : RoundsD l n₀ J D M) (SG N sc : Nat) (ls : List LV) (hN : ls.length = N) (h6 : N <= 6) (hall : ls.all LV.ok = true) (f : Nat) :
  ∀ (i0 : Nat) (y : Way) (pa : Option Addr) (cp : Nat) (ga : Option Addr) (ng gc : Nat) (ta : Option Addr) (nt tc : Nat) (pre : List RowM) (W : World) (n : Nat), f <= 7 -> N <= i0 + f -> i0 <= 12 -> WayOk i0 y -> y.guards.length = ng -> y.tells.length = nt -> Stp W SG N ls -> LinesIn W ls -> FormsAt W pa y.pots -> FormsAt W ga y.guards -> FormsAt W ta y.tells -> n₀ <= W.heap.size -> J pre W -> pre.length + (goW ls f i0 y).length <= M ->
  CallsIn Fence.wide n Tryz.prog 142 #[walkV l (some ⟨SG, 0, none⟩) N sc, .int .i64 (i0 : Int), wayV ga ng gc pa cp ta nt tc false] W fun e Y => ∃ b : Bool, e = .returned (.bool b) /\ Went J D pre (goW ls f i0 y) b Y /\ KpR W Y := by
 have atEnd : ∀ (f i0 : Nat) (y : Way) (pa : Option Addr) (cp : Nat) (ga : Option Addr) (ng gc : Nat) (ta : Option Addr) (nt tc : Nat) (pre : List RowM) (W : World) (n : Nat), N <= i0 -> i0 <= 12 -> WayOk i0 y -> y.guards.length = ng -> y.tells.length = nt -> FormsAt W pa y.pots -> FormsAt W ga y.guards -> FormsAt W ta y.tells -> n₀ <= W.heap.size -> J pre W -> pre.length + (goW ls f i0 y).length <= M ->
   CallsIn Fence.wide n Tryz.prog 142 #[walkV l (some ⟨SG, 0, none⟩) N sc, .int .i64 (i0 : Int), wayV ga ng gc pa cp ta nt tc false] W fun e Y => ∃ b : Bool, e = .returned (.bool b) /\ Went J D pre (goW ls f i0 y) b Y /\ KpR W Y := by
  intro f i0 y pa cp ga ng gc ta nt tc pre W n hi hi1 hy hg ht hP hG hT hn0 h0;rw [goW_end (by omega)];intro hM;have hM' : pre.length < M := by simp only [qC, qD] at hM; omega
  have g1 := hy.gl;have g2 := hy.tl
  exact from_end l n₀ J D hJ M hY _ N sc i0 hi hi1 y pa cp ga ng gc ta nt tc false (endW y) pre W n hn0 h0 (endW_fit hy) hM' (fun X hb => irow_end y ga ng gc pa cp ta nt tc X hy.pl hg ht (hP.keep hb) (hG.keep hb) (hT.keep hb) (fun k hk => (hy.pf k hk).mono (by have := wb_six (n := min i0 6) (by omega); omega)) (fun k hk => hy.gf k (by omega)) (fun k hk => hy.tf k (by omega)))
 induction f with
 | zero => intro i0 y pa cp ga ng gc ta nt tc pre W n _ hfu hi1 hy hg ht _ _ hP hG hT hn0 h0 hM; exact atEnd 0 i0 y pa cp ga ng gc ta nt tc pre W n (by omega) hi1 hy hg ht hP hG hT hn0 h0 hM
 | succ f ih =>
  intro i0 y pa cp ga ng gc ta nt tc pre W n hf7 hfu hi1 hy hg ht hS hLI hP hG hT hn0 h0 hM
  by_cases hlt : i0 < N
  ·have hl : i0 < ls.length := by omega
   have hok : (ls[i0]?.getD noLV).ok = true := by
    rw [qA hl]
    exact List.all_eq_true.1 hall _ (List.getElem_mem hl)
   obtain ⟨cur, hC, hv⟩ := hS;have hv0 := hv i0 hlt;have hA := hLI i0 hl;have hS' : Stp W SG N ls := ⟨cur, hC, hv⟩
   rw [goW, if_pos hl] at hM ⊢;generalize ls[i0]?.getD noLV = q at *;have e1 : ((i0 + 1 : Nat) : Int) = (i0 : Int) + 1 := by omega
   by_cases hk4 : q.kind = 4
   ·rw [if_neg (by omega), if_neg (by omega), if_neg (by omega)] at hM ⊢;have hM' : pre.length < M := by simp only [qC, qD] at hM; omega
    have hst : stepV q = .iface 222 (.agg #[]) := by simp [stepV, hk4]
    rw [hst] at hv0;have g1 := hy.gl;refine from_step l SG N sc i0 hlt hi1 ga ng gc pa cp ta nt tc cur W n hC hv0 (fun X m hb => past_stop l N sc ga ng gc pa cp ta nt tc X m (fun X2 hb2 m2 => ?_));have hb' := btr hb hb2
    exact from_end l n₀ J D hJ M hY _ N sc 6 h6 (by omega) y pa cp ga ng gc ta nt tc true (stopW y) pre X2 m2 (by have := hb'.size; omega) (hJ _ _ _ h0 hb') (stopW_fit hy) hM' (fun X3 hb3 => irow_stop y ga ng gc pa cp ta nt tc X3 hg (hG.keep (btr hb' hb3)) (fun k hk => hy.gf k (by omega)) (by omega))
   obtain ⟨hsm, hkk, hz, hp⟩ := lineW (show lineB q.kind q.pot q.skip q.f.n q.f.m q.f.C q.f.D q.f.K = true from hok) hk4;obtain ⟨f1, f2, f3⟩ := hy.into (by omega) (f := q.f) hsm hA.D.1
   rcases hkk with e | e | e
   ·rw [if_pos e] at hM ⊢;rw [qB] at hM;obtain ⟨z1, z2⟩ := hz e;have hst : stepV q = .iface 216 (.agg #[.int .i64 q.skip, .slice q.f.a q.f.n q.f.cap, .slice q.f.c q.f.m q.f.cap', .int .i64 q.f.K]) := by simp [stepV, e]
    rw [hst] at hv0;have e2 : ((i0 + 1 + q.skip.toNat : Nat) : Int) = (i0 : Int) + 1 + q.skip := by omega
    refine from_step l SG N sc i0 hlt hi1 ga ng gc pa cp ta nt tc cur W n hC hv0 (fun X m hb => ?_);have kX : KpR W X := KpR.of hb;refine past_test l N sc q.skip ⟨by omega, by omega⟩ ⟨by omega, by omega⟩ i0 y hy (by omega) q.f hsm ga ng gc pa cp ta nt tc (Went J D pre (goW ls f (i0 + 1) (y.guard (intoX q.f y.pots)))) (fun A B a b => Or.inl ⟨rfl, hJ _ _ _ a.on b⟩) (fun Y h => h.fst) X m (hA.keepR kX) (hP.keepR kX) (hG.keepR kX) hg (fun X2 ga' gc' hb2 F m2 => ?_) (fun X2 ga' gc' k2 j2 F m2 => ?_)
    ·have k2 : KpR W X2 := kX.trans (KpR.of hb2);have := ih (i0 + 1) (y.guard (intoX q.f y.pots)) pa cp ga' (ng + 1) gc' ta nt tc pre X2 m2 (by omega) (by omega) (by omega) (hy.guard (by omega) f2) (by show (y.guards ++ [_]).length = ng + 1; rw [qB, hg]; rfl) ht (hS'.keepR k2) (hLI.keepR k2) (hP.keepR k2) F (hT.keepR k2) (Nat.le_trans hn0 k2.size) (hJ _ _ _ (hJ _ _ _ h0 hb) hb2) (by omega);rw [e1] at this
     exact this
    have k3 : KpR W X2 := kX.trans k2;have := ih (i0 + 1 + q.skip.toNat) (y.guard (minusX (intoX q.f y.pots))) pa cp ga' (ng + 1) gc' ta nt tc _ X2 m2 (by omega) (by omega) (by omega) (hy.guard (by omega) f3) (by show (y.guards ++ [_]).length = ng + 1; rw [qB, hg]; rfl) ht (hS'.keepR k3) (hLI.keepR k3) (hP.keepR k3) F (hT.keepR k3) (Nat.le_trans hn0 k3.size) j2.on (by rw [qB]; omega);rw [e2] at this
    exact this.mono (fun e Y ⟨b, h1, h2, h3⟩ => ⟨b, h1, h2.snd, h3⟩)
   ·rw [if_neg (by omega), if_pos e] at hM ⊢;obtain ⟨z1, z2⟩ := hp e;obtain ⟨p, hpq⟩ : ∃ p : Nat, q.pot = p := ⟨q.pot.toNat, by omega⟩
    have hpn : q.pot.toNat = p := by omega
    have hst : stepV q = .iface 218 (.agg #[.int .i64 (p : Int), .slice q.f.a q.f.n q.f.cap, .slice q.f.c q.f.m q.f.cap', .int .i64 q.f.K]) := by simp [stepV, e, hpq]
    rw [hst] at hv0;rw [hpn] at hM ⊢;refine from_step l SG N sc i0 hlt hi1 ga ng gc pa cp ta nt tc cur W n hC hv0 (fun X m hb => ?_);have kX : KpR W X := KpR.of hb;refine past_add l N sc i0 y hy (by omega) q.f hsm ga ng gc pa cp ta nt tc X m (hA.keepR kX) (hP.keepR kX) (hT.keepR kX) ht p (by omega) (fun X2 pa' cp' hb2 F m2 => ?_);have k2 : KpR W X2 := kX.trans (KpR.of hb2);have := ih (i0 + 1) (y.add p (intoX q.f y.pots)) pa' cp' ga ng gc ta nt tc pre X2 m2 (by omega) (by omega) (by omega) (hy.add (by omega) (by omega) f1) hg ht (hS'.keepR k2) (hLI.keepR k2) F (hG.keepR k2) (hT.keepR k2) (Nat.le_trans hn0 k2.size) (hJ _ _ _ (hJ _ _ _ h0 hb) hb2) hM;rw [e1] at this
    exact this
   rw [if_neg (by omega), if_neg (by omega), if_pos e] at hM ⊢;have hst : stepV q = .iface 220 (.agg #[.slice q.f.a q.f.n q.f.cap, .slice q.f.c q.f.m q.f.cap', .int .i64 q.f.K]) := by simp [stepV, e]
   rw [hst] at hv0;refine from_step l SG N sc i0 hlt hi1 ga ng gc pa cp ta nt tc cur W n hC hv0 (fun X m hb => ?_);have kX : KpR W X := KpR.of hb;refine past_print l N sc i0 y hy (by omega) q.f hsm ga ng gc pa cp ta nt tc X m (hA.keepR kX) (hP.keepR kX) (hT.keepR kX) ht (fun X2 ta' tc' hb2 F m2 => ?_);have k2 : KpR W X2 := kX.trans (KpR.of hb2);have := ih (i0 + 1) (y.tell (intoX q.f y.pots)) pa cp ga ng gc ta' (nt + 1) tc' pre X2 m2 (by omega) (by omega) (by omega) (hy.tell (by omega) f2) hg (by show (y.tells ++ [_]).length = nt + 1; rw [qB, ht]; rfl) (hS'.keepR k2) (hLI.keepR k2) (hP.keepR k2) (hG.keepR k2) F (Nat.le_trans hn0 k2.size) (hJ _ _ _ (hJ _ _ _ h0 hb) hb2) hM;rw [e1] at this
   exact this
  exact atEnd (f + 1) i0 y pa cp ga ng gc ta nt tc pre W n (by omega) hi1 hy hg ht hP hG hT hn0 h0 hM
attribute [local go_sem] Oper.semAt_some
theorem LinesG.lin {W : World} (h : LinesG W ad ls) : LinesIn W ls := fun j hj => by
 obtain ⟨b, off, _, _, ha⟩ := h j hj
 exact ha
theorem JS.stp {W : World} {v : Value} (j : JS w v (ls.map stepV) W) : ∃ sa sc, v = .slice sa ls.length sc /\ (ls.length = 0 \/ ∃ SG, sa = some ⟨SG, 0, none⟩ /\ Stp W SG ls.length ls) := by
 rcases j.o.2 with ⟨e, h0⟩ | ⟨g, cap, cur, hv, hg, hh, hl, hc, hs, ht⟩
 ·rw [List.length_map] at h0
  exact ⟨none, 0, by rw [h0]; exact e, Or.inl h0⟩
 rw [List.length_map] at hv ht;refine ⟨_, cap, hv, Or.inr ⟨g, rfl, cur.toList, hh, fun i hi => ?_⟩⟩;rw [Nat.mul_one] at ht;have : (cur.toList.take ls.length)[i]? = cur.toList[i]? := List.getElem?_take_of_lt hi;rw [<- this, ht, List.getElem?_map, qA hi]
 rfl
theorem rs_func {P : Program} {a : Addr} {m : Mode} (fn : Fn) (first captured : Array Value) : (store a (.func fn first captured) m).run P w = stored P w a (.func fn first captured) m := run_store P w a _ m rfl
attribute [local go_sem] rs_func
theorem through_left (l n₀ : Nat) (J D : List RowM -> World -> Prop) (hJ : ∀ pre X Y, J pre X -> Below X.heap.size X Y -> J pre Y) (hY : RoundsD l n₀ J D 128) (aB : Nat) (ad : Option Addr) (N cap : Nat) (ls : List LV) (W : World) (n : Nat) (hN : ls.length = N) (hF : LinesG W ad ls) (hN1 : N <= 1048576) (hok : actB N ls = true) (hc : W.cell? ⟨aB, 0, none⟩ = some (.slice ad N cap)) (hn0 : n₀ <= W.heap.size) (h0 : J [] W) :
  CallsIn Fence.wide n Tryz.prog 141 #[.func (.yield l) #[] #[], .pointer (some ⟨aB, 0, none⟩)] W fun e Y => (∃ v, e = .returned v) /\ (J (rowsL ls) Y \/ ∃ ms rest, rowsL ls = ms ++ rest /\ D ms Y) /\ KpR W Y := by
 have hdd : ∀ k : Nat, (Fence.wide.depth.isSome = true -> 1 <= k) := fun k h => by simp [Fence.wide] at h
 refine callsIn_of_wp Tryz.func141 rfl trivial ?_ rfl;simp only [Tryz.ntmps141, List.size_toArray, qC, qD, Nat.reduceAdd, Nat.reduceSub, Array.replicate_succ, Array.replicate_zero, List.push_toArray, List.append_toArray, List.nil_append, List.cons_append]
 gi_wp2_with fail
 refine ⟨trivial, hdd _, (callsIn_wide.2 (isteps_any ad N cap ls hN hF hN1)).mono ?_⟩;rintro e w1 ⟨sv, rfl, b1, js⟩;rw [hok];have js := js hok;obtain ⟨sa, sc, rfl, hst⟩ := js.stp;rw [hN] at hst ⊢
 gi_wp2_with fail
 have bA : Below w1.heap.size w1 (w1.alloc (.cells #[.slice sa N sc, .func (.yield l) #[] #[]] 197)) := bal;have x0 := Cel.new w1 [.slice sa N sc, .func (.yield l) #[] #[]] 197;obtain ⟨W0, hW0⟩ : ∃ W0, W0 = w1.alloc (.cells #[.slice sa N sc, .func (.yield l) #[] #[]] 197) := ⟨_, rfl⟩
 rw [<- hW0] at bA x0 ⊢;clear hW0;have A : Below W.heap.size W W0 := btr b1 bA;have e0 : Below W0.heap.size W0 W0.drew := (Below.refl _ _).drew
 have KP : Hid (∀ X, KpR W0 X -> (X.cell? ⟨w1.heap.size, 0, none⟩ = some (.slice sa N sc) /\ X.cell? ⟨w1.heap.size, 1, none⟩ = some (.func (.yield l) #[] #[]))) := fun X hX => by
  have a1 := x0.keepR hX (by decide) (by decide)
  exact ⟨a1.cell 0, a1.cell 1⟩
 have hSS := KP.out _ (KpR.of e0);refine wpIn_region_S (fun w' => w'.cell? ⟨w1.heap.size, 0, none⟩ = some (.slice sa N sc) /\ w'.cell? ⟨w1.heap.size, 1, none⟩ = some (.func (.yield l) #[] #[])) (by kernel_rfl) ?_;refine tks 0 rfl rfl hSS ?_;clear hSS;refine wpAnyS_one (i := 1) (by kernel_rfl) rfl (fun K hK => ?_);go_simp;refine ⟨trivial, fun h => by simp [Fence.wide] at h, (callsIn_wide.2 (ipots_any)).mono ?_⟩;rintro e w2 ⟨v, xs, rfl, jv⟩;obtain ⟨pa, cp, rfl, hP⟩ := jv.slice rfl;have b2 : Below W0.heap.size W0 w2 := below_of_drew jv.b;have hS2 := KP.out _ (KpR.of b2);have B2 : Below W.heap.size W w2 := btr A b2;have J2 := hJ _ _ _ h0 B2;(try dsimp only);refine hK.out _ _ hS2 ?_;refine tks 2 rfl rfl hS2 ?_;have sB := B2.size
 have HC : Hid (CallsIn Fence.wide (n - 1) Tryz.prog 142 #[walkV l sa N sc, .int .i64 0, wayV none 0 0 pa cp none 0 0 false] w2 fun e Y => ∃ b : Bool, e = .returned (.bool b) /\ Went J D [] (rowsL ls) b Y /\ KpR w2 Y) := by
  obtain ⟨h6, hall⟩ := actB_parts hok;have hy := WayOk.start;have hG : ∀ X, FormsAt X none way0.guards := fun X i hi => by simp [way0] at hi
  have hT : ∀ X, FormsAt X none way0.tells := fun X i hi => by simp [way0] at hi
  rcases hst with hz | ⟨SG, rfl, hst⟩
  ·have := from_end l n₀ J D hJ 128 hY sa N sc 0 (by omega) (by omega) way0 pa cp none 0 0 none 0 0 false (endW way0) [] w2 (n - 1) (by omega) J2 (endW_fit hy) (by simp) (fun X hb => irow_end way0 none 0 0 pa cp none 0 0 X hy.pl rfl rfl (hP.keep hb) (hG X) (hT X) (fun k hk => (hy.pf k hk).mono (by have := wb_six (n := min 0 6) (by omega); omega)) (fun k hk => hy.gf k (by omega)) (fun k hk => hy.tf k (by omega)));rw [rowsL, goW_end (by omega)]
   exact this
  have k2 : KpR w1 w2 := (KpR.of bA).trans (KpR.of b2)
  exact from_any l n₀ J D hJ 128 hY SG N sc ls hN h6 hall 7 0 way0 pa cp none 0 0 none 0 0 [] w2 (n - 1) (by omega) (by omega) (by omega) hy rfl rfl (hst.keepR k2) (hF.lin.keepR (KpR.of B2)) hP (hG _) (hT _) (by omega) J2 (by have := goW_128 (ls := ls) (f := 7) (i := 0) (y := way0) (by omega); simp only [qD]; omega)
 refine wpAnyS_one (i := 3) (by kernel_rfl) rfl (fun K hK => ?_);go_simp;refine ⟨trivial, fun h => by simp [Fence.wide] at h, HC.out.mono ?_⟩;rintro e w3 ⟨z3, rfl, J3, k3⟩;have hS3 := KP.out _ ((KpR.of b2).trans k3);(try dsimp only);refine hK.out _ _ hS3 ?_;refine wpAnyS_done (by kernel_rfl) ?_ _;have KK := (KpR.of B2).trans k3;clear KP HC
 gi_wp2
 go_end0
 refine ⟨⟨_, rfl⟩, ?_, KK⟩
 rcases J3 with ⟨_, j⟩ | ⟨_, ms, rest, h1, h2⟩
 ·exact Or.inl j
 exact Or.inr ⟨ms, rest, h1, h2⟩
theorem through_any (l n₀ : Nat) (J : List RowM -> World -> Prop) (hJ : ∀ pre X Y, J pre X -> Below X.heap.size X Y -> J pre Y) (hY : Rounds l n₀ J 128) (aB : Nat) (ad : Option Addr) (N cap : Nat) (ls : List LV) (W : World) (n : Nat) (hN : ls.length = N) (hF : LinesG W ad ls) (hN1 : N <= 1048576) (hok : actB N ls = true) (hc : W.cell? ⟨aB, 0, none⟩ = some (.slice ad N cap)) (hn0 : n₀ <= W.heap.size) (h0 : J [] W) :
  CallsIn Fence.wide n Tryz.prog 141 #[.func (.yield l) #[] #[], .pointer (some ⟨aB, 0, none⟩)] W fun e Y => (∃ v, e = .returned v) /\ J (rowsL ls) Y /\ KpR W Y :=
 (through_left l n₀ J (fun _ _ => False) hJ hY.noD aB ad N cap ls W n hN hF hN1 hok hc hn0 h0).mono (fun e Y ⟨h1, h2, h3⟩ => ⟨h1, h2.elim id (fun ⟨_, _, _, h⟩ => h.elim), h3⟩)
attribute [local go_sem] Oper.semAt_some
theorem ithrough_any (ad : Option Addr) (N cap : Nat) (w : World) :
  Calls Tryz.prog 108 #[.slice ad N cap] w fun e w' => ∃ B, e = .returned (.func (.func 141) #[] #[.pointer (some ⟨B, 0, none⟩)]) /\ Below w.heap.size w w' /\ Cel w' B [.slice ad N cap] 86 := by
 have b := (Below.refl w.heap.size w).alloc (qE _) (.cells #[.slice ad N cap] 86);have c := Cel.new w [.slice ad N cap] 86
 go_enter Tryz.func108, Tryz.ntmps108
 go_wp2
 go_ret
 exact ⟨_, rfl, b, c⟩
theorem Cel.loop {r r' : Loop} (h : Cel X B vs t) (hl : X.heap[l]? = some (.loop r)) : Cel (X.putObj l (.loop r')) B vs t := by
 have hne : B ≠ l := fun e => by
  subst e;unfold Cel at h;rw [hl] at h
  cases h
 unfold Cel at *;rw [World.putObj_heap_other hne]; exact h
theorem below_loop {r' : Loop} (h : Below n w X) (hl : n <= l) : Below n w (X.putObj l (.loop r')) :=
 ⟨h.os, h.tape, h.output, by simpa [World.putObj] using h.size, fun k hk => (World.putObj_heap_other (by omega)).trans (h.block k hk)⟩
theorem Cel.defer {r : Option (List Deferred)} {o : Obj} (h : Cel X B vs t) (hl : X.heap[l]? = some (.deferred r)) : Cel (X.putObj l o) B vs t := by
 have hne : B ≠ l := fun e => by
  subst e;unfold Cel at h;rw [hl] at h
  cases h
 unfold Cel at *;rw [World.putObj_heap_other hne]; exact h
theorem below_put {o : Obj} (h : Below n w X) (hl : n <= l) : Below n w (X.putObj l o) :=
 ⟨h.os, h.tape, h.output, by simpa [World.putObj] using h.size, fun k hk => (World.putObj_heap_other (by omega)).trans (h.block k hk)⟩
theorem cel_past {S : Nat -> Prop} (h : Cel X B vs t) (k : Touch S X Y) (hn : ¬ S B := by omega) : Cel Y B vs t := by
 have hl := h.lt;unfold Cel at *;rw [k.block B hl hn]; exact h
theorem below_touch (h : Below w.heap.size w X) (t : Touch (fun k => k = G) X Y) (hG : w.heap.size <= G := by omega) : Below w.heap.size w Y :=
 ⟨t.os.trans h.os, t.tape.trans h.tape, t.output.trans h.output, Nat.le_trans h.size t.size, fun k hk => (t.block k (Nat.lt_of_lt_of_le hk h.size) (by omega)).trans (h.block k hk)⟩
theorem OwnBB.loose {f : Nat -> Bool} (h : OwnBB X G f) : Loose X.heap[G]? := fun cs t fr e => by
 unfold OwnBB Cel at h;rw [h] at e
 cases e
 refine ⟨Or.inl rfl, fun i q => ?_⟩
 match i with
 | 0 => simp
 | 1 => simp
 | 2 => simp
 | i + 3 => simp
theorem OwnBB.kpR {f : Nat -> Bool} (h : OwnBB X G f) (t : Touch (fun k => k = G) X Y) : KpR X Y := t.mono (fun k e => by subst e; exact h.loose)
theorem keeps_below (h : Below X.heap.size X Y) : KeepsFrom B X Y := ⟨h.size, fun k o _ hk _ => (h.block k (lt_of_block hk)).trans hk⟩
theorem keeps_touch (t : Touch (fun k => k = G) X Y) (hG : G < B := by omega) : KeepsFrom B X Y := ⟨t.size, fun k o hB hk _ => (t.block k (lt_of_block hk) (by omega)).trans hk⟩
theorem icatreads_in (ad : Option Addr) (N cap : Nat) (ls : List LV) (w : World) (n : Nat) (hN : ls.length = N) (hF : LinesG w ad ls) (hN1 : N <= 1048576) :
  CallsIn Fence.wide n Tryz.prog 110 #[.slice ad N cap] w fun e w' => Below w.heap.size w w' /\ ((actB N ls = false /\ e = .returned (.slice none 0 0)) \/ (actB N ls = true /\ ∃ G cG, e = .returned (.slice (some ⟨G, 0, none⟩) 3 cG) /\ w.heap.size <= G /\ OwnBB w' G (readsR (rowsL ls)))) := by
 have hdd : ∀ k : Nat, (Fence.wide.depth.isSome = true -> 1 <= k) := fun k h => by simp [Fence.wide] at h
 refine callsIn_of_wp_marks Tryz.func110 rfl trivial ?_ rfl;simp only [Tryz.ntmps110, List.size_toArray, qC, qD, Nat.reduceAdd, Nat.reduceSub, Array.replicate_succ, Array.replicate_zero, List.push_toArray, List.append_toArray, List.nil_append, List.cons_append]
 gi_wp2_with fail
 refine ⟨trivial, hdd _, (callsIn_wide.2 (iact_any ad N cap ls hN hF hN1)).mono ?_⟩;rintro e w1 ⟨rfl, b1⟩;obtain ⟨u, hu⟩ : ∃ u, actB N ls = u := ⟨_, rfl⟩
 rw [hu]
 cases u with
 | false =>
  gi_wp2
  exact ⟨_, results_tmp rfl _ _ _, b1, Or.inl ⟨hu, rfl⟩⟩
 | true =>
  obtain ⟨i0, hi, hz0, hz1, hz2⟩ := info_parts Tryz.infoBool;obtain ⟨w2, hrun, o2, g2⟩ := run_make_full (P := Tryz.prog) (w := w1) w1.heap.size 77 4 i0 (.bool false) 1 Tryz.underlying77 hi hz0 hz1 .i64 .i64 3 (by rw [hz2]; omega) (by unfold maxLen; omega) (qE _);have hrun' : (Instr.makeSlice 77 (.int .i64 3) (.int .i64 3)).run Tryz.prog w1 = .ok (.slice (some ⟨w1.heap.size, 0, none⟩) 3 3) w2 := hrun;have b2 : Below w1.heap.size w1 w2 := (Below.refl _ _).grown g2 (qE _) (by simp)
  have O2 : OwnBB w2 w1.heap.size (fun _ => false) := by
   rcases o2.2 with ⟨e, _⟩ | ⟨g, cp, cur, hv, hg, hh, hl, hc, hs, ht⟩
   ·cases e
   cases hv
   have hl3 : cur.toList.length = 3 := by rw [Array.length_toList]; omega
   rw [List.take_of_length_le (by omega)] at ht
   have : cur = #[.bool false, .bool false, .bool false] := by
    apply Array.toList_inj.1
    rw [ht]; simpa [Value.cells] using toList_madeCells_one (.bool false) 3
   rw [this] at hh
   exact hh
  clear hrun o2 g2
  gi_wp2_with fail
  have bA : Below w2.heap.size w2 (w2.alloc (.cells #[.slice (some ⟨w1.heap.size, 0, none⟩) 3 3] 77)) := bal;have C3 := Cel.new w2 [.slice (some ⟨w1.heap.size, 0, none⟩) 3 3] 77;have O3 := O2.below bA;obtain ⟨w3, hw3⟩ : ∃ w3, w3 = w2.alloc (.cells #[.slice (some ⟨w1.heap.size, 0, none⟩) 3 3] 77) := ⟨_, rfl⟩
  rw [<- hw3] at bA C3 O3 ⊢;have lG := Cel.lt O2;clear hw3 hrun' O2;refine ⟨trivial, hdd _, (callsIn_wide.2 (ithrough_any ad N cap w3)).mono ?_⟩;rintro e w4 ⟨B, rfl, b4, cB⟩;have C4 := C3.below b4;have O4 := O3.below b4;have s2 := b2.size;have sA := bA.size;have s4 := b4.size;have B4 : Below w.heap.size w w4 := ((btr b1 b2).trans (bA.mono (Nat.le_trans b1.size s2))).trans (b4.mono (Nat.le_trans (Nat.le_trans b1.size s2) sA));have F4 := hF.below B4
  gi_wp2_with fail
  have s1 := b1.size
  refine wpIn_rows (α := Value × RowM) (gf := 141) (lb := #[.pointer (some ⟨B, 0, none⟩)]) rfl (enters_of Tryz.func141 (by kernel_rfl) rfl) (encs := fun x => #[x.1]) (fun _ => rfl)
   (fun _ x X => RowFit x.2 /\ RowX X w4.heap.size x.1 x.2) KpR (fun xs => xs.map Prod.snd = rowsL ls)
   (fun pre X => OwnBB X w1.heap.size (readsR (pre.map Prod.snd)) /\ Cel X w2.heap.size [.slice (some ⟨w1.heap.size, 0, none⟩) 3 3] 77 /\ Below w.heap.size w X)
   (fun pre X Y h b => ⟨h.1.below b, h.2.1.below b, h.2.2.trans (b.mono h.2.2.size)⟩)
   (fun pre X l r r' h hl lt => ⟨Cel.loop h.1 hl, h.2.1.loop hl, below_loop h.2.2 (by have := B4.size; omega)⟩) KpR.loop (fun X Y Z => KpR.trans) ⟨O4, C4, B4⟩ ?seq ?round ?done
  case seq =>
   intro l J W hJ hb hJ0 hY;have e0 : (#[.func (.yield l) #[] #[]] ++ #[.pointer (some ⟨B, 0, none⟩)] : Array Value) = #[.func (.yield l) #[] #[], .pointer (some ⟨B, 0, none⟩)] := rfl;rw [e0];refine (through_any l w4.heap.size (fun rs X => ∃ xs : List (Value × RowM), xs.map Prod.snd = rs /\ J xs X) (fun rs X Y h b => ?_) (fun m rs v r X h fit rx _ => ?_) B ad N cap ls W (n - 1) hN (F4.below hb) hN1 hu ((cB.below hb).cell 0) hb.size ⟨[], rfl, hJ0⟩).mono ?_
   ·obtain ⟨xs, e, j⟩ := h
    exact ⟨xs, e, hJ _ _ _ j b⟩
   ·obtain ⟨xs, e, j⟩ := h;obtain ⟨fn, tmps, assign, body, hy, hR⟩ := hY m xs (v, r) X j ⟨fit, rx⟩;refine ⟨fn, tmps, assign, body, hy, hR.mono ?_⟩;rintro e' Y ⟨a, b, c⟩
    exact ⟨a, ⟨xs ++ [(v, r)], by simp [e], b⟩, c⟩
   rintro e Y ⟨h1, ⟨xs, e1, j⟩, _⟩
   exact ⟨h1, xs, e1, j⟩
  case round =>
   rintro m l pre ⟨v, rm⟩ X r ⟨hO, hC, hB⟩ ⟨fit, rx⟩ hl hlt;dsimp only at fit rx;obtain ⟨ga, gc, aa, ac, ta, tc, rfl, f0, f1, f2⟩ := rx;dsimp only
   gi_wp2_with fail
   have bx : Below X.heap.size X (X.alloc (.cells #[.slice ga rm.guards.length gc, .slice aa rm.adds.length ac, .slice ta rm.tells.length tc, .bool rm.stop] 113)) := bal;have cx := Cel.new X [.slice ga rm.guards.length gc, .slice aa rm.adds.length ac, .slice ta rm.tells.length tc, .bool rm.stop] 113;have hl1 := (bx.block l (lt_of_block hl)).trans hl;refine ⟨keeps_below bx, KpR.of bx, ?_⟩;have O1 : OwnBB _ _ _ := Cel.loop (r' := { r with state := .busy }) (hO.below bx) hl1;have C1 := Cel.loop (r' := { r with state := .busy }) (hC.below bx) hl1;have X1 := Cel.loop (r' := { r with state := .busy }) cx hl1;have k1 : KpR X _ := (KpR.of bx).trans (KpR.loop _ l r { r with state := .busy } hl1);have B1 := below_loop (r' := { r with state := .busy }) (btr hB bx) (l := l) (by have := B4.size; omega);obtain ⟨Y, hY⟩ : ∃ Y, Y = (X.alloc (.cells #[.slice ga rm.guards.length gc, .slice aa rm.adds.length ac, .slice ta rm.tells.length tc, .bool rm.stop] 113)).putObj l (.loop { r with state := .busy }) := ⟨_, rfl⟩
   rw [<- hY] at O1 C1 X1 k1 B1 ⊢;clear hY;have FA := f1.at.keepR k1;have FT := f2.at.keepR k1;have hc := C1.cell 0;have hx1 := X1.cell 1;have lX := Cel.lt hO
   gi_wp2_with fail
   refine ⟨trivial, hdd _, CallsIn.mono (CallsIn.inRound l (callsIn_wide.2 (imarkpots_any rm.adds Y O1 rfl FA fit.a (by have := fit.la; omega)))) ?_⟩;rintro e Y1 ⟨⟨v1, rfl⟩, t1, O2⟩;have C2 := cel_past C1 t1;have X2 := cel_past X1 t1;have FT2 := FT.past2 O1.no t1;have hc2 := C2.cell 0;have hx2 := X2.cell 2;clear hc hx1
   gi_wp2_with fail
   refine ⟨trivial, hdd _, CallsIn.mono (CallsIn.inRound l (callsIn_wide.2 (imarkpots_any rm.tells Y1 O2 rfl FT2 fit.t (by have := fit.lt; omega)))) ?_⟩;rintro e Y2 ⟨⟨v2, rfl⟩, t2, O3⟩;have C3' := cel_past C2 t2;clear hc2 hx2
   gi_wp2_with fail
   refine ⟨(keeps_touch t1).trans (keeps_touch t2), (O1.kpR t1).trans (O2.kpR t2), O3.ext (fun v hv => ?_), C3', below_touch (below_touch B1 t1) t2⟩;simp [readsF, readsR, Bool.or_assoc]
  case done =>
   rintro D xs W hD hS ⟨hO, hC, hB⟩ hK;have hc := hC.cell 0
   gi_wp2
   refine ⟨by simp, .inl ⟨_, _, rfl, run_takeDeferred hK, ?_⟩⟩;refine ⟨_, results_tmp rfl _ _ _, ?_⟩;rw [hS] at hO
   exact ⟨below_put hB (by have := B4.size; omega), Or.inr ⟨hu, _, _, rfl, s1, Cel.defer hO hK⟩⟩
theorem icatreads_any (ls : List LV) {w : World} (hN : ls.length = N) (hF : LinesG w ad ls) (hN1 : N <= 1048576) :
  Calls Tryz.prog 110 #[.slice ad N cap] w fun e w' => Below w.heap.size w w' /\ ((actB N ls = false /\ e = .returned (.slice none 0 0)) \/ (actB N ls = true /\ ∃ G cG, e = .returned (.slice (some ⟨G, 0, none⟩) 3 cG) /\ w.heap.size <= G /\ OwnBB w' G (readsR (rowsL ls)))) :=
 callsIn_wide.1 (icatreads_in ad N cap ls w 0 hN hF hN1)
theorem l4same_any {a c : Option Addr} (n m : Nat) {cap cap' : Nat} (xs ys : List Int) {w : World} (h : Ints w a n xs) (h' : Ints w c m ys) (hn : n <= 1048576) (hm : m <= 1048576) :
  Calls Tryz.prog 63 #[.slice a n cap, .slice c m cap'] w fun e w' => e = .returned (.bool (eqB xs ys)) /\ Below w.heap.size w w' := by
 have hx := h.1;have HX : Hid (xs.length = n) := hx;have hy := h'.1;have HY : Hid (ys.length = m) := hy;clear hx hy
 by_cases hc : n = m
 ·subst hc
  go_enter Tryz.func63, Tryz.ntmps63
  go_wp2_with fail
  go_loopw [5] (fun i wr => ∃ k : Nat, k <= n /\ i = .int .i64 k /\ Below w.heap.size w wr /\ xs.take k = ys.take k) (fun i _ => n - (intOf i).toNat)
  case atStart => exact ⟨0, qF _, rfl, Below.refl _ _, rfl⟩
  case round =>
   obtain ⟨k, hk, rfl, hnx, hall⟩ := hrel;have HA : Hid (xs.take k = ys.take k) := hall;clear hall
   by_cases hlt : k < n
   ·obtain ⟨b, off, rfl, hcell⟩ := (h.below hnx).pos (by omega);obtain ⟨b', off', rfl, hcell'⟩ := (h'.below hnx).pos (by omega);have hck := hcell k hlt;have hck' := hcell' k hlt;have hlt' : (k : Int) < (n : Int) := by omega
    clear hcell hcell' h h'
    go_wp2_with fail
    go_quiet (fail)
    cases he : (xs[k]?.getD 0 != ys[k]?.getD 0)
    ·go_wp2
     go_roundw
     case rel => exact ⟨k + 1, by omega, by go_num, below_drewN hnx _, take_same_succ (by rw [HX.out]; exact hlt) (by rw [HY.out]; exact hlt) HA.out (by simpa using he)⟩
     case measure => simp [intOf]; omega
    go_wp2
    go_ret
    exact ⟨ret_bool (by rw [eqB_false (k := k) (by simpa using he)]), below_drewN hnx _⟩
   go_wp2
   go_ret
   exact ⟨ret_bool (by rw [eqB_true HX.out HY.out (by omega) HA.out]), hnx⟩
 have hne : ((n : Int) != (m : Int)) = true := by simp; omega
 go_enter Tryz.func63, Tryz.ntmps63
 go_wp2
 go_ret
 exact ⟨ret_bool (by rw [eqB_len (by rw [HX.out, HY.out]; exact hc)]), Below.refl _ _⟩
theorem equal_any {a c : Option Addr} {m cap' : Nat} (xs ys : List Int) {w : World} (h : Ints w a n xs) (h' : Ints w c m ys) (hn : n <= 1048576) (hm : m <= 1048576) :
  Calls Tryz.prog 162 #[.slice a n cap, .slice c m cap'] w fun e w' => e = .returned (.bool (eqB xs ys)) /\ Below w.heap.size w w' := by
 have hx := h.1;have HX : Hid (xs.length = n) := hx;have hy := h'.1;have HY : Hid (ys.length = m) := hy;clear hx hy
 by_cases hc : n = m
 ·subst hc
  go_enter Tryz.func162, Tryz.ntmps162
  go_wp2_with fail
  go_loopw [5, 13] (fun _ i wr => ∃ k : Nat, k <= n /\ i = .int .i64 k /\ Below w.heap.size w wr /\ xs.take k = ys.take k) (fun _ i _ => n - (intOf i).toNat)
  case atStart => exact ⟨0, qF _, rfl, Below.refl _ _, rfl⟩
  case round =>
   obtain ⟨k, hk, rfl, hnx, hall⟩ := hrel;have HA : Hid (xs.take k = ys.take k) := hall;clear hall
   by_cases hlt : k < n
   ·obtain ⟨b, off, rfl, hcell⟩ := (h.below hnx).pos (by omega);obtain ⟨b', off', rfl, hcell'⟩ := (h'.below hnx).pos (by omega);have hck := hcell k hlt;have hck' := hcell' k hlt;have hlt' : (k : Int) < (n : Int) := by omega
    clear hcell hcell' h h'
    go_wp2_with fail
    go_quiet (fail)
    cases he : (xs[k]?.getD 0 != ys[k]?.getD 0)
    ·go_wp2
     go_roundw
     case rel => exact ⟨k + 1, by omega, by go_num, below_drewN hnx _, take_same_succ (by rw [HX.out]; exact hlt) (by rw [HY.out]; exact hlt) HA.out (by simpa using he)⟩
     case measure => simp [intOf]; omega
    go_wp2
    go_ret
    exact ⟨ret_bool (by rw [eqB_false (k := k) (by simpa using he)]), below_drewN hnx _⟩
   go_wp2
   go_ret
   exact ⟨ret_bool (by rw [eqB_true HX.out HY.out (by omega) HA.out]), hnx⟩
 have hne : ((n : Int) != (m : Int)) = true := by simp; omega
 go_enter Tryz.func162, Tryz.ntmps162
 go_wp2
 go_ret
 exact ⟨ret_bool (by rw [eqB_len (by rw [HX.out, HY.out]; exact hc)]), Below.refl _ _⟩
def hasFrom (part : List Int) : Nat -> List (List Int) -> Int
 | _, [] => -1
 | k, x :: t => if eqB x part then k else hasFrom part (k + 1) t
def hasI (ss : List IV) (part : List Int) : Int := hasFrom part 0 (ss.map IV.x)
theorem has_drop {ss : List IV} {part : List Int} {k : Nat} (h : k < ss.length) : hasFrom part k ((ss.map IV.x).drop k) = if eqB (ss[k]?.getD noI).x part then (k : Int) else hasFrom part (k + 1) ((ss.map IV.x).drop (k + 1)) := by
 have hl : k < (ss.map IV.x).length := by simpa using h
 rw [List.drop_eq_getElem_cons hl, hasFrom, qA h];simp
theorem has_end {ss : List IV} {part : List Int} {k : Nat} (h : ss.length <= k) : hasFrom part k ((ss.map IV.x).drop k) = -1 := by
 rw [List.drop_eq_nil_of_le (by simpa using h)]; rfl
theorem shas_any (N cap : Nat) (ss : List IV) {c : Option Addr} (m : Nat) {cap' : Nat} (part : List Int) {w : World} (hN : ss.length = N) (hF : ISG w ad ss) (hN1 : N <= 1048576) (hP : Ints w c m part) (hm : m <= 1048576 := by omega) :
  Calls Tryz.prog 62 #[.slice ad N cap, .slice c m cap'] w fun e w' => e = .returned (.int .i64 (hasI ss part)) /\ Below w.heap.size w w' := by
 have HN : Hid (ss.length = N) := hN;clear hN
 go_enter Tryz.func62, Tryz.ntmps62
 go_wp2_with fail
 go_loopw [5] (fun i wr => ∃ k : Nat, k <= N /\ i = .int .i64 k /\ Below w.heap.size w wr /\ hasI ss part = hasFrom part k ((ss.map IV.x).drop k)) (fun i _ => N - (intOf i).toNat)
 case atStart => exact ⟨0, qF _, rfl, Below.refl _ _, rfl⟩
 case round =>
  obtain ⟨k, hk, rfl, hb, hall⟩ := hrel;have HA : Hid _ := hall;clear hall
  by_cases hlt : k < N
  ·obtain ⟨b, off, rfl, hc, hr⟩ := (hF.below hb) k (by rw [HN.out]; exact hlt);have HD : Hid _ := has_drop (ss := ss) (part := part) (k := k) (by rw [HN.out]; exact hlt);generalize HG : ss[k]?.getD noI = g at *;clear HG hF;obtain ⟨ga, gn, gcap, gx⟩ := g;have hc' : wr.cell? ⟨b, off + k, none⟩ = some (.slice ga gn gcap) := hc;clear hc
   cases he : eqB gx part
   ·go_wp2_with fail
    refine (l4same_any _ _ gx part hr.1 (hP.below hb) hr.2 hm).mono ?_;rintro e w1 ⟨rfl, b1⟩;rw [he]
    go_wp2
    go_roundw
    case rel => exact ⟨k + 1, by omega, by go_num, btr hb b1, by rw [HA.out, HD.out]; simp only [he]; rfl⟩
    case measure => simp [intOf]; omega
   go_wp2_with fail
   refine (l4same_any _ _ gx part hr.1 (hP.below hb) hr.2 hm).mono ?_;rintro e w1 ⟨rfl, b1⟩;rw [he]
   go_wp2
   go_ret
   exact ⟨ret_int (by rw [HA.out, HD.out]; simp only [he]; rfl), btr hb b1⟩
  go_wp2
  go_ret
  exact ⟨ret_int (by rw [HA.out, has_end (by rw [HN.out]; omega)]), hb⟩
theorem ihas_any (ss : List IV) {c : Option Addr} {m cap' : Nat} (part : List Int) {w : World} (hN : ss.length = N) (hF : ISG w ad ss) (hN1 : N <= 1048576) (hP : Ints w c m part) (hm : m <= 1048576) :
  Calls Tryz.prog 149 #[.slice ad N cap, .slice c m cap'] w fun e w' => e = .returned (.int .i64 (hasI ss part)) /\ Below w.heap.size w w' := by
 have HN : Hid (ss.length = N) := hN;clear hN
 go_enter Tryz.func149, Tryz.ntmps149
 go_wp2_with fail
 go_loopw [5, 6, 9] (fun _ _ i wr => ∃ k : Nat, k <= N /\ i = .int .i64 k /\ Below w.heap.size w wr /\ hasI ss part = hasFrom part k ((ss.map IV.x).drop k)) (fun _ _ i _ => N - (intOf i).toNat)
 case atStart => exact ⟨0, qF _, rfl, Below.refl _ _, rfl⟩
 case round =>
  obtain ⟨k, hk, rfl, hb, hall⟩ := hrel;have HA : Hid _ := hall;clear hall
  by_cases hlt : k < N
  ·obtain ⟨b, off, rfl, hc, hr⟩ := (hF.below hb) k (by rw [HN.out]; exact hlt);have HD : Hid _ := has_drop (ss := ss) (part := part) (k := k) (by rw [HN.out]; exact hlt);generalize HG : ss[k]?.getD noI = g at *;clear HG hF;obtain ⟨ga, gn, gcap, gx⟩ := g;have hc' : wr.cell? ⟨b, off + k, none⟩ = some (.slice ga gn gcap) := hc;clear hc
   cases he : eqB gx part
   ·go_wp2_with fail
    refine (equal_any gx part hr.1 (hP.below hb) hr.2 hm).mono ?_;rintro e w1 ⟨rfl, b1⟩;rw [he]
    go_wp2
    go_roundw
    case rel => exact ⟨k + 1, by omega, by go_num, btr hb b1, by rw [HA.out, HD.out]; simp only [he]; rfl⟩
    case measure => simp [intOf]; omega
   go_wp2_with fail
   refine (equal_any gx part hr.1 (hP.below hb) hr.2 hm).mono ?_;rintro e w1 ⟨rfl, b1⟩;rw [he]
   go_wp2
   go_ret
   exact ⟨ret_int (by rw [HA.out, HD.out]; simp only [he]; rfl), btr hb b1⟩
  go_wp2
  go_ret
  exact ⟨ret_int (by rw [HA.out, has_end (by rw [HN.out]; omega)]), hb⟩
end Go.Proofs.YtfmpcihghlnlnaaGreatDoor
