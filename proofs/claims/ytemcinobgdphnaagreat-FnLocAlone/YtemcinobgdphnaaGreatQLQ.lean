/-
  Lemmas that the claim's last text rests on.
-/
import Derived.Test.YtemcinobgdphnaaGreatQLP
namespace Go.Proofs.YtemcinobgdphnaaGreat
open Go.RowKit Go.Deep Go.Shelf
open List renaming getElem?_eq_getElem → qA, length_append → qB, take_of_length_le → qC, length_cons → qD, length_nil → qE
open Nat renaming le_refl → qF
set_option linter.unusedVariables false
set_option maxRecDepth 100000
set_option maxHeartbeats 25600000
variable {B G N cap l n : Nat} {S : Nat -> Prop} {W X Y w : World} {ad : Option Addr} {ls : List LV} {t : TypeId} {vs : List Value}
def Stp (W : World) (SG N : Nat) (ls : List LV) : Prop := ∃ cur, Cel W SG cur 149 /\ ∀ j, j < N -> cur[j]? = some (stepV (ls[j]?.getD noLV))
def LinesIn (W : World) (ls : List LV) : Prop := ∀ j, j < ls.length -> (ls[j]?.getD noLV).f.At W
theorem FV.At.keepR {g : FV} (h : g.At X) (k : KpR X Y) : g.At Y := ⟨h.C.keepR k, h.D.keepR k, h.hn, h.hm⟩
theorem Stp.keepR {SG : Nat} (h : Stp X SG N ls) (k : KpR X Y) : Stp Y SG N ls := by
 obtain ⟨cur, hc, hv⟩ := h
 exact ⟨cur, hc.keepR k (by decide) (by decide), hv⟩
theorem LinesIn.keepR (h : LinesIn X ls) (k : KpR X Y) : LinesIn Y ls := fun j hj => (h j hj).keepR k
theorem from_any (l n₀ : Nat) (J D : List RowM -> World -> Prop) (hJ : ∀ pre X Y, J pre X -> Below X.heap.size X Y -> J pre Y) (M : Nat) (hY : RoundsD l n₀ J D M) (SG N sc : Nat) (ls : List LV) (hN : ls.length = N) (h6 : N <= 6) (hall : ls.all LV.ok = true) (f : Nat) :
  ∀ (i0 : Nat) (y : Way) (pa : Option Addr) (cp : Nat) (ga : Option Addr) (ng gc : Nat) (ta : Option Addr) (nt tc : Nat) (pre : List RowM) (W : World) (n : Nat), f <= 7 -> N <= i0 + f -> i0 <= 12 -> WayOk i0 y -> y.guards.length = ng -> y.tells.length = nt -> Stp W SG N ls -> LinesIn W ls -> FormsAt W pa y.pots -> FormsAt W ga y.guards -> FormsAt W ta y.tells -> n₀ <= W.heap.size -> J pre W -> pre.length + (goW ls f i0 y).length <= M ->
  CallsIn Fence.wide n Tryz.prog 111 #[walkV l (some ⟨SG, 0, none⟩) N sc, .int .i64 (i0 : Int), wayV ga ng gc pa cp ta nt tc false] W fun e Y => ∃ b : Bool, e = .returned (.bool b) /\ Went J D pre (goW ls f i0 y) b Y /\ KpR W Y := by
 have atEnd : ∀ (f i0 : Nat) (y : Way) (pa : Option Addr) (cp : Nat) (ga : Option Addr) (ng gc : Nat) (ta : Option Addr) (nt tc : Nat) (pre : List RowM) (W : World) (n : Nat), N <= i0 -> i0 <= 12 -> WayOk i0 y -> y.guards.length = ng -> y.tells.length = nt -> FormsAt W pa y.pots -> FormsAt W ga y.guards -> FormsAt W ta y.tells -> n₀ <= W.heap.size -> J pre W -> pre.length + (goW ls f i0 y).length <= M ->
   CallsIn Fence.wide n Tryz.prog 111 #[walkV l (some ⟨SG, 0, none⟩) N sc, .int .i64 (i0 : Int), wayV ga ng gc pa cp ta nt tc false] W fun e Y => ∃ b : Bool, e = .returned (.bool b) /\ Went J D pre (goW ls f i0 y) b Y /\ KpR W Y := by
  intro f i0 y pa cp ga ng gc ta nt tc pre W n hi hi1 hy hg ht hP hG hT hn0 h0;rw [goW_end (by omega)];intro hM;have hM' : pre.length < M := by simp only [qD, qE] at hM; omega
  have g1 := hy.gl;have g2 := hy.tl
  exact from_end l n₀ J D hJ M hY _ N sc i0 hi hi1 y pa cp ga ng gc ta nt tc false (endW y) pre W n hn0 h0 (endW_fit hy) hM' (fun X hb => irow_end y ga ng gc pa cp ta nt tc X hy.pl hg ht (hP.keep hb) (hG.keep hb) (hT.keep hb) (fun k hk => (hy.pf k hk).mono (by have := wb_six (n := min i0 6) (by omega); omega)) (fun k hk => hy.gf k (by omega)) (fun k hk => hy.tf k (by omega)))
 induction f with
 | zero => intro i0 y pa cp ga ng gc ta nt tc pre W n _ hfu hi1 hy hg ht _ _ hP hG hT hn0 h0 hM; exact atEnd 0 i0 y pa cp ga ng gc ta nt tc pre W n (by omega) hi1 hy hg ht hP hG hT hn0 h0 hM
 | succ f ih =>
  intro i0 y pa cp ga ng gc ta nt tc pre W n hf7 hfu hi1 hy hg ht hS hLI hP hG hT hn0 h0 hM
  by_cases hlt : i0 < N
  ·have hl : i0 < ls.length := by omega
   have hok : (ls[i0]?.getD noLV).ok = true := by
    rw [qA hl]
    exact List.all_eq_true.1 hall _ (List.getElem_mem hl)
   obtain ⟨cur, hC, hv⟩ := hS;have hv0 := hv i0 hlt;have hA := hLI i0 hl;have hS' : Stp W SG N ls := ⟨cur, hC, hv⟩
   rw [goW, if_pos hl] at hM ⊢;generalize ls[i0]?.getD noLV = q at *;have e1 : ((i0 + 1 : Nat) : Int) = (i0 : Int) + 1 := by omega
   by_cases hk4 : q.kind = 4
   ·rw [if_neg (by omega), if_neg (by omega), if_neg (by omega)] at hM ⊢;have hM' : pre.length < M := by simp only [qD, qE] at hM; omega
    have hst : stepV q = .iface 184 (.agg #[]) := by simp [stepV, hk4]
    rw [hst] at hv0;have g1 := hy.gl;refine from_step l SG N sc i0 hlt hi1 ga ng gc pa cp ta nt tc cur W n hC hv0 (fun X m hb => past_stop l N sc ga ng gc pa cp ta nt tc X m (fun X2 hb2 m2 => ?_));have hb' := btr hb hb2
    exact from_end l n₀ J D hJ M hY _ N sc 6 h6 (by omega) y pa cp ga ng gc ta nt tc true (stopW y) pre X2 m2 (by have := hb'.size; omega) (hJ _ _ _ h0 hb') (stopW_fit hy) hM' (fun X3 hb3 => irow_stop y ga ng gc pa cp ta nt tc X3 hg (hG.keep (btr hb' hb3)) (fun k hk => hy.gf k (by omega)) (by omega))
   obtain ⟨hsm, hkk, hz, hp⟩ := lineW (show lineB q.kind q.pot q.skip q.f.n q.f.m q.f.C q.f.D q.f.K = true from hok) hk4;obtain ⟨f1, f2, f3⟩ := hy.into (by omega) (f := q.f) hsm hA.D.1
   rcases hkk with e | e | e
   ·rw [if_pos e] at hM ⊢;rw [qB] at hM;obtain ⟨z1, z2⟩ := hz e;have hst : stepV q = .iface 179 (.agg #[.int .i64 q.skip, .slice q.f.a q.f.n q.f.cap, .slice q.f.c q.f.m q.f.cap', .int .i64 q.f.K]) := by simp [stepV, e]
    rw [hst] at hv0;have e2 : ((i0 + 1 + q.skip.toNat : Nat) : Int) = (i0 : Int) + 1 + q.skip := by omega
    refine from_step l SG N sc i0 hlt hi1 ga ng gc pa cp ta nt tc cur W n hC hv0 (fun X m hb => ?_);have kX : KpR W X := KpR.of hb;refine past_test l N sc q.skip ⟨by omega, by omega⟩ ⟨by omega, by omega⟩ i0 y hy (by omega) q.f hsm ga ng gc pa cp ta nt tc (Went J D pre (goW ls f (i0 + 1) (y.guard (intoX q.f y.pots)))) (fun A B a b => Or.inl ⟨rfl, hJ _ _ _ a.on b⟩) (fun Y h => h.fst) X m (hA.keepR kX) (hP.keepR kX) (hG.keepR kX) hg (fun X2 ga' gc' hb2 F m2 => ?_) (fun X2 ga' gc' k2 j2 F m2 => ?_)
    ·have k2 : KpR W X2 := kX.trans (KpR.of hb2);have := ih (i0 + 1) (y.guard (intoX q.f y.pots)) pa cp ga' (ng + 1) gc' ta nt tc pre X2 m2 (by omega) (by omega) (by omega) (hy.guard (by omega) f2) (by show (y.guards ++ [_]).length = ng + 1; rw [qB, hg]; rfl) ht (hS'.keepR k2) (hLI.keepR k2) (hP.keepR k2) F (hT.keepR k2) (Nat.le_trans hn0 k2.size) (hJ _ _ _ (hJ _ _ _ h0 hb) hb2) (by omega);rw [e1] at this
     exact this
    have k3 : KpR W X2 := kX.trans k2;have := ih (i0 + 1 + q.skip.toNat) (y.guard (minusX (intoX q.f y.pots))) pa cp ga' (ng + 1) gc' ta nt tc _ X2 m2 (by omega) (by omega) (by omega) (hy.guard (by omega) f3) (by show (y.guards ++ [_]).length = ng + 1; rw [qB, hg]; rfl) ht (hS'.keepR k3) (hLI.keepR k3) (hP.keepR k3) F (hT.keepR k3) (Nat.le_trans hn0 k3.size) j2.on (by rw [qB]; omega);rw [e2] at this
    exact this.mono (fun e Y ⟨b, h1, h2, h3⟩ => ⟨b, h1, h2.snd, h3⟩)
   ·rw [if_neg (by omega), if_pos e] at hM ⊢;obtain ⟨z1, z2⟩ := hp e;obtain ⟨p, hpq⟩ : ∃ p : Nat, q.pot = p := ⟨q.pot.toNat, by omega⟩
    have hpn : q.pot.toNat = p := by omega
    have hst : stepV q = .iface 181 (.agg #[.int .i64 (p : Int), .slice q.f.a q.f.n q.f.cap, .slice q.f.c q.f.m q.f.cap', .int .i64 q.f.K]) := by simp [stepV, e, hpq]
    rw [hst] at hv0;rw [hpn] at hM ⊢;refine from_step l SG N sc i0 hlt hi1 ga ng gc pa cp ta nt tc cur W n hC hv0 (fun X m hb => ?_);have kX : KpR W X := KpR.of hb;refine past_add l N sc i0 y hy (by omega) q.f hsm ga ng gc pa cp ta nt tc X m (hA.keepR kX) (hP.keepR kX) (hT.keepR kX) ht p (by omega) (fun X2 pa' cp' hb2 F m2 => ?_);have k2 : KpR W X2 := kX.trans (KpR.of hb2);have := ih (i0 + 1) (y.add p (intoX q.f y.pots)) pa' cp' ga ng gc ta nt tc pre X2 m2 (by omega) (by omega) (by omega) (hy.add (by omega) (by omega) f1) hg ht (hS'.keepR k2) (hLI.keepR k2) F (hG.keepR k2) (hT.keepR k2) (Nat.le_trans hn0 k2.size) (hJ _ _ _ (hJ _ _ _ h0 hb) hb2) hM;rw [e1] at this
    exact this
   rw [if_neg (by omega), if_neg (by omega), if_pos e] at hM ⊢;have hst : stepV q = .iface 183 (.agg #[.slice q.f.a q.f.n q.f.cap, .slice q.f.c q.f.m q.f.cap', .int .i64 q.f.K]) := by simp [stepV, e]
   rw [hst] at hv0;refine from_step l SG N sc i0 hlt hi1 ga ng gc pa cp ta nt tc cur W n hC hv0 (fun X m hb => ?_);have kX : KpR W X := KpR.of hb;refine past_print l N sc i0 y hy (by omega) q.f hsm ga ng gc pa cp ta nt tc X m (hA.keepR kX) (hP.keepR kX) (hT.keepR kX) ht (fun X2 ta' tc' hb2 F m2 => ?_);have k2 : KpR W X2 := kX.trans (KpR.of hb2);have := ih (i0 + 1) (y.tell (intoX q.f y.pots)) pa cp ga ng gc ta' (nt + 1) tc' pre X2 m2 (by omega) (by omega) (by omega) (hy.tell (by omega) f2) hg (by show (y.tells ++ [_]).length = nt + 1; rw [qB, ht]; rfl) (hS'.keepR k2) (hLI.keepR k2) (hP.keepR k2) (hG.keepR k2) F (Nat.le_trans hn0 k2.size) (hJ _ _ _ (hJ _ _ _ h0 hb) hb2) hM;rw [e1] at this
   exact this
  exact atEnd (f + 1) i0 y pa cp ga ng gc ta nt tc pre W n (by omega) hi1 hy hg ht hP hG hT hn0 h0 hM
attribute [local go_sem] Oper.semAt_some
theorem LinesG.lin (h : LinesG W ad ls) : LinesIn W ls := fun j hj => by
 obtain ⟨b, off, _, _, ha⟩ := h j hj
 exact ha
theorem JS.stp {v : Value} (j : JS w v (ls.map stepV) W) : ∃ sa sc, v = .slice sa ls.length sc /\ (ls.length = 0 \/ ∃ SG, sa = some ⟨SG, 0, none⟩ /\ Stp W SG ls.length ls) := by
 rcases j.o.2 with ⟨e, h0⟩ | ⟨g, cap, cur, hv, hg, hh, hl, hc, hs, ht⟩
 ·rw [List.length_map] at h0
  exact ⟨none, 0, by rw [h0]; exact e, Or.inl h0⟩
 rw [List.length_map] at hv ht;refine ⟨_, cap, hv, Or.inr ⟨g, rfl, cur.toList, hh, fun i hi => ?_⟩⟩;rw [Nat.mul_one] at ht;have : (cur.toList.take ls.length)[i]? = cur.toList[i]? := List.getElem?_take_of_lt hi;rw [<- this, ht, List.getElem?_map, qA hi]
 rfl
theorem rs_func {P : Program} {a : Addr} {m : Mode} (fn : Fn) (first captured : Array Value) : (store a (.func fn first captured) m).run P w = stored P w a (.func fn first captured) m := run_store P w a _ m rfl
attribute [local go_sem] rs_func
theorem through_left (l n₀ : Nat) (J D : List RowM -> World -> Prop) (hJ : ∀ pre X Y, J pre X -> Below X.heap.size X Y -> J pre Y) (hY : RoundsD l n₀ J D 128) (aB : Nat) (ad : Option Addr) (N cap : Nat) (ls : List LV) (W : World) (n : Nat) (hN : ls.length = N) (hF : LinesG W ad ls) (hN1 : N <= 1048576) (hok : actB N ls = true) (hc : W.cell? ⟨aB, 0, none⟩ = some (.slice ad N cap)) (hn0 : n₀ <= W.heap.size) (h0 : J [] W) :
  CallsIn Fence.wide n Tryz.prog 110 #[.func (.yield l) #[] #[], .pointer (some ⟨aB, 0, none⟩)] W fun e Y => (∃ v, e = .returned v) /\ (J (rowsL ls) Y \/ ∃ ms rest, rowsL ls = ms ++ rest /\ D ms Y) /\ KpR W Y := by
 have hdd : ∀ k : Nat, (Fence.wide.depth.isSome = true -> 1 <= k) := fun k h => by simp [Fence.wide] at h
 refine callsIn_of_wp Tryz.func110 rfl trivial ?_ rfl;simp only [Tryz.ntmps110, List.size_toArray, qD, qE, Nat.reduceAdd, Nat.reduceSub, Array.replicate_succ, Array.replicate_zero, List.push_toArray, List.append_toArray, List.nil_append, List.cons_append]
 gi_wp2_with fail
 refine ⟨trivial, hdd _, (callsIn_wide.2 (isteps_any ad N cap ls hN hF hN1)).mono ?_⟩;rintro e w1 ⟨sv, rfl, b1, js⟩;rw [hok];have js := js hok;obtain ⟨sa, sc, rfl, hst⟩ := js.stp;rw [hN] at hst ⊢
 gi_wp2_with fail
 have bA : Below w1.heap.size w1 (w1.alloc (.cells #[.slice sa N sc, .func (.yield l) #[] #[]] 141)) := bal;have x0 := Cel.new w1 [.slice sa N sc, .func (.yield l) #[] #[]] 141;obtain ⟨W0, hW0⟩ : ∃ W0, W0 = w1.alloc (.cells #[.slice sa N sc, .func (.yield l) #[] #[]] 141) := ⟨_, rfl⟩
 rw [<- hW0] at bA x0 ⊢;clear hW0;have A : Below W.heap.size W W0 := btr b1 bA;have e0 : Below W0.heap.size W0 W0.drew := (Below.refl _ _).drew
 have KP : Hid (∀ X, KpR W0 X -> (X.cell? ⟨w1.heap.size, 0, none⟩ = some (.slice sa N sc) /\ X.cell? ⟨w1.heap.size, 1, none⟩ = some (.func (.yield l) #[] #[]))) := fun X hX => by
  have a1 := x0.keepR hX (by decide) (by decide)
  exact ⟨a1.cell 0, a1.cell 1⟩
 have hSS := KP.out _ (KpR.of e0);refine wpIn_region_S (fun w' => w'.cell? ⟨w1.heap.size, 0, none⟩ = some (.slice sa N sc) /\ w'.cell? ⟨w1.heap.size, 1, none⟩ = some (.func (.yield l) #[] #[])) (by kernel_rfl) ?_;refine tks 0 rfl rfl hSS ?_;clear hSS;refine wpAnyS_one (i := 1) (by kernel_rfl) rfl (fun K hK => ?_);go_simp;refine ⟨trivial, fun h => by simp [Fence.wide] at h, (callsIn_wide.2 (ipots_any)).mono ?_⟩;rintro e w2 ⟨v, xs, rfl, jv⟩;obtain ⟨pa, cp, rfl, hP⟩ := jv.slice rfl;have b2 : Below W0.heap.size W0 w2 := below_of_drew jv.b;have hS2 := KP.out _ (KpR.of b2);have B2 : Below W.heap.size W w2 := btr A b2;have J2 := hJ _ _ _ h0 B2;(try dsimp only);refine hK.out _ _ hS2 ?_;refine tks 2 rfl rfl hS2 ?_;have sB := B2.size
 have HC : Hid (CallsIn Fence.wide (n - 1) Tryz.prog 111 #[walkV l sa N sc, .int .i64 0, wayV none 0 0 pa cp none 0 0 false] w2 fun e Y => ∃ b : Bool, e = .returned (.bool b) /\ Went J D [] (rowsL ls) b Y /\ KpR w2 Y) := by
  obtain ⟨h6, hall⟩ := actB_parts hok;have hy := WayOk.start;have hG : ∀ X, FormsAt X none way0.guards := fun X i hi => by simp [way0] at hi
  have hT : ∀ X, FormsAt X none way0.tells := fun X i hi => by simp [way0] at hi
  rcases hst with hz | ⟨SG, rfl, hst⟩
  ·have := from_end l n₀ J D hJ 128 hY sa N sc 0 (by omega) (by omega) way0 pa cp none 0 0 none 0 0 false (endW way0) [] w2 (n - 1) (by omega) J2 (endW_fit hy) (by simp) (fun X hb => irow_end way0 none 0 0 pa cp none 0 0 X hy.pl rfl rfl (hP.keep hb) (hG X) (hT X) (fun k hk => (hy.pf k hk).mono (by have := wb_six (n := min 0 6) (by omega); omega)) (fun k hk => hy.gf k (by omega)) (fun k hk => hy.tf k (by omega)));rw [rowsL, goW_end (by omega)]
   exact this
  have k2 : KpR w1 w2 := (KpR.of bA).trans (KpR.of b2)
  exact from_any l n₀ J D hJ 128 hY SG N sc ls hN h6 hall 7 0 way0 pa cp none 0 0 none 0 0 [] w2 (n - 1) (by omega) (by omega) (by omega) hy rfl rfl (hst.keepR k2) (hF.lin.keepR (KpR.of B2)) hP (hG _) (hT _) (by omega) J2 (by have := goW_128 (ls := ls) (f := 7) (i := 0) (y := way0) (by omega); simp only [qE]; omega)
 refine wpAnyS_one (i := 3) (by kernel_rfl) rfl (fun K hK => ?_);go_simp;refine ⟨trivial, fun h => by simp [Fence.wide] at h, HC.out.mono ?_⟩;rintro e w3 ⟨z3, rfl, J3, k3⟩;have hS3 := KP.out _ ((KpR.of b2).trans k3);(try dsimp only);refine hK.out _ _ hS3 ?_;refine wpAnyS_done (by kernel_rfl) ?_ _;have KK := (KpR.of B2).trans k3;clear KP HC
 gi_wp2
 go_end0
 refine ⟨⟨_, rfl⟩, ?_, KK⟩
 rcases J3 with ⟨_, j⟩ | ⟨_, ms, rest, h1, h2⟩
 ·exact Or.inl j
 exact Or.inr ⟨ms, rest, h1, h2⟩
theorem through_any (l n₀ : Nat) (J : List RowM -> World -> Prop) (hJ : ∀ pre X Y, J pre X -> Below X.heap.size X Y -> J pre Y) (hY : Rounds l n₀ J 128) (aB : Nat) (ad : Option Addr) (N cap : Nat) (ls : List LV) (W : World) (n : Nat) (hN : ls.length = N) (hF : LinesG W ad ls) (hN1 : N <= 1048576) (hok : actB N ls = true) (hc : W.cell? ⟨aB, 0, none⟩ = some (.slice ad N cap)) (hn0 : n₀ <= W.heap.size) (h0 : J [] W) :
  CallsIn Fence.wide n Tryz.prog 110 #[.func (.yield l) #[] #[], .pointer (some ⟨aB, 0, none⟩)] W fun e Y => (∃ v, e = .returned v) /\ J (rowsL ls) Y /\ KpR W Y :=
 (through_left l n₀ J (fun _ _ => False) hJ hY.noD aB ad N cap ls W n hN hF hN1 hok hc hn0 h0).mono (fun e Y ⟨h1, h2, h3⟩ => ⟨h1, h2.elim id (fun ⟨_, _, _, h⟩ => h.elim), h3⟩)
attribute [local go_sem] Oper.semAt_some
theorem ithrough_any (ad : Option Addr) (N cap : Nat) (w : World) :
  Calls Tryz.prog 64 #[.slice ad N cap] w fun e w' => ∃ B, e = .returned (.func (.func 110) #[] #[.pointer (some ⟨B, 0, none⟩)]) /\ Below w.heap.size w w' /\ Cel w' B [.slice ad N cap] 45 := by
 have b := (Below.refl w.heap.size w).alloc (qF _) (.cells #[.slice ad N cap] 45);have c := Cel.new w [.slice ad N cap] 45
 go_enter Tryz.func64, Tryz.ntmps64
 go_wp2
 go_ret
 exact ⟨_, rfl, b, c⟩
theorem Cel.loop {r r' : Loop} (h : Cel X B vs t) (hl : X.heap[l]? = some (.loop r)) : Cel (X.putObj l (.loop r')) B vs t := by
 have hne : B ≠ l := fun e => by
  subst e;unfold Cel at h;rw [hl] at h
  cases h
 unfold Cel at *;rw [World.putObj_heap_other hne]; exact h
theorem below_loop {r' : Loop} (h : Below n w X) (hl : n <= l) : Below n w (X.putObj l (.loop r')) :=
 ⟨h.os, h.tape, h.output, by simpa [World.putObj] using h.size, fun k hk => (World.putObj_heap_other (by omega)).trans (h.block k hk)⟩
theorem Cel.defer {r : Option (List Deferred)} {o : Obj} (h : Cel X B vs t) (hl : X.heap[l]? = some (.deferred r)) : Cel (X.putObj l o) B vs t := by
 have hne : B ≠ l := fun e => by
  subst e;unfold Cel at h;rw [hl] at h
  cases h
 unfold Cel at *;rw [World.putObj_heap_other hne]; exact h
theorem below_put {o : Obj} (h : Below n w X) (hl : n <= l) : Below n w (X.putObj l o) :=
 ⟨h.os, h.tape, h.output, by simpa [World.putObj] using h.size, fun k hk => (World.putObj_heap_other (by omega)).trans (h.block k hk)⟩
theorem cel_past (h : Cel X B vs t) (k : Touch S X Y) (hn : ¬ S B := by omega) : Cel Y B vs t := by
 have hl := h.lt;unfold Cel at *;rw [k.block B hl hn]; exact h
theorem below_touch (h : Below w.heap.size w X) (t : Touch (fun k => k = G) X Y) (hG : w.heap.size <= G := by omega) : Below w.heap.size w Y :=
 ⟨t.os.trans h.os, t.tape.trans h.tape, t.output.trans h.output, Nat.le_trans h.size t.size, fun k hk => (t.block k (Nat.lt_of_lt_of_le hk h.size) (by omega)).trans (h.block k hk)⟩
theorem OwnBB.loose {f : Nat -> Bool} (h : OwnBB X G f) : Loose X.heap[G]? := fun cs t fr e => by
 unfold OwnBB Cel at h;rw [h] at e
 cases e
 refine ⟨Or.inl rfl, fun i q => ?_⟩
 match i with
 | 0 => simp
 | 1 => simp
 | 2 => simp
 | i + 3 => simp
theorem OwnBB.kpR {f : Nat -> Bool} (h : OwnBB X G f) (t : Touch (fun k => k = G) X Y) : KpR X Y := t.mono (fun k e => by subst e; exact h.loose)
theorem keeps_below (h : Below X.heap.size X Y) : KeepsFrom B X Y := ⟨h.size, fun k o _ hk _ => (h.block k (lt_of_block hk)).trans hk⟩
theorem keeps_touch (t : Touch (fun k => k = G) X Y) (hG : G < B := by omega) : KeepsFrom B X Y := ⟨t.size, fun k o hB hk _ => (t.block k (lt_of_block hk) (by omega)).trans hk⟩
theorem icatreads_in (ad : Option Addr) (N cap : Nat) (ls : List LV) (w : World) (n : Nat) (hN : ls.length = N) (hF : LinesG w ad ls) (hN1 : N <= 1048576) :
  CallsIn Fence.wide n Tryz.prog 66 #[.slice ad N cap] w fun e w' => Below w.heap.size w w' /\ ((actB N ls = false /\ e = .returned (.slice none 0 0)) \/ (actB N ls = true /\ ∃ G cG, e = .returned (.slice (some ⟨G, 0, none⟩) 3 cG) /\ w.heap.size <= G /\ OwnBB w' G (readsR (rowsL ls)))) := by
 have hdd : ∀ k : Nat, (Fence.wide.depth.isSome = true -> 1 <= k) := fun k h => by simp [Fence.wide] at h
 refine callsIn_of_wp_marks Tryz.func66 rfl trivial ?_ rfl;simp only [Tryz.ntmps66, List.size_toArray, qD, qE, Nat.reduceAdd, Nat.reduceSub, Array.replicate_succ, Array.replicate_zero, List.push_toArray, List.append_toArray, List.nil_append, List.cons_append]
 gi_wp2_with fail
 refine ⟨trivial, hdd _, (callsIn_wide.2 (iact_any ad N cap ls hN hF hN1)).mono ?_⟩;rintro e w1 ⟨rfl, b1⟩;obtain ⟨u, hu⟩ : ∃ u, actB N ls = u := ⟨_, rfl⟩
 rw [hu]
 cases u with
 | false =>
  gi_wp2
  exact ⟨_, results_tmp rfl _ _ _, b1, Or.inl ⟨hu, rfl⟩⟩
 | true =>
  obtain ⟨i0, hi, hz0, hz1, hz2⟩ := info_parts Tryz.infoBool;obtain ⟨w2, hrun, o2, g2⟩ := run_make_full (P := Tryz.prog) (w := w1) w1.heap.size 38 4 i0 (.bool false) 1 Tryz.underlying38 hi hz0 hz1 .i64 .i64 3 (by rw [hz2]; omega) (by unfold maxLen; omega) (qF _);have hrun' : (Instr.makeSlice 38 (.int .i64 3) (.int .i64 3)).run Tryz.prog w1 = .ok (.slice (some ⟨w1.heap.size, 0, none⟩) 3 3) w2 := hrun;have b2 : Below w1.heap.size w1 w2 := (Below.refl _ _).grown g2 (qF _) (by simp)
  have O2 : OwnBB w2 w1.heap.size (fun _ => false) := by
   rcases o2.2 with ⟨e, _⟩ | ⟨g, cp, cur, hv, hg, hh, hl, hc, hs, ht⟩
   ·cases e
   cases hv
   have hl3 : cur.toList.length = 3 := by rw [Array.length_toList]; omega
   rw [qC (by omega)] at ht
   have : cur = #[.bool false, .bool false, .bool false] := by
    apply Array.toList_inj.1
    rw [ht]; simpa [Value.cells] using toList_madeCells_one (.bool false) 3
   rw [this] at hh
   exact hh
  clear hrun o2 g2
  gi_wp2_with fail
  have bA : Below w2.heap.size w2 (w2.alloc (.cells #[.slice (some ⟨w1.heap.size, 0, none⟩) 3 3] 38)) := bal;have C3 := Cel.new w2 [.slice (some ⟨w1.heap.size, 0, none⟩) 3 3] 38;have O3 := O2.below bA;obtain ⟨w3, hw3⟩ : ∃ w3, w3 = w2.alloc (.cells #[.slice (some ⟨w1.heap.size, 0, none⟩) 3 3] 38) := ⟨_, rfl⟩
  rw [<- hw3] at bA C3 O3 ⊢;have lG := Cel.lt O2;clear hw3 hrun' O2;refine ⟨trivial, hdd _, (callsIn_wide.2 (ithrough_any ad N cap w3)).mono ?_⟩;rintro e w4 ⟨B, rfl, b4, cB⟩;have C4 := C3.below b4;have O4 := O3.below b4;have s2 := b2.size;have sA := bA.size;have s4 := b4.size;have B4 : Below w.heap.size w w4 := ((btr b1 b2).trans (bA.mono (Nat.le_trans b1.size s2))).trans (b4.mono (Nat.le_trans (Nat.le_trans b1.size s2) sA));have F4 := hF.below B4
  gi_wp2_with fail
  have s1 := b1.size
  refine wpIn_rows (α := Value × RowM) (gf := 110) (lb := #[.pointer (some ⟨B, 0, none⟩)]) rfl (enters_of Tryz.func110 (by kernel_rfl) rfl) (encs := fun x => #[x.1]) (fun _ => rfl)
   (fun _ x X => RowFit x.2 /\ RowX X w4.heap.size x.1 x.2) KpR (fun xs => xs.map Prod.snd = rowsL ls)
   (fun pre X => OwnBB X w1.heap.size (readsR (pre.map Prod.snd)) /\ Cel X w2.heap.size [.slice (some ⟨w1.heap.size, 0, none⟩) 3 3] 38 /\ Below w.heap.size w X)
   (fun pre X Y h b => ⟨h.1.below b, h.2.1.below b, h.2.2.trans (b.mono h.2.2.size)⟩)
   (fun pre X l r r' h hl lt => ⟨Cel.loop h.1 hl, h.2.1.loop hl, below_loop h.2.2 (by have := B4.size; omega)⟩) KpR.loop (fun X Y Z => KpR.trans) ⟨O4, C4, B4⟩ ?seq ?round ?done
  case seq =>
   intro l J W hJ hb hJ0 hY;have e0 : (#[.func (.yield l) #[] #[]] ++ #[.pointer (some ⟨B, 0, none⟩)] : Array Value) = #[.func (.yield l) #[] #[], .pointer (some ⟨B, 0, none⟩)] := rfl;rw [e0];refine (through_any l w4.heap.size (fun rs X => ∃ xs : List (Value × RowM), xs.map Prod.snd = rs /\ J xs X) (fun rs X Y h b => ?_) (fun m rs v r X h fit rx _ => ?_) B ad N cap ls W (n - 1) hN (F4.below hb) hN1 hu ((cB.below hb).cell 0) hb.size ⟨[], rfl, hJ0⟩).mono ?_
   ·obtain ⟨xs, e, j⟩ := h
    exact ⟨xs, e, hJ _ _ _ j b⟩
   ·obtain ⟨xs, e, j⟩ := h;obtain ⟨fn, tmps, assign, body, hy, hR⟩ := hY m xs (v, r) X j ⟨fit, rx⟩;refine ⟨fn, tmps, assign, body, hy, hR.mono ?_⟩;rintro e' Y ⟨a, b, c⟩
    exact ⟨a, ⟨xs ++ [(v, r)], by simp [e], b⟩, c⟩
   rintro e Y ⟨h1, ⟨xs, e1, j⟩, _⟩
   exact ⟨h1, xs, e1, j⟩
  case round =>
   rintro m l pre ⟨v, rm⟩ X r ⟨hO, hC, hB⟩ ⟨fit, rx⟩ hl hlt;dsimp only at fit rx;obtain ⟨ga, gc, aa, ac, ta, tc, rfl, f0, f1, f2⟩ := rx;dsimp only
   gi_wp2_with fail
   have bx : Below X.heap.size X (X.alloc (.cells #[.slice ga rm.guards.length gc, .slice aa rm.adds.length ac, .slice ta rm.tells.length tc, .bool rm.stop] 76)) := bal;have cx := Cel.new X [.slice ga rm.guards.length gc, .slice aa rm.adds.length ac, .slice ta rm.tells.length tc, .bool rm.stop] 76;have hl1 := (bx.block l (lt_of_block hl)).trans hl;refine ⟨keeps_below bx, KpR.of bx, ?_⟩;have O1 : OwnBB _ _ _ := Cel.loop (r' := { r with state := .busy }) (hO.below bx) hl1;have C1 := Cel.loop (r' := { r with state := .busy }) (hC.below bx) hl1;have X1 := Cel.loop (r' := { r with state := .busy }) cx hl1;have k1 : KpR X _ := (KpR.of bx).trans (KpR.loop _ l r { r with state := .busy } hl1);have B1 := below_loop (r' := { r with state := .busy }) (btr hB bx) (l := l) (by have := B4.size; omega);obtain ⟨Y, hY⟩ : ∃ Y, Y = (X.alloc (.cells #[.slice ga rm.guards.length gc, .slice aa rm.adds.length ac, .slice ta rm.tells.length tc, .bool rm.stop] 76)).putObj l (.loop { r with state := .busy }) := ⟨_, rfl⟩
   rw [<- hY] at O1 C1 X1 k1 B1 ⊢;clear hY;have FA := f1.at.keepR k1;have FT := f2.at.keepR k1;have hc := C1.cell 0;have hx1 := X1.cell 1;have lX := Cel.lt hO
   gi_wp2_with fail
   refine ⟨trivial, hdd _, CallsIn.mono (CallsIn.inRound l (callsIn_wide.2 (imarkpots_any rm.adds Y O1 rfl FA fit.a (by have := fit.la; omega)))) ?_⟩;rintro e Y1 ⟨⟨v1, rfl⟩, t1, O2⟩;have C2 := cel_past C1 t1;have X2 := cel_past X1 t1;have FT2 := FT.past2 O1.no t1;have hc2 := C2.cell 0;have hx2 := X2.cell 2;clear hc hx1
   gi_wp2_with fail
   refine ⟨trivial, hdd _, CallsIn.mono (CallsIn.inRound l (callsIn_wide.2 (imarkpots_any rm.tells Y1 O2 rfl FT2 fit.t (by have := fit.lt; omega)))) ?_⟩;rintro e Y2 ⟨⟨v2, rfl⟩, t2, O3⟩;have C3' := cel_past C2 t2;clear hc2 hx2
   gi_wp2_with fail
   refine ⟨(keeps_touch t1).trans (keeps_touch t2), (O1.kpR t1).trans (O2.kpR t2), O3.ext (fun v hv => ?_), C3', below_touch (below_touch B1 t1) t2⟩;simp [readsF, readsR, Bool.or_assoc]
  case done =>
   rintro D xs W hD hS ⟨hO, hC, hB⟩ hK;have hc := hC.cell 0
   gi_wp2
   refine ⟨by simp, .inl ⟨_, _, rfl, run_takeDeferred hK, ?_⟩⟩;refine ⟨_, results_tmp rfl _ _ _, ?_⟩;rw [hS] at hO
   exact ⟨below_put hB (by have := B4.size; omega), Or.inr ⟨hu, _, _, rfl, s1, Cel.defer hO hK⟩⟩
theorem icatreads_any (ls : List LV) {w : World} (hN : ls.length = N) (hF : LinesG w ad ls) (hN1 : N <= 1048576) :
  Calls Tryz.prog 66 #[.slice ad N cap] w fun e w' => Below w.heap.size w w' /\ ((actB N ls = false /\ e = .returned (.slice none 0 0)) \/ (actB N ls = true /\ ∃ G cG, e = .returned (.slice (some ⟨G, 0, none⟩) 3 cG) /\ w.heap.size <= G /\ OwnBB w' G (readsR (rowsL ls)))) :=
 callsIn_wide.1 (icatreads_in ad N cap ls w 0 hN hF hN1)
def BA (W : World) (a : Option Addr) (n : Nat) (f : Nat -> Bool) : Prop := ∀ j, j < n -> ∃ b off, a = some ⟨b, off, none⟩ /\ W.cell? ⟨b, off + j, none⟩ = some (.bool (f j))
theorem catB_parts {ss : List L2V} (h : catB N ss = true) : N <= 4 /\ ss.all L2V.ok = true := by
 simp only [catB, Bool.and_eq_true] at h;have := inB_iff.1 h.1
 exact ⟨by omega, h.2⟩
theorem scatpins_any (ss : List L2V) {w : World} (hN : ss.length = N) (hF : LSG w ad ss) (hN1 : N <= 1048576) :
  Calls Tryz.prog 43 #[.slice ad N cap] w fun e w' => Below w.heap.size w w' /\ ((catB N ss = false /\ ∃ G, e = .returned (.slice (some ⟨G, 0, none⟩) 0 0)) \/ (catB N ss = true /\ ∃ G cG, e = .returned (.slice (some ⟨G, 0, none⟩) 3 cG) /\ w.heap.size <= G /\ OwnB w' G (pinsA ss))) := by
 have HN : Hid (ss.length = N) := hN;clear hN;obtain ⟨u, hu⟩ : ∃ u, catB N ss = u := ⟨_, rfl⟩
 have HU : Hid (catB N ss = u) := hu
 go_enter Tryz.func43, Tryz.ntmps43
 go_wp2_with fail
 refine (scat_any ss HN.out hF hN1).mono ?_;rintro e w1 ⟨rfl, b1⟩;rw [hu];clear hu
 cases u with
 | false =>
  have B2 := b1.alloc b1.size (.cells #[] 4)
  go_wp2
  go_ret
  exact ⟨B2, .inl ⟨HU.out, _, rfl⟩⟩
 | true =>
  go_wp2_with fail
  refine (sboth_any ss HN.out (hF.below b1) (catB_parts HU.out).2 (catB_parts HU.out).1).mono ?_;rintro e w2 ⟨G, cG, ts, nt, Gp, cp, rfl, hl, jp, hx, hnt, o, lGp⟩;have B2 := btr b1 jp.b;have lG : w.heap.size <= Gp := Nat.le_trans b1.size lGp;clear jp hx hl
  go_wp2
  go_ret
  exact ⟨B2, .inr ⟨HU.out, Gp, cp, rfl, lG, o⟩⟩
theorem icatpins_any (ad : Option Addr) (N cap : Nat) (ss : List L2V) (w : World) (hN : ss.length = N) (hF : LSG w ad ss) (hN1 : N <= 1048576) :
  Calls Tryz.prog 15 #[.slice ad N cap] w fun e w' => Below w.heap.size w w' /\ ((catB N ss = false /\ e = .returned (.slice none 0 0)) \/ (catB N ss = true /\ ∃ G cG, e = .returned (.slice (some ⟨G, 0, none⟩) 3 cG) /\ w.heap.size <= G /\ OwnBB w' G (pinsA ss))) := by
 have HN : Hid (ss.length = N) := hN;have HF : Hid (LSG w ad ss) := hF;clear hN;obtain ⟨u, hu⟩ : ∃ u, catB N ss = u := ⟨_, rfl⟩
 have HU : Hid (catB N ss = u) := hu
 go_enter Tryz.func15, Tryz.ntmps15
 go_wp2_with fail
 refine (icat_any _ _ _ ss HN.out hF hN1).mono ?_;rintro e w1 ⟨rfl, b1⟩;rw [hu];clear hu hF
 cases u with
 | false =>
  go_wp2
  go_ret
  exact ⟨b1, .inl ⟨HU.out, rfl⟩⟩
 | true =>
  obtain ⟨i0, hi, hz0, hz1, hz2⟩ := info_parts Tryz.infoBool;obtain ⟨w2, hrun, o2, g2⟩ := run_make_full (P := Tryz.prog) (w := w1) w1.heap.size 38 4 i0 (.bool false) 1 Tryz.underlying38 hi hz0 hz1 .i64 .i64 3 (by rw [hz2]; omega) (by unfold maxLen; omega) (qF _);have hrun' : (Instr.makeSlice 38 (.int .i64 3) (.int .i64 3)).run Tryz.prog w1 = .ok (.slice (some ⟨w1.heap.size, 0, none⟩) 3 3) w2 := hrun;have b2 : Below w1.heap.size w1 w2 := (Below.refl _ _).grown g2 (qF _) (by simp)
  have O2 : OwnBB w2 w1.heap.size (pinsA (ss.take 0)) := by
   rcases o2.2 with ⟨e, _⟩ | ⟨g, cp, cur, hv, hg, hh, hl, hc, hs, ht⟩
   ·cases e
   cases hv
   have hl3 : cur.toList.length = 3 := by rw [Array.length_toList]; omega
   rw [qC (by omega)] at ht
   have : cur = #[.bool false, .bool false, .bool false] := by
    apply Array.toList_inj.1
    rw [ht]; simpa [Value.cells] using toList_madeCells_one (.bool false) 3
   rw [this] at hh
   exact hh
  have B2 := btr b1 b2;have lG0 := b1.size;have N4 := (catB_parts HU.out).1;have HALL : Hid (ss.all L2V.ok = true) := (catB_parts HU.out).2;obtain ⟨G, hG⟩ : ∃ G, G = w1.heap.size := ⟨_, rfl⟩
  rw [<- hG] at O2 lG0 hrun';clear hrun o2 g2 b1 b2 hG
  go_wp2_with fail
  go_loopw [5, 6, 7, 14] (fun _ _ _ i wr => ∃ k : Nat, k <= N /\ i = .int .i64 k /\ Below w.heap.size w wr /\ OwnBB wr G (pinsA (ss.take k))) (fun _ _ _ i _ => N - (intOf i).toNat)
  case atStart => exact ⟨0, Nat.zero_le _, rfl, B2, O2⟩
  case round =>
   clear B2 O2 hrun';obtain ⟨k, hk, rfl, hb, o⟩ := hrel
   by_cases hlt : k < N
   ·have hlt' : (k : Int) < N := by omega
    have his : k < ss.length := by rw [HN.out]; exact hlt
    obtain ⟨ab, ao, rfl, hc, hLG⟩ := (HF.out.below hb) k his;have HSB : Hid (∀ v, pinsA (ss.take (k + 1)) v = (pinsA (ss.take k) v || readsR (rowsL (ss[k]?.getD noL).x) v)) := fun v => pinsA_snoc ss k his v
    have hsok : (ss[k]?.getD noL).ok = true := by
     rw [qA his]
     exact List.all_eq_true.1 HALL.out _ (List.getElem_mem his)
    obtain ⟨s, hs⟩ : ∃ s, s = ss[k]?.getD noL := ⟨_, rfl⟩
    rw [<- hs] at hc hLG HSB hsok;obtain ⟨sa, sn, sc, sx⟩ := s;have hAct : actB sn sx = true := hsok;obtain ⟨hxl, hLin, hsn⟩ := hLG;have hc' : wr.cell? ⟨ab, ao + k, none⟩ = some (.slice sa sn sc) := hc;have HXL : Hid (sx.length = sn) := hxl;have HLIN : Hid (LinesG wr sa sx) := hLin;have HAC : Hid (actB sn sx = true) := hAct;clear hs hc hsok hxl hLin hAct
    go_wp2_with fail
    refine (icatreads_any sx HXL.out HLIN.out hsn).mono ?_;rintro ee w3 ⟨b3, h⟩
    obtain ⟨G3, c3, rfl, lG3, o3⟩ : ∃ G3 c3, ee = .returned (.slice (some ⟨G3, 0, none⟩) 3 c3) /\ wr.heap.size <= G3 /\ OwnBB w3 G3 (readsR (rowsL sx)) := by
     rcases h with ⟨h, _⟩ | ⟨_, G3, c3, h1, h2, h3⟩
     ·rw [HAC.out] at h; cases h
     exact ⟨G3, c3, h1, h2, h3⟩
    have lo : G < wr.heap.size := Cel.lt o;have hb3 := btr hb b3;have oo : OwnBB w3 G (fun v => if v < 0 then pinsA (ss.take (k + 1)) v else pinsA (ss.take k) v) := (o.below b3).ext (fun v hv => by simp);obtain ⟨rd, hrd⟩ : ∃ rd, rd = readsR (rowsL sx) := ⟨_, rfl⟩
    have HSB' : Hid (∀ v, pinsA (ss.take (k + 1)) v = (pinsA (ss.take k) v || rd v)) := fun v => by rw [hrd]; exact HSB.out v
    rw [<- hrd] at o3;have ne3 : G ≠ G3 := by omega
    clear h o b3 hb HXL HLIN HAC HSB hrd hc'
    go_wp2_with fail
    go_loopw [6, 7, 21] (fun _ _ i wr => ∃ u : Nat, u <= 3 /\ i = .int .i64 u /\ Below w.heap.size w wr /\ OwnBB wr G3 rd /\ OwnBB wr G (fun v => if v < u then pinsA (ss.take (k + 1)) v else pinsA (ss.take k) v)) (fun _ _ i _ => 3 - (intOf i).toNat)
    case atStart => exact ⟨0, by omega, rfl, hb3, o3, oo⟩
    case round =>
     clear hb3 o3 oo;obtain ⟨u, hu, rfl, hb, o3, o⟩ := hrel
     by_cases hu3 : u < 3
     ·have hu' : (u : Int) < 3 := by omega
      have r0 := (o3.at hu3).1
      have g0 : wr.cell? ⟨G, u, none⟩ = some (.bool (pinsA (ss.take k) u)) := by
       have := (o.at hu3).1;simpa using this
      have fz := (o.at hu3).2
      cases hold : pinsA (ss.take k) u
      ·rw [hold] at g0
       have O2 : Hid (OwnBB (wr.setCell ⟨G, u, none⟩ (.bool (rd u))) G (fun v => if v < u + 1 then pinsA (ss.take (k + 1)) v else pinsA (ss.take k) v)) := (o.set hu3 (rd u)).ext (fun v hv => by
        by_cases e : v = u
        ·subst e; simp only [if_true, Nat.lt_succ_self]; rw [HSB'.out, hold]; simp
        simp only [e, if_false]
        by_cases e2 : v < u
        ·rw [if_pos e2, if_pos (by omega)]
        rw [if_neg e2, if_neg (by omega)])
       have B2 := hb.setCell (p := ⟨G, u, none⟩) (by simpa using lG0) (.bool (rd u));have o32 : OwnBB (wr.setCell ⟨G, u, none⟩ (.bool (rd u))) G3 rd := Cel.setOther o3 (by omega) _ _;clear o o3 hold
       go_wp2
       go_roundw
       case rel => exact ⟨u + 1, by omega, by go_num, B2, o32, O2.out⟩
       case measure => simp [intOf]; omega
      rw [hold] at g0
      have O2 : Hid (OwnBB (wr.setCell ⟨G, u, none⟩ (.bool true)) G (fun v => if v < u + 1 then pinsA (ss.take (k + 1)) v else pinsA (ss.take k) v)) := (o.set hu3 true).ext (fun v hv => by
       by_cases e : v = u
       ·subst e; simp only [if_true, Nat.lt_succ_self]; rw [HSB'.out, hold]; simp
       simp only [e, if_false]
       by_cases e2 : v < u
       ·rw [if_pos e2, if_pos (by omega)]
       rw [if_neg e2, if_neg (by omega)])
      have B2 := hb.setCell (p := ⟨G, u, none⟩) (by simpa using lG0) (.bool true);have o32 : OwnBB (wr.setCell ⟨G, u, none⟩ (.bool true)) G3 rd := Cel.setOther o3 (by omega) _ _;clear o o3 hold
      go_wp2
      go_roundw
      case rel => exact ⟨u + 1, by omega, by go_num, B2, o32, O2.out⟩
      case measure => simp [intOf]; omega
     obtain rfl : u = 3 := by omega
     have O3 : Hid (OwnBB wr G (pinsA (ss.take (k + 1)))) := o.ext (fun v hv => by simp only [hv, if_true]);clear o o3
     go_wp2
     go_roundw
     case rel => exact ⟨k + 1, by omega, by go_num, hb, O3.out⟩
     case measure => simp [intOf]; omega
   obtain rfl : k = N := by omega
   have O3 : OwnBB wr G (pinsA ss) := by
    have : ss.take k = ss := qC (by rw [HN.out]; exact qF _);rw [this] at o; exact o
   go_wp2
   go_ret
   exact ⟨hb, .inr ⟨HU.out, G, 3, rfl, lG0, O3⟩⟩
theorem acts_late {W' : World} {R : Nat} {a : Option Addr} {bs : List Int} {q : Int} {c : Nat} {ss : List L2V} (j : JBs w R a n cap bs q (.slice ad N c) ss W) (hl : ss.length = N) (t : Touch S W W') (hS : ∀ k, S k -> k < w.heap.size \/ W.heap.size <= k) : LSG W' ad ss := by
 intro i hi;have lR := j.lR
 rcases j.o.2 with ⟨hv, h0⟩ | ⟨g, cap', cur, hv, hg, hh, _⟩
 ·omega
 have hv' : ad = some ⟨g, 0, none⟩ := by simp only [Value.slice.injEq] at hv; exact hv.1
 subst hv';have hgl := lt_of_block hh;refine ⟨g, 0, rfl, ?_, ((j.ac i hi).touch t (fun b hb hs => by have := hS b hs; omega)).lg⟩;have o := j.o;rw [hl] at o;have h1 := o.cellAt i (by omega);rw [Nat.zero_add, World.cell?_of_block (t.block g hgl (fun hs => by have := hS g hs; omega)), h1, List.getElem?_map, qA hi];simp
theorem Ints.off' {W' : World} {a : Option Addr} {zs : List Int} (h : Ints W a n zs) (t : Touch S W W') (hS : 0 < n -> ∀ b o, a = some ⟨b, o, none⟩ -> ¬ S b) : Ints W' a n zs := by
 by_cases h0 : 0 < n
 ·exact h.off t (hS h0)
 exact ⟨h.1, fun i hi => by omega⟩
theorem lit000 (V : World) : Ints (V.alloc (.cells #[.int .i64 0, .int .i64 0, .int .i64 0] 3)) (some ⟨V.heap.size, 0, none⟩) 3 [0, 0, 0] := by
 have q := Cel.new V [.int .i64 0, .int .i64 0, .int .i64 0] 3;refine ⟨rfl, fun i hi => ⟨_, 0, rfl, ?_⟩⟩;rw [Nat.zero_add, q.cell i]
 rcases i with _ | _ | _ | i
 ·rfl
 ·rfl
 ·rfl
 omega
def At2 (W : World) (b o : Nat) (v : Value) : Prop := W.cell? ⟨b, o, none⟩ = some v
end Go.Proofs.YtemcinobgdphnaaGreat
