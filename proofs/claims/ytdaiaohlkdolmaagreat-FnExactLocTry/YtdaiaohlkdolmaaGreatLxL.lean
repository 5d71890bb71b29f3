/-
  Lemmas that the claim's last text rests on.
-/
import Derived.Test.YtdaiaohlkdolmaaGreatLxK
namespace Go.Proofs.YtdaiaohlkdolmaaGreat
open Go.RowKit Go.Deep Go.Shelf Go.ChangeShapes Go.WideShapes Go.ChangeAt Go.Joins
open World renaming size_alloc → qA
open List renaming getElem?_eq_getElem → qB, getElem?_cons_zero → qC, getElem?_cons_succ → qD, take_of_length_le → qE, length_nil → qF
open Nat renaming le_refl → qG, zero_le → qH
set_option linter.unusedVariables false
set_option maxRecDepth 100000
set_option maxHeartbeats 25600000
variable {B G N cap cap' k l m n : Nat} {E : List Int} {W X Y w : World} {a ad c : Option Addr} {g : Int} {t : TypeId} {v0 v1 : Value} {vs : List Value}
attribute [local go_sem] Oper.semAt_some
theorem LinesG.lin {ls : List LV} (h : LinesG W ad ls) : LinesIn W ls := fun j hj => by
 obtain ⟨b, off, _, _, ha⟩ := h j hj
 exact ha
theorem JS.stp {v : Value} {ls : List LV} (j : JS w v (ls.map stepV) W) : ∃ sa sc, v = .slice sa ls.length sc /\ (ls.length = 0 \/ ∃ SG, sa = some ⟨SG, 0, none⟩ /\ Stp W SG ls.length ls) := by
 rcases j.o.2 with ⟨e, h0⟩ | ⟨g, cap, cur, hv, hg, hh, hl, hc, hs, ht⟩
 ·rw [List.length_map] at h0
  exact ⟨none, 0, by rw [h0]; exact e, Or.inl h0⟩
 rw [List.length_map] at hv ht;refine ⟨_, cap, hv, Or.inr ⟨g, rfl, cur.toList, hh, fun i hi => ?_⟩⟩;rw [Nat.mul_one] at ht;have : (cur.toList.take ls.length)[i]? = cur.toList[i]? := List.getElem?_take_of_lt hi;rw [<- this, ht, List.getElem?_map, qB hi]
 rfl
theorem rs_func {P : Program} {a : Addr} {m : Mode} (fn : Fn) (first captured : Array Value) : (store a (.func fn first captured) m).run P w = stored P w a (.func fn first captured) m := run_store P w a _ m rfl
attribute [local go_sem] rs_func
theorem through_left (l n₀ : Nat) (J D : List RowM -> World -> Prop) (hJ : ∀ pre X Y, J pre X -> Below X.heap.size X Y -> J pre Y) (hY : RoundsD l n₀ J D 128) (aB : Nat) (ad : Option Addr) (N cap : Nat) (ls : List LV) (W : World) (n : Nat) (hN : ls.length = N) (hF : LinesG W ad ls) (hN1 : N <= 1048576) (hok : actB N ls = true) (hc : W.cell? ⟨aB, 0, none⟩ = some (.slice ad N cap)) (hn0 : n₀ <= W.heap.size) (h0 : J [] W) :
  CallsIn Fence.wide n Tryz.prog 94 #[.func (.yield l) #[] #[], .pointer (some ⟨aB, 0, none⟩)] W fun e Y => (∃ v, e = .returned v) /\ (J (rowsL ls) Y \/ ∃ ms rest, rowsL ls = ms ++ rest /\ D ms Y) /\ KpR W Y := by
 have hdd : ∀ k : Nat, (Fence.wide.depth.isSome = true -> 1 <= k) := fun k h => by simp [Fence.wide] at h
 refine callsIn_of_wp Tryz.func94 rfl trivial ?_ rfl;simp only [Tryz.ntmps94, List.size_toArray, List.length_cons, qF, Nat.reduceAdd, Nat.reduceSub, Array.replicate_succ, Array.replicate_zero, List.push_toArray, List.append_toArray, List.nil_append, List.cons_append]
 gi_wp2_with fail
 refine ⟨trivial, hdd _, (callsIn_wide.2 (isteps_any ad N cap ls hN hF hN1)).mono ?_⟩;rintro e w1 ⟨sv, rfl, b1, js⟩;rw [hok];have js := js hok;obtain ⟨sa, sc, rfl, hst⟩ := js.stp;rw [hN] at hst ⊢
 gi_wp2_with fail
 have bA : Below w1.heap.size w1 (w1.alloc (.cells #[.slice sa N sc, .func (.yield l) #[] #[]] 135)) := bal;have x0 := Cel.new w1 [.slice sa N sc, .func (.yield l) #[] #[]] 135;obtain ⟨W0, hW0⟩ : ∃ W0, W0 = w1.alloc (.cells #[.slice sa N sc, .func (.yield l) #[] #[]] 135) := ⟨_, rfl⟩
 rw [<- hW0] at bA x0 ⊢;clear hW0;have A : Below W.heap.size W W0 := btr b1 bA;have e0 : Below W0.heap.size W0 W0.drew := (Below.refl _ _).drew
 have KP : Hid (∀ X, KpR W0 X -> (X.cell? ⟨w1.heap.size, 0, none⟩ = some (.slice sa N sc) /\ X.cell? ⟨w1.heap.size, 1, none⟩ = some (.func (.yield l) #[] #[]))) := fun X hX => by
  have a1 := x0.keepR hX (by decide) (by decide)
  exact ⟨a1.cell 0, a1.cell 1⟩
 have hSS := KP.out _ (KpR.of e0);refine wpIn_region_S (fun w' => w'.cell? ⟨w1.heap.size, 0, none⟩ = some (.slice sa N sc) /\ w'.cell? ⟨w1.heap.size, 1, none⟩ = some (.func (.yield l) #[] #[])) (by kernel_rfl) ?_;refine tks 0 rfl rfl hSS ?_;clear hSS;refine wpAnyS_one (i := 1) (by kernel_rfl) rfl (fun K hK => ?_);go_simp;refine ⟨trivial, fun h => by simp [Fence.wide] at h, (callsIn_wide.2 (ipots_any)).mono ?_⟩;rintro e w2 ⟨v, xs, rfl, jv⟩;obtain ⟨pa, cp, rfl, hP⟩ := jv.slice rfl;have b2 : Below W0.heap.size W0 w2 := below_of_drew jv.b;have hS2 := KP.out _ (KpR.of b2);have B2 : Below W.heap.size W w2 := btr A b2;have J2 := hJ _ _ _ h0 B2;(try dsimp only);refine hK.out _ _ hS2 ?_;refine tks 2 rfl rfl hS2 ?_;have sB := B2.size
 have HC : Hid (CallsIn Fence.wide (n - 1) Tryz.prog 95 #[walkV l sa N sc, .int .i64 0, wayV none 0 0 pa cp none 0 0 false] w2 fun e Y => ∃ b : Bool, e = .returned (.bool b) /\ Went J D [] (rowsL ls) b Y /\ KpR w2 Y) := by
  obtain ⟨h6, hall⟩ := actB_parts hok;have hy := WayOk.start;have hG : ∀ X, FormsAt X none way0.guards := fun X i hi => by simp [way0] at hi
  have hT : ∀ X, FormsAt X none way0.tells := fun X i hi => by simp [way0] at hi
  rcases hst with hz | ⟨SG, rfl, hst⟩
  ·have := from_end l n₀ J D hJ 128 hY sa N sc 0 (by omega) (by omega) way0 pa cp none 0 0 none 0 0 false (endW way0) [] w2 (n - 1) (by omega) J2 (endW_fit hy) (by simp) (fun X hb => irow_end way0 none 0 0 pa cp none 0 0 X hy.pl rfl rfl (hP.keep hb) (hG X) (hT X) (fun k hk => (hy.pf k hk).mono (by have := wb_six (n := min 0 6) (by omega); omega)) (fun k hk => hy.gf k (by omega)) (fun k hk => hy.tf k (by omega)));rw [rowsL, goW_end (by omega)]
   exact this
  have k2 : KpR w1 w2 := (KpR.of bA).trans (KpR.of b2)
  exact from_any l n₀ J D hJ 128 hY SG N sc ls hN h6 hall 7 0 way0 pa cp none 0 0 none 0 0 [] w2 (n - 1) (by omega) (by omega) (by omega) hy rfl rfl (hst.keepR k2) (hF.lin.keepR (KpR.of B2)) hP (hG _) (hT _) (by omega) J2 (by have := goW_128 (ls := ls) (f := 7) (i := 0) (y := way0) (by omega); simp only [qF]; omega)
 refine wpAnyS_one (i := 3) (by kernel_rfl) rfl (fun K hK => ?_);go_simp;refine ⟨trivial, fun h => by simp [Fence.wide] at h, HC.out.mono ?_⟩;rintro e w3 ⟨z3, rfl, J3, k3⟩;have hS3 := KP.out _ ((KpR.of b2).trans k3);(try dsimp only);refine hK.out _ _ hS3 ?_;refine wpAnyS_done (by kernel_rfl) ?_ _;have KK := (KpR.of B2).trans k3;clear KP HC
 gi_wp2
 go_end0
 refine ⟨⟨_, rfl⟩, ?_, KK⟩
 rcases J3 with ⟨_, j⟩ | ⟨_, ms, rest, h1, h2⟩
 ·exact Or.inl j
 exact Or.inr ⟨ms, rest, h1, h2⟩
theorem through_any (l n₀ : Nat) (J : List RowM -> World -> Prop) (hJ : ∀ pre X Y, J pre X -> Below X.heap.size X Y -> J pre Y) (hY : Rounds l n₀ J 128) (aB : Nat) (ad : Option Addr) (N cap : Nat) (ls : List LV) (W : World) (n : Nat) (hN : ls.length = N) (hF : LinesG W ad ls) (hN1 : N <= 1048576) (hok : actB N ls = true) (hc : W.cell? ⟨aB, 0, none⟩ = some (.slice ad N cap)) (hn0 : n₀ <= W.heap.size) (h0 : J [] W) :
  CallsIn Fence.wide n Tryz.prog 94 #[.func (.yield l) #[] #[], .pointer (some ⟨aB, 0, none⟩)] W fun e Y => (∃ v, e = .returned v) /\ J (rowsL ls) Y /\ KpR W Y :=
 (through_left l n₀ J (fun _ _ => False) hJ hY.noD aB ad N cap ls W n hN hF hN1 hok hc hn0 h0).mono (fun e Y ⟨h1, h2, h3⟩ => ⟨h1, h2.elim id (fun ⟨_, _, _, h⟩ => h.elim), h3⟩)
attribute [local go_sem] Oper.semAt_some
theorem ithrough_any (ad : Option Addr) (N cap : Nat) (w : World) :
  Calls Tryz.prog 64 #[.slice ad N cap] w fun e w' => ∃ B, e = .returned (.func (.func 94) #[] #[.pointer (some ⟨B, 0, none⟩)]) /\ Below w.heap.size w w' /\ Cel w' B [.slice ad N cap] 58 := by
 have b := (Below.refl w.heap.size w).alloc (qG _) (.cells #[.slice ad N cap] 58);have c := Cel.new w [.slice ad N cap] 58
 go_enter Tryz.func64, Tryz.ntmps64
 go_wp2
 go_ret
 exact ⟨_, rfl, b, c⟩
theorem Cel.loop {r r' : Loop} (h : Cel X B vs t) (hl : X.heap[l]? = some (.loop r)) : Cel (X.putObj l (.loop r')) B vs t := by
 have hne : B ≠ l := fun e => by
  subst e;unfold Cel at h;rw [hl] at h
  cases h
 unfold Cel at *;rw [World.putObj_heap_other hne]; exact h
theorem below_loop {r' : Loop} (h : Below n w X) (hl : n <= l) : Below n w (X.putObj l (.loop r')) :=
 ⟨h.os, h.tape, h.output, by simpa [World.putObj] using h.size, fun k hk => (World.putObj_heap_other (by omega)).trans (h.block k hk)⟩
theorem Cel.defer {r : Option (List Deferred)} {o : Obj} (h : Cel X B vs t) (hl : X.heap[l]? = some (.deferred r)) : Cel (X.putObj l o) B vs t := by
 have hne : B ≠ l := fun e => by
  subst e;unfold Cel at h;rw [hl] at h
  cases h
 unfold Cel at *;rw [World.putObj_heap_other hne]; exact h
theorem below_put {o : Obj} (h : Below n w X) (hl : n <= l) : Below n w (X.putObj l o) :=
 ⟨h.os, h.tape, h.output, by simpa [World.putObj] using h.size, fun k hk => (World.putObj_heap_other (by omega)).trans (h.block k hk)⟩
theorem cel_past {S : Nat -> Prop} (h : Cel X B vs t) (k : Touch S X Y) (hn : ¬ S B := by omega) : Cel Y B vs t := by
 have hl := h.lt;unfold Cel at *;rw [k.block B hl hn]; exact h
theorem below_touch (h : Below w.heap.size w X) (t : Touch (fun k => k = G) X Y) (hG : w.heap.size <= G := by omega) : Below w.heap.size w Y :=
 ⟨t.os.trans h.os, t.tape.trans h.tape, t.output.trans h.output, Nat.le_trans h.size t.size, fun k hk => (t.block k (Nat.lt_of_lt_of_le hk h.size) (by omega)).trans (h.block k hk)⟩
theorem OwnBB.loose {f : Nat -> Bool} (h : OwnBB X G f) : Loose X.heap[G]? := fun cs t fr e => by
 unfold OwnBB Cel at h;rw [h] at e
 cases e
 refine ⟨Or.inl rfl, fun i q => ?_⟩
 match i with
 | 0 => simp
 | 1 => simp
 | 2 => simp
 | i + 3 => simp
theorem OwnBB.kpR {f : Nat -> Bool} (h : OwnBB X G f) (t : Touch (fun k => k = G) X Y) : KpR X Y := t.mono (fun k e => by subst e; exact h.loose)
theorem keeps_below (h : Below X.heap.size X Y) : KeepsFrom B X Y := ⟨h.size, fun k o _ hk _ => (h.block k (lt_of_block hk)).trans hk⟩
theorem keeps_touch (t : Touch (fun k => k = G) X Y) (hG : G < B := by omega) : KeepsFrom B X Y := ⟨t.size, fun k o hB hk _ => (t.block k (lt_of_block hk) (by omega)).trans hk⟩
theorem icatreads_in (ad : Option Addr) (N cap : Nat) (ls : List LV) (w : World) (n : Nat) (hN : ls.length = N) (hF : LinesG w ad ls) (hN1 : N <= 1048576) :
  CallsIn Fence.wide n Tryz.prog 66 #[.slice ad N cap] w fun e w' => Below w.heap.size w w' /\ ((actB N ls = false /\ e = .returned (.slice none 0 0)) \/ (actB N ls = true /\ ∃ G cG, e = .returned (.slice (some ⟨G, 0, none⟩) 3 cG) /\ w.heap.size <= G /\ OwnBB w' G (readsR (rowsL ls)))) := by
 have hdd : ∀ k : Nat, (Fence.wide.depth.isSome = true -> 1 <= k) := fun k h => by simp [Fence.wide] at h
 refine callsIn_of_wp_marks Tryz.func66 rfl trivial ?_ rfl;simp only [Tryz.ntmps66, List.size_toArray, List.length_cons, qF, Nat.reduceAdd, Nat.reduceSub, Array.replicate_succ, Array.replicate_zero, List.push_toArray, List.append_toArray, List.nil_append, List.cons_append]
 gi_wp2_with fail
 refine ⟨trivial, hdd _, (callsIn_wide.2 (iact_any ad N cap ls hN hF hN1)).mono ?_⟩;rintro e w1 ⟨rfl, b1⟩;obtain ⟨u, hu⟩ : ∃ u, actB N ls = u := ⟨_, rfl⟩
 rw [hu]
 cases u with
 | false =>
  gi_wp2
  exact ⟨_, results_tmp rfl _ _ _, b1, Or.inl ⟨hu, rfl⟩⟩
 | true =>
  obtain ⟨i0, hi, hz0, hz1, hz2⟩ := info_parts Tryz.infoBool;obtain ⟨w2, hrun, o2, g2⟩ := run_make_full (P := Tryz.prog) (w := w1) w1.heap.size 52 4 i0 (.bool false) 1 Tryz.underlying52 hi hz0 hz1 .i64 .i64 3 (by rw [hz2]; omega) (by unfold maxLen; omega) (qG _);have hrun' : (Instr.makeSlice 52 (.int .i64 3) (.int .i64 3)).run Tryz.prog w1 = .ok (.slice (some ⟨w1.heap.size, 0, none⟩) 3 3) w2 := hrun;have b2 : Below w1.heap.size w1 w2 := (Below.refl _ _).grown g2 (qG _) (by simp)
  have O2 : OwnBB w2 w1.heap.size (fun _ => false) := by
   rcases o2.2 with ⟨e, _⟩ | ⟨g, cp, cur, hv, hg, hh, hl, hc, hs, ht⟩
   ·cases e
   cases hv
   have hl3 : cur.toList.length = 3 := by rw [Array.length_toList]; omega
   rw [qE (by omega)] at ht
   have : cur = #[.bool false, .bool false, .bool false] := by
    apply Array.toList_inj.1
    rw [ht]; simpa [Value.cells] using toList_madeCells_one (.bool false) 3
   rw [this] at hh
   exact hh
  clear hrun o2 g2
  gi_wp2_with fail
  have bA : Below w2.heap.size w2 (w2.alloc (.cells #[.slice (some ⟨w1.heap.size, 0, none⟩) 3 3] 52)) := bal;have C3 := Cel.new w2 [.slice (some ⟨w1.heap.size, 0, none⟩) 3 3] 52;have O3 := O2.below bA;obtain ⟨w3, hw3⟩ : ∃ w3, w3 = w2.alloc (.cells #[.slice (some ⟨w1.heap.size, 0, none⟩) 3 3] 52) := ⟨_, rfl⟩
  rw [<- hw3] at bA C3 O3 ⊢;have lG := Cel.lt O2;clear hw3 hrun' O2;refine ⟨trivial, hdd _, (callsIn_wide.2 (ithrough_any ad N cap w3)).mono ?_⟩;rintro e w4 ⟨B, rfl, b4, cB⟩;have C4 := C3.below b4;have O4 := O3.below b4;have s2 := b2.size;have sA := bA.size;have s4 := b4.size;have B4 : Below w.heap.size w w4 := ((btr b1 b2).trans (bA.mono (Nat.le_trans b1.size s2))).trans (b4.mono (Nat.le_trans (Nat.le_trans b1.size s2) sA));have F4 := hF.below B4
  gi_wp2_with fail
  have s1 := b1.size
  refine wpIn_rows (α := Value × RowM) (gf := 94) (lb := #[.pointer (some ⟨B, 0, none⟩)]) rfl (enters_of Tryz.func94 (by kernel_rfl) rfl) (encs := fun x => #[x.1]) (fun _ => rfl)
   (fun _ x X => RowFit x.2 /\ RowX X w4.heap.size x.1 x.2) KpR (fun xs => xs.map Prod.snd = rowsL ls)
   (fun pre X => OwnBB X w1.heap.size (readsR (pre.map Prod.snd)) /\ Cel X w2.heap.size [.slice (some ⟨w1.heap.size, 0, none⟩) 3 3] 52 /\ Below w.heap.size w X)
   (fun pre X Y h b => ⟨h.1.below b, h.2.1.below b, h.2.2.trans (b.mono h.2.2.size)⟩)
   (fun pre X l r r' h hl lt => ⟨Cel.loop h.1 hl, h.2.1.loop hl, below_loop h.2.2 (by have := B4.size; omega)⟩) KpR.loop (fun X Y Z => KpR.trans) ⟨O4, C4, B4⟩ ?seq ?round ?done
  case seq =>
   intro l J W hJ hb hJ0 hY;have e0 : (#[.func (.yield l) #[] #[]] ++ #[.pointer (some ⟨B, 0, none⟩)] : Array Value) = #[.func (.yield l) #[] #[], .pointer (some ⟨B, 0, none⟩)] := rfl;rw [e0];refine (through_any l w4.heap.size (fun rs X => ∃ xs : List (Value × RowM), xs.map Prod.snd = rs /\ J xs X) (fun rs X Y h b => ?_) (fun m rs v r X h fit rx _ => ?_) B ad N cap ls W (n - 1) hN (F4.below hb) hN1 hu ((cB.below hb).cell 0) hb.size ⟨[], rfl, hJ0⟩).mono ?_
   ·obtain ⟨xs, e, j⟩ := h
    exact ⟨xs, e, hJ _ _ _ j b⟩
   ·obtain ⟨xs, e, j⟩ := h;obtain ⟨fn, tmps, assign, body, hy, hR⟩ := hY m xs (v, r) X j ⟨fit, rx⟩;refine ⟨fn, tmps, assign, body, hy, hR.mono ?_⟩;rintro e' Y ⟨a, b, c⟩
    exact ⟨a, ⟨xs ++ [(v, r)], by simp [e], b⟩, c⟩
   rintro e Y ⟨h1, ⟨xs, e1, j⟩, _⟩
   exact ⟨h1, xs, e1, j⟩
  case round =>
   rintro m l pre ⟨v, rm⟩ X r ⟨hO, hC, hB⟩ ⟨fit, rx⟩ hl hlt;dsimp only at fit rx;obtain ⟨ga, gc, aa, ac, ta, tc, rfl, f0, f1, f2⟩ := rx;dsimp only
   gi_wp2_with fail
   have bx : Below X.heap.size X (X.alloc (.cells #[.slice ga rm.guards.length gc, .slice aa rm.adds.length ac, .slice ta rm.tells.length tc, .bool rm.stop] 68)) := bal;have cx := Cel.new X [.slice ga rm.guards.length gc, .slice aa rm.adds.length ac, .slice ta rm.tells.length tc, .bool rm.stop] 68;have hl1 := (bx.block l (lt_of_block hl)).trans hl;refine ⟨keeps_below bx, KpR.of bx, ?_⟩;have O1 : OwnBB _ _ _ := Cel.loop (r' := { r with state := .busy }) (hO.below bx) hl1;have C1 := Cel.loop (r' := { r with state := .busy }) (hC.below bx) hl1;have X1 := Cel.loop (r' := { r with state := .busy }) cx hl1;have k1 : KpR X _ := (KpR.of bx).trans (KpR.loop _ l r { r with state := .busy } hl1);have B1 := below_loop (r' := { r with state := .busy }) (btr hB bx) (l := l) (by have := B4.size; omega);obtain ⟨Y, hY⟩ : ∃ Y, Y = (X.alloc (.cells #[.slice ga rm.guards.length gc, .slice aa rm.adds.length ac, .slice ta rm.tells.length tc, .bool rm.stop] 68)).putObj l (.loop { r with state := .busy }) := ⟨_, rfl⟩
   rw [<- hY] at O1 C1 X1 k1 B1 ⊢;clear hY;have FA := f1.at.keepR k1;have FT := f2.at.keepR k1;have hc := C1.cell 0;have hx1 := X1.cell 1;have lX := Cel.lt hO
   gi_wp2_with fail
   refine ⟨trivial, hdd _, CallsIn.mono (CallsIn.inRound l (callsIn_wide.2 (imarkpots_any rm.adds Y O1 rfl FA fit.a (by have := fit.la; omega)))) ?_⟩;rintro e Y1 ⟨⟨v1, rfl⟩, t1, O2⟩;have C2 := cel_past C1 t1;have X2 := cel_past X1 t1;have FT2 := FT.past2 O1.no t1;have hc2 := C2.cell 0;have hx2 := X2.cell 2;clear hc hx1
   gi_wp2_with fail
   refine ⟨trivial, hdd _, CallsIn.mono (CallsIn.inRound l (callsIn_wide.2 (imarkpots_any rm.tells Y1 O2 rfl FT2 fit.t (by have := fit.lt; omega)))) ?_⟩;rintro e Y2 ⟨⟨v2, rfl⟩, t2, O3⟩;have C3' := cel_past C2 t2;clear hc2 hx2
   gi_wp2_with fail
   refine ⟨(keeps_touch t1).trans (keeps_touch t2), (O1.kpR t1).trans (O2.kpR t2), O3.ext (fun v hv => ?_), C3', below_touch (below_touch B1 t1) t2⟩;simp [readsF, readsR, Bool.or_assoc]
  case done =>
   rintro D xs W hD hS ⟨hO, hC, hB⟩ hK;have hc := hC.cell 0
   gi_wp2
   refine ⟨by simp, .inl ⟨_, _, rfl, run_takeDeferred hK, ?_⟩⟩;refine ⟨_, results_tmp rfl _ _ _, ?_⟩;rw [hS] at hO
   exact ⟨below_put hB (by have := B4.size; omega), Or.inr ⟨hu, _, _, rfl, s1, Cel.defer hO hK⟩⟩
theorem icatreads_any (ls : List LV) {w : World} (hN : ls.length = N) (hF : LinesG w ad ls) (hN1 : N <= 1048576) :
  Calls Tryz.prog 66 #[.slice ad N cap] w fun e w' => Below w.heap.size w w' /\ ((actB N ls = false /\ e = .returned (.slice none 0 0)) \/ (actB N ls = true /\ ∃ G cG, e = .returned (.slice (some ⟨G, 0, none⟩) 3 cG) /\ w.heap.size <= G /\ OwnBB w' G (readsR (rowsL ls)))) :=
 callsIn_wide.1 (icatreads_in ad N cap ls w 0 hN hF hN1)
abbrev treV (a : Option Addr) (n cap : Nat) (c : Option Addr) (m cap' : Nat) : Value := .agg #[.slice a n cap, .slice c m cap']
theorem szT_any {l : Int} (hn : n <= maxLen) (hm : m <= maxLen) (h0 : 0 <= l) (hl : l <= 1048576) :
  Calls Tryz.prog 5 #[treV a n cap c m cap', .int .i64 l] w fun e w' => e = .returned (.int .i64 (leftOf (leftOf l n) m)) /\ Below w.heap.size w w' := by
 have g1 := leftOf_ge l n
 by_cases h : leftOf l n < 0
 ·go_enter Tryz.func5, Tryz.ntmps5
  go_wp2_with fail
  refine (sz_any hn h0 hl).mono ?_;rintro e w1 ⟨rfl, rfl⟩
  go_wp2
  go_ret
  exact ⟨ret_int (by rw [leftOf_below h]), bal⟩
 have h1 : 0 <= leftOf l n := by omega
 have h2 := (leftOf_le h1).2;have g2 := leftOf_ge (leftOf l n) m;clear h
 by_cases h' : leftOf (leftOf l n) m < 0
 ·go_enter Tryz.func5, Tryz.ntmps5
  go_wp2_with fail
  refine (sz_any hn h0 hl).mono ?_;rintro e w1 ⟨rfl, rfl⟩
  go_wp2_with fail
  refine (sz_any hm h1 (by omega)).mono ?_;rintro e w1 ⟨rfl, rfl⟩
  go_wp2
  go_ret
  exact ⟨ret_int (by omega), bal⟩
 go_enter Tryz.func5, Tryz.ntmps5
 go_wp2_with fail
 refine (sz_any hn h0 hl).mono ?_;rintro e w1 ⟨rfl, rfl⟩
 go_wp2_with fail
 refine (sz_any hm h1 (by omega)).mono ?_;rintro e w1 ⟨rfl, rfl⟩
 go_wp2
 go_ret
 exact ⟨ret_int rfl, bal⟩
theorem toT_any (C D : List Int) {w : World} (hC : Ints w a n C) (hD : Ints w c m D) (hn : n <= 1048576) (hm : m <= 1048576) :
  Calls Tryz.prog 8 #[treV a n cap c m cap'] w fun e w' => ∃ B1 B2, e = .returned (treV (some ⟨B1, 0, none⟩) n n (some ⟨B2, 0, none⟩) m m) /\ Below w.heap.size w w' /\ w.heap.size <= B1 /\ B1 < B2 /\ Blk w' B1 C /\ Blk w' B2 D := by
 go_enter Tryz.func8, Tryz.ntmps8
 go_wp2_with fail
 refine (to_any _ (((hC.alloc _).alloc _).alloc _) hn).mono ?_;rintro e w1 ⟨rfl, b1, k1⟩;have p0 := (((Cel.new w _ _).alloc _).alloc _).below b1;have p1 := ((Cel.new (w.alloc _) _ _).alloc _).below b1;have p2 := (Cel.new ((w.alloc _).alloc _) _ _).below b1;rw [qA] at p1;rw [qA, qA] at p2;rw [qA, qA, qA] at k1;have s1 := k1.lt;have B1 : Below w.heap.size w w1 := (((bal).alloc (by simp) _).alloc (by simp; omega) _).trans (b1.mono (by simp; omega));clear b1;have g0 := p2.cell 0;have g1 := p2.free 0;have g2 := p0.cell 1;simp only [qC, qD] at g0 g2
 go_wp2_with fail
 have B2 := B1.setCell (p := ⟨w.heap.size + 1 + 1, 0, none⟩) (by show w.heap.size <= w.heap.size + 1 + 1; omega) (Value.slice (some { block := w.heap.size + 1 + 1 + 1, off := 0 }) n n);refine (to_any _ (hD.below B2) hm).mono ?_;rintro e w2 ⟨rfl, b2, k2⟩;have q0 := (p0.so).below b2;have q1 := (p1.so).below b2;have q2 := (p2.set _ _).below b2;have k1' := (k1.so).below b2;have B3 := btr B2 b2;have s2 := k2.lt;rw [size_setCell] at k2 s2;clear g0 g1 g2 p0 p1 p2 k1 b2 B1 B2;have g0 := q2.cell 0;have g1 := q2.cell 1;have g3 := q2.free 1;have g6 := q1.cell 0;have g7 := q1.cell 1;have g9 := q1.free 0;have g10 := q1.free 1;simp only [qC, qD, List.set_cons_zero] at g0 g1 g6 g7;have hlt1 : w.heap.size + 1 < w2.heap.size := by omega
 have hlt2 : w.heap.size + 1 + 1 < w2.heap.size := by omega
 go_wp2
 refine bodyPost_ret (v := treV (some ⟨w.heap.size + 1 + 1 + 1, 0, none⟩) n n (some ⟨w1.heap.size, 0, none⟩) m m) (by simp [results, Tryz.results8, go_sem, g6, g7]) rfl ⟨_, _, rfl, ?_, by omega, s1, ?_, ?_⟩
 ·exact (((B3.setCell (by simp only []; omega) _).setCell (by simp only []; omega) _).setCell (by simp only []; omega) _)
 ·exact (((k1'.so).so).so)
 exact (((k2.so).so).so)
theorem eqT_same (C D : List Int) {a' : Option Addr} {cap2 : Nat} {c' : Option Addr} {cap3 : Nat} {w : World}
  (hC : Ints w a n C) (hD : Ints w c m D) (hC' : Ints w a' n C) (hD' : Ints w c' m D) (hn : n <= 1048576) (hm : m <= 1048576) :
  Calls Tryz.prog 14 #[treV a n cap c m cap', treV a' n cap2 c' m cap3] w fun e w' => e = .returned (.bool true) /\ Below w.heap.size w w' := by
 have h1 := eqB_refl C;have h2 := eqB_refl D
 go_enter Tryz.func14, Tryz.ntmps14
 go_wp2_with fail
 refine (eq_any C C ((hC.alloc _).alloc _) ((hC'.alloc _).alloc _) hn hn).mono ?_;rintro e w1 ⟨rfl, b1⟩;have q0 := ((Cel.new w _ _).alloc _).below b1;have q1 := (Cel.new (w.alloc _) _ _).below b1;rw [qA] at q1;have g0 := q0.cell 1;have g1 := q1.cell 1;simp only [qC, qD] at g0 g1
 go_wp2_with fail
 refine (eq_any D D (((hD.alloc _).alloc _).below b1) (((hD'.alloc _).alloc _).below b1) hm hm).mono ?_;rintro e w2 ⟨rfl, b2⟩
 go_wp2
 go_ret
 have B1 := ((bal).alloc (by simp) _).trans (b1.mono (by simp; omega))
 exact ⟨rfl, btr B1 b2⟩
theorem open_treaty {H : Type} {enc : TypeId × Value -> H} {r : Reach} {b0 : Nat} {v : Value} {d : DataW H} {p : List MemPlace}
  (hv : Value.okWide Tryz.prog W r b0 25 v) (h : DataW.Trod enc Tryz.prog W 0 (fun _ => true) true 25 v d p) :
  ∃ a n cap c m cap' C D, v = treV a n cap c m cap' /\ Ints W a n C /\ Ints W c m D /\ n <= maxLen /\ m <= maxLen := by
 obtain ⟨v0, v1, y0, y1, k, rfl, -, -, h0, h1⟩ := open_agg2 Tryz.underlying25 (by kernel_rfl) (by kernel_rfl) hv h;obtain ⟨a, n, cap, C, rfl, hC, hn⟩ := open_row h0;obtain ⟨c, m, cap', D, rfl, hD, hm⟩ := open_row h1
 exact ⟨a, n, cap, c, m, cap', C, D, rfl, hC, hD, hn, hm⟩
structure IV where
 a : Option Addr
 n : Nat
 cap : Nat
 x : List Int
def noI : IV := ⟨none, 0, 0, []⟩
def IV.v (s : IV) : Value := .slice s.a s.n s.cap
def IG (w : World) (s : IV) : Prop := Ints w s.a s.n s.x /\ s.n <= 1048576
def copiesI (s t : IV) : Prop := t.n = s.n /\ t.x = s.x
theorem IG.below {w' : World} {s : IV} (h : IG w s) (hb : Below w.heap.size w w') : IG w' s := ⟨h.1.below hb, h.2⟩
def ISG (w : World) (ad : Option Addr) (ss : List IV) : Prop :=
 ∀ i, i < ss.length -> ∃ b off, ad = some ⟨b, off, none⟩ /\ w.cell? ⟨b, off + i, none⟩ = some (ss[i]?.getD noI).v /\ IG w (ss[i]?.getD noI)
theorem ISG.below {w' : World} {ss : List IV} (h : ISG w ad ss) (hb : Below w.heap.size w w') : ISG w' ad ss := fun i hi => by
 obtain ⟨b, off, e, hc, hr⟩ := h i hi
 exact ⟨b, off, e, by rw [hb.cell (p := ⟨b, off + i, none⟩) (block_lt hc)]; exact hc, hr.below hb⟩
def copiesIS (ss ts : List IV) : Prop := ∀ i, i < ts.length -> copiesI (ss[i]?.getD noI) (ts[i]?.getD noI)
theorem Tryz.infoI : (Tryz.prog.info? 23).map (fun i => (i.zero, i.size, i.bytes)) = some (some (.slice none 0 0), 1, 24) := by kernel_rfl
def trtB (n m : Nat) (C D : List Int) : Bool := okN 3 10000 n C && (inB m 1 3 && betB 0 50 D)
theorem strt_any (C D : List Int) {w : World} (hC : Ints w a n C) (hD : Ints w c m D) (hn : n <= 1048576) (hm : m <= 1048576) :
  Calls Tryz.prog 54 #[treV a n cap c m cap'] w fun e w' => e = .returned (.bool (trtB n m C D)) /\ Below w.heap.size w w' := by
 have HD : Hid (D.length = m) := hD.1
 cases h1 : okN 3 10000 n C
 ·go_enter Tryz.func54, Tryz.ntmps54
  go_wp2_with fail
  refine (sval_any C (hC.alloc _) hn).mono ?_;rintro e w1 ⟨rfl, rfl⟩
  go_wp2
  go_ret
  exact ⟨ret_bool (by simp [trtB, h1]), bal⟩
 cases h2 : inB m 1 3
 ·go_enter Tryz.func54, Tryz.ntmps54
  go_wp2_with fail
  refine (sval_any C (hC.alloc _) hn).mono ?_;rintro e w1 ⟨rfl, rfl⟩
  go_wp2_with fail
  refine (in_any).mono ?_;rintro e w1 ⟨rfl, rfl⟩
  go_wp2
  go_ret
  exact ⟨ret_bool (by simp [trtB, h2]), bal⟩
 go_enter Tryz.func54, Tryz.ntmps54
 go_wp2_with fail
 refine (sval_any C (hC.alloc _) hn).mono ?_;rintro e w1 ⟨rfl, rfl⟩
 go_wp2_with fail
 refine (in_any).mono ?_;rintro e w1 ⟨rfl, rfl⟩
 go_wp2_with fail
 go_loop [3] (fun i => ∃ k : Nat, k <= m /\ i = .int .i64 k /\ betB 0 50 (D.take k) = true) (fun i => m - (intOf i).toNat)
 case atStart => exact ⟨0, qH _, rfl, rfl⟩
 case round =>
  obtain ⟨k, hk, rfl, hall⟩ := hrel;have HA : Hid (betB 0 50 (D.take k) = true) := hall;clear hall
  by_cases hlt : k < m
  ·obtain ⟨b, off, rfl, hcell⟩ := (hD.alloc (.cells #[.slice a n cap, .slice c m cap'] 34 (0, 0))).pos (by omega);have hck := hcell k hlt;clear hcell hC hD
   cases hin : inB (D[k]?.getD 0) 0 50
   ·go_wp2_with fail
    refine (in_any).mono ?_;rintro e w1 ⟨rfl, rfl⟩
    go_wp2
    go_ret
    exact ⟨ret_bool (by rw [trtB, betB_false (by rw [HD.out]; exact hlt) hin]; simp), bal⟩
   go_wp2_with fail
   refine (in_any).mono ?_;rintro e w1 ⟨rfl, rfl⟩
   go_wp2
   go_round
   case rel => exact ⟨k + 1, by omega, by go_num, betB_step (by rw [HD.out]; exact hlt) HA.out hin⟩
   case measure => simp [intOf]; omega
  go_wp2
  go_ret
  exact ⟨ret_bool (by rw [trtB, h1, h2, betB_end (by rw [HD.out]; omega) HA.out]; rfl), bal⟩
theorem itrt_any (C D : List Int) {w : World} (hC : Ints w a n C) (hD : Ints w c m D) (hn : n <= 1048576) (hm : m <= 1048576) :
  Calls Tryz.prog 67 #[treV a n cap c m cap'] w fun e w' => e = .returned (.bool (trtB n m C D)) /\ Below w.heap.size w w' := by
 cases h1 : okN 3 10000 n C
 ·go_enter Tryz.func67, Tryz.ntmps67
  go_wp2_with fail
  refine (ival_any C (hC.alloc _) hn).mono ?_;rintro e w1 ⟨rfl, rfl⟩
  go_wp2
  go_ret
  exact ⟨ret_bool (by simp [trtB, h1]), bal⟩
 by_cases h2 : 1 <= m
 ·by_cases h3 : m <= 3
  ·have h4 : inB m 1 3 = true := inB_iff.2 ⟨by omega, by omega⟩;have H4 : Hid _ := h4;clear h4
   go_enter Tryz.func67, Tryz.ntmps67
   go_wp2_with fail
   refine (ival_any C (hC.alloc _) hn).mono ?_;rintro e w1 ⟨rfl, rfl⟩
   go_wp2_with fail
   refine (between_any D _ _ (hD.alloc _) hm).mono ?_;rintro e w1 ⟨rfl, rfl⟩
   go_wp2
   go_ret
   exact ⟨ret_bool (by rw [trtB, h1, H4.out]; rfl), bal⟩
  have h4 : inB m 1 3 = false := inB_not.2 (by omega);have H4 : Hid _ := h4;clear h4
  go_enter Tryz.func67, Tryz.ntmps67
  go_wp2_with fail
  refine (ival_any C (hC.alloc _) hn).mono ?_;rintro e w1 ⟨rfl, rfl⟩
  go_wp2
  go_ret
  exact ⟨ret_bool (by rw [trtB, H4.out]; simp), bal⟩
 have h4 : inB m 1 3 = false := inB_not.2 (by omega);have H4 : Hid _ := h4;clear h4
 go_enter Tryz.func67, Tryz.ntmps67
 go_wp2_with fail
 refine (ival_any C (hC.alloc _) hn).mono ?_;rintro e w1 ⟨rfl, rfl⟩
 go_wp2
 go_ret
 exact ⟨ret_bool (by rw [trtB, H4.out]; simp), bal⟩
def others (D : List Int) (s : Int) : Nat -> Int
 | 0 => 0
 | k + 1 => if (k : Int) = s then others D s k else wrap64 (others D s k + D[k]?.getD 0)
theorem sothers_any (D : List Int) (s : Int) {w : World} (hD : Ints w c m D) (hm : m <= 1048576 := by omega) :
  Calls Tryz.prog 110 #[treV a n cap c m cap', .int .i64 s] w fun e w' => e = .returned (.int .i64 (others D s m)) /\ Below w.heap.size w w' := by
 go_enter Tryz.func110, Tryz.ntmps110
 go_wp2_with fail
 go_loop [5, 6] (fun x i => ∃ k : Nat, k <= m /\ i = .int .i64 k /\ x = .int .i64 (others D s k)) (fun _ i => m - (intOf i).toNat)
 case atStart => exact ⟨0, qH _, rfl, rfl⟩
 case round =>
  obtain ⟨k, hk, rfl, rfl⟩ := hrel
  by_cases hlt : k < m
  ·obtain ⟨b, off, rfl, hcell⟩ := (hD.alloc (.cells #[.slice a n cap, .slice c m cap'] 34 (0, 0))).pos (by omega);have hck := hcell k hlt;clear hcell hD;have HO : Hid (others D s (k + 1) = if (k : Int) = s then others D s k else wrap64 (others D s k + D[k]?.getD 0)) := rfl;obtain ⟨y, hy⟩ : ∃ y, y = others D s k := ⟨_, rfl⟩
   rw [<- hy] at HO;rw [<- hy];clear hy
   by_cases hs : (k : Int) = s
   ·have hs' : ((k : Int) != s) = false := by simp [hs]
    have HS : Hid ((k : Int) = s) := hs;clear hs
    go_wp2
    go_round
    case rel => exact ⟨k + 1, by omega, by go_num, by rw [HO.out, if_pos HS.out]⟩
    case measure => simp [intOf]; omega
   have hs' : ((k : Int) != s) = true := by simp [hs]
   have HS : Hid (¬ (k : Int) = s) := hs;clear hs
   go_wp2
   go_round
   case rel => exact ⟨k + 1, by omega, by go_num, by rw [HO.out, if_neg HS.out]⟩
   case measure => simp [intOf]; omega
  obtain rfl : k = m := by omega
  go_wp2
  go_ret
  exact ⟨rfl, bal⟩
theorem iothers_any (D : List Int) (s : Int) {w : World} (hD : Ints w c m D) (hm : m <= 1048576) :
  Calls Tryz.prog 100 #[treV a n cap c m cap', .int .i64 s] w fun e w' => e = .returned (.int .i64 (others D s m)) /\ Below w.heap.size w w' := by
 go_enter Tryz.func100, Tryz.ntmps100
 go_wp2_with fail
 go_loop [5, 6, 7, 11] (fun x _ _ i => ∃ k : Nat, k <= m /\ i = .int .i64 k /\ x = .int .i64 (others D s k)) (fun _ _ _ i => m - (intOf i).toNat)
 case atStart => exact ⟨0, qH _, rfl, rfl⟩
 case round =>
  obtain ⟨k, hk, rfl, rfl⟩ := hrel
  by_cases hlt : k < m
  ·obtain ⟨b, off, rfl, hcell⟩ := (hD.alloc (.cells #[.slice a n cap, .slice c m cap'] 34 (0, 0))).pos (by omega);have hck := hcell k hlt;clear hcell hD;have HO : Hid (others D s (k + 1) = if (k : Int) = s then others D s k else wrap64 (others D s k + D[k]?.getD 0)) := rfl;obtain ⟨y, hy⟩ : ∃ y, y = others D s k := ⟨_, rfl⟩
   rw [<- hy] at HO;rw [<- hy];clear hy
   by_cases hs : (k : Int) = s
   ·have hs' : ((k : Int) != s) = false := by simp [hs]
    have HS : Hid ((k : Int) = s) := hs;clear hs
    go_wp2
    go_round
    case rel => exact ⟨k + 1, by omega, by go_num, by rw [HO.out, if_pos HS.out]⟩
    case measure => simp [intOf]; omega
   have hs' : ((k : Int) != s) = true := by simp [hs]
   have HS : Hid (¬ (k : Int) = s) := hs;clear hs
   go_wp2
   go_round
   case rel => exact ⟨k + 1, by omega, by go_num, by rw [HO.out, if_neg HS.out]⟩
   case measure => simp [intOf]; omega
  obtain rfl : k = m := by omega
  go_wp2
  go_ret
  exact ⟨rfl, bal⟩
def partsB (ss : List IV) : Bool := ss.all fun s => okN 3 10000000 s.n s.x
theorem partsB_step {ss : List IV} (h : k < ss.length) (h1 : partsB (ss.take k) = true) (h2 : okN 3 10000000 (ss[k]?.getD noI).n (ss[k]?.getD noI).x = true) : partsB (ss.take (k + 1)) = true := by
 unfold partsB at *;rw [List.take_succ_eq_append_getElem h, List.all_append, h1];rw [qB h] at h2;simpa using h2
theorem partsB_end {ss : List IV} (h : ss.length <= k) (h1 : partsB (ss.take k) = true) : partsB ss = true := by
 rwa [qE h] at h1
theorem partsB_false {ss : List IV} (h : k < ss.length) (hn : okN 3 10000000 (ss[k]?.getD noI).n (ss[k]?.getD noI).x = false) : partsB ss = false := by
 unfold partsB;rw [List.all_eq_false];refine ⟨ss[k], List.getElem_mem h, ?_⟩;rw [qB h] at hn;simpa using hn
theorem partsB_at {ss : List IV} (h : k < ss.length) (hp : partsB ss = true) : okN 3 10000000 (ss[k]?.getD noI).n (ss[k]?.getD noI).x = true := by
 cases hn : okN 3 10000000 (ss[k]?.getD noI).n (ss[k]?.getD noI).x
 ·rw [partsB_false h hn] at hp; cases hp
 rfl
theorem sparts_any (ss : List IV) {w : World} (hN : ss.length = N) (hF : ISG w ad ss) (hN1 : N <= 1048576) :
  Calls Tryz.prog 55 #[.slice ad N cap] w fun e w' => e = .returned (.bool (partsB ss)) /\ w' = w := by
 have HN : Hid (ss.length = N) := hN;clear hN
 go_enter Tryz.func55, Tryz.ntmps55
 go_wp2_with fail
 go_loop [3] (fun i => ∃ k : Nat, k <= N /\ i = .int .i64 k /\ partsB (ss.take k) = true) (fun i => N - (intOf i).toNat)
 case atStart => exact ⟨0, qH _, rfl, rfl⟩
 case round =>
  obtain ⟨k, hk, rfl, hall⟩ := hrel;have HA : Hid _ := hall;clear hall
  by_cases hlt : k < N
  ·obtain ⟨b, off, rfl, hc, hr⟩ := hF k (by rw [HN.out]; exact hlt);have H1 : Hid _ := partsB_step (ss := ss) (k := k) (by rw [HN.out]; exact hlt) HA.out;have H2 : Hid _ := partsB_false (ss := ss) (k := k) (by rw [HN.out]; exact hlt);generalize HG : ss[k]?.getD noI = g at *;clear HG hF HA;obtain ⟨ga, gn, gcap, gx⟩ := g;have hc' : w.cell? ⟨b, off + k, none⟩ = some (.slice ga gn gcap) := hc;clear hc
   cases he : okN 3 10000000 gn gx
   ·go_wp2_with fail
    refine (all_any gx _ _ hr.1 hr.2).mono ?_;rintro e w1 ⟨rfl, rfl⟩;rw [he]
    go_wp2
    go_ret
    exact ⟨ret_bool (by rw [H2.out he]), rfl⟩
   go_wp2_with fail
   refine (all_any gx _ _ hr.1 hr.2).mono ?_;rintro e w1 ⟨rfl, rfl⟩;rw [he]
   go_wp2
   go_round
   case rel => exact ⟨k + 1, by omega, by go_num, H1.out he⟩
   case measure => simp [intOf]; omega
  go_wp2
  go_ret
  exact ⟨ret_bool (by rw [partsB_end (by rw [HN.out]; omega) HA.out]), rfl⟩
theorem iparts_any (ss : List IV) {w : World} (hN : ss.length = N) (hF : ISG w ad ss) (hN1 : N <= 1048576) :
  Calls Tryz.prog 68 #[.slice ad N cap] w fun e w' => e = .returned (.bool (partsB ss)) /\ w' = w := by
 have HN : Hid (ss.length = N) := hN;clear hN
 go_enter Tryz.func68, Tryz.ntmps68
 go_wp2_with fail
 go_loop [4, 7] (fun _ i => ∃ k : Nat, k <= N /\ i = .int .i64 k /\ partsB (ss.take k) = true) (fun _ i => N - (intOf i).toNat)
 case atStart => exact ⟨0, qH _, rfl, rfl⟩
 case round =>
  obtain ⟨k, hk, rfl, hall⟩ := hrel;have HA : Hid _ := hall;clear hall
  by_cases hlt : k < N
  ·obtain ⟨b, off, rfl, hc, hr⟩ := hF k (by rw [HN.out]; exact hlt);have H1 : Hid _ := partsB_step (ss := ss) (k := k) (by rw [HN.out]; exact hlt) HA.out;have H2 : Hid _ := partsB_false (ss := ss) (k := k) (by rw [HN.out]; exact hlt);generalize HG : ss[k]?.getD noI = g at *;clear HG hF HA;obtain ⟨ga, gn, gcap, gx⟩ := g;have hc' : w.cell? ⟨b, off + k, none⟩ = some (.slice ga gn gcap) := hc;clear hc
   by_cases hn3 : (gn : Int) = 3
   ·have hn3' : ((gn : Int) != 3) = false := by simp [hn3]
    have H3 : Hid ((gn : Int) = 3) := hn3;clear hn3
    cases he : allB 10000000 gx
    ·go_wp2_with fail
     refine (within_any _ _ _ gx hr.1 hr.2).mono ?_;rintro e w1 ⟨rfl, rfl⟩;rw [he]
     go_wp2
     go_ret
     exact ⟨ret_bool (by rw [H2.out (by rw [okN_is H3.out, he])]), rfl⟩
    go_wp2_with fail
    refine (within_any _ _ _ gx hr.1 hr.2).mono ?_;rintro e w1 ⟨rfl, rfl⟩;rw [he]
    go_wp2
    go_round
    case rel => exact ⟨k + 1, by omega, by go_num, H1.out (by rw [okN_is H3.out, he])⟩
    case measure => simp [intOf]; omega
   have hn3' : ((gn : Int) != 3) = true := by simp [hn3]
   have H3 : Hid (¬ (gn : Int) = 3) := hn3;clear hn3
   go_wp2
   go_ret
   exact ⟨ret_bool (by rw [H2.out (okN_not H3.out)]), rfl⟩
  go_wp2
  go_ret
  exact ⟨ret_bool (by rw [partsB_end (by rw [HN.out]; omega) HA.out]), rfl⟩
theorem imay_any (zs : List Int) {w : World} (h : Ints w a n zs) (hn : n <= 1048576) :
  Calls Tryz.prog 69 #[.slice a n cap] w fun e w' => e = .returned (.bool (okN 3 20000 n zs)) /\ w' = w := by
 by_cases hc : (n : Int) = 3
 ·have hc' : ((n : Int) == 3) = true := by simp [hc]
  have HC : Hid ((n : Int) = 3) := hc;clear hc
  go_enter Tryz.func69, Tryz.ntmps69
  go_wp2_with fail
  refine (within_any _ _ _ zs h hn).mono ?_;rintro e w' ⟨rfl, rfl⟩
  go_wp2
  go_ret
  exact ⟨ret_bool (by rw [okN_is HC.out]), rfl⟩
 have hc' : ((n : Int) == 3) = false := by simpa using hc
 go_enter Tryz.func69, Tryz.ntmps69
 go_wp2
 go_ret
 exact ⟨ret_bool (by rw [okN_not hc]), rfl⟩
theorem times5_any (xs ys : List Int) {P : Int} {w : World} (h : Ints w a 3 xs) (h' : Ints w c 3 ys) (hP : bndP P xs ys) (h0 : 0 <= P) (hb : P <= 1000000000000) :
  Calls Tryz.prog 56 #[.slice a 3 cap, .slice c 3 cap'] w fun e w' => e = .returned (.int .i64 (dot xs ys 3)) /\ Below w.heap.size w w' := by
 have HP : Hid (bndP P xs ys) := hP;clear hP
 go_enter Tryz.func56, Tryz.ntmps56
 go_wp2_with fail
 go_loopw [5, 6] (fun s i wr => ∃ k : Nat, k <= 3 /\ i = .int .i64 k /\ s = .int .i64 (dot xs ys k) /\ Below w.heap.size w wr) (fun _ i _ => 3 - (intOf i).toNat)
 case atStart => exact ⟨0, by omega, rfl, rfl, Below.refl _ _⟩
 case round =>
  obtain ⟨k, hk, rfl, rfl, hb'⟩ := hrel
  by_cases hlt : k < 3
  ·obtain ⟨b, off, rfl, hcell⟩ := (h.below hb').pos (by omega);obtain ⟨b', off', rfl, hcell'⟩ := (h'.below hb').pos (by omega);have hck := hcell k hlt;have hck' := hcell' k hlt;have hlt' : (k : Int) < 3 := by omega
   obtain ⟨p1, p2⟩ := HP.out k;have d := dot_bnd HP.out k;have kP : (k : Int) * P <= 1000 * P := Int.mul_le_mul_of_nonneg_right (by omega) h0;have d1 : -1000000000000000 <= dot xs ys k := by omega
   have d2 : dot xs ys k <= 1000000000000000 := by omega
   have d3 : -1000000000000 <= xs[k]?.getD 0 * ys[k]?.getD 0 := by omega
   have d4 : xs[k]?.getD 0 * ys[k]?.getD 0 <= 1000000000000 := by omega
   clear hcell hcell' h h' d kP p1 p2 hb h0
   go_wp2_with fail
   go_quiet (fail)
   go_wp2
   go_roundw
   case rel => exact ⟨k + 1, by omega, by go_num, by simp only [dot], below_drewN hb' _⟩
   case measure => simp [intOf]; omega
  obtain rfl : k = 3 := by omega
  go_wp2
  go_ret
  exact ⟨rfl, hb'⟩
def viewB (n m : Nat) (C D : List Int) (ss : List IV) (s : Int) (k : Nat) (E : List Int) : Bool := trtB n m C D && (partsB ss && (inB s 0 ((m : Int) - 1) && okN 3 20000 k E))
def keepsB (g : Int) (E : List Int) (ss : List IV) : Bool := ss.all fun p => inB (dot p.x E 3) (-g) g
theorem keepsB_step {ss : List IV} (h : k < ss.length) (h1 : keepsB g E (ss.take k) = true) (h2 : inB (dot (ss[k]?.getD noI).x E 3) (-g) g = true) : keepsB g E (ss.take (k + 1)) = true := by
 unfold keepsB at *;rw [List.take_succ_eq_append_getElem h, List.all_append, h1];rw [qB h] at h2;simpa using h2
theorem keepsB_end {ss : List IV} (h : ss.length <= k) (h1 : keepsB g E (ss.take k) = true) : keepsB g E ss = true := by
 rwa [qE h] at h1
theorem keepsB_false {ss : List IV} (h : k < ss.length) (hn : inB (dot (ss[k]?.getD noI).x E 3) (-g) g = false) : keepsB g E ss = false := by
 unfold keepsB;rw [List.all_eq_false];refine ⟨ss[k], List.getElem_mem h, ?_⟩;rw [qB h] at hn;simpa using hn
theorem viewB_elim {C D : List Int} {ss : List IV} {s : Int} (h : viewB n m C D ss s k E = true) :
  n = 3 /\ bnd 10000 C /\ 1 <= m /\ m <= 3 /\ partsB ss = true /\ 0 <= s /\ s < m /\ k = 3 /\ bnd 20000 E /\ (∀ i : Nat, i < D.length -> 0 <= D[i]?.getD 0 /\ D[i]?.getD 0 <= 50) := by
 simp only [viewB, trtB, Bool.and_eq_true] at h;obtain ⟨⟨h1, h2, h3⟩, h4, h5, h6⟩ := h;have a := okN_elim (by omega) h1;have b := okN_elim (by omega) h6;have c := inB_iff.1 h2;have d := inB_iff.1 h5;refine ⟨by omega, a.2, by omega, by omega, h4, d.1, by omega, by omega, b.2, fun i hi => ?_⟩;unfold betB at h3;rw [List.all_eq_true] at h3;have := inB_iff.1 (h3 D[i] (List.getElem_mem hi));rw [qB hi];simpa using this
def keepB (n m : Nat) (C D : List Int) (ss : List IV) (s : Int) (k : Nat) (E : List Int) : Bool := viewB n m C D ss s k E && keepsB (D[s.toNat]?.getD 0) E ss
theorem place_in (s : Int) (m : Nat) : decide (0 <= s /\ s < (m : Int)) = inB s 0 ((m : Int) - 1) := by
 unfold inB
 apply decide_eq_decide.2
 omega
abbrev viewV (a : Option Addr) (n cap : Nat) (c : Option Addr) (m cap' : Nat) (ad : Option Addr) (N pc : Nat) (s : Int) (e : Option Addr) (k ec : Nat) (u : Option Addr) (l uc : Nat) : Value := .agg #[.slice a n cap, .slice c m cap', .slice ad N pc, .int .i64 s, .slice e k ec, .slice u l uc]
theorem Cel.sixK {v2 v3 v4 v5 : Value} (h : Cel w B [v0, v1, v2, v3, v4, v5] t) : w.cell? ⟨B, 0, none⟩ = some v0 /\ w.cell? ⟨B, 1, none⟩ = some v1 /\ w.cell? ⟨B, 2, none⟩ = some v2 /\ w.cell? ⟨B, 3, none⟩ = some v3 /\ w.cell? ⟨B, 4, none⟩ = some v4 /\ w.cell? ⟨B, 5, none⟩ = some v5 := ⟨h.cell 0, h.cell 1, h.cell 2, h.cell 3, h.cell 4, h.cell 5⟩
theorem vok_any (a : Option Addr) (n cap : Nat) (c : Option Addr) (m cap' : Nat) (ad : Option Addr) (N pc : Nat) (s : Int) (e : Option Addr) (k ec : Nat) (u : Option Addr) (l uc : Nat) (C D E : List Int) (ss : List IV) {w : World}
  (hC : Ints w a n C) (hD : Ints w c m D) (hE : Ints w e k E) (hN : ss.length = N) (hF : ISG w ad ss) (hn : n <= 1048576) (hm : m <= 1048576) (hk : k <= 1048576) (hN1 : N <= 1048576) :
  Calls Tryz.prog 36 #[viewV a n cap c m cap' ad N pc s e k ec u l uc] w fun r w' => r = .returned (.bool (viewB n m C D ss s k E)) /\ Below w.heap.size w w' := by
 have HN : Hid (ss.length = N) := hN;clear hN;have q0 := Cel.new w [.slice a n cap, .slice c m cap', .slice ad N pc, .int .i64 s, .slice e k ec, .slice u l uc] 63;have b0 := (Below.refl w.heap.size w).alloc (qG _) (.cells #[.slice a n cap, .slice c m cap', .slice ad N pc, .int .i64 s, .slice e k ec, .slice u l uc] 63)
 cases h1 : trtB n m C D
 ·go_enter Tryz.func36, Tryz.ntmps36
  go_wp2_with fail
  refine (itrt_any C D (hC.below b0) (hD.below b0) hn hm).mono ?_;rintro r w1 ⟨rfl, b1⟩;have B1 := btr b0 b1;rw [h1]
  go_wp2
  go_ret
  exact ⟨ret_bool (by simp [viewB, h1]), B1⟩
 cases h2 : partsB ss
 ·go_enter Tryz.func36, Tryz.ntmps36
  go_wp2_with fail
  refine (itrt_any C D (hC.below b0) (hD.below b0) hn hm).mono ?_;rintro r w1 ⟨rfl, b1⟩;have B1 := btr b0 b1;obtain ⟨c0, c1, c2, c3, c4, c5⟩ := (q0.below b1).sixK;rw [h1]
  go_wp2_with fail
  refine (iparts_any ss HN.out (hF.below B1) hN1).mono ?_;rintro r w2 ⟨rfl, rfl⟩;rw [h2]
  go_wp2
  go_ret
  exact ⟨ret_bool (by simp [viewB, h2]), B1⟩
 cases h3 : inB s 0 ((m : Int) - 1)
 ·go_enter Tryz.func36, Tryz.ntmps36
  go_wp2_with fail
  refine (itrt_any C D (hC.below b0) (hD.below b0) hn hm).mono ?_;rintro r w1 ⟨rfl, b1⟩;have B1 := btr b0 b1;obtain ⟨c0, c1, c2, c3, c4, c5⟩ := (q0.below b1).sixK;rw [h1]
  go_wp2_with fail
  refine (iparts_any ss HN.out (hF.below B1) hN1).mono ?_;rintro r w2 ⟨rfl, rfl⟩;rw [h2]
  go_wp2_with fail
  refine (place_any).mono ?_;rintro r w3 ⟨rfl, rfl⟩;rw [place_in, h3]
  go_wp2
  go_ret
  exact ⟨ret_bool (by simp [viewB, h3]), B1⟩
 go_enter Tryz.func36, Tryz.ntmps36
 go_wp2_with fail
 refine (itrt_any C D (hC.below b0) (hD.below b0) hn hm).mono ?_;rintro r w1 ⟨rfl, b1⟩;have B1 := btr b0 b1;obtain ⟨c0, c1, c2, c3, c4, c5⟩ := (q0.below b1).sixK;rw [h1]
 go_wp2_with fail
 refine (iparts_any ss HN.out (hF.below B1) hN1).mono ?_;rintro r w2 ⟨rfl, rfl⟩;rw [h2]
 go_wp2_with fail
 refine (place_any).mono ?_;rintro r w3 ⟨rfl, rfl⟩;rw [place_in, h3]
 go_wp2_with fail
 refine (imay_any E (hE.below B1) hk).mono ?_;rintro r w4 ⟨rfl, rfl⟩
 go_wp2
 go_ret
 exact ⟨ret_bool (by simp [viewB, h1, h2, h3]), B1⟩
theorem vkeeps_any (a : Option Addr) (n cap : Nat) (c : Option Addr) (m cap' : Nat) (ad : Option Addr) (N pc : Nat) (s : Int) (e : Option Addr) (ec : Nat) (u : Option Addr) (l uc : Nat) (C D E : List Int) (ss : List IV) {w : World}
  (hD : Ints w c m D) (hE : Ints w e 3 E) (hN : ss.length = N) (hF : ISG w ad ss) (hN1 : N <= 1048576) (hm3 : m <= 3) (hs : 0 <= s) (hs' : s < m) (hp : partsB ss = true) (bE : bnd 20000 E) (bD : ∀ i : Nat, i < D.length -> 0 <= D[i]?.getD 0 /\ D[i]?.getD 0 <= 50) :
  Calls Tryz.prog 37 #[viewV a n cap c m cap' ad N pc s e 3 ec u l uc] w fun r w' => r = .returned (.bool (keepsB (D[s.toNat]?.getD 0) E ss)) /\ Below w.heap.size w w' := by
 have HN : Hid (ss.length = N) := hN;have HP : Hid (partsB ss = true) := hp;clear hN hp;have q0 := Cel.new w [.slice a n cap, .slice c m cap', .slice ad N pc, .int .i64 s, .slice e 3 ec, .slice u l uc] 63;have b0 := (Below.refl w.heap.size w).alloc (qG _) (.cells #[.slice a n cap, .slice c m cap', .slice ad N pc, .int .i64 s, .slice e 3 ec, .slice u l uc] 63);obtain ⟨t, rfl⟩ : ∃ t : Nat, s = t := ⟨s.toNat, by omega⟩
 have ht : t < m := by omega
 have bg := bD t (by rw [hD.1]; exact ht);obtain ⟨b, off, rfl, hcell⟩ := (hD.below b0).pos (by omega);have hck := hcell t ht;rw [Int.toNat_natCast];have hck' : (w.alloc (.cells #[.slice a n cap, .slice (some ⟨b, off, none⟩) m cap', .slice ad N pc, .int .i64 (t : Int), .slice e 3 ec, .slice u l uc] 63)).cell? ⟨b, off + t, none⟩ = some (.int .i64 (D[t]?.getD 0)) := by rw [hck]; simp
 generalize HG : D[t]?.getD 0 = g at *;clear HG hck hcell bD hD
 go_enter Tryz.func37, Tryz.ntmps37
 go_wp2_with fail
 go_loopw [5, 16] (fun _ i wr => ∃ k : Nat, k <= N /\ i = .int .i64 k /\ Below w.heap.size w wr /\ Cel wr w.heap.size [.slice a n cap, .slice (some ⟨b, off, none⟩) m cap', .slice ad N pc, .int .i64 (t : Int), .slice e 3 ec, .slice u l uc] 63 /\ keepsB g E (ss.take k) = true) (fun _ i _ => N - (intOf i).toNat)
 case atStart => exact ⟨0, qH _, rfl, b0, q0, rfl⟩
 case round =>
  clear hck' q0 b0;obtain ⟨k, hk, rfl, hb, q1, hall⟩ := hrel;have HA : Hid _ := hall;clear hall
  by_cases hlt : k < N
  ·obtain ⟨b2, off2, rfl, hc, hr⟩ := (hF.below hb) k (by rw [HN.out]; exact hlt);have H1 : Hid _ := keepsB_step (g := g) (E := E) (ss := ss) (k := k) (by rw [HN.out]; exact hlt) HA.out;have H2 : Hid _ := keepsB_false (g := g) (E := E) (ss := ss) (k := k) (by rw [HN.out]; exact hlt);have H3 := partsB_at (ss := ss) (k := k) (by rw [HN.out]; exact hlt) HP.out;generalize HG : ss[k]?.getD noI = p at *;clear HG hF HA;obtain ⟨ga, gn, gcap, gx⟩ := p;obtain ⟨e3, bx⟩ := okN_elim (by omega) H3;obtain rfl : gn = 3 := by have : (gn : Int) = 3 := e3; omega
   have hP := bndP_of bx bE;have hc' : wr.cell? ⟨b2, off2 + k, none⟩ = some (.slice ga 3 gcap) := hc;have c4 := q1.cell 4;simp only [qC, qD] at c4;have hr1 : Ints wr ga 3 gx := hr.1;clear hc H3 e3;have dn := dot_bnd hP 3
   go_wp2_with fail
   refine (psum_any gx E hr1 (hE.below hb) (by omega) hP).mono ?_;rintro r w1 ⟨rfl, rfl⟩;have H1' : Hid (inB (dot gx E 3) (-g) g = true -> keepsB g E (ss.take (k + 1)) = true) := H1;have H2' : Hid (inB (dot gx E 3) (-g) g = false -> keepsB g E ss = false) := H2;generalize HG : dot gx E 3 = x at *;clear HG H1 H2 hP dn
   go_wp2_with fail
   refine (within_any (some ⟨w1.heap.size, 0, none⟩) 1 1 [x] ?_ (by omega)).mono ?_
   ·refine ⟨rfl, fun i hi => ⟨w1.heap.size, 0, rfl, ?_⟩⟩;obtain rfl : i = 0 := by omega
    simp [go_sem]
   rintro r w2 ⟨rfl, rfl⟩;rw [allB_one]
   cases he : inB x (-g) g
   ·go_wp2
    go_ret
    exact ⟨ret_bool (by rw [H2'.out he]), hb.alloc hb.size _⟩
   go_wp2
   go_roundw
   case rel => exact ⟨k + 1, by omega, by go_num, hb.alloc hb.size _, q1.alloc _, H1'.out he⟩
   case measure => simp [intOf]; omega
  go_wp2
  go_ret
  exact ⟨ret_bool (by rw [keepsB_end (by rw [HN.out]; omega) HA.out]), hb⟩
theorem skeep_any (a : Option Addr) (n cap : Nat) (c : Option Addr) (m cap' : Nat) (ad : Option Addr) (N pc : Nat) (s : Int) (e : Option Addr) (k ec : Nat) (C D E : List Int) (ss : List IV) {w : World}
  (hC : Ints w a n C) (hD : Ints w c m D) (hE : Ints w e k E) (hN : ss.length = N) (hF : ISG w ad ss) (hn : n <= 1048576) (hm : m <= 1048576) (hk : k <= 1048576) (hN1 : N <= 1048576) :
  Calls Tryz.prog 27 #[treV a n cap c m cap', .slice ad N pc, .int .i64 s, .slice e k ec] w fun r w' => r = .returned (.bool (keepB n m C D ss s k E)) /\ Below w.heap.size w w' := by
 have HN : Hid (ss.length = N) := hN;clear hN;have b0 := (Below.refl w.heap.size w).alloc (qG _) (.cells #[.slice a n cap, .slice c m cap'] 34);have q0 := Cel.new w [.slice a n cap, .slice c m cap'] 34
 cases h1 : trtB n m C D
 ·go_enter Tryz.func27, Tryz.ntmps27
  go_wp2_with fail
  refine (strt_any C D (hC.below b0) (hD.below b0) hn hm).mono ?_;rintro r w1 ⟨rfl, b1⟩;have B1 := btr b0 b1;rw [h1]
  go_wp2
  go_ret
  exact ⟨ret_bool (by simp [keepB, viewB, h1]), B1⟩
 cases h2 : partsB ss
 ·go_enter Tryz.func27, Tryz.ntmps27
  go_wp2_with fail
  refine (strt_any C D (hC.below b0) (hD.below b0) hn hm).mono ?_;rintro r w1 ⟨rfl, b1⟩;have B1 := btr b0 b1;rw [h1]
  go_wp2_with fail
  refine (sparts_any ss HN.out (hF.below B1) hN1).mono ?_;rintro r w2 ⟨rfl, rfl⟩;rw [h2]
  go_wp2
  go_ret
  exact ⟨ret_bool (by simp [keepB, viewB, h2]), B1⟩
 cases h3 : inB s 0 ((m : Int) - 1)
 ·go_enter Tryz.func27, Tryz.ntmps27
  go_wp2_with fail
  refine (strt_any C D (hC.below b0) (hD.below b0) hn hm).mono ?_;rintro r w1 ⟨rfl, b1⟩;have B1 := btr b0 b1;have c1 := (q0.below b1).cell 1;simp only [qC, qD] at c1;rw [h1]
  go_wp2_with fail
  refine (sparts_any ss HN.out (hF.below B1) hN1).mono ?_;rintro r w2 ⟨rfl, rfl⟩;rw [h2]
  go_wp2_with fail
  refine (in_any).mono ?_;rintro r w3 ⟨rfl, rfl⟩;rw [h3]
  go_wp2
  go_ret
  exact ⟨ret_bool (by simp [keepB, viewB, h3]), B1⟩
 cases h4 : okN 3 20000 k E
 ·go_enter Tryz.func27, Tryz.ntmps27
  go_wp2_with fail
  refine (strt_any C D (hC.below b0) (hD.below b0) hn hm).mono ?_;rintro r w1 ⟨rfl, b1⟩;have B1 := btr b0 b1;have c1 := (q0.below b1).cell 1;simp only [qC, qD] at c1;rw [h1]
  go_wp2_with fail
  refine (sparts_any ss HN.out (hF.below B1) hN1).mono ?_;rintro r w2 ⟨rfl, rfl⟩;rw [h2]
  go_wp2_with fail
  refine (in_any).mono ?_;rintro r w3 ⟨rfl, rfl⟩;rw [h3]
  go_wp2_with fail
  refine (all_any E _ _ (hE.below B1) hk).mono ?_;rintro r w4 ⟨rfl, rfl⟩;rw [h4]
  go_wp2
  go_ret
  exact ⟨ret_bool (by simp [keepB, viewB, h4]), B1⟩
 have hv : viewB n m C D ss s k E = true := by simp [viewB, h1, h2, h3, h4]
 obtain ⟨-, -, m1, m2, hp0, s0, s1, e2, bE, bD⟩ := viewB_elim hv;have HP : Hid _ := hp0;have HV : Hid _ := hv;have H1 : Hid _ := h1;have H2 : Hid _ := h2;have H3 : Hid _ := h3;have H4 : Hid _ := h4;clear hp0 hv h1 h2 h3 h4;subst e2;obtain ⟨t, rfl⟩ : ∃ t : Nat, s = t := ⟨s.toNat, by omega⟩
 have ht : t < m := by omega
 have bg := bD t (by rw [hD.1]; exact ht);obtain ⟨b, off, rfl, hcell⟩ := hD.pos (by omega);have hck := hcell t ht;have hck' : w.cell? ⟨b, off + t, none⟩ = some (.int .i64 (D[t]?.getD 0)) := by rw [hck]; simp
 have hkb : keepB n m C D ss t 3 E = keepsB (D[t]?.getD 0) E ss := by rw [keepB, HV.out]; simp
 rw [hkb];clear hkb;generalize HG : D[t]?.getD 0 = g at *;clear HG hck hcell bD;have ht' : (t : Int) < (m : Int) := by omega
 go_enter Tryz.func27, Tryz.ntmps27
 go_wp2_with fail
 refine (strt_any C D (hC.below b0) (hD.below b0) hn hm).mono ?_;rintro r w1 ⟨rfl, b1⟩;have B1 := btr b0 b1;have q1 := q0.below b1;have c1 := q1.cell 1;simp only [qC, qD] at c1;rw [H1.out]
 go_wp2_with fail
 refine (sparts_any ss HN.out (hF.below B1) hN1).mono ?_;rintro r w2 ⟨rfl, rfl⟩;rw [H2.out]
 go_wp2_with fail
 refine (in_any).mono ?_;rintro r w3 ⟨rfl, rfl⟩;rw [H3.out]
 go_wp2_with fail
 refine (all_any E _ _ (hE.below B1) hk).mono ?_;rintro r w4 ⟨rfl, rfl⟩;rw [H4.out];have dk : w4.cell? ⟨b, off + t, none⟩ = some (.int .i64 g) := by rw [B1.cell (p := ⟨b, off + t, none⟩) (block_lt hck')]; exact hck'
 clear c1 b1 b0 q0 hC hD
 go_wp2_with fail
 go_loopw [9] (fun i wr => ∃ k : Nat, k <= N /\ i = .int .i64 k /\ Below w.heap.size w wr /\ Cel wr w.heap.size [.slice a n cap, .slice (some ⟨b, off, none⟩) m cap'] 34 /\ keepsB g E (ss.take k) = true) (fun i _ => N - (intOf i).toNat)
 case atStart => exact ⟨0, qH _, rfl, B1, q1, rfl⟩
 case round =>
  clear dk B1 q1;obtain ⟨j, hj, rfl, hb, q1, hall⟩ := hrel;have HA : Hid _ := hall;clear hall
  by_cases hlt : j < N
  ·obtain ⟨b2, off2, rfl, hc, hr⟩ := (hF.below hb) j (by rw [HN.out]; exact hlt);have H1 : Hid _ := keepsB_step (g := g) (E := E) (ss := ss) (k := j) (by rw [HN.out]; exact hlt) HA.out;have H2 : Hid _ := keepsB_false (g := g) (E := E) (ss := ss) (k := j) (by rw [HN.out]; exact hlt);have H3 := partsB_at (ss := ss) (k := j) (by rw [HN.out]; exact hlt) HP.out;have dk : wr.cell? ⟨b, off + t, none⟩ = some (.int .i64 g) := by rw [hb.cell (p := ⟨b, off + t, none⟩) (block_lt hck')]; exact hck'
   generalize HG : ss[j]?.getD noI = p at *;clear HG hF HA;obtain ⟨ga, gn, gcap, gx⟩ := p;obtain ⟨e3, bx⟩ := okN_elim (by omega) H3;obtain rfl : gn = 3 := by have : (gn : Int) = 3 := e3; omega
   have hP := bndP_of bx bE;have hr1 : Ints wr ga 3 gx := hr.1;have hE1 := hE.below hb;have hc' : wr.cell? ⟨b2, off2 + j, none⟩ = some (.slice ga 3 gcap) := hc;have H1' : Hid (inB (dot gx E 3) (-g) g = true -> keepsB g E (ss.take (j + 1)) = true) := H1;have H2' : Hid (inB (dot gx E 3) (-g) g = false -> keepsB g E ss = false) := H2;clear hc H3 e3 hr H1 H2 hck' hE;have hlt' : (j : Int) < (N : Int) := by omega
   go_upto_region 6 with fail
   have hn0 : wr.cell? ⟨w.heap.size, 1, none⟩ = some (.slice (some ⟨b, off, none⟩) m cap') /\ wr.cell? ⟨b, off + t, none⟩ = some (.int .i64 g) /\ wr.cell? ⟨b2, off2 + j, none⟩ = some (.slice ga 3 gcap) := ⟨q1.cell 1, dk, hc'⟩
   go_region_held3 (fun w' => w'.cell? ⟨w.heap.size, 1, none⟩ = some (.slice (some ⟨b, off, none⟩) m cap') /\ w'.cell? ⟨b, off + t, none⟩ = some (.int .i64 g) /\ w'.cell? ⟨b2, off2 + j, none⟩ = some (.slice ga 3 gcap)) (first | with_reducible assumption | exact hn0)
    (first
     | (go_at_call 56
        refine (times5_any gx E (by exact hr1.below (Below.refl _ _).drew) (by exact hE1.below (Below.refl _ _).drew) hP (by omega) (by omega)).mono ?_;rintro ee w3 ⟨rfl, b3⟩;have b3' := below_of_drew b3;have q3 := q1.below b3';have d3 := (b3'.cell (p := ⟨b, off + t, none⟩) (block_lt dk)).trans dk;have e3 := (b3'.cell (p := ⟨b2, off2 + j, none⟩) (block_lt hc')).trans hc'
        have hn3 : w3.cell? ⟨w.heap.size, 1, none⟩ = some (.slice (some ⟨b, off, none⟩) m cap') /\ w3.cell? ⟨b, off + t, none⟩ = some (.int .i64 g) /\ w3.cell? ⟨b2, off2 + j, none⟩ = some (.slice ga 3 gcap) := ⟨q3.cell 1, d3, e3⟩)
     | (go_at_call 24
        refine (in_any).mono ?_
        rintro ee w4 ⟨rfl, rfl⟩))
   have hb2 := btr hb b3';have hw : IntKind.i64.wrap (-g) = -g := wrap_id (by omega) (by omega);rw [hw]
   cases he : inB (dot gx E 3) (-g) g
   ·go_wp2
    go_ret
    exact ⟨ret_bool (by rw [H2'.out he]), hb2⟩
   go_wp2
   go_roundw
   case rel => exact ⟨j + 1, by omega, by go_num, hb2, q3, H1'.out he⟩
   case measure => simp [intOf]; omega
  go_wp2
  go_ret
  exact ⟨ret_bool (by rw [keepsB_end (by rw [HN.out]; omega) HA.out]), hb⟩
theorem copies_pair {ss ts : List IV} (hl : ts.length = ss.length) (h : copiesIS ss ts) : ts.map (fun p => (p.n, p.x)) = ss.map (fun p => (p.n, p.x)) := by
 apply List.ext_getElem?
 intro i
 by_cases hi : i < ts.length
 ·have h0 := h i hi;have h1 := h0.1;have h2 := h0.2;rw [qB hi, qB (by omega)] at h1 h2;simp only [Option.getD_some] at h1 h2;rw [List.getElem?_map, List.getElem?_map, qB hi, qB (by omega)];simp [h1, h2]
 rw [List.getElem?_eq_none (by simp; omega), List.getElem?_eq_none (by simp; omega)]
theorem partsB_copy {ss ts : List IV} (hl : ts.length = ss.length) (h : copiesIS ss ts) : partsB ts = partsB ss := by
 have e : ∀ l : List IV, partsB l = (l.map (fun p => (p.n, p.x))).all fun q => okN 3 10000000 q.1 q.2 := fun l => by rw [List.all_map]; rfl
 rw [e, e, copies_pair hl h]
theorem keepsB_copy {ss ts : List IV} (hl : ts.length = ss.length) (h : copiesIS ss ts) : keepsB g E ts = keepsB g E ss := by
 have e : ∀ l : List IV, keepsB g E l = (l.map (fun p => (p.n, p.x))).all fun q => inB (dot q.2 E 3) (-g) g := fun l => by rw [List.all_map]; rfl
 rw [e, e, copies_pair hl h]
theorem viewB_copy {C D : List Int} {ss ts : List IV} {s : Int} (hl : ts.length = ss.length) (h : copiesIS ss ts) : viewB n m C D ts s k E = viewB n m C D ss s k E := by
 rw [viewB, viewB, partsB_copy hl h]
theorem Cel.two (h : Cel w B [v0, v1] t) : w.cell? ⟨B, 0, none⟩ = some v0 /\ w.cell? ⟨B, 1, none⟩ = some v1 := ⟨h.cell 0, h.cell 1⟩
theorem Cel.three {v2 : Value} (h : Cel w B [v0, v1, v2] t) : w.cell? ⟨B, 0, none⟩ = some v0 /\ w.cell? ⟨B, 1, none⟩ = some v1 /\ w.cell? ⟨B, 2, none⟩ = some v2 := ⟨h.cell 0, h.cell 1, h.cell 2⟩
end Go.Proofs.YtdaiaohlkdolmaaGreat
