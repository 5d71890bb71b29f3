/-
  The first row that is surely the way (impl.siteView.sureRow). Of an act that is ok, and a view that is ok.
-/
import Derived.Test.YtfmpcihghlnlnaaGreatDoorQl
namespace Go.Proofs.YtfmpcihghlnlnaaGreatDoor
open Go.RowKit Go.Deep Go.Shelf
open World renaming size_alloc → qA
open List renaming set_cons_zero → qB, set_cons_succ → qC, getElem?_cons_zero → qD, getElem?_cons_succ → qE
open Nat renaming le_refl → qF
set_option linter.unusedVariables false
set_option maxRecDepth 100000
set_option maxHeartbeats 25600000
variable {F l : Nat} {W X : World} {v : Value}
attribute [local go_sem] Oper.semAt_some
attribute [local go_sem] rs_func
structure Vw (W : World) (a : Option Addr) (c : Option Addr) (m : Nat) (G : Nat) (e : Option Addr) (u : Option Addr) (C D E U : List Int) (ss : List IV) : Prop where
 hC : Ints W a 3 C
 hD : Ints W c m D
 hE : Ints W e 3 E
 hU : Ints W u 2 U
 hP : ∃ cur, Cel W G cur 23 /\ ∀ i, i < ss.length -> cur[i]? = some (ss[i]?.getD noI).v
 hI : ∀ i, i < ss.length -> IG W (ss[i]?.getD noI)
structure Vb (m N : Nat) (C D E U : List Int) (ss : List IV) : Prop where
 hN : ss.length = N
 hN1 : N <= 1048576
 hm3 : m <= 3
 bC : bnd 10000 C
 bE : bnd 20000 E
 bU : bnd 9 U
 bD : ∀ i : Nat, i < D.length -> 0 <= D[i]?.getD 0 /\ D[i]?.getD 0 <= 50
section
variable {W W' : World} {a c : Option Addr} {m G : Nat} {e u : Option Addr} {C D E U : List Int} {ss : List IV}
theorem IG.keepR {s : IV} (h : IG W s) (k : KpR W W') : IG W' s := ⟨h.1.keepR k, h.2⟩
theorem Vw.keepR (h : Vw W a c m G e u C D E U ss) (k : KpR W W') : Vw W' a c m G e u C D E U ss := by
 obtain ⟨cur, hc, hv⟩ := h.hP
 exact ⟨h.hC.keepR k, h.hD.keepR k, h.hE.keepR k, h.hU.keepR k, ⟨cur, hc.keepR k (by decide) (by decide), hv⟩, fun i hi => (h.hI i hi).keepR k⟩
theorem Vw.below (h : Vw W a c m G e u C D E U ss) (b : Below W.heap.size W W') : Vw W' a c m G e u C D E U ss := h.keepR (KpR.of b)
theorem Vw.isg (h : Vw W a c m G e u C D E U ss) : ISG W (some ⟨G, 0, none⟩) ss := fun i hi => by
 obtain ⟨cur, hc, hv⟩ := h.hP
 exact ⟨G, 0, rfl, by rw [Nat.zero_add, hc.cell i]; exact hv i hi, h.hI i hi⟩
end
def RowN (W : World) (v : Value) (r : RowM) : Prop := ∃ ga gc aa ac ta tc, v = .agg #[.slice ga r.guards.length gc, .slice aa r.adds.length ac, .slice ta r.tells.length tc, .bool r.stop] /\ FormsAt W ga r.guards /\ FormsAt W aa r.adds /\ FormsAt W ta r.tells
theorem RowN.keepR {W' : World} {r : RowM} (h : RowN W v r) (k : KpR W W') : RowN W' v r := by
 obtain ⟨ga, gc, aa, ac, ta, tc, e, f0, f1, f2⟩ := h
 exact ⟨ga, gc, aa, ac, ta, tc, e, f0.keepR k, f1.keepR k, f2.keepR k⟩
def RowB (W : World) (F : Nat) (v : Value) (r : RowM) : Prop := ∃ ga gc aa ac ta tc, v = .agg #[.slice ga r.guards.length gc, .slice aa r.adds.length ac, .slice ta r.tells.length tc, .bool r.stop] /\ Cel W F [.slice ga r.guards.length gc, .slice aa r.adds.length ac, .slice ta r.tells.length tc, .bool r.stop] 113
theorem RowB.loop {r : RowM} {x x' : Loop} (h : RowB W F v r) (hl : W.heap[l]? = some (.loop x)) : RowB (W.putObj l (.loop x')) F v r := by
 obtain ⟨ga, gc, aa, ac, ta, tc, e, c⟩ := h
 exact ⟨ga, gc, aa, ac, ta, tc, e, c.loop hl⟩
theorem RowB.defer {r : RowM} {d : Option (List Deferred)} {o : Obj} (h : RowB W F v r) (hl : W.heap[l]? = some (.deferred d)) : RowB (W.putObj l o) F v r := by
 obtain ⟨ga, gc, aa, ac, ta, tc, e, c⟩ := h
 exact ⟨ga, gc, aa, ac, ta, tc, e, c.defer hl⟩
theorem KpR.putL {o o' : Obj} (h : X.heap[l]? = some o) (hc : ∀ cs t fr, o ≠ .cells cs t fr) : KpR X (X.putObj l o') := by
 refine ⟨rfl, rfl, rfl, by simp [World.putObj], fun k hk hn => ?_⟩
 by_cases e : k = l
 ·subst e
  exact absurd (fun cs t fr hh => by rw [h] at hh; simp only [Option.some.injEq] at hh; exact absurd hh (hc cs t fr)) hn
 exact World.putObj_heap_other e
def sureG (m : Nat) (C D : List Int) (ss : List IV) (s : Int) (E U : List Int) (g : Frm) : Bool := (bnds m C D ss s E g.1 g.2.1 g.2.2 U).2.2 && decide (0 <= (bnds m C D ss s E g.1 g.2.1 g.2.2 U).1)
def sureR (m : Nat) (C D : List Int) (ss : List IV) (s : Int) (E U : List Int) (r : RowM) : Bool := r.guards.all (sureG m C D ss s E U)
theorem iknown_any (x y : Int) (b : Bool) {w : World} : Calls Tryz.prog 120 #[.agg #[.int .i64 x, .int .i64 y, .bool b]] w fun e w' => e = .returned (.bool b) /\ Below w.heap.size w w' := by
 have al := (Below.refl w.heap.size w).alloc (qF _) (.cells #[.int .i64 x, .int .i64 y, .bool b] 177)
 go_enter Tryz.func120, Tryz.ntmps120
 go_wp2
 go_ret
 exact ⟨rfl, al⟩
theorem inotlow_any (x y : Int) (b : Bool) {w : World} : Calls Tryz.prog 121 #[.agg #[.int .i64 x, .int .i64 y, .bool b]] w fun e w' => e = .returned (.bool (decide (0 <= x))) /\ Below w.heap.size w w' := by
 have al := (Below.refl w.heap.size w).alloc (qF _) (.cells #[.int .i64 x, .int .i64 y, .bool b] 177)
 go_enter Tryz.func121, Tryz.ntmps121
 go_wp2
 go_ret
 exact ⟨rfl, al⟩
theorem guard_step {m : Nat} {C D : List Int} {ss : List IV} {s : Int} {E U : List Int} {r : RowM} {j : Nat} (hj : j < r.guards.length) (h : (r.guards.take j).all (sureG m C D ss s E U) = true) : (r.guards.take (j + 1)).all (sureG m C D ss s E U) = sureG m C D ss s E U (r.guards[j]?.getD ([], [], 0)) /\ (sureG m C D ss s E U (r.guards[j]?.getD ([], [], 0)) = false -> sureR m C D ss s E U r = false) := by
 refine ⟨?_, fun hf => ?_⟩
 ·rw [List.take_succ_eq_append_getElem hj, List.all_append, h, List.getElem?_eq_getElem hj];simp
 rw [List.getElem?_eq_getElem hj] at hf;rw [sureR, Bool.eq_false_iff];intro ha;have := List.all_eq_true.1 ha _ (List.getElem_mem hj);simp only [Option.getD_some] at hf;rw [hf] at this
 cases this
theorem kpR_row {Y : World} {a1 a2 a3 : Option Addr} {n1 n2 n3 c1 c2 c3 : Nat} {b : Bool} (h : Cel X F [.slice a1 n1 c1, .slice a2 n2 c2, .slice a3 n3 c3, .bool b] 113) (t : Touch (fun k => k = F) X Y) : KpR X Y := t.mono (fun k e => by
 subst e;intro cs ty fr hh;unfold Cel at h;rw [h] at hh
 cases hh
 refine ⟨Or.inr (Or.inl rfl), fun i q => ?_⟩
 match i with
 | 0 => simp
 | 1 => simp
 | 2 => simp
 | 3 => simp
 | i + 4 => simp)
theorem wpIn_calm {P : Program} {F : Fence} {n : Nat} {c : Code} {K : Act -> World -> Prop} {Q : Exit -> Act -> World -> Prop} {a : Act} {w : World} (h : c.wpIn F n P (Exit.then K (fun _ _ _ => False)) a w) : c.wpIn F n P (Exit.then K Q) a w := wpIn_mono h (fun e a w h => by cases e <;> first | exact h | exact h.elim)
theorem kpR_bool {Y : World} {b : Bool} (h : Cel X F [.bool b] 4) (t : Touch (fun k => k = F) X Y) : KpR X Y := t.mono (fun k e => by
 subst e;intro cs ty fr hh;unfold Cel at h;rw [h] at hh
 cases hh
 refine ⟨Or.inl rfl, fun i q => ?_⟩
 match i with
 | 0 => simp
 | i + 1 => simp)
theorem wpIn_scopeW {P : Program} {n : Nat} {c : Code} {Q : Exit -> Act -> World -> Prop} {a : Act} {w : World} (h : c.wpIn Fence.wide n P (Exit.noGoto Q) a w) : (Code.scope c).wpIn Fence.wide n P Q a w := wpIn_wide.2 (wp_scope_straight (wpIn_wide.1 h))
theorem isure_in (a : Option Addr) (cap : Nat) (c : Option Addr) (m cap' : Nat) (G N pc : Nat) (s : Int) (e : Option Addr) (ec : Nat) (u : Option Addr) (uc : Nat) (C D E U : List Int) (ss : List IV) (la : Option Addr) (ln lc : Nat) (ls : List LV) (w : World) (n : Nat) (hv : Vw w a c m G e u C D E U ss) (hb : Vb m N C D E U ss) (hN : ls.length = ln) (hF : LinesG w la ls) (hN1 : ln <= 1048576) (hok : actB ln ls = true) :
  CallsIn Fence.wide n Tryz.prog 89 #[viewV a 3 cap c m cap' (some ⟨G, 0, none⟩) N pc s e 3 ec u 2 uc, .slice la ln lc] w fun r w' => Below w.heap.size w w' /\ ((∃ v q, r = .returned (.tuple #[v, .bool true]) /\ (rowsL ls).find? (sureR m C D ss s E U) = some q /\ RowN w' v q) \/ ((rowsL ls).find? (sureR m C D ss s E U) = none /\ r = .returned (.tuple #[.agg #[.slice none 0 0, .slice none 0 0, .slice none 0 0, .bool false], .bool false]))) := by
 have hdd : ∀ k : Nat, (Fence.wide.depth.isSome = true -> 1 <= k) := fun k h => by simp [Fence.wide] at h
 refine callsIn_of_wp_marks Tryz.func89 rfl trivial ?_ rfl;simp only [Tryz.ntmps89, List.size_toArray, List.length_cons, List.length_nil, Nat.reduceAdd, Nat.reduceSub, Array.replicate_succ, Array.replicate_zero, List.push_toArray, List.append_toArray, List.nil_append, List.cons_append]
 gi_wp2_with fail
 refine wpIn_scopeW ?_
 gi_wp2_with fail
 apply wpIn_label
 have A0 : Below w.heap.size w w := Below.refl _ _;have q0 := (((((Cel.new w [.slice a 3 cap, .slice c m cap', .slice (some ⟨G, 0, none⟩) N pc, .int .i64 s, .slice e 3 ec, .slice u 2 uc] 136).alloc (.cells #[.slice none 0 0, .slice none 0 0, .slice none 0 0, .bool false] 113)).alloc (.cells #[.func (.func 120) #[] #[], .func (.func 121) #[] #[]] 175)).alloc (.cells #[.slice (some ⟨w.heap.size + 1 + 1, 0, none⟩) 2 2] 178)).alloc (.cells #[.slice none 0 0, .slice none 0 0, .slice none 0 0, .bool false] 113)).alloc (.cells #[.bool false] 4);have q1 := ((((Cel.new (w.alloc (.cells #[.slice a 3 cap, .slice c m cap', .slice (some ⟨G, 0, none⟩) N pc, .int .i64 s, .slice e 3 ec, .slice u 2 uc] 136)) [.slice none 0 0, .slice none 0 0, .slice none 0 0, .bool false] 113).alloc (.cells #[.func (.func 120) #[] #[], .func (.func 121) #[] #[]] 175)).alloc (.cells #[.slice (some ⟨w.heap.size + 1 + 1, 0, none⟩) 2 2] 178)).alloc (.cells #[.slice none 0 0, .slice none 0 0, .slice none 0 0, .bool false] 113)).alloc (.cells #[.bool false] 4);simp only [qA] at q1
 have q2 := (((Cel.new ((w.alloc (.cells #[.slice a 3 cap, .slice c m cap', .slice (some ⟨G, 0, none⟩) N pc, .int .i64 s, .slice e 3 ec, .slice u 2 uc] 136)).alloc (.cells #[.slice none 0 0, .slice none 0 0, .slice none 0 0, .bool false] 113)) [.func (.func 120) #[] #[], .func (.func 121) #[] #[]] 175).alloc (.cells #[.slice (some ⟨w.heap.size + 1 + 1, 0, none⟩) 2 2] 178)).alloc (.cells #[.slice none 0 0, .slice none 0 0, .slice none 0 0, .bool false] 113)).alloc (.cells #[.bool false] 4);simp only [qA] at q2;have q3 := ((Cel.new (((w.alloc (.cells #[.slice a 3 cap, .slice c m cap', .slice (some ⟨G, 0, none⟩) N pc, .int .i64 s, .slice e 3 ec, .slice u 2 uc] 136)).alloc (.cells #[.slice none 0 0, .slice none 0 0, .slice none 0 0, .bool false] 113)).alloc (.cells #[.func (.func 120) #[] #[], .func (.func 121) #[] #[]] 175)) [.slice (some ⟨w.heap.size + 1 + 1, 0, none⟩) 2 2] 178).alloc (.cells #[.slice none 0 0, .slice none 0 0, .slice none 0 0, .bool false] 113)).alloc (.cells #[.bool false] 4);simp only [qA] at q3
 have q4 := (Cel.new ((((w.alloc (.cells #[.slice a 3 cap, .slice c m cap', .slice (some ⟨G, 0, none⟩) N pc, .int .i64 s, .slice e 3 ec, .slice u 2 uc] 136)).alloc (.cells #[.slice none 0 0, .slice none 0 0, .slice none 0 0, .bool false] 113)).alloc (.cells #[.func (.func 120) #[] #[], .func (.func 121) #[] #[]] 175)).alloc (.cells #[.slice (some ⟨w.heap.size + 1 + 1, 0, none⟩) 2 2] 178)) [.slice none 0 0, .slice none 0 0, .slice none 0 0, .bool false] 113).alloc (.cells #[.bool false] 4);simp only [qA] at q4;have q5 := Cel.new (((((w.alloc (.cells #[.slice a 3 cap, .slice c m cap', .slice (some ⟨G, 0, none⟩) N pc, .int .i64 s, .slice e 3 ec, .slice u 2 uc] 136)).alloc (.cells #[.slice none 0 0, .slice none 0 0, .slice none 0 0, .bool false] 113)).alloc (.cells #[.func (.func 120) #[] #[], .func (.func 121) #[] #[]] 175)).alloc (.cells #[.slice (some ⟨w.heap.size + 1 + 1, 0, none⟩) 2 2] 178)).alloc (.cells #[.slice none 0 0, .slice none 0 0, .slice none 0 0, .bool false] 113)) [.bool false] 4;simp only [qA] at q5
 have b3 := ((((((Below.refl w.heap.size w).alloc (by (try simp only [qA]); omega) (.cells #[.slice a 3 cap, .slice c m cap', .slice (some ⟨G, 0, none⟩) N pc, .int .i64 s, .slice e 3 ec, .slice u 2 uc] 136)).alloc (by (try simp only [qA]); omega) (.cells #[.slice none 0 0, .slice none 0 0, .slice none 0 0, .bool false] 113)).alloc (by (try simp only [qA]); omega) (.cells #[.func (.func 120) #[] #[], .func (.func 121) #[] #[]] 175)).alloc (by (try simp only [qA]); omega) (.cells #[.slice (some ⟨w.heap.size + 1 + 1, 0, none⟩) 2 2] 178)).alloc (by (try simp only [qA]); omega) (.cells #[.slice none 0 0, .slice none 0 0, .slice none 0 0, .bool false] 113)).alloc (by (try simp only [qA]); omega) (.cells #[.bool false] 4);obtain ⟨W5, hW5⟩ : ∃ W, W = ((((((w.alloc (.cells #[.slice a 3 cap, .slice c m cap', .slice (some ⟨G, 0, none⟩) N pc, .int .i64 s, .slice e 3 ec, .slice u 2 uc] 136)).alloc (.cells #[.slice none 0 0, .slice none 0 0, .slice none 0 0, .bool false] 113)).alloc (.cells #[.func (.func 120) #[] #[], .func (.func 121) #[] #[]] 175)).alloc (.cells #[.slice (some ⟨w.heap.size + 1 + 1, 0, none⟩) 2 2] 178)).alloc (.cells #[.slice none 0 0, .slice none 0 0, .slice none 0 0, .bool false] 113)).alloc (.cells #[.bool false] 4)) := ⟨_, rfl⟩
 gi_wp2_with fail
 rw [<- hW5] at q0 q1 q2 q3 q4 q5 b3 ⊢;clear hW5;refine ⟨trivial, hdd _, (callsIn_wide.2 (ithrough_any la ln lc W5)).mono ?_⟩;rintro ee w4 ⟨B, rfl, b4, cB⟩;replace q0 := q0.below b4;replace q1 := q1.below b4;replace q2 := q2.below b4;replace q3 := q3.below b4;replace q4 := q4.below b4;replace q5 := q5.below b4;have B4 := btr b3 b4;have F4 := hF.below B4;have s4 := B4.size;have l5 := q5.lt;clear A0 b3 b4
 gi_wp2_with fail
 refine wpIn_rowsL (α := Value × RowM) (gf := 141) (lb := #[.pointer (some ⟨B, 0, none⟩)]) rfl (enters_of Tryz.func141 (by kernel_rfl) rfl) (encs := fun x => #[x.1]) (fun _ => rfl)
  (fun pre x X => RowFit x.2 /\ RowX X w4.heap.size x.1 x.2) KpR (fun xs => xs.map Prod.snd = rowsL ls) (fun xs => ∃ rest, rowsL ls = xs.map Prod.snd ++ rest)
  (fun pre X => (∀ x ∈ pre, sureR m C D ss s E U x.2 = false) /\ KpR w4 X /\ Below w.heap.size w X /\ Cel X (w.heap.size + 1 + 1 + 1 + 1) [.slice none 0 0, .slice none 0 0, .slice none 0 0, .bool false] 113 /\ Cel X (w.heap.size + 1 + 1 + 1 + 1 + 1) [.bool false] 4 /\ Cel X (w.heap.size + 1) [.slice none 0 0, .slice none 0 0, .slice none 0 0, .bool false] 113)
  (fun cc xs X => cc = .exit 0 /\ ∃ pre x, xs = pre ++ [x] /\ (∀ y ∈ pre, sureR m C D ss s E U y.2 = false) /\ sureR m C D ss s E U x.2 = true /\ KpR w4 X /\ Below w.heap.size w X /\ RowB X (w.heap.size + 1 + 1 + 1 + 1) x.1 x.2 /\ Cel X (w.heap.size + 1 + 1 + 1 + 1 + 1) [.bool true] 4 /\ Cel X (w.heap.size + 1) [.slice none 0 0, .slice none 0 0, .slice none 0 0, .bool false] 113 /\ RowN X x.1 x.2)
  (fun pre X Y h b => ⟨h.1, h.2.1.trans (KpR.of b), h.2.2.1.trans (b.mono h.2.2.1.size), h.2.2.2.1.below b, h.2.2.2.2.1.below b, h.2.2.2.2.2.below b⟩)
  (fun pre X l r r' h hl lt => ⟨h.1, h.2.1.trans (KpR.loop X l r r' hl), below_loop h.2.2.1 (by omega), h.2.2.2.1.loop hl, h.2.2.2.2.1.loop hl, h.2.2.2.2.2.loop hl⟩)
  (fun cc xs X l r r' h hl lt => ?xb) KpR.loop (fun X Y Z => KpR.trans) ⟨fun x hx => absurd hx (by simp), KpR.refl _, B4, q4, q5, q1⟩ ?seq ?round ?done ?stop
 case xb =>
  obtain ⟨h1, pre, x, h2, h3, h4, h5, h6, h7, h8, hA, h9⟩ := h
  exact ⟨h1, pre, x, h2, h3, h4, h5.trans (KpR.loop X l r r' hl), below_loop h6 (by omega), h7.loop hl, h8.loop hl, hA.loop hl, h9.keepR (KpR.loop X l r r' hl)⟩
 case seq =>
  intro l J D' W hJ hb' hJ0 hY;have e0 : (#[.func (.yield l) #[] #[]] ++ #[.pointer (some ⟨B, 0, none⟩)] : Array Value) = #[.func (.yield l) #[] #[], .pointer (some ⟨B, 0, none⟩)] := rfl;rw [e0];refine (through_left l w4.heap.size (fun rs X => ∃ xs : List (Value × RowM), xs.map Prod.snd = rs /\ J xs X) (fun rs X => ∃ xs : List (Value × RowM), xs.map Prod.snd = rs /\ D' xs X) (fun rs X Y h b => ?_) (fun m' rs v r X h fit rx _ => ?_) B la ln lc ls W (n - 1) hN (F4.below hb') hN1 hok ((cB.below hb').cell 0) hb'.size ⟨[], rfl, hJ0⟩).mono ?_
  ·obtain ⟨xs, e, j⟩ := h
   exact ⟨xs, e, hJ _ _ _ j b⟩
  ·obtain ⟨xs, e, j⟩ := h;obtain ⟨fn, tmps, assign, body, hy, hR⟩ := hY m' xs (v, r) X j ⟨fit, rx⟩;refine ⟨fn, tmps, assign, body, hy, hR.mono ?_⟩;rintro e' Y ⟨bb, h1, h2, h3⟩;refine ⟨bb, h1, ?_, h3⟩
   rcases h2 with ⟨h4, h5⟩ | ⟨h4, h5⟩
   ·exact Or.inl ⟨h4, xs ++ [(v, r)], by simp [e], h5⟩
   exact Or.inr ⟨h4, [r], [], rfl, xs ++ [(v, r)], by simp [e], h5⟩
  rintro ee Y ⟨h1, h2, _⟩;refine ⟨h1, ?_⟩
  rcases h2 with ⟨xs, h3, h4⟩ | ⟨ms, rest, h3, xs, h4, h5⟩
  ·exact Or.inl ⟨xs, h3, h4⟩
  exact Or.inr ⟨xs, ⟨rest, by rw [h3, h4]⟩, h5⟩
 case round =>
  rintro mm l pre ⟨v, rm⟩ X r ⟨hno, hk, hB, cF, cS, cA⟩ ⟨fit, rx⟩ hl hlt;dsimp only at fit rx;obtain ⟨ga, gc, aa, ac, ta, tc, rfl, f0, f1, f2⟩ := rx;dsimp only
  gi_wp2_with fail
  have bx : Below X.heap.size X (X.alloc (.cells #[.slice ga rm.guards.length gc, .slice aa rm.adds.length ac, .slice ta rm.tells.length tc, .bool rm.stop] 113)) := bal;have cx := Cel.new X [.slice ga rm.guards.length gc, .slice aa rm.adds.length ac, .slice ta rm.tells.length tc, .bool rm.stop] 113;have hl1 := (bx.block l (lt_of_block hl)).trans hl;refine ⟨keeps_below bx, KpR.of bx, ?_⟩;have F1 := Cel.loop (r' := { r with state := .busy }) (cF.below bx) hl1;have S1 := Cel.loop (r' := { r with state := .busy }) (cS.below bx) hl1;have A1 := Cel.loop (r' := { r with state := .busy }) (cA.below bx) hl1;have X1 := Cel.loop (r' := { r with state := .busy }) cx hl1;have k1 : KpR X _ := (KpR.of bx).trans (KpR.loop _ l r { r with state := .busy } hl1);have B1 := below_loop (r' := { r with state := .busy }) (btr hB bx) (l := l) (by omega);obtain ⟨Y, hY⟩ : ∃ Y, Y = (X.alloc (.cells #[.slice ga rm.guards.length gc, .slice aa rm.adds.length ac, .slice ta rm.tells.length tc, .bool rm.stop] 113)).putObj l (.loop { r with state := .busy }) := ⟨_, rfl⟩
  rw [<- hY] at F1 S1 A1 X1 k1 B1 ⊢;clear hY;have kY := hk.trans k1;have vY := hv.keepR ((KpR.of B4).trans kY);have p0 := q0.keepR kY (by decide) (by decide);have p2 := q2.keepR kY (by decide) (by decide);have p3 := q3.keepR kY (by decide) (by decide);have FA : Hid (FormsAt Y ga rm.guards) := f0.at.keepR k1;have RN : Hid (RowN Y (.agg #[.slice ga rm.guards.length gc, .slice aa rm.adds.length ac, .slice ta rm.tells.length tc, .bool rm.stop]) rm) := ⟨ga, gc, aa, ac, ta, tc, rfl, f0.at.keepR k1, f1.at.keepR k1, f2.at.keepR k1⟩
  have HNO : Hid (∀ x ∈ pre, sureR m C D ss s E U x.2 = false) := hno;have FIT : Hid _ := fit.g;have lg : rm.guards.length <= 1000 := fit.lg;have lX := X1.lt;obtain ⟨NG, hNG⟩ : ∃ A, A = rm.guards.length := ⟨_, rfl⟩
  have HNG : Hid (NG = rm.guards.length) := hNG;obtain ⟨NA, hNA⟩ : ∃ A, A = rm.adds.length := ⟨_, rfl⟩
  obtain ⟨NT, hNT⟩ : ∃ A, A = rm.tells.length := ⟨_, rfl⟩
  have HNA : Hid (NA = rm.adds.length) := hNA;have HNT : Hid (NT = rm.tells.length) := hNT;rw [<- hNG, <- hNA, <- hNT] at X1;rw [<- hNG] at lg;have hx0 := X1.cell 0;simp only [qD] at hx0;clear f0 f1 f2 bx hl1 cx cF cS cA hno fit hNG hNA hNT hk hB k1
  gi_wp2_with fail
  gi_loopw [22] (fun i wr => ∃ j : Nat, j <= NG /\ i = .int .i64 j /\ (rm.guards.take j).all (sureG m C D ss s E U) = true /\ Below Y.heap.size Y wr) (fun i _ => NG - (intOf i).toNat)
  case atStart => exact ⟨0, by omega, rfl, rfl, Below.refl _ _⟩
  case round =>
   clear hx0;obtain ⟨j, hj, rfl, htk, by1⟩ := hrel;have HTK : Hid _ := htk;clear htk
   by_cases hlt2 : j < NG
   ·have hj' : (j : Int) < (NG : Int) := by omega
    have hjl : j < rm.guards.length := by rw [<- HNG.out]; exact hlt2
    have hfit := FIT.out j hjl;have HG : Hid ((rm.guards.take (j + 1)).all (sureG m C D ss s E U) = sureG m C D ss s E U (rm.guards[j]?.getD ([], [], 0)) /\ (sureG m C D ss s E U (rm.guards[j]?.getD ([], [], 0)) = false -> sureR m C D ss s E U rm = false)) := guard_step hjl HTK.out;obtain ⟨b, off, rfl, a', c', ca, cc, c0, c1, c2, iC, iD⟩ := (FA.out.keep by1) j hjl;generalize rm.guards[j]?.getD ([], [], 0) = g at hfit HG c2 iC iD;obtain ⟨gC, gD, gK⟩ := g;obtain ⟨lC, lD, bA, bBd, bK1, bK2⟩ := hfit;dsimp only at c2 iC iD lC lD bA bBd bK1 bK2;have bz := (Below.refl wr.heap.size wr).alloc (qF _) (.cells #[.slice a' 3 ca, .slice c' 2 cc, .int .i64 gK] 106);have fz := Cel.new wr [.slice a' 3 ca, .slice c' 2 cc, .int .i64 gK] 106;have bzy := btr by1 bz;have m0 := p0.below bzy;have n0 := m0.cell 0;have n1 := m0.cell 1;have n2 := m0.cell 2;have n3 := m0.cell 3;have n4 := m0.cell 4;have n5 := m0.cell 5;simp only [qD, qE] at n0 n1 n2 n3 n4 n5;have z0 := fz.cell 0;have z1 := fz.cell 1;have z2 := fz.cell 2;simp only [qD, qE] at z0 z1 z2
    gi_wp2_with fail
    obtain ⟨Z, hZ⟩ : ∃ Z, Z = wr.alloc (.cells #[.slice a' 3 ca, .slice c' 2 cc, .int .i64 gK] 106) := ⟨_, rfl⟩
    rw [<- hZ] at bz bzy ⊢;clear hZ c0 c1 c2 m0 n0 n1 n2 n3 n4 n5 z0 z1 z2 fz;have vZ := vY.below bzy;refine ⟨trivial, hdd _, CallsIn.mono (CallsIn.inRound l (callsIn_wide.2 (vbounds_any a cap c m cap' (some ⟨G, 0, none⟩) N pc s e ec u uc a' ca c' cc gK C D E U gC gD ss Z vZ.hC vZ.hD vZ.hE vZ.hU (iC.below bz) (iD.below bz) hb.hN vZ.isg hb.hN1 hb.hm3 hb.bC hb.bE hb.bU bA bBd ⟨bK1, bK2⟩ hb.bD))) ?_⟩;rintro ee w6 ⟨x, hx, rfl, b6⟩;have HX : Hid (x = bnds m C D ss s E gC gD gK U) := hx;obtain ⟨lo, hi, kn⟩ := x;dsimp only;have bw := btr bzy b6;clear hx iC iD bz bzy vZ b6 lC lD bA bBd bK1 bK2;have bt := (Below.refl w6.heap.size w6).alloc (qF _) (.cells #[.int .i64 lo, .int .i64 hi, .bool kn] 177);have cb := Cel.new w6 [.int .i64 lo, .int .i64 hi, .bool kn] 177;have bv := btr bw bt;have g3 := (p3.below bv).cell 0;simp only [qD] at g3
    gi_wp2_with fail
    obtain ⟨V, hV⟩ : ∃ Z, Z = w6.alloc (.cells #[.int .i64 lo, .int .i64 hi, .bool kn] 177) := ⟨_, rfl⟩
    rw [<- hV] at cb bv ⊢;clear hV bw bt g3
    gi_loopw [31] (fun i w8 => (i = .int .i64 0 \/ (i = .int .i64 1 /\ kn = true) \/ (i = .int .i64 2 /\ kn = true /\ 0 <= lo)) /\ Below V.heap.size V w8) (fun i _ => 2 - (intOf i).toNat)
    case atStart => exact ⟨Or.inl rfl, Below.refl _ _⟩
    case round =>
     obtain ⟨hi2, b8⟩ := hrel;have cb8 := cb.below b8;have o0 := cb8.cell 0;have o1 := cb8.cell 1;have o2 := cb8.cell 2;simp only [qD, qE] at o0 o1 o2;have bq := btr bv b8;have t0 := (p2.below bq).cell 0;have t1 := (p2.below bq).cell 1;simp only [qD, qE] at t0 t1;clear cb8
     rcases hi2 with rfl | ⟨rfl, rfl⟩ | ⟨rfl, rfl, hlo⟩
     ·gi_wp2_with fail
      refine ⟨trivial, hdd _, CallsIn.mono (CallsIn.inRound l (callsIn_wide.2 (iknown_any lo hi kn))) ?_⟩;rintro ee w9 ⟨rfl, b9⟩
      cases kn
      ·have bo := btr bq b9;have HNR : Hid (sureR m C D ss s E U rm = false) := HG.out.2 (by rw [sureG, <- HX.out]; rfl);clear t0 t1 o0 o1 o2 b9 b8 cb bv bq
       gi_wp2
       refine ⟨keeps_below bo, KpR.of bo, fun y hy => ?_, kY.trans (KpR.of bo), btr B1 bo, F1.below bo, S1.below bo, A1.below bo⟩
       rcases List.mem_append.1 hy with hy | hy
       ·exact HNO.out y hy
       rw [List.mem_singleton.1 hy]; exact HNR.out
      have bo := btr b8 b9;clear t0 t1 o0 o1 o2 b9
      gi_wp2
      go_roundw
      case rel => exact ⟨Or.inr (Or.inl ⟨by go_num, by first | rfl | trivial⟩), bo⟩
      case measure => simp [intOf]
     ·gi_wp2_with fail
      refine ⟨trivial, hdd _, CallsIn.mono (CallsIn.inRound l (callsIn_wide.2 (inotlow_any lo hi true))) ?_⟩;rintro ee w9 ⟨rfl, b9⟩
      by_cases hlo : 0 <= lo
      ·have hd : decide (0 <= lo) = true := decide_eq_true hlo;rw [hd];have bo := btr b8 b9;clear t0 t1 o0 o1 o2 b9
       gi_wp2
       go_roundw
       case rel => exact ⟨Or.inr (Or.inr ⟨by go_num, by first | rfl | trivial, hlo⟩), bo⟩
       case measure => simp [intOf]
      have hd : decide (0 <= lo) = false := decide_eq_false hlo;rw [hd];have bo := btr bq b9;have HNR : Hid (sureR m C D ss s E U rm = false) := HG.out.2 (by rw [sureG, <- HX.out]; (show (true && decide (0 <= lo)) = false; rw [hd]; rfl));clear t0 t1 o0 o1 o2 b9 b8 cb bv bq
      gi_wp2
      refine ⟨keeps_below bo, KpR.of bo, fun y hy => ?_, kY.trans (KpR.of bo), btr B1 bo, F1.below bo, S1.below bo, A1.below bo⟩
      rcases List.mem_append.1 hy with hy | hy
      ·exact HNO.out y hy
      rw [List.mem_singleton.1 hy]; exact HNR.out
     have HJ : Hid ((rm.guards.take (j + 1)).all (sureG m C D ss s E U) = true) := by
      show _ = _
      rw [HG.out.1, sureG, <- HX.out]
      show (true && decide (0 <= lo)) = true
      rw [decide_eq_true hlo]; rfl
     clear t0 t1 o0 o1 o2 HG HX
     gi_wp2
     go_roundw
     case rel => exact ⟨j + 1, by omega, by go_num, HJ.out, bq⟩
     case measure => simp [intOf]; omega
   obtain rfl : j = NG := by omega
   have hj' : ¬ ((j : Int) < (j : Int)) := by omega
   have HS : Hid (sureR m C D ss s E U rm = true) := by
    show _ = _
    have h := HTK.out;rw [List.take_of_length_le (by rw [<- HNG.out]; exact qF _)] at h
    exact h
   have X2 := X1.below by1;have F2 := F1.below by1;have S2 := S1.below by1;have x0 := X2.cell 0;have x1 := X2.cell 1;have x2 := X2.cell 2;have x3 := X2.cell 3;have y0 := F2.cell 0;have y1 := F2.cell 1;have y2 := F2.cell 2;have y3 := F2.cell 3;have f0 := F2.free 0;have f1 := F2.free 1;have f2 := F2.free 2;have f3 := F2.free 3;have u0 := S2.cell 0;have u1 := S2.free 0;simp only [qD, qE] at x0 x1 x2 x3 y0 y1 y2 y3 u0;have lF := F2.lt;have lS := S2.lt;have tF : Touch (fun k => k = (w.heap.size + 1 + 1 + 1 + 1)) wr ((((wr.setCell ⟨(w.heap.size + 1 + 1 + 1 + 1), 0, none⟩ (.slice ga j gc)).setCell ⟨(w.heap.size + 1 + 1 + 1 + 1), 1, none⟩ (.slice aa NA ac)).setCell ⟨(w.heap.size + 1 + 1 + 1 + 1), 2, none⟩ (.slice ta NT tc)).setCell ⟨(w.heap.size + 1 + 1 + 1 + 1), 3, none⟩ (.bool rm.stop)) := Touch.setCell (Touch.setCell (Touch.setCell (Touch.setCell (S := fun k => k = (w.heap.size + 1 + 1 + 1 + 1)) (Touch.refl _ _) rfl _) rfl _) rfl _) rfl _;have F3 := (((F2.set 0 (.slice ga j gc)).set 1 (.slice aa NA ac)).set 2 (.slice ta NT tc)).set 3 (.bool rm.stop);simp only [qB, qC] at F3;have S3 := cel_past S2 tF;have kF := kpR_row F2 tF;clear X2 q0 q1 q2 q3 q4 q5 p0 p2 p3 cB F4 F1 S1
   obtain ⟨W1, hW1⟩ : ∃ W, W = ((((wr.setCell ⟨(w.heap.size + 1 + 1 + 1 + 1), 0, none⟩ (.slice ga j gc)).setCell ⟨(w.heap.size + 1 + 1 + 1 + 1), 1, none⟩ (.slice aa NA ac)).setCell ⟨(w.heap.size + 1 + 1 + 1 + 1), 2, none⟩ (.slice ta NT tc)).setCell ⟨(w.heap.size + 1 + 1 + 1 + 1), 3, none⟩ (.bool rm.stop)) := ⟨_, rfl⟩
   gi_wp2_with fail
   rw [<- hW1] at tF F3 S3 kF ⊢;clear hW1 x0 x1 x2 x3 y0 y1 y2 y3 f0 f1 f2 f3 u0 u1;have tS : Touch (fun k => k = (w.heap.size + 1 + 1 + 1 + 1 + 1)) W1 (W1.setCell ⟨(w.heap.size + 1 + 1 + 1 + 1 + 1), 0, none⟩ (.bool true)) := Touch.setCell (S := fun k => k = (w.heap.size + 1 + 1 + 1 + 1 + 1)) (Touch.refl _ _) rfl _;have kS := kpR_bool S3 tS;have KP := (KpR.of by1).trans (kF.trans kS);have KF := (keeps_below (B := w4.heap.size) by1).trans ((keeps_touch tF).trans (keeps_touch tS));have F5 := cel_past F3 tS;have S5 := S3.set 0 (.bool true);have A5 := cel_past (cel_past (A1.below by1) tF) tS;refine ⟨KF, KP, rfl, pre, _, rm, rfl, fun y z hy => HNO.out (y, z) hy, HS.out, kY.trans KP, below_touch (below_touch (btr B1 by1) tF) tS, ⟨ga, gc, aa, ac, ta, tc, rfl, ?_⟩, S5, A5, RN.out.keepR KP⟩;rw [<- HNG.out, <- HNA.out, <- HNT.out]
   exact F5
 case done =>
  rintro Dd xs W hD hSx ⟨hno, hk, hB, cF, cS, cA⟩ hDf
  gi_wp2_with fail
  have x0 := cF.cell 0;have x1 := cF.cell 1;have x2 := cF.cell 2;have x3 := cF.cell 3;have y0 := cS.cell 0;have z0 := cA.cell 0;have z1 := cA.cell 1;have z2 := cA.cell 2;have z3 := cA.cell 3;have f0 := cA.free 0;have f1 := cA.free 1;have f2 := cA.free 2;have f3 := cA.free 3;have lA := cA.lt;simp only [qD, qE] at x0 x1 x2 x3 y0 z0 z1 z2 z3;have A2 := (((cA.set 0 (.slice none 0 0)).set 1 (.slice none 0 0)).set 2 (.slice none 0 0)).set 3 (.bool false);simp only [qB, qC] at A2;have tA : Touch (fun k => k = (w.heap.size + 1)) W ((((W.setCell ⟨(w.heap.size + 1), 0, none⟩ (.slice none 0 0)).setCell ⟨(w.heap.size + 1), 1, none⟩ (.slice none 0 0)).setCell ⟨(w.heap.size + 1), 2, none⟩ (.slice none 0 0)).setCell ⟨(w.heap.size + 1), 3, none⟩ (.bool false)) := Touch.setCell (Touch.setCell (Touch.setCell (Touch.setCell (S := fun k => k = (w.heap.size + 1)) (Touch.refl _ _) rfl _) rfl _) rfl _) rfl _;have kA := kpR_row cA tA;have D2 := (tA.block Dd (lt_of_block hDf) (by omega)).trans hDf;refine wpIn_calm ?_
  have hSS : ((W.drew.cell? ⟨(w.heap.size + 1 + 1 + 1 + 1), 0, none⟩ = some (.slice none 0 0) /\ W.drew.cell? ⟨(w.heap.size + 1 + 1 + 1 + 1), 1, none⟩ = some (.slice none 0 0) /\ W.drew.cell? ⟨(w.heap.size + 1 + 1 + 1 + 1), 2, none⟩ = some (.slice none 0 0) /\ W.drew.cell? ⟨(w.heap.size + 1 + 1 + 1 + 1), 3, none⟩ = some (.bool false)) /\ W.drew.cell? ⟨(w.heap.size + 1 + 1 + 1 + 1 + 1), 0, none⟩ = some (.bool false)) := ⟨⟨x0, x1, x2, x3⟩, y0⟩
  refine wpIn_region_S (fun w' => (w'.cell? ⟨(w.heap.size + 1 + 1 + 1 + 1), 0, none⟩ = some (.slice none 0 0) /\ w'.cell? ⟨(w.heap.size + 1 + 1 + 1 + 1), 1, none⟩ = some (.slice none 0 0) /\ w'.cell? ⟨(w.heap.size + 1 + 1 + 1 + 1), 2, none⟩ = some (.slice none 0 0) /\ w'.cell? ⟨(w.heap.size + 1 + 1 + 1 + 1), 3, none⟩ = some (.bool false)) /\ w'.cell? ⟨(w.heap.size + 1 + 1 + 1 + 1 + 1), 0, none⟩ = some (.bool false)) (by kernel_rfl) ?_;refine tks 0 rfl rfl hSS ?_;refine tks 1 rfl rfl hSS ?_;have cF2 := cel_past cF tA;have cS2 := cel_past cS tA
  skip
  refine wpAnyS_one (i := 2) (by kernel_rfl) rfl (fun K hK => ?_);go_simp;refine hK.out _ _ ⟨⟨cF2.cell 0, cF2.cell 1, cF2.cell 2, cF2.cell 3⟩, cS2.cell 0⟩ ?_;refine wpAnyS_one (i := 3) (by kernel_rfl) rfl (fun K hK => ?_);go_simp;refine hK.out _ _ ⟨⟨cF2.cell 0, cF2.cell 1, cF2.cell 2, cF2.cell 3⟩, cS2.cell 0⟩ ?_;refine wpAnyS_done (by kernel_rfl) ?_ _;clear hSS x0 x1 x2 x3 y0 z0 z1 z2 z3 f0 f1 f2 f3
  gi_wp2
  simp only [Exit.noGoto];have D3 : ((((W.setCell ⟨(w.heap.size + 1), 0, none⟩ (.slice none 0 0)).setCell ⟨(w.heap.size + 1), 1, none⟩ (.slice none 0 0)).setCell ⟨(w.heap.size + 1), 2, none⟩ (.slice none 0 0)).setCell ⟨(w.heap.size + 1), 3, none⟩ (.bool false)).drew.heap[Dd]? = some (.deferred (some [])) := D2;have A3 : Cel (((((W.setCell ⟨(w.heap.size + 1), 0, none⟩ (.slice none 0 0)).setCell ⟨(w.heap.size + 1), 1, none⟩ (.slice none 0 0)).setCell ⟨(w.heap.size + 1), 2, none⟩ (.slice none 0 0)).setCell ⟨(w.heap.size + 1), 3, none⟩ (.bool false)).drew.putObj Dd (.deferred none)) (w.heap.size + 1) [.slice none 0 0, .slice none 0 0, .slice none 0 0, .bool false] 113 := Cel.defer (show Cel ((((W.setCell ⟨(w.heap.size + 1), 0, none⟩ (.slice none 0 0)).setCell ⟨(w.heap.size + 1), 1, none⟩ (.slice none 0 0)).setCell ⟨(w.heap.size + 1), 2, none⟩ (.slice none 0 0)).setCell ⟨(w.heap.size + 1), 3, none⟩ (.bool false)).drew _ _ _ from A2) D3;have a0 := A3.cell 0;have a1 := A3.cell 1;have a2 := A3.cell 2;have a3 := A3.cell 3;simp only [qD, qE] at a0 a1 a2 a3;have BL : Below w.heap.size w (((((W.setCell ⟨(w.heap.size + 1), 0, none⟩ (.slice none 0 0)).setCell ⟨(w.heap.size + 1), 1, none⟩ (.slice none 0 0)).setCell ⟨(w.heap.size + 1), 2, none⟩ (.slice none 0 0)).setCell ⟨(w.heap.size + 1), 3, none⟩ (.bool false)).drew.putObj Dd (.deferred none)) := below_put ((below_touch hB tA).drew) (by omega)
  have KK : KpR W (((((W.setCell ⟨(w.heap.size + 1), 0, none⟩ (.slice none 0 0)).setCell ⟨(w.heap.size + 1), 1, none⟩ (.slice none 0 0)).setCell ⟨(w.heap.size + 1), 2, none⟩ (.slice none 0 0)).setCell ⟨(w.heap.size + 1), 3, none⟩ (.bool false)).drew.putObj Dd (.deferred none)) := (kA.trans (KpR.of (Below.refl _ _).drew)).trans (KpR.putL D3 (fun cs t fr h => by cases h));refine ⟨by simp, .inl ⟨_, _, rfl, run_takeDeferred D3, ?_⟩⟩;refine ⟨.tuple #[.agg #[.slice none 0 0, .slice none 0 0, .slice none 0 0, .bool false], .bool false], by simp [results, Tryz.results89, go_sem, a0, a1, a2, a3], BL, ?_⟩;refine Or.inr ⟨?_, rfl⟩;rw [<- hSx, List.find?_eq_none];intro q hq;obtain ⟨y, hy, rfl⟩ := List.mem_map.1 hq;rw [hno y hy]
  decide
 case stop =>
  rintro Dd cc xs W hD ⟨rest, hrest⟩ ⟨rfl, pre, x, rfl, hno, hsu, hk, hB, ⟨ga, gc, aa, ac, ta, tc, hxv, cF⟩, cS, cA, rn⟩ hDf
  gi_wp2_with fail
  have x0 := cF.cell 0;have x1 := cF.cell 1;have x2 := cF.cell 2;have x3 := cF.cell 3;have y0 := cS.cell 0;have z0 := cA.cell 0;have z1 := cA.cell 1;have z2 := cA.cell 2;have z3 := cA.cell 3;have f0 := cA.free 0;have f1 := cA.free 1;have f2 := cA.free 2;have f3 := cA.free 3;have lA := cA.lt;simp only [qD, qE] at x0 x1 x2 x3 y0 z0 z1 z2 z3;have A2 := (((cA.set 0 (.slice ga x.2.guards.length gc)).set 1 (.slice aa x.2.adds.length ac)).set 2 (.slice ta x.2.tells.length tc)).set 3 (.bool x.2.stop);simp only [qB, qC] at A2;have tA : Touch (fun k => k = (w.heap.size + 1)) W ((((W.setCell ⟨(w.heap.size + 1), 0, none⟩ (.slice ga x.2.guards.length gc)).setCell ⟨(w.heap.size + 1), 1, none⟩ (.slice aa x.2.adds.length ac)).setCell ⟨(w.heap.size + 1), 2, none⟩ (.slice ta x.2.tells.length tc)).setCell ⟨(w.heap.size + 1), 3, none⟩ (.bool x.2.stop)) := Touch.setCell (Touch.setCell (Touch.setCell (Touch.setCell (S := fun k => k = (w.heap.size + 1)) (Touch.refl _ _) rfl _) rfl _) rfl _) rfl _;have kA := kpR_row cA tA;have D2 := (tA.block Dd (lt_of_block hDf) (by omega)).trans hDf;refine wpIn_calm ?_
  have hSS : ((W.drew.cell? ⟨(w.heap.size + 1 + 1 + 1 + 1), 0, none⟩ = some (.slice ga x.2.guards.length gc) /\ W.drew.cell? ⟨(w.heap.size + 1 + 1 + 1 + 1), 1, none⟩ = some (.slice aa x.2.adds.length ac) /\ W.drew.cell? ⟨(w.heap.size + 1 + 1 + 1 + 1), 2, none⟩ = some (.slice ta x.2.tells.length tc) /\ W.drew.cell? ⟨(w.heap.size + 1 + 1 + 1 + 1), 3, none⟩ = some (.bool x.2.stop)) /\ W.drew.cell? ⟨(w.heap.size + 1 + 1 + 1 + 1 + 1), 0, none⟩ = some (.bool true)) := ⟨⟨x0, x1, x2, x3⟩, y0⟩
  refine wpIn_region_S (fun w' => (w'.cell? ⟨(w.heap.size + 1 + 1 + 1 + 1), 0, none⟩ = some (.slice ga x.2.guards.length gc) /\ w'.cell? ⟨(w.heap.size + 1 + 1 + 1 + 1), 1, none⟩ = some (.slice aa x.2.adds.length ac) /\ w'.cell? ⟨(w.heap.size + 1 + 1 + 1 + 1), 2, none⟩ = some (.slice ta x.2.tells.length tc) /\ w'.cell? ⟨(w.heap.size + 1 + 1 + 1 + 1), 3, none⟩ = some (.bool x.2.stop)) /\ w'.cell? ⟨(w.heap.size + 1 + 1 + 1 + 1 + 1), 0, none⟩ = some (.bool true)) (by kernel_rfl) ?_;refine tks 0 rfl rfl hSS ?_;refine tks 1 rfl rfl hSS ?_;have cF2 := cel_past cF tA;have cS2 := cel_past cS tA
  skip
  refine wpAnyS_one (i := 2) (by kernel_rfl) rfl (fun K hK => ?_);go_simp;refine hK.out _ _ ⟨⟨cF2.cell 0, cF2.cell 1, cF2.cell 2, cF2.cell 3⟩, cS2.cell 0⟩ ?_;refine wpAnyS_one (i := 3) (by kernel_rfl) rfl (fun K hK => ?_);go_simp;refine hK.out _ _ ⟨⟨cF2.cell 0, cF2.cell 1, cF2.cell 2, cF2.cell 3⟩, cS2.cell 0⟩ ?_;refine wpAnyS_done (by kernel_rfl) ?_ _;clear hSS x0 x1 x2 x3 y0 z0 z1 z2 z3 f0 f1 f2 f3
  gi_wp2
  simp only [Exit.noGoto];have D3 : ((((W.setCell ⟨(w.heap.size + 1), 0, none⟩ (.slice ga x.2.guards.length gc)).setCell ⟨(w.heap.size + 1), 1, none⟩ (.slice aa x.2.adds.length ac)).setCell ⟨(w.heap.size + 1), 2, none⟩ (.slice ta x.2.tells.length tc)).setCell ⟨(w.heap.size + 1), 3, none⟩ (.bool x.2.stop)).drew.heap[Dd]? = some (.deferred (some [])) := D2;have A3 : Cel (((((W.setCell ⟨(w.heap.size + 1), 0, none⟩ (.slice ga x.2.guards.length gc)).setCell ⟨(w.heap.size + 1), 1, none⟩ (.slice aa x.2.adds.length ac)).setCell ⟨(w.heap.size + 1), 2, none⟩ (.slice ta x.2.tells.length tc)).setCell ⟨(w.heap.size + 1), 3, none⟩ (.bool x.2.stop)).drew.putObj Dd (.deferred none)) (w.heap.size + 1) [.slice ga x.2.guards.length gc, .slice aa x.2.adds.length ac, .slice ta x.2.tells.length tc, .bool x.2.stop] 113 := Cel.defer (show Cel ((((W.setCell ⟨(w.heap.size + 1), 0, none⟩ (.slice ga x.2.guards.length gc)).setCell ⟨(w.heap.size + 1), 1, none⟩ (.slice aa x.2.adds.length ac)).setCell ⟨(w.heap.size + 1), 2, none⟩ (.slice ta x.2.tells.length tc)).setCell ⟨(w.heap.size + 1), 3, none⟩ (.bool x.2.stop)).drew _ _ _ from A2) D3;have a0 := A3.cell 0;have a1 := A3.cell 1;have a2 := A3.cell 2;have a3 := A3.cell 3;simp only [qD, qE] at a0 a1 a2 a3
  have BL : Below w.heap.size w (((((W.setCell ⟨(w.heap.size + 1), 0, none⟩ (.slice ga x.2.guards.length gc)).setCell ⟨(w.heap.size + 1), 1, none⟩ (.slice aa x.2.adds.length ac)).setCell ⟨(w.heap.size + 1), 2, none⟩ (.slice ta x.2.tells.length tc)).setCell ⟨(w.heap.size + 1), 3, none⟩ (.bool x.2.stop)).drew.putObj Dd (.deferred none)) := below_put ((below_touch hB tA).drew) (by omega);have KK : KpR W (((((W.setCell ⟨(w.heap.size + 1), 0, none⟩ (.slice ga x.2.guards.length gc)).setCell ⟨(w.heap.size + 1), 1, none⟩ (.slice aa x.2.adds.length ac)).setCell ⟨(w.heap.size + 1), 2, none⟩ (.slice ta x.2.tells.length tc)).setCell ⟨(w.heap.size + 1), 3, none⟩ (.bool x.2.stop)).drew.putObj Dd (.deferred none)) := (kA.trans (KpR.of (Below.refl _ _).drew)).trans (KpR.putL D3 (fun cs t fr h => by cases h));refine ⟨by simp, .inl ⟨_, _, rfl, run_takeDeferred D3, ?_⟩⟩;refine ⟨.tuple #[.agg #[.slice ga x.2.guards.length gc, .slice aa x.2.adds.length ac, .slice ta x.2.tells.length tc, .bool x.2.stop], .bool true], by simp [results, Tryz.results89, go_sem, a0, a1, a2, a3], BL, ?_⟩;refine Or.inl ⟨_, x.2, rfl, ?_, ?_⟩
  ·rw [hrest, List.map_append, List.append_assoc, List.find?_append, List.find?_eq_none.2 (fun q hq => ?_)]
   ·simp [hsu]
   obtain ⟨y, hy, rfl⟩ := List.mem_map.1 hq;rw [hno y hy]
   decide
  rw [hxv] at rn
  exact rn.keepR KK
end Go.Proofs.YtfmpcihghlnlnaaGreatDoor
