/-
  Lemmas that the claim's last text rests on.
-/
import Derived.Test.YtemcinobgdphnaaGreatQLU
namespace Go.Proofs.YtemcinobgdphnaaGreat
open Go.RowKit Go.Deep
open List renaming getElem?_eq_getElem → qA, getElem?_cons_zero → qB, getElem?_cons_succ → qC
open Nat renaming le_refl → qD
set_option linter.unusedVariables false
set_option linter.unusedSimpArgs false
set_option maxRecDepth 100000
set_option maxHeartbeats 25600000
def atX (V U : List Int) (f : Frm) : Int := atV f.1 f.2.1 f.2.2 V U
theorem dot_linN {xs ys V : List Int} {n : Int} {k : Nat} (h1 : xs.length = k) (h2 : ys.length = k) : ∀ j, j <= k -> dot (lin xs ys n) V j = dot xs V j + n * dot ys V j
 | 0, _ => by simp [dot]
 | j + 1, hj => by
  have ih := dot_linN (V := V) (n := n) h1 h2 j (by omega);have e := lin_get (n := n) h1 h2 (show j < k by omega);simp only [dot, ih, e];rw [Int.add_mul, Int.mul_add, Int.mul_assoc]
  omega
def shX (f : Frm) : Prop := f.1.length = 3 /\ f.2.1.length = 2
theorem atX_plus {V U : List Int} {f g : Frm} (hf : shX f) (hg : shX g) : atX V U (plusX f g) = atX V U f + atX V U g := by
 simp only [atX, plusX, atV];rw [dot_linN hf.1 hg.1 3 (by omega), dot_linN hf.2 hg.2 2 (by omega)]
 omega
theorem atX_minus {V U : List Int} {f : Frm} (hf : shX f) : atX V U (minusX f) = - atX V U f - 1 := by
 simp only [atX, minusX, atV];rw [dot_mul hf.1 3 (by omega), dot_mul hf.2 2 (by omega)]
 omega
theorem shX_plus {f g : Frm} (hf : shX f) (hg : shX g) : shX (plusX f g) := ⟨lin_len hf.1 hg.1, lin_len hf.2 hg.2⟩
theorem dot_pot {V : List Int} : ∀ v, v < 3 -> dot ([0, 0, 0].set v 1) V 3 = V[v]?.getD 0
 | 0, _ => by simp [dot]
 | 1, _ => by simp [dot]
 | 2, _ => by simp [dot]
theorem dot_zero2 {V : List Int} : dot [0, 0] V 2 = 0 := by simp [dot]
theorem len_pot (v : Nat) : (([0, 0, 0] : List Int).set v 1).length = 3 := by simp
theorem atX_less {V U : List Int} {f : Frm} {v : Nat} (hf : shX f) (hv : v < 3 := by omega) : atX V U (lessX f v) = atX V U f - V[v]?.getD 0 := by
 simp only [atX, lessX, atV];rw [dot_linN hf.1 (len_pot v) 3 (by omega), dot_linN hf.2 rfl 2 (by omega), dot_pot v hv, dot_zero2]
 omega
theorem atX_pot {V U : List Int} {v : Nat} (hv : v < 3) : atX V U (potX v) = V[v]?.getD 0 := by
 simp only [atX, potX, atV];rw [dot_pot v hv, dot_zero2]
 omega
theorem three_x {P : List Frm} (h : P.length = 3) : ∃ a b c, P = [a, b, c] := by
 match P, h with
 | [a, b, c], _ => exact ⟨a, b, c, rfl⟩
theorem shX_into {f : FV} {P : List Frm} (hD : f.D.length = 2) (hP : P.length = 3) (h : ∀ p ∈ P, shX p) : shX (intoX f P) := by
 obtain ⟨a, b, c, rfl⟩ := three_x hP;have ha := h a (by simp);have hb := h b (by simp);have hc := h c (by simp)
 exact ⟨lin_len (lin_len (lin_len rfl ha.1) hb.1) hc.1, lin_len (lin_len (lin_len hD ha.2) hb.2) hc.2⟩
theorem atX_into {V U : List Int} {f : FV} {P : List Frm} (hD : f.D.length = 2) (hP : P.length = 3) (h : ∀ p ∈ P, shX p) : atX V U (intoX f P) = atF (P.map (atX V U)) U f := by
 obtain ⟨a, b, c, rfl⟩ := three_x hP;have ha := h a (by simp);have hb := h b (by simp);have hc := h c (by simp)
 have e1 : dot (intoC f.C ([a, b, c].map toFV) 3) V 3 = f.C[0]?.getD 0 * dot a.1 V 3 + f.C[1]?.getD 0 * dot b.1 V 3 + f.C[2]?.getD 0 * dot c.1 V 3 := by
  show dot (lin (lin (lin [0, 0, 0] a.1 _) b.1 _) c.1 _) V 3 = _
  rw [dot_linN (k := 3) (lin_len (lin_len rfl ha.1) hb.1) hc.1 3 (by omega), dot_linN (k := 3) (lin_len rfl ha.1) hb.1 3 (by omega), dot_linN (k := 3) rfl ha.1 3 (by omega)];simp [dot]
 have e2 : dot (intoD f.C f.D ([a, b, c].map toFV) 3) U 2 = dot f.D U 2 + f.C[0]?.getD 0 * dot a.2.1 U 2 + f.C[1]?.getD 0 * dot b.2.1 U 2 + f.C[2]?.getD 0 * dot c.2.1 U 2 := by
  show dot (lin (lin (lin f.D a.2.1 _) b.2.1 _) c.2.1 _) U 2 = _
  rw [dot_linN (lin_len (lin_len hD ha.2) hb.2) hc.2 2 (by omega), dot_linN (lin_len hD ha.2) hb.2 2 (by omega), dot_linN hD ha.2 2 (by omega)]
 have e3 : intoK f.C f.K ([a, b, c].map toFV) 3 = f.K + f.C[0]?.getD 0 * a.2.2 + f.C[1]?.getD 0 * b.2.2 + f.C[2]?.getD 0 * c.2.2 := rfl;simp only [atF, atX, intoX, atV];rw [e1, e2, e3];simp only [dot, List.map_cons, List.map_nil, qB, qC, Option.getD_some, atX, atV, Int.mul_add]
 omega
def fitG (V U : List Int) (r : RowM) : Bool := r.guards.all fun g => decide (0 <= atX V U g)
def goodG (V U : List Int) (gs : List Frm) : Bool := gs.all fun g => decide (0 <= atX V U g)
def rowEnd (V U : List Int) (r : RowM) : List Int := (List.range 3).map fun v => V[v]?.getD 0 + atX V U (r.adds[v]?.getD noX)
structure Fits (V U : List Int) (o : Bool × List Int × List Int) (r : RowM) : Prop where
 st : o.1 = r.stop
 ad : r.stop = false -> o.2.1 = rowEnd V U r /\ o.2.2 = r.tells.map (atX V U)
structure WaySh (y : Way) : Prop where
 l : y.pots.length = 3
 s : ∀ p ∈ y.pots, shX p
theorem range3 (g : Nat -> Int) : (List.range 3).map g = [g 0, g 1, g 2] := rfl
theorem endW_fits {V U : List Int} {y : Way} (h : WaySh y) : Fits V U (false, y.pots.map (atX V U), y.tells.map (atX V U)) (endW y) := by
 refine ⟨rfl, fun _ => ⟨?_, rfl⟩⟩;obtain ⟨a, b, c, e⟩ := three_x h.l;have hs := h.s;rw [e] at hs;have ha := hs a (by simp);have hb := hs b (by simp);have hc := hs c (by simp)
 show y.pots.map (atX V U) = (List.range 3).map _
 rw [range3, e];have r0 : (endW y).adds[0]?.getD noX = lessX a 0 := by simp [endW, e]
 have r1 : (endW y).adds[1]?.getD noX = lessX b 1 := by simp [endW, e]
 have r2 : (endW y).adds[2]?.getD noX = lessX c 2 := by simp [endW, e]
 rw [r0, r1, r2, atX_less ha, atX_less hb, atX_less hc];simp only [List.map_cons, List.map_nil, List.cons.injEq, and_true]
 exact ⟨by omega, by omega, by omega⟩
theorem WaySh.add {y : Way} {p : Nat} {f : Frm} (h : WaySh y) (hp : p < 3) (hf : shX f) : WaySh (y.add p f) := by
 refine ⟨by simp only [Way.add, List.length_set]; exact h.l, fun q hq => ?_⟩;simp only [Way.add] at hq
 rcases List.mem_or_eq_of_mem_set hq with hq | rfl
 ·exact h.s q hq
 refine shX_plus (h.s _ ?_) hf;rw [qA (by rw [h.l]; exact hp)]
 exact List.getElem_mem _
theorem map_add {V U : List Int} {y : Way} {p : Nat} {f : Frm} (h : WaySh y) (hp : p < 3) (hf : shX f) : (y.add p f).pots.map (atX V U) = (y.pots.map (atX V U)).set p ((y.pots.map (atX V U))[p]?.getD 0 + atX V U f) := by
 simp only [Way.add];have hl : p < y.pots.length := by rw [h.l]; exact hp
 rw [List.map_set, List.getElem?_map, qA hl, Option.getD_some, atX_plus (h.s _ (List.getElem_mem hl)) hf]
 rfl
theorem fit_app {V U : List Int} {gs : List Frm} {g : Frm} : goodG V U (gs ++ [g]) = (goodG V U gs && decide (0 <= atX V U g)) := by simp [goodG]
theorem fit_one {V U : List Int} {r : RowM} {gs : List Frm} {o : Bool × List Int × List Int} (e : r.guards = gs) (h : Fits V U o r) : (goodG V U gs = true -> ∃ r', [r].filter (fitG V U) = [r'] /\ Fits V U o r') /\ (goodG V U gs = false -> [r].filter (fitG V U) = []) := by
 have e' : fitG V U r = goodG V U gs := by rw [<- e]; rfl
 refine ⟨fun hg => ⟨r, ?_, h⟩, fun hg => ?_⟩
 ·rw [List.filter_cons, e', hg]; rfl
 rw [List.filter_cons, e', hg]; rfl
theorem run_way (V U : List Int) (ls : List LV) (hall : ls.all LV.ok = true) (hD : ∀ k, k < ls.length -> (ls[k]?.getD noLV).f.D.length = (ls[k]?.getD noLV).f.m) : ∀ (f i : Nat) (y : Way), WaySh y ->
  (goodG V U y.guards = true -> ∃ r, (goW ls f i y).filter (fitG V U) = [r] /\ Fits V U (goL U ls f i (y.pots.map (atX V U)) (y.tells.map (atX V U))) r) /\ (goodG V U y.guards = false -> (goW ls f i y).filter (fitG V U) = [])
 | 0, i, y, h => fit_one rfl (endW_fits h)
 | f + 1, i, y, h => by
  by_cases hi : i < ls.length
  ·have hok : (ls[i]?.getD noLV).ok = true := by
    rw [qA hi]
    exact List.all_eq_true.1 hall _ (List.getElem_mem hi)
   have hDD := hD i hi;rw [goL, goW, if_pos hi, if_pos hi];generalize ls[i]?.getD noLV = l at *
   have hsm : ∀ {n m : Nat} {C D : List Int} {K : Int}, smallB n m C D K = true -> m = 2 := fun hs => by
    simp only [smallB, Bool.and_eq_true] at hs;have := (okN_elim (by omega) hs.1.2).1
    omega
   unfold LV.ok lineB at hok
   by_cases k1 : l.kind = 1
   ·rw [if_pos k1] at hok;simp only [Bool.and_eq_true] at hok;have hD2 : l.f.D.length = 2 := by rw [hDD]; exact hsm hok.2
    have hs := shX_into hD2 h.l h.s;have e := atX_into (V := V) (U := U) hD2 h.l h.s;rw [if_pos k1, if_pos k1, List.filter_append];have A := run_way V U ls hall hD f (i + 1) (y.guard (intoX l.f y.pots)) ⟨h.l, h.s⟩;have B := run_way V U ls hall hD f (i + 1 + l.skip.toNat) (y.guard (minusX (intoX l.f y.pots))) ⟨h.l, h.s⟩;have gA : goodG V U (y.guard (intoX l.f y.pots)).guards = (goodG V U y.guards && decide (0 <= atX V U (intoX l.f y.pots))) := fit_app;have gB : goodG V U (y.guard (minusX (intoX l.f y.pots))).guards = (goodG V U y.guards && decide (0 <= atX V U (minusX (intoX l.f y.pots)))) := fit_app;rw [atX_minus hs] at gB;refine ⟨fun hg => ?_, fun hg => ?_⟩
    ·rw [hg, Bool.true_and] at gA gB
     by_cases hn : atF (y.pots.map (atX V U)) U l.f < 0
     ·rw [if_pos hn, A.2 (by rw [gA]; exact decide_eq_false (by omega)), List.nil_append]
      exact B.1 (by rw [gB]; exact decide_eq_true (by omega))
     rw [if_neg hn, B.2 (by rw [gB]; exact decide_eq_false (by omega)), List.append_nil]
     exact A.1 (by rw [gA]; exact decide_eq_true (by omega))
    rw [hg, Bool.false_and] at gA gB;rw [A.2 gA, B.2 gB]; rfl
   rw [if_neg k1] at hok;rw [if_neg k1, if_neg k1]
   by_cases k2 : l.kind = 2
   ·rw [if_pos k2] at hok;simp only [Bool.and_eq_true] at hok;have hD2 : l.f.D.length = 2 := by rw [hDD]; exact hsm hok.2
    have hs := shX_into hD2 h.l h.s;have e := atX_into (V := V) (U := U) hD2 h.l h.s;have hp := inB_iff.1 hok.1.1;have hp3 : l.pot.toNat < 3 := by omega
    rw [if_pos k2, if_pos k2];have A := run_way V U ls hall hD f (i + 1) (y.add l.pot.toNat (intoX l.f y.pots)) (h.add hp3 hs);rw [map_add h hp3 hs, e] at A
    exact A
   rw [if_neg k2] at hok;rw [if_neg k2, if_neg k2]
   by_cases k3 : l.kind = 3
   ·rw [if_pos k3] at hok;simp only [Bool.and_eq_true] at hok;have hD2 : l.f.D.length = 2 := by rw [hDD]; exact hsm hok.2
    have e := atX_into (V := V) (U := U) hD2 h.l h.s;rw [if_pos k3, if_pos k3];have A := run_way V U ls hall hD f (i + 1) (y.tell (intoX l.f y.pots)) ⟨h.l, h.s⟩;have et : (y.tell (intoX l.f y.pots)).tells.map (atX V U) = y.tells.map (atX V U) ++ [atF (y.pots.map (atX V U)) U l.f] := by simp only [Way.tell, List.map_append, List.map_cons, List.map_nil]; rw [e]
    rw [et] at A
    exact A
   rw [if_neg k3, if_neg k3]
   exact fit_one rfl ⟨rfl, fun h => by cases h⟩
  rw [goW_end (by omega), goL_end (by omega)]
  exact fit_one rfl (endW_fits h)
theorem map_way0 {V U : List Int} (h : V.length = 3) : way0.pots.map (atX V U) = V := by
 match V, h with
 | [a, b, c], _ =>
  simp only [way0, List.map_cons, List.map_nil];rw [atX_pot (by omega), atX_pot (by omega), atX_pot (by omega)]
  rfl
theorem way0_sh : WaySh way0 := ⟨rfl, fun p hp => by
 simp only [way0, List.mem_cons, List.not_mem_nil, or_false] at hp
 rcases hp with rfl | rfl | rfl <;> exact ⟨rfl, rfl⟩⟩
theorem runL_way {V U : List Int} {ls : List LV} (hV : V.length = 3) (hall : ls.all LV.ok = true) (hD : ∀ k, k < ls.length -> (ls[k]?.getD noLV).f.D.length = (ls[k]?.getD noLV).f.m) : ∃ r, (rowsL ls).filter (fitG V U) = [r] /\ Fits V U (runL U ls V) r := by
 have h := (run_way V U ls hall hD 7 0 way0 way0_sh).1 rfl;rw [map_way0 hV] at h
 exact h
theorem goW_sh (ls : List LV) : ∀ (f i : Nat) (y : Way), ∀ r ∈ goW ls f i y, (r.stop = true -> r.adds.length = 0 /\ r.tells.length = 0) /\ (r.stop = false -> r.adds.length = 3)
 | 0, i, y, r, hr => by simp only [goW, List.mem_singleton] at hr; subst hr; exact ⟨fun h => absurd h (by simp [endW]), fun _ => by simp [endW]⟩
 | f + 1, i, y, r, hr => by
  rw [goW] at hr
  split at hr
  ·split at hr
   ·rcases List.mem_append.1 hr with hr | hr
    ·exact goW_sh ls f _ _ r hr
    exact goW_sh ls f _ _ r hr
   split at hr
   ·exact goW_sh ls f _ _ r hr
   split at hr
   ·exact goW_sh ls f _ _ r hr
   simp only [List.mem_singleton] at hr; subst hr; exact ⟨fun _ => ⟨rfl, rfl⟩, fun h => by cases h⟩
  simp only [List.mem_singleton] at hr; subst hr; exact ⟨fun h => absurd h (by simp [endW]), fun _ => by simp [endW]⟩
theorem bnd_allB {m : Int} {zs : List Int} (h : bnd m zs) : allB m zs = true := by
 simp only [allB, List.all_eq_true];intro x hx;obtain ⟨i, hi, rfl⟩ := List.getElem_of_mem hx;have := h i;rw [qA hi] at this
 exact inB_iff.2 ⟨by simpa using this.1, by simpa using this.2⟩
theorem fitX_formB {f : Frm} (h : fitX 10000000 f) : formB 3 2 f.1 f.2.1 f.2.2 = true := by
 obtain ⟨_, _, h3, h4, h5, h6⟩ := h;simp only [formB, okN, Bool.and_eq_true, bnd_allB h3, bnd_allB h4, and_true, decide_eq_true_eq]
 exact ⟨⟨rfl, rfl⟩, inB_iff.2 ⟨h5, h6⟩⟩
theorem FormsAt.toG {w : World} {a : Option Addr} {fs : List Frm} (h : FormsAt w a fs) (hfit : ∀ k, k < fs.length -> fitX 10000000 (fs[k]?.getD ([], [], 0))) : ∃ gs : List FV, gs.map FV.frm = fs /\ gs.length = fs.length /\ FormsG w a gs /\ gs.all FV.ok = true := by
 have H : ∀ n, n <= fs.length -> ∃ gs : List FV, gs.map FV.frm = fs.take n /\ FormsG w a gs /\ gs.all FV.ok = true := by
  intro n
  induction n with
  | zero => exact fun _ => ⟨[], by simp, fun i hi => by simp at hi, rfl⟩
  | succ n ih =>
   intro hn;obtain ⟨gs, e, hG, hk⟩ := ih (by omega);have hl : gs.length = n := by have := congrArg List.length e; simpa [List.length_take, Nat.min_eq_left (by omega : n <= fs.length)] using this
   obtain ⟨b, off, rfl, a1, c1, x1, y1, p0, p1, p2, i1, j1⟩ := h n (by omega);have hf := hfit n (by omega)
   have en : fs.take (n + 1) = fs.take n ++ [fs[n]?.getD ([], [], 0)] := by
    rw [List.take_succ_eq_append_getElem (by omega), qA (by omega)]; rfl
   generalize fs[n]?.getD ([], [], 0) = f at *;refine ⟨gs ++ [⟨a1, 3, x1, c1, 2, y1, f.2.2, f.1, f.2.1⟩], ?_, ?_, ?_⟩
   ·rw [en, List.map_append, e]; rfl
   ·intro i hi;rw [List.length_append] at hi
    by_cases hin : i < gs.length
    ·have := hG i hin;rw [List.getElem?_append_left hin]
     exact this
    obtain rfl : i = gs.length := by simp at hi; omega
    rw [List.getElem?_append_right (by omega), Nat.sub_self, hl]
    exact ⟨b, off, rfl, p0, p1, p2, i1, j1, by show 3 <= 1048576; omega, by show 2 <= 1048576; omega⟩
   rw [List.all_append, hk, Bool.true_and]
   show (formB 3 2 f.1 f.2.1 f.2.2 && true) = true
   rw [Bool.and_true]
   exact fitX_formB hf
 obtain ⟨gs, e, hG, hk⟩ := H fs.length (qD _);rw [List.take_length] at e
 exact ⟨gs, e, by rw [<- e, List.length_map], hG, hk⟩
theorem row_rowAt {w : World} {ga aa ta : Option Addr} {r : RowM} (hf : RowFit r) (hs : (r.stop = true -> r.adds.length = 0 /\ r.tells.length = 0) /\ (r.stop = false -> r.adds.length = 3)) (f0 : FormsAt w ga r.guards) (f1 : FormsAt w aa r.adds) (f2 : FormsAt w ta r.tells) :
  ∃ gs ls ts, RowAt w ga r.guards.length gs aa r.adds.length ls ta r.tells.length ts /\ rowB gs ls ts r.adds.length r.tells.length r.stop = true /\ gs.map FV.frm = r.guards /\ ls.map FV.frm = r.adds /\ ts.map FV.frm = r.tells := by
 obtain ⟨gs, e0, l0, G0, k0⟩ := f0.toG hf.g;obtain ⟨ls, e1, l1, G1, k1⟩ := f1.toG hf.a;obtain ⟨ts, e2, l2, G2, k2⟩ := f2.toG hf.t;have z0 := hf.lg;have z1 := hf.la;have z2 := hf.lt;refine ⟨gs, ls, ts, ⟨G0, G1, G2, l0, l1, l2, by omega, by omega, by omega⟩, ?_, e0, e1, e2⟩;simp only [rowB, k0, k1, k2, Bool.true_and]
 cases h : r.stop
 ·rw [hs.2 h]; rfl
 rw [(hs.1 h).1, (hs.1 h).2]; rfl
def potB (m : Nat) (C D : List Int) (ss : List IV) (s : Int) (x U : List Int) (v : Nat) : Int × Int × Bool := bnds m C D ss s x (potX v).1 (potX v).2.1 (potX v).2.2 U
def over1 (b : Int × Int × Bool) : Bool := decide (10000 < b.1) || decide (b.2.1 < -10000)
def may1 (b : Int × Int × Bool) : Bool := decide (b.1 < -10000) || decide (10000 < b.2.1)
def pinned (f : Nat -> Bool) (x : List Int) : Bool := (List.range 3).any fun v => f v && (x[v]?.getD 0 != 0)
def tryL (m : Nat) (C D : List Int) (ss : List IV) (s : Int) (E U : List Int) (f : Nat -> Bool) (st : Bool) (AD TL : List Int) : Int × List Int × List Int × Bool :=
 if st then (2, [], E, true) else
 if pinned f AD || !okN 3 20000 3 (List.zipWith (· + ·) E AD) then (0, [], E, false) else
 if (List.range 3).any (fun v => over1 (potB m C D ss s (List.zipWith (· + ·) E AD) U v)) then (3, [], E, true) else
 if (List.range 3).any (fun v => may1 (potB m C D ss s (List.zipWith (· + ·) E AD) U v)) || !keepsB (D[s.toNat]?.getD 0) (List.zipWith (· + ·) E AD) ss then (0, [], E, false) else
 (1, TL, List.zipWith (· + ·) E AD, true)
def tryR (m : Nat) (C D : List Int) (ss : List IV) (s : Int) (E U : List Int) (f : Nat -> Bool) (r : RowM) : Int × List Int × List Int × Bool := tryL m C D ss s E U f r.stop (r.adds.map (atX C U)) (r.tells.map (atX C U))
def LocD (w w' : World) (r : Ending) (x : Int × List Int × List Int × Bool) : Prop :=
 ∃ a n cap B1 b k cap' B2, r = .returned (.tuple #[resV x.1 a n cap, .slice b k cap', .bool x.2.2.2]) /\ x.2.1.length = n /\ x.2.2.1.length = k /\ Below w.heap.size w w' /\ OwnX w' a B1 n x.2.1 /\ OwnX w' b B2 k x.2.2.1 /\ (0 < n -> w.heap.size <= B1) /\ (0 < k -> w.heap.size <= B2) /\ (0 < n -> 0 < k -> B1 ≠ B2)
theorem pot_fitP : ∀ k, k < 3 -> fitX 10000000 (way0.pots[k]?.getD ([], [], 0)) := fun k hk => (WayOk.start.pf k hk).mono (by have := wb_six (n := 0) (by omega); simp [wb] at *)
theorem any3 (p : Nat -> Bool) : (List.range 3).any p = (p 0 || (p 1 || (p 2 || false))) := rfl
theorem any_take {p : Nat -> Bool} {k : Nat} (hk : k < 3) (h : ∀ j, j < k -> p j = false) (h1 : p k = true) : (List.range 3).any p = true := List.any_eq_true.2 ⟨k, List.mem_range.2 hk, h1⟩
theorem any_none {p : Nat -> Bool} (h : ∀ j, j < 3 -> p j = false) : (List.range 3).any p = false := by
 rw [any3, h 0 (by omega), h 1 (by omega), h 2 (by omega)]; rfl
theorem ipin_any {G cg : Nat} (f : Nat -> Bool) {x : Option Addr} {cx : Nat} (X : List Int) {w : World} (hf : OwnBB w G f) (hX : Ints w x 3 X) :
  Calls Tryz.prog 51 #[.slice (some ⟨G, 0, none⟩) 3 cg, .slice x 3 cx] w fun e w' => e = .returned (.bool (pinned f X)) /\ w' = w := by
 obtain ⟨xb, xo, rfl, hc⟩ := hX.pos (by omega);have HC : Hid (∀ i, i < 3 -> w.cell? ⟨xb, xo + i, none⟩ = some (.int .i64 (X.getD i 0))) := hc;have HF : Hid (OwnBB w G f) := hf;clear hc hf
 go_enter Tryz.func51, Tryz.ntmps51
 go_wp2_with fail
 go_loopw [9] (fun i wr => ∃ k : Nat, k <= 3 /\ i = .int .i64 k /\ (∀ j, j < k -> (f j && (X[j]?.getD 0 != 0)) = false) /\ wr = w) (fun i _ => 3 - (intOf i).toNat)
 case atStart => exact ⟨0, by omega, rfl, fun j hj => by omega, rfl⟩
 case round =>
  obtain ⟨k, hk, rfl, hz, rfl⟩ := hrel;have HZ : Hid _ := hz;clear hz
  by_cases hlt : k < 3
  ·have hk' : (k : Int) < 3 := by omega
   have hx := HC.out k hlt;rw [List.getD_eq_getElem?_getD] at hx;have hp := (HF.out.at (v := k) hlt).1;have HP : Hid (∀ b y : Bool, f k = b -> (X[k]?.getD 0 != 0) = y -> (f k && (X[k]?.getD 0 != 0)) = (b && y)) := fun b y e1 e2 => by rw [e1, e2]
   obtain ⟨b, hb⟩ : ∃ b, f k = b := ⟨_, rfl⟩
   obtain ⟨y, hy⟩ : ∃ y, X[k]?.getD 0 = y := ⟨_, rfl⟩
   have HB : Hid (f k = b) := hb;have HY : Hid (X[k]?.getD 0 = y) := hy;rw [hb] at hp;rw [hy] at hx;clear hb hy HP
   cases b
   ·go_wp2
    go_roundw
    case rel => exact ⟨k + 1, by omega, by go_num, fun j hj => if h : j < k then HZ.out j h else by (obtain rfl : j = k := by omega); rw [HB.out]; rfl, by first | rfl | trivial⟩
    case measure => simp [intOf]; omega
   by_cases hy0 : y = 0
   ·have hy1 : (y != 0) = false := by simp [hy0]
    go_wp2
    go_roundw
    case rel => exact ⟨k + 1, by omega, by go_num, fun j hj => if h : j < k then HZ.out j h else by (obtain rfl : j = k := by omega); rw [HB.out, HY.out]; simp [hy0], by first | rfl | trivial⟩
    case measure => simp [intOf]; omega
   have hy1 : (y != 0) = true := by simp [hy0]
   go_wp2
   go_ret
   exact ⟨by (show Ending.returned (.bool true) = _); rw [show pinned f X = true from any_take hlt HZ.out (by rw [HB.out, HY.out]; simp [hy0])], rfl⟩
  have hk' : ¬ (k : Int) < 3 := by omega
  go_wp2
  go_ret
  exact ⟨by (show Ending.returned (.bool false) = _); rw [show pinned f X = false from any_none (fun j hj => HZ.out j (by omega))], rfl⟩
theorem iover_any (x y : Int) (b : Bool) {w : World} : Calls Tryz.prog 93 #[.agg #[.int .i64 x, .int .i64 y, .bool b]] w fun e w' => e = .returned (.bool (over1 (x, y, b))) /\ Below w.heap.size w w' := by
 have al := (Below.refl w.heap.size w).alloc (qD _) (.cells #[.int .i64 x, .int .i64 y, .bool b] 123)
 go_enter Tryz.func93, Tryz.ntmps93
 by_cases h1 : 10000 < x
 ·have h2 : x > 10000 := h1
  go_wp2
  go_ret
  exact ⟨by simp [over1, h1] <;> omega, al⟩
 have h2 : ¬ x > 10000 := h1
 go_wp2
 go_ret
 exact ⟨by simp [over1, h1] <;> omega, al⟩
theorem imay1_any (x y : Int) (b : Bool) {w : World} : Calls Tryz.prog 94 #[.agg #[.int .i64 x, .int .i64 y, .bool b]] w fun e w' => e = .returned (.bool (may1 (x, y, b))) /\ Below w.heap.size w w' := by
 have al := (Below.refl w.heap.size w).alloc (qD _) (.cells #[.int .i64 x, .int .i64 y, .bool b] 123)
 go_enter Tryz.func94, Tryz.ntmps94
 by_cases h1 : x < -10000
 ·go_wp2
  go_ret
  exact ⟨by simp [may1, h1] <;> omega, al⟩
 go_wp2
 go_ret
 exact ⟨by simp [may1, h1] <;> omega, al⟩
theorem isover_any (a : Option Addr) (cap : Nat) (c : Option Addr) (m cap' : Nat) (G N pc : Nat) (s : Int) (e : Option Addr) (ec : Nat) (u : Option Addr) (uc : Nat) (C D E U : List Int) (ss : List IV) {w : World} (hv : Vw w a c m G e u C D E U ss) (hb : Vb m N C D E U ss) :
  Calls Tryz.prog 92 #[viewV a 3 cap c m cap' (some ⟨G, 0, none⟩) N pc s e 3 ec u 2 uc, .func (.func 93) #[] #[]] w fun r w' => r = .returned (.bool ((List.range 3).any fun v => over1 (potB m C D ss s E U v))) /\ Below w.heap.size w w' := by
 have al := (Below.refl w.heap.size w).alloc (qD _) (.cells #[.slice a 3 cap, .slice c m cap', .slice (some ⟨G, 0, none⟩) N pc, .int .i64 s, .slice e 3 ec, .slice u 2 uc] 72);have q0 := Cel.new w [.slice a 3 cap, .slice c m cap', .slice (some ⟨G, 0, none⟩) N pc, .int .i64 s, .slice e 3 ec, .slice u 2 uc] 72
 go_enter Tryz.func92, Tryz.ntmps92
 go_wp2_with fail
 refine (ipots_any).mono ?_;rintro ee w1 ⟨v, xs, rfl, jv⟩;obtain ⟨pa, cp, rfl, hP⟩ := jv.slice rfl;replace q0 := q0.below jv.b;have b1 := btr al jv.b;have HP : Hid (FormsAt w1 pa way0.pots) := hP;have HW : Hid (Vw w1 a c m G e u C D E U ss) := hv.below b1;clear hP al jv hv
 go_wp2_with fail
 go_loopw [9] (fun i wr => ∃ k : Nat, k <= 3 /\ i = .int .i64 k /\ (∀ j, j < k -> over1 (potB m C D ss s E U j) = false) /\ Below w1.heap.size w1 wr) (fun i _ => 3 - (intOf i).toNat)
 case atStart => exact ⟨0, by omega, rfl, fun j hj => by omega, Below.refl _ _⟩
 case round =>
  obtain ⟨k, hk, rfl, hz, bk⟩ := hrel;have HZ : Hid _ := hz;clear hz
  by_cases hlt : k < 3
  ·have hk' : (k : Int) < 3 := by omega
   obtain ⟨b, off, rfl, a', c', ca, cc, c0, c1, c2, iC, iD⟩ := (HP.out.keep bk) k (show k < way0.pots.length from hlt)
   have hg : way0.pots[k]?.getD ([], [], 0) = potX k := by
    match k, hlt with
    | 0, _ => rfl
    | 1, _ => rfl
    | 2, _ => rfl
   rw [hg] at c2 iC iD;have hfit := pot_fitP k hlt;rw [hg] at hfit;obtain ⟨lC, lD, bA, bB, bK1, bK2⟩ := hfit;have HB : Hid (potB m C D ss s E U k = bnds m C D ss s E (potX k).1 (potX k).2.1 (potX k).2.2 U) := rfl;generalize potX k = g at c2 iC iD lC lD bA bB bK1 bK2 HB;obtain ⟨gC, gD, gK⟩ := g;dsimp only at c2 iC iD lC lD bA bB bK1 bK2 HB;have bz := (Below.refl wr.heap.size wr).alloc (qD _) (.cells #[.slice a' 3 ca, .slice c' 2 cc, .int .i64 gK] 86);have fz := Cel.new wr [.slice a' 3 ca, .slice c' 2 cc, .int .i64 gK] 86;have bzy := btr bk bz;have m0 := q0.below bzy;have n0 := m0.cell 0;have n1 := m0.cell 1;have n2 := m0.cell 2;have n3 := m0.cell 3;have n4 := m0.cell 4;have n5 := m0.cell 5;have z0 := fz.cell 0;have z1 := fz.cell 1;have z2 := fz.cell 2;simp only [qB, qC] at n0 n1 n2 n3 n4 n5 z0 z1 z2
   go_wp2_with fail
   obtain ⟨Z, hZ⟩ : ∃ Z, Z = wr.alloc (.cells #[.slice a' 3 ca, .slice c' 2 cc, .int .i64 gK] 86) := ⟨_, rfl⟩
   rw [<- hZ] at bz bzy ⊢;clear hZ c0 c1 c2 m0 n0 n1 n2 n3 n4 n5 z0 z1 z2 fz;have vZ := HW.out.below bzy;refine (vbounds_any a cap c m cap' (some ⟨G, 0, none⟩) N pc s e ec u uc a' ca c' cc gK C D E U gC gD ss Z vZ.hC vZ.hD vZ.hE vZ.hU (iC.below bz) (iD.below bz) hb.hN vZ.isg hb.hN1 hb.hm3 hb.bC hb.bE hb.bU bA bB ⟨bK1, bK2⟩ hb.bD).mono ?_;rintro ee w6 ⟨x, hx, rfl, b6⟩;have HX : Hid (potB m C D ss s E U k = x) := by show _ = _; rw [HB.out, hx]
   obtain ⟨lo, hi, kn⟩ := x;dsimp only;have bw := btr bzy b6;clear hx iC iD bz bzy vZ b6 lC lD bA bB bK1 bK2 HB
   go_wp2_with fail
   refine (iover_any lo hi kn).mono ?_;rintro ee w7 ⟨rfl, b7⟩;have b8 := btr bw b7;clear b7 bw
   cases hp : over1 (lo, hi, kn)
   ·go_wp2
    go_roundw
    case rel => exact ⟨k + 1, by omega, by go_num, fun j hj => if h : j < k then HZ.out j h else by (obtain rfl : j = k := by omega); rw [HX.out, hp], b8⟩
    case measure => simp [intOf]; omega
   go_wp2
   go_ret
   exact ⟨by (show Ending.returned (.bool true) = _); rw [any_take hlt HZ.out (by rw [HX.out, hp])], btr b1 b8⟩
  have hk' : ¬ (k : Int) < 3 := by omega
  go_wp2
  go_ret
  exact ⟨by (show Ending.returned (.bool false) = _); first | rw [any_none (fun j hj => HZ.out j (by omega))] | (rw [HZ.out 0 (by omega), HZ.out 1 (by omega), HZ.out 2 (by omega)]; rfl), btr b1 bk⟩
theorem ismay_any (a : Option Addr) (cap : Nat) (c : Option Addr) (m cap' : Nat) (G N pc : Nat) (s : Int) (e : Option Addr) (ec : Nat) (u : Option Addr) (uc : Nat) (C D E U : List Int) (ss : List IV) {w : World} (hv : Vw w a c m G e u C D E U ss) (hb : Vb m N C D E U ss) :
  Calls Tryz.prog 92 #[viewV a 3 cap c m cap' (some ⟨G, 0, none⟩) N pc s e 3 ec u 2 uc, .func (.func 94) #[] #[]] w fun r w' => r = .returned (.bool ((List.range 3).any fun v => may1 (potB m C D ss s E U v))) /\ Below w.heap.size w w' := by
 have al := (Below.refl w.heap.size w).alloc (qD _) (.cells #[.slice a 3 cap, .slice c m cap', .slice (some ⟨G, 0, none⟩) N pc, .int .i64 s, .slice e 3 ec, .slice u 2 uc] 72);have q0 := Cel.new w [.slice a 3 cap, .slice c m cap', .slice (some ⟨G, 0, none⟩) N pc, .int .i64 s, .slice e 3 ec, .slice u 2 uc] 72
 go_enter Tryz.func92, Tryz.ntmps92
 go_wp2_with fail
 refine (ipots_any).mono ?_;rintro ee w1 ⟨v, xs, rfl, jv⟩;obtain ⟨pa, cp, rfl, hP⟩ := jv.slice rfl;replace q0 := q0.below jv.b;have b1 := btr al jv.b;have HP : Hid (FormsAt w1 pa way0.pots) := hP;have HW : Hid (Vw w1 a c m G e u C D E U ss) := hv.below b1;clear hP al jv hv
 go_wp2_with fail
 go_loopw [9] (fun i wr => ∃ k : Nat, k <= 3 /\ i = .int .i64 k /\ (∀ j, j < k -> may1 (potB m C D ss s E U j) = false) /\ Below w1.heap.size w1 wr) (fun i _ => 3 - (intOf i).toNat)
 case atStart => exact ⟨0, by omega, rfl, fun j hj => by omega, Below.refl _ _⟩
 case round =>
  obtain ⟨k, hk, rfl, hz, bk⟩ := hrel;have HZ : Hid _ := hz;clear hz
  by_cases hlt : k < 3
  ·have hk' : (k : Int) < 3 := by omega
   obtain ⟨b, off, rfl, a', c', ca, cc, c0, c1, c2, iC, iD⟩ := (HP.out.keep bk) k (show k < way0.pots.length from hlt)
   have hg : way0.pots[k]?.getD ([], [], 0) = potX k := by
    match k, hlt with
    | 0, _ => rfl
    | 1, _ => rfl
    | 2, _ => rfl
   rw [hg] at c2 iC iD;have hfit := pot_fitP k hlt;rw [hg] at hfit;obtain ⟨lC, lD, bA, bB, bK1, bK2⟩ := hfit;have HB : Hid (potB m C D ss s E U k = bnds m C D ss s E (potX k).1 (potX k).2.1 (potX k).2.2 U) := rfl;generalize potX k = g at c2 iC iD lC lD bA bB bK1 bK2 HB;obtain ⟨gC, gD, gK⟩ := g;dsimp only at c2 iC iD lC lD bA bB bK1 bK2 HB;have bz := (Below.refl wr.heap.size wr).alloc (qD _) (.cells #[.slice a' 3 ca, .slice c' 2 cc, .int .i64 gK] 86);have fz := Cel.new wr [.slice a' 3 ca, .slice c' 2 cc, .int .i64 gK] 86;have bzy := btr bk bz;have m0 := q0.below bzy;have n0 := m0.cell 0;have n1 := m0.cell 1;have n2 := m0.cell 2;have n3 := m0.cell 3;have n4 := m0.cell 4;have n5 := m0.cell 5;have z0 := fz.cell 0;have z1 := fz.cell 1;have z2 := fz.cell 2;simp only [qB, qC] at n0 n1 n2 n3 n4 n5 z0 z1 z2
   go_wp2_with fail
   obtain ⟨Z, hZ⟩ : ∃ Z, Z = wr.alloc (.cells #[.slice a' 3 ca, .slice c' 2 cc, .int .i64 gK] 86) := ⟨_, rfl⟩
   rw [<- hZ] at bz bzy ⊢;clear hZ c0 c1 c2 m0 n0 n1 n2 n3 n4 n5 z0 z1 z2 fz;have vZ := HW.out.below bzy;refine (vbounds_any a cap c m cap' (some ⟨G, 0, none⟩) N pc s e ec u uc a' ca c' cc gK C D E U gC gD ss Z vZ.hC vZ.hD vZ.hE vZ.hU (iC.below bz) (iD.below bz) hb.hN vZ.isg hb.hN1 hb.hm3 hb.bC hb.bE hb.bU bA bB ⟨bK1, bK2⟩ hb.bD).mono ?_;rintro ee w6 ⟨x, hx, rfl, b6⟩;have HX : Hid (potB m C D ss s E U k = x) := by show _ = _; rw [HB.out, hx]
   obtain ⟨lo, hi, kn⟩ := x;dsimp only;have bw := btr bzy b6;clear hx iC iD bz bzy vZ b6 lC lD bA bB bK1 bK2 HB
   go_wp2_with fail
   refine (imay1_any lo hi kn).mono ?_;rintro ee w7 ⟨rfl, b7⟩;have b8 := btr bw b7;clear b7 bw
   cases hp : may1 (lo, hi, kn)
   ·go_wp2
    go_roundw
    case rel => exact ⟨k + 1, by omega, by go_num, fun j hj => if h : j < k then HZ.out j h else by (obtain rfl : j = k := by omega); rw [HX.out, hp], b8⟩
    case measure => simp [intOf]; omega
   go_wp2
   go_ret
   exact ⟨by (show Ending.returned (.bool true) = _); rw [any_take hlt HZ.out (by rw [HX.out, hp])], btr b1 b8⟩
  have hk' : ¬ (k : Int) < 3 := by omega
  go_wp2
  go_ret
  exact ⟨by (show Ending.returned (.bool false) = _); first | rw [any_none (fun j hj => HZ.out j (by omega))] | (rw [HZ.out 0 (by omega), HZ.out 1 (by omega), HZ.out 2 (by omega)]; rfl), btr b1 bk⟩
end Go.Proofs.YtemcinobgdphnaaGreat
