/-
  Lemmas that the claim's last text rests on.
-/
import Derived.Deep.AppendSrc
import Derived.Deep.Upon
import Derived.Test.YtpmihhbgjimpmaaGreatDoorNxN
namespace Go.Proofs.YtpmihhbgjimpmaaGreatDoor
open Go.RowKit Go.Deep
open Option.some renaming injEq → qA
open Addr.mk renaming injEq → qB
open World renaming size_alloc → qC
open List renaming getElem?_cons_zero → qD, getElem?_cons_succ → qE, getElem?_set_ne → qF, getElem?_append_right → qG, getElem?_append_left → qH, getElem?_set_self → qI
open Nat renaming le_refl → qJ
set_option linter.unusedVariables false
set_option maxRecDepth 100000
set_option maxHeartbeats 25600000
variable {G base cap n : Nat} {W W' w : World} {fs : List Frm} {xs : List Value}
structure RowFit (r : RowM) : Prop where
 g : ∀ k, k < r.guards.length -> fitX 10000000 (r.guards[k]?.getD ([], [], 0))
 a : ∀ k, k < r.adds.length -> fitX 10000000 (r.adds[k]?.getD ([], [], 0))
 t : ∀ k, k < r.tells.length -> fitX 10000000 (r.tells[k]?.getD ([], [], 0))
 lg : r.guards.length <= 1000
 la : r.adds.length <= 3
 lt : r.tells.length <= 1000
theorem endW_fit {i : Nat} {y : Way} (h : WayOk i y) (hi : i <= 1000 := by omega) : RowFit (endW y) := by
 refine ⟨fun k hk => h.gf k hk, fun k hk => ?_, fun k hk => h.tf k hk, ?_, ?_, ?_⟩
 ·have hk3 : k < 3 := by
   have : (endW y).adds.length = 3 := by simp [endW]
   omega
  have e : (endW y).adds[k]?.getD ([], [], 0) = lessX (y.pots[k]?.getD noX) k := by
   rw [show (endW y).adds = (List.range 3).map (fun v => lessX (y.pots[v]?.getD noX) v) from rfl, List.getElem?_map, List.getElem?_range hk3]
   rfl
  rw [e, <- plus_neg];have h1 := h.pf k hk3;have h6 := wb_six (n := min i 6) (by omega);have hp := wb_pos (min i 6)
  exact (plusX_fit h1 (negX_fit hk3)).mono (by omega)
 ·show y.guards.length <= 1000; have := h.gl; omega
 ·simp [endW]
 show y.tells.length <= 1000; have := h.tl; omega
theorem stopW_fit {i : Nat} {y : Way} (h : WayOk i y) (hi : i <= 1000 := by omega) : RowFit (stopW y) :=
 ⟨fun k hk => h.gf k hk, fun k hk => by simp [stopW] at hk, fun k hk => by simp [stopW] at hk, by show y.guards.length <= 1000; have := h.gl; omega, by simp [stopW], by simp [stopW]⟩
theorem goW_fit {ls : List LV} (h6 : ls.length <= 6) (hall : ls.all LV.ok = true) (hD : ∀ k, k < ls.length -> (ls[k]?.getD noLV).f.D.length = (ls[k]?.getD noLV).f.m) (f : Nat) : ∀ (i : Nat) (y : Way), i <= 12 + 7 * (7 - f) -> f <= 7 -> WayOk i y -> ∀ r ∈ goW ls f i y, RowFit r := by
 induction f with
 | zero => intro i y hi _ h r hr; simp only [goW, List.mem_cons, List.not_mem_nil, or_false] at hr; subst hr; exact endW_fit h
 | succ f ih =>
  intro i y hi hf7 h r hr;rw [goW] at hr
  by_cases hl : i < ls.length
  ·rw [if_pos hl] at hr
   have hok : (ls[i]?.getD noLV).ok = true := by
    rw [List.getElem?_eq_getElem hl]
    exact List.all_eq_true.1 hall _ (List.getElem_mem hl)
   have hDD := hD i hl;generalize ls[i]?.getD noLV = q at *
   by_cases hk4 : q.kind = 4
   ·rw [if_neg (by omega), if_neg (by omega), if_neg (by omega)] at hr;simp only [List.mem_cons, List.not_mem_nil, or_false] at hr;subst hr
    exact stopW_fit h
   obtain ⟨hsm, hkk, hz, hp⟩ := lineW (show lineB q.kind q.pot q.skip q.f.n q.f.m q.f.C q.f.D q.f.K = true from hok) hk4;obtain ⟨f1, f2, f3⟩ := h.into (by omega) (f := q.f) hsm hDD
   rcases hkk with e | e | e
   ·rw [if_pos e] at hr;have hz' := hz e
    rcases List.mem_append.1 hr with hr | hr
    ·exact ih _ _ (by omega) (by omega) (h.guard (by omega) f2) r hr
    exact ih _ _ (by omega) (by omega) (h.guard (by omega) f3) r hr
   ·rw [if_neg (by omega), if_pos e] at hr;have hp' := hp e
    exact ih _ _ (by omega) (by omega) (h.add (by omega) (by omega) f1) r hr
   rw [if_neg (by omega), if_neg (by omega), if_pos e] at hr
   exact ih _ _ (by omega) (by omega) (h.tell (by omega) f2) r hr
  rw [if_neg hl] at hr;simp only [List.mem_cons, List.not_mem_nil, or_false] at hr;subst hr
  exact endW_fit h
def readsR (rs : List RowM) (v : Nat) : Bool := rs.any fun r => r.adds.any (fun f => hasP f v) || r.tells.any (fun f => hasP f v)
theorem rowsL_fit {ls : List LV} {ad : Option Addr} (h6 : ls.length <= 6) (hall : ls.all LV.ok = true) (hF : LinesG w ad ls) : ∀ r ∈ rowsL ls, RowFit r :=
 goW_fit h6 hall (fun k hk => by obtain ⟨b, off, e, hc, hA⟩ := hF k hk; exact hA.D.1) 7 0 way0 (by omega) (by omega) WayOk.start
theorem put4 {X : Nat} {vs : List Value} {T : TypeId} (h : Cel W X vs T) (hl : vs.length = 4) (v0 v1 v2 v3 : Value) :
  Cel ((((W.setCell ⟨X, 0, none⟩ v0).setCell ⟨X, 1, none⟩ v1).setCell ⟨X, 2, none⟩ v2).setCell ⟨X, 3, none⟩ v3) X [v0, v1, v2, v3] T /\ Touch (fun z => z = X) W ((((W.setCell ⟨X, 0, none⟩ v0).setCell ⟨X, 1, none⟩ v1).setCell ⟨X, 2, none⟩ v2).setCell ⟨X, 3, none⟩ v3) := by
 refine ⟨?_, (((((Touch.refl (fun z => z = X) W).setCell rfl _).setCell rfl _).setCell rfl _).setCell rfl _)⟩;have := (((h.set 0 v0).set 1 v1).set 2 v2).set 3 v3
 match vs, hl with
 | [a, b, c, d], _ => exact this
theorem FOff.empty {S : Nat -> Prop} {a : Option Addr} : FOff W S a [] := fun W' t i hi => by simp at hi
theorem JV.foff' {a : Option Addr} (j : JV w (.slice a n cap) n xs fs W) (hn : fs.length = n) : FOff W (fun k => k < w.heap.size) a fs := by
 obtain ⟨a', cap', e, h⟩ := j.foff hn;simp only [Value.slice.injEq, true_and] at e;obtain ⟨rfl, rfl⟩ := e
 exact h
theorem irow_stop (y : Way) (ga : Option Addr) (ng gc : Nat) (pa : Option Addr) (cp : Nat) (ta : Option Addr) (nt tc : Nat) (w : World) (hg : y.guards.length = ng) (hG : FormsAt w ga y.guards) (fg : ∀ k, k < ng -> fitX 10000000 (y.guards[k]?.getD ([], [], 0))) (hg1 : ng <= 1048576) :
  Calls Tryz.prog 174 #[wayV ga ng gc pa cp ta nt tc true] w fun e w' => ∃ v, e = .returned v /\ Below w.heap.size w w' /\ RowX w' w.heap.size v (stopW y) := by
 have HGL : Hid (y.guards.length = ng) := hg;have HFG : Hid _ := fg;clear hg fg;have B0 : Below w.heap.size w ((w.alloc (.cells #[.slice ga ng gc, .slice pa 3 cp, .slice ta nt tc, .bool true] 223)).alloc (.cells #[.slice none 0 0, .slice none 0 0, .slice none 0 0, .bool false] 188)) := (bal).alloc (by simp) _;have r0 := Cel.new (w.alloc (.cells #[.slice ga ng gc, .slice pa 3 cp, .slice ta nt tc, .bool true] 223)) [.slice none 0 0, .slice none 0 0, .slice none 0 0, .bool false] 188;rw [qC] at r0
 go_enter Tryz.func174, Tryz.ntmps174
 go_wp2_with fail
 refine (icopies_any y.guards HGL.out (hG.keep B0) HFG.out hg1).mono ?_;rintro e w1 ⟨v1, xs1, rfl, j1⟩;obtain ⟨a1, c1, rfl⟩ := j1.isSlice;have B1 := B0.trans (j1.b.mono B0.size);have r1 := r0.below j1.b;have g1 := j1.foff' HGL.out;rw [qC, qC] at g1;have lr := r1.lt;obtain ⟨c0, c1', c2, c3⟩ := r1.four;have y0 := r1.free 0;have y1 := r1.free 1;have y2 := r1.free 2;have y3 := r1.free 3;obtain ⟨x', T'⟩ := put4 r1 rfl (.slice a1 ng c1) (.slice none 0 0) (.slice none 0 0) (.bool true);obtain ⟨h0, h1, h2, h3⟩ := x'.four;clear j1 r0 B0
 go_wp2
 refine bodyPost_ret (v := .agg #[.slice a1 ng c1, .slice none 0 0, .slice none 0 0, .bool true]) (by simp [results, Tryz.results174, go_sem, h0, h1, h2, h3]) rfl ?_;refine ⟨_, rfl, B1.trans (T'.below B1.size (fun k hk => by omega)), a1, c1, none, 0, none, 0, ?_, (g1.touch (T'.mono (fun k hk => by omega))).mono (fun k hk => by omega), FOff.empty, FOff.empty⟩
 show _ = Value.agg #[.slice a1 y.guards.length c1, .slice none 0 0, .slice none 0 0, .bool true]
 rw [HGL.out]
theorem irow_end (y : Way) (ga : Option Addr) (ng gc : Nat) (pa : Option Addr) (cp : Nat) (ta : Option Addr) (nt tc : Nat) (w : World) (hp : y.pots.length = 3) (hg : y.guards.length = ng) (ht : y.tells.length = nt) (hP : FormsAt w pa y.pots) (hG : FormsAt w ga y.guards) (hT : FormsAt w ta y.tells) (fp : ∀ k, k < 3 -> fitX 9000000 (y.pots[k]?.getD noX)) (fg : ∀ k, k < ng -> fitX 10000000 (y.guards[k]?.getD ([], [], 0))) (ft : ∀ k, k < nt -> fitX 10000000 (y.tells[k]?.getD ([], [], 0))) (hg1 : ng <= 1048576 := by omega) (ht1 : nt <= 1048576 := by omega) :
  Calls Tryz.prog 174 #[wayV ga ng gc pa cp ta nt tc false] w fun e w' => ∃ v, e = .returned v /\ Below w.heap.size w w' /\ RowX w' w.heap.size v (endW y) := by
 have HPL : Hid (y.pots.length = 3) := hp;have HGL : Hid (y.guards.length = ng) := hg;have HTL : Hid (y.tells.length = nt) := ht;have HFP : Hid _ := fp;have HFG : Hid _ := fg;have HFT : Hid _ := ft;clear hp hg ht fp fg ft;have B0 : Below w.heap.size w ((w.alloc (.cells #[.slice ga ng gc, .slice pa 3 cp, .slice ta nt tc, .bool false] 223)).alloc (.cells #[.slice none 0 0, .slice none 0 0, .slice none 0 0, .bool false] 188)) := (bal).alloc (by simp) _;have r0 := Cel.new (w.alloc (.cells #[.slice ga ng gc, .slice pa 3 cp, .slice ta nt tc, .bool false] 223)) [.slice none 0 0, .slice none 0 0, .slice none 0 0, .bool false] 188;have p0 := (Cel.new w [.slice ga ng gc, .slice pa 3 cp, .slice ta nt tc, .bool false] 223).alloc (.cells #[.slice none 0 0, .slice none 0 0, .slice none 0 0, .bool false] 188);rw [qC] at r0
 go_enter Tryz.func174, Tryz.ntmps174
 go_upto_region 3 with fail
 generalize ((w.alloc (.cells #[.slice ga ng gc, .slice pa 3 cp, .slice ta nt tc, .bool false] 223)).alloc (.cells #[.slice none 0 0, .slice none 0 0, .slice none 0 0, .bool false] 188)) = W0 at *;have KP : Hid (∀ W, Below W0.heap.size W0 W -> Cel W w.heap.size [.slice ga ng gc, .slice pa 3 cp, .slice ta nt tc, .bool false] 223) := fun W hW => p0.below hW;have KR : Hid (∀ W, Below W0.heap.size W0 W -> Cel W (w.heap.size + 1) [.slice none 0 0, .slice none 0 0, .slice none 0 0, .bool false] 188) := fun W hW => r0.below hW;have e0 : Below W0.heap.size W0 W0.drew := (Below.refl _ _).drew;have hSS : (W0.drew.cell? ⟨w.heap.size, 0, none⟩ = some (.slice ga ng gc) /\ W0.drew.cell? ⟨w.heap.size, 1, none⟩ = some (.slice pa 3 cp) /\ W0.drew.cell? ⟨w.heap.size, 2, none⟩ = some (.slice ta nt tc) /\ W0.drew.cell? ⟨w.heap.size, 3, none⟩ = some (.bool false)) /\ True := ⟨(KP.out _ e0).four, trivial⟩
 have lr := r0.lt;clear p0 r0;refine wp_region_ends (fun w' => w'.cell? ⟨w.heap.size, 0, none⟩ = some (.slice ga ng gc) /\ w'.cell? ⟨w.heap.size, 1, none⟩ = some (.slice pa 3 cp) /\ w'.cell? ⟨w.heap.size, 2, none⟩ = some (.slice ta nt tc) /\ w'.cell? ⟨w.heap.size, 3, none⟩ = some (.bool false)) (fun _ => True) 9 (by kernel_rfl) ?_;refine tkl 0 rfl hSS ?_;refine tkl 1 rfl hSS ?_;refine tkl 3 rfl hSS ?_;refine tkl 5 rfl hSS ?_;refine tkl 6 rfl hSS ?_;clear hSS;refine wo1 2 rfl fun K hK => ?_;go_simp;refine (icopies_any y.guards HGL.out ((hG.keep B0).keep e0) HFG.out hg1).mono ?_;rintro ee w1 ⟨v1, xs1, rfl, j1⟩;have e1 := below_of_drew j1.b;obtain ⟨a1, c1, rfl⟩ := j1.isSlice;have g1 : FOff w1 (fun k => k < W0.heap.size) a1 y.guards := j1.foff' HGL.out;clear j1;(try dsimp only);refine kk0 hK ((KP.out _ e1).four) ?_;refine wo1 4 rfl fun K hK => ?_;go_simp;refine (iadds_any y HPL.out ((hP.keep B0).keep e1) HFP.out).mono ?_;rintro ee w2 ⟨v2, xs2, rfl, j2⟩;have e2 := e1.trans (j2.b.mono e1.size);obtain ⟨a2, c2, rfl⟩ := j2.isSlice;have g2 := g1.below j2.b;have s1 := e1.size;have d2 : FOff w2 (fun k => k < w1.heap.size) a2 (endW y).adds := j2.foff' rfl;clear j2 g1;(try dsimp only);refine kk0 hK ((KP.out _ e2).four) ?_;refine wo1 7 rfl fun K hK => ?_;go_simp;refine (icopies_any y.tells HTL.out ((hT.keep B0).keep e2) HFT.out ht1).mono ?_;rintro ee w3 ⟨v3, xs3, rfl, j3⟩;have e3 := e2.trans (j3.b.mono e2.size);obtain ⟨a3, c3, rfl⟩ := j3.isSlice;have g3 := g2.below j3.b
 have d3 := d2.below j3.b;have s2 := e2.size;have s3 := e3.size;have t3 : FOff w3 (fun k => k < w2.heap.size) a3 y.tells := j3.foff' HTL.out;clear j3 g2 d2;(try dsimp only);refine kk0 hK ((KP.out _ e3).four) ?_;refine wo1 8 rfl fun K hK => ?_;go_simp;refine kk0 hK ((KP.out _ e3).four) ?_;have r1 := KR.out _ e3;have lr3 := r1.lt;obtain ⟨q0, q1, q2, q3⟩ := r1.four;have y0 := r1.free 0;have y1 := r1.free 1;have y2 := r1.free 2;have y3 := r1.free 3;obtain ⟨x', T'⟩ := put4 r1 rfl (.slice a1 ng c1) (.slice a2 3 c2) (.slice a3 nt c3) (.bool false);have p4 := (KP.out _ e3).touch T' (fun h => by have := h; omega);obtain ⟨h0, h1, h2, h3⟩ := x'.four;refine wo1 9 rfl fun K hK => ?_;go_simp;refine hK.out _ _ ⟨p4.four, fun h => absurd (show true = false from h) (by decide)⟩ ?_;refine wod ?_ _;have B3 := B0.trans (e3.mono B0.size);have sB := B0.size;have gg := (g3.touch (T'.mono (fun k hk => by omega))).mono (S' := fun k => k < w.heap.size) (fun k hk => by omega);have dd := (d3.touch (T'.mono (fun k hk => by omega))).mono (S' := fun k => k < w.heap.size) (fun k hk => by omega);have tt := (t3.touch (T'.mono (fun k hk => by omega))).mono (S' := fun k => k < w.heap.size) (fun k hk => by omega);have BB := B3.trans (T'.below B3.size (fun k hk => by omega));clear q0 q1 q2 q3 y0 y1 y2 y3 r1 p4 x' T' g3 d3 t3 KP KR
 go_wp2
 refine bodyPost_ret (v := .agg #[.slice a1 ng c1, .slice a2 3 c2, .slice a3 nt c3, .bool false]) (by simp [results, Tryz.results174, go_sem, h0, h1, h2, h3]) rfl ?_;refine ⟨_, rfl, BB, a1, c1, a2, c2, a3, c3, ?_, gg, dd, tt⟩
 show _ = Value.agg #[.slice a1 y.guards.length c1, .slice a2 3 c2, .slice a3 y.tells.length c3, .bool false]
 rw [HGL.out, HTL.out]
structure JC (base : Nat) (G cap : Nat) (xs : List Value) (fs : List Frm) (W : World) : Prop where
 o : W.ownsRow base 95 3 (.slice (some ⟨G, 0, none⟩) 3 cap) 3 xs
 t : TermsOk W G xs fs 3
theorem JC.below (j : JC base G cap xs fs W) (h : Below W.heap.size W W') : JC base G cap xs fs W' := ⟨own_below j.o h, j.t.below h⟩
theorem JC.past {X : Nat} (j : JC base G cap xs fs W) (hX : X ≠ G) (hx : ∀ o q, W.cell? ⟨X, o, none⟩ ≠ some (.int .i64 q)) (t : Touch (fun z => z = X) W W') : JC base G cap xs fs W' := by
 refine ⟨own_off j.o (fun g hg hs => ?_) t, fun i hi => ?_⟩
 ·have h' : some G = some g := hg;simp only [qA] at h'
  exact hX (by rw [h']; exact hs.symm)
 obtain ⟨a', c', ca, cc, e0, e1, e2, i1, i2, n1, n2⟩ := j.t i hi
 exact ⟨a', c', ca, cc, e0, e1, e2, i1.past hx t, i2.past hx t, n1, n2⟩
theorem JC.lt (j : JC base G cap xs fs W) : base <= G /\ G < W.heap.size := by
 rcases j.o.2 with ⟨h, _⟩ | ⟨g, cap', cur, h, hg, hh, _⟩
 ·cases h
 simp only [Value.slice.injEq, qA, qB, and_true, true_and] at h;obtain ⟨rfl, _⟩ := h
 exact ⟨hg, lt_of_block hh⟩
theorem JC.frz (j : JC base G cap xs fs W) (i : Nat) : W.frozen? ⟨G, i, none⟩ = false := by
 rcases j.o.2 with ⟨h, _⟩ | ⟨g, cap', cur, h, hg, hh, _⟩
 ·cases h
 simp only [Value.slice.injEq, qA, qB, and_true, true_and] at h;obtain ⟨rfl, _⟩ := h;have : Cel W G cur.toList 95 := by unfold Cel; simpa using hh
 exact this.free i
theorem JC.put {cp : Nat} (j : JC base G cp xs fs W) (hn : fs.length = 3) {p : Nat} (hp : p < 3) {B1 B2 ca cc : Nat} {C D : List Int} {K : Int} (k1 : Blk W B1 C) (l1 : C.length = 3) (k2 : Blk W B2 D) (l2 : D.length = 2) (n1 : B1 ≠ G) (n2 : B2 ≠ G) :
  FormsAt (((W.setCell ⟨G, p * 3, none⟩ (.slice (some ⟨B1, 0, none⟩) 3 ca)).setCell ⟨G, p * 3 + 1, none⟩ (.slice (some ⟨B2, 0, none⟩) 2 cc)).setCell ⟨G, p * 3 + 2, none⟩ (.int .i64 K)) (some ⟨G, 0, none⟩) (fs.set p (C, D, K)) := by
 have hT := j.t;have hx := j.o.1
 rcases j.o.2 with ⟨h, _⟩ | ⟨g, cap', cur, h, hg, hh, hl, _, hcs, ht⟩
 ·cases h
 simp only [Value.slice.injEq, qA, qB, and_true, true_and] at h;obtain ⟨rfl, rfl⟩ := h;have cel : Cel W G cur.toList 95 := by unfold Cel; simpa using hh
 have hlen : 9 <= cur.toList.length := by
  have := congrArg List.length ht;rw [List.length_take, hx] at this
  omega
 have hat : ∀ i, i < 9 -> cur.toList[i]? = xs[i]? := fun i hi => by
  rw [<- ht, List.getElem?_take, if_pos (by omega)]
 have c3 := ((cel.set (p * 3) (.slice (some ⟨B1, 0, none⟩) 3 ca)).set (p * 3 + 1) (.slice (some ⟨B2, 0, none⟩) 2 cc)).set (p * 3 + 2) (.int .i64 K);have tt : Touch (fun x => x = G) W (((W.setCell ⟨G, p * 3, none⟩ (.slice (some ⟨B1, 0, none⟩) 3 ca)).setCell ⟨G, p * 3 + 1, none⟩ (.slice (some ⟨B2, 0, none⟩) 2 cc)).setCell ⟨G, p * 3 + 2, none⟩ (.int .i64 K)) := (((Touch.refl (fun x => x = G) W).setCell rfl _).setCell rfl _).setCell rfl _;have m1 := (k1.ints' l1).by tt (fun b o e => by simp only [qA, qB, and_true] at e; omega);have m2 := (k2.ints' l2).by tt (fun b o e => by simp only [qA, qB, and_true] at e; omega);intro i hi;rw [List.length_set, hn] at hi
 by_cases e : p = i
 ·subst e;rw [qI (by omega)];refine ⟨G, 0, rfl, _, _, ca, cc, ?_, ?_, ?_, m1, m2⟩
  ·rw [Nat.zero_add, c3.cell, qF (by omega), qF (by omega), qI (by omega)]
  ·rw [Nat.zero_add, c3.cell, qF (by omega), qI (by rw [List.length_set]; omega)]
  rw [Nat.zero_add, c3.cell, qI (by rw [List.length_set, List.length_set]; omega)]; rfl
 rw [qF e];obtain ⟨a', c', x, y, e0, e1, e2, i1, i2, q1, q2⟩ := hT i hi;refine ⟨G, 0, rfl, a', c', x, y, ?_, ?_, ?_, i1.by tt q1, i2.by tt q2⟩
 ·rw [Nat.zero_add, c3.cell, qF (by omega), qF (by omega), qF (by omega), hat _ (by omega)]; exact e0
 ·rw [Nat.zero_add, c3.cell, qF (by omega), qF (by omega), qF (by omega), hat _ (by omega)]; exact e1
 rw [Nat.zero_add, c3.cell, qF (by omega), qF (by omega), qF (by omega), hat _ (by omega)]; exact e2
theorem addr_add (b off j : Nat) : (⟨b, off, none⟩ : Addr).add j = ⟨b, off + j, none⟩ := by
 by_cases h0 : j = 0
 ·subst h0; simp [Addr.add]
 simp [Addr.add, h0]
theorem iclone3_any {pa : Option Addr} {cp : Nat} (fs : List Frm) {w : World} (hn : fs.length = 3) (hP : FormsAt w pa fs) :
  Calls Tryz.prog 198 #[.slice pa 3 cp] w fun e w' => ∃ G cap xs, e = .returned (.slice (some ⟨G, 0, none⟩) 3 cap) /\ Below w.heap.size w w' /\ JC w.heap.size G cap xs fs w' := by
 obtain ⟨zi, hi, hz0, hz1, hz2⟩ := info_parts Tryz.infoForm;obtain ⟨b, off, rfl, a0, c0, x0, y0, p00, p01, p02, i0, j0⟩ := hP 0 (by omega);obtain ⟨b1, off1, e1, a1, c1, x1, y1, p10, p11, p12, i1, j1⟩ := hP 1 (by omega);obtain ⟨b2, off2, e2, a2, c2, x2, y2, p20, p21, p22, i2, j2⟩ := hP 2 (by omega);simp only [qA, qB, and_true] at e1 e2;obtain ⟨rfl, rfl⟩ := e1;obtain ⟨rfl, rfl⟩ := e2;have A : Below w.heap.size w (w.alloc (.cells #[] 95)) := bal
 have HNW : Hid (∀ j u, ([.slice a0 3 x0, .slice c0 2 y0, .int .i64 (fs[0]?.getD ([], [], 0)).2.2, .slice a1 3 x1, .slice c1 2 y1, .int .i64 (fs[1]?.getD ([], [], 0)).2.2, .slice a2 3 x2, .slice c2 2 y2, .int .i64 (fs[2]?.getD ([], [], 0)).2.2] : List Value)[j]? = some u -> (w.alloc (.cells #[] 95)).cell? ((⟨b, off, none⟩ : Addr).add j) = some u) := fun j u hu => by
  rw [addr_add];have key : ∀ q v, w.cell? ⟨b, q, none⟩ = some v -> (w.alloc (.cells #[] 95)).cell? ⟨b, q, none⟩ = some v := fun q v h => by rw [A.cell (p := ⟨b, q, none⟩) (block_lt h)]; exact h
  match j with
  | 0 => simp only [qD, qA] at hu; subst hu; exact key _ _ p00
  | 1 => simp only [qD, qE, qA] at hu; subst hu; exact key _ _ p01
  | 2 => simp only [qD, qE, qA] at hu; subst hu; exact key _ _ p02
  | 3 => simp only [qD, qE, qA] at hu; subst hu; exact key _ _ p10
  | 4 => simp only [qD, qE, qA] at hu; subst hu; exact key _ _ p11
  | 5 => simp only [qD, qE, qA] at hu; subst hu; exact key _ _ p12
  | 6 => simp only [qD, qE, qA] at hu; subst hu; exact key _ _ p20
  | 7 => simp only [qD, qE, qA] at hu; subst hu; exact key _ _ p21
  | 8 => simp only [qD, qE, qA] at hu; subst hu; exact key _ _ p22
  | j + 9 => simp at hu
 have HOL := World.ownsRow_lit (e := 95) (size := 3) (base := w.heap.size) w #[] 0 (qJ _) (by unfold maxLen; omega) rfl
 have HNX : Hid (∀ u ∈ ([.slice a0 3 x0, .slice c0 2 y0, .int .i64 (fs[0]?.getD ([], [], 0)).2.2, .slice a1 3 x1, .slice c1 2 y1, .int .i64 (fs[1]?.getD ([], [], 0)).2.2, .slice a2 3 x2, .slice c2 2 y2, .int .i64 (fs[2]?.getD ([], [], 0)).2.2] : List Value), u.oneCell' = true) := by
  show ∀ u ∈ _, _
  simp [Value.oneCell']
 have I0 := i0.below A;have J0 := j0.below A;have I1 := i1.below A;have J1 := j1.below A;have I2 := i2.below A;have J2 := j2.below A;have l0 := i0.blt (by omega);have m0 := j0.blt (by omega);have l1 := i1.blt (by omega);have m1 := j1.blt (by omega);have l2 := i2.blt (by omega);have m2 := j2.blt (by omega);have hnil : ∀ w, (binOp .eql 176 (.slice (some ⟨b, off, none⟩) 3 cp) (.slice none 0 0)).run Tryz.prog w = .ok (.bool false) w := fun w => Go.Lib.run_eql_slice_nil w _ _ _ _ _ _ _ Tryz.underlying176;clear hP p00 p01 p02 p10 p11 p12 p20 p21 p22 i0 j0 i1 j1 i2 j2
 go_enter Tryz.func198, Tryz.ntmps198
 go_wp2_with (at_builtin; go_must (refine wpList_append_lies _ rfl (.tmp 5) (.tmp 6) 176 rfl w.heap.size 95 zi _ 3 56 Tryz.underlying176 hi hz0 hz1 hz2 rfl (by decide) (.slice (some ⟨w.heap.size, 0, none⟩) 0 0) 0 [] rfl HOL ⟨b, off, none⟩ 3 cp _ rfl rfl HNW.out HNX.out (by omega) (by unfold maxLen; omega) (by omega) (by rw [qC]; omega) _ rfl ?_); intro g cpg w1 hown hgrow hat hlt1)
 have hg : w.heap.size <= g := by
  rcases hat with h | h
  ·have h' : some w.heap.size = some g := h;simp only [qA] at h'
   omega
  rw [qC] at h; omega
 have gT : Touch (fun k => k = w.heap.size) (w.alloc (.cells #[] 95)) w1 := ⟨hgrow.os, hgrow.tape, hgrow.output, hgrow.size, fun z hz hn => hgrow.block z hz (fun e => hn (by have e' : some z = some w.heap.size := e; simpa using e'))⟩
 have ty : ∀ {a : Option Addr} {n : Nat} {zs : List Int}, Ints (w.alloc (.cells #[] 95)) a n zs -> (∀ b o, a = some ⟨b, o, none⟩ -> b < w.heap.size) -> Ints w1 a n zs := fun h hb => h.by gT (fun b o e => by have := hb b o e; omega);have bb : Below w.heap.size w w1 := A.grown hgrow A.size (fun k hk => by have h' : some w.heap.size = some k := hk; simp only [qA] at h'; omega)
 have jj : JC w.heap.size g cpg _ fs w1 := ⟨hown, fun i hi => by
  match i, hi with
  | 0, _ => exact ⟨a0, c0, x0, y0, rfl, rfl, rfl, ty I0 l0, ty J0 m0, fun b o e => by have := l0 b o e; omega, fun b o e => by have := m0 b o e; omega⟩
  | 1, _ => exact ⟨a1, c1, x1, y1, rfl, rfl, rfl, ty I1 l1, ty J1 m1, fun b o e => by have := l1 b o e; omega, fun b o e => by have := m1 b o e; omega⟩
  | 2, _ => exact ⟨a2, c2, x2, y2, rfl, rfl, rfl, ty I2 l2, ty J2 m2, fun b o e => by have := l2 b o e; omega, fun b o e => by have := m2 b o e; omega⟩⟩
 clear hown hgrow hat gT ty I0 J0 I1 J1 I2 J2 l0 m0 l1 m1 l2 m2
 go_wp2
 go_ret
 exact ⟨g, cpg, rfl, bb, _, jj⟩
theorem iadding_any (y : Way) (p : Nat) (hp : p < 3) (X : Frm) {ga : Option Addr} {ng gc : Nat} {pa : Option Addr} {cp : Nat} {ta : Option Addr} {nt tc : Nat} {st : Bool} {fa : Option Addr} {fc : Nat} {fd : Option Addr} {fe : Nat} {w : World} (hl : y.pots.length = 3) (hP : FormsAt w pa y.pots) (hX1 : Ints w fa 3 X.1) (hX2 : Ints w fd 2 X.2.1) (h1 : fitX 10000000 (y.pots[p]?.getD noX)) (h2 : fitX 10000000 X) (h3 : fitX 10000000 (plusX (y.pots[p]?.getD noX) X)) :
  Calls Tryz.prog 185 #[wayV ga ng gc pa cp ta nt tc st, .int .i64 (p : Int), formV fa 3 fc fd 2 fe X.2.2] w fun e w' => ∃ G cG, e = .returned (wayV ga ng gc (some ⟨G, 0, none⟩) cG ta nt tc st) /\ Below w.heap.size w w' /\ FormsAt w' (some ⟨G, 0, none⟩) (y.add p X).pots := by
 have HL : Hid (y.pots.length = 3) := hl;have H1 : Hid _ := h1;have H2 : Hid _ := h2;have H3 : Hid _ := h3;clear hl h1 h2 h3;obtain ⟨W0, hW0⟩ : ∃ W0, W0 = ((w.alloc (.cells #[.slice ga ng gc, .slice pa 3 cp, .slice ta nt tc, .bool st] 223)).alloc (.cells #[.slice fa 3 fc, .slice fd 2 fe, .int .i64 X.2.2] 95)).alloc (.cells #[.slice none 0 0, .slice none 0 0, .slice none 0 0, .bool false] 223) := ⟨_, rfl⟩
 have q0 := ((Cel.new w [.slice ga ng gc, .slice pa 3 cp, .slice ta nt tc, .bool st] 223).alloc (.cells #[.slice fa 3 fc, .slice fd 2 fe, .int .i64 X.2.2] 95)).alloc (.cells #[.slice none 0 0, .slice none 0 0, .slice none 0 0, .bool false] 223);have f0 := (Cel.new (w.alloc (.cells #[.slice ga ng gc, .slice pa 3 cp, .slice ta nt tc, .bool st] 223)) [.slice fa 3 fc, .slice fd 2 fe, .int .i64 X.2.2] 95).alloc (.cells #[.slice none 0 0, .slice none 0 0, .slice none 0 0, .bool false] 223);have r0 := Cel.new ((w.alloc (.cells #[.slice ga ng gc, .slice pa 3 cp, .slice ta nt tc, .bool st] 223)).alloc (.cells #[.slice fa 3 fc, .slice fd 2 fe, .int .i64 X.2.2] 95)) [.slice none 0 0, .slice none 0 0, .slice none 0 0, .bool false] 223;rw [qC] at f0;rw [qC, qC] at r0;have B0 : Below w.heap.size w W0 := by rw [hW0]; exact ((bal).alloc (by simp) _).alloc (by simp; omega) _
 rw [<- hW0] at q0 f0 r0
 go_enter Tryz.func185, Tryz.ntmps185
 go_upto_region 1 with fail
 rw [<- hW0];clear hW0;obtain ⟨c0, c1, c2, c3⟩ := q0.four;have z0 := q0.lt;have z1 := f0.lt;have z2 := r0.lt
 go_wp2_with fail
 refine (iclone3_any y.pots HL.out (hP.keep B0)).mono ?_;rintro e w1 ⟨G, cG, xs, rfl, b1, jG⟩;have lG := jG.lt;have q1 := q0.below b1;have f1 := f0.below b1;have r1 := r0.below b1;have B1 := btr B0 b1;have sz1 := b1.size;have x1 := hX1.below B1;have x2 := hX2.below B1;clear q0 f0 r0 c0 c1 c2 c3 b1;obtain ⟨c0, c1, c2, c3⟩ := q1.four;have y1 := q1.free 1;have T1 : Touch (fun k => k = w.heap.size) w1 (w1.setCell ⟨w.heap.size, 1, none⟩ (.slice (some ⟨G, 0, none⟩) 3 cG)) := Touch.setCell (S := fun k => k = w.heap.size) (Touch.refl _ _) rfl _;have q2 := q1.set 1 (.slice (some ⟨G, 0, none⟩) 3 cG);simp only [List.set_cons_zero, List.set_cons_succ] at q2;have f2 := f1.touch T1 (fun h => by have := h; omega);have r2 := r1.touch T1 (fun h => by have := h; omega);have B2 := B1.trans (T1.below B1.size (fun k hk => by omega));have j2 := jG.past (by omega) (boxNo q1) T1;have u1 := x1.past (boxNo q1) T1;have u2 := x2.past (boxNo q1) T1;have s2 : w1.heap.size <= (w1.setCell ⟨w.heap.size, 1, none⟩ (.slice (some ⟨G, 0, none⟩) 3 cG)).heap.size := T1.size
 go_upto_region 2 with fail
 clear q1 f1 r1 jG x1 x2 T1 B1 c0 c1 c2 c3 y1;generalize (w1.setCell ⟨w.heap.size, 1, none⟩ (.slice (some ⟨G, 0, none⟩) 3 cG)) = w2 at *;obtain ⟨pa', pc', pca, pcc, d0, d1, d2, iC, iD, nC, nD⟩ := j2.t p hp;obtain ⟨PX, hPX⟩ : ∃ PX, PX = y.pots[p]?.getD ([], [], 0) := ⟨_, rfl⟩
 have HPX : Hid (y.pots[p]?.getD noX = PX) := hPX.symm;rw [<- hPX] at d2 iC iD;clear hPX;have g0 : w2.cell? ⟨G, p * 3, none⟩ = some (.slice pa' 3 pca) := (own_cell j2.o _).trans d0;have g1 : w2.cell? ⟨G, p * 3 + 1, none⟩ = some (.slice pc' 2 pcc) := (own_cell j2.o _).trans d1;have g2 : w2.cell? ⟨G, p * 3 + 2, none⟩ = some (.int .i64 PX.2.2) := (own_cell j2.o _).trans d2;have lG2 := j2.lt;obtain ⟨-, m1, -, -⟩ := q2.four;obtain ⟨n0, n1, n2, -, -, -⟩ := f2.trio;have hSS : (w2.drew.cell? ⟨w.heap.size, 1, none⟩ = some (.slice (some ⟨G, 0, none⟩) 3 cG) /\ w2.drew.cell? ⟨w.heap.size + 1, 0, none⟩ = some (.slice fa 3 fc) /\ w2.drew.cell? ⟨w.heap.size + 1, 1, none⟩ = some (.slice fd 2 fe) /\ w2.drew.cell? ⟨w.heap.size + 1, 2, none⟩ = some (.int .i64 X.2.2)) /\ (w2.drew.cell? ⟨G, p * 3, none⟩ = some (.slice pa' 3 pca) /\ w2.drew.cell? ⟨G, p * 3 + 1, none⟩ = some (.slice pc' 2 pcc) /\ w2.drew.cell? ⟨G, p * 3 + 2, none⟩ = some (.int .i64 PX.2.2)) := ⟨⟨m1, n0, n1, n2⟩, g0, g1, g2⟩
 have hpI : (p : Int) < 3 := by omega
 refine wp_region_ends (fun w' => w'.cell? ⟨w.heap.size, 1, none⟩ = some (.slice (some ⟨G, 0, none⟩) 3 cG) /\ w'.cell? ⟨w.heap.size + 1, 0, none⟩ = some (.slice fa 3 fc) /\ w'.cell? ⟨w.heap.size + 1, 1, none⟩ = some (.slice fd 2 fe) /\ w'.cell? ⟨w.heap.size + 1, 2, none⟩ = some (.int .i64 X.2.2)) (fun w' => w'.cell? ⟨G, p * 3, none⟩ = some (.slice pa' 3 pca) /\ w'.cell? ⟨G, p * 3 + 1, none⟩ = some (.slice pc' 2 pcc) /\ w'.cell? ⟨G, p * 3 + 2, none⟩ = some (.int .i64 PX.2.2)) 10 (by kernel_rfl) ?_;refine tkl 0 rfl hSS ?_;refine tkl 1 rfl hSS ?_;refine tkl 2 rfl hSS ?_;refine tkl 3 rfl hSS ?_;refine tkl 4 rfl hSS ?_;refine tkl 5 rfl hSS ?_;refine tkl 6 rfl hSS ?_;refine wpAnyE_take1 (i := 7) (v := ?v7) rfl rfl (by kernel_rfl) (by kernel_rfl) (by kernel_rfl) (by decide) (by rfl) (by simp [Region.binds]) (fun _ _ _ h => h) (Or.inl ⟨by rfl, ?hy7⟩) hSS ?_
 case hy7 => (intro wz hSw; (try dsimp only at hSw); go_simp; try (with_reducible rfl))
 refine tkl 8 rfl hSS ?_;refine wo1 9 rfl fun K hK => ?_;go_simp;refine (iaddX_any PX X (iC.below (Below.refl _ _).drew) (iD.below (Below.refl _ _).drew) (u1.below (Below.refl _ _).drew) (u2.below (Below.refl _ _).drew) (by rw [<- HPX.out]; exact H1.out) H2.out (by rw [<- HPX.out]; exact H3.out)).mono ?_;rintro ee w3 ⟨E1, E2, k1', k2', rfl, bd, y1, y2, y3, v1, v2⟩;have b3 := below_of_drew bd;have y1x : w2.heap.size <= E1 := y1;have y3x : w2.heap.size <= E2 := y3;have j3 := j2.below b3;have q3 := q2.below b3;have f3 := f2.below b3;have r3 := r2.below b3;have s3 := b3.size;obtain ⟨-, m1', -, -⟩ := q3.four;obtain ⟨n0', n1', n2', -, -, -⟩ := f3.trio;have hS3 : (w3.cell? ⟨w.heap.size, 1, none⟩ = some (.slice (some ⟨G, 0, none⟩) 3 cG) /\ w3.cell? ⟨w.heap.size + 1, 0, none⟩ = some (.slice fa 3 fc) /\ w3.cell? ⟨w.heap.size + 1, 1, none⟩ = some (.slice fd 2 fe) /\ w3.cell? ⟨w.heap.size + 1, 2, none⟩ = some (.int .i64 X.2.2)) /\ (w3.cell? ⟨G, p * 3, none⟩ = some (.slice pa' 3 pca) /\ w3.cell? ⟨G, p * 3 + 1, none⟩ = some (.slice pc' 2 pcc) /\ w3.cell? ⟨G, p * 3 + 2, none⟩ = some (.int .i64 PX.2.2)) := ⟨⟨m1', n0', n1', n2'⟩, (b3.cell (p := ⟨G, p * 3, none⟩) lG2.2).trans g0, (b3.cell (p := ⟨G, p * 3 + 1, none⟩) lG2.2).trans g1, (b3.cell (p := ⟨G, p * 3 + 2, none⟩) lG2.2).trans g2⟩
 (try dsimp only);refine hK.out _ _ ⟨hS3.1, fun _ => hS3.2⟩ ?_;clear hK K hSS;refine wo1 10 rfl fun K hK => ?_;go_simp;refine hK.out _ _ ⟨hS3.1, fun h => absurd (show true = false from h) (by decide)⟩ ?_;have FPN := j3.put HL.out hp (ca := k1') (cc := k2') (K := (plusX PX X).2.2) v1 (by rw [<- HPX.out]; exact H3.out.c) v2 (by rw [<- HPX.out]; exact H3.out.d) (by omega) (by omega);have fz0 := j3.frz (p * 3);have fz1 := j3.frz (p * 3 + 1);have fz2 := j3.frz (p * 3 + 2);obtain ⟨h0', h1', h2'⟩ := hS3.2;have TT : Touch (fun q => q = G) w3 (((w3.setCell ⟨G, p * 3, none⟩ (.slice (some ⟨E1, 0, none⟩) 3 k1')).setCell ⟨G, p * 3 + 1, none⟩ (.slice (some ⟨E2, 0, none⟩) 2 k2')).setCell ⟨G, p * 3 + 2, none⟩ (.int .i64 (plusX PX X).2.2)) := (((Touch.refl (fun q => q = G) w3).setCell rfl _).setCell rfl _).setCell rfl _;have q4 := q3.touch TT (fun h => by have := h; omega);have f4 := f3.touch TT (fun h => by have := h; omega);have r4 := r3.touch TT (fun h => by have := h; omega);have B4 := (btr B2 b3).trans (TT.below (by have := B2.size; omega) (fun q hq => by omega));obtain ⟨o0, o1, o2, o3⟩ := q4.four;obtain ⟨t0, t1, t2, -, -, -⟩ := f4.trio;have sTT := TT.size;refine wo1 11 rfl fun K hK => ?_;go_simp;refine hK.out _ _ ⟨⟨o1, t0, t1, t2⟩, fun h => absurd (show true = false from h) (by decide)⟩ ?_;refine wod ?_ _
 have eAdd : (y.add p X).pots = y.pots.set p ((plusX PX X).1, (plusX PX X).2.1, (plusX PX X).2.2) := by
  show y.pots.set p (plusX (y.pots[p]?.getD noX) X) = _
  rw [HPX.out]
 rw [<- eAdd] at FPN;clear hS3 h0' h1' h2' fz0 fz1 fz2 TT eAdd f4 f3 f2 q3 q2 r3 r2 j3 j2 B2 b3 bd v1 v2 u1 u2 iC iD g0 g1 g2 d0 d1 d2;generalize (((w3.setCell ⟨G, p * 3, none⟩ (.slice (some ⟨E1, 0, none⟩) 3 k1')).setCell ⟨G, p * 3 + 1, none⟩ (.slice (some ⟨E2, 0, none⟩) 2 k2')).setCell ⟨G, p * 3 + 2, none⟩ (.int .i64 (plusX PX X).2.2)) = V at *;obtain ⟨l0, l1, l2, l3⟩ := r4.four;have fy0 := r4.free 0;have fy1 := r4.free 1;have fy2 := r4.free 2;have fy3 := r4.free 3;obtain ⟨x', T'⟩ := put4 r4 rfl (.slice ga ng gc) (.slice (some ⟨G, 0, none⟩) 3 cG) (.slice ta nt tc) (.bool st);have FP2 := FPN.past (boxNil r4) T';have B5 := B4.trans (T'.below B4.size (fun k hk => by omega));obtain ⟨e0, e1, e2, e3⟩ := x'.four;have lr := r4.lt;clear FPN r4 T' x'
 go_wp2
 refine bodyPost_ret (v := wayV ga ng gc (some ⟨G, 0, none⟩) cG ta nt tc st) (by simp [results, Tryz.results185, go_sem, e0, e1, e2, e3]) rfl ?_
 exact ⟨G, cG, rfl, B5, FP2⟩
theorem next_nil (h : 0 < n) : Builtin.nextslicecap n 0 = n := by
 simp [Builtin.nextslicecap, h]
theorem run_append_made {P : Program} (w : World) {t tx : TypeId} (ty : TypeId) {e : TypeId} (i : TypeInfo) {z : Value} (ht : P.underlying t = some (.slice e)) (htx : P.underlying tx = some (.int .i64)) (hi : P.info? e = some i) (hz : i.zero = some z) (n : Nat) (h0 : 0 < n) (hs : 0 < i.size) (hn : n <= 1000) (hb : i.bytes <= 1000) :
  (Builtin.append_ #[t, tx] ty #[.slice none 0 0, .int .i64 (n : Int)]).run P w = .ok (.slice (some ⟨w.heap.size, 0, none⟩) n (grownCap w n 0 e)) (w.drew.alloc (.cells (Builtin.zeroCells z.cells n ++ Builtin.zeroCells z.cells (grownCap w n 0 e - n)) e)) := by
 have hw : IntKind.i64.wrap (n : Int) = n := wrap_id (by omega) (by omega);have h1 : ¬ ((n : Int) < 0) := by omega
 have hnb : n * i.bytes <= 1000 * 1000 := Nat.mul_le_mul hn hb
 have h2 : ¬ (281474976710656 < (n : Int) * (i.bytes : Int)) := by
  have : ((n * i.bytes : Nat) : Int) = (n : Int) * (i.bytes : Int) := by simp
  omega
 have h3 : ¬ (n * i.size = 0) := by
  have := Nat.mul_pos h0 hs
  omega
 have h4 : ¬ (n = 0) := by omega
 have h5 : ¬ (281474976710656 < n * i.bytes) := by omega
 have h6 : ¬ (9223372036854775807 < (n : Int)) := by omega
 have hold : (Builtin.firstCells i.size 0 (.slice none 0 0)).run P w.drew = .ok #[] w.drew := run_firstCells_none w.drew i.size 0 0 0;simp [Builtin.append_, asInt, asIntOf, run_underlying ht, run_underlying htx, sizeOf, typeInfo, zeroValue, hi, hz, hw, h1, h2, h3, h4, h5, h6, next_nil h0, Question.forced, hold, newRow, grownCap]
theorem wpList_append_made {P : Program} {ops : Array Oper} {rest : List Oper} {o : Oper} {a : Act} {Q : Exit -> Act -> World -> Prop} (hgd : o.guard = none) (s x : Operand) (t tx : TypeId) (ho : o.op = .call { callee := .builtin .append, args := #[s, x], argTypes := #[t, tx] }) {v xv r : Value} {w' : World} (hs : a.eval s = v) (hx : a.eval x = xv) (hr : (Builtin.append_ #[t, tx] o.type #[v, xv]).run P w = .ok r w') (h : wpList P ops Q rest (a.put o.dst r) w') : wpList P ops Q (o :: rest) a w := by
 refine wpList_plain hgd fun K hK => ?_;unfold Oper.wp execOp;simp only [ho, resolve, invoke, builtin, Sem.run_bind, Sem.run_pure, Result.andThen_ok, List.map_toArray, List.map_cons, List.map_nil, hs, hx, hr];exact hK _ _ h
theorem zero_size (z : Array Value) (n : Nat) : (Builtin.zeroCells z n).size = n * z.size := by simp [Builtin.zeroCells]
theorem igrow_any (n : Nat) (h0 : 0 < n) (hn : n <= 1000) (w : World) :
  Calls Tryz.prog 202 #[.slice none 0 0, .int .i64 (n : Int)] w fun e w' => ∃ G cap, e = .returned (.slice (some ⟨G, 0, none⟩) 0 cap) /\ Below w.heap.size w w' /\ w'.ownsRow w.heap.size 95 3 (.slice (some ⟨G, 0, none⟩) 0 cap) 0 [] /\ n <= cap := by
 obtain ⟨zi, hi, hz0, hz1, hz2⟩ := info_parts Tryz.infoForm;have hap : ∀ (ty : TypeId) (w : World), (Builtin.append_ #[176, 3] ty #[.slice none 0 0, .int .i64 (n : Int)]).run Tryz.prog w = .ok (.slice (some ⟨w.heap.size, 0, none⟩) n (grownCap w n 0 95)) (w.drew.alloc (.cells (Builtin.zeroCells (Value.agg #[.slice none 0 0, .slice none 0 0, .int .i64 0]).cells n ++ Builtin.zeroCells (Value.agg #[.slice none 0 0, .slice none 0 0, .int .i64 0]).cells (grownCap w n 0 95 - n)) 95)) := fun ty w => run_append_made w ty zi Tryz.underlying176 (by kernel_rfl) hi hz0 n h0 (by rw [hz1]; omega) hn (by rw [hz2]; omega);have hpos : ¬ ((n : Int) < 0) := by omega
 have hpos2 : (0 : Int) < n := by omega
 have hge := grownCap_ge w n 0 95;have hle := grownCap_le_maxLen w n 0 95 (by unfold maxLen; omega)
 go_enter Tryz.func202, Tryz.ntmps202
 go_wp2_with (at_builtin; go_must (refine wpList_append_made rfl (.tmp 20) (.tmp 21) 176 3 rfl rfl rfl (hap _ _) ?_))
 have B : Below w.heap.size w (w.drew.alloc (.cells (Builtin.zeroCells (Value.agg #[.slice none 0 0, .slice none 0 0, .int .i64 0]).cells n ++ Builtin.zeroCells (Value.agg #[.slice none 0 0, .slice none 0 0, .int .i64 0]).cells (grownCap w n 0 95 - n)) 95)) := ((Below.refl w.heap.size w).drew).alloc (qJ _) _
 have O : (w.drew.alloc (.cells (Builtin.zeroCells (Value.agg #[.slice none 0 0, .slice none 0 0, .int .i64 0]).cells n ++ Builtin.zeroCells (Value.agg #[.slice none 0 0, .slice none 0 0, .int .i64 0]).cells (grownCap w n 0 95 - n)) 95)).ownsRow w.heap.size 95 3 (.slice (some ⟨w.heap.size, 0, none⟩) 0 (grownCap w n 0 95)) 0 [] := by
  refine ⟨rfl, .inr ⟨w.heap.size, _, _, rfl, qJ _, heap_alloc_new w.drew _, Nat.zero_le _, hle, ?_, rfl⟩⟩;rw [Array.size_append, zero_size, zero_size]
  show n * 3 + (grownCap w n 0 95 - n) * 3 = _
  omega
 go_wp2
 go_ret
 exact ⟨_, _, rfl, B, O, hge⟩
theorem FormsAt.cells {b off : Nat} (h : FormsAt w (some ⟨b, off, none⟩) fs) : ∀ k, k <= fs.length -> ∃ xs : List Value, xs.length = k * 3 /\ (∀ j u, xs[j]? = some u -> w.cell? ⟨b, off + j, none⟩ = some u) /\ (∀ u ∈ xs, u.oneCell' = true) /\ (∀ G, w.heap.size <= G -> TermsOk w G xs fs k) := by
 intro k
 induction k with
 | zero => intro _; exact ⟨[], rfl, fun j u hu => by simp at hu, fun u hu => by simp at hu, fun G _ j hj => by omega⟩
 | succ k ih =>
  intro hk;obtain ⟨xs, h1, h2, h3, h4⟩ := ih (by omega);obtain ⟨b', off', e, a', c', ca, cc, c0, c1, c2, iC, iD⟩ := h k (by omega);simp only [qA, qB, and_true] at e;obtain ⟨rfl, rfl⟩ := e;refine ⟨xs ++ [.slice a' 3 ca, .slice c' 2 cc, .int .i64 (fs[k]?.getD ([], [], 0)).2.2], by rw [List.length_append, h1]; simp; omega, fun j u hu => ?_, fun u hu => ?_, fun G hG j hj => ?_⟩
  ·by_cases hj : j < xs.length
   ·rw [qH hj] at hu; exact h2 j u hu
   rw [qG (by omega), h1] at hu;obtain ⟨r, rfl⟩ : ∃ r, j = k * 3 + r := ⟨j - k * 3, by omega⟩
   rw [show k * 3 + r - k * 3 = r by omega] at hu
   match r with
   | 0 => simp only [qD, qA] at hu; subst hu; exact c0
   | 1 => simp only [qD, qE, qA] at hu; subst hu; exact c1
   | 2 => simp only [qD, qE, qA] at hu; subst hu; exact c2
   | r + 3 => simp at hu
  ·rcases List.mem_append.1 hu with hu | hu
   ·exact h3 u hu
   simp only [List.mem_cons, List.not_mem_nil, or_false] at hu
   rcases hu with rfl | rfl | rfl <;> rfl
  by_cases hjk : j < k
  ·obtain ⟨a2, c2', x, y, e0, e1, e2, i1, i2, n1, n2⟩ := h4 G hG j hjk
   exact ⟨a2, c2', x, y, by rw [qH (by omega)]; exact e0, by rw [qH (by omega)]; exact e1, by rw [qH (by omega)]; exact e2, i1, i2, n1, n2⟩
  obtain rfl : j = k := by omega
  refine ⟨a', c', ca, cc, ?_, ?_, ?_, iC, iD, fun b o e => by have := iC.blt (by omega) b o e; omega, fun b o e => by have := iD.blt (by omega) b o e; omega⟩
  ·rw [qG (by omega), h1, Nat.sub_self]; rfl
  ·rw [qG (by omega), h1, show j * 3 + 1 - j * 3 = 1 by omega]; rfl
  rw [qG (by omega), h1, show j * 3 + 2 - j * 3 = 2 by omega]; rfl
theorem TermsOk.move {g : Nat} {T : List Frm} (h : TermsOk W G xs T n) (t : Touch (fun x => x = G) W W') (hg : g = G \/ W.heap.size <= g) : TermsOk W' g xs T n := fun j hj => by
 obtain ⟨a', c', ca, cc, e0, e1, e2, i1, i2, n1, n2⟩ := h j hj;refine ⟨a', c', ca, cc, e0, e1, e2, i1.by t n1, i2.by t n2, fun b o e => ?_, fun b o e => ?_⟩
 ·have := n1 b o e;have := i1.blt (by omega) b o e
  omega
 have := n2 b o e;have := i2.blt (by omega) b o e
 omega
theorem TermsOk.join {ys : List Value} {T U : List Frm} {m : Nat} (h : TermsOk W G xs T n) (h' : TermsOk W G ys U m) (hx : xs.length = n * 3) (hT : T.length = n) : TermsOk W G (xs ++ ys) (T ++ U) (n + m) := fun j hj => by
 by_cases hjn : j < n
 ·obtain ⟨a', c', ca, cc, e0, e1, e2, r⟩ := h j hjn;refine ⟨a', c', ca, cc, by rw [qH (by omega)]; exact e0, by rw [qH (by omega)]; exact e1, ?_, ?_⟩
  ·rw [qH (by omega), qH (l₁ := T) (by omega)]; exact e2
  rw [qH (l₁ := T) (by omega)]; exact r
 obtain ⟨a', c', ca, cc, e0, e1, e2, r⟩ := h' (j - n) (by omega);refine ⟨a', c', ca, cc, ?_, ?_, ?_, ?_⟩
 ·rw [qG (by omega), hx, show j * 3 - n * 3 = (j - n) * 3 by omega]; exact e0
 ·rw [qG (by omega), hx, show j * 3 + 1 - n * 3 = (j - n) * 3 + 1 by omega]; exact e1
 ·rw [qG (by omega), hx, show j * 3 + 2 - n * 3 = (j - n) * 3 + 2 by omega, qG (l₁ := T) (by omega), hT]; exact e2
 rw [qG (l₁ := T) (by omega), hT]; exact r
theorem grown_touch (h : W.grownBy W' (some G)) : Touch (fun x => x = G) W W' := ⟨h.os, h.tape, h.output, h.size, fun z hz hn => h.block z hz (fun e => hn (by simpa using e))⟩
theorem igrow_at {x : Int} (n : Nat) (hx : x = (n : Int)) (h0 : 0 < n) (hn : n <= 1000) {w : World} :
  Calls Tryz.prog 202 #[.slice none 0 0, .int .i64 x] w fun e w' => ∃ G cap, e = .returned (.slice (some ⟨G, 0, none⟩) 0 cap) /\ Below w.heap.size w w' /\ w'.ownsRow w.heap.size 95 3 (.slice (some ⟨G, 0, none⟩) 0 cap) 0 [] /\ n <= cap := by
 subst hx
 exact igrow_any n h0 hn w
theorem own_lo {g : Nat} (h : W.ownsRow base 95 3 (.slice (some ⟨g, 0, none⟩) n cap) n xs) : base <= g /\ g < W.heap.size /\ n <= cap := by
 rcases h.2 with ⟨h', _⟩ | ⟨g', cap', cur, h', hb, hh, hc, _⟩
 ·cases h'
 simp only [Value.slice.injEq, qA, qB, and_true, true_and] at h';obtain ⟨rfl, rfl⟩ := h'
 exact ⟨hb, lt_of_block hh, hc⟩
theorem iconcat_any {Q : Nat} {ga : Option Addr} {ng gc : Nat} (fs : List Frm) {F fcap : Nat} (X : Frm) {w : World} (hQ : Cel w Q [.slice ga ng gc, .slice (some ⟨F, 0, none⟩) 1 fcap] 176) (hn : fs.length = ng) (hng : ng <= 100) (hG : FormsAt w ga fs) (hX : FormsAt w (some ⟨F, 0, none⟩) [X]) :
  Calls Tryz.prog 197 #[.slice (some ⟨Q, 0, none⟩) 2 2] w fun e w' => ∃ G cap, e = .returned (.slice (some ⟨G, 0, none⟩) (ng + 1) cap) /\ Below w.heap.size w w' /\ FormsAt w' (some ⟨G, 0, none⟩) (fs ++ [X]) := by
 have HN : Hid (fs.length = ng) := hn;have HG : Hid (FormsAt w ga fs) := hG;have HX : Hid (FormsAt w (some ⟨F, 0, none⟩) [X]) := hX;have HQ : Hid (Cel w Q [.slice ga ng gc, .slice (some ⟨F, 0, none⟩) 1 fcap] 176) := hQ;clear hn hG hX hQ;obtain ⟨zi, hi, hz0, hz1, hz2⟩ := info_parts Tryz.infoForm
 go_enter Tryz.func197, Tryz.ntmps197
 go_wp2_with fail
 go_loopw [3, 5, 11] (fun s _ i wr => ∃ k : Nat, k <= 2 /\ i = .int .i64 k /\ (∃ x : Int, s = .int .i64 x /\ ((k = 0 /\ x = 0) \/ (k = 1 /\ x = ng) \/ (k = 2 /\ x = ng + 1))) /\ wr = w) (fun _ _ i _ => 2 - (intOf i).toNat)
 case atStart => exact ⟨0, by omega, rfl, ⟨0, rfl, .inl ⟨rfl, rfl⟩⟩, rfl⟩
 case round =>
  obtain ⟨k, hk, rfl, ⟨x, rfl, hx⟩, hwr⟩ := hrel;have hwr' : w = wr := hwr.symm;subst hwr';have c0 : w.cell? ⟨Q, 0, none⟩ = some (.slice ga ng gc) := HQ.out.cell 0;have c1 : w.cell? ⟨Q, 1, none⟩ = some (.slice (some ⟨F, 0, none⟩) 1 fcap) := HQ.out.cell 1
  rcases hx with ⟨rfl, rfl⟩ | ⟨rfl, rfl⟩ | ⟨rfl, rfl⟩
  ·have p1 : ¬ ((ng : Int) < 0) := by omega
   go_wp2
   go_roundw
   case rel => exact ⟨1, by omega, rfl, ⟨_, rfl, .inr (.inl ⟨rfl, rfl⟩)⟩, trivial⟩
   case measure => simp [intOf]
  ·have p1 : ¬ ((ng : Int) + 1 < 0) := by omega
   go_wp2
   go_roundw
   case rel => exact ⟨2, by omega, rfl, ⟨_, rfl, .inr (.inr ⟨rfl, rfl⟩)⟩, trivial⟩
   case measure => simp [intOf]
  go_wp2_with fail
  refine (igrow_at (ng + 1) (by omega) (by omega) (by omega)).mono ?_;rintro e w1 ⟨G, cap, rfl, b1, o1, hcap⟩;clear c0 c1
  go_wp2_with fail
  go_loopw [6, 8, 27] (fun r _ i w2 => ∃ (k n g cp : Nat) (xs : List Value) (T : List Frm), k <= 2 /\ i = .int .i64 k /\ r = .slice (some ⟨g, 0, none⟩) n cp /\ T.length = n /\ ((k = 0 /\ n = 0 /\ T = []) \/ (k = 1 /\ n = ng /\ T = fs) \/ (k = 2 /\ n = ng + 1 /\ T = fs ++ [X])) /\ Below w.heap.size w w2 /\ w2.ownsRow w.heap.size 95 3 (.slice (some ⟨g, 0, none⟩) n cp) n xs /\ TermsOk w2 g xs T n) (fun _ _ i _ => 2 - (intOf i).toNat)
  case atStart => exact ⟨0, 0, G, cap, [], [], by omega, rfl, rfl, rfl, .inl ⟨rfl, rfl, rfl⟩, b1, o1, fun j hj => by omega⟩
  case round =>
   clear b1 o1 hcap;obtain ⟨k, n, g, cp, xs, T, hk, rfl, rfl, hT, hx, hb, ho, ht⟩ := hrel;have HT : Hid (T.length = n) := hT;have HTT : Hid (TermsOk wr g xs T n) := ht;have q := HQ.out.below hb;have c0 : wr.cell? ⟨Q, 0, none⟩ = some (.slice ga ng gc) := q.cell 0;have c1 : wr.cell? ⟨Q, 1, none⟩ = some (.slice (some ⟨F, 0, none⟩) 1 fcap) := q.cell 1;obtain ⟨lo1, lo2, lo3⟩ := own_lo ho;have sz := hb.size;clear hT ht q
   rcases hx with ⟨rfl, rfl, rfl⟩ | ⟨rfl, rfl, rfl⟩ | ⟨rfl, rfl, rfl⟩
   ·rcases Nat.eq_zero_or_pos ng with h0 | h0
    ·have HNG : Hid (ng = 0) := h0;clear h0
     have hs : ∀ w : World, Src Tryz.prog zi.size 176 (.slice ga ng gc) 0 [] w := fun w => by
      rw [HNG.out]
      cases ga with
      | none => exact Src.ofNil w Tryz.underlying176 gc
      | some a => exact Src.ofSlice w Tryz.underlying176 a 0 gc [] (by simp) (fun j u hu => by simp at hu) (fun u hu => by simp at hu)
     go_wp2_with (at_builtin; go_must (refine wpList_append_made rfl (.tmp 31) (.tmp 32) 176 176 rfl rfl rfl (run_append_nothing _ _ _ _ _ zi Tryz.underlying176 hi _ _ _ lo3 _ (hs _)) ?_))
     (try go_wp2)
     go_roundw
     case rel => exact ⟨1, 0, g, cp, xs, fs, by omega, rfl, rfl, HN.out.trans HNG.out, .inr (.inl ⟨rfl, HNG.out.symm, rfl⟩), hb, ho, fun j hj => by omega⟩
     case measure => simp [intOf]
    obtain ⟨gb, go', rfl, -⟩ := HG.out 0 (by rw [HN.out]; exact h0);obtain ⟨ys, y1, y2, y3, y4⟩ := (HG.out.keep hb).cells ng (by rw [HN.out]; exact qJ _);have HY2 : Hid (∀ j u, ys[j]? = some u -> wr.cell? ((⟨gb, go', none⟩ : Addr).add j) = some u) := fun j u hu => by rw [addr_add]; exact y2 j u hu
    have HY3 : Hid _ := y3;have HY1 : Hid (ys.length = ng * 3) := y1;have HG2 := (HG.out.keep hb)
    obtain ⟨zs, z1, z2, z3, z4⟩ := HG.out.cells ng (by rw [HN.out]; exact qJ _);have hxs : xs = [] := List.eq_nil_of_length_eq_zero (by have := ho.1; omega);subst hxs
    have HTG : Hid (TermsOk wr g ys fs ng) := fun j hj => by
     obtain ⟨a', c', ca, cc, e0, e1, e2, i1, i2, n1, n2⟩ := y4 wr.heap.size (qJ _) j hj;obtain ⟨b0, o0, e, a'', c'', ca', cc', k0, k1, k2, iC, iD⟩ := HG.out j (by rw [HN.out]; exact hj);simp only [qA, qB, and_true] at e;obtain ⟨rfl, rfl⟩ := e;have f0 := (hb.cell (p := ⟨gb, go' + j * 3, none⟩) (block_lt k0)).trans k0;have f1 := (hb.cell (p := ⟨gb, go' + j * 3 + 1, none⟩) (block_lt k1)).trans k1;have g0 := y2 (j * 3) _ e0;have g1 := y2 (j * 3 + 1) _ e1;rw [f0] at g0;rw [show go' + (j * 3 + 1) = go' + j * 3 + 1 by omega, f1] at g1;simp only [qA, Value.slice.injEq, true_and] at g0 g1;obtain ⟨rfl, rfl⟩ := g0;obtain ⟨rfl, rfl⟩ := g1
     exact ⟨a'', c'', ca', cc', e0, e1, e2, i1, i2, fun b o e => by have := iC.blt (by omega) b o e; omega, fun b o e => by have := iD.blt (by omega) b o e; omega⟩
    clear y1 y2 y3 y4 z1 z2 z3 z4 zs HG2
    go_wp2_with (at_builtin; go_must (refine wpList_append_lies _ rfl (.tmp 31) (.tmp 32) 176 rfl w.heap.size 95 zi _ 3 56 Tryz.underlying176 hi hz0 hz1 hz2 rfl (by decide) (.slice (some ⟨g, 0, none⟩) 0 cp) 0 [] rfl ho ⟨gb, go', none⟩ ng gc ys rfl HY1.out HY2.out HY3.out h0 (by unfold maxLen; omega) (by omega) sz _ rfl ?_); intro g2 cp2 w3 hown hgrow hat hlt1)
    have t3 : Touch (fun x => x = g) wr w3 := grown_touch hgrow
    have hat' : g2 = g \/ wr.heap.size <= g2 := by
     rcases hat with h | h
     ·have h' : some g = some g2 := h;simp only [qA] at h'
      omega
     omega
    have T3 := HTG.out.move t3 hat';have b3 := hb.trans (t3.below hb.size (fun k hk => by omega))
    have ow : w3.ownsRow w.heap.size 95 3 (.slice (some ⟨g2, 0, none⟩) ng cp2) ng ys := by
     have := hown;rw [Nat.zero_add, List.nil_append] at this
     exact this
    clear hown hgrow hat t3 hat' HTG;(try go_wp2)
    go_roundw
    case rel => exact ⟨1, ng, g2, cp2, ys, fs, by omega, rfl, rfl, HN.out, .inr (.inl ⟨rfl, rfl, rfl⟩), b3, ow, T3⟩
    case measure => simp [intOf]
   ·obtain ⟨ys, y1, y2, y3, y4⟩ := (HX.out.keep hb).cells 1 (qJ _);have HY2 : Hid (∀ j u, ys[j]? = some u -> wr.cell? ((⟨F, 0, none⟩ : Addr).add j) = some u) := fun j u hu => by rw [addr_add]; exact y2 j u hu
    have HY3 : Hid _ := y3;have HY1 : Hid (ys.length = 1 * 3) := y1
    have HTG : Hid (TermsOk wr g ys [X] 1) := fun j hj => by
     obtain ⟨a', c', ca, cc, e0, e1, e2, i1, i2, n1, n2⟩ := y4 wr.heap.size (qJ _) j hj;obtain ⟨b0, o0, e, a'', c'', ca', cc', k0, k1, k2, iC, iD⟩ := HX.out j hj;simp only [qA, qB, and_true] at e;obtain ⟨rfl, rfl⟩ := e;have f0 := (hb.cell (p := ⟨F, 0 + j * 3, none⟩) (block_lt k0)).trans k0;have f1 := (hb.cell (p := ⟨F, 0 + j * 3 + 1, none⟩) (block_lt k1)).trans k1;have g0 := y2 (j * 3) _ e0;have g1 := y2 (j * 3 + 1) _ e1;rw [f0] at g0;rw [show 0 + (j * 3 + 1) = 0 + j * 3 + 1 by omega, f1] at g1;simp only [qA, Value.slice.injEq, true_and] at g0 g1;obtain ⟨rfl, rfl⟩ := g0;obtain ⟨rfl, rfl⟩ := g1
     exact ⟨a'', c'', ca', cc', e0, e1, e2, i1, i2, fun b o e => by have := iC.blt (by omega) b o e; omega, fun b o e => by have := iD.blt (by omega) b o e; omega⟩
    have HJ : Hid (TermsOk wr g (xs ++ ys) (T ++ [X]) (n + 1)) := HTT.out.join HTG.out ho.1 HT.out;clear y1 y2 y3 y4
    go_wp2_with (at_builtin; go_must (refine wpList_append_lies _ rfl (.tmp 31) (.tmp 32) 176 rfl w.heap.size 95 zi _ 3 56 Tryz.underlying176 hi hz0 hz1 hz2 rfl (by decide) (.slice (some ⟨g, 0, none⟩) n cp) n xs rfl ho ⟨F, 0, none⟩ 1 fcap ys rfl HY1.out HY2.out HY3.out (by omega) (by unfold maxLen; omega) (by omega) sz _ rfl ?_); intro g2 cp2 w3 hown hgrow hat hlt1)
    have t3 : Touch (fun x => x = g) wr w3 := grown_touch hgrow
    have hat' : g2 = g \/ wr.heap.size <= g2 := by
     rcases hat with h | h
     ·have h' : some g = some g2 := h;simp only [qA] at h'
      omega
     omega
    have T3 := HJ.out.move t3 hat';have b3 := hb.trans (t3.below hb.size (fun k hk => by omega));clear hgrow hat t3 hat' HTG HJ;(try go_wp2)
    go_roundw
    case rel => exact ⟨2, _, g2, cp2, _, T ++ [X], by omega, rfl, rfl, by rw [List.length_append, HT.out]; rfl, .inr (.inr ⟨rfl, rfl, rfl⟩), b3, hown, T3⟩
    case measure => simp [intOf]
   go_wp2
   go_ret
   exact ⟨g, cp, rfl, hb, HTT.out.forms HT.out ho⟩
end Go.Proofs.YtpmihhbgjimpmaaGreatDoor
