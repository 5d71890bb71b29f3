/-
  Lemmas that the claim's last text rests on.
-/
import Derived.Deep.AppendLies
import Derived.Test.YtfmpcihghlnlnaaGreatDoorQF
namespace Go.Proofs.YtfmpcihghlnlnaaGreatDoor
open Go.RowKit Go.Deep
open List renaming getElem?_eq_getElem → qA, getElem?_cons_zero → qB, getElem?_cons_succ → qC
set_option linter.unusedVariables false
set_option maxRecDepth 100000
set_option maxHeartbeats 25600000
variable {B k lo m n : Nat} {C D E xs : List Int} {K : Int} {W w : World} {cs : List (List Value)} {gs : List FV} {p q : Nat -> Nat} {ss ts : List IV}
theorem skeep_any (a : Option Addr) (n cap : Nat) (c : Option Addr) (m cap' : Nat) (ad : Option Addr) (N pc : Nat) (s : Int) (e : Option Addr) (k ec : Nat) (C D E : List Int) (ss : List IV) {w : World}
  (hC : Ints w a n C) (hD : Ints w c m D) (hE : Ints w e k E) (hN : ss.length = N) (hF : ISG w ad ss) (hn : n <= 1048576) (hm : m <= 1048576) (hk : k <= 1048576) (hN1 : N <= 1048576) :
  Calls Tryz.prog 40 #[treV a n cap c m cap', .slice ad N pc, .int .i64 s, .slice e k ec] w fun r w' => r = .returned (.bool (keepB n m C D ss s k E)) /\ Below w.heap.size w w' := by
 have HN : Hid (ss.length = N) := hN;clear hN;have b0 := (Below.refl w.heap.size w).alloc (Nat.le_refl _) (.cells #[.slice a n cap, .slice c m cap'] 59);have q0 := Cel.new w [.slice a n cap, .slice c m cap'] 59
 cases h1 : trtB n m C D
 ·go_enter Tryz.func40, Tryz.ntmps40
  go_wp2_with fail
  refine (strt_any C D (hC.below b0) (hD.below b0) hn hm).mono ?_;rintro r w1 ⟨rfl, b1⟩;have B1 := btr b0 b1;rw [h1]
  go_wp2
  go_ret
  exact ⟨ret_bool (by simp [keepB, viewB, h1]), B1⟩
 cases h2 : partsB ss
 ·go_enter Tryz.func40, Tryz.ntmps40
  go_wp2_with fail
  refine (strt_any C D (hC.below b0) (hD.below b0) hn hm).mono ?_;rintro r w1 ⟨rfl, b1⟩;have B1 := btr b0 b1;rw [h1]
  go_wp2_with fail
  refine (sparts_any ss HN.out (hF.below B1) hN1).mono ?_;rintro r w2 ⟨rfl, rfl⟩;rw [h2]
  go_wp2
  go_ret
  exact ⟨ret_bool (by simp [keepB, viewB, h2]), B1⟩
 cases h3 : inB s 0 ((m : Int) - 1)
 ·go_enter Tryz.func40, Tryz.ntmps40
  go_wp2_with fail
  refine (strt_any C D (hC.below b0) (hD.below b0) hn hm).mono ?_;rintro r w1 ⟨rfl, b1⟩;have B1 := btr b0 b1;have c1 := (q0.below b1).cell 1;simp only [qB, qC] at c1;rw [h1]
  go_wp2_with fail
  refine (sparts_any ss HN.out (hF.below B1) hN1).mono ?_;rintro r w2 ⟨rfl, rfl⟩;rw [h2]
  go_wp2_with fail
  refine (in_any).mono ?_;rintro r w3 ⟨rfl, rfl⟩;rw [h3]
  go_wp2
  go_ret
  exact ⟨ret_bool (by simp [keepB, viewB, h3]), B1⟩
 cases h4 : okN 3 20000 k E
 ·go_enter Tryz.func40, Tryz.ntmps40
  go_wp2_with fail
  refine (strt_any C D (hC.below b0) (hD.below b0) hn hm).mono ?_;rintro r w1 ⟨rfl, b1⟩;have B1 := btr b0 b1;have c1 := (q0.below b1).cell 1;simp only [qB, qC] at c1;rw [h1]
  go_wp2_with fail
  refine (sparts_any ss HN.out (hF.below B1) hN1).mono ?_;rintro r w2 ⟨rfl, rfl⟩;rw [h2]
  go_wp2_with fail
  refine (in_any).mono ?_;rintro r w3 ⟨rfl, rfl⟩;rw [h3]
  go_wp2_with fail
  refine (all_any E _ _ (hE.below B1) hk).mono ?_;rintro r w4 ⟨rfl, rfl⟩;rw [h4]
  go_wp2
  go_ret
  exact ⟨ret_bool (by simp [keepB, viewB, h4]), B1⟩
 have hv : viewB n m C D ss s k E = true := by simp [viewB, h1, h2, h3, h4]
 obtain ⟨-, -, m1, m2, hp0, s0, s1, e2, bE, bD⟩ := viewB_elim hv;have HP : Hid _ := hp0;have HV : Hid _ := hv;have H1 : Hid _ := h1;have H2 : Hid _ := h2;have H3 : Hid _ := h3;have H4 : Hid _ := h4;clear hp0 hv h1 h2 h3 h4;subst e2;obtain ⟨t, rfl⟩ : ∃ t : Nat, s = t := ⟨s.toNat, by omega⟩
 have ht : t < m := by omega
 have bg := bD t (by rw [hD.1]; exact ht);obtain ⟨b, off, rfl, hcell⟩ := hD.pos (by omega);have hck := hcell t ht;have hck' : w.cell? ⟨b, off + t, none⟩ = some (.int .i64 (D[t]?.getD 0)) := by rw [hck]; simp
 have hkb : keepB n m C D ss t 3 E = keepsB (D[t]?.getD 0) E ss := by rw [keepB, HV.out]; simp
 rw [hkb];clear hkb;generalize HG : D[t]?.getD 0 = g at *;clear HG hck hcell bD;have ht' : (t : Int) < (m : Int) := by omega
 go_enter Tryz.func40, Tryz.ntmps40
 go_wp2_with fail
 refine (strt_any C D (hC.below b0) (hD.below b0) hn hm).mono ?_;rintro r w1 ⟨rfl, b1⟩;have B1 := btr b0 b1;have q1 := q0.below b1;have c1 := q1.cell 1;simp only [qB, qC] at c1;rw [H1.out]
 go_wp2_with fail
 refine (sparts_any ss HN.out (hF.below B1) hN1).mono ?_;rintro r w2 ⟨rfl, rfl⟩;rw [H2.out]
 go_wp2_with fail
 refine (in_any).mono ?_;rintro r w3 ⟨rfl, rfl⟩;rw [H3.out]
 go_wp2_with fail
 refine (all_any E _ _ (hE.below B1) hk).mono ?_;rintro r w4 ⟨rfl, rfl⟩;rw [H4.out];have dk : w4.cell? ⟨b, off + t, none⟩ = some (.int .i64 g) := by rw [B1.cell (p := ⟨b, off + t, none⟩) (block_lt hck')]; exact hck'
 clear c1 b1 b0 q0 hC hD
 go_wp2_with fail
 go_loopw [9] (fun i wr => ∃ k : Nat, k <= N /\ i = .int .i64 k /\ Below w.heap.size w wr /\ Cel wr w.heap.size [.slice a n cap, .slice (some ⟨b, off, none⟩) m cap'] 59 /\ keepsB g E (ss.take k) = true) (fun i _ => N - (intOf i).toNat)
 case atStart => exact ⟨0, Nat.zero_le _, rfl, B1, q1, rfl⟩
 case round =>
  clear dk B1 q1;obtain ⟨j, hj, rfl, hb, q1, hall⟩ := hrel;have HA : Hid _ := hall;clear hall
  by_cases hlt : j < N
  ·obtain ⟨b2, off2, rfl, hc, hr⟩ := (hF.below hb) j (by rw [HN.out]; exact hlt);have H1 : Hid _ := keepsB_step (g := g) (E := E) (ss := ss) (k := j) (by rw [HN.out]; exact hlt) HA.out;have H2 : Hid _ := keepsB_false (g := g) (E := E) (ss := ss) (k := j) (by rw [HN.out]; exact hlt);have H3 := partsB_at (ss := ss) (k := j) (by rw [HN.out]; exact hlt) HP.out;have dk : wr.cell? ⟨b, off + t, none⟩ = some (.int .i64 g) := by rw [hb.cell (p := ⟨b, off + t, none⟩) (block_lt hck')]; exact hck'
   generalize HG : ss[j]?.getD noI = p at *;clear HG hF HA;obtain ⟨ga, gn, gcap, gx⟩ := p;obtain ⟨e3, bx⟩ := okN_elim (by omega) H3;obtain rfl : gn = 3 := by have : (gn : Int) = 3 := e3; omega
   have hP := bndP_of bx bE;have hr1 : Ints wr ga 3 gx := hr.1;have hE1 := hE.below hb;have hc' : wr.cell? ⟨b2, off2 + j, none⟩ = some (.slice ga 3 gcap) := hc;have H1' : Hid (inB (dot gx E 3) (-g) g = true -> keepsB g E (ss.take (j + 1)) = true) := H1;have H2' : Hid (inB (dot gx E 3) (-g) g = false -> keepsB g E ss = false) := H2;clear hc H3 e3 hr H1 H2 hck' hE;have hlt' : (j : Int) < (N : Int) := by omega
   go_upto_region 6 with fail
   have hn0 : wr.cell? ⟨w.heap.size, 1, none⟩ = some (.slice (some ⟨b, off, none⟩) m cap') /\ wr.cell? ⟨b, off + t, none⟩ = some (.int .i64 g) /\ wr.cell? ⟨b2, off2 + j, none⟩ = some (.slice ga 3 gcap) := ⟨q1.cell 1, dk, hc'⟩
   go_region_held3 (fun w' => w'.cell? ⟨w.heap.size, 1, none⟩ = some (.slice (some ⟨b, off, none⟩) m cap') /\ w'.cell? ⟨b, off + t, none⟩ = some (.int .i64 g) /\ w'.cell? ⟨b2, off2 + j, none⟩ = some (.slice ga 3 gcap)) (first | with_reducible assumption | exact hn0)
    (first
     | (go_at_call 69
        refine (times5_any gx E (by exact hr1.below (Below.refl _ _).drew) (by exact hE1.below (Below.refl _ _).drew) hP (by omega) (by omega)).mono ?_;rintro ee w3 ⟨rfl, b3⟩;have b3' := below_of_drew b3;have q3 := q1.below b3';have d3 := (b3'.cell (p := ⟨b, off + t, none⟩) (block_lt dk)).trans dk;have e3 := (b3'.cell (p := ⟨b2, off2 + j, none⟩) (block_lt hc')).trans hc'
        have hn3 : w3.cell? ⟨w.heap.size, 1, none⟩ = some (.slice (some ⟨b, off, none⟩) m cap') /\ w3.cell? ⟨b, off + t, none⟩ = some (.int .i64 g) /\ w3.cell? ⟨b2, off2 + j, none⟩ = some (.slice ga 3 gcap) := ⟨q3.cell 1, d3, e3⟩)
     | (go_at_call 34
        refine (in_any).mono ?_
        rintro ee w4 ⟨rfl, rfl⟩))
   have hb2 := btr hb b3';have hw : IntKind.i64.wrap (-g) = -g := wrap_id (by omega) (by omega);rw [hw]
   cases he : inB (dot gx E 3) (-g) g
   ·go_wp2
    go_ret
    exact ⟨ret_bool (by rw [H2'.out he]), hb2⟩
   go_wp2
   go_roundw
   case rel => exact ⟨j + 1, by omega, by go_num, hb2, q3, H1'.out he⟩
   case measure => simp [intOf]; omega
  go_wp2
  go_ret
  exact ⟨ret_bool (by rw [keepsB_end (by rw [HN.out]; omega) HA.out]), hb⟩
theorem copies_pair (hl : ts.length = ss.length) (h : copiesIS ss ts) : ts.map (fun p => (p.n, p.x)) = ss.map (fun p => (p.n, p.x)) := by
 apply List.ext_getElem?
 intro i
 by_cases hi : i < ts.length
 ·have h0 := h i hi;have h1 := h0.1;have h2 := h0.2;rw [qA hi, qA (by omega)] at h1 h2;simp only [Option.getD_some] at h1 h2;rw [List.getElem?_map, List.getElem?_map, qA hi, qA (by omega)];simp [h1, h2]
 rw [List.getElem?_eq_none (by simp; omega), List.getElem?_eq_none (by simp; omega)]
theorem partsB_copy (hl : ts.length = ss.length) (h : copiesIS ss ts) : partsB ts = partsB ss := by
 have e : ∀ l : List IV, partsB l = (l.map (fun p => (p.n, p.x))).all fun q => okN 3 10000000 q.1 q.2 := fun l => by rw [List.all_map]; rfl
 rw [e, e, copies_pair hl h]
theorem keepsB_copy {g : Int} (hl : ts.length = ss.length) (h : copiesIS ss ts) : keepsB g E ts = keepsB g E ss := by
 have e : ∀ l : List IV, keepsB g E l = (l.map (fun p => (p.n, p.x))).all fun q => inB (dot q.2 E 3) (-g) g := fun l => by rw [List.all_map]; rfl
 rw [e, e, copies_pair hl h]
theorem viewB_copy {s : Int} (hl : ts.length = ss.length) (h : copiesIS ss ts) : viewB n m C D ts s k E = viewB n m C D ss s k E := by
 rw [viewB, viewB, partsB_copy hl h]
theorem keepB_copy {s : Int} (hl : ts.length = ss.length) (h : copiesIS ss ts) : keepB n m C D ts s k E = keepB n m C D ss s k E := by
 rw [keepB, keepB, viewB_copy hl h, keepsB_copy hl h]
theorem Cel.two {v0 v1 : Value} {t : TypeId} (h : Cel w B [v0, v1] t) : w.cell? ⟨B, 0, none⟩ = some v0 /\ w.cell? ⟨B, 1, none⟩ = some v1 := ⟨h.cell 0, h.cell 1⟩
theorem Cel.three {v0 v1 v2 : Value} {t : TypeId} (h : Cel w B [v0, v1, v2] t) : w.cell? ⟨B, 0, none⟩ = some v0 /\ w.cell? ⟨B, 1, none⟩ = some v1 /\ w.cell? ⟨B, 2, none⟩ = some v2 := ⟨h.cell 0, h.cell 1, h.cell 2⟩
def three (cs : List (List Value)) : Prop := ∀ c ∈ cs, c.length = 3
theorem flat_get : ∀ (cs : List (List Value)) (k r : Nat), three cs -> r < 3 -> cs.flatten[k * 3 + r]? = (cs[k]?.getD [])[r]?
 | [], k, r, _, _ => by simp
 | c :: cs, 0, r, h, hr => by
  have h1 := h c (by simp);simp only [List.flatten_cons, Nat.zero_mul, Nat.zero_add, qB, Option.getD_some];rw [List.getElem?_append_left (by omega)]
 | c :: cs, k + 1, r, h, hr => by
  have h1 := h c (by simp);have h2 := flat_get cs k r (fun d hd => h d (by simp [hd])) hr;simp only [List.flatten_cons, qC];rw [List.getElem?_append_right (by omega), h1, <- h2]
  congr 1
  omega
theorem flat_set : ∀ (cs : List (List Value)) (k : Nat) (x y z : Value), three cs -> k < cs.length -> ((cs.flatten.set (k * 3) x).set (k * 3 + 1) y).set (k * 3 + 2) z = (cs.set k [x, y, z]).flatten
 | [], k, x, y, z, _, hk => by simp at hk
 | c :: cs, 0, x, y, z, h, _ => by
  have h1 := h c (by simp)
  match c, h1 with
  | [u, v, t], _ => simp
 | c :: cs, k + 1, x, y, z, h, hk => by
  have h1 := h c (by simp);have h2 := flat_set cs k x y z (fun d hd => h d (by simp [hd])) (by simpa using hk);simp only [List.flatten_cons, List.set_cons_succ];rw [<- h2];rw [List.set_append_right _ _ (by omega), List.set_append_right _ _ (by omega), List.set_append_right _ _ (by omega), h1];have a1 : (k + 1) * 3 - 3 = k * 3 := by omega
  have a2 : (k + 1) * 3 + 1 - 3 = k * 3 + 1 := by omega
  have a3 : (k + 1) * 3 + 2 - 3 = k * 3 + 2 := by omega
  rw [a1, a2, a3]
structure MF (W : World) (B lo : Nat) (cs : List (List Value)) (gs : List FV) (p q : Nat -> Nat) : Prop where
 c : W.heap[B]? = some (.cells cs.flatten.toArray 106 (0, 0))
 t : three cs
 l : ∀ i, i < gs.length -> cs[i]? = some (gs[i]?.getD noFV).cs /\ (gs[i]?.getD noFV).a = some ⟨p i, 0, none⟩ /\ (gs[i]?.getD noFV).c = some ⟨q i, 0, none⟩ /\ Blk W (p i) (gs[i]?.getD noFV).C /\ Blk W (q i) (gs[i]?.getD noFV).D /\ (gs[i]?.getD noFV).C.length = (gs[i]?.getD noFV).n /\ (gs[i]?.getD noFV).D.length = (gs[i]?.getD noFV).m /\ (gs[i]?.getD noFV).n <= 1048576 /\ (gs[i]?.getD noFV).m <= 1048576 /\ lo <= p i /\ p i < q i /\ q i < W.heap.size /\ ∀ j, j < i -> q j < p i
 b : B < lo
 s : lo <= W.heap.size
theorem MF.below {W' : World} (h : MF W B lo cs gs p q) (b : Below W.heap.size W W') : MF W' B lo cs gs p q := by
 refine ⟨by rw [b.block B (lt_of_block h.c)]; exact h.c, h.t, fun i hi => ?_, h.b, Nat.le_trans h.s b.size⟩;obtain ⟨a1, a2, a3, a4, a5, a6, a7, a8, a9, a10, a11, a12, a13⟩ := h.l i hi;have := b.size
 exact ⟨a1, a2, a3, a4.below b, a5.below b, a6, a7, a8, a9, a10, a11, by omega, a13⟩
theorem MF.cell (h : MF W B lo cs gs p q) (k r : Nat) (hr : r < 3) : W.cell? ⟨B, k * 3 + r, none⟩ = (cs[k]?.getD [])[r]? := by
 have hc := h.c;rw [<- flat_get cs k r h.t hr];simp [World.cell?, hc]
theorem MF.free (h : MF W B lo cs gs p q) (i : Nat) : W.frozen? ⟨B, i, none⟩ = false := by
 have hc := h.c;simp [World.frozen?, hc]
theorem MF.g (h : MF W B lo cs gs p q) : FormsG W (some ⟨B, 0, none⟩) gs := by
 intro i hi;obtain ⟨a1, a2, a3, a4, a5, a6, a7, a8, a9, _⟩ := h.l i hi;have c0 := h.cell i 0 (by omega);have c1 := h.cell i 1 (by omega);have c2 := h.cell i 2 (by omega);rw [a1] at c0 c1 c2;refine ⟨B, 0, rfl, by rw [Nat.zero_add]; exact c0, by rw [Nat.zero_add]; exact c1, by rw [Nat.zero_add]; exact c2, ⟨?_, ?_, a8, a9⟩⟩
 ·rw [a2, <- a6]; exact a4.ints
 rw [a3, <- a7]; exact a5.ints
theorem MF.step {W1 : World} {P Q : Nat} (h : MF W B lo cs gs p q) (hk : gs.length = k) (hkN : k < cs.length) (b : Below W.heap.size W W1) (hP : W.heap.size <= P) (hPQ : P < Q) (k1 : Blk W1 P C) (k2 : Blk W1 Q D) (hC : C.length = n) (hD : D.length = m) (hn : n <= 1048576) (hm : m <= 1048576) :
  MF (((W1.setCell ⟨B, k * 3, none⟩ (.slice (some ⟨P, 0, none⟩) n n)).setCell ⟨B, k * 3 + 1, none⟩ (.slice (some ⟨Q, 0, none⟩) m m)).setCell ⟨B, k * 3 + 2, none⟩ (.int .i64 K)) B lo (cs.set k [.slice (some ⟨P, 0, none⟩) n n, .slice (some ⟨Q, 0, none⟩) m m, .int .i64 K]) (gs ++ [⟨some ⟨P, 0, none⟩, n, n, some ⟨Q, 0, none⟩, m, m, K, C, D⟩]) (fun i => if i = k then P else p i) (fun i => if i = k then Q else q i) := by
 have h1 := h.below b;have hB := lt_of_block h.c;have hlo := h.b;have hQl := k2.lt
 have hs : ∀ (x : Nat) (o : Option Obj), x ≠ B -> W1.heap[x]? = o -> (((W1.setCell ⟨B, k * 3, none⟩ (.slice (some ⟨P, 0, none⟩) n n)).setCell ⟨B, k * 3 + 1, none⟩ (.slice (some ⟨Q, 0, none⟩) m m)).setCell ⟨B, k * 3 + 2, none⟩ (.int .i64 K)).heap[x]? = o := fun x o hx ho => by
  rw [Below.heap_setCell _ _ _ _ hx, Below.heap_setCell _ _ _ _ hx, Below.heap_setCell _ _ _ _ hx]; exact ho
 refine ⟨?_, ?_, fun i hi => ?_, h.b, by rw [size_setCell, size_setCell, size_setCell]; exact h1.s⟩
 ·have e1 := heap_setCell_same W1 B (k * 3) _ _ (.slice (some ⟨P, 0, none⟩) n n) h1.c;have e2 := heap_setCell_same _ B (k * 3 + 1) _ _ (.slice (some ⟨Q, 0, none⟩) m m) e1;have e3 := heap_setCell_same _ B (k * 3 + 2) _ _ (.int .i64 K) e2;rw [e3];simp only [List.setIfInBounds_toArray];rw [flat_set cs k _ _ _ h.t hkN]
 ·intro d hd
  rcases List.mem_or_eq_of_mem_set hd with h2 | h2
  ·exact h.t d h2
  rw [h2]; rfl
 rw [List.length_append, hk] at hi;simp only [List.length_cons, List.length_nil] at hi
 by_cases e : i = k
 ·subst e;rw [List.getElem?_append_right (by omega), hk];simp only [Nat.sub_self, qB, Option.getD_some, if_true];refine ⟨by rw [List.getElem?_set_self hkN]; rfl, trivial, trivial, hs P _ (by omega) k1, hs Q _ (by omega) k2, hC, hD, hn, hm, by have := h.s; omega, hPQ, by rw [size_setCell, size_setCell, size_setCell]; exact hQl, fun j hj => ?_⟩;rw [if_neg (by omega)];obtain ⟨_, _, _, _, _, _, _, _, _, _, _, a12, _⟩ := h.l j (by omega)
  omega
 rw [List.getElem?_append_left (by omega)];obtain ⟨a1, a2, a3, a4, a5, a6, a7, a8, a9, a10, a11, a12, a13⟩ := h1.l i (by omega);simp only [if_neg e];refine ⟨by rw [List.getElem?_set_ne (by omega)]; exact a1, a2, a3, hs _ _ (by omega) a4, hs _ _ (by omega) a5, a6, a7, a8, a9, a10, a11, by rw [size_setCell, size_setCell, size_setCell]; exact a12, fun j hj => ?_⟩;rw [if_neg (by omega)]
 exact a13 j hj
theorem Tryz.infoForm : (Tryz.prog.info? 106).map (fun i => (i.zero, i.size, i.bytes)) = some (some (.agg #[.slice none 0 0, .slice none 0 0, .int .i64 0]), 3, 56) := by kernel_rfl
def intoC (C : List Int) (fs : List FV) : Nat -> List Int
 | 0 => [0, 0, 0]
 | k + 1 => lin (intoC C fs k) (fs[k]?.getD noFV).C (C[k]?.getD 0)
def intoD (C D : List Int) (fs : List FV) : Nat -> List Int
 | 0 => D
 | k + 1 => lin (intoD C D fs k) (fs[k]?.getD noFV).D (C[k]?.getD 0)
def intoK (C : List Int) (K : Int) (fs : List FV) : Nat -> Int
 | 0 => K
 | k + 1 => intoK C K fs k + C[k]?.getD 0 * (fs[k]?.getD noFV).K
theorem lin_mul (xs ys : List Int) (n : Int) : List.zipWith (· + ·) xs (mulL n ys) = lin xs ys n := by
 simp [lin, mulL, List.zipWith_map_right]
def terms (C D : List Int) (K : Int) (fs : List FV) : List Frm := ([0, 0, 0], D, K) :: (List.range 3).map fun i => (mulL (C[i]?.getD 0) (fs[i]?.getD noFV).C, mulL (C[i]?.getD 0) (fs[i]?.getD noFV).D, C[i]?.getD 0 * (fs[i]?.getD noFV).K)
theorem zip0 (h : xs.length = 3) : List.zipWith (· + ·) [0, 0, 0] xs = xs := by
 match xs, h with
 | [x, y, z], _ => simp
theorem zip02 (h : xs.length = 2) : List.zipWith (· + ·) [0, 0] xs = xs := by
 match xs, h with
 | [x, y], _ => simp
theorem terms_sum {fs : List FV} (hD : D.length = 2) :
  sumC (terms C D K fs) 4 = intoC C fs 3 /\ sumD (terms C D K fs) 4 = intoD C D fs 3 /\ sumK (terms C D K fs) 4 = intoK C K fs 3 := by
 have t0 : (terms C D K fs)[0]? = some ([0, 0, 0], D, K) := rfl;have t1 : (terms C D K fs)[1]? = some (mulL (C[0]?.getD 0) (fs[0]?.getD noFV).C, mulL (C[0]?.getD 0) (fs[0]?.getD noFV).D, C[0]?.getD 0 * (fs[0]?.getD noFV).K) := rfl;have t2 : (terms C D K fs)[2]? = some (mulL (C[1]?.getD 0) (fs[1]?.getD noFV).C, mulL (C[1]?.getD 0) (fs[1]?.getD noFV).D, C[1]?.getD 0 * (fs[1]?.getD noFV).K) := rfl;have t3 : (terms C D K fs)[3]? = some (mulL (C[2]?.getD 0) (fs[2]?.getD noFV).C, mulL (C[2]?.getD 0) (fs[2]?.getD noFV).D, C[2]?.getD 0 * (fs[2]?.getD noFV).K) := rfl;refine ⟨?_, ?_, ?_⟩
 ·simp only [sumC, t0, t1, t2, t3, Option.getD_some, intoC];rw [zip0 (xs := [0, 0, 0]) rfl, lin_mul, lin_mul, lin_mul]
 ·simp only [sumD, t0, t1, t2, t3, Option.getD_some, intoD];rw [zip02 hD, lin_mul, lin_mul, lin_mul]
 simp only [sumK, t0, t1, t2, t3, Option.getD_some, intoK]
 omega
theorem without_any {a : Option Addr} {cap : Nat} {c : Option Addr} {cap' : Nat} :
  Calls Tryz.prog 182 #[formV a n cap c m cap' K] w fun e w' => ∃ P, e = .returned (formV (some ⟨P, 0, none⟩) 3 3 c m cap' K) /\ Below w.heap.size w w' /\ w.heap.size <= P /\ Blk w' P [0, 0, 0] := by
 have hm3 := make3
 go_enter Tryz.func182, Tryz.ntmps182
 go_wp2_with fail
 go_region
 go_wp2
 exact bodyPost_ret (v := formV (some ⟨w.heap.size + 1 + 1, 0, none⟩) 3 3 c m cap' K) (by simp [results, Tryz.results182, go_sem]) rfl ⟨_, rfl, (((bal).alloc (by simp) _).alloc (by simp; omega) _).drew, by omega, three2 w⟩
theorem lin_bnd {M P n : Int} {ys : List Int} (h1 : xs.length = k) (h2 : ys.length = k) (hx : bnd M xs) (hy : bndT P n ys) (h0 : 0 <= M + P) : bnd (M + P) (lin xs ys n) := by
 intro i
 by_cases hi : i < k
 ·rw [lin_get h1 h2 hi];have := hx i;have := hy i
  omega
 have : (lin xs ys n)[i]? = none := List.getElem?_eq_none (by rw [lin_len h1 h2]; omega);rw [this];simp only [Option.getD_none]
 omega
theorem mul_bnd {x y : Int} (a1 : -10000000 <= x) (a2 : x <= 10000000) (h1 : -10000000 <= y) (h2 : y <= 10000000) : -100000000000000 <= x * y /\ x * y <= 100000000000000 := by
 have hx' : x.natAbs <= 10000000 := by omega
 have hy' : y.natAbs <= 10000000 := by omega
 have hm : (x * y).natAbs <= 10000000 * 10000000 := by rw [Int.natAbs_mul]; exact Nat.mul_le_mul hx' hy'
 omega
theorem mulT_bnd {k : Int} (h : bnd 10000000 C) (h1 : -10000000 <= k) (h2 : k <= 10000000) : bndT 100000000000000 k C := by
 intro i;have := h i
 exact mul_bnd h1 h2 this.1 this.2
structure OkF (g : FV) : Prop where
 n : g.n = 3
 m : g.m = 2
 lC : g.C.length = 3
 lD : g.D.length = 2
 bC : bnd 10000000 g.C
 bD : bnd 10000000 g.D
 k1 : -10000000 <= g.K
 k2 : g.K <= 10000000
theorem OkF.of {g : FV} (h : g.At w) (ok : g.ok = true) : OkF g := by
 obtain ⟨n3, m2, bC, bD, bK1, bK2⟩ := formB_elim ok
 exact ⟨n3, m2, by have := h.C.1; omega, by have := h.D.1; omega, bC, bD, bK1, bK2⟩
structure IntoF (C D : List Int) (K : Int) (fs : List FV) (k : Nat) : Prop where
 lC : (intoC C fs k).length = 3
 lD : (intoD C D fs k).length = 2
 bC : bnd (k * 100000000000000) (intoC C fs k)
 bD : bnd (10000000 + k * 100000000000000) (intoD C D fs k)
 k1 : -(10000000 + k * 100000000000000) <= intoK C K fs k
 k2 : intoK C K fs k <= 10000000 + k * 100000000000000
theorem IntoF.of {fs : List FV} (hD : D.length = 2) (bC : bnd 10000000 C) (bD : bnd 10000000 D) (k1 : -10000000 <= K) (k2 : K <= 10000000) (ho : ∀ i, i < 3 -> OkF (fs[i]?.getD noFV)) : ∀ k : Nat, k <= 3 -> IntoF C D K fs k
 | 0, _ => ⟨rfl, hD, by simpa [intoC] using bnd_zeros 3, by simpa [intoD] using bD, by simpa [intoK] using k1, by simpa [intoK] using k2⟩
 | k + 1, hk => by
  have ih := IntoF.of hD bC bD k1 k2 ho k (by omega);have g := ho k (by omega);have bc := bC k;have e : ((k + 1 : Nat) : Int) = k + 1 := by omega
  have tC := mulT_bnd g.bC bc.1 bc.2;have tD := mulT_bnd g.bD bc.1 bc.2;have tK := mul_bnd bc.1 bc.2 g.k1 g.k2;have i1 := ih.k1;have i2 := ih.k2;refine ⟨lin_len ih.lC g.lC, lin_len ih.lD g.lD, ?_, ?_, ?_, ?_⟩
  ·have := lin_bnd ih.lC g.lC ih.bC tC (by omega);intro i;have := this i;simp only [intoC]
   omega
  ·have := lin_bnd ih.lD g.lD ih.bD tD (by omega);intro i;have := this i;simp only [intoD]
   omega
  ·simp only [intoK]; omega
  simp only [intoK]; omega
def intoOk (n m : Nat) (C D : List Int) (K : Int) (N : Nat) (fs : List FV) : Bool := formB n m C D K && decide (N = 3) && fs.all FV.ok && formB 3 2 (intoC C fs 3) (intoD C D fs 3) (intoK C K fs 3)
structure IH (w : World) (a : Option Addr) (n cap : Nat) (c : Option Addr) (m cap' : Nat) (K : Int) (w' : World) : Prop where
 p : Cel w' w.heap.size [.slice a n cap, .slice c m cap', .int .i64 K] 106
 r : Cel w' (w.heap.size + 1) [.slice none 0 0, .slice none 0 0, .int .i64 0] 106
 b : Below w.heap.size w w'
section
variable {w W w3 : World} {a c : Option Addr} {n cap m cap' : Nat} {K : Int}
theorem IH.below (h : IH w a n cap c m cap' K W) (b : Below W.heap.size W w3) : IH w a n cap c m cap' K w3 := ⟨h.p.below b, h.r.below b, h.b.trans (b.mono h.b.size)⟩
theorem IH.drew (h : IH w a n cap c m cap' K W) : IH w a n cap c m cap' K W.drew := ⟨h.p, h.r, h.b.drew⟩
theorem IH.alloc (h : IH w a n cap c m cap' K W) (o : Obj) : IH w a n cap c m cap' K (W.alloc o) := h.below (bal)
theorem IH.set (h : IH w a n cap c m cap' K W) {X : Nat} (hX : w.heap.size + 1 < X) (i : Nat) (v : Value) : IH w a n cap c m cap' K (W.setCell ⟨X, i, none⟩ v) :=
 ⟨h.p.setOther (by omega) i v, h.r.setOther (by omega) i v, h.b.setCell (by show w.heap.size <= X; omega) v⟩
theorem IH.new : IH w a n cap c m cap' K ((w.alloc (Obj.cells #[Value.slice a n cap, Value.slice c m cap', Value.int IntKind.i64 K] 106)).alloc (Obj.cells #[Value.slice none 0 0, Value.slice none 0 0, Value.int IntKind.i64 0] 106)) :=
 ⟨(Cel.new w _ _).alloc _, by have := Cel.new (w.alloc (Obj.cells #[Value.slice a n cap, Value.slice c m cap', Value.int IntKind.i64 K] 106)) [.slice none 0 0, .slice none 0 0, .int .i64 0] 106; rw [World.size_alloc] at this; exact this, (bal).alloc (by simp) _⟩
theorem IH.cells (h : IH w a n cap c m cap' K W) :
  W.cell? ⟨w.heap.size, 0, none⟩ = some (.slice a n cap) /\ W.cell? ⟨w.heap.size, 1, none⟩ = some (.slice c m cap') /\ W.cell? ⟨w.heap.size, 2, none⟩ = some (.int .i64 K) := ⟨h.p.cell 0, h.p.cell 1, h.p.cell 2⟩
theorem IH.room (h : IH w a n cap c m cap' K W) :
  W.cell? ⟨w.heap.size + 1, 0, none⟩ = some (.slice none 0 0) /\ W.cell? ⟨w.heap.size + 1, 1, none⟩ = some (.slice none 0 0) /\ W.cell? ⟨w.heap.size + 1, 2, none⟩ = some (.int .i64 0) /\ W.frozen? ⟨w.heap.size + 1, 0, none⟩ = false /\ W.frozen? ⟨w.heap.size + 1, 1, none⟩ = false /\ W.frozen? ⟨w.heap.size + 1, 2, none⟩ = false := ⟨h.r.cell 0, h.r.cell 1, h.r.cell 2, h.r.free 0, h.r.free 1, h.r.free 2⟩
theorem IH.none (h : IH w a n cap c m cap' K W) : Res w (((W.setCell ⟨w.heap.size + 1, 0, Option.none⟩ (.slice Option.none 0 0)).setCell ⟨w.heap.size + 1, 1, Option.none⟩ (.slice Option.none 0 0)).setCell ⟨w.heap.size + 1, 2, Option.none⟩ (.int .i64 0)) (.returned (formV Option.none 0 0 Option.none 0 0 0)) [] [] 0 :=
 Res.none rfl (((h.b.setCell (by simp only []; omega) _).setCell (by simp only []; omega) _).setCell (by simp only []; omega) _)
end
theorem sinto_no (a : Option Addr) (n cap : Nat) (c : Option Addr) (m cap' : Nat) (K : Int) (C D : List Int) (ad : Option Addr) (N capN : Nat) (fs : List FV) (w : World) (hC : Ints w a n C) (hD : Ints w c m D) (hn : n <= 1048576) (hm : m <= 1048576)
  (hN : fs.length = N) (hF : FormsG w ad fs) (hN1 : N <= 1048576) (hno : (formB n m C D K && decide (N = 3) && fs.all FV.ok) = false) :
  Calls Tryz.prog 130 #[formV a n cap c m cap' K, .slice ad N capN] w fun e w' => Res w w' e [] [] 0 := by
 have n0 := IH.new (w := w) (a := a) (n := n) (cap := cap) (c := c) (m := m) (cap' := cap') (K := K);have HN : Hid (fs.length = N) := hN;clear hN
 cases h1 : formB n m C D K
 ·clear hno
  go_enter Tryz.func130, Tryz.ntmps130
  go_wp2_with fail
  refine (sok_any C D (hC.below n0.b) (hD.below n0.b) hn hm).mono ?_;rintro e w1 ⟨rfl, b1⟩;have H := n0.below b1;obtain ⟨r0, r1, r2, r3, r4, r5⟩ := H.room
  go_wp2
  exact bodyPost_ret (v := formV none 0 0 none 0 0 0) (by simp [results, Tryz.results130, go_sem, r0, r1, r2]) rfl H.none
 by_cases h2 : (N : Int) = 3
 ·obtain rfl : N = 3 := by omega
  have hno' : fs.all FV.ok = false := by simpa [h1] using hno
  clear hno h2;have f0 := hF 0 (by rw [HN.out]; omega);have f1 := hF 1 (by rw [HN.out]; omega);have f2 := hF 2 (by rw [HN.out]; omega);obtain ⟨b, off, rfl, p0, p1, p2, A0⟩ := f0;obtain ⟨b', off', hb', q0, q1, q2, A1⟩ := f1;simp only [Option.some.injEq, Addr.mk.injEq, and_true] at hb';obtain ⟨rfl, rfl⟩ := hb';obtain ⟨b', off', hb', r0, r1, r2, A2⟩ := f2;simp only [Option.some.injEq, Addr.mk.injEq, and_true] at hb';obtain ⟨rfl, rfl⟩ := hb'
  have hor : (fs[0]?.getD noFV).ok = false \/ (fs[1]?.getD noFV).ok = false \/ (fs[2]?.getD noFV).ok = false := by
   match fs, HN.out with
   | [x, y, z], _ =>
    simp only [List.all_cons, List.all_nil, Bool.and_true] at hno';simp only [qB, qC, Option.getD_some]
    revert hno'
    cases x.ok <;> cases y.ok <;> cases z.ok <;> simp
  generalize fs[0]?.getD noFV = x at *;generalize fs[1]?.getD noFV = y at *;generalize fs[2]?.getD noFV = z at *;obtain ⟨xa, xn, xcap, xc, xm, xcap', xK, xC, xD⟩ := x;obtain ⟨ya, yn, ycap, yc, ym, ycap', yK, yC, yD⟩ := y;obtain ⟨za, zn, zcap, zc, zm, zcap', zK, zC, zD⟩ := z;obtain ⟨x1, x2, x3, x4⟩ := A0;obtain ⟨y1, y2, y3, y4⟩ := A1;obtain ⟨z1, z2, z3, z4⟩ := A2;simp only [FV.ok] at p0 p1 p2 q0 q1 q2 r0 r1 r2 hor x1 x2 x3 x4 y1 y2 y3 y4 z1 z2 z3 z4;have lb := block_lt p0;have nb := n0.b;clear hF hno';rw [Nat.zero_mul, Nat.add_zero] at p0 p1 p2;rw [Nat.one_mul] at q0 q1 q2;have e6 : off + 2 * 3 = off + 6 := rfl;rw [e6] at r0 r1 r2
  cases hx : formB xn xm xC xD xK
  ·go_enter Tryz.func130, Tryz.ntmps130
   go_wp2_with fail
   refine (sok_any C D (hC.below n0.b) (hD.below n0.b) hn hm).mono ?_;rintro e w1 ⟨rfl, b1⟩;have H1 := n0.below b1;have s0 := (H1.b.cell (p := ⟨b, off, none⟩) lb).trans p0;have s1 := (H1.b.cell (p := ⟨b, off + 1, none⟩) lb).trans p1;have s2 := (H1.b.cell (p := ⟨b, off + 2, none⟩) lb).trans p2
   go_wp2_with fail
   refine (sok_any xC xD (x1.below H1.b) (x2.below H1.b) x3 x4).mono ?_;rintro e w2 ⟨rfl, b2⟩;have H2 := H1.below b2;obtain ⟨g0, g1, g2, g3, g4, g5⟩ := H2.room
   go_wp2
   exact bodyPost_ret (v := formV none 0 0 none 0 0 0) (by simp [results, Tryz.results130, go_sem, g0, g1, g2]) rfl H2.none
  cases hy : formB yn ym yC yD yK
  ·go_enter Tryz.func130, Tryz.ntmps130
   go_wp2_with fail
   refine (sok_any C D (hC.below n0.b) (hD.below n0.b) hn hm).mono ?_;rintro e w1 ⟨rfl, b1⟩;have H1 := n0.below b1;have s0 := (H1.b.cell (p := ⟨b, off, none⟩) lb).trans p0;have s1 := (H1.b.cell (p := ⟨b, off + 1, none⟩) lb).trans p1;have s2 := (H1.b.cell (p := ⟨b, off + 2, none⟩) lb).trans p2
   go_wp2_with fail
   refine (sok_any xC xD (x1.below H1.b) (x2.below H1.b) x3 x4).mono ?_;rintro e w2 ⟨rfl, b2⟩;have H2 := H1.below b2;have t0 := (H2.b.cell (p := ⟨b, off + 3, none⟩) lb).trans q0;have t1 := (H2.b.cell (p := ⟨b, off + 3 + 1, none⟩) lb).trans q1;have t2 := (H2.b.cell (p := ⟨b, off + 3 + 2, none⟩) lb).trans q2
   go_wp2_with fail
   refine (sok_any yC yD (y1.below H2.b) (y2.below H2.b) y3 y4).mono ?_;rintro e w3 ⟨rfl, b3⟩;have H3 := H2.below b3;obtain ⟨g0, g1, g2, g3, g4, g5⟩ := H3.room
   go_wp2
   exact bodyPost_ret (v := formV none 0 0 none 0 0 0) (by simp [results, Tryz.results130, go_sem, g0, g1, g2]) rfl H3.none
  have hz : formB zn zm zC zD zK = false := by simpa [hx, hy] using hor
  go_enter Tryz.func130, Tryz.ntmps130
  go_wp2_with fail
  refine (sok_any C D (hC.below n0.b) (hD.below n0.b) hn hm).mono ?_;rintro e w1 ⟨rfl, b1⟩;have H1 := n0.below b1;have s0 := (H1.b.cell (p := ⟨b, off, none⟩) lb).trans p0;have s1 := (H1.b.cell (p := ⟨b, off + 1, none⟩) lb).trans p1;have s2 := (H1.b.cell (p := ⟨b, off + 2, none⟩) lb).trans p2
  go_wp2_with fail
  refine (sok_any xC xD (x1.below H1.b) (x2.below H1.b) x3 x4).mono ?_;rintro e w2 ⟨rfl, b2⟩;have H2 := H1.below b2;have t0 := (H2.b.cell (p := ⟨b, off + 3, none⟩) lb).trans q0;have t1 := (H2.b.cell (p := ⟨b, off + 3 + 1, none⟩) lb).trans q1;have t2 := (H2.b.cell (p := ⟨b, off + 3 + 2, none⟩) lb).trans q2
  go_wp2_with fail
  refine (sok_any yC yD (y1.below H2.b) (y2.below H2.b) y3 y4).mono ?_;rintro e w3 ⟨rfl, b3⟩;have H3 := H2.below b3;have u0 := (H3.b.cell (p := ⟨b, off + 6, none⟩) lb).trans r0;have u1 := (H3.b.cell (p := ⟨b, off + 6 + 1, none⟩) lb).trans r1;have u2 := (H3.b.cell (p := ⟨b, off + 6 + 2, none⟩) lb).trans r2
  go_wp2_with fail
  refine (sok_any zC zD (z1.below H3.b) (z2.below H3.b) z3 z4).mono ?_;rintro e w4 ⟨rfl, b4⟩;have H4 := H3.below b4;obtain ⟨g0, g1, g2, g3, g4, g5⟩ := H4.room
  go_wp2
  exact bodyPost_ret (v := formV none 0 0 none 0 0 0) (by simp [results, Tryz.results130, go_sem, g0, g1, g2]) rfl H4.none
 clear hno;have h2' : ((N : Int) != 3) = true := by simpa using h2
 go_enter Tryz.func130, Tryz.ntmps130
 go_wp2_with fail
 refine (sok_any C D (hC.below n0.b) (hD.below n0.b) hn hm).mono ?_;rintro e w1 ⟨rfl, b1⟩;have H := n0.below b1;obtain ⟨r0, r1, r2, r3, r4, r5⟩ := H.room
 go_wp2
 exact bodyPost_ret (v := formV none 0 0 none 0 0 0) (by simp [results, Tryz.results130, go_sem, r0, r1, r2]) rfl H.none
end Go.Proofs.YtfmpcihghlnlnaaGreatDoor
