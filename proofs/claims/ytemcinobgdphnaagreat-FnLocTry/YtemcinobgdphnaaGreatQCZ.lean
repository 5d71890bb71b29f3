/-
  Lemmas that the claim's last text rests on.
-/
import Derived.Test.YtemcinobgdphnaaGreatQCY
namespace Go.Proofs.YtemcinobgdphnaaGreat
open Go.RowKit Go.Deep
open List renaming getElem?_eq_getElem → qA, length_map → qC
open Nat renaming le_refl → qB
set_option linter.unusedVariables false
set_option maxRecDepth 100000
set_option maxHeartbeats 25600000
theorem atX_eqL {V O U : List Int} {f : Frm} (h : ∀ v, v < 3 -> hasP f v = true -> O[v]?.getD 0 = V[v]?.getD 0) : atX O U f = atX V U f := by
 have H : ∀ v, v < 3 -> f.1[v]?.getD 0 * O[v]?.getD 0 = f.1[v]?.getD 0 * V[v]?.getD 0 := fun v hv => by
  by_cases hp : hasP f v = true
  ·rw [h v hv hp]
  have : f.1[v]?.getD 0 = 0 := by simpa [hasP] using hp
  rw [this]; simp
 simp only [atX, atV, dot, H 0 (by omega), H 1 (by omega), H 2 (by omega)]
theorem way_isL {V U : List Int} {ls : List LV} {r : RowM} (hV : V.length = 3) (hall : ls.all LV.ok = true) (hD : ∀ k, k < ls.length -> (ls[k]?.getD noLV).f.D.length = (ls[k]?.getD noLV).f.m) (hm : r ∈ rowsL ls) (hf : fitG V U r = true) : Fits V U (runL U ls V) r := by
 obtain ⟨r0, h0, hF⟩ := runL_way (V := V) (U := U) hV hall hD;have : r ∈ (rowsL ls).filter (fitG V U) := List.mem_filter.2 ⟨hm, hf⟩;rw [h0] at this;simp only [List.mem_singleton] at this;subst this
 exact hF
theorem dO_bndO {FC G : List Int} {es : List IV} {s : Nat} (hG : ∀ i : Nat, i < G.length -> 0 <= G[i]?.getD 0 /\ G[i]?.getD 0 <= 50) : ∀ k, k <= G.length -> k <= 3 -> (∀ i, i < k -> i ≠ s -> -(G[i]?.getD 0) <= dot FC (es[i]?.getD noI).x 3 /\ dot FC (es[i]?.getD noI).x 3 <= G[i]?.getD 0) -> -(others G (s : Int) k) <= dO FC es (s : Int) k /\ dO FC es (s : Int) k <= others G (s : Int) k
 | 0, _, _, _ => by simp [dO, others]
 | k + 1, hk, h3, h => by
  have ih := dO_bndO (s := s) hG k (by omega) (by omega) (fun i hi => h i (by omega));have ob := others_bnd (s := (s : Int)) hG k (by omega) (by omega);have d := hG k (by omega);rw [dO, others]
  split
  ·exact ih
  rename_i hks
  have hh := h k (by omega) (by omega);rw [IntWalk.wrap64_in _ ⟨by omega, by omega⟩]
  omega
theorem bnd_core {m : Nat} {C D : List Int} {P es : List IV} {s : Nat} {E FC FD : List Int} {FK : Int} {U : List Int} {lo hi : Int} (hC : C.length = 3) (hF : FC.length = 3) (bF : bnd 10000000 FC) (hg : ∀ i : Nat, i < D.length -> 0 <= D[i]?.getD 0 /\ D[i]?.getD 0 <= 50) (hm : D.length = m) (m3 : m <= 3) (hs : s < m)
  (he : ∀ i, i < m -> (es[i]?.getD noI).x.length = 3) (hsE : (es[s]?.getD noI).x = E) (hk : ∀ i, i < m -> i ≠ s -> keepsB (D[i]?.getD 0) (es[i]?.getD noI).x P = true)
  (h : bnds m C D P (s : Int) E FC FD FK U = (lo, hi, true)) : lo <= atV FC FD FK (sumT C es m) U /\ atV FC FD FK (sumT C es m) U <= hi := by
 have hE : E.length = 3 := by rw [<- hsE]; exact he s hs
 have hd := dot_sumT (FC := FC) hC hsE m he;rw [if_pos hs] at hd;have hz := dot_zip (FC := FC) hC hE
 have key : atV FC FD FK (sumT C es m) U = atV FC FD FK (List.zipWith (· + ·) C E) U + dO FC es (s : Int) m := by
  unfold atV;rw [hd, hz]
  omega
 unfold bnds at h
 split at h
 ·rename_i h0
  simp only [Prod.mk.injEq] at h;rw [zero_part hF bF] at h0;have := dO_zero (es := es) (s := (s : Int)) (zero_dot h0 · 3) m;rw [key]; omega
 split at h
 ·simp at h
 rename_i hh
 simp only [Prod.mk.injEq] at h;have hmem := hasT_mem _ _ hh;obtain ⟨p, hp, hpx⟩ := List.mem_map.1 hmem
 have hb2 := dO_bndO (FC := FC) (es := es) (s := s) hg m (by omega) m3 (fun i hi hne => by
  have h3 := hk i hi hne;unfold keepsB at h3;rw [List.all_eq_true] at h3;have h4 := inB_iff.1 (h3 p hp);rw [hpx] at h4
  rcases part_dot (y := (es[i]?.getD noI).x) hF bF with e | e <;> omega)
 rw [key]
 omega
theorem sure_fits {m : Nat} {C D : List Int} {P es : List IV} {s : Nat} {E U : List Int} {r : RowM} (hr : RowFit r) (hC : C.length = 3) (hg : ∀ i : Nat, i < D.length -> 0 <= D[i]?.getD 0 /\ D[i]?.getD 0 <= 50) (hm : D.length = m) (m3 : m <= 3) (hs : s < m)
  (he : ∀ i, i < m -> (es[i]?.getD noI).x.length = 3) (hsE : (es[s]?.getD noI).x = E) (hk : ∀ i, i < m -> i ≠ s -> keepsB (D[i]?.getD 0) (es[i]?.getD noI).x P = true) (h : sureR m C D P (s : Int) E U r = true) : fitG (sumT C es m) U r = true := by
 unfold fitG;rw [List.all_eq_true];intro g hgm;unfold sureR at h;have h1 := List.all_eq_true.1 h g hgm;unfold sureG at h1;simp only [Bool.and_eq_true, decide_eq_true_eq] at h1;obtain ⟨j, hj, rfl⟩ := List.mem_iff_getElem.1 hgm;have hf := hr.g j hj;rw [qA hj, Option.getD_some] at hf;generalize r.guards[j] = g at *;obtain ⟨lo, hi, b, e⟩ : ∃ lo hi b, bnds m C D P (s : Int) E g.1 g.2.1 g.2.2 U = (lo, hi, b) := ⟨_, _, _, rfl⟩
 rw [e] at h1;obtain ⟨rfl, h0⟩ := h1;have := bnd_core hC hf.c hf.bc hg hm m3 hs he hsE hk e;have h2 : 0 <= atX (sumT C es m) U g := by show 0 <= atV _ _ _ _ _; omega
 exact decide_eq_true h2
structure ActsOk (N : Nat) (ss : List L2V) : Prop where
 n : ss.length = N
 D : ∀ i, i < ss.length -> ∀ q, q < (ss[i]?.getD noL).x.length -> ((ss[i]?.getD noL).x[q]?.getD noLV).f.D.length = ((ss[i]?.getD noL).x[q]?.getD noLV).f.m
 f : catB N ss = true -> ∀ a ∈ ss, ∀ r ∈ rowsL a.x, RowFit r
theorem LSG.acts {w : World} {ad : Option Addr} {N : Nat} {ss : List L2V} (h : LSG w ad ss) (hN : ss.length = N) : ActsOk N ss := ⟨hN, fun i hi q hq => by
 obtain ⟨_, _, _, _, h2⟩ := h i hi;obtain ⟨_, _, _, _, h3⟩ := h2.2.1 q hq
 exact h3.D.1, fun hc a ha => by
 obtain ⟨i, hi, rfl⟩ := List.mem_iff_getElem.1 ha;obtain ⟨_, _, _, _, h2⟩ := h i hi;rw [qA hi, Option.getD_some] at h2;simp only [catB, Bool.and_eq_true] at hc;have hact : actB ss[i].n ss[i].x = true := List.all_eq_true.1 hc.2 _ ha
 exact rowsL_fit (by rw [h2.1]; exact (actB_parts hact).1) (actB_parts hact).2 h2.2.1⟩
theorem tryL_cases {m : Nat} {C D : List Int} {ss : List IV} {s : Int} {E U : List Int} {f : Nat -> Bool} {st : Bool} {AD TL : List Int} {x1 : Int} {x2 x3 : List Int} (h : tryL m C D ss s E U f st AD TL = (x1, x2, x3, true)) :
  (st = true /\ x1 = 2 /\ x2 = [] /\ x3 = E) \/ (st = false /\ pinned f AD = false /\ okN 3 20000 3 (List.zipWith (· + ·) E AD) = true /\ x1 = 3 /\ x2 = [] /\ x3 = E /\ (List.range 3).any (fun v => over1 (potB m C D ss s (List.zipWith (· + ·) E AD) U v)) = true) \/
  (st = false /\ pinned f AD = false /\ okN 3 20000 3 (List.zipWith (· + ·) E AD) = true /\ x1 = 1 /\ x2 = TL /\ x3 = List.zipWith (· + ·) E AD /\ (List.range 3).any (fun v => over1 (potB m C D ss s (List.zipWith (· + ·) E AD) U v)) = false /\ (List.range 3).any (fun v => may1 (potB m C D ss s (List.zipWith (· + ·) E AD) U v)) = false /\ keepsB (D[s.toNat]?.getD 0) (List.zipWith (· + ·) E AD) ss = true) := by
 unfold tryL at h
 split at h
 ·rename_i hst
  simp only [Prod.mk.injEq] at h
  exact .inl ⟨hst, h.1.symm, h.2.1.symm, h.2.2.1.symm⟩
 rename_i hst
 have hst' : st = false := by simpa using hst
 split at h
 ·simp at h
 rename_i h1
 simp only [Bool.or_eq_true, not_or, Bool.not_eq_true, Bool.not_eq_true', Bool.not_eq_false] at h1;have h11 : pinned f AD = false := by simpa using h1.1
 have h12 : okN 3 20000 3 (List.zipWith (· + ·) E AD) = true := by simpa using h1.2
 split at h
 ·rename_i h2
  simp only [Prod.mk.injEq] at h
  exact .inr (.inl ⟨hst', h11, h12, h.1.symm, h.2.1.symm, h.2.2.1.symm, h2⟩)
 rename_i h2
 split at h
 ·simp at h
 rename_i h3
 simp only [Bool.or_eq_true, not_or, Bool.not_eq_true, Bool.not_eq_true', Bool.not_eq_false] at h2 h3;simp only [Prod.mk.injEq] at h
 exact .inr (.inr ⟨hst', h11, h12, h.1.symm, h.2.1.symm, h.2.2.1.symm, by simpa using h2, by simpa using h3.1, by simpa using h3.2⟩)
theorem zip_swap {a b c : List Int} (ha : a.length = 3) (hb : b.length = 3) (hc : c.length = 3) : List.zipWith (· + ·) (List.zipWith (· + ·) a b) c = List.zipWith (· + ·) (List.zipWith (· + ·) a c) b := by
 match a, ha, b, hb, c, hc with
 | [a0, a1, a2], _, [b0, b1, b2], _, [c0, c1, c2], _ =>
  simp only [List.zipWith_cons_cons, List.zipWith_nil_right, List.cons.injEq, and_true]
  omega
theorem zip_assoc {a b c : List Int} (ha : a.length = 3) (hb : b.length = 3) (hc : c.length = 3) : List.zipWith (· + ·) a (List.zipWith (· + ·) b c) = List.zipWith (· + ·) (List.zipWith (· + ·) a b) c := by
 match a, ha, b, hb, c, hc with
 | [a0, a1, a2], _, [b0, b1, b2], _, [c0, c1, c2], _ =>
  simp only [List.zipWith_cons_cons, List.zipWith_nil_right, List.cons.injEq, and_true]
  omega
theorem zip_at {a b : List Int} (ha : a.length = 3) (hb : b.length = 3) (v : Nat) : (List.zipWith (· + ·) a b)[v]?.getD 0 = a[v]?.getD 0 + b[v]?.getD 0 := by
 match a, ha, b, hb with
 | [a0, a1, a2], _, [b0, b1, b2], _ =>
  rcases v with _ | _ | _ | v <;> simp
theorem set_self {es : List IV} {s : Nat} {y : IV} (h : s < es.length) : ((es.set s y)[s]?.getD noI) = y := by rw [List.getElem?_set_self h]; rfl
theorem set_else {es : List IV} {s i : Nat} {y : IV} (h : i ≠ s) : ((es.set s y)[i]?.getD noI) = es[i]?.getD noI := by rw [List.getElem?_set_ne (fun e => h e.symm)]
theorem sumT_set {C AD : List Int} {es : List IV} {s : Nat} {y : IV} (hC : C.length = 3) (hA : AD.length = 3) (hs : s < es.length) (hy : y.x = List.zipWith (· + ·) (es[s]?.getD noI).x AD) : ∀ k, (∀ i, i < k -> (es[i]?.getD noI).x.length = 3) -> sumT C (es.set s y) k = if s < k then List.zipWith (· + ·) (sumT C es k) AD else sumT C es k
 | 0, _ => by simp [sumT]
 | k + 1, h => by
  have ih := sumT_set hC hA hs hy k (fun i hi => h i (by omega));have hl := sumT_len hC k (fun i hi => h i (by omega));have hk := h k (by omega);rw [sumT, sumT, ih]
  by_cases e : k = s
  ·subst e;rw [if_neg (by omega), if_pos (by omega), set_self hs, hy]
   exact zip_assoc hl hk hA
  rw [set_else e]
  by_cases e2 : s < k
  ·rw [if_pos e2, if_pos (by omega)]
   exact zip_swap hl hA hk
  rw [if_neg e2, if_neg (by omega)]
theorem sumT_pin {C : List Int} {es : List IV} {v : Nat} (hC : C.length = 3) : ∀ k, (∀ i, i < k -> (es[i]?.getD noI).x.length = 3 /\ (es[i]?.getD noI).x[v]?.getD 0 = 0) -> (sumT C es k)[v]?.getD 0 = C[v]?.getD 0
 | 0, _ => rfl
 | k + 1, h => by
  rw [sumT, zip_at (sumT_len hC k (fun i hi => (h i (by omega)).1)) (h k (by omega)).1, (h k (by omega)).2, sumT_pin hC k (fun i hi => h i (by omega))]
  omega
theorem reads_pin {ss : List L2V} {a : L2V} {r : RowM} (ha : a ∈ ss) (hr : r ∈ rowsL a.x) {f : Frm} (hf : f ∈ r.adds \/ f ∈ r.tells) {v : Nat} (hp : hasP f v = true) : pinsA ss v = true := by
 unfold pinsA;rw [List.any_eq_true];refine ⟨a, ha, ?_⟩;unfold readsR;rw [List.any_eq_true];refine ⟨r, hr, ?_⟩
 rcases hf with h | h
 ·have : (r.adds.any fun f => hasP f v) = true := List.any_eq_true.2 ⟨f, h, hp⟩;simp [this]
 have : (r.tells.any fun f => hasP f v) = true := List.any_eq_true.2 ⟨f, h, hp⟩;simp [this]
theorem rowEnd_zip {V U : List Int} {r : RowM} (hV : V.length = 3) (hr : r.adds.length = 3) : rowEnd V U r = List.zipWith (· + ·) V (r.adds.map (atX V U)) := by
 unfold rowEnd
 match V, hV, r, hr with
 | [a, b, c], _, ⟨g, [d, e, f], t, q⟩, _ => rfl
theorem pots_knownL {acts : List L2V} (m : Nat) (C D : List Int) (s : Int) (U : List Int) : ∀ x v, v < 3 -> (potB m C D (ivs (catP acts)) s x U v).2.2 = true := fun x v hv => by
 have hp : partL (potX v).1 ∈ pots3 := by
  rcases v with _ | _ | _ | v
  ·decide +kernel
  ·decide +kernel
  ·decide +kernel
  omega
 have h1 : (ivs (catP acts)).map IV.x = catP acts := by simp [ivs, Function.comp_def]
 have h2 : ¬ hasI (ivs (catP acts)) (partL (potX v).1) < 0 := by rw [hasI, h1]; exact has_pos (pot_in hp)
 rw [potB, bnds, if_neg h2]
 split <;> rfl
theorem potX_fit (v : Nat) (hv : v < 3) : (potX v).1.length = 3 /\ bnd 10000000 (potX v).1 := by
 have h := pot_fitP v hv
 have hg : way0.pots[v]?.getD ([], [], 0) = potX v := by
  match v, hv with
  | 0, _ => rfl
  | 1, _ => rfl
  | 2, _ => rfl
 rw [hg] at h
 exact ⟨h.c, h.bc⟩
theorem pot_core {m : Nat} {C D : List Int} {acts : List L2V} {es : List IV} {s : Nat} {E : List Int} {U : List Int} (hC : C.length = 3) (hg : ∀ i : Nat, i < D.length -> 0 <= D[i]?.getD 0 /\ D[i]?.getD 0 <= 50) (hm : D.length = m) (m3 : m <= 3) (hs : s < m)
  (he : ∀ i, i < m -> (es[i]?.getD noI).x.length = 3) (hsE : (es[s]?.getD noI).x = E) (hk : ∀ i, i < m -> i ≠ s -> keepsB (D[i]?.getD 0) (es[i]?.getD noI).x (ivs (catP acts)) = true) (v : Nat) (hv : v < 3) :
  (potB m C D (ivs (catP acts)) (s : Int) E U v).1 <= (sumT C es m)[v]?.getD 0 /\ (sumT C es m)[v]?.getD 0 <= (potB m C D (ivs (catP acts)) (s : Int) E U v).2.1 := by
 have hb := pots_knownL (acts := acts) m C D (s : Int) U E v hv;have hf := potX_fit v hv
 have h := bnd_core (FK := (potX v).2.2) (FD := (potX v).2.1) (U := U) (lo := (potB m C D (ivs (catP acts)) (s : Int) E U v).1) (hi := (potB m C D (ivs (catP acts)) (s : Int) E U v).2.1) hC hf.1 hf.2 hg hm m3 hs he hsE hk (by
  show potB m C D (ivs (catP acts)) (s : Int) E U v = _
  rw [<- hb])
 have e : atV (potX v).1 (potX v).2.1 (potX v).2.2 (sumT C es m) U = (sumT C es m)[v]?.getD 0 := atX_pot hv;rw [e] at h
 exact h
theorem any3_false {p : Nat -> Bool} (h : (List.range 3).any p = false) (v : Nat) (hv : v < 3) : p v = false := by
 rw [List.any_eq_false] at h;simpa using h v (List.mem_range.2 hv)
theorem okN_three {x : List Int} (hl : x.length = 3) (h : ∀ v, v < 3 -> -10000 <= x[v]?.getD 0 /\ x[v]?.getD 0 <= 10000) : okN 3 10000 3 x = true := by
 match x, hl with
 | [a, b, c], _ =>
  have h0 := h 0 (by omega);have h1 := h 1 (by omega);have h2 := h 2 (by omega);simp only [List.getElem?_cons_zero, List.getElem?_cons_succ, Option.getD_some] at h0 h1 h2;simp only [okN, allB, List.all_cons, List.all_nil, Bool.and_true, Bool.and_eq_true, decide_eq_true_eq, inB_iff]
  omega
theorem loc_try {n m : Nat} {C D : List Int} {N : Nat} {ss : List L2V} {s : Nat} {k : Nat} {E : List Int} {kk : Int} {l : Nat} {U : List Int} {es : List IV} {x1 : Int} {x2 x3 : List Int} (hC : C.length = n) (hD : D.length = m) (hE : E.length = k) (hA : ActsOk N ss)
  (hes : es.length = m) (he : ∀ i, i < m -> (es[i]?.getD noI).x.length = 3) (hsE : (es[s]?.getD noI).x = E) (hk : ∀ i, i < m -> i ≠ s -> keepsB (D[i]?.getD 0) (es[i]?.getD noI).x (ivs (catP ss)) = true)
  (hp : ∀ i, i < m -> ∀ v, v < 3 -> pinsA ss v = true -> (es[i]?.getD noI).x[v]?.getD 0 = 0) (hV : okN 3 10000 3 (sumT C es m) = true) (h : locL n m C D N ss (s : Int) k E kk l U = (x1, x2, x3, true)) (y : IV) (hy : y.x = x3) :
  runCode (ss[kk.toNat]?.getD noL).n (ss[kk.toNat]?.getD noL).x 3 (sumT C es m) l U = x1 /\ runTells (ss[kk.toNat]?.getD noL).n (ss[kk.toNat]?.getD noL).x 3 (sumT C es m) l U = x2 /\ runPots (ss[kk.toNat]?.getD noL).n (ss[kk.toNat]?.getD noL).x 3 (sumT C es m) l U = sumT C (es.set s y) m := by
 obtain ⟨hcat, hkk, hU, hv, _, _, r, hr, ht⟩ := loc_out h;obtain ⟨n3, _, m1, m3, _, s0, sm, k3, _, hg⟩ := viewB_elim hv;have hC3 : C.length = 3 := by omega
 have hE3 : E.length = 3 := by omega
 have hs : s < m := by omega
 have hkk' := inB_iff.1 hkk;have hN := hA.n;have hkl : kk.toNat < ss.length := by omega
 have hmem : ss[kk.toNat]?.getD noL ∈ ss := by rw [qA hkl]; exact List.getElem_mem _
 have hF' := hA.D _ hkl;have hfit' := hA.f hcat _ hmem
 have hact : actB (ss[kk.toNat]?.getD noL).n (ss[kk.toNat]?.getD noL).x = true := by
  simp only [catB, Bool.and_eq_true] at hcat
  exact List.all_eq_true.1 hcat.2 _ hmem
 generalize ss[kk.toNat]?.getD noL = a at hmem hF' hfit' hact hr ⊢;have hrm : r ∈ rowsL a.x := List.mem_of_find?_eq_some hr;have hsure := List.find?_some hr;have hall := (actB_six hact).2;have hl := sumT_len hC3 m he;have hfits := sure_fits (hfit' r hrm) hC3 hg hD m3 hs he hsE hk hsure;have W := way_isL (U := U) hl hall hF' hrm hfits;have hpin : ∀ v, v < 3 -> pinsA ss v = true -> (sumT C es m)[v]?.getD 0 = C[v]?.getD 0 := fun v hv hp' => sumT_pin hC3 m (fun i hi => ⟨he i hi, hp i hi v hv hp'⟩);have hatx : ∀ f, f ∈ r.adds \/ f ∈ r.tells -> atX (sumT C es m) U f = atX C U f := fun f hf => atX_eqL fun v hv hh => hpin v hv (reads_pin hmem hrm hf hh);have e1 : r.adds.map (atX (sumT C es m) U) = r.adds.map (atX C U) := List.map_congr_left fun f hf => hatx f (.inl hf);have e2 : r.tells.map (atX (sumT C es m) U) = r.tells.map (atX C U) := List.map_congr_left fun f hf => hatx f (.inr hf);have hB : runB a.n a.x 3 (sumT C es m) l U = true := by rw [runB, hact, hV, hU]; rfl
 have hrs := goW_sh a.x 7 0 way0 r hrm
 have hset0 : (∀ AD, AD.length = 3 -> y.x = List.zipWith (· + ·) E AD -> sumT C (es.set s y) m = List.zipWith (· + ·) (sumT C es m) AD) := fun AD hA hyA => by
  have := sumT_set (s := s) (y := y) hC3 hA (by omega) (by rw [hsE]; exact hyA) m he;rw [if_pos hs] at this
  exact this
 have hsame : x3 = E -> sumT C (es.set s y) m = sumT C es m := fun e => by
  have := hset0 [0, 0, 0] rfl (by
   rw [hy, e]
   match E, hE3 with
   | [a, b, c], _ => simp)
  rw [this];generalize sumT C es m = z at hl
  match z, hl with
  | [a, b, c], _ => simp
 rcases tryL_cases ht with ⟨hst, rfl, rfl, e3⟩ | ⟨hst, _, _, rfl, rfl, e3, hov⟩ | ⟨hst, _, _, rfl, rfl, e3, hov, hmy, _⟩
 ·have := run_stop hB (by rw [W.st]; exact hst);rw [this.1, this.2.1, this.2.2, hsame e3]
  exact ⟨rfl, rfl, rfl⟩
 ·have hal := hrs.2 hst
  have hrun : runL U a.x (sumT C es m) = (false, rowEnd (sumT C es m) U r, r.tells.map (atX (sumT C es m) U)) := by
   have q := W.ad hst;have q0 := W.st;rw [hst] at q0;generalize runL U a.x (sumT C es m) = z at q q0;obtain ⟨z1, z2, z3⟩ := z;dsimp only at q q0;rw [q0, q.1, q.2]
  have hgo := run_go hB hrun
  have hz : rowEnd (sumT C es m) U r = sumT C (es.set s ⟨none, 3, 3, List.zipWith (· + ·) E (r.adds.map (atX C U))⟩) m := by
   rw [rowEnd_zip hl hal, e1];have := sumT_set (AD := r.adds.map (atX C U)) (s := s) (y := ⟨none, 3, 3, List.zipWith (· + ·) E (r.adds.map (atX C U))⟩) hC3 (by rw [qC]; exact hal) (show s < es.length by omega) (by rw [hsE] <;> rfl) m he;rw [if_pos hs] at this
   exact this.symm
  have hno : okN 3 10000 3 (rowEnd (sumT C es m) U r) = false := by
   rw [List.any_eq_true] at hov;obtain ⟨v, hv3, hov⟩ := hov;have hv3 := List.mem_range.1 hv3
   have hc := pot_core (acts := ss) (es := es.set s ⟨none, 3, 3, List.zipWith (· + ·) E (r.adds.map (atX C U))⟩) (E := List.zipWith (· + ·) E (r.adds.map (atX C U))) (U := U) hC3 hg hD m3 hs (fun i hi => by
    by_cases e : i = s
    ·subst e; rw [set_self (by omega)]; exact zip_len hE3 (by rw [qC]; exact hal)
    rw [set_else e]; exact he i hi) (by rw [set_self (by omega)] <;> rfl) (fun i hi hne => by rw [set_else hne]; exact hk i hi hne) v hv3
   rw [<- hz] at hc
   cases hk' : okN 3 10000 3 (rowEnd (sumT C es m) U r)
   ·rfl
   have hb := (okN_elim (by omega) hk').2 v;unfold over1 at hov;simp only [Bool.or_eq_true, decide_eq_true_eq] at hov
   omega
  have c1 : endCode (rowEnd (sumT C es m) U r) = 3 := by rw [endCode, hno]; rfl
  have c2 : endTells (rowEnd (sumT C es m) U r) (r.tells.map (atX (sumT C es m) U)) = [] := by rw [endTells, hno]; rfl
  have c3 : endPots (sumT C es m) (rowEnd (sumT C es m) U r) = sumT C es m := by rw [endPots, hno]; rfl
  rw [hgo.1, hgo.2.1, hgo.2.2, c1, c2, c3, hsame e3]
  exact ⟨rfl, rfl, rfl⟩
 have hal := hrs.2 hst
 have hrun : runL U a.x (sumT C es m) = (false, rowEnd (sumT C es m) U r, r.tells.map (atX (sumT C es m) U)) := by
  have q := W.ad hst;have q0 := W.st;rw [hst] at q0;generalize runL U a.x (sumT C es m) = z at q q0;obtain ⟨z1, z2, z3⟩ := z;dsimp only at q q0;rw [q0, q.1, q.2]
 have hgo := run_go hB hrun
 have hz : rowEnd (sumT C es m) U r = sumT C (es.set s y) m := by
  rw [rowEnd_zip hl hal, e1]
  exact (hset0 _ (by rw [qC]; exact hal) (by rw [hy, e3])).symm
 have hl3 : (rowEnd (sumT C es m) U r).length = 3 := by rw [rowEnd, qC, List.length_range]
 have hyes : okN 3 10000 3 (rowEnd (sumT C es m) U r) = true := okN_three hl3 fun v hv3 => by
  have hc := pot_core (acts := ss) (es := es.set s y) (E := x3) (U := U) hC3 hg hD m3 hs (fun i hi => by
   by_cases e : i = s
   ·subst e; rw [set_self (by omega), hy, e3]; exact zip_len hE3 (by rw [qC]; exact hal)
   rw [set_else e]; exact he i hi) (by rw [set_self (by omega), hy]) (fun i hi hne => by rw [set_else hne]; exact hk i hi hne) v hv3
  have hm1 := any3_false hmy v hv3;rw [<- e3] at hm1;unfold may1 at hm1;simp only [Bool.or_eq_false_iff, decide_eq_false_iff_not] at hm1;rw [hz]
  omega
 have c1 : endCode (rowEnd (sumT C es m) U r) = 1 := by rw [endCode, hyes]; rfl
 have c2 : endTells (rowEnd (sumT C es m) U r) (r.tells.map (atX (sumT C es m) U)) = r.tells.map (atX (sumT C es m) U) := by rw [endTells, hyes]; rfl
 have c3 : endPots (sumT C es m) (rowEnd (sumT C es m) U r) = rowEnd (sumT C es m) U r := by rw [endPots, hyes]; rfl
 rw [hgo.1, hgo.2.1, hgo.2.2, c1, c2, c3, hz, e2]
 exact ⟨rfl, rfl, rfl⟩
theorem loc_keeps {n m : Nat} {C D : List Int} {N : Nat} {ss : List L2V} {s : Int} {k : Nat} {E : List Int} {kk : Int} {l : Nat} {U : List Int} {x1 : Int} {x2 x3 : List Int} (hE : E.length = k) (h : locL n m C D N ss s k E kk l U = (x1, x2, x3, true)) : keepB n m C D (ivs (catP ss)) s 3 x3 = true /\ x3.length = 3 := by
 obtain ⟨_, _, _, hv, hk, _, r, hr, ht⟩ := loc_out h;have k3 := (viewB_elim hv).2.2.2.2.2.2.2.1;subst k3
 rcases tryL_cases ht with ⟨_, _, _, e3⟩ | ⟨_, _, _, _, _, e3, _⟩ | ⟨hst, _, hok, _, _, e3, _, _, hk2⟩
 iterate 2
  ·rw [e3, keepB, hv, hk]; exact ⟨rfl, hE⟩
 have ha := (goW_sh _ 7 0 way0 r (List.mem_of_find?_eq_some hr)).2 hst;refine ⟨?_, by rw [e3]; exact zip_len hE (by rw [qC]; exact ha)⟩;unfold viewB at hv;simp only [Bool.and_eq_true] at hv;rw [keepB, viewB, hv.1, hv.2.1, hv.2.2.1, e3, hok, hk2]
 rfl
theorem loc_len {n m : Nat} {C D : List Int} {N : Nat} {ss : List L2V} {s : Int} {k : Nat} {E : List Int} {kk : Int} {l : Nat} {U : List Int} {x1 : Int} {x2 x3 : List Int} {b : Bool} (hE : E.length = k) (hk4 : k <= 4) (hA : ActsOk N ss) (h : locL n m C D N ss s k E kk l U = (x1, x2, x3, b)) : x2.length <= 1000 /\ x3.length <= 4 := by
 unfold locL at h
 split at h
 ·simp only [Prod.mk.injEq] at h;rw [<- h.2.1, <- h.2.2.1]; simp
 rename_i h1
 split at h
 ·simp only [Prod.mk.injEq] at h;rw [<- h.2.1, <- h.2.2.1]; simp
 rename_i h2
 simp only [Bool.or_eq_true, not_or, Bool.not_eq_true, Bool.not_eq_true', Bool.not_eq_false] at h1 h2;have hkk : inB kk 0 ((N : Int) - 1) = true := by simpa using h1.1.2
 have hcat : catB N ss = true := by simpa using h1.1.1
 have hkk' := inB_iff.1 hkk;have hN := hA.n;have hkl : kk.toNat < ss.length := by omega
 have hmem : ss[kk.toNat]?.getD noL ∈ ss := by rw [qA hkl]; exact List.getElem_mem _
 generalize ss[kk.toNat]?.getD noL = a at hmem h
 cases hf : (rowsL a.x).find? (sureR m C D (ivs (catP ss)) s E U) with
 | none =>
  rw [hf] at h;simp only [Prod.mk.injEq] at h;rw [<- h.2.1, <- h.2.2.1]; simp; omega
 | some r =>
  rw [hf] at h;have hrm := List.mem_of_find?_eq_some hf;have hr := hA.f hcat a hmem r hrm;have ht := hr.lt;have ha := hr.la;dsimp only at h;unfold tryR tryL at h;have hz : (List.zipWith (· + ·) E (r.adds.map (atX C U))).length <= 4 := by rw [List.length_zipWith]; omega
  have ht' : (r.tells.map (atX C U)).length <= 1000 := by rw [qC]; exact ht
  generalize List.zipWith (· + ·) E (r.adds.map (atX C U)) = Z at h hz;generalize r.tells.map (atX C U) = T at h ht';have hE' : E.length <= 4 := by omega
  split at h
  ·simp only [Prod.mk.injEq] at h;rw [<- h.2.1, <- h.2.2.1]; exact ⟨by simp, hE'⟩
  split at h
  ·simp only [Prod.mk.injEq] at h;rw [<- h.2.1, <- h.2.2.1]; exact ⟨by simp, hE'⟩
  split at h
  ·simp only [Prod.mk.injEq] at h;rw [<- h.2.1, <- h.2.2.1]; exact ⟨by simp, hE'⟩
  split at h
  ·simp only [Prod.mk.injEq] at h;rw [<- h.2.1, <- h.2.2.1]; exact ⟨by simp, hE'⟩
  simp only [Prod.mk.injEq] at h;rw [<- h.2.1, <- h.2.2.1]; exact ⟨ht', hz⟩
theorem vw_isg {W : World} {G : Nat} {ts : List IV} (h : (∃ cur, Cel W G cur 24 /\ ∀ i, i < ts.length -> cur[i]? = some (ts[i]?.getD noI).v) /\ (∀ i, i < ts.length -> IG W (ts[i]?.getD noI)) /\ ∀ i, i < ts.length -> (ts[i]?.getD noI).n = 3) : ISG W (some ⟨G, 0, none⟩) ts := PG.isg ⟨h.1, h.2.1⟩
theorem pParts {ad : Option Addr} {N cap : Nat} (ss : List L2V) {w : World} (hN : ss.length = N) (hF : LSG w ad ss) (hN1 : N <= 1048576) (hc : catB N ss = true) :
  Calls Tryz.prog 14 #[.slice ad N cap] w fun e w' => ∃ G cG ts n, e = .returned (.slice (some ⟨G, 0, none⟩) n cG) /\ Below w.heap.size w w' /\ ISG w' (some ⟨G, 0, none⟩) ts /\ ts.length = n /\ n <= 600000 /\ ts.length = (ivs (catP ss)).length /\ copiesIS (ivs (catP ss)) ts :=
 (icatforms_any ad N cap ss w hN hF hN1).mono fun e w' h => by
  obtain ⟨b, ⟨hA, _⟩ | ⟨_, G, cG, ts, bs, he, hx, j⟩⟩ := h
  ·rw [hA] at hc; cases hc
  have hl : ts.length = (catP ss).length := by rw [<- hx, qC]
  have h4 : ss.length <= 4 := by
   simp only [catB, Bool.and_eq_true] at hc;have := inB_iff.1 hc.1
   omega
  have hle := catP_le h4;have hcp := copies_ivs hx (fun i hi => (j.k i hi).1)
  exact ⟨G, cG, ts, _, he, b, vw_isg (j.vwt (X := w'.heap.size) hl (Touch.refl _ _) (.inr (qB _))), hl, hle, hcp.1, hcp.2⟩
theorem pPins {ad : Option Addr} {N cap : Nat} (ss : List L2V) {w : World} (hN : ss.length = N) (hF : LSG w ad ss) (hN1 : N <= 1048576) (hc : catB N ss = true) :
  Calls Tryz.prog 15 #[.slice ad N cap] w fun e w' => ∃ G cG, e = .returned (.slice (some ⟨G, 0, none⟩) 3 cG) /\ Below w.heap.size w w' /\ OwnBB w' G (pinsA ss) /\ w.heap.size <= G :=
 (icatpins_any ad N cap ss w hN hF hN1).mono fun e w' h => by
  obtain ⟨b, ⟨hA, _⟩ | ⟨_, G, cG, he, lG, ho⟩⟩ := h
  ·rw [hA] at hc; cases hc
  exact ⟨G, cG, he, b, ho, lG⟩
theorem pKeep {a : Option Addr} {n cap : Nat} {c : Option Addr} {m cap' : Nat} {ad : Option Addr} {N pc : Nat} (s : Int) {e : Option Addr} {k ec : Nat} (C D E : List Int) (ts : List IV) (P : List IV) {w : World}
  (hC : Ints w a n C) (hD : Ints w c m D) (hE : Ints w e k E) (hN : ts.length = N) (hF : ISG w ad ts) (hl : ts.length = P.length) (hcp : copiesIS P ts) (hn : n <= 1048576 := by omega) (hm : m <= 1048576 := by omega) (hk : k <= 1048576 := by omega) (hN1 : N <= 1048576 := by omega) :
  Calls Tryz.prog 16 #[treV a n cap c m cap', .slice ad N pc, .int .i64 s, .slice e k ec] w fun r w' => r = .returned (.bool (keepB n m C D P s k E)) /\ Below w.heap.size w w' :=
 (ikeep_any a n cap c m cap' ad N pc s e k ec C D E ts w hC hD hE hN hF hn hm hk hN1).mono fun r w' h => ⟨by rw [h.1, keepB_copy hl hcp], h.2⟩
theorem loc_false {n m : Nat} {C D : List Int} {N : Nat} {ss : List L2V} {s : Int} {k : Nat} {E : List Int} {kk : Int} {l : Nat} {U : List Int} {x1 : Int} {x2 x3 : List Int} (h : locL n m C D N ss s k E kk l U = (x1, x2, x3, false)) : x1 = 0 /\ (x3 = [] \/ x3 = E) := by
 unfold locL at h
 split at h
 ·simp only [Prod.mk.injEq] at h
  exact ⟨h.1.symm, .inl h.2.2.1.symm⟩
 split at h
 ·simp only [Prod.mk.injEq] at h
  exact ⟨h.1.symm, .inl h.2.2.1.symm⟩
 split at h
 ·simp only [Prod.mk.injEq] at h
  exact ⟨h.1.symm, .inr h.2.2.1.symm⟩
 unfold tryR tryL at h
 split at h
 ·simp at h
 split at h
 ·simp only [Prod.mk.injEq] at h
  exact ⟨h.1.symm, .inr h.2.2.1.symm⟩
 split at h
 ·simp at h
 split at h
 ·simp only [Prod.mk.injEq] at h
  exact ⟨h.1.symm, .inr h.2.2.1.symm⟩
 simp at h
structure LocYes (n m : Nat) (C D : List Int) (N : Nat) (ss : List L2V) (s : Int) (k : Nat) (E : List Int) (kk : Int) (l : Nat) (U : List Int) : Prop where
 c : catB N ss = true
 n3 : n = 3
 k3 : k = 3
 l2 : l = 2
 m1 : 1 <= m
 m3 : m <= 3
 s0 : 0 <= s
 sm : s < m
 q0 : 0 <= kk
 qn : kk < N
 N4 : N <= 4
 bC : bnd 10000 C
 bE : bnd 20000 E
 g : ∀ i : Nat, i < D.length -> 0 <= D[i]?.getD 0 /\ D[i]?.getD 0 <= 50
 hk : keepsB (D[s.toNat]?.getD 0) E (ivs (catP ss)) = true
 p : ∀ v, v < 3 -> pinsA ss v = true -> E[v]?.getD 0 = 0
theorem loc_yes {n m : Nat} {C D : List Int} {N : Nat} {ss : List L2V} {s : Int} {k : Nat} {E : List Int} {kk : Int} {l : Nat} {U : List Int} {x1 : Int} {x2 x3 : List Int} (h : locL n m C D N ss s k E kk l U = (x1, x2, x3, true)) : LocYes n m C D N ss s k E kk l U := by
 obtain ⟨hcat, hkk, hU, hv, hk, hp, _⟩ := loc_out h;obtain ⟨n3, bC, m1, m3, _, s0, sm, k3, bE, hg⟩ := viewB_elim hv;have h2 := okN_elim (by omega) hU;have h3 := inB_iff.1 hkk
 have h4 : (N : Int) <= 4 := by
  simp only [catB, Bool.and_eq_true] at hcat
  exact (inB_iff.1 hcat.1).2
 refine ⟨hcat, n3, k3, by omega, m1, m3, s0, sm, by omega, by omega, by omega, bC, bE, hg, hk, fun v hv3 hpv => ?_⟩;have := any3_false hp v hv3;rw [hpv] at this;simpa using this
def GoodA (D : List Int) (ss : List L2V) (i : Nat) (x : List Int) : Prop := bnd 20000 x /\ keepsB (D[i]?.getD 0) x (ivs (catP ss)) = true /\ ∀ v, v < 3 -> pinsA ss v = true -> x[v]?.getD 0 = 0
theorem keepsB_zeros {g : Int} {P : List IV} (h : 0 <= g) : keepsB g [0, 0, 0] P = true := by
 unfold keepsB;rw [List.all_eq_true];intro p _;refine inB_iff.2 ?_;simp [dot]
 omega
theorem GoodA.zero {D : List Int} {ss : List L2V} {i : Nat} (h : 0 <= D[i]?.getD 0) : GoodA D ss i [0, 0, 0] := ⟨fun j => by rcases j with _ | _ | _ | j <;> simp, keepsB_zeros h, fun v hv _ => by rcases v with _ | _ | _ | v <;> simp⟩
def AddT (D : List Int) (ss : List L2V) (es : List IV) (k u : Nat) (E : List Int) : Prop := (∀ i, i < k -> GoodA D ss i (es[i]?.getD noI).x) /\ (u < k -> (es[u]?.getD noI).x = E)
theorem AddT.nil (D : List Int) (ss : List L2V) (u : Nat) (E : List Int) : AddT D ss [] 0 u E := ⟨fun i hi => by omega, fun h => by omega⟩
theorem AddT.app {D : List Int} {ss : List L2V} {es : List IV} {k u : Nat} {E : List Int} {y : IV} (h : AddT D ss es k u E) (hk : es.length = k) (hb : GoodA D ss k y.x) (hu : k = u -> y.x = E) : AddT D ss (es ++ [y]) (k + 1) u E := by
 have e : ∀ i, i < k -> (es ++ [y])[i]?.getD noI = es[i]?.getD noI := fun i hi => by rw [List.getElem?_append_left (by omega)]
 have e2 : (es ++ [y])[k]?.getD noI = y := by rw [List.getElem?_append_right (by omega), hk, Nat.sub_self]; rfl
 refine ⟨fun i hi => ?_, fun hi => ?_⟩
 ·by_cases h1 : i < k
  ·rw [e i h1]; exact h.1 i h1
  have : i = k := by omega
  subst this;rw [e2]; exact hb
 by_cases h1 : u < k
 ·rw [e u h1]; exact h.2 h1
 have : u = k := by omega
 rw [this, e2]; exact hu this.symm
theorem JP.put {w W : World} {G cap u : Nat} {ts : List IV} {y : IV} (j : JP w G cap ts W) (hu : u < ts.length) (hI : IG W y) (hb : 0 < y.n -> ∀ b o, y.a = some ⟨b, o, none⟩ -> b ≠ G) : W.cell? ⟨G, u, none⟩ = some (ts[u]?.getD noI).v /\ W.frozen? ⟨G, u, none⟩ = false /\ ISG (W.setCell ⟨G, u, none⟩ y.v) (some ⟨G, 0, none⟩) (ts.set u y) := by
 have hg := j.g
 have hc : ∀ i, i < ts.length -> W.cell? ⟨G, i, none⟩ = some (ts[i]?.getD noI).v /\ IG W (ts[i]?.getD noI) := fun i hi => by
  obtain ⟨b, o, e, c, g⟩ := hg i hi;simp only [Option.some.injEq, Addr.mk.injEq, and_true] at e;obtain ⟨rfl, rfl⟩ := e;rw [Nat.zero_add] at c
  exact ⟨c, g⟩
 have T : Touch (fun z => z = G) W (W.setCell ⟨G, u, none⟩ y.v) := Touch.setCell (S := fun z => z = G) (Touch.refl _ _) rfl _
 have hfz : W.frozen? ⟨G, u, none⟩ = false := by
  rcases j.o.2 with ⟨h, _⟩ | ⟨g, cap', cur, h, hg, hh, _⟩
  ·cases h
  simp only [Value.slice.injEq, Option.some.injEq, Addr.mk.injEq, and_true, true_and] at h;obtain ⟨rfl, _⟩ := h;simp [World.frozen?, hh]
 have off : ∀ s : IV, IG W s -> (0 < s.n -> ∀ b o, s.a = some ⟨b, o, none⟩ -> b ≠ G) -> IG (W.setCell ⟨G, u, none⟩ y.v) s := fun s hs hne => by
  refine ⟨?_, hs.2⟩
  by_cases h0 : 0 < s.n
  ·exact hs.1.off T (fun b o e => hne h0 b o e)
  exact ⟨hs.1.1, fun i hi => by omega⟩
 refine ⟨(hc u hu).1, hfz, fun i hi => ?_⟩;rw [List.length_set] at hi
 by_cases e : i = u
 ·subst e;refine ⟨G, 0, rfl, ?_, ?_⟩
  ·rw [set_self hi, Nat.zero_add]; exact World.cell?_setCell_same _ _ _ (hc i hi).1
  rw [set_self hi]; exact off y hI hb
 refine ⟨G, 0, rfl, ?_, ?_⟩
 ·rw [set_else e, Nat.zero_add, World.cell?_setCell_other _ _ _ _ (fun h => e (by simpa using h.symm))]; exact (hc i hi).1
 rw [set_else e]; exact off _ (hc i hi).2 (fun _ => (j.k i hi).2.2)
theorem field_zero (Z1 Z2 : Nat) (W : World) : (Instr.field 86 (formV (some ⟨Z1, 0, none⟩) 3 3 (some ⟨Z2, 0, none⟩) 2 2 0) 0).run Tryz.prog W = .ok (.slice (some ⟨Z1, 0, none⟩) 3 3) W := by kernel_rfl
theorem sbounds_any (a : Option Addr) (n cap : Nat) (c : Option Addr) (m cap' : Nat) (ad : Option Addr) (N pc : Nat) (s : Int) (e : Option Addr) (k ec : Nat) (fa : Option Addr) (fn fcap : Nat) (fc : Option Addr) (fm fcap' : Nat) (FK : Int) (u : Option Addr) (l uc : Nat) (C D E FC FD U : List Int) (ss : List IV) (w : World)
  (hC : Ints w a n C) (hD : Ints w c m D) (hE : Ints w e k E) (hA : Ints w fa fn FC) (hB : Ints w fc fm FD) (hU : Ints w u l U) (hN : ss.length = N) (hF : ISG w ad ss) (hn : n <= 1048576) (hm : m <= 1048576) (hk : k <= 1048576) (hfn : fn <= 1048576) (hfm : fm <= 1048576) (hl : l <= 1048576) (hN1 : N <= 1048576) :
  Calls Tryz.prog 128 #[treV a n cap c m cap', .slice ad N pc, .int .i64 s, .slice e k ec, formV fa fn fcap fc fm fcap' FK, .slice u l uc] w fun r w' => r = .returned (ansV (bansB n m C D ss s k E fn fm FC FD FK l U)) /\ Below w.heap.size w w' := by
 have HN : Hid (ss.length = N) := hN;clear hN;have q_0 := (Cel.new w [.slice a n cap, .slice c m cap'] 26).alloc (.cells #[.slice fa fn fcap, .slice fc fm fcap', .int .i64 FK] 86);have f_0 := Cel.new (w.alloc (.cells #[.slice a n cap, .slice c m cap'] 26)) [.slice fa fn fcap, .slice fc fm fcap', .int .i64 FK] 86;have B_0 := ((Below.refl w.heap.size w).alloc (qB _) (.cells #[.slice a n cap, .slice c m cap'] 26)).alloc (by simp) (.cells #[.slice fa fn fcap, .slice fc fm fcap', .int .i64 FK] 86);rw [World.size_alloc] at f_0
 cases h0 : trtB n m C D
 ·go_enter Tryz.func128, Tryz.ntmps128
  go_wp2_with fail
  refine (strt_any C D (hC.below B_0) (hD.below B_0) hn hm).mono ?_;rintro r w1 ⟨rfl, b_1⟩;rw [h0];have B_1 := btr B_0 b_1;have q_1 := q_0.below b_1;have f_1 := f_0.below b_1;clear B_0 f_0 q_0 b_1;obtain ⟨c_q0, c_q1⟩ := q_1.two;obtain ⟨c_f0, c_f1, c_f2⟩ := f_1.three
  go_wp2
  refine bodyPost_ret (v := .tuple #[.int .i64 0, .int .i64 0, .bool false]) (by simp [results, Tryz.results128, go_sem]) rfl ⟨?_, B_1⟩;rw [bansB, if_neg (by simp [bokB, viewB, h0])]
  rfl
 cases h1 : partsB ss
 ·go_enter Tryz.func128, Tryz.ntmps128
  go_wp2_with fail
  refine (strt_any C D (hC.below B_0) (hD.below B_0) hn hm).mono ?_;rintro r w1 ⟨rfl, b_1⟩;rw [h0];have B_1 := btr B_0 b_1;have q_1 := q_0.below b_1;have f_1 := f_0.below b_1;clear B_0 f_0 q_0 b_1;obtain ⟨c_q0, c_q1⟩ := q_1.two;obtain ⟨c_f0, c_f1, c_f2⟩ := f_1.three
  go_wp2_with fail
  refine (sparts_any ss HN.out (hF.below B_1) hN1).mono ?_;rintro r w2 ⟨rfl, rfl⟩;rw [h1]
  go_wp2
  refine bodyPost_ret (v := .tuple #[.int .i64 0, .int .i64 0, .bool false]) (by simp [results, Tryz.results128, go_sem]) rfl ⟨?_, B_1⟩;rw [bansB, if_neg (by simp [bokB, viewB, h1])]
  rfl
 cases h2 : inB s 0 ((m : Int) - 1)
 ·go_enter Tryz.func128, Tryz.ntmps128
  go_wp2_with fail
  refine (strt_any C D (hC.below B_0) (hD.below B_0) hn hm).mono ?_;rintro r w1 ⟨rfl, b_1⟩;rw [h0];have B_1 := btr B_0 b_1;have q_1 := q_0.below b_1;have f_1 := f_0.below b_1;clear B_0 f_0 q_0 b_1;obtain ⟨c_q0, c_q1⟩ := q_1.two;obtain ⟨c_f0, c_f1, c_f2⟩ := f_1.three
  go_wp2_with fail
  refine (sparts_any ss HN.out (hF.below B_1) hN1).mono ?_;rintro r w2 ⟨rfl, rfl⟩;rw [h1]
  go_wp2_with fail
  refine (in_any).mono ?_;rintro r w3 ⟨rfl, rfl⟩;rw [h2]
  go_wp2
  refine bodyPost_ret (v := .tuple #[.int .i64 0, .int .i64 0, .bool false]) (by simp [results, Tryz.results128, go_sem]) rfl ⟨?_, B_1⟩;rw [bansB, if_neg (by simp [bokB, viewB, h2])]
  rfl
 cases h3 : okN 3 20000 k E
 ·go_enter Tryz.func128, Tryz.ntmps128
  go_wp2_with fail
  refine (strt_any C D (hC.below B_0) (hD.below B_0) hn hm).mono ?_;rintro r w1 ⟨rfl, b_1⟩;rw [h0];have B_1 := btr B_0 b_1;have q_1 := q_0.below b_1;have f_1 := f_0.below b_1;clear B_0 f_0 q_0 b_1;obtain ⟨c_q0, c_q1⟩ := q_1.two;obtain ⟨c_f0, c_f1, c_f2⟩ := f_1.three
  go_wp2_with fail
  refine (sparts_any ss HN.out (hF.below B_1) hN1).mono ?_;rintro r w2 ⟨rfl, rfl⟩;rw [h1]
  go_wp2_with fail
  refine (in_any).mono ?_;rintro r w3 ⟨rfl, rfl⟩;rw [h2]
  go_wp2_with fail
  refine (all_any E _ _ (hE.below B_1) hk).mono ?_;rintro r w4 ⟨rfl, rfl⟩;rw [h3]
  go_wp2
  refine bodyPost_ret (v := .tuple #[.int .i64 0, .int .i64 0, .bool false]) (by simp [results, Tryz.results128, go_sem]) rfl ⟨?_, B_1⟩;rw [bansB, if_neg (by simp [bokB, viewB, h3])]
  rfl
 cases h4 : formB fn fm FC FD FK
 ·go_enter Tryz.func128, Tryz.ntmps128
  go_wp2_with fail
  refine (strt_any C D (hC.below B_0) (hD.below B_0) hn hm).mono ?_;rintro r w1 ⟨rfl, b_1⟩;rw [h0];have B_1 := btr B_0 b_1;have q_1 := q_0.below b_1;have f_1 := f_0.below b_1;clear B_0 f_0 q_0 b_1;obtain ⟨c_q0, c_q1⟩ := q_1.two;obtain ⟨c_f0, c_f1, c_f2⟩ := f_1.three
  go_wp2_with fail
  refine (sparts_any ss HN.out (hF.below B_1) hN1).mono ?_;rintro r w2 ⟨rfl, rfl⟩;rw [h1]
  go_wp2_with fail
  refine (in_any).mono ?_;rintro r w3 ⟨rfl, rfl⟩;rw [h2]
  go_wp2_with fail
  refine (all_any E _ _ (hE.below B_1) hk).mono ?_;rintro r w4 ⟨rfl, rfl⟩;rw [h3]
  go_wp2_with fail
  refine (sok_any FC FD (hA.below B_1) (hB.below B_1) hfn hfm).mono ?_;rintro r w5 ⟨rfl, b_5⟩;rw [h4];clear c_q0 c_q1 c_f0 c_f1 c_f2;have B_5 := btr B_1 b_5;have q_5 := q_1.below b_5;have f_5 := f_1.below b_5;clear B_1 f_1 q_1 b_5;obtain ⟨c_q0, c_q1⟩ := q_5.two;obtain ⟨c_f0, c_f1, c_f2⟩ := f_5.three
  go_wp2
  refine bodyPost_ret (v := .tuple #[.int .i64 0, .int .i64 0, .bool false]) (by simp [results, Tryz.results128, go_sem]) rfl ⟨?_, B_5⟩;rw [bansB, if_neg (by simp [bokB, viewB, h4])]
  rfl
 cases h5 : okN 2 9 l U
 ·go_enter Tryz.func128, Tryz.ntmps128
  go_wp2_with fail
  refine (strt_any C D (hC.below B_0) (hD.below B_0) hn hm).mono ?_;rintro r w1 ⟨rfl, b_1⟩;rw [h0];have B_1 := btr B_0 b_1;have q_1 := q_0.below b_1;have f_1 := f_0.below b_1;clear B_0 f_0 q_0 b_1;obtain ⟨c_q0, c_q1⟩ := q_1.two;obtain ⟨c_f0, c_f1, c_f2⟩ := f_1.three
  go_wp2_with fail
  refine (sparts_any ss HN.out (hF.below B_1) hN1).mono ?_;rintro r w2 ⟨rfl, rfl⟩;rw [h1]
  go_wp2_with fail
  refine (in_any).mono ?_;rintro r w3 ⟨rfl, rfl⟩;rw [h2]
  go_wp2_with fail
  refine (all_any E _ _ (hE.below B_1) hk).mono ?_;rintro r w4 ⟨rfl, rfl⟩;rw [h3]
  go_wp2_with fail
  refine (sok_any FC FD (hA.below B_1) (hB.below B_1) hfn hfm).mono ?_;rintro r w5 ⟨rfl, b_5⟩;rw [h4];clear c_q0 c_q1 c_f0 c_f1 c_f2;have B_5 := btr B_1 b_5;have q_5 := q_1.below b_5;have f_5 := f_1.below b_5;clear B_1 f_1 q_1 b_5;obtain ⟨c_q0, c_q1⟩ := q_5.two;obtain ⟨c_f0, c_f1, c_f2⟩ := f_5.three
  go_wp2_with fail
  refine (sarg_any U (hU.below B_5) hl).mono ?_;rintro r w6 ⟨rfl, rfl⟩;rw [h5]
  go_wp2
  refine bodyPost_ret (v := .tuple #[.int .i64 0, .int .i64 0, .bool false]) (by simp [results, Tryz.results128, go_sem]) rfl ⟨?_, B_5⟩;rw [bansB, if_neg (by simp [bokB, viewB, h5])]
  rfl
 have hv : viewB n m C D ss s k E = true := by simp [viewB, h0, h1, h2, h3]
 have hbo : bokB n m C D ss s k E fn fm FC FD FK l U = true := by simp [bokB, hv, h4, h5]
 obtain ⟨e1, bC, m1, m2, -, s0, s1, e2, bE, bD⟩ := viewB_elim hv;obtain ⟨e3, e4, bA, bB, K1, K2⟩ := formB_elim h4;obtain ⟨e5, bU⟩ := okN_elim (by omega) h5;have e6 : l = 2 := by omega
 clear e5;rw [bansB, if_pos hbo];subst e1 e2 e3 e4 e6;have H0 : Hid _ := h0;have H1 : Hid _ := h1;have H2 : Hid _ := h2;have H3 : Hid _ := h3;have H4 : Hid _ := h4;have H5 : Hid _ := h5;clear hv hbo h0 h1 h2 h3 h4 h5;have HZ : Hid ((List.zipWith (· + ·) C E).length = 3) := by show _ = _; rw [List.length_zipWith, hC.1, hE.1]; rfl
 have bV : bnd 30000 (List.zipWith (· + ·) C E) := fun i => by have := bnd_zip (by rw [hC.1, hE.1]) bC bE i; omega
 have ob := others_bnd (s := s) bD m (by rw [hD.1]; exact qB _) m2;have p1 := dot_bnd (bndP_of bA bV (by omega) (by omega)) 3;have p2 := dot_bnd (bndP_of bB bU (by omega) (by omega)) 2;obtain ⟨x, hx⟩ : ∃ x, x = bnds m C D ss s E FC FD FK U := ⟨_, rfl⟩
 rw [<- hx];have HV : Hid (bnd 30000 (List.zipWith (· + ·) C E)) := bV;have HCE : Hid (bnd 1000000000 C /\ bnd 1000000000 E) := ⟨fun i => by have := bC i; omega, fun i => by have := bE i; omega⟩
 obtain ⟨n, hn'⟩ : ∃ n, n = atV FC FD FK (List.zipWith (· + ·) C E) U := ⟨_, rfl⟩
 obtain ⟨o, ho⟩ : ∃ o, o = others D s m := ⟨_, rfl⟩
 have n1 : -10000000000000 <= n := by rw [hn']; unfold atV; omega
 have n2 : n <= 10000000000000 := by rw [hn']; unfold atV; omega
 rw [<- ho] at ob;rw [bnds, <- hn', <- ho] at hx;have HI : Hid _ := hx;have HNN : Hid _ := hn';have HO : Hid _ := ho;obtain ⟨o1, o2⟩ := ob;have o3 : o <= 150 := by omega
 have hw1 : IntKind.i64.wrap (n - o) = n - o := wrap_id (by omega) (by omega);have hw2 : IntKind.i64.wrap (n + o) = n + o := wrap_id (by omega) (by omega);have HW : Hid (IntKind.i64.wrap (n - o) = n - o /\ IntKind.i64.wrap (n + o) = n + o) := ⟨hw1, hw2⟩
 have bK : -10000000 <= FK /\ FK <= 10000000 := ⟨K1, K2⟩
 clear hx hn' ho o2 p1 p2 bV bD bC bE hw1 hw2
 go_enter Tryz.func128, Tryz.ntmps128
 go_wp2_with fail
 refine (strt_any C D (hC.below B_0) (hD.below B_0) hn hm).mono ?_;rintro r w1 ⟨rfl, b_1⟩;rw [H0.out];have B_1 := btr B_0 b_1;have q_1 := q_0.below b_1;have f_1 := f_0.below b_1;clear B_0 f_0 q_0 b_1;obtain ⟨c_q0, c_q1⟩ := q_1.two;obtain ⟨c_f0, c_f1, c_f2⟩ := f_1.three
 go_wp2_with fail
 refine (sparts_any ss HN.out (hF.below B_1) hN1).mono ?_;rintro r w2 ⟨rfl, rfl⟩;rw [H1.out]
 go_wp2_with fail
 refine (in_any).mono ?_;rintro r w3 ⟨rfl, rfl⟩;rw [H2.out]
 go_wp2_with fail
 refine (all_any E _ _ (hE.below B_1) hk).mono ?_;rintro r w4 ⟨rfl, rfl⟩;rw [H3.out]
 go_wp2_with fail
 refine (sok_any FC FD (hA.below B_1) (hB.below B_1) hfn hfm).mono ?_;rintro r w5 ⟨rfl, b_5⟩;rw [H4.out];clear c_q0 c_q1 c_f0 c_f1 c_f2;have B_5 := btr B_1 b_5;have q_5 := q_1.below b_5;have f_5 := f_1.below b_5;clear B_1 f_1 q_1 b_5;obtain ⟨c_q0, c_q1⟩ := q_5.two;obtain ⟨c_f0, c_f1, c_f2⟩ := f_5.three
 go_wp2_with fail
 refine (sarg_any U (hU.below B_5) hl).mono ?_;rintro r w6 ⟨rfl, rfl⟩;rw [H5.out];clear c_q0 c_q1 c_f0 c_f1 c_f2;have CC : Hid (∀ X : World, Cel X w.heap.size [.slice a 3 cap, .slice c m cap'] 26 -> Cel X (w.heap.size + 1) [.slice fa 3 fcap, .slice fc 2 fcap', .int .i64 FK] 86 -> X.cell? ⟨w.heap.size, 0, none⟩ = some (.slice a 3 cap) /\ X.cell? ⟨w.heap.size, 1, none⟩ = some (.slice c m cap') /\ X.cell? ⟨w.heap.size + 1, 0, none⟩ = some (.slice fa 3 fcap) /\ X.cell? ⟨w.heap.size + 1, 1, none⟩ = some (.slice fc 2 fcap') /\ X.cell? ⟨w.heap.size + 1, 2, none⟩ = some (.int .i64 FK)) := fun X h1 h2 => ⟨h1.cell 0, h1.cell 1, h2.cell 0, h2.cell 1, h2.cell 2⟩
 have hn0 := CC.out _ q_5 f_5
 go_upto_region 3 with fail
 go_region_held3 (fun w' => w'.cell? ⟨w.heap.size, 0, none⟩ = some (.slice a 3 cap) /\ w'.cell? ⟨w.heap.size, 1, none⟩ = some (.slice c m cap') /\ w'.cell? ⟨w.heap.size + 1, 0, none⟩ = some (.slice fa 3 fcap) /\ w'.cell? ⟨w.heap.size + 1, 1, none⟩ = some (.slice fc 2 fcap') /\ w'.cell? ⟨w.heap.size + 1, 2, none⟩ = some (.int .i64 FK)) (first | with_reducible assumption | exact hn0)
  (first
   | (go_at_call 130
      refine (sum5_any C E (by exact hC.below B_5.drew) (by exact hE.below B_5.drew) HCE.out.1 HCE.out.2).mono ?_;rintro ee y1 ⟨v, rfl, j⟩;obtain ⟨va, vc, rfl, iV⟩ := j.slice3 HZ.out;have x_1 := below_of_drew j.b;have X_1 := btr B_5 x_1;have qx_1 := q_5.below x_1;have fx_1 := f_5.below x_1
      have hn1 := CC.out y1 qx_1 fx_1)
   | (go_at_call 132
      refine (sat30_any _ _ _ _ _ FC FD _ _ _ _ (List.zipWith (· + ·) C E) U _ (by exact hA.below X_1) (by exact hB.below X_1) iV (by exact hU.below X_1) bA bB bK HV.out bU).mono ?_;rintro ee y2 ⟨rfl, x_2⟩;rw [<- HNN.out];have X_2 := btr X_1 x_2;have qx_2 := qx_1.below x_2;have fx_2 := fx_1.below x_2
      have hn2 := CC.out y2 qx_2 fx_2))
 clear hn0 hn1 iV j x_1 x_2 X_1 qx_1 fx_1 B_5 q_5 f_5;obtain ⟨k0, k1, k2, k3, k4⟩ := hn2
 go_wp2_with fail
 refine (spart_any FC (hA.below X_2) (by omega)).mono ?_;rintro r w21 ⟨pa, pcap, rfl, b_21, ip_21, -⟩;clear k0 k1 k2 k3 k4;have B_21 := btr X_2 b_21;have q_21 := qx_2.below b_21;have f_21 := fx_2.below b_21;clear X_2 fx_2 qx_2 b_21;obtain ⟨c_q0, c_q1⟩ := q_21.two;obtain ⟨c_f0, c_f1, c_f2⟩ := f_21.three
 go_wp2_with fail
 refine (szero_any _).mono ?_;rintro r w22 ⟨Z1, Z2, rfl, b_22, -, -, -, kz_22, -⟩;clear c_q0 c_q1 c_f0 c_f1 c_f2;have B_22 := btr B_21 b_22;have q_22 := q_21.below b_22;have f_22 := f_21.below b_22;have ip_22 := ip_21.below b_22;clear B_21 f_21 ip_21 q_21 b_22;obtain ⟨c_q0, c_q1⟩ := q_22.two;obtain ⟨c_f0, c_f1, c_f2⟩ := f_22.three;have hfd := field_zero Z1 Z2
 go_wp2_with fail
 refine (l4same_any _ _ (partL FC) [0, 0, 0] ip_22 (show Ints _ _ 3 _ from kz_22.ints' rfl) (by omega) (by omega)).mono ?_;rintro r w23 ⟨rfl, b_23⟩;clear c_q0 c_q1 c_f0 c_f1 c_f2;have B_23 := btr B_22 b_23;have q_23 := q_22.below b_23;have f_23 := f_22.below b_23;have ip_23 := ip_22.below b_23;clear B_22 f_22 ip_22 kz_22 q_22 b_23;obtain ⟨c_q0, c_q1⟩ := q_23.two;obtain ⟨c_f0, c_f1, c_f2⟩ := f_23.three;clear hfd
 cases hz : eqB (partL FC) [0, 0, 0]
 ·go_wp2_with fail
  refine (shas_any _ _ ss _ (partL FC) HN.out (hF.below B_23) hN1 ip_23).mono ?_;rintro r w24 ⟨rfl, b_24⟩;clear c_q0 c_q1 c_f0 c_f1 c_f2;have B_24 := btr B_23 b_24;have q_24 := q_23.below b_24;have f_24 := f_23.below b_24;clear B_23 f_23 ip_23 q_23 b_24;obtain ⟨c_q0, c_q1⟩ := q_24.two;obtain ⟨c_f0, c_f1, c_f2⟩ := f_24.three
  by_cases hh : hasI ss (partL FC) < 0
  ·have X : x = (0, 0, false) := by rw [HI.out, hz, if_neg (by decide), if_pos hh]
   have HX2 : Hid _ := X;clear X
   go_wp2
   refine bodyPost_ret (v := .tuple #[.int .i64 0, .int .i64 0, .bool false]) (by simp [results, Tryz.results128, go_sem]) rfl ⟨by rw [HX2.out]; rfl, B_24⟩
  have X : x = (n - o, n + o, true) := by rw [HI.out, hz, if_neg (by decide), if_neg hh]
  have HX2 : Hid _ := X;clear X;clear c_q0 c_q1 c_f0 c_f1 c_f2;have hn0 := CC.out _ q_24 f_24
  go_upto_region 9 with fail
  go_region_held3 (fun w' => w'.cell? ⟨w.heap.size, 0, none⟩ = some (.slice a 3 cap) /\ w'.cell? ⟨w.heap.size, 1, none⟩ = some (.slice c m cap') /\ w'.cell? ⟨w.heap.size + 1, 0, none⟩ = some (.slice fa 3 fcap) /\ w'.cell? ⟨w.heap.size + 1, 1, none⟩ = some (.slice fc 2 fcap') /\ w'.cell? ⟨w.heap.size + 1, 2, none⟩ = some (.int .i64 FK)) (first | with_reducible assumption | exact hn0)
   (first
    | (go_at_call 152
       refine (sothers_any D s (by exact hD.below Z_1)).mono ?_;rintro ee y4 ⟨rfl, z_2⟩;rw [<- HO.out];have Z_2 := btr Z_1 z_2
       have hn4 := CC.out y4 (qz_1.below z_2) (fz_1.below z_2))
    | (go_at_call 152
       refine (sothers_any D s (by exact hD.below B_24.drew)).mono ?_;rintro ee y3 ⟨rfl, zd_1⟩;rw [<- HO.out];have z_1 := below_of_drew zd_1;have Z_1 := btr B_24 z_1;have qz_1 := q_24.below z_1;have fz_1 := f_24.below z_1
       have hn3 := CC.out y3 qz_1 fz_1))
  rw [HW.out.1, HW.out.2]
  go_wp2
  refine bodyPost_ret (v := .tuple #[.int .i64 (n - o), .int .i64 (n + o), .bool true]) (by simp [results, Tryz.results128, go_sem]) rfl ⟨by rw [HX2.out]; rfl, Z_2⟩
 have X : x = (n, n, true) := by rw [HI.out, hz, if_pos rfl]
 have HX2 : Hid _ := X;clear X
 go_wp2
 refine bodyPost_ret (v := .tuple #[.int .i64 n, .int .i64 n, .bool true]) (by simp [results, Tryz.results128, go_sem]) rfl ⟨by rw [HX2.out]; rfl, B_23⟩
end Go.Proofs.YtemcinobgdphnaaGreat
