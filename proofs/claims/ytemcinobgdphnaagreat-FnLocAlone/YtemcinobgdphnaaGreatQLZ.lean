/-
  Lemmas that the claim's last text rests on.
-/
import Derived.Test.YtemcinobgdphnaaGreatQLY
namespace Go.Proofs.YtemcinobgdphnaaGreat
open Go.RowKit Go.Deep
open List renaming getElem?_eq_getElem → qA, length_map → qC
open Nat renaming le_refl → qB
set_option linter.unusedVariables false
set_option maxRecDepth 100000
set_option maxHeartbeats 25600000
theorem way_isL {V U : List Int} {ls : List LV} {r : RowM} (hV : V.length = 3) (hall : ls.all LV.ok = true) (hD : ∀ k, k < ls.length -> (ls[k]?.getD noLV).f.D.length = (ls[k]?.getD noLV).f.m) (hm : r ∈ rowsL ls) (hf : fitG V U r = true) : Fits V U (runL U ls V) r := by
 obtain ⟨r0, h0, hF⟩ := runL_way (V := V) (U := U) hV hall hD;have : r ∈ (rowsL ls).filter (fitG V U) := List.mem_filter.2 ⟨hm, hf⟩;rw [h0] at this;simp only [List.mem_singleton] at this;subst this
 exact hF
theorem way_oneL {V U : List Int} {ls : List LV} {r r' : RowM} (hV : V.length = 3) (hall : ls.all LV.ok = true) (hD : ∀ k, k < ls.length -> (ls[k]?.getD noLV).f.D.length = (ls[k]?.getD noLV).f.m) (hm : r ∈ rowsL ls) (hf : fitG V U r = true) (hm' : r' ∈ rowsL ls) (hf' : fitG V U r' = true) : r = r' := by
 obtain ⟨r0, h0, hF⟩ := runL_way (V := V) (U := U) hV hall hD;have a : r ∈ (rowsL ls).filter (fitG V U) := List.mem_filter.2 ⟨hm, hf⟩;have b : r' ∈ (rowsL ls).filter (fitG V U) := List.mem_filter.2 ⟨hm', hf'⟩;rw [h0] at a b;simp only [List.mem_singleton] at a b;rw [a, b]
structure ActsOk (N : Nat) (ss : List L2V) : Prop where
 n : ss.length = N
 D : ∀ i, i < ss.length -> ∀ q, q < (ss[i]?.getD noL).x.length -> ((ss[i]?.getD noL).x[q]?.getD noLV).f.D.length = ((ss[i]?.getD noL).x[q]?.getD noLV).f.m
 f : catB N ss = true -> ∀ a ∈ ss, ∀ r ∈ rowsL a.x, RowFit r
theorem LSG.acts {w : World} {ad : Option Addr} {N : Nat} {ss : List L2V} (h : LSG w ad ss) (hN : ss.length = N) : ActsOk N ss := ⟨hN, fun i hi q hq => by
 obtain ⟨_, _, _, _, h2⟩ := h i hi;obtain ⟨_, _, _, _, h3⟩ := h2.2.1 q hq
 exact h3.D.1, fun hc a ha => by
 obtain ⟨i, hi, rfl⟩ := List.mem_iff_getElem.1 ha;obtain ⟨_, _, _, _, h2⟩ := h i hi;rw [qA hi, Option.getD_some] at h2;simp only [catB, Bool.and_eq_true] at hc;have hact : actB ss[i].n ss[i].x = true := List.all_eq_true.1 hc.2 _ ha
 exact rowsL_fit (by rw [h2.1]; exact (actB_parts hact).1) (actB_parts hact).2 h2.2.1⟩
theorem tryL_cases {m : Nat} {C D : List Int} {ss : List IV} {s : Int} {E U : List Int} {f : Nat -> Bool} {st : Bool} {AD TL : List Int} {x1 : Int} {x2 x3 : List Int} (h : tryL m C D ss s E U f st AD TL = (x1, x2, x3, true)) :
  (st = true /\ x1 = 2 /\ x2 = [] /\ x3 = E) \/ (st = false /\ pinned f AD = false /\ okN 3 20000 3 (List.zipWith (· + ·) E AD) = true /\ x1 = 3 /\ x2 = [] /\ x3 = E /\ (List.range 3).any (fun v => over1 (potB m C D ss s (List.zipWith (· + ·) E AD) U v)) = true) \/
  (st = false /\ pinned f AD = false /\ okN 3 20000 3 (List.zipWith (· + ·) E AD) = true /\ x1 = 1 /\ x2 = TL /\ x3 = List.zipWith (· + ·) E AD /\ (List.range 3).any (fun v => over1 (potB m C D ss s (List.zipWith (· + ·) E AD) U v)) = false /\ (List.range 3).any (fun v => may1 (potB m C D ss s (List.zipWith (· + ·) E AD) U v)) = false /\ keepsB (D[s.toNat]?.getD 0) (List.zipWith (· + ·) E AD) ss = true) := by
 unfold tryL at h
 split at h
 ·rename_i hst
  simp only [Prod.mk.injEq] at h
  exact .inl ⟨hst, h.1.symm, h.2.1.symm, h.2.2.1.symm⟩
 rename_i hst
 have hst' : st = false := by simpa using hst
 split at h
 ·simp at h
 rename_i h1
 simp only [Bool.or_eq_true, not_or, Bool.not_eq_true, Bool.not_eq_true', Bool.not_eq_false] at h1;have h11 : pinned f AD = false := by simpa using h1.1
 have h12 : okN 3 20000 3 (List.zipWith (· + ·) E AD) = true := by simpa using h1.2
 split at h
 ·rename_i h2
  simp only [Prod.mk.injEq] at h
  exact .inr (.inl ⟨hst', h11, h12, h.1.symm, h.2.1.symm, h.2.2.1.symm, h2⟩)
 rename_i h2
 split at h
 ·simp at h
 rename_i h3
 simp only [Bool.or_eq_true, not_or, Bool.not_eq_true, Bool.not_eq_true', Bool.not_eq_false] at h2 h3;simp only [Prod.mk.injEq] at h
 exact .inr (.inr ⟨hst', h11, h12, h.1.symm, h.2.1.symm, h.2.2.1.symm, by simpa using h2, by simpa using h3.1, by simpa using h3.2⟩)
theorem zip_at {a b : List Int} (ha : a.length = 3) (hb : b.length = 3) (v : Nat) : (List.zipWith (· + ·) a b)[v]?.getD 0 = a[v]?.getD 0 + b[v]?.getD 0 := by
 match a, ha, b, hb with
 | [a0, a1, a2], _, [b0, b1, b2], _ =>
  rcases v with _ | _ | _ | v <;> simp
theorem rowEnd_zip {V U : List Int} {r : RowM} (hV : V.length = 3) (hr : r.adds.length = 3) : rowEnd V U r = List.zipWith (· + ·) V (r.adds.map (atX V U)) := by
 unfold rowEnd
 match V, hV, r, hr with
 | [a, b, c], _, ⟨g, [d, e, f], t, q⟩, _ => rfl
theorem pots_knownL {acts : List L2V} (m : Nat) (C D : List Int) (s : Int) (U : List Int) : ∀ x v, v < 3 -> (potB m C D (ivs (catP acts)) s x U v).2.2 = true := fun x v hv => by
 have hp : partL (potX v).1 ∈ pots3 := by
  rcases v with _ | _ | _ | v
  ·decide +kernel
  ·decide +kernel
  ·decide +kernel
  omega
 have h1 : (ivs (catP acts)).map IV.x = catP acts := by simp [ivs, Function.comp_def]
 have h2 : ¬ hasI (ivs (catP acts)) (partL (potX v).1) < 0 := by rw [hasI, h1]; exact has_pos (pot_in hp)
 rw [potB, bnds, if_neg h2]
 split <;> rfl
theorem any3_false {p : Nat -> Bool} (h : (List.range 3).any p = false) (v : Nat) (hv : v < 3) : p v = false := by
 rw [List.any_eq_false] at h;simpa using h v (List.mem_range.2 hv)
theorem okN_three {x : List Int} (hl : x.length = 3) (h : ∀ v, v < 3 -> -10000 <= x[v]?.getD 0 /\ x[v]?.getD 0 <= 10000) : okN 3 10000 3 x = true := by
 match x, hl with
 | [a, b, c], _ =>
  have h0 := h 0 (by omega);have h1 := h 1 (by omega);have h2 := h 2 (by omega);simp only [List.getElem?_cons_zero, List.getElem?_cons_succ, Option.getD_some] at h0 h1 h2;simp only [okN, allB, List.all_cons, List.all_nil, Bool.and_true, Bool.and_eq_true, decide_eq_true_eq, inB_iff]
  omega
theorem tryL_stop {m : Nat} {C D : List Int} {ss : List IV} {s : Int} {E U : List Int} {f : Nat -> Bool} {st : Bool} {AD TL : List Int} (h : st = true) : tryL m C D ss s E U f st AD TL = (2, [], E, true) := by
 unfold tryL; rw [if_pos h]
theorem tryL_over {m : Nat} {C D : List Int} {ss : List IV} {s : Int} {E U : List Int} {f : Nat -> Bool} {st : Bool} {AD TL : List Int} (h : st = false) (h1 : pinned f AD = false) (h2 : okN 3 20000 3 (List.zipWith (· + ·) E AD) = true) (h3 : (List.range 3).any (fun v => over1 (potB m C D ss s (List.zipWith (· + ·) E AD) U v)) = true) : tryL m C D ss s E U f st AD TL = (3, [], E, true) := by
 unfold tryL;rw [if_neg (by rw [h]; decide), if_neg (by rw [h1, h2]; decide), if_pos h3]
theorem tryL_done {m : Nat} {C D : List Int} {ss : List IV} {s : Int} {E U : List Int} {f : Nat -> Bool} {st : Bool} {AD TL : List Int} (h : st = false) (h1 : pinned f AD = false) (h2 : okN 3 20000 3 (List.zipWith (· + ·) E AD) = true) (h3 : (List.range 3).any (fun v => over1 (potB m C D ss s (List.zipWith (· + ·) E AD) U v)) = false) (h4 : (List.range 3).any (fun v => may1 (potB m C D ss s (List.zipWith (· + ·) E AD) U v)) = false) (h5 : keepsB (D[s.toNat]?.getD 0) (List.zipWith (· + ·) E AD) ss = true) : tryL m C D ss s E U f st AD TL = (1, TL, List.zipWith (· + ·) E AD, true) := by
 unfold tryL;rw [if_neg (by rw [h]; decide), if_neg (by rw [h1, h2]; decide), if_neg (by rw [h3]; decide), if_neg (by rw [h4, h5]; decide)]
theorem tryL_pin {m : Nat} {C D : List Int} {ss : List IV} {s : Int} {E U : List Int} {f : Nat -> Bool} {st : Bool} {AD TL : List Int} (h : st = false) (h1 : pinned f AD = true) : tryL m C D ss s E U f st AD TL = (0, [], E, false) := by
 unfold tryL;rw [if_neg (by rw [h]; decide), if_pos (by rw [h1]; rfl)]
theorem tryL_keep {m : Nat} {C D : List Int} {ss : List IV} {s : Int} {E U : List Int} {f : Nat -> Bool} {st : Bool} {AD TL : List Int} (h : st = false) (h1 : pinned f AD = false) (h2 : okN 3 20000 3 (List.zipWith (· + ·) E AD) = true) (h3 : (List.range 3).any (fun v => over1 (potB m C D ss s (List.zipWith (· + ·) E AD) U v)) = false) (h5 : keepsB (D[s.toNat]?.getD 0) (List.zipWith (· + ·) E AD) ss = false) : tryL m C D ss s E U f st AD TL = (0, [], E, false) := by
 unfold tryL;rw [if_neg (by rw [h]; decide), if_neg (by rw [h1, h2]; decide), if_neg (by rw [h3]; decide), if_pos (by rw [h5]; simp)]
theorem others_mono {D D' : List Int} {s : Int} (hg : ∀ i : Nat, i < D.length -> 0 <= D[i]?.getD 0 /\ D[i]?.getD 0 <= 50) (hg' : ∀ i : Nat, i < D'.length -> 0 <= D'[i]?.getD 0 /\ D'[i]?.getD 0 <= 50) : ∀ k : Nat, k <= D.length -> k <= D'.length -> k <= 3 -> (∀ i : Nat, i < k -> (i : Int) ≠ s -> D'[i]?.getD 0 <= D[i]?.getD 0) -> others D' s k <= others D s k
 | 0, _, _, _, _ => by simp [others]
 | k + 1, h1, h2, h3, h => by
  have ih := others_mono (s := s) hg hg' k (by omega) (by omega) (by omega) (fun i hi => h i (by omega));have o1 := others_bnd (s := s) hg k (by omega) (by omega);have o2 := others_bnd (s := s) hg' k (by omega) (by omega);have d1 := hg k (by omega);have d2 := hg' k (by omega);rw [others, others]
  by_cases e : (k : Int) = s
  ·rw [if_pos e, if_pos e]; exact ih
  have hh := h k (by omega) e;rw [if_neg e, if_neg e, IntWalk.wrap64_in _ ⟨by omega, by omega⟩, IntWalk.wrap64_in _ ⟨by omega, by omega⟩]
  omega
theorem bnds_mono {m : Nat} {C D D' : List Int} {P : List IV} {s : Int} {E FC FD : List Int} {FK : Int} {U : List Int} {lo hi : Int} (ho : others D' s m <= others D s m) (h : bnds m C D P s E FC FD FK U = (lo, hi, true)) : ∃ lo' hi', bnds m C D' P s E FC FD FK U = (lo', hi', true) /\ lo <= lo' /\ hi' <= hi := by
 unfold bnds at h ⊢
 split at h
 ·rename_i h0
  rw [if_pos h0];simp only [Prod.mk.injEq] at h
  exact ⟨_, _, rfl, by omega, by omega⟩
 rename_i h0
 split at h
 ·simp at h
 rename_i h1
 rw [if_neg h0, if_neg h1];simp only [Prod.mk.injEq] at h
 exact ⟨_, _, rfl, by omega, by omega⟩
theorem sure_mono {m : Nat} {C D D' : List Int} {P : List IV} {s : Int} {E U : List Int} {r : RowM} (ho : others D' s m <= others D s m) (h : sureR m C D P s E U r = true) : sureR m C D' P s E U r = true := by
 unfold sureR at h ⊢;rw [List.all_eq_true] at h ⊢;intro g hg;have h1 := h g hg;unfold sureG at h1 ⊢;simp only [Bool.and_eq_true, decide_eq_true_eq] at h1 ⊢;obtain ⟨lo, hi, b, e⟩ : ∃ lo hi b, bnds m C D P s E g.1 g.2.1 g.2.2 U = (lo, hi, b) := ⟨_, _, _, rfl⟩
 rw [e] at h1;obtain ⟨rfl, h0⟩ := h1;obtain ⟨lo', hi', e', h1, h2⟩ := bnds_mono ho e;rw [e'];dsimp only at h0 ⊢
 exact ⟨rfl, by omega⟩
theorem sure_here {m : Nat} {C D : List Int} {P : List IV} {s : Int} {E U : List Int} {r : RowM} (ho : 0 <= others D s m) (h : sureR m C D P s E U r = true) : fitG (List.zipWith (· + ·) C E) U r = true := by
 unfold sureR at h;unfold fitG;rw [List.all_eq_true] at h ⊢;intro g hg;have h1 := h g hg;unfold sureG at h1;simp only [Bool.and_eq_true, decide_eq_true_eq] at h1
 have h2 : 0 <= atX (List.zipWith (· + ·) C E) U g := by
  obtain ⟨h3, h4⟩ := h1
  show 0 <= atV _ _ _ _ _
  unfold bnds at h3 h4
  split at h4
  ·exact h4
  split at h4
  ·rename_i h5 h6
   rw [if_neg h5, if_pos h6] at h3
   cases h3
  dsimp only at h4
  omega
 exact decide_eq_true h2
theorem keepsB_mono {g g' : Int} {E : List Int} {P : List IV} (h : keepsB g E P = true) (hg : g <= g') : keepsB g' E P = true := by
 unfold keepsB at h ⊢;rw [List.all_eq_true] at h ⊢;intro p hp;have := inB_iff.1 (h p hp)
 exact inB_iff.2 ⟨by omega, by omega⟩
theorem any3_true {p : Nat -> Bool} {v : Nat} (hv : v < 3) (h : p v = true) : (List.range 3).any p = true := List.any_eq_true.2 ⟨v, List.mem_range.2 hv, h⟩
theorem loc_more {n m : Nat} {C D D' : List Int} {N : Nat} {ss : List L2V} {s : Int} {k : Nat} {E : List Int} {kk : Int} {l : Nat} {U : List Int} {x1 : Int} {x2 x3 : List Int} (hC : C.length = n) (hD : D.length = m) (hE : E.length = k) (hA : ActsOk N ss)
  (hD' : D'.length = m) (hg' : ∀ i : Nat, i < m -> 0 <= D'[i]?.getD 0 /\ D'[i]?.getD 0 <= 50) (hs : D[s.toNat]?.getD 0 <= D'[s.toNat]?.getD 0) (ho : ∀ i : Nat, i < m -> (i : Int) ≠ s -> D'[i]?.getD 0 <= D[i]?.getD 0)
  (h : locL n m C D N ss s k E kk l U = (x1, x2, x3, true)) : locL n m C D' N ss s k E kk l U = (x1, x2, x3, true) := by
 obtain ⟨hcat, hkk, hU, hv, hk, hp, r, hr, ht⟩ := loc_out h;obtain ⟨n3, _, m1, m3, hP, s0, sm, k3, _, hg⟩ := viewB_elim hv;have hC3 : C.length = 3 := by omega
 have hE3 : E.length = 3 := by omega
 have hg2 : ∀ i : Nat, i < D'.length -> 0 <= D'[i]?.getD 0 /\ D'[i]?.getD 0 <= 50 := fun i hi => hg' i (by omega);have hot := others_mono (s := s) hg hg2 m (by omega) (by omega) m3 ho;have o0 := (others_bnd (s := s) hg2 m (by omega) m3).1;have hkk' := inB_iff.1 hkk;have hN := hA.n;have hkl : kk.toNat < ss.length := by omega
 have hmem : ss[kk.toNat]?.getD noL ∈ ss := by rw [qA hkl]; exact List.getElem_mem _
 have hF' := hA.D _ hkl
 have hact : (ss[kk.toNat]?.getD noL).x.all LV.ok = true := by
  simp only [catB, Bool.and_eq_true] at hcat
  exact (actB_six (List.all_eq_true.1 hcat.2 _ hmem)).2
 have hb : betB 0 50 D' = true := by
  unfold betB;rw [List.all_eq_true];intro z hz;obtain ⟨i, hi, rfl⟩ := List.mem_iff_getElem.1 hz;have := hg2 i hi;rw [qA hi] at this
  exact inB_iff.2 this
 have hv' : viewB n m C D' (ivs (catP ss)) s k E = true := by
  unfold viewB trtB at hv ⊢;simp only [Bool.and_eq_true] at hv ⊢
  exact ⟨⟨hv.1.1, hv.1.2.1, hb⟩, hv.2⟩
 have hk' := keepsB_mono hk hs;unfold locL;rw [if_neg (by rw [hcat, hkk, hU]; decide), if_neg (by rw [hv', hk', hp]; decide)];generalize ss[kk.toNat]?.getD noL = a at hmem hF' hact hr ⊢;have hrm : r ∈ rowsL a.x := List.mem_of_find?_eq_some hr;have hsure := sure_mono hot (List.find?_some hr)
 have hf : (rowsL a.x).find? (sureR m C D' (ivs (catP ss)) s E U) = some r := by
  cases hq : (rowsL a.x).find? (sureR m C D' (ivs (catP ss)) s E U) with
  | none => exact absurd hsure (List.find?_eq_none.1 hq r hrm)
  | some r' =>
   have e := way_oneL (zip_len hC3 hE3) hact hF' (List.mem_of_find?_eq_some hq) (sure_here o0 (List.find?_some hq)) hrm (sure_here o0 hsure);rw [e]
 rw [hf];dsimp only
 have hpot : ∀ x v, v < 3 -> ∃ lo hi lo' hi', potB m C D (ivs (catP ss)) s x U v = (lo, hi, true) /\ potB m C D' (ivs (catP ss)) s x U v = (lo', hi', true) /\ lo <= lo' /\ hi' <= hi /\ lo' <= hi' := fun x v hv3 => by
  have hb := pots_knownL (acts := ss) m C D s U x v hv3;obtain ⟨lo, hi, b, e⟩ : ∃ lo hi b, potB m C D (ivs (catP ss)) s x U v = (lo, hi, b) := ⟨_, _, _, rfl⟩
  rw [e] at hb;have hb : b = true := hb;subst hb;obtain ⟨lo', hi', e', h1, h2⟩ := bnds_mono hot e;refine ⟨lo, hi, lo', hi', e, e', h1, h2, ?_⟩;unfold bnds at e'
  split at e'
  ·simp only [Prod.mk.injEq] at e'; omega
  split at e'
  ·simp at e'
  simp only [Prod.mk.injEq] at e'; omega
 unfold tryR at ht ⊢
 rcases tryL_cases ht with ⟨hst, rfl, rfl, e3⟩ | ⟨hst, h1, h2, rfl, rfl, e3, hov⟩ | ⟨hst, h1, h2, rfl, rfl, e3, hov, hmy, hkp⟩
 ·rw [tryL_stop hst, e3]
 ·rw [tryL_over hst h1 h2 ?_, e3];rw [List.any_eq_true] at hov;obtain ⟨v, hv3, hov⟩ := hov;have hv3 := List.mem_range.1 hv3;obtain ⟨lo, hi, lo', hi', e, e', c1, c2, c3⟩ := hpot (List.zipWith (· + ·) E (r.adds.map (atX C U))) v hv3;refine any3_true hv3 ?_;rw [e] at hov;rw [e'];unfold over1 at hov ⊢;simp only [Bool.or_eq_true, decide_eq_true_eq] at hov ⊢
  omega
 have hm : ∀ v, v < 3 -> over1 (potB m C D' (ivs (catP ss)) s (List.zipWith (· + ·) E (r.adds.map (atX C U))) U v) = false /\ may1 (potB m C D' (ivs (catP ss)) s (List.zipWith (· + ·) E (r.adds.map (atX C U))) U v) = false := fun v hv3 => by
  have hm1 := any3_false hmy v hv3;obtain ⟨lo, hi, lo', hi', e, e', c1, c2, c3⟩ := hpot (List.zipWith (· + ·) E (r.adds.map (atX C U))) v hv3;rw [e] at hm1;rw [e'];unfold may1 at hm1 ⊢;unfold over1;simp only [Bool.or_eq_false_iff, decide_eq_false_iff_not] at hm1 ⊢
  omega
 rw [tryL_done hst h1 h2 (any_none fun v hv3 => (hm v hv3).1) (any_none fun v hv3 => (hm v hv3).2) (keepsB_mono hkp hs), e3]
theorem foldl_inv {α : Type} {P : List (List Int) -> Prop} {f : List (List Int) -> α -> List (List Int)} : ∀ (xs : List α) (ps : List (List Int)), (∀ ps a, a ∈ xs -> P ps -> P (f ps a)) -> P ps -> P (xs.foldl f ps)
 | [], ps, _, h => h
 | a :: xs, ps, hf, h => foldl_inv xs (f ps a) (fun ps b hb => hf ps b (List.mem_cons_of_mem _ hb)) (hf ps a (by simp) h)
def PartOk (ps : List (List Int)) : Prop := ∀ p ∈ ps, p.length = 3 /\ bnd 10000000 p
theorem partL_bnd {FC : List Int} (hl : FC.length = 3) (b : bnd 10000000 FC) : (partL FC).length = 3 /\ bnd 10000000 (partL FC) := by
 match FC, hl with
 | [x0, x1, x2], _ =>
  have b0 := b 0;have b1 := b 1;have b2 := b 2;simp only [List.getElem?_cons_zero, List.getElem?_cons_succ, Option.getD_some] at b0 b1 b2;have hs : sg [x0, x1, x2] = 1 \/ sg [x0, x1, x2] = -1 := by unfold sg; split <;> simp
  have e : partL [x0, x1, x2] = [wrap64 (sg [x0, x1, x2] * x0), wrap64 (sg [x0, x1, x2] * x1), wrap64 (sg [x0, x1, x2] * x2)] := rfl;rw [e];generalize sg [x0, x1, x2] = g at *;refine ⟨rfl, fun i => ?_⟩
  rcases hs with rfl | rfl
  iterate 2
   ·rw [IntWalk.wrap64_in _ ⟨by omega, by omega⟩, IntWalk.wrap64_in _ ⟨by omega, by omega⟩, IntWalk.wrap64_in _ ⟨by omega, by omega⟩]
    rcases i with _ | _ | _ | i <;> simp <;> omega
theorem addPb_ok {ps : List (List Int)} {p : List Int} (h : PartOk ps) (hp : p.length = 3 /\ bnd 10000000 p) : PartOk (addPb ps p) := by
 intro q hq;unfold addPb at hq
 split at hq
 ·exact h q hq
 rcases List.mem_append.1 hq with hq | hq
 ·exact h q hq
 simp only [List.mem_singleton] at hq;subst hq; exact hp
theorem catP_ok {ss : List L2V} (hfit : ∀ a ∈ ss, ∀ r ∈ rowsL a.x, RowFit r) : PartOk (catP ss) := by
 unfold catP actsP;refine foldl_inv ss pots3 (fun ps a ha hps => ?_) ?_
 ·unfold rowsP;refine foldl_inv (rowsL a.x) ps (fun ps r hr hps => ?_) hps;unfold guardsP;refine foldl_inv r.guards ps (fun ps g hg hps => ?_) hps;obtain ⟨j, hj, rfl⟩ := List.mem_iff_getElem.1 hg;have hf := (hfit a ha r hr).g j hj;rw [qA hj, Option.getD_some] at hf
  exact addPb_ok hps (partL_bnd hf.c hf.bc)
 intro p hp;simp only [pots3, List.mem_cons, List.not_mem_nil, or_false] at hp
 rcases hp with rfl | rfl | rfl <;> refine ⟨rfl, fun i => ?_⟩ <;> rcases i with _ | _ | _ | i <;> simp
theorem bnd_allO {m : Int} {zs : List Int} (h : bnd m zs) : allB m zs = true := by
 unfold allB;rw [List.all_eq_true];intro z hz;obtain ⟨i, hi, rfl⟩ := List.mem_iff_getElem.1 hz;have := h i;rw [qA hi] at this
 exact inB_iff.2 this
theorem parts_ok {ss : List L2V} (hfit : ∀ a ∈ ss, ∀ r ∈ rowsL a.x, RowFit r) : partsB (ivs (catP ss)) = true := by
 unfold partsB ivs;rw [List.all_map, List.all_eq_true];intro p hp;have h := catP_ok hfit p hp
 show okN 3 10000000 3 p = true
 rw [okN, bnd_allO h.2]
 rfl
theorem zip_zero {C : List Int} (h : C.length = 3) : List.zipWith (· + ·) C [0, 0, 0] = C := by
 match C, h with
 | [a, b, c], _ => simp
theorem zero_zip {C : List Int} (h : C.length = 3) : List.zipWith (· + ·) [0, 0, 0] C = C := by
 match C, h with
 | [a, b, c], _ => simp
theorem zip_sub {C A : List Int} (h : C.length = 3) (h' : A.length = 3) : List.zipWith (· - ·) (List.zipWith (· + ·) C A) C = A := by
 match C, h, A, h' with
 | [a, b, c], _, [d, e, f], _ =>
  simp only [List.zipWith_cons_cons, List.zipWith_nil_right, List.cons.injEq, and_true]
  omega
theorem others_one {g : Int} : others [g] 0 1 = 0 := by simp [others]
theorem bnds_one {C : List Int} {g : Int} {ss : List L2V} {E FC FD : List Int} {FK : Int} {U : List Int} (h : partL FC = [0, 0, 0] \/ partL FC ∈ catP ss) : bnds 1 C [g] (ivs (catP ss)) 0 E FC FD FK U = (atV FC FD FK (List.zipWith (· + ·) C E) U, atV FC FD FK (List.zipWith (· + ·) C E) U, true) := by
 unfold bnds
 by_cases h0 : eqB (partL FC) [0, 0, 0] = true
 ·rw [if_pos h0]
 rw [if_neg h0];have h1 : (ivs (catP ss)).map IV.x = catP ss := by simp [ivs, Function.comp_def]
 have hm : partL FC ∈ catP ss := by
  rcases h with h | h
  ·exact absurd (by rw [eqB, h]; simp) h0
  exact h
 rw [if_neg (by rw [hasI, h1]; exact has_pos hm), others_one];simp
theorem loc_alone {n : Nat} {C : List Int} {g : Int} {N : Nat} {ss : List L2V} {kk : Int} {l : Nat} {U : List Int} {x1 : Int} {x2 x3 : List Int} {b : Bool} (hC : C.length = n) (hA : ActsOk N ss)
  (hcat : catB N ss = true) (htr : trtB n 1 C [g] = true) (hU : okN 2 9 l U = true) (hkk : inB kk 0 ((N : Int) - 1) = true) (h : locL n 1 C [g] N ss 0 3 [0, 0, 0] kk l U = (x1, x2, x3, b)) :
  (runCode (ss[kk.toNat]?.getD noL).n (ss[kk.toNat]?.getD noL).x 3 C l U = 3 \/ b = (!pinned (pinsA ss) (List.zipWith (· - ·) (runPots (ss[kk.toNat]?.getD noL).n (ss[kk.toNat]?.getD noL).x 3 C l U) C) && keepB n 1 C [g] (ivs (catP ss)) 0 3 (List.zipWith (· - ·) (runPots (ss[kk.toNat]?.getD noL).n (ss[kk.toNat]?.getD noL).x 3 C l U) C)) \/ (runCode (ss[kk.toNat]?.getD noL).n (ss[kk.toNat]?.getD noL).x 3 C l U = 2 /\ b = true)) /\
   (b = true -> x1 = runCode (ss[kk.toNat]?.getD noL).n (ss[kk.toNat]?.getD noL).x 3 C l U /\ x2 = runTells (ss[kk.toNat]?.getD noL).n (ss[kk.toNat]?.getD noL).x 3 C l U) := by
 have htr' := htr;unfold trtB at htr;simp only [Bool.and_eq_true] at htr;have bC := okN_elim (by omega) htr.1;have hn3 : n = 3 := by omega
 have hC3 : C.length = 3 := by omega
 have hg0 : 0 <= g /\ g <= 50 := by
  have := htr.2.2;simp only [betB, List.all_cons, List.all_nil, Bool.and_true] at this
  exact inB_iff.1 this
 have hkk' := inB_iff.1 hkk;have hN := hA.n;have hkl : kk.toNat < ss.length := by omega
 have hmem : ss[kk.toNat]?.getD noL ∈ ss := by rw [qA hkl]; exact List.getElem_mem _
 have hF' := hA.D _ hkl
 have hact : actB (ss[kk.toNat]?.getD noL).n (ss[kk.toNat]?.getD noL).x = true := by
  simp only [catB, Bool.and_eq_true] at hcat
  exact List.all_eq_true.1 hcat.2 _ hmem
 have hPO := parts_ok (hA.f hcat)
 have hview : ∀ E, okN 3 20000 3 E = true -> viewB n 1 C [g] (ivs (catP ss)) 0 3 E = true := fun E hE => by
  unfold viewB;rw [htr', hPO, hE]; rfl
 have hv := hview [0, 0, 0] (by decide)
 have hk0 : keepsB ([g][(0 : Int).toNat]?.getD 0) [0, 0, 0] (ivs (catP ss)) = true := by
  unfold keepsB;rw [List.all_eq_true];intro p _;refine inB_iff.2 ?_
  show -g <= dot p.x [0, 0, 0] 3 /\ dot p.x [0, 0, 0] 3 <= g
  simp [dot]
  omega
 have hp0 : pinned (pinsA ss) [0, 0, 0] = false := any_none fun j hj => by
  rcases j with _ | _ | _ | j <;> simp
 have hV : okN 3 10000 3 C = true := by rw [<- hn3] ; exact (by simpa [hn3] using htr.1)
 unfold locL at h;rw [if_neg (by rw [hcat, hkk, hU]; decide), if_neg (by rw [hv, hk0, hp0]; decide)] at h;generalize ss[kk.toNat]?.getD noL = a at hmem hF' hact h ⊢;have hall := (actB_six hact).2;have hB : runB a.n a.x 3 C l U = true := by rw [runB, hact, hV, hU]; rfl
 obtain ⟨r, hr, W⟩ := runL_way (V := C) (U := U) hC3 hall hF';have hrr : r ∈ rowsL a.x /\ fitG C U r = true := List.mem_filter.1 (by rw [hr]; simp);obtain ⟨hrm, hfr⟩ := hrr
 have hsure : sureR 1 C [g] (ivs (catP ss)) 0 [0, 0, 0] U r = true := by
  unfold sureR;rw [List.all_eq_true];intro q hq;unfold sureG;rw [bnds_one (catP_guard hmem hrm hq), zip_zero hC3];unfold fitG at hfr;have h0 := of_decide_eq_true (List.all_eq_true.1 hfr q hq);have h1 : 0 <= atV q.1 q.2.1 q.2.2 C U := h0;simp only [Bool.true_and, decide_eq_true_eq]
  exact h1
 have hf : (rowsL a.x).find? (sureR 1 C [g] (ivs (catP ss)) 0 [0, 0, 0] U) = some r := by
  cases hq : (rowsL a.x).find? (sureR 1 C [g] (ivs (catP ss)) 0 [0, 0, 0] U) with
  | none => exact absurd hsure (List.find?_eq_none.1 hq r hrm)
  | some r' =>
   have h1 := sure_here (by rw [others_one]; omega) (List.find?_some hq);rw [zip_zero hC3] at h1;rw [way_oneL hC3 hall hF' (List.mem_of_find?_eq_some hq) h1 hrm hfr]
 rw [hf] at h;dsimp only at h;unfold tryR at h;have hrs := goW_sh a.x 7 0 way0 r hrm
 cases hst : r.stop
 ·have hal := hrs.2 hst;have hA3 : (r.adds.map (atX C U)).length = 3 := by rw [qC]; exact hal
  have hrun : runL U a.x C = (false, rowEnd C U r, r.tells.map (atX C U)) := by
   have q := W.ad hst;have q0 := W.st;rw [hst] at q0;generalize runL U a.x C = z at q q0;obtain ⟨z1, z2, z3⟩ := z;dsimp only at q q0;rw [q0, q.1, q.2]
  have hgo := run_go hB hrun;rw [rowEnd_zip hC3 hal] at hgo;generalize hAD : r.adds.map (atX C U) = AD at h hgo hA3;generalize hTL : r.tells.map (atX C U) = TL at h hgo;have hzl : (List.zipWith (· + ·) C AD).length = 3 := zip_len hC3 hA3
  have hpot : ∀ v, v < 3 -> potB 1 C [g] (ivs (catP ss)) 0 (List.zipWith (· + ·) [0, 0, 0] AD) U v = ((List.zipWith (· + ·) C AD)[v]?.getD 0, (List.zipWith (· + ·) C AD)[v]?.getD 0, true) := fun v hv3 => by
   rw [potB, bnds_one, zero_zip hA3]
   ·have e : atV (potX v).1 (potX v).2.1 (potX v).2.2 (List.zipWith (· + ·) C AD) U = (List.zipWith (· + ·) C AD)[v]?.getD 0 := atX_pot hv3;rw [e]
   right
   refine pot_in ?_
   rcases v with _ | _ | _ | v
   ·decide +kernel
   ·decide +kernel
   ·decide +kernel
   omega
  cases hk : okN 3 10000 3 (List.zipWith (· + ·) C AD)
  ·have c1 : endCode (List.zipWith (· + ·) C AD) = 3 := by rw [endCode, hk]; rfl
   have c2 : endTells (List.zipWith (· + ·) C AD) TL = [] := by rw [endTells, hk]; rfl
   rw [hgo.1, hgo.2.1, c1, c2];refine ⟨.inl rfl, fun hb => ?_⟩;subst hb;rw [hst] at h
   rcases tryL_cases h with ⟨hs2, _⟩ | ⟨_, _, _, e1, e2, _⟩ | ⟨_, _, _, _, _, _, hov, hmy, _⟩
   ·cases hs2
   ·exact ⟨e1, e2⟩
   exfalso
   have : okN 3 10000 3 (List.zipWith (· + ·) C AD) = true := okN_three hzl fun v hv3 => by
    have h1 := any3_false hmy v hv3;rw [hpot v hv3] at h1;unfold may1 at h1;simp only [Bool.or_eq_false_iff, decide_eq_false_iff_not] at h1
    omega
   rw [hk] at this; cases this
  have c1 : endCode (List.zipWith (· + ·) C AD) = 1 := by rw [endCode, hk]; rfl
  have c2 : endTells (List.zipWith (· + ·) C AD) TL = TL := by rw [endTells, hk]; rfl
  have c3 : endPots C (List.zipWith (· + ·) C AD) = List.zipWith (· + ·) C AD := by rw [endPots, hk]; rfl
  rw [hgo.1, hgo.2.1, hgo.2.2, c1, c2, c3, zip_sub hC3 hA3];have bz := (okN_elim (by omega) hk).2
  have ho : okN 3 20000 3 AD = true := by
   rw [okN, bnd_allO (fun v => ?_)]
   ·rfl
   by_cases hv3 : v < 3
   ·have h1 := bz v;have h2 := bC.2 v;rw [zip_at hC3 hA3] at h1
    omega
   rw [List.getElem?_eq_none (by omega)]; simp
  have hz := zero_zip hA3;have ho' : okN 3 20000 3 (List.zipWith (· + ·) [0, 0, 0] AD) = true := by rw [hz]; exact ho
  have hov : (List.range 3).any (fun v => over1 (potB 1 C [g] (ivs (catP ss)) 0 (List.zipWith (· + ·) [0, 0, 0] AD) U v)) = false := any_none fun v hv3 => by
   have h1 := bz v;rw [hpot v hv3];unfold over1;simp only [Bool.or_eq_false_iff, decide_eq_false_iff_not]
   omega
  have hmy : (List.range 3).any (fun v => may1 (potB 1 C [g] (ivs (catP ss)) 0 (List.zipWith (· + ·) [0, 0, 0] AD) U v)) = false := any_none fun v hv3 => by
   have h1 := bz v;rw [hpot v hv3];unfold may1;simp only [Bool.or_eq_false_iff, decide_eq_false_iff_not]
   omega
  have hkb : keepB n 1 C [g] (ivs (catP ss)) 0 3 AD = keepsB ([g][(0 : Int).toNat]?.getD 0) AD (ivs (catP ss)) := by
   rw [keepB, hview AD ho]; rfl
  rw [hkb]
  cases hpn : pinned (pinsA ss) AD
  ·cases hkp : keepsB ([g][(0 : Int).toNat]?.getD 0) AD (ivs (catP ss))
   ·rw [tryL_keep hst hpn ho' hov (by rw [hz]; exact hkp)] at h;simp only [Prod.mk.injEq] at h;rw [<- h.2.2.2]
    exact ⟨.inr (.inl rfl), fun x => by cases x⟩
   rw [tryL_done hst hpn ho' hov hmy (by rw [hz]; exact hkp)] at h;simp only [Prod.mk.injEq] at h;rw [<- h.2.2.2, <- h.1, <- h.2.1]
   exact ⟨.inr (.inl rfl), fun _ => ⟨rfl, rfl⟩⟩
  rw [tryL_pin hst hpn] at h;simp only [Prod.mk.injEq] at h;rw [<- h.2.2.2]
  exact ⟨.inr (.inl rfl), fun x => by cases x⟩
 have hstop := run_stop hB (by rw [W.st]; exact hst);rw [tryL_stop hst] at h;simp only [Prod.mk.injEq] at h;rw [hstop.1, hstop.2.1, <- h.1, <- h.2.1, <- h.2.2.2]
 exact ⟨.inr (.inr ⟨rfl, rfl⟩), fun _ => ⟨rfl, rfl⟩⟩
theorem loc_len {n m : Nat} {C D : List Int} {N : Nat} {ss : List L2V} {s : Int} {k : Nat} {E : List Int} {kk : Int} {l : Nat} {U : List Int} {x1 : Int} {x2 x3 : List Int} {b : Bool} (hE : E.length = k) (hk4 : k <= 4) (hA : ActsOk N ss) (h : locL n m C D N ss s k E kk l U = (x1, x2, x3, b)) : x2.length <= 1000 /\ x3.length <= 4 := by
 unfold locL at h
 split at h
 ·simp only [Prod.mk.injEq] at h;rw [<- h.2.1, <- h.2.2.1]; simp
 rename_i h1
 split at h
 ·simp only [Prod.mk.injEq] at h;rw [<- h.2.1, <- h.2.2.1]; simp
 rename_i h2
 simp only [Bool.or_eq_true, not_or, Bool.not_eq_true, Bool.not_eq_true', Bool.not_eq_false] at h1 h2;have hkk : inB kk 0 ((N : Int) - 1) = true := by simpa using h1.1.2
 have hcat : catB N ss = true := by simpa using h1.1.1
 have hkk' := inB_iff.1 hkk;have hN := hA.n;have hkl : kk.toNat < ss.length := by omega
 have hmem : ss[kk.toNat]?.getD noL ∈ ss := by rw [qA hkl]; exact List.getElem_mem _
 generalize ss[kk.toNat]?.getD noL = a at hmem h
 cases hf : (rowsL a.x).find? (sureR m C D (ivs (catP ss)) s E U) with
 | none =>
  rw [hf] at h;simp only [Prod.mk.injEq] at h;rw [<- h.2.1, <- h.2.2.1]; simp; omega
 | some r =>
  rw [hf] at h;have hrm := List.mem_of_find?_eq_some hf;have hr := hA.f hcat a hmem r hrm;have ht := hr.lt;have ha := hr.la;dsimp only at h;unfold tryR tryL at h;have hz : (List.zipWith (· + ·) E (r.adds.map (atX C U))).length <= 4 := by rw [List.length_zipWith]; omega
  have ht' : (r.tells.map (atX C U)).length <= 1000 := by rw [qC]; exact ht
  generalize List.zipWith (· + ·) E (r.adds.map (atX C U)) = Z at h hz;generalize r.tells.map (atX C U) = T at h ht';have hE' : E.length <= 4 := by omega
  split at h
  ·simp only [Prod.mk.injEq] at h;rw [<- h.2.1, <- h.2.2.1]; exact ⟨by simp, hE'⟩
  split at h
  ·simp only [Prod.mk.injEq] at h;rw [<- h.2.1, <- h.2.2.1]; exact ⟨by simp, hE'⟩
  split at h
  ·simp only [Prod.mk.injEq] at h;rw [<- h.2.1, <- h.2.2.1]; exact ⟨by simp, hE'⟩
  split at h
  ·simp only [Prod.mk.injEq] at h;rw [<- h.2.1, <- h.2.2.1]; exact ⟨by simp, hE'⟩
  simp only [Prod.mk.injEq] at h;rw [<- h.2.1, <- h.2.2.1]; exact ⟨ht', hz⟩
theorem vw_isg {W : World} {G : Nat} {ts : List IV} (h : (∃ cur, Cel W G cur 24 /\ ∀ i, i < ts.length -> cur[i]? = some (ts[i]?.getD noI).v) /\ (∀ i, i < ts.length -> IG W (ts[i]?.getD noI)) /\ ∀ i, i < ts.length -> (ts[i]?.getD noI).n = 3) : ISG W (some ⟨G, 0, none⟩) ts := PG.isg ⟨h.1, h.2.1⟩
theorem pParts {ad : Option Addr} {N cap : Nat} (ss : List L2V) {w : World} (hN : ss.length = N) (hF : LSG w ad ss) (hN1 : N <= 1048576) (hc : catB N ss = true) :
  Calls Tryz.prog 14 #[.slice ad N cap] w fun e w' => ∃ G cG ts n, e = .returned (.slice (some ⟨G, 0, none⟩) n cG) /\ Below w.heap.size w w' /\ ISG w' (some ⟨G, 0, none⟩) ts /\ ts.length = n /\ n <= 600000 /\ ts.length = (ivs (catP ss)).length /\ copiesIS (ivs (catP ss)) ts :=
 (icatforms_any ad N cap ss w hN hF hN1).mono fun e w' h => by
  obtain ⟨b, ⟨hA, _⟩ | ⟨_, G, cG, ts, bs, he, hx, j⟩⟩ := h
  ·rw [hA] at hc; cases hc
  have hl : ts.length = (catP ss).length := by rw [<- hx, qC]
  have h4 : ss.length <= 4 := by
   simp only [catB, Bool.and_eq_true] at hc;have := inB_iff.1 hc.1
   omega
  have hle := catP_le h4;have hcp := copies_ivs hx (fun i hi => (j.k i hi).1)
  exact ⟨G, cG, ts, _, he, b, vw_isg (j.vwt (X := w'.heap.size) hl (Touch.refl _ _) (.inr (qB _))), hl, hle, hcp.1, hcp.2⟩
theorem pPins {ad : Option Addr} {N cap : Nat} (ss : List L2V) {w : World} (hN : ss.length = N) (hF : LSG w ad ss) (hN1 : N <= 1048576) (hc : catB N ss = true) :
  Calls Tryz.prog 15 #[.slice ad N cap] w fun e w' => ∃ G cG, e = .returned (.slice (some ⟨G, 0, none⟩) 3 cG) /\ Below w.heap.size w w' /\ OwnBB w' G (pinsA ss) /\ w.heap.size <= G :=
 (icatpins_any ad N cap ss w hN hF hN1).mono fun e w' h => by
  obtain ⟨b, ⟨hA, _⟩ | ⟨_, G, cG, he, lG, ho⟩⟩ := h
  ·rw [hA] at hc; cases hc
  exact ⟨G, cG, he, b, ho, lG⟩
theorem pKeep {a : Option Addr} {n cap : Nat} {c : Option Addr} {m cap' : Nat} {ad : Option Addr} {N pc : Nat} (s : Int) {e : Option Addr} {k ec : Nat} (C D E : List Int) (ts : List IV) (P : List IV) {w : World}
  (hC : Ints w a n C) (hD : Ints w c m D) (hE : Ints w e k E) (hN : ts.length = N) (hF : ISG w ad ts) (hl : ts.length = P.length) (hcp : copiesIS P ts) (hn : n <= 1048576 := by omega) (hm : m <= 1048576 := by omega) (hk : k <= 1048576 := by omega) (hN1 : N <= 1048576 := by omega) :
  Calls Tryz.prog 16 #[treV a n cap c m cap', .slice ad N pc, .int .i64 s, .slice e k ec] w fun r w' => r = .returned (.bool (keepB n m C D P s k E)) /\ Below w.heap.size w w' :=
 (ikeep_any a n cap c m cap' ad N pc s e k ec C D E ts w hC hD hE hN hF hn hm hk hN1).mono fun r w' h => ⟨by rw [h.1, keepB_copy hl hcp], h.2⟩
theorem field_zero (Z1 Z2 : Nat) (W : World) : (Instr.field 86 (formV (some ⟨Z1, 0, none⟩) 3 3 (some ⟨Z2, 0, none⟩) 2 2 0) 0).run Tryz.prog W = .ok (.slice (some ⟨Z1, 0, none⟩) 3 3) W := by kernel_rfl
theorem sbounds_any (a : Option Addr) (n cap : Nat) (c : Option Addr) (m cap' : Nat) (ad : Option Addr) (N pc : Nat) (s : Int) (e : Option Addr) (k ec : Nat) (fa : Option Addr) (fn fcap : Nat) (fc : Option Addr) (fm fcap' : Nat) (FK : Int) (u : Option Addr) (l uc : Nat) (C D E FC FD U : List Int) (ss : List IV) (w : World)
  (hC : Ints w a n C) (hD : Ints w c m D) (hE : Ints w e k E) (hA : Ints w fa fn FC) (hB : Ints w fc fm FD) (hU : Ints w u l U) (hN : ss.length = N) (hF : ISG w ad ss) (hn : n <= 1048576) (hm : m <= 1048576) (hk : k <= 1048576) (hfn : fn <= 1048576) (hfm : fm <= 1048576) (hl : l <= 1048576) (hN1 : N <= 1048576) :
  Calls Tryz.prog 128 #[treV a n cap c m cap', .slice ad N pc, .int .i64 s, .slice e k ec, formV fa fn fcap fc fm fcap' FK, .slice u l uc] w fun r w' => r = .returned (ansV (bansB n m C D ss s k E fn fm FC FD FK l U)) /\ Below w.heap.size w w' := by
 have HN : Hid (ss.length = N) := hN;clear hN;have q_0 := (Cel.new w [.slice a n cap, .slice c m cap'] 26).alloc (.cells #[.slice fa fn fcap, .slice fc fm fcap', .int .i64 FK] 86);have f_0 := Cel.new (w.alloc (.cells #[.slice a n cap, .slice c m cap'] 26)) [.slice fa fn fcap, .slice fc fm fcap', .int .i64 FK] 86;have B_0 := ((Below.refl w.heap.size w).alloc (qB _) (.cells #[.slice a n cap, .slice c m cap'] 26)).alloc (by simp) (.cells #[.slice fa fn fcap, .slice fc fm fcap', .int .i64 FK] 86);rw [World.size_alloc] at f_0
 cases h0 : trtB n m C D
 ·go_enter Tryz.func128, Tryz.ntmps128
  go_wp2_with fail
  refine (strt_any C D (hC.below B_0) (hD.below B_0) hn hm).mono ?_;rintro r w1 ⟨rfl, b_1⟩;rw [h0];have B_1 := btr B_0 b_1;have q_1 := q_0.below b_1;have f_1 := f_0.below b_1;clear B_0 f_0 q_0 b_1;obtain ⟨c_q0, c_q1⟩ := q_1.two;obtain ⟨c_f0, c_f1, c_f2⟩ := f_1.three
  go_wp2
  refine bodyPost_ret (v := .tuple #[.int .i64 0, .int .i64 0, .bool false]) (by simp [results, Tryz.results128, go_sem]) rfl ⟨?_, B_1⟩;rw [bansB, if_neg (by simp [bokB, viewB, h0])]
  rfl
 cases h1 : partsB ss
 ·go_enter Tryz.func128, Tryz.ntmps128
  go_wp2_with fail
  refine (strt_any C D (hC.below B_0) (hD.below B_0) hn hm).mono ?_;rintro r w1 ⟨rfl, b_1⟩;rw [h0];have B_1 := btr B_0 b_1;have q_1 := q_0.below b_1;have f_1 := f_0.below b_1;clear B_0 f_0 q_0 b_1;obtain ⟨c_q0, c_q1⟩ := q_1.two;obtain ⟨c_f0, c_f1, c_f2⟩ := f_1.three
  go_wp2_with fail
  refine (sparts_any ss HN.out (hF.below B_1) hN1).mono ?_;rintro r w2 ⟨rfl, rfl⟩;rw [h1]
  go_wp2
  refine bodyPost_ret (v := .tuple #[.int .i64 0, .int .i64 0, .bool false]) (by simp [results, Tryz.results128, go_sem]) rfl ⟨?_, B_1⟩;rw [bansB, if_neg (by simp [bokB, viewB, h1])]
  rfl
 cases h2 : inB s 0 ((m : Int) - 1)
 ·go_enter Tryz.func128, Tryz.ntmps128
  go_wp2_with fail
  refine (strt_any C D (hC.below B_0) (hD.below B_0) hn hm).mono ?_;rintro r w1 ⟨rfl, b_1⟩;rw [h0];have B_1 := btr B_0 b_1;have q_1 := q_0.below b_1;have f_1 := f_0.below b_1;clear B_0 f_0 q_0 b_1;obtain ⟨c_q0, c_q1⟩ := q_1.two;obtain ⟨c_f0, c_f1, c_f2⟩ := f_1.three
  go_wp2_with fail
  refine (sparts_any ss HN.out (hF.below B_1) hN1).mono ?_;rintro r w2 ⟨rfl, rfl⟩;rw [h1]
  go_wp2_with fail
  refine (in_any).mono ?_;rintro r w3 ⟨rfl, rfl⟩;rw [h2]
  go_wp2
  refine bodyPost_ret (v := .tuple #[.int .i64 0, .int .i64 0, .bool false]) (by simp [results, Tryz.results128, go_sem]) rfl ⟨?_, B_1⟩;rw [bansB, if_neg (by simp [bokB, viewB, h2])]
  rfl
 cases h3 : okN 3 20000 k E
 ·go_enter Tryz.func128, Tryz.ntmps128
  go_wp2_with fail
  refine (strt_any C D (hC.below B_0) (hD.below B_0) hn hm).mono ?_;rintro r w1 ⟨rfl, b_1⟩;rw [h0];have B_1 := btr B_0 b_1;have q_1 := q_0.below b_1;have f_1 := f_0.below b_1;clear B_0 f_0 q_0 b_1;obtain ⟨c_q0, c_q1⟩ := q_1.two;obtain ⟨c_f0, c_f1, c_f2⟩ := f_1.three
  go_wp2_with fail
  refine (sparts_any ss HN.out (hF.below B_1) hN1).mono ?_;rintro r w2 ⟨rfl, rfl⟩;rw [h1]
  go_wp2_with fail
  refine (in_any).mono ?_;rintro r w3 ⟨rfl, rfl⟩;rw [h2]
  go_wp2_with fail
  refine (all_any E _ _ (hE.below B_1) hk).mono ?_;rintro r w4 ⟨rfl, rfl⟩;rw [h3]
  go_wp2
  refine bodyPost_ret (v := .tuple #[.int .i64 0, .int .i64 0, .bool false]) (by simp [results, Tryz.results128, go_sem]) rfl ⟨?_, B_1⟩;rw [bansB, if_neg (by simp [bokB, viewB, h3])]
  rfl
 cases h4 : formB fn fm FC FD FK
 ·go_enter Tryz.func128, Tryz.ntmps128
  go_wp2_with fail
  refine (strt_any C D (hC.below B_0) (hD.below B_0) hn hm).mono ?_;rintro r w1 ⟨rfl, b_1⟩;rw [h0];have B_1 := btr B_0 b_1;have q_1 := q_0.below b_1;have f_1 := f_0.below b_1;clear B_0 f_0 q_0 b_1;obtain ⟨c_q0, c_q1⟩ := q_1.two;obtain ⟨c_f0, c_f1, c_f2⟩ := f_1.three
  go_wp2_with fail
  refine (sparts_any ss HN.out (hF.below B_1) hN1).mono ?_;rintro r w2 ⟨rfl, rfl⟩;rw [h1]
  go_wp2_with fail
  refine (in_any).mono ?_;rintro r w3 ⟨rfl, rfl⟩;rw [h2]
  go_wp2_with fail
  refine (all_any E _ _ (hE.below B_1) hk).mono ?_;rintro r w4 ⟨rfl, rfl⟩;rw [h3]
  go_wp2_with fail
  refine (sok_any FC FD (hA.below B_1) (hB.below B_1) hfn hfm).mono ?_;rintro r w5 ⟨rfl, b_5⟩;rw [h4];clear c_q0 c_q1 c_f0 c_f1 c_f2;have B_5 := btr B_1 b_5;have q_5 := q_1.below b_5;have f_5 := f_1.below b_5;clear B_1 f_1 q_1 b_5;obtain ⟨c_q0, c_q1⟩ := q_5.two;obtain ⟨c_f0, c_f1, c_f2⟩ := f_5.three
  go_wp2
  refine bodyPost_ret (v := .tuple #[.int .i64 0, .int .i64 0, .bool false]) (by simp [results, Tryz.results128, go_sem]) rfl ⟨?_, B_5⟩;rw [bansB, if_neg (by simp [bokB, viewB, h4])]
  rfl
 cases h5 : okN 2 9 l U
 ·go_enter Tryz.func128, Tryz.ntmps128
  go_wp2_with fail
  refine (strt_any C D (hC.below B_0) (hD.below B_0) hn hm).mono ?_;rintro r w1 ⟨rfl, b_1⟩;rw [h0];have B_1 := btr B_0 b_1;have q_1 := q_0.below b_1;have f_1 := f_0.below b_1;clear B_0 f_0 q_0 b_1;obtain ⟨c_q0, c_q1⟩ := q_1.two;obtain ⟨c_f0, c_f1, c_f2⟩ := f_1.three
  go_wp2_with fail
  refine (sparts_any ss HN.out (hF.below B_1) hN1).mono ?_;rintro r w2 ⟨rfl, rfl⟩;rw [h1]
  go_wp2_with fail
  refine (in_any).mono ?_;rintro r w3 ⟨rfl, rfl⟩;rw [h2]
  go_wp2_with fail
  refine (all_any E _ _ (hE.below B_1) hk).mono ?_;rintro r w4 ⟨rfl, rfl⟩;rw [h3]
  go_wp2_with fail
  refine (sok_any FC FD (hA.below B_1) (hB.below B_1) hfn hfm).mono ?_;rintro r w5 ⟨rfl, b_5⟩;rw [h4];clear c_q0 c_q1 c_f0 c_f1 c_f2;have B_5 := btr B_1 b_5;have q_5 := q_1.below b_5;have f_5 := f_1.below b_5;clear B_1 f_1 q_1 b_5;obtain ⟨c_q0, c_q1⟩ := q_5.two;obtain ⟨c_f0, c_f1, c_f2⟩ := f_5.three
  go_wp2_with fail
  refine (sarg_any U (hU.below B_5) hl).mono ?_;rintro r w6 ⟨rfl, rfl⟩;rw [h5]
  go_wp2
  refine bodyPost_ret (v := .tuple #[.int .i64 0, .int .i64 0, .bool false]) (by simp [results, Tryz.results128, go_sem]) rfl ⟨?_, B_5⟩;rw [bansB, if_neg (by simp [bokB, viewB, h5])]
  rfl
 have hv : viewB n m C D ss s k E = true := by simp [viewB, h0, h1, h2, h3]
 have hbo : bokB n m C D ss s k E fn fm FC FD FK l U = true := by simp [bokB, hv, h4, h5]
 obtain ⟨e1, bC, m1, m2, -, s0, s1, e2, bE, bD⟩ := viewB_elim hv;obtain ⟨e3, e4, bA, bB, K1, K2⟩ := formB_elim h4;obtain ⟨e5, bU⟩ := okN_elim (by omega) h5;have e6 : l = 2 := by omega
 clear e5;rw [bansB, if_pos hbo];subst e1 e2 e3 e4 e6;have H0 : Hid _ := h0;have H1 : Hid _ := h1;have H2 : Hid _ := h2;have H3 : Hid _ := h3;have H4 : Hid _ := h4;have H5 : Hid _ := h5;clear hv hbo h0 h1 h2 h3 h4 h5;have HZ : Hid ((List.zipWith (· + ·) C E).length = 3) := by show _ = _; rw [List.length_zipWith, hC.1, hE.1]; rfl
 have bV : bnd 30000 (List.zipWith (· + ·) C E) := fun i => by have := bnd_zip (by rw [hC.1, hE.1]) bC bE i; omega
 have ob := others_bnd (s := s) bD m (by rw [hD.1]; exact qB _) m2;have p1 := dot_bnd (bndP_of bA bV (by omega) (by omega)) 3;have p2 := dot_bnd (bndP_of bB bU (by omega) (by omega)) 2;obtain ⟨x, hx⟩ : ∃ x, x = bnds m C D ss s E FC FD FK U := ⟨_, rfl⟩
 rw [<- hx];have HV : Hid (bnd 30000 (List.zipWith (· + ·) C E)) := bV;have HCE : Hid (bnd 1000000000 C /\ bnd 1000000000 E) := ⟨fun i => by have := bC i; omega, fun i => by have := bE i; omega⟩
 obtain ⟨n, hn'⟩ : ∃ n, n = atV FC FD FK (List.zipWith (· + ·) C E) U := ⟨_, rfl⟩
 obtain ⟨o, ho⟩ : ∃ o, o = others D s m := ⟨_, rfl⟩
 have n1 : -10000000000000 <= n := by rw [hn']; unfold atV; omega
 have n2 : n <= 10000000000000 := by rw [hn']; unfold atV; omega
 rw [<- ho] at ob;rw [bnds, <- hn', <- ho] at hx;have HI : Hid _ := hx;have HNN : Hid _ := hn';have HO : Hid _ := ho;obtain ⟨o1, o2⟩ := ob;have o3 : o <= 150 := by omega
 have hw1 : IntKind.i64.wrap (n - o) = n - o := wrap_id (by omega) (by omega);have hw2 : IntKind.i64.wrap (n + o) = n + o := wrap_id (by omega) (by omega);have HW : Hid (IntKind.i64.wrap (n - o) = n - o /\ IntKind.i64.wrap (n + o) = n + o) := ⟨hw1, hw2⟩
 have bK : -10000000 <= FK /\ FK <= 10000000 := ⟨K1, K2⟩
 clear hx hn' ho o2 p1 p2 bV bD bC bE hw1 hw2
 go_enter Tryz.func128, Tryz.ntmps128
 go_wp2_with fail
 refine (strt_any C D (hC.below B_0) (hD.below B_0) hn hm).mono ?_;rintro r w1 ⟨rfl, b_1⟩;rw [H0.out];have B_1 := btr B_0 b_1;have q_1 := q_0.below b_1;have f_1 := f_0.below b_1;clear B_0 f_0 q_0 b_1;obtain ⟨c_q0, c_q1⟩ := q_1.two;obtain ⟨c_f0, c_f1, c_f2⟩ := f_1.three
 go_wp2_with fail
 refine (sparts_any ss HN.out (hF.below B_1) hN1).mono ?_;rintro r w2 ⟨rfl, rfl⟩;rw [H1.out]
 go_wp2_with fail
 refine (in_any).mono ?_;rintro r w3 ⟨rfl, rfl⟩;rw [H2.out]
 go_wp2_with fail
 refine (all_any E _ _ (hE.below B_1) hk).mono ?_;rintro r w4 ⟨rfl, rfl⟩;rw [H3.out]
 go_wp2_with fail
 refine (sok_any FC FD (hA.below B_1) (hB.below B_1) hfn hfm).mono ?_;rintro r w5 ⟨rfl, b_5⟩;rw [H4.out];clear c_q0 c_q1 c_f0 c_f1 c_f2;have B_5 := btr B_1 b_5;have q_5 := q_1.below b_5;have f_5 := f_1.below b_5;clear B_1 f_1 q_1 b_5;obtain ⟨c_q0, c_q1⟩ := q_5.two;obtain ⟨c_f0, c_f1, c_f2⟩ := f_5.three
 go_wp2_with fail
 refine (sarg_any U (hU.below B_5) hl).mono ?_;rintro r w6 ⟨rfl, rfl⟩;rw [H5.out];clear c_q0 c_q1 c_f0 c_f1 c_f2;have CC : Hid (∀ X : World, Cel X w.heap.size [.slice a 3 cap, .slice c m cap'] 26 -> Cel X (w.heap.size + 1) [.slice fa 3 fcap, .slice fc 2 fcap', .int .i64 FK] 86 -> X.cell? ⟨w.heap.size, 0, none⟩ = some (.slice a 3 cap) /\ X.cell? ⟨w.heap.size, 1, none⟩ = some (.slice c m cap') /\ X.cell? ⟨w.heap.size + 1, 0, none⟩ = some (.slice fa 3 fcap) /\ X.cell? ⟨w.heap.size + 1, 1, none⟩ = some (.slice fc 2 fcap') /\ X.cell? ⟨w.heap.size + 1, 2, none⟩ = some (.int .i64 FK)) := fun X h1 h2 => ⟨h1.cell 0, h1.cell 1, h2.cell 0, h2.cell 1, h2.cell 2⟩
 have hn0 := CC.out _ q_5 f_5
 go_upto_region 3 with fail
 go_region_held3 (fun w' => w'.cell? ⟨w.heap.size, 0, none⟩ = some (.slice a 3 cap) /\ w'.cell? ⟨w.heap.size, 1, none⟩ = some (.slice c m cap') /\ w'.cell? ⟨w.heap.size + 1, 0, none⟩ = some (.slice fa 3 fcap) /\ w'.cell? ⟨w.heap.size + 1, 1, none⟩ = some (.slice fc 2 fcap') /\ w'.cell? ⟨w.heap.size + 1, 2, none⟩ = some (.int .i64 FK)) (first | with_reducible assumption | exact hn0)
  (first
   | (go_at_call 130
      refine (sum5_any C E (by exact hC.below B_5.drew) (by exact hE.below B_5.drew) HCE.out.1 HCE.out.2).mono ?_;rintro ee y1 ⟨v, rfl, j⟩;obtain ⟨va, vc, rfl, iV⟩ := j.slice3 HZ.out;have x_1 := below_of_drew j.b;have X_1 := btr B_5 x_1;have qx_1 := q_5.below x_1;have fx_1 := f_5.below x_1
      have hn1 := CC.out y1 qx_1 fx_1)
   | (go_at_call 132
      refine (sat30_any _ _ _ _ _ FC FD _ _ _ _ (List.zipWith (· + ·) C E) U _ (by exact hA.below X_1) (by exact hB.below X_1) iV (by exact hU.below X_1) bA bB bK HV.out bU).mono ?_;rintro ee y2 ⟨rfl, x_2⟩;rw [<- HNN.out];have X_2 := btr X_1 x_2;have qx_2 := qx_1.below x_2;have fx_2 := fx_1.below x_2
      have hn2 := CC.out y2 qx_2 fx_2))
 clear hn0 hn1 iV j x_1 x_2 X_1 qx_1 fx_1 B_5 q_5 f_5;obtain ⟨k0, k1, k2, k3, k4⟩ := hn2
 go_wp2_with fail
 refine (spart_any FC (hA.below X_2) (by omega)).mono ?_;rintro r w21 ⟨pa, pcap, rfl, b_21, ip_21, -⟩;clear k0 k1 k2 k3 k4;have B_21 := btr X_2 b_21;have q_21 := qx_2.below b_21;have f_21 := fx_2.below b_21;clear X_2 fx_2 qx_2 b_21;obtain ⟨c_q0, c_q1⟩ := q_21.two;obtain ⟨c_f0, c_f1, c_f2⟩ := f_21.three
 go_wp2_with fail
 refine (szero_any _).mono ?_;rintro r w22 ⟨Z1, Z2, rfl, b_22, -, -, -, kz_22, -⟩;clear c_q0 c_q1 c_f0 c_f1 c_f2;have B_22 := btr B_21 b_22;have q_22 := q_21.below b_22;have f_22 := f_21.below b_22;have ip_22 := ip_21.below b_22;clear B_21 f_21 ip_21 q_21 b_22;obtain ⟨c_q0, c_q1⟩ := q_22.two;obtain ⟨c_f0, c_f1, c_f2⟩ := f_22.three;have hfd := field_zero Z1 Z2
 go_wp2_with fail
 refine (l4same_any _ _ (partL FC) [0, 0, 0] ip_22 (show Ints _ _ 3 _ from kz_22.ints' rfl) (by omega) (by omega)).mono ?_;rintro r w23 ⟨rfl, b_23⟩;clear c_q0 c_q1 c_f0 c_f1 c_f2;have B_23 := btr B_22 b_23;have q_23 := q_22.below b_23;have f_23 := f_22.below b_23;have ip_23 := ip_22.below b_23;clear B_22 f_22 ip_22 kz_22 q_22 b_23;obtain ⟨c_q0, c_q1⟩ := q_23.two;obtain ⟨c_f0, c_f1, c_f2⟩ := f_23.three;clear hfd
 cases hz : eqB (partL FC) [0, 0, 0]
 ·go_wp2_with fail
  refine (shas_any _ _ ss _ (partL FC) HN.out (hF.below B_23) hN1 ip_23).mono ?_;rintro r w24 ⟨rfl, b_24⟩;clear c_q0 c_q1 c_f0 c_f1 c_f2;have B_24 := btr B_23 b_24;have q_24 := q_23.below b_24;have f_24 := f_23.below b_24;clear B_23 f_23 ip_23 q_23 b_24;obtain ⟨c_q0, c_q1⟩ := q_24.two;obtain ⟨c_f0, c_f1, c_f2⟩ := f_24.three
  by_cases hh : hasI ss (partL FC) < 0
  ·have X : x = (0, 0, false) := by rw [HI.out, hz, if_neg (by decide), if_pos hh]
   have HX2 : Hid _ := X;clear X
   go_wp2
   refine bodyPost_ret (v := .tuple #[.int .i64 0, .int .i64 0, .bool false]) (by simp [results, Tryz.results128, go_sem]) rfl ⟨by rw [HX2.out]; rfl, B_24⟩
  have X : x = (n - o, n + o, true) := by rw [HI.out, hz, if_neg (by decide), if_neg hh]
  have HX2 : Hid _ := X;clear X;clear c_q0 c_q1 c_f0 c_f1 c_f2;have hn0 := CC.out _ q_24 f_24
  go_upto_region 9 with fail
  go_region_held3 (fun w' => w'.cell? ⟨w.heap.size, 0, none⟩ = some (.slice a 3 cap) /\ w'.cell? ⟨w.heap.size, 1, none⟩ = some (.slice c m cap') /\ w'.cell? ⟨w.heap.size + 1, 0, none⟩ = some (.slice fa 3 fcap) /\ w'.cell? ⟨w.heap.size + 1, 1, none⟩ = some (.slice fc 2 fcap') /\ w'.cell? ⟨w.heap.size + 1, 2, none⟩ = some (.int .i64 FK)) (first | with_reducible assumption | exact hn0)
   (first
    | (go_at_call 152
       refine (sothers_any D s (by exact hD.below Z_1)).mono ?_;rintro ee y4 ⟨rfl, z_2⟩;rw [<- HO.out];have Z_2 := btr Z_1 z_2
       have hn4 := CC.out y4 (qz_1.below z_2) (fz_1.below z_2))
    | (go_at_call 152
       refine (sothers_any D s (by exact hD.below B_24.drew)).mono ?_;rintro ee y3 ⟨rfl, zd_1⟩;rw [<- HO.out];have z_1 := below_of_drew zd_1;have Z_1 := btr B_24 z_1;have qz_1 := q_24.below z_1;have fz_1 := f_24.below z_1
       have hn3 := CC.out y3 qz_1 fz_1))
  rw [HW.out.1, HW.out.2]
  go_wp2
  refine bodyPost_ret (v := .tuple #[.int .i64 (n - o), .int .i64 (n + o), .bool true]) (by simp [results, Tryz.results128, go_sem]) rfl ⟨by rw [HX2.out]; rfl, Z_2⟩
 have X : x = (n, n, true) := by rw [HI.out, hz, if_pos rfl]
 have HX2 : Hid _ := X;clear X
 go_wp2
 refine bodyPost_ret (v := .tuple #[.int .i64 n, .int .i64 n, .bool true]) (by simp [results, Tryz.results128, go_sem]) rfl ⟨by rw [HX2.out]; rfl, B_23⟩
end Go.Proofs.YtemcinobgdphnaaGreat
