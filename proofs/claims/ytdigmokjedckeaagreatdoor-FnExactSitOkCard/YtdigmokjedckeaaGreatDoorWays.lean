/-
  The ways through an act, over plain lists: what both texts of RowsOf come to; no number grows past the limits.
-/
import Derived.Test.YtdigmokjedckeaaGreatDoorIntoL
import Derived.Test.YtdigmokjedckeaaGreatDoorAct
namespace Go.Proofs.YtdigmokjedckeaaGreatDoor
open Go.RowKit
set_option linter.unusedVariables false

/-- A form alone, without its memory. -/
def noX : Frm := ([], [], 0)
def toFV (f : Frm) : FV := ⟨none, f.1.length, 0, none, f.2.1.length, 0, f.2.2, f.1, f.2.1⟩
def intoX (f : FV) (P : List Frm) : Frm := (intoC f.C (P.map toFV) 3, intoD f.C f.D (P.map toFV) 3, intoK f.C f.K (P.map toFV) 3)
/-- Zero or more just where f is below zero. -/
def minusX (f : Frm) : Frm := (mulL (-1) f.1, mulL (-1) f.2.1, -1 * f.2.2 - 1)
def plusX (f g : Frm) : Frm := (lin f.1 g.1 1, lin f.2.1 g.2.1 1, f.2.2 + 1 * g.2.2)
def potX (v : Nat) : Frm := ([0, 0, 0].set v 1, [0, 0], 0)
def lessX (f : Frm) (v : Nat) : Frm := (lin f.1 ([0, 0, 0].set v 1) (-1), lin f.2.1 [0, 0] (-1), f.2.2 + -1 * 0)

/-- A way as far as it is gone; a way at its end. -/
structure Way where
  pots : List Frm
  guards : List Frm
  tells : List Frm
structure RowM where
  guards : List Frm
  adds : List Frm
  tells : List Frm
  stop : Bool
def endW (y : Way) : RowM := ⟨y.guards, (List.range 3).map fun v => lessX (y.pots[v]?.getD noX) v, y.tells, false⟩
def stopW (y : Way) : RowM := ⟨y.guards, [], [], true⟩
def Way.guard (y : Way) (f : Frm) : Way := { y with guards := y.guards ++ [f] }
def Way.tell (y : Way) (f : Frm) : Way := { y with tells := y.tells ++ [f] }
def Way.add (y : Way) (p : Nat) (f : Frm) : Way := { y with pots := y.pots.set p (plusX (y.pots[p]?.getD noX) f) }
def way0 : Way := ⟨[potX 0, potX 1, potX 2], [], []⟩

/-- All ways from a line on. -/
def goW (ls : List LV) : Nat → Nat → Way → List RowM
  | 0, _, y => [endW y]
  | f + 1, i, y =>
    if i < ls.length then
      if (ls[i]?.getD noLV).kind = 1 then goW ls f (i + 1) (y.guard (intoX (ls[i]?.getD noLV).f y.pots)) ++ goW ls f (i + 1 + (ls[i]?.getD noLV).skip.toNat) (y.guard (minusX (intoX (ls[i]?.getD noLV).f y.pots)))
      else if (ls[i]?.getD noLV).kind = 2 then goW ls f (i + 1) (y.add (ls[i]?.getD noLV).pot.toNat (intoX (ls[i]?.getD noLV).f y.pots))
      else if (ls[i]?.getD noLV).kind = 3 then goW ls f (i + 1) (y.tell (intoX (ls[i]?.getD noLV).f y.pots))
      else [stopW y]
    else [endW y]
def rowsL (ls : List LV) : List RowM := goW ls 7 0 way0
theorem goW_end {ls : List LV} {f i : Nat} {y : Way} (h : ls.length ≤ i) : goW ls f i y = [endW y] := by
  cases f with
  | zero => rfl
  | succ f => rw [goW, if_neg (by omega)]
/-- Fuel that suffices is as good as more. -/
theorem goW_fuel {ls : List LV} (f : Nat) : ∀ (g i : Nat) (y : Way), ls.length ≤ i + f → ls.length ≤ i + g → goW ls f i y = goW ls g i y := by
  induction f with
  | zero => intro g i y h1 h2; rw [goW_end (by omega), goW_end (by omega)]
  | succ f ih =>
    intro g i y h1 h2
    by_cases hi : i < ls.length
    · obtain ⟨g, rfl⟩ : ∃ g', g = g' + 1 := ⟨g - 1, by omega⟩
      rw [goW, goW, if_pos hi, if_pos hi, ih g (i + 1) _ (by omega) (by omega), ih g (i + 1 + (ls[i]?.getD noLV).skip.toNat) _ (by omega) (by omega), ih g (i + 1) _ (by omega) (by omega), ih g (i + 1) _ (by omega) (by omega)]
    · rw [goW_end (by omega), goW_end (by omega)]

/-- How great a pot's numbers may be behind so many lines. -/
def wb : Nat → Int
  | 0 => 1
  | n + 1 => 7 * wb n + 20
theorem wb_pos : ∀ n, 1 ≤ wb n
  | 0 => by simp [wb]
  | n + 1 => by have := wb_pos n; simp only [wb]; omega
theorem wb_mono {n m : Nat} (h : n ≤ m) : wb n ≤ wb m := by
  induction h with
  | refl => exact Int.le_refl _
  | step _ ih => rename_i m _; have := wb_pos m; exact Int.le_trans ih (by simp only [wb]; omega)
theorem wb_six {n : Nat} (h : n ≤ 6) : wb n ≤ 509809 := Int.le_trans (wb_mono h) (by simp [wb])

/-- Three and two numbers, and one more, none past M. -/
structure fitX (M : Int) (f : Frm) : Prop where
  c : f.1.length = 3
  d : f.2.1.length = 2
  bc : bnd M f.1
  bd : bnd M f.2.1
  k1 : -M ≤ f.2.2
  k2 : f.2.2 ≤ M
theorem fitX.mono {M M' : Int} {f : Frm} (h : fitX M f) (hM : M ≤ M') : fitX M' f :=
  ⟨h.c, h.d, fun i => by have := h.bc i; omega, fun i => by have := h.bd i; omega, by have := h.k1; omega, by have := h.k2; omega⟩
theorem two_mul {c y M : Int} (h1 : -2 ≤ c) (h2 : c ≤ 2) (h3 : -M ≤ y) (h4 : y ≤ M) : -(2 * M) ≤ c * y ∧ c * y ≤ 2 * M := by
  obtain h | h | h | h | h : c = -2 ∨ c = -1 ∨ c = 0 ∨ c = 1 ∨ c = 2 := by omega
  all_goals subst h; constructor <;> omega
theorem toFV_at {P : List Frm} {k : Nat} (h : k < P.length) : (P.map toFV)[k]?.getD noFV = toFV (P[k]?.getD noX) := by
  rw [List.getElem?_map, List.getElem?_eq_getElem h]; rfl

/-- A small form into pots. -/
theorem intoX_fit {f : FV} {P : List Frm} {M : Int} (bC : bnd 2 f.C) (bD : bnd 2 f.D) (lD : f.D.length = 2) (k1 : -20 ≤ f.K) (k2 : f.K ≤ 20) (hP : P.length = 3) (hM : 0 ≤ M) (h : ∀ k, k < 3 → fitX M (P[k]?.getD noX)) : fitX (6 * M + 20) (intoX f P) := by
  have bt : ∀ k, k < 3 → bndT (2 * M) (f.C[k]?.getD 0) ((P.map toFV)[k]?.getD noFV).C ∧ bndT (2 * M) (f.C[k]?.getD 0) ((P.map toFV)[k]?.getD noFV).D ∧ -(2 * M) ≤ f.C[k]?.getD 0 * ((P.map toFV)[k]?.getD noFV).K ∧ f.C[k]?.getD 0 * ((P.map toFV)[k]?.getD noFV).K ≤ 2 * M ∧ ((P.map toFV)[k]?.getD noFV).C.length = 3 ∧ ((P.map toFV)[k]?.getD noFV).D.length = 2 := fun k hk => by
    rw [toFV_at (by omega)]
    have hf := h k hk
    have hc := bC k
    refine ⟨fun i => ?_, fun i => ?_, ?_, ?_, hf.c, hf.d⟩
    · have := hf.bc i; exact two_mul hc.1 hc.2 this.1 this.2
    · have := hf.bd i; exact two_mul hc.1 hc.2 this.1 this.2
    · exact (two_mul hc.1 hc.2 hf.k1 hf.k2).1
    · exact (two_mul hc.1 hc.2 hf.k1 hf.k2).2
  obtain ⟨a0, b0, x0, y0, l0, m0⟩ := bt 0 (by omega)
  obtain ⟨a1, b1, x1, y1, l1, m1⟩ := bt 1 (by omega)
  obtain ⟨a2, b2, x2, y2, l2, m2⟩ := bt 2 (by omega)
  have z3 : bnd 0 ([0, 0, 0] : List Int) := fun i => by
    match i with
    | 0 => simp
    | 1 => simp
    | 2 => simp
    | i + 3 => simp
  refine ⟨?_, ?_, ?_, ?_, ?_, ?_⟩
  · exact lin_len (lin_len (lin_len rfl l0) l1) l2
  · exact lin_len (lin_len (lin_len lD m0) m1) m2
  · have := lin_bnd (lin_len (lin_len rfl l0) l1) l2 (lin_bnd (lin_len rfl l0) l1 (lin_bnd (k := 3) rfl l0 z3 a0 (by omega)) a1 (by omega)) a2 (by omega)
    exact fun i => by have := this i; simp only [intoX, intoC] at *; omega
  · have := lin_bnd (lin_len (lin_len lD m0) m1) m2 (lin_bnd (lin_len lD m0) m1 (lin_bnd lD m0 bD b0 (by omega)) b1 (by omega)) b2 (by omega)
    exact fun i => by have := this i; simp only [intoX, intoD] at *; omega
  · simp only [intoX, intoK]; omega
  · simp only [intoX, intoK]; omega
theorem bndT_one {M : Int} {xs : List Int} (h : bnd M xs) : bndT M 1 xs := fun i => by have := h i; omega
theorem plusX_fit {M M' : Int} {f g : Frm} (hf : fitX M f) (hg : fitX M' g) (h0 : 0 ≤ M + M') : fitX (M + M') (plusX f g) := by
  have a := hf.k1
  have b := hf.k2
  have c := hg.k1
  have d := hg.k2
  exact ⟨lin_len hf.c hg.c, lin_len hf.d hg.d, lin_bnd hf.c hg.c hf.bc (bndT_one hg.bc) h0, lin_bnd hf.d hg.d hf.bd (bndT_one hg.bd) h0, by simp only [plusX]; omega, by simp only [plusX]; omega⟩
theorem minusX_fit {M : Int} {f : Frm} (hf : fitX M f) : fitX (M + 1) (minusX f) := by
  have key : ∀ (xs : List Int), bnd M xs → bnd (M + 1) (mulL (-1) xs) := fun xs hx i => by
    have hi := hx i
    have : (mulL (-1) xs)[i]?.getD 0 = -1 * xs[i]?.getD 0 := by
      simp only [mulL, List.getElem?_map]
      cases xs[i]? <;> simp
    rw [this]; omega
  have a := hf.k1
  have b := hf.k2
  exact ⟨by simp [minusX, mulL, hf.c], by simp [minusX, mulL, hf.d], key _ hf.bc, key _ hf.bd, by simp only [minusX]; omega, by simp only [minusX]; omega⟩

/-- A way behind so many lines. -/
structure WayOk (i : Nat) (y : Way) : Prop where
  pl : y.pots.length = 3
  pf : ∀ k, k < 3 → fitX (wb (min i 6)) (y.pots[k]?.getD noX)
  gf : ∀ k, k < y.guards.length → fitX 10000000 (y.guards[k]?.getD noX)
  tf : ∀ k, k < y.tells.length → fitX 10000000 (y.tells[k]?.getD noX)
  gl : y.guards.length ≤ i
  tl : y.tells.length ≤ i
theorem WayOk.start : WayOk 0 way0 := by
  refine ⟨rfl, fun k hk => ?_, fun k hk => by simp [way0] at hk, fun k hk => by simp [way0] at hk, Nat.le_refl _, Nat.le_refl _⟩
  have b3 : ∀ v, v < 3 → bnd 1 (([0, 0, 0] : List Int).set v 1) := fun v hv i => by
    match v, hv, i with
    | 0, _, 0 => simp
    | 0, _, 1 => simp
    | 0, _, 2 => simp
    | 0, _, i + 3 => simp
    | 1, _, 0 => simp
    | 1, _, 1 => simp
    | 1, _, 2 => simp
    | 1, _, i + 3 => simp
    | 2, _, 0 => simp
    | 2, _, 1 => simp
    | 2, _, 2 => simp
    | 2, _, i + 3 => simp
  have b2 : bnd 1 ([0, 0] : List Int) := fun i => by
    match i with
    | 0 => simp
    | 1 => simp
    | i + 2 => simp
  match k, hk with
  | 0, _ => exact ⟨rfl, rfl, b3 0 (by omega), b2, by decide, by decide⟩
  | 1, _ => exact ⟨rfl, rfl, b3 1 (by omega), b2, by decide, by decide⟩
  | 2, _ => exact ⟨rfl, rfl, b3 2 (by omega), b2, by decide, by decide⟩
/-- A way that has gone on a line, or over more. -/
theorem WayOk.more {i j : Nat} {y : Way} (h : WayOk i y) (hij : i ≤ j) : WayOk j y :=
  ⟨h.pl, fun k hk => (h.pf k hk).mono (wb_mono (by omega)), h.gf, h.tf, by have := h.gl; omega, by have := h.tl; omega⟩
theorem snoc_fit {L : List Frm} {f : Frm} {M : Int} (h : ∀ k, k < L.length → fitX M (L[k]?.getD noX)) (hf : fitX M f) : ∀ k, k < (L ++ [f]).length → fitX M ((L ++ [f])[k]?.getD noX) := fun k hk => by
  rw [List.length_append] at hk
  simp only [List.length_cons, List.length_nil] at hk
  by_cases e : k < L.length
  · rw [List.getElem?_append_left e]; exact h k e
  · obtain rfl : k = L.length := by omega
    rw [List.getElem?_append_right (Nat.le_refl _), Nat.sub_self]
    exact hf
theorem WayOk.guard {i j : Nat} {y : Way} {f : Frm} (h : WayOk i y) (hij : i < j) (hf : fitX 10000000 f) : WayOk j (y.guard f) := by
  have h' := h.more (j := j) (by omega)
  refine ⟨h'.pl, h'.pf, snoc_fit h.gf hf, h'.tf, ?_, h'.tl⟩
  have := h.gl
  simp only [Way.guard, List.length_append, List.length_cons, List.length_nil]; omega
theorem WayOk.tell {i j : Nat} {y : Way} {f : Frm} (h : WayOk i y) (hij : i < j) (hf : fitX 10000000 f) : WayOk j (y.tell f) := by
  have h' := h.more (j := j) (by omega)
  refine ⟨h'.pl, h'.pf, h'.gf, snoc_fit h.tf hf, h'.gl, ?_⟩
  have := h.tl
  simp only [Way.tell, List.length_append, List.length_cons, List.length_nil]; omega
theorem WayOk.add {i p : Nat} {y : Way} {f : Frm} (h : WayOk i y) (h6 : i < 6) (hp : p < 3) (hf : fitX (6 * wb i + 20) f) : WayOk (i + 1) (y.add p f) := by
  have h' := h.more (j := i + 1) (by omega)
  refine ⟨by simp only [Way.add, List.length_set]; exact h.pl, fun k hk => ?_, h'.gf, h'.tf, h'.gl, h'.tl⟩
  have hw := wb_pos i
  have e6 : min i 6 = i := by omega
  have e7 : min (i + 1) 6 = i + 1 := by omega
  have hpf := h.pf p hp
  rw [e6] at hpf
  by_cases e : p = k
  · subst e
    have : (y.add p f).pots[p]?.getD noX = plusX (y.pots[p]?.getD noX) f := by
      simp only [Way.add]
      rw [List.getElem?_set_self (by rw [h.pl]; exact hp)]; rfl
    rw [this]
    have := plusX_fit hpf hf (by omega)
    rw [e7]
    exact this.mono (by simp only [wb]; omega)
  · have : (y.add p f).pots[k]?.getD noX = y.pots[k]?.getD noX := by
      simp only [Way.add]
      rw [List.getElem?_set_ne e]
    rw [this]
    exact h'.pf k hk
/-- What a small form into the pots of such a way is. -/
theorem WayOk.into {i : Nat} {y : Way} (h : WayOk i y) (h6 : i ≤ 6) {f : FV} (hf : smallB f.n f.m f.C f.D f.K = true) (lD : f.D.length = f.m) : fitX (6 * wb i + 20) (intoX f y.pots) ∧ fitX 10000000 (intoX f y.pots) ∧ fitX 10000000 (minusX (intoX f y.pots)) := by
  simp only [smallB, Bool.and_eq_true] at hf
  obtain ⟨⟨h1, h2⟩, h3⟩ := hf
  obtain ⟨e1, b1⟩ := okN_elim (by omega) h1
  obtain ⟨e2, b2⟩ := okN_elim (by omega) h2
  have h4 := inB_iff.1 h3
  have hw := wb_pos i
  have hw6 := wb_six h6
  have := intoX_fit (f := f) (M := wb i) b1 b2 (by omega) h4.1 h4.2 h.pl (by omega) (fun k hk => by have := h.pf k hk; rwa [show min i 6 = i by omega] at this)
  exact ⟨this, this.mono (by omega), (minusX_fit this).mono (by omega)⟩

end Go.Proofs.YtdigmokjedckeaaGreatDoor
