/-
  Lemmas that the claim's last text rests on.
-/
import Derived.Test.YtpmihhbgjimpmaaGreatDoorNxM
namespace Go.Proofs.YtpmihhbgjimpmaaGreatDoor
open Go.RowKit Go.Deep
open Option.some renaming injEq → qA
open World renaming size_alloc → qB
open List renaming getElem?_eq_getElem → qC, length_append → qD, length_cons → qE, length_nil → qF
open Nat renaming le_refl → qG
set_option linter.unusedVariables false
set_option maxRecDepth 100000
set_option maxHeartbeats 25600000
variable {B N X cap cap' i j k n : Nat} {C D zs : List Int} {K M : Int} {P fs : List Frm} {S : Nat -> Prop} {W W' w : World} {a c : Option Addr} {ls : List LV} {t : TypeId} {v : Value} {xs : List Value}
def noX : Frm := ([], [], 0)
def toFV (f : Frm) : FV := ⟨none, f.1.length, 0, none, f.2.1.length, 0, f.2.2, f.1, f.2.1⟩
def intoX (f : FV) (P : List Frm) : Frm := (intoC f.C (P.map toFV) 3, intoD f.C f.D (P.map toFV) 3, intoK f.C f.K (P.map toFV) 3)
def minusX (f : Frm) : Frm := (mulL (-1) f.1, mulL (-1) f.2.1, -1 * f.2.2 - 1)
def plusX (f g : Frm) : Frm := (lin f.1 g.1 1, lin f.2.1 g.2.1 1, f.2.2 + 1 * g.2.2)
def potX (v : Nat) : Frm := ([0, 0, 0].set v 1, [0, 0], 0)
def lessX (f : Frm) (v : Nat) : Frm := (lin f.1 ([0, 0, 0].set v 1) (-1), lin f.2.1 [0, 0] (-1), f.2.2 + -1 * 0)
structure Way where
 pots : List Frm
 guards : List Frm
 tells : List Frm
structure RowM where
 guards : List Frm
 adds : List Frm
 tells : List Frm
 stop : Bool
def endW (y : Way) : RowM := ⟨y.guards, (List.range 3).map fun v => lessX (y.pots[v]?.getD noX) v, y.tells, false⟩
def stopW (y : Way) : RowM := ⟨y.guards, [], [], true⟩
def Way.guard (y : Way) (f : Frm) : Way := { y with guards := y.guards ++ [f] }
def Way.tell (y : Way) (f : Frm) : Way := { y with tells := y.tells ++ [f] }
def Way.add (y : Way) (p : Nat) (f : Frm) : Way := { y with pots := y.pots.set p (plusX (y.pots[p]?.getD noX) f) }
def way0 : Way := ⟨[potX 0, potX 1, potX 2], [], []⟩
def goW (ls : List LV) : Nat -> Nat -> Way -> List RowM
 | 0, _, y => [endW y]
 | f + 1, i, y =>
  if i < ls.length then
   if (ls[i]?.getD noLV).kind = 1 then goW ls f (i + 1) (y.guard (intoX (ls[i]?.getD noLV).f y.pots)) ++ goW ls f (i + 1 + (ls[i]?.getD noLV).skip.toNat) (y.guard (minusX (intoX (ls[i]?.getD noLV).f y.pots)))
   else if (ls[i]?.getD noLV).kind = 2 then goW ls f (i + 1) (y.add (ls[i]?.getD noLV).pot.toNat (intoX (ls[i]?.getD noLV).f y.pots))
   else if (ls[i]?.getD noLV).kind = 3 then goW ls f (i + 1) (y.tell (intoX (ls[i]?.getD noLV).f y.pots))
   else [stopW y]
  else [endW y]
def rowsL (ls : List LV) : List RowM := goW ls 7 0 way0
theorem goW_end {f : Nat} {y : Way} (h : ls.length <= i := by omega) : goW ls f i y = [endW y] := by
 cases f with
 | zero => rfl
 | succ f => rw [goW, if_neg (by omega)]
def wb : Nat -> Int
 | 0 => 1
 | n + 1 => 7 * wb n + 20
theorem wb_pos : ∀ n, 1 <= wb n
 | 0 => by simp [wb]
 | n + 1 => by have := wb_pos n; simp only [wb]; omega
theorem wb_mono {m : Nat} (h : n <= m) : wb n <= wb m := by
 induction h with
 | refl => exact Int.le_refl _
 | step _ ih => rename_i m _; have := wb_pos m; exact Int.le_trans ih (by simp only [wb]; omega)
theorem wb_six (h : n <= 6) : wb n <= 509809 := Int.le_trans (wb_mono h) (by simp [wb])
structure fitX (M : Int) (f : Frm) : Prop where
 c : f.1.length = 3
 d : f.2.1.length = 2
 bc : bnd M f.1
 bd : bnd M f.2.1
 k1 : -M <= f.2.2
 k2 : f.2.2 <= M
theorem fitX.mono {M' : Int} {f : Frm} (h : fitX M f) (hM : M <= M') : fitX M' f :=
 ⟨h.c, h.d, fun i => by have := h.bc i; omega, fun i => by have := h.bd i; omega, by have := h.k1; omega, by have := h.k2; omega⟩
theorem two_mul {c y : Int} (h1 : -2 <= c) (h2 : c <= 2) (h3 : -M <= y) (h4 : y <= M) : -(2 * M) <= c * y /\ c * y <= 2 * M := by
 obtain h | h | h | h | h : c = -2 \/ c = -1 \/ c = 0 \/ c = 1 \/ c = 2 := by omega
 all_goals subst h; constructor <;> omega
theorem toFV_at (h : k < P.length) : (P.map toFV)[k]?.getD noFV = toFV (P[k]?.getD noX) := by
 rw [List.getElem?_map, qC h]; rfl
theorem intoX_fit {f : FV} (bC : bnd 2 f.C) (bD : bnd 2 f.D) (lD : f.D.length = 2) (k1 : -20 <= f.K) (k2 : f.K <= 20) (hP : P.length = 3) (hM : 0 <= M) (h : ∀ k, k < 3 -> fitX M (P[k]?.getD noX)) : fitX (6 * M + 20) (intoX f P) := by
 have bt : ∀ k, k < 3 -> bndT (2 * M) (f.C[k]?.getD 0) ((P.map toFV)[k]?.getD noFV).C /\ bndT (2 * M) (f.C[k]?.getD 0) ((P.map toFV)[k]?.getD noFV).D /\ -(2 * M) <= f.C[k]?.getD 0 * ((P.map toFV)[k]?.getD noFV).K /\ f.C[k]?.getD 0 * ((P.map toFV)[k]?.getD noFV).K <= 2 * M /\ ((P.map toFV)[k]?.getD noFV).C.length = 3 /\ ((P.map toFV)[k]?.getD noFV).D.length = 2 := fun k hk => by
  rw [toFV_at (by omega)];have hf := h k hk;have hc := bC k;refine ⟨fun i => ?_, fun i => ?_, ?_, ?_, hf.c, hf.d⟩
  ·have := hf.bc i; exact two_mul hc.1 hc.2 this.1 this.2
  ·have := hf.bd i; exact two_mul hc.1 hc.2 this.1 this.2
  ·exact (two_mul hc.1 hc.2 hf.k1 hf.k2).1
  exact (two_mul hc.1 hc.2 hf.k1 hf.k2).2
 obtain ⟨a0, b0, x0, y0, l0, m0⟩ := bt 0 (by omega);obtain ⟨a1, b1, x1, y1, l1, m1⟩ := bt 1 (by omega);obtain ⟨a2, b2, x2, y2, l2, m2⟩ := bt 2 (by omega)
 have z3 : bnd 0 ([0, 0, 0] : List Int) := fun i => by
  match i with
  | 0 => simp
  | 1 => simp
  | 2 => simp
  | i + 3 => simp
 refine ⟨?_, ?_, ?_, ?_, ?_, ?_⟩
 ·exact lin_len (lin_len (lin_len rfl l0) l1) l2
 ·exact lin_len (lin_len (lin_len lD m0) m1) m2
 ·have := lin_bnd (lin_len (lin_len rfl l0) l1) l2 (lin_bnd (lin_len rfl l0) l1 (lin_bnd (k := 3) rfl l0 z3 a0 (by omega)) a1 (by omega)) a2 (by omega)
  exact fun i => by have := this i; simp only [intoX, intoC] at *; omega
 ·have := lin_bnd (lin_len (lin_len lD m0) m1) m2 (lin_bnd (lin_len lD m0) m1 (lin_bnd lD m0 bD b0 (by omega)) b1 (by omega)) b2 (by omega)
  exact fun i => by have := this i; simp only [intoX, intoD] at *; omega
 ·simp only [intoX, intoK]; omega
 simp only [intoX, intoK]; omega
theorem bndT_one {xs : List Int} (h : bnd M xs) : bndT M 1 xs := fun i => by have := h i; omega
theorem plusX_fit {M' : Int} {f g : Frm} (hf : fitX M f) (hg : fitX M' g) (h0 : 0 <= M + M' := by omega) : fitX (M + M') (plusX f g) := by
 have a := hf.k1;have b := hf.k2;have c := hg.k1;have d := hg.k2
 exact ⟨lin_len hf.c hg.c, lin_len hf.d hg.d, lin_bnd hf.c hg.c hf.bc (bndT_one hg.bc) h0, lin_bnd hf.d hg.d hf.bd (bndT_one hg.bd) h0, by simp only [plusX]; omega, by simp only [plusX]; omega⟩
theorem minusX_fit {f : Frm} (hf : fitX M f) : fitX (M + 1) (minusX f) := by
 have key : ∀ (xs : List Int), bnd M xs -> bnd (M + 1) (mulL (-1) xs) := fun xs hx i => by
  have hi := hx i
  have : (mulL (-1) xs)[i]?.getD 0 = -1 * xs[i]?.getD 0 := by
   simp only [mulL, List.getElem?_map]
   cases xs[i]? <;> simp
  rw [this]; omega
 have a := hf.k1;have b := hf.k2
 exact ⟨by simp [minusX, mulL, hf.c], by simp [minusX, mulL, hf.d], key _ hf.bc, key _ hf.bd, by simp only [minusX]; omega, by simp only [minusX]; omega⟩
structure WayOk (i : Nat) (y : Way) : Prop where
 pl : y.pots.length = 3
 pf : ∀ k, k < 3 -> fitX (wb (min i 6)) (y.pots[k]?.getD noX)
 gf : ∀ k, k < y.guards.length -> fitX 10000000 (y.guards[k]?.getD noX)
 tf : ∀ k, k < y.tells.length -> fitX 10000000 (y.tells[k]?.getD noX)
 gl : y.guards.length <= i
 tl : y.tells.length <= i
theorem WayOk.start : WayOk 0 way0 := by
 refine ⟨rfl, fun k hk => ?_, fun k hk => by simp [way0] at hk, fun k hk => by simp [way0] at hk, qG _, qG _⟩
 have b3 : ∀ v, v < 3 -> bnd 1 (([0, 0, 0] : List Int).set v 1) := fun v hv i => by
  match v, hv, i with
  | 0, _, 0 => simp
  | 0, _, 1 => simp
  | 0, _, 2 => simp
  | 0, _, i + 3 => simp
  | 1, _, 0 => simp
  | 1, _, 1 => simp
  | 1, _, 2 => simp
  | 1, _, i + 3 => simp
  | 2, _, 0 => simp
  | 2, _, 1 => simp
  | 2, _, 2 => simp
  | 2, _, i + 3 => simp
 have b2 : bnd 1 ([0, 0] : List Int) := fun i => by
  match i with
  | 0 => simp
  | 1 => simp
  | i + 2 => simp
 match k, hk with
 | 0, _ => exact ⟨rfl, rfl, b3 0 (by omega), b2, by decide, by decide⟩
 | 1, _ => exact ⟨rfl, rfl, b3 1 (by omega), b2, by decide, by decide⟩
 | 2, _ => exact ⟨rfl, rfl, b3 2 (by omega), b2, by decide, by decide⟩
theorem WayOk.more {y : Way} (h : WayOk i y) (hij : i <= j) : WayOk j y :=
 ⟨h.pl, fun k hk => (h.pf k hk).mono (wb_mono (by omega)), h.gf, h.tf, by have := h.gl; omega, by have := h.tl; omega⟩
theorem snoc_fit {L : List Frm} {f : Frm} (h : ∀ k, k < L.length -> fitX M (L[k]?.getD noX)) (hf : fitX M f) : ∀ k, k < (L ++ [f]).length -> fitX M ((L ++ [f])[k]?.getD noX) := fun k hk => by
 rw [qD] at hk;simp only [qE, qF] at hk
 by_cases e : k < L.length
 ·rw [List.getElem?_append_left e]; exact h k e
 obtain rfl : k = L.length := by omega
 rw [List.getElem?_append_right (qG _), Nat.sub_self]
 exact hf
theorem WayOk.guard {y : Way} {f : Frm} (h : WayOk i y) (hij : i < j) (hf : fitX 10000000 f) : WayOk j (y.guard f) := by
 have h' := h.more (j := j) (by omega);refine ⟨h'.pl, h'.pf, snoc_fit h.gf hf, h'.tf, ?_, h'.tl⟩;have := h.gl;simp only [Way.guard, qD, qE, qF]; omega
theorem WayOk.tell {y : Way} {f : Frm} (h : WayOk i y) (hij : i < j) (hf : fitX 10000000 f) : WayOk j (y.tell f) := by
 have h' := h.more (j := j) (by omega);refine ⟨h'.pl, h'.pf, h'.gf, snoc_fit h.tf hf, h'.gl, ?_⟩;have := h.tl;simp only [Way.tell, qD, qE, qF]; omega
theorem WayOk.add {p : Nat} {y : Way} {f : Frm} (h : WayOk i y) (h6 : i < 6) (hp : p < 3) (hf : fitX (6 * wb i + 20) f) : WayOk (i + 1) (y.add p f) := by
 have h' := h.more (j := i + 1) (by omega);refine ⟨by simp only [Way.add, List.length_set]; exact h.pl, fun k hk => ?_, h'.gf, h'.tf, h'.gl, h'.tl⟩;have hw := wb_pos i;have e6 : min i 6 = i := by omega
 have e7 : min (i + 1) 6 = i + 1 := by omega
 have hpf := h.pf p hp;rw [e6] at hpf
 by_cases e : p = k
 ·subst e
  have : (y.add p f).pots[p]?.getD noX = plusX (y.pots[p]?.getD noX) f := by
   simp only [Way.add];rw [List.getElem?_set_self (by rw [h.pl]; exact hp)]; rfl
  rw [this];have := plusX_fit hpf hf;rw [e7]
  exact this.mono (by simp only [wb]; omega)
 have : (y.add p f).pots[k]?.getD noX = y.pots[k]?.getD noX := by
  simp only [Way.add];rw [List.getElem?_set_ne e]
 rw [this]
 exact h'.pf k hk
theorem WayOk.into {y : Way} (h : WayOk i y) (h6 : i <= 6) {f : FV} (hf : smallB f.n f.m f.C f.D f.K = true) (lD : f.D.length = f.m) : fitX (6 * wb i + 20) (intoX f y.pots) /\ fitX 10000000 (intoX f y.pots) /\ fitX 10000000 (minusX (intoX f y.pots)) := by
 simp only [smallB, Bool.and_eq_true] at hf;obtain ⟨⟨h1, h2⟩, h3⟩ := hf;obtain ⟨e1, b1⟩ := okN_elim (by omega) h1;obtain ⟨e2, b2⟩ := okN_elim (by omega) h2;have h4 := inB_iff.1 h3;have hw := wb_pos i;have hw6 := wb_six h6;have := intoX_fit (f := f) (M := wb i) b1 b2 (by omega) h4.1 h4.2 h.pl (by omega) (fun k hk => by have := h.pf k hk; rwa [show min i 6 = i by omega] at this)
 exact ⟨this, this.mono (by omega), (minusX_fit this).mono (by omega)⟩
def Lo (B : Nat) (xs : List Value) : Prop := ∀ (i b o : Nat) (m c : Nat), xs[i]? = some (Value.slice (some ⟨b, o, none⟩) m c) -> B <= b
theorem Lo.nil (B : Nat) : Lo B [] := fun i b o m c h => by simp at h
theorem Lo.app (h : Lo B xs) {B1 B2 n1 n2 c1 c2 : Nat} {K : Int} (h1 : B <= B1) (h2 : B <= B2) : Lo B (xs ++ [.slice (some ⟨B1, 0, none⟩) n1 c1, .slice (some ⟨B2, 0, none⟩) n2 c2, .int .i64 K]) := fun i b o m c e => by
 by_cases hi : i < xs.length
 ·rw [List.getElem?_append_left hi] at e; exact h i b o m c e
 rw [List.getElem?_append_right (by omega)] at e;generalize i - xs.length = j at e
 match j with
 | 0 => simp at e; omega
 | 1 => simp at e; omega
 | 2 => simp at e
 | j + 3 => simp at e
theorem Ints.offC (h : Ints W a n zs) (hb : ∀ b o, a = some ⟨b, o, none⟩ -> ¬ S b) (t : Touch S W W') : Ints W' a n zs := by
 refine ⟨h.1, fun i hi => ?_⟩;obtain ⟨b, off, e, hc⟩ := h.2 i hi;refine ⟨b, off, e, ?_⟩;have hl := block_lt hc;simp only [World.cell?] at hc ⊢;rw [t.block b hl (hb b off e)]; exact hc
theorem own_off {base : Nat} {e : TypeId} {s : Nat} (h : W.ownsRow base e s v n xs) (hn : ∀ g, v.ownBlock = some g -> ¬ S g) (t : Touch S W W') : W'.ownsRow base e s v n xs := by
 refine ⟨h.1, ?_⟩
 rcases h.2 with h2 | ⟨g, cap, cur, hv, hg, hh, r⟩
 ·exact Or.inl h2
 refine Or.inr ⟨g, cap, cur, hv, hg, ?_, r⟩;rw [t.block g (lt_of_block hh) (hn g (by rw [hv]; rfl))]; exact hh
theorem TermsOk.off {G : Nat} (h : TermsOk W G xs fs n) {B : Nat} (hl : Lo B xs) (hS : ∀ k, S k -> k < B) (t : Touch S W W') : TermsOk W' G xs fs n := fun i hi => by
 obtain ⟨a', c', ca, cc, e0, e1, e2, i1, i2, n1, n2⟩ := h i hi;refine ⟨a', c', ca, cc, e0, e1, e2, i1.offC (fun b o e hs => ?_) t, i2.offC (fun b o e hs => ?_) t, n1, n2⟩
 ·rw [e] at e0;have := hl _ _ _ _ _ e0;have := hS _ hs
  omega
 rw [e] at e1;have := hl _ _ _ _ _ e1;have := hS _ hs
 omega
theorem grown_none (h : W.grownBy W' none) {G : Nat} : W.grownBy W' (some G) :=
 ⟨h.os, h.tape, h.output, h.size, fun k hk _ => h.block k hk (by simp)⟩
theorem Cel.grew {vs : List Value} {row : Option Nat} (h : Cel W B vs t) (hg : W.grownBy W' row) (hne : row ≠ some B) : Cel W' B vs t := by
 have hl := h.lt;unfold Cel at *;rw [hg.block B hl (fun e => hne e.symm)]; exact h
structure JV (w : World) (v : Value) (n : Nat) (xs : List Value) (fs : List Frm) (W : World) : Prop where
 b : Below w.heap.size w W
 o : W.ownsRow w.heap.size 95 3 v n xs
 t : ∃ G, (v.ownBlock = some G \/ (v.ownBlock = none /\ n = 0)) /\ TermsOk W G xs fs n
 l : Lo w.heap.size xs
theorem JV.nil (w : World) (fs : List Frm) : JV w (.slice none 0 0) 0 [] fs w := ⟨Below.refl _ _, World.ownsRow_nil w _ _ _, ⟨0, Or.inr ⟨rfl, rfl⟩, fun j hj => by omega⟩, Lo.nil _⟩
theorem JV.below (j : JV w v n xs fs W) (h : Below W.heap.size W W') : JV w v n xs fs W' := by
 obtain ⟨G, hG, ht⟩ := j.t
 exact ⟨j.b.trans (h.mono j.b.size), own_below j.o h, ⟨G, hG, ht.below h⟩, j.l⟩
theorem JV.own (j : JV w v n xs fs W) {G : Nat} (h : v.ownBlock = some G) : w.heap.size <= G /\ G < W.heap.size := by
 rcases j.o.2 with ⟨e, _⟩ | ⟨g, cap', cur, e, hg, hh, _⟩
 ·rw [e] at h; cases h
 rw [e] at h;have : some g = some G := h;simp only [qA] at this;subst this
 exact ⟨hg, lt_of_block hh⟩
theorem JV.isSlice (j : JV w v n xs fs W) : ∃ a c, v = .slice a n c := by
 rcases j.o.2 with ⟨e, h0⟩ | ⟨g, cap', cur, e, _⟩
 ·subst h0; exact ⟨_, _, e⟩
 exact ⟨_, _, e⟩
theorem JV.slice (j : JV w v n xs fs W) (hn : fs.length = n) : ∃ a cap, v = .slice a n cap /\ FormsAt W a fs := by
 obtain ⟨G, hG, ht⟩ := j.t
 rcases j.o.2 with ⟨e, h0⟩ | ⟨g, cap', cur, e, hg, hh, _⟩
 ·subst h0
  exact ⟨none, 0, e, fun i hi => by omega⟩
 have o := j.o;rw [e] at o
 rcases hG with hG | ⟨_, h0⟩
 ·rw [e] at hG;have : some g = some G := hG;simp only [qA] at this;subst this
  exact ⟨_, cap', e, ht.forms hn o⟩
 subst h0
 exact ⟨_, cap', e, fun i hi => by omega⟩
theorem JV.app {g B1 B2 ca cc : Nat} (j : JV w v n xs fs W) (hown : W'.ownsRow w.heap.size 95 3 (.slice (some ⟨g, 0, none⟩) (n + 1) cap) (n + 1) (xs ++ [.slice (some ⟨B1, 0, none⟩) 3 ca, .slice (some ⟨B2, 0, none⟩) 2 cc, .int .i64 K])) (hgrow : W.grownBy W' v.ownBlock) {H : Nat} (hat : v.ownBlock = some g \/ g = H) (hH : W.heap.size = H)
  (k1 : Ints W (some ⟨B1, 0, none⟩) 3 C) (k2 : Ints W (some ⟨B2, 0, none⟩) 2 D) (n1 : v.ownBlock ≠ some B1) (n2 : v.ownBlock ≠ some B2) (p1 : w.heap.size <= B1) (p2 : w.heap.size <= B2) (hT : fs[n]?.getD ([], [], 0) = (C, D, K)) :
  JV w (.slice (some ⟨g, 0, none⟩) (n + 1) cap) (n + 1) (xs ++ [.slice (some ⟨B1, 0, none⟩) 3 ca, .slice (some ⟨B2, 0, none⟩) 2 cc, .int .i64 K]) fs W' := by
 have hb : Below w.heap.size w W' := j.b.grown hgrow j.b.size (fun z hz => (j.own hz).1);have l1 := k1.blt (by omega) B1 0 rfl;have l2 := k2.blt (by omega) B2 0 rfl;obtain ⟨G, hG, ht⟩ := j.t;refine ⟨hb, hown, ⟨g, Or.inl rfl, ?_⟩, j.l.app p1 p2⟩
 rcases hG with hG | ⟨hG, h0⟩
 ·rw [hG] at hgrow hat n1 n2;refine ht.step j.o.1 hgrow ?_ k1 k2 (fun e => n1 (by rw [e])) (fun e => n2 (by rw [e])) hT
  rcases hat with h | h
  ·simp only [qA] at h; exact Or.inl h.symm
  exact Or.inr (by omega)
 rw [hG] at hgrow hat;have ht' : TermsOk W (W.heap.size + 1) xs fs n := fun j hj => by omega
 refine ht'.step j.o.1 (grown_none hgrow) ?_ k1 k2 (by omega) (by omega) hT
 rcases hat with h | h
 ·cases h
 exact Or.inr (by omega)
def FOff (W : World) (S : Nat -> Prop) (a : Option Addr) (fs : List Frm) : Prop := ∀ W', Touch S W W' -> FormsAt W' a fs
theorem FOff.at (h : FOff W S a fs) : FormsAt W a fs := h W (Touch.refl _ _)
theorem FOff.touch (h : FOff W S a fs) (t : Touch S W W') : FOff W' S a fs := fun W'' t' => h W'' (t.trans t')
theorem FOff.below (h : FOff W S a fs) (b : Below W.heap.size W W') : FOff W' S a fs := h.touch (Touch.of b)
theorem FOff.mono {S' : Nat -> Prop} (h : FOff W S a fs) (hs : ∀ k, S' k -> S k) : FOff W S' a fs := fun W' t => h W' (t.mono hs)
theorem JV.foff (j : JV w v n xs fs W) (hn : fs.length = n) : ∃ a cap, v = .slice a n cap /\ FOff W (fun k => k < w.heap.size) a fs := by
 obtain ⟨a, cap, hv⟩ := j.isSlice;refine ⟨a, cap, hv, fun W' t => ?_⟩;obtain ⟨G, hG, ht⟩ := j.t;have o' := own_off j.o (fun g hg hs => by have := (j.own hg).1; omega) t;have b' : Below w.heap.size W W' -> True := fun _ => trivial;have t' := ht.off j.l (fun k h => h) t
 rcases o'.2 with ⟨e, h0⟩ | ⟨g, cap', cur, e, _⟩
 ·subst h0;intro i hi
  omega
 have o := o';rw [e] at o hv;simp only [Value.slice.injEq, true_and] at hv;obtain ⟨rfl, rfl⟩ := hv
 rcases hG with hG | ⟨hG, _⟩
 ·rw [e] at hG;have : some g = some G := hG;simp only [qA] at this;subst this
  exact t'.forms hn o
 rw [e] at hG; cases hG
def RowX (W : World) (B : Nat) (v : Value) (r : RowM) : Prop :=
 ∃ ga gc aa ac ta tc, v = .agg #[.slice ga r.guards.length gc, .slice aa r.adds.length ac, .slice ta r.tells.length tc, .bool r.stop] /\ FOff W (fun k => k < B) ga r.guards /\ FOff W (fun k => k < B) aa r.adds /\ FOff W (fun k => k < B) ta r.tells
theorem FormsAt.keep (h : FormsAt W a fs) (hb : Below W.heap.size W W') : FormsAt W' a fs := fun i hi => by
 obtain ⟨b, off, e, a', c', ca, cc, c0, c1, c2, iC, iD⟩ := h i hi;refine ⟨b, off, e, a', c', ca, cc, ?_, ?_, ?_, iC.below hb, iD.below hb⟩
 ·rw [hb.cell (p := ⟨b, off + i * 3, none⟩) (block_lt c0)]; exact c0
 ·rw [hb.cell (p := ⟨b, off + i * 3 + 1, none⟩) (block_lt c1)]; exact c1
 rw [hb.cell (p := ⟨b, off + i * 3 + 2, none⟩) (block_lt c2)]; exact c2
theorem Ints.past (h : Ints W a n zs) (hx : ∀ o q, W.cell? ⟨X, o, none⟩ ≠ some (.int .i64 q)) (t : Touch (fun z => z = X) W W') : Ints W' a n zs := by
 refine ⟨h.1, fun i hi => ?_⟩;obtain ⟨b, off, e, hc⟩ := h.2 i hi;refine ⟨b, off, e, ?_⟩;have hb := block_lt hc;have hne : b ≠ X := fun e2 => by subst e2; exact hx _ _ hc
 simp only [World.cell?] at hc ⊢;rw [t.block b hb hne]; exact hc
theorem FormsAt.past (h : FormsAt W a fs) (hx : ∀ o v, W.cell? ⟨X, o, none⟩ = some v -> v = .slice none 0 0 \/ v = .bool false) (t : Touch (fun z => z = X) W W') : FormsAt W' a fs := fun i hi => by
 obtain ⟨b, off, e, a', c', ca, cc, c0, c1, c2, iC, iD⟩ := h i hi;have hi' : ∀ o q, W.cell? ⟨X, o, none⟩ ≠ some (.int .i64 q) := fun o q hq => by rcases hx o _ hq with h | h <;> cases h
 have hne : b ≠ X := fun e2 => by subst e2; rcases hx _ _ c0 with h | h <;> cases h
 have hb := block_lt c0;refine ⟨b, off, e, a', c', ca, cc, ?_, ?_, ?_, iC.past hi' t, iD.past hi' t⟩
 ·simp only [World.cell?] at c0 ⊢; rw [t.block b hb hne]; exact c0
 ·simp only [World.cell?] at c1 ⊢; rw [t.block b hb hne]; exact c1
 simp only [World.cell?] at c2 ⊢; rw [t.block b hb hne]; exact c2
theorem Cel.four {x y z u : Value} (h : Cel w B [x, y, z, u] t) : w.cell? ⟨B, 0, none⟩ = some x /\ w.cell? ⟨B, 1, none⟩ = some y /\ w.cell? ⟨B, 2, none⟩ = some z /\ w.cell? ⟨B, 3, none⟩ = some u := ⟨h.cell 0, h.cell 1, h.cell 2, h.cell 3⟩
theorem boxNo {a' a'' : Option Addr} {n' n'' c c' c'' : Nat} {bb : Bool} (h : Cel W X [.slice a n c, .slice a' n' c', .slice a'' n'' c'', .bool bb] t) : ∀ o q, W.cell? ⟨X, o, none⟩ ≠ some (.int .i64 q) := fun o q e => by
 have := h.cell o;rw [e] at this
 match o with
 | 0 => simp at this
 | 1 => simp at this
 | 2 => simp at this
 | 3 => simp at this
 | o + 4 => simp at this
theorem boxNil (h : Cel W X [.slice none 0 0, .slice none 0 0, .slice none 0 0, .bool false] t) : ∀ o v, W.cell? ⟨X, o, none⟩ = some v -> v = .slice none 0 0 \/ v = .bool false := fun o v e => by
 have := h.cell o;rw [e] at this
 match o with
 | 0 => simp at this; exact Or.inl this
 | 1 => simp at this; exact Or.inl this
 | 2 => simp at this; exact Or.inl this
 | 3 => simp at this; exact Or.inr this
 | o + 4 => simp at this
theorem goW_len (f : Nat) : ∀ (i : Nat) (y : Way), (goW ls f i y).length <= 2 ^ f := by
 induction f with
 | zero => intro i y; simp [goW]
 | succ f ih =>
  intro i y;have hp : 1 <= 2 ^ f := Nat.one_le_two_pow;have h2 : 2 ^ (f + 1) = 2 ^ f + 2 ^ f := by rw [Nat.pow_succ]; omega
  rw [goW]
  split
  ·split
   ·rw [qD];have h3 := ih (i + 1) (y.guard (intoX (ls[i]?.getD noLV).f y.pots));have h4 := ih (i + 1 + (ls[i]?.getD noLV).skip.toNat) (y.guard (minusX (intoX (ls[i]?.getD noLV).f y.pots)))
    omega
   split
   ·have := ih (i + 1) (y.add (ls[i]?.getD noLV).pot.toNat (intoX (ls[i]?.getD noLV).f y.pots)); omega
   split
   ·have := ih (i + 1) (y.tell (intoX (ls[i]?.getD noLV).f y.pots)); omega
   simp; omega
  simp; omega
theorem goW_128 {f : Nat} {y : Way} (hf : f <= 7) : (goW ls f i y).length <= 128 :=
 Nat.le_trans (goW_len f i y) (Nat.le_trans (Nat.pow_le_pow_right (by omega) hf) (by decide))
theorem allB_ofW (h : bnd M zs) : allB M zs = true := by
 unfold allB;rw [List.all_eq_true];intro z hz;obtain ⟨i, hi, rfl⟩ := List.getElem_of_mem hz;have := h i;rw [qC hi] at this;simp only [Option.getD_some] at this
 exact inB_iff.2 this
theorem fit_ok {f : Frm} (h : fitX 10000000 f) : formB 3 2 f.1 f.2.1 f.2.2 = true := by
 simp only [formB, okN, Bool.and_eq_true, decide_eq_true_eq]
 exact ⟨⟨⟨rfl, allB_ofW h.bc⟩, rfl, allB_ofW h.bd⟩, inB_iff.2 ⟨h.k1, h.k2⟩⟩
theorem FormsAt.fv (h : FormsAt w a P) (hl : P.length = 3) : ∃ fs : List FV, fs.length = 3 /\ FormsG w a fs /\ ∀ k, k < 3 -> (fs[k]?.getD noFV).n = 3 /\ (fs[k]?.getD noFV).m = 2 /\ (fs[k]?.getD noFV).C = (P[k]?.getD noX).1 /\ (fs[k]?.getD noFV).D = (P[k]?.getD noX).2.1 /\ (fs[k]?.getD noFV).K = (P[k]?.getD noX).2.2 := by
 obtain ⟨b, off, e, a0, c0, p0, q0, x0, x1, x2, i0, j0⟩ := h 0 (by omega);obtain ⟨b1, off1, e1, a1, c1, p1, q1, y0, y1, y2, i1, j1⟩ := h 1 (by omega);obtain ⟨b2, off2, e2, a2, c2, p2, q2, z0, z1, z2, i2, j2⟩ := h 2 (by omega);refine ⟨[⟨a0, 3, p0, c0, 2, q0, (P[0]?.getD noX).2.2, (P[0]?.getD noX).1, (P[0]?.getD noX).2.1⟩, ⟨a1, 3, p1, c1, 2, q1, (P[1]?.getD noX).2.2, (P[1]?.getD noX).1, (P[1]?.getD noX).2.1⟩, ⟨a2, 3, p2, c2, 2, q2, (P[2]?.getD noX).2.2, (P[2]?.getD noX).1, (P[2]?.getD noX).2.1⟩], rfl, fun i hi => ?_, fun k hk => ?_⟩
 ·match i, hi with
  | 0, _ => exact ⟨b, off, e, x0, x1, x2, ⟨i0, j0, by show (3 : Nat) <= _; omega, by show (2 : Nat) <= _; omega⟩⟩
  | 1, _ => exact ⟨b1, off1, e1, y0, y1, y2, ⟨i1, j1, by show (3 : Nat) <= _; omega, by show (2 : Nat) <= _; omega⟩⟩
  | 2, _ => exact ⟨b2, off2, e2, z0, z1, z2, ⟨i2, j2, by show (3 : Nat) <= _; omega, by show (2 : Nat) <= _; omega⟩⟩
 match k, hk with
 | 0, _ => exact ⟨rfl, rfl, rfl, rfl, rfl⟩
 | 1, _ => exact ⟨rfl, rfl, rfl, rfl, rfl⟩
 | 2, _ => exact ⟨rfl, rfl, rfl, rfl, rfl⟩
theorem into_eq {g : FV} {fs : List FV} (hP : P.length = 3) (h : ∀ k, k < 3 -> (fs[k]?.getD noFV).C = (P[k]?.getD noX).1 /\ (fs[k]?.getD noFV).D = (P[k]?.getD noX).2.1 /\ (fs[k]?.getD noFV).K = (P[k]?.getD noX).2.2) : intoC g.C fs 3 = (intoX g P).1 /\ intoD g.C g.D fs 3 = (intoX g P).2.1 /\ intoK g.C g.K fs 3 = (intoX g P).2.2 := by
 obtain ⟨x0, x1, x2⟩ := h 0 (by omega);obtain ⟨y0, y1, y2⟩ := h 1 (by omega);obtain ⟨z0, z1, z2⟩ := h 2 (by omega);have t0 := toFV_at (P := P) (k := 0) (by omega);have t1 := toFV_at (P := P) (k := 1) (by omega);have t2 := toFV_at (P := P) (k := 2) (by omega);simp only [intoX, intoC, intoD, intoK, x0, x1, x2, y0, y1, y2, z0, z1, z2, t0, t1, t2, toFV]
 exact ⟨trivial, trivial, trivial⟩
theorem into_done {y : Way} (hy : WayOk i y) (h6 : i <= 6) (g : FV) (hs : smallB g.n g.m g.C g.D g.K = true) (w : World) (hA : g.At w) (pa : Option Addr) (cp : Nat) (hP : FormsAt w pa y.pots) {fn : Nat}
  (call : ∀ fs : List FV, fs.length = 3 -> FormsG w pa fs -> Calls Tryz.prog fn #[formV g.a g.n g.cap g.c g.m g.cap' g.K, .slice pa 3 cp] w fun e w' => Res w w' e (keepL (intoOk g.n g.m g.C g.D g.K 3 fs) (intoC g.C fs 3)) (keepL (intoOk g.n g.m g.C g.D g.K 3 fs) (intoD g.C g.D fs 3)) (keepK (intoOk g.n g.m g.C g.D g.K 3 fs) (intoK g.C g.K fs 3))) :
  Calls Tryz.prog fn #[formV g.a g.n g.cap g.c g.m g.cap' g.K, .slice pa 3 cp] w fun e w' => ∃ B1 B2 c1 c2, e = .returned (formV (some ⟨B1, 0, none⟩) 3 c1 (some ⟨B2, 0, none⟩) 2 c2 (intoX g y.pots).2.2) /\ Below w.heap.size w w' /\ w.heap.size <= B1 /\ B1 ≠ B2 /\ w.heap.size <= B2 /\ Blk w' B1 (intoX g y.pots).1 /\ Blk w' B2 (intoX g y.pots).2.1 := by
 obtain ⟨fs, hl, hG, hv⟩ := hP.fv hy.pl;have hw6 := wb_six h6;obtain ⟨q1, q2, q3⟩ := into_eq (g := g) hy.pl (fun k hk => ⟨(hv k hk).2.2.1, (hv k hk).2.2.2.1, (hv k hk).2.2.2.2⟩);obtain ⟨f1, f2, f3⟩ := hy.into h6 hs hA.D.1
 have hok : fs.all FV.ok = true := by
  rw [List.all_eq_true];intro x hx;obtain ⟨k, hk, rfl⟩ := List.getElem_of_mem hx;obtain ⟨e1, e2, e3, e4, e5⟩ := hv k (by omega);rw [qC hk] at e1 e2 e3 e4 e5;simp only [Option.getD_some] at e1 e2 e3 e4 e5;have hf := fit_ok ((hy.pf k (by omega)).mono (show wb (min i 6) <= 10000000 by have := wb_six (n := min i 6) (by omega); omega));unfold FV.ok;rw [e1, e2, e3, e4, e5]; exact hf
 have hio : intoOk g.n g.m g.C g.D g.K 3 fs = true := by
  unfold intoOk;rw [small_ok hs, hok, q1, q2, q3, fit_ok f2]; rfl
 refine (call fs hl hG).mono ?_;rintro e w' ⟨a, n, cap, c, m, cap', B1, B2, rfl, L1, L2, b, o1, o2, g1, g2, g3⟩;rw [hio] at L1 L2 o1 o2 ⊢;simp only [keepL, keepK, if_true] at L1 L2 o1 o2 ⊢;rw [q1] at L1 o1;rw [q2] at L2 o2;rw [q3];have hc := f2.c;have hd := f2.d;obtain rfl : n = 3 := by omega
 obtain rfl : m = 2 := by omega
 rcases o1 with h | ⟨rfl, k1⟩
 ·rw [h] at hc; cases hc
 rcases o2 with h | ⟨rfl, k2⟩
 ·rw [h] at hd; cases hd
 exact ⟨B1, B2, cap, cap', rfl, b, g1 (by omega), g3 (by omega) (by omega), g2 (by omega), k1, k2⟩
theorem iintoW_any {y : Way} (hy : WayOk i y) (h6 : i <= 6) (g : FV) (hs : smallB g.n g.m g.C g.D g.K = true) {w : World} (hA : g.At w) {pa : Option Addr} {cp : Nat} (hP : FormsAt w pa y.pots) :
  Calls Tryz.prog 182 #[formV g.a g.n g.cap g.c g.m g.cap' g.K, .slice pa 3 cp] w fun e w' => ∃ B1 B2 c1 c2, e = .returned (formV (some ⟨B1, 0, none⟩) 3 c1 (some ⟨B2, 0, none⟩) 2 c2 (intoX g y.pots).2.2) /\ Below w.heap.size w w' /\ w.heap.size <= B1 /\ B1 ≠ B2 /\ w.heap.size <= B2 /\ Blk w' B1 (intoX g y.pots).1 /\ Blk w' B2 (intoX g y.pots).2.1 :=
 into_done hy h6 g hs w hA pa cp hP (fun fs hl hG => iinto_any g.C g.D fs hA.C hA.D hA.hn hA.hm hl hG (by omega))
theorem Ints.by {G : Nat} (h : Ints W a n zs) (t : Touch (fun x => x = G) W W') (hne : ∀ b o, a = some ⟨b, o, none⟩ -> b ≠ G) : Ints W' a n zs := by
 refine ⟨h.1, fun i hi => ?_⟩;obtain ⟨b, off, e, hc⟩ := h.2 i hi;refine ⟨b, off, e, ?_⟩;rw [World.cell?_of_block (t.block b (block_lt hc) (hne b off e))]
 exact hc
theorem lineW {k p z : Int} {m : Nat} (h : lineB k p z n m C D K = true) (h4 : ¬ k = 4) : smallB n m C D K = true /\ (k = 1 \/ k = 2 \/ k = 3) /\ (k = 1 -> 1 <= z /\ z <= 6) /\ (k = 2 -> 0 <= p /\ p < 3) := by
 by_cases h1 : k = 1
 ·subst h1;simp [lineB] at h;have := inB_iff.1 h.1.2
  exact ⟨h.2, Or.inl rfl, fun _ => this, fun e => by omega⟩
 by_cases h2 : k = 2
 ·subst h2;simp [lineB] at h;have := inB_iff.1 h.1.1
  exact ⟨h.2, Or.inr (Or.inl rfl), fun e => by omega, fun _ => ⟨this.1, by omega⟩⟩
 by_cases h3 : k = 3
 ·subst h3;simp [lineB] at h
  exact ⟨h.2, Or.inr (Or.inr rfl), fun e => by omega, fun e => by omega⟩
 simp [lineB, h1, h2, h3, h4] at h
theorem actB_parts (h : actB N ls = true) : N <= 6 /\ ls.all LV.ok = true := by
 simp only [actB, Bool.and_eq_true, decide_eq_true_eq] at h
 exact ⟨by omega, h.1.2⟩
def Bools (W : World) (a : Option Addr) (f : Nat -> Bool) : Prop := ∃ b off, a = some ⟨b, off, none⟩ /\ ∀ v, v < 3 -> W.cell? ⟨b, off + v, none⟩ = some (.bool (f v))
def hasP (f : Frm) (v : Nat) : Bool := f.1[v]?.getD 0 != 0
def readsF (r : Nat -> Bool) (fs : List Frm) (v : Nat) : Bool := r v || fs.any (fun f => hasP f v)
theorem readsF_snoc (r : Nat -> Bool) (fs : List Frm) (k : Nat) (hk : k < fs.length) (v : Nat) : readsF r (fs.take (k + 1)) v = (readsF r (fs.take k) v || hasP (fs[k]?.getD ([], [], 0)) v) := by
 rw [readsF, readsF, List.take_succ_eq_append_getElem hk, List.any_append, qC hk];simp [Bool.or_assoc]
theorem Tryz.infoBool : (Tryz.prog.info? 4).map (fun i => (i.zero, i.size, i.bytes)) = some (some (.bool false), 1, 1) := by kernel_rfl
theorem ilack_any (C D : List Int) {w : World} (hC : Ints w a 3 C) (hD : Ints w c 2 D) (bC : bnd 10000000 C) (bD : bnd 10000000 D) (bK1 : -10000000 <= K) (bK2 : K <= 10000000) (hfit : fitX 10000000 (minusX (C, D, K))) :
  Calls Tryz.prog 184 #[formV a 3 cap c 2 cap' K] w fun e w' => ∃ B1 B2, e = .returned (formV (some ⟨B1, 0, none⟩) 3 3 (some ⟨B2, 0, none⟩) 2 2 (-K - 1)) /\ Below w.heap.size w w' /\ w.heap.size <= B1 /\ B1 ≠ B2 /\ w.heap.size <= B2 /\ Blk w' B1 (mulL (-1) C) /\ Blk w' B2 (mulL (-1) D) := by
 have hok : formB 3 2 (mulL (-1) C) (mulL (-1) D) (-K - 1) = true := by
  have := fit_ok hfit;simp only [minusX] at this;rw [show -1 * K - 1 = -K - 1 by omega] at this
  exact this
 have HOK : Hid _ := hok;have lC : (mulL (-1) C).length = 3 := by rw [mulL_len]; exact hC.1
 have lD : (mulL (-1) D).length = 2 := by rw [mulL_len]; exact hD.1
 clear hok hfit;have A2 : Below w.heap.size w ((w.alloc (.cells #[.slice a 3 cap, .slice c 2 cap', .int .i64 K] 95)).alloc (.cells #[.slice none 0 0, .slice none 0 0, .int .i64 0] 95)) := (bal).alloc (by simp) _;have rr := Cel.new (w.alloc (.cells #[.slice a 3 cap, .slice c 2 cap', .int .i64 K] 95)) [.slice none 0 0, .slice none 0 0, .int .i64 0] 95;rw [qB] at rr
 go_enter Tryz.func184, Tryz.ntmps184
 go_wp2_with fail
 refine (times_any C D (hC.below A2) (hD.below A2) (tim_bnd bC (by omega) (by omega)) (tim_bnd bD (by omega) (by omega)) (tim_num bK1 bK2 (by omega) (by omega))).mono ?_;rintro e w3 ⟨B1, B2, rfl, b3, y1, y2, y3, k1, k2⟩;rw [show (-1 : Int) * K = -K by omega];rw [qB, qB] at y1 y3;have B3 := btr A2 b3;have r3 := rr.below b3;have l1 := k1.lt;have l2 := k2.lt;have lr := r3.lt;clear A2 b3 rr;have hw : IntKind.i64.wrap (-K - 1) = -K - 1 := wrap_id (by omega) (by omega);have A4 : Below w3.heap.size w3 (w3.alloc (.cells #[.slice (some ⟨B1, 0, none⟩) 3 3, .slice (some ⟨B2, 0, none⟩) 2 2, .int .i64 (-K - 1)] 95)) := bal;have m1 := k1.below A4;have m2 := k2.below A4;have r4 := r3.below A4;have B4 := btr B3 A4;clear k1 k2 r3 A4 B3
 go_wp2_with fail
 refine (orN_yes (mulL (-1) C) (mulL (-1) D) (m1.ints' lC) (m2.ints' lD) (by omega) (by omega) HOK.out).mono ?_;rintro e w5 ⟨rfl, b5⟩;have n1 := m1.below b5;have n2 := m2.below b5;have r5 := r4.below b5;have B5 := btr B4 b5;obtain ⟨e0, e1, e2, e3, e4, e5⟩ := r5.trio;have r6 := ((r5.set 0 (.slice (some ⟨B1, 0, none⟩) 3 3)).set 1 (.slice (some ⟨B2, 0, none⟩) 2 2)).set 2 (.int .i64 (-K - 1));simp only [List.set_cons_zero, List.set_cons_succ] at r6;obtain ⟨h0, h1, h2, h3, h4, h5⟩ := r6.trio;clear m1 m2 r4 B4 b5
 go_wp2
 refine bodyPost_ret (v := formV (some ⟨B1, 0, none⟩) 3 3 (some ⟨B2, 0, none⟩) 2 2 (-K - 1)) (by simp [results, Tryz.results184, go_sem, h0, h1, h2]) rfl ?_;refine ⟨B1, B2, rfl, ?_, by omega, y2, by omega, ?_, ?_⟩
 ·exact ((B5.setCell (by simp only []; omega) _).setCell (by simp only []; omega) _).setCell (by simp only []; omega) _
 ·exact ((n1.so).so).so
 exact ((n2.so).so).so
theorem way0_get (hk : k < 3) : way0.pots[k]?.getD ([], [], 0) = (([0, 0, 0] : List Int).set k 1, [0, 0], 0) := by
 match k, hk with
 | 0, _ => rfl
 | 1, _ => rfl
 | 2, _ => rfl
theorem ipots_any : Calls Tryz.prog 133 #[] w fun e w' => ∃ v xs, e = .returned v /\ JV w v 3 xs way0.pots w' := by
 obtain ⟨zi, hi, hz0, hz1, hz2⟩ := info_parts Tryz.infoForm
 go_enter Tryz.func133, Tryz.ntmps133
 go_wp2_with fail
 go_loopw [1, 2, 3] (fun r _ i wr => ∃ (k : Nat) (xs : List Value), k <= 3 /\ i = .int .i64 k /\ JV w r k xs way0.pots wr) (fun _ _ i _ => 3 - (intOf i).toNat)
 case atStart => exact ⟨0, [], by omega, rfl, JV.nil w _⟩
 case round =>
  obtain ⟨k, xs, hk, rfl, j⟩ := hrel
  by_cases hlt : k < 3
  ·obtain ⟨va, vc, rfl⟩ := j.isSlice;have hlt' : (k : Int) < 3 := by omega
   have HT : Hid _ := way0_get hlt
   go_wp2_with fail
   refine (ipot_any).mono ?_;rintro ee w3 ⟨a0, n0, x0, c0, m0, y0, Z1, Z2, rfl, L1, L2, b3, o1, o2, g1, g2, g3⟩;rw [potC_in (k : Int) k rfl] at L1 o1;rw [potD_in (k : Int)] at L2 o2;obtain rfl : n0 = 3 := by rw [<- L1]; simp
   obtain rfl : m0 = 2 := by rw [<- L2]; simp
   rcases o1 with h | ⟨rfl, k1⟩
   ·rw [h] at L1; cases L1
   rcases o2 with h | ⟨rfl, k2⟩
   ·cases h
   have z1 := g1 (by omega);have z2 := g2 (by omega);clear g1 g2 g3;have j3 := j.below b3;have sz := j.b.size;have sz3 := b3.size;have A : Below w3.heap.size w3 (w3.alloc (.cells #[.slice (some ⟨Z1, 0, none⟩) 3 x0, .slice (some ⟨Z2, 0, none⟩) 2 y0, .int .i64 0] 95)) := bal;have j4 := j3.below A;have k1' := k1.below A;have k2' := k2.below A;have n1 : (Value.slice va k vc).ownBlock ≠ some Z1 := fun e => by have := (j.own e).2; omega
   have n2 : (Value.slice va k vc).ownBlock ≠ some Z2 := fun e => by have := (j.own e).2; omega
   have l3 : (([0, 0, 0] : List Int).set k 1).length = 3 := by simp
   clear j j3
   go_wp2_with (at_builtin; go_must (refine wpList_append_lies _ rfl (.tmp 6) (.tmp 9) 176 rfl w.heap.size 95 zi _ 3 56 Tryz.underlying176 hi hz0 hz1 hz2 rfl (by decide) (.slice va k vc) k xs rfl j4.o ⟨w3.heap.size, 0, none⟩ 1 1 [.slice (some ⟨Z1, 0, none⟩) 3 x0, .slice (some ⟨Z2, 0, none⟩) 2 y0, .int .i64 0] rfl rfl (World.news_of_block (cs := #[.slice (some ⟨Z1, 0, none⟩) 3 x0, .slice (some ⟨Z2, 0, none⟩) 2 y0, .int .i64 0]) (t := 95) (fr := (0, 0)) (heap_alloc_new w3 _)) (by simp [Value.oneCell']) (by omega) (by unfold maxLen; omega) (by omega) (by rw [qB]; omega) _ rfl ?_); intro g cp w4 hown hgrow hat hlt1)
   have j5 := j4.app hown hgrow hat rfl (k1'.ints' l3) (k2'.ints' rfl) n1 n2 (by omega) (by omega) HT.out;clear hown hgrow hat j4 k1 k2 k1' k2'
   go_wp2
   go_roundw
   case rel => exact ⟨k + 1, _, by omega, by go_num, j5⟩
   case measure => simp [intOf]; omega
  obtain rfl : k = 3 := by omega
  go_wp2
  go_ret
  exact ⟨_, xs, rfl, j⟩
theorem icopied_any (C D : List Int) {w : World} (hC : Ints w a 3 C) (hD : Ints w c 2 D) :
  Calls Tryz.prog 245 #[formV a 3 cap c 2 cap' K] w fun e w' => ∃ B1 B2 c1 c2, e = .returned (formV (some ⟨B1, 0, none⟩) 3 c1 (some ⟨B2, 0, none⟩) 2 c2 K) /\ Below w.heap.size w w' /\ w.heap.size <= B1 /\ B1 ≠ B2 /\ w.heap.size <= B2 /\ Ints w' (some ⟨B1, 0, none⟩) 3 C /\ Ints w' (some ⟨B2, 0, none⟩) 2 D := by
 have H1 : TimesH w a cap c cap' K ((w.alloc (Obj.cells #[Value.slice a 3 cap, Value.slice c 2 cap', Value.int IntKind.i64 K] 95)).alloc (Obj.cells #[Value.slice none 0 0, Value.slice none 0 0, Value.int IntKind.i64 0] 95)) :=
  ⟨(Cel.new w _ _).alloc _, by have := Cel.new (w.alloc (Obj.cells #[Value.slice a 3 cap, Value.slice c 2 cap', Value.int IntKind.i64 K] 95)) [.slice none 0 0, .slice none 0 0, .int .i64 0] 95; rw [qB] at this; exact this, (bal).alloc (by simp) _⟩
 go_enter Tryz.func245, Tryz.ntmps245
 go_upto_region 1 with fail
 obtain ⟨W0, hW0⟩ : ∃ w2, w2 = (w.alloc (Obj.cells #[Value.slice a 3 cap, Value.slice c 2 cap', Value.int IntKind.i64 K] 95)).alloc (Obj.cells #[Value.slice none 0 0, Value.slice none 0 0, Value.int IntKind.i64 0] 95) := ⟨_, rfl⟩
 rw [<- hW0] at H1 ⊢;clear hW0;have KP : Hid (∀ W, Below W0.heap.size W0 W -> TimesH w a cap c cap' K W) := fun W hW => H1.below hW;have lr := H1.r.lt;have c0 : Below W0.heap.size W0 W0.drew := (Below.refl _ _).drew;have hSS : (W0.drew.cell? ⟨w.heap.size, 0, none⟩ = some (.slice a 3 cap) /\ W0.drew.cell? ⟨w.heap.size, 1, none⟩ = some (.slice c 2 cap') /\ W0.drew.cell? ⟨w.heap.size, 2, none⟩ = some (.int .i64 K)) /\ True := ⟨(KP.out _ c0).cells, trivial⟩
 have hb0 := H1.b;clear H1;refine wp_region_ends (fun w' => w'.cell? ⟨w.heap.size, 0, none⟩ = some (.slice a 3 cap) /\ w'.cell? ⟨w.heap.size, 1, none⟩ = some (.slice c 2 cap') /\ w'.cell? ⟨w.heap.size, 2, none⟩ = some (.int .i64 K)) (fun _ => True) 9 (by kernel_rfl) ?_;refine tkl 0 rfl hSS ?_;refine tkl 1 rfl hSS ?_;refine tkl 3 rfl hSS ?_;refine tkl 4 rfl hSS ?_;refine tkl 6 rfl hSS ?_;refine tkl 7 rfl hSS ?_;clear hSS;have sb0 := hb0.size;refine wpAnyE_one (i := 2) (by kernel_rfl) rfl (fun K' hK => ?_);go_simp;refine (clone_any _ _ C ((hC.below hb0).below c0)).mono ?_;rintro ee w1 ⟨v1, rfl, j1⟩;have e1 := below_of_drew j1.b;obtain ⟨a1, p1, B1, rfl, o1, g1⟩ := j1.ownx hC.1;have i1 := o1.ints;obtain ⟨rfl, -, -⟩ := o1.pos (by omega);have y1 : W0.heap.size <= B1 := g1 (by omega);have l1 := o1.lt (by omega);clear j1 o1 g1;(try dsimp only);refine kk0 hK ((KP.out _ e1).cells) ?_;clear hK K';refine wpAnyE_one (i := 5) (by kernel_rfl) rfl (fun K' hK => ?_);go_simp;refine (clone_any _ _ D ((hD.below hb0).below e1)).mono ?_;rintro ee w2 ⟨v2, rfl, j2⟩;have e2 := e1.trans (j2.b.mono e1.size);have i1' := i1.below j2.b;obtain ⟨a2, p2, B2, rfl, o2, g2⟩ := j2.ownx hD.1;have i2 := o2.ints;obtain ⟨rfl, -, -⟩ := o2.pos (by omega);have y2 : w1.heap.size <= B2 := g2 (by omega);have l2 := o2.lt (by omega);have s1 := e1.size;have s2 := j2.b.size;clear j2 o2 g2 i1;(try dsimp only);refine kk0 hK ((KP.out _ e2).cells) ?_;clear hK K';refine wpAnyE_one (i := 8) (by kernel_rfl) rfl (fun K' hK => ?_)
 go_simp;refine kk0 hK ((KP.out _ e2).cells) ?_;clear hK K';have HY := KP.out _ e2;obtain ⟨r0, r1, r2, r3, r4, r5⟩ := HY.room;obtain ⟨s0', s1', s2', -, -, -⟩ := HY.r.trio;have T : Touch (fun z => z = w.heap.size + 1) w2 (((w2.setCell ⟨w.heap.size + 1, 0, none⟩ (.slice (some ⟨B1, 0, none⟩) 3 p1)).setCell ⟨w.heap.size + 1, 1, none⟩ (.slice (some ⟨B2, 0, none⟩) 2 p2)).setCell ⟨w.heap.size + 1, 2, none⟩ (.int .i64 K)) := (((Touch.refl (fun z => z = w.heap.size + 1) w2).setCell rfl _).setCell rfl _).setCell rfl _;have r6 := ((HY.r.set 0 (.slice (some ⟨B1, 0, none⟩) 3 p1)).set 1 (.slice (some ⟨B2, 0, none⟩) 2 p2)).set 2 (.int .i64 K);simp only [List.set_cons_zero, List.set_cons_succ] at r6;have p6 := HY.p.touch T (fun h => by have := h; omega);obtain ⟨h0, h1, h2, -, -, -⟩ := r6.trio;obtain ⟨x0, x1, x2, -, -, -⟩ := p6.trio;refine wpAnyE_one (i := 9) (by kernel_rfl) rfl (fun K' hK => ?_);go_simp;refine hK.out _ _ ⟨⟨x0, x1, x2⟩, fun h => absurd (show true = false from h) (by decide)⟩ ?_;clear hK K';refine wod ?_ _;have q1 := i1'.by T (fun b o e => by simp only [qA, Addr.mk.injEq, and_true] at e; omega);have q2 := i2.by T (fun b o e => by simp only [qA, Addr.mk.injEq, and_true] at e; omega);have BB := (hb0.trans (e2.mono hb0.size)).trans (T.below (by omega) (fun z hz => by omega));clear HY r0 r1 r2 r3 r4 r5 s0' s1' s2' r6 p6 x0 x1 x2 T i1' i2
 go_wp2
 refine bodyPost_ret (v := formV (some ⟨B1, 0, none⟩) 3 p1 (some ⟨B2, 0, none⟩) 2 p2 K) (by simp [results, Tryz.results245, go_sem, h0, h1, h2]) rfl ?_
 exact ⟨B1, B2, p1, p2, rfl, BB, by omega, by omega, by omega, q1, q2⟩
theorem Tryz.copiedForm (v : Value) (w : World) : (Go.method 414 95 v "loop.example/concord/impl.copied").run Tryz.prog w = .ok (245, v) w := by kernel_rfl
theorem icopiesBy_any {ad : Option Addr} (fs : List Frm) {w : World} (hN : fs.length = N) (hF : FormsAt w ad fs) (hfit : ∀ k, k < N -> fitX 10000000 (fs[k]?.getD ([], [], 0))) (hN1 : N <= 1048576) :
  Calls Tryz.prog 190 #[.slice ad N cap, .func (.methodOf 95 "loop.example/concord/impl.copied") #[] #[]] w fun e w' => ∃ v xs, e = .returned v /\ JV w v N xs fs w' := by
 have HN : Hid (fs.length = N) := hN;have HFT : Hid _ := hfit;have HF : Hid (FormsAt w ad fs) := hF;clear hN hfit hF;obtain ⟨zi, hi, hz0, hz1, hz2⟩ := info_parts Tryz.infoForm;have hm := Tryz.copiedForm
 go_enter Tryz.func190, Tryz.ntmps190
 go_wp2_with fail
 go_loopw [5, 7, 10] (fun r _ i wr => ∃ (k : Nat) (xs : List Value), k <= N /\ i = .int .i64 k /\ JV w r k xs fs wr) (fun _ _ i _ => N - (intOf i).toNat)
 case atStart => exact ⟨0, [], Nat.zero_le _, rfl, JV.nil w _⟩
 case round =>
  obtain ⟨k, xs, hk, rfl, j⟩ := hrel
  by_cases hlt : k < N
  ·obtain ⟨va, vc, rfl⟩ := j.isSlice;have hlt' : (k : Int) < N := by omega
   obtain ⟨b, off, rfl, a', c', ca, cc, c0, c1, c2, iC, iD⟩ := (HF.out.keep j.b) k (by rw [HN.out]; exact hlt);have hfit := HFT.out k hlt;generalize HG : fs[k]?.getD ([], [], 0) = f at *;have HT : Hid (fs[k]?.getD ([], [], 0) = f) := HG;clear HG;obtain ⟨fC, fD, fK⟩ := f;have lC : fC.length = 3 := hfit.c;have lD : fD.length = 2 := hfit.d;simp only at c2 iC iD;clear hfit;have A1 : Below wr.heap.size wr (wr.alloc (.cells #[.slice a' 3 ca, .slice c' 2 cc, .int .i64 fK] 95)) := bal
   go_wp2_with fail
   refine (icopied_any fC fD (iC.below A1) (iD.below A1)).mono ?_;rintro ee w3 ⟨Z1, Z2, x0, y0, rfl, b3, z1, z2, z3, k1, k2⟩;rw [qB] at z1 z3;have b3' := A1.trans (b3.mono A1.size);have j3 := j.below b3';have sz := j.b.size;have sz3 := b3'.size;have A : Below w3.heap.size w3 (w3.alloc (.cells #[.slice (some ⟨Z1, 0, none⟩) 3 x0, .slice (some ⟨Z2, 0, none⟩) 2 y0, .int .i64 fK] 95)) := bal;have j4 := j3.below A;have k1' := k1.below A;have k2' := k2.below A;have n1 : (Value.slice va k vc).ownBlock ≠ some Z1 := fun e => by have := (j.own e).2; omega
   have n2 : (Value.slice va k vc).ownBlock ≠ some Z2 := fun e => by have := (j.own e).2; omega
   clear j j3 c0 c1 c2 iC iD A1 b3 b3'
   go_wp2_with (at_builtin; go_must (refine wpList_append_lies _ rfl (.tmp 14) (.tmp 18) 176 rfl w.heap.size 95 zi _ 3 56 Tryz.underlying176 hi hz0 hz1 hz2 rfl (by decide) (.slice va k vc) k xs rfl j4.o ⟨w3.heap.size, 0, none⟩ 1 1 [.slice (some ⟨Z1, 0, none⟩) 3 x0, .slice (some ⟨Z2, 0, none⟩) 2 y0, .int .i64 fK] rfl rfl (World.news_of_block (cs := #[.slice (some ⟨Z1, 0, none⟩) 3 x0, .slice (some ⟨Z2, 0, none⟩) 2 y0, .int .i64 fK]) (t := 95) (fr := (0, 0)) (heap_alloc_new w3 _)) (by simp [Value.oneCell']) (by omega) (by unfold maxLen; omega) (by omega) (by rw [qB]; omega) _ rfl ?_); intro g cp w4 hown hgrow hat hlt1)
   have j5 := j4.app hown hgrow hat rfl k1' k2' n1 n2 (by omega) (by omega) HT.out;clear hown hgrow hat j4 k1 k2 k1' k2'
   go_wp2
   go_roundw
   case rel => exact ⟨k + 1, _, by omega, by go_num, j5⟩
   case measure => simp [intOf]; omega
  obtain rfl : k = N := by omega
  go_wp2
  go_ret
  exact ⟨_, xs, rfl, j⟩
theorem icopies_any {ad : Option Addr} (fs : List Frm) {w : World} (hN : fs.length = N) (hF : FormsAt w ad fs) (hfit : ∀ k, k < N -> fitX 10000000 (fs[k]?.getD ([], [], 0))) (hN1 : N <= 1048576) :
  Calls Tryz.prog 180 #[.slice ad N cap] w fun e w' => ∃ v xs, e = .returned v /\ JV w v N xs fs w' := by
 go_enter Tryz.func180, Tryz.ntmps180
 go_wp2_with fail
 refine (icopiesBy_any fs hN hF hfit hN1).mono ?_;rintro e w1 ⟨v, xs, rfl, j⟩
 go_wp2
 go_ret
 exact ⟨v, xs, rfl, j⟩
abbrev wayV (ga : Option Addr) (ng gc : Nat) (pa : Option Addr) (cp : Nat) (ta : Option Addr) (nt tc : Nat) (st : Bool) : Value := .agg #[.slice ga ng gc, .slice pa 3 cp, .slice ta nt tc, .bool st]
theorem resYes {w' : World} {e : Ending} (h : Res w w' e C D K) (hC : C.length = 3) (hD : D.length = 2) : ∃ B1 B2 c1 c2, e = .returned (formV (some ⟨B1, 0, none⟩) 3 c1 (some ⟨B2, 0, none⟩) 2 c2 K) /\ Below w.heap.size w w' /\ w.heap.size <= B1 /\ B1 ≠ B2 /\ w.heap.size <= B2 /\ Blk w' B1 C /\ Blk w' B2 D := by
 obtain ⟨a, n, cap, c, m, cap', B1, B2, rfl, L1, L2, b, o1, o2, g1, g2, g3⟩ := h;obtain rfl : n = 3 := by omega
 obtain rfl : m = 2 := by omega
 rcases o1 with h | ⟨rfl, k1⟩
 ·rw [h] at hC; cases hC
 rcases o2 with h | ⟨rfl, k2⟩
 ·rw [h] at hD; cases hD
 exact ⟨B1, B2, cap, cap', rfl, b, g1 (by omega), g3 (by omega) (by omega), g2 (by omega), k1, k2⟩
theorem iaddX_any (f : Frm) {a2 : Option Addr} {cap2 : Nat} {c2 : Option Addr} {cap2' : Nat} (g : Frm) {w : World} (hC : Ints w a 3 f.1) (hD : Ints w c 2 f.2.1) (hC2 : Ints w a2 3 g.1) (hD2 : Ints w c2 2 g.2.1) (h1 : fitX 10000000 f) (h2 : fitX 10000000 g) (h3 : fitX 10000000 (plusX f g)) :
  Calls Tryz.prog 191 #[formV a 3 cap c 2 cap' f.2.2, formV a2 3 cap2 c2 2 cap2' g.2.2] w fun e w' => ∃ B1 B2 c1 c2, e = .returned (formV (some ⟨B1, 0, none⟩) 3 c1 (some ⟨B2, 0, none⟩) 2 c2 (plusX f g).2.2) /\ Below w.heap.size w w' /\ w.heap.size <= B1 /\ B1 ≠ B2 /\ w.heap.size <= B2 /\ Blk w' B1 (plusX f g).1 /\ Blk w' B2 (plusX f g).2.1 := by
 have hok : addOk 3 2 f.1 f.2.1 f.2.2 3 2 g.1 g.2.1 g.2.2 = true := by
  have e3 : formB 3 2 (lin f.1 g.1 1) (lin f.2.1 g.2.1 1) (f.2.2 + 1 * g.2.2) = true := fit_ok h3;unfold addOk;rw [fit_ok h1, fit_ok h2, e3]; rfl
 refine (iadd_any a 3 cap c 2 cap' f.2.2 f.1 f.2.1 a2 3 cap2 c2 2 cap2' g.2.2 g.1 g.2.1 w hC hD hC2 hD2 (by omega) (by omega) (by omega) (by omega)).mono ?_;intro e w' h;rw [hok] at h
 exact resYes h h3.c h3.d
theorem lin_neg (xs ys : List Int) : lin xs (mulL (-1) ys) 1 = lin xs ys (-1) := by
 unfold lin mulL;rw [List.zipWith_map_right]
 congr 1
 funext x y
 omega
def negX (k : Nat) : Frm := (mulL (-1) (([0, 0, 0] : List Int).set k 1), mulL (-1) [0, 0], -1 * 0)
theorem plus_neg (f : Frm) (k : Nat) : plusX f (negX k) = lessX f k := by
 simp only [plusX, negX, lessX, lin_neg];rw [show f.2.2 + 1 * (-1 * 0) = f.2.2 + -1 * 0 by omega]
theorem negX_fit (hk : k < 3) : fitX 1 (negX k) := by
 have b3 : bnd 1 (mulL (-1) (([0, 0, 0] : List Int).set k 1)) := fun i => by
  match k, hk, i with
  | 0, _, 0 => simp [mulL]
  | 0, _, 1 => simp [mulL]
  | 0, _, 2 => simp [mulL]
  | 0, _, i + 3 => simp [mulL]
  | 1, _, 0 => simp [mulL]
  | 1, _, 1 => simp [mulL]
  | 1, _, 2 => simp [mulL]
  | 1, _, i + 3 => simp [mulL]
  | 2, _, 0 => simp [mulL]
  | 2, _, 1 => simp [mulL]
  | 2, _, 2 => simp [mulL]
  | 2, _, i + 3 => simp [mulL]
 have b2 : bnd 1 (mulL (-1) ([0, 0] : List Int)) := fun i => by
  match i with
  | 0 => simp [mulL]
  | 1 => simp [mulL]
  | i + 2 => simp [mulL]
 exact ⟨by simp [negX, mulL], by simp [negX, mulL], b3, b2, by simp [negX], by simp [negX]⟩
theorem inegpot_any (k : Nat) (hk : k < 3) {a : Option Addr} {cap : Nat} {c : Option Addr} {cap' : Nat} {w : World} (hC : Ints w a 3 (([0, 0, 0] : List Int).set k 1)) (hD : Ints w c 2 [0, 0]) :
  Calls Tryz.prog 192 #[formV a 3 cap c 2 cap' 0, .int .i64 (-1)] w fun e w' => ∃ B1 B2 c1 c2, e = .returned (formV (some ⟨B1, 0, none⟩) 3 c1 (some ⟨B2, 0, none⟩) 2 c2 (negX k).2.2) /\ Below w.heap.size w w' /\ w.heap.size <= B1 /\ B1 ≠ B2 /\ w.heap.size <= B2 /\ Blk w' B1 (negX k).1 /\ Blk w' B2 (negX k).2.1 := by
 have h1 : formB 3 2 (([0, 0, 0] : List Int).set k 1) [0, 0] 0 = true := by
  match k, hk with
  | 0, _ => decide
  | 1, _ => decide
  | 2, _ => decide
 have h2 : formB 3 2 (negX k).1 (negX k).2.1 (negX k).2.2 = true := fit_ok ((negX_fit hk).mono (by omega))
 have hok : timOk 3 2 (([0, 0, 0] : List Int).set k 1) [0, 0] 0 (-1) = true := by
  unfold timOk;rw [h1];have h2' : formB 3 2 (mulL (-1) (([0, 0, 0] : List Int).set k 1)) (mulL (-1) [0, 0]) (-1 * 0) = true := h2;rw [h2']; rfl
 refine (itim_any a 3 cap c 2 cap' 0 (-1) w hC hD (by omega) (by omega)).mono ?_;intro e w' h;rw [hok] at h
 exact resYes h (negX_fit hk).c (negX_fit hk).d
theorem iadds_any (y : Way) {ga : Option Addr} {ng gc : Nat} {pa : Option Addr} {cp : Nat} {ta : Option Addr} {nt tc : Nat} {st : Bool} {w : World} (hp : y.pots.length = 3) (hP : FormsAt w pa y.pots) (fp : ∀ k, k < 3 -> fitX 9000000 (y.pots[k]?.getD noX)) :
  Calls Tryz.prog 181 #[wayV ga ng gc pa cp ta nt tc st] w fun e w' => ∃ v xs, e = .returned v /\ JV w v 3 xs (endW y).adds w' := by
 have HPL : Hid (y.pots.length = 3) := hp;have HFP : Hid _ := fp;have HP : Hid (FormsAt w pa y.pots) := hP;clear hp fp hP;obtain ⟨zi, hi, hz0, hz1, hz2⟩ := info_parts Tryz.infoForm;have B0 : Below w.heap.size w (w.alloc (.cells #[.slice ga ng gc, .slice pa 3 cp, .slice ta nt tc, .bool st] 223)) := bal;have j0 : JV w (.slice none 0 0) 0 [] (endW y).adds (w.alloc (.cells #[.slice ga ng gc, .slice pa 3 cp, .slice ta nt tc, .bool st] 223)) := (JV.nil w _).below B0
 go_enter Tryz.func181, Tryz.ntmps181
 go_wp2_with fail
 go_loopw [3, 4, 5, 9] (fun r _ _ i wr => ∃ (k : Nat) (xs : List Value), k <= 3 /\ i = .int .i64 k /\ JV w r k xs (endW y).adds wr) (fun _ _ _ i _ => 3 - (intOf i).toNat)
 case atStart => exact ⟨0, [], by omega, rfl, j0⟩
 case round =>
  clear j0 B0;obtain ⟨k, xs, hk, rfl, j⟩ := hrel
  by_cases hlt : k < 3
  ·obtain ⟨va, vc, rfl⟩ := j.isSlice;have hlt' : (k : Int) < 3 := by omega
   obtain ⟨b, off, rfl, a', c', ca, cc, c0, c1, c2, iC, iD⟩ := (HP.out.keep j.b) k (by rw [HPL.out]; exact hlt);have hfit : fitX 9000000 (y.pots[k]?.getD ([], [], 0)) := HFP.out k hlt;generalize HG : y.pots[k]?.getD ([], [], 0) = f at *
   have HT : Hid ((endW y).adds[k]?.getD ([], [], 0) = lessX f k) := by
    show _ = _
    rw [show (endW y).adds = (List.range 3).map (fun v => lessX (y.pots[v]?.getD noX) v) from rfl, List.getElem?_map, List.getElem?_range hlt]
    show lessX (y.pots[k]?.getD noX) k = _
    rw [show y.pots[k]?.getD noX = f from HG]
   clear HG;have fit1 : fitX 10000000 f := hfit.mono (by omega);have fit3 : fitX 10000000 (plusX f (negX k)) := (plusX_fit hfit (negX_fit hlt)).mono (by omega);have fit4 : fitX 10000000 (lessX f k) := by rw [<- plus_neg]; exact fit3
   have HF1 : Hid _ := fit1;have HF3 : Hid _ := fit3;have lC := fit4.c;have lD := fit4.d;have HPN : Hid (plusX f (negX k) = lessX f k) := plus_neg f k;clear hfit fit1 fit3 fit4;have A1 : Below wr.heap.size wr (wr.alloc (.cells #[.slice a' 3 ca, .slice c' 2 cc, .int .i64 f.2.2] 95)) := bal;have bx := Cel.new wr [.slice a' 3 ca, .slice c' 2 cc, .int .i64 f.2.2] 95
   go_upto_region 5 with fail
   have z0 : wr.heap.size < (wr.alloc (.cells #[.slice a' 3 ca, .slice c' 2 cc, .int .i64 f.2.2] 95)).heap.size := by rw [qB]; omega
   generalize (wr.alloc (.cells #[.slice a' 3 ca, .slice c' 2 cc, .int .i64 f.2.2] 95)) = W0 at *;have KP : Hid (∀ W, Below W0.heap.size W0 W -> Cel W wr.heap.size [.slice a' 3 ca, .slice c' 2 cc, .int .i64 f.2.2] 95) := fun W hW => bx.below hW
   have KQ : Hid (∀ W, Below W0.heap.size W0 W -> (W.cell? ⟨wr.heap.size, 0, none⟩ = some (.slice a' 3 ca) /\ W.cell? ⟨wr.heap.size, 1, none⟩ = some (.slice c' 2 cc) /\ W.cell? ⟨wr.heap.size, 2, none⟩ = some (.int .i64 f.2.2))) := fun W hW => by
    obtain ⟨n0, n1, n2, _, _, _⟩ := (KP.out W hW).trio
    exact ⟨n0, n1, n2⟩
   have jW := j.below A1;have iC0 := iC.below A1;have iD0 := iD.below A1;have e0 : Below W0.heap.size W0 W0.drew := (Below.refl _ _).drew;have hSS := And.intro (KQ.out _ e0) (True.intro);have OWN : Hid (∀ G : Nat, (Value.slice va k vc).ownBlock = some G -> G < wr.heap.size) := fun G e => (j.own e).2;have sw := jW.b.size;clear bx j iC iD c0 c1 c2 A1;refine wp_region_ends (fun w' => w'.cell? ⟨wr.heap.size, 0, none⟩ = some (.slice a' 3 ca) /\ w'.cell? ⟨wr.heap.size, 1, none⟩ = some (.slice c' 2 cc) /\ w'.cell? ⟨wr.heap.size, 2, none⟩ = some (.int .i64 f.2.2)) (fun _ => True) 8 (by kernel_rfl) ?_;refine tkl 0 rfl hSS ?_;refine tkl 1 rfl hSS ?_;refine tkl 2 rfl hSS ?_;clear hSS;refine wo1 3 rfl fun K hK => ?_;go_simp;refine (ipot_any).mono ?_;intro ee w1 hR;rw [potC_in (k : Int) k rfl, potD_in (k : Int)] at hR;obtain ⟨P1, P2, p1, p2, rfl, b1, -, -, -, u1, u2⟩ := resYes hR (by simp) rfl;have e1 := below_of_drew b1;clear hR b1;(try dsimp only);refine kk0 hK (KQ.out _ e1) ?_;refine wo1 4 rfl fun K hK => ?_;go_simp;refine (inegpot_any k hlt (u1.ints' (by simp)) (u2.ints' rfl)).mono ?_;rintro ee w2 ⟨N1, N2, q1, q2, rfl, b2, -, -, -, v1, v2⟩;have e2 := e1.trans (b2.mono e1.size);clear b2 u1 u2;(try dsimp only);refine kk0 hK (KQ.out _ e2) ?_;refine wo1 5 rfl fun K hK => ?_;go_simp;refine (iaddX_any f (negX k) (iC0.below e2) (iD0.below e2) (v1.ints' (by simp [negX, mulL])) (v2.ints' (by simp [negX, mulL])) HF1.out ((negX_fit hlt).mono (by omega)) HF3.out).mono ?_;rw [HPN.out]
   rintro ee w3 ⟨Z1, Z2, x0, y0, rfl, b3, z1, z2, z3, k1, k2⟩;have e3 := e2.trans (b3.mono e2.size);have s2 := e2.size;have s3 := b3.size;clear b3 v1 v2;(try dsimp only);refine kk0 hK (KQ.out _ e3) ?_;refine wo1 6 rfl fun K hK => ?_;go_simp;have A : Below w3.heap.size w3 (w3.alloc (.cells #[.slice (some ⟨Z1, 0, none⟩) 3 x0, .slice (some ⟨Z2, 0, none⟩) 2 y0, .int .i64 (lessX f k).2.2] 95)) := bal;have e4 := e3.trans (A.mono e3.size);have j4 := jW.below e4;have k1' := k1.below A;have k2' := k2.below A;have n1 : (Value.slice va k vc).ownBlock ≠ some Z1 := fun e => by have := OWN.out _ e; omega
   have n2 : (Value.slice va k vc).ownBlock ≠ some Z2 := fun e => by have := OWN.out _ e; omega
   refine kk0 hK (KQ.out _ e4) ?_;clear hK K jW;refine wo1 7 rfl fun K hK => ?_;rw [if_pos (by rfl)];refine wp_append_lies _ (.tmp 14) (.tmp 20) 176 rfl w.heap.size 95 zi _ 3 56 Tryz.underlying176 hi hz0 hz1 hz2 rfl (by omega) (.slice va k vc) k xs (by rfl) j4.o ⟨w3.heap.size, 0, none⟩ 1 1 [.slice (some ⟨Z1, 0, none⟩) 3 x0, .slice (some ⟨Z2, 0, none⟩) 2 y0, .int .i64 (lessX f k).2.2] (by rfl) (by rfl) (World.news_of_block (cs := #[.slice (some ⟨Z1, 0, none⟩) 3 x0, .slice (some ⟨Z2, 0, none⟩) 2 y0, .int .i64 (lessX f k).2.2]) (t := 95) (fr := (0, 0)) (heap_alloc_new w3 _)) (by simp [Value.oneCell']) (by omega) (by unfold maxLen; omega) (by omega) j4.b.size _ rfl ?_;intro g cpg w4 hown hgrow hat hltg;have j5 := j4.app hown hgrow hat rfl (k1'.ints' lC) (k2'.ints' lD) n1 n2 (by omega) (by omega) HT.out;have bx4 := (KP.out _ e4).grew hgrow (fun e => by have := OWN.out _ e; omega);obtain ⟨m0, m1, m2, -, -, -⟩ := bx4.trio;refine hK.out _ _ ⟨⟨m0, m1, m2⟩, fun _ => trivial⟩ ?_;clear hK K hown hgrow hat j4 k1 k2 k1' k2' n1 n2;refine wo1 8 rfl fun K hK => ?_;go_simp;refine hK.out _ _ ⟨⟨m0, m1, m2⟩, fun _ => trivial⟩ ?_;refine wod ?_ _;clear bx4 m0 m1 m2 KP KQ
   go_wp2
   go_roundw
   case rel => exact ⟨k + 1, _, by omega, by go_num, j5⟩
   case measure => simp [intOf]; omega
  obtain rfl : k = 3 := by omega
  go_wp2
  go_ret
  exact ⟨_, xs, rfl, j⟩
end Go.Proofs.YtpmihhbgjimpmaaGreatDoor
