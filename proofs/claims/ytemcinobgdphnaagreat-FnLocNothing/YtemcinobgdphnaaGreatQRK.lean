/-
  Lemmas that the claim's last text rests on.
-/
import Derived.Test.YtemcinobgdphnaaGreatQRJ
namespace Go.Proofs.YtemcinobgdphnaaGreat
open Go.RowKit Go.Deep
open Option.some renaming injEq → qA
open Addr.mk renaming injEq → qB
open World renaming size_alloc → qC
open List renaming getElem?_cons_zero → qD, getElem?_cons_succ → qE, length_append → qF, length_cons → qG, length_nil → qH
open Nat renaming le_refl → qI
set_option linter.unusedVariables false
set_option maxRecDepth 100000
set_option maxHeartbeats 25600000
variable {B G X cap i j n : Nat} {M : Int} {S : Nat -> Prop} {W W' w : World} {a : Option Addr} {fs : List Frm} {t : TypeId} {v : Value} {xs : List Value}
def noX : Frm := ([], [], 0)
def toFV (f : Frm) : FV := ⟨none, f.1.length, 0, none, f.2.1.length, 0, f.2.2, f.1, f.2.1⟩
def intoX (f : FV) (P : List Frm) : Frm := (intoC f.C (P.map toFV) 3, intoD f.C f.D (P.map toFV) 3, intoK f.C f.K (P.map toFV) 3)
def minusX (f : Frm) : Frm := (mulL (-1) f.1, mulL (-1) f.2.1, -1 * f.2.2 - 1)
def plusX (f g : Frm) : Frm := (lin f.1 g.1 1, lin f.2.1 g.2.1 1, f.2.2 + 1 * g.2.2)
def potX (v : Nat) : Frm := ([0, 0, 0].set v 1, [0, 0], 0)
def lessX (f : Frm) (v : Nat) : Frm := (lin f.1 ([0, 0, 0].set v 1) (-1), lin f.2.1 [0, 0] (-1), f.2.2 + -1 * 0)
structure Way where
 pots : List Frm
 guards : List Frm
 tells : List Frm
structure RowM where
 guards : List Frm
 adds : List Frm
 tells : List Frm
 stop : Bool
def endW (y : Way) : RowM := ⟨y.guards, (List.range 3).map fun v => lessX (y.pots[v]?.getD noX) v, y.tells, false⟩
def stopW (y : Way) : RowM := ⟨y.guards, [], [], true⟩
def Way.guard (y : Way) (f : Frm) : Way := { y with guards := y.guards ++ [f] }
def Way.tell (y : Way) (f : Frm) : Way := { y with tells := y.tells ++ [f] }
def Way.add (y : Way) (p : Nat) (f : Frm) : Way := { y with pots := y.pots.set p (plusX (y.pots[p]?.getD noX) f) }
def way0 : Way := ⟨[potX 0, potX 1, potX 2], [], []⟩
def goW (ls : List LV) : Nat -> Nat -> Way -> List RowM
 | 0, _, y => [endW y]
 | f + 1, i, y =>
  if i < ls.length then
   if (ls[i]?.getD noLV).kind = 1 then goW ls f (i + 1) (y.guard (intoX (ls[i]?.getD noLV).f y.pots)) ++ goW ls f (i + 1 + (ls[i]?.getD noLV).skip.toNat) (y.guard (minusX (intoX (ls[i]?.getD noLV).f y.pots)))
   else if (ls[i]?.getD noLV).kind = 2 then goW ls f (i + 1) (y.add (ls[i]?.getD noLV).pot.toNat (intoX (ls[i]?.getD noLV).f y.pots))
   else if (ls[i]?.getD noLV).kind = 3 then goW ls f (i + 1) (y.tell (intoX (ls[i]?.getD noLV).f y.pots))
   else [stopW y]
  else [endW y]
def rowsL (ls : List LV) : List RowM := goW ls 7 0 way0
theorem goW_end {ls : List LV} {f : Nat} {y : Way} (h : ls.length <= i) : goW ls f i y = [endW y] := by
 cases f with
 | zero => rfl
 | succ f => rw [goW, if_neg (by omega)]
def wb : Nat -> Int
 | 0 => 1
 | n + 1 => 7 * wb n + 20
theorem wb_pos : ∀ n, 1 <= wb n
 | 0 => by simp [wb]
 | n + 1 => by have := wb_pos n; simp only [wb]; omega
theorem wb_mono {m : Nat} (h : n <= m) : wb n <= wb m := by
 induction h with
 | refl => exact Int.le_refl _
 | step _ ih => rename_i m _; have := wb_pos m; exact Int.le_trans ih (by simp only [wb]; omega)
theorem wb_six (h : n <= 6) : wb n <= 509809 := Int.le_trans (wb_mono h) (by simp [wb])
structure fitX (M : Int) (f : Frm) : Prop where
 c : f.1.length = 3
 d : f.2.1.length = 2
 bc : bnd M f.1
 bd : bnd M f.2.1
 k1 : -M <= f.2.2
 k2 : f.2.2 <= M
theorem fitX.mono {M' : Int} {f : Frm} (h : fitX M f) (hM : M <= M') : fitX M' f :=
 ⟨h.c, h.d, fun i => by have := h.bc i; omega, fun i => by have := h.bd i; omega, by have := h.k1; omega, by have := h.k2; omega⟩
theorem two_mul {c y : Int} (h1 : -2 <= c) (h2 : c <= 2) (h3 : -M <= y) (h4 : y <= M) : -(2 * M) <= c * y /\ c * y <= 2 * M := by
 obtain h | h | h | h | h : c = -2 \/ c = -1 \/ c = 0 \/ c = 1 \/ c = 2 := by omega
 all_goals subst h; constructor <;> omega
theorem toFV_at {P : List Frm} {k : Nat} (h : k < P.length) : (P.map toFV)[k]?.getD noFV = toFV (P[k]?.getD noX) := by
 rw [List.getElem?_map, List.getElem?_eq_getElem h]; rfl
theorem intoX_fit {f : FV} {P : List Frm} (bC : bnd 2 f.C) (bD : bnd 2 f.D) (lD : f.D.length = 2) (k1 : -20 <= f.K) (k2 : f.K <= 20) (hP : P.length = 3) (hM : 0 <= M) (h : ∀ k, k < 3 -> fitX M (P[k]?.getD noX)) : fitX (6 * M + 20) (intoX f P) := by
 have bt : ∀ k, k < 3 -> bndT (2 * M) (f.C[k]?.getD 0) ((P.map toFV)[k]?.getD noFV).C /\ bndT (2 * M) (f.C[k]?.getD 0) ((P.map toFV)[k]?.getD noFV).D /\ -(2 * M) <= f.C[k]?.getD 0 * ((P.map toFV)[k]?.getD noFV).K /\ f.C[k]?.getD 0 * ((P.map toFV)[k]?.getD noFV).K <= 2 * M /\ ((P.map toFV)[k]?.getD noFV).C.length = 3 /\ ((P.map toFV)[k]?.getD noFV).D.length = 2 := fun k hk => by
  rw [toFV_at (by omega)];have hf := h k hk;have hc := bC k;refine ⟨fun i => ?_, fun i => ?_, ?_, ?_, hf.c, hf.d⟩
  ·have := hf.bc i; exact two_mul hc.1 hc.2 this.1 this.2
  ·have := hf.bd i; exact two_mul hc.1 hc.2 this.1 this.2
  ·exact (two_mul hc.1 hc.2 hf.k1 hf.k2).1
  exact (two_mul hc.1 hc.2 hf.k1 hf.k2).2
 obtain ⟨a0, b0, x0, y0, l0, m0⟩ := bt 0 (by omega);obtain ⟨a1, b1, x1, y1, l1, m1⟩ := bt 1 (by omega);obtain ⟨a2, b2, x2, y2, l2, m2⟩ := bt 2 (by omega)
 have z3 : bnd 0 ([0, 0, 0] : List Int) := fun i => by
  match i with
  | 0 => simp
  | 1 => simp
  | 2 => simp
  | i + 3 => simp
 refine ⟨?_, ?_, ?_, ?_, ?_, ?_⟩
 ·exact lin_len (lin_len (lin_len rfl l0) l1) l2
 ·exact lin_len (lin_len (lin_len lD m0) m1) m2
 ·have := lin_bnd (lin_len (lin_len rfl l0) l1) l2 (lin_bnd (lin_len rfl l0) l1 (lin_bnd (k := 3) rfl l0 z3 a0 (by omega)) a1 (by omega)) a2 (by omega)
  exact fun i => by have := this i; simp only [intoX, intoC] at *; omega
 ·have := lin_bnd (lin_len (lin_len lD m0) m1) m2 (lin_bnd (lin_len lD m0) m1 (lin_bnd lD m0 bD b0 (by omega)) b1 (by omega)) b2 (by omega)
  exact fun i => by have := this i; simp only [intoX, intoD] at *; omega
 ·simp only [intoX, intoK]; omega
 simp only [intoX, intoK]; omega
theorem bndT_one {xs : List Int} (h : bnd M xs) : bndT M 1 xs := fun i => by have := h i; omega
theorem plusX_fit {M' : Int} {f g : Frm} (hf : fitX M f) (hg : fitX M' g) (h0 : 0 <= M + M' := by omega) : fitX (M + M') (plusX f g) := by
 have a := hf.k1;have b := hf.k2;have c := hg.k1;have d := hg.k2
 exact ⟨lin_len hf.c hg.c, lin_len hf.d hg.d, lin_bnd hf.c hg.c hf.bc (bndT_one hg.bc) h0, lin_bnd hf.d hg.d hf.bd (bndT_one hg.bd) h0, by simp only [plusX]; omega, by simp only [plusX]; omega⟩
theorem minusX_fit {f : Frm} (hf : fitX M f) : fitX (M + 1) (minusX f) := by
 have key : ∀ (xs : List Int), bnd M xs -> bnd (M + 1) (mulL (-1) xs) := fun xs hx i => by
  have hi := hx i
  have : (mulL (-1) xs)[i]?.getD 0 = -1 * xs[i]?.getD 0 := by
   simp only [mulL, List.getElem?_map]
   cases xs[i]? <;> simp
  rw [this]; omega
 have a := hf.k1;have b := hf.k2
 exact ⟨by simp [minusX, mulL, hf.c], by simp [minusX, mulL, hf.d], key _ hf.bc, key _ hf.bd, by simp only [minusX]; omega, by simp only [minusX]; omega⟩
structure WayOk (i : Nat) (y : Way) : Prop where
 pl : y.pots.length = 3
 pf : ∀ k, k < 3 -> fitX (wb (min i 6)) (y.pots[k]?.getD noX)
 gf : ∀ k, k < y.guards.length -> fitX 10000000 (y.guards[k]?.getD noX)
 tf : ∀ k, k < y.tells.length -> fitX 10000000 (y.tells[k]?.getD noX)
 gl : y.guards.length <= i
 tl : y.tells.length <= i
theorem WayOk.start : WayOk 0 way0 := by
 refine ⟨rfl, fun k hk => ?_, fun k hk => by simp [way0] at hk, fun k hk => by simp [way0] at hk, qI _, qI _⟩
 have b3 : ∀ v, v < 3 -> bnd 1 (([0, 0, 0] : List Int).set v 1) := fun v hv i => by
  match v, hv, i with
  | 0, _, 0 => simp
  | 0, _, 1 => simp
  | 0, _, 2 => simp
  | 0, _, i + 3 => simp
  | 1, _, 0 => simp
  | 1, _, 1 => simp
  | 1, _, 2 => simp
  | 1, _, i + 3 => simp
  | 2, _, 0 => simp
  | 2, _, 1 => simp
  | 2, _, 2 => simp
  | 2, _, i + 3 => simp
 have b2 : bnd 1 ([0, 0] : List Int) := fun i => by
  match i with
  | 0 => simp
  | 1 => simp
  | i + 2 => simp
 match k, hk with
 | 0, _ => exact ⟨rfl, rfl, b3 0 (by omega), b2, by decide, by decide⟩
 | 1, _ => exact ⟨rfl, rfl, b3 1 (by omega), b2, by decide, by decide⟩
 | 2, _ => exact ⟨rfl, rfl, b3 2 (by omega), b2, by decide, by decide⟩
theorem WayOk.more {y : Way} (h : WayOk i y) (hij : i <= j) : WayOk j y :=
 ⟨h.pl, fun k hk => (h.pf k hk).mono (wb_mono (by omega)), h.gf, h.tf, by have := h.gl; omega, by have := h.tl; omega⟩
theorem snoc_fit {L : List Frm} {f : Frm} (h : ∀ k, k < L.length -> fitX M (L[k]?.getD noX)) (hf : fitX M f) : ∀ k, k < (L ++ [f]).length -> fitX M ((L ++ [f])[k]?.getD noX) := fun k hk => by
 rw [qF] at hk;simp only [qG, qH] at hk
 by_cases e : k < L.length
 ·rw [List.getElem?_append_left e]; exact h k e
 obtain rfl : k = L.length := by omega
 rw [List.getElem?_append_right (qI _), Nat.sub_self]
 exact hf
theorem WayOk.guard {y : Way} {f : Frm} (h : WayOk i y) (hij : i < j) (hf : fitX 10000000 f) : WayOk j (y.guard f) := by
 have h' := h.more (j := j) (by omega);refine ⟨h'.pl, h'.pf, snoc_fit h.gf hf, h'.tf, ?_, h'.tl⟩;have := h.gl;simp only [Way.guard, qF, qG, qH]; omega
theorem WayOk.tell {y : Way} {f : Frm} (h : WayOk i y) (hij : i < j) (hf : fitX 10000000 f) : WayOk j (y.tell f) := by
 have h' := h.more (j := j) (by omega);refine ⟨h'.pl, h'.pf, h'.gf, snoc_fit h.tf hf, h'.gl, ?_⟩;have := h.tl;simp only [Way.tell, qF, qG, qH]; omega
theorem WayOk.add {p : Nat} {y : Way} {f : Frm} (h : WayOk i y) (h6 : i < 6) (hp : p < 3) (hf : fitX (6 * wb i + 20) f) : WayOk (i + 1) (y.add p f) := by
 have h' := h.more (j := i + 1) (by omega);refine ⟨by simp only [Way.add, List.length_set]; exact h.pl, fun k hk => ?_, h'.gf, h'.tf, h'.gl, h'.tl⟩;have hw := wb_pos i;have e6 : min i 6 = i := by omega
 have e7 : min (i + 1) 6 = i + 1 := by omega
 have hpf := h.pf p hp;rw [e6] at hpf
 by_cases e : p = k
 ·subst e
  have : (y.add p f).pots[p]?.getD noX = plusX (y.pots[p]?.getD noX) f := by
   simp only [Way.add];rw [List.getElem?_set_self (by rw [h.pl]; exact hp)]; rfl
  rw [this];have := plusX_fit hpf hf;rw [e7]
  exact this.mono (by simp only [wb]; omega)
 have : (y.add p f).pots[k]?.getD noX = y.pots[k]?.getD noX := by
  simp only [Way.add];rw [List.getElem?_set_ne e]
 rw [this]
 exact h'.pf k hk
theorem WayOk.into {y : Way} (h : WayOk i y) (h6 : i <= 6) {f : FV} (hf : smallB f.n f.m f.C f.D f.K = true) (lD : f.D.length = f.m) : fitX (6 * wb i + 20) (intoX f y.pots) /\ fitX 10000000 (intoX f y.pots) /\ fitX 10000000 (minusX (intoX f y.pots)) := by
 simp only [smallB, Bool.and_eq_true] at hf;obtain ⟨⟨h1, h2⟩, h3⟩ := hf;obtain ⟨e1, b1⟩ := okN_elim (by omega) h1;obtain ⟨e2, b2⟩ := okN_elim (by omega) h2;have h4 := inB_iff.1 h3;have hw := wb_pos i;have hw6 := wb_six h6;have := intoX_fit (f := f) (M := wb i) b1 b2 (by omega) h4.1 h4.2 h.pl (by omega) (fun k hk => by have := h.pf k hk; rwa [show min i 6 = i by omega] at this)
 exact ⟨this, this.mono (by omega), (minusX_fit this).mono (by omega)⟩
def Lo (B : Nat) (xs : List Value) : Prop := ∀ (i b o : Nat) (m c : Nat), xs[i]? = some (Value.slice (some ⟨b, o, none⟩) m c) -> B <= b
theorem Lo.nil (B : Nat) : Lo B [] := fun i b o m c h => by simp at h
theorem Lo.app (h : Lo B xs) {B1 B2 n1 n2 c1 c2 : Nat} {K : Int} (h1 : B <= B1) (h2 : B <= B2) : Lo B (xs ++ [.slice (some ⟨B1, 0, none⟩) n1 c1, .slice (some ⟨B2, 0, none⟩) n2 c2, .int .i64 K]) := fun i b o m c e => by
 by_cases hi : i < xs.length
 ·rw [List.getElem?_append_left hi] at e; exact h i b o m c e
 rw [List.getElem?_append_right (by omega)] at e;generalize i - xs.length = j at e
 match j with
 | 0 => simp at e; omega
 | 1 => simp at e; omega
 | 2 => simp at e
 | j + 3 => simp at e
theorem Ints.offC {zs : List Int} (h : Ints W a n zs) (hb : ∀ b o, a = some ⟨b, o, none⟩ -> ¬ S b) (t : Touch S W W') : Ints W' a n zs := by
 refine ⟨h.1, fun i hi => ?_⟩;obtain ⟨b, off, e, hc⟩ := h.2 i hi;refine ⟨b, off, e, ?_⟩;have hl := block_lt hc;simp only [World.cell?] at hc ⊢;rw [t.block b hl (hb b off e)]; exact hc
theorem own_off {base : Nat} {e : TypeId} {s : Nat} (h : W.ownsRow base e s v n xs) (hn : ∀ g, v.ownBlock = some g -> ¬ S g) (t : Touch S W W') : W'.ownsRow base e s v n xs := by
 refine ⟨h.1, ?_⟩
 rcases h.2 with h2 | ⟨g, cap, cur, hv, hg, hh, r⟩
 ·exact Or.inl h2
 refine Or.inr ⟨g, cap, cur, hv, hg, ?_, r⟩;rw [t.block g (lt_of_block hh) (hn g (by rw [hv]; rfl))]; exact hh
theorem TermsOk.off (h : TermsOk W G xs fs n) {B : Nat} (hl : Lo B xs) (hS : ∀ k, S k -> k < B) (t : Touch S W W') : TermsOk W' G xs fs n := fun i hi => by
 obtain ⟨a', c', ca, cc, e0, e1, e2, i1, i2, n1, n2⟩ := h i hi;refine ⟨a', c', ca, cc, e0, e1, e2, i1.offC (fun b o e hs => ?_) t, i2.offC (fun b o e hs => ?_) t, n1, n2⟩
 ·rw [e] at e0;have := hl _ _ _ _ _ e0;have := hS _ hs
  omega
 rw [e] at e1;have := hl _ _ _ _ _ e1;have := hS _ hs
 omega
structure JF (w : World) (G cap n : Nat) (xs : List Value) (fs : List Frm) (W : World) : Prop where
 b : Below w.heap.size w W
 o : W.ownsRow w.heap.size 86 3 (.slice (some ⟨G, 0, none⟩) n cap) n xs
 t : TermsOk W G xs fs n
 l : Lo w.heap.size xs
theorem JF.below (j : JF w G cap n xs fs W) (h : Below W.heap.size W W') : JF w G cap n xs fs W' := ⟨j.b.trans (h.mono j.b.size), own_below j.o h, j.t.below h, j.l⟩
theorem JF.at (j : JF w G cap n xs fs W) (hn : fs.length = n) : FormsAt W (some ⟨G, 0, none⟩) fs := j.t.forms hn j.o
theorem JF.lt (j : JF w G cap n xs fs W) : w.heap.size <= G /\ G < W.heap.size := by
 rcases j.o.2 with ⟨h, _⟩ | ⟨g, cap', cur, h, hg, hh, _⟩
 ·cases h
 simp only [Value.slice.injEq, qA, qB, and_true, true_and] at h;obtain ⟨rfl, _⟩ := h
 exact ⟨hg, lt_of_block hh⟩
theorem JF.off (j : JF w G cap n xs fs W) (hn : fs.length = n) {S : Nat -> Prop} (hS : ∀ k, S k -> k < w.heap.size) (t : Touch S W W') : FormsAt W' (some ⟨G, 0, none⟩) fs := by
 have hG := j.lt
 have o' := own_off j.o (fun g hg hs => by
  have : some G = some g := hg;simp only [qA] at this;have := hS _ hs
  omega) t
 exact (j.t.off j.l hS t).forms hn o'
theorem lin3_one {xs : List Int} (h : xs.length = 3) : lin [0, 0, 0] xs 1 = xs := by
 match xs, h with
 | [x, y, z], _ => simp [lin]
theorem lin2_one {xs : List Int} (h : xs.length = 2) : lin [0, 0] xs 1 = xs := by
 match xs, h with
 | [x, y], _ => simp [lin]
theorem scopy_any {ad : Option Addr} {N : Nat} (fs : List Frm) {w : World} (hN : fs.length = N) (hF : FormsAt w ad fs) (hfit : ∀ k, k < N -> fitX 10000000 (fs[k]?.getD ([], [], 0))) (hN1 : N <= 1048576) :
  Calls Tryz.prog 146 #[.slice ad N cap] w fun e w' => ∃ G cp xs, e = .returned (.slice (some ⟨G, 0, none⟩) N cp) /\ JF w G cp N xs fs w' := by
 have HN : Hid (fs.length = N) := hN;have HFT : Hid _ := hfit;have HF : Hid (FormsAt w ad fs) := hF;clear hN hfit hF;obtain ⟨i0, hi, hz0, hz1, hz2⟩ := info_parts Tryz.infoForm
 have j0 : JF w w.heap.size 0 0 [] fs (w.alloc (.cells #[] 86)) :=
  ⟨bal, World.ownsRow_lit w #[] 0 (qI _) (by unfold maxLen; omega) rfl, fun j hj => by omega, Lo.nil _⟩
 go_enter Tryz.func146, Tryz.ntmps146
 go_wp2_with fail
 go_loopw [3, 4] (fun r i wr => ∃ (k G cp : Nat) (xs : List Value), k <= N /\ i = .int .i64 k /\ r = .slice (some ⟨G, 0, none⟩) k cp /\ JF w G cp k xs fs wr) (fun _ i _ => N - (intOf i).toNat)
 case atStart => exact ⟨0, _, _, _, Nat.zero_le _, rfl, rfl, j0⟩
 case round =>
  clear j0;obtain ⟨k, G, cp, xs, hk, rfl, rfl, j⟩ := hrel
  by_cases hlt : k < N
  ·obtain ⟨b, off, rfl, a', c', ca, cc, c0, c1, c2, iC, iD⟩ := HF.out k (by rw [HN.out]; exact hlt);have hfit := HFT.out k hlt;have HK : Hid (fs[k]?.getD ([], [], 0) = fs[k]?.getD ([], [], 0)) := rfl;generalize HG : fs[k]?.getD ([], [], 0) = f at *;have HT : Hid (fs[k]?.getD ([], [], 0) = f) := HG;clear HG HK;obtain ⟨fC, fD, fK⟩ := f;obtain ⟨lC, lD, bC, bD, k1, k2⟩ := hfit;simp only at c2 iC iD lC lD bC bD k1 k2
   have keep : ∀ W : World, Below w.heap.size w W -> (W.cell? ⟨b, off + k * 3, none⟩ = some (.slice a' 3 ca) /\ W.cell? ⟨b, off + k * 3 + 1, none⟩ = some (.slice c' 2 cc) /\ W.cell? ⟨b, off + k * 3 + 2, none⟩ = some (.int .i64 fK)) := fun W hW =>
    ⟨by rw [hW.cell (p := ⟨b, off + k * 3, none⟩) (block_lt c0)]; exact c0, by rw [hW.cell (p := ⟨b, off + k * 3 + 1, none⟩) (block_lt c1)]; exact c1, by rw [hW.cell (p := ⟨b, off + k * 3 + 2, none⟩) (block_lt c2)]; exact c2⟩
   have KP : Hid _ := keep;clear keep;have hSS := And.intro (KP.out _ j.b.drew) (True.intro);clear c0 c1 c2;have hlt' : (k : Int) < N := by omega
   go_upto_region 5 with fail
   refine wp_region_ends (fun w' => w'.cell? ⟨b, off + k * 3, none⟩ = some (.slice a' 3 ca) /\ w'.cell? ⟨b, off + k * 3 + 1, none⟩ = some (.slice c' 2 cc) /\ w'.cell? ⟨b, off + k * 3 + 2, none⟩ = some (.int .i64 fK)) (fun _ => True) 9 (by kernel_rfl) ?_;refine tkl 0 rfl hSS ?_;refine tkl 2 rfl hSS ?_;refine tkl 3 rfl hSS ?_;refine tkl 4 rfl hSS ?_;refine tkl 5 rfl hSS ?_;refine wo1 1 rfl fun K hK => ?_;go_simp;refine (szero_any _).mono ?_;rintro ee w3 ⟨Z1, Z2, rfl, b3, y1, y2, y3, z1, z2⟩;have j3 := j.below (below_of_drew b3);dsimp only;refine kk0 hK (KP.out _ j3.b) ?_;clear hK K hSS j;refine wo1 6 rfl fun K hK => ?_;go_simp;refine (l1sum_any [0, 0, 0] [0, 0] fC fD (z1.ints' rfl) (z2.ints' rfl) (iC.below j3.b) (iD.below j3.b) bnd_lit3 bnd_lit2 (by omega) (fun i => by have := bC i; omega) (fun i => by have := bD i; omega) (by omega)).mono ?_;rintro ee w4 ⟨B1, B2, rfl, b4, g1, g2, g3, u1, u2⟩;rw [lin3_one lC] at u1;rw [lin2_one lD] at u2;have e0 : (0 : Int) + 1 * fK = fK := by omega
   rw [e0];have j4 := j3.below b4;have lG := j3.lt;have hs3 := j3.b.size;have l1 := u1.lt;have l2 := u2.lt;dsimp only;refine kk0 hK (KP.out _ j4.b) ?_;clear hK K z1 z2 b3 b4 y1 y2 y3;refine wo1 7 rfl fun K hK => ?_;go_simp;have A5 : Below w4.heap.size w4 (w4.alloc (.cells #[.slice (some ⟨B1, 0, none⟩) 3 3, .slice (some ⟨B2, 0, none⟩) 2 2, .int .i64 fK] 86)) := bal;have j5 := j4.below A5;have hs5 := j5.b.size;have v1 := u1.below A5;have v2 := u2.below A5;have s43 := A5.size;have lG4 := j4.lt;refine kk0 hK (KP.out _ j5.b) ?_;clear hK K A5 j3 j4;refine wo1 8 rfl fun K hK => ?_;rw [if_pos (by rfl)];refine wp_append_lies _ (.tmp 12) (.tmp 19) 74 rfl w.heap.size 86 i0 _ 3 56 Tryz.underlying74 hi hz0 hz1 hz2 rfl (by omega) (.slice (some ⟨G, 0, none⟩) k cp) k xs (by rfl) j5.o ⟨w4.heap.size, 0, none⟩ 1 1 [Value.slice (some ⟨B1, 0, none⟩) 3 3, Value.slice (some ⟨B2, 0, none⟩) 2 2, Value.int .i64 fK] (by rfl) (by rfl) (World.news_of_block (cs := #[Value.slice (some ⟨B1, 0, none⟩) 3 3, Value.slice (some ⟨B2, 0, none⟩) 2 2, Value.int .i64 fK]) (t := 86) (fr := (0, 0)) (heap_alloc_new w4 _)) (by simp [Value.oneCell']) (by omega) (by unfold maxLen; omega) (by omega) hs5 (w4.heap.size + 1) (by rw [qC]) ?_;intro g cp2 w6 hown hgrow hat hlt6
   have j6 : JF w g cp2 (k + 1) (xs ++ [Value.slice (some ⟨B1, 0, none⟩) 3 3, Value.slice (some ⟨B2, 0, none⟩) 2 2, Value.int .i64 fK]) fs w6 := by
    refine ⟨j5.b.grown hgrow hs5 (fun z hz => ?_), hown, j5.t.step j5.o.1 hgrow ?_ (v1.ints' lC) (v2.ints' lD) (by omega) (by omega) HT.out, j5.l.app (by omega) (by omega)⟩
    ·have : some G = some z := hz;simp only [qA] at this
     omega
    rcases hat with h | h
    ·have : some G = some g := h;simp only [qA] at this
     exact Or.inl this.symm
    exact Or.inr (by rw [qC]; omega)
   refine kk0 hK (KP.out _ j6.b) ?_;clear hK K hown hgrow hat j5 v1 v2 u1 u2;refine wo1 9 rfl fun K hK => ?_;go_simp;refine kk0 hK (KP.out _ j6.b) ?_;refine wod ?_ _
   go_wp2
   go_roundw
   case rel => exact ⟨k + 1, g, cp2, _, by omega, by go_num, rfl, j6⟩
   case measure => simp [intOf]; omega
  obtain rfl : k = N := by omega
  go_wp2
  go_ret
  exact ⟨G, cp, xs, rfl, j⟩
theorem sminus_any {c : Option Addr} {cap' : Nat} {K : Int} (C D : List Int) {w : World} (hC : Ints w a 3 C) (hD : Ints w c 2 D) (bC : bnd 10000000 C) (bD : bnd 10000000 D) (bK1 : -10000000 <= K) (bK2 : K <= 10000000) :
  Calls Tryz.prog 148 #[formV a 3 cap c 2 cap' K] w fun e w' => ∃ B1 B2, e = .returned (formV (some ⟨B1, 0, none⟩) 3 3 (some ⟨B2, 0, none⟩) 2 2 (-K - 1)) /\ Below w.heap.size w w' /\ w.heap.size <= B1 /\ B1 ≠ B2 /\ w.heap.size <= B2 /\ Blk w' B1 (mulL (-1) C) /\ Blk w' B2 (mulL (-1) D) := by
 obtain ⟨k, hk⟩ : ∃ k : Int, k = -1 := ⟨_, rfl⟩
 have tC : bndT 1000000000000000000 k C := by rw [hk]; exact fun i => by have := bC i; omega
 have tD : bndT 1000000000000000000 k D := by rw [hk]; exact fun i => by have := bD i; omega
 have tK : -1000000000000000000 <= k * K /\ k * K <= 1000000000000000000 := by rw [hk]; omega
 have Z3 := lin_zero3 (k := k) hC.1;have Z2 := lin_zero2 (k := k) hD.1
 have H1 : TimesH w a cap c cap' K ((w.alloc (Obj.cells #[Value.slice a 3 cap, Value.slice c 2 cap', Value.int IntKind.i64 K] 86)).alloc (Obj.cells #[Value.slice none 0 0, Value.slice none 0 0, Value.int IntKind.i64 0] 86)) :=
  ⟨(Cel.new w _ _).alloc _, by have := Cel.new (w.alloc (Obj.cells #[Value.slice a 3 cap, Value.slice c 2 cap', Value.int IntKind.i64 K] 86)) [.slice none 0 0, .slice none 0 0, .int .i64 0] 86; rw [qC] at this; exact this, (bal).alloc (by simp) _⟩
 have HK : Hid (k = -1) := hk;subst hk
 go_enter Tryz.func148, Tryz.ntmps148
 go_upto_region 1 with fail
 obtain ⟨w2, hw2⟩ : ∃ w2, w2 = (w.alloc (Obj.cells #[Value.slice a 3 cap, Value.slice c 2 cap', Value.int IntKind.i64 K] 86)).alloc (Obj.cells #[Value.slice none 0 0, Value.slice none 0 0, Value.int IntKind.i64 0] 86) := ⟨_, rfl⟩
 rw [<- hw2] at H1 ⊢;clear hw2
 go_cut [3] (fun s wx => ∃ X B1 B2, s = .pointer (some ⟨X, 0, none⟩) /\ TimesH w a cap c cap' K wx /\ Cel wx X [.slice (some ⟨B1, 0, none⟩) 3 3, .slice (some ⟨B2, 0, none⟩) 2 2, .int .i64 (-K)] 86 /\ Blk wx B1 (mulL (-1) C) /\ Blk wx B2 (mulL (-1) D) /\ w.heap.size + 1 < X /\ w.heap.size + 1 < B1 /\ w.heap.size + 1 < B2 /\ B1 ≠ B2 /\ B1 ≠ X /\ B2 ≠ X)
 case first =>
  have l1 := H1.r.lt;have G1 := H1.cells;have N0 := World.new_ne w2 ⟨w.heap.size, 0, none⟩ G1.1;have N1 := World.new_ne w2 ⟨w.heap.size, 1, none⟩ G1.2.1;have N2 := World.new_ne w2 ⟨w.heap.size, 2, none⟩ G1.2.2;have A1 := H1.b.size
  go_region_held3 (fun w' => w'.cell? ⟨w.heap.size, 0, none⟩ = some (.slice a 3 cap) /\ w'.cell? ⟨w.heap.size, 1, none⟩ = some (.slice c 2 cap') /\ w'.cell? ⟨w.heap.size, 2, none⟩ = some (.int .i64 K)) (first | assumption | go_keep)
   (first
    | (go_at_call 101; refine (szero_any _).mono ?_; rintro e w3 ⟨Z1, Z2', rfl, b3, y1, y2, y3, k1, k2⟩; have H3 := TimesH.below (w := w) (a := a) (c := c) (cap := cap) (cap' := cap') (K := K) (by first | exact H1.drew | exact (H1.alloc _).drew) b3; have G3 := H3.cells; have l3 := H3.r.lt; have A3 : w2.heap.size <= w3.heap.size := Nat.le_trans (by simp) b3.size; have N3 := World.new_ne w3 ⟨w.heap.size, 0, none⟩ G3.1; have N4 := World.new_ne w3 ⟨w.heap.size, 1, none⟩ G3.2.1; have N5 := World.new_ne w3 ⟨w.heap.size, 2, none⟩ G3.2.2; first | (have X3 := Cel.below (w := (w2.alloc (Obj.cells #[Value.slice none 0 0, Value.slice none 0 0, Value.int IntKind.i64 0] 86)).drew) (Cel.new w2 [Value.slice none 0 0, Value.slice none 0 0, Value.int IntKind.i64 0] 86) b3) | skip)
    | (go_at_call 149; refine (l1sum_any [0, 0, 0] [0, 0] C D (by first | exact k1.ints' rfl | exact (k1.alloc _).ints' rfl) (by first | exact k2.ints' rfl | exact (k2.alloc _).ints' rfl) (hC.below (TimesH.b (a := a) (c := c) (cap := cap) (cap' := cap') (K := K) (by first | exact H3 | exact H3.alloc _))) (hD.below (TimesH.b (a := a) (c := c) (cap := cap) (cap' := cap') (K := K) (by first | exact H3 | exact H3.alloc _))) bnd_lit3 bnd_lit2 (by omega) tC tD tK).mono ?_; rintro e w4 ⟨B1, B2, rfl, b4, g1, g2, g3, k3, k4⟩; have H4 := TimesH.below (w := w) (a := a) (c := c) (cap := cap) (cap' := cap') (K := K) (by first | exact H3 | exact H3.alloc _) b4; have G4 := H4.cells; have l4 := H4.r.lt; first | (have X4 := Cel.below (Cel.new w3 [Value.slice none 0 0, Value.slice none 0 0, Value.int IntKind.i64 0] 86) b4; have X5 := X4.trio; obtain ⟨u0, u1, u2, u3, u4, u5⟩ := X5) | (have X4 := X3.below b4; have X5 := X4.trio; obtain ⟨u0, u1, u2, u3, u4, u5⟩ := X5) | skip))
  all_goals
   rw [Z3] at k3;rw [Z2] at k4
   try rw [qC] at g1 g3
   have l13 := k3.lt;have l14 := k4.lt
  ·go_wp2_with fail
   go_meet
   case rel => exact ⟨_, B1, B2, rfl, H4.alloc _, Cel.new w4 _ _, k3.alloc _, k4.alloc _, by omega, by omega, by omega, g2, by omega, by omega⟩
  ·go_wp2_with fail
   go_meet
   case rel => exact ⟨_, B1, B2, rfl, ((H4.set (by omega) _ _).set (by omega) _ _).set (by omega) _ _, ((X4.set 0 _).set 1 _).set 2 _, ((k3.so).so).so, ((k4.so).so).so, by omega, by omega, by omega, g2, by omega, by omega⟩
  have x3 := X3.lt
  go_wp2_with fail
  go_meet
  case rel => exact ⟨_, B1, B2, rfl, ((H4.set (by omega) _ _).set (by omega) _ _).set (by omega) _ _, ((X4.set 0 _).set 1 _).set 2 _, ((k3.so).so).so, ((k4.so).so).so, by omega, by omega, by omega, g2, by omega, by omega⟩
 case rest =>
  obtain ⟨X, B1, B2, rfl, HX, hX, k1, k2, lX, lB1, lB2, hne, x1, x2⟩ := hcut;clear H1 Z3 Z2 tC tD tK bC bD;obtain ⟨c0, c1, c2, c3, c4, c5⟩ := hX.trio;have hw : IntKind.i64.wrap (-K - 1) = -K - 1 := wrap_id (by omega) (by omega);have HY := HX.set (X := X) (by omega) 2 (.int .i64 (-K - 1));have hY := hX.set 2 (.int .i64 (-K - 1));obtain ⟨d0, d1, d2, d3, d4, d5⟩ := hY.trio;obtain ⟨r0, r1, r2, r3, r4, r5⟩ := HY.room;have k1' := k1.setOther x1 2 (.int .i64 (-K - 1));have k2' := k2.setOther x2 2 (.int .i64 (-K - 1));clear HX hX hY k1 k2
  go_wp2
  refine bodyPost_ret (v := formV (some ⟨B1, 0, none⟩) 3 3 (some ⟨B2, 0, none⟩) 2 2 (-K - 1)) (by simp [results, Tryz.results148, go_sem, r0, r1, r2]) rfl ?_;refine ⟨B1, B2, rfl, ?_, by omega, hne, by omega, ?_, ?_⟩
  ·exact ((HY.b.setCell (by simp only []; omega) _).setCell (by simp only []; omega) _).setCell (by simp only []; omega) _
  ·exact ((k1'.so).so).so
  exact ((k2'.so).so).so
theorem grown_none (h : W.grownBy W' none) {G : Nat} : W.grownBy W' (some G) :=
 ⟨h.os, h.tape, h.output, h.size, fun k hk _ => h.block k hk (by simp)⟩
theorem Cel.grew {vs : List Value} {row : Option Nat} (h : Cel W B vs t) (hg : W.grownBy W' row) (hne : row ≠ some B) : Cel W' B vs t := by
 have hl := h.lt;unfold Cel at *;rw [hg.block B hl (fun e => hne e.symm)]; exact h
structure JV (w : World) (v : Value) (n : Nat) (xs : List Value) (fs : List Frm) (W : World) : Prop where
 b : Below w.heap.size w W
 o : W.ownsRow w.heap.size 86 3 v n xs
 t : ∃ G, (v.ownBlock = some G \/ (v.ownBlock = none /\ n = 0)) /\ TermsOk W G xs fs n
 l : Lo w.heap.size xs
theorem JV.nil (w : World) (fs : List Frm) : JV w (.slice none 0 0) 0 [] fs w := ⟨Below.refl _ _, World.ownsRow_nil w _ _ _, ⟨0, Or.inr ⟨rfl, rfl⟩, fun j hj => by omega⟩, Lo.nil _⟩
theorem JV.below (j : JV w v n xs fs W) (h : Below W.heap.size W W') : JV w v n xs fs W' := by
 obtain ⟨G, hG, ht⟩ := j.t
 exact ⟨j.b.trans (h.mono j.b.size), own_below j.o h, ⟨G, hG, ht.below h⟩, j.l⟩
theorem JV.own (j : JV w v n xs fs W) {G : Nat} (h : v.ownBlock = some G) : w.heap.size <= G /\ G < W.heap.size := by
 rcases j.o.2 with ⟨e, _⟩ | ⟨g, cap', cur, e, hg, hh, _⟩
 ·rw [e] at h; cases h
 rw [e] at h;have : some g = some G := h;simp only [qA] at this;subst this
 exact ⟨hg, lt_of_block hh⟩
theorem JV.isSlice (j : JV w v n xs fs W) : ∃ a c, v = .slice a n c := by
 rcases j.o.2 with ⟨e, h0⟩ | ⟨g, cap', cur, e, _⟩
 ·subst h0; exact ⟨_, _, e⟩
 exact ⟨_, _, e⟩
theorem JV.slice (j : JV w v n xs fs W) (hn : fs.length = n) : ∃ a cap, v = .slice a n cap /\ FormsAt W a fs := by
 obtain ⟨G, hG, ht⟩ := j.t
 rcases j.o.2 with ⟨e, h0⟩ | ⟨g, cap', cur, e, hg, hh, _⟩
 ·subst h0
  exact ⟨none, 0, e, fun i hi => by omega⟩
 have o := j.o;rw [e] at o
 rcases hG with hG | ⟨_, h0⟩
 ·rw [e] at hG;have : some g = some G := hG;simp only [qA] at this;subst this
  exact ⟨_, cap', e, ht.forms hn o⟩
 subst h0
 exact ⟨_, cap', e, fun i hi => by omega⟩
theorem JV.app {g B1 B2 ca cc : Nat} {C D : List Int} {K : Int} (j : JV w v n xs fs W) (hown : W'.ownsRow w.heap.size 86 3 (.slice (some ⟨g, 0, none⟩) (n + 1) cap) (n + 1) (xs ++ [.slice (some ⟨B1, 0, none⟩) 3 ca, .slice (some ⟨B2, 0, none⟩) 2 cc, .int .i64 K])) (hgrow : W.grownBy W' v.ownBlock) {H : Nat} (hat : v.ownBlock = some g \/ g = H) (hH : W.heap.size = H)
  (k1 : Ints W (some ⟨B1, 0, none⟩) 3 C) (k2 : Ints W (some ⟨B2, 0, none⟩) 2 D) (n1 : v.ownBlock ≠ some B1) (n2 : v.ownBlock ≠ some B2) (p1 : w.heap.size <= B1) (p2 : w.heap.size <= B2) (hT : fs[n]?.getD ([], [], 0) = (C, D, K)) :
  JV w (.slice (some ⟨g, 0, none⟩) (n + 1) cap) (n + 1) (xs ++ [.slice (some ⟨B1, 0, none⟩) 3 ca, .slice (some ⟨B2, 0, none⟩) 2 cc, .int .i64 K]) fs W' := by
 have hb : Below w.heap.size w W' := j.b.grown hgrow j.b.size (fun z hz => (j.own hz).1);have l1 := k1.blt (by omega) B1 0 rfl;have l2 := k2.blt (by omega) B2 0 rfl;obtain ⟨G, hG, ht⟩ := j.t;refine ⟨hb, hown, ⟨g, Or.inl rfl, ?_⟩, j.l.app p1 p2⟩
 rcases hG with hG | ⟨hG, h0⟩
 ·rw [hG] at hgrow hat n1 n2;refine ht.step j.o.1 hgrow ?_ k1 k2 (fun e => n1 (by rw [e])) (fun e => n2 (by rw [e])) hT
  rcases hat with h | h
  ·simp only [qA] at h; exact Or.inl h.symm
  exact Or.inr (by omega)
 rw [hG] at hgrow hat;have ht' : TermsOk W (W.heap.size + 1) xs fs n := fun j hj => by omega
 refine ht'.step j.o.1 (grown_none hgrow) ?_ k1 k2 (by omega) (by omega) hT
 rcases hat with h | h
 ·cases h
 exact Or.inr (by omega)
def FOff (W : World) (S : Nat -> Prop) (a : Option Addr) (fs : List Frm) : Prop := ∀ W', Touch S W W' -> FormsAt W' a fs
theorem FOff.at (h : FOff W S a fs) : FormsAt W a fs := h W (Touch.refl _ _)
theorem FOff.touch (h : FOff W S a fs) (t : Touch S W W') : FOff W' S a fs := fun W'' t' => h W'' (t.trans t')
theorem FOff.below (h : FOff W S a fs) (b : Below W.heap.size W W') : FOff W' S a fs := h.touch (Touch.of b)
theorem FOff.mono {S' : Nat -> Prop} (h : FOff W S a fs) (hs : ∀ k, S' k -> S k) : FOff W S' a fs := fun W' t => h W' (t.mono hs)
theorem FOff.fresh (h : FOff W S a fs) (o : Obj) : FOff (W.alloc o) (fun k => S k \/ k = W.heap.size) a fs := fun W' t => by
 have b : Below W.heap.size W (W.alloc o) := bal;refine h W' ⟨t.os.trans b.os, t.tape.trans b.tape, t.output.trans b.output, Nat.le_trans b.size t.size, fun k hk hn => ?_⟩
 rw [t.block k (Nat.lt_of_lt_of_le hk b.size) (fun e => by
  rcases e with e | e
  ·exact hn e
  omega)]
 exact b.block k hk
theorem JF.foff (j : JF w G cap n xs fs W) (hn : fs.length = n) : FOff W (fun k => k < w.heap.size) (some ⟨G, 0, none⟩) fs := fun W' t => j.off hn (fun k h => h) t
theorem JV.foff (j : JV w v n xs fs W) (hn : fs.length = n) : ∃ a cap, v = .slice a n cap /\ FOff W (fun k => k < w.heap.size) a fs := by
 obtain ⟨a, cap, hv⟩ := j.isSlice;refine ⟨a, cap, hv, fun W' t => ?_⟩;obtain ⟨G, hG, ht⟩ := j.t;have o' := own_off j.o (fun g hg hs => by have := (j.own hg).1; omega) t;have b' : Below w.heap.size W W' -> True := fun _ => trivial;have t' := ht.off j.l (fun k h => h) t
 rcases o'.2 with ⟨e, h0⟩ | ⟨g, cap', cur, e, _⟩
 ·subst h0;intro i hi
  omega
 have o := o';rw [e] at o hv;simp only [Value.slice.injEq, true_and] at hv;obtain ⟨rfl, rfl⟩ := hv
 rcases hG with hG | ⟨hG, _⟩
 ·rw [e] at hG;have : some g = some G := hG;simp only [qA] at this;subst this
  exact t'.forms hn o
 rw [e] at hG; cases hG
theorem own_zero {b : Nat} {e : TypeId} {s : Nat} (h : W.ownsRow b e s v n xs) : W.ownsRow 0 e s v n xs := ⟨h.1, by
 rcases h.2 with h2 | ⟨g, cap, cur, hv, hg, r⟩
 ·exact Or.inl h2
 exact Or.inr ⟨g, cap, cur, hv, Nat.zero_le _, r⟩⟩
def FOwn (W : World) (S : Nat -> Prop) (v : Value) (n : Nat) (fs : List Frm) : Prop := ∃ xs, ∀ W', Touch S W W' -> W'.ownsRow 0 86 3 v n xs /\ ∃ G, (v.ownBlock = some G \/ (v.ownBlock = none /\ n = 0)) /\ TermsOk W' G xs fs n
theorem FOwn.touch (h : FOwn W S v n fs) (t : Touch S W W') : FOwn W' S v n fs := by
 obtain ⟨xs, h⟩ := h
 exact ⟨xs, fun W'' t' => h W'' (t.trans t')⟩
theorem FOwn.below (h : FOwn W S v n fs) (b : Below W.heap.size W W') : FOwn W' S v n fs := h.touch (Touch.of b)
theorem FOwn.mono {S' : Nat -> Prop} (h : FOwn W S v n fs) (hs : ∀ k, S' k -> S k) : FOwn W S' v n fs := by
 obtain ⟨xs, h⟩ := h
 exact ⟨xs, fun W' t => h W' (t.mono hs)⟩
theorem FOwn.fresh {T : Nat -> Prop} (h : FOwn W (fun k => S k \/ T k) v n fs) (o : Obj) : FOwn (W.alloc o) (fun k => (S k \/ k = W.heap.size) \/ T k) v n fs := by
 obtain ⟨xs, h⟩ := h;have b : Below W.heap.size W (W.alloc o) := bal;refine ⟨xs, fun W' t => h W' ⟨t.os.trans b.os, t.tape.trans b.tape, t.output.trans b.output, Nat.le_trans b.size t.size, fun k hk hn => ?_⟩⟩
 rw [t.block k (Nat.lt_of_lt_of_le hk b.size) (fun e => by
  rcases e with (e | e) | e
  ·exact hn (Or.inl e)
  ·omega
  exact hn (Or.inr e))]
 exact b.block k hk
theorem FOwn.none : FOwn W S (.slice Option.none 0 0) 0 fs := ⟨[], fun W' t => ⟨World.ownsRow_nil W' 0 _ _, 0, Or.inr ⟨rfl, rfl⟩, fun j hj => by omega⟩⟩
theorem FOwn.above (h : FOwn W S v n fs) : FOwn W (fun k => S k \/ W.heap.size <= k) v n fs := by
 obtain ⟨xs, h⟩ := h
 exact ⟨xs, fun W' t => h W' ⟨t.os, t.tape, t.output, t.size, fun k hk hn => t.block k hk (fun e => by
  rcases e with e | e
  ·exact hn e
  omega)⟩⟩
theorem JF.fown (j : JF w G cap n xs fs W) : FOwn W (fun k => k < w.heap.size \/ W.heap.size <= k) (.slice (some ⟨G, 0, Option.none⟩) n cap) n fs := by
 have hG := j.lt
 exact FOwn.above ⟨xs, fun W' t => ⟨own_zero (own_off j.o (fun g hg hs => by
  have : some G = some g := hg;simp only [qA] at this
  omega) t), G, Or.inl rfl, j.t.off j.l (fun k h => h) t⟩⟩
theorem JV.fown (j : JV w v n xs fs W) : FOwn W (fun k => k < w.heap.size \/ W.heap.size <= k) v n fs := by
 obtain ⟨G, hG, ht⟩ := j.t
 exact FOwn.above ⟨xs, fun W' t => ⟨own_zero (own_off j.o (fun g hg hs => by have := (j.own hg).1; omega) t), G, hG, ht.off j.l (fun k h => h) t⟩⟩
def InB (a : Option Addr) (k : Nat) : Prop := ∃ o s, a = some ⟨k, o, s⟩
def RowOwn (W : World) (S : Nat -> Prop) (ga : Option Addr) (gc : Nat) (aa : Option Addr) (ac : Nat) (ta : Option Addr) (tc : Nat) (r : RowM) : Prop :=
 FOwn W (fun k => S k \/ (InB aa k \/ InB ta k)) (.slice ga r.guards.length gc) r.guards.length r.guards /\ FOwn W (fun k => S k \/ (InB ga k \/ InB ta k)) (.slice aa r.adds.length ac) r.adds.length r.adds /\ FOwn W (fun k => S k \/ (InB ga k \/ InB aa k)) (.slice ta r.tells.length tc) r.tells.length r.tells
def RowX (W : World) (B : Nat) (v : Value) (r : RowM) : Prop :=
 ∃ ga gc aa ac ta tc, v = .agg #[.slice ga r.guards.length gc, .slice aa r.adds.length ac, .slice ta r.tells.length tc, .bool r.stop] /\ FOff W (fun k => k < B) ga r.guards /\ FOff W (fun k => k < B) aa r.adds /\ FOff W (fun k => k < B) ta r.tells
def RowXO (W : World) (B : Nat) (v : Value) (r : RowM) : Prop :=
 ∃ ga gc aa ac ta tc, v = .agg #[.slice ga r.guards.length gc, .slice aa r.adds.length ac, .slice ta r.tells.length tc, .bool r.stop] /\ FOff W (fun k => k < B) ga r.guards /\ FOff W (fun k => k < B) aa r.adds /\ FOff W (fun k => k < B) ta r.tells /\ RowOwn W (fun k => k < B) ga gc aa ac ta tc r
theorem FormsAt.keep (h : FormsAt W a fs) (hb : Below W.heap.size W W') : FormsAt W' a fs := fun i hi => by
 obtain ⟨b, off, e, a', c', ca, cc, c0, c1, c2, iC, iD⟩ := h i hi;refine ⟨b, off, e, a', c', ca, cc, ?_, ?_, ?_, iC.below hb, iD.below hb⟩
 ·rw [hb.cell (p := ⟨b, off + i * 3, none⟩) (block_lt c0)]; exact c0
 ·rw [hb.cell (p := ⟨b, off + i * 3 + 1, none⟩) (block_lt c1)]; exact c1
 rw [hb.cell (p := ⟨b, off + i * 3 + 2, none⟩) (block_lt c2)]; exact c2
theorem Ints.past {zs : List Int} (h : Ints W a n zs) (hx : ∀ o q, W.cell? ⟨X, o, none⟩ ≠ some (.int .i64 q)) (t : Touch (fun z => z = X) W W') : Ints W' a n zs := by
 refine ⟨h.1, fun i hi => ?_⟩;obtain ⟨b, off, e, hc⟩ := h.2 i hi;refine ⟨b, off, e, ?_⟩;have hb := block_lt hc;have hne : b ≠ X := fun e2 => by subst e2; exact hx _ _ hc
 simp only [World.cell?] at hc ⊢;rw [t.block b hb hne]; exact hc
theorem FormsAt.past (h : FormsAt W a fs) (hx : ∀ o v, W.cell? ⟨X, o, none⟩ = some v -> v = .slice none 0 0 \/ v = .bool false) (t : Touch (fun z => z = X) W W') : FormsAt W' a fs := fun i hi => by
 obtain ⟨b, off, e, a', c', ca, cc, c0, c1, c2, iC, iD⟩ := h i hi;have hi' : ∀ o q, W.cell? ⟨X, o, none⟩ ≠ some (.int .i64 q) := fun o q hq => by rcases hx o _ hq with h | h <;> cases h
 have hne : b ≠ X := fun e2 => by subst e2; rcases hx _ _ c0 with h | h <;> cases h
 have hb := block_lt c0;refine ⟨b, off, e, a', c', ca, cc, ?_, ?_, ?_, iC.past hi' t, iD.past hi' t⟩
 ·simp only [World.cell?] at c0 ⊢; rw [t.block b hb hne]; exact c0
 ·simp only [World.cell?] at c1 ⊢; rw [t.block b hb hne]; exact c1
 simp only [World.cell?] at c2 ⊢; rw [t.block b hb hne]; exact c2
theorem JV.past (j : JV w v n xs fs W) (hX : w.heap.size <= X) (hx : ∀ o q, W.cell? ⟨X, o, none⟩ ≠ some (.int .i64 q)) (ne : v.ownBlock ≠ some X) (t : Touch (fun z => z = X) W W') : JV w v n xs fs W' := by
 obtain ⟨G, hG, ht⟩ := j.t;refine ⟨j.b.trans (t.below j.b.size (fun k hk => by omega)), ⟨j.o.1, ?_⟩, ⟨G, hG, fun i hi => ?_⟩, j.l⟩
 ·rcases j.o.2 with h2 | ⟨g, cap, cur, hv, hg, hh, r⟩
  ·exact Or.inl h2
  refine Or.inr ⟨g, cap, cur, hv, hg, ?_, r⟩;have hne : g ≠ X := fun e => ne (by rw [hv, e]; rfl);rw [t.block g (lt_of_block hh) hne]; exact hh
 obtain ⟨a', c', ca, cc, e0, e1, e2, i1, i2, n1, n2⟩ := ht i hi
 exact ⟨a', c', ca, cc, e0, e1, e2, i1.past hx t, i2.past hx t, n1, n2⟩
theorem Cel.four {x y z u : Value} (h : Cel w B [x, y, z, u] t) : w.cell? ⟨B, 0, none⟩ = some x /\ w.cell? ⟨B, 1, none⟩ = some y /\ w.cell? ⟨B, 2, none⟩ = some z /\ w.cell? ⟨B, 3, none⟩ = some u := ⟨h.cell 0, h.cell 1, h.cell 2, h.cell 3⟩
theorem boxNo {a' a'' : Option Addr} {n' n'' c c' c'' : Nat} {bb : Bool} (h : Cel W X [.slice a n c, .slice a' n' c', .slice a'' n'' c'', .bool bb] t) : ∀ o q, W.cell? ⟨X, o, none⟩ ≠ some (.int .i64 q) := fun o q e => by
 have := h.cell o;rw [e] at this
 match o with
 | 0 => simp at this
 | 1 => simp at this
 | 2 => simp at this
 | 3 => simp at this
 | o + 4 => simp at this
theorem boxNil (h : Cel W X [.slice none 0 0, .slice none 0 0, .slice none 0 0, .bool false] t) : ∀ o v, W.cell? ⟨X, o, none⟩ = some v -> v = .slice none 0 0 \/ v = .bool false := fun o v e => by
 have := h.cell o;rw [e] at this
 match o with
 | 0 => simp at this; exact Or.inl this
 | 1 => simp at this; exact Or.inl this
 | 2 => simp at this; exact Or.inl this
 | 3 => simp at this; exact Or.inr this
 | o + 4 => simp at this
theorem pot_bnd {k : Nat} (hk : k < 3) : bndT 1000000000000000000 (-1) (([0, 0, 0] : List Int).set k 1) := fun i => by
 match k, hk, i with
 | 0, _, 0 => simp
 | 0, _, 1 => simp
 | 0, _, 2 => simp
 | 0, _, i + 3 => simp
 | 1, _, 0 => simp
 | 1, _, 1 => simp
 | 1, _, 2 => simp
 | 1, _, i + 3 => simp
 | 2, _, 0 => simp
 | 2, _, 1 => simp
 | 2, _, 2 => simp
 | 2, _, i + 3 => simp
theorem pot_bnd2 : bndT 1000000000000000000 (-1) ([0, 0] : List Int) := fun i => by
 match i with
 | 0 => simp
 | 1 => simp
 | i + 2 => simp
theorem srowend_any (y : Way) {pa : Option Addr} {cp : Nat} {ga : Option Addr} {ng gc : Nat} {ta : Option Addr} {nt tc : Nat} {w : World} (hp : y.pots.length = 3) (hg : y.guards.length = ng) (ht : y.tells.length = nt)
  (hP : FormsAt w pa y.pots) (hG : FormsAt w ga y.guards) (hT : FormsAt w ta y.tells) (fp : ∀ k, k < 3 -> fitX 10000000 (y.pots[k]?.getD noX)) (fg : ∀ k, k < ng -> fitX 10000000 (y.guards[k]?.getD ([], [], 0))) (ft : ∀ k, k < nt -> fitX 10000000 (y.tells[k]?.getD ([], [], 0))) (hg1 : ng <= 1048576) (ht1 : nt <= 1048576) :
  Calls Tryz.prog 150 #[.slice pa 3 cp, .slice ga ng gc, .slice ta nt tc] w fun e w' => ∃ v, e = .returned v /\ Below w.heap.size w w' /\ RowXO w' w.heap.size v (endW y) := by
 have HPL : Hid (y.pots.length = 3) := hp;have HGL : Hid (y.guards.length = ng) := hg;have HTL : Hid (y.tells.length = nt) := ht;have HP : Hid (FormsAt w pa y.pots) := hP;have HFP : Hid _ := fp;have HFG : Hid _ := fg;have HFT : Hid _ := ft;clear hp hg ht fp fg ft hP;obtain ⟨i0, hi, hz0, hz1, hz2⟩ := info_parts Tryz.infoForm;have B0 : Below w.heap.size w (w.alloc (.cells #[.slice none 0 0, .slice none 0 0, .slice none 0 0, .bool false] 76)) := bal;have r0 := Cel.new w [.slice none 0 0, .slice none 0 0, .slice none 0 0, .bool false] 76
 go_enter Tryz.func150, Tryz.ntmps150
 go_wp2_with fail
 refine (scopy_any y.guards HGL.out (hG.keep B0) HFG.out hg1).mono ?_;rintro e w1 ⟨G1, cp1, xs1, rfl, j1⟩;have B1 := btr B0 j1.b;have r1 := r0.below j1.b;have g1 := j1.foff HGL.out;have o1 := j1.fown;have q1 := j1.lt;rw [qC] at g1 o1 q1;clear r0 B0 j1
 go_wp2_with fail
 refine (scopy_any y.tells HTL.out (hT.keep B1) HFT.out ht1).mono ?_;rintro e w2 ⟨G2, cp2, xs2, rfl, j2⟩;have B2 := btr B1 j2.b;have r2 := r1.below j2.b;have g2 := g1.below j2.b;have o2 := o1.below j2.b;have p2 := j2.fown;have q2 := j2.lt;have s12 := j2.b.size;have t2 := j2.foff HTL.out;have z12 := r1.lt;clear r1 B1 j2 g1 o1
 go_wp2_with fail
 have lX := r2.lt;have x0 := Cel.new w2 [.slice (some ⟨G1, 0, none⟩) ng cp1, .slice none 0 0, .slice (some ⟨G2, 0, none⟩) nt cp2, .bool false] 76;have j0 : JV w2 (.slice none 0 0) 0 [] (endW y).adds (w2.alloc (.cells #[.slice (some ⟨G1, 0, none⟩) ng cp1, .slice none 0 0, .slice (some ⟨G2, 0, none⟩) nt cp2, .bool false] 76)) := (JV.nil w2 _).below (bal)
 go_loopw [8] (fun i wr => ∃ (k : Nat) (v : Value) (xs : List Value), k <= 3 /\ i = .int .i64 k /\ Cel wr w2.heap.size [.slice (some ⟨G1, 0, none⟩) ng cp1, v, .slice (some ⟨G2, 0, none⟩) nt cp2, .bool false] 76 /\ JV w2 v k xs (endW y).adds wr /\ v.ownBlock ≠ some w2.heap.size) (fun i _ => 3 - (intOf i).toNat)
 case atStart => exact ⟨0, _, [], by omega, rfl, x0, j0, by intro h; cases h⟩
 case round =>
  clear x0 j0;obtain ⟨k, v, xs, hk, rfl, xr, j, hne⟩ := hrel
  by_cases hlt : k < 3
  ·obtain ⟨b, off, rfl, a', c', ca, cc, c0, c1, c2, iC, iD⟩ := HP.out k (by rw [HPL.out]; exact hlt);have hfit : fitX 10000000 (y.pots[k]?.getD ([], [], 0)) := HFP.out k hlt;generalize HG : y.pots[k]?.getD ([], [], 0) = f at *
   have HT : Hid ((endW y).adds[k]?.getD ([], [], 0) = lessX f k) := by
    show _ = _
    rw [show (endW y).adds = (List.range 3).map (fun v => lessX (y.pots[v]?.getD noX) v) from rfl, List.getElem?_map, List.getElem?_range hlt]
    show lessX (y.pots[k]?.getD noX) k = _
    rw [show y.pots[k]?.getD noX = f from HG]
   clear HG;obtain ⟨fC, fD, fK⟩ := f;obtain ⟨lC, lD, bC, bD, q1, q2⟩ := hfit;simp only at c2 iC iD lC lD bC bD q1 q2;obtain ⟨va, vc, rfl⟩ := j.isSlice
   have keep : ∀ W : World, Below w.heap.size w W -> (W.cell? ⟨b, off + k * 3, none⟩ = some (.slice a' 3 ca) /\ W.cell? ⟨b, off + k * 3 + 1, none⟩ = some (.slice c' 2 cc) /\ W.cell? ⟨b, off + k * 3 + 2, none⟩ = some (.int .i64 fK)) := fun W hW =>
    ⟨by rw [hW.cell (p := ⟨b, off + k * 3, none⟩) (block_lt c0)]; exact c0, by rw [hW.cell (p := ⟨b, off + k * 3 + 1, none⟩) (block_lt c1)]; exact c1, by rw [hW.cell (p := ⟨b, off + k * 3 + 2, none⟩) (block_lt c2)]; exact c2⟩
   have KP : Hid (∀ W : World, Below w2.heap.size w2 W -> _) := fun W hW => keep W (btr B2 hW);clear keep c0 c1 c2;have xd : Cel wr.drew w2.heap.size [.slice (some ⟨G1, 0, none⟩) ng cp1, .slice va k vc, .slice (some ⟨G2, 0, none⟩) nt cp2, .bool false] 76 := xr;have hSS := And.intro (KP.out _ j.b.drew) (xd.cell 1);simp only [qD, qE] at hSS;have bw : ∀ W, Below wr.heap.size wr W -> Below w.heap.size w W := fun W hW => B2.trans ((j.b.trans (hW.mono j.b.size)).mono B2.size);have lx := xr.lt;have hlt' : (k : Int) < 3 := by omega
   go_upto_region 5 with fail
   refine wp_region_ends (fun w' => w'.cell? ⟨b, off + k * 3, none⟩ = some (.slice a' 3 ca) /\ w'.cell? ⟨b, off + k * 3 + 1, none⟩ = some (.slice c' 2 cc) /\ w'.cell? ⟨b, off + k * 3 + 2, none⟩ = some (.int .i64 fK)) (fun w' => w'.cell? ⟨w2.heap.size, 1, none⟩ = some (.slice va k vc)) 11 (by kernel_rfl) ?_;refine tkl 0 rfl hSS ?_;refine wpAnyE_take1 (i := 1) (v := ?v1) rfl rfl (by kernel_rfl) (by kernel_rfl) (by kernel_rfl) (by decide) (by rfl) (by simp [Region.binds]) (fun _ _ _ h => h) (Or.inl ⟨by rfl, ?hy1⟩) hSS ?_
   case hy1 => (intro wz hSw; (try dsimp only at hSw); go_simp; try (with_reducible rfl))
   refine tkl 2 rfl hSS ?_;refine tkl 3 rfl hSS ?_;refine tkl 4 rfl hSS ?_;refine tkl 5 rfl hSS ?_;refine tkl 6 rfl hSS ?_;refine wo1 7 rfl fun K hK => ?_;go_simp;refine (spot_any _ _).mono ?_;rintro ee w3 ⟨za, zn, zcap, zc, zm, zcap', Z1, Z2, rfl, L1, L2, b3, o1, o2, -, -, -⟩;rw [potC_in (k : Int) k rfl] at L1 o1;rw [potD_in (k : Int)] at L2 o2;obtain rfl : zn = 3 := by rw [<- L1]; simp
   obtain rfl : zm = 2 := by rw [<- L2]; simp
   have z1 := o1.ints;have z2 := o2.ints;rw [L1] at z1;rw [L2] at z2;have b3' := below_of_drew b3;have j3 := j.below b3';have x3 := xr.below b3';have i1 := iC.below (bw _ b3');have i2 := iD.below (bw _ b3');have hS3 := And.intro (KP.out _ j3.b) (x3.cell 1);simp only [qD, qE] at hS3;dsimp only;refine hK.out _ _ ⟨hS3.1, fun _ => hS3.2⟩ ?_;have s3 := b3'.size;clear hK K hSS hS3 j o1 o2 b3 b3' L1 L2 iC iD bw xd xr;refine wo1 8 rfl fun K hK => ?_;go_simp;refine (l1sum_any fC fD _ _ i1 i2 z1 z2 (fun i => by have := bC i; omega) (fun i => by have := bD i; omega) (by omega) (pot_bnd hlt) pot_bnd2 (by omega)).mono ?_;rintro ee w4 ⟨D1, D2, rfl, b4, g1, g3, g4, u1, u2⟩;have e0 : fK + -1 * (0 : Int) = fK := by omega
   rw [e0];have hs3 := j3.b.size;have j4 := j3.below b4;have x4 := x3.below b4;have hS4 := And.intro (KP.out _ j4.b) (x4.cell 1);simp only [qD, qE] at hS4;have m1 : (Value.slice va k vc).ownBlock ≠ some D1 := fun e => by have := (j3.own e).2; omega
   have m2 : (Value.slice va k vc).ownBlock ≠ some D2 := fun e => by have := (j3.own e).2; omega
   have s4 := b4.size;dsimp only;refine hK.out _ _ ⟨hS4.1, fun _ => hS4.2⟩ ?_;clear hK K hS4 b4 z1 z2 i1 i2 j3 x3;refine wo1 9 rfl fun K hK => ?_;go_simp;have A5 : Below w4.heap.size w4 (w4.alloc (.cells #[.slice (some ⟨D1, 0, none⟩) 3 3, .slice (some ⟨D2, 0, none⟩) 2 2, .int .i64 fK] 86)) := bal;have j5 := j4.below A5;have x5 := x4.below A5;have hs5 := j5.b.size;have v1 := u1.below A5;have v2 := u2.below A5;have hS5 := And.intro (KP.out _ j5.b) (x5.cell 1);simp only [qD, qE] at hS5;refine hK.out _ _ ⟨hS5.1, fun _ => hS5.2⟩ ?_;clear hK K hS5 A5 j4 x4 u1 u2;refine wo1 10 rfl fun K hK => ?_;rw [if_pos (by rfl)];refine wp_append_lies _ (.tmp 19) (.tmp 27) 74 rfl w2.heap.size 86 i0 _ 3 56 Tryz.underlying74 hi hz0 hz1 hz2 rfl (by omega) (.slice va k vc) k xs (by rfl) j5.o ⟨w4.heap.size, 0, none⟩ 1 1 [Value.slice (some ⟨D1, 0, none⟩) 3 3, Value.slice (some ⟨D2, 0, none⟩) 2 2, Value.int .i64 fK] (by rfl) (by rfl) (World.news_of_block (cs := #[Value.slice (some ⟨D1, 0, none⟩) 3 3, Value.slice (some ⟨D2, 0, none⟩) 2 2, Value.int .i64 fK]) (t := 86) (fr := (0, 0)) (heap_alloc_new w4 _)) (by simp [Value.oneCell']) (by omega) (by unfold maxLen; omega) (by omega) hs5 (w4.heap.size + 1) (by rw [qC]) ?_;intro g cp6 w6 hown hgrow hat hlt6
   have j6 := j5.app hown hgrow hat (by rw [qC]) (v1.ints' (lin_len lC (by simp))) (v2.ints' (lin_len lD rfl)) m1 m2 (by omega) (by omega) (by rw [HT.out]; show (lin fC _ (-1), lin fD _ (-1), fK + -1 * 0) = _; rw [e0]);have x6 := x5.grew hgrow hne
   have ne6 : some g ≠ some w2.heap.size := fun e => by
    rcases hat with h | h
    ·exact hne (h.trans e)
    simp only [qA] at e; omega
   have hS6 := And.intro (KP.out _ j6.b) (x6.cell 1);simp only [qD, qE] at hS6;refine hK.out _ _ ⟨hS6.1, fun _ => hS6.2⟩ ?_;have f6 := x6.free 1;clear hK K hown hgrow hat j5 x5 v1 v2 m1 m2;refine wo1 11 rfl fun K hK => ?_;go_simp;refine hK.out _ _ ⟨hS6.1, fun h => absurd (show true = false from h) (by decide)⟩ ?_;have T7 : Touch (fun z => z = w2.heap.size) w6 (w6.setCell ⟨w2.heap.size, 1, none⟩ (.slice (some ⟨g, 0, none⟩) (k + 1) cp6)) := Touch.setCell (S := fun z => z = w2.heap.size) (Touch.refl _ _) rfl _;have j7 := j6.past (qI _) (boxNo x6) ne6 T7;have x7 := x6.set 1 (.slice (some ⟨g, 0, none⟩) (k + 1) cp6);have c61 := hS6.2;refine wo1 12 rfl fun K hK => ?_;go_simp;refine hK.out _ _ ⟨KP.out _ j7.b, fun h => absurd (show true = false from h) (by decide)⟩ ?_;refine wod ?_ _;clear j6 x6 T7 hS6 f6 c61
   go_wp2
   go_roundw
   case rel => exact ⟨k + 1, _, _, by omega, by go_num, x7, j7, ne6⟩
   case measure => simp [intOf]; omega
  obtain rfl : k = 3 := by omega
  obtain ⟨aa, ac, rfl, hA⟩ := j.foff rfl;obtain ⟨d0, d1, d2, d3⟩ := xr.four;have r6 := r2.below j.b;obtain ⟨e0, e1, e2, e3⟩ := r6.four;have f0 := r6.free 0;have f1 := r6.free 1;have f2 := r6.free 2;have f3 := r6.free 3;have bb := btr B2 j.b;have gA := g2.below j.b;have oA := o2.below j.b;have pA := p2.below j.b;have vA := j.fown
  have hIA : ∀ k, InB aa k -> w2.heap.size < k := fun k hk => by
   obtain ⟨o, s, e⟩ := hk;have h1 : (Value.slice aa 3 ac).ownBlock = some k := by rw [e]; rfl
   have h2 := (j.own h1).1;have h3 : k ≠ w2.heap.size := fun e2 => hne (by rw [h1, e2])
   omega
  have hIG : ∀ k, InB (some ⟨G1, 0, none⟩) k -> k = G1 := fun k hk => by
   obtain ⟨o, s, e⟩ := hk;simp only [qA, qB] at e
   exact e.1.symm
  have hIT : ∀ k, InB (some ⟨G2, 0, none⟩) k -> k = G2 := fun k hk => by
   obtain ⟨o, s, e⟩ := hk;simp only [qA, qB] at e
   exact e.1.symm
  have tA := t2.below j.b
  go_wp2
  have T6 : Touch (fun z => z = w.heap.size) wr ((((wr.setCell ⟨w.heap.size, 0, none⟩ (.slice (some ⟨G1, 0, none⟩) ng cp1)).setCell ⟨w.heap.size, 1, none⟩ (.slice aa 3 ac)).setCell ⟨w.heap.size, 2, none⟩ (.slice (some ⟨G2, 0, none⟩) nt cp2)).setCell ⟨w.heap.size, 3, none⟩ (.bool false)) :=
   Touch.setCell (Touch.setCell (Touch.setCell (Touch.setCell (S := fun z => z = w.heap.size) (Touch.refl _ _) rfl _) rfl _) rfl _) rfl _
  refine bodyPost_ret (v := .agg #[.slice (some ⟨G1, 0, none⟩) ng cp1, .slice aa 3 ac, .slice (some ⟨G2, 0, none⟩) nt cp2, .bool false]) (by simp [results, Tryz.results150, go_sem, e0, e1, e2, e3]) rfl ?_;refine ⟨_, rfl, ?_, some ⟨G1, 0, none⟩, cp1, aa, ac, some ⟨G2, 0, none⟩, cp2, ?_, (gA.touch (T6.mono (fun k hk => by omega))).mono (fun k hk => by omega), (hA.touch (T6.mono (fun k hk => by omega))).mono (fun k hk => by omega), (tA.touch (T6.mono (fun k hk => by omega))).mono (fun k hk => by omega), ?_⟩
  ·exact bb.trans (T6.below bb.size (fun k hk => by omega))
  ·show _ = Value.agg #[.slice _ y.guards.length _, .slice _ 3 _, .slice _ y.tells.length _, .bool false]
   rw [HGL.out, HTL.out]
  have eG : (endW y).guards.length = ng := HGL.out;have eT : (endW y).tells.length = nt := HTL.out;have eA : (endW y).adds.length = 3 := rfl;refine ⟨?_, ?_, ?_⟩
  ·rw [eG];refine (oA.touch (T6.mono (fun k hk => by omega))).mono (fun k hk => ?_)
   rcases hk with hk | hk | hk
   ·omega
   ·have := hIA k hk; omega
   have := hIT k hk; omega
  ·rw [eA];refine (vA.touch (T6.mono (fun k hk => by omega))).mono (fun k hk => ?_)
   rcases hk with hk | hk | hk
   ·omega
   ·have := hIG k hk; omega
   have := hIT k hk; omega
  rw [eT];refine (pA.touch (T6.mono (fun k hk => by omega))).mono (fun k hk => ?_)
  rcases hk with hk | hk | hk
  ·omega
  ·have := hIG k hk; omega
  have := hIA k hk; omega
end Go.Proofs.YtemcinobgdphnaaGreat
