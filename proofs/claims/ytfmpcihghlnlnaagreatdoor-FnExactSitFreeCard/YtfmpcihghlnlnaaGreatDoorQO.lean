/-
  Lemmas that the claim's last text rests on.
-/
import Derived.Test.YtfmpcihghlnlnaaGreatDoorQN
namespace Go.Proofs.YtfmpcihghlnlnaaGreatDoor
open Go.RowKit Go.Deep
open Option.some renaming injEq → qA
open Addr.mk renaming injEq → qB
open List renaming getElem?_set_ne → qC, length_append → qD, getElem?_append_right → qE, getElem?_append_left → qF, getElem?_set_self → qG
set_option linter.unusedVariables false
set_option maxRecDepth 100000
set_option maxHeartbeats 25600000
variable {G cap g i : Nat} {S : Nat -> Prop} {W W' w : World} {a : Option Addr} {fs : List Frm} {ls : List LV} {rs ss : List RowM} {xs ys : List Value}
theorem goW_ne {f : Nat} : ∀ (i : Nat) (y : Way), 0 < (goW ls f i y).length := by
 induction f with
 | zero => intro i y; simp [goW]
 | succ f ih =>
  intro i y;rw [goW]
  split
  ·split
   ·rw [qD]; have := ih (i + 1) (y.guard (intoX (ls[i]?.getD noLV).f y.pots)); omega
   split
   ·exact ih _ _
   split
   ·exact ih _ _
   simp
  simp
theorem goW_len (f : Nat) : ∀ (i : Nat) (y : Way), (goW ls f i y).length <= 2 ^ f := by
 induction f with
 | zero => intro i y; simp [goW]
 | succ f ih =>
  intro i y;have hp : 1 <= 2 ^ f := Nat.one_le_two_pow;have h2 : 2 ^ (f + 1) = 2 ^ f + 2 ^ f := by rw [Nat.pow_succ]; omega
  rw [goW]
  split
  ·split
   ·rw [qD];have h3 := ih (i + 1) (y.guard (intoX (ls[i]?.getD noLV).f y.pots));have h4 := ih (i + 1 + (ls[i]?.getD noLV).skip.toNat) (y.guard (minusX (intoX (ls[i]?.getD noLV).f y.pots)))
    omega
   split
   ·have := ih (i + 1) (y.add (ls[i]?.getD noLV).pot.toNat (intoX (ls[i]?.getD noLV).f y.pots)); omega
   split
   ·have := ih (i + 1) (y.tell (intoX (ls[i]?.getD noLV).f y.pots)); omega
   simp; omega
  simp; omega
theorem goW_128 {f : Nat} {y : Way} (hf : f <= 7) : (goW ls f i y).length <= 128 :=
 Nat.le_trans (goW_len f i y) (Nat.le_trans (Nat.pow_le_pow_right (by omega) hf) (by decide))
theorem FOff.grown {B : Nat} (h : FOff W (fun k => k < B \/ k = G) a fs) (hg : W.grownBy W' (some G)) (hat : g = G \/ W.heap.size <= g) : FOff W' (fun k => k < B \/ k = g) a fs := fun W'' t => by
 refine h W'' ⟨t.os.trans hg.os, t.tape.trans hg.tape, t.output.trans hg.output, Nat.le_trans hg.size t.size, fun k hk hn => ?_⟩;have hk1 : ¬ k < B := fun e => hn (Or.inl e);have hk2 : k ≠ G := fun e => hn (Or.inr e);rw [t.block k (Nat.lt_of_lt_of_le hk hg.size) (fun e => by omega)]
 exact hg.block k hk (fun e => by simp only [qA] at e; omega)
theorem FOwn.grown {B : Nat} {T : Nat -> Prop} {v : Value} {n : Nat} (h : FOwn W (fun k => (k < B \/ k = G) \/ T k) v n fs) (hg : W.grownBy W' (some G)) (hat : g = G \/ W.heap.size <= g) : FOwn W' (fun k => (k < B \/ k = g) \/ T k) v n fs := by
 obtain ⟨xs, h⟩ := h;refine ⟨xs, fun W'' t => h W'' ⟨t.os.trans hg.os, t.tape.trans hg.tape, t.output.trans hg.output, Nat.le_trans hg.size t.size, fun k hk hn => ?_⟩⟩;have hk1 : ¬ k < B := fun e => hn (Or.inl (Or.inl e));have hk2 : k ≠ G := fun e => hn (Or.inl (Or.inr e));have hk3 : ¬ T k := fun e => hn (Or.inr e)
 rw [t.block k (Nat.lt_of_lt_of_le hk hg.size) (fun e => by
  rcases e with (e | e) | e
  ·exact hk1 e
  ·omega
  exact hk3 e)]
 exact hg.block k hk (fun e => by simp only [qA] at e; omega)
def noR : RowM := ⟨[], [], [], false⟩
def RowsOwn (W : World) (S : Nat -> Prop) (xs : List Value) (rs : List RowM) : Prop :=
 ∀ j, j < rs.length -> ∃ ga gc aa ac ta tc, xs[j * 4]? = some (.slice ga (rs[j]?.getD noR).guards.length gc) /\ xs[j * 4 + 1]? = some (.slice aa (rs[j]?.getD noR).adds.length ac) /\ xs[j * 4 + 2]? = some (.slice ta (rs[j]?.getD noR).tells.length tc) /\ xs[j * 4 + 3]? = some (.bool (rs[j]?.getD noR).stop) /\ RowOwn W S ga gc aa ac ta tc (rs[j]?.getD noR)
theorem RowsOwn.map {S' : Nat -> Prop} (h : RowsOwn W S xs rs) (hf : ∀ (T : Nat -> Prop) v n fs, FOwn W (fun k => S k \/ T k) v n fs -> FOwn W' (fun k => S' k \/ T k) v n fs) : RowsOwn W' S' xs rs := fun j hj => by
 obtain ⟨ga, gc, aa, ac, ta, tc, e0, e1, e2, e3, f0, f1, f2⟩ := h j hj
 exact ⟨ga, gc, aa, ac, ta, tc, e0, e1, e2, e3, hf _ _ _ _ f0, hf _ _ _ _ f1, hf _ _ _ _ f2⟩
theorem RowsOwn.join (h1 : RowsOwn W S xs rs) (h2 : RowsOwn W S ys ss) (hl : xs.length = rs.length * 4) : RowsOwn W S (xs ++ ys) (rs ++ ss) := fun j hj => by
 rw [qD] at hj
 by_cases hjr : j < rs.length
 ·rw [qF (l₁ := rs) hjr, qF (by omega), qF (by omega), qF (by omega), qF (by omega)]
  exact h1 j hjr
 rw [qE (l₁ := rs) (by omega), qE (by omega), qE (by omega), qE (by omega), qE (by omega), hl];have := h2 (j - rs.length) (by omega);rw [show j * 4 - rs.length * 4 = (j - rs.length) * 4 by omega, show j * 4 + 1 - rs.length * 4 = (j - rs.length) * 4 + 1 by omega, show j * 4 + 2 - rs.length * 4 = (j - rs.length) * 4 + 2 by omega, show j * 4 + 3 - rs.length * 4 = (j - rs.length) * 4 + 3 by omega]
 exact this
def RowsOk (W : World) (S : Nat -> Prop) (xs : List Value) (rs : List RowM) : Prop :=
 ∀ j, j < rs.length -> ∃ ga gc aa ac ta tc, xs[j * 4]? = some (.slice ga (rs[j]?.getD noR).guards.length gc) /\ xs[j * 4 + 1]? = some (.slice aa (rs[j]?.getD noR).adds.length ac) /\ xs[j * 4 + 2]? = some (.slice ta (rs[j]?.getD noR).tells.length tc) /\ xs[j * 4 + 3]? = some (.bool (rs[j]?.getD noR).stop) /\
  FOff W S ga (rs[j]?.getD noR).guards /\ FOff W S aa (rs[j]?.getD noR).adds /\ FOff W S ta (rs[j]?.getD noR).tells
theorem RowsOk.map {S' : Nat -> Prop} (h : RowsOk W S xs rs) (hf : ∀ a fs, FOff W S a fs -> FOff W' S' a fs) : RowsOk W' S' xs rs := fun j hj => by
 obtain ⟨ga, gc, aa, ac, ta, tc, e0, e1, e2, e3, f0, f1, f2⟩ := h j hj
 exact ⟨ga, gc, aa, ac, ta, tc, e0, e1, e2, e3, hf _ _ f0, hf _ _ f1, hf _ _ f2⟩
theorem RowsOk.join (h1 : RowsOk W S xs rs) (h2 : RowsOk W S ys ss) (hl : xs.length = rs.length * 4) : RowsOk W S (xs ++ ys) (rs ++ ss) := fun j hj => by
 rw [qD] at hj
 by_cases hjr : j < rs.length
 ·rw [qF (l₁ := rs) hjr, qF (by omega), qF (by omega), qF (by omega), qF (by omega)]
  exact h1 j hjr
 rw [qE (l₁ := rs) (by omega), qE (by omega), qE (by omega), qE (by omega), qE (by omega), hl];have := h2 (j - rs.length) (by omega);rw [show j * 4 - rs.length * 4 = (j - rs.length) * 4 by omega, show j * 4 + 1 - rs.length * 4 = (j - rs.length) * 4 + 1 by omega, show j * 4 + 2 - rs.length * 4 = (j - rs.length) * 4 + 2 by omega, show j * 4 + 3 - rs.length * 4 = (j - rs.length) * 4 + 3 by omega]
 exact this
structure JR (w : World) (G cap : Nat) (xs : List Value) (rs : List RowM) (W : World) : Prop where
 b : Below w.heap.size w W
 o : W.ownsRow w.heap.size 113 4 (.slice (some ⟨G, 0, none⟩) rs.length cap) rs.length xs
 r : RowsOk W (fun k => k < w.heap.size \/ k = G) xs rs
 u : RowsOwn W (fun k => k < w.heap.size \/ k = G) xs rs
theorem JR.below (j : JR w G cap xs rs W) (h : Below W.heap.size W W') : JR w G cap xs rs W' := ⟨j.b.trans (h.mono j.b.size), own_below j.o h, j.r.map (fun _ _ f => f.below h), j.u.map (fun _ _ _ _ f => f.below h)⟩
theorem JR.lt (j : JR w G cap xs rs W) : w.heap.size <= G /\ G < W.heap.size := by
 rcases j.o.2 with ⟨h, _⟩ | ⟨g, cap', cur, h, hg, hh, _⟩
 ·cases h
 simp only [Value.slice.injEq, qA, qB, and_true, true_and] at h;obtain ⟨rfl, _⟩ := h
 exact ⟨hg, lt_of_block hh⟩
theorem JR.join {w1 : World} {G2 cap2 cp n1 n2 : Nat} (j : JR w G cap xs rs W) (j2 : JR w1 G2 cap2 ys ss W) (hb : w.heap.size <= w1.heap.size) (hG : G < w1.heap.size) (hn1 : rs.length = n1) (hn2 : ss.length = n2)
  (hown : W'.ownsRow w.heap.size 113 4 (.slice (some ⟨g, 0, none⟩) (n1 + n2) cp) (n1 + n2) (xs ++ ys)) (hg : W.grownBy W' (some G)) {H : Nat} (hat : some G = some g \/ g = H) (hH : W.heap.size = H) : JR w g cp (xs ++ ys) (rs ++ ss) W' := by
 subst hn1 hn2
 have hat' : g = G \/ W.heap.size <= g := by
  rcases hat with h | h
  ·simp only [qA] at h; exact Or.inl h.symm
  exact Or.inr (by omega)
 have r2 : RowsOk W (fun k => k < w.heap.size \/ k = G) ys ss := j2.r.map (fun _ _ f => f.mono (fun k hk => by omega))
 have u2 : RowsOwn W (fun k => k < w.heap.size \/ k = G) ys ss := j2.u.map (fun _ _ _ _ f => f.mono (fun k hk => by
  rcases hk with hk | hk
  ·exact Or.inl (by omega)
  exact Or.inr hk))
 refine ⟨j.b.grown hg j.b.size (fun z hz => by simp only [qA] at hz; have := j.lt; omega), by rw [qD]; exact hown, ?_, ?_⟩
 ·exact (j.r.join r2 j.o.1).map (fun _ _ f => f.grown hg hat')
 exact (j.u.join u2 j.o.1).map (fun _ _ _ _ f => f.grown hg hat')
theorem allB_ofW {M : Int} {zs : List Int} (h : bnd M zs) : allB M zs = true := by
 unfold allB;rw [List.all_eq_true];intro z hz;obtain ⟨i, hi, rfl⟩ := List.getElem_of_mem hz;have := h i;rw [List.getElem?_eq_getElem hi] at this;simp only [Option.getD_some] at this
 exact inB_iff.2 this
theorem fit_ok {f : Frm} (h : fitX 10000000 f) : formB 3 2 f.1 f.2.1 f.2.2 = true := by
 simp only [formB, okN, Bool.and_eq_true, decide_eq_true_eq]
 exact ⟨⟨⟨rfl, allB_ofW h.bc⟩, rfl, allB_ofW h.bd⟩, inB_iff.2 ⟨h.k1, h.k2⟩⟩
theorem FormsAt.fv {P : List Frm} (h : FormsAt w a P) (hl : P.length = 3) : ∃ fs : List FV, fs.length = 3 /\ FormsG w a fs /\ ∀ k, k < 3 -> (fs[k]?.getD noFV).n = 3 /\ (fs[k]?.getD noFV).m = 2 /\ (fs[k]?.getD noFV).C = (P[k]?.getD noX).1 /\ (fs[k]?.getD noFV).D = (P[k]?.getD noX).2.1 /\ (fs[k]?.getD noFV).K = (P[k]?.getD noX).2.2 := by
 obtain ⟨b, off, e, a0, c0, p0, q0, x0, x1, x2, i0, j0⟩ := h 0 (by omega);obtain ⟨b1, off1, e1, a1, c1, p1, q1, y0, y1, y2, i1, j1⟩ := h 1 (by omega);obtain ⟨b2, off2, e2, a2, c2, p2, q2, z0, z1, z2, i2, j2⟩ := h 2 (by omega);refine ⟨[⟨a0, 3, p0, c0, 2, q0, (P[0]?.getD noX).2.2, (P[0]?.getD noX).1, (P[0]?.getD noX).2.1⟩, ⟨a1, 3, p1, c1, 2, q1, (P[1]?.getD noX).2.2, (P[1]?.getD noX).1, (P[1]?.getD noX).2.1⟩, ⟨a2, 3, p2, c2, 2, q2, (P[2]?.getD noX).2.2, (P[2]?.getD noX).1, (P[2]?.getD noX).2.1⟩], rfl, fun i hi => ?_, fun k hk => ?_⟩
 ·match i, hi with
  | 0, _ => exact ⟨b, off, e, x0, x1, x2, ⟨i0, j0, by show (3 : Nat) <= _; omega, by show (2 : Nat) <= _; omega⟩⟩
  | 1, _ => exact ⟨b1, off1, e1, y0, y1, y2, ⟨i1, j1, by show (3 : Nat) <= _; omega, by show (2 : Nat) <= _; omega⟩⟩
  | 2, _ => exact ⟨b2, off2, e2, z0, z1, z2, ⟨i2, j2, by show (3 : Nat) <= _; omega, by show (2 : Nat) <= _; omega⟩⟩
 match k, hk with
 | 0, _ => exact ⟨rfl, rfl, rfl, rfl, rfl⟩
 | 1, _ => exact ⟨rfl, rfl, rfl, rfl, rfl⟩
 | 2, _ => exact ⟨rfl, rfl, rfl, rfl, rfl⟩
theorem into_eq {g : FV} {P : List Frm} {fs : List FV} (hP : P.length = 3) (h : ∀ k, k < 3 -> (fs[k]?.getD noFV).C = (P[k]?.getD noX).1 /\ (fs[k]?.getD noFV).D = (P[k]?.getD noX).2.1 /\ (fs[k]?.getD noFV).K = (P[k]?.getD noX).2.2) : intoC g.C fs 3 = (intoX g P).1 /\ intoD g.C g.D fs 3 = (intoX g P).2.1 /\ intoK g.C g.K fs 3 = (intoX g P).2.2 := by
 obtain ⟨x0, x1, x2⟩ := h 0 (by omega);obtain ⟨y0, y1, y2⟩ := h 1 (by omega);obtain ⟨z0, z1, z2⟩ := h 2 (by omega);have t0 := toFV_at (P := P) (k := 0) (by omega);have t1 := toFV_at (P := P) (k := 1) (by omega);have t2 := toFV_at (P := P) (k := 2) (by omega);simp only [intoX, intoC, intoD, intoK, x0, x1, x2, y0, y1, y2, z0, z1, z2, t0, t1, t2, toFV]
 exact ⟨trivial, trivial, trivial⟩
theorem into_done {y : Way} (hy : WayOk i y) (h6 : i <= 6) (g : FV) (hs : smallB g.n g.m g.C g.D g.K = true) (w : World) (hA : g.At w) (pa : Option Addr) (cp : Nat) (hP : FormsAt w pa y.pots) {fn : Nat}
  (call : ∀ fs : List FV, fs.length = 3 -> FormsG w pa fs -> Calls Tryz.prog fn #[formV g.a g.n g.cap g.c g.m g.cap' g.K, .slice pa 3 cp] w fun e w' => Res w w' e (keepL (intoOk g.n g.m g.C g.D g.K 3 fs) (intoC g.C fs 3)) (keepL (intoOk g.n g.m g.C g.D g.K 3 fs) (intoD g.C g.D fs 3)) (keepK (intoOk g.n g.m g.C g.D g.K 3 fs) (intoK g.C g.K fs 3))) :
  Calls Tryz.prog fn #[formV g.a g.n g.cap g.c g.m g.cap' g.K, .slice pa 3 cp] w fun e w' => ∃ B1 B2 c1 c2, e = .returned (formV (some ⟨B1, 0, none⟩) 3 c1 (some ⟨B2, 0, none⟩) 2 c2 (intoX g y.pots).2.2) /\ Below w.heap.size w w' /\ w.heap.size <= B1 /\ B1 ≠ B2 /\ w.heap.size <= B2 /\ Blk w' B1 (intoX g y.pots).1 /\ Blk w' B2 (intoX g y.pots).2.1 := by
 obtain ⟨fs, hl, hG, hv⟩ := hP.fv hy.pl;have hw6 := wb_six h6;obtain ⟨q1, q2, q3⟩ := into_eq (g := g) hy.pl (fun k hk => ⟨(hv k hk).2.2.1, (hv k hk).2.2.2.1, (hv k hk).2.2.2.2⟩);obtain ⟨f1, f2, f3⟩ := hy.into h6 hs hA.D.1
 have hok : fs.all FV.ok = true := by
  rw [List.all_eq_true];intro x hx;obtain ⟨k, hk, rfl⟩ := List.getElem_of_mem hx;obtain ⟨e1, e2, e3, e4, e5⟩ := hv k (by omega);rw [List.getElem?_eq_getElem hk] at e1 e2 e3 e4 e5;simp only [Option.getD_some] at e1 e2 e3 e4 e5;have hf := fit_ok ((hy.pf k (by omega)).mono (show wb (min i 6) <= 10000000 by have := wb_six (n := min i 6) (by omega); omega));unfold FV.ok;rw [e1, e2, e3, e4, e5]; exact hf
 have hio : intoOk g.n g.m g.C g.D g.K 3 fs = true := by
  unfold intoOk;rw [small_ok hs, hok, q1, q2, q3, fit_ok f2]; rfl
 refine (call fs hl hG).mono ?_;rintro e w' ⟨a, n, cap, c, m, cap', B1, B2, rfl, L1, L2, b, o1, o2, g1, g2, g3⟩;rw [hio] at L1 L2 o1 o2 ⊢;simp only [keepL, keepK, if_true] at L1 L2 o1 o2 ⊢;rw [q1] at L1 o1;rw [q2] at L2 o2;rw [q3];have hc := f2.c;have hd := f2.d;obtain rfl : n = 3 := by omega
 obtain rfl : m = 2 := by omega
 rcases o1 with h | ⟨rfl, k1⟩
 ·rw [h] at hc; cases hc
 rcases o2 with h | ⟨rfl, k2⟩
 ·rw [h] at hd; cases hd
 exact ⟨B1, B2, cap, cap', rfl, b, g1 (by omega), g3 (by omega) (by omega), g2 (by omega), k1, k2⟩
theorem sintoW_any {y : Way} (hy : WayOk i y) (h6 : i <= 6) (g : FV) (hs : smallB g.n g.m g.C g.D g.K = true) {w : World} (hA : g.At w) {pa : Option Addr} {cp : Nat} (hP : FormsAt w pa y.pots) :
  Calls Tryz.prog 130 #[formV g.a g.n g.cap g.c g.m g.cap' g.K, .slice pa 3 cp] w fun e w' => ∃ B1 B2 c1 c2, e = .returned (formV (some ⟨B1, 0, none⟩) 3 c1 (some ⟨B2, 0, none⟩) 2 c2 (intoX g y.pots).2.2) /\ Below w.heap.size w w' /\ w.heap.size <= B1 /\ B1 ≠ B2 /\ w.heap.size <= B2 /\ Blk w' B1 (intoX g y.pots).1 /\ Blk w' B2 (intoX g y.pots).2.1 :=
 into_done hy h6 g hs w hA pa cp hP (fun fs hl hG => sinto_any g.C g.D fs hA.C hA.D hA.hn hA.hm hl hG (by omega))
theorem iintoW_any {y : Way} (hy : WayOk i y) (h6 : i <= 6) (g : FV) (hs : smallB g.n g.m g.C g.D g.K = true) {w : World} (hA : g.At w) {pa : Option Addr} {cp : Nat} (hP : FormsAt w pa y.pots) :
  Calls Tryz.prog 168 #[formV g.a g.n g.cap g.c g.m g.cap' g.K, .slice pa 3 cp] w fun e w' => ∃ B1 B2 c1 c2, e = .returned (formV (some ⟨B1, 0, none⟩) 3 c1 (some ⟨B2, 0, none⟩) 2 c2 (intoX g y.pots).2.2) /\ Below w.heap.size w w' /\ w.heap.size <= B1 /\ B1 ≠ B2 /\ w.heap.size <= B2 /\ Blk w' B1 (intoX g y.pots).1 /\ Blk w' B2 (intoX g y.pots).2.1 :=
 into_done hy h6 g hs w hA pa cp hP (fun fs hl hG => iinto_any g.C g.D fs hA.C hA.D hA.hn hA.hm hl hG (by omega))
theorem Ints.by {n : Nat} {zs : List Int} (h : Ints W a n zs) (t : Touch (fun x => x = G) W W') (hne : ∀ b o, a = some ⟨b, o, none⟩ -> b ≠ G) : Ints W' a n zs := by
 refine ⟨h.1, fun i hi => ?_⟩;obtain ⟨b, off, e, hc⟩ := h.2 i hi;refine ⟨b, off, e, ?_⟩;rw [World.cell?_of_block (t.block b (block_lt hc) (hne b off e))]
 exact hc
theorem JF.put {base : World} {cp : Nat} (j : JF base G cp 3 xs fs W) (hn : fs.length = 3) {p : Nat} (hp : p < 3) {B1 B2 ca cc : Nat} {C D : List Int} {K : Int} (k1 : Blk W B1 C) (l1 : C.length = 3) (k2 : Blk W B2 D) (l2 : D.length = 2) (n1 : B1 ≠ G) (n2 : B2 ≠ G) :
  FormsAt (((W.setCell ⟨G, p * 3, none⟩ (.slice (some ⟨B1, 0, none⟩) 3 ca)).setCell ⟨G, p * 3 + 1, none⟩ (.slice (some ⟨B2, 0, none⟩) 2 cc)).setCell ⟨G, p * 3 + 2, none⟩ (.int .i64 K)) (some ⟨G, 0, none⟩) (fs.set p (C, D, K)) := by
 have hT := j.t;have hx := j.o.1
 rcases j.o.2 with ⟨h, _⟩ | ⟨g, cap', cur, h, hg, hh, hl, _, hcs, ht⟩
 ·cases h
 simp only [Value.slice.injEq, qA, qB, and_true, true_and] at h;obtain ⟨rfl, rfl⟩ := h;have cel : Cel W G cur.toList 106 := by unfold Cel; simpa using hh
 have hlen : 9 <= cur.toList.length := by
  have := congrArg List.length ht;rw [List.length_take, hx] at this
  omega
 have hat : ∀ i, i < 9 -> cur.toList[i]? = xs[i]? := fun i hi => by
  rw [<- ht, List.getElem?_take, if_pos (by omega)]
 have c3 := ((cel.set (p * 3) (.slice (some ⟨B1, 0, none⟩) 3 ca)).set (p * 3 + 1) (.slice (some ⟨B2, 0, none⟩) 2 cc)).set (p * 3 + 2) (.int .i64 K);have tt : Touch (fun x => x = G) W (((W.setCell ⟨G, p * 3, none⟩ (.slice (some ⟨B1, 0, none⟩) 3 ca)).setCell ⟨G, p * 3 + 1, none⟩ (.slice (some ⟨B2, 0, none⟩) 2 cc)).setCell ⟨G, p * 3 + 2, none⟩ (.int .i64 K)) := (((Touch.refl (fun x => x = G) W).setCell rfl _).setCell rfl _).setCell rfl _;have m1 := (k1.ints' l1).by tt (fun b o e => by simp only [qA, qB, and_true] at e; omega);have m2 := (k2.ints' l2).by tt (fun b o e => by simp only [qA, qB, and_true] at e; omega);intro i hi;rw [List.length_set, hn] at hi
 by_cases e : p = i
 ·subst e;rw [qG (by omega)];refine ⟨G, 0, rfl, _, _, ca, cc, ?_, ?_, ?_, m1, m2⟩
  ·rw [Nat.zero_add, c3.cell, qC (by omega), qC (by omega), qG (by omega)]
  ·rw [Nat.zero_add, c3.cell, qC (by omega), qG (by rw [List.length_set]; omega)]
  rw [Nat.zero_add, c3.cell, qG (by rw [List.length_set, List.length_set]; omega)]; rfl
 rw [qC e];obtain ⟨a', c', x, y, e0, e1, e2, i1, i2, q1, q2⟩ := hT i hi;refine ⟨G, 0, rfl, a', c', x, y, ?_, ?_, ?_, i1.by tt q1, i2.by tt q2⟩
 ·rw [Nat.zero_add, c3.cell, qC (by omega), qC (by omega), qC (by omega), hat _ (by omega)]; exact e0
 ·rw [Nat.zero_add, c3.cell, qC (by omega), qC (by omega), qC (by omega), hat _ (by omega)]; exact e1
 rw [Nat.zero_add, c3.cell, qC (by omega), qC (by omega), qC (by omega), hat _ (by omega)]; exact e2
end Go.Proofs.YtfmpcihghlnlnaaGreatDoor
