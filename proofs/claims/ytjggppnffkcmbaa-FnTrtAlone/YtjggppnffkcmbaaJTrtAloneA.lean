/-
  Lemmas that the claim's last text rests on: WalkL, IntoW, Put, Walk, RowsS, Reads, Own, WayI, WayC, WayA, CatRS, IntSS, Has, Part, Cat, BothA, Both.
-/
import Derived.Test.YtjggppnffkcmbaaRowEnd
import Derived.Deep.AppendLies
import Derived.Test.YtjggppnffkcmbaaOwn0
import Derived.Test.YtjggppnffkcmbaaAdd
import Derived.Lib.SliceRun
import Derived.Test.YtjggppnffkcmbaaMarks
import Derived.Test.YtjggppnffkcmbaaOpenS
import Derived.Test.YtjggppnffkcmbaaGrow
import Derived.Test.YtjggppnffkcmbaaLineSS
namespace Go.Proofs.Ytjggppnffkcmbaa
open Go.RowKit Go.Deep
set_option linter.unusedVariables false
set_option maxRecDepth 100000

theorem goW_ne {ls : List LV} (f : Nat) : ∀ (i : Nat) (y : Way), 0 < (goW ls f i y).length := by
  induction f with
  | zero => intro i y; simp [goW]
  | succ f ih =>
    intro i y
    rw [goW]
    split
    · split
      · rw [List.length_append]; have := ih (i + 1) (y.guard (intoX (ls[i]?.getD noLV).f y.pots)); omega
      · split
        · exact ih _ _
        · split
          · exact ih _ _
          · simp
    · simp
theorem goW_len {ls : List LV} (f : Nat) : ∀ (i : Nat) (y : Way), (goW ls f i y).length ≤ 2 ^ f := by
  induction f with
  | zero => intro i y; simp [goW]
  | succ f ih =>
    intro i y
    have hp : 1 ≤ 2 ^ f := Nat.one_le_two_pow
    have h2 : 2 ^ (f + 1) = 2 ^ f + 2 ^ f := by rw [Nat.pow_succ]; omega
    rw [goW]
    split
    · split
      · rw [List.length_append]
        have h3 := ih (i + 1) (y.guard (intoX (ls[i]?.getD noLV).f y.pots))
        have h4 := ih (i + 1 + (ls[i]?.getD noLV).skip.toNat) (y.guard (minusX (intoX (ls[i]?.getD noLV).f y.pots)))
        omega
      · split
        · have := ih (i + 1) (y.add (ls[i]?.getD noLV).pot.toNat (intoX (ls[i]?.getD noLV).f y.pots)); omega
        · split
          · have := ih (i + 1) (y.tell (intoX (ls[i]?.getD noLV).f y.pots)); omega
          · simp; omega
    · simp; omega
theorem goW_128 {ls : List LV} {f i : Nat} {y : Way} (hf : f ≤ 7) : (goW ls f i y).length ≤ 128 :=
  Nat.le_trans (goW_len f i y) (Nat.le_trans (Nat.pow_le_pow_right (by omega) hf) (by decide))

theorem FOff.grown {W W' : World} {B G g : Nat} {a : Option Addr} {fs : List Frm} (h : FOff W (fun k => k < B ∨ k = G) a fs) (hg : W.grownBy W' (some G)) (hat : g = G ∨ W.heap.size ≤ g) : FOff W' (fun k => k < B ∨ k = g) a fs := fun W'' t => by
  refine h W'' ⟨t.os.trans hg.os, t.tape.trans hg.tape, t.output.trans hg.output, Nat.le_trans hg.size t.size, fun k hk hn => ?_⟩
  have hk1 : ¬ k < B := fun e => hn (Or.inl e)
  have hk2 : k ≠ G := fun e => hn (Or.inr e)
  rw [t.block k (Nat.lt_of_lt_of_le hk hg.size) (fun e => by omega)]
  exact hg.block k hk (fun e => by simp only [Option.some.injEq] at e; omega)

def noR : RowM := ⟨[], [], [], false⟩
/-- Rows in cells; they read on whatever becomes of the blocks of S. -/
def RowsOk (W : World) (S : Nat → Prop) (xs : List Value) (rs : List RowM) : Prop :=
  ∀ j, j < rs.length → ∃ ga gc aa ac ta tc, xs[j * 4]? = some (.slice ga (rs[j]?.getD noR).guards.length gc) ∧ xs[j * 4 + 1]? = some (.slice aa (rs[j]?.getD noR).adds.length ac) ∧ xs[j * 4 + 2]? = some (.slice ta (rs[j]?.getD noR).tells.length tc) ∧ xs[j * 4 + 3]? = some (.bool (rs[j]?.getD noR).stop) ∧
    FOff W S ga (rs[j]?.getD noR).guards ∧ FOff W S aa (rs[j]?.getD noR).adds ∧ FOff W S ta (rs[j]?.getD noR).tells
theorem RowsOk.map {W W' : World} {S S' : Nat → Prop} {xs : List Value} {rs : List RowM} (h : RowsOk W S xs rs) (hf : ∀ a fs, FOff W S a fs → FOff W' S' a fs) : RowsOk W' S' xs rs := fun j hj => by
  obtain ⟨ga, gc, aa, ac, ta, tc, e0, e1, e2, e3, f0, f1, f2⟩ := h j hj
  exact ⟨ga, gc, aa, ac, ta, tc, e0, e1, e2, e3, hf _ _ f0, hf _ _ f1, hf _ _ f2⟩
theorem RowsOk.join {W : World} {S : Nat → Prop} {xs ys : List Value} {rs ss : List RowM} (h1 : RowsOk W S xs rs) (h2 : RowsOk W S ys ss) (hl : xs.length = rs.length * 4) : RowsOk W S (xs ++ ys) (rs ++ ss) := fun j hj => by
  rw [List.length_append] at hj
  by_cases hjr : j < rs.length
  · rw [List.getElem?_append_left (l₁ := rs) hjr, List.getElem?_append_left (by omega), List.getElem?_append_left (by omega), List.getElem?_append_left (by omega), List.getElem?_append_left (by omega)]
    exact h1 j hjr
  · rw [List.getElem?_append_right (l₁ := rs) (by omega), List.getElem?_append_right (by omega), List.getElem?_append_right (by omega), List.getElem?_append_right (by omega), List.getElem?_append_right (by omega), hl]
    have := h2 (j - rs.length) (by omega)
    rw [show j * 4 - rs.length * 4 = (j - rs.length) * 4 by omega, show j * 4 + 1 - rs.length * 4 = (j - rs.length) * 4 + 1 by omega, show j * 4 + 2 - rs.length * 4 = (j - rs.length) * 4 + 2 by omega, show j * 4 + 3 - rs.length * 4 = (j - rs.length) * 4 + 3 by omega]
    exact this

/-- A slice of rows, in memory made since w. -/
structure JR (w : World) (G cap : Nat) (xs : List Value) (rs : List RowM) (W : World) : Prop where
  b : Below w.heap.size w W
  o : W.ownsRow w.heap.size 25 4 (.slice (some ⟨G, 0, none⟩) rs.length cap) rs.length xs
  r : RowsOk W (fun k => k < w.heap.size ∨ k = G) xs rs
theorem JR.below {w W W' : World} {G cap : Nat} {xs : List Value} {rs : List RowM} (j : JR w G cap xs rs W) (h : Below W.heap.size W W') : JR w G cap xs rs W' := ⟨j.b.trans (h.mono j.b.size), own_below j.o h, j.r.map (fun _ _ f => f.below h)⟩
theorem JR.lt {w W : World} {G cap : Nat} {xs : List Value} {rs : List RowM} (j : JR w G cap xs rs W) : w.heap.size ≤ G ∧ G < W.heap.size := by
  rcases j.o.2 with ⟨h, _⟩ | ⟨g, cap', cur, h, hg, hh, _⟩
  · cases h
  · simp only [Value.slice.injEq, Option.some.injEq, Addr.mk.injEq, and_true, true_and] at h
    obtain ⟨rfl, _⟩ := h
    exact ⟨hg, lt_of_block hh⟩
/-- Two slices joined: the second was made behind the first. -/
theorem JR.join {w w1 W W' : World} {G cap G2 cap2 g cp n1 n2 : Nat} {xs ys : List Value} {rs ss : List RowM} (j : JR w G cap xs rs W) (j2 : JR w1 G2 cap2 ys ss W) (hb : w.heap.size ≤ w1.heap.size) (hG : G < w1.heap.size) (hn1 : rs.length = n1) (hn2 : ss.length = n2)
    (hown : W'.ownsRow w.heap.size 25 4 (.slice (some ⟨g, 0, none⟩) (n1 + n2) cp) (n1 + n2) (xs ++ ys)) (hg : W.grownBy W' (some G)) {H : Nat} (hat : some G = some g ∨ g = H) (hH : W.heap.size = H) : JR w g cp (xs ++ ys) (rs ++ ss) W' := by
  subst hn1 hn2
  have hat' : g = G ∨ W.heap.size ≤ g := by
    rcases hat with h | h
    · simp only [Option.some.injEq] at h; exact Or.inl h.symm
    · exact Or.inr (by omega)
  have r2 : RowsOk W (fun k => k < w.heap.size ∨ k = G) ys ss := j2.r.map (fun _ _ f => f.mono (fun k hk => by omega))
  refine ⟨j.b.grown hg j.b.size (fun z hz => by simp only [Option.some.injEq] at hz; have := j.lt; omega), by rw [List.length_append]; exact hown, ?_⟩
  exact (j.r.join r2 j.o.1).map (fun _ _ f => f.grown hg hat')

end Go.Proofs.Ytjggppnffkcmbaa
namespace Go.Proofs.Ytjggppnffkcmbaa
open Go.RowKit Go.Deep
set_option linter.unusedVariables false
set_option maxRecDepth 100000

theorem allB_ofW {M : Int} {zs : List Int} (h : bnd M zs) : allB M zs = true := by
  unfold allB
  rw [List.all_eq_true]
  intro z hz
  obtain ⟨i, hi, rfl⟩ := List.getElem_of_mem hz
  have := h i
  rw [List.getElem?_eq_getElem hi] at this
  simp only [Option.getD_some] at this
  exact inB_iff.2 this
theorem fit_ok {f : Frm} (h : fitX 10000000 f) : formB 3 2 f.1 f.2.1 f.2.2 = true := by
  simp only [formB, okN, Bool.and_eq_true, decide_eq_true_eq]
  exact ⟨⟨⟨rfl, allB_ofW h.bc⟩, rfl, allB_ofW h.bd⟩, inB_iff.2 ⟨h.k1, h.k2⟩⟩
/-- Forms that can be read, with where they lie. -/
theorem FormsAt.fv {w : World} {a : Option Addr} {P : List Frm} (h : FormsAt w a P) (hl : P.length = 3) : ∃ fs : List FV, fs.length = 3 ∧ FormsG w a fs ∧ ∀ k, k < 3 → (fs[k]?.getD noFV).n = 3 ∧ (fs[k]?.getD noFV).m = 2 ∧ (fs[k]?.getD noFV).C = (P[k]?.getD noX).1 ∧ (fs[k]?.getD noFV).D = (P[k]?.getD noX).2.1 ∧ (fs[k]?.getD noFV).K = (P[k]?.getD noX).2.2 := by
  obtain ⟨b, off, e, a0, c0, p0, q0, x0, x1, x2, i0, j0⟩ := h 0 (by omega)
  obtain ⟨b1, off1, e1, a1, c1, p1, q1, y0, y1, y2, i1, j1⟩ := h 1 (by omega)
  obtain ⟨b2, off2, e2, a2, c2, p2, q2, z0, z1, z2, i2, j2⟩ := h 2 (by omega)
  refine ⟨[⟨a0, 3, p0, c0, 2, q0, (P[0]?.getD noX).2.2, (P[0]?.getD noX).1, (P[0]?.getD noX).2.1⟩, ⟨a1, 3, p1, c1, 2, q1, (P[1]?.getD noX).2.2, (P[1]?.getD noX).1, (P[1]?.getD noX).2.1⟩, ⟨a2, 3, p2, c2, 2, q2, (P[2]?.getD noX).2.2, (P[2]?.getD noX).1, (P[2]?.getD noX).2.1⟩], rfl, fun i hi => ?_, fun k hk => ?_⟩
  · match i, hi with
    | 0, _ => exact ⟨b, off, e, x0, x1, x2, ⟨i0, j0, by show (3 : Nat) ≤ _; omega, by show (2 : Nat) ≤ _; omega⟩⟩
    | 1, _ => exact ⟨b1, off1, e1, y0, y1, y2, ⟨i1, j1, by show (3 : Nat) ≤ _; omega, by show (2 : Nat) ≤ _; omega⟩⟩
    | 2, _ => exact ⟨b2, off2, e2, z0, z1, z2, ⟨i2, j2, by show (3 : Nat) ≤ _; omega, by show (2 : Nat) ≤ _; omega⟩⟩
  · match k, hk with
    | 0, _ => exact ⟨rfl, rfl, rfl, rfl, rfl⟩
    | 1, _ => exact ⟨rfl, rfl, rfl, rfl, rfl⟩
    | 2, _ => exact ⟨rfl, rfl, rfl, rfl, rfl⟩

theorem into_eq {g : FV} {P : List Frm} {fs : List FV} (hP : P.length = 3) (h : ∀ k, k < 3 → (fs[k]?.getD noFV).C = (P[k]?.getD noX).1 ∧ (fs[k]?.getD noFV).D = (P[k]?.getD noX).2.1 ∧ (fs[k]?.getD noFV).K = (P[k]?.getD noX).2.2) : intoC g.C fs 3 = (intoX g P).1 ∧ intoD g.C g.D fs 3 = (intoX g P).2.1 ∧ intoK g.C g.K fs 3 = (intoX g P).2.2 := by
  obtain ⟨x0, x1, x2⟩ := h 0 (by omega)
  obtain ⟨y0, y1, y2⟩ := h 1 (by omega)
  obtain ⟨z0, z1, z2⟩ := h 2 (by omega)
  have t0 := toFV_at (P := P) (k := 0) (by omega)
  have t1 := toFV_at (P := P) (k := 1) (by omega)
  have t2 := toFV_at (P := P) (k := 2) (by omega)
  simp only [intoX, intoC, intoD, intoK, x0, x1, x2, y0, y1, y2, z0, z1, z2, t0, t1, t2, toFV]
  exact ⟨trivial, trivial, trivial⟩

/-- What a call of either FrmInto leaves, where no number is too great. -/
theorem into_done {i : Nat} {y : Way} (hy : WayOk i y) (h6 : i ≤ 6) (g : FV) (hs : smallB g.n g.m g.C g.D g.K = true) (w : World) (hA : g.At w) (pa : Option Addr) (cp : Nat) (hP : FormsAt w pa y.pots) (fn : Nat)
    (call : ∀ fs : List FV, fs.length = 3 → FormsG w pa fs → Calls Try.prog fn #[formV g.a g.n g.cap g.c g.m g.cap' g.K, .slice pa 3 cp] w fun e w' => Res w w' e (keepL (intoOk g.n g.m g.C g.D g.K 3 fs) (intoC g.C fs 3)) (keepL (intoOk g.n g.m g.C g.D g.K 3 fs) (intoD g.C g.D fs 3)) (keepK (intoOk g.n g.m g.C g.D g.K 3 fs) (intoK g.C g.K fs 3))) :
    Calls Try.prog fn #[formV g.a g.n g.cap g.c g.m g.cap' g.K, .slice pa 3 cp] w fun e w' => ∃ B1 B2 c1 c2, e = .returned (formV (some ⟨B1, 0, none⟩) 3 c1 (some ⟨B2, 0, none⟩) 2 c2 (intoX g y.pots).2.2) ∧ Below w.heap.size w w' ∧ w.heap.size ≤ B1 ∧ B1 ≠ B2 ∧ w.heap.size ≤ B2 ∧ Blk w' B1 (intoX g y.pots).1 ∧ Blk w' B2 (intoX g y.pots).2.1 := by
  obtain ⟨fs, hl, hG, hv⟩ := hP.fv hy.pl
  have hw6 := wb_six h6
  obtain ⟨q1, q2, q3⟩ := into_eq (g := g) hy.pl (fun k hk => ⟨(hv k hk).2.2.1, (hv k hk).2.2.2.1, (hv k hk).2.2.2.2⟩)
  obtain ⟨f1, f2, f3⟩ := hy.into h6 hs hA.D.1
  have hok : fs.all FV.ok = true := by
    rw [List.all_eq_true]
    intro x hx
    obtain ⟨k, hk, rfl⟩ := List.getElem_of_mem hx
    obtain ⟨e1, e2, e3, e4, e5⟩ := hv k (by omega)
    rw [List.getElem?_eq_getElem hk] at e1 e2 e3 e4 e5
    simp only [Option.getD_some] at e1 e2 e3 e4 e5
    have hf := fit_ok ((hy.pf k (by omega)).mono (show wb (min i 6) ≤ 10000000 by have := wb_six (n := min i 6) (by omega); omega))
    unfold FV.ok
    rw [e1, e2, e3, e4, e5]; exact hf
  have hio : intoOk g.n g.m g.C g.D g.K 3 fs = true := by
    unfold intoOk
    rw [small_ok hs, hok, q1, q2, q3, fit_ok f2]; rfl
  refine (call fs hl hG).mono ?_
  rintro e w' ⟨a, n, cap, c, m, cap', B1, B2, rfl, L1, L2, b, o1, o2, g1, g2, g3⟩
  rw [hio] at L1 L2 o1 o2 ⊢
  simp only [keepL, keepK, if_true] at L1 L2 o1 o2 ⊢
  rw [q1] at L1 o1
  rw [q2] at L2 o2
  rw [q3]
  have hc := f2.c
  have hd := f2.d
  obtain rfl : n = 3 := by omega
  obtain rfl : m = 2 := by omega
  rcases o1 with h | ⟨rfl, k1⟩
  · rw [h] at hc; cases hc
  rcases o2 with h | ⟨rfl, k2⟩
  · rw [h] at hd; cases hd
  exact ⟨B1, B2, cap, cap', rfl, b, g1 (by omega), g3 (by omega) (by omega), g2 (by omega), k1, k2⟩

theorem sintoW_any {i : Nat} {y : Way} (hy : WayOk i y) (h6 : i ≤ 6) (g : FV) (hs : smallB g.n g.m g.C g.D g.K = true) (w : World) (hA : g.At w) (pa : Option Addr) (cp : Nat) (hP : FormsAt w pa y.pots) :
    Calls Try.prog 118 #[formV g.a g.n g.cap g.c g.m g.cap' g.K, .slice pa 3 cp] w fun e w' => ∃ B1 B2 c1 c2, e = .returned (formV (some ⟨B1, 0, none⟩) 3 c1 (some ⟨B2, 0, none⟩) 2 c2 (intoX g y.pots).2.2) ∧ Below w.heap.size w w' ∧ w.heap.size ≤ B1 ∧ B1 ≠ B2 ∧ w.heap.size ≤ B2 ∧ Blk w' B1 (intoX g y.pots).1 ∧ Blk w' B2 (intoX g y.pots).2.1 :=
  into_done hy h6 g hs w hA pa cp hP _ (fun fs hl hG => sinto_any _ _ _ _ _ _ _ g.C g.D _ _ _ fs _ hA.C hA.D hA.hn hA.hm hl hG (by omega))

theorem iintoW_any {i : Nat} {y : Way} (hy : WayOk i y) (h6 : i ≤ 6) (g : FV) (hs : smallB g.n g.m g.C g.D g.K = true) (w : World) (hA : g.At w) (pa : Option Addr) (cp : Nat) (hP : FormsAt w pa y.pots) :
    Calls Try.prog 136 #[formV g.a g.n g.cap g.c g.m g.cap' g.K, .slice pa 3 cp] w fun e w' => ∃ B1 B2 c1 c2, e = .returned (formV (some ⟨B1, 0, none⟩) 3 c1 (some ⟨B2, 0, none⟩) 2 c2 (intoX g y.pots).2.2) ∧ Below w.heap.size w w' ∧ w.heap.size ≤ B1 ∧ B1 ≠ B2 ∧ w.heap.size ≤ B2 ∧ Blk w' B1 (intoX g y.pots).1 ∧ Blk w' B2 (intoX g y.pots).2.1 :=
  into_done hy h6 g hs w hA pa cp hP _ (fun fs hl hG => iinto_any _ _ _ _ _ _ _ g.C g.D _ _ _ fs _ hA.C hA.D hA.hn hA.hm hl hG (by omega))

end Go.Proofs.Ytjggppnffkcmbaa
namespace Go.Proofs.Ytjggppnffkcmbaa
open Go.RowKit
set_option linter.unusedVariables false

theorem Ints.by {W W' : World} {G : Nat} {a : Option Addr} {n : Nat} {zs : List Int} (h : Ints W a n zs) (t : Touch (fun x => x = G) W W') (hne : ∀ b o, a = some ⟨b, o, none⟩ → b ≠ G) : Ints W' a n zs := by
  refine ⟨h.1, fun i hi => ?_⟩
  obtain ⟨b, off, e, hc⟩ := h.2 i hi
  refine ⟨b, off, e, ?_⟩
  rw [World.cell?_of_block (t.block b (block_lt hc) (hne b off e))]
  exact hc

theorem JF.put {base W : World} {G cp : Nat} {xs : List Value} {fs : List Frm} (j : JF base G cp 3 xs fs W) (hn : fs.length = 3) {p : Nat} (hp : p < 3) {B1 B2 ca cc : Nat} {C D : List Int} {K : Int} (k1 : Blk W B1 C) (l1 : C.length = 3) (k2 : Blk W B2 D) (l2 : D.length = 2) (n1 : B1 ≠ G) (n2 : B2 ≠ G) :
    FormsAt (((W.setCell ⟨G, p * 3, none⟩ (.slice (some ⟨B1, 0, none⟩) 3 ca)).setCell ⟨G, p * 3 + 1, none⟩ (.slice (some ⟨B2, 0, none⟩) 2 cc)).setCell ⟨G, p * 3 + 2, none⟩ (.int .i64 K)) (some ⟨G, 0, none⟩) (fs.set p (C, D, K)) := by
  have hT := j.t
  have hx := j.o.1
  rcases j.o.2 with ⟨h, _⟩ | ⟨g, cap', cur, h, hg, hh, hl, _, hcs, ht⟩
  · cases h
  simp only [Value.slice.injEq, Option.some.injEq, Addr.mk.injEq, and_true, true_and] at h
  obtain ⟨rfl, rfl⟩ := h
  have cel : Cel W G cur.toList 34 := by unfold Cel; simpa using hh
  have hlen : 9 ≤ cur.toList.length := by
    have := congrArg List.length ht
    rw [List.length_take, hx] at this
    omega
  have hat : ∀ i, i < 9 → cur.toList[i]? = xs[i]? := fun i hi => by
    rw [← ht, List.getElem?_take, if_pos (by omega)]
  have c3 := ((cel.set (p * 3) (.slice (some ⟨B1, 0, none⟩) 3 ca)).set (p * 3 + 1) (.slice (some ⟨B2, 0, none⟩) 2 cc)).set (p * 3 + 2) (.int .i64 K)
  have tt : Touch (fun x => x = G) W (((W.setCell ⟨G, p * 3, none⟩ (.slice (some ⟨B1, 0, none⟩) 3 ca)).setCell ⟨G, p * 3 + 1, none⟩ (.slice (some ⟨B2, 0, none⟩) 2 cc)).setCell ⟨G, p * 3 + 2, none⟩ (.int .i64 K)) := (((Touch.refl (fun x => x = G) W).setCell rfl _).setCell rfl _).setCell rfl _
  have m1 := (k1.ints' l1).by tt (fun b o e => by simp only [Option.some.injEq, Addr.mk.injEq, and_true] at e; omega)
  have m2 := (k2.ints' l2).by tt (fun b o e => by simp only [Option.some.injEq, Addr.mk.injEq, and_true] at e; omega)
  intro i hi
  rw [List.length_set, hn] at hi
  by_cases e : p = i
  · subst e
    rw [List.getElem?_set_self (by omega)]
    refine ⟨G, 0, rfl, _, _, ca, cc, ?_, ?_, ?_, m1, m2⟩
    · rw [Nat.zero_add, c3.cell, List.getElem?_set_ne (by omega), List.getElem?_set_ne (by omega), List.getElem?_set_self (by omega)]
    · rw [Nat.zero_add, c3.cell, List.getElem?_set_ne (by omega), List.getElem?_set_self (by rw [List.length_set]; omega)]
    · rw [Nat.zero_add, c3.cell, List.getElem?_set_self (by rw [List.length_set, List.length_set]; omega)]; rfl
  · rw [List.getElem?_set_ne e]
    obtain ⟨a', c', x, y, e0, e1, e2, i1, i2, q1, q2⟩ := hT i hi
    refine ⟨G, 0, rfl, a', c', x, y, ?_, ?_, ?_, i1.by tt q1, i2.by tt q2⟩
    · rw [Nat.zero_add, c3.cell, List.getElem?_set_ne (by omega), List.getElem?_set_ne (by omega), List.getElem?_set_ne (by omega), hat _ (by omega)]; exact e0
    · rw [Nat.zero_add, c3.cell, List.getElem?_set_ne (by omega), List.getElem?_set_ne (by omega), List.getElem?_set_ne (by omega), hat _ (by omega)]; exact e1
    · rw [Nat.zero_add, c3.cell, List.getElem?_set_ne (by omega), List.getElem?_set_ne (by omega), List.getElem?_set_ne (by omega), hat _ (by omega)]; exact e2

end Go.Proofs.Ytjggppnffkcmbaa
namespace Go.Proofs.Ytjggppnffkcmbaa
open Go.RowKit Go.Deep
set_option linter.unusedVariables false
set_option maxRecDepth 100000

theorem goW_stop {ls : List LV} {f i : Nat} {y : Way} {g : LV} (hi : i < ls.length) (hf : 0 < f) (hg : ls[i]?.getD noLV = g) (h1 : ¬ g.kind = 1) (h2 : ¬ g.kind = 2) (h3 : ¬ g.kind = 3) : goW ls f i y = [stopW y] := by
  obtain ⟨f, rfl⟩ : ∃ f', f = f' + 1 := ⟨f - 1, by omega⟩
  rw [goW, if_pos hi, hg, if_neg h1, if_neg h2, if_neg h3]
theorem FOff.noForms {W : World} {S : Nat → Prop} {a : Option Addr} : FOff W S a [] := fun W' t i hi => by simp at hi
theorem lineW {k p z : Int} {n m : Nat} {C D : List Int} {K : Int} (h : lineB k p z n m C D K = true) (h4 : ¬ k = 4) : smallB n m C D K = true ∧ (k = 1 ∨ k = 2 ∨ k = 3) ∧ (k = 1 → 1 ≤ z ∧ z ≤ 6) ∧ (k = 2 → 0 ≤ p ∧ p < 3) := by
  by_cases h1 : k = 1
  · subst h1
    simp [lineB] at h
    have := inB_iff.1 h.1.2
    exact ⟨h.2, Or.inl rfl, fun _ => this, fun e => by omega⟩
  by_cases h2 : k = 2
  · subst h2
    simp [lineB] at h
    have := inB_iff.1 h.1.1
    exact ⟨h.2, Or.inr (Or.inl rfl), fun e => by omega, fun _ => ⟨this.1, by omega⟩⟩
  by_cases h3 : k = 3
  · subst h3
    simp [lineB] at h
    exact ⟨h.2, Or.inr (Or.inr rfl), fun e => by omega, fun e => by omega⟩
  simp [lineB, h1, h2, h3, h4] at h
theorem TermsOk.ext {W : World} {G : Nat} {xs : List Value} {T T' : List Frm} {n : Nat} (h : TermsOk W G xs T n) (e : ∀ j, j < n → T'[j]?.getD ([], [], 0) = T[j]?.getD ([], [], 0)) : TermsOk W G xs T' n := fun j hj => by
  obtain ⟨a', c', ca, cc, e0, e1, e2, i1, i2, n1, n2⟩ := h j hj
  rw [e j hj]
  exact ⟨a', c', ca, cc, e0, e1, e2, i1, i2, n1, n2⟩
/-- One form more, at the end of a copy. -/
theorem JF.snoc {w W W' : World} {G cap n : Nat} {xs : List Value} {fs : List Frm} {g cp B1 B2 ca cc : Nat} {C D : List Int} {K : Int} (j : JF w G cap n xs fs W) (hn : fs.length = n) (hown : W'.ownsRow w.heap.size 34 3 (.slice (some ⟨g, 0, none⟩) (n + 1) cp) (n + 1) (xs ++ [.slice (some ⟨B1, 0, none⟩) 3 ca, .slice (some ⟨B2, 0, none⟩) 2 cc, .int .i64 K])) (hgrow : W.grownBy W' (some G)) {H : Nat} (hat : some G = some g ∨ g = H) (hH : W.heap.size = H)
    (k1 : Ints W (some ⟨B1, 0, none⟩) 3 C) (k2 : Ints W (some ⟨B2, 0, none⟩) 2 D) (n1 : B1 ≠ G) (n2 : B2 ≠ G) : Below w.heap.size w W' ∧ FormsAt W' (some ⟨g, 0, none⟩) (fs ++ [(C, D, K)]) := by
  have hG := j.lt
  have hat' : g = G ∨ W.heap.size ≤ g := by
    rcases hat with h | h
    · simp only [Option.some.injEq] at h; exact Or.inl h.symm
    · exact Or.inr (by omega)
  have t1 : TermsOk W G xs (fs ++ [(C, D, K)]) n := j.t.ext (fun i hi => by rw [List.getElem?_append_left (by omega)])
  have t2 := t1.step j.o.1 hgrow hat' (ca := ca) (cc := cc) (K := K) k1 k2 n1 n2 (by rw [List.getElem?_append_right (by omega), hn, Nat.sub_self]; rfl)
  exact ⟨j.b.grown hgrow j.b.size (fun z hz => by simp only [Option.some.injEq] at hz; omega), t2.forms (by rw [List.length_append, hn]; rfl) hown⟩
/-- One row alone. -/
theorem JR.one {w W : World} {r : RowM} {ga aa ta : Option Addr} {gc ac tc : Nat} (hb : Below w.heap.size w W) (f0 : FOff W (fun k => k < w.heap.size) ga r.guards) (f1 : FOff W (fun k => k < w.heap.size) aa r.adds) (f2 : FOff W (fun k => k < w.heap.size) ta r.tells) :
    JR w W.heap.size 1 [.slice ga r.guards.length gc, .slice aa r.adds.length ac, .slice ta r.tells.length tc, .bool r.stop] [r] (W.alloc (.cells #[.slice ga r.guards.length gc, .slice aa r.adds.length ac, .slice ta r.tells.length tc, .bool r.stop] 25)) := by
  refine ⟨hb.alloc hb.size _, World.ownsRow_lit W #[.slice ga r.guards.length gc, .slice aa r.adds.length ac, .slice ta r.tells.length tc, .bool r.stop] 1 hb.size (by unfold maxLen; omega) rfl, fun j hj => ?_⟩
  simp only [List.length_cons, List.length_nil] at hj
  obtain rfl : j = 0 := by omega
  exact ⟨ga, gc, aa, ac, ta, tc, rfl, rfl, rfl, rfl, f0.fresh _, f1.fresh _, f2.fresh _⟩

theorem JR.mono {w w1 W : World} {G cap : Nat} {xs : List Value} {rs : List RowM} (j : JR w1 G cap xs rs W) (h : Below w.heap.size w w1) : JR w G cap xs rs W := by
  refine ⟨h.trans (j.b.mono h.size), ⟨j.o.1, ?_⟩, j.r.map (fun _ _ f => f.mono (fun k hk => by have := h.size; omega))⟩
  rcases j.o.2 with h2 | ⟨g, cp, cur, hv, hg, r⟩
  · exact .inl h2
  · exact .inr ⟨g, cp, cur, hv, Nat.le_trans h.size hg, r⟩
theorem JR.news {w W : World} {G cap : Nat} {xs : List Value} {rs : List RowM} (j : JR w G cap xs rs W) : ∀ i u, xs[i]? = some u → W.cell? ((⟨G, 0, none⟩ : Addr).add i) = some u := fun i u hu => by
  have hl : i < xs.length := (List.getElem?_eq_some_iff.1 hu).1
  have hadd : (⟨G, 0, none⟩ : Addr).add i = ⟨G, i, none⟩ := by
    by_cases h0 : i = 0
    · subst h0; simp [Addr.add]
    · simp [Addr.add, h0]
  rw [hadd, own_cell j.o i (by have := j.o.1; omega), hu]
theorem JR.ones {w W : World} {G cap : Nat} {xs : List Value} {rs : List RowM} (j : JR w G cap xs rs W) : ∀ u ∈ xs, u.oneCell' = true := fun u hu => by
  obtain ⟨i, hx⟩ := List.mem_iff_getElem?.1 hu
  have hi : i < xs.length := (List.getElem?_eq_some_iff.1 hx).1
  have hlen := j.o.1
  obtain ⟨ga, gc, aa, ac, ta, tc, e0, e1, e2, e3, _⟩ := j.r (i / 4) (by omega)
  have hm : i = i / 4 * 4 + i % 4 := by omega
  have h4 : i % 4 < 4 := Nat.mod_lt _ (by omega)
  rw [hm] at hx
  generalize i % 4 = r at *
  generalize i / 4 = d at *
  match r, h4 with
  | 0, _ => rw [Nat.add_zero, e0] at hx; simp only [Option.some.injEq] at hx; rw [← hx]; rfl
  | 1, _ => rw [e1] at hx; simp only [Option.some.injEq] at hx; rw [← hx]; rfl
  | 2, _ => rw [e2] at hx; simp only [Option.some.injEq] at hx; rw [← hx]; rfl
  | 3, _ => rw [e3] at hx; simp only [Option.some.injEq] at hx; rw [← hx]; rfl
theorem JF.frz {w W : World} {G cap n : Nat} {xs : List Value} {fs : List Frm} (j : JF w G cap n xs fs W) (i : Nat) : W.frozen? ⟨G, i, none⟩ = false := by
  rcases j.o.2 with ⟨h, _⟩ | ⟨g, cap', cur, h, hg, hh, _⟩
  · cases h
  · simp only [Value.slice.injEq, Option.some.injEq, Addr.mk.injEq, and_true, true_and] at h
    obtain ⟨rfl, _⟩ := h
    have : Cel W G cur.toList 34 := by unfold Cel; simpa using hh
    exact this.free i
theorem Try.infoRow : (Try.prog.info? 25).map (fun i => (i.zero, i.size, i.bytes)) = some (some (.agg #[.slice none 0 0, .slice none 0 0, .slice none 0 0, .bool false]), 4, 80) := by kernel_rfl
set_option maxHeartbeats 25600000 in
theorem swalk_any (ad : Option Addr) (N cap : Nat) (ls : List LV) (hN : ls.length = N) (h6 : N ≤ 6) (hall : ls.all LV.ok = true) (f : Nat) :
    ∀ (i0 : Nat) (y : Way) (pa : Option Addr) (cp : Nat) (ga : Option Addr) (ng gc : Nat) (ta : Option Addr) (nt tc : Nat) (w : World), f ≤ 7 → N ≤ i0 + f → i0 ≤ 12 → WayOk i0 y → y.guards.length = ng → y.tells.length = nt → LinesG w ad ls → FormsAt w pa y.pots → FormsAt w ga y.guards → FormsAt w ta y.tells →
    Calls Try.prog 87 #[.slice ad N cap, .int .i64 (i0 : Int), .slice pa 3 cp, .slice ga ng gc, .slice ta nt tc] w fun e w' => ∃ G cp' xs, e = .returned (.slice (some ⟨G, 0, none⟩) (goW ls f i0 y).length cp') ∧ JR w G cp' xs (goW ls f i0 y) w' := by
  induction f using Nat.strongRecOn with
  | _ f ih =>
  intro i0 y pa cp ga ng gc ta nt tc w hf hfu hi0 hy hg ht hF hP hG hT
  have IH : Hid _ := ih
  have HN : Hid (ls.length = N) := hN
  have HO : Hid (ls.all LV.ok = true) := hall
  have HY : Hid (WayOk i0 y) := hy
  have HGL : Hid (y.guards.length = ng) := hg
  have HTL : Hid (y.tells.length = nt) := ht
  clear ih hN hall hy hg ht
  obtain ⟨zi, hi, hz0, hz1, hz2⟩ := info_parts Try.infoForm
  go_enter Try.func87, Try.ntmps87
  go_wp2_with fail
  go_loopw [2, 4, 11, 12, 13] (fun p t i _ _ wr => ∃ (k g : Nat) (z : Way) (pa : Option Addr) (cp : Nat) (ta : Option Addr) (nt tc : Nat), k ≤ 12 ∧ i = .int .i64 k ∧ p = .slice pa 3 cp ∧ t = .slice ta nt tc ∧ z.tells.length = nt ∧ z.guards = y.guards ∧ g ≤ f ∧ N ≤ k + g ∧ goW ls f i0 y = goW ls g k z ∧ WayOk k z ∧ Below w.heap.size w wr ∧ FormsAt wr pa z.pots ∧ FormsAt wr ta z.tells) (fun _ _ i _ _ _ => 13 - (intOf i).toNat)
  case atStart => exact ⟨i0, f, y, pa, cp, ta, nt, tc, by omega, rfl, rfl, rfl, HTL.out, rfl, Nat.le_refl _, hfu, rfl, HY.out, Below.refl _ _, hP, hT⟩
  case round =>
    obtain ⟨k, g, z, pa, cp, ta, nt, tc, hk, rfl, rfl, rfl, hzt, hzg, hgf, hkg, heq, hz, hb, hPz, hTz⟩ := hrel
    have HZT : Hid (z.tells.length = nt) := hzt
    have HZG : Hid (z.guards = y.guards) := hzg
    have HEQ : Hid (goW ls f i0 y = goW ls g k z) := heq
    have HZ : Hid (WayOk k z) := hz
    have hGz := hG.keep hb
    have tl12 : nt ≤ 12 := by have := hz.tl; omega
    have gl12 : ng ≤ 12 := by have := HY.out.gl; rw [HGL.out] at this; omega
    have HGF : Hid _ := HY.out.gf
    clear hzt hzg heq hz
    by_cases hlt : k < N
    · obtain ⟨b, off, rfl, hc, hAtL⟩ := (hF.below hb) k (by rw [HN.out]; exact hlt)
      have hok : (ls[k]?.getD noLV).ok = true := by
        have hl : k < ls.length := by rw [HN.out]; exact hlt
        rw [List.getElem?_eq_getElem hl]
        exact List.all_eq_true.1 HO.out _ (List.getElem_mem hl)
      have hkl : Hid (k < ls.length) := by show k < ls.length; rw [HN.out]; exact hlt
      generalize HG : ls[k]?.getD noLV = q at *
      have HG' : Hid (ls[k]?.getD noLV = q) := HG
      clear HG
      obtain ⟨e0, e1, e2, e3, e4, e5⟩ := six_of hc
      clear hc
      obtain ⟨qk, qp, qz, ⟨qa, qn, qcap, qc, qm, qcap', qK, qC, qD⟩⟩ := q
      simp only at e0 e1 e2 e3 e4 e5
      have hok' : lineB qk qp qz qn qm qC qD qK = true := hok
      clear hok
      have B1 : Below w.heap.size w (wr.alloc (.cells #[.int .i64 qk, .int .i64 qp, .int .i64 qz, .slice qa qn qcap, .slice qc qm qcap', .int .i64 qK] 59)) := hb.alloc hb.size _
      have bx := Cel.new wr [.int .i64 qk, .int .i64 qp, .int .i64 qz, .slice qa qn qcap, .slice qc qm qcap', .int .i64 qK] 59
      have A1 : Below wr.heap.size wr (wr.alloc (.cells #[.int .i64 qk, .int .i64 qp, .int .i64 qz, .slice qa qn qcap, .slice qc qm qcap', .int .i64 qK] 59)) := (Below.refl _ _).alloc (Nat.le_refl _) _
      have P1 := hPz.keep A1
      have G1 := hGz.keep A1
      have T1 := hTz.keep A1
      have F1 := hAtL.below A1
      have z1 : w.heap.size ≤ wr.heap.size := hb.size
      clear A1 hPz hGz hTz hAtL
      by_cases hk4 : qk = 4
      · subst hk4
        have hrow : Hid (goW ls g k z = [stopW z]) := goW_stop hkl.out (by have := hkl.out; rw [HN.out] at this; omega) HG'.out (show ¬ (4 : Int) = 1 by decide) (show ¬ (4 : Int) = 2 by decide) (show ¬ (4 : Int) = 3 by decide)
        have FG : Hid (∀ j, j < ng → fitX 10000000 (y.guards[j]?.getD ([], [], 0))) := fun j hj => HY.out.gf j (by rw [HGL.out]; exact hj)
        go_wp2_with fail
        refine (scopy_any _ _ _ y.guards _ HGL.out G1 FG.out (by omega)).mono ?_
        rintro e w3 ⟨G3, cp3, xs3, rfl, j3⟩
        have hb3 := B1.trans (j3.b.mono B1.size)
        have f0 := j3.foff HGL.out
        rw [World.size_alloc] at f0
        have J := JR.one (w := w) (r := stopW y) (gc := cp3) (aa := none) (ac := 0) (ta := none) (tc := 0) hb3 (f0.mono (fun k hk => by omega)) FOff.noForms FOff.noForms
        rw [show (stopW y).guards.length = ng from HGL.out] at J
        clear j3 f0 e0 e1 e2 e3 e4 e5
        go_wp2
        go_ret
        rw [HEQ.out, hrow.out, show stopW z = stopW y by simp only [stopW, HZG.out]]
        exact ⟨_, _, _, rfl, J⟩
      · obtain ⟨hsm, hkk, hz16, hp3⟩ := lineW hok' hk4
        have hk4' : (qk == 4) = false := by simp [hk4]
        obtain ⟨⟨XC, XD, XK⟩, hFX⟩ : ∃ FX, FX = intoX ⟨qa, qn, qcap, qc, qm, qcap', qK, qC, qD⟩ z.pots := ⟨_, rfl⟩
        obtain ⟨fit1, fit2, fit3⟩ := HZ.out.into (by omega) (f := ⟨qa, qn, qcap, qc, qm, qcap', qK, qC, qD⟩) hsm F1.D.1
        rw [← hFX] at fit1 fit2 fit3
        have HFX : Hid (intoX ⟨qa, qn, qcap, qc, qm, qcap', qK, qC, qD⟩ z.pots = (XC, XD, XK)) := hFX.symm
        clear hFX
        have lXC : XC.length = 3 := fit2.c
        have lXD : XD.length = 2 := fit2.d
        have hg0 : 0 < g := by omega
        go_wp2_with fail
        refine (sintoW_any HZ.out (by omega) ⟨qa, qn, qcap, qc, qm, qcap', qK, qC, qD⟩ hsm _ F1 _ _ P1).mono ?_
        rintro e w3 ⟨D1, D2, d1, d2, rfl, b3, y1, y2, y3, u1, u2⟩
        rw [World.size_alloc] at y1 y3
        rw [show (intoX ⟨qa, qn, qcap, qc, qm, qcap', qK, qC, qD⟩ z.pots).1 = XC by rw [HFX.out]] at u1
        rw [show (intoX ⟨qa, qn, qcap, qc, qm, qcap', qK, qC, qD⟩ z.pots).2.1 = XD by rw [HFX.out]] at u2
        rw [show (intoX ⟨qa, qn, qcap, qc, qm, qcap', qK, qC, qD⟩ z.pots).2.2 = XK by rw [HFX.out]]
        have bx3 := bx.below b3
        have B3 := B1.trans (b3.mono B1.size)
        have P3 := P1.keep b3
        have T3 := T1.keep b3
        have G3 := G1.keep b3
        have l1 := u1.lt
        have l2 := u2.lt
        have s3 := b3.size
        rw [World.size_alloc] at s3
        clear b3 P1 T1 G1 bx F1 e0 e1 e2 e3 e4 e5 hok' hsm
        have fb := Cel.new w3 [.slice (some ⟨D1, 0, none⟩) 3 d1, .slice (some ⟨D2, 0, none⟩) 2 d2, .int .i64 XK] 34
        have A4 : Below w3.heap.size w3 (w3.alloc (.cells #[.slice (some ⟨D1, 0, none⟩) 3 d1, .slice (some ⟨D2, 0, none⟩) 2 d2, .int .i64 XK] 34)) := (Below.refl _ _).alloc (Nat.le_refl _) _
        have B4 := B3.trans (A4.mono B3.size)
        have P4 := P3.keep A4
        have T4 := T3.keep A4
        have G4 := G3.keep A4
        have v1 := u1.below A4
        have v2 := u2.below A4
        have bx4 := bx3.below A4
        clear A4 B3 P3 T3 G3 u1 u2 bx3
        obtain ⟨m0, m1, m2, m3, m4, m5⟩ := bx4.six
        rcases hkk with rfl | rfl | rfl
        · obtain ⟨hs1, hs6⟩ := hz16 rfl
          obtain ⟨sk, rfl⟩ : ∃ sk : Nat, qz = sk := ⟨qz.toNat, by omega⟩
          have hgo : Hid (goW ls g k z = goW ls (g - 1) (k + 1) (z.guard (XC, XD, XK)) ++ goW ls (g - 1) (k + 1 + sk) (z.guard (minusX (XC, XD, XK)))) := by
            obtain ⟨g', rfl⟩ : ∃ g', g = g' + 1 := ⟨g - 1, by omega⟩
            show goW ls (g' + 1) k z = _
            rw [goW, if_pos hkl.out, HG'.out]
            simp only [HFX.out]
            rfl
          have HW1 : Hid (WayOk (k + 1) (z.guard (XC, XD, XK))) := HZ.out.guard (by omega) fit2
          have HW2 : Hid (WayOk (k + 1 + sk) (z.guard (minusX (XC, XD, XK)))) := HZ.out.guard (by omega) fit3
          have FP : Hid (∀ j, j < 3 → fitX 10000000 (z.pots[j]?.getD ([], [], 0))) := fun j hj => (HZ.out.pf j hj).mono (by have := wb_six (n := min k 6) (by omega); omega)
          have FG : Hid (∀ j, j < ng → fitX 10000000 (y.guards[j]?.getD ([], [], 0))) := fun j hj => HY.out.gf j (by rw [HGL.out]; exact hj)
          have FT : Hid (∀ j, j < nt → fitX 10000000 (z.tells[j]?.getD ([], [], 0))) := fun j hj => HZ.out.tf j (by rw [HZT.out]; exact hj)
          have HL1 : Hid ((z.guard (XC, XD, XK)).guards.length = ng + 1) := by show (z.guards ++ [_]).length = _; rw [List.length_append, HZG.out, HGL.out]; rfl
          have HL2 : Hid ((z.guard (minusX (XC, XD, XK))).guards.length = ng + 1) := by show (z.guards ++ [_]).length = _; rw [List.length_append, HZG.out, HGL.out]; rfl
          have bXC : bnd 10000000 XC := fit2.bc
          have bXD : bnd 10000000 XD := fit2.bd
          have bX1 : -10000000 ≤ XK := fit2.k1
          have bX2 : XK ≤ 10000000 := fit2.k2
          obtain ⟨R1, hR1⟩ : ∃ R, R = goW ls (g - 1) (k + 1) (z.guard (XC, XD, XK)) := ⟨_, rfl⟩
          obtain ⟨R2, hR2⟩ : ∃ R, R = goW ls (g - 1) (k + 1 + sk) (z.guard (minusX (XC, XD, XK))) := ⟨_, rfl⟩
          have q1 : R1.length ≤ 128 := by rw [hR1]; exact goW_128 (by omega)
          have q2 : R2.length ≤ 128 := by rw [hR2]; exact goW_128 (by omega)
          have q3 : 0 < R2.length := by rw [hR2]; exact goW_ne _ _ _
          have HR1 : Hid _ := hR1
          have HR2 : Hid _ := hR2
          have HGO : Hid (goW ls f i0 y = R1 ++ R2) := by show _ = _; rw [HEQ.out, hgo.out, hR1, hR2]
          have C1 : Hid (∀ (pa' : Option Addr) (cp' : Nat) (ga' : Option Addr) (gc' : Nat) (ta' : Option Addr) (tc' : Nat) (W : World), LinesG W (some ⟨b, off, none⟩) ls → FormsAt W pa' z.pots → FormsAt W ga' (y.guards ++ [(XC, XD, XK)]) → FormsAt W ta' z.tells → Calls Try.prog 87 #[.slice (some ⟨b, off, none⟩) N cap, .int .i64 ((k : Int) + 1), .slice pa' 3 cp', .slice ga' (ng + 1) gc', .slice ta' nt tc'] W fun e w' => ∃ G cp' xs, e = .returned (.slice (some ⟨G, 0, none⟩) R1.length cp') ∧ JR W G cp' xs R1 w') := fun pa' cp' ga' gc' ta' tc' W h1 h2 h3 h4 => by
            have := IH.out (g - 1) (by omega) (k + 1) (z.guard (XC, XD, XK)) pa' cp' ga' (ng + 1) gc' ta' nt tc' W (by omega) (by omega) (by omega) HW1.out HL1.out HZT.out h1 h2 (by show FormsAt W ga' (z.guards ++ [_]); rw [HZG.out]; exact h3) h4
            rw [← hR1, show ((k + 1 : Nat) : Int) = (k : Int) + 1 by omega] at this; exact this
          have C2 : Hid (∀ (pa' : Option Addr) (cp' : Nat) (ga' : Option Addr) (gc' : Nat) (ta' : Option Addr) (tc' : Nat) (W : World), LinesG W (some ⟨b, off, none⟩) ls → FormsAt W pa' z.pots → FormsAt W ga' (y.guards ++ [minusX (XC, XD, XK)]) → FormsAt W ta' z.tells → Calls Try.prog 87 #[.slice (some ⟨b, off, none⟩) N cap, .int .i64 ((k : Int) + 1 + sk), .slice pa' 3 cp', .slice ga' (ng + 1) gc', .slice ta' nt tc'] W fun e w' => ∃ G cp' xs, e = .returned (.slice (some ⟨G, 0, none⟩) R2.length cp') ∧ JR W G cp' xs R2 w') := fun pa' cp' ga' gc' ta' tc' W h1 h2 h3 h4 => by
            have := IH.out (g - 1) (by omega) (k + 1 + sk) (z.guard (minusX (XC, XD, XK))) pa' cp' ga' (ng + 1) gc' ta' nt tc' W (by omega) (by omega) (by omega) HW2.out HL2.out HZT.out h1 h2 (by show FormsAt W ga' (z.guards ++ [_]); rw [HZG.out]; exact h3) h4
            rw [← hR2, show ((k + 1 + sk : Nat) : Int) = (k : Int) + 1 + sk by omega] at this; exact this
          clear hR1 hR2 IH fit1 fit2 fit3
          have hw1 : IntKind.i64.wrap ((k : Int) + 1) = (k : Int) + 1 := wrap_id (by omega) (by omega)
          have hw2 : IntKind.i64.wrap ((k : Int) + 1 + sk) = (k : Int) + 1 + sk := wrap_id (by omega) (by omega)
          go_upto_region 11 with fail
          obtain ⟨W4, hW4⟩ : ∃ W4, W4 = w3.alloc (.cells #[.slice (some ⟨D1, 0, none⟩) 3 d1, .slice (some ⟨D2, 0, none⟩) 2 d2, .int .i64 XK] 34) := ⟨_, rfl⟩
          have z4 : W4.heap.size = w3.heap.size + 1 := by rw [hW4, World.size_alloc]
          rw [← hW4] at fb B4 P4 T4 G4 v1 v2 bx4 m0 m1 m2 m3 m4 m5 ⊢
          clear hW4 m0 m1 m2 m3 m4 m5
          have KP : Hid (∀ W, Below W4.heap.size W4 W → (W.cell? ⟨w3.heap.size, 0, none⟩ = some (.slice (some ⟨D1, 0, none⟩) 3 d1) ∧ W.cell? ⟨w3.heap.size, 1, none⟩ = some (.slice (some ⟨D2, 0, none⟩) 2 d2) ∧ W.cell? ⟨w3.heap.size, 2, none⟩ = some (.int .i64 XK))) := fun W hW => by
            obtain ⟨n0, n1, n2, _, _, _⟩ := (fb.below hW).trio
            exact ⟨n0, n1, n2⟩
          have KQ : Hid (∀ W, Below W4.heap.size W4 W → (W.cell? ⟨wr.heap.size, 2, none⟩ = some (.int .i64 (sk : Int)) ∧ W.cell? ⟨w3.heap.size, 0, none⟩ = some (.slice (some ⟨D1, 0, none⟩) 3 d1) ∧ W.cell? ⟨w3.heap.size, 1, none⟩ = some (.slice (some ⟨D2, 0, none⟩) 2 d2) ∧ W.cell? ⟨w3.heap.size, 2, none⟩ = some (.int .i64 XK))) := fun W hW => by
            obtain ⟨n0, n1, n2, _, _, _⟩ := (fb.below hW).trio
            obtain ⟨_, _, o2, _, _, _⟩ := (bx4.below hW).six
            exact ⟨o2, n0, n1, n2⟩
          have z4a : w3.heap.size + 1 ≤ W4.heap.size := by omega
          clear z4 bx4 fb
          go_cut [14] from 17 to 94 (fun yv wx => ∃ G cp' xs, yv = .slice (some ⟨G, 0, none⟩) R1.length cp' ∧ JR w G cp' xs R1 wx ∧ Below W4.heap.size W4 wx)
          case first =>
            have c0 : Below W4.heap.size W4 W4.drew := (Below.refl _ _).drew
            have hSS : (W4.drew.cell? ⟨w3.heap.size, 0, none⟩ = some (.slice (some ⟨D1, 0, none⟩) 3 d1) ∧ W4.drew.cell? ⟨w3.heap.size, 1, none⟩ = some (.slice (some ⟨D2, 0, none⟩) 2 d2) ∧ W4.drew.cell? ⟨w3.heap.size, 2, none⟩ = some (.int .i64 XK)) ∧ True := ⟨KP.out _ c0, trivial⟩
            refine wp_region_ends (fun w' => w'.cell? ⟨w3.heap.size, 0, none⟩ = some (.slice (some ⟨D1, 0, none⟩) 3 d1) ∧ w'.cell? ⟨w3.heap.size, 1, none⟩ = some (.slice (some ⟨D2, 0, none⟩) 2 d2) ∧ w'.cell? ⟨w3.heap.size, 2, none⟩ = some (.int .i64 XK)) (fun _ => True) 13 (by kernel_rfl) ?_
            refine wpAnyE_take0 (i := 0) (v := ?av0) rfl (by kernel_rfl) (by kernel_rfl) (by kernel_rfl) (by decide) (fun _ _ _ h => h) (Or.inl ⟨by rfl, ?ay0⟩) hSS ?_
            case ay0 => (intro wz hSw; (try dsimp only at hSw); go_simp; try (with_reducible rfl))
            refine wpAnyE_take0 (i := 1) (v := ?av1) rfl (by kernel_rfl) (by kernel_rfl) (by kernel_rfl) (by decide) (fun _ _ _ h => h) (Or.inl ⟨by rfl, ?ay1⟩) hSS ?_
            case ay1 => (intro wz hSw; (try dsimp only at hSw); go_simp; try (with_reducible rfl))
            refine wpAnyE_take0 (i := 2) (v := ?av2) rfl (by kernel_rfl) (by kernel_rfl) (by kernel_rfl) (by decide) (fun _ _ _ h => h) (Or.inl ⟨by rfl, ?ay2⟩) hSS ?_
            case ay2 => (intro wz hSw; (try dsimp only at hSw); go_simp; try (with_reducible rfl))
            refine wpAnyE_take0 (i := 3) (v := ?av3) rfl (by kernel_rfl) (by kernel_rfl) (by kernel_rfl) (by decide) (fun _ _ _ h => h) (Or.inl ⟨by rfl, ?ay3⟩) hSS ?_
            case ay3 => (intro wz hSw; (try dsimp only at hSw); go_simp; try (with_reducible rfl))
            refine wpAnyE_take0 (i := 5) (v := ?av5) rfl (by kernel_rfl) (by kernel_rfl) (by kernel_rfl) (by decide) (fun _ _ _ h => h) (Or.inl ⟨by rfl, ?ay5⟩) hSS ?_
            case ay5 => (intro wz hSw; (try dsimp only at hSw); go_simp; try (with_reducible rfl))
            refine wpAnyE_take0 (i := 7) (v := ?av7) rfl (by kernel_rfl) (by kernel_rfl) (by kernel_rfl) (by decide) (fun _ _ _ h => h) (Or.inl ⟨by rfl, ?ay7⟩) hSS ?_
            case ay7 => (intro wz hSw; (try dsimp only at hSw); go_simp; try (with_reducible rfl))
            refine wpAnyE_take0 (i := 10) (v := ?av10) rfl (by kernel_rfl) (by kernel_rfl) (by kernel_rfl) (by decide) (fun _ _ _ h => h) (Or.inl ⟨by rfl, ?ay10⟩) hSS ?_
            case ay10 => (intro wz hSw; (try dsimp only at hSw); go_simp; try (with_reducible rfl))
            clear hSS
            generalize W4.drew = Wd at *
            have zc := c0.size
            refine wpAnyE_two (i := 4) (j := 8) (by kernel_rfl) rfl rfl (fun K hK => ?_) (fun K hK => ?_)
            · go_simp
              refine (scopy_any _ _ _ z.pots _ HZ.out.pl (P4.keep c0) FP.out (by omega)).mono ?_
              rintro ee x1 ⟨Gp, cpP, xsP, rfl, jP⟩
              have fP := jP.at HZ.out.pl
              have e1 := jP.b
              have c1 := c0.trans (e1.mono c0.size)
              clear jP
              have sz1 := e1.size
              (try dsimp only)
              refine hK.out _ _ ⟨KP.out _ c1, fun _ => trivial⟩ ?_
              clear hK K
              refine wpAnyE_two (i := 6) (j := 8) (by kernel_rfl) rfl rfl (fun K hK => ?_) (fun K hK => ?_)
              · have fPB := fP
                go_simp
                refine (scopy_any _ _ _ y.guards _ HGL.out (G4.keep c1) FG.out (by omega)).mono ?_
                rintro ee x2 ⟨Gg, cpG, xsG, rfl, jG⟩
                have e2 := jG.b
                have lG := jG.lt
                have c2 := c1.trans (e2.mono c1.size)
                have fP := fP.keep e2
                have sz2 := e2.size
                have gB := jG.b.size
                (try dsimp only)
                refine hK.out _ _ ⟨KP.out _ c2, fun _ => trivial⟩ ?_
                clear hK K
                refine wpAnyE_one (i := 8) (by kernel_rfl) rfl (fun K hK => ?_)
                go_simp
                obtain ⟨x3, hx3⟩ : ∃ W, W = x2.alloc (.cells #[Value.slice (some ⟨D1, 0, none⟩) 3 d1, Value.slice (some ⟨D2, 0, none⟩) 2 d2, Value.int .i64 XK] 34) := ⟨_, rfl⟩
                have nb := Cel.new x2 [Value.slice (some ⟨D1, 0, none⟩) 3 d1, Value.slice (some ⟨D2, 0, none⟩) 2 d2, Value.int .i64 XK] 34
                have e3 : Below x2.heap.size x2 x3 := by rw [hx3]; exact (Below.refl _ _).alloc (Nat.le_refl _) _
                rw [← hx3] at nb ⊢
                clear hx3
                have c3 := c2.trans (e3.mono c2.size)
                have fP := fP.keep e3
                have jG := jG.below e3
                have sz3 := e3.size
                (try dsimp only)
                refine hK.out _ _ ⟨KP.out _ c3, fun _ => trivial⟩ ?_
                clear hK K
                refine wpAnyE_one (i := 9) (by kernel_rfl) rfl (fun K hK => ?_)
                rw [if_pos (by rfl)]
                refine wp_append_lies _ (.tmp 53) (.tmp 55) 23 rfl _ 34 zi _ 3 56 Try.underlying23 hi hz0 hz1 hz2 rfl (by omega) (.slice (some ⟨Gg, 0, none⟩) ng cpG) ng xsG (by rfl) jG.o ⟨x2.heap.size, 0, none⟩ 1 1 [Value.slice (some ⟨D1, 0, none⟩) 3 d1, Value.slice (some ⟨D2, 0, none⟩) 2 d2, Value.int .i64 XK] (by rfl) (by rfl) (World.news_of_block (cs := #[Value.slice (some ⟨D1, 0, none⟩) 3 d1, Value.slice (some ⟨D2, 0, none⟩) 2 d2, Value.int .i64 XK]) (t := 34) (fr := (0, 0)) nb) (by simp [Value.oneCell']) (by omega) (by unfold maxLen; omega) (by omega) jG.b.size _ rfl ?_
                intro gg cpg x7 hown hgrow hatg hltg
                obtain ⟨b7, fG⟩ := jG.snoc HGL.out hown hgrow hatg rfl ((v1.below c3).ints' lXC) ((v2.below c3).ints' lXD) (by have := lG.1; omega) (by have := lG.1; omega)
                have c7 := c1.trans (b7.mono c1.size)
                have fP := fPB.keep b7
                clear hown hgrow hatg nb jG
                (try dsimp only)
                refine hK.out _ _ ⟨KP.out _ c7, fun _ => trivial⟩ ?_
                clear hK K
                refine wpAnyE_one (i := 11) (by kernel_rfl) rfl (fun K hK => ?_)
                go_simp
                refine (scopy_any _ _ _ z.tells _ HZT.out (T4.keep c7) FT.out (by omega)).mono ?_
                rintro ee x8 ⟨Gt, cpT, xsT, rfl, jT⟩
                have fT := jT.at HZT.out
                have e8 := jT.b
                have c8 := c7.trans (e8.mono c7.size)
                clear jT
                have fP := fP.keep e8
                have fG := fG.keep e8
                (try dsimp only)
                refine hK.out _ _ ⟨KP.out _ c8, fun _ => trivial⟩ ?_
                clear hK K
                refine wpAnyE_one (i := 12) (by kernel_rfl) rfl (fun K hK => ?_)
                go_simp
                refine (C1.out _ _ _ _ _ _ _ (hF.below (B4.trans (c8.mono B4.size))) fP fG fT).mono ?_
                rintro ee x9 ⟨Gy, cpy, xsy, rfl, jY⟩
                have e9 := jY.b
                have c9 := c8.trans (e9.mono c8.size)
                have jY' := jY.mono (B4.trans (c8.mono B4.size))
                clear jY
                (try dsimp only)
                refine hK.out _ _ ⟨KP.out _ c9, fun _ => trivial⟩ ?_
                clear hK K
                refine wpAnyE_one (i := 13) (by kernel_rfl) rfl (fun K hK => ?_)
                go_simp
                (try dsimp only)
                refine hK.out _ _ ⟨KP.out _ c9, fun _ => trivial⟩ ?_
                clear hK K
                refine wpAnyE_done (by kernel_rfl) ?_ _
                clear fP fG fT fPB
                go_wp2_with fail
                go_meet
                case rel => exact ⟨Gy, cpy, xsy, rfl, jY', c9⟩
              · go_simp
                obtain ⟨x2, hx2⟩ : ∃ W, W = x1.alloc (.cells #[Value.slice (some ⟨D1, 0, none⟩) 3 d1, Value.slice (some ⟨D2, 0, none⟩) 2 d2, Value.int .i64 XK] 34) := ⟨_, rfl⟩
                have nb := Cel.new x1 [Value.slice (some ⟨D1, 0, none⟩) 3 d1, Value.slice (some ⟨D2, 0, none⟩) 2 d2, Value.int .i64 XK] 34
                have e2 : Below x1.heap.size x1 x2 := by rw [hx2]; exact (Below.refl _ _).alloc (Nat.le_refl _) _
                rw [← hx2] at nb ⊢
                clear hx2
                have c2 := c1.trans (e2.mono c1.size)
                have fP := fP.keep e2
                have sz2 := e2.size
                (try dsimp only)
                refine hK.out _ _ ⟨KP.out _ c2, fun _ => trivial⟩ ?_
                clear hK K
                refine wpAnyE_one (i := 6) (by kernel_rfl) rfl (fun K hK => ?_)
                have fPB := fP
                go_simp
                refine (scopy_any _ _ _ y.guards _ HGL.out (G4.keep c2) FG.out (by omega)).mono ?_
                rintro ee x3 ⟨Gg, cpG, xsG, rfl, jG⟩
                have e3 := jG.b
                have lG := jG.lt
                have c3 := c2.trans (e3.mono c2.size)
                have fP := fP.keep e3
                have nb := nb.below e3
                have sz3 := e3.size
                have gB := jG.b.size
                (try dsimp only)
                refine hK.out _ _ ⟨KP.out _ c3, fun _ => trivial⟩ ?_
                clear hK K
                refine wpAnyE_one (i := 9) (by kernel_rfl) rfl (fun K hK => ?_)
                rw [if_pos (by rfl)]
                refine wp_append_lies _ (.tmp 53) (.tmp 55) 23 rfl _ 34 zi _ 3 56 Try.underlying23 hi hz0 hz1 hz2 rfl (by omega) (.slice (some ⟨Gg, 0, none⟩) ng cpG) ng xsG (by rfl) jG.o ⟨x1.heap.size, 0, none⟩ 1 1 [Value.slice (some ⟨D1, 0, none⟩) 3 d1, Value.slice (some ⟨D2, 0, none⟩) 2 d2, Value.int .i64 XK] (by rfl) (by rfl) (World.news_of_block (cs := #[Value.slice (some ⟨D1, 0, none⟩) 3 d1, Value.slice (some ⟨D2, 0, none⟩) 2 d2, Value.int .i64 XK]) (t := 34) (fr := (0, 0)) nb) (by simp [Value.oneCell']) (by omega) (by unfold maxLen; omega) (by omega) jG.b.size _ rfl ?_
                intro gg cpg x7 hown hgrow hatg hltg
                obtain ⟨b7, fG⟩ := jG.snoc HGL.out hown hgrow hatg rfl ((v1.below c3).ints' lXC) ((v2.below c3).ints' lXD) (by have := lG.1; omega) (by have := lG.1; omega)
                have c7 := c2.trans (b7.mono c2.size)
                have fP := fPB.keep b7
                clear hown hgrow hatg nb jG
                (try dsimp only)
                refine hK.out _ _ ⟨KP.out _ c7, fun _ => trivial⟩ ?_
                clear hK K
                refine wpAnyE_one (i := 11) (by kernel_rfl) rfl (fun K hK => ?_)
                go_simp
                refine (scopy_any _ _ _ z.tells _ HZT.out (T4.keep c7) FT.out (by omega)).mono ?_
                rintro ee x8 ⟨Gt, cpT, xsT, rfl, jT⟩
                have fT := jT.at HZT.out
                have e8 := jT.b
                have c8 := c7.trans (e8.mono c7.size)
                clear jT
                have fP := fP.keep e8
                have fG := fG.keep e8
                (try dsimp only)
                refine hK.out _ _ ⟨KP.out _ c8, fun _ => trivial⟩ ?_
                clear hK K
                refine wpAnyE_one (i := 12) (by kernel_rfl) rfl (fun K hK => ?_)
                go_simp
                refine (C1.out _ _ _ _ _ _ _ (hF.below (B4.trans (c8.mono B4.size))) fP fG fT).mono ?_
                rintro ee x9 ⟨Gy, cpy, xsy, rfl, jY⟩
                have e9 := jY.b
                have c9 := c8.trans (e9.mono c8.size)
                have jY' := jY.mono (B4.trans (c8.mono B4.size))
                clear jY
                (try dsimp only)
                refine hK.out _ _ ⟨KP.out _ c9, fun _ => trivial⟩ ?_
                clear hK K
                refine wpAnyE_one (i := 13) (by kernel_rfl) rfl (fun K hK => ?_)
                go_simp
                (try dsimp only)
                refine hK.out _ _ ⟨KP.out _ c9, fun _ => trivial⟩ ?_
                clear hK K
                refine wpAnyE_done (by kernel_rfl) ?_ _
                clear fP fG fT fPB
                go_wp2_with fail
                go_meet
                case rel => exact ⟨Gy, cpy, xsy, rfl, jY', c9⟩
            · go_simp
              obtain ⟨x1, hx1⟩ : ∃ W, W = Wd.alloc (.cells #[Value.slice (some ⟨D1, 0, none⟩) 3 d1, Value.slice (some ⟨D2, 0, none⟩) 2 d2, Value.int .i64 XK] 34) := ⟨_, rfl⟩
              have nb := Cel.new Wd [Value.slice (some ⟨D1, 0, none⟩) 3 d1, Value.slice (some ⟨D2, 0, none⟩) 2 d2, Value.int .i64 XK] 34
              have e1 : Below Wd.heap.size Wd x1 := by rw [hx1]; exact (Below.refl _ _).alloc (Nat.le_refl _) _
              rw [← hx1] at nb ⊢
              clear hx1
              have c1 := c0.trans (e1.mono c0.size)
              have sz1 := e1.size
              (try dsimp only)
              refine hK.out _ _ ⟨KP.out _ c1, fun _ => trivial⟩ ?_
              clear hK K
              refine wpAnyE_one (i := 4) (by kernel_rfl) rfl (fun K hK => ?_)
              go_simp
              refine (scopy_any _ _ _ z.pots _ HZ.out.pl (P4.keep c1) FP.out (by omega)).mono ?_
              rintro ee x2 ⟨Gp, cpP, xsP, rfl, jP⟩
              have fP := jP.at HZ.out.pl
              have e2 := jP.b
              have c2 := c1.trans (e2.mono c1.size)
              clear jP
              have nb := nb.below e2
              have sz2 := e2.size
              (try dsimp only)
              refine hK.out _ _ ⟨KP.out _ c2, fun _ => trivial⟩ ?_
              clear hK K
              refine wpAnyE_one (i := 6) (by kernel_rfl) rfl (fun K hK => ?_)
              have fPB := fP
              go_simp
              refine (scopy_any _ _ _ y.guards _ HGL.out (G4.keep c2) FG.out (by omega)).mono ?_
              rintro ee x3 ⟨Gg, cpG, xsG, rfl, jG⟩
              have e3 := jG.b
              have lG := jG.lt
              have c3 := c2.trans (e3.mono c2.size)
              have fP := fP.keep e3
              have nb := nb.below e3
              have sz3 := e3.size
              have gB := jG.b.size
              (try dsimp only)
              refine hK.out _ _ ⟨KP.out _ c3, fun _ => trivial⟩ ?_
              clear hK K
              refine wpAnyE_one (i := 9) (by kernel_rfl) rfl (fun K hK => ?_)
              rw [if_pos (by rfl)]
              refine wp_append_lies _ (.tmp 53) (.tmp 55) 23 rfl _ 34 zi _ 3 56 Try.underlying23 hi hz0 hz1 hz2 rfl (by omega) (.slice (some ⟨Gg, 0, none⟩) ng cpG) ng xsG (by rfl) jG.o ⟨Wd.heap.size, 0, none⟩ 1 1 [Value.slice (some ⟨D1, 0, none⟩) 3 d1, Value.slice (some ⟨D2, 0, none⟩) 2 d2, Value.int .i64 XK] (by rfl) (by rfl) (World.news_of_block (cs := #[Value.slice (some ⟨D1, 0, none⟩) 3 d1, Value.slice (some ⟨D2, 0, none⟩) 2 d2, Value.int .i64 XK]) (t := 34) (fr := (0, 0)) nb) (by simp [Value.oneCell']) (by omega) (by unfold maxLen; omega) (by omega) jG.b.size _ rfl ?_
              intro gg cpg x7 hown hgrow hatg hltg
              obtain ⟨b7, fG⟩ := jG.snoc HGL.out hown hgrow hatg rfl ((v1.below c3).ints' lXC) ((v2.below c3).ints' lXD) (by have := lG.1; omega) (by have := lG.1; omega)
              have c7 := c2.trans (b7.mono c2.size)
              have fP := fPB.keep b7
              clear hown hgrow hatg nb jG
              (try dsimp only)
              refine hK.out _ _ ⟨KP.out _ c7, fun _ => trivial⟩ ?_
              clear hK K
              refine wpAnyE_one (i := 11) (by kernel_rfl) rfl (fun K hK => ?_)
              go_simp
              refine (scopy_any _ _ _ z.tells _ HZT.out (T4.keep c7) FT.out (by omega)).mono ?_
              rintro ee x8 ⟨Gt, cpT, xsT, rfl, jT⟩
              have fT := jT.at HZT.out
              have e8 := jT.b
              have c8 := c7.trans (e8.mono c7.size)
              clear jT
              have fP := fP.keep e8
              have fG := fG.keep e8
              (try dsimp only)
              refine hK.out _ _ ⟨KP.out _ c8, fun _ => trivial⟩ ?_
              clear hK K
              refine wpAnyE_one (i := 12) (by kernel_rfl) rfl (fun K hK => ?_)
              go_simp
              refine (C1.out _ _ _ _ _ _ _ (hF.below (B4.trans (c8.mono B4.size))) fP fG fT).mono ?_
              rintro ee x9 ⟨Gy, cpy, xsy, rfl, jY⟩
              have e9 := jY.b
              have c9 := c8.trans (e9.mono c8.size)
              have jY' := jY.mono (B4.trans (c8.mono B4.size))
              clear jY
              (try dsimp only)
              refine hK.out _ _ ⟨KP.out _ c9, fun _ => trivial⟩ ?_
              clear hK K
              refine wpAnyE_one (i := 13) (by kernel_rfl) rfl (fun K hK => ?_)
              go_simp
              (try dsimp only)
              refine hK.out _ _ ⟨KP.out _ c9, fun _ => trivial⟩ ?_
              clear hK K
              refine wpAnyE_done (by kernel_rfl) ?_ _
              clear fP fG fT fPB
              go_wp2_with fail
              go_meet
              case rel => exact ⟨Gy, cpy, xsy, rfl, jY', c9⟩
          case rest =>
            obtain ⟨Gy, cpy, xsy, rfl, jY, cc⟩ := hcut
            go_upto_region 12 with fail
            have c0 : Below W4.heap.size W4 wc.drew := cc.drew
            have hSS : (wc.drew.cell? ⟨wr.heap.size, 2, none⟩ = some (.int .i64 (sk : Int)) ∧ wc.drew.cell? ⟨w3.heap.size, 0, none⟩ = some (.slice (some ⟨D1, 0, none⟩) 3 d1) ∧ wc.drew.cell? ⟨w3.heap.size, 1, none⟩ = some (.slice (some ⟨D2, 0, none⟩) 2 d2) ∧ wc.drew.cell? ⟨w3.heap.size, 2, none⟩ = some (.int .i64 XK)) ∧ True := ⟨KQ.out _ c0, trivial⟩
            refine wp_region_ends (fun w' => w'.cell? ⟨wr.heap.size, 2, none⟩ = some (.int .i64 (sk : Int)) ∧ w'.cell? ⟨w3.heap.size, 0, none⟩ = some (.slice (some ⟨D1, 0, none⟩) 3 d1) ∧ w'.cell? ⟨w3.heap.size, 1, none⟩ = some (.slice (some ⟨D2, 0, none⟩) 2 d2) ∧ w'.cell? ⟨w3.heap.size, 2, none⟩ = some (.int .i64 XK)) (fun _ => True) 17 (by kernel_rfl) ?_
            refine wpAnyE_take0 (i := 0) (v := ?bv0) rfl (by kernel_rfl) (by kernel_rfl) (by kernel_rfl) (by decide) (fun _ _ _ h => h) (Or.inl ⟨by rfl, ?by0⟩) hSS ?_
            case by0 => (intro wz hSw; (try dsimp only at hSw); go_simp; try (with_reducible rfl))
            refine wpAnyE_take0 (i := 1) (v := ?bv1) rfl (by kernel_rfl) (by kernel_rfl) (by kernel_rfl) (by decide) (fun _ _ _ h => h) (Or.inl ⟨by rfl, ?by1⟩) hSS ?_
            case by1 => (intro wz hSw; (try dsimp only at hSw); go_simp; try (with_reducible rfl))
            refine wpAnyE_take0 (i := 2) (v := ?bv2) rfl (by kernel_rfl) (by kernel_rfl) (by kernel_rfl) (by decide) (fun _ _ _ h => h) (Or.inl ⟨by rfl, ?by2⟩) hSS ?_
            case by2 => (intro wz hSw; (try dsimp only at hSw); go_simp; try (with_reducible rfl))
            refine wpAnyE_take0 (i := 3) (v := ?bv3) rfl (by kernel_rfl) (by kernel_rfl) (by kernel_rfl) (by decide) (fun _ _ _ h => h) (Or.inl ⟨by rfl, ?by3⟩) hSS ?_
            case by3 => (intro wz hSw; (try dsimp only at hSw); go_simp; try (with_reducible rfl))
            refine wpAnyE_take0 (i := 4) (v := ?bv4) rfl (by kernel_rfl) (by kernel_rfl) (by kernel_rfl) (by decide) (fun _ _ _ h => h) (Or.inl ⟨by rfl, ?by4⟩) hSS ?_
            case by4 => (intro wz hSw; (try dsimp only at hSw); go_simp; try (with_reducible rfl))
            refine wpAnyE_take0 (i := 5) (v := ?bv5) rfl (by kernel_rfl) (by kernel_rfl) (by kernel_rfl) (by decide) (fun _ _ _ h => h) (Or.inl ⟨by rfl, ?by5⟩) hSS ?_
            case by5 => (intro wz hSw; (try dsimp only at hSw); go_simp; try (with_reducible rfl))
            refine wpAnyE_take0 (i := 6) (v := ?bv6) rfl (by kernel_rfl) (by kernel_rfl) (by kernel_rfl) (by decide) (fun _ _ _ h => h) (Or.inl ⟨by rfl, ?by6⟩) hSS ?_
            case by6 => (intro wz hSw; (try dsimp only at hSw); go_simp; try (with_reducible rfl))
            refine wpAnyE_take0 (i := 8) (v := ?bv8) rfl (by kernel_rfl) (by kernel_rfl) (by kernel_rfl) (by decide) (fun _ _ _ h => h) (Or.inl ⟨by rfl, ?by8⟩) hSS ?_
            case by8 => (intro wz hSw; (try dsimp only at hSw); go_simp; try (with_reducible rfl))
            refine wpAnyE_take0 (i := 10) (v := ?bv10) rfl (by kernel_rfl) (by kernel_rfl) (by kernel_rfl) (by decide) (fun _ _ _ h => h) (Or.inl ⟨by rfl, ?by10⟩) hSS ?_
            case by10 => (intro wz hSw; (try dsimp only at hSw); go_simp; try (with_reducible rfl))
            refine wpAnyE_take0 (i := 14) (v := ?bv14) rfl (by kernel_rfl) (by kernel_rfl) (by kernel_rfl) (by decide) (fun _ _ _ h => h) (Or.inl ⟨by rfl, ?by14⟩) hSS ?_
            case by14 => (intro wz hSw; (try dsimp only at hSw); go_simp; try (with_reducible rfl))
            clear hSS
            have jY := jY.below (Below.refl _ _).drew
            generalize wc.drew = Wd at *
            have lY := jY.lt
            refine wpAnyE_one (i := 7) (by kernel_rfl) rfl (fun K hK => ?_)
            go_simp
            refine (scopy_any _ _ _ z.pots _ HZ.out.pl (P4.keep c0) FP.out (by omega)).mono ?_
            rintro ee x1 ⟨Gp, cpP, xsP, rfl, jP⟩
            have fP := jP.at HZ.out.pl
            have e1 := jP.b
            have c1 := c0.trans (e1.mono c0.size)
            clear jP
            have jY := jY.below e1
            have sz1 := e1.size
            (try dsimp only)
            refine hK.out _ _ ⟨KQ.out _ c1, fun _ => trivial⟩ ?_
            clear hK K
            refine wpAnyE_one (i := 9) (by kernel_rfl) rfl (fun K hK => ?_)
            have fPB := fP
            have jYB := jY
            go_simp
            refine (scopy_any _ _ _ y.guards _ HGL.out (G4.keep c1) FG.out (by omega)).mono ?_
            rintro ee x2 ⟨Gg, cpG, xsG, rfl, jG⟩
            have e2 := jG.b
            have lG := jG.lt
            have c2 := c1.trans (e2.mono c1.size)
            have jY := jY.below e2
            have sz2 := e2.size
            have gB := jG.b.size
            (try dsimp only)
            refine hK.out _ _ ⟨KQ.out _ c2, fun _ => trivial⟩ ?_
            clear hK K
            refine wpAnyE_one (i := 11) (by kernel_rfl) rfl (fun K hK => ?_)
            go_simp
            refine (sminus_any _ _ _ _ _ XC XD _ ((v1.below c2).ints' lXC) ((v2.below c2).ints' lXD) bXC bXD bX1 bX2).mono ?_
            rintro ee x3 ⟨M1, M2, rfl, e3, y1', y2', y3', n1, n2⟩
            have c3 := c2.trans (e3.mono c2.size)
            have jG := jG.below e3
            have jY := jY.below e3
            have sz3 := e3.size
            have ln1 := n1.lt
            have ln2 := n2.lt
            (try dsimp only)
            refine hK.out _ _ ⟨KQ.out _ c3, fun _ => trivial⟩ ?_
            clear hK K
            refine wpAnyE_one (i := 12) (by kernel_rfl) rfl (fun K hK => ?_)
            go_simp
            obtain ⟨x4, hx4⟩ : ∃ W, W = x3.alloc (.cells #[Value.slice (some ⟨M1, 0, none⟩) 3 3, Value.slice (some ⟨M2, 0, none⟩) 2 2, Value.int .i64 (-XK - 1)] 34) := ⟨_, rfl⟩
            have nb := Cel.new x3 [Value.slice (some ⟨M1, 0, none⟩) 3 3, Value.slice (some ⟨M2, 0, none⟩) 2 2, Value.int .i64 (-XK - 1)] 34
            have e4 : Below x3.heap.size x3 x4 := by rw [hx4]; exact (Below.refl _ _).alloc (Nat.le_refl _) _
            rw [← hx4] at nb ⊢
            clear hx4
            have c4 := c3.trans (e4.mono c3.size)
            have jG := jG.below e4
            have jY := jY.below e4
            have n1 := n1.below e4
            have n2 := n2.below e4
            have sz4 := e4.size
            (try dsimp only)
            refine hK.out _ _ ⟨KQ.out _ c4, fun _ => trivial⟩ ?_
            clear hK K
            refine wpAnyE_one (i := 13) (by kernel_rfl) rfl (fun K hK => ?_)
            rw [if_pos (by rfl)]
            refine wp_append_lies _ (.tmp 69) (.tmp 72) 23 rfl _ 34 zi _ 3 56 Try.underlying23 hi hz0 hz1 hz2 rfl (by omega) (.slice (some ⟨Gg, 0, none⟩) ng cpG) ng xsG (by rfl) jG.o ⟨x3.heap.size, 0, none⟩ 1 1 [Value.slice (some ⟨M1, 0, none⟩) 3 3, Value.slice (some ⟨M2, 0, none⟩) 2 2, Value.int .i64 (-XK - 1)] (by rfl) (by rfl) (World.news_of_block (cs := #[Value.slice (some ⟨M1, 0, none⟩) 3 3, Value.slice (some ⟨M2, 0, none⟩) 2 2, Value.int .i64 (-XK - 1)]) (t := 34) (fr := (0, 0)) nb) (by simp [Value.oneCell']) (by omega) (by unfold maxLen; omega) (by omega) jG.b.size _ rfl ?_
            intro gg cpg x7 hown hgrow hatg hltg
            obtain ⟨b7, fG'⟩ := jG.snoc HGL.out hown hgrow hatg rfl (n1.ints' (by simp [mulL, lXC])) (n2.ints' (by simp [mulL, lXD])) (by have := lG.2; omega) (by have := lG.2; omega)
            have fG : FormsAt x7 (some ⟨gg, 0, none⟩) (y.guards ++ [minusX (XC, XD, XK)]) := by
              have hm : minusX (XC, XD, XK) = (mulL (-1) XC, mulL (-1) XD, -XK - 1) := by simp only [minusX]; rw [show -1 * XK - 1 = -XK - 1 by omega]
              rw [hm]; exact fG'
            have c7 := c1.trans (b7.mono c1.size)
            have fP := fPB.keep b7
            have jY := jYB.below b7
            have sz7 := b7.size
            clear hown hgrow hatg nb jG fG'
            (try dsimp only)
            refine hK.out _ _ ⟨KQ.out _ c7, fun _ => trivial⟩ ?_
            clear hK K
            refine wpAnyE_one (i := 15) (by kernel_rfl) rfl (fun K hK => ?_)
            go_simp
            refine (scopy_any _ _ _ z.tells _ HZT.out (T4.keep c7) FT.out (by omega)).mono ?_
            rintro ee x8 ⟨Gt, cpT, xsT, rfl, jT⟩
            have fT := jT.at HZT.out
            have e8 := jT.b
            have c8 := c7.trans (e8.mono c7.size)
            clear jT
            have fP := fP.keep e8
            have fG := fG.keep e8
            have jY := jY.below e8
            have sz8 := e8.size
            (try dsimp only)
            refine hK.out _ _ ⟨KQ.out _ c8, fun _ => trivial⟩ ?_
            clear hK K
            refine wpAnyE_one (i := 16) (by kernel_rfl) rfl (fun K hK => ?_)
            go_simp
            refine (C2.out _ _ _ _ _ _ _ (hF.below (B4.trans (c8.mono B4.size))) fP fG fT).mono ?_
            rintro ee x9 ⟨Gn, cpn, xsn, rfl, jN⟩
            have e9 := jN.b
            have c9 := c8.trans (e9.mono c8.size)
            have jY := jY.below e9
            (try dsimp only)
            refine hK.out _ _ ⟨KQ.out _ c9, fun _ => trivial⟩ ?_
            clear hK K
            refine wpAnyE_one (i := 17) (by kernel_rfl) rfl (fun K hK => ?_)
            go_simp
            (try dsimp only)
            refine hK.out _ _ ⟨KQ.out _ c9, fun _ => trivial⟩ ?_
            clear hK K
            refine wpAnyE_done (by kernel_rfl) ?_ _
            clear fP fG fT fPB P4 T4 G4 KP KQ C1 C2
            obtain ⟨zr, hir, hr0, hr1, hr2⟩ := info_parts Try.infoRow
            have sY := jY.o.1
            have sN := jN.o.1
            have hB9 := (B4.trans (c9.mono B4.size)).size
            have lYx : Gy < x8.heap.size := by omega
            obtain ⟨HNW⟩ : Nonempty (∀ j u, xsn[j]? = some u → x9.cell? ((⟨Gn, 0, none⟩ : Addr).add j) = some u) := ⟨jN.news⟩
            have HNW' : Hid _ := HNW
            clear HNW
            have HON : Hid (∀ u ∈ xsn, u.oneCell' = true) := jN.ones
            go_wp2_with (at_builtin; go_must (refine wpList_append_lies _ rfl (.tmp 77) (.tmp 78) 54 rfl w.heap.size 25 zr _ 4 80 Try.underlying54 hir hr0 hr1 hr2 rfl (by decide) (.slice (some ⟨Gy, 0, none⟩) R1.length cpy) R1.length xsy rfl jY.o ⟨Gn, 0, none⟩ R2.length cpn xsn rfl sN HNW'.out HON.out q3 (by unfold maxLen; omega) (by omega) hB9 _ rfl ?_); intro gj cpj x10 hown hgrow hatj hltj)
            have JJ := jY.join jN (by omega) lYx rfl rfl hown hgrow hatj rfl
            clear jY jN hown hgrow
            go_wp2
            go_ret
            rw [HGO.out, List.length_append]
            exact ⟨_, _, _, rfl, JJ⟩
        · obtain ⟨hp0, hp1⟩ := hp3 rfl
          obtain ⟨p, rfl⟩ : ∃ p : Nat, qp = p := ⟨qp.toNat, by omega⟩
          have hp : p < 3 := by omega
          have hgo : Hid (goW ls g k z = goW ls (g - 1) (k + 1) (z.add p (XC, XD, XK))) := by
            obtain ⟨g', rfl⟩ : ∃ g', g = g' + 1 := ⟨g - 1, by omega⟩
            show goW ls (g' + 1) k z = _
            rw [goW, if_pos hkl.out, HG'.out]
            simp only [HFX.out]
            rfl
          have HW2 : Hid (WayOk (k + 1) (z.add p (XC, XD, XK))) := HZ.out.add (by omega) hp fit1
          have FP : Hid (∀ j, j < 3 → fitX 10000000 (z.pots[j]?.getD ([], [], 0))) := fun j hj => (HZ.out.pf j hj).mono (by have := wb_six (n := min k 6) (by omega); omega)
          go_wp2_with fail
          refine (scopy_any _ _ _ z.pots _ HZ.out.pl P4 FP.out (by omega)).mono ?_
          rintro e w5 ⟨G5, cp5, xs5, rfl, j5⟩
          have lG5 := j5.lt
          have T4x := T4
          rw [World.size_alloc] at lG5
          have fb5 := fb.below j5.b
          have bx5 := bx4.below j5.b
          have T5 := T4.keep j5.b
          have B5 := B4.trans (j5.b.mono B4.size)
          have v15 := v1.below j5.b
          have v25 := v2.below j5.b
          obtain ⟨b0, off0, eb, pa', pc', pca, pcc, c0, c1, c2, iC, iD⟩ := j5.at HZ.out.pl p (by rw [HZ.out.pl]; exact hp)
          simp only [Option.some.injEq, Addr.mk.injEq, and_true] at eb
          obtain ⟨rfl, rfl⟩ := eb
          rw [Nat.zero_add] at c0 c1 c2
          have hfp := FP.out p hp
          have HPP : Hid (plusX (z.pots[p]?.getD ([], [], 0)) (XC, XD, XK) = plusX (z.pots[p]?.getD noX) (XC, XD, XK)) := rfl
          generalize HGP : z.pots[p]?.getD ([], [], 0) = PX at *
          have HGP' : Hid _ := HGP
          clear HGP
          obtain ⟨PC, PD, PK⟩ := PX
          have lPC : PC.length = 3 := hfp.c
          have lPD : PD.length = 2 := hfp.d
          have bPC : bnd 10000000 PC := hfp.bc
          have bPD : bnd 10000000 PD := hfp.bd
          have bK1 : -10000000 ≤ PK := hfp.k1
          have bK2 : PK ≤ 10000000 := hfp.k2
          have bXC : bnd 10000000 XC := fit2.bc
          have bXD : bnd 10000000 XD := fit2.bd
          have bX1 : -10000000 ≤ XK := fit2.k1
          have bX2 : XK ≤ 10000000 := fit2.k2
          have hc0 : w5.cell? ⟨G5, p * 3, none⟩ = some (.slice pa' 3 pca) := c0
          have hc1 : w5.cell? ⟨G5, p * 3 + 1, none⟩ = some (.slice pc' 2 pcc) := c1
          have hc2 : w5.cell? ⟨G5, p * 3 + 2, none⟩ = some (.int .i64 PK) := c2
          clear c0 c1 c2 P4 T4 G4 B4 bx4 fb v1 v2 m0 m1 m2 m3 m4 m5
          obtain ⟨m0, m1, m2, m3, m4, m5⟩ := bx5.six
          obtain ⟨f0, f1, f2, f3, f4, f5⟩ := fb5.trio
          have hpI : (p : Int) < 3 := by omega
          go_upto_region 16 with fail
          have hSS : (w5.drew.cell? ⟨wr.heap.size, 1, none⟩ = some (.int .i64 (p : Int)) ∧ w5.drew.cell? ⟨w3.heap.size, 0, none⟩ = some (.slice (some ⟨D1, 0, none⟩) 3 d1) ∧ w5.drew.cell? ⟨w3.heap.size, 1, none⟩ = some (.slice (some ⟨D2, 0, none⟩) 2 d2) ∧ w5.drew.cell? ⟨w3.heap.size, 2, none⟩ = some (.int .i64 XK)) ∧ (w5.drew.cell? ⟨G5, p * 3, none⟩ = some (.slice pa' 3 pca) ∧ w5.drew.cell? ⟨G5, p * 3 + 1, none⟩ = some (.slice pc' 2 pcc) ∧ w5.drew.cell? ⟨G5, p * 3 + 2, none⟩ = some (.int .i64 PK)) := ⟨⟨m1, f0, f1, f2⟩, hc0, hc1, hc2⟩
          refine wp_region_ends (fun w' => w'.cell? ⟨wr.heap.size, 1, none⟩ = some (.int .i64 (p : Int)) ∧ w'.cell? ⟨w3.heap.size, 0, none⟩ = some (.slice (some ⟨D1, 0, none⟩) 3 d1) ∧ w'.cell? ⟨w3.heap.size, 1, none⟩ = some (.slice (some ⟨D2, 0, none⟩) 2 d2) ∧ w'.cell? ⟨w3.heap.size, 2, none⟩ = some (.int .i64 XK)) (fun w' => w'.cell? ⟨G5, p * 3, none⟩ = some (.slice pa' 3 pca) ∧ w'.cell? ⟨G5, p * 3 + 1, none⟩ = some (.slice pc' 2 pcc) ∧ w'.cell? ⟨G5, p * 3 + 2, none⟩ = some (.int .i64 PK)) 10 (by kernel_rfl) ?_
          refine wpAnyE_take0 (i := 0) (v := ?cv0) rfl (by kernel_rfl) (by kernel_rfl) (by kernel_rfl) (by decide) (fun _ _ _ h => h) (Or.inl ⟨by rfl, ?chy0⟩) hSS ?_
          case chy0 => (intro wz hSw; (try dsimp only at hSw); go_simp; try (with_reducible rfl))
          refine wpAnyE_take0 (i := 1) (v := ?cv1) rfl (by kernel_rfl) (by kernel_rfl) (by kernel_rfl) (by decide) (fun _ _ _ h => h) (Or.inl ⟨by rfl, ?chy1⟩) hSS ?_
          case chy1 => (intro wz hSw; (try dsimp only at hSw); go_simp; try (with_reducible rfl))
          refine wpAnyE_take0 (i := 2) (v := ?cv2) rfl (by kernel_rfl) (by kernel_rfl) (by kernel_rfl) (by decide) (fun _ _ _ h => h) (Or.inl ⟨by rfl, ?chy2⟩) hSS ?_
          case chy2 => (intro wz hSw; (try dsimp only at hSw); go_simp; try (with_reducible rfl))
          refine wpAnyE_take0 (i := 3) (v := ?cv3) rfl (by kernel_rfl) (by kernel_rfl) (by kernel_rfl) (by decide) (fun _ _ _ h => h) (Or.inl ⟨by rfl, ?chy3⟩) hSS ?_
          case chy3 => (intro wz hSw; (try dsimp only at hSw); go_simp; try (with_reducible rfl))
          refine wpAnyE_take0 (i := 4) (v := ?cv4) rfl (by kernel_rfl) (by kernel_rfl) (by kernel_rfl) (by decide) (fun _ _ _ h => h) (Or.inl ⟨by rfl, ?chy4⟩) hSS ?_
          case chy4 => (intro wz hSw; (try dsimp only at hSw); go_simp; try (with_reducible rfl))
          refine wpAnyE_take0 (i := 5) (v := ?cv5) rfl (by kernel_rfl) (by kernel_rfl) (by kernel_rfl) (by decide) (fun _ _ _ h => h) (Or.inl ⟨by rfl, ?chy5⟩) hSS ?_
          case chy5 => (intro wz hSw; (try dsimp only at hSw); go_simp; try (with_reducible rfl))
          refine wpAnyE_take0 (i := 6) (v := ?cv6) rfl (by kernel_rfl) (by kernel_rfl) (by kernel_rfl) (by decide) (fun _ _ _ h => h) (Or.inl ⟨by rfl, ?chy6⟩) hSS ?_
          case chy6 => (intro wz hSw; (try dsimp only at hSw); go_simp; try (with_reducible rfl))
          refine wpAnyE_take1 (i := 7) (v := ?cv7) rfl rfl (by kernel_rfl) (by kernel_rfl) (by kernel_rfl) (by decide) (by rfl) (by simp [Region.binds]) (fun _ _ _ h => h) (Or.inl ⟨by rfl, ?chy7⟩) hSS ?_
          case chy7 => (intro wz hSw; (try dsimp only at hSw); go_simp; try (with_reducible rfl))
          refine wpAnyE_take0 (i := 8) (v := ?cv8) rfl (by kernel_rfl) (by kernel_rfl) (by kernel_rfl) (by decide) (fun _ _ _ h => h) (Or.inl ⟨by rfl, ?chy8⟩) hSS ?_
          case chy8 => (intro wz hSw; (try dsimp only at hSw); go_simp; try (with_reducible rfl))
          refine wpAnyE_one (i := 9) (by kernel_rfl) rfl (fun K hK => ?_)
          go_simp
          refine (l1sum_any _ _ _ _ _ PC PD _ _ _ _ _ XC XD _ _ (iC.below (Below.refl _ _).drew) (iD.below (Below.refl _ _).drew) ((v15.below (Below.refl _ _).drew).ints' lXC) ((v25.below (Below.refl _ _).drew).ints' lXD) (fun i => by have := bPC i; omega) (fun i => by have := bPD i; omega) (by omega) (fun i => by have := bXC i; omega) (fun i => by have := bXD i; omega) (by omega)).mono ?_
          rintro ee w6 ⟨E1, E2, rfl, bd6, y1', y2', y3', u1, u2⟩
          rw [show PK + 1 * XK = PK + XK by omega]
          have b6 := below_of_drew bd6
          have j6 := j5.below b6
          have s6 := b6.size
          have lu1 := u1.lt
          have lu2 := u2.lt
          have bx6 := bx5.below b6
          have fb6 := fb5.below b6
          obtain ⟨n0, n1, n2, n3, n4, n5⟩ := bx6.six
          obtain ⟨x0, x1, x2, x3, x4, x5⟩ := fb6.trio
          have hS6 : (w6.cell? ⟨wr.heap.size, 1, none⟩ = some (.int .i64 (p : Int)) ∧ w6.cell? ⟨w3.heap.size, 0, none⟩ = some (.slice (some ⟨D1, 0, none⟩) 3 d1) ∧ w6.cell? ⟨w3.heap.size, 1, none⟩ = some (.slice (some ⟨D2, 0, none⟩) 2 d2) ∧ w6.cell? ⟨w3.heap.size, 2, none⟩ = some (.int .i64 XK)) ∧ (w6.cell? ⟨G5, p * 3, none⟩ = some (.slice pa' 3 pca) ∧ w6.cell? ⟨G5, p * 3 + 1, none⟩ = some (.slice pc' 2 pcc) ∧ w6.cell? ⟨G5, p * 3 + 2, none⟩ = some (.int .i64 PK)) :=
            ⟨⟨n1, x0, x1, x2⟩, (b6.cell (p := ⟨G5, p * 3, none⟩) lG5.2).trans hc0, (b6.cell (p := ⟨G5, p * 3 + 1, none⟩) lG5.2).trans hc1, (b6.cell (p := ⟨G5, p * 3 + 2, none⟩) lG5.2).trans hc2⟩
          dsimp only
          refine hK.out _ _ ⟨hS6.1, fun _ => hS6.2⟩ ?_
          clear hK K hSS
          refine wpAnyE_one (i := 10) (by kernel_rfl) rfl (fun K hK => ?_)
          go_simp
          refine hK.out _ _ ⟨hS6.1, fun h => absurd (show true = false from h) (by decide)⟩ ?_
          clear hK K
          have y1x : w5.heap.size ≤ E1 := y1'
          have y3x : w5.heap.size ≤ E2 := y3'
          have FPN := j6.put HZ.out.pl hp (ca := 3) (cc := 2) (K := PK + XK) u1 (lin_len lPC lXC) u2 (lin_len lPD lXD) (by omega) (by omega)
          have f60 := j6.frz (p * 3) 
          have f61 := j6.frz (p * 3 + 1)
          have f62 := j6.frz (p * 3 + 2)
          obtain ⟨h0', h1', h2'⟩ := hS6.2
          have TT : Touch (fun q => q = G5) w6 (((w6.setCell ⟨G5, p * 3, none⟩ (.slice (some ⟨E1, 0, none⟩) 3 3)).setCell ⟨G5, p * 3 + 1, none⟩ (.slice (some ⟨E2, 0, none⟩) 2 2)).setCell ⟨G5, p * 3 + 2, none⟩ (.int .i64 (PK + XK))) := (((Touch.refl (fun q => q = G5) w6).setCell rfl _).setCell rfl _).setCell rfl _
          have bx7 := bx6.touch TT (fun h => by have := h; omega)
          have fb7 := fb6.touch TT (fun h => by have := h; omega)
          have B7 := (B5.trans (b6.mono B5.size)).trans (TT.below (by have := B5.size; omega) (fun q hq => by omega))
          have T7 := T4x.keep ((j5.b.trans (b6.mono j5.b.size)).trans (TT.below (by rw [World.size_alloc]; omega) (fun q hq => by rw [World.size_alloc]; omega)))
          obtain ⟨n0, n1, n2, n3, n4, n5⟩ := bx7.six
          obtain ⟨x0, x1, x2, x3, x4, x5⟩ := fb7.trio
          refine wpAnyE_one (i := 11) (by kernel_rfl) rfl (fun K hK => ?_)
          go_simp
          refine hK.out _ _ ⟨⟨n1, x0, x1, x2⟩, fun h => absurd (show true = false from h) (by decide)⟩ ?_
          clear hK K
          refine wpAnyE_done (by kernel_rfl) ?_ _
          have eAdd : (z.add p (XC, XD, XK)).pots = z.pots.set p (lin PC XC 1, lin PD XD 1, PK + XK) := by
            show z.pots.set p (plusX (z.pots[p]?.getD noX) (XC, XD, XK)) = _
            rw [show z.pots[p]?.getD noX = (PC, PD, PK) from HGP'.out]; show z.pots.set p (lin PC XC 1, lin PD XD 1, PK + 1 * XK) = _; rw [show PK + 1 * XK = PK + XK by omega]
          rw [← eAdd] at FPN
          have FPN' := FPN
          clear eAdd
          clear hS6 h0' h1' h2' f60 f61 f62 TT bx7 fb7 bx6 fb6 j6 j5 B5 b6 T4x FPN
          go_wp2
          go_roundw
          case rel => exact ⟨k + 1, g - 1, z.add p (XC, XD, XK), some ⟨G5, 0, none⟩, cp5, ta, nt, tc, by omega, by go_num, rfl, rfl, HZT.out, HZG.out, by omega, by omega, HEQ.out.trans hgo.out, HW2.out, B7, FPN', T7⟩
          case measure => simp [intOf]; omega
        · have hgo : Hid (goW ls g k z = goW ls (g - 1) (k + 1) (z.tell (XC, XD, XK))) := by
            obtain ⟨g', rfl⟩ : ∃ g', g = g' + 1 := ⟨g - 1, by omega⟩
            show goW ls (g' + 1) k z = _
            rw [goW, if_pos hkl.out, HG'.out]
            simp only [HFX.out]
            rfl
          have FT : Hid (∀ j, j < nt → fitX 10000000 (z.tells[j]?.getD ([], [], 0))) := fun j hj => HZ.out.tf j (by rw [HZT.out]; exact hj)
          have HW2 : Hid (WayOk (k + 1) (z.tell (XC, XD, XK))) := HZ.out.tell (by omega) fit2
          go_upto_region 9 with fail
          obtain ⟨W4, hW4⟩ : ∃ W4, W4 = w3.alloc (.cells #[.slice (some ⟨D1, 0, none⟩) 3 d1, .slice (some ⟨D2, 0, none⟩) 2 d2, .int .i64 XK] 34) := ⟨_, rfl⟩
          have z4 : W4.heap.size = w3.heap.size + 1 := by rw [hW4, World.size_alloc]
          rw [← hW4] at fb B4 P4 T4 G4 v1 v2 bx4 m0 m1 m2 m3 m4 m5 ⊢
          clear hW4
          obtain ⟨n0, n1, n2, n3, n4, n5⟩ := fb.trio
          have hSS : (W4.drew.cell? ⟨w3.heap.size, 0, none⟩ = some (.slice (some ⟨D1, 0, none⟩) 3 d1) ∧ W4.drew.cell? ⟨w3.heap.size, 1, none⟩ = some (.slice (some ⟨D2, 0, none⟩) 2 d2) ∧ W4.drew.cell? ⟨w3.heap.size, 2, none⟩ = some (.int .i64 XK)) ∧ True := ⟨⟨n0, n1, n2⟩, trivial⟩
          have KP : Hid (∀ W, Below W4.heap.size W4 W → (W.cell? ⟨w3.heap.size, 0, none⟩ = some (.slice (some ⟨D1, 0, none⟩) 3 d1) ∧ W.cell? ⟨w3.heap.size, 1, none⟩ = some (.slice (some ⟨D2, 0, none⟩) 2 d2) ∧ W.cell? ⟨w3.heap.size, 2, none⟩ = some (.int .i64 XK))) := fun W hW => by
            obtain ⟨n0, n1, n2, _, _, _⟩ := (fb.below hW).trio
            exact ⟨n0, n1, n2⟩
          refine wp_region_ends (fun w' => w'.cell? ⟨w3.heap.size, 0, none⟩ = some (.slice (some ⟨D1, 0, none⟩) 3 d1) ∧ w'.cell? ⟨w3.heap.size, 1, none⟩ = some (.slice (some ⟨D2, 0, none⟩) 2 d2) ∧ w'.cell? ⟨w3.heap.size, 2, none⟩ = some (.int .i64 XK)) (fun _ => True) 5 (by kernel_rfl) ?_
          refine wpAnyE_take0 (i := 0) (v := ?v0) rfl (by kernel_rfl) (by kernel_rfl) (by kernel_rfl) (by decide) (fun _ _ _ h => h) (Or.inl ⟨by rfl, ?hy0⟩) hSS ?_
          case hy0 => (intro wz hSw; (try dsimp only at hSw); go_simp; try (with_reducible rfl))
          refine wpAnyE_take0 (i := 2) (v := ?v2) rfl (by kernel_rfl) (by kernel_rfl) (by kernel_rfl) (by decide) (fun _ _ _ h => h) (Or.inl ⟨by rfl, ?hy2⟩) hSS ?_
          case hy2 => (intro wz hSw; (try dsimp only at hSw); go_simp; try (with_reducible rfl))
          refine wpAnyE_two (i := 1) (j := 3) (by kernel_rfl) rfl rfl (fun K hK => ?_) (fun K hK => ?_)
          · go_simp
            refine (scopy_any _ _ _ z.tells _ HZT.out (T4.keep (Below.refl _ _).drew) FT.out (by omega)).mono ?_
            rintro ee w5 ⟨G5, cp5, xs5, rfl, j5⟩
            have b5 : Below W4.heap.size W4 w5 := below_of_drew j5.b
            dsimp only
            refine hK.out _ _ ⟨KP.out _ b5, fun _ => trivial⟩ ?_
            clear hK K hSS
            refine wpAnyE_one (i := 3) (by kernel_rfl) rfl (fun K hK => ?_)
            go_simp
            have A6 : Below w5.heap.size w5 (w5.alloc (.cells #[Value.slice (some ⟨D1, 0, none⟩) 3 d1, Value.slice (some ⟨D2, 0, none⟩) 2 d2, Value.int .i64 XK] 34)) := (Below.refl _ _).alloc (Nat.le_refl _) _
            have nb6 := Cel.new w5 [Value.slice (some ⟨D1, 0, none⟩) 3 d1, Value.slice (some ⟨D2, 0, none⟩) 2 d2, Value.int .i64 XK] 34
            have lG5 := j5.lt
            have j6 := j5.below A6
            have v16 := (v1.below b5).below A6
            have v26 := (v2.below b5).below A6
            have b6 := b5.trans (A6.mono b5.size)
            have lG5' : W4.heap.size ≤ G5 := lG5.1
            refine hK.out _ _ ⟨KP.out _ b6, fun _ => trivial⟩ ?_
            clear hK K A6 j5
            refine wpAnyE_one (i := 4) (by kernel_rfl) rfl (fun K hK => ?_)
            rw [if_pos (by rfl)]
            refine wp_append_lies _ (.tmp 41) (.tmp 43) 23 rfl _ 34 zi _ 3 56 Try.underlying23 hi hz0 hz1 hz2 rfl (by omega) (.slice (some ⟨G5, 0, none⟩) nt cp5) nt xs5 (by rfl) j6.o ⟨w5.heap.size, 0, none⟩ 1 1 [Value.slice (some ⟨D1, 0, none⟩) 3 d1, Value.slice (some ⟨D2, 0, none⟩) 2 d2, Value.int .i64 XK] (by rfl) (by rfl) (World.news_of_block (cs := #[Value.slice (some ⟨D1, 0, none⟩) 3 d1, Value.slice (some ⟨D2, 0, none⟩) 2 d2, Value.int .i64 XK]) (t := 34) (fr := (0, 0)) nb6) (by simp [Value.oneCell']) (by omega) (by unfold maxLen; omega) (by omega) j6.b.size _ rfl ?_
            intro gg cpg w7 hown hgrow hatg hltg
            obtain ⟨b7, F7⟩ := j6.snoc HZT.out hown hgrow hatg rfl (v16.ints' lXC) (v26.ints' lXD) (by omega) (by omega)
            have b47 : Below W4.heap.size W4 w7 := below_of_drew b7
            refine hK.out _ _ ⟨KP.out _ b47, fun _ => trivial⟩ ?_
            clear hK K hown hgrow hatg nb6 v16 v26 j6
            refine wpAnyE_one (i := 5) (by kernel_rfl) rfl (fun K hK => ?_)
            go_simp
            refine hK.out _ _ ⟨KP.out _ b47, fun _ => trivial⟩ ?_
            clear hK K
            refine wpAnyE_done (by kernel_rfl) ?_ _
            have P7 := P4.keep b47
            have B7 := B4.trans (b47.mono B4.size)
            clear b47 b7 P4 T4 G4 B4
            go_wp2
            go_roundw
            case rel => exact ⟨k + 1, g - 1, z.tell (XC, XD, XK), pa, cp, some ⟨gg, 0, none⟩, nt + 1, cpg, by omega, by go_num, rfl, rfl, by simp only [Way.tell, List.length_append, List.length_cons, List.length_nil, HZT.out], HZG.out, by omega, by omega, HEQ.out.trans hgo.out, HW2.out, B7, P7, F7⟩
            case measure => simp [intOf]; omega
          · go_simp
            obtain ⟨Wb, hWb⟩ : ∃ Wb, Wb = (W4.alloc (.cells #[Value.slice (some ⟨D1, 0, none⟩) 3 d1, Value.slice (some ⟨D2, 0, none⟩) 2 d2, Value.int .i64 XK] 34)).drew := ⟨_, rfl⟩
            have A5 : Below W4.heap.size W4 Wb := by rw [hWb]; exact ((Below.refl _ _).alloc (Nat.le_refl _) _).drew
            have nb5 : Cel Wb W4.heap.size [Value.slice (some ⟨D1, 0, none⟩) 3 d1, Value.slice (some ⟨D2, 0, none⟩) 2 d2, Value.int .i64 XK] 34 := by rw [hWb]; exact Cel.new W4 [Value.slice (some ⟨D1, 0, none⟩) 3 d1, Value.slice (some ⟨D2, 0, none⟩) 2 d2, Value.int .i64 XK] 34
            have zb : W4.heap.size + 1 = Wb.heap.size := by rw [hWb]; show _ = (W4.alloc _).heap.size; rw [World.size_alloc]
            rw [← hWb]
            clear hWb
            refine hK.out _ _ ⟨KP.out _ A5, fun _ => trivial⟩ ?_
            clear hK K hSS
            refine wpAnyE_one (i := 1) (by kernel_rfl) rfl (fun K hK => ?_)
            go_simp
            refine (scopy_any _ _ _ z.tells _ HZT.out (T4.keep A5) FT.out (by omega)).mono ?_
            rintro ee w5 ⟨G5, cp5, xs5, rfl, j6⟩
            have b5 := A5.trans (j6.b.mono A5.size)
            have nb6 := nb5.below j6.b
            rw [z4] at nb6
            have v16 := v1.below b5
            have v26 := v2.below b5
            have lG5' := j6.lt.1
            dsimp only
            refine hK.out _ _ ⟨KP.out _ b5, fun _ => trivial⟩ ?_
            clear hK K nb5
            refine wpAnyE_one (i := 4) (by kernel_rfl) rfl (fun K hK => ?_)
            rw [if_pos (by rfl)]
            refine wp_append_lies _ (.tmp 41) (.tmp 43) 23 rfl _ 34 zi _ 3 56 Try.underlying23 hi hz0 hz1 hz2 rfl (by omega) (.slice (some ⟨G5, 0, none⟩) nt cp5) nt xs5 (by rfl) j6.o ⟨w3.heap.size + 1, 0, none⟩ 1 1 [Value.slice (some ⟨D1, 0, none⟩) 3 d1, Value.slice (some ⟨D2, 0, none⟩) 2 d2, Value.int .i64 XK] (by rfl) (by rfl) (World.news_of_block (cs := #[Value.slice (some ⟨D1, 0, none⟩) 3 d1, Value.slice (some ⟨D2, 0, none⟩) 2 d2, Value.int .i64 XK]) (t := 34) (fr := (0, 0)) nb6) (by simp [Value.oneCell']) (by omega) (by unfold maxLen; omega) (by omega) j6.b.size _ rfl ?_
            intro gg cpg w7 hown hgrow hatg hltg
            obtain ⟨b7, F7⟩ := j6.snoc HZT.out hown hgrow hatg rfl (v16.ints' lXC) (v26.ints' lXD) (by omega) (by omega)
            have b47 : Below W4.heap.size W4 w7 := A5.trans (b7.mono A5.size)
            refine hK.out _ _ ⟨KP.out _ b47, fun _ => trivial⟩ ?_
            clear hK K hown hgrow hatg nb6 v16 v26 j6
            refine wpAnyE_one (i := 5) (by kernel_rfl) rfl (fun K hK => ?_)
            go_simp
            refine hK.out _ _ ⟨KP.out _ b47, fun _ => trivial⟩ ?_
            clear hK K
            refine wpAnyE_done (by kernel_rfl) ?_ _
            have P7 := P4.keep b47
            have B7 := B4.trans (b47.mono B4.size)
            clear b47 b7 P4 T4 G4 B4
            go_wp2
            go_roundw
            case rel => exact ⟨k + 1, g - 1, z.tell (XC, XD, XK), pa, cp, some ⟨gg, 0, none⟩, nt + 1, cpg, by omega, by go_num, rfl, rfl, by simp only [Way.tell, List.length_append, List.length_cons, List.length_nil, HZT.out], HZG.out, by omega, by omega, HEQ.out.trans hgo.out, HW2.out, B7, P7, F7⟩
            case measure => simp [intOf]; omega
    · have hrow : Hid (goW ls g k z = [endW z]) := goW_end (by rw [HN.out]; omega)
      have HPF : Hid (∀ j, j < 3 → fitX 10000000 (z.pots[j]?.getD noX)) := fun j hj => (HZ.out.pf j hj).mono (by have := wb_six (n := min k 6) (by omega); omega)
      have HGL2 : Hid (z.guards.length = ng) := by show z.guards.length = ng; rw [HZG.out]; exact HGL.out
      have hGz2 : FormsAt wr ga z.guards := by rw [HZG.out]; exact hGz
      have FG : Hid (∀ j, j < ng → fitX 10000000 (z.guards[j]?.getD ([], [], 0))) := fun j hj => HZ.out.gf j (by rw [HGL2.out]; exact hj)
      have FT : Hid (∀ j, j < nt → fitX 10000000 (z.tells[j]?.getD ([], [], 0))) := fun j hj => HZ.out.tf j (by rw [HZT.out]; exact hj)
      go_wp2_with fail
      refine (srowend_any z _ _ _ _ _ _ _ _ _ HZ.out.pl HGL2.out HZT.out hPz hGz2 hTz HPF.out FG.out FT.out (by omega) (by omega)).mono ?_
      rintro e w3 ⟨v, rfl, b3, hX⟩
      obtain ⟨xa, xc, ya, yc, za, zc, rfl, f0, f1, f2⟩ := hX
      have hb3 := hb.trans (b3.mono hb.size)
      have zb := hb.size
      have J := JR.one (w := w) (gc := xc) (ac := yc) (tc := zc) hb3 (f0.mono (fun k hk => by omega)) (f1.mono (fun k hk => by omega)) (f2.mono (fun k hk => by omega))
      clear b3 f0 f1 f2
      go_wp2
      go_ret
      rw [HEQ.out, hrow.out]
      exact ⟨_, _, _, rfl, J⟩

end Go.Proofs.Ytjggppnffkcmbaa
namespace Go.Proofs.Ytjggppnffkcmbaa
open Go.RowKit Go.Deep
set_option linter.unusedVariables false
set_option maxRecDepth 100000

/-- All ways through an act; none, if it is not ok. -/
def rowsB (N : Nat) (ls : List LV) : List RowM := if actB N ls then rowsL ls else []
theorem JR.noRows (w : World) : JR w w.heap.size 0 [] [] (w.alloc (.cells #[] 25)) :=
  ⟨(Below.refl _ _).alloc (Nat.le_refl _) _, World.ownsRow_lit w #[] 0 (Nat.le_refl _) (by unfold maxLen; omega) rfl, fun j hj => by simp at hj⟩
theorem actB_parts {N : Nat} {ls : List LV} (h : actB N ls = true) : N ≤ 6 ∧ ls.all LV.ok = true := by
  simp only [actB, Bool.and_eq_true, decide_eq_true_eq] at h
  exact ⟨by omega, h.1.2⟩
/-- The three pots of the beginning, laid in a row. -/
theorem way0_at {W : World} {B : Nat} {a0 a1 a2 c0 c1 c2 : Option Addr} {x0 x1 x2 y0 y1 y2 : Nat} (h : Cel W B [.slice a0 3 x0, .slice c0 2 y0, .int .i64 0, .slice a1 3 x1, .slice c1 2 y1, .int .i64 0, .slice a2 3 x2, .slice c2 2 y2, .int .i64 0] 34)
    (i0 : Ints W a0 3 ([0, 0, 0].set 0 1)) (j0 : Ints W c0 2 [0, 0]) (i1 : Ints W a1 3 ([0, 0, 0].set 1 1)) (j1 : Ints W c1 2 [0, 0]) (i2 : Ints W a2 3 ([0, 0, 0].set 2 1)) (j2 : Ints W c2 2 [0, 0]) : FormsAt W (some ⟨B, 0, none⟩) way0.pots := fun i hi => by
  have hi' : i < 3 := hi
  match i, hi' with
  | 0, _ => exact ⟨B, 0, rfl, a0, c0, x0, y0, h.cell 0, h.cell 1, h.cell 2, i0, j0⟩
  | 1, _ => exact ⟨B, 0, rfl, a1, c1, x1, y1, h.cell 3, h.cell 4, h.cell 5, i1, j1⟩
  | 2, _ => exact ⟨B, 0, rfl, a2, c2, x2, y2, h.cell 6, h.cell 7, h.cell 8, i2, j2⟩
theorem FormsAt.noForms {W : World} {a : Option Addr} : FormsAt W a [] := fun i hi => by simp at hi

set_option maxHeartbeats 3200000 in
theorem srows_any (ad : Option Addr) (N cap : Nat) (ls : List LV) (w : World) (hN : ls.length = N) (hF : LinesG w ad ls) (hN1 : N ≤ 1048576) :
    Calls Try.prog 30 #[.slice ad N cap] w fun e w' => ∃ G cp xs, e = .returned (.slice (some ⟨G, 0, none⟩) (rowsB N ls).length cp) ∧ JR w G cp xs (rowsB N ls) w' := by
  have HN : Hid (ls.length = N) := hN
  clear hN
  obtain ⟨u, hu⟩ : ∃ u, actB N ls = u := ⟨_, rfl⟩
  have HU : Hid (actB N ls = u) := hu
  go_enter Try.func30, Try.ntmps30
  go_wp2_with fail
  refine (sact_any _ _ _ ls _ HN.out hF hN1).mono ?_
  rintro e w1 ⟨rfl, b1⟩
  rw [hu]
  clear hu
  cases u with
  | false =>
    have J := (JR.noRows w1).mono b1
    go_wp2
    go_ret
    rw [rowsB, HU.out]
    exact ⟨_, _, _, rfl, J⟩
  | true =>
    obtain ⟨h6, hall⟩ := actB_parts HU.out
    have HA : Hid (ls.all LV.ok = true) := hall
    clear hall
    go_wp2_with fail
    refine (spot_any _ _).mono ?_
    rintro ee w2 ⟨a0, n0, x0, c0, m0, y0, Z1, Z2, rfl, L1, L2, b2, o1, o2, -, -, -⟩
    rw [potC_in (0 : Int) 0 rfl (by omega)] at L1 o1
    rw [potD_in (0 : Int) (by omega) (by omega)] at L2 o2
    obtain rfl : n0 = 3 := by rw [← L1]; simp
    obtain rfl : m0 = 2 := by rw [← L2]; simp
    have i0 := o1.ints
    have j0 := o2.ints
    rw [L1] at i0
    rw [L2] at j0
    clear o1 o2 L1 L2 Z1 Z2
    go_wp2_with fail
    refine (spot_any _ _).mono ?_
    rintro ee w3 ⟨a1, n1, x1, c1, m1, y1, Z1, Z2, rfl, L1, L2, b3, o1, o2, -, -, -⟩
    rw [potC_in (1 : Int) 1 rfl (by omega)] at L1 o1
    rw [potD_in (1 : Int) (by omega) (by omega)] at L2 o2
    obtain rfl : n1 = 3 := by rw [← L1]; simp
    obtain rfl : m1 = 2 := by rw [← L2]; simp
    have i1 := o1.ints
    have j1 := o2.ints
    rw [L1] at i1
    rw [L2] at j1
    clear o1 o2 L1 L2 Z1 Z2
    go_wp2_with fail
    refine (spot_any _ _).mono ?_
    rintro ee w4 ⟨a2, n2, x2, c2, m2, y2, Z1, Z2, rfl, L1, L2, b4, o1, o2, -, -, -⟩
    rw [potC_in (2 : Int) 2 rfl (by omega)] at L1 o1
    rw [potD_in (2 : Int) (by omega) (by omega)] at L2 o2
    obtain rfl : n2 = 3 := by rw [← L1]; simp
    obtain rfl : m2 = 2 := by rw [← L2]; simp
    have i2 := o1.ints
    have j2 := o2.ints
    rw [L1] at i2
    rw [L2] at j2
    clear o1 o2 L1 L2 Z1 Z2
    have B2 := b1.trans (b2.mono b1.size)
    have B3 := B2.trans (b3.mono B2.size)
    have B4 := B3.trans (b4.mono B3.size)
    have A1 : Below w4.heap.size w4 (w4.alloc (.cells #[.slice a0 3 x0, .slice c0 2 y0, .int .i64 0, .slice a1 3 x1, .slice c1 2 y1, .int .i64 0, .slice a2 3 x2, .slice c2 2 y2, .int .i64 0] 34)) := (Below.refl _ _).alloc (Nat.le_refl _) _
    have A2 := (A1.alloc A1.size (.cells #[] 34))
    have A3 := (A2.alloc A2.size (.cells #[] 34))
    have i0' := ((i0.below b3).below b4).below A3
    have j0' := ((j0.below b3).below b4).below A3
    have i1' := (i1.below b4).below A3
    have j1' := (j1.below b4).below A3
    have i2' := i2.below A3
    have j2' := j2.below A3
    have nb := ((Cel.new w4 [.slice a0 3 x0, .slice c0 2 y0, .int .i64 0, .slice a1 3 x1, .slice c1 2 y1, .int .i64 0, .slice a2 3 x2, .slice c2 2 y2, .int .i64 0] 34).alloc (.cells #[] 34)).alloc (.cells #[] 34)
    have FP := way0_at nb i0' j0' i1' j1' i2' j2'
    have BA := B4.trans (A3.mono B4.size)
    clear i0 j0 i1 j1 i2 j2 i0' j0' i1' j1' i2' j2' nb B2 B3 b2 b3 b4
    go_wp2_with fail
    refine (swalk_any ad N cap ls HN.out h6 HA.out 7 0 way0 _ _ _ _ _ _ _ _ _ (by omega) (by omega) (by omega) WayOk.start rfl rfl (hF.below BA) FP FormsAt.noForms FormsAt.noForms).mono ?_
    rintro ee w5 ⟨G, cp, xs, rfl, J⟩
    have J' := J.mono BA
    clear J FP
    go_wp2
    go_ret
    rw [rowsB, HU.out]
    exact ⟨G, cp, xs, rfl, J'⟩

end Go.Proofs.Ytjggppnffkcmbaa
namespace Go.Proofs.Ytjggppnffkcmbaa
open Go.RowKit Go.Deep
set_option linter.unusedVariables false
set_option maxRecDepth 100000

/-- Three bools that can be read. -/
def Bools (W : World) (a : Option Addr) (f : Nat → Bool) : Prop := ∃ b off, a = some ⟨b, off, none⟩ ∧ ∀ v, v < 3 → W.cell? ⟨b, off + v, none⟩ = some (.bool (f v))
theorem Bools.below {W W' : World} {a : Option Addr} {f : Nat → Bool} (h : Bools W a f) (b : Below W.heap.size W W') : Bools W' a f := by
  obtain ⟨b0, off, e, hc⟩ := h
  exact ⟨b0, off, e, fun v hv => (b.cell (p := ⟨b0, off + v, none⟩) (block_lt (hc v hv))).trans (hc v hv)⟩
/-- Three bools in a block, free to be written. -/
def OwnB (W : World) (G : Nat) (f : Nat → Bool) : Prop := ∃ cur : List Value, Cel W G cur 4 ∧ ∀ v, v < 3 → cur[v]? = some (.bool (f v))
theorem OwnB.lt {W : World} {G : Nat} {f : Nat → Bool} (h : OwnB W G f) : G < W.heap.size := by obtain ⟨cur, hc, _⟩ := h; exact hc.lt
theorem OwnB.bools {W : World} {G : Nat} {f : Nat → Bool} (h : OwnB W G f) : Bools W (some ⟨G, 0, none⟩) f := by
  obtain ⟨cur, hc, hv⟩ := h
  exact ⟨G, 0, rfl, fun v hh => by rw [Nat.zero_add, hc.cell v]; exact hv v hh⟩
theorem OwnB.set {W : World} {G : Nat} {f : Nat → Bool} (h : OwnB W G f) {u : Nat} (hu : u < 3) (x : Bool) : OwnB (W.setCell ⟨G, u, none⟩ (.bool x)) G (fun v => if v = u then x else f v) := by
  obtain ⟨cur, hc, hv⟩ := h
  have hl : u < cur.length := (List.getElem?_eq_some_iff.1 (hv u hu)).1
  refine ⟨_, hc.set u _, fun v hh => ?_⟩
  by_cases e : v = u
  · subst e; rw [List.getElem?_set_self hl]; simp
  · rw [List.getElem?_set_ne (by omega)]; simp only [e, if_false]; exact hv v hh
theorem OwnB.ext {W : World} {G : Nat} {f g : Nat → Bool} (h : OwnB W G f) (e : ∀ v, v < 3 → f v = g v) : OwnB W G g := by
  obtain ⟨cur, hc, hv⟩ := h
  exact ⟨cur, hc, fun v hh => by rw [← e v hh]; exact hv v hh⟩
/-- Pots that forms have are marked. -/
def hasP (f : Frm) (v : Nat) : Bool := f.1[v]?.getD 0 != 0
def readsF (r : Nat → Bool) (fs : List Frm) (v : Nat) : Bool := r v || fs.any (fun f => hasP f v)
theorem readsF_snoc (r : Nat → Bool) (fs : List Frm) (k : Nat) (hk : k < fs.length) (v : Nat) : readsF r (fs.take (k + 1)) v = (readsF r (fs.take k) v || hasP (fs[k]?.getD ([], [], 0)) v) := by
  rw [readsF, readsF, List.take_succ_eq_append_getElem hk, List.any_append, List.getElem?_eq_getElem hk]
  simp [Bool.or_assoc]
theorem Try.infoBool : (Try.prog.info? 4).map (fun i => (i.zero, i.size, i.bytes)) = some (some (.bool false), 1, 1) := by kernel_rfl

set_option maxHeartbeats 3200000 in
theorem sreads_any (pa : Option Addr) (pc : Nat) (r : Nat → Bool) (ad : Option Addr) (N cap : Nat) (fs : List Frm) (w : World) (hB : Bools w pa r) (hN : fs.length = N) (hF : FormsAt w ad fs) (hfit : ∀ k, k < N → fitX 10000000 (fs[k]?.getD ([], [], 0))) (hN1 : N ≤ 1048576) :
    Calls Try.prog 92 #[.slice pa 3 pc, .slice ad N cap] w fun e w' => ∃ G cG, e = .returned (.slice (some ⟨G, 0, none⟩) 3 cG) ∧ Below w.heap.size w w' ∧ w.heap.size ≤ G ∧ OwnB w' G (readsF r fs) := by
  have HN : Hid (fs.length = N) := hN
  have HF : Hid (FormsAt w ad fs) := hF
  have HFT : Hid _ := hfit
  clear hN hF hfit
  obtain ⟨zi, hi, hz0, hz1, hz2⟩ := info_parts Try.infoBool
  obtain ⟨pb, po, rfl, hpc⟩ := hB
  have A : Below w.heap.size w (w.alloc (.cells #[] 4)) := (Below.refl _ _).alloc (Nat.le_refl _) _
  have HOL := World.ownsRow_lit (e := 4) (size := 1) (base := w.heap.size) w #[] 0 (Nat.le_refl _) (by unfold maxLen; omega) rfl
  have HNW : Hid (∀ j u, ([.bool (r 0), .bool (r 1), .bool (r 2)] : List Value)[j]? = some u → (w.alloc (.cells #[] 4)).cell? ((⟨pb, po, none⟩ : Addr).add j) = some u) := fun j u hu => by
    have hadd : (⟨pb, po, none⟩ : Addr).add j = ⟨pb, po + j, none⟩ := by
      by_cases h0 : j = 0
      · subst h0; simp [Addr.add]
      · simp [Addr.add, h0]
    rw [hadd]
    have key : ∀ v, v < 3 → (w.alloc (.cells #[] 4)).cell? ⟨pb, po + v, none⟩ = some (.bool (r v)) := fun v hv => by rw [A.cell (p := ⟨pb, po + v, none⟩) (block_lt (hpc v hv))]; exact hpc v hv
    match j with
    | 0 => simp only [List.getElem?_cons_zero, Option.some.injEq] at hu; subst hu; exact key 0 (by omega)
    | 1 => simp only [List.getElem?_cons_zero, List.getElem?_cons_succ, Option.some.injEq] at hu; subst hu; exact key 1 (by omega)
    | 2 => simp only [List.getElem?_cons_zero, List.getElem?_cons_succ, Option.some.injEq] at hu; subst hu; exact key 2 (by omega)
    | j + 3 => simp at hu
  clear hpc
  go_enter Try.func92, Try.ntmps92
  go_wp2_with (at_builtin; go_must (refine wpList_append_lies _ rfl (.tmp 8) (.tmp 9) 62 rfl w.heap.size 4 zi _ 1 1 Try.underlying62 hi hz0 hz1 hz2 rfl (by decide) (.slice (some ⟨w.heap.size, 0, none⟩) 0 0) 0 [] rfl HOL ⟨pb, po, none⟩ 3 pc [.bool (r 0), .bool (r 1), .bool (r 2)] rfl rfl HNW.out (by simp [Value.oneCell']) (by omega) (by unfold maxLen; omega) (by omega) (by rw [World.size_alloc]; omega) _ rfl ?_); intro G cG w1 hown hgrow hat hlt1)
  have b1 : Below w.heap.size w w1 := A.grown hgrow A.size (fun k hk => by have h' : some w.heap.size = some k := hk; simp only [Option.some.injEq] at h'; omega)
  have o1 : OwnB w1 G (readsF r (fs.take 0)) ∧ w.heap.size ≤ G := by
    rcases hown.2 with ⟨h', _⟩ | ⟨g', cap', cur, h', hb, hg, _, _, hcs, htake⟩
    · cases h'
    · simp only [Value.slice.injEq, Option.some.injEq, Addr.mk.injEq, and_true, true_and] at h'
      obtain ⟨rfl, rfl⟩ := h'
      refine ⟨⟨cur.toList, by unfold Cel; simpa using hg, fun v hv => ?_⟩, hb⟩
      have h1 : (cur.toList.take ((0 + 3) * 1))[v]? = ([.bool (r 0), .bool (r 1), .bool (r 2)] : List Value)[v]? := by rw [htake]; rfl
      rw [List.getElem?_take, if_pos (by omega)] at h1
      rw [h1]
      match v, hv with
      | 0, _ => simp [readsF]
      | 1, _ => simp [readsF]
      | 2, _ => simp [readsF]
  obtain ⟨o1, lG⟩ := o1
  clear hown hgrow hat HNW HOL A
  go_wp2_with fail
  go_loopw [6, 7] (fun i _ wr => ∃ k : Nat, k ≤ N ∧ i = .int .i64 k ∧ Below w.heap.size w wr ∧ OwnB wr G (readsF r (fs.take k))) (fun i _ _ => N - (intOf i).toNat)
  case atStart => exact ⟨0, Nat.zero_le _, rfl, b1, o1⟩
  case round =>
    clear b1 o1
    obtain ⟨k, hk, rfl, hb, o⟩ := hrel
    by_cases hlt : k < N
    · have hlt' : (k : Int) < N := by omega
      have hkl : k < fs.length := by rw [HN.out]; exact hlt
      have HS : Hid (∀ v, readsF r (fs.take (k + 1)) v = (readsF r (fs.take k) v || hasP (fs[k]?.getD ([], [], 0)) v)) := fun v => readsF_snoc r fs k hkl v
      have hfit := HFT.out k hlt
      obtain ⟨lC, -, -, -, -, -⟩ := hfit
      have o' : OwnB wr G (fun v => if v < 0 then readsF r (fs.take (k + 1)) v else readsF r (fs.take k) v) := o.ext (fun v hv => by simp)
      clear o
      have HW : Hid (Below w.heap.size w wr) := hb
      clear hb
      go_wp2_with fail
      go_loopw [7] (fun v w2 => ∃ u : Nat, u ≤ 3 ∧ v = .int .i64 u ∧ Below w.heap.size w w2 ∧ OwnB w2 G (fun v => if v < u then readsF r (fs.take (k + 1)) v else readsF r (fs.take k) v)) (fun v _ => 3 - (intOf v).toNat)
      case atStart => exact ⟨0, by omega, rfl, HW.out, o'⟩
      case round =>
        clear o' HW
        obtain ⟨u, hu, rfl, hb, o⟩ := hrel
        by_cases hu3 : u < 3
        · have hu' : (u : Int) < 3 := by omega
          obtain ⟨b, off, rfl, a', c', ca, cc, c0, c1, c2, iC, iD⟩ := (HF.out.keep hb) k hkl
          obtain ⟨cb, co, rfl, cv⟩ := iC.2 u hu3
          have hval : (fs[k]?.getD ([], [], 0)).1.getD u 0 = (fs[k]?.getD ([], [], 0)).1[u]?.getD 0 := by rw [List.getD_eq_getElem?_getD]
          rw [hval] at cv
          have HH : Hid (hasP (fs[k]?.getD ([], [], 0)) u = ((fs[k]?.getD ([], [], 0)).1[u]?.getD 0 != 0)) := rfl
          generalize (fs[k]?.getD ([], [], 0)).1[u]?.getD 0 = z at *
          have lG2 := o.lt
          by_cases hz : z = 0
          · have hz' : (z != 0) = false := by simp [hz]
            have O2 : OwnB wr G (fun v => if v < u + 1 then readsF r (fs.take (k + 1)) v else readsF r (fs.take k) v) := o.ext (fun v hv => by
              by_cases e : v = u
              · subst e; simp only [Nat.lt_irrefl, if_false, Nat.lt_succ_self, if_true]; rw [HS.out, HH.out, hz']; simp
              · by_cases e2 : v < u
                · rw [if_pos e2, if_pos (by omega)]
                · rw [if_neg e2, if_neg (by omega)])
            have HO2 : Hid (OwnB wr G (fun v => if v < u + 1 then readsF r (fs.take (k + 1)) v else readsF r (fs.take k) v)) := O2
            clear o O2
            go_wp2
            go_roundw
            case rel => exact ⟨u + 1, by omega, by go_num, hb, HO2.out⟩
            case measure => simp [intOf]; omega
          · have hz' : (z != 0) = true := by simp [hz]
            obtain ⟨cur, hc, hv⟩ := o
            have g0 : wr.cell? ⟨G, u, none⟩ = some _ := (hc.cell u).trans (hv u hu3)
            have fz := hc.free u
            have o2 := OwnB.set (W := wr) (G := G) ⟨cur, hc, hv⟩ hu3 true
            have O2 : Hid (OwnB (wr.setCell ⟨G, u, none⟩ (.bool true)) G (fun v => if v < u + 1 then readsF r (fs.take (k + 1)) v else readsF r (fs.take k) v)) := o2.ext (fun v hv => by
              by_cases e : v = u
              · subst e; simp only [if_true, Nat.lt_succ_self]; rw [HS.out, HH.out, hz']; simp
              · simp only [e, if_false]
                by_cases e2 : v < u
                · rw [if_pos e2, if_pos (by omega)]
                · rw [if_neg e2, if_neg (by omega)])
            have B2 := hb.setCell (p := ⟨G, u, none⟩) lG (.bool true)
            clear o2 hc hv
            go_wp2
            go_roundw
            case rel => exact ⟨u + 1, by omega, by go_num, B2, O2.out⟩
            case measure => simp [intOf]; omega
        · obtain rfl : u = 3 := by omega
          have O3 : Hid (OwnB wr G (readsF r (fs.take (k + 1)))) := o.ext (fun v hv => by simp only [hv, if_true])
          clear o
          go_wp2
          go_roundw
          case rel => exact ⟨k + 1, by omega, by go_num, hb, O3.out⟩
          case measure => simp [intOf]; omega
    · obtain rfl : k = N := by omega
      have O3 : OwnB wr G (readsF r fs) := by
        have : fs.take k = fs := List.take_of_length_le (by rw [HN.out]; exact Nat.le_refl _)
        rw [this] at o; exact o
      go_wp2
      go_ret
      exact ⟨G, cG, rfl, hb, lG, O3⟩

end Go.Proofs.Ytjggppnffkcmbaa
namespace Go.Proofs.Ytjggppnffkcmbaa
open Go.RowKit
set_option linter.unusedVariables false
set_option maxRecDepth 100000

set_option maxHeartbeats 400000 in
theorem addX_any (n cap B : Nat) (a c : Option Addr) (cap' : Nat) (xs ys : List Int) (M M' : Int) (w : World) (h : OwnX w a B n xs) (h' : Ints w c n ys) (hne : ∀ b o, c = some ⟨b, o, none⟩ → b ≠ B)
    (hn : n ≤ 1048576) (hM : bnd M xs) (hM' : bnd M' ys) (hb : M ≤ 2000000000000000000) (hb' : M' ≤ 2000000000000000000) :
    Calls Try.prog 106 #[.slice a n cap, .slice c n cap'] w fun e w' => e = .returned (.tuple #[]) ∧ Touch (fun x => x = B ∧ 0 < n) w w' ∧ OwnX w' a B n (List.zipWith (· + ·) xs ys) := by
  have HX : Hid (xs.length = n) := h.1
  have HY : Hid (ys.length = n) := h'.1
  go_enter Try.func106, Try.ntmps106
  go_wp2_with fail
  go_loopw [4, 5, 8] (fun _ _ i wr => ∃ j : Nat, j ≤ n ∧ i = .int .i64 j ∧ Touch (fun x => x = B ∧ 0 < n) w wr ∧ OwnX wr a B n (added xs ys j)) (fun _ _ i _ => n - (intOf i).toNat)
  case atStart => exact ⟨0, Nat.zero_le _, rfl, Touch.refl _ _, by rw [added_zero]; exact h⟩
  case round =>
    obtain ⟨j, hj, rfl, ht, ho⟩ := hrel
    by_cases hlt : j < n
    · obtain ⟨rfl, hcs, hfs⟩ := ho.pos (by omega)
      obtain ⟨b, off, rfl, hcell⟩ := h'.pos (by omega)
      have hck : wr.cell? ⟨b, off + j, none⟩ = some (.int .i64 (ys[j]?.getD 0)) := by
        have h0 := hcell j hlt
        have : wr.cell? ⟨b, off + j, none⟩ = w.cell? ⟨b, off + j, none⟩ := World.cell?_of_block (ht.block b (block_lt h0) (fun e => hne b off rfl e.1))
        rw [this, h0]; simp
      have hco : wr.cell? ⟨B, j, none⟩ = some (.int .i64 (xs[j]?.getD 0)) := by
        rw [hcs j hlt, added_get xs ys j (by rw [HX.out, HY.out]) (by rw [HX.out]; exact hlt)]
      have hf := hfs j
      obtain ⟨m1, m2⟩ := hM j
      obtain ⟨m3, m4⟩ := hM' j
      have R : OwnX (wr.setCell ⟨B, j, none⟩ (.int .i64 (xs[j]?.getD 0 + ys[j]?.getD 0))) (some ⟨B, 0, none⟩) B n (added xs ys (j + 1)) := by
        have := ho.set hlt (xs[j]?.getD 0 + ys[j]?.getD 0)
        rwa [added_succ xs ys j (by rw [HX.out, HY.out]) (by rw [HX.out]; exact hlt)] at this
      have R2 : Touch (fun x => x = B ∧ 0 < n) w (wr.setCell ⟨B, j, none⟩ (.int .i64 (xs[j]?.getD 0 + ys[j]?.getD 0))) := ht.setCell ⟨rfl, by omega⟩ _
      clear h ho hcell h' hM hM' hne hcs hfs
      go_wp2
      go_roundw
      case rel => exact ⟨j + 1, by omega, by go_num, R2, R⟩
      case measure => simp [intOf]; omega
    · go_wp2
      go_end0
      obtain rfl : j = n := by omega
      exact ⟨rfl, ht, by rw [added_end xs ys j (by rw [HX.out]; exact Nat.le_refl _) (by rw [HY.out]; exact Nat.le_refl _)] at ho; exact ho⟩

/-- The numbers of a slice, to be appended. -/
theorem newsI {w : World} {b off n : Nat} {zs : List Int} (h : ∀ i, i < n → w.cell? ⟨b, off + i, none⟩ = some (.int .i64 (zs.getD i 0))) (hl : zs.length = n) : ∀ j u, (zs.map (Value.int .i64))[j]? = some u → w.cell? ((⟨b, off, none⟩ : Addr).add j) = some u := fun j u hu => by
  have hj : j < n := by
    have := (List.getElem?_eq_some_iff.1 hu).1
    simpa [hl] using this
  have hadd : (⟨b, off, none⟩ : Addr).add j = ⟨b, off + j, none⟩ := by
    by_cases h0 : j = 0
    · subst h0; simp [Addr.add]
    · simp [Addr.add, h0]
  rw [hadd, h j hj]
  rw [List.getElem?_map, List.getElem?_eq_getElem (by omega)] at hu
  simp only [Option.map_some, Option.some.injEq] at hu
  rw [← hu]
  simp [hl, hj]
theorem oneI (zs : List Int) : ∀ u ∈ zs.map (Value.int .i64), u.oneCell' = true := fun u hu => by
  obtain ⟨x, _, rfl⟩ := List.mem_map.1 hu
  rfl
theorem JA.copied {w W' : World} {zs : List Int} {g cap n : Nat} (hn : zs.length = n) (hown : W'.ownsRow w.heap.size 3 1 (.slice (some ⟨g, 0, none⟩) (0 + n) cap) (0 + n) ([] ++ zs.map (Value.int .i64))) (hg : (w.alloc (.cells #[] 3)).grownBy W' (Value.ownBlock (.slice (some ⟨w.heap.size, 0, none⟩) 0 0))) :
    JA w (.slice (some ⟨g, 0, none⟩) n cap) zs W' := by
  have h0 := JA.lit w
  refine h0.own (ys := zs) ?_ hg
  rw [hn]
  simpa using hown

set_option maxHeartbeats 400000 in
theorem clone_any (a : Option Addr) (n cap : Nat) (zs : List Int) (w : World) (h : Ints w a n zs) (hn : n ≤ 1048576) (h0 : 0 < n) :
    Calls Try.prog 58 #[.slice a n cap] w fun e w' => ∃ v, e = .returned v ∧ JA w v zs w' := by
  have HZ : Hid (zs.length = n) := h.1
  obtain ⟨i0, hi, hz0, hz1, hz2⟩ := info_parts Try.infoInt
  obtain ⟨b, off, rfl, hcell⟩ := h.pos h0
  have hcl : ∀ i, i < n → (w.alloc (.cells #[] 3)).cell? ⟨b, off + i, none⟩ = some (.int .i64 (zs.getD i 0)) := fun i hi => by
    rw [((Below.refl w.heap.size w).alloc (Nat.le_refl _) _).cell (p := ⟨b, off + i, none⟩) (block_lt (hcell i hi))]; exact hcell i hi
  have HC : Hid _ := newsI hcl HZ.out
  have HL : Hid ((zs.map (Value.int .i64)).length = n * 1) := by show _ = _; rw [List.length_map, HZ.out, Nat.mul_one]
  have HJ : Hid _ := (JA.lit w).o
  clear hcl hcell h
  have hnil : ∀ w, (binOp .eql 26 (.slice (some ⟨b, off, none⟩) n cap) (.slice none 0 0)).run Try.prog w = .ok (.bool false) w := fun w => Go.Lib.run_eql_slice_nil w _ _ _ _ _ _ _ Try.underlying26
  go_enter Try.func58, Try.ntmps58
  go_wp2_with (at_builtin; go_must (refine wpList_append_lies _ rfl (.tmp 5) (.tmp 6) 26 rfl w.heap.size 3 i0 (.int .i64 0) 1 8 Try.underlying26 hi hz0 hz1 hz2 rfl (by decide) _ 0 [] rfl HJ.out ⟨b, off, none⟩ n cap (zs.map (Value.int .i64)) rfl HL.out HC.out (oneI _) h0 (by unfold maxLen; omega) (by omega) (by rw [World.size_alloc]; omega) _ rfl ?_); intro g cp w1 hown hgrow hat hlt1)
  have j := JA.copied HZ.out hown hgrow
  clear hown hgrow
  go_wp2
  go_ret
  exact ⟨_, rfl, j⟩

end Go.Proofs.Ytjggppnffkcmbaa
namespace Go.Proofs.Ytjggppnffkcmbaa
open Go.RowKit Go.Deep
set_option linter.unusedVariables false
set_option maxRecDepth 100000

set_option maxHeartbeats 1600000 in
theorem ilack_any (a : Option Addr) (cap : Nat) (c : Option Addr) (cap' : Nat) (K : Int) (C D : List Int) (w : World) (hC : Ints w a 3 C) (hD : Ints w c 2 D) (bC : bnd 10000000 C) (bD : bnd 10000000 D) (bK1 : -10000000 ≤ K) (bK2 : K ≤ 10000000) (hfit : fitX 10000000 (minusX (C, D, K))) :
    Calls Try.prog 138 #[formV a 3 cap c 2 cap' K] w fun e w' => ∃ B1 B2, e = .returned (formV (some ⟨B1, 0, none⟩) 3 3 (some ⟨B2, 0, none⟩) 2 2 (-K - 1)) ∧ Below w.heap.size w w' ∧ w.heap.size ≤ B1 ∧ B1 ≠ B2 ∧ w.heap.size ≤ B2 ∧ Blk w' B1 (mulL (-1) C) ∧ Blk w' B2 (mulL (-1) D) := by
  have hok : formB 3 2 (mulL (-1) C) (mulL (-1) D) (-K - 1) = true := by
    have := fit_ok hfit
    simp only [minusX] at this
    rw [show -1 * K - 1 = -K - 1 by omega] at this
    exact this
  have HOK : Hid _ := hok
  have lC : (mulL (-1) C).length = 3 := by rw [mulL_len]; exact hC.1
  have lD : (mulL (-1) D).length = 2 := by rw [mulL_len]; exact hD.1
  clear hok hfit
  have A2 : Below w.heap.size w ((w.alloc (.cells #[.slice a 3 cap, .slice c 2 cap', .int .i64 K] 34)).alloc (.cells #[.slice none 0 0, .slice none 0 0, .int .i64 0] 34)) := ((Below.refl _ _).alloc (Nat.le_refl _) _).alloc (by simp) _
  have rr := Cel.new (w.alloc (.cells #[.slice a 3 cap, .slice c 2 cap', .int .i64 K] 34)) [.slice none 0 0, .slice none 0 0, .int .i64 0] 34
  rw [World.size_alloc] at rr
  go_enter Try.func138, Try.ntmps138
  go_wp2_with fail
  refine (times_any _ _ _ _ _ C D _ _ (hC.below A2) (hD.below A2) (tim_bnd bC (by omega) (by omega)) (tim_bnd bD (by omega) (by omega)) (tim_num bK1 bK2 (by omega) (by omega))).mono ?_
  rintro e w3 ⟨B1, B2, rfl, b3, y1, y2, y3, k1, k2⟩
  rw [show (-1 : Int) * K = -K by omega]
  rw [World.size_alloc, World.size_alloc] at y1 y3
  have B3 := A2.trans (b3.mono A2.size)
  have r3 := rr.below b3
  have l1 := k1.lt
  have l2 := k2.lt
  have lr := r3.lt
  clear A2 b3 rr
  have hw : IntKind.i64.wrap (-K - 1) = -K - 1 := wrap_id (by omega) (by omega)
  have A4 : Below w3.heap.size w3 (w3.alloc (.cells #[.slice (some ⟨B1, 0, none⟩) 3 3, .slice (some ⟨B2, 0, none⟩) 2 2, .int .i64 (-K - 1)] 34)) := (Below.refl _ _).alloc (Nat.le_refl _) _
  have m1 := k1.below A4
  have m2 := k2.below A4
  have r4 := r3.below A4
  have B4 := B3.trans (A4.mono B3.size)
  clear k1 k2 r3 A4 B3
  go_wp2_with fail
  refine (orN_yes _ _ _ _ _ _ _ (mulL (-1) C) (mulL (-1) D) _ (m1.ints' lC) (m2.ints' lD) (by omega) (by omega) HOK.out).mono ?_
  rintro e w5 ⟨rfl, b5⟩
  have n1 := m1.below b5
  have n2 := m2.below b5
  have r5 := r4.below b5
  have B5 := B4.trans (b5.mono B4.size)
  obtain ⟨e0, e1, e2, e3, e4, e5⟩ := r5.trio
  have r6 := ((r5.set 0 (.slice (some ⟨B1, 0, none⟩) 3 3)).set 1 (.slice (some ⟨B2, 0, none⟩) 2 2)).set 2 (.int .i64 (-K - 1))
  simp only [List.set_cons_zero, List.set_cons_succ] at r6
  obtain ⟨h0, h1, h2, h3, h4, h5⟩ := r6.trio
  clear m1 m2 r4 B4 b5
  go_wp2
  refine bodyPost_ret (v := formV (some ⟨B1, 0, none⟩) 3 3 (some ⟨B2, 0, none⟩) 2 2 (-K - 1)) (by simp [results, Try.results138, go_sem, h0, h1, h2]) rfl ?_
  refine ⟨B1, B2, rfl, ?_, by omega, y2, by omega, ?_, ?_⟩
  · exact ((B5.setCell (by simp only []; omega) _).setCell (by simp only []; omega) _).setCell (by simp only []; omega) _
  · exact ((n1.setOther (by omega) _ _).setOther (by omega) _ _).setOther (by omega) _ _
  · exact ((n2.setOther (by omega) _ _).setOther (by omega) _ _).setOther (by omega) _ _

theorem way0_get {k : Nat} (hk : k < 3) : way0.pots[k]?.getD ([], [], 0) = (([0, 0, 0] : List Int).set k 1, [0, 0], 0) := by
  match k, hk with
  | 0, _ => rfl
  | 1, _ => rfl
  | 2, _ => rfl

set_option maxHeartbeats 1600000 in
theorem ipots_any (w : World) : Calls Try.prog 97 #[] w fun e w' => ∃ v xs, e = .returned v ∧ JV w v 3 xs way0.pots w' := by
  obtain ⟨zi, hi, hz0, hz1, hz2⟩ := info_parts Try.infoForm
  go_enter Try.func97, Try.ntmps97
  go_wp2_with fail
  go_loopw [1, 2, 3] (fun r _ i wr => ∃ (k : Nat) (xs : List Value), k ≤ 3 ∧ i = .int .i64 k ∧ JV w r k xs way0.pots wr) (fun _ _ i _ => 3 - (intOf i).toNat)
  case atStart => exact ⟨0, [], by omega, rfl, JV.nil w _⟩
  case round =>
    obtain ⟨k, xs, hk, rfl, j⟩ := hrel
    by_cases hlt : k < 3
    · obtain ⟨va, vc, rfl⟩ := j.isSlice
      have hlt' : (k : Int) < 3 := by omega
      have HT : Hid _ := way0_get hlt
      go_wp2_with fail
      refine (ipot_any _ _).mono ?_
      rintro ee w3 ⟨a0, n0, x0, c0, m0, y0, Z1, Z2, rfl, L1, L2, b3, o1, o2, g1, g2, g3⟩
      rw [potC_in (k : Int) k rfl (by omega)] at L1 o1
      rw [potD_in (k : Int) (by omega) (by omega)] at L2 o2
      obtain rfl : n0 = 3 := by rw [← L1]; simp
      obtain rfl : m0 = 2 := by rw [← L2]; simp
      rcases o1 with h | ⟨rfl, k1⟩
      · rw [h] at L1; cases L1
      rcases o2 with h | ⟨rfl, k2⟩
      · cases h
      have z1 := g1 (by omega)
      have z2 := g2 (by omega)
      clear g1 g2 g3
      have j3 := j.below b3
      have sz := j.b.size
      have sz3 := b3.size
      have A : Below w3.heap.size w3 (w3.alloc (.cells #[.slice (some ⟨Z1, 0, none⟩) 3 x0, .slice (some ⟨Z2, 0, none⟩) 2 y0, .int .i64 0] 34)) := (Below.refl _ _).alloc (Nat.le_refl _) _
      have j4 := j3.below A
      have k1' := k1.below A
      have k2' := k2.below A
      have n1 : (Value.slice va k vc).ownBlock ≠ some Z1 := fun e => by have := (j.own e).2; omega
      have n2 : (Value.slice va k vc).ownBlock ≠ some Z2 := fun e => by have := (j.own e).2; omega
      have l3 : (([0, 0, 0] : List Int).set k 1).length = 3 := by simp
      clear j j3
      go_wp2_with (at_builtin; go_must (refine wpList_append_lies _ rfl (.tmp 6) (.tmp 9) 23 rfl w.heap.size 34 zi _ 3 56 Try.underlying23 hi hz0 hz1 hz2 rfl (by decide) (.slice va k vc) k xs rfl j4.o ⟨w3.heap.size, 0, none⟩ 1 1 [.slice (some ⟨Z1, 0, none⟩) 3 x0, .slice (some ⟨Z2, 0, none⟩) 2 y0, .int .i64 0] rfl rfl (World.news_of_block (cs := #[.slice (some ⟨Z1, 0, none⟩) 3 x0, .slice (some ⟨Z2, 0, none⟩) 2 y0, .int .i64 0]) (t := 34) (fr := (0, 0)) (heap_alloc_new w3 _)) (by simp [Value.oneCell']) (by omega) (by unfold maxLen; omega) (by omega) (by rw [World.size_alloc]; omega) _ rfl ?_); intro g cp w4 hown hgrow hat hlt1)
      have j5 := j4.app hown hgrow hat rfl (k1'.ints' l3) (k2'.ints' rfl) n1 n2 (by omega) (by omega) HT.out
      clear hown hgrow hat j4 k1 k2 k1' k2'
      go_wp2
      go_roundw
      case rel => exact ⟨k + 1, _, by omega, by go_num, j5⟩
      case measure => simp [intOf]; omega
    · obtain rfl : k = 3 := by omega
      go_wp2
      go_ret
      exact ⟨_, xs, rfl, j⟩

end Go.Proofs.Ytjggppnffkcmbaa
namespace Go.Proofs.Ytjggppnffkcmbaa
open Go.RowKit Go.Deep
set_option linter.unusedVariables false
set_option maxRecDepth 100000

set_option maxHeartbeats 3200000 in
theorem icopied_any (a : Option Addr) (cap : Nat) (c : Option Addr) (cap' : Nat) (K : Int) (C D : List Int) (w : World) (hC : Ints w a 3 C) (hD : Ints w c 2 D) :
    Calls Try.prog 165 #[formV a 3 cap c 2 cap' K] w fun e w' => ∃ B1 B2 c1 c2, e = .returned (formV (some ⟨B1, 0, none⟩) 3 c1 (some ⟨B2, 0, none⟩) 2 c2 K) ∧ Below w.heap.size w w' ∧ w.heap.size ≤ B1 ∧ B1 ≠ B2 ∧ w.heap.size ≤ B2 ∧ Ints w' (some ⟨B1, 0, none⟩) 3 C ∧ Ints w' (some ⟨B2, 0, none⟩) 2 D := by
  have H1 : TimesH w a cap c cap' K ((w.alloc (Obj.cells #[Value.slice a 3 cap, Value.slice c 2 cap', Value.int IntKind.i64 K] 34)).alloc (Obj.cells #[Value.slice none 0 0, Value.slice none 0 0, Value.int IntKind.i64 0] 34)) :=
    ⟨(Cel.new w _ _).alloc _, by have := Cel.new (w.alloc (Obj.cells #[Value.slice a 3 cap, Value.slice c 2 cap', Value.int IntKind.i64 K] 34)) [.slice none 0 0, .slice none 0 0, .int .i64 0] 34; rw [World.size_alloc] at this; exact this, ((Below.refl _ _).alloc (Nat.le_refl _) _).alloc (by simp) _⟩
  go_enter Try.func165, Try.ntmps165
  go_upto_region 1 with fail
  obtain ⟨W0, hW0⟩ : ∃ w2, w2 = (w.alloc (Obj.cells #[Value.slice a 3 cap, Value.slice c 2 cap', Value.int IntKind.i64 K] 34)).alloc (Obj.cells #[Value.slice none 0 0, Value.slice none 0 0, Value.int IntKind.i64 0] 34) := ⟨_, rfl⟩
  rw [← hW0] at H1 ⊢
  clear hW0
  have KP : Hid (∀ W, Below W0.heap.size W0 W → TimesH w a cap c cap' K W) := fun W hW => H1.below hW
  have lr := H1.r.lt
  have c0 : Below W0.heap.size W0 W0.drew := (Below.refl _ _).drew
  have hSS : (W0.drew.cell? ⟨w.heap.size, 0, none⟩ = some (.slice a 3 cap) ∧ W0.drew.cell? ⟨w.heap.size, 1, none⟩ = some (.slice c 2 cap') ∧ W0.drew.cell? ⟨w.heap.size, 2, none⟩ = some (.int .i64 K)) ∧ True := ⟨(KP.out _ c0).cells, trivial⟩
  have hb0 := H1.b
  clear H1
  refine wp_region_ends (fun w' => w'.cell? ⟨w.heap.size, 0, none⟩ = some (.slice a 3 cap) ∧ w'.cell? ⟨w.heap.size, 1, none⟩ = some (.slice c 2 cap') ∧ w'.cell? ⟨w.heap.size, 2, none⟩ = some (.int .i64 K)) (fun _ => True) 9 (by kernel_rfl) ?_
  refine wpAnyE_take0 (i := 0) (v := ?v0) rfl (by kernel_rfl) (by kernel_rfl) (by kernel_rfl) (by decide) (fun _ _ _ h => h) (Or.inl ⟨by rfl, ?hy0⟩) hSS ?_
  case hy0 => (intro wz hSw; (try dsimp only at hSw); go_simp; try (with_reducible rfl))
  refine wpAnyE_take0 (i := 1) (v := ?v1) rfl (by kernel_rfl) (by kernel_rfl) (by kernel_rfl) (by decide) (fun _ _ _ h => h) (Or.inl ⟨by rfl, ?hy1⟩) hSS ?_
  case hy1 => (intro wz hSw; (try dsimp only at hSw); go_simp; try (with_reducible rfl))
  refine wpAnyE_take0 (i := 3) (v := ?v3) rfl (by kernel_rfl) (by kernel_rfl) (by kernel_rfl) (by decide) (fun _ _ _ h => h) (Or.inl ⟨by rfl, ?hy3⟩) hSS ?_
  case hy3 => (intro wz hSw; (try dsimp only at hSw); go_simp; try (with_reducible rfl))
  refine wpAnyE_take0 (i := 4) (v := ?v4) rfl (by kernel_rfl) (by kernel_rfl) (by kernel_rfl) (by decide) (fun _ _ _ h => h) (Or.inl ⟨by rfl, ?hy4⟩) hSS ?_
  case hy4 => (intro wz hSw; (try dsimp only at hSw); go_simp; try (with_reducible rfl))
  refine wpAnyE_take0 (i := 6) (v := ?v6) rfl (by kernel_rfl) (by kernel_rfl) (by kernel_rfl) (by decide) (fun _ _ _ h => h) (Or.inl ⟨by rfl, ?hy6⟩) hSS ?_
  case hy6 => (intro wz hSw; (try dsimp only at hSw); go_simp; try (with_reducible rfl))
  refine wpAnyE_take0 (i := 7) (v := ?v7) rfl (by kernel_rfl) (by kernel_rfl) (by kernel_rfl) (by decide) (fun _ _ _ h => h) (Or.inl ⟨by rfl, ?hy7⟩) hSS ?_
  case hy7 => (intro wz hSw; (try dsimp only at hSw); go_simp; try (with_reducible rfl))
  clear hSS
  have sb0 := hb0.size
  refine wpAnyE_one (i := 2) (by kernel_rfl) rfl (fun K' hK => ?_)
  go_simp
  refine (clone_any _ _ _ C _ ((hC.below hb0).below c0) (by omega) (by omega)).mono ?_
  rintro ee w1 ⟨v1, rfl, j1⟩
  have e1 := below_of_drew j1.b
  obtain ⟨a1, p1, B1, rfl, o1, g1⟩ := j1.ownx hC.1
  have i1 := o1.ints
  obtain ⟨rfl, -, -⟩ := o1.pos (by omega)
  have y1 : W0.heap.size ≤ B1 := g1 (by omega)
  have l1 := o1.lt (by omega)
  clear j1 o1 g1
  (try dsimp only)
  refine hK.out _ _ ⟨(KP.out _ e1).cells, fun _ => trivial⟩ ?_
  clear hK K'
  refine wpAnyE_one (i := 5) (by kernel_rfl) rfl (fun K' hK => ?_)
  go_simp
  refine (clone_any _ _ _ D _ ((hD.below hb0).below e1) (by omega) (by omega)).mono ?_
  rintro ee w2 ⟨v2, rfl, j2⟩
  have e2 := e1.trans (j2.b.mono e1.size)
  have i1' := i1.below j2.b
  obtain ⟨a2, p2, B2, rfl, o2, g2⟩ := j2.ownx hD.1
  have i2 := o2.ints
  obtain ⟨rfl, -, -⟩ := o2.pos (by omega)
  have y2 : w1.heap.size ≤ B2 := g2 (by omega)
  have l2 := o2.lt (by omega)
  have s1 := e1.size
  have s2 := j2.b.size
  clear j2 o2 g2 i1
  (try dsimp only)
  refine hK.out _ _ ⟨(KP.out _ e2).cells, fun _ => trivial⟩ ?_
  clear hK K'
  refine wpAnyE_one (i := 8) (by kernel_rfl) rfl (fun K' hK => ?_)
  go_simp
  refine hK.out _ _ ⟨(KP.out _ e2).cells, fun _ => trivial⟩ ?_
  clear hK K'
  have HY := KP.out _ e2
  obtain ⟨r0, r1, r2, r3, r4, r5⟩ := HY.room
  obtain ⟨s0', s1', s2', -, -, -⟩ := HY.r.trio
  have T : Touch (fun z => z = w.heap.size + 1) w2 (((w2.setCell ⟨w.heap.size + 1, 0, none⟩ (.slice (some ⟨B1, 0, none⟩) 3 p1)).setCell ⟨w.heap.size + 1, 1, none⟩ (.slice (some ⟨B2, 0, none⟩) 2 p2)).setCell ⟨w.heap.size + 1, 2, none⟩ (.int .i64 K)) := (((Touch.refl (fun z => z = w.heap.size + 1) w2).setCell rfl _).setCell rfl _).setCell rfl _
  have r6 := ((HY.r.set 0 (.slice (some ⟨B1, 0, none⟩) 3 p1)).set 1 (.slice (some ⟨B2, 0, none⟩) 2 p2)).set 2 (.int .i64 K)
  simp only [List.set_cons_zero, List.set_cons_succ] at r6
  have p6 := HY.p.touch T (fun h => by have := h; omega)
  obtain ⟨h0, h1, h2, -, -, -⟩ := r6.trio
  obtain ⟨x0, x1, x2, -, -, -⟩ := p6.trio
  refine wpAnyE_one (i := 9) (by kernel_rfl) rfl (fun K' hK => ?_)
  go_simp
  refine hK.out _ _ ⟨⟨x0, x1, x2⟩, fun h => absurd (show true = false from h) (by decide)⟩ ?_
  clear hK K'
  refine wpAnyE_done (by kernel_rfl) ?_ _
  have q1 := i1'.by T (fun b o e => by simp only [Option.some.injEq, Addr.mk.injEq, and_true] at e; omega)
  have q2 := i2.by T (fun b o e => by simp only [Option.some.injEq, Addr.mk.injEq, and_true] at e; omega)
  have BB := (hb0.trans (e2.mono hb0.size)).trans (T.below (by omega) (fun z hz => by omega))
  clear HY r0 r1 r2 r3 r4 r5 s0' s1' s2' r6 p6 x0 x1 x2 T i1' i2
  go_wp2
  refine bodyPost_ret (v := formV (some ⟨B1, 0, none⟩) 3 p1 (some ⟨B2, 0, none⟩) 2 p2 K) (by simp [results, Try.results165, go_sem, h0, h1, h2]) rfl ?_
  exact ⟨B1, B2, p1, p2, rfl, BB, by omega, by omega, by omega, q1, q2⟩

theorem Try.copiedForm (v : Value) (w : World) : (Go.method 299 34 v "loop.example/concord/impl.copied").run Try.prog w = .ok (165, v) w := by kernel_rfl

set_option maxHeartbeats 3200000 in
theorem icopiesBy_any (ad : Option Addr) (N cap : Nat) (fs : List Frm) (w : World) (hN : fs.length = N) (hF : FormsAt w ad fs) (hfit : ∀ k, k < N → fitX 10000000 (fs[k]?.getD ([], [], 0))) (hN1 : N ≤ 1048576) :
    Calls Try.prog 141 #[.slice ad N cap, .func (.methodOf 34 "loop.example/concord/impl.copied") #[] #[]] w fun e w' => ∃ v xs, e = .returned v ∧ JV w v N xs fs w' := by
  have HN : Hid (fs.length = N) := hN
  have HFT : Hid _ := hfit
  have HF : Hid (FormsAt w ad fs) := hF
  clear hN hfit hF
  obtain ⟨zi, hi, hz0, hz1, hz2⟩ := info_parts Try.infoForm
  have hm := Try.copiedForm
  go_enter Try.func141, Try.ntmps141
  go_wp2_with fail
  go_loopw [5, 7, 10] (fun r _ i wr => ∃ (k : Nat) (xs : List Value), k ≤ N ∧ i = .int .i64 k ∧ JV w r k xs fs wr) (fun _ _ i _ => N - (intOf i).toNat)
  case atStart => exact ⟨0, [], Nat.zero_le _, rfl, JV.nil w _⟩
  case round =>
    obtain ⟨k, xs, hk, rfl, j⟩ := hrel
    by_cases hlt : k < N
    · obtain ⟨va, vc, rfl⟩ := j.isSlice
      have hlt' : (k : Int) < N := by omega
      obtain ⟨b, off, rfl, a', c', ca, cc, c0, c1, c2, iC, iD⟩ := (HF.out.keep j.b) k (by rw [HN.out]; exact hlt)
      have hfit := HFT.out k hlt
      generalize HG : fs[k]?.getD ([], [], 0) = f at *
      have HT : Hid (fs[k]?.getD ([], [], 0) = f) := HG
      clear HG
      obtain ⟨fC, fD, fK⟩ := f
      have lC : fC.length = 3 := hfit.c
      have lD : fD.length = 2 := hfit.d
      simp only at c2 iC iD
      clear hfit
      have A1 : Below wr.heap.size wr (wr.alloc (.cells #[.slice a' 3 ca, .slice c' 2 cc, .int .i64 fK] 34)) := (Below.refl _ _).alloc (Nat.le_refl _) _
      go_wp2_with fail
      refine (icopied_any _ _ _ _ _ fC fD _ (iC.below A1) (iD.below A1)).mono ?_
      rintro ee w3 ⟨Z1, Z2, x0, y0, rfl, b3, z1, z2, z3, k1, k2⟩
      rw [World.size_alloc] at z1 z3
      have b3' := A1.trans (b3.mono A1.size)
      have j3 := j.below b3'
      have sz := j.b.size
      have sz3 := b3'.size
      have A : Below w3.heap.size w3 (w3.alloc (.cells #[.slice (some ⟨Z1, 0, none⟩) 3 x0, .slice (some ⟨Z2, 0, none⟩) 2 y0, .int .i64 fK] 34)) := (Below.refl _ _).alloc (Nat.le_refl _) _
      have j4 := j3.below A
      have k1' := k1.below A
      have k2' := k2.below A
      have n1 : (Value.slice va k vc).ownBlock ≠ some Z1 := fun e => by have := (j.own e).2; omega
      have n2 : (Value.slice va k vc).ownBlock ≠ some Z2 := fun e => by have := (j.own e).2; omega
      clear j j3 c0 c1 c2 iC iD A1 b3 b3'
      go_wp2_with (at_builtin; go_must (refine wpList_append_lies _ rfl (.tmp 14) (.tmp 18) 23 rfl w.heap.size 34 zi _ 3 56 Try.underlying23 hi hz0 hz1 hz2 rfl (by decide) (.slice va k vc) k xs rfl j4.o ⟨w3.heap.size, 0, none⟩ 1 1 [.slice (some ⟨Z1, 0, none⟩) 3 x0, .slice (some ⟨Z2, 0, none⟩) 2 y0, .int .i64 fK] rfl rfl (World.news_of_block (cs := #[.slice (some ⟨Z1, 0, none⟩) 3 x0, .slice (some ⟨Z2, 0, none⟩) 2 y0, .int .i64 fK]) (t := 34) (fr := (0, 0)) (heap_alloc_new w3 _)) (by simp [Value.oneCell']) (by omega) (by unfold maxLen; omega) (by omega) (by rw [World.size_alloc]; omega) _ rfl ?_); intro g cp w4 hown hgrow hat hlt1)
      have j5 := j4.app hown hgrow hat rfl k1' k2' n1 n2 (by omega) (by omega) HT.out
      clear hown hgrow hat j4 k1 k2 k1' k2'
      go_wp2
      go_roundw
      case rel => exact ⟨k + 1, _, by omega, by go_num, j5⟩
      case measure => simp [intOf]; omega
    · obtain rfl : k = N := by omega
      go_wp2
      go_ret
      exact ⟨_, xs, rfl, j⟩

theorem icopies_any (ad : Option Addr) (N cap : Nat) (fs : List Frm) (w : World) (hN : fs.length = N) (hF : FormsAt w ad fs) (hfit : ∀ k, k < N → fitX 10000000 (fs[k]?.getD ([], [], 0))) (hN1 : N ≤ 1048576) :
    Calls Try.prog 134 #[.slice ad N cap] w fun e w' => ∃ v xs, e = .returned v ∧ JV w v N xs fs w' := by
  go_enter Try.func134, Try.ntmps134
  go_wp2_with fail
  refine (icopiesBy_any _ _ _ fs _ hN hF hfit hN1).mono ?_
  rintro e w1 ⟨v, xs, rfl, j⟩
  go_wp2
  go_ret
  exact ⟨v, xs, rfl, j⟩

end Go.Proofs.Ytjggppnffkcmbaa
namespace Go.Proofs.Ytjggppnffkcmbaa
open Go.RowKit Go.Deep
set_option linter.unusedVariables false
set_option maxRecDepth 100000

/-- A way as a value. -/
abbrev wayV (ga : Option Addr) (ng gc : Nat) (pa : Option Addr) (cp : Nat) (ta : Option Addr) (nt tc : Nat) (st : Bool) : Value := .agg #[.slice ga ng gc, .slice pa 3 cp, .slice ta nt tc, .bool st]
theorem resYes {w w' : World} {e : Ending} {C D : List Int} {K : Int} (h : Res w w' e C D K) (hC : C.length = 3) (hD : D.length = 2) : ∃ B1 B2 c1 c2, e = .returned (formV (some ⟨B1, 0, none⟩) 3 c1 (some ⟨B2, 0, none⟩) 2 c2 K) ∧ Below w.heap.size w w' ∧ w.heap.size ≤ B1 ∧ B1 ≠ B2 ∧ w.heap.size ≤ B2 ∧ Blk w' B1 C ∧ Blk w' B2 D := by
  obtain ⟨a, n, cap, c, m, cap', B1, B2, rfl, L1, L2, b, o1, o2, g1, g2, g3⟩ := h
  obtain rfl : n = 3 := by omega
  obtain rfl : m = 2 := by omega
  rcases o1 with h | ⟨rfl, k1⟩
  · rw [h] at hC; cases hC
  rcases o2 with h | ⟨rfl, k2⟩
  · rw [h] at hD; cases hD
  exact ⟨B1, B2, cap, cap', rfl, b, g1 (by omega), g3 (by omega) (by omega), g2 (by omega), k1, k2⟩
theorem iaddX_any (a : Option Addr) (cap : Nat) (c : Option Addr) (cap' : Nat) (f : Frm) (a2 : Option Addr) (cap2 : Nat) (c2 : Option Addr) (cap2' : Nat) (g : Frm) (w : World) (hC : Ints w a 3 f.1) (hD : Ints w c 2 f.2.1) (hC2 : Ints w a2 3 g.1) (hD2 : Ints w c2 2 g.2.1) (h1 : fitX 10000000 f) (h2 : fitX 10000000 g) (h3 : fitX 10000000 (plusX f g)) :
    Calls Try.prog 142 #[formV a 3 cap c 2 cap' f.2.2, formV a2 3 cap2 c2 2 cap2' g.2.2] w fun e w' => ∃ B1 B2 c1 c2, e = .returned (formV (some ⟨B1, 0, none⟩) 3 c1 (some ⟨B2, 0, none⟩) 2 c2 (plusX f g).2.2) ∧ Below w.heap.size w w' ∧ w.heap.size ≤ B1 ∧ B1 ≠ B2 ∧ w.heap.size ≤ B2 ∧ Blk w' B1 (plusX f g).1 ∧ Blk w' B2 (plusX f g).2.1 := by
  have hok : addOk 3 2 f.1 f.2.1 f.2.2 3 2 g.1 g.2.1 g.2.2 = true := by
    have e3 : formB 3 2 (lin f.1 g.1 1) (lin f.2.1 g.2.1 1) (f.2.2 + 1 * g.2.2) = true := fit_ok h3
    unfold addOk
    rw [fit_ok h1, fit_ok h2, e3]; rfl
  refine (iadd_any a 3 cap c 2 cap' f.2.2 f.1 f.2.1 a2 3 cap2 c2 2 cap2' g.2.2 g.1 g.2.1 w hC hD hC2 hD2 (by omega) (by omega) (by omega) (by omega)).mono ?_
  intro e w' h
  rw [hok] at h
  exact resYes h h3.c h3.d
theorem lin_neg (xs ys : List Int) : lin xs (mulL (-1) ys) 1 = lin xs ys (-1) := by
  unfold lin mulL
  rw [List.zipWith_map_right]
  congr 1
  funext x y
  omega
def negX (k : Nat) : Frm := (mulL (-1) (([0, 0, 0] : List Int).set k 1), mulL (-1) [0, 0], -1 * 0)
theorem plus_neg (f : Frm) (k : Nat) : plusX f (negX k) = lessX f k := by
  simp only [plusX, negX, lessX, lin_neg]
  rw [show f.2.2 + 1 * (-1 * 0) = f.2.2 + -1 * 0 by omega]
theorem negX_fit {k : Nat} (hk : k < 3) : fitX 1 (negX k) := by
  have b3 : bnd 1 (mulL (-1) (([0, 0, 0] : List Int).set k 1)) := fun i => by
    match k, hk, i with
    | 0, _, 0 => simp [mulL]
    | 0, _, 1 => simp [mulL]
    | 0, _, 2 => simp [mulL]
    | 0, _, i + 3 => simp [mulL]
    | 1, _, 0 => simp [mulL]
    | 1, _, 1 => simp [mulL]
    | 1, _, 2 => simp [mulL]
    | 1, _, i + 3 => simp [mulL]
    | 2, _, 0 => simp [mulL]
    | 2, _, 1 => simp [mulL]
    | 2, _, 2 => simp [mulL]
    | 2, _, i + 3 => simp [mulL]
  have b2 : bnd 1 (mulL (-1) ([0, 0] : List Int)) := fun i => by
    match i with
    | 0 => simp [mulL]
    | 1 => simp [mulL]
    | i + 2 => simp [mulL]
  exact ⟨by simp [negX, mulL], by simp [negX, mulL], b3, b2, by simp [negX], by simp [negX]⟩
/-- Less than no pot. -/
theorem inegpot_any (k : Nat) (hk : k < 3) (a : Option Addr) (cap : Nat) (c : Option Addr) (cap' : Nat) (w : World) (hC : Ints w a 3 (([0, 0, 0] : List Int).set k 1)) (hD : Ints w c 2 [0, 0]) :
    Calls Try.prog 143 #[formV a 3 cap c 2 cap' 0, .int .i64 (-1)] w fun e w' => ∃ B1 B2 c1 c2, e = .returned (formV (some ⟨B1, 0, none⟩) 3 c1 (some ⟨B2, 0, none⟩) 2 c2 (negX k).2.2) ∧ Below w.heap.size w w' ∧ w.heap.size ≤ B1 ∧ B1 ≠ B2 ∧ w.heap.size ≤ B2 ∧ Blk w' B1 (negX k).1 ∧ Blk w' B2 (negX k).2.1 := by
  have h1 : formB 3 2 (([0, 0, 0] : List Int).set k 1) [0, 0] 0 = true := by
    match k, hk with
    | 0, _ => decide
    | 1, _ => decide
    | 2, _ => decide
  have h2 : formB 3 2 (negX k).1 (negX k).2.1 (negX k).2.2 = true := fit_ok ((negX_fit hk).mono (by omega))
  have hok : timOk 3 2 (([0, 0, 0] : List Int).set k 1) [0, 0] 0 (-1) = true := by
    unfold timOk
    rw [h1]
    have h2' : formB 3 2 (mulL (-1) (([0, 0, 0] : List Int).set k 1)) (mulL (-1) [0, 0]) (-1 * 0) = true := h2
    rw [h2']; rfl
  refine (itim_any a 3 cap c 2 cap' 0 _ _ (-1) w hC hD (by omega) (by omega)).mono ?_
  intro e w' h
  rw [hok] at h
  exact resYes h (negX_fit hk).c (negX_fit hk).d

set_option maxHeartbeats 3200000 in
theorem iadds_any (y : Way) (ga : Option Addr) (ng gc : Nat) (pa : Option Addr) (cp : Nat) (ta : Option Addr) (nt tc : Nat) (st : Bool) (w : World) (hp : y.pots.length = 3) (hP : FormsAt w pa y.pots) (fp : ∀ k, k < 3 → fitX 9000000 (y.pots[k]?.getD noX)) :
    Calls Try.prog 135 #[wayV ga ng gc pa cp ta nt tc st] w fun e w' => ∃ v xs, e = .returned v ∧ JV w v 3 xs (endW y).adds w' := by
  have HPL : Hid (y.pots.length = 3) := hp
  have HFP : Hid _ := fp
  have HP : Hid (FormsAt w pa y.pots) := hP
  clear hp fp hP
  obtain ⟨zi, hi, hz0, hz1, hz2⟩ := info_parts Try.infoForm
  have B0 : Below w.heap.size w (w.alloc (.cells #[.slice ga ng gc, .slice pa 3 cp, .slice ta nt tc, .bool st] 143)) := (Below.refl _ _).alloc (Nat.le_refl _) _
  have j0 : JV w (.slice none 0 0) 0 [] (endW y).adds (w.alloc (.cells #[.slice ga ng gc, .slice pa 3 cp, .slice ta nt tc, .bool st] 143)) := (JV.nil w _).below B0
  go_enter Try.func135, Try.ntmps135
  go_wp2_with fail
  go_loopw [3, 4, 5, 9] (fun r _ _ i wr => ∃ (k : Nat) (xs : List Value), k ≤ 3 ∧ i = .int .i64 k ∧ JV w r k xs (endW y).adds wr) (fun _ _ _ i _ => 3 - (intOf i).toNat)
  case atStart => exact ⟨0, [], by omega, rfl, j0⟩
  case round =>
    clear j0 B0
    obtain ⟨k, xs, hk, rfl, j⟩ := hrel
    by_cases hlt : k < 3
    · obtain ⟨va, vc, rfl⟩ := j.isSlice
      have hlt' : (k : Int) < 3 := by omega
      obtain ⟨b, off, rfl, a', c', ca, cc, c0, c1, c2, iC, iD⟩ := (HP.out.keep j.b) k (by rw [HPL.out]; exact hlt)
      have hfit : fitX 9000000 (y.pots[k]?.getD ([], [], 0)) := HFP.out k hlt
      generalize HG : y.pots[k]?.getD ([], [], 0) = f at *
      have HT : Hid ((endW y).adds[k]?.getD ([], [], 0) = lessX f k) := by
        show _ = _
        rw [show (endW y).adds = (List.range 3).map (fun v => lessX (y.pots[v]?.getD noX) v) from rfl, List.getElem?_map, List.getElem?_range hlt]
        show lessX (y.pots[k]?.getD noX) k = _
        rw [show y.pots[k]?.getD noX = f from HG]
      clear HG
      have fit1 : fitX 10000000 f := hfit.mono (by omega)
      have fit3 : fitX 10000000 (plusX f (negX k)) := (plusX_fit hfit (negX_fit hlt) (by omega)).mono (by omega)
      have fit4 : fitX 10000000 (lessX f k) := by rw [← plus_neg]; exact fit3
      have HF1 : Hid _ := fit1
      have HF3 : Hid _ := fit3
      have lC := fit4.c
      have lD := fit4.d
      have HPN : Hid (plusX f (negX k) = lessX f k) := plus_neg f k
      clear hfit fit1 fit3 fit4
      have A1 : Below wr.heap.size wr (wr.alloc (.cells #[.slice a' 3 ca, .slice c' 2 cc, .int .i64 f.2.2] 34)) := (Below.refl _ _).alloc (Nat.le_refl _) _
      have bx := Cel.new wr [.slice a' 3 ca, .slice c' 2 cc, .int .i64 f.2.2] 34
      go_upto_region 5 with fail
      have z0 : wr.heap.size < (wr.alloc (.cells #[.slice a' 3 ca, .slice c' 2 cc, .int .i64 f.2.2] 34)).heap.size := by rw [World.size_alloc]; omega
      generalize (wr.alloc (.cells #[.slice a' 3 ca, .slice c' 2 cc, .int .i64 f.2.2] 34)) = W0 at *
      have KP : Hid (∀ W, Below W0.heap.size W0 W → Cel W wr.heap.size [.slice a' 3 ca, .slice c' 2 cc, .int .i64 f.2.2] 34) := fun W hW => bx.below hW
      have KQ : Hid (∀ W, Below W0.heap.size W0 W → (W.cell? ⟨wr.heap.size, 0, none⟩ = some (.slice a' 3 ca) ∧ W.cell? ⟨wr.heap.size, 1, none⟩ = some (.slice c' 2 cc) ∧ W.cell? ⟨wr.heap.size, 2, none⟩ = some (.int .i64 f.2.2))) := fun W hW => by
        obtain ⟨n0, n1, n2, _, _, _⟩ := (KP.out W hW).trio
        exact ⟨n0, n1, n2⟩
      have jW := j.below A1
      have iC0 := iC.below A1
      have iD0 := iD.below A1
      have e0 : Below W0.heap.size W0 W0.drew := (Below.refl _ _).drew
      have hSS := And.intro (KQ.out _ e0) (True.intro)
      have OWN : Hid (∀ G : Nat, (Value.slice va k vc).ownBlock = some G → G < wr.heap.size) := fun G e => (j.own e).2
      have sw := jW.b.size
      clear bx j iC iD c0 c1 c2 A1
      refine wp_region_ends (fun w' => w'.cell? ⟨wr.heap.size, 0, none⟩ = some (.slice a' 3 ca) ∧ w'.cell? ⟨wr.heap.size, 1, none⟩ = some (.slice c' 2 cc) ∧ w'.cell? ⟨wr.heap.size, 2, none⟩ = some (.int .i64 f.2.2)) (fun _ => True) 8 (by kernel_rfl) ?_
      refine wpAnyE_take0 (i := 0) (v := ?v0) rfl (by kernel_rfl) (by kernel_rfl) (by kernel_rfl) (by decide) (fun _ _ _ h => h) (Or.inl ⟨by rfl, ?hy0⟩) hSS ?_
      case hy0 => (intro wz hSw; (try dsimp only at hSw); go_simp; try (with_reducible rfl))
      refine wpAnyE_take0 (i := 1) (v := ?v1) rfl (by kernel_rfl) (by kernel_rfl) (by kernel_rfl) (by decide) (fun _ _ _ h => h) (Or.inl ⟨by rfl, ?hy1⟩) hSS ?_
      case hy1 => (intro wz hSw; (try dsimp only at hSw); go_simp; try (with_reducible rfl))
      refine wpAnyE_take0 (i := 2) (v := ?v2) rfl (by kernel_rfl) (by kernel_rfl) (by kernel_rfl) (by decide) (fun _ _ _ h => h) (Or.inl ⟨by rfl, ?hy2⟩) hSS ?_
      case hy2 => (intro wz hSw; (try dsimp only at hSw); go_simp; try (with_reducible rfl))
      clear hSS
      refine wpAnyE_one (i := 3) (by kernel_rfl) rfl (fun K hK => ?_)
      go_simp
      refine (ipot_any _ _).mono ?_
      intro ee w1 hR
      rw [potC_in (k : Int) k rfl (by omega), potD_in (k : Int) (by omega) (by omega)] at hR
      obtain ⟨P1, P2, p1, p2, rfl, b1, -, -, -, u1, u2⟩ := resYes hR (by simp) rfl
      have e1 := below_of_drew b1
      clear hR b1
      (try dsimp only)
      refine hK.out _ _ ⟨KQ.out _ e1, fun _ => trivial⟩ ?_
      clear hK K
      refine wpAnyE_one (i := 4) (by kernel_rfl) rfl (fun K hK => ?_)
      go_simp
      refine (inegpot_any k hlt _ _ _ _ _ (u1.ints' (by simp)) (u2.ints' rfl)).mono ?_
      rintro ee w2 ⟨N1, N2, q1, q2, rfl, b2, -, -, -, v1, v2⟩
      have e2 := e1.trans (b2.mono e1.size)
      clear b2 u1 u2
      (try dsimp only)
      refine hK.out _ _ ⟨KQ.out _ e2, fun _ => trivial⟩ ?_
      clear hK K
      refine wpAnyE_one (i := 5) (by kernel_rfl) rfl (fun K hK => ?_)
      go_simp
      refine (iaddX_any _ _ _ _ f _ _ _ _ (negX k) _ (iC0.below e2) (iD0.below e2) (v1.ints' (by simp [negX, mulL])) (v2.ints' (by simp [negX, mulL])) HF1.out ((negX_fit hlt).mono (by omega)) HF3.out).mono ?_
      rw [HPN.out]
      rintro ee w3 ⟨Z1, Z2, x0, y0, rfl, b3, z1, z2, z3, k1, k2⟩
      have e3 := e2.trans (b3.mono e2.size)
      have s2 := e2.size
      have s3 := b3.size
      clear b3 v1 v2
      (try dsimp only)
      refine hK.out _ _ ⟨KQ.out _ e3, fun _ => trivial⟩ ?_
      clear hK K
      refine wpAnyE_one (i := 6) (by kernel_rfl) rfl (fun K hK => ?_)
      go_simp
      have A : Below w3.heap.size w3 (w3.alloc (.cells #[.slice (some ⟨Z1, 0, none⟩) 3 x0, .slice (some ⟨Z2, 0, none⟩) 2 y0, .int .i64 (lessX f k).2.2] 34)) := (Below.refl _ _).alloc (Nat.le_refl _) _
      have e4 := e3.trans (A.mono e3.size)
      have j4 := jW.below e4
      have k1' := k1.below A
      have k2' := k2.below A
      have n1 : (Value.slice va k vc).ownBlock ≠ some Z1 := fun e => by have := OWN.out _ e; omega
      have n2 : (Value.slice va k vc).ownBlock ≠ some Z2 := fun e => by have := OWN.out _ e; omega
      refine hK.out _ _ ⟨KQ.out _ e4, fun _ => trivial⟩ ?_
      clear hK K jW
      refine wpAnyE_one (i := 7) (by kernel_rfl) rfl (fun K hK => ?_)
      rw [if_pos (by rfl)]
      refine wp_append_lies _ (.tmp 14) (.tmp 20) 23 rfl w.heap.size 34 zi _ 3 56 Try.underlying23 hi hz0 hz1 hz2 rfl (by omega) (.slice va k vc) k xs (by rfl) j4.o ⟨w3.heap.size, 0, none⟩ 1 1 [.slice (some ⟨Z1, 0, none⟩) 3 x0, .slice (some ⟨Z2, 0, none⟩) 2 y0, .int .i64 (lessX f k).2.2] (by rfl) (by rfl) (World.news_of_block (cs := #[.slice (some ⟨Z1, 0, none⟩) 3 x0, .slice (some ⟨Z2, 0, none⟩) 2 y0, .int .i64 (lessX f k).2.2]) (t := 34) (fr := (0, 0)) (heap_alloc_new w3 _)) (by simp [Value.oneCell']) (by omega) (by unfold maxLen; omega) (by omega) j4.b.size _ rfl ?_
      intro g cpg w4 hown hgrow hat hltg
      have j5 := j4.app hown hgrow hat rfl (k1'.ints' lC) (k2'.ints' lD) n1 n2 (by omega) (by omega) HT.out
      have bx4 := (KP.out _ e4).grew hgrow (fun e => by have := OWN.out _ e; omega)
      obtain ⟨m0, m1, m2, -, -, -⟩ := bx4.trio
      refine hK.out _ _ ⟨⟨m0, m1, m2⟩, fun _ => trivial⟩ ?_
      clear hK K hown hgrow hat j4 k1 k2 k1' k2' n1 n2
      refine wpAnyE_one (i := 8) (by kernel_rfl) rfl (fun K hK => ?_)
      go_simp
      refine hK.out _ _ ⟨⟨m0, m1, m2⟩, fun _ => trivial⟩ ?_
      clear hK K
      refine wpAnyE_done (by kernel_rfl) ?_ _
      clear bx4 m0 m1 m2 KP KQ
      go_wp2
      go_roundw
      case rel => exact ⟨k + 1, _, by omega, by go_num, j5⟩
      case measure => simp [intOf]; omega
    · obtain rfl : k = 3 := by omega
      go_wp2
      go_ret
      exact ⟨_, xs, rfl, j⟩

end Go.Proofs.Ytjggppnffkcmbaa
namespace Go.Proofs.Ytjggppnffkcmbaa
open Go.RowKit Go.Deep
set_option linter.unusedVariables false
set_option maxRecDepth 100000

/-- No number of a row is too great. -/
structure RowFit (r : RowM) : Prop where
  g : ∀ k, k < r.guards.length → fitX 10000000 (r.guards[k]?.getD ([], [], 0))
  a : ∀ k, k < r.adds.length → fitX 10000000 (r.adds[k]?.getD ([], [], 0))
  t : ∀ k, k < r.tells.length → fitX 10000000 (r.tells[k]?.getD ([], [], 0))
  lg : r.guards.length ≤ 1000
  la : r.adds.length ≤ 3
  lt : r.tells.length ≤ 1000
theorem endW_fit {i : Nat} {y : Way} (h : WayOk i y) (hi : i ≤ 1000) : RowFit (endW y) := by
  refine ⟨fun k hk => h.gf k hk, fun k hk => ?_, fun k hk => h.tf k hk, ?_, ?_, ?_⟩
  · have hk3 : k < 3 := by
      have : (endW y).adds.length = 3 := by simp [endW]
      omega
    have e : (endW y).adds[k]?.getD ([], [], 0) = lessX (y.pots[k]?.getD noX) k := by
      rw [show (endW y).adds = (List.range 3).map (fun v => lessX (y.pots[v]?.getD noX) v) from rfl, List.getElem?_map, List.getElem?_range hk3]
      rfl
    rw [e, ← plus_neg]
    have h1 := h.pf k hk3
    have h6 := wb_six (n := min i 6) (by omega)
    have hp := wb_pos (min i 6)
    exact (plusX_fit h1 (negX_fit hk3) (by omega)).mono (by omega)
  · show y.guards.length ≤ 1000; have := h.gl; omega
  · simp [endW]
  · show y.tells.length ≤ 1000; have := h.tl; omega
theorem stopW_fit {i : Nat} {y : Way} (h : WayOk i y) (hi : i ≤ 1000) : RowFit (stopW y) :=
  ⟨fun k hk => h.gf k hk, fun k hk => by simp [stopW] at hk, fun k hk => by simp [stopW] at hk, by show y.guards.length ≤ 1000; have := h.gl; omega, by simp [stopW], by simp [stopW]⟩
theorem goW_fit {ls : List LV} (h6 : ls.length ≤ 6) (hall : ls.all LV.ok = true) (hD : ∀ k, k < ls.length → (ls[k]?.getD noLV).f.D.length = (ls[k]?.getD noLV).f.m) (f : Nat) : ∀ (i : Nat) (y : Way), i ≤ 12 + 7 * (7 - f) → f ≤ 7 → WayOk i y → ∀ r ∈ goW ls f i y, RowFit r := by
  induction f with
  | zero => intro i y hi _ h r hr; simp only [goW, List.mem_cons, List.not_mem_nil, or_false] at hr; subst hr; exact endW_fit h (by omega)
  | succ f ih =>
    intro i y hi hf7 h r hr
    rw [goW] at hr
    by_cases hl : i < ls.length
    · rw [if_pos hl] at hr
      have hok : (ls[i]?.getD noLV).ok = true := by
        rw [List.getElem?_eq_getElem hl]
        exact List.all_eq_true.1 hall _ (List.getElem_mem hl)
      have hDD := hD i hl
      generalize ls[i]?.getD noLV = q at *
      by_cases hk4 : q.kind = 4
      · rw [if_neg (by omega), if_neg (by omega), if_neg (by omega)] at hr
        simp only [List.mem_cons, List.not_mem_nil, or_false] at hr
        subst hr
        exact stopW_fit h (by omega)
      · obtain ⟨hsm, hkk, hz, hp⟩ := lineW (show lineB q.kind q.pot q.skip q.f.n q.f.m q.f.C q.f.D q.f.K = true from hok) hk4
        obtain ⟨f1, f2, f3⟩ := h.into (by omega) (f := q.f) hsm hDD
        rcases hkk with e | e | e
        · rw [if_pos e] at hr
          have hz' := hz e
          rcases List.mem_append.1 hr with hr | hr
          · exact ih _ _ (by omega) (by omega) (h.guard (by omega) f2) r hr
          · exact ih _ _ (by omega) (by omega) (h.guard (by omega) f3) r hr
        · rw [if_neg (by omega), if_pos e] at hr
          have hp' := hp e
          exact ih _ _ (by omega) (by omega) (h.add (by omega) (by omega) f1) r hr
        · rw [if_neg (by omega), if_neg (by omega), if_pos e] at hr
          exact ih _ _ (by omega) (by omega) (h.tell (by omega) f2) r hr
    · rw [if_neg hl] at hr
      simp only [List.mem_cons, List.not_mem_nil, or_false] at hr
      subst hr
      exact endW_fit h (by omega)

/-- What ways tell of, or add by. -/
def readsR (rs : List RowM) (v : Nat) : Bool := rs.any fun r => r.adds.any (fun f => hasP f v) || r.tells.any (fun f => hasP f v)
theorem readsR_snoc (rs : List RowM) (k : Nat) (hk : k < rs.length) (v : Nat) : readsR (rs.take (k + 1)) v = readsF (readsF (readsR (rs.take k)) (rs[k]?.getD noR).adds) (rs[k]?.getD noR).tells v := by
  rw [readsR, List.take_succ_eq_append_getElem hk, List.any_append, List.getElem?_eq_getElem hk]
  simp [readsF, readsR, Bool.or_assoc]
theorem rowsL_fit {ls : List LV} {w : World} {ad : Option Addr} (h6 : ls.length ≤ 6) (hall : ls.all LV.ok = true) (hF : LinesG w ad ls) : ∀ r ∈ rowsL ls, RowFit r :=
  goW_fit h6 hall (fun k hk => by obtain ⟨b, off, e, hc, hA⟩ := hF k hk; exact hA.D.1) 7 0 way0 (by omega) (by omega) WayOk.start

theorem OwnB.below {W W' : World} {G : Nat} {f : Nat → Bool} (h : OwnB W G f) (b : Below W.heap.size W W') : OwnB W' G f := by
  obtain ⟨cur, hc, hv⟩ := h
  exact ⟨cur, hc.below b, hv⟩

set_option maxHeartbeats 6400000 in
theorem scatreads_any (ad : Option Addr) (N cap : Nat) (ls : List LV) (w : World) (hN : ls.length = N) (hF : LinesG w ad ls) (hN1 : N ≤ 1048576) :
    Calls Try.prog 35 #[.slice ad N cap] w fun e w' => Below w.heap.size w w' ∧ ((actB N ls = false ∧ ∃ G, e = .returned (.slice (some ⟨G, 0, none⟩) 0 0)) ∨ (actB N ls = true ∧ ∃ G cG, e = .returned (.slice (some ⟨G, 0, none⟩) 3 cG) ∧ w.heap.size ≤ G ∧ OwnB w' G (readsR (rowsL ls)))) := by
  have HN : Hid (ls.length = N) := hN
  clear hN
  obtain ⟨u, hu⟩ : ∃ u, actB N ls = u := ⟨_, rfl⟩
  have HU : Hid (actB N ls = u) := hu
  go_enter Try.func35, Try.ntmps35
  go_wp2_with fail
  refine (sact_any _ _ _ ls _ HN.out hF hN1).mono ?_
  rintro e w1 ⟨rfl, b1⟩
  rw [hu]
  clear hu
  cases u with
  | false =>
    have B2 := b1.alloc b1.size (.cells #[] 4)
    go_wp2
    go_ret
    exact ⟨B2, .inl ⟨HU.out, _, rfl⟩⟩
  | true =>
    obtain ⟨h6, hall⟩ := actB_parts HU.out
    have HFIT : Hid _ := rowsL_fit (by rw [HN.out]; exact h6) hall hF
    have HRB : Hid (rowsB N ls = rowsL ls) := by show _ = _; rw [rowsB, HU.out]; rfl
    have A : Below w1.heap.size w1 (w1.alloc (.cells #[.bool false, .bool false, .bool false] 4)) := (Below.refl _ _).alloc (Nat.le_refl _) _
    have o0 : OwnB (w1.alloc (.cells #[.bool false, .bool false, .bool false] 4)) w1.heap.size (readsR ((rowsL ls).take 0)) := ⟨_, Cel.new w1 [.bool false, .bool false, .bool false] 4, fun v hv => by
      match v, hv with
      | 0, _ => simp [readsR]
      | 1, _ => simp [readsR]
      | 2, _ => simp [readsR]⟩
    have B2 := b1.trans (A.mono b1.size)
    clear hall
    go_wp2_with fail
    refine (srows_any _ _ _ ls _ HN.out (hF.below B2) hN1).mono ?_
    rw [HRB.out]
    rintro ee w3 ⟨Gr, cr, xs, rfl, j3⟩
    have B3 := B2.trans (j3.b.mono B2.size)
    have o3 := o0.below j3.b
    have lG0 : w.heap.size ≤ w1.heap.size := b1.size
    obtain ⟨R, hR⟩ : ∃ R, R = rowsL ls := ⟨_, rfl⟩
    have HR : Hid (R = rowsL ls) := hR
    have q1 : R.length ≤ 128 := by rw [hR]; exact goW_128 (by omega)
    rw [← hR] at o3 j3 HFIT ⊢
    obtain ⟨wb, hwb⟩ : ∃ wb, wb = w1.alloc (.cells #[.bool false, .bool false, .bool false] 4) := ⟨_, rfl⟩
    rw [← hwb] at j3
    clear o0 A hR hwb B2 HRB
    go_wp2_with fail
    go_loopw [3, 5] (fun p i wr => ∃ (k G cG : Nat), k ≤ R.length ∧ i = .int .i64 k ∧ p = .slice (some ⟨G, 0, none⟩) 3 cG ∧ w.heap.size ≤ G ∧ Below w.heap.size w wr ∧ OwnB wr G (readsR (R.take k)) ∧ JR wb Gr cr xs R wr) (fun _ i _ => R.length - (intOf i).toNat)
    case atStart => exact ⟨0, w1.heap.size, 3, Nat.zero_le _, rfl, rfl, lG0, B3, o3, j3⟩
    case round =>
      clear B3 o3 j3 lG0
      obtain ⟨k, G, cG, hk, rfl, rfl, lG, hb, o, j⟩ := hrel
      by_cases hlt : k < R.length
      · have hlt' : (k : Int) < R.length := by omega
        obtain ⟨ga, gc, aa, ac, ta, tc, x0, x1, x2, x3, f0, f1, f2⟩ := j.r k hlt
        have HS : Hid (∀ v, readsR (R.take (k + 1)) v = readsF (readsF (readsR (R.take k)) (R[k]?.getD noR).adds) (R[k]?.getD noR).tells v) := fun v => readsR_snoc R k hlt v
        have hfit : RowFit (R[k]?.getD noR) := HFIT.out _ (by rw [List.getElem?_eq_getElem hlt]; exact List.getElem_mem hlt)
        generalize R[k]?.getD noR = q at *
        have HA : Hid _ := hfit.a
        have HTt : Hid _ := hfit.t
        have la := hfit.la
        have lt := hfit.lt
        have sl := j.o.1
        have n1 := (own_cell j.o (k * 4 + 1) (by omega)).trans x1
        have n2 := (own_cell j.o (k * 4 + 2) (by omega)).trans x2
        have lGr := j.lt
        have FA := f1.at
        have FT := f2.at
        have KP : Hid (∀ W, Below wr.heap.size wr W → (W.cell? ⟨Gr, k * 4 + 1, none⟩ = some (.slice aa q.adds.length ac) ∧ W.cell? ⟨Gr, k * 4 + 2, none⟩ = some (.slice ta q.tells.length tc))) := fun W hW => ⟨(hW.cell (p := ⟨Gr, k * 4 + 1, none⟩) lGr.2).trans n1, (hW.cell (p := ⟨Gr, k * 4 + 2, none⟩) lGr.2).trans n2⟩
        have e0 : Below wr.heap.size wr wr.drew := (Below.refl _ _).drew
        have hSS := And.intro (KP.out _ e0) (True.intro)
        clear hfit x0 x1 x2 x3 f0 f1 f2
        go_upto_region 8 with fail
        refine wp_region_ends (fun w' => w'.cell? ⟨Gr, k * 4 + 1, none⟩ = some (.slice aa q.adds.length ac) ∧ w'.cell? ⟨Gr, k * 4 + 2, none⟩ = some (.slice ta q.tells.length tc)) (fun _ => True) 13 (by kernel_rfl) ?_
        refine wpAnyE_take0 (i := 0) (v := ?v0) rfl (by kernel_rfl) (by kernel_rfl) (by kernel_rfl) (by decide) (fun _ _ _ h => h) (Or.inl ⟨by rfl, ?hy0⟩) hSS ?_
        case hy0 => (intro wz hSw; (try dsimp only at hSw); go_simp; try (with_reducible rfl))
        refine wpAnyE_take0 (i := 1) (v := ?v1) rfl (by kernel_rfl) (by kernel_rfl) (by kernel_rfl) (by decide) (fun _ _ _ h => h) (Or.inl ⟨by rfl, ?hy1⟩) hSS ?_
        case hy1 => (intro wz hSw; (try dsimp only at hSw); go_simp; try (with_reducible rfl))
        refine wpAnyE_take0 (i := 2) (v := ?v2) rfl (by kernel_rfl) (by kernel_rfl) (by kernel_rfl) (by decide) (fun _ _ _ h => h) (Or.inl ⟨by rfl, ?hy2⟩) hSS ?_
        case hy2 => (intro wz hSw; (try dsimp only at hSw); go_simp; try (with_reducible rfl))
        refine wpAnyE_take0 (i := 3) (v := ?v3) rfl (by kernel_rfl) (by kernel_rfl) (by kernel_rfl) (by decide) (fun _ _ _ h => h) (Or.inl ⟨by rfl, ?hy3⟩) hSS ?_
        case hy3 => (intro wz hSw; (try dsimp only at hSw); go_simp; try (with_reducible rfl))
        refine wpAnyE_take0 (i := 4) (v := ?v4) rfl (by kernel_rfl) (by kernel_rfl) (by kernel_rfl) (by decide) (fun _ _ _ h => h) (Or.inl ⟨by rfl, ?hy4⟩) hSS ?_
        case hy4 => (intro wz hSw; (try dsimp only at hSw); go_simp; try (with_reducible rfl))
        refine wpAnyE_take0 (i := 5) (v := ?v5) rfl (by kernel_rfl) (by kernel_rfl) (by kernel_rfl) (by decide) (fun _ _ _ h => h) (Or.inl ⟨by rfl, ?hy5⟩) hSS ?_
        case hy5 => (intro wz hSw; (try dsimp only at hSw); go_simp; try (with_reducible rfl))
        refine wpAnyE_take0 (i := 7) (v := ?v7) rfl (by kernel_rfl) (by kernel_rfl) (by kernel_rfl) (by decide) (fun _ _ _ h => h) (Or.inl ⟨by rfl, ?hy7⟩) hSS ?_
        case hy7 => (intro wz hSw; (try dsimp only at hSw); go_simp; try (with_reducible rfl))
        refine wpAnyE_take0 (i := 8) (v := ?v8) rfl (by kernel_rfl) (by kernel_rfl) (by kernel_rfl) (by decide) (fun _ _ _ h => h) (Or.inl ⟨by rfl, ?hy8⟩) hSS ?_
        case hy8 => (intro wz hSw; (try dsimp only at hSw); go_simp; try (with_reducible rfl))
        refine wpAnyE_take0 (i := 9) (v := ?v9) rfl (by kernel_rfl) (by kernel_rfl) (by kernel_rfl) (by decide) (fun _ _ _ h => h) (Or.inl ⟨by rfl, ?hy9⟩) hSS ?_
        case hy9 => (intro wz hSw; (try dsimp only at hSw); go_simp; try (with_reducible rfl))
        refine wpAnyE_take0 (i := 10) (v := ?v10) rfl (by kernel_rfl) (by kernel_rfl) (by kernel_rfl) (by decide) (fun _ _ _ h => h) (Or.inl ⟨by rfl, ?hy10⟩) hSS ?_
        case hy10 => (intro wz hSw; (try dsimp only at hSw); go_simp; try (with_reducible rfl))
        refine wpAnyE_take0 (i := 11) (v := ?v11) rfl (by kernel_rfl) (by kernel_rfl) (by kernel_rfl) (by decide) (fun _ _ _ h => h) (Or.inl ⟨by rfl, ?hy11⟩) hSS ?_
        case hy11 => (intro wz hSw; (try dsimp only at hSw); go_simp; try (with_reducible rfl))
        clear hSS
        refine wpAnyE_one (i := 6) (by kernel_rfl) rfl (fun K hK => ?_)
        go_simp
        refine (sreads_any _ _ _ _ _ _ q.adds _ (o.bools.below e0) rfl (FA.keep e0) HA.out (by omega)).mono ?_
        rintro ee w4 ⟨G4, c4, rfl, bd4, l4, o4⟩
        have b4 := below_of_drew bd4
        have l4x : wr.heap.size ≤ G4 := l4
        clear bd4 l4
        (try dsimp only)
        refine hK.out _ _ ⟨KP.out _ b4, fun _ => trivial⟩ ?_
        clear hK K
        refine wpAnyE_one (i := 12) (by kernel_rfl) rfl (fun K hK => ?_)
        go_simp
        refine (sreads_any _ _ _ _ _ _ q.tells _ o4.bools rfl (FT.keep b4) HTt.out (by omega)).mono ?_
        rintro ee w5 ⟨G5, c5, rfl, bd5, l5, o5⟩
        have b5 := b4.trans (bd5.mono b4.size)
        have s4 := b4.size
        have sb := hb.size
        have O5 : Hid (OwnB w5 G5 (readsR (R.take (k + 1)))) := o5.ext (fun v _ => (HS.out v).symm)
        have J5 := j.below b5
        have B5 := hb.trans (b5.mono hb.size)
        clear bd5 o4 o5 o j
        (try dsimp only)
        refine hK.out _ _ ⟨KP.out _ b5, fun _ => trivial⟩ ?_
        clear hK K
        refine wpAnyE_one (i := 13) (by kernel_rfl) rfl (fun K hK => ?_)
        go_simp
        refine hK.out _ _ ⟨KP.out _ b5, fun _ => trivial⟩ ?_
        clear hK K
        refine wpAnyE_done (by kernel_rfl) ?_ _
        clear KP b4 b5 FA FT n1 n2
        go_wp2
        go_roundw
        case rel => exact ⟨k + 1, G5, c5, by omega, by go_num, rfl, by omega, B5, O5.out, J5⟩
        case measure => simp [intOf]; omega
      · obtain rfl : k = R.length := by omega
        have O : OwnB wr G (readsR R) := by
          have : R.take R.length = R := List.take_of_length_le (Nat.le_refl _)
          rw [this] at o; exact o
        go_wp2
        go_ret
        rw [← HR.out]
        exact ⟨hb, .inr ⟨HU.out, G, cG, rfl, lG, O⟩⟩

end Go.Proofs.Ytjggppnffkcmbaa
namespace Go.Proofs.Ytjggppnffkcmbaa
open Go.ChangeShapes Go.WideShapes Go.ChangeAt Go.RowKit Go.Joins Go.Deep
set_option linter.unusedVariables false
set_option maxRecDepth 100000

/-- A slice, and what it holds. -/
structure IV where
  a : Option Addr
  n : Nat
  cap : Nat
  x : List Int
def noI : IV := ⟨none, 0, 0, []⟩
def IV.v (s : IV) : Value := .slice s.a s.n s.cap

theorem trod_len1 {H : Type} {enc : TypeId × Value → H} {W : World} {fuel : Nat} {t e : TypeId} {cs : List Value} {x : DataW H × List MemPlace} (hS : Try.prog.underlying t = some (.slice e)) (hf : DataW.trod enc Try.prog W 0 (fun _ => true) true fuel t cs = some x) : cs.length = 1 := by
  rcases open_slice hS hf with ⟨h, _⟩ | ⟨a, len, cap, m, n, D, Pl, h, _⟩ <;> rw [h] <;> rfl

def IM (w : World) (s : IV) : Prop := Ints w s.a s.n s.x ∧ s.n ≤ maxLen
def IG (w : World) (s : IV) : Prop := Ints w s.a s.n s.x ∧ s.n ≤ 1048576
def IS (s : IV) : Prop := s.n ≤ 1048576
def IK (w : World) (lo : Nat) (s : IV) : Prop := ∃ B, s.a = some ⟨B, 0, none⟩ ∧ lo ≤ B ∧ Blk w B s.x ∧ s.x.length = s.n ∧ s.n ≤ 1048576
def copiesI (s t : IV) : Prop := t.n = s.n ∧ t.x = s.x
def sameI (s t : IV) : Prop := s.x = t.x
theorem IM.below {w w' : World} {s : IV} (h : IM w s) (hb : Below w.heap.size w w') : IM w' s := ⟨h.1.below hb, h.2⟩
theorem IG.below {w w' : World} {s : IV} (h : IG w s) (hb : Below w.heap.size w w') : IG w' s := ⟨h.1.below hb, h.2⟩
theorem IM.g {w : World} {s : IV} (h : IM w s) (hs : IS s) : IG w s := ⟨h.1, hs⟩
theorem IK.below {w w' : World} {lo : Nat} {s : IV} (h : IK w lo s) (hb : Below w.heap.size w w') : IK w' lo s := by
  obtain ⟨B, h1, h2, h3, h4⟩ := h
  exact ⟨B, h1, h2, h3.below hb, h4⟩
theorem IK.touch {S : Nat → Prop} {w w' : World} {lo : Nat} {s : IV} (h : IK w lo s) (t : Touch S w w') (hs : ∀ k, S k → k < lo) : IK w' lo s := by
  obtain ⟨B, h1, h2, h3, h4⟩ := h
  refine ⟨B, h1, h2, ?_, h4⟩
  unfold Blk at *
  rw [t.block B (lt_of_block h3) (fun hh => by have := hs _ hh; omega)]; exact h3
theorem IK.mono {w : World} {lo lo' : Nat} {s : IV} (h : IK w lo s) (hl : lo' ≤ lo) : IK w lo' s := by
  obtain ⟨B, h1, h2, h3⟩ := h
  exact ⟨B, h1, by omega, h3⟩
theorem IK.g {w : World} {lo : Nat} {s : IV} (h : IK w lo s) : IG w s := by
  obtain ⟨B, h1, h2, h3, h4, h5⟩ := h
  refine ⟨?_, h5⟩
  rw [h1, ← h4]; exact h3.ints
theorem open_I1 {H : Type} {enc : TypeId × Value → H} {W : World} {fuel : Nat} {v : Value} {y : DataW H × List MemPlace}
    (hf : DataW.trod enc Try.prog W 0 (fun _ => true) true fuel 26 [v] = some y) : ∃ s : IV, v = s.v ∧ IM W s := by
  obtain ⟨a, n, cap, zs, rfl, h1, h2⟩ := open_row hf
  exact ⟨⟨a, n, cap, zs⟩, rfl, h1, h2⟩

/-- A slice of slices that came in. -/
def ISM (w : World) (ad : Option Addr) (ss : List IV) : Prop :=
  ∀ i, i < ss.length → ∃ b off, ad = some ⟨b, off, none⟩ ∧ w.cell? ⟨b, off + i, none⟩ = some (ss[i]?.getD noI).v ∧ IM w (ss[i]?.getD noI)
/-- One that may be copied. -/
def ISG (w : World) (ad : Option Addr) (ss : List IV) : Prop :=
  ∀ i, i < ss.length → ∃ b off, ad = some ⟨b, off, none⟩ ∧ w.cell? ⟨b, off + i, none⟩ = some (ss[i]?.getD noI).v ∧ IG w (ss[i]?.getD noI)
theorem ISM.below {w w' : World} {ad : Option Addr} {ss : List IV} (h : ISM w ad ss) (hb : Below w.heap.size w w') : ISM w' ad ss := fun i hi => by
  obtain ⟨b, off, e, hc, hr⟩ := h i hi
  exact ⟨b, off, e, by rw [hb.cell (p := ⟨b, off + i, none⟩) (block_lt hc)]; exact hc, hr.below hb⟩
theorem ISG.below {w w' : World} {ad : Option Addr} {ss : List IV} (h : ISG w ad ss) (hb : Below w.heap.size w w') : ISG w' ad ss := fun i hi => by
  obtain ⟨b, off, e, hc, hr⟩ := h i hi
  exact ⟨b, off, e, by rw [hb.cell (p := ⟨b, off + i, none⟩) (block_lt hc)]; exact hc, hr.below hb⟩
theorem ISM.g {w : World} {ad : Option Addr} {ss : List IV} (h : ISM w ad ss) (hs : ∀ i, i < ss.length → IS (ss[i]?.getD noI)) : ISG w ad ss := fun i hi => by
  obtain ⟨b, off, e, hc, hr⟩ := h i hi
  exact ⟨b, off, e, hc, hr.g (hs i hi)⟩

theorem open_IS {H : Type} {enc : TypeId × Value → H} {W : World} {r : Reach} {b0 : Nat} {v : Value} {d : DataW H} {p : List MemPlace}
    (hv : Value.okWide Try.prog W r b0 46 v) (h : DataW.Trod enc Try.prog W 0 (fun _ => true) true 46 v d p) :
    ∃ ad N cap ss, v = .slice ad N cap ∧ ss.length = N ∧ ISM W ad ss ∧ N ≤ maxLen := by
  obtain ⟨ad, N, cap, ss, hv, hl, hN, hall⟩ := open_sliceT noI (fun s => [IV.v s]) (fun s => IM W s) (c := 1) (by omega) Try.underlying46 (by kernel_rfl) (fun _ => rfl) (fun fuel cs x hx => by
    have hl : cs.length = 1 := (trod_len1 Try.underlying26 hx)
    match cs, hl with
    | [c], _ =>
      obtain ⟨s, hs, hr⟩ := open_I1 hx
      exact ⟨s, by rw [hs], hr⟩) hv h
  refine ⟨ad, N, cap, ss, hv, hl, fun i hi => ?_, hN⟩
  obtain ⟨b, off, e, hc, hr⟩ := hall i hi
  have h0 := hc 0 (by omega)
  simp only [Nat.mul_one, Nat.add_zero, List.getElem?_cons_zero] at h0
  exact ⟨b, off, e, h0, hr⟩

/-- Each holds what the other does. -/
def copiesIS (ss ts : List IV) : Prop := ∀ i, i < ts.length → copiesI (ss[i]?.getD noI) (ts[i]?.getD noI)

/-- Block B holds N slices, of which those of ts have been laid. -/
structure MI (W : World) (B N : Nat) (ts : List IV) : Prop where
  c : ∃ vs : List Value, Cel W B vs 26 ∧ vs.length = N ∧ ∀ i, i < ts.length → vs[i]? = some (ts[i]?.getD noI).v
  l : ∀ i, i < ts.length → IK W (B + 1) (ts[i]?.getD noI)
theorem MI.lt {W : World} {B N : Nat} {ts : List IV} (h : MI W B N ts) : B < W.heap.size := by
  obtain ⟨vs, h1, _⟩ := h.c
  exact h1.lt
theorem MI.below {W W' : World} {B N : Nat} {ts : List IV} (h : MI W B N ts) (b : Below W.heap.size W W') : MI W' B N ts := by
  obtain ⟨vs, h1, h2, h3⟩ := h.c
  exact ⟨⟨vs, h1.below b, h2, h3⟩, fun i hi => (h.l i hi).below b⟩
theorem MI.g {W : World} {B N : Nat} {ts : List IV} (h : MI W B N ts) : ISG W (some ⟨B, 0, none⟩) ts := fun i hi => by
  obtain ⟨vs, h1, h2, h3⟩ := h.c
  exact ⟨B, 0, rfl, by rw [Nat.zero_add, h1.cell i, h3 i hi], (h.l i hi).g⟩
theorem MI.step {W W1 : World} {B N k : Nat} {ts : List IV} {s : IV} (h : MI W B N ts) (hk : ts.length = k) (hkN : k < N) (b : Below W.heap.size W W1) (hs : IK W1 W.heap.size s) : MI (W1.setCell ⟨B, k, none⟩ s.v) B N (ts ++ [s]) := by
  have hB := h.lt
  obtain ⟨vs, h1, h2, h3⟩ := (h.below b).c
  have T : Touch (fun x => x = B) W1 (W1.setCell ⟨B, k, none⟩ s.v) := Touch.setCell (S := fun x => x = B) (Touch.refl _ _) rfl _
  refine ⟨⟨vs.set k s.v, h1.set _ _, by rw [List.length_set]; exact h2, fun i hi => ?_⟩, fun i hi => ?_⟩
  · rw [List.length_append, hk] at hi
    simp only [List.length_cons, List.length_nil] at hi
    by_cases e : i = k
    · subst e
      rw [List.getElem?_set_self (by omega), List.getElem?_append_right (by omega), hk]; simp
    · rw [List.getElem?_set_ne (by omega), List.getElem?_append_left (by omega)]
      exact h3 i (by omega)
  · rw [List.length_append, hk] at hi
    simp only [List.length_cons, List.length_nil] at hi
    by_cases e : i = k
    · subst e
      rw [List.getElem?_append_right (by omega), hk]
      simp only [Nat.sub_self, List.getElem?_cons_zero, Option.getD_some]
      exact (hs.mono (by omega)).touch T (fun x hx => by omega)
    · rw [List.getElem?_append_left (by omega)]
      exact (((h.l i (by omega)).below b)).touch T (fun x hx => by omega)

theorem Try.infoI : (Try.prog.info? 26).map (fun i => (i.zero, i.size, i.bytes)) = some (some (.slice none 0 0), 1, 24) := by kernel_rfl

end Go.Proofs.Ytjggppnffkcmbaa
namespace Go.Proofs.Ytjggppnffkcmbaa
open Go.RowKit
set_option linter.unusedVariables false

set_option maxHeartbeats 400000 in
theorem l4same_any (a c : Option Addr) (n m cap cap' : Nat) (xs ys : List Int) (w : World) (h : Ints w a n xs) (h' : Ints w c m ys) (hn : n ≤ 1048576) (hm : m ≤ 1048576) :
    Calls Try.prog 79 #[.slice a n cap, .slice c m cap'] w fun e w' => e = .returned (.bool (eqB xs ys)) ∧ Below w.heap.size w w' := by
  have hx := h.1
  have HX : Hid (xs.length = n) := hx
  have hy := h'.1
  have HY : Hid (ys.length = m) := hy
  clear hx hy
  by_cases hc : n = m
  · subst hc
    go_enter Try.func79, Try.ntmps79
    go_wp2_with fail
    go_loopw [5] (fun i wr => ∃ k : Nat, k ≤ n ∧ i = .int .i64 k ∧ Below w.heap.size w wr ∧ xs.take k = ys.take k) (fun i _ => n - (intOf i).toNat)
    case atStart => exact ⟨0, Nat.zero_le _, rfl, Below.refl _ _, rfl⟩
    case round =>
      obtain ⟨k, hk, rfl, hnx, hall⟩ := hrel
      have HA : Hid (xs.take k = ys.take k) := hall
      clear hall
      by_cases hlt : k < n
      · obtain ⟨b, off, rfl, hcell⟩ := (h.below hnx).pos (by omega)
        obtain ⟨b', off', rfl, hcell'⟩ := (h'.below hnx).pos (by omega)
        have hck := hcell k hlt
        have hck' := hcell' k hlt
        have hlt' : (k : Int) < (n : Int) := by omega
        clear hcell hcell' h h'
        go_wp2_with fail
        go_quiet (fail)
        cases he : (xs[k]?.getD 0 != ys[k]?.getD 0)
        · go_wp2
          go_roundw
          case rel => exact ⟨k + 1, by omega, by go_num, below_drewN hnx _, take_same_succ (by rw [HX.out]; exact hlt) (by rw [HY.out]; exact hlt) HA.out (by simpa using he)⟩
          case measure => simp [intOf]; omega
        · go_wp2
          go_ret
          exact ⟨ret_bool (by rw [eqB_false (k := k) (by simpa using he)]), below_drewN hnx _⟩
      · go_wp2
        go_ret
        exact ⟨ret_bool (by rw [eqB_true HX.out HY.out (by omega) HA.out]), hnx⟩
  · have hne : ((n : Int) != (m : Int)) = true := by simp; omega
    go_enter Try.func79, Try.ntmps79
    go_wp2
    go_ret
    exact ⟨ret_bool (by rw [eqB_len (by rw [HX.out, HY.out]; exact hc)]), Below.refl _ _⟩

set_option maxHeartbeats 400000 in
theorem equal_any (a c : Option Addr) (n m cap cap' : Nat) (xs ys : List Int) (w : World) (h : Ints w a n xs) (h' : Ints w c m ys) (hn : n ≤ 1048576) (hm : m ≤ 1048576) :
    Calls Try.prog 100 #[.slice a n cap, .slice c m cap'] w fun e w' => e = .returned (.bool (eqB xs ys)) ∧ Below w.heap.size w w' := by
  have hx := h.1
  have HX : Hid (xs.length = n) := hx
  have hy := h'.1
  have HY : Hid (ys.length = m) := hy
  clear hx hy
  by_cases hc : n = m
  · subst hc
    go_enter Try.func100, Try.ntmps100
    go_wp2_with fail
    go_loopw [5, 13] (fun _ i wr => ∃ k : Nat, k ≤ n ∧ i = .int .i64 k ∧ Below w.heap.size w wr ∧ xs.take k = ys.take k) (fun _ i _ => n - (intOf i).toNat)
    case atStart => exact ⟨0, Nat.zero_le _, rfl, Below.refl _ _, rfl⟩
    case round =>
      obtain ⟨k, hk, rfl, hnx, hall⟩ := hrel
      have HA : Hid (xs.take k = ys.take k) := hall
      clear hall
      by_cases hlt : k < n
      · obtain ⟨b, off, rfl, hcell⟩ := (h.below hnx).pos (by omega)
        obtain ⟨b', off', rfl, hcell'⟩ := (h'.below hnx).pos (by omega)
        have hck := hcell k hlt
        have hck' := hcell' k hlt
        have hlt' : (k : Int) < (n : Int) := by omega
        clear hcell hcell' h h'
        go_wp2_with fail
        go_quiet (fail)
        cases he : (xs[k]?.getD 0 != ys[k]?.getD 0)
        · go_wp2
          go_roundw
          case rel => exact ⟨k + 1, by omega, by go_num, below_drewN hnx _, take_same_succ (by rw [HX.out]; exact hlt) (by rw [HY.out]; exact hlt) HA.out (by simpa using he)⟩
          case measure => simp [intOf]; omega
        · go_wp2
          go_ret
          exact ⟨ret_bool (by rw [eqB_false (k := k) (by simpa using he)]), below_drewN hnx _⟩
      · go_wp2
        go_ret
        exact ⟨ret_bool (by rw [eqB_true HX.out HY.out (by omega) HA.out]), hnx⟩
  · have hne : ((n : Int) != (m : Int)) = true := by simp; omega
    go_enter Try.func100, Try.ntmps100
    go_wp2
    go_ret
    exact ⟨ret_bool (by rw [eqB_len (by rw [HX.out, HY.out]; exact hc)]), Below.refl _ _⟩

/-- The place of a part among others, from place k on. -/
def hasFrom (part : List Int) : Nat → List (List Int) → Int
  | _, [] => -1
  | k, x :: t => if eqB x part then k else hasFrom part (k + 1) t
def hasI (ss : List IV) (part : List Int) : Int := hasFrom part 0 (ss.map IV.x)
theorem has_drop {ss : List IV} {part : List Int} {k : Nat} (h : k < ss.length) : hasFrom part k ((ss.map IV.x).drop k) = if eqB (ss[k]?.getD noI).x part then (k : Int) else hasFrom part (k + 1) ((ss.map IV.x).drop (k + 1)) := by
  have hl : k < (ss.map IV.x).length := by simpa using h
  rw [List.drop_eq_getElem_cons hl, hasFrom, List.getElem?_eq_getElem h]
  simp
theorem has_end {ss : List IV} {part : List Int} {k : Nat} (h : ss.length ≤ k) : hasFrom part k ((ss.map IV.x).drop k) = -1 := by
  rw [List.drop_eq_nil_of_le (by simpa using h)]; rfl

set_option maxHeartbeats 800000 in
theorem shas_any (ad : Option Addr) (N cap : Nat) (ss : List IV) (c : Option Addr) (m cap' : Nat) (part : List Int) (w : World) (hN : ss.length = N) (hF : ISG w ad ss) (hN1 : N ≤ 1048576) (hP : Ints w c m part) (hm : m ≤ 1048576) :
    Calls Try.prog 81 #[.slice ad N cap, .slice c m cap'] w fun e w' => e = .returned (.int .i64 (hasI ss part)) ∧ Below w.heap.size w w' := by
  have HN : Hid (ss.length = N) := hN
  clear hN
  go_enter Try.func81, Try.ntmps81
  go_wp2_with fail
  go_loopw [5] (fun i wr => ∃ k : Nat, k ≤ N ∧ i = .int .i64 k ∧ Below w.heap.size w wr ∧ hasI ss part = hasFrom part k ((ss.map IV.x).drop k)) (fun i _ => N - (intOf i).toNat)
  case atStart => exact ⟨0, Nat.zero_le _, rfl, Below.refl _ _, rfl⟩
  case round =>
    obtain ⟨k, hk, rfl, hb, hall⟩ := hrel
    have HA : Hid _ := hall
    clear hall
    by_cases hlt : k < N
    · obtain ⟨b, off, rfl, hc, hr⟩ := (hF.below hb) k (by rw [HN.out]; exact hlt)
      have HD : Hid _ := has_drop (ss := ss) (part := part) (k := k) (by rw [HN.out]; exact hlt)
      generalize HG : ss[k]?.getD noI = g at *
      clear HG hF
      obtain ⟨ga, gn, gcap, gx⟩ := g
      have hc' : wr.cell? ⟨b, off + k, none⟩ = some (.slice ga gn gcap) := hc
      clear hc
      cases he : eqB gx part
      · go_wp2_with fail
        refine (l4same_any _ _ _ _ _ _ gx part _ hr.1 (hP.below hb) hr.2 hm).mono ?_
        rintro e w1 ⟨rfl, b1⟩
        rw [he]
        go_wp2
        go_roundw
        case rel => exact ⟨k + 1, by omega, by go_num, hb.trans (b1.mono hb.size), by rw [HA.out, HD.out]; simp only [he]; rfl⟩
        case measure => simp [intOf]; omega
      · go_wp2_with fail
        refine (l4same_any _ _ _ _ _ _ gx part _ hr.1 (hP.below hb) hr.2 hm).mono ?_
        rintro e w1 ⟨rfl, b1⟩
        rw [he]
        go_wp2
        go_ret
        exact ⟨ret_int (by rw [HA.out, HD.out]; simp only [he]; rfl), hb.trans (b1.mono hb.size)⟩
    · go_wp2
      go_ret
      exact ⟨ret_int (by rw [HA.out, has_end (by rw [HN.out]; omega)]), hb⟩

set_option maxHeartbeats 800000 in
theorem ihas_any (ad : Option Addr) (N cap : Nat) (ss : List IV) (c : Option Addr) (m cap' : Nat) (part : List Int) (w : World) (hN : ss.length = N) (hF : ISG w ad ss) (hN1 : N ≤ 1048576) (hP : Ints w c m part) (hm : m ≤ 1048576) :
    Calls Try.prog 43 #[.slice ad N cap, .slice c m cap'] w fun e w' => e = .returned (.int .i64 (hasI ss part)) ∧ Below w.heap.size w w' := by
  have HN : Hid (ss.length = N) := hN
  clear hN
  go_enter Try.func43, Try.ntmps43
  go_wp2_with fail
  go_loopw [5, 6, 9] (fun _ _ i wr => ∃ k : Nat, k ≤ N ∧ i = .int .i64 k ∧ Below w.heap.size w wr ∧ hasI ss part = hasFrom part k ((ss.map IV.x).drop k)) (fun _ _ i _ => N - (intOf i).toNat)
  case atStart => exact ⟨0, Nat.zero_le _, rfl, Below.refl _ _, rfl⟩
  case round =>
    obtain ⟨k, hk, rfl, hb, hall⟩ := hrel
    have HA : Hid _ := hall
    clear hall
    by_cases hlt : k < N
    · obtain ⟨b, off, rfl, hc, hr⟩ := (hF.below hb) k (by rw [HN.out]; exact hlt)
      have HD : Hid _ := has_drop (ss := ss) (part := part) (k := k) (by rw [HN.out]; exact hlt)
      generalize HG : ss[k]?.getD noI = g at *
      clear HG hF
      obtain ⟨ga, gn, gcap, gx⟩ := g
      have hc' : wr.cell? ⟨b, off + k, none⟩ = some (.slice ga gn gcap) := hc
      clear hc
      cases he : eqB gx part
      · go_wp2_with fail
        refine (equal_any _ _ _ _ _ _ gx part _ hr.1 (hP.below hb) hr.2 hm).mono ?_
        rintro e w1 ⟨rfl, b1⟩
        rw [he]
        go_wp2
        go_roundw
        case rel => exact ⟨k + 1, by omega, by go_num, hb.trans (b1.mono hb.size), by rw [HA.out, HD.out]; simp only [he]; rfl⟩
        case measure => simp [intOf]; omega
      · go_wp2_with fail
        refine (equal_any _ _ _ _ _ _ gx part _ hr.1 (hP.below hb) hr.2 hm).mono ?_
        rintro e w1 ⟨rfl, b1⟩
        rw [he]
        go_wp2
        go_ret
        exact ⟨ret_int (by rw [HA.out, HD.out]; simp only [he]; rfl), hb.trans (b1.mono hb.size)⟩
    · go_wp2
      go_ret
      exact ⟨ret_int (by rw [HA.out, has_end (by rw [HN.out]; omega)]), hb⟩

end Go.Proofs.Ytjggppnffkcmbaa
namespace Go.Proofs.Ytjggppnffkcmbaa
open Go.RowKit
set_option linter.unusedVariables false

/-- The sign of the first that is not 0. -/
def sgn1 (c : Int) : Int := if 0 < c then 1 else if c < 0 then -1 else 0
theorem sgn1_vals (c : Int) : sgn1 c = 0 ∨ sgn1 c = 1 ∨ sgn1 c = -1 := by
  unfold sgn1
  split
  · simp
  · split <;> simp
def sgn : List Int → Int
  | [] => 0
  | c :: t => if sgn1 c = 0 then sgn t else sgn1 c
theorem sgn_append (xs ys : List Int) : sgn (xs ++ ys) = if sgn xs = 0 then sgn ys else sgn xs := by
  induction xs with
  | nil => simp [sgn]
  | cons c t ih =>
    simp only [List.cons_append, sgn]
    by_cases h : sgn1 c = 0
    · simp only [h, if_true]; exact ih
    · simp only [h, if_false]
theorem sgn_one (c : Int) : sgn [c] = sgn1 c := by
  simp only [sgn]
  split
  · next h => exact h.symm
  · rfl
theorem sgn_take_succ {C : List Int} {k : Nat} (h : k < C.length) : sgn (C.take (k + 1)) = if sgn (C.take k) = 0 then sgn1 (C[k]?.getD 0) else sgn (C.take k) := by
  rw [List.take_succ_eq_append_getElem h, sgn_append, List.getElem?_eq_getElem h, sgn_one]
  rfl
theorem sgn_whole {C : List Int} {k : Nat} (h : sgn (C.take k) ≠ 0) : sgn C = sgn (C.take k) := by
  have := sgn_append (C.take k) (C.drop k)
  rw [List.take_append_drop, if_neg h] at this
  exact this
theorem sgn_end {C : List Int} {k n : Nat} (hn : C.length = n) (h : n ≤ k) : sgn (C.take k) = sgn C := by rw [List.take_of_length_le (by omega)]

/-- What the list is multiplied with. -/
def sg (C : List Int) : Int := if sgn C < 0 then -1 else 1
def mulW (n : Int) (zs : List Int) : List Int := zs.map fun z => wrap64 (n * z)
def partL (C : List Int) : List Int := mulW (sg C) C
theorem mulW_len (n : Int) (zs : List Int) : (mulW n zs).length = zs.length := by simp [mulW]
theorem mulW_get {n : Int} {zs : List Int} {i : Nat} (h : i < zs.length) : (mulW n zs)[i]?.getD 0 = wrap64 (n * zs[i]?.getD 0) := by
  simp [mulW, h]
theorem part_len (C : List Int) : (partL C).length = C.length := mulW_len _ _
theorem part_step {C : List Int} {k : Nat} (h : k < C.length) : (partL C).take (k + 1) = (partL C).take k ++ [wrap64 (sgn (C.take (k + 1)) * C[k]?.getD 0)] := by
  have hl : k < (partL C).length := by rw [part_len]; exact h
  rw [List.take_succ_eq_append_getElem hl]
  congr 2
  have e : (partL C)[k] = wrap64 (sg C * C[k]?.getD 0) := by
    have := mulW_get (n := sg C) h
    rw [show mulW (sg C) C = partL C from rfl, List.getElem?_eq_getElem hl] at this
    simpa using this
  rw [e]
  by_cases hs : sgn (C.take (k + 1)) = 0
  · have h1 := sgn_take_succ h
    have h2 : sgn1 (C[k]?.getD 0) = 0 := by
      rw [hs] at h1
      by_cases h3 : sgn (C.take k) = 0
      · rw [if_pos h3] at h1; exact h1.symm
      · rw [if_neg h3] at h1; exact absurd h1.symm h3
    have h3 : C[k]?.getD 0 = 0 := by
      unfold sgn1 at h2
      split at h2
      · omega
      · split at h2 <;> omega
    rw [h3]; simp
  · have h1 := sgn_whole hs
    have : sg C = sgn (C.take (k + 1)) := by
      unfold sg
      rw [h1]
      have hv : ∀ xs : List Int, sgn xs = 0 ∨ sgn xs = 1 ∨ sgn xs = -1 := by
        intro xs
        induction xs with
        | nil => simp [sgn]
        | cons c t ih =>
          simp only [sgn]
          by_cases hc : sgn1 c = 0
          · simp only [hc, if_true]; exact ih
          · rw [if_neg hc]; exact sgn1_vals c
      rcases hv (C.take (k + 1)) with e | e | e
      · exact absurd e hs
      · rw [e]; simp
      · rw [e]; simp
    rw [this]

set_option maxHeartbeats 400000 in
theorem timesW_any (a : Option Addr) (l cap : Nat) (zs : List Int) (n : Int) (w : World) (h : Ints w a l zs) (hl : l ≤ 1048576) :
    Calls Try.prog 102 #[.slice a l cap, .int .i64 n] w fun e w' => e = .returned (.slice (some ⟨w.heap.size, 0, none⟩) l l) ∧ Below w.heap.size w w' ∧ Blk w' w.heap.size (mulW n zs) := by
  have HZ : Hid (zs.length = l) := h.1
  have HM : Hid ((mulW n zs).length = l) := by show (mulW n zs).length = l; simp [mulW, h.1]
  obtain ⟨i0, hi, hz0, hz1, hz2⟩ := info_parts Try.infoInt
  go_enter Try.func102, Try.ntmps102
  go_wp2_with (at_make; refine wpList_make_full _ rfl (.tmp 9) (.tmp 9) 26 rfl w.heap.size 3 i0 (.int .i64 0) 1 Try.underlying26 hi hz0 hz1 .i64 .i64 _ _ l rfl rfl rfl rfl (by rw [hz2]; omega) (by unfold maxLen; omega) (Nat.le_refl _) ?_; intro w1 hown hgrow)
  have hb1 := Blk.made w l w1 hown
  have HB : Below w.heap.size w w1 := (Below.refl _ _).grown hgrow (Nat.le_refl _) (by simp)
  clear hown hgrow hi hz0 hz1 hz2
  go_loopw [6, 7, 13] (fun _ _ i wr => ∃ k : Nat, k ≤ l ∧ i = .int .i64 k ∧ Below w.heap.size w wr ∧ Blk wr w.heap.size (upTo (mulW n zs) l k)) (fun _ _ i _ => l - (intOf i).toNat)
  case atStart => exact ⟨0, Nat.zero_le _, rfl, HB, by rw [upTo_zero]; exact hb1⟩
  case round =>
    obtain ⟨k, hk, rfl, hnx, hblk⟩ := hrel
    by_cases hlt : k < l
    · obtain ⟨b, off, rfl, hcell⟩ := (h.below hnx).pos (by omega)
      have hck := hcell k hlt
      have hco := hblk.cell k (by rw [upTo_len HM.out hk]; exact hlt)
      have hfo := hblk.free k
      have R := hblk.set k ((mulW n zs)[k]?.getD 0)
      rw [upTo_succ HM.out hlt, mulW_get (by rw [HZ.out]; exact hlt)] at R
      have R2 := hnx.setCell (p := ⟨w.heap.size, k, none⟩) (Nat.le_refl _) (.int .i64 (wrap64 (n * zs[k]?.getD 0)))
      clear hcell hb1 HB h hblk hnx
      go_wp2
      go_roundw
      case rel => exact ⟨k + 1, by omega, by go_num, R2, R⟩
      case measure => simp [intOf]; omega
    · go_wp2
      go_ret
      exact ⟨rfl, hnx, by rw [upTo_end HM.out (by omega)] at hblk; exact hblk⟩

set_option maxHeartbeats 800000 in
theorem ipart_any (a : Option Addr) (n cap : Nat) (c : Option Addr) (m cap' : Nat) (K : Int) (C : List Int) (w : World) (hC : Ints w a n C) (hn : n ≤ 1048576) :
    Calls Try.prog 45 #[formV a n cap c m cap' K] w fun e w' => e = .returned (.slice (some ⟨w.heap.size + 1, 0, none⟩) n n) ∧ Below w.heap.size w w' ∧ Blk w' (w.heap.size + 1) (partL C) := by
  have HC : Hid (C.length = n) := hC.1
  go_enter Try.func45, Try.ntmps45
  go_wp2_with fail
  have hC1 := hC.alloc (.cells #[.slice a n cap, .slice c m cap', .int .i64 K] 34)
  have hend : ∀ (s : Int) (w2 : World), sg C = s → Below (w.alloc (.cells #[.slice a n cap, .slice c m cap', .int .i64 K] 34)).heap.size (w.alloc (.cells #[.slice a n cap, .slice c m cap', .int .i64 K] 34)) w2 → Blk w2 (w.alloc (.cells #[.slice a n cap, .slice c m cap', .int .i64 K] 34)).heap.size (mulW s C) → Below w.heap.size w w2 ∧ Blk w2 (w.heap.size + 1) (partL C) := by
    intro s w2 hs b2 k2
    rw [World.size_alloc] at k2
    exact ⟨((Below.refl _ _).alloc (Nat.le_refl _) _).trans (b2.mono (by simp)), by unfold partL; rw [hs]; exact k2⟩
  have HE : Hid _ := hend
  clear hend
  go_loop [4, 8] (fun _ i => ∃ k : Nat, k ≤ n ∧ i = .int .i64 k ∧ sgn (C.take k) = 0) (fun _ i => n - (intOf i).toNat)
  case atStart => exact ⟨0, Nat.zero_le _, rfl, rfl⟩
  case round =>
    obtain ⟨k, hk, rfl, hs⟩ := hrel
    have HS : Hid (sgn (C.take k) = 0) := hs
    clear hs
    by_cases hlt : k < n
    · obtain ⟨b, off, rfl, hcell⟩ := hC1.pos (by omega)
      have hck := hcell k hlt
      clear hcell
      have HT : Hid (sgn (C.take (k + 1)) = sgn1 (C[k]?.getD 0)) := by
        show sgn (C.take (k + 1)) = sgn1 (C[k]?.getD 0)
        rw [sgn_take_succ (by rw [HC.out]; exact hlt), if_pos HS.out]
      by_cases h1 : 0 < C[k]?.getD 0
      · have HG : Hid (sg C = 1) := by
          show sg C = 1
          have e := HT.out
          rw [sgn1, if_pos h1] at e
          have := sgn_whole (C := C) (k := k + 1) (by rw [e]; decide)
          rw [sg, this, e]; rfl
        go_wp2_with fail
        refine (timesW_any _ _ _ C _ _ hC1 hn).mono ?_
        rintro e w2 ⟨rfl, b2, k2⟩
        go_wp2
        go_ret
        exact ⟨rfl, HE.out 1 w2 HG.out b2 k2⟩
      · by_cases h2 : C[k]?.getD 0 < 0
        · have HG : Hid (sg C = -1) := by
            show sg C = -1
            have e := HT.out
            rw [sgn1, if_neg h1, if_pos h2] at e
            have := sgn_whole (C := C) (k := k + 1) (by rw [e]; decide)
            rw [sg, this, e]; rfl
          go_wp2_with fail
          refine (timesW_any _ _ _ C _ _ hC1 hn).mono ?_
          rintro e w2 ⟨rfl, b2, k2⟩
          go_wp2
          go_ret
          exact ⟨rfl, HE.out (-1) w2 HG.out b2 k2⟩
        · have HT2 : Hid (sgn (C.take (k + 1)) = 0) := by
            show sgn (C.take (k + 1)) = 0
            rw [HT.out, sgn1, if_neg h1, if_neg h2]
          go_wp2
          go_round
          case rel => exact ⟨k + 1, by omega, by go_num, HT2.out⟩
          case measure => simp [intOf]; omega
    · have HG : Hid (sg C = 1) := by
        show sg C = 1
        have e := HS.out
        rw [sgn_end HC.out (by omega)] at e
        rw [sg, e]; rfl
      go_wp2_with fail
      refine (timesW_any _ _ _ C _ _ hC1 hn).mono ?_
      rintro e w2 ⟨rfl, b2, k2⟩
      go_wp2
      go_ret
      exact ⟨rfl, HE.out 1 w2 HG.out b2 k2⟩

set_option maxRecDepth 100000 in
set_option maxHeartbeats 1600000 in
theorem spart_new (a : Option Addr) (n cap : Nat) (c : Option Addr) (m cap' : Nat) (K : Int) (C : List Int) (w : World) (hC : Ints w a n C) (hn : n ≤ 1048576) :
    Calls Try.prog 78 #[formV a n cap c m cap' K] w fun e w' => ∃ a' cap2, e = .returned (.slice a' n cap2) ∧ Below w.heap.size w w' ∧ Ints w' a' n (partL C) ∧ (∀ b o, a' = some ⟨b, o, none⟩ → w.heap.size ≤ b ∧ b < w'.heap.size) := by
  have HC : Hid (C.length = n) := hC.1
  obtain ⟨i0, hi, hz0, hz1, hz2⟩ := info_parts Try.infoInt
  go_enter Try.func78, Try.ntmps78
  go_wp2_with fail
  obtain ⟨W, hW⟩ : ∃ W, W = w.alloc (.cells #[.slice a n cap, .slice c m cap', .int .i64 K] 34) := ⟨_, rfl⟩
  have box : Cel W w.heap.size [.slice a n cap, .slice c m cap', .int .i64 K] 34 := by rw [hW]; exact Cel.new w _ _
  have BW : Below w.heap.size w W := by rw [hW]; exact (Below.refl _ _).alloc (Nat.le_refl _) _
  have hCW : Ints W a n C := hC.below BW
  have HWS : Hid (W.heap.size = w.heap.size + 1) := by show W.heap.size = _; rw [hW, World.size_alloc]
  rw [← hW]
  clear hW hC
  go_loopw [3, 4, 5] (fun v s i wr => ∃ k : Nat, k ≤ n ∧ i = .int .i64 k ∧ s = .int .i64 (sgn (C.take k)) ∧ ∃ xs : List Int, xs.length = k ∧ xs = (partL C).take k ∧ JA W v xs wr) (fun _ _ i _ => n - (intOf i).toNat)
  case atStart => exact ⟨0, Nat.zero_le _, rfl, rfl, [], rfl, rfl, by rw [← HWS.out]; exact JA.lit W⟩
  case round =>
    obtain ⟨k, hk, rfl, rfl, xs, hxl, hxs, j⟩ := hrel
    have HL : Hid (xs.length = k) := hxl
    have HXS : Hid (xs = (partL C).take k) := hxs
    clear hxl hxs
    have jo := (j.o)
    rw [HL.out] at jo
    have hjb := j.b.size
    have g0 := (box.below j.b).cell 0
    simp only [List.getElem?_cons_zero] at g0
    by_cases hlt : k < n
    · obtain ⟨b, off, rfl, hcell⟩ := (hCW.below j.b).pos (by omega)
      have hck : wr.cell? ⟨b, off + k, none⟩ = some (.int .i64 (C[k]?.getD 0)) := by rw [hcell k hlt]; simp
      clear hcell
      have HT : Hid _ := sgn_take_succ (C := C) (k := k) (by rw [HC.out]; exact hlt)
      have HP : Hid _ := part_step (C := C) (k := k) (by rw [HC.out]; exact hlt)
      generalize HS : sgn (C.take k) = s at *
      generalize HX : C[k]?.getD 0 = x at *
      clear HS HX
      by_cases hs0 : s = 0
      · subst hs0
        by_cases h1 : 0 < x
        · have HT2 : Hid (sgn1 x = 1) := by show sgn1 x = 1; rw [sgn1, if_pos h1]
          go_wp2_with (at_builtin; go_must (refine wpList_append_lies _ rfl (.tmp 34) (.tmp 42) 26 rfl W.heap.size 3 i0 (.int .i64 0) 1 8 Try.underlying26 hi hz0 hz1 hz2 rfl (by decide) _ _ _ rfl (jo.alloc _) ⟨wr.heap.size, 0, none⟩ 1 1 [.int .i64 (wrap64 x)] rfl rfl (news1 _ _ _) (one1 _ _) (by omega) (by unfold maxLen; omega) (by omega) (by rw [World.size_alloc]; omega) _ rfl ?_); intro g cp w1 hown hgrow hat hlt1)
          have j2 := j.app HL.out hown hgrow
          clear hown hgrow jo j hat
          have HX2 : Hid (xs ++ [wrap64 x] = (partL C).take (k + 1)) := by show _ = _; rw [HP.out, HXS.out, HT.out, if_pos rfl, HT2.out, Int.one_mul]
          go_wp2
          go_roundw
          case rel => exact ⟨k + 1, by omega, by go_num, by rw [HT.out, if_pos rfl, HT2.out], _, by rw [List.length_append, HL.out]; rfl, HX2.out, j2⟩
          case measure => simp [intOf]; omega
        · by_cases h2 : x < 0
          · have HT2 : Hid (sgn1 x = -1) := by show sgn1 x = -1; rw [sgn1, if_neg h1, if_pos h2]
            go_wp2_with (at_builtin; go_must (refine wpList_append_lies _ rfl (.tmp 34) (.tmp 42) 26 rfl W.heap.size 3 i0 (.int .i64 0) 1 8 Try.underlying26 hi hz0 hz1 hz2 rfl (by decide) _ _ _ rfl (jo.alloc _) ⟨wr.heap.size, 0, none⟩ 1 1 [.int .i64 (wrap64 (-x))] rfl rfl (news1 _ _ _) (one1 _ _) (by omega) (by unfold maxLen; omega) (by omega) (by rw [World.size_alloc]; omega) _ rfl ?_); intro g cp w1 hown hgrow hat hlt1)
            have j2 := j.app HL.out hown hgrow
            clear hown hgrow jo j hat
            have HX2 : Hid (xs ++ [wrap64 (-x)] = (partL C).take (k + 1)) := by show _ = _; rw [HP.out, HXS.out, HT.out, if_pos rfl, HT2.out, Int.neg_one_mul]
            go_wp2
            go_roundw
            case rel => exact ⟨k + 1, by omega, by go_num, by rw [HT.out, if_pos rfl, HT2.out], _, by rw [List.length_append, HL.out]; rfl, HX2.out, j2⟩
            case measure => simp [intOf]; omega
          · have HT2 : Hid (sgn1 x = 0) := by show sgn1 x = 0; rw [sgn1, if_neg h1, if_neg h2]
            go_wp2_with (at_builtin; go_must (refine wpList_append_lies _ rfl (.tmp 34) (.tmp 42) 26 rfl W.heap.size 3 i0 (.int .i64 0) 1 8 Try.underlying26 hi hz0 hz1 hz2 rfl (by decide) _ _ _ rfl (jo.alloc _) ⟨wr.heap.size, 0, none⟩ 1 1 [.int .i64 0] rfl rfl (news1 _ _ _) (one1 _ _) (by omega) (by unfold maxLen; omega) (by omega) (by rw [World.size_alloc]; omega) _ rfl ?_); intro g cp w1 hown hgrow hat hlt1)
            have j2 := j.app HL.out hown hgrow
            clear hown hgrow jo j hat
            have HX2 : Hid (xs ++ [0] = (partL C).take (k + 1)) := by show _ = _; rw [HP.out, HXS.out, HT.out, if_pos rfl, HT2.out, Int.zero_mul, show wrap64 0 = 0 from by decide +kernel]
            go_wp2
            go_roundw
            case rel => exact ⟨k + 1, by omega, by go_num, by rw [HT.out, if_pos rfl, HT2.out], _, by rw [List.length_append, HL.out]; rfl, HX2.out, j2⟩
            case measure => simp [intOf]; omega
      · have hs1 : (s == 0) = false := by simp [hs0]
        go_wp2_with (at_builtin; go_must (refine wpList_append_lies _ rfl (.tmp 34) (.tmp 42) 26 rfl W.heap.size 3 i0 (.int .i64 0) 1 8 Try.underlying26 hi hz0 hz1 hz2 rfl (by decide) _ _ _ rfl (jo.alloc _) ⟨wr.heap.size, 0, none⟩ 1 1 [.int .i64 (wrap64 (s * x))] rfl rfl (news1 _ _ _) (one1 _ _) (by omega) (by unfold maxLen; omega) (by omega) (by rw [World.size_alloc]; omega) _ rfl ?_); intro g cp w1 hown hgrow hat hlt1)
        have j2 := j.app HL.out hown hgrow
        clear hown hgrow jo j hat
        have HX2 : Hid (xs ++ [wrap64 (s * x)] = (partL C).take (k + 1)) := by show _ = _; rw [HP.out, HXS.out, HT.out, if_neg hs0]
        go_wp2
        go_roundw
        case rel => exact ⟨k + 1, by omega, by go_num, by rw [HT.out, if_neg hs0], _, by rw [List.length_append, HL.out]; rfl, HX2.out, j2⟩
        case measure => simp [intOf]; omega
    · obtain rfl : k = n := by omega
      obtain ⟨a', cp, rfl, hcp, hI, hlt'⟩ := j.ints
      have HXC : Hid (xs = partL C) := by show xs = _; rw [HXS.out, List.take_of_length_le (by rw [part_len, HC.out]; exact Nat.le_refl _)]
      rw [HL.out] at hI hcp ⊢
      have jb := j.b
      clear j jo
      go_wp2
      go_ret
      exact ⟨a', cp, rfl, BW.trans (jb.mono BW.size), by rw [← HXC.out]; exact hI, fun b o e => ⟨by have := (hlt' b o e).1; have := HWS.out; omega, (hlt' b o e).2⟩⟩

theorem spart_any (a : Option Addr) (n cap : Nat) (c : Option Addr) (m cap' : Nat) (K : Int) (C : List Int) (w : World) (hC : Ints w a n C) (hn : n ≤ 1048576) :
    Calls Try.prog 78 #[formV a n cap c m cap' K] w fun e w' => ∃ a' cap2, e = .returned (.slice a' n cap2) ∧ Below w.heap.size w w' ∧ Ints w' a' n (partL C) ∧ (∀ b o, a' = some ⟨b, o, none⟩ → b < w'.heap.size) := by
  refine (spart_new a n cap c m cap' K C w hC hn).mono ?_
  rintro e w' ⟨a', cap2, h1, h2, h3, h4⟩
  exact ⟨a', cap2, h1, h2, h3, fun b o e => (h4 b o e).2⟩

end Go.Proofs.Ytjggppnffkcmbaa
namespace Go.Proofs.Ytjggppnffkcmbaa
open Go.RowKit
set_option linter.unusedVariables false
set_option maxRecDepth 100000

theorem copiesL_same {fs gs hs : List LV} {N : Nat} (hg : gs.length = N) (hh : hs.length = N) (h1 : copiesL fs gs) (h2 : copiesL fs hs) : ∀ i, i < N → sameL (gs[i]?.getD noLV) (hs[i]?.getD noLV) := fun i hi => by
  obtain ⟨a1, a2, a3, a4, a5, a6, _⟩ := h1 i (by omega)
  obtain ⟨b1, b2, b3, b4, b5, b6, _⟩ := h2 i (by omega)
  refine ⟨by rw [a1, b1], by rw [a2, b2], by rw [a3, b3], ?_⟩
  rw [a4, a5, a6, b4, b5, b6]
  exact eqF_refl _ _ _
theorem copiesL_map {α : Type} (P : LV → α) (hP : ∀ f g : LV, f.kind = g.kind → f.pot = g.pot → f.skip = g.skip → f.f.C = g.f.C → f.f.D = g.f.D → f.f.K = g.f.K → f.f.n = g.f.n → f.f.m = g.f.m → P f = P g) {fs gs : List LV} (hl : gs.length = fs.length) (h : copiesL fs gs) : gs.map P = fs.map P := by
  apply List.ext_getElem?
  intro i
  by_cases hi : i < gs.length
  · obtain ⟨a1, a2, a3, a4, a5, a6, a7, a8⟩ := h i hi
    have := hP _ _ a1 a2 a3 a4 a5 a6 a7 a8
    rw [List.getElem?_eq_getElem hi, List.getElem?_eq_getElem (by omega)] at this
    simp only [Option.getD_some] at this
    rw [List.getElem?_map, List.getElem?_map, List.getElem?_eq_getElem hi, List.getElem?_eq_getElem (by omega)]
    simp [this]
  · rw [List.getElem?_eq_none (by simp; omega), List.getElem?_eq_none (by simp; omega)]
theorem copiesL_act {fs gs : List LV} {N : Nat} (hl : gs.length = fs.length) (h : copiesL fs gs) : actB N gs = actB N fs := by
  have h1 := copiesL_map LV.ok (fun f g a1 a2 a3 a4 a5 a6 a7 a8 => by simp only [LV.ok, a1, a2, a3, a4, a5, a6, a7, a8]) hl h
  have h2 := copiesL_map LV.tst (fun f g a1 a2 a3 a4 a5 a6 a7 a8 => by simp only [LV.tst, a1]) hl h
  have e1 : ∀ xs : List LV, xs.all LV.ok = (xs.map LV.ok).all id := fun xs => by simp [List.all_map]
  have e2 : ∀ xs : List LV, tests xs = (xs.map LV.tst).countP id := fun xs => by simp [tests, List.countP_map]
  rw [actB, actB, e1, e1, e2, e2, h1, h2]

def L2V.ok (s : L2V) : Bool := actB s.n s.x
/-- Whether acts are ok. -/
def catB (N : Nat) (ss : List L2V) : Bool := inB N 1 4 && ss.all L2V.ok
theorem allC_take_succ {ls : List L2V} {k : Nat} (h : k < ls.length) (h1 : (ls.take k).all L2V.ok = true) (h2 : (ls[k]?.getD noL).ok = true) : (ls.take (k + 1)).all L2V.ok = true := by
  rw [List.take_succ_eq_append_getElem h, List.all_append, h1]
  rw [List.getElem?_eq_getElem h] at h2
  simpa using h2
theorem allC_no {ls : List L2V} {k : Nat} (h : k < ls.length) (h2 : (ls[k]?.getD noL).ok = false) : ls.all L2V.ok = false := by
  rw [List.all_eq_false]
  rw [List.getElem?_eq_getElem h] at h2
  exact ⟨ls[k], List.getElem_mem h, by simpa using h2⟩

set_option maxHeartbeats 1600000 in
theorem scat_any (ad : Option Addr) (N cap : Nat) (ss : List L2V) (w : World) (hN : ss.length = N) (hF : LSG w ad ss) (hN1 : N ≤ 1048576) :
    Calls Try.prog 42 #[.slice ad N cap] w fun e w' => e = .returned (.bool (catB N ss)) ∧ Below w.heap.size w w' := by
  have HN : Hid (ss.length = N) := hN
  clear hN
  cases hib : inB N 1 4
  · go_enter Try.func42, Try.ntmps42
    go_wp2_with fail
    refine (in_any _ _ _ _).mono ?_
    rintro e w1 ⟨rfl, rfl⟩
    rw [hib]
    go_wp2
    go_ret
    exact ⟨ret_bool (by rw [catB, hib]; rfl), Below.refl _ _⟩
  go_enter Try.func42, Try.ntmps42
  go_wp2_with fail
  refine (in_any _ _ _ _).mono ?_
  rintro e w1 ⟨rfl, hw1⟩
  rw [hib, hw1]
  clear hw1
  go_wp2_with fail
  have HCB : Hid (catB N ss = ss.all L2V.ok) := by show catB N ss = _; rw [catB, hib]; rfl
  go_loopw [3] (fun  i wr => ∃ k : Nat, k ≤ N ∧ i = .int .i64 k ∧ Below w.heap.size w wr ∧ (ss.take k).all L2V.ok = true) (fun i _ => N - (intOf i).toNat)
  case atStart => exact ⟨0, Nat.zero_le _, rfl, Below.refl _ _, by simp⟩
  case round =>
    obtain ⟨k, hk, rfl, hb, hall⟩ := hrel
    have HA : Hid ((ss.take k).all L2V.ok = true) := hall
    clear hall
    by_cases hlt : k < N
    · obtain ⟨b, off, rfl, hc, hr⟩ := (hF.below hb) k (by rw [HN.out]; exact hlt)
      generalize HG : ss[k]?.getD noL = g at *
      have HG' : Hid (ss[k]?.getD noL = g) := HG
      clear HG hF
      obtain ⟨ga, gn, gcap, gx⟩ := g
      have hc' : wr.cell? ⟨b, off + k, none⟩ = some (.slice ga gn gcap) := hc
      clear hc
      cases hf : actB gn gx
      · go_wp2_with fail
        refine (sact_any _ _ _ gx _ hr.1 hr.2.1 hr.2.2).mono ?_
        rintro e w1 ⟨rfl, b1⟩
        rw [hf]
        go_wp2
        go_ret
        exact ⟨ret_bool (by rw [HCB.out, allC_no (k := k) (by rw [HN.out]; exact hlt) (by rw [HG'.out]; exact hf)]), hb.trans (b1.mono hb.size)⟩
      · go_wp2_with fail
        refine (sact_any _ _ _ gx _ hr.1 hr.2.1 hr.2.2).mono ?_
        rintro e w1 ⟨rfl, b1⟩
        rw [hf]
        go_wp2
        go_roundw
        case rel => exact ⟨k + 1, by omega, by go_num, hb.trans (b1.mono hb.size), allC_take_succ (by rw [HN.out]; exact hlt) HA.out (by rw [HG'.out]; exact hf)⟩
        case measure => simp [intOf]; omega
    · go_wp2
      go_ret
      exact ⟨ret_bool (by rw [HCB.out]; have := HA.out; rw [List.take_of_length_le (by rw [HN.out]; omega)] at this; exact this.symm), hb⟩

set_option maxHeartbeats 1600000 in
theorem icat_any (ad : Option Addr) (N cap : Nat) (ss : List L2V) (w : World) (hN : ss.length = N) (hF : LSG w ad ss) (hN1 : N ≤ 1048576) :
    Calls Try.prog 41 #[.slice ad N cap] w fun e w' => e = .returned (.bool (catB N ss)) ∧ Below w.heap.size w w' := by
  have HN : Hid (ss.length = N) := hN
  clear hN
  by_cases h1 : N < 1
  · have hib : inB N 1 4 = false := inB_not.2 (by omega)
    go_enter Try.func41, Try.ntmps41
    go_wp2
    go_ret
    exact ⟨ret_bool (by rw [catB, hib]; rfl), Below.refl _ _⟩
  by_cases h4 : 4 < N
  · have hib : inB N 1 4 = false := inB_not.2 (by omega)
    go_enter Try.func41, Try.ntmps41
    go_wp2
    go_ret
    exact ⟨ret_bool (by rw [catB, hib]; rfl), Below.refl _ _⟩
  have hib : inB N 1 4 = true := inB_iff.2 (by omega)
  go_enter Try.func41, Try.ntmps41
  go_wp2_with fail
  have HCB : Hid (catB N ss = ss.all L2V.ok) := by show catB N ss = _; rw [catB, hib]; rfl
  go_loopw [4, 15] (fun _ i wr => ∃ k : Nat, k ≤ N ∧ i = .int .i64 k ∧ Below w.heap.size w wr ∧ (ss.take k).all L2V.ok = true) (fun _ i _ => N - (intOf i).toNat)
  case atStart => exact ⟨0, Nat.zero_le _, rfl, Below.refl _ _, by simp⟩
  case round =>
    obtain ⟨k, hk, rfl, hb, hall⟩ := hrel
    have HA : Hid ((ss.take k).all L2V.ok = true) := hall
    clear hall
    by_cases hlt : k < N
    · obtain ⟨b, off, rfl, hc, hr⟩ := (hF.below hb) k (by rw [HN.out]; exact hlt)
      generalize HG : ss[k]?.getD noL = g at *
      have HG' : Hid (ss[k]?.getD noL = g) := HG
      clear HG hF
      obtain ⟨ga, gn, gcap, gx⟩ := g
      have hc' : wr.cell? ⟨b, off + k, none⟩ = some (.slice ga gn gcap) := hc
      clear hc
      cases hf : actB gn gx
      · go_wp2_with fail
        refine (iact_any _ _ _ gx _ hr.1 hr.2.1 hr.2.2).mono ?_
        rintro e w1 ⟨rfl, b1⟩
        rw [hf]
        go_wp2
        go_ret
        exact ⟨ret_bool (by rw [HCB.out, allC_no (k := k) (by rw [HN.out]; exact hlt) (by rw [HG'.out]; exact hf)]), hb.trans (b1.mono hb.size)⟩
      · go_wp2_with fail
        refine (iact_any _ _ _ gx _ hr.1 hr.2.1 hr.2.2).mono ?_
        rintro e w1 ⟨rfl, b1⟩
        rw [hf]
        go_wp2
        go_roundw
        case rel => exact ⟨k + 1, by omega, by go_num, hb.trans (b1.mono hb.size), allC_take_succ (by rw [HN.out]; exact hlt) HA.out (by rw [HG'.out]; exact hf)⟩
        case measure => simp [intOf]; omega
    · go_wp2
      go_ret
      exact ⟨ret_bool (by rw [HCB.out]; have := HA.out; rw [List.take_of_length_le (by rw [HN.out]; omega)] at this; exact this.symm), hb⟩

end Go.Proofs.Ytjggppnffkcmbaa
namespace Go.Proofs.Ytjggppnffkcmbaa
open Go.RowKit Go.Deep
set_option linter.unusedVariables false
set_option maxRecDepth 100000

/-- A part is put behind the others, if it is not there, and not 0. -/
def addPb (ps : List (List Int)) (p : List Int) : List (List Int) := if p ∈ ps ∨ p = [0, 0, 0] then ps else ps ++ [p]
def guardsP (ps : List (List Int)) (fs : List Frm) : List (List Int) := fs.foldl (fun ps f => addPb ps (partL f.1)) ps
def rowsP (ps : List (List Int)) (rs : List RowM) : List (List Int) := rs.foldl (fun ps r => guardsP ps r.guards) ps
def actsP (ps : List (List Int)) (ss : List L2V) : List (List Int) := ss.foldl (fun ps s => rowsP ps (rowsL s.x)) ps
def pots3 : List (List Int) := [[1, 0, 0], [0, 1, 0], [0, 0, 1]]
/-- The parts of acts. -/
def catP (ss : List L2V) : List (List Int) := actsP pots3 ss
/-- Some act tells of a pot, or adds by it. -/
def pinsA (ss : List L2V) (v : Nat) : Bool := ss.any fun s => readsR (rowsL s.x) v
theorem foldl_take {α β : Type} (f : β → α → β) (b : β) (xs : List α) (k : Nat) (d : α) (h : k < xs.length) : (xs.take (k + 1)).foldl f b = f ((xs.take k).foldl f b) (xs[k]?.getD d) := by
  rw [List.take_succ_eq_append_getElem h, List.foldl_append, List.getElem?_eq_getElem h]; rfl
theorem guardsP_snoc (ps : List (List Int)) (fs : List Frm) (k : Nat) (h : k < fs.length) : guardsP ps (fs.take (k + 1)) = addPb (guardsP ps (fs.take k)) (partL (fs[k]?.getD ([], [], 0)).1) := foldl_take _ _ _ _ _ h
theorem rowsP_snoc (ps : List (List Int)) (rs : List RowM) (k : Nat) (h : k < rs.length) : rowsP ps (rs.take (k + 1)) = guardsP (rowsP ps (rs.take k)) (rs[k]?.getD noR).guards := foldl_take _ _ _ _ _ h
theorem actsP_snoc (ps : List (List Int)) (ss : List L2V) (k : Nat) (h : k < ss.length) : actsP ps (ss.take (k + 1)) = rowsP (actsP ps (ss.take k)) (rowsL (ss[k]?.getD noL).x) := foldl_take _ _ _ _ _ h
theorem pinsA_snoc (ss : List L2V) (k : Nat) (h : k < ss.length) (v : Nat) : pinsA (ss.take (k + 1)) v = (pinsA (ss.take k) v || readsR (rowsL (ss[k]?.getD noL).x) v) := by
  rw [pinsA, List.take_succ_eq_append_getElem h, List.any_append, List.getElem?_eq_getElem h]
  simp [pinsA]
theorem has_mem (p : List Int) : ∀ (ps : List (List Int)) (k : Nat), (hasFrom p k ps < 0 ↔ p ∉ ps)
  | [], k => by simp [hasFrom]
  | q :: ps, k => by
    rw [hasFrom]
    by_cases e : q = p
    · subst e; simp [eqB]
    · have h1 : eqB q p = false := by simp [eqB, e]
      rw [h1]
      have := has_mem p ps (k + 1)
      simp only [Bool.false_eq_true, if_false, this, List.mem_cons, not_or]
      exact ⟨fun h => ⟨fun h2 => e h2.symm, h⟩, fun h => h.2⟩
theorem addP_has {ps : List (List Int)} {p : List Int} (h : ¬ hasFrom p 0 ps < 0) : addPb ps p = ps := by
  rw [has_mem] at h
  rw [addPb, if_pos (.inl (Classical.not_not.1 h))]
theorem addP_zero {ps : List (List Int)} {p : List Int} (h : p = [0, 0, 0]) : addPb ps p = ps := by rw [addPb, if_pos (.inr h)]
theorem addP_new {ps : List (List Int)} {p : List Int} (h : hasFrom p 0 ps < 0) (h2 : p ≠ [0, 0, 0]) : addPb ps p = ps ++ [p] := by
  rw [has_mem] at h
  rw [addPb, if_neg (by rintro (h' | h'); exact h h'; exact h2 h')]

theorem Ints.blkB {w : World} {b off n : Nat} {zs : List Int} (h : Ints w (some ⟨b, off, none⟩) n zs) (hn : 0 < n) : b < w.heap.size := by
  obtain ⟨b', o', e, hc⟩ := h.2 0 hn
  simp only [Option.some.injEq, Addr.mk.injEq, and_true] at e
  obtain ⟨rfl, rfl⟩ := e
  exact block_lt hc
/-- A slice of parts, in memory made since w: no part lies in its block. -/
structure JP (w : World) (G cap : Nat) (ts : List IV) (W : World) : Prop where
  b : Below w.heap.size w W
  o : W.ownsRow w.heap.size 26 1 (.slice (some ⟨G, 0, none⟩) ts.length cap) ts.length (ts.map IV.v)
  k : ∀ j, j < ts.length → (ts[j]?.getD noI).n = 3 ∧ Ints W (ts[j]?.getD noI).a 3 (ts[j]?.getD noI).x ∧ ∀ b o, (ts[j]?.getD noI).a = some ⟨b, o, none⟩ → b ≠ G
theorem JP.nil (w W : World) (hb : Below w.heap.size w W) : JP w W.heap.size 0 [] (W.alloc (.cells #[] 26)) :=
  ⟨hb.alloc hb.size _, World.ownsRow_lit W #[] 0 hb.size (by unfold maxLen; omega) rfl, fun j hj => by simp at hj⟩
theorem JP.below {w W W' : World} {G cap : Nat} {ts : List IV} (j : JP w G cap ts W) (h : Below W.heap.size W W') : JP w G cap ts W' :=
  ⟨j.b.trans (h.mono j.b.size), own_below j.o h, fun i hi => by obtain ⟨a, b, c⟩ := j.k i hi; exact ⟨a, b.below h, c⟩⟩
theorem JP.lt {w W : World} {G cap : Nat} {ts : List IV} (j : JP w G cap ts W) : w.heap.size ≤ G ∧ G < W.heap.size := by
  rcases j.o.2 with ⟨h, _⟩ | ⟨g, cap', cur, h, hg, hh, _⟩
  · cases h
  · simp only [Value.slice.injEq, Option.some.injEq, Addr.mk.injEq, and_true, true_and] at h
    obtain ⟨rfl, _⟩ := h
    exact ⟨hg, lt_of_block hh⟩
theorem JP.g {w W : World} {G cap : Nat} {ts : List IV} (j : JP w G cap ts W) : ISG W (some ⟨G, 0, none⟩) ts := fun i hi => by
  obtain ⟨h1, h2, h3⟩ := j.k i hi
  refine ⟨G, 0, rfl, ?_, ?_, by omega⟩
  · rw [Nat.zero_add, own_cell j.o i (by omega), List.getElem?_map, List.getElem?_eq_getElem hi]; rfl
  · rw [h1]; exact h2
theorem JP.app {w W W' : World} {G cap g cp k : Nat} {ts : List IV} {s : IV} {o : Obj} (j : JP w G cap ts W) (hk : ts.length = k) (hs : s.n = 3) (hI : Ints W s.a 3 s.x) (hb : ∀ b o, s.a = some ⟨b, o, none⟩ → b ≠ G)
    (hown : W'.ownsRow w.heap.size 26 1 (.slice (some ⟨g, 0, none⟩) (k + 1) cp) (k + 1) (ts.map IV.v ++ [s.v])) (hg : (W.alloc o).grownBy W' (some G)) (hat : g = G ∨ W.heap.size ≤ g) : JP w g cp (ts ++ [s]) W' := by
  subst hk
  have A : Below W.heap.size W (W.alloc o) := (Below.refl _ _).alloc (Nat.le_refl _) _
  have ja := j.below A
  have T : Touch (fun y => y = G) (W.alloc o) W' := ⟨hg.os, hg.tape, hg.output, hg.size, fun z hz hn => hg.block z hz (fun e => hn (by simpa using e))⟩
  have key : ∀ (a : Option Addr) (x : List Int), Ints W a 3 x → (∀ b o, a = some ⟨b, o, none⟩ → b ≠ G) → Ints W' a 3 x ∧ ∀ b o, a = some ⟨b, o, none⟩ → b ≠ g := fun a x h1 h2 => by
    refine ⟨(h1.below A).offC (fun b o e => h2 b o e) T, fun b o e => ?_⟩
    have h3 := h2 b o e
    subst e
    have := h1.blkB (by omega)
    omega
  refine ⟨ja.b.grown hg ja.b.size (fun z hz => ?_), ?_, fun i hi => ?_⟩
  · have := j.lt
    simp only [Option.some.injEq] at hz
    omega
  · rw [List.length_append, List.map_append]; exact hown
  · by_cases h : i < ts.length
    · rw [List.getElem?_append_left h]
      obtain ⟨a, b, c⟩ := j.k i h
      exact ⟨a, key _ _ b c⟩
    · rw [List.length_append, List.length_singleton] at hi
      obtain rfl : i = ts.length := by omega
      rw [List.getElem?_append_right (Nat.le_refl _), Nat.sub_self]
      exact ⟨hs, key _ _ hI hb⟩

end Go.Proofs.Ytjggppnffkcmbaa
namespace Go.Proofs.Ytjggppnffkcmbaa
open Go.RowKit Go.Deep
set_option linter.unusedVariables false
set_option maxRecDepth 100000

theorem oneSl {a : Option Addr} {n c : Nat} : ∀ u ∈ [Value.slice a n c], u.oneCell' = true := fun u hu => by
  simp at hu; subst hu; rfl
theorem field_C (a : Option Addr) (n ca : Nat) (c : Option Addr) (m cc : Nat) (K : Int) (W : World) : (Instr.field 34 (formV a n ca c m cc K) 0).run Try.prog W = .ok (.slice a n ca) W := by kernel_rfl
theorem OwnB.grown {W W' : World} {Gp G : Nat} {f : Nat → Bool} {o : Obj} (h : OwnB W Gp f) (hg : (W.alloc o).grownBy W' (some G)) (hne : Gp ≠ G) : OwnB W' Gp f := by
  obtain ⟨cur, hc, hv⟩ := h
  exact ⟨cur, (hc.alloc o).grew hg (by simpa using fun e => hne e.symm), hv⟩
/-- Rows that were made since n0; they read on whatever becomes of what is older, and of block G. -/
structure JQ (n0 Gr cr G : Nat) (xs : List Value) (rs : List RowM) (W : World) : Prop where
  o : W.ownsRow n0 25 4 (.slice (some ⟨Gr, 0, none⟩) rs.length cr) rs.length xs
  r : RowsOk W (fun k => k < n0 ∨ k = G) xs rs
  ne : Gr ≠ G
theorem JQ.of {w W : World} {Gr cr G : Nat} {xs : List Value} {rs : List RowM} (j : JR w Gr cr xs rs W) (hG : G < w.heap.size) : JQ w.heap.size Gr cr G xs rs W :=
  ⟨j.o, j.r.map (fun _ _ f => f.mono (fun k hk => Or.inl (by omega))), by have := j.lt; omega⟩
theorem JQ.lt {n0 Gr cr G : Nat} {xs : List Value} {rs : List RowM} {W : World} (j : JQ n0 Gr cr G xs rs W) : n0 ≤ Gr ∧ Gr < W.heap.size := by
  rcases j.o.2 with ⟨h, _⟩ | ⟨g, cap', cur, h, hg, hh, _⟩
  · cases h
  · simp only [Value.slice.injEq, Option.some.injEq, Addr.mk.injEq, and_true, true_and] at h
    obtain ⟨rfl, _⟩ := h
    exact ⟨hg, lt_of_block hh⟩
theorem JQ.below {n0 Gr cr G : Nat} {xs : List Value} {rs : List RowM} {W W' : World} (j : JQ n0 Gr cr G xs rs W) (b : Below W.heap.size W W') : JQ n0 Gr cr G xs rs W' :=
  ⟨own_below j.o b, j.r.map (fun _ _ f => f.below b), j.ne⟩
theorem JQ.grown {n0 Gr cr G g : Nat} {xs : List Value} {rs : List RowM} {W W' : World} {o : Obj} (j : JQ n0 Gr cr G xs rs W) (hg : (W.alloc o).grownBy W' (some G)) (hat : g = G ∨ W.heap.size < g) : JQ n0 Gr cr g xs rs W' := by
  have A : Below W.heap.size W (W.alloc o) := (Below.refl _ _).alloc (Nat.le_refl _) _
  have ja := j.below A
  have T : Touch (fun y => y = G) (W.alloc o) W' := ⟨hg.os, hg.tape, hg.output, hg.size, fun z hz hn => hg.block z hz (fun e => hn (by simpa using e))⟩
  refine ⟨own_off ja.o (fun z hz hs => ?_) T, ja.r.map (fun _ _ f => f.grown hg (by rw [World.size_alloc]; omega)), ?_⟩
  · have hz' : some Gr = some z := hz
    simp only [Option.some.injEq] at hz'
    exact j.ne (by omega)
  · have := j.lt
    have := j.ne
    omega
theorem pots3_take {k : Nat} (h : k < 3) : pots3.take (k + 1) = pots3.take k ++ [([0, 0, 0] : List Int).set k 1] := by
  match k, h with
  | 0, _ => rfl
  | 1, _ => rfl
  | 2, _ => rfl
theorem partL_len3 {f : Frm} {M : Int} (h : fitX M f) : (partL f.1).length = 3 := by
  rw [part_len]; exact h.1

set_option maxHeartbeats 12800000 in
theorem sboth_any (ad : Option Addr) (N cap : Nat) (ss : List L2V) (w : World) (hN : ss.length = N) (hF : LSG w ad ss) (hok : ss.all L2V.ok = true) (hN4 : N ≤ 4) :
    Calls Try.prog 99 #[.slice ad N cap] w fun e w' => ∃ G cG ts nt Gp cp, e = .returned (.tuple #[.slice (some ⟨G, 0, none⟩) nt cG, .slice (some ⟨Gp, 0, none⟩) 3 cp]) ∧ ts.length = nt ∧ JP w G cG ts w' ∧ ts.map IV.x = catP ss ∧ nt ≤ 600000 ∧ OwnB w' Gp (pinsA ss) ∧ w.heap.size ≤ Gp := by
  have HN : Hid (ss.length = N) := hN
  have HOK : Hid (ss.all L2V.ok = true) := hok
  have HF : Hid (LSG w ad ss) := hF
  clear hN hok hF
  obtain ⟨i0, hi, hz0, hz1, hz2⟩ := info_parts Try.infoI
  have b0 : Below w.heap.size w ((w.alloc (.cells #[] 26)).alloc (.cells #[.bool false, .bool false, .bool false] 4)) := ((Below.refl _ _).alloc (Nat.le_refl _) _).alloc (by simp) _
  have j0 : JP w w.heap.size 0 [] ((w.alloc (.cells #[] 26)).alloc (.cells #[.bool false, .bool false, .bool false] 4)) := (JP.nil w w (Below.refl _ _)).below ((Below.refl _ _).alloc (Nat.le_refl _) _)
  have p0 : OwnB ((w.alloc (.cells #[] 26)).alloc (.cells #[.bool false, .bool false, .bool false] 4)) (w.heap.size + 1) (pinsA (ss.take 0)) := by
    refine ⟨[.bool false, .bool false, .bool false], ?_, fun v hv => ?_⟩
    · have := Cel.new (w.alloc (.cells #[] 26)) [.bool false, .bool false, .bool false] 4
      rw [World.size_alloc] at this; exact this
    · match v, hv with
      | 0, _ => simp [pinsA]
      | 1, _ => simp [pinsA]
      | 2, _ => simp [pinsA]
  go_enter Try.func99, Try.ntmps99
  go_wp2_with fail
  go_loopw [4, 6] (fun out v wr => ∃ (k G cG : Nat) (ts : List IV), k ≤ 3 ∧ v = .int .i64 k ∧ out = .slice (some ⟨G, 0, none⟩) k cG ∧ ts.length = k ∧ JP w G cG ts wr ∧ ts.map IV.x = pots3.take k ∧ OwnB wr (w.heap.size + 1) (pinsA (ss.take 0)) ∧ w.heap.size + 1 ≠ G) (fun _ v _ => 3 - (intOf v).toNat)
  case atStart => exact ⟨0, _, _, [], by omega, rfl, rfl, rfl, j0, rfl, p0, by omega⟩
  case round =>
    clear j0 p0 b0
    obtain ⟨k, G, cG, ts, hk, rfl, rfl, hl, jp, hx, p, pne⟩ := hrel
    have HL : Hid (ts.length = k) := hl
    have HX : Hid (ts.map IV.x = pots3.take k) := hx
    clear hl hx
    by_cases hlt : k < 3
    · have hlt' : (k : Int) < 3 := by omega
      have HP : Hid (potC (k : Int) = [0, 0, 0].set k 1) := potC_in _ k rfl (by omega)
      have lG := jp.lt
      go_wp2_with fail
      refine (spot_any _ _).mono ?_
      rintro e w1 ⟨a, n, ca, c, m, cc, B1, B2, rfl, hn, hm, b1, o1, o2, g1, g2, ne⟩
      have hn3 : n = 3 := by rw [← hn, HP.out]; simp
      subst hn3
      have I1 : Ints w1 a 3 (potC (k : Int)) := o1.ints' hn
      have Hne : Hid (∀ b o, a = some ⟨b, o, none⟩ → b ≠ G) := fun b o e => by
        rcases o1 with h | ⟨h, _⟩
        · rw [h] at hn; cases hn
        · rw [h] at e
          simp only [Option.some.injEq, Addr.mk.injEq, and_true] at e
          have := g1 (by omega)
          omega
      have jp1 := jp.below b1
      have p1 := p.below b1
      have jo := jp1.o
      rw [HL.out] at jo
      have js := jp1.b.size
      have hfl : ∀ W, (Instr.field 34 (formV a 3 ca c m cc 0) 0).run Try.prog W = .ok (.slice a 3 ca) W := fun W => field_C a 3 ca c m cc 0 W
      clear jp p b1 o1 o2 hn hm ne g1 g2
      go_wp2_with (at_builtin; go_must (refine wpList_append_lies _ rfl (.tmp 18) (.tmp 22) 46 rfl w.heap.size 26 i0 _ 1 24 Try.underlying46 hi hz0 hz1 hz2 rfl (by decide) _ _ _ rfl (jo.alloc _) ⟨w1.heap.size, 0, none⟩ 1 1 [.slice a 3 ca] rfl rfl (news1 w1 _ _) oneSl (by omega) (by unfold maxLen; omega) (by omega) (by rw [World.size_alloc]; omega) _ rfl ?_); intro g cp2 w2 hown hgrow hat hlt1)
      have hat' : g = G ∨ w1.heap.size ≤ g := by
        rcases hat with h | h
        · have h' : some G = some g := h
          simp only [Option.some.injEq] at h'
          exact Or.inl h'.symm
        · rw [World.size_alloc] at h
          exact Or.inr (by omega)
      have jp2 := jp1.app (s := ⟨a, 3, ca, potC (k : Int)⟩) HL.out rfl I1 Hne.out hown hgrow hat'
      have lp1 := p1.lt
      have p2 := p1.grown hgrow pne
      have pne2 : w.heap.size + 1 ≠ g := by omega
      have HX2 : Hid ((ts ++ [(⟨a, 3, ca, potC (k : Int)⟩ : IV)]).map IV.x = pots3.take (k + 1)) := by
        show _ = _
        rw [List.map_append, HX.out, pots3_take hlt, ← HP.out]; rfl
      have HL2 : Hid ((ts ++ [(⟨a, 3, ca, potC (k : Int)⟩ : IV)]).length = k + 1) := by show _ = _; rw [List.length_append, HL.out]; rfl
      clear hown hgrow hat jo jp1 p1 I1 Hne
      go_wp2
      go_roundw
      case rel => exact ⟨k + 1, g, cp2, _, by omega, by go_num, rfl, HL2.out, jp2, HX2.out, p2, pne2⟩
      case measure => simp [intOf]; omega
    · obtain rfl : k = 3 := by omega
      have HX3 : Hid (ts.map IV.x = actsP pots3 (ss.take 0)) := HX.out
      have hb3 := jp.b
      clear HX
      go_wp2_with fail
      go_loopw [4, 5, 7, 8, 9, 10, 11] (fun out pins i _ _ _ _ wr => ∃ (ia G cG nt Gp cp : Nat) (ts : List IV), ia ≤ N ∧ i = .int .i64 ia ∧ out = .slice (some ⟨G, 0, none⟩) nt cG ∧ pins = .slice (some ⟨Gp, 0, none⟩) 3 cp ∧ ts.length = nt ∧ nt ≤ 3 + 128000 * ia ∧ JP w G cG ts wr ∧ ts.map IV.x = actsP pots3 (ss.take ia) ∧ OwnB wr Gp (pinsA (ss.take ia)) ∧ w.heap.size ≤ Gp ∧ Gp ≠ G) (fun _ _ i _ _ _ _ _ => N - (intOf i).toNat)
      case atStart => exact ⟨0, G, cG, 3, w.heap.size + 1, 3, ts, by omega, rfl, rfl, rfl, HL.out, by omega, jp, HX3.out, p, by omega, pne⟩
      case round =>
        clear jp p pne HX3 HL hb3 hlt hk
        obtain ⟨ia, G, cG, nt, Gp, cp, ts, hia, rfl, rfl, rfl, hl, hnt, jp, hx, p, lGp, pne⟩ := hrel
        have HL : Hid (ts.length = nt) := hl
        have HX : Hid (ts.map IV.x = actsP pots3 (ss.take ia)) := hx
        clear hl hx
        by_cases hlt : ia < N
        · have hlt' : (ia : Int) < N := by omega
          have his : ia < ss.length := by rw [HN.out]; exact hlt
          obtain ⟨ab, ao, rfl, hc, hLG⟩ := (HF.out.below jp.b) ia his
          have HSA : Hid (∀ ps, ps = actsP pots3 (ss.take ia) → rowsP ps (rowsL (ss[ia]?.getD noL).x) = actsP pots3 (ss.take (ia + 1))) := fun ps h => by rw [h, actsP_snoc _ _ _ his]
          have HSB : Hid (∀ v, pinsA (ss.take (ia + 1)) v = (pinsA (ss.take ia) v || readsR (rowsL (ss[ia]?.getD noL).x) v)) := fun v => pinsA_snoc ss ia his v
          have hsok : (ss[ia]?.getD noL).ok = true := by
            rw [List.getElem?_eq_getElem his]
            exact List.all_eq_true.1 HOK.out _ (List.getElem_mem his)
          obtain ⟨s, hs⟩ : ∃ s, s = ss[ia]?.getD noL := ⟨_, rfl⟩
          rw [← hs] at hc hLG HSA HSB hsok
          obtain ⟨sa, sn, sc, sx⟩ := s
          have hAct : actB sn sx = true := hsok
          obtain ⟨hxl, hLin, hsn⟩ := hLG
          have hc' : wr.cell? ⟨ab, ao + ia, none⟩ = some (.slice sa sn sc) := hc
          have HXL : Hid (sx.length = sn) := hxl
          have HLIN : Hid (LinesG wr sa sx) := hLin
          have lG := jp.lt
          clear hs hc hsok hxl hLin
          have HAC : Hid (actB sn sx = true) := hAct
          clear hAct
          go_wp2_with fail
          refine (srows_any _ _ _ sx _ HXL.out HLIN.out hsn).mono ?_
          rw [show rowsB sn sx = rowsL sx from by rw [rowsB, HAC.out]; rfl]
          rintro ee w3 ⟨Gr, cr, xs, rfl, j3⟩
          have HFIT : Hid (∀ r ∈ rowsL sx, RowFit r) := rowsL_fit (by rw [HXL.out]; exact (actB_parts HAC.out).1) (actB_parts HAC.out).2 HLIN.out
          have jq3 : JQ wr.heap.size Gr cr G xs (rowsL sx) w3 := JQ.of j3 lG.2
          have p3 := p.below j3.b
          have jp3 := jp.below j3.b
          obtain ⟨R, hR⟩ : ∃ R, R = rowsL sx := ⟨_, rfl⟩
          have HSA' : Hid (∀ ps, ps = actsP pots3 (ss.take ia) → rowsP ps R = actsP pots3 (ss.take (ia + 1))) := fun ps h => by rw [hR]; exact HSA.out ps h
          have HSB' : Hid (∀ v, pinsA (ss.take (ia + 1)) v = (pinsA (ss.take ia) v || readsR R v)) := fun v => by rw [hR]; exact HSB.out v
          have q1 : R.length ≤ 128 := by rw [hR]; exact goW_128 (by omega)
          rw [← hR] at jq3 HFIT ⊢
          obtain ⟨n0, hn0⟩ : ∃ n0, n0 = wr.heap.size := ⟨_, rfl⟩
          rw [← hn0] at jq3
          obtain ⟨PS, hPS⟩ : ∃ PS, PS = actsP pots3 (ss.take ia) := ⟨_, rfl⟩
          obtain ⟨PB, hPB⟩ : ∃ PB, PB = pinsA (ss.take ia) := ⟨_, rfl⟩
          obtain ⟨pinK, hpin⟩ : ∃ pinK : Nat → Nat → Bool, pinK = fun k v => PB v || readsR (R.take k) v := ⟨_, rfl⟩
          have HPK : Hid (pinK = fun k v => PB v || readsR (R.take k) v) := hpin
          have p4 : OwnB w3 Gp (pinK 0) := p3.ext (fun v _ => by rw [hpin, hPB]; simp [readsR])
          have HX0 : Hid (ts.map IV.x = rowsP PS (R.take 0)) := by show _ = _; rw [HX.out, hPS]; rfl
          have HSA2 : Hid (rowsP PS R = actsP pots3 (ss.take (ia + 1))) := HSA'.out PS hPS
          have HSB2 : Hid (∀ v, pinsA (ss.take (ia + 1)) v = pinK R.length v) := fun v => by rw [HSB'.out v, hpin, hPB]; dsimp only; rw [List.take_of_length_le (Nat.le_refl _)]
          clear j3 hR HSA HSB HSA' HSB' hn0 hPS hPB hpin p p3 jp HX HLIN HXL HAC hc'
          go_wp2_with fail
          go_loopw [4, 5, 9, 10, 11] (fun out pins i _ _ wr => ∃ (k G cG nt Gp cp : Nat) (ts : List IV), k ≤ R.length ∧ i = .int .i64 k ∧ out = .slice (some ⟨G, 0, none⟩) nt cG ∧ pins = .slice (some ⟨Gp, 0, none⟩) 3 cp ∧ ts.length = nt ∧ nt ≤ 3 + 128000 * ia + 1000 * k ∧ JP w G cG ts wr ∧ ts.map IV.x = rowsP PS (R.take k) ∧ OwnB wr Gp (pinK k) ∧ w.heap.size ≤ Gp ∧ Gp ≠ G ∧ JQ n0 Gr cr G xs R wr) (fun _ _ i _ _ _ => R.length - (intOf i).toNat)
          case atStart => exact ⟨0, G, cG, nt, Gp, cp, ts, by omega, rfl, rfl, rfl, HL.out, by omega, jp3, HX0.out, p4, lGp, pne, jq3⟩
          case round =>
            clear jp3 p4 pne HX0 HL jq3 hnt lGp lG
            obtain ⟨k, Go, cGo, nt, G, cG, ts, hk, rfl, rfl, rfl, hl, hnt, jp, hx, o, lGp, pne, j⟩ := hrel
            have HL : Hid (ts.length = nt) := hl
            have HX : Hid (ts.map IV.x = rowsP PS (R.take k)) := hx
            have hb := jp.b
            clear hl hx
            by_cases hlt3 : k < R.length
            · have hlt3' : (k : Int) < R.length := by omega
              obtain ⟨ga, gc, aa, ac, ta, tc, x0, x1, x2, x3, f0, f1, f2⟩ := j.r k hlt3
              have HSP : Hid (∀ v, pinK (k + 1) v = readsF (readsF (pinK k) (R[k]?.getD noR).adds) (R[k]?.getD noR).tells v) := fun v => by
                rw [HPK.out]
                show (PB v || readsR (R.take (k + 1)) v) = _
                rw [readsR_snoc R k hlt3 v]
                simp [readsF, Bool.or_assoc]
              have HSG : Hid (∀ ps, ps = rowsP PS (R.take k) → guardsP ps (R[k]?.getD noR).guards = rowsP PS (R.take (k + 1))) := fun ps h => by rw [h, rowsP_snoc _ _ _ hlt3]
              have hfit : RowFit (R[k]?.getD noR) := HFIT.out _ (by rw [List.getElem?_eq_getElem hlt3]; exact List.getElem_mem hlt3)
              have HRK : Hid (∀ W, JQ n0 Gr cr Go xs R W → True) := fun _ _ => trivial
              obtain ⟨q, hq⟩ : ∃ q, q = R[k]?.getD noR := ⟨_, rfl⟩
              have HQ : Hid (q = R[k]?.getD noR) := hq
              rw [← hq] at x0 x1 x2 x3 f0 f1 f2 HSP HSG hfit
              have HA : Hid _ := hfit.a
              have HTt : Hid _ := hfit.t
              have HGf : Hid _ := hfit.g
              have la := hfit.la
              have lt := hfit.lt
              have lgq := hfit.lg
              have sl := j.o.1
              have n1 := (own_cell j.o (k * 4 + 1) (by omega)).trans x1
              have n2 := (own_cell j.o (k * 4 + 2) (by omega)).trans x2
              have lGr := j.lt
              have FA := f1.at
              have FT := f2.at
              have KP : Hid (∀ W, Below wr.heap.size wr W → (W.cell? ⟨Gr, k * 4 + 1, none⟩ = some (.slice aa q.adds.length ac) ∧ W.cell? ⟨Gr, k * 4 + 2, none⟩ = some (.slice ta q.tells.length tc))) := fun W hW => ⟨(hW.cell (p := ⟨Gr, k * 4 + 1, none⟩) lGr.2).trans n1, (hW.cell (p := ⟨Gr, k * 4 + 2, none⟩) lGr.2).trans n2⟩
              have e0 : Below wr.heap.size wr wr.drew := (Below.refl _ _).drew
              have hSS := And.intro (KP.out _ e0) (True.intro)
              have lGo := jp.lt
              clear hfit x0 x1 x2 x3 f0 f1 f2 hq
              go_upto_region 14 with fail
              refine wp_region_ends (fun w' => w'.cell? ⟨Gr, k * 4 + 1, none⟩ = some (.slice aa q.adds.length ac) ∧ w'.cell? ⟨Gr, k * 4 + 2, none⟩ = some (.slice ta q.tells.length tc)) (fun _ => True) 13 (by kernel_rfl) ?_
              refine wpAnyE_take0 (i := 0) (v := ?v0) rfl (by kernel_rfl) (by kernel_rfl) (by kernel_rfl) (by decide) (fun _ _ _ h => h) (Or.inl ⟨by rfl, ?hy0⟩) hSS ?_
              case hy0 => (intro wz hSw; (try dsimp only at hSw); go_simp; try (with_reducible rfl))
              refine wpAnyE_take0 (i := 1) (v := ?v1) rfl (by kernel_rfl) (by kernel_rfl) (by kernel_rfl) (by decide) (fun _ _ _ h => h) (Or.inl ⟨by rfl, ?hy1⟩) hSS ?_
              case hy1 => (intro wz hSw; (try dsimp only at hSw); go_simp; try (with_reducible rfl))
              refine wpAnyE_take0 (i := 2) (v := ?v2) rfl (by kernel_rfl) (by kernel_rfl) (by kernel_rfl) (by decide) (fun _ _ _ h => h) (Or.inl ⟨by rfl, ?hy2⟩) hSS ?_
              case hy2 => (intro wz hSw; (try dsimp only at hSw); go_simp; try (with_reducible rfl))
              refine wpAnyE_take0 (i := 3) (v := ?v3) rfl (by kernel_rfl) (by kernel_rfl) (by kernel_rfl) (by decide) (fun _ _ _ h => h) (Or.inl ⟨by rfl, ?hy3⟩) hSS ?_
              case hy3 => (intro wz hSw; (try dsimp only at hSw); go_simp; try (with_reducible rfl))
              refine wpAnyE_take0 (i := 4) (v := ?v4) rfl (by kernel_rfl) (by kernel_rfl) (by kernel_rfl) (by decide) (fun _ _ _ h => h) (Or.inl ⟨by rfl, ?hy4⟩) hSS ?_
              case hy4 => (intro wz hSw; (try dsimp only at hSw); go_simp; try (with_reducible rfl))
              refine wpAnyE_take0 (i := 5) (v := ?v5) rfl (by kernel_rfl) (by kernel_rfl) (by kernel_rfl) (by decide) (fun _ _ _ h => h) (Or.inl ⟨by rfl, ?hy5⟩) hSS ?_
              case hy5 => (intro wz hSw; (try dsimp only at hSw); go_simp; try (with_reducible rfl))
              refine wpAnyE_take0 (i := 7) (v := ?v7) rfl (by kernel_rfl) (by kernel_rfl) (by kernel_rfl) (by decide) (fun _ _ _ h => h) (Or.inl ⟨by rfl, ?hy7⟩) hSS ?_
              case hy7 => (intro wz hSw; (try dsimp only at hSw); go_simp; try (with_reducible rfl))
              refine wpAnyE_take0 (i := 8) (v := ?v8) rfl (by kernel_rfl) (by kernel_rfl) (by kernel_rfl) (by decide) (fun _ _ _ h => h) (Or.inl ⟨by rfl, ?hy8⟩) hSS ?_
              case hy8 => (intro wz hSw; (try dsimp only at hSw); go_simp; try (with_reducible rfl))
              refine wpAnyE_take0 (i := 9) (v := ?v9) rfl (by kernel_rfl) (by kernel_rfl) (by kernel_rfl) (by decide) (fun _ _ _ h => h) (Or.inl ⟨by rfl, ?hy9⟩) hSS ?_
              case hy9 => (intro wz hSw; (try dsimp only at hSw); go_simp; try (with_reducible rfl))
              refine wpAnyE_take0 (i := 10) (v := ?v10) rfl (by kernel_rfl) (by kernel_rfl) (by kernel_rfl) (by decide) (fun _ _ _ h => h) (Or.inl ⟨by rfl, ?hy10⟩) hSS ?_
              case hy10 => (intro wz hSw; (try dsimp only at hSw); go_simp; try (with_reducible rfl))
              refine wpAnyE_take0 (i := 11) (v := ?v11) rfl (by kernel_rfl) (by kernel_rfl) (by kernel_rfl) (by decide) (fun _ _ _ h => h) (Or.inl ⟨by rfl, ?hy11⟩) hSS ?_
              case hy11 => (intro wz hSw; (try dsimp only at hSw); go_simp; try (with_reducible rfl))
              clear hSS
              refine wpAnyE_one (i := 6) (by kernel_rfl) rfl (fun K hK => ?_)
              go_simp
              refine (sreads_any _ _ _ _ _ _ q.adds _ (o.bools.below e0) rfl (FA.keep e0) HA.out (by omega)).mono ?_
              rintro ee w4 ⟨G4, c4, rfl, bd4, l4, o4⟩
              have b4 := below_of_drew bd4
              have l4x : wr.heap.size ≤ G4 := l4
              clear bd4 l4
              (try dsimp only)
              refine hK.out _ _ ⟨KP.out _ b4, fun _ => trivial⟩ ?_
              clear hK K
              refine wpAnyE_one (i := 12) (by kernel_rfl) rfl (fun K hK => ?_)
              go_simp
              refine (sreads_any _ _ _ _ _ _ q.tells _ o4.bools rfl (FT.keep b4) HTt.out (by omega)).mono ?_
              rintro ee w5 ⟨G5, c5, rfl, bd5, l5, o5⟩
              have b5 := b4.trans (bd5.mono b4.size)
              have s4 := b4.size
              have sb := hb.size
              have O5 : Hid (OwnB w5 G5 (pinK (k + 1))) := o5.ext (fun v _ => (HSP.out v).symm)
              have J5 := j.below b5
              have P5 := jp.below b5
              have B5 := hb.trans (b5.mono hb.size)
              clear bd5 o4 o5 o j jp
              (try dsimp only)
              refine hK.out _ _ ⟨KP.out _ b5, fun _ => trivial⟩ ?_
              clear hK K
              refine wpAnyE_one (i := 13) (by kernel_rfl) rfl (fun K hK => ?_)
              go_simp
              refine hK.out _ _ ⟨KP.out _ b5, fun _ => trivial⟩ ?_
              clear hK K
              refine wpAnyE_done (by kernel_rfl) ?_ _
              clear KP b4 b5 FA FT n1 n2
              have pne5 : G5 ≠ Go := by omega
              have lG5 : w.heap.size ≤ G5 := by omega
              obtain ⟨PG, hPG⟩ : ∃ PG, PG = rowsP PS (R.take k) := ⟨_, rfl⟩
              have HSG2 : Hid (guardsP PG q.guards = rowsP PS (R.take (k + 1))) := HSG.out PG hPG
              have HXG : Hid (ts.map IV.x = guardsP PG (q.guards.take 0)) := by show _ = _; rw [HX.out, hPG]; rfl
              obtain ⟨NG, hNG⟩ : ∃ NG, NG = q.guards.length := ⟨_, rfl⟩
              have HNG : Hid (NG = q.guards.length) := hNG
              rw [← hNG] at lgq
              clear hPG HSG HX HSP hNG hb lGp pne sl lGr lGo e0
              go_wp2_with fail
              go_loopw [4, 10, 11] (fun out i _ wr => ∃ (g G cG nt : Nat) (ts : List IV), g ≤ NG ∧ i = .int .i64 g ∧ out = .slice (some ⟨G, 0, none⟩) nt cG ∧ ts.length = nt ∧ nt ≤ 3 + 128000 * ia + 1000 * k + g ∧ JP w G cG ts wr ∧ ts.map IV.x = guardsP PG (q.guards.take g) ∧ OwnB wr G5 (pinK (k + 1)) ∧ G5 ≠ G ∧ JQ n0 Gr cr G xs R wr) (fun _ i _ _ => NG - (intOf i).toNat)
              case atStart => exact ⟨0, Go, cGo, nt, ts, by omega, rfl, rfl, HL.out, by omega, P5, HXG.out, O5.out, pne5, J5⟩
              case round =>
                clear O5 P5 J5 HXG HL pne5 hnt B5 l5 s4 sb
                obtain ⟨g, G, cG, nt, ts, hg, rfl, rfl, hl, hnt, jp, hx, o, pne, j⟩ := hrel
                have HL : Hid (ts.length = nt) := hl
                have HX : Hid (ts.map IV.x = guardsP PG (q.guards.take g)) := hx
                clear hl hx
                obtain ⟨ga, gc, aa, ac, ta, tc, x0, x1, x2, x3, f0, f1, f2⟩ := j.r k hlt3
                rw [← HQ.out] at x0 f0
                have sl := j.o.1
                have n0' := (own_cell j.o (k * 4) (by omega)).trans x0
                rw [← HNG.out] at n0'
                have lGr := j.lt
                have lG := jp.lt
                by_cases hlt4 : g < NG
                · have hlt4' : (g : Int) < NG := by omega
                  have hgl : g < q.guards.length := by rw [← HNG.out]; exact hlt4
                  have HSX : Hid (guardsP PG (q.guards.take (g + 1)) = addPb (guardsP PG (q.guards.take g)) (partL (q.guards[g]?.getD ([], [], 0)).1)) := guardsP_snoc PG q.guards g hgl
                  have hl3 : (partL (q.guards[g]?.getD ([], [], 0)).1).length = 3 := partL_len3 (HGf.out g hgl)
                  obtain ⟨fb, fo, rfl, a', c', ca, cc, c0, c1, c2, iC, iD⟩ := f0.at g hgl
                  generalize (q.guards[g]?.getD ([], [], 0)).1 = C at *
                  generalize (q.guards[g]?.getD ([], [], 0)).2.2 = kz at *
                  have HPL : Hid ((partL C).length = 3) := hl3
                  clear f0 f1 f2 x0 x1 x2 x3 iD hl3
                  go_wp2_with fail
                  refine (spart_new _ 3 _ _ 2 _ _ C _ iC (by omega)).mono ?_
                  rintro ee w6 ⟨pa, pc, rfl, b6, i6, l6⟩
                  have jp6 := jp.below b6
                  have o6 := o.below b6
                  have j6 := j.below b6
                  have HL6 : Hid (∀ b o, pa = some ⟨b, o, none⟩ → b ≠ G) := fun b o e => by have := (l6 b o e).1; omega
                  clear jp o j b6 iC c0 c1 c2 n0' l6 lG lGr
                  go_wp2_with fail
                  refine (shas_any _ nt cG ts _ 3 _ (partL C) _ HL.out jp6.g (by omega) i6 (by omega)).mono ?_
                  rintro ee w7 ⟨rfl, b7⟩
                  have jp7 := jp6.below b7
                  have o7 := o6.below b7
                  have j7 := j6.below b7
                  have i7 := i6.below b7
                  obtain ⟨hv, hhv⟩ : ∃ hv, hv = hasI ts (partL C) := ⟨_, rfl⟩
                  have HV : Hid (hv = hasFrom (partL C) 0 (guardsP PG (q.guards.take g))) := by show _ = _; rw [hhv, hasI, HX.out]
                  rw [← hhv]
                  clear jp6 o6 j6 i6 b7 hhv
                  by_cases hneg : hv < 0
                  · go_wp2_with fail
                    refine (szero_any _).mono ?_
                    rintro ee w8 ⟨B1, B2, rfl, b8, y1, y12, y2, k1, k2⟩
                    have hfl : ∀ W, (Instr.field 34 (formV (some ⟨B1, 0, none⟩) 3 3 (some ⟨B2, 0, none⟩) 2 2 0) 0).run Try.prog W = .ok (.slice (some ⟨B1, 0, none⟩) 3 3) W := fun W => field_C _ _ _ _ _ _ _ W
                    have jp8 := jp7.below b8
                    have o8 := o7.below b8
                    have j8 := j7.below b8
                    have i8 := i7.below b8
                    clear jp7 o7 j7 i7 b8 y1 y12 y2 k2
                    go_wp2_with fail
                    refine (l4same_any _ _ 3 3 _ _ (partL C) [0, 0, 0] _ i8 (k1.ints' rfl) (by omega) (by omega)).mono ?_
                    rintro ee w9 ⟨rfl, b9⟩
                    have jp9 := jp8.below b9
                    have o9 := o8.below b9
                    have j9 := j8.below b9
                    have i9 := i8.below b9
                    clear jp8 o8 j8 i8 b9 k1 hfl
                    cases hz : eqB (partL C) [0, 0, 0]
                    · have HNZ : Hid (partL C ≠ [0, 0, 0]) := fun e => by rw [e] at hz; simp [eqB] at hz
                      have jo := jp9.o
                      rw [HL.out] at jo
                      have js := jp9.b.size
                      have lo9 := o9.lt
                      clear hz
                      go_wp2_with (at_builtin; go_must (refine wpList_append_lies _ rfl (.tmp 84) (.tmp 86) 46 rfl w.heap.size 26 i0 _ 1 24 Try.underlying46 hi hz0 hz1 hz2 rfl (by decide) _ _ _ rfl (jo.alloc _) ⟨w9.heap.size, 0, none⟩ 1 1 [.slice pa 3 pc] rfl rfl (news1 w9 _ _) oneSl (by omega) (by unfold maxLen; omega) (by omega) (by rw [World.size_alloc]; omega) _ rfl ?_); intro gg cp2 w10 hown hgrow hat hlt1)
                      have hat' : gg = G ∨ w9.heap.size < gg := by
                        rcases hat with h | h
                        · have h' : some G = some gg := h
                          simp only [Option.some.injEq] at h'
                          exact Or.inl h'.symm
                        · rw [World.size_alloc] at h
                          exact Or.inr (by omega)
                      have jp10 := jp9.app (s := ⟨pa, 3, pc, partL C⟩) HL.out rfl i9 HL6.out hown hgrow (by omega)
                      have o10 := o9.grown hgrow pne
                      have j10 := j9.grown hgrow hat'
                      have HXa : Hid ((ts ++ [(⟨pa, 3, pc, partL C⟩ : IV)]).map IV.x = guardsP PG (q.guards.take (g + 1))) := by
                        show _ = _
                        rw [List.map_append, HX.out, HSX.out, addP_new (by rw [← HV.out]; exact hneg) HNZ.out]; rfl
                      have HLa : Hid ((ts ++ [(⟨pa, 3, pc, partL C⟩ : IV)]).length = nt + 1) := by show _ = _; rw [List.length_append, HL.out]; rfl
                      have pne10 : G5 ≠ gg := by omega
                      clear hown hgrow hat jo jp9 o9 j9 i9 HL6 HNZ
                      go_wp2
                      go_roundw
                      case rel => exact ⟨g + 1, gg, cp2, nt + 1, _, by omega, by go_num, rfl, HLa.out, by omega, jp10, HXa.out, o10, pne10, j10⟩
                      case measure => simp [intOf]; omega
                    · have HXa : Hid (ts.map IV.x = guardsP PG (q.guards.take (g + 1))) := by
                        show _ = _
                        rw [HX.out, HSX.out, addP_zero (by simpa [eqB] using hz)]
                      clear hz HX
                      go_wp2
                      go_roundw
                      case rel => exact ⟨g + 1, G, cG, nt, ts, by omega, by go_num, rfl, HL.out, by omega, jp9, HXa.out, o9, pne, j9⟩
                      case measure => simp [intOf]; omega
                  · have HXa : Hid (ts.map IV.x = guardsP PG (q.guards.take (g + 1))) := by
                      show _ = _
                      rw [HX.out, HSX.out, addP_has (by rw [← HV.out]; exact hneg)]
                    clear HX
                    go_wp2
                    go_roundw
                    case rel => exact ⟨g + 1, G, cG, nt, ts, by omega, by go_num, rfl, HL.out, by omega, jp7, HXa.out, o7, pne, j7⟩
                    case measure => simp [intOf]; omega
                · obtain rfl : g = NG := by omega
                  have HXe : Hid (ts.map IV.x = rowsP PS (R.take (k + 1))) := by
                    show _ = _
                    rw [HX.out, List.take_of_length_le (by rw [← HNG.out]; exact Nat.le_refl _), HSG2.out]
                  clear f0 f1 f2 x0 x1 x2 x3 HX
                  go_wp2
                  go_roundw
                  case rel => exact ⟨k + 1, G, cG, nt, G5, c5, ts, by omega, by go_num, rfl, rfl, HL.out, by omega, jp, HXe.out, o, lG5, pne, j⟩
                  case measure => simp [intOf]; omega
            · obtain rfl : k = R.length := by omega
              have HXe : Hid (ts.map IV.x = actsP pots3 (ss.take (ia + 1))) := by
                show _ = _
                rw [HX.out, List.take_of_length_le (Nat.le_refl _), HSA2.out]
              have oe : OwnB wr G (pinsA (ss.take (ia + 1))) := o.ext (fun v _ => (HSB2.out v).symm)
              clear o HX
              go_wp2
              go_roundw
              case rel =>
                refine ⟨_, _, _, _, _, _, _, _, _, _, _, _, _, _, _, _, _, _, _, _, _, _, _, _, _, _, _, _, _, _, _, _, _, _, _, _, _, _, _, _, _, _, _, _, _, _, _, _, _, _, _, _, _, _, _, _, _, _, _, _, _, _, _, _, _, _, _, _, _, _, _, ?_, rfl⟩
                exact ⟨ia + 1, Go, cGo, nt, G, cG, ts, by omega, by go_num, rfl, rfl, HL.out, by omega, jp, HXe.out, oe, lGp, pne⟩
              case measure => simp [intOf]; omega
        · obtain rfl : ia = N := by omega
          have hall : ss.take ia = ss := List.take_of_length_le (by rw [HN.out]; exact Nat.le_refl _)
          have HXe : Hid (ts.map IV.x = catP ss) := by show _ = _; rw [HX.out, hall]; rfl
          have oe : OwnB wr Gp (pinsA ss) := by rw [hall] at p; exact p
          clear hall p HX
          go_wp2
          go_ret2
          exact ⟨G, cG, ts, nt, Gp, cp, rfl, HL.out, jp, HXe.out, by omega, oe, lGp⟩

end Go.Proofs.Ytjggppnffkcmbaa
