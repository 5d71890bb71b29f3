/-
  A small form into the pots of a way: neither text refuses.
-/
import Derived.Test.YtdigmokjedckeaaGreatDoorWalkL
namespace Go.Proofs.YtdigmokjedckeaaGreatDoor
open Go.RowKit Go.Deep
set_option linter.unusedVariables false
set_option maxRecDepth 100000

theorem allB_ofW {M : Int} {zs : List Int} (h : bnd M zs) : allB M zs = true := by
  unfold allB
  rw [List.all_eq_true]
  intro z hz
  obtain ⟨i, hi, rfl⟩ := List.getElem_of_mem hz
  have := h i
  rw [List.getElem?_eq_getElem hi] at this
  simp only [Option.getD_some] at this
  exact inB_iff.2 this
theorem fit_ok {f : Frm} (h : fitX 10000000 f) : formB 3 2 f.1 f.2.1 f.2.2 = true := by
  simp only [formB, okN, Bool.and_eq_true, decide_eq_true_eq]
  exact ⟨⟨⟨rfl, allB_ofW h.bc⟩, rfl, allB_ofW h.bd⟩, inB_iff.2 ⟨h.k1, h.k2⟩⟩
/-- Forms that can be read, with where they lie. -/
theorem FormsAt.fv {w : World} {a : Option Addr} {P : List Frm} (h : FormsAt w a P) (hl : P.length = 3) : ∃ fs : List FV, fs.length = 3 ∧ FormsG w a fs ∧ ∀ k, k < 3 → (fs[k]?.getD noFV).n = 3 ∧ (fs[k]?.getD noFV).m = 2 ∧ (fs[k]?.getD noFV).C = (P[k]?.getD noX).1 ∧ (fs[k]?.getD noFV).D = (P[k]?.getD noX).2.1 ∧ (fs[k]?.getD noFV).K = (P[k]?.getD noX).2.2 := by
  obtain ⟨b, off, e, a0, c0, p0, q0, x0, x1, x2, i0, j0⟩ := h 0 (by omega)
  obtain ⟨b1, off1, e1, a1, c1, p1, q1, y0, y1, y2, i1, j1⟩ := h 1 (by omega)
  obtain ⟨b2, off2, e2, a2, c2, p2, q2, z0, z1, z2, i2, j2⟩ := h 2 (by omega)
  refine ⟨[⟨a0, 3, p0, c0, 2, q0, (P[0]?.getD noX).2.2, (P[0]?.getD noX).1, (P[0]?.getD noX).2.1⟩, ⟨a1, 3, p1, c1, 2, q1, (P[1]?.getD noX).2.2, (P[1]?.getD noX).1, (P[1]?.getD noX).2.1⟩, ⟨a2, 3, p2, c2, 2, q2, (P[2]?.getD noX).2.2, (P[2]?.getD noX).1, (P[2]?.getD noX).2.1⟩], rfl, fun i hi => ?_, fun k hk => ?_⟩
  · match i, hi with
    | 0, _ => exact ⟨b, off, e, x0, x1, x2, ⟨i0, j0, by show (3 : Nat) ≤ _; omega, by show (2 : Nat) ≤ _; omega⟩⟩
    | 1, _ => exact ⟨b1, off1, e1, y0, y1, y2, ⟨i1, j1, by show (3 : Nat) ≤ _; omega, by show (2 : Nat) ≤ _; omega⟩⟩
    | 2, _ => exact ⟨b2, off2, e2, z0, z1, z2, ⟨i2, j2, by show (3 : Nat) ≤ _; omega, by show (2 : Nat) ≤ _; omega⟩⟩
  · match k, hk with
    | 0, _ => exact ⟨rfl, rfl, rfl, rfl, rfl⟩
    | 1, _ => exact ⟨rfl, rfl, rfl, rfl, rfl⟩
    | 2, _ => exact ⟨rfl, rfl, rfl, rfl, rfl⟩

theorem into_eq {g : FV} {P : List Frm} {fs : List FV} (hP : P.length = 3) (h : ∀ k, k < 3 → (fs[k]?.getD noFV).C = (P[k]?.getD noX).1 ∧ (fs[k]?.getD noFV).D = (P[k]?.getD noX).2.1 ∧ (fs[k]?.getD noFV).K = (P[k]?.getD noX).2.2) : intoC g.C fs 3 = (intoX g P).1 ∧ intoD g.C g.D fs 3 = (intoX g P).2.1 ∧ intoK g.C g.K fs 3 = (intoX g P).2.2 := by
  obtain ⟨x0, x1, x2⟩ := h 0 (by omega)
  obtain ⟨y0, y1, y2⟩ := h 1 (by omega)
  obtain ⟨z0, z1, z2⟩ := h 2 (by omega)
  have t0 := toFV_at (P := P) (k := 0) (by omega)
  have t1 := toFV_at (P := P) (k := 1) (by omega)
  have t2 := toFV_at (P := P) (k := 2) (by omega)
  simp only [intoX, intoC, intoD, intoK, x0, x1, x2, y0, y1, y2, z0, z1, z2, t0, t1, t2, toFV]
  exact ⟨trivial, trivial, trivial⟩

/-- What a call of either FrmInto leaves, where no number is too great. -/
theorem into_done {i : Nat} {y : Way} (hy : WayOk i y) (h6 : i ≤ 6) (g : FV) (hs : smallB g.n g.m g.C g.D g.K = true) (w : World) (hA : g.At w) (pa : Option Addr) (cp : Nat) (hP : FormsAt w pa y.pots) (fn : Nat)
    (call : ∀ fs : List FV, fs.length = 3 → FormsG w pa fs → Calls Tryz.prog fn #[formV g.a g.n g.cap g.c g.m g.cap' g.K, .slice pa 3 cp] w fun e w' => Res w w' e (keepL (intoOk g.n g.m g.C g.D g.K 3 fs) (intoC g.C fs 3)) (keepL (intoOk g.n g.m g.C g.D g.K 3 fs) (intoD g.C g.D fs 3)) (keepK (intoOk g.n g.m g.C g.D g.K 3 fs) (intoK g.C g.K fs 3))) :
    Calls Tryz.prog fn #[formV g.a g.n g.cap g.c g.m g.cap' g.K, .slice pa 3 cp] w fun e w' => ∃ B1 B2 c1 c2, e = .returned (formV (some ⟨B1, 0, none⟩) 3 c1 (some ⟨B2, 0, none⟩) 2 c2 (intoX g y.pots).2.2) ∧ Below w.heap.size w w' ∧ w.heap.size ≤ B1 ∧ B1 ≠ B2 ∧ w.heap.size ≤ B2 ∧ Blk w' B1 (intoX g y.pots).1 ∧ Blk w' B2 (intoX g y.pots).2.1 := by
  obtain ⟨fs, hl, hG, hv⟩ := hP.fv hy.pl
  have hw6 := wb_six h6
  obtain ⟨q1, q2, q3⟩ := into_eq (g := g) hy.pl (fun k hk => ⟨(hv k hk).2.2.1, (hv k hk).2.2.2.1, (hv k hk).2.2.2.2⟩)
  obtain ⟨f1, f2, f3⟩ := hy.into h6 hs hA.D.1
  have hok : fs.all FV.ok = true := by
    rw [List.all_eq_true]
    intro x hx
    obtain ⟨k, hk, rfl⟩ := List.getElem_of_mem hx
    obtain ⟨e1, e2, e3, e4, e5⟩ := hv k (by omega)
    rw [List.getElem?_eq_getElem hk] at e1 e2 e3 e4 e5
    simp only [Option.getD_some] at e1 e2 e3 e4 e5
    have hf := fit_ok ((hy.pf k (by omega)).mono (show wb (min i 6) ≤ 10000000 by have := wb_six (n := min i 6) (by omega); omega))
    unfold FV.ok
    rw [e1, e2, e3, e4, e5]; exact hf
  have hio : intoOk g.n g.m g.C g.D g.K 3 fs = true := by
    unfold intoOk
    rw [small_ok hs, hok, q1, q2, q3, fit_ok f2]; rfl
  refine (call fs hl hG).mono ?_
  rintro e w' ⟨a, n, cap, c, m, cap', B1, B2, rfl, L1, L2, b, o1, o2, g1, g2, g3⟩
  rw [hio] at L1 L2 o1 o2 ⊢
  simp only [keepL, keepK, if_true] at L1 L2 o1 o2 ⊢
  rw [q1] at L1 o1
  rw [q2] at L2 o2
  rw [q3]
  have hc := f2.c
  have hd := f2.d
  obtain rfl : n = 3 := by omega
  obtain rfl : m = 2 := by omega
  rcases o1 with h | ⟨rfl, k1⟩
  · rw [h] at hc; cases hc
  rcases o2 with h | ⟨rfl, k2⟩
  · rw [h] at hd; cases hd
  exact ⟨B1, B2, cap, cap', rfl, b, g1 (by omega), g3 (by omega) (by omega), g2 (by omega), k1, k2⟩

theorem sintoW_any {i : Nat} {y : Way} (hy : WayOk i y) (h6 : i ≤ 6) (g : FV) (hs : smallB g.n g.m g.C g.D g.K = true) (w : World) (hA : g.At w) (pa : Option Addr) (cp : Nat) (hP : FormsAt w pa y.pots) :
    Calls Tryz.prog 124 #[formV g.a g.n g.cap g.c g.m g.cap' g.K, .slice pa 3 cp] w fun e w' => ∃ B1 B2 c1 c2, e = .returned (formV (some ⟨B1, 0, none⟩) 3 c1 (some ⟨B2, 0, none⟩) 2 c2 (intoX g y.pots).2.2) ∧ Below w.heap.size w w' ∧ w.heap.size ≤ B1 ∧ B1 ≠ B2 ∧ w.heap.size ≤ B2 ∧ Blk w' B1 (intoX g y.pots).1 ∧ Blk w' B2 (intoX g y.pots).2.1 :=
  into_done hy h6 g hs w hA pa cp hP _ (fun fs hl hG => sinto_any _ _ _ _ _ _ _ g.C g.D _ _ _ fs _ hA.C hA.D hA.hn hA.hm hl hG (by omega))

theorem iintoW_any {i : Nat} {y : Way} (hy : WayOk i y) (h6 : i ≤ 6) (g : FV) (hs : smallB g.n g.m g.C g.D g.K = true) (w : World) (hA : g.At w) (pa : Option Addr) (cp : Nat) (hP : FormsAt w pa y.pots) :
    Calls Tryz.prog 163 #[formV g.a g.n g.cap g.c g.m g.cap' g.K, .slice pa 3 cp] w fun e w' => ∃ B1 B2 c1 c2, e = .returned (formV (some ⟨B1, 0, none⟩) 3 c1 (some ⟨B2, 0, none⟩) 2 c2 (intoX g y.pots).2.2) ∧ Below w.heap.size w w' ∧ w.heap.size ≤ B1 ∧ B1 ≠ B2 ∧ w.heap.size ≤ B2 ∧ Blk w' B1 (intoX g y.pots).1 ∧ Blk w' B2 (intoX g y.pots).2.1 :=
  into_done hy h6 g hs w hA pa cp hP _ (fun fs hl hG => iinto_any _ _ _ _ _ _ _ g.C g.D _ _ _ fs _ hA.C hA.D hA.hn hA.hm hl hG (by omega))

end Go.Proofs.YtdigmokjedckeaaGreatDoor
