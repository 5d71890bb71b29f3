/-
  Plain facts on forms: their shape where they are ok, and what sums and times are at pots and arguments.
-/
import Derived.Test.YtfkcfjkojfnfnaaDoorFvC
namespace Go.Proofs.YtfkcfjkojfnfnaaDoor
open Go.RowKit
set_option linter.unusedVariables false

theorem two_of {A : List Int} (h : A.length = 2) : ∃ x y, A = [x, y] := by
  match A, h with
  | [x, y], _ => exact ⟨x, y, rfl⟩
theorem three_of {A : List Int} (h : A.length = 3) : ∃ x y z, A = [x, y, z] := by
  match A, h with
  | [x, y, z], _ => exact ⟨x, y, z, rfl⟩
/-- Within what a form's numbers may be. -/
def inM (x : Int) : Prop := -10000000 ≤ x ∧ x ≤ 10000000
theorem okP_of {x y z s t K : Int} (hx : inM x) (hy : inM y) (hz : inM z) (hs : inM s) (ht : inM t) (hK : inM K) : okP ([x, y, z], [s, t], K) = true := by
  unfold inM at *
  simp [okP, formB, okN, allB, inB]
  omega
theorem okP_shape {f : Frm} (h : okP f = true) : ∃ x y z s t K, f = ([x, y, z], [s, t], K) ∧ inM x ∧ inM y ∧ inM z ∧ inM s ∧ inM t ∧ inM K := by
  obtain ⟨C, D, K⟩ := f
  obtain ⟨l1, l2, b1, b2, b3, b4⟩ := formB_elim h
  obtain ⟨x, y, z, rfl⟩ := three_of l1
  obtain ⟨s, t, rfl⟩ := two_of l2
  have c0 := b1 0
  have c1 := b1 1
  have c2 := b1 2
  have d0 := b2 0
  have d1 := b2 1
  simp only [List.getElem?_cons_zero, List.getElem?_cons_succ, Option.getD_some] at c0 c1 c2 d0 d1
  exact ⟨x, y, z, s, t, K, rfl, c0, c1, c2, d0, d1, ⟨b3, b4⟩⟩
theorem okP_no {x y z s t K : Int} (h : okP ([x, y, z], [s, t], K) = true) : inM x ∧ inM y ∧ inM z ∧ inM s ∧ inM t ∧ inM K := by
  obtain ⟨x', y', z', s', t', K', e, h⟩ := okP_shape h
  simp only [Prod.mk.injEq, List.cons.injEq, and_true] at e
  obtain ⟨⟨rfl, rfl, rfl⟩, ⟨rfl, rfl⟩, rfl⟩ := e
  exact h
theorem timP_no {f : Frm} {k : Int} (h : timB f k = false) : timP f k = ([], [], 0) := by unfold timP; rw [h]; rfl
theorem timP_yes {f : Frm} {k : Int} (h : timB f k = true) : timP f k = (mulL k f.1, mulL k f.2.1, k * f.2.2) := by unfold timP; rw [h]; rfl
theorem timB_ok {f : Frm} {k : Int} (h : timB f k = true) : okP f = true ∧ -10000000 ≤ k ∧ k ≤ 10000000 := by
  unfold timB timOk at h
  simp only [Bool.and_eq_true] at h
  exact ⟨h.1.1, inB_iff.1 h.1.2⟩
theorem timB_not {f : Frm} {k : Int} (h : okP f = false) : timB f k = false := by
  unfold okP at h
  unfold timB timOk
  rw [h]; rfl
theorem tim_shape {x y z s t K k : Int} (h : okP ([x, y, z], [s, t], K) = true) (h1 : -10000000 ≤ k) (h2 : k ≤ 10000000) (h3 : okP ([k * x, k * y, k * z], [k * s, k * t], k * K) = true) : timP ([x, y, z], [s, t], K) k = ([k * x, k * y, k * z], [k * s, k * t], k * K) := by
  have hb : timB ([x, y, z], [s, t], K) k = true := by
    unfold timB timOk
    unfold okP at h h3
    rw [h, inB_iff.2 ⟨h1, h2⟩]
    exact h3
  rw [timP_yes hb]
  rfl
theorem tim_one {f : Frm} (h : okP f = true) : timP f 1 = f := by
  obtain ⟨x, y, z, s, t, K, rfl, _⟩ := okP_shape h
  have e := tim_shape (k := 1) h (by omega) (by omega) (by simpa using h)
  simpa using e
theorem tim_nil {f : Frm} (h : okP f = true) : timP f 0 = zeroP := by
  obtain ⟨x, y, z, s, t, K, rfl, _⟩ := okP_shape h
  have e := tim_shape (k := 0) h (by omega) (by omega) (by simp; decide)
  simpa [zeroP] using e
theorem tim_neg {x y z s t K : Int} (h : okP ([x, y, z], [s, t], K) = true) : timP ([x, y, z], [s, t], K) (-1) = ([-x, -y, -z], [-s, -t], -K) ∧ okP ([-x, -y, -z], [-s, -t], -K) = true := by
  obtain ⟨a1, a2, a3, a4, a5, a6⟩ := okP_no h
  have h' : okP ([-x, -y, -z], [-s, -t], -K) = true := okP_of (by unfold inM at *; omega) (by unfold inM at *; omega) (by unfold inM at *; omega) (by unfold inM at *; omega) (by unfold inM at *; omega) (by unfold inM at *; omega)
  have e := tim_shape (k := -1) h (by omega) (by omega) (by simpa using h')
  exact ⟨by simpa using e, h'⟩
theorem tim_back {f : Frm} (h : okP f = true) : timP (timP f (-1)) (-1) = f := by
  obtain ⟨x, y, z, s, t, K, rfl, _⟩ := okP_shape h
  obtain ⟨e, h'⟩ := tim_neg h
  rw [e, (tim_neg h').1]
  simp
theorem add_neg {f : Frm} (h : okP f = true) : addP f (timP f (-1)) = zeroP := by
  obtain ⟨x, y, z, s, t, K, rfl, _⟩ := okP_shape h
  obtain ⟨e, h'⟩ := tim_neg h
  rw [e]
  have hb : addB ([x, y, z], [s, t], K) ([-x, -y, -z], [-s, -t], -K) = true := by
    unfold addB addOk
    unfold okP at h h'
    rw [h, h']
    simp [lin, formB, okN, allB, inB]
    omega
  unfold addP
  rw [hb]
  simp [keepL, keepK, lin, zeroP]
  omega
theorem dot_mul {xs V : List Int} {n : Int} {k : Nat} (h : xs.length = k) : ∀ j, j ≤ k → dot (mulL n xs) V j = n * dot xs V j
  | 0, _ => by simp [dot]
  | j + 1, hj => by
    have ih := dot_mul (V := V) (n := n) h j (by omega)
    have e := mulL_get (n := n) (zs := xs) (i := j) (by omega)
    simp only [dot, ih, e]
    rw [Int.mul_add, Int.mul_assoc]
theorem at_bnd {f : Frm} {V A : List Int} : -10000000000000 ≤ atP f V A ∧ atP f V A ≤ 10000000000000 := by
  unfold atP
  cases h : atOk f.1.length f.2.1.length V.length A.length f.1 f.2.1 f.2.2 V A
  · rw [atN_no h]; omega
  · rw [atN_yes h]
    unfold atOk at h
    simp only [Bool.and_eq_true] at h
    obtain ⟨⟨h1, h2⟩, h3⟩ := h
    obtain ⟨_, _, b1, b2, b3, b4⟩ := formB_elim h1
    have v1 := (okN_elim (by omega) h2).2
    have a1 := (okN_elim (by omega) h3).2
    have d1 := dot_bnd (bndP_of b1 v1 (by omega) (by omega)) 3
    have d2 := dot_bnd (bndP_of b2 a1 (by omega) (by omega)) 2
    unfold atV
    omega
theorem tim_at {f : Frm} {k : Int} {V A : List Int} (h : atB (timP f k) V A = true) : atB f V A = true ∧ atP (timP f k) V A = k * atP f V A := by
  have hb : timB f k = true := by
    cases hb : timB f k
    · rw [timP_no hb] at h
      unfold atB atOk at h
      simp [formB, okN] at h
    · rfl
  obtain ⟨h1, _, _⟩ := timB_ok hb
  have h' := h
  unfold atB atOk at h'
  simp only [Bool.and_eq_true] at h'
  obtain ⟨⟨_, hV⟩, hA⟩ := h'
  have t1 : atB f V A = true := by unfold okP at h1; unfold atB atOk; rw [h1, hV, hA]; rfl
  refine ⟨t1, ?_⟩
  have l1 := formB_elim h1
  unfold atP
  rw [atN_yes h, atN_yes t1, timP_yes hb]
  unfold atV
  rw [dot_mul l1.1 3 (by omega), dot_mul l1.2.1 2 (by omega)]
  dsimp only
  rw [Int.mul_add, Int.mul_add]

end Go.Proofs.YtfkcfjkojfnfnaaDoor
