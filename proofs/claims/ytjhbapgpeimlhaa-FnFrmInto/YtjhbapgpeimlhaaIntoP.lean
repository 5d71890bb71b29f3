/-
  A form in which each pot is a form itself, over plain triples: what it is at pots and arguments.
-/
import Derived.Test.YtjhbapgpeimlhaaIntoL
import Derived.Test.YtjhbapgpeimlhaaFvL
namespace Go.Proofs.Ytjhbapgpeimlhaa
open Go.RowKit
set_option linter.unusedVariables false

def intoB (f : Frm) (fs : List FV) : Bool := intoOk f.1.length f.2.1.length f.1 f.2.1 f.2.2 fs.length fs
def intoP (f : Frm) (fs : List FV) : Frm := (keepL (intoB f fs) (intoC f.1 fs 3), keepL (intoB f fs) (intoD f.1 f.2.1 fs 3), keepK (intoB f fs) (intoK f.1 f.2.2 fs 3))
theorem intoC_le (C : List Int) (fs : List FV) : ∀ k, (intoC C fs k).length ≤ 3
  | 0 => by simp [intoC]
  | k + 1 => lin_le (intoC_le C fs k)
theorem intoD_le (C D : List Int) (fs : List FV) : ∀ k, (intoD C D fs k).length ≤ D.length
  | 0 => Nat.le_refl _
  | k + 1 => lin_le (intoD_le C D fs k)
theorem pInto (f : Frm) (fs : List FV) (a : Option Addr) (n cap : Nat) (c : Option Addr) (m cap' : Nat) (ad : Option Addr) (N capN : Nat) (w : World) (hf : FA w a n c m f) (hN : fs.length = N) (hF : FormsG w ad fs) (hN1 : N ≤ 1048576) :
    Calls Try.prog 25 #[formV a n cap c m cap' f.2.2, .slice ad N capN] w fun e w' => Mk w w' e (intoP f fs) := by
  obtain rfl := hf.C.1
  obtain rfl := hf.D.1
  subst hN
  exact (iinto_any a _ cap c _ cap' f.2.2 f.1 f.2.1 ad _ capN fs w hf.C hf.D hf.hn hf.hm rfl hF hN1).mono fun e w' h => Mk.of h (keepL_len (Nat.le_trans (intoC_le _ _ 3) (by omega))) (keepL_len (Nat.le_trans (intoD_le _ _ _ 3) hf.hm))

theorem qInto (f : Frm) (fs : List FV) (a : Option Addr) (n cap : Nat) (c : Option Addr) (m cap' : Nat) (ad : Option Addr) (N capN : Nat) (w : World) (hf : FA w a n c m f) (hN : fs.length = N) (hF : FormsG w ad fs) (hN1 : N ≤ 1048576) :
    Calls Try.prog 26 #[formV a n cap c m cap' f.2.2, .slice ad N capN] w fun e w' => Mk w w' e (intoP f fs) := by
  obtain rfl := hf.C.1
  obtain rfl := hf.D.1
  subst hN
  exact (sinto_any a _ cap c _ cap' f.2.2 f.1 f.2.1 ad _ capN fs w hf.C hf.D hf.hn hf.hm rfl hF hN1).mono fun e w' h => Mk.of h (keepL_len (Nat.le_trans (intoC_le _ _ 3) (by omega))) (keepL_len (Nat.le_trans (intoD_le _ _ _ 3) hf.hm))

theorem three_fv {fs : List FV} (h : fs.length = 3) : ∃ F G H, fs = [F, G, H] := by
  match fs, h with
  | [F, G, H], _ => exact ⟨F, G, H, rfl⟩
/-- Lists of the forms are as long as they say. -/
def lensF (fs : List FV) : Prop := ∀ i, i < fs.length → (fs[i]?.getD noFV).C.length = (fs[i]?.getD noFV).n ∧ (fs[i]?.getD noFV).D.length = (fs[i]?.getD noFV).m
theorem FormsG.lens {w : World} {ad : Option Addr} {fs : List FV} (h : FormsG w ad fs) : lensF fs := fun i hi => by
  obtain ⟨_, _, _, _, _, _, hA⟩ := h i hi
  exact ⟨hA.C.1, hA.D.1⟩
theorem fv_shape {F : FV} (h : F.ok = true) (h1 : F.C.length = F.n) (h2 : F.D.length = F.m) : okP (F.C, F.D, F.K) = true := by
  unfold okP
  dsimp only
  rw [h1, h2]
  exact h
theorem at_lists {f : Frm} {V A : List Int} (h : atB f V A = true) : okP f = true ∧ ∃ v0 v1 v2 a0 a1, V = [v0, v1, v2] ∧ A = [a0, a1] := by
  unfold atB atOk at h
  simp only [Bool.and_eq_true] at h
  obtain ⟨⟨h1, hV⟩, hA⟩ := h
  obtain ⟨x, y, z, rfl⟩ := three_of (A := V) (by have := (okN_elim (by omega) hV).1; omega)
  obtain ⟨s, t, rfl⟩ := two_of (A := A) (by have := (okN_elim (by omega) hA).1; omega)
  exact ⟨h1, x, y, z, s, t, rfl, rfl⟩
theorem at_of {f g : Frm} {V A : List Int} (h : atB f V A = true) (hg : okP g = true) : atB g V A = true := by
  unfold atB atOk at h ⊢
  simp only [Bool.and_eq_true] at h ⊢
  exact ⟨⟨hg, h.1.2⟩, h.2⟩
theorem into_at {f : Frm} {fs : List FV} {V A : List Int} (hL : lensF fs) (h : atB (intoP f fs) V A = true) : ∃ F G H, fs = [F, G, H] ∧ (atB f [atP F.frm V A, atP G.frm V A, atP H.frm V A] A = true → atP (intoP f fs) V A = atP f [atP F.frm V A, atP G.frm V A, atP H.frm V A] A) := by
  have hb : intoB f fs = true := by
    cases hb : intoB f fs
    · unfold intoP at h
      rw [hb] at h
      unfold atB atOk at h
      simp [keepL, keepK, formB, okN] at h
    · rfl
  have e : intoP f fs = (intoC f.1 fs 3, intoD f.1 f.2.1 fs 3, intoK f.1 f.2.2 fs 3) := by unfold intoP; rw [hb]; rfl
  have hb' := hb
  unfold intoB intoOk at hb'
  simp only [Bool.and_eq_true, decide_eq_true_eq] at hb'
  obtain ⟨⟨⟨h1, h2⟩, h3⟩, _⟩ := hb'
  obtain ⟨F, G, H, rfl⟩ := three_fv h2
  refine ⟨F, G, H, rfl, fun hx => ?_⟩
  simp only [List.all_cons, List.all_nil, Bool.and_true, Bool.and_eq_true] at h3
  have l0 := hL 0 (by simp)
  have l1 := hL 1 (by simp)
  have l2 := hL 2 (by simp)
  simp only [List.getElem?_cons_zero, List.getElem?_cons_succ, Option.getD_some] at l0 l1 l2
  have o0 := fv_shape h3.1 l0.1 l0.2
  have o1 := fv_shape h3.2.1 l1.1 l1.2
  have o2 := fv_shape h3.2.2 l2.1 l2.2
  obtain ⟨_, v0, v1, v2, a0, a1, rfl, rfl⟩ := at_lists h
  obtain ⟨x, y, z, s, t, K, rfl, _⟩ := okP_shape (f := f) h1
  have t0 : atB F.frm _ _ = true := at_of h o0
  have t1 : atB G.frm _ _ = true := at_of h o1
  have t2 : atB H.frm _ _ = true := at_of h o2
  obtain ⟨x0, y0, z0, s0, u0, K0, e0, _⟩ := okP_shape o0
  obtain ⟨x1, y1, z1, s1, u1, K1, e1, _⟩ := okP_shape o1
  obtain ⟨x2, y2, z2, s2, u2, K2, e2, _⟩ := okP_shape o2
  have p0 : atP F.frm [v0, v1, v2] [a0, a1] = atV F.C F.D F.K [v0, v1, v2] [a0, a1] := atN_yes t0
  have p1 : atP G.frm [v0, v1, v2] [a0, a1] = atV G.C G.D G.K [v0, v1, v2] [a0, a1] := atN_yes t1
  have p2 : atP H.frm [v0, v1, v2] [a0, a1] = atV H.C H.D H.K [v0, v1, v2] [a0, a1] := atN_yes t2
  simp only [Prod.mk.injEq] at e0 e1 e2
  rw [show atP (intoP ([x, y, z], [s, t], K) [F, G, H]) [v0, v1, v2] [a0, a1] = _ from atN_yes h, show atP ([x, y, z], [s, t], K) [atP F.frm [v0, v1, v2] [a0, a1], atP G.frm [v0, v1, v2] [a0, a1], atP H.frm [v0, v1, v2] [a0, a1]] [a0, a1] = _ from atN_yes hx, p0, p1, p2, e]
  simp only [intoC, intoD, intoK, List.getElem?_cons_zero, List.getElem?_cons_succ, Option.getD_some, e0.1, e0.2.1, e0.2.2, e1.1, e1.2.1, e1.2.2, e2.1, e2.2.1, e2.2.2]
  simp [lin, atV, dot]
  simp only [Int.mul_add, Int.add_mul, Int.mul_assoc]
  omega
theorem into_same {f : Frm} {F G H : FV} (hf : okP f = true) (o0 : F.ok = true) (o1 : G.ok = true) (o2 : H.ok = true) (e0 : F.frm = potP 0) (e1 : G.frm = potP 1) (e2 : H.frm = potP 2) : intoP f [F, G, H] = f := by
  obtain ⟨x, y, z, s, t, K, rfl, _⟩ := okP_shape hf
  unfold FV.frm potP at e0 e1 e2
  simp only [Prod.mk.injEq] at e0 e1 e2
  have c : intoC [x, y, z] [F, G, H] 3 = [x, y, z] := by
    simp only [intoC, List.getElem?_cons_zero, List.getElem?_cons_succ, Option.getD_some, e0.1, e1.1, e2.1]
    simp [lin, potC]
  have d : intoD [x, y, z] [s, t] [F, G, H] 3 = [s, t] := by
    simp only [intoD, List.getElem?_cons_zero, List.getElem?_cons_succ, Option.getD_some, e0.2.1, e1.2.1, e2.2.1]
    simp [lin, potD]
  have k : intoK [x, y, z] K [F, G, H] 3 = K := by
    simp only [intoK, List.getElem?_cons_zero, List.getElem?_cons_succ, Option.getD_some, e0.2.2, e1.2.2, e2.2.2]
    simp
  have hb : intoB ([x, y, z], [s, t], K) [F, G, H] = true := by
    unfold intoB intoOk
    dsimp only
    rw [c, d, k]
    unfold okP at hf
    dsimp only at hf
    rw [hf]
    simp only [List.all_cons, List.all_nil, o0, o1, o2]
    exact hf
  unfold intoP
  rw [hb]
  dsimp only
  rw [c, d, k]
  rfl

end Go.Proofs.Ytjhbapgpeimlhaa
