/-
  Forms as plain triples: what the functions of forms make of them, and how two are compared.
-/
import Derived.Test.YtmdjcfplhmkocaaDoorAdd
import Derived.Test.YtmdjcfplhmkocaaDoorAt
import Derived.Test.YtmdjcfplhmkocaaDoorPots
namespace Go.Proofs.YtmdjcfplhmkocaaDoor
open Go.RowKit
set_option linter.unusedVariables false

/-- Both lists of a form lie in memory. -/
structure FA (w : World) (a : Option Addr) (n : Nat) (c : Option Addr) (m : Nat) (f : Frm) : Prop where
  C : Ints w a n f.1
  D : Ints w c m f.2.1
  hn : n ≤ 1048576
  hm : m ≤ 1048576
theorem FA.below {w w' : World} {a c : Option Addr} {n m : Nat} {f : Frm} (h : FA w a n c m f) (b : Below w.heap.size w w') : FA w' a n c m f := ⟨h.C.below b, h.D.below b, h.hn, h.hm⟩
/-- A call has made this form. -/
def Mk (w w' : World) (e : Ending) (f : Frm) : Prop := ∃ a n cap c m cap', e = .returned (formV a n cap c m cap' f.2.2) ∧ FA w' a n c m f ∧ Below w.heap.size w w'
theorem Mk.of {w w' : World} {e : Ending} {C D : List Int} {K : Int} (h : Res w w' e C D K) (h1 : C.length ≤ 1048576) (h2 : D.length ≤ 1048576) : Mk w w' e (C, D, K) := by
  obtain ⟨a, n, cap, c, m, cap', B1, B2, he, rfl, rfl, hb, o1, o2, _, _, _⟩ := h
  exact ⟨a, _, cap, c, _, cap', he, ⟨o1.ints, o2.ints, h1, h2⟩, hb⟩

def okP (f : Frm) : Bool := formB f.1.length f.2.1.length f.1 f.2.1 f.2.2
def vOk (V : List Int) : Bool := okN 3 10000 V.length V
def aOk (A : List Int) : Bool := okN 2 9 A.length A
def addB (f g : Frm) : Bool := addOk f.1.length f.2.1.length f.1 f.2.1 f.2.2 g.1.length g.2.1.length g.1 g.2.1 g.2.2
def addP (f g : Frm) : Frm := (keepL (addB f g) (lin f.1 g.1 1), keepL (addB f g) (lin f.2.1 g.2.1 1), keepK (addB f g) (f.2.2 + 1 * g.2.2))
def timB (f : Frm) (k : Int) : Bool := timOk f.1.length f.2.1.length f.1 f.2.1 f.2.2 k
def timP (f : Frm) (k : Int) : Frm := (keepL (timB f k) (mulL k f.1), keepL (timB f k) (mulL k f.2.1), keepK (timB f k) (k * f.2.2))
def atB (f : Frm) (V A : List Int) : Bool := atOk f.1.length f.2.1.length V.length A.length f.1 f.2.1 f.2.2 V A
def atP (f : Frm) (V A : List Int) : Int := atN f.1.length f.2.1.length V.length A.length f.1 f.2.1 f.2.2 V A
def potP (v : Int) : Frm := (potC v, potD v, 0)
def zeroP : Frm := ([0, 0, 0], [0, 0], 0)
def coP (f g : Frm) : Bool := eqF f.1 f.2.1 f.2.2 g.1 g.2.1 g.2.2
theorem coP_same (f : Frm) : coP f f = true := eqF_refl _ _ _
theorem coP_of {f g : Frm} (h : f = g) : coP f g = true := h ▸ coP_same f
theorem lin_le {xs ys : List Int} {n : Int} {N : Nat} (h : xs.length ≤ N) : (lin xs ys n).length ≤ N := by simp only [lin, List.length_zipWith]; omega

set_option maxHeartbeats 400000 in
theorem coI_any (a c : Option Addr) (n m cap cap' : Nat) (xs ys : List Int) (w : World) (h : Ints w a n xs) (h' : Ints w c m ys) (hn : n ≤ 1048576) (hm : m ≤ 1048576) :
    Calls Tryd.prog 8 #[.slice a n cap, .slice c m cap'] w fun e w' => e = .returned (.bool (eqB xs ys)) ∧ Below w.heap.size w w' := by
  have hx := h.1
  have HX : Hid (xs.length = n) := hx
  have hy := h'.1
  have HY : Hid (ys.length = m) := hy
  clear hx hy
  by_cases hc : n = m
  · subst hc
    go_enter Tryd.func8, Tryd.ntmps8
    go_wp2_with fail
    go_loopw [5] (fun i wr => ∃ k : Nat, k ≤ n ∧ i = .int .i64 k ∧ Below w.heap.size w wr ∧ xs.take k = ys.take k) (fun i _ => n - (intOf i).toNat)
    case atStart => exact ⟨0, Nat.zero_le _, rfl, Below.refl _ _, rfl⟩
    case round =>
      obtain ⟨k, hk, rfl, hnx, hall⟩ := hrel
      have HA : Hid (xs.take k = ys.take k) := hall
      clear hall
      by_cases hlt : k < n
      · obtain ⟨b, off, rfl, hcell⟩ := (h.below hnx).pos (by omega)
        obtain ⟨b', off', rfl, hcell'⟩ := (h'.below hnx).pos (by omega)
        have hck := hcell k hlt
        have hck' := hcell' k hlt
        have hlt' : (k : Int) < (n : Int) := by omega
        clear hcell hcell' h h'
        go_wp2_with fail
        go_quiet (fail)
        cases he : (xs[k]?.getD 0 != ys[k]?.getD 0)
        · go_wp2
          go_roundw
          case rel => exact ⟨k + 1, by omega, by go_num, below_drewN hnx _, take_same_succ (by rw [HX.out]; exact hlt) (by rw [HY.out]; exact hlt) HA.out (by simpa using he)⟩
          case measure => simp [intOf]; omega
        · go_wp2
          go_ret
          exact ⟨ret_bool (by rw [eqB_false (k := k) (by simpa using he)]), below_drewN hnx _⟩
      · go_wp2
        go_ret
        exact ⟨ret_bool (by rw [eqB_true HX.out HY.out (by omega) HA.out]), hnx⟩
  · have hne : ((n : Int) != (m : Int)) = true := by simp; omega
    go_enter Tryd.func8, Tryd.ntmps8
    go_wp2
    go_ret
    exact ⟨ret_bool (by rw [eqB_len (by rw [HX.out, HY.out]; exact hc)]), Below.refl _ _⟩

end Go.Proofs.YtmdjcfplhmkocaaDoor
