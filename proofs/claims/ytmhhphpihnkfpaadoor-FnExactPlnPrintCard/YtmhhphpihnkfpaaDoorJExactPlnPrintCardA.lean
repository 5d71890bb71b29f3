/-
  Lemmas that the claim's last text rests on: RfT, FrmTextI, RfU, RfV, RdJ, RdK, Shelf2, RdL, RfW, AcP, AcT, LinW, Tk, StrO, PrP, PrS, AcU, PrI, Made.
-/
import Derived.Test.YtmhhphpihnkfpaaDoorRfR
import Derived.Test.YtmhhphpihnkfpaaDoorPots
import Derived.Test.YtmhhphpihnkfpaaDoorFTxtI
import Derived.Test.YtmhhphpihnkfpaaDoorOpen
import Derived.Stop.LaidErr
import Derived.Lib.LaidTab
import Derived.LaidMore
import Derived.Lay
import Derived.SevenTiedAt
import Derived.Stop.Joined
import Derived.Deep.RegionHeld3
import Derived.Deep.DeepCutAuto
import Derived.Test.YtmhhphpihnkfpaaDoorRdI
import Derived.Shelf.LaysM
import Derived.Test.YtmhhphpihnkfpaaDoorProg
import Derived.Lib.SmallJoins
import Derived.Lib.AtoiErrMem
import Derived.Test.YtmhhphpihnkfpaaDoorLines
import Derived.Test.YtmhhphpihnkfpaaDoorLine
import Derived.Test.YtmhhphpihnkfpaaDoorKeyed
import Derived.Test.YtmhhphpihnkfpaaDoorTxt
import Derived.Test.YtmhhphpihnkfpaaDoorTxtI
import Derived.Test.YtmhhphpihnkfpaaDoorMarks
import Derived.Test.YtmhhphpihnkfpaaDoorPlanW
import Derived.Test.YtmhhphpihnkfpaaDoorShelf
import Derived.Test.YtmhhphpihnkfpaaDoorTwn
import Derived.Test.YtmhhphpihnkfpaaDoorSlices
namespace Go.Proofs.YtmhhphpihnkfpaaDoor
open Go.RowKit
set_option linter.unusedVariables false
set_option maxRecDepth 100000

def goW (ws : List (List UInt8)) (last : List UInt8) : Option FR :=
  match wordsR zeroR ws with
  | none => none
  | some f => match Lib.atoiAll last with
    | .ok z => some (f.1, f.2.1, z)
    | _ => none
theorem wordsR_take {ws : List (List UInt8)} {k : Nat} {x : List UInt8} {f g : FR} (hx : ws[k]? = some x) (h : wordsR f (ws.take k) = some g) : wordsR f (ws.take (k + 1)) = wordR g x := by
  have hl := (List.getElem?_eq_some_iff.1 hx).1
  have e : ws.take (k + 1) = ws.take k ++ [x] := by
    rw [List.take_succ_eq_append_getElem hl, (List.getElem?_eq_some_iff.1 hx).2]
  rw [e, wordsR_append, h]
  show wordsR g [x] = _
  rw [wordsR]
  cases wordR g x with
  | none => rfl
  | some y => rfl
theorem wordsR_none {ws : List (List UInt8)} {k : Nat} {x : List UInt8} {f g : FR} (hx : ws[k]? = some x) (h : wordsR f (ws.take k) = some g) (hw : wordR g x = none) : wordsR f ws = none := by
  have h1 := wordsR_take hx h
  rw [hw] at h1
  have e : ws = ws.take (k + 1) ++ ws.drop (k + 1) := (List.take_append_drop _ _).symm
  rw [e, wordsR_append, h1]
  rfl
theorem goW_none {ws : List (List UInt8)} {last : List UInt8} (h : wordsR zeroR ws = none) : goW ws last = none := by rw [goW, h]
theorem goW_bad {ws : List (List UInt8)} {last : List UInt8} {f : FR} (h : wordsR zeroR ws = some f) (hl : ∀ v, Lib.atoiAll last ≠ .ok v) : goW ws last = none := by
  rw [goW, h]
  show (match Lib.atoiAll last with | .ok z => _ | _ => _) = _
  cases e : Lib.atoiAll last with
  | ok v => exact absurd e (hl v)
  | «syntax» => rfl
  | range => rfl
theorem goW_ok {ws : List (List UInt8)} {last : List UInt8} {C D : List Int} {K z : Int} (h : wordsR zeroR ws = some (C, D, K)) (hl : Lib.atoiAll last = .ok z) : goW ws last = some (C, D, z) := by
  rw [goW, h]
  show (match Lib.atoiAll last with | .ok z => _ | _ => _) = _
  rw [hl]

/-- What the reader holds: the result's box, the form's box, its two lists. -/
structure FB (w : World) (R F B1 B2 : Nat) (C D : List Int) (W : World) : Prop where
  b : Below w.heap.size w W
  r : Cel W R [.slice none 0 0, .slice none 0 0, .int .i64 0] 46
  f : Cel W F [.slice (some ⟨B1, 0, none⟩) 3 3, .slice (some ⟨B2, 0, none⟩) 2 2, .int .i64 0] 46
  k1 : Blk W B1 C
  k2 : Blk W B2 D
  l1 : C.length = 3
  l2 : D.length = 2
  h1 : w.heap.size ≤ B1
  h2 : w.heap.size ≤ B2
  n12 : B1 ≠ B2
  n1 : R ≠ B1 ∧ R ≠ B2
  n2 : F ≠ B1 ∧ F ≠ B2
theorem FB.below {w W W' : World} {R F B1 B2 : Nat} {C D : List Int} (s : FB w R F B1 B2 C D W) (h : Below W.heap.size W W') : FB w R F B1 B2 C D W' :=
  ⟨s.b.trans (h.mono s.b.size), s.r.below h, s.f.below h, s.k1.below h, s.k2.below h, s.l1, s.l2, s.h1, s.h2, s.n12, s.n1, s.n2⟩
theorem FB.setC {w W W' : World} {R F B1 B2 : Nat} {C D C' : List Int} (s : FB w R F B1 B2 C D W) (t : Touch (fun k => k = B1) W W') (k : Blk W' B1 C') (hl : C'.length = 3) : FB w R F B1 B2 C' D W' :=
  ⟨s.b.trans (t.below s.b.size (fun k hk => by rw [hk]; exact s.h1)), s.r.touch t s.n1.1, s.f.touch t s.n2.1, k, by have := s.k2; unfold Blk at *; rw [t.block _ s.k2.lt (fun e => s.n12 e.symm)]; exact this, hl, s.l2, s.h1, s.h2, s.n12, s.n1, s.n2⟩
theorem FB.setD {w W W' : World} {R F B1 B2 : Nat} {C D D' : List Int} (s : FB w R F B1 B2 C D W) (t : Touch (fun k => k = B2) W W') (k : Blk W' B2 D') (hl : D'.length = 2) : FB w R F B1 B2 C D' W' :=
  ⟨s.b.trans (t.below s.b.size (fun k hk => by rw [hk]; exact s.h2)), s.r.touch t s.n1.2, s.f.touch t s.n2.2, by have := s.k1; unfold Blk at *; rw [t.block _ s.k1.lt s.n12]; exact this, k, s.l1, hl, s.h1, s.h2, s.n12, s.n1, s.n2⟩

end Go.Proofs.YtmhhphpihnkfpaaDoor
namespace Go.Proofs.YtmhhphpihnkfpaaDoor.fnExactFrmText
open Go.ChangeShapes Go.WideShapes Go.ChangeAt Go.RowKit Go.Deep
set_option linter.unusedVariables false

theorem _root_.Go.Proofs.YtmhhphpihnkfpaaDoor.Cel.three {w : World} {B : Nat} {v0 v1 v2 : Value} {t : TypeId} (h : Cel w B [v0, v1, v2] t) : w.cell? ⟨B, 0, none⟩ = some v0 ∧ w.cell? ⟨B, 1, none⟩ = some v1 ∧ w.cell? ⟨B, 2, none⟩ = some v2 := ⟨h.cell 0, h.cell 1, h.cell 2⟩

end Go.Proofs.YtmhhphpihnkfpaaDoor.fnExactFrmText
namespace Go.Proofs.YtmhhphpihnkfpaaDoor
open Go.RowKit
set_option linter.unusedVariables false
set_option maxRecDepth 100000

/-- What a text is read as, of whatever length. -/
def rfF (l : List UInt8) : FR × Bool := if l.length ≤ 120 then rfI l else noF
theorem rfF_no {l : List UInt8} (h : goR l = none) : rfF l = noF := by
  rw [rfF]
  split
  · rw [rfI, h]
  · rfl
theorem rfF_yes {l : List UInt8} {C D : List Int} {K : Int} (hl : l.length ≤ 120) (h : goR l = some (C, D, K)) (h3 : C.length = 3) (h2 : D.length = 2) : rfF l = if formText 3 2 C D K = l then ((C, D, K), true) else noF := by
  rw [rfF, if_pos hl, rfI, h]
  show (if formText C.length D.length C D K = l then _ else _) = _
  rw [h3, h2]

end Go.Proofs.YtmhhphpihnkfpaaDoor
namespace Go.Proofs.YtmhhphpihnkfpaaDoor
open Go.RowKit
set_option linter.unusedVariables false
set_option maxRecDepth 100000

theorem Touch.setNew {S : Nat → Prop} {w w' : World} (h : Touch S w w') {B i : Nat} (hB : w.heap.size ≤ B) (v : Value) : Touch S w (w'.setCell ⟨B, i, none⟩ v) :=
  ⟨h.os, h.tape, h.output, by rw [size_setCell]; exact h.size, fun k hk hn => by rw [Below.heap_setCell _ _ _ _ (show k ≠ B by omega)]; exact h.block k hk hn⟩
theorem part_form {l : List UInt8} {j : Nat} {x y : UInt8} (f : FR) (hl : l.length = j + 2) (hj : 0 < j) (hx : l[j]?.getD 0 = x) (hy : l[j + 1]?.getD 0 = y) : partL f l = if x = 120 ∨ x = 97 then (if x = 120 then (if inB (y.toNat - 48) 0 2 = true then (f.1.set (y.toNat - 48) (numL (l.take j)).1, f.2.1, f.2.2) else f) else (if inB (y.toNat - 48) 0 1 = true then (f.1, f.2.1.set (y.toNat - 48) (numL (l.take j)).1, f.2.2) else f)) else (f.1, f.2.1, (numL l).1) := by
  have h1 : byteAt l (l.length - 2) = x := by rw [hl, byteAt]; exact hx
  have h2 : byteAt l (l.length - 1) = y := by rw [hl, byteAt]; exact hy
  rw [partL, h1, h2, hl, show j + 2 - 2 = j by omega]
  by_cases h : x = 120 ∨ x = 97
  · rw [if_pos ⟨by omega, h⟩, if_pos h]
  · rw [if_neg (fun g => h g.2), if_neg h]
theorem part_short {l : List UInt8} (f : FR) (hl : l.length ≤ 2) : partL f l = (f.1, f.2.1, (numL l).1) := by
  rw [partL, if_neg (fun g => by have := g.1; omega)]

end Go.Proofs.YtmhhphpihnkfpaaDoor
namespace Go.Proofs.YtmhhphpihnkfpaaDoor
open Go.RowKit Go.Deep
set_option linter.unusedVariables false
set_option maxRecDepth 100000

theorem code_at {x : List UInt8} {k : Nat} (h1 : 1 ≤ k) (h3 : k ≤ 3) (h : wordL k = x) : codeTo x 4 = k := by
  subst h
  have : k = 1 ∨ k = 2 ∨ k = 3 := by omega
  rcases this with rfl | rfl | rfl <;> decide
theorem code_none {x : List UInt8} (h : ∀ k : Nat, 1 ≤ k → k < 4 → wordL k ≠ x) : codeTo x 4 = 0 := by
  rw [codeTo, if_neg (h 3 (by omega) (by omega)), codeTo, if_neg (h 2 (by omega) (by omega)), codeTo, if_neg (h 1 (by omega) (by omega)), codeTo]

theorem JA.box {w w3 w4 : World} {v : Value} {xs : List Int} {r : Nat} (B3 : Below w.heap.size w w3) (j : JA w3 v xs w4) (hB : w.heap.size ≤ r) (hr : r < w3.heap.size) (i l : Nat) (x y : Value) : JA w v xs ((w4.setCell ⟨r, i, none⟩ x).setCell ⟨r, l, none⟩ y) := by
  refine ⟨((B3.trans (j.b.mono B3.size)).setCell hB _).setCell hB _, j.o.1, ?_⟩
  rcases j.o.2 with h2 | ⟨g, cap, cur, hv, hg, hh, q⟩
  · exact Or.inl h2
  · have := B3.size
    refine Or.inr ⟨g, cap, cur, hv, by omega, ?_, q⟩
    rw [Below.heap_setCell _ _ _ _ (show g ≠ r by omega), Below.heap_setCell _ _ _ _ (show g ≠ r by omega)]; exact hh

end Go.Proofs.YtmhhphpihnkfpaaDoor
namespace Go.Proofs.YtmhhphpihnkfpaaDoor
open Go.RowKit
set_option linter.unusedVariables false
set_option maxRecDepth 100000

/-- What a text is read as, of whatever length. -/
def rdF (l : List UInt8) : Int × List Int × Bool := if l.length ≤ 120 then rdI l else (0, [], false)
theorem rdF_no {l x0 : List UInt8} {ws : List (List UInt8)} (hw : wordsOf l = x0 :: ws) (h : codeTo x0 4 = 0 ∨ atoiS ws = none) : rdF l = (0, [], false) := by
  rw [rdF]
  split
  · rw [rdI, hw]
    show (match atoiS ws with | none => _ | some xs => _) = _
    rcases h with h | h
    · cases atoiS ws with
      | none => rfl
      | some xs =>
        show (if _ then _ else _) = _
        rw [if_neg]
        rintro ⟨h1, -⟩
        exact h1 h
    · rw [h]
  · rfl
theorem rdF_yes {l x0 : List UInt8} {ws : List (List UInt8)} {c : Int} {xs : List Int} {q : Nat} (hl : l.length ≤ 120) (hw : wordsOf l = x0 :: ws) (h0 : c ≠ 0) (hc : c = codeTo x0 4) (h : atoiS ws = some xs) (hq : xs.length = q) : rdF l = if resText c q xs = l then (c, xs, true) else (0, [], false) := by
  subst hq
  rw [rdF, if_pos hl, rdI, hw]
  show (match atoiS ws with | none => _ | some xs => _) = _
  rw [h]
  show (if codeTo x0 4 ≠ 0 ∧ resText (codeTo x0 4) xs.length xs = l then (codeTo x0 4, xs, true) else _) = _
  rw [← hc]
  by_cases e : resText c xs.length xs = l
  · rw [if_pos ⟨h0, e⟩, if_pos e]
  · rw [if_neg (fun h => e h.2), if_neg e]

theorem atoiS_len : ∀ {ws : List (List UInt8)} {xs : List Int}, atoiS ws = some xs → xs.length = ws.length
  | [], xs, h => by
    have : [] = xs := by simpa [atoiS] using h
    rw [← this]; rfl
  | x :: t, xs, h => by
    rw [atoiS] at h
    cases hx : Lib.atoiAll x with
    | ok z =>
      rw [hx] at h
      cases ht : atoiS t with
      | none => rw [ht] at h; cases h
      | some ys =>
        rw [ht] at h
        have : z :: ys = xs := by simpa using h
        rw [← this, List.length_cons, List.length_cons, atoiS_len ht]
    | «syntax» => rw [hx] at h; cases h
    | range => rw [hx] at h; cases h
theorem JA.ints' {w W : World} {a : Option Addr} {q qc : Nat} {xs : List Int} (j : JA w (.slice a q qc) xs W) (hq : xs.length = q) : Ints W a q xs := by
  subst hq
  obtain ⟨a', c', e, -, h, -⟩ := j.ints
  cases e
  exact h

end Go.Proofs.YtmhhphpihnkfpaaDoor
namespace Go.Proofs
end Go.Proofs
namespace Go.Proofs.YtmhhphpihnkfpaaDoor
open Go.RowKit Go.Shelf
set_option linter.unusedVariables false
set_option maxRecDepth 100000

end Go.Proofs.YtmhhphpihnkfpaaDoor
namespace Go.Proofs.YtmhhphpihnkfpaaDoor
open Go.RowKit
set_option linter.unusedVariables false
set_option maxRecDepth 100000

/-- The words that are read: none of a text that is too long. -/
def wsF (l : List UInt8) : List (List UInt8) := if l.length ≤ 120 then wordsOf l else []
def preW (l : List UInt8) : FR := (wsF l).foldl partL zeroR
theorem rfF_spec (l : List UInt8) : rfF l = if textF (preW l) ≠ [] ∧ textF (preW l) = l then (preW l, true) else noF := by
  by_cases h : l.length ≤ 120
  · rw [rfF, if_pos h, rf_same, rfS, show preF l = preW l by rw [preW, wsF, if_pos h]; rfl]
  · rw [rfF, if_neg h, if_neg]
    rintro ⟨-, h2⟩
    have e : textF (preW l) = [48] := by
      rw [preW, wsF, if_neg h]
      show formText 3 2 [0, 0, 0] [0, 0] 0 = _
      rw [formText_yes (by rfl), times3, times2, show Lib.itoa 0 = [48] from itoa_small (k := 0) (by omega)]
      rfl
    rw [e] at h2
    rw [← h2] at h
    exact h (by decide)
theorem wsF_len (l : List UInt8) : (wsF l).length ≤ 121 := by
  rw [wsF]
  split
  · have := wordsF_len l []
    rw [show wordsF [] l = wordsOf l from rfl] at this
    omega
  · simp
theorem wsF_short (l : List UInt8) : ∀ x ∈ wsF l, x.length ≤ 120 := by
  intro x hx
  rw [wsF] at hx
  split at hx
  · have := wordsF_short l [] x hx
    simp at this
    omega
  · cases hx

/-- What the reader holds. -/
structure GB (w : World) (R F B1 B2 : Nat) (p : FR) (W : World) : Prop where
  b : Below w.heap.size w W
  r : Cel W R [.slice none 0 0, .slice none 0 0, .int .i64 0] 46
  f : Cel W F [.slice (some ⟨B1, 0, none⟩) 3 3, .slice (some ⟨B2, 0, none⟩) 2 2, .int .i64 p.2.2] 46
  k1 : Blk W B1 p.1
  k2 : Blk W B2 p.2.1
  l1 : p.1.length = 3
  l2 : p.2.1.length = 2
  h1 : w.heap.size ≤ B1
  h2 : w.heap.size ≤ B2
  h3 : w.heap.size ≤ F
  n12 : B1 ≠ B2
  n1 : R ≠ B1 ∧ R ≠ B2
  n2 : F ≠ B1 ∧ F ≠ B2
  n3 : R ≠ F
theorem GB.below {w W W' : World} {R F B1 B2 : Nat} {f : FR} (s : GB w R F B1 B2 f W) (h : Below W.heap.size W W') : GB w R F B1 B2 f W' :=
  ⟨s.b.trans (h.mono s.b.size), s.r.below h, s.f.below h, s.k1.below h, s.k2.below h, s.l1, s.l2, s.h1, s.h2, s.h3, s.n12, s.n1, s.n2, s.n3⟩
theorem GB.part {w W W' : World} {R F B1 B2 : Nat} {f : FR} {C' D' : List Int} (K' : Int) (s : GB w R F B1 B2 f W) (t : Touch (fun x => x = B1 ∨ x = B2) W W') (k1 : Blk W' B1 C') (k2 : Blk W' B2 D') (l1 : C'.length = 3) (l2 : D'.length = 2) :
    GB w R F B1 B2 (C', D', K') (((W'.setCell ⟨F, 0, none⟩ (.slice (some ⟨B1, 0, none⟩) 3 3)).setCell ⟨F, 1, none⟩ (.slice (some ⟨B2, 0, none⟩) 2 2)).setCell ⟨F, 2, none⟩ (.int .i64 K')) := by
  have b' := s.b.trans (t.below s.b.size (fun k hk => by rcases hk with rfl | rfl; exact s.h1; exact s.h2))
  have r' := s.r.touch t (fun hk => by rcases hk with h | h; exact s.n1.1 h; exact s.n1.2 h)
  have f' := s.f.touch t (fun hk => by rcases hk with h | h; exact s.n2.1 h; exact s.n2.2 h)
  exact ⟨((b'.setCell s.h3 _).setCell s.h3 _).setCell s.h3 _, ((r'.setOther s.n3 _ _).setOther s.n3 _ _).setOther s.n3 _ _, ((f'.set 0 _).set 1 _).set 2 _, ((k1.setOther s.n2.1.symm _ _).setOther s.n2.1.symm _ _).setOther s.n2.1.symm _ _, ((k2.setOther s.n2.2.symm _ _).setOther s.n2.2.symm _ _).setOther s.n2.2.symm _ _, l1, l2, s.h1, s.h2, s.h3, s.n12, s.n1, s.n2, s.n3⟩
theorem touch_drew {S : Nat → Prop} {w w' : World} (h : Touch S w.drew w') : Touch S w w' := ⟨h.os, h.tape, h.output, h.size, h.block⟩

end Go.Proofs.YtmhhphpihnkfpaaDoor
namespace Go.Proofs.YtmhhphpihnkfpaaDoor
open Go.RowKit
set_option linter.unusedVariables false

/-- A line that is read: kind, pot, skip, form. -/
abbrev LR := Int × Int × Int × FR
def testW : List UInt8 := [116, 101, 115, 116]
def addW : List UInt8 := [97, 100, 100]
def printW : List UInt8 := [112, 114, 105, 110, 116]
def stopT : List UInt8 := [115, 116, 111, 112]
def actText (L : LR) : List UInt8 :=
  if lineB L.1 L.2.1 L.2.2.1 L.2.2.2.1.length L.2.2.2.2.1.length L.2.2.2.1 L.2.2.2.2.1 L.2.2.2.2.2 = true then
    (if L.1 = 1 then testW ++ 32 :: (Lib.itoa L.2.2.1 ++ 32 :: textF L.2.2.2)
    else if L.1 = 2 then addW ++ 32 :: (Lib.itoa L.2.1 ++ 32 :: textF L.2.2.2)
    else if L.1 = 3 then printW ++ 32 :: textF L.2.2.2
    else stopT)
  else []
def stopR : LR := (4, 0, 0, ([], [], 0))
def noA : LR × Bool := ((0, 0, 0, ([], [], 0)), false)
/-- What stands behind n blanks. -/
def restL : Nat → List UInt8 → List UInt8
  | _, [] => []
  | n, b :: t => if b = 32 then (if n = 1 then t else restL (n - 1) t) else restL n t
def atW (ws : List (List UInt8)) (k : Nat) : Int :=
  match ws[k]? with
  | none => -1
  | some x => if (numL x).2 = true then (numL x).1 else -1
def lineS (l : List UInt8) : LR :=
  match wsF l with
  | [] => stopR
  | x :: t => if x = testW then (1, 0, atW (x :: t) 1, (rfF (restL 2 l)).1)
    else if x = addW then (2, atW (x :: t) 1, 0, (rfF (restL 2 l)).1)
    else if x = printW then (3, 0, 0, (rfF (restL 1 l)).1)
    else stopR
def numForm (s : List UInt8) : Option (Int × FR) :=
  match Lib.atoiAll (Lib.cut s [32]).1, rfF (Lib.cut s [32]).2.1 with
  | .ok z, (f, true) => some (z, f)
  | _, _ => none
def lineI (l : List UInt8) : Option LR :=
  if (Lib.cut l [32]).1 = testW then (numForm (Lib.cut l [32]).2.1).map fun r => (1, 0, r.1, r.2)
  else if (Lib.cut l [32]).1 = addW then (numForm (Lib.cut l [32]).2.1).map fun r => (2, r.1, 0, r.2)
  else if (Lib.cut l [32]).1 = printW then (if (rfF (Lib.cut l [32]).2.1).2 = true then some (3, 0, 0, (rfF (Lib.cut l [32]).2.1).1) else none)
  else if (Lib.cut l [32]).1 = stopT then some stopR
  else none
def raS (l : List UInt8) : LR × Bool := if actText (lineS l) ≠ [] ∧ actText (lineS l) = l then (lineS l, true) else noA
def raI (l : List UInt8) : LR × Bool :=
  if l.length ≤ 120 then
    (match lineI l with
    | none => noA
    | some L => if actText L = l then (L, true) else noA)
  else noA

theorem rest_skip : ∀ (p r : List UInt8) (n : Nat), 32 ∉ p → restL n (p ++ 32 :: r) = if n = 1 then r else restL (n - 1) r
  | [], r, n, _ => by rw [List.nil_append, restL, if_pos rfl]
  | b :: t, r, n, h => by
    have hb : ¬ b = 32 := fun e => h (by rw [e]; simp)
    rw [List.cons_append, restL, if_neg hb, rest_skip t r n (fun m => h (List.mem_cons_of_mem _ m))]
theorem cut_blank {p r : List UInt8} (h : 32 ∉ p) : Lib.cut (p ++ 32 :: r) [32] = (p, r, true) := by
  rw [Lib.cut, Lib.index_one, index_first _ _ _ h, if_pos (by omega), Int.toNat_natCast]
  simp
theorem form_reads {f : FR} (h : textF f ≠ []) (hl : (textF f).length ≤ 120) : rfF (textF f) = (f, true) := by
  rw [rfF, if_pos hl, rfI, (form_back h rfl).2]
  show (if _ then _ else _) = _
  rw [if_pos rfl]
theorem form_text {C D : List Int} {K : Int} (h : smallB C.length D.length C D K = true) : textF (C, D, K) ≠ [] := by
  have hf : formB C.length D.length C D K = true := small_ok h
  show formText C.length D.length C D K ≠ []
  rw [formText_yes hf]
  intro e
  have := congrArg List.length e
  rw [List.length_append, List.length_nil] at this
  have h1 := itoa_pos K
  omega

theorem word_no {p : List UInt8} (hp : p = testW ∨ p = addW ∨ p = printW ∨ p = stopT) : 32 ∉ p := by
  rcases hp with rfl | rfl | rfl | rfl <;> decide
theorem line_cases {k p z : Int} {C D : List Int} {K : Int} (h : lineB k p z C.length D.length C D K = true) :
    (k = 1 ∧ p = 0 ∧ (1 ≤ z ∧ z ≤ 6) ∧ smallB C.length D.length C D K = true) ∨ (k = 2 ∧ (0 ≤ p ∧ p ≤ 2) ∧ z = 0 ∧ smallB C.length D.length C D K = true) ∨ (k = 3 ∧ p = 0 ∧ z = 0 ∧ smallB C.length D.length C D K = true) ∨ (k = 4 ∧ p = 0 ∧ z = 0 ∧ C = [] ∧ D = [] ∧ K = 0) := by
  unfold lineB at h
  split at h
  · rename_i e
    simp only [Bool.and_eq_true, beq_iff_eq, inB_iff] at h
    exact Or.inl ⟨e, h.1.1, h.1.2, h.2⟩
  · split at h
    · rename_i e
      simp only [Bool.and_eq_true, beq_iff_eq, inB_iff] at h
      exact Or.inr (Or.inl ⟨e, h.1.1, h.1.2, h.2⟩)
    · split at h
      · rename_i e
        simp only [Bool.and_eq_true, beq_iff_eq] at h
        exact Or.inr (Or.inr (Or.inl ⟨e, h.1.1, h.1.2, h.2⟩))
      · simp only [Bool.and_eq_true, beq_iff_eq] at h
        have h0 := h.1.2
        exact Or.inr (Or.inr (Or.inr ⟨h.1.1.1.1, h.1.1.1.2, h.1.1.2, List.eq_nil_of_length_eq_zero (by omega), List.eq_nil_of_length_eq_zero (by omega), h.2⟩))
theorem numForm_back {z : Int} {f : FR} (hz : -999999999999 ≤ z ∧ z ≤ 999999999999) (h : textF f ≠ []) (hl : (textF f).length ≤ 120) : numForm (Lib.itoa z ++ 32 :: textF f) = some (z, f) := by
  rw [numForm, cut_blank (itoa_plain z)]
  show (match Lib.atoiAll (Lib.itoa z), rfF (textF f) with | .ok z, (f, true) => _ | _, _ => _) = _
  rw [all_back z hz, form_reads h hl]
theorem atW_back {z : Int} {x : List UInt8} {t : List (List UInt8)} (hz : -999999999999 ≤ z ∧ z ≤ 999999999999) : atW (x :: Lib.itoa z :: t) 1 = z := by
  rw [atW]
  show (if (numL (Lib.itoa z)).2 = true then (numL (Lib.itoa z)).1 else -1) = z
  rw [num_back z hz]
  rfl
theorem act_back {L : LR} {l : List UInt8} (h0 : l ≠ []) (hl : l.length ≤ 120) (h : actText L = l) : lineS l = L ∧ lineI l = some L := by
  obtain ⟨k, p, z, C, D, K⟩ := L
  have hok : lineB k p z C.length D.length C D K = true := by
    cases e : lineB k p z C.length D.length C D K with
    | true => rfl
    | false =>
      rw [actText] at h
      simp only [e] at h
      exact absurd h.symm h0
  have hw : wsF l = wordsOf l := by rw [wsF, if_pos hl]
  have h' : (if k = 1 then testW ++ 32 :: (Lib.itoa z ++ 32 :: textF (C, D, K)) else if k = 2 then addW ++ 32 :: (Lib.itoa p ++ 32 :: textF (C, D, K)) else if k = 3 then printW ++ 32 :: textF (C, D, K) else stopT) = l := by
    rw [actText] at h
    simp only [hok, if_true] at h
    exact h
  rcases line_cases hok with ⟨rfl, rfl, hz, hs⟩ | ⟨rfl, hp, rfl, hs⟩ | ⟨rfl, rfl, rfl, hs⟩ | ⟨rfl, rfl, rfl, rfl, rfl, rfl⟩
  · rw [if_pos rfl] at h'
    have ht := form_text hs
    have hlt : (textF (C, D, K)).length ≤ 120 := by
      have := congrArg List.length h'
      simp only [List.length_append, List.length_cons] at this
      omega
    constructor
    · rw [lineS, hw, ← h', words_cut (word_no (Or.inl rfl)), words_cut (itoa_plain z)]
      show (if testW = testW then _ else _) = _
      rw [if_pos rfl, atW_back (by omega), rest_skip _ _ _ (word_no (Or.inl rfl)), if_neg (by decide), rest_skip _ _ _ (itoa_plain z), if_pos (by decide), form_reads ht hlt]
    · rw [lineI, ← h', cut_blank (word_no (Or.inl rfl))]
      show (if testW = testW then _ else _) = _
      rw [if_pos rfl, numForm_back (by omega) ht hlt]
      rfl
  · rw [if_neg (by decide), if_pos rfl] at h'
    have ht := form_text hs
    have hlt : (textF (C, D, K)).length ≤ 120 := by
      have := congrArg List.length h'
      simp only [List.length_append, List.length_cons] at this
      omega
    constructor
    · rw [lineS, hw, ← h', words_cut (word_no (Or.inr (Or.inl rfl))), words_cut (itoa_plain p)]
      show (if addW = testW then _ else if addW = addW then _ else _) = _
      rw [if_neg (by decide), if_pos rfl, atW_back (by omega), rest_skip _ _ _ (word_no (Or.inr (Or.inl rfl))), if_neg (by decide), rest_skip _ _ _ (itoa_plain p), if_pos (by decide), form_reads ht hlt]
    · rw [lineI, ← h', cut_blank (word_no (Or.inr (Or.inl rfl)))]
      show (if addW = testW then _ else if addW = addW then _ else _) = _
      rw [if_neg (by decide), if_pos rfl, numForm_back (by omega) ht hlt]
      rfl
  · rw [if_neg (by decide), if_neg (by decide), if_pos rfl] at h'
    have ht := form_text hs
    have hlt : (textF (C, D, K)).length ≤ 120 := by
      have := congrArg List.length h'
      simp only [List.length_append, List.length_cons] at this
      omega
    constructor
    · rw [lineS, hw, ← h', words_cut (word_no (Or.inr (Or.inr (Or.inl rfl))))]
      show (if printW = testW then _ else if printW = addW then _ else if printW = printW then _ else _) = _
      rw [if_neg (by decide), if_neg (by decide), if_pos rfl, rest_skip _ _ _ (word_no (Or.inr (Or.inr (Or.inl rfl)))), if_pos rfl, form_reads ht hlt]
    · rw [lineI, ← h', cut_blank (word_no (Or.inr (Or.inr (Or.inl rfl))))]
      show (if printW = testW then _ else if printW = addW then _ else if printW = printW then _ else _) = _
      rw [if_neg (by decide), if_neg (by decide), if_pos rfl, form_reads ht hlt]
      rfl
  · rw [if_neg (by decide), if_neg (by decide), if_neg (by decide)] at h'
    constructor
    · rw [lineS, hw, ← h', words_plain (word_no (Or.inr (Or.inr (Or.inr rfl))))]
      rfl
    · rw [lineI, ← h', cut_none (word_no (Or.inr (Or.inr (Or.inr rfl))))]
      rfl
theorem ra_same (l : List UInt8) : raI l = raS l := by
  rw [raS]
  by_cases hl : l.length ≤ 120
  · rw [raI, if_pos hl]
    by_cases h0 : l = []
    · subst h0
      rw [if_neg (fun h => h.1 h.2)]
      rfl
    by_cases h : actText (lineS l) ≠ [] ∧ actText (lineS l) = l
    · rw [if_pos h, (act_back h0 hl h.2).2]
      show (if _ then _ else _) = _
      rw [if_pos h.2]
    · rw [if_neg h]
      cases e : lineI l with
      | none => rfl
      | some L =>
        show (if _ then _ else _) = _
        rw [if_neg]
        intro hf
        obtain ⟨h1, -⟩ := act_back h0 hl hf
        exact h (by rw [h1, hf]; exact ⟨h0, rfl⟩)
  · rw [raI, if_neg hl, if_neg]
    rintro ⟨-, h2⟩
    have e : actText (lineS l) = stopT := by rw [lineS, wsF, if_neg hl]; rfl
    rw [e] at h2
    rw [← h2] at hl
    exact hl (by decide)

end Go.Proofs.YtmhhphpihnkfpaaDoor
namespace Go.Proofs.YtmhhphpihnkfpaaDoor
open Go.RowKit
set_option linter.unusedVariables false
set_option maxRecDepth 100000

theorem small_bnd {n m : Nat} {C D : List Int} {K : Int} (h : smallB n m C D K = true) : n = 3 ∧ m = 2 ∧ (∀ i : Nat, -10000000 ≤ C[i]?.getD 0 ∧ C[i]?.getD 0 ≤ 10000000) ∧ (∀ i : Nat, -10000000 ≤ D[i]?.getD 0 ∧ D[i]?.getD 0 ≤ 10000000) ∧ (-20 ≤ K ∧ K ≤ 20) := by
  unfold smallB okN at h
  simp only [Bool.and_eq_true, decide_eq_true_eq, inB_iff] at h
  obtain ⟨⟨⟨h1, h2⟩, h3, h4⟩, h5⟩ := h
  exact ⟨by omega, by omega, fun i => by have := allB_bnd' (by omega) h2 i; omega, fun i => by have := allB_bnd' (by omega) h4 i; omega, h5⟩
theorem form_len {n m : Nat} {C D : List Int} {K : Int} (h : smallB n m C D K = true) : (formText n m C D K).length ≤ 400 := by
  obtain ⟨h1, h2, h3, h4, h5⟩ := small_bnd h
  rw [formText_yes (small_ok h)]
  have a1 := times_bytes (x := 120) h3 3 (by omega)
  have a2 := times_bytes (x := 97) h4 2 (by omega)
  have a3 := Lib.itoa_length_le K (by omega) (by omega)
  have e : spaced (timesL 120 C 3 ++ timesL 97 D 2) = spaced (timesL 120 C 3) ++ spaced (timesL 97 D 2) := by
    unfold spaced
    rw [List.map_append, List.flatten_append]
  rw [e, List.length_append, List.length_append]
  omega
theorem actText_no {k p z : Int} {C D : List Int} {K : Int} (h : lineB k p z C.length D.length C D K = false) : actText (k, p, z, C, D, K) = [] := by
  rw [actText]
  simp only [h]
  rfl
theorem actText_yes {k p z : Int} {C D : List Int} {K : Int} (h : lineB k p z C.length D.length C D K = true) : actText (k, p, z, C, D, K) = if k = 1 then testW ++ 32 :: (Lib.itoa z ++ 32 :: textF (C, D, K)) else if k = 2 then addW ++ 32 :: (Lib.itoa p ++ 32 :: textF (C, D, K)) else if k = 3 then printW ++ 32 :: textF (C, D, K) else stopT := by
  rw [actText]
  simp only [h, if_true]
/-- Where a form's cells lie in a line. -/
theorem Cel.tri {w : World} {B : Nat} {x0 x1 x2 x3 x4 x5 : Value} {t : TypeId} (h : Cel w B [x0, x1, x2, x3, x4, x5] t) : w.cell? ⟨B, 3, none⟩ = some x3 ∧ w.cell? ⟨B, 4, none⟩ = some x4 ∧ w.cell? ⟨B, 5, none⟩ = some x5 := ⟨h.cell 3, h.cell 4, h.cell 5⟩

set_option maxHeartbeats 6400000 in
theorem satext_any (kind pot skip : Int) (a : Option Addr) (n cap : Nat) (c : Option Addr) (m cap' : Nat) (K : Int) (C D : List Int) (w : World) (hC : Ints w a n C) (hD : Ints w c m D) (hn : n ≤ 1048576) (hm : m ≤ 1048576) :
    Calls Tryd.prog 18 #[lineV kind pot skip a n cap c m cap' K] w fun e w' => e = .returned (.string ⟨(actText (kind, pot, skip, C, D, K)).toArray⟩) ∧ Below w.heap.size w w' := by
  have q_0 := Cel.new w [.int .i64 kind, .int .i64 pot, .int .i64 skip, .slice a n cap, .slice c m cap', .int .i64 K] 48
  have B_0 := (Below.refl w.heap.size w).alloc (Nat.le_refl _) (.cells #[.int .i64 kind, .int .i64 pot, .int .i64 skip, .slice a n cap, .slice c m cap', .int .i64 K] 48)
  have HC1 : Hid (C.length = n) := hC.1
  have HD1 : Hid (D.length = m) := hD.1
  cases hb : lineB kind pot skip n m C D K
  · have HT : Hid (actText (kind, pot, skip, C, D, K) = []) := actText_no (by rw [HC1.out, HD1.out]; exact hb)
    go_enter Tryd.func18, Tryd.ntmps18
    go_wp2_with fail
    refine (sline_any _ _ _ _ _ _ _ _ _ _ C D _ (hC.alloc _) (hD.alloc _) hn hm).mono ?_
    rintro e w1 ⟨rfl, b1⟩
    rw [hb]
    go_wp2
    go_ret
    exact ⟨by rw [HT.out]; rfl, B_0.trans (b1.mono B_0.size)⟩
  have HB : Hid _ := hb
  have HAY : Hid _ := actText_yes (k := kind) (p := pot) (z := skip) (C := C) (D := D) (K := K) (by rw [HC1.out, HD1.out]; exact hb)
  have hcs := line_cases (k := kind) (p := pot) (z := skip) (C := C) (D := D) (K := K) (by rw [HC1.out, HD1.out]; exact hb)
  clear hb
  rcases hcs with ⟨rfl, rfl, ⟨y1, y2⟩, hs⟩ | ⟨rfl, ⟨y1, y2⟩, rfl, hs⟩ | ⟨rfl, rfl, rfl, hs⟩ | ⟨rfl, rfl, rfl, rfl, rfl, rfl⟩
  · rw [HC1.out, HD1.out] at hs
    obtain ⟨F, hF⟩ : ∃ F, F = formText n m C D K := ⟨_, rfl⟩
    have hFl : F.length ≤ 400 := by rw [hF]; exact form_len hs
    have HAT : Hid (actText (1, 0, skip, C, D, K) = testW ++ 32 :: (Lib.itoa skip ++ 32 :: F)) := by show _ = _; rw [HAY.out, if_pos rfl, textF, HC1.out, HD1.out, hF]
    have HF : Hid _ := hF
    clear hF hs HAY
    have l1 := Lib.itoa_length_le skip (by omega) (by omega)
    obtain ⟨T1, e1⟩ : ∃ T : ByteArray, T = ⟨(Lib.itoa skip).toArray⟩ := ⟨_, rfl⟩
    have s1 : T1.size ≤ 21 := by rw [e1]; simpa [ByteArray.size] using l1
    have E1 : Hid _ := e1
    clear l1 e1
    obtain ⟨T2, e2⟩ : ∃ T : ByteArray, T = ⟨F.toArray⟩ := ⟨_, rfl⟩
    have s2 : T2.size ≤ 400 := by rw [e2]; simpa [ByteArray.size] using hFl
    have E2 : Hid _ := e2
    clear e2
    obtain ⟨R1, hR1⟩ : ∃ R : ByteArray, R = (⟨#[116, 101, 115, 116, 32]⟩ : ByteArray) ++ (T1 : ByteArray) := ⟨_, rfl⟩
    have z1 : R1.size ≤ 50 := by rw [hR1, ByteArray.size_append]; first | omega | (have := (show (⟨#[116, 101, 115, 116, 32]⟩ : ByteArray).size ≤ 5 by decide); omega)
    have A1 : ∀ X : World, (Op.stringOp .add (⟨#[116, 101, 115, 116, 32]⟩ : ByteArray) (T1 : ByteArray)).run Tryd.prog X = .ok (.string R1) X := fun X => by rw [hR1]; exact run_string_add_sum X _ _ (by rw [← ByteArray.size_append, ← hR1]; omega)
    have HR1 : Hid _ := hR1
    clear hR1
    obtain ⟨R2, hR2⟩ : ∃ R : ByteArray, R = (R1 : ByteArray) ++ (⟨#[32]⟩ : ByteArray) := ⟨_, rfl⟩
    have z2 : R2.size ≤ 60 := by rw [hR2, ByteArray.size_append]; first | omega | (have := (show (⟨#[32]⟩ : ByteArray).size ≤ 5 by decide); omega)
    have A2 : ∀ X : World, (Op.stringOp .add (R1 : ByteArray) (⟨#[32]⟩ : ByteArray)).run Tryd.prog X = .ok (.string R2) X := fun X => by rw [hR2]; exact run_string_add_sum X _ _ (by rw [← ByteArray.size_append, ← hR2]; omega)
    have HR2 : Hid _ := hR2
    clear hR2
    obtain ⟨R3, hR3⟩ : ∃ R : ByteArray, R = (R2 : ByteArray) ++ (T2 : ByteArray) := ⟨_, rfl⟩
    have z3 : R3.size ≤ 470 := by rw [hR3, ByteArray.size_append]; first | omega | (have := (show (T2 : ByteArray).size ≤ 5 by decide); omega)
    have A3 : ∀ X : World, (Op.stringOp .add (R2 : ByteArray) (T2 : ByteArray)).run Tryd.prog X = .ok (.string R3) X := fun X => by rw [hR3]; exact run_string_add_sum X _ _ (by rw [← ByteArray.size_append, ← hR3]; omega)
    have HR3 : Hid _ := hR3
    clear hR3
    go_enter Tryd.func18, Tryd.ntmps18
    go_wp2_with fail
    refine (sline_any _ _ _ _ _ _ _ _ _ _ C D _ (hC.alloc _) (hD.alloc _) hn hm).mono ?_
    rintro e W ⟨rfl, b1⟩
    rw [HB.out]
    have B_1 := B_0.trans (b1.mono B_0.size)
    have q_1 := q_0.below b1
    have CC : Hid (∀ X : World, Cel X w.heap.size [.int .i64 1, .int .i64 0, .int .i64 skip, .slice a n cap, .slice c m cap', .int .i64 K] 48 → X.cell? ⟨w.heap.size, 2, none⟩ = some (.int .i64 skip) ∧ X.cell? ⟨w.heap.size, 3, none⟩ = some (.slice a n cap) ∧ X.cell? ⟨w.heap.size, 4, none⟩ = some (.slice c m cap') ∧ X.cell? ⟨w.heap.size, 5, none⟩ = some (.int .i64 K)) := fun X h => ⟨h.cell 2, h.cell 3, h.cell 4, h.cell 5⟩
    obtain ⟨k0, k1, k2, k3, k4, k5⟩ := q_1.six
    clear q_0 B_0 b1
    go_upto_region 5 with fail
    clear k0 k1 k2 k3 k4 k5
    have hS0 : (W.drew.cell? ⟨w.heap.size, 2, none⟩ = some (.int .i64 skip) ∧ W.drew.cell? ⟨w.heap.size, 3, none⟩ = some (.slice a n cap) ∧ W.drew.cell? ⟨w.heap.size, 4, none⟩ = some (.slice c m cap') ∧ W.drew.cell? ⟨w.heap.size, 5, none⟩ = some (.int .i64 K)) ∧ True := ⟨CC.out _ q_1, trivial⟩
    refine wp_region_ends (fun X => X.cell? ⟨w.heap.size, 2, none⟩ = some (.int .i64 skip) ∧ X.cell? ⟨w.heap.size, 3, none⟩ = some (.slice a n cap) ∧ X.cell? ⟨w.heap.size, 4, none⟩ = some (.slice c m cap') ∧ X.cell? ⟨w.heap.size, 5, none⟩ = some (.int .i64 K)) (fun _ => True) 9 (by kernel_rfl) ?_
    refine wpAnyE_take0 (i := 0) (v := ?u0v0) rfl (by kernel_rfl) (by kernel_rfl) (by kernel_rfl) (by decide) (fun _ _ _ h => h) (Or.inl ⟨by rfl, ?u0hy0⟩) hS0 ?_
    case u0hy0 => (intro wz hSw; (try dsimp only at hSw); go_simp; try (with_reducible rfl))
    refine wpAnyE_take0 (i := 1) (v := ?u0v1) rfl (by kernel_rfl) (by kernel_rfl) (by kernel_rfl) (by decide) (fun _ _ _ h => h) (Or.inl ⟨by rfl, ?u0hy1⟩) hS0 ?_
    case u0hy1 => (intro wz hSw; (try dsimp only at hSw); go_simp; try (with_reducible rfl))
    refine wpAnyE_take0 (i := 5) (v := ?u0v5) rfl (by kernel_rfl) (by kernel_rfl) (by kernel_rfl) (by decide) (fun _ _ _ h => h) (Or.inl ⟨by rfl, ?u0hy5⟩) hS0 ?_
    case u0hy5 => (intro wz hSw; (try dsimp only at hSw); go_simp; try (with_reducible rfl))
    refine wpAnyE_take0 (i := 6) (v := ?u0v6) rfl (by kernel_rfl) (by kernel_rfl) (by kernel_rfl) (by decide) (fun _ _ _ h => h) (Or.inl ⟨by rfl, ?u0hy6⟩) hS0 ?_
    case u0hy6 => (intro wz hSw; (try dsimp only at hSw); go_simp; try (with_reducible rfl))
    refine wpAnyE_one (i := 2) (by kernel_rfl) rfl (fun Kn hK => ?_)
    go_simp
    refine (digits_any skip _ (by omega) (by omega)).mono ?_
    rintro ee w2 ⟨rfl, bd_2⟩
    rw [← E1.out]
    have b_2 := below_of_drew bd_2
    have B_2 := B_1.trans (b_2.mono B_1.size)
    have q_2 := q_1.below b_2
    have hS2 : (w2.cell? ⟨w.heap.size, 2, none⟩ = some (.int .i64 skip) ∧ w2.cell? ⟨w.heap.size, 3, none⟩ = some (.slice a n cap) ∧ w2.cell? ⟨w.heap.size, 4, none⟩ = some (.slice c m cap') ∧ w2.cell? ⟨w.heap.size, 5, none⟩ = some (.int .i64 K)) ∧ True := ⟨CC.out _ q_2, trivial⟩
    dsimp only
    refine hK.out _ _ ⟨hS2.1, fun _ => trivial⟩ ?_
    clear hK hS0
    refine wpAnyE_take0 (i := 3) (v := .string R1) rfl (by kernel_rfl) (by kernel_rfl) (by kernel_rfl) (by decide) (fun _ _ _ h => h) (Or.inl ⟨by rfl, ?u0hy3⟩) hS2 ?_
    case u0hy3 => (intro wz hSw; (try dsimp only at hSw); first | (go_simp; try (with_reducible rfl); done) | (simp only [go_sem, A1]; done) | (go_simp; exact A1 _) | (simp [go_sem, A1]; done) | skip)
    refine wpAnyE_take0 (i := 4) (v := .string R2) rfl (by kernel_rfl) (by kernel_rfl) (by kernel_rfl) (by decide) (fun _ _ _ h => h) (Or.inl ⟨by rfl, ?u0hy4⟩) hS2 ?_
    case u0hy4 => (intro wz hSw; (try dsimp only at hSw); first | (go_simp; try (with_reducible rfl); done) | (simp only [go_sem, A2]; done) | (go_simp; exact A2 _) | (simp [go_sem, A2]; done) | skip)
    refine wpAnyE_one (i := 7) (by kernel_rfl) rfl (fun Kn hK => ?_)
    go_simp
    refine (sftext_any _ _ _ _ _ _ _ C D _ (hC.below B_2) (hD.below B_2) hn hm).mono ?_
    rintro ee w3 ⟨rfl, b_3⟩
    rw [← HF.out, ← E2.out]
    have B_3 := B_2.trans (b_3.mono B_2.size)
    have q_3 := q_2.below b_3
    have hS3 : (w3.cell? ⟨w.heap.size, 2, none⟩ = some (.int .i64 skip) ∧ w3.cell? ⟨w.heap.size, 3, none⟩ = some (.slice a n cap) ∧ w3.cell? ⟨w.heap.size, 4, none⟩ = some (.slice c m cap') ∧ w3.cell? ⟨w.heap.size, 5, none⟩ = some (.int .i64 K)) ∧ True := ⟨CC.out _ q_3, trivial⟩
    dsimp only
    refine hK.out _ _ ⟨hS3.1, fun _ => trivial⟩ ?_
    clear hK hS2
    refine wpAnyE_take0 (i := 8) (v := .string R3) rfl (by kernel_rfl) (by kernel_rfl) (by kernel_rfl) (by decide) (fun _ _ _ h => h) (Or.inl ⟨by rfl, ?u0hy8⟩) hS3 ?_
    case u0hy8 => (intro wz hSw; (try dsimp only at hSw); first | (go_simp; try (with_reducible rfl); done) | (simp only [go_sem, A3]; done) | (go_simp; exact A3 _) | (simp [go_sem, A3]; done) | skip)
    refine wpAnyE_one (i := 9) (by kernel_rfl) rfl (fun Kn hK => ?_)
    go_simp
    refine hK.out _ _ ⟨hS3.1, fun _ => trivial⟩ ?_
    clear hK
    refine wpAnyE_done (by kernel_rfl) ?_ _
    clear hS3
    go_wp2
    go_ret
    refine ⟨?_, B_3⟩
    rw [HAT.out]
    have : R3 = ⟨(testW ++ 32 :: (Lib.itoa skip ++ 32 :: F)).toArray⟩ := by
      rw [HR3.out, HR2.out, HR1.out, E1.out, E2.out, show (⟨#[116, 101, 115, 116, 32]⟩ : ByteArray) = ⟨(testW ++ [32]).toArray⟩ from rfl, show (⟨#[32]⟩ : ByteArray) = ⟨[32].toArray⟩ from rfl]
      simp [cat_str, List.append_assoc]
    rw [← this]
    rfl
  · rw [HC1.out, HD1.out] at hs
    obtain ⟨F, hF⟩ : ∃ F, F = formText n m C D K := ⟨_, rfl⟩
    have hFl : F.length ≤ 400 := by rw [hF]; exact form_len hs
    have HAT : Hid (actText (2, pot, 0, C, D, K) = addW ++ 32 :: (Lib.itoa pot ++ 32 :: F)) := by show _ = _; rw [HAY.out, if_neg (by decide), if_pos rfl, textF, HC1.out, HD1.out, hF]
    have HF : Hid _ := hF
    clear hF hs HAY
    have l1 := Lib.itoa_length_le pot (by omega) (by omega)
    obtain ⟨T1, e1⟩ : ∃ T : ByteArray, T = ⟨(Lib.itoa pot).toArray⟩ := ⟨_, rfl⟩
    have s1 : T1.size ≤ 21 := by rw [e1]; simpa [ByteArray.size] using l1
    have E1 : Hid _ := e1
    clear l1 e1
    obtain ⟨T2, e2⟩ : ∃ T : ByteArray, T = ⟨F.toArray⟩ := ⟨_, rfl⟩
    have s2 : T2.size ≤ 400 := by rw [e2]; simpa [ByteArray.size] using hFl
    have E2 : Hid _ := e2
    clear e2
    obtain ⟨R1, hR1⟩ : ∃ R : ByteArray, R = (⟨#[97, 100, 100, 32]⟩ : ByteArray) ++ (T1 : ByteArray) := ⟨_, rfl⟩
    have z1 : R1.size ≤ 50 := by rw [hR1, ByteArray.size_append]; first | omega | (have := (show (⟨#[97, 100, 100, 32]⟩ : ByteArray).size ≤ 5 by decide); omega)
    have A1 : ∀ X : World, (Op.stringOp .add (⟨#[97, 100, 100, 32]⟩ : ByteArray) (T1 : ByteArray)).run Tryd.prog X = .ok (.string R1) X := fun X => by rw [hR1]; exact run_string_add_sum X _ _ (by rw [← ByteArray.size_append, ← hR1]; omega)
    have HR1 : Hid _ := hR1
    clear hR1
    obtain ⟨R2, hR2⟩ : ∃ R : ByteArray, R = (R1 : ByteArray) ++ (⟨#[32]⟩ : ByteArray) := ⟨_, rfl⟩
    have z2 : R2.size ≤ 60 := by rw [hR2, ByteArray.size_append]; first | omega | (have := (show (⟨#[32]⟩ : ByteArray).size ≤ 5 by decide); omega)
    have A2 : ∀ X : World, (Op.stringOp .add (R1 : ByteArray) (⟨#[32]⟩ : ByteArray)).run Tryd.prog X = .ok (.string R2) X := fun X => by rw [hR2]; exact run_string_add_sum X _ _ (by rw [← ByteArray.size_append, ← hR2]; omega)
    have HR2 : Hid _ := hR2
    clear hR2
    obtain ⟨R3, hR3⟩ : ∃ R : ByteArray, R = (R2 : ByteArray) ++ (T2 : ByteArray) := ⟨_, rfl⟩
    have z3 : R3.size ≤ 470 := by rw [hR3, ByteArray.size_append]; first | omega | (have := (show (T2 : ByteArray).size ≤ 5 by decide); omega)
    have A3 : ∀ X : World, (Op.stringOp .add (R2 : ByteArray) (T2 : ByteArray)).run Tryd.prog X = .ok (.string R3) X := fun X => by rw [hR3]; exact run_string_add_sum X _ _ (by rw [← ByteArray.size_append, ← hR3]; omega)
    have HR3 : Hid _ := hR3
    clear hR3
    go_enter Tryd.func18, Tryd.ntmps18
    go_wp2_with fail
    refine (sline_any _ _ _ _ _ _ _ _ _ _ C D _ (hC.alloc _) (hD.alloc _) hn hm).mono ?_
    rintro e W ⟨rfl, b1⟩
    rw [HB.out]
    have B_1 := B_0.trans (b1.mono B_0.size)
    have q_1 := q_0.below b1
    have CC : Hid (∀ X : World, Cel X w.heap.size [.int .i64 2, .int .i64 pot, .int .i64 0, .slice a n cap, .slice c m cap', .int .i64 K] 48 → X.cell? ⟨w.heap.size, 1, none⟩ = some (.int .i64 pot) ∧ X.cell? ⟨w.heap.size, 3, none⟩ = some (.slice a n cap) ∧ X.cell? ⟨w.heap.size, 4, none⟩ = some (.slice c m cap') ∧ X.cell? ⟨w.heap.size, 5, none⟩ = some (.int .i64 K)) := fun X h => ⟨h.cell 1, h.cell 3, h.cell 4, h.cell 5⟩
    obtain ⟨k0, k1, k2, k3, k4, k5⟩ := q_1.six
    clear q_0 B_0 b1
    go_upto_region 7 with fail
    clear k0 k1 k2 k3 k4 k5
    have hS0 : (W.drew.cell? ⟨w.heap.size, 1, none⟩ = some (.int .i64 pot) ∧ W.drew.cell? ⟨w.heap.size, 3, none⟩ = some (.slice a n cap) ∧ W.drew.cell? ⟨w.heap.size, 4, none⟩ = some (.slice c m cap') ∧ W.drew.cell? ⟨w.heap.size, 5, none⟩ = some (.int .i64 K)) ∧ True := ⟨CC.out _ q_1, trivial⟩
    refine wp_region_ends (fun X => X.cell? ⟨w.heap.size, 1, none⟩ = some (.int .i64 pot) ∧ X.cell? ⟨w.heap.size, 3, none⟩ = some (.slice a n cap) ∧ X.cell? ⟨w.heap.size, 4, none⟩ = some (.slice c m cap') ∧ X.cell? ⟨w.heap.size, 5, none⟩ = some (.int .i64 K)) (fun _ => True) 9 (by kernel_rfl) ?_
    refine wpAnyE_take0 (i := 0) (v := ?u1v0) rfl (by kernel_rfl) (by kernel_rfl) (by kernel_rfl) (by decide) (fun _ _ _ h => h) (Or.inl ⟨by rfl, ?u1hy0⟩) hS0 ?_
    case u1hy0 => (intro wz hSw; (try dsimp only at hSw); go_simp; try (with_reducible rfl))
    refine wpAnyE_take0 (i := 1) (v := ?u1v1) rfl (by kernel_rfl) (by kernel_rfl) (by kernel_rfl) (by decide) (fun _ _ _ h => h) (Or.inl ⟨by rfl, ?u1hy1⟩) hS0 ?_
    case u1hy1 => (intro wz hSw; (try dsimp only at hSw); go_simp; try (with_reducible rfl))
    refine wpAnyE_take0 (i := 5) (v := ?u1v5) rfl (by kernel_rfl) (by kernel_rfl) (by kernel_rfl) (by decide) (fun _ _ _ h => h) (Or.inl ⟨by rfl, ?u1hy5⟩) hS0 ?_
    case u1hy5 => (intro wz hSw; (try dsimp only at hSw); go_simp; try (with_reducible rfl))
    refine wpAnyE_take0 (i := 6) (v := ?u1v6) rfl (by kernel_rfl) (by kernel_rfl) (by kernel_rfl) (by decide) (fun _ _ _ h => h) (Or.inl ⟨by rfl, ?u1hy6⟩) hS0 ?_
    case u1hy6 => (intro wz hSw; (try dsimp only at hSw); go_simp; try (with_reducible rfl))
    refine wpAnyE_one (i := 2) (by kernel_rfl) rfl (fun Kn hK => ?_)
    go_simp
    refine (digits_any pot _ (by omega) (by omega)).mono ?_
    rintro ee w2 ⟨rfl, bd_2⟩
    rw [← E1.out]
    have b_2 := below_of_drew bd_2
    have B_2 := B_1.trans (b_2.mono B_1.size)
    have q_2 := q_1.below b_2
    have hS2 : (w2.cell? ⟨w.heap.size, 1, none⟩ = some (.int .i64 pot) ∧ w2.cell? ⟨w.heap.size, 3, none⟩ = some (.slice a n cap) ∧ w2.cell? ⟨w.heap.size, 4, none⟩ = some (.slice c m cap') ∧ w2.cell? ⟨w.heap.size, 5, none⟩ = some (.int .i64 K)) ∧ True := ⟨CC.out _ q_2, trivial⟩
    dsimp only
    refine hK.out _ _ ⟨hS2.1, fun _ => trivial⟩ ?_
    clear hK hS0
    refine wpAnyE_take0 (i := 3) (v := .string R1) rfl (by kernel_rfl) (by kernel_rfl) (by kernel_rfl) (by decide) (fun _ _ _ h => h) (Or.inl ⟨by rfl, ?u1hy3⟩) hS2 ?_
    case u1hy3 => (intro wz hSw; (try dsimp only at hSw); first | (go_simp; try (with_reducible rfl); done) | (simp only [go_sem, A1]; done) | (go_simp; exact A1 _) | (simp [go_sem, A1]; done) | skip)
    refine wpAnyE_take0 (i := 4) (v := .string R2) rfl (by kernel_rfl) (by kernel_rfl) (by kernel_rfl) (by decide) (fun _ _ _ h => h) (Or.inl ⟨by rfl, ?u1hy4⟩) hS2 ?_
    case u1hy4 => (intro wz hSw; (try dsimp only at hSw); first | (go_simp; try (with_reducible rfl); done) | (simp only [go_sem, A2]; done) | (go_simp; exact A2 _) | (simp [go_sem, A2]; done) | skip)
    refine wpAnyE_one (i := 7) (by kernel_rfl) rfl (fun Kn hK => ?_)
    go_simp
    refine (sftext_any _ _ _ _ _ _ _ C D _ (hC.below B_2) (hD.below B_2) hn hm).mono ?_
    rintro ee w3 ⟨rfl, b_3⟩
    rw [← HF.out, ← E2.out]
    have B_3 := B_2.trans (b_3.mono B_2.size)
    have q_3 := q_2.below b_3
    have hS3 : (w3.cell? ⟨w.heap.size, 1, none⟩ = some (.int .i64 pot) ∧ w3.cell? ⟨w.heap.size, 3, none⟩ = some (.slice a n cap) ∧ w3.cell? ⟨w.heap.size, 4, none⟩ = some (.slice c m cap') ∧ w3.cell? ⟨w.heap.size, 5, none⟩ = some (.int .i64 K)) ∧ True := ⟨CC.out _ q_3, trivial⟩
    dsimp only
    refine hK.out _ _ ⟨hS3.1, fun _ => trivial⟩ ?_
    clear hK hS2
    refine wpAnyE_take0 (i := 8) (v := .string R3) rfl (by kernel_rfl) (by kernel_rfl) (by kernel_rfl) (by decide) (fun _ _ _ h => h) (Or.inl ⟨by rfl, ?u1hy8⟩) hS3 ?_
    case u1hy8 => (intro wz hSw; (try dsimp only at hSw); first | (go_simp; try (with_reducible rfl); done) | (simp only [go_sem, A3]; done) | (go_simp; exact A3 _) | (simp [go_sem, A3]; done) | skip)
    refine wpAnyE_one (i := 9) (by kernel_rfl) rfl (fun Kn hK => ?_)
    go_simp
    refine hK.out _ _ ⟨hS3.1, fun _ => trivial⟩ ?_
    clear hK
    refine wpAnyE_done (by kernel_rfl) ?_ _
    clear hS3
    go_wp2
    go_ret
    refine ⟨?_, B_3⟩
    rw [HAT.out]
    have : R3 = ⟨(addW ++ 32 :: (Lib.itoa pot ++ 32 :: F)).toArray⟩ := by
      rw [HR3.out, HR2.out, HR1.out, E1.out, E2.out, show (⟨#[97, 100, 100, 32]⟩ : ByteArray) = ⟨(addW ++ [32]).toArray⟩ from rfl, show (⟨#[32]⟩ : ByteArray) = ⟨[32].toArray⟩ from rfl]
      simp [cat_str, List.append_assoc]
    rw [← this]
    rfl
  · rw [HC1.out, HD1.out] at hs
    obtain ⟨F, hF⟩ : ∃ F, formText n m C D K = F := ⟨_, rfl⟩
    have hFl : F.length ≤ 400 := by rw [← hF]; exact form_len hs
    have HAT : Hid (actText (3, 0, 0, C, D, K) = printW ++ 32 :: F) := by show _ = _; rw [HAY.out, if_neg (by decide), if_neg (by decide), if_pos rfl, textF, HC1.out, HD1.out, hF]
    have HF : Hid _ := hF
    clear hF hs HAY
    go_enter Tryd.func18, Tryd.ntmps18
    go_wp2_with fail
    refine (sline_any _ _ _ _ _ _ _ _ _ _ C D _ (hC.alloc _) (hD.alloc _) hn hm).mono ?_
    rintro e W ⟨rfl, b1⟩
    rw [HB.out]
    have B_1 := B_0.trans (b1.mono B_0.size)
    have q_1 := q_0.below b1
    obtain ⟨k0, k1, k2, k3, k4, k5⟩ := q_1.six
    clear q_0 B_0 b1
    go_wp2_with fail
    refine (sftext_any _ _ _ _ _ _ _ C D _ (hC.below B_1) (hD.below B_1) hn hm).mono ?_
    rintro e w3 ⟨rfl, b_3⟩
    rw [HF.out]
    have B_3 := B_1.trans (b_3.mono B_1.size)
    clear k0 k1 k2 k3 k4 k5 q_1 B_1 b_3
    go_wp2
    go_ret
    refine ⟨?_, B_3⟩
    rw [HAT.out, show printW ++ 32 :: F = (printW ++ [32]) ++ F by simp, ← cat_str]
    rfl
  · have HAT : Hid (actText (4, 0, 0, [], [], 0) = stopT) := by show _ = _; rw [HAY.out]; rfl
    go_enter Tryd.func18, Tryd.ntmps18
    go_wp2_with fail
    refine (sline_any _ _ _ _ _ _ _ _ _ _ [] [] _ (hC.alloc _) (hD.alloc _) hn hm).mono ?_
    rintro e W ⟨rfl, b1⟩
    rw [HB.out]
    have B_1 := B_0.trans (b1.mono B_0.size)
    have q_1 := q_0.below b1
    obtain ⟨k0, k1, k2, k3, k4, k5⟩ := q_1.six
    go_wp2
    go_ret
    exact ⟨by rw [HAT.out]; rfl, B_1⟩

end Go.Proofs.YtmhhphpihnkfpaaDoor
namespace Go.Proofs.YtmhhphpihnkfpaaDoor
open Go.RowKit
set_option linter.unusedVariables false
set_option maxRecDepth 100000

set_option maxHeartbeats 1600000 in
theorem l12line_any (x : List UInt8) (a : Option Addr) (n cap : Nat) (zs : List Int) (w : World) (h : Ints w a n zs) (hx : x.length ≤ 100) (hn : n ≤ 20) (hz : ∀ i : Nat, -999999999999 ≤ zs[i]?.getD 0 ∧ zs[i]?.getD 0 ≤ 999999999999) :
    Calls Tryd.prog 17 #[.string ⟨x.toArray⟩, .slice a n cap] w fun e w' => e = .returned (.string ⟨(x ++ tailL zs).toArray⟩) ∧ (x ++ tailL zs).length ≤ 100 + 22 * n ∧ Below w.heap.size w w' := by
  have HL : Hid (zs.length = n) := h.1
  have BZ : Hid _ := hz
  clear hz
  go_enter Tryd.func17, Tryd.ntmps17
  go_wp2_with fail
  go_loopw [0, 5] (fun s i wr => ∃ (k : Nat) (L : List UInt8), k ≤ n ∧ i = .int .i64 k ∧ s = .string ⟨L.toArray⟩ ∧ L = x ++ tailL (zs.take k) ∧ L.length ≤ 100 + 22 * k ∧ Below w.heap.size w wr) (fun _ i _ => n - (intOf i).toNat)
  case atStart => exact ⟨0, x, Nat.zero_le _, rfl, rfl, by simp [tail_nil], by omega, Below.refl _ _⟩
  case round =>
    obtain ⟨k, L, hk, rfl, rfl, hL, hlen, hb⟩ := hrel
    have HLL : Hid _ := hL
    clear hL
    have hlen' : L.length ≤ 1000 := by omega
    by_cases hlt : k < n
    · obtain ⟨b, off, rfl, hcell⟩ := (h.below hb).pos (by omega)
      have hck : wr.cell? ⟨b, off + k, none⟩ = some (.int .i64 (zs[k]?.getD 0)) := by rw [hcell k hlt]; simp
      have HT : Hid _ := tail_step (zs := zs) (k := k) (by rw [HL.out]; exact hlt)
      have hz := BZ.out k
      generalize HG : zs[k]?.getD 0 = z at *
      clear HG hcell
      obtain ⟨z1, z2⟩ := hz
      have hI := Lib.itoa_length_le z (by omega) (by omega)
      generalize HGI : Lib.itoa z = I at *
      have HGI' : Hid _ := HGI
      clear HGI
      go_wp2_with fail
      refine (digits_any z _ (by omega) (by omega)).mono ?_
      rintro e w2 ⟨rfl, b2⟩
      rw [HGI'.out]
      go_wp2
      go_roundw
      case rel => exact ⟨k + 1, L ++ [32] ++ I, by omega, by go_num, by rw [show (⟨#[32]⟩ : ByteArray) = ⟨[32].toArray⟩ from rfl, cat_str, cat_str], by rw [HT.out, HLL.out, List.append_assoc, List.append_assoc], by rw [List.length_append, List.length_append, List.length_cons, List.length_nil]; omega, hb.trans (b2.mono hb.size)⟩
      case measure => simp [intOf]; omega
    · have hkn : k = n := by omega
      go_wp2
      go_ret
      have e : L = x ++ tailL zs := by rw [HLL.out, tail_end (by rw [HL.out]; omega)]
      exact ⟨by rw [e]; rfl, by rw [← e]; omega, hb⟩

end Go.Proofs.YtmhhphpihnkfpaaDoor
namespace Go.Proofs.YtmhhphpihnkfpaaDoor
open Go.RowKit
section
variable {P : Program} {ops : Array Oper} {Q : Exit → Act → World → Prop} {md : Region.Mode} {S0 S : World → Prop} {s : Nat}
theorem tkE {i : Nat} {oi : Oper} {v : Value} {fuel : Nat} {listed : Array Bool} {a : Act} {w : World} (hi : ops[i]? = some oi) (hy : YieldsIf P ops S0 oi v a) (hS : S0 w ∧ S w)
    (h : wpAnyE P md ops Q S0 S s fuel (listed.setIfInBounds i true) (a.put oi.dst v) w)
    (hs : Region.noSelect ops = true := by kernel_rfl) (hf : Region.free md ops listed i = true := by kernel_rfl) (hr : (Region.ready md ops listed).contains i = true := by kernel_rfl) (his : i ≠ s := by decide)
    (hQ : ∀ c a w, Q (.panic c) (a.put oi.dst v) w → Q (.panic c) a w := by exact fun _ _ _ h => h) : wpAnyE P md ops Q S0 S s (fuel + 1) listed a w :=
  wpAnyE_take0 hi hs hf hr his hQ hy hS h
theorem tkL {i : Nat} {oi : Oper} {v : Value} {fuel : Nat} {listed : Array Bool} {a : Act} {w : World} (hi : ops[i]? = some oi) (hS : S0 w ∧ S w)
    (h : wpAnyE P md ops Q S0 S s fuel (listed.setIfInBounds i true) (a.put oi.dst v) w)
    (hw : Region.wanted oi (yielded ops a.tmps) = true := by rfl)
    (hy : ∀ w, S0 w → (execOp a.eval oi).run P w = .ok (.value v) w := by (intro wz hSw; (try dsimp only at hSw); go_simp; try (with_reducible rfl)))
    (hs : Region.noSelect ops = true := by kernel_rfl) (hf : Region.free md ops listed i = true := by kernel_rfl) (hr : (Region.ready md ops listed).contains i = true := by kernel_rfl) (his : i ≠ s := by decide)
    (hQ : ∀ c a w, Q (.panic c) (a.put oi.dst v) w → Q (.panic c) a w := by exact fun _ _ _ h => h) : wpAnyE P md ops Q S0 S s (fuel + 1) listed a w :=
  wpAnyE_take0 hi hs hf hr his hQ (Or.inl ⟨hw, hy⟩) hS h
theorem tkU {i : Nat} {oi : Oper} {fuel : Nat} {listed : Array Bool} {a : Act} {w : World} (hi : ops[i]? = some oi) (hS : S0 w ∧ S w)
    (h : wpAnyE P md ops Q S0 S s fuel (listed.setIfInBounds i true) (a.put oi.dst undef) w)
    (hw : Region.wanted oi (yielded ops a.tmps) = false := by kernel_rfl)
    (hs : Region.noSelect ops = true := by kernel_rfl) (hf : Region.free md ops listed i = true := by kernel_rfl) (hr : (Region.ready md ops listed).contains i = true := by kernel_rfl) (his : i ≠ s := by decide)
    (hQ : ∀ c a w, Q (.panic c) (a.put oi.dst undef) w → Q (.panic c) a w := by exact fun _ _ _ h => h) : wpAnyE P md ops Q S0 S s (fuel + 1) listed a w :=
  wpAnyE_take0 hi hs hf hr his hQ (Or.inr ⟨hw, rfl⟩) hS h
theorem tkM {i : Nat} {oi os : Oper} {v : Value} {fuel : Nat} {listed : Array Bool} {a : Act} {w : World} (hi : ops[i]? = some oi) (hos : ops[s]? = some os) (hS : S0 w ∧ S w)
    (h : wpAnyE P md ops Q S0 S s fuel (listed.setIfInBounds i true) (a.put oi.dst v) w)
    (hw : Region.wanted oi (yielded ops a.tmps) = true := by rfl)
    (hy : ∀ w, S w → (execOp a.eval oi).run P w = .ok (.value v) w := by (intro wz hSw; (try dsimp only at hSw); go_simp; try (with_reducible rfl)))
    (hs : Region.noSelect ops = true := by kernel_rfl) (hf : Region.free md ops listed i = true := by kernel_rfl) (hr : (Region.ready md ops listed).contains i = true := by kernel_rfl) (his : i ≠ s := by decide)
    (hls : listed.getD s true = false := by rfl) (hb : ∃ e ∈ os.after, Region.binds md e = true ∧ e.on = i := by simp [Region.binds])
    (hQ : ∀ c a w, Q (.panic c) (a.put oi.dst v) w → Q (.panic c) a w := by exact fun _ _ _ h => h) : wpAnyE P md ops Q S0 S s (fuel + 1) listed a w :=
  wpAnyE_take1 hi hos hs hf hr his hls hb hQ (Or.inl ⟨hw, hy⟩) hS h
end
end Go.Proofs.YtmhhphpihnkfpaaDoor
namespace Go.Proofs.YtmhhphpihnkfpaaDoor
open Go.RowKit
set_option linter.unusedVariables false
set_option maxRecDepth 100000

def noT : ByteArray := ⟨#[]⟩
/-- The first n cells of block B are these texts, free to be written. -/
def OwnT (W : World) (a : Option Addr) (B n : Nat) (xs : List ByteArray) : Prop :=
  xs.length = n ∧ (n = 0 ∨ (a = some ⟨B, 0, none⟩ ∧ ∃ cur : List Value, Cel W B cur 9 ∧ ∀ i, i < n → cur[i]? = some (.string (xs[i]?.getD noT))))
def Txs (W : World) (a : Option Addr) (n : Nat) (xs : List ByteArray) : Prop := xs.length = n ∧ ∀ i, i < n → ∃ b off, a = some ⟨b, off, none⟩ ∧ W.cell? ⟨b, off + i, none⟩ = some (.string (xs[i]?.getD noT))
theorem Txs.below {W W' : World} {a : Option Addr} {n : Nat} {xs : List ByteArray} (h : Txs W a n xs) (b : Below W.heap.size W W') : Txs W' a n xs := ⟨h.1, fun i hi => by
  obtain ⟨g, off, e, hc⟩ := h.2 i hi
  exact ⟨g, off, e, by rw [b.cell (p := ⟨g, off + i, none⟩) (block_lt hc)]; exact hc⟩⟩
theorem Txs.pos {W : World} {a : Option Addr} {n : Nat} {xs : List ByteArray} (h : Txs W a n xs) (hn : 0 < n) : ∃ b off, a = some ⟨b, off, none⟩ ∧ ∀ i, i < n → W.cell? ⟨b, off + i, none⟩ = some (.string (xs[i]?.getD noT)) := by
  obtain ⟨b, off, rfl, -⟩ := h.2 0 hn
  refine ⟨b, off, rfl, fun i hi => ?_⟩
  obtain ⟨b', off', e, hc⟩ := h.2 i hi
  cases e
  exact hc
theorem OwnT.txs {W : World} {a : Option Addr} {B n : Nat} {xs : List ByteArray} (h : OwnT W a B n xs) : Txs W a n xs := ⟨h.1, fun i hi => by
  rcases h.2 with h0 | ⟨rfl, cur, hc, hv⟩
  · omega
  · exact ⟨B, 0, rfl, by rw [Nat.zero_add, hc.cell i, hv i hi]⟩⟩
theorem OwnT.below {W W' : World} {a : Option Addr} {B n : Nat} {xs : List ByteArray} (h : OwnT W a B n xs) (b : Below W.heap.size W W') : OwnT W' a B n xs := by
  refine ⟨h.1, ?_⟩
  rcases h.2 with h0 | ⟨e, cur, hc, hv⟩
  · exact .inl h0
  · exact .inr ⟨e, cur, hc.below b, hv⟩
theorem OwnT.touch {S : Nat → Prop} {W W' : World} {a : Option Addr} {B n : Nat} {xs : List ByteArray} (h : OwnT W a B n xs) (t : Touch S W W') (hn : 0 < n → ¬ S B) : OwnT W' a B n xs := by
  refine ⟨h.1, ?_⟩
  rcases h.2 with h0 | ⟨e, cur, hc, hv⟩
  · exact .inl h0
  · by_cases h0 : 0 < n
    · exact .inr ⟨e, cur, hc.touch t (hn h0), hv⟩
    · exact .inl (by omega)
theorem OwnT.lt {W : World} {a : Option Addr} {B n : Nat} {xs : List ByteArray} (h : OwnT W a B n xs) (hn : 0 < n) : B < W.heap.size := by
  rcases h.2 with h0 | ⟨e, cur, hc, hv⟩
  · omega
  · exact hc.lt
theorem OwnT.nil (W : World) (a : Option Addr) (B : Nat) : OwnT W a B 0 [] := ⟨rfl, .inl rfl⟩
theorem OwnT.pos {W : World} {a : Option Addr} {B n : Nat} {xs : List ByteArray} (h : OwnT W a B n xs) (hn : 0 < n) : a = some ⟨B, 0, none⟩ ∧ (∀ i, i < n → W.cell? ⟨B, i, none⟩ = some (.string (xs[i]?.getD noT))) ∧ ∀ i, W.frozen? ⟨B, i, none⟩ = false := by
  rcases h.2 with h0 | ⟨rfl, cur, hc, hv⟩
  · omega
  · exact ⟨rfl, fun i hi => by rw [hc.cell i, hv i hi], fun i => hc.free i⟩
theorem OwnT.set {W : World} {a : Option Addr} {B n : Nat} {xs : List ByteArray} (h : OwnT W a B n xs) {i : Nat} (hi : i < n) (x : ByteArray) : OwnT (W.setCell ⟨B, i, none⟩ (.string x)) a B n (xs.set i x) := by
  refine ⟨by rw [List.length_set]; exact h.1, ?_⟩
  rcases h.2 with h0 | ⟨e, cur, hc, hv⟩
  · omega
  · refine .inr ⟨e, cur.set i (.string x), hc.set _ _, fun j hj => ?_⟩
    have hl : i < cur.length := (List.getElem?_eq_some_iff.1 (hv i hi)).1
    have hz := h.1
    by_cases e : j = i
    · subst e
      rw [List.getElem?_set_self hl, List.getElem?_set_self (by omega)]; rfl
    · rw [List.getElem?_set_ne (by omega), hv j hj, List.getElem?_set_ne (by omega)]
theorem JT.ownt {w W : World} {v : Value} {xs : List ByteArray} {n : Nat} (j : JT w v xs W) (hn : xs.length = n) : ∃ a cap B, v = .slice a n cap ∧ OwnT W a B n xs ∧ (0 < n → w.heap.size ≤ B) := by
  subst hn
  rcases j.o.2 with ⟨hv, h⟩ | ⟨g, cap', cur, rfl, hg, hh, hl, _, hs, ht⟩
  · rw [h]
    have : xs = [] := List.eq_nil_of_length_eq_zero h
    subst this
    exact ⟨none, 0, 0, hv, OwnT.nil _ _ _, fun h => by omega⟩
  · refine ⟨some ⟨g, 0, none⟩, cap', g, rfl, ⟨rfl, .inr ⟨rfl, cur.toList, by unfold Cel; simpa using hh, fun i hi => ?_⟩⟩, fun _ => hg⟩
    have h1 : (cur.toList.take (xs.length * 1))[i]? = (xs.map Value.string)[i]? := by rw [ht]
    rw [List.getElem?_take, if_pos (by omega)] at h1
    rw [h1]
    simp [hi]

theorem bb_ne (S : ByteArray) : (S != S) = false := by
  have h : (S == S) = true := by
    cases S with | mk d => show (d == d) = true; simp
  simp [bne, h]

set_option maxHeartbeats 800000 in
theorem eqTx_same (a c : Option Addr) (n cap cap' : Nat) (xs : List ByteArray) (w : World) (h : Txs w a n xs) (h' : Txs w c n xs) (hn : n ≤ 1048576) :
    Calls Tryd.prog 8 #[.slice a n cap, .slice c n cap'] w fun e w' => e = .returned (.bool true) ∧ Below w.heap.size w w' := by
  have hne : ((n : Int) != (n : Int)) = false := by simp
  go_enter Tryd.func8, Tryd.ntmps8
  go_wp2_with fail
  go_loopw [5] (fun i wr => ∃ k : Nat, k ≤ n ∧ i = .int .i64 k ∧ Below w.heap.size w wr) (fun i _ => n - (intOf i).toNat)
  case atStart => exact ⟨0, Nat.zero_le _, rfl, Below.refl _ _⟩
  case round =>
    obtain ⟨k, hk, rfl, hnx⟩ := hrel
    by_cases hlt : k < n
    · obtain ⟨b, off, rfl, hcell⟩ := (h.below hnx).pos (by omega)
      obtain ⟨b', off', rfl, hcell'⟩ := (h'.below hnx).pos (by omega)
      have hck := hcell k hlt
      have hck' := hcell' k hlt
      have hlt' : (k : Int) < (n : Int) := by omega
      clear hcell hcell' h h'
      generalize xs[k]?.getD noT = S at *
      have hS := bb_ne S
      go_wp2_with fail
      go_quiet (fail)
      go_wp2
      go_roundw
      case rel => exact ⟨k + 1, by omega, by go_num, below_drewN hnx _⟩
      case measure => simp [intOf]; omega
    · go_wp2
      go_ret
      exact ⟨rfl, hnx⟩

/-- The mark of a text. -/
def mkT (k : Int) : ByteArray := ⟨(109 :: Lib.itoa k).toArray⟩
theorem itoa_nat {k : Nat} : Lib.itoa (k : Int) = Lib.decDigits k := by rw [Lib.itoa, if_neg (by omega)]; rfl

theorem mkT_zero : mkT ((0 : Nat) : Int) = ⟨#[109, 48]⟩ := by rw [mkT, itoa_nat, dec_one (by omega)]; rfl

set_option maxHeartbeats 800000 in
theorem markT_any (k : Nat) (w : World) (hk : k ≤ 1000000000000) :
    Calls Tryd.prog 28 #[.int .i64 k] w fun e w' => e = .returned (.string (mkT k)) ∧ Below w.heap.size w w' := by
  by_cases h0 : k = 0
  · subst h0
    go_enter Tryd.func28, Tryd.ntmps28
    go_wp2
    go_ret
    exact ⟨by rw [mkT_zero]; rfl, Below.refl _ _⟩
  have hp : ¬ (k : Int) ≤ 0 := by omega
  go_enter Tryd.func28, Tryd.ntmps28
  go_wp2_with fail
  go_loopw [0, 3] (fun n s wr => ∃ (j : Nat) (l : List UInt8), n = .int .i64 j ∧ s = .string ⟨l.toArray⟩ ∧ j + l.length ≤ k ∧ Lib.decDigits k = (if j = 0 then [] else Lib.decDigits j) ++ l ∧ Below w.heap.size w wr) (fun n _ _ => (intOf n).toNat)
  case atStart => exact ⟨k, [], rfl, rfl, Nat.le_refl _, by rw [if_neg h0]; simp, Below.refl _ _⟩
  case round =>
    obtain ⟨j, l, rfl, rfl, hj, hd, hb⟩ := hrel
    have HD : Hid _ := hd
    clear hd
    have hll : l.length ≤ 1000000000000 := by omega
    have hjj : j ≤ 1000000000000 := by omega
    by_cases h9 : 0 < j
    · have hcv : (convert 63 9 (.slice (some ⟨wr.heap.size, 0, none⟩) 1 1)).run Tryd.prog (wr.alloc (.cells #[.int .u8 (48 + (j : Int) % 10)] 5)) = .ok (.string ⟨#[UInt8.ofNat (48 + j % 10)]⟩) (wr.alloc (.cells #[.int .u8 (48 + (j : Int) % 10)] 5)) := run_convert_bytes_back (P := Tryd.prog) (wr.alloc (.cells #[.int .u8 (48 + (j : Int) % 10)] 5)) 63 9 5 ⟨wr.heap.size, 0, none⟩ 1 [UInt8.ofNat (48 + j % 10)] Tryd.underlying63 Tryd.underlying5 Tryd.underlying9 (fun i hi => by
        have : i = 0 := by simpa using hi
        subst this
        have hm : 48 + j % 10 < 256 := by omega
        simp [go_sem, Addr.add, Nat.mod_eq_of_lt hm])
      have hs : Lib.decDigits j = (if j / 10 = 0 then [] else Lib.decDigits (j / 10)) ++ [UInt8.ofNat (48 + j % 10)] := by
        by_cases h10 : j < 10
        · rw [dec_one h10, if_pos (by omega), List.nil_append, Nat.mod_eq_of_lt h10]
        · rw [dec_step h10, if_neg (by omega)]
      have HS : Hid _ := hs
      clear hs
      go_wp2
      go_roundw
      case rel => exact ⟨j / 10, UInt8.ofNat (48 + j % 10) :: l, by go_num, by rw [u8_add _ (by omega), cat_one], by rw [List.length_cons]; omega, by rw [HD.out, if_neg (by omega), HS.out, List.append_assoc]; rfl, hb.alloc hb.size _⟩
      case measure => simp [intOf]; omega
    · have hj0 : j = 0 := by omega
      subst hj0
      have e : l = Lib.itoa k := by
        rw [itoa_nat, HD.out, if_pos rfl, List.nil_append]
      have HE : Hid _ := e
      clear e
      go_wp2
      go_ret
      exact ⟨by rw [mkT, ← HE.out]; exact congrArg (fun x => Ending.returned (.string x)) (cat_one 109 l), hb⟩

/-- Marks in the first j of these texts. -/
def markedT (k : Nat) (n : Nat) (xs : List ByteArray) (j : Nat) : List ByteArray := (List.range n).map fun i => if i < j then mkT ((k + i : Nat) : Int) else xs[i]?.getD noT
def rampT (k n : Nat) : List ByteArray := (List.range n).map fun i => mkT ((k + i : Nat) : Int)
theorem markedT_get {k n j i : Nat} {xs : List ByteArray} (hi : i < n) : (markedT k n xs j)[i]? = some (if i < j then mkT ((k + i : Nat) : Int) else xs[i]?.getD noT) := by
  rw [markedT, List.getElem?_map, List.getElem?_range hi]; rfl
theorem markedT_zero {k n : Nat} {xs : List ByteArray} (h : xs.length = n) : markedT k n xs 0 = xs := by
  apply List.ext_getElem?
  intro i
  by_cases hi : i < n
  · rw [markedT_get hi, if_neg (by omega), List.getElem?_eq_getElem (by omega)]; rfl
  · rw [List.getElem?_eq_none (by rw [markedT, List.length_map, List.length_range]; omega), List.getElem?_eq_none (by omega)]
theorem markedT_succ {k n j : Nat} {xs : List ByteArray} (hj : j < n) : (markedT k n xs j).set j (mkT ((k + j : Nat) : Int)) = markedT k n xs (j + 1) := by
  apply List.ext_getElem?
  intro i
  have hl : (markedT k n xs j).length = n := by rw [markedT, List.length_map, List.length_range]
  by_cases hi : i < n
  · by_cases e : i = j
    · subst e
      rw [List.getElem?_set_self (by omega), markedT_get hi, if_pos (by omega)]
    · rw [List.getElem?_set_ne (by omega), markedT_get hi, markedT_get hi]
      by_cases h : i < j
      · rw [if_pos h, if_pos (by omega)]
      · rw [if_neg h, if_neg (by omega)]
  · rw [List.getElem?_eq_none (by rw [List.length_set]; omega), List.getElem?_eq_none (by rw [markedT, List.length_map, List.length_range]; omega)]
theorem markedT_end {k n : Nat} {xs : List ByteArray} : markedT k n xs n = rampT k n := by
  apply List.ext_getElem?
  intro i
  by_cases hi : i < n
  · rw [markedT_get hi, if_pos hi, rampT, List.getElem?_map, List.getElem?_range hi]; rfl
  · rw [List.getElem?_eq_none (by rw [markedT, List.length_map, List.length_range]; omega), List.getElem?_eq_none (by rw [rampT, List.length_map, List.length_range]; omega)]
theorem rampT_get {k n i : Nat} (hi : i < n) : (rampT k n)[i]?.getD noT = mkT ((k + i : Nat) : Int) := by
  rw [rampT, List.getElem?_map, List.getElem?_range hi]; rfl

set_option maxHeartbeats 800000 in
theorem markTS_any (a : Option Addr) (n cap B : Nat) (xs : List ByteArray) (k : Nat) (w : World) (h : OwnT w a B n xs) (hn : n ≤ 1048576) (hk : k ≤ 100000000000) :
    Calls Tryd.prog 11 #[.slice a n cap, .int .i64 k] w fun e w' => e = .returned (.int .i64 ((k : Int) + n)) ∧ Touch (fun x => x = B ∧ 0 < n) w w' ∧ OwnT w' a B n (rampT k n) := by
  have HZ : Hid (xs.length = n) := h.1
  go_enter Tryd.func11, Tryd.ntmps11
  go_wp2_with fail
  go_loopw [1, 5] (fun kk i wr => ∃ j : Nat, j ≤ n ∧ i = .int .i64 j ∧ kk = .int .i64 (((k + j : Nat) : Int)) ∧ Touch (fun x => x = B ∧ 0 < n) w wr ∧ OwnT wr a B n (markedT k n xs j)) (fun _ i _ => n - (intOf i).toNat)
  case atStart => exact ⟨0, Nat.zero_le _, rfl, by simp, Touch.refl _ _, by rw [markedT_zero HZ.out]; exact h⟩
  case round =>
    obtain ⟨j, hj, rfl, rfl, ht, ho⟩ := hrel
    by_cases hlt : j < n
    · go_wp2_with fail
      refine (markT_any (k + j) _ (by omega)).mono ?_
      rintro e w2 ⟨rfl, b2⟩
      have ho2 := ho.below b2
      have t2 := ht.trans (Touch.of b2)
      obtain ⟨rfl, hcs, hfs⟩ := ho2.pos (by omega)
      have hc := hcs j hlt
      have hf := hfs j
      have R : OwnT (w2.setCell ⟨B, j, none⟩ (.string (mkT ((k + j : Nat) : Int)))) (some ⟨B, 0, none⟩) B n (markedT k n xs (j + 1)) := by
        have := ho2.set hlt (mkT ((k + j : Nat) : Int))
        rwa [markedT_succ hlt] at this
      have R2 : Touch (fun x => x = B ∧ 0 < n) w (w2.setCell ⟨B, j, none⟩ (.string (mkT ((k + j : Nat) : Int)))) := t2.setCell ⟨rfl, by omega⟩ _
      have hkj : ((k + j : Nat) : Int) ≤ 1000000000000 := by omega
      clear h ho hcs hfs ho2
      go_wp2
      go_roundw
      case rel => exact ⟨j + 1, by omega, by go_num, by go_num, R2, R⟩
      case measure => simp [intOf]; omega
    · go_wp2
      go_ret
      obtain rfl : j = n := by omega
      exact ⟨by go_num, ht, by rw [markedT_end] at ho; exact ho⟩

set_option maxHeartbeats 800000 in
theorem heldTS_any (a : Option Addr) (n cap : Nat) (k : Nat) (w : World) (h : Txs w a n (rampT k n)) (hn : n ≤ 1048576) (hk : k ≤ 100000000000) :
    Calls Tryd.prog 12 #[.slice a n cap, .int .i64 k] w fun e w' => e = .returned (.int .i64 ((k : Int) + n)) ∧ Below w.heap.size w w' := by
  go_enter Tryd.func12, Tryd.ntmps12
  go_wp2_with fail
  go_loopw [1, 5] (fun kk i wr => ∃ j : Nat, j ≤ n ∧ i = .int .i64 j ∧ kk = .int .i64 (((k + j : Nat) : Int)) ∧ Below w.heap.size w wr) (fun _ i _ => n - (intOf i).toNat)
  case atStart => exact ⟨0, Nat.zero_le _, rfl, by simp, Below.refl _ _⟩
  case round =>
    obtain ⟨j, hj, rfl, rfl, hb⟩ := hrel
    by_cases hlt : j < n
    · obtain ⟨b, off, rfl, hcell⟩ := (h.below hb).pos (by omega)
      have hck := hcell j hlt
      rw [rampT_get hlt] at hck
      have hlt' : (j : Int) < (n : Int) := by omega
      have hbl := block_lt hck
      have hS := bb_ne (mkT ((k + j : Nat) : Int))
      have hkj : ((k + j : Nat) : Int) ≤ 1000000000000 := by omega
      clear hcell h
      go_upto_region 4 with fail
      refine wp_region_ends (fun X => X.cell? ⟨b, off + j, none⟩ = some (.string (mkT ((k + j : Nat) : Int)))) (fun _ => True) 6 (by kernel_rfl) ?_
      have dr : Below wr.heap.size wr wr.drew := (Below.refl _ _).drew
      have hb2 := hb.trans (dr.mono hb.size)
      have hSS : (fun X : World => X.cell? ⟨b, off + j, none⟩ = some (.string (mkT ((k + j : Nat) : Int)))) wr.drew ∧ True := ⟨hck, trivial⟩
      refine tkL (i := 0) rfl hSS ?_
      refine tkL (i := 1) rfl hSS ?_
      refine tkL (i := 2) rfl hSS ?_
      refine tkL (i := 3) rfl hSS ?_
      simp only [Act.put, List.setIfInBounds_toArray, List.set_cons_succ, List.set_cons_zero, List.getElem_toArray, List.getElem_cons_succ, List.getElem_cons_zero]
      refine tkL (i := 4) rfl hSS ?_
      refine wpAnyE_one (i := 5) (by kernel_rfl) rfl (fun Kn hK => ?_)
      go_simp
      refine (markT_any (k + j) _ (by omega)).mono ?_
      rintro e w2 ⟨rfl, b2⟩
      have hck2 : w2.cell? ⟨b, off + j, none⟩ = some (.string (mkT ((k + j : Nat) : Int))) := by
        rw [b2.cell (p := ⟨b, off + j, none⟩) hbl]; exact hck
      have hb3 := hb2.trans (b2.mono hb2.size)
      clear hSS
      have hSS : (fun X : World => X.cell? ⟨b, off + j, none⟩ = some (.string (mkT ((k + j : Nat) : Int)))) w2 ∧ True := ⟨hck2, trivial⟩
      (try dsimp only)
      refine hK.out _ _ ⟨hSS.1, fun _ => trivial⟩ ?_
      clear hK
      refine wpAnyE_one (i := 6) (by kernel_rfl) rfl (fun Kn hK => ?_)
      go_simp
      refine hK.out _ _ ⟨hSS.1, fun _ => trivial⟩ ?_
      clear hK
      refine wpAnyE_done (by kernel_rfl) ?_ _
      clear hSS hck hck2
      go_wp2
      go_roundw
      case rel => exact ⟨j + 1, by omega, by go_num, by go_num, hb3⟩
      case measure => simp [intOf]; omega
    · go_wp2
      go_ret
      obtain rfl : j = n := by omega
      exact ⟨by go_num, hb⟩

end Go.Proofs.YtmhhphpihnkfpaaDoor
namespace Go.Proofs.YtmhhphpihnkfpaaDoor
open Go.RowKit
set_option linter.unusedVariables false
set_option maxRecDepth 100000

def bT (l : List UInt8) : ByteArray := ⟨l.toArray⟩
def lineT (l : LV) : ByteArray := bT (actText (l.kind, l.pot, l.skip, l.f.C, l.f.D, l.f.K))
def headT (cl : Int) (G S : List Int) : List ByteArray := [bT ([99, 108, 105, 101, 110, 116, 115] ++ tailL [cl]), bT ([103, 105, 118, 101, 115] ++ tailL G), bT ([115, 116, 97, 114, 116] ++ tailL S)]
def actTs (s : L2V) : List ByteArray := bT [97, 99, 116] :: s.x.map lineT
def bodyT (ss : List L2V) : List ByteArray := (ss.map actTs).flatten
def plnT (cl : Int) (ss : List L2V) (G S : List Int) : List ByteArray := headT cl G S ++ bodyT ss
/-- What PlnPrint answers. -/
def plnR (cl : Int) (N : Nat) (ss : List L2V) (gn : Nat) (G : List Int) (sn : Nat) (S : List Int) : List ByteArray := if plnB cl N ss gn G sn S = true then plnT cl ss G S else []
theorem bodyT_step {ss : List L2V} {k : Nat} (h : k < ss.length) : bodyT (ss.take (k + 1)) = bodyT (ss.take k) ++ actTs (ss[k]?.getD noL) := by
  unfold bodyT
  rw [List.take_succ_eq_append_getElem h, List.getElem?_eq_getElem h, List.map_append, List.flatten_append]
  simp
theorem lines_step {ls : List LV} {j : Nat} (h : j < ls.length) : (ls.take (j + 1)).map lineT = (ls.take j).map lineT ++ [lineT (ls[j]?.getD noLV)] := by
  rw [List.take_succ_eq_append_getElem h, List.getElem?_eq_getElem h, List.map_append]
  simp
theorem act_small {s : L2V} (h : s.ok = true) : s.n ≤ 6 := by
  unfold L2V.ok actB at h
  simp only [Bool.and_eq_true, decide_eq_true_eq] at h
  omega
/-- What a plan that is ok has at most. -/
theorem pln_small {cl : Int} {N : Nat} {ss : List L2V} {gn : Nat} {G : List Int} {sn : Nat} {S : List Int} (h : plnB cl N ss gn G sn S = true) (hN : ss.length = N) (hg : G.length = gn) (hs : S.length = sn) :
    (1 ≤ cl ∧ cl ≤ 4) ∧ N ≤ 4 ∧ gn ≤ 3 ∧ sn = 3 ∧ (∀ i : Nat, -999999999999 ≤ G[i]?.getD 0 ∧ G[i]?.getD 0 ≤ 999999999999) ∧ (∀ i : Nat, -999999999999 ≤ S[i]?.getD 0 ∧ S[i]?.getD 0 ≤ 999999999999) ∧ ∀ i, i < N → (ss[i]?.getD noL).n ≤ 6 := by
  unfold plnB catB okN trtB at h
  simp only [Bool.and_eq_true, decide_eq_true_eq] at h
  obtain ⟨h1, ⟨h2, h3⟩, ⟨h4, h5⟩, h6, h7, h8⟩ := h
  have a1 := inB_iff.1 h1
  have a2 := inB_iff.1 h2
  have a7 := inB_iff.1 h7
  refine ⟨a1, by omega, by omega, by omega, fun i => ?_, fun i => ?_, fun i hi => ?_⟩
  · by_cases hi : i < G.length
    · rw [List.getElem?_eq_getElem hi]
      unfold betB at h8
      rw [List.all_eq_true] at h8
      have := inB_iff.1 (h8 _ (List.getElem_mem hi))
      simp only [Option.getD_some]
      omega
    · rw [List.getElem?_eq_none (by omega)]; simp
  · by_cases hi : i < S.length
    · rw [List.getElem?_eq_getElem hi]
      unfold allB at h5
      rw [List.all_eq_true] at h5
      have := inB_iff.1 (h5 _ (List.getElem_mem hi))
      simp only [Option.getD_some]
      omega
    · rw [List.getElem?_eq_none (by omega)]; simp
  · rw [List.all_eq_true] at h3
    rw [List.getElem?_eq_getElem (by omega)]
    exact act_small (h3 _ (List.getElem_mem _))
theorem body_len : ∀ (ss : List L2V) (k : Nat), (∀ i, i < ss.length → (ss[i]?.getD noL).x.length ≤ 6) → k ≤ ss.length → (bodyT (ss.take k)).length ≤ 7 * k
  | ss, 0, _, _ => by simp [bodyT]
  | ss, k + 1, h, hk => by
    have ih := body_len ss k h (by omega)
    have := h k (by omega)
    rw [bodyT_step (by omega), List.length_append, actTs, List.length_cons, List.length_map]
    omega
theorem tail_one (z : Int) : tailL [z] = [32] ++ Lib.itoa z := by simp [tailL, Lib.joinTail]
theorem news3 (w : World) (x y z : Value) (t : TypeId) : ∀ j u, [x, y, z][j]? = some u → (w.alloc (.cells #[x, y, z] t)).cell? ((⟨w.heap.size, 0, none⟩ : Addr).add j) = some u := fun j u hu => by
  match j, hu with
  | 0, hu =>
    simp only [List.getElem?_cons_zero, Option.some.injEq] at hu
    subst hu
    simp [Addr.add]
  | 1, hu =>
    simp only [List.getElem?_cons_zero, List.getElem?_cons_succ, Option.some.injEq] at hu
    subst hu
    simp [Addr.add]
  | 2, hu =>
    simp only [List.getElem?_cons_zero, List.getElem?_cons_succ, Option.some.injEq] at hu
    subst hu
    simp [Addr.add]
theorem one3 (x y z : ByteArray) : ∀ u ∈ [Value.string x, .string y, .string z], u.oneCell' = true := fun u hu => by
  simp at hu; rcases hu with rfl | rfl | rfl <;> rfl
theorem l12line_b (x : List UInt8) (a : Option Addr) (n cap : Nat) (zs : List Int) (w : World) (h : Ints w a n zs) (hx : x.length ≤ 100) (hn : n ≤ 20) (hz : ∀ i : Nat, -999999999999 ≤ zs[i]?.getD 0 ∧ zs[i]?.getD 0 ≤ 999999999999) :
    Calls Tryd.prog 17 #[.string ⟨x.toArray⟩, .slice a n cap] w fun e w' => ∃ Y, e = .returned (.string Y) ∧ Y = bT (x ++ tailL zs) ∧ Below w.heap.size w w' := by
  refine (l12line_any x a n cap zs w h hx hn hz).mono ?_
  rintro e w' ⟨rfl, -, b⟩
  exact ⟨_, rfl, rfl, b⟩
theorem JT.low {w WB W : World} {v : Value} {xs : List ByteArray} (j : JT WB v xs W) (b : Below w.heap.size w WB) : JT w v xs W := ⟨b.trans (j.b.mono b.size), j.o.1, by
  rcases j.o.2 with h2 | ⟨g, cap, cur, hv, hg, r⟩
  · exact Or.inl h2
  · exact Or.inr ⟨g, cap, cur, hv, Nat.le_trans b.size hg, r⟩⟩
theorem JT.apps {w W W' : World} {v : Value} {xs ys : List ByteArray} {g cap k m : Nat} {o : Obj} (j : JT w v xs W) (hk : xs.length = k) (hm : ys.length = m) (hown : W'.ownsRow w.heap.size 9 1 (.slice (some ⟨g, 0, none⟩) (k + m) cap) (k + m) (xs.map Value.string ++ ys.map Value.string)) (hg : (W.alloc o).grownBy W' v.ownBlock) :
    JT w (.slice (some ⟨g, 0, none⟩) (k + m) cap) (xs ++ ys) W' := by
  refine ⟨(j.alloc o).b.grown hg (j.alloc o).b.size (fun k hk => ((j.alloc o).o.lt k hk).1), ?_⟩
  rw [List.length_append, hk, hm, List.map_append]
  exact hown
theorem JT.litT (w : World) : JT w (.slice (some ⟨w.heap.size, 0, none⟩) 0 0) [] (w.alloc (.cells #[] 9)) :=
  ⟨(Below.refl _ _).alloc (Nat.le_refl _) _, World.ownsRow_lit w #[] 0 (Nat.le_refl _) (by unfold maxLen; omega) rfl⟩

end Go.Proofs.YtmhhphpihnkfpaaDoor
namespace Go.Proofs.YtmhhphpihnkfpaaDoor
open Go.RowKit
set_option linter.unusedVariables false
set_option maxRecDepth 100000

set_option maxHeartbeats 6400000 in
theorem splnprint_any (cl : Int) (ad : Option Addr) (N cap : Nat) (ss : List L2V) (ga : Option Addr) (gn gc : Nat) (G : List Int) (sa : Option Addr) (sn sc : Nat) (S : List Int) (w : World) (P : PlAt w ad N ss ga gn G sa sn S) :
    Calls Tryd.prog 5 #[plV cl ad N cap ga gn gc sa sn sc] w fun e w' => ∃ v, e = .returned v ∧ JT w v (plnR cl N ss gn G sn S) w' := by
  obtain ⟨i0, hi, hz0, hz1, hz2⟩ := info_parts Tryd.infoStr
  obtain ⟨WB, hWB⟩ : ∃ W, W = w.alloc (.cells #[.int .i64 cl, .slice ad N cap, .slice ga gn gc, .slice sa sn sc] 31) := ⟨_, rfl⟩
  have q0 : BP w w.heap.size [.int .i64 cl, .slice ad N cap, .slice ga gn gc, .slice sa sn sc] 31 WB := by rw [hWB]; exact BP.new w _ _
  have hWBs : WB.heap.size = w.heap.size + 1 := by rw [hWB, World.size_alloc]
  have PB : PlAt WB ad N ss ga gn G sa sn S := P.below q0.b
  have qB : BP WB w.heap.size [.int .i64 cl, .slice ad N cap, .slice ga gn gc, .slice sa sn sc] 31 WB := ⟨q0.p, Below.refl _ _⟩
  have al0 : Below WB.heap.size WB (WB.alloc (.cells #[] 9)) := (Below.refl _ _).alloc (Nat.le_refl _) _
  have j0 := JT.litT WB
  rw [hWBs] at j0
  have n0 := qB.below al0
  have P0 := PB.below al0
  obtain ⟨c0, c1, c2, c3⟩ := n0.p.quadP
  rw [hWB] at c0 c1 c2 c3
  have HN : Hid (ss.length = N) := P.ha
  have HG : Hid (G.length = gn) := P.g.1
  have HS : Hid (S.length = sn) := P.s.1
  have BW := q0.b
  clear P q0
  go_enter Tryd.func5, Tryd.ntmps5
  go_wp2_with fail
  rw [← hWB]
  refine (splnok_any cl ad N cap ss ga gn gc G sa sn sc S _ P0).mono ?_
  rintro e w1 ⟨rfl, b1⟩
  have q1 := n0.below b1
  have j1 := j0.below b1
  have P1 := P0.below b1
  clear n0 j0 P0 c0 c1 c2 c3 hWB
  cases hb : plnB cl N ss gn G sn S
  · have HR : Hid (plnR cl N ss gn G sn S = []) := by show _ = _; rw [plnR, hb]; rfl
    clear hb
    go_wp2
    go_ret
    rw [HR.out]
    exact ⟨_, rfl, j1.low BW⟩
  have HR : Hid (plnR cl N ss gn G sn S = plnT cl ss G S) := by show _ = _; rw [plnR, if_pos hb]
  obtain ⟨⟨l1, l2⟩, hN4, hg3, hs3, hzG, hzS, hn6⟩ := pln_small hb HN.out HG.out HS.out
  have HZG : Hid _ := hzG
  have HZS : Hid _ := hzS
  have H6 : Hid _ := hn6
  have hs4 : sn ≤ 3 := by omega
  have HWBs : Hid (WB.heap.size = w.heap.size + 1) := hWBs
  clear hb hzG hzS hn6 hs3 hWBs
  obtain ⟨I, hI⟩ : ∃ I, I = Lib.itoa cl := ⟨_, rfl⟩
  have HI : Hid (Lib.itoa cl = I) := hI.symm
  obtain ⟨R, hR⟩ : ∃ R, R = bT ([99, 108, 105, 101, 110, 116, 115] ++ tailL [cl]) := ⟨_, rfl⟩
  have HR0 : Hid (R = bT ([99, 108, 105, 101, 110, 116, 115] ++ tailL [cl])) := hR
  have hcat : ∀ X : World, (Op.stringOp .add ⟨#[99, 108, 105, 101, 110, 116, 115, 32]⟩ ⟨I.toArray⟩).run Tryd.prog X = .ok (.string R) X := fun X => by
    have hl := Lib.itoa_length_le cl (by omega) (by omega)
    rw [← hI] at hl
    rw [run_string_add_sum X _ _ (by
      have : (⟨I.toArray⟩ : ByteArray).size = I.length := by simp [ByteArray.size]
      rw [this]
      show 8 + I.length ≤ maxLen
      unfold maxLen; omega), hR, tail_one, ← hI]
    rw [show (⟨#[99, 108, 105, 101, 110, 116, 115, 32]⟩ : ByteArray) = ⟨([99, 108, 105, 101, 110, 116, 115, 32] : List UInt8).toArray⟩ from rfl, cat_str]
    rfl
  clear hI hR
  go_upto_region 4 with fail
  refine wp_region_ends (fun X => X.cell? ⟨w.heap.size, 0, none⟩ = some (.int .i64 cl) ∧ X.cell? ⟨w.heap.size, 1, none⟩ = some (.slice ad N cap) ∧ X.cell? ⟨w.heap.size, 2, none⟩ = some (.slice ga gn gc) ∧ X.cell? ⟨w.heap.size, 3, none⟩ = some (.slice sa sn sc)) (fun _ => True) 13 (by kernel_rfl) ?_
  have dr : Below w1.heap.size w1 w1.drew := (Below.refl _ _).drew
  replace q1 := q1.below dr
  replace j1 := j1.below dr
  replace P1 := P1.below dr
  obtain ⟨V, hV⟩ : ∃ V, V = w1.drew := ⟨_, rfl⟩
  rw [← hV] at q1 j1 P1 ⊢
  clear hV dr
  obtain ⟨c0, c1, c2, c3⟩ := q1.p.quadP
  have hSS : (fun X : World => X.cell? ⟨w.heap.size, 0, none⟩ = some (.int .i64 cl) ∧ X.cell? ⟨w.heap.size, 1, none⟩ = some (.slice ad N cap) ∧ X.cell? ⟨w.heap.size, 2, none⟩ = some (.slice ga gn gc) ∧ X.cell? ⟨w.heap.size, 3, none⟩ = some (.slice sa sn sc)) V ∧ True := ⟨⟨c0, c1, c2, c3⟩, trivial⟩
  refine tkL (i := 0) rfl hSS ?_
  refine tkL (i := 1) rfl hSS ?_
  refine tkL (i := 2) rfl hSS ?_
  refine tkL (i := 5) rfl hSS ?_
  simp only [Act.put, List.setIfInBounds_toArray, List.set_cons_succ, List.set_cons_zero, List.getElem_toArray, List.getElem_cons_succ, List.getElem_cons_zero]
  refine tkL (i := 6) rfl hSS ?_
  refine tkL (i := 8) rfl hSS ?_
  refine tkL (i := 9) rfl hSS ?_
  simp only [Act.put, List.setIfInBounds_toArray, List.set_cons_succ, List.set_cons_zero, List.getElem_toArray, List.getElem_cons_succ, List.getElem_cons_zero]
  clear c0 c1 c2 c3
  refine wpAnyE_one (i := 3) (by kernel_rfl) rfl (fun Kn hK => ?_)
  go_simp
  refine (digits_any cl _ (by omega) (by omega)).mono ?_
  rintro e w2 ⟨rfl, b2⟩
  rw [HI.out]
  replace q1 := q1.below b2
  replace j1 := j1.below b2
  replace P1 := P1.below b2
  clear hSS b2
  obtain ⟨c0, c1, c2, c3⟩ := q1.p.quadP
  have hSS : (fun X : World => X.cell? ⟨w.heap.size, 0, none⟩ = some (.int .i64 cl) ∧ X.cell? ⟨w.heap.size, 1, none⟩ = some (.slice ad N cap) ∧ X.cell? ⟨w.heap.size, 2, none⟩ = some (.slice ga gn gc) ∧ X.cell? ⟨w.heap.size, 3, none⟩ = some (.slice sa sn sc)) w2 ∧ True := ⟨⟨c0, c1, c2, c3⟩, trivial⟩
  (try dsimp only)
  refine hK.out _ _ ⟨hSS.1, fun _ => trivial⟩ ?_
  clear hK Kn
  (try simp only [Act.put, List.setIfInBounds_toArray, List.set_cons_succ, List.set_cons_zero, List.getElem_toArray, List.getElem_cons_succ, List.getElem_cons_zero])
  refine tkL (i := 4) rfl hSS ?_
  clear c0 c1 c2 c3
  refine wpAnyE_one (i := 7) (by kernel_rfl) rfl (fun Kn hK => ?_)
  go_simp
  rw [show (⟨#[103, 105, 118, 101, 115]⟩ : ByteArray) = ⟨([103, 105, 118, 101, 115] : List UInt8).toArray⟩ from rfl]
  refine (l12line_b [103, 105, 118, 101, 115] _ _ _ G _ P1.g (by decide) (by omega) HZG.out).mono ?_
  rintro e w3 ⟨GV, rfl, hGV, b3⟩
  have HGV : Hid _ := hGV
  clear hGV
  replace q1 := q1.below b3
  replace j1 := j1.below b3
  replace P1 := P1.below b3
  clear hSS b3
  obtain ⟨c0, c1, c2, c3⟩ := q1.p.quadP
  have hSS : (fun X : World => X.cell? ⟨w.heap.size, 0, none⟩ = some (.int .i64 cl) ∧ X.cell? ⟨w.heap.size, 1, none⟩ = some (.slice ad N cap) ∧ X.cell? ⟨w.heap.size, 2, none⟩ = some (.slice ga gn gc) ∧ X.cell? ⟨w.heap.size, 3, none⟩ = some (.slice sa sn sc)) w3 ∧ True := ⟨⟨c0, c1, c2, c3⟩, trivial⟩
  (try dsimp only)
  refine hK.out _ _ ⟨hSS.1, fun _ => trivial⟩ ?_
  clear hK Kn
  (try simp only [Act.put, List.setIfInBounds_toArray, List.set_cons_succ, List.set_cons_zero, List.getElem_toArray, List.getElem_cons_succ, List.getElem_cons_zero])
  clear c0 c1 c2 c3
  refine wpAnyE_one (i := 10) (by kernel_rfl) rfl (fun Kn hK => ?_)
  go_simp
  rw [show (⟨#[115, 116, 97, 114, 116]⟩ : ByteArray) = ⟨([115, 116, 97, 114, 116] : List UInt8).toArray⟩ from rfl]
  refine (l12line_b [115, 116, 97, 114, 116] _ _ _ S _ P1.s (by decide) (by omega) HZS.out).mono ?_
  rintro e w4 ⟨SV, rfl, hSV, b3⟩
  have HSV : Hid _ := hSV
  clear hSV
  replace q1 := q1.below b3
  replace j1 := j1.below b3
  replace P1 := P1.below b3
  clear hSS b3
  obtain ⟨c0, c1, c2, c3⟩ := q1.p.quadP
  have hSS : (fun X : World => X.cell? ⟨w.heap.size, 0, none⟩ = some (.int .i64 cl) ∧ X.cell? ⟨w.heap.size, 1, none⟩ = some (.slice ad N cap) ∧ X.cell? ⟨w.heap.size, 2, none⟩ = some (.slice ga gn gc) ∧ X.cell? ⟨w.heap.size, 3, none⟩ = some (.slice sa sn sc)) w4 ∧ True := ⟨⟨c0, c1, c2, c3⟩, trivial⟩
  (try dsimp only)
  refine hK.out _ _ ⟨hSS.1, fun _ => trivial⟩ ?_
  clear hK Kn
  (try simp only [Act.put, List.setIfInBounds_toArray, List.set_cons_succ, List.set_cons_zero, List.getElem_toArray, List.getElem_cons_succ, List.getElem_cons_zero])
  clear c0 c1 c2 c3
  refine wpAnyE_one (i := 11) (by kernel_rfl) rfl (fun Kn hK => ?_)
  go_simp
  obtain ⟨W5, hW5⟩ : ∃ W, W = w4.alloc (.cells #[.string R, .string GV, .string SV] 9) := ⟨_, rfl⟩
  have al : Below w4.heap.size w4 W5 := by rw [hW5]; exact (Below.refl _ _).alloc (Nat.le_refl _) _
  have jo : W5.ownsRow WB.heap.size 9 1 (.slice (some ⟨w.heap.size + 1, 0, none⟩) 0 0) 0 [] := by rw [hW5]; exact j1.o.alloc _
  have nw : ∀ j u, ([.string R, .string GV, .string SV] : List Value)[j]? = some u → W5.cell? ((⟨w4.heap.size, 0, none⟩ : Addr).add j) = some u := by rw [hW5]; exact news3 _ _ _ _ _
  rw [← hW5]
  have z4 : WB.heap.size ≤ W5.heap.size := Nat.le_trans j1.b.size al.size
  have q2 := q1.below al
  clear hSS
  obtain ⟨c0, c1, c2, c3⟩ := q2.p.quadP
  have hSS : (fun X : World => X.cell? ⟨w.heap.size, 0, none⟩ = some (.int .i64 cl) ∧ X.cell? ⟨w.heap.size, 1, none⟩ = some (.slice ad N cap) ∧ X.cell? ⟨w.heap.size, 2, none⟩ = some (.slice ga gn gc) ∧ X.cell? ⟨w.heap.size, 3, none⟩ = some (.slice sa sn sc)) W5 ∧ True := ⟨⟨c0, c1, c2, c3⟩, trivial⟩
  (try dsimp only)
  refine hK.out _ _ ⟨hSS.1, fun _ => trivial⟩ ?_
  clear hK Kn
  (try simp only [Act.put, List.setIfInBounds_toArray, List.set_cons_succ, List.set_cons_zero, List.getElem_toArray, List.getElem_cons_succ, List.getElem_cons_zero])
  refine wpAnyE_one (i := 12) (by kernel_rfl) rfl (fun Kn hK => ?_)
  rw [if_pos (by rfl)]
  refine wp_append_lies _ (.tmp 11) (.tmp 22) 27 rfl WB.heap.size 9 i0 (.string ⟨#[]⟩) 1 16 Tryd.underlying27 hi hz0 hz1 hz2 rfl (by omega) (.slice (some ⟨w.heap.size + 1, 0, none⟩) 0 0) 0 [] (by rfl) jo ⟨w4.heap.size, 0, none⟩ 3 3 [.string R, .string GV, .string SV] (by rfl) rfl nw (one3 _ _ _) (by omega) (by unfold maxLen; omega) (by omega) z4 _ rfl ?_
  intro g cp w5 hown hgrow hat hlt
  have j5 : JT WB (.slice (some ⟨g, 0, none⟩) 3 cp) (headT cl G S) w5 := by
    rw [hW5] at hgrow
    have := JT.apps (ys := [R, GV, SV]) j1 rfl rfl hown hgrow
    rw [HR0.out, HGV.out, HSV.out] at this
    exact this
  have bg : Below WB.heap.size WB w5 := j5.b
  have q5 := qB.below bg
  have P5 := PB.below bg
  clear hSS
  obtain ⟨c0, c1, c2, c3⟩ := q5.p.quadP
  have hSS : (fun X : World => X.cell? ⟨w.heap.size, 0, none⟩ = some (.int .i64 cl) ∧ X.cell? ⟨w.heap.size, 1, none⟩ = some (.slice ad N cap) ∧ X.cell? ⟨w.heap.size, 2, none⟩ = some (.slice ga gn gc) ∧ X.cell? ⟨w.heap.size, 3, none⟩ = some (.slice sa sn sc)) w5 ∧ True := ⟨⟨c0, c1, c2, c3⟩, trivial⟩
  (try dsimp only)
  refine hK.out _ _ ⟨hSS.1, fun _ => trivial⟩ ?_
  clear hK Kn
  (try simp only [Act.put, List.setIfInBounds_toArray, List.set_cons_succ, List.set_cons_zero, List.getElem_toArray, List.getElem_cons_succ, List.getElem_cons_zero])
  refine wpAnyE_one (i := 13) (by kernel_rfl) rfl (fun Kn hK => ?_)
  go_simp
  (try dsimp only)
  refine hK.out _ _ ⟨hSS.1, fun _ => trivial⟩ ?_
  clear hK Kn
  (try simp only [Act.put, List.setIfInBounds_toArray, List.set_cons_succ, List.set_cons_zero, List.getElem_toArray, List.getElem_cons_succ, List.getElem_cons_zero])
  refine wpAnyE_done (by kernel_rfl) ?_ _
  clear hSS q2 q1 j1 P1 al jo nw hown hgrow hat hlt c0 c1 c2 c3 hW5
  go_wp2_with fail
  go_loopw [3, 4] (fun v i wr => ∃ (k : Nat) (xs : List ByteArray), k ≤ N ∧ i = .int .i64 k ∧ xs = headT cl G S ++ bodyT (ss.take k) ∧ JT WB v xs wr) (fun _ i _ => N - (intOf i).toNat)
  case atStart => exact ⟨0, _, Nat.zero_le _, rfl, by simp [bodyT], j5⟩
  case round =>
    obtain ⟨k, xs, hk, rfl, hxs, j⟩ := hrel
    have HX : Hid _ := hxs
    have hxl : xs.length ≤ 31 := by
      have hk6 : ∀ i, i < ss.length → (ss[i]?.getD noL).x.length ≤ 6 := fun i hi => by
        have h1 := H6.out i (by have := HN.out; omega)
        obtain ⟨_, _, _, _, hLG⟩ := PB.a i hi
        rw [hLG.1]; exact h1
      have := body_len ss k hk6 (by have := HN.out; omega)
      rw [hxs, List.length_append]
      simp only [headT, List.length_cons, List.length_nil]
      omega
    clear hxs q5 P5 j5
    have qk := qB.below j.b
    obtain ⟨c0, c1, c2, c3⟩ := qk.p.quadP
    by_cases hlt : k < N
    · obtain ⟨ab, ao, rfl, hac, hLG⟩ := PB.a k (by rw [HN.out]; exact hlt)
      have HB : Hid (bodyT (ss.take (k + 1)) = bodyT (ss.take k) ++ actTs (ss[k]?.getD noL)) := bodyT_step (by rw [HN.out]; exact hlt)
      have h6 := H6.out k hlt
      generalize HSK : ss[k]?.getD noL = s at *
      obtain ⟨xa, xn, xc, xl⟩ := s
      have hacv : WB.cell? ⟨ab, ao + k, none⟩ = some (.slice xa xn xc) := hac
      have habs := block_lt hacv
      have hak : wr.cell? ⟨ab, ao + k, none⟩ = some (.slice xa xn xc) := (j.b.cell (p := ⟨ab, ao + k, none⟩) habs).trans hacv
      have hxn : xn ≤ 6 := h6
      have hLX : Hid (xl.length = xn) := hLG.1
      have hLL : Hid (LinesG WB xa xl) := hLG.2.1
      clear HSK hac hLG h6
      obtain ⟨m, hm⟩ : ∃ m, xs.length = m := ⟨_, rfl⟩
      have HM : Hid _ := hm
      have jo := j.o
      rw [hm] at hxl jo
      clear hm
      have zw := j.b.size
      go_wp2_with (at_builtin; go_must (refine wpList_append_lies _ rfl (.tmp 31) (.tmp 32) 27 rfl WB.heap.size 9 i0 (.string ⟨#[]⟩) 1 16 Tryd.underlying27 hi hz0 hz1 hz2 rfl (by decide) _ _ _ rfl (jo.alloc _) ⟨wr.heap.size, 0, none⟩ 1 1 [.string ⟨#[97, 99, 116]⟩] rfl rfl (newsS _ _ _) (oneS _) (by omega) (by unfold maxLen; omega) (by omega) (by rw [World.size_alloc]; omega) _ rfl ?_); intro gg cp w6 hown hgrow hat hlt1)
      have j6 : JT WB (.slice (some ⟨gg, 0, none⟩) (m + 1) cp) (xs ++ [bT [97, 99, 116]]) w6 := j.app HM.out hown hgrow
      clear hown hgrow hat jo j hak qk c0 c1 c2 c3
      obtain ⟨x6, hx6⟩ : ∃ x, x = xs ++ [bT [97, 99, 116]] := ⟨_, rfl⟩
      have HX6 : Hid _ := hx6
      rw [← hx6] at j6
      have hl6 : x6.length = m + 1 := by rw [hx6, List.length_append, HM.out]; rfl
      clear hx6
      go_wp2_with fail
      go_loopw [3, 5] (fun v i wr => ∃ (q : Nat) (ys : List ByteArray), q ≤ xn ∧ i = .int .i64 q ∧ ys = x6 ++ (xl.take q).map lineT ∧ ys.length = m + 1 + q ∧ JT WB v ys wr) (fun _ i _ => xn - (intOf i).toNat)
      case atStart => exact ⟨0, x6, Nat.zero_le _, rfl, by simp, by omega, j6⟩
      case round =>
        obtain ⟨q, ys, hq, rfl, hys, hyl, j⟩ := hrel
        have HY : Hid _ := hys
        have HYL : Hid _ := hyl
        clear hys
        have qk := qB.below j.b
        obtain ⟨c0, c1, c2, c3⟩ := qk.p.quadP
        have hak : wr.cell? ⟨ab, ao + k, none⟩ = some (.slice xa xn xc) := (j.b.cell (p := ⟨ab, ao + k, none⟩) habs).trans hacv
        by_cases hqt : q < xn
        · have HLS : Hid _ := lines_step (ls := xl) (j := q) (by rw [hLX.out]; exact hqt)
          obtain ⟨b, off, rfl, hc, hAt⟩ := (hLL.out.below j.b) q (by rw [hLX.out]; exact hqt)
          generalize HG : xl[q]?.getD noLV = gl at *
          clear HG
          obtain ⟨e0, e1, e2, e3, e4, e5⟩ := six_of hc
          clear hc
          obtain ⟨gk, gp, gz, ⟨fa, fn, fcap, fc, fm, fcap', fK, fC, fD⟩⟩ := gl
          obtain ⟨iC, iD, hn, hm⟩ := hAt
          simp only at e0 e1 e2 e3 e4 e5 iC iD hn hm
          go_wp2_with fail
          refine (satext_any gk gp gz fa fn fcap fc fm fcap' fK fC fD _ iC iD hn hm).mono ?_
          rintro e w7 ⟨rfl, b7⟩
          have j7 := j.below b7
          have jo := j7.o
          rw [HYL.out] at jo
          have zw7 := j7.b.size
          obtain ⟨T, hT⟩ : ∃ T : ByteArray, T = ⟨(actText (gk, gp, gz, fC, fD, fK)).toArray⟩ := ⟨_, rfl⟩
          rw [← hT]
          have HT : Hid (lineT ⟨gk, gp, gz, ⟨fa, fn, fcap, fc, fm, fcap', fK, fC, fD⟩⟩ = T) := hT.symm
          clear hT e0 e1 e2 e3 e4 e5 iC iD c0 c1 c2 c3 hak qk j
          go_wp2_with (at_builtin; go_must (refine wpList_append_lies _ rfl (.tmp 44) (.tmp 54) 27 rfl WB.heap.size 9 i0 (.string ⟨#[]⟩) 1 16 Tryd.underlying27 hi hz0 hz1 hz2 rfl (by decide) _ _ _ rfl (jo.alloc _) ⟨w7.heap.size, 0, none⟩ 1 1 [.string T] rfl rfl (newsS _ _ _) (oneS _) (by omega) (by unfold maxLen; omega) (by omega) (by rw [World.size_alloc]; omega) _ rfl ?_); intro g8 c8 w8 hown hgrow hat hlt1)
          have j8 : JT WB (.slice (some ⟨g8, 0, none⟩) (m + 1 + q + 1) c8) (ys ++ [T]) w8 := j7.app HYL.out hown hgrow
          clear hown hgrow hat jo j7
          go_wp2
          go_roundw
          case rel => exact ⟨q + 1, _, by omega, by go_num, by rw [HLS.out, HT.out, ← List.append_assoc, ← HY.out], by rw [List.length_append, HYL.out]; rfl, j8⟩
          case measure => simp [intOf]; omega
        · have hqe : q = xn := by omega
          have HF : Hid (ys = headT cl G S ++ bodyT (ss.take (k + 1))) := by
            show _ = _
            have e1 : xl.take q = xl := List.take_of_length_le (by rw [hLX.out]; omega)
            rw [HY.out, e1, HX6.out, HX.out, HB.out, actTs]
            simp
          clear hqe
          go_wp2
          go_roundw
          case rel => exact ⟨k + 1, ys, by omega, by go_num, HF.out, j⟩
          case measure => simp [intOf]; omega
    · have hke : k = N := by omega
      have HF : Hid (xs = plnR cl N ss gn G sn S) := by
        show _ = _
        rw [HR.out, HX.out, plnT, List.take_of_length_le (by have := HN.out; omega)]
      clear hke
      go_wp2
      go_ret
      have jf := j.low BW
      rw [HF.out] at jf
      exact ⟨_, rfl, jf⟩

end Go.Proofs.YtmhhphpihnkfpaaDoor
namespace Go.Proofs.YtmhhphpihnkfpaaDoor
open Go.RowKit
set_option linter.unusedVariables false
set_option maxRecDepth 100000

theorem Tryd.textTest (v : Value) (w : World) : (Go.method 248 95 v "loop.example/concord/impl.text").run Tryd.prog w = .ok (103, v) w := by kernel_rfl
theorem Tryd.textAdd (v : Value) (w : World) : (Go.method 248 98 v "loop.example/concord/impl.text").run Tryd.prog w = .ok (104, v) w := by kernel_rfl
theorem Tryd.textPrint (v : Value) (w : World) : (Go.method 248 100 v "loop.example/concord/impl.text").run Tryd.prog w = .ok (105, v) w := by kernel_rfl
theorem Tryd.textStop (v : Value) (w : World) : (Go.method 248 102 v "loop.example/concord/impl.text").run Tryd.prog w = .ok (106, v) w := by kernel_rfl

set_option maxHeartbeats 6400000 in
theorem itest_text (skip : Int) (a : Option Addr) (cap : Nat) (c : Option Addr) (cap' : Nat) (K : Int) (C D : List Int) (w : World) (hC : Ints w a 3 C) (hD : Ints w c 2 D) (hs : smallB 3 2 C D K = true) (y1 : -10 ≤ skip) (y2 : skip ≤ 10) (hT : Lib.TabBelow Tryd.prog w.heap.size w "internal/strconv.uint64pow10" .u64 Lib.pow10Tab) :
    Calls Tryd.prog 103 #[.agg #[.int .i64 skip, .slice a 3 cap, .slice c 2 cap', .int .i64 K]] w fun e w' => e = .returned (.string ⟨(testW ++ 32 :: (Lib.itoa skip ++ 32 :: formText 3 2 C D K)).toArray⟩) ∧ Below w.heap.size w w' := by
  have HTB : Hid _ := hT
  clear hT
  obtain ⟨-, -, bC, bD, bK1, bK2⟩ := small_bnd hs
  have BC : Hid _ := bC
  have BD : Hid _ := bD
  obtain ⟨F, hF⟩ : ∃ F, F = formText 3 2 C D K := ⟨_, rfl⟩
  have hFl : F.length ≤ 400 := by rw [hF]; exact form_len hs
  have HF : Hid (spaced (timesL 120 C 3 ++ timesL 97 D 2) ++ Lib.itoa K = F) := by show _ = _; rw [hF, formText_yes (small_ok hs)]
  have HAT : Hid (testW ++ 32 :: (Lib.itoa skip ++ 32 :: formText 3 2 C D K) = testW ++ 32 :: (Lib.itoa skip ++ 32 :: F)) := by show _ = _; rw [hF]
  clear hF hs bC bD
  have l1 := Lib.itoa_length_le skip (by omega) (by omega)
  obtain ⟨T1, e1⟩ : ∃ T : ByteArray, T = ⟨(Lib.itoa skip).toArray⟩ := ⟨_, rfl⟩
  have s1 : T1.size ≤ 21 := by rw [e1]; simpa [ByteArray.size] using l1
  have E1 : Hid _ := e1
  clear l1 e1
  obtain ⟨T2, e2⟩ : ∃ T : ByteArray, T = ⟨F.toArray⟩ := ⟨_, rfl⟩
  have s2 : T2.size ≤ 400 := by rw [e2]; simpa [ByteArray.size] using hFl
  have E2 : Hid _ := e2
  clear e2
  obtain ⟨R1, hR1⟩ : ∃ R : ByteArray, R = (⟨#[116, 101, 115, 116, 32]⟩ : ByteArray) ++ (T1 : ByteArray) := ⟨_, rfl⟩
  have z1 : R1.size ≤ 50 := by rw [hR1, ByteArray.size_append]; first | omega | (have := (show (⟨#[116, 101, 115, 116, 32]⟩ : ByteArray).size ≤ 5 by decide); omega)
  have A1 : ∀ X : World, (Op.stringOp .add (⟨#[116, 101, 115, 116, 32]⟩ : ByteArray) (T1 : ByteArray)).run Tryd.prog X = .ok (.string R1) X := fun X => by rw [hR1]; exact run_string_add_sum X _ _ (by rw [← ByteArray.size_append, ← hR1]; omega)
  have HR1 : Hid _ := hR1
  clear hR1
  obtain ⟨R2, hR2⟩ : ∃ R : ByteArray, R = (R1 : ByteArray) ++ (⟨#[32]⟩ : ByteArray) := ⟨_, rfl⟩
  have z2 : R2.size ≤ 60 := by rw [hR2, ByteArray.size_append]; first | omega | (have := (show (⟨#[32]⟩ : ByteArray).size ≤ 5 by decide); omega)
  have A2 : ∀ X : World, (Op.stringOp .add (R1 : ByteArray) (⟨#[32]⟩ : ByteArray)).run Tryd.prog X = .ok (.string R2) X := fun X => by rw [hR2]; exact run_string_add_sum X _ _ (by rw [← ByteArray.size_append, ← hR2]; omega)
  have HR2 : Hid _ := hR2
  clear hR2
  obtain ⟨R3, hR3⟩ : ∃ R : ByteArray, R = (R2 : ByteArray) ++ (T2 : ByteArray) := ⟨_, rfl⟩
  have z3 : R3.size ≤ 470 := by rw [hR3, ByteArray.size_append]; first | omega | (have := (show (T2 : ByteArray).size ≤ 5 by decide); omega)
  have A3 : ∀ X : World, (Op.stringOp .add (R2 : ByteArray) (T2 : ByteArray)).run Tryd.prog X = .ok (.string R3) X := fun X => by rw [hR3]; exact run_string_add_sum X _ _ (by rw [← ByteArray.size_append, ← hR3]; omega)
  have HR3 : Hid _ := hR3
  clear hR3
  go_enter Tryd.func103, Tryd.ntmps103
  go_upto_region 1 with fail
  obtain ⟨W, hW⟩ : ∃ W, W = w.alloc (.cells #[.int .i64 skip, .slice a 3 cap, .slice c 2 cap', .int .i64 K] 95) := ⟨_, rfl⟩
  have q_1 := Cel.new w [.int .i64 skip, .slice a 3 cap, .slice c 2 cap', .int .i64 K] 95
  have B_1 := (Below.refl w.heap.size w).alloc (Nat.le_refl _) (.cells #[.int .i64 skip, .slice a 3 cap, .slice c 2 cap', .int .i64 K] 95)
  rw [← hW] at q_1 B_1 ⊢
  clear hW
  have CC : Hid (∀ X : World, Cel X w.heap.size [.int .i64 skip, .slice a 3 cap, .slice c 2 cap', .int .i64 K] 95 → X.cell? ⟨w.heap.size, 0, none⟩ = some (.int .i64 skip) ∧ X.cell? ⟨w.heap.size, 1, none⟩ = some (.slice a 3 cap) ∧ X.cell? ⟨w.heap.size, 2, none⟩ = some (.slice c 2 cap') ∧ X.cell? ⟨w.heap.size, 3, none⟩ = some (.int .i64 K)) := fun X h => ⟨h.cell 0, h.cell 1, h.cell 2, h.cell 3⟩
  have hS0 : (W.drew.cell? ⟨w.heap.size, 0, none⟩ = some (.int .i64 skip) ∧ W.drew.cell? ⟨w.heap.size, 1, none⟩ = some (.slice a 3 cap) ∧ W.drew.cell? ⟨w.heap.size, 2, none⟩ = some (.slice c 2 cap') ∧ W.drew.cell? ⟨w.heap.size, 3, none⟩ = some (.int .i64 K)) ∧ True := ⟨CC.out _ q_1, trivial⟩
  refine wp_region_ends (fun X => X.cell? ⟨w.heap.size, 0, none⟩ = some (.int .i64 skip) ∧ X.cell? ⟨w.heap.size, 1, none⟩ = some (.slice a 3 cap) ∧ X.cell? ⟨w.heap.size, 2, none⟩ = some (.slice c 2 cap') ∧ X.cell? ⟨w.heap.size, 3, none⟩ = some (.int .i64 K)) (fun _ => True) 9 (by kernel_rfl) ?_
  refine wpAnyE_take0 (i := 0) (v := ?t0v0) rfl (by kernel_rfl) (by kernel_rfl) (by kernel_rfl) (by decide) (fun _ _ _ h => h) (Or.inl ⟨by rfl, ?t0hy0⟩) hS0 ?_
  case t0hy0 => (intro wz hSw; (try dsimp only at hSw); go_simp; try (with_reducible rfl))
  refine wpAnyE_take0 (i := 1) (v := ?t0v1) rfl (by kernel_rfl) (by kernel_rfl) (by kernel_rfl) (by decide) (fun _ _ _ h => h) (Or.inl ⟨by rfl, ?t0hy1⟩) hS0 ?_
  case t0hy1 => (intro wz hSw; (try dsimp only at hSw); go_simp; try (with_reducible rfl))
  refine wpAnyE_take0 (i := 5) (v := ?t0v5) rfl (by kernel_rfl) (by kernel_rfl) (by kernel_rfl) (by decide) (fun _ _ _ h => h) (Or.inl ⟨by rfl, ?t0hy5⟩) hS0 ?_
  case t0hy5 => (intro wz hSw; (try dsimp only at hSw); go_simp; try (with_reducible rfl))
  refine wpAnyE_take0 (i := 6) (v := ?t0v6) rfl (by kernel_rfl) (by kernel_rfl) (by kernel_rfl) (by decide) (fun _ _ _ h => h) (Or.inl ⟨by rfl, ?t0hy6⟩) hS0 ?_
  case t0hy6 => (intro wz hSw; (try dsimp only at hSw); go_simp; try (with_reducible rfl))
  refine wpAnyE_one (i := 2) (by kernel_rfl) rfl (fun Kn hK => ?_)
  go_simp
  refine (Tryd.strconv_Itoa skip (by omega) (by omega) _ (HTB.out _ (by exact Below.drew B_1))).mono ?_
  rintro ee w2 ⟨rfl, qq, os, hw2⟩
  rw [← E1.out]
  have bd_2 : Below W.drew.heap.size W.drew w2 := by rw [hw2]; exact Lib.below_grow _ _ (Nat.le_refl _) _ _
  clear hw2
  have b_2 := below_of_drew bd_2
  have B_2 := B_1.trans (b_2.mono B_1.size)
  have q_2 := q_1.below b_2
  have hS2 : (w2.cell? ⟨w.heap.size, 0, none⟩ = some (.int .i64 skip) ∧ w2.cell? ⟨w.heap.size, 1, none⟩ = some (.slice a 3 cap) ∧ w2.cell? ⟨w.heap.size, 2, none⟩ = some (.slice c 2 cap') ∧ w2.cell? ⟨w.heap.size, 3, none⟩ = some (.int .i64 K)) ∧ True := ⟨CC.out _ q_2, trivial⟩
  dsimp only
  refine hK.out _ _ ⟨hS2.1, fun _ => trivial⟩ ?_
  clear hK hS0
  refine wpAnyE_take0 (i := 3) (v := .string R1) rfl (by kernel_rfl) (by kernel_rfl) (by kernel_rfl) (by decide) (fun _ _ _ h => h) (Or.inl ⟨by rfl, ?t0hy3⟩) hS2 ?_
  case t0hy3 => (intro wz hSw; (try dsimp only at hSw); first | (go_simp; try (with_reducible rfl); done) | (simp only [go_sem, A1]; done) | (go_simp; exact A1 _) | (simp [go_sem, A1]; done) | skip)
  refine wpAnyE_take0 (i := 4) (v := .string R2) rfl (by kernel_rfl) (by kernel_rfl) (by kernel_rfl) (by decide) (fun _ _ _ h => h) (Or.inl ⟨by rfl, ?t0hy4⟩) hS2 ?_
  case t0hy4 => (intro wz hSw; (try dsimp only at hSw); first | (go_simp; try (with_reducible rfl); done) | (simp only [go_sem, A2]; done) | (go_simp; exact A2 _) | (simp [go_sem, A2]; done) | skip)
  refine wpAnyE_one (i := 7) (by kernel_rfl) rfl (fun Kn hK => ?_)
  go_simp
  refine (text_any _ _ _ _ _ C D _ (hC.below B_2) (hD.below B_2) BC.out BD.out (by omega) (by omega) (fun w' h' => HTB.out w' (B_2.trans (h'.mono B_2.size)))).mono ?_
  rintro ee w3 ⟨rfl, b_3⟩
  rw [HF.out, ← E2.out]
  have B_3 := B_2.trans (b_3.mono B_2.size)
  have q_3 := q_2.below b_3
  have hS3 : (w3.cell? ⟨w.heap.size, 0, none⟩ = some (.int .i64 skip) ∧ w3.cell? ⟨w.heap.size, 1, none⟩ = some (.slice a 3 cap) ∧ w3.cell? ⟨w.heap.size, 2, none⟩ = some (.slice c 2 cap') ∧ w3.cell? ⟨w.heap.size, 3, none⟩ = some (.int .i64 K)) ∧ True := ⟨CC.out _ q_3, trivial⟩
  dsimp only
  refine hK.out _ _ ⟨hS3.1, fun _ => trivial⟩ ?_
  clear hK hS2
  refine wpAnyE_take0 (i := 8) (v := .string R3) rfl (by kernel_rfl) (by kernel_rfl) (by kernel_rfl) (by decide) (fun _ _ _ h => h) (Or.inl ⟨by rfl, ?t0hy8⟩) hS3 ?_
  case t0hy8 => (intro wz hSw; (try dsimp only at hSw); first | (go_simp; try (with_reducible rfl); done) | (simp only [go_sem, A3]; done) | (go_simp; exact A3 _) | (simp [go_sem, A3]; done) | skip)
  refine wpAnyE_one (i := 9) (by kernel_rfl) rfl (fun Kn hK => ?_)
  go_simp
  refine hK.out _ _ ⟨hS3.1, fun _ => trivial⟩ ?_
  clear hK
  refine wpAnyE_done (by kernel_rfl) ?_ _
  clear hS3
  go_wp2
  go_ret
  refine ⟨?_, B_3⟩
  rw [HAT.out]
  have : R3 = ⟨(testW ++ 32 :: (Lib.itoa skip ++ 32 :: F)).toArray⟩ := by
    rw [HR3.out, HR2.out, HR1.out, E1.out, E2.out, show (⟨#[116, 101, 115, 116, 32]⟩ : ByteArray) = ⟨(testW ++ [32]).toArray⟩ from rfl, show (⟨#[32]⟩ : ByteArray) = ⟨[32].toArray⟩ from rfl]
    simp [cat_str, List.append_assoc]
  rw [← this]
  rfl

set_option maxHeartbeats 6400000 in
theorem iadd_text (pot : Int) (a : Option Addr) (cap : Nat) (c : Option Addr) (cap' : Nat) (K : Int) (C D : List Int) (w : World) (hC : Ints w a 3 C) (hD : Ints w c 2 D) (hs : smallB 3 2 C D K = true) (y1 : -10 ≤ pot) (y2 : pot ≤ 10) (hT : Lib.TabBelow Tryd.prog w.heap.size w "internal/strconv.uint64pow10" .u64 Lib.pow10Tab) :
    Calls Tryd.prog 104 #[.agg #[.int .i64 pot, .slice a 3 cap, .slice c 2 cap', .int .i64 K]] w fun e w' => e = .returned (.string ⟨(addW ++ 32 :: (Lib.itoa pot ++ 32 :: formText 3 2 C D K)).toArray⟩) ∧ Below w.heap.size w w' := by
  have HTB : Hid _ := hT
  clear hT
  obtain ⟨-, -, bC, bD, bK1, bK2⟩ := small_bnd hs
  have BC : Hid _ := bC
  have BD : Hid _ := bD
  obtain ⟨F, hF⟩ : ∃ F, F = formText 3 2 C D K := ⟨_, rfl⟩
  have hFl : F.length ≤ 400 := by rw [hF]; exact form_len hs
  have HF : Hid (spaced (timesL 120 C 3 ++ timesL 97 D 2) ++ Lib.itoa K = F) := by show _ = _; rw [hF, formText_yes (small_ok hs)]
  have HAT : Hid (addW ++ 32 :: (Lib.itoa pot ++ 32 :: formText 3 2 C D K) = addW ++ 32 :: (Lib.itoa pot ++ 32 :: F)) := by show _ = _; rw [hF]
  clear hF hs bC bD
  have l1 := Lib.itoa_length_le pot (by omega) (by omega)
  obtain ⟨T1, e1⟩ : ∃ T : ByteArray, T = ⟨(Lib.itoa pot).toArray⟩ := ⟨_, rfl⟩
  have s1 : T1.size ≤ 21 := by rw [e1]; simpa [ByteArray.size] using l1
  have E1 : Hid _ := e1
  clear l1 e1
  obtain ⟨T2, e2⟩ : ∃ T : ByteArray, T = ⟨F.toArray⟩ := ⟨_, rfl⟩
  have s2 : T2.size ≤ 400 := by rw [e2]; simpa [ByteArray.size] using hFl
  have E2 : Hid _ := e2
  clear e2
  obtain ⟨R1, hR1⟩ : ∃ R : ByteArray, R = (⟨#[97, 100, 100, 32]⟩ : ByteArray) ++ (T1 : ByteArray) := ⟨_, rfl⟩
  have z1 : R1.size ≤ 50 := by rw [hR1, ByteArray.size_append]; first | omega | (have := (show (⟨#[97, 100, 100, 32]⟩ : ByteArray).size ≤ 5 by decide); omega)
  have A1 : ∀ X : World, (Op.stringOp .add (⟨#[97, 100, 100, 32]⟩ : ByteArray) (T1 : ByteArray)).run Tryd.prog X = .ok (.string R1) X := fun X => by rw [hR1]; exact run_string_add_sum X _ _ (by rw [← ByteArray.size_append, ← hR1]; omega)
  have HR1 : Hid _ := hR1
  clear hR1
  obtain ⟨R2, hR2⟩ : ∃ R : ByteArray, R = (R1 : ByteArray) ++ (⟨#[32]⟩ : ByteArray) := ⟨_, rfl⟩
  have z2 : R2.size ≤ 60 := by rw [hR2, ByteArray.size_append]; first | omega | (have := (show (⟨#[32]⟩ : ByteArray).size ≤ 5 by decide); omega)
  have A2 : ∀ X : World, (Op.stringOp .add (R1 : ByteArray) (⟨#[32]⟩ : ByteArray)).run Tryd.prog X = .ok (.string R2) X := fun X => by rw [hR2]; exact run_string_add_sum X _ _ (by rw [← ByteArray.size_append, ← hR2]; omega)
  have HR2 : Hid _ := hR2
  clear hR2
  obtain ⟨R3, hR3⟩ : ∃ R : ByteArray, R = (R2 : ByteArray) ++ (T2 : ByteArray) := ⟨_, rfl⟩
  have z3 : R3.size ≤ 470 := by rw [hR3, ByteArray.size_append]; first | omega | (have := (show (T2 : ByteArray).size ≤ 5 by decide); omega)
  have A3 : ∀ X : World, (Op.stringOp .add (R2 : ByteArray) (T2 : ByteArray)).run Tryd.prog X = .ok (.string R3) X := fun X => by rw [hR3]; exact run_string_add_sum X _ _ (by rw [← ByteArray.size_append, ← hR3]; omega)
  have HR3 : Hid _ := hR3
  clear hR3
  go_enter Tryd.func104, Tryd.ntmps104
  go_upto_region 1 with fail
  obtain ⟨W, hW⟩ : ∃ W, W = w.alloc (.cells #[.int .i64 pot, .slice a 3 cap, .slice c 2 cap', .int .i64 K] 98) := ⟨_, rfl⟩
  have q_1 := Cel.new w [.int .i64 pot, .slice a 3 cap, .slice c 2 cap', .int .i64 K] 98
  have B_1 := (Below.refl w.heap.size w).alloc (Nat.le_refl _) (.cells #[.int .i64 pot, .slice a 3 cap, .slice c 2 cap', .int .i64 K] 98)
  rw [← hW] at q_1 B_1 ⊢
  clear hW
  have CC : Hid (∀ X : World, Cel X w.heap.size [.int .i64 pot, .slice a 3 cap, .slice c 2 cap', .int .i64 K] 98 → X.cell? ⟨w.heap.size, 0, none⟩ = some (.int .i64 pot) ∧ X.cell? ⟨w.heap.size, 1, none⟩ = some (.slice a 3 cap) ∧ X.cell? ⟨w.heap.size, 2, none⟩ = some (.slice c 2 cap') ∧ X.cell? ⟨w.heap.size, 3, none⟩ = some (.int .i64 K)) := fun X h => ⟨h.cell 0, h.cell 1, h.cell 2, h.cell 3⟩
  have hS0 : (W.drew.cell? ⟨w.heap.size, 0, none⟩ = some (.int .i64 pot) ∧ W.drew.cell? ⟨w.heap.size, 1, none⟩ = some (.slice a 3 cap) ∧ W.drew.cell? ⟨w.heap.size, 2, none⟩ = some (.slice c 2 cap') ∧ W.drew.cell? ⟨w.heap.size, 3, none⟩ = some (.int .i64 K)) ∧ True := ⟨CC.out _ q_1, trivial⟩
  refine wp_region_ends (fun X => X.cell? ⟨w.heap.size, 0, none⟩ = some (.int .i64 pot) ∧ X.cell? ⟨w.heap.size, 1, none⟩ = some (.slice a 3 cap) ∧ X.cell? ⟨w.heap.size, 2, none⟩ = some (.slice c 2 cap') ∧ X.cell? ⟨w.heap.size, 3, none⟩ = some (.int .i64 K)) (fun _ => True) 9 (by kernel_rfl) ?_
  refine wpAnyE_take0 (i := 0) (v := ?t1v0) rfl (by kernel_rfl) (by kernel_rfl) (by kernel_rfl) (by decide) (fun _ _ _ h => h) (Or.inl ⟨by rfl, ?t1hy0⟩) hS0 ?_
  case t1hy0 => (intro wz hSw; (try dsimp only at hSw); go_simp; try (with_reducible rfl))
  refine wpAnyE_take0 (i := 1) (v := ?t1v1) rfl (by kernel_rfl) (by kernel_rfl) (by kernel_rfl) (by decide) (fun _ _ _ h => h) (Or.inl ⟨by rfl, ?t1hy1⟩) hS0 ?_
  case t1hy1 => (intro wz hSw; (try dsimp only at hSw); go_simp; try (with_reducible rfl))
  refine wpAnyE_take0 (i := 5) (v := ?t1v5) rfl (by kernel_rfl) (by kernel_rfl) (by kernel_rfl) (by decide) (fun _ _ _ h => h) (Or.inl ⟨by rfl, ?t1hy5⟩) hS0 ?_
  case t1hy5 => (intro wz hSw; (try dsimp only at hSw); go_simp; try (with_reducible rfl))
  refine wpAnyE_take0 (i := 6) (v := ?t1v6) rfl (by kernel_rfl) (by kernel_rfl) (by kernel_rfl) (by decide) (fun _ _ _ h => h) (Or.inl ⟨by rfl, ?t1hy6⟩) hS0 ?_
  case t1hy6 => (intro wz hSw; (try dsimp only at hSw); go_simp; try (with_reducible rfl))
  refine wpAnyE_one (i := 2) (by kernel_rfl) rfl (fun Kn hK => ?_)
  go_simp
  refine (Tryd.strconv_Itoa pot (by omega) (by omega) _ (HTB.out _ (by exact Below.drew B_1))).mono ?_
  rintro ee w2 ⟨rfl, qq, os, hw2⟩
  rw [← E1.out]
  have bd_2 : Below W.drew.heap.size W.drew w2 := by rw [hw2]; exact Lib.below_grow _ _ (Nat.le_refl _) _ _
  clear hw2
  have b_2 := below_of_drew bd_2
  have B_2 := B_1.trans (b_2.mono B_1.size)
  have q_2 := q_1.below b_2
  have hS2 : (w2.cell? ⟨w.heap.size, 0, none⟩ = some (.int .i64 pot) ∧ w2.cell? ⟨w.heap.size, 1, none⟩ = some (.slice a 3 cap) ∧ w2.cell? ⟨w.heap.size, 2, none⟩ = some (.slice c 2 cap') ∧ w2.cell? ⟨w.heap.size, 3, none⟩ = some (.int .i64 K)) ∧ True := ⟨CC.out _ q_2, trivial⟩
  dsimp only
  refine hK.out _ _ ⟨hS2.1, fun _ => trivial⟩ ?_
  clear hK hS0
  refine wpAnyE_take0 (i := 3) (v := .string R1) rfl (by kernel_rfl) (by kernel_rfl) (by kernel_rfl) (by decide) (fun _ _ _ h => h) (Or.inl ⟨by rfl, ?t1hy3⟩) hS2 ?_
  case t1hy3 => (intro wz hSw; (try dsimp only at hSw); first | (go_simp; try (with_reducible rfl); done) | (simp only [go_sem, A1]; done) | (go_simp; exact A1 _) | (simp [go_sem, A1]; done) | skip)
  refine wpAnyE_take0 (i := 4) (v := .string R2) rfl (by kernel_rfl) (by kernel_rfl) (by kernel_rfl) (by decide) (fun _ _ _ h => h) (Or.inl ⟨by rfl, ?t1hy4⟩) hS2 ?_
  case t1hy4 => (intro wz hSw; (try dsimp only at hSw); first | (go_simp; try (with_reducible rfl); done) | (simp only [go_sem, A2]; done) | (go_simp; exact A2 _) | (simp [go_sem, A2]; done) | skip)
  refine wpAnyE_one (i := 7) (by kernel_rfl) rfl (fun Kn hK => ?_)
  go_simp
  refine (text_any _ _ _ _ _ C D _ (hC.below B_2) (hD.below B_2) BC.out BD.out (by omega) (by omega) (fun w' h' => HTB.out w' (B_2.trans (h'.mono B_2.size)))).mono ?_
  rintro ee w3 ⟨rfl, b_3⟩
  rw [HF.out, ← E2.out]
  have B_3 := B_2.trans (b_3.mono B_2.size)
  have q_3 := q_2.below b_3
  have hS3 : (w3.cell? ⟨w.heap.size, 0, none⟩ = some (.int .i64 pot) ∧ w3.cell? ⟨w.heap.size, 1, none⟩ = some (.slice a 3 cap) ∧ w3.cell? ⟨w.heap.size, 2, none⟩ = some (.slice c 2 cap') ∧ w3.cell? ⟨w.heap.size, 3, none⟩ = some (.int .i64 K)) ∧ True := ⟨CC.out _ q_3, trivial⟩
  dsimp only
  refine hK.out _ _ ⟨hS3.1, fun _ => trivial⟩ ?_
  clear hK hS2
  refine wpAnyE_take0 (i := 8) (v := .string R3) rfl (by kernel_rfl) (by kernel_rfl) (by kernel_rfl) (by decide) (fun _ _ _ h => h) (Or.inl ⟨by rfl, ?t1hy8⟩) hS3 ?_
  case t1hy8 => (intro wz hSw; (try dsimp only at hSw); first | (go_simp; try (with_reducible rfl); done) | (simp only [go_sem, A3]; done) | (go_simp; exact A3 _) | (simp [go_sem, A3]; done) | skip)
  refine wpAnyE_one (i := 9) (by kernel_rfl) rfl (fun Kn hK => ?_)
  go_simp
  refine hK.out _ _ ⟨hS3.1, fun _ => trivial⟩ ?_
  clear hK
  refine wpAnyE_done (by kernel_rfl) ?_ _
  clear hS3
  go_wp2
  go_ret
  refine ⟨?_, B_3⟩
  rw [HAT.out]
  have : R3 = ⟨(addW ++ 32 :: (Lib.itoa pot ++ 32 :: F)).toArray⟩ := by
    rw [HR3.out, HR2.out, HR1.out, E1.out, E2.out, show (⟨#[97, 100, 100, 32]⟩ : ByteArray) = ⟨(addW ++ [32]).toArray⟩ from rfl, show (⟨#[32]⟩ : ByteArray) = ⟨[32].toArray⟩ from rfl]
    simp [cat_str, List.append_assoc]
  rw [← this]
  rfl

set_option maxHeartbeats 1600000 in
theorem iprint_text (a : Option Addr) (cap : Nat) (c : Option Addr) (cap' : Nat) (K : Int) (C D : List Int) (w : World) (hC : Ints w a 3 C) (hD : Ints w c 2 D) (hs : smallB 3 2 C D K = true) (hT : Lib.TabBelow Tryd.prog w.heap.size w "internal/strconv.uint64pow10" .u64 Lib.pow10Tab) :
    Calls Tryd.prog 105 #[.agg #[.slice a 3 cap, .slice c 2 cap', .int .i64 K]] w fun e w' => e = .returned (.string ⟨(printW ++ 32 :: formText 3 2 C D K).toArray⟩) ∧ Below w.heap.size w w' := by
  have HTB : Hid _ := hT
  clear hT
  obtain ⟨-, -, bC, bD, bK1, bK2⟩ := small_bnd hs
  have BC : Hid _ := bC
  have BD : Hid _ := bD
  obtain ⟨F, hF⟩ : ∃ F, formText 3 2 C D K = F := ⟨_, rfl⟩
  have hFl : F.length ≤ 400 := by rw [← hF]; exact form_len hs
  have HF : Hid (spaced (timesL 120 C 3 ++ timesL 97 D 2) ++ Lib.itoa K = F) := by show _ = _; rw [← hF, formText_yes (small_ok hs)]
  rw [hF]
  clear hF hs bC bD
  have B_1 := (Below.refl w.heap.size w).alloc (Nat.le_refl _) (.cells #[.slice a 3 cap, .slice c 2 cap', .int .i64 K] 100)
  go_enter Tryd.func105, Tryd.ntmps105
  go_wp2_with fail
  refine (text_any _ _ _ _ _ C D _ (hC.below B_1) (hD.below B_1) BC.out BD.out (by omega) (by omega) (fun w' h' => HTB.out w' (B_1.trans (h'.mono B_1.size)))).mono ?_
  rintro e w3 ⟨rfl, b_3⟩
  rw [HF.out]
  have B_3 := B_1.trans (b_3.mono B_1.size)
  go_wp2
  go_ret
  refine ⟨?_, B_3⟩
  rw [show printW ++ 32 :: F = (printW ++ [32]) ++ F by simp, ← cat_str]
  rfl

theorem istop_text (v : Value) (w : World) (hv : v = .agg #[]) :
    Calls Tryd.prog 106 #[v] w fun e w' => e = .returned (.string ⟨stopT.toArray⟩) ∧ Below w.heap.size w w' := by
  subst hv
  have B_1 := (Below.refl w.heap.size w).alloc (Nat.le_refl _) (.cells #[] 102)
  go_enter Tryd.func106, Tryd.ntmps106
  go_wp2
  go_ret
  exact ⟨rfl, B_1⟩

set_option maxHeartbeats 6400000 in
theorem iatext_any (kind pot skip : Int) (a : Option Addr) (n cap : Nat) (c : Option Addr) (m cap' : Nat) (K : Int) (C D : List Int) (w : World) (hC : Ints w a n C) (hD : Ints w c m D) (hn : n ≤ 1048576) (hm : m ≤ 1048576) (hT : Lib.TabBelow Tryd.prog w.heap.size w "internal/strconv.uint64pow10" .u64 Lib.pow10Tab) :
    Calls Tryd.prog 23 #[lineV kind pot skip a n cap c m cap' K] w fun e w' => e = .returned (.string ⟨(actText (kind, pot, skip, C, D, K)).toArray⟩) ∧ Below w.heap.size w w' := by
  have HTB : Hid _ := hT
  clear hT
  have B_0 := (Below.refl w.heap.size w).alloc (Nat.le_refl _) (.cells #[.int .i64 kind, .int .i64 pot, .int .i64 skip, .slice a n cap, .slice c m cap', .int .i64 K] 48)
  have HC1 : Hid (C.length = n) := hC.1
  have HD1 : Hid (D.length = m) := hD.1
  cases hb : lineB kind pot skip n m C D K
  · have HT : Hid (actText (kind, pot, skip, C, D, K) = []) := actText_no (by rw [HC1.out, HD1.out]; exact hb)
    go_enter Tryd.func23, Tryd.ntmps23
    go_wp2_with fail
    refine (istep_any _ _ _ _ _ _ _ _ _ _ C D _ (hC.alloc _) (hD.alloc _) hn hm).mono ?_
    rintro e w1 ⟨rfl, b1⟩
    rw [hb]
    generalize stepV ⟨kind, pot, skip, ⟨a, n, cap, c, m, cap', K, C, D⟩⟩ = sv
    go_wp2
    go_ret
    exact ⟨by rw [HT.out]; rfl, B_0.trans (b1.mono B_0.size)⟩
  have HB : Hid _ := hb
  have HAY : Hid _ := actText_yes (k := kind) (p := pot) (z := skip) (C := C) (D := D) (K := K) (by rw [HC1.out, HD1.out]; exact hb)
  have hcs := line_cases (k := kind) (p := pot) (z := skip) (C := C) (D := D) (K := K) (by rw [HC1.out, HD1.out]; exact hb)
  clear hb
  have m1 := Tryd.textTest
  have m2 := Tryd.textAdd
  have m3 := Tryd.textPrint
  have m4 := Tryd.textStop
  rcases hcs with ⟨rfl, rfl, ⟨y1, y2⟩, hs⟩ | ⟨rfl, ⟨y1, y2⟩, rfl, hs⟩ | ⟨rfl, rfl, rfl, hs⟩ | ⟨rfl, rfl, rfl, rfl, rfl, rfl⟩
  · rw [HC1.out, HD1.out] at hs
    obtain ⟨e3, e2, -⟩ := small_bnd hs
    subst e3 e2
    have HAT : Hid (actText (1, 0, skip, C, D, K) = testW ++ 32 :: (Lib.itoa skip ++ 32 :: formText 3 2 C D K)) := by show _ = _; rw [HAY.out, if_pos rfl, textF, HC1.out, HD1.out]
    have hsv : stepV ⟨1, 0, skip, ⟨a, 3, cap, c, 2, cap', K, C, D⟩⟩ = .iface 95 (.agg #[.int .i64 skip, .slice a 3 cap, .slice c 2 cap', .int .i64 K]) := rfl
    have HSV : Hid _ := hsv
    clear hsv
    go_enter Tryd.func23, Tryd.ntmps23
    go_wp2_with fail
    refine (istep_any _ _ _ _ _ _ _ _ _ _ C D _ (hC.alloc _) (hD.alloc _) hn hm).mono ?_
    rintro e w1 ⟨rfl, b1⟩
    rw [HB.out, HSV.out]
    have B_1 := B_0.trans (b1.mono B_0.size)
    clear B_0 b1
    go_wp2_with fail
    refine (itest_text _ _ _ _ _ _ C D _ (hC.below B_1) (hD.below B_1) hs (by omega) (by omega) (fun w' h' => HTB.out w' (B_1.trans (h'.mono B_1.size)))).mono ?_
    rintro e w2 ⟨rfl, b2⟩
    have B_2 := B_1.trans (b2.mono B_1.size)
    rw [← HAT.out]
    go_wp2
    go_ret
    exact ⟨rfl, B_2⟩
  · rw [HC1.out, HD1.out] at hs
    obtain ⟨e3, e2, -⟩ := small_bnd hs
    subst e3 e2
    have HAT : Hid (actText (2, pot, 0, C, D, K) = addW ++ 32 :: (Lib.itoa pot ++ 32 :: formText 3 2 C D K)) := by show _ = _; rw [HAY.out, if_neg (by decide), if_pos rfl, textF, HC1.out, HD1.out]
    have hsv : stepV ⟨2, pot, 0, ⟨a, 3, cap, c, 2, cap', K, C, D⟩⟩ = .iface 98 (.agg #[.int .i64 pot, .slice a 3 cap, .slice c 2 cap', .int .i64 K]) := rfl
    have HSV : Hid _ := hsv
    clear hsv
    go_enter Tryd.func23, Tryd.ntmps23
    go_wp2_with fail
    refine (istep_any _ _ _ _ _ _ _ _ _ _ C D _ (hC.alloc _) (hD.alloc _) hn hm).mono ?_
    rintro e w1 ⟨rfl, b1⟩
    rw [HB.out, HSV.out]
    have B_1 := B_0.trans (b1.mono B_0.size)
    clear B_0 b1
    go_wp2_with fail
    refine (iadd_text _ _ _ _ _ _ C D _ (hC.below B_1) (hD.below B_1) hs (by omega) (by omega) (fun w' h' => HTB.out w' (B_1.trans (h'.mono B_1.size)))).mono ?_
    rintro e w2 ⟨rfl, b2⟩
    have B_2 := B_1.trans (b2.mono B_1.size)
    rw [← HAT.out]
    go_wp2
    go_ret
    exact ⟨rfl, B_2⟩
  · rw [HC1.out, HD1.out] at hs
    obtain ⟨e3, e2, -⟩ := small_bnd hs
    subst e3 e2
    have HAT : Hid (actText (3, 0, 0, C, D, K) = printW ++ 32 :: formText 3 2 C D K) := by show _ = _; rw [HAY.out, if_neg (by decide), if_neg (by decide), if_pos rfl, textF, HC1.out, HD1.out]
    have hsv : stepV ⟨3, 0, 0, ⟨a, 3, cap, c, 2, cap', K, C, D⟩⟩ = .iface 100 (.agg #[.slice a 3 cap, .slice c 2 cap', .int .i64 K]) := rfl
    have HSV : Hid _ := hsv
    clear hsv
    go_enter Tryd.func23, Tryd.ntmps23
    go_wp2_with fail
    refine (istep_any _ _ _ _ _ _ _ _ _ _ C D _ (hC.alloc _) (hD.alloc _) hn hm).mono ?_
    rintro e w1 ⟨rfl, b1⟩
    rw [HB.out, HSV.out]
    have B_1 := B_0.trans (b1.mono B_0.size)
    clear B_0 b1
    go_wp2_with fail
    refine (iprint_text _ _ _ _ _ C D _ (hC.below B_1) (hD.below B_1) hs (fun w' h' => HTB.out w' (B_1.trans (h'.mono B_1.size)))).mono ?_
    rintro e w2 ⟨rfl, b2⟩
    have B_2 := B_1.trans (b2.mono B_1.size)
    rw [← HAT.out]
    go_wp2
    go_ret
    exact ⟨rfl, B_2⟩
  · have HAT : Hid (actText (4, 0, 0, [], [], 0) = stopT) := by show _ = _; rw [HAY.out]; rfl
    have hsv : stepV ⟨4, 0, 0, ⟨a, n, cap, c, m, cap', 0, [], []⟩⟩ = .iface 102 (.agg #[]) := rfl
    have HSV : Hid _ := hsv
    clear hsv
    go_enter Tryd.func23, Tryd.ntmps23
    go_wp2_with fail
    refine (istep_any _ _ _ _ _ _ _ _ _ _ [] [] _ (hC.alloc _) (hD.alloc _) hn hm).mono ?_
    rintro e w1 ⟨rfl, b1⟩
    rw [HB.out, HSV.out]
    have B_1 := B_0.trans (b1.mono B_0.size)
    clear B_0 b1
    go_wp2_with fail
    refine (istop_text _ _ rfl).mono ?_
    rintro e w2 ⟨rfl, b2⟩
    have B_2 := B_1.trans (b2.mono B_1.size)
    rw [← HAT.out]
    go_wp2
    go_ret
    exact ⟨rfl, B_2⟩

end Go.Proofs.YtmhhphpihnkfpaaDoor
namespace Go.Proofs.YtmhhphpihnkfpaaDoor
open Go.RowKit
set_option linter.unusedVariables false
set_option maxRecDepth 100000

theorem itwn_b (x : List UInt8) (a : Option Addr) (n cap : Nat) (zs : List Int) (w : World) (h : Ints w a n zs) (hx : x.length ≤ 120) (hn : n ≤ 1000) (hz : ∀ i : Nat, -999999999999 ≤ zs[i]?.getD 0 ∧ zs[i]?.getD 0 ≤ 999999999999) (hT : Lib.TabBelow Tryd.prog w.heap.size w "internal/strconv.uint64pow10" .u64 Lib.pow10Tab) :
    Calls Tryd.prog 22 #[.string ⟨x.toArray⟩, .slice a n cap] w fun e w' => ∃ Y, e = .returned (.string Y) ∧ Y = bT (x ++ tailL zs) ∧ Below w.heap.size w w' := by
  refine (itwn_any x a n cap zs w h hn (by omega) hz hT).mono ?_
  rintro e w' ⟨rfl, b⟩
  exact ⟨_, rfl, rfl, b⟩

set_option maxHeartbeats 6400000 in
theorem iplnprint_any (cl : Int) (ad : Option Addr) (N cap : Nat) (ss : List L2V) (ga : Option Addr) (gn gc : Nat) (G : List Int) (sa : Option Addr) (sn sc : Nat) (S : List Int) (w : World) (P : PlAt w ad N ss ga gn G sa sn S) (hT : Lib.TabBelow Tryd.prog w.heap.size w "internal/strconv.uint64pow10" .u64 Lib.pow10Tab) :
    Calls Tryd.prog 7 #[plV cl ad N cap ga gn gc sa sn sc] w fun e w' => ∃ v, e = .returned v ∧ JT w v (plnR cl N ss gn G sn S) w' := by
  obtain ⟨i0, hi, hz0, hz1, hz2⟩ := info_parts Tryd.infoStr
  obtain ⟨WB, hWB⟩ : ∃ W, W = w.alloc (.cells #[.int .i64 cl, .slice ad N cap, .slice ga gn gc, .slice sa sn sc] 31) := ⟨_, rfl⟩
  have q0 : BP w w.heap.size [.int .i64 cl, .slice ad N cap, .slice ga gn gc, .slice sa sn sc] 31 WB := by rw [hWB]; exact BP.new w _ _
  have PB : PlAt WB ad N ss ga gn G sa sn S := P.below q0.b
  have qB : BP WB w.heap.size [.int .i64 cl, .slice ad N cap, .slice ga gn gc, .slice sa sn sc] 31 WB := ⟨q0.p, Below.refl _ _⟩
  have BW := q0.b
  have HT : Hid (∀ W, Below WB.heap.size WB W → Lib.TabBelow Tryd.prog W.heap.size W "internal/strconv.uint64pow10" .u64 Lib.pow10Tab) := fun W b w' h' => hT w' ((BW.trans (b.mono BW.size)).trans (h'.mono (BW.trans (b.mono BW.size)).size))
  obtain ⟨c0, c1, c2, c3⟩ := qB.p.quadP
  rw [hWB] at c0 c1 c2 c3
  have HN : Hid (ss.length = N) := P.ha
  have HG : Hid (G.length = gn) := P.g.1
  have HS : Hid (S.length = sn) := P.s.1
  clear P q0 hT
  go_enter Tryd.func7, Tryd.ntmps7
  go_wp2_with fail
  rw [← hWB]
  refine (iplnok_any cl ad N cap ss ga gn gc G sa sn sc S _ PB).mono ?_
  rintro e w1 ⟨rfl, b1⟩
  have q1 := qB.below b1
  have P1 := PB.below b1
  have B1 := b1
  clear b1 c0 c1 c2 c3 hWB
  cases hb : plnB cl N ss gn G sn S
  · have HR : Hid (plnR cl N ss gn G sn S = []) := by show _ = _; rw [plnR, hb]; rfl
    clear hb
    go_wp2
    go_ret
    rw [HR.out]
    exact ⟨_, rfl, ((JT.nil WB).below B1).low BW⟩
  have HR : Hid (plnR cl N ss gn G sn S = plnT cl ss G S) := by show _ = _; rw [plnR, if_pos hb]
  obtain ⟨⟨l1, l2⟩, hN4, hg3, hs3, hzG, hzS, hn6⟩ := pln_small hb HN.out HG.out HS.out
  have HZG : Hid _ := hzG
  have HZS : Hid _ := hzS
  have H6 : Hid _ := hn6
  have hs4 : sn ≤ 3 := by omega
  clear hb hzG hzS hn6 hs3
  go_upto_region 3 with fail
  refine wp_region_ends (fun X => X.cell? ⟨w.heap.size, 0, none⟩ = some (.int .i64 cl) ∧ X.cell? ⟨w.heap.size, 1, none⟩ = some (.slice ad N cap) ∧ X.cell? ⟨w.heap.size, 2, none⟩ = some (.slice ga gn gc) ∧ X.cell? ⟨w.heap.size, 3, none⟩ = some (.slice sa sn sc)) (fun _ => True) 11 (by kernel_rfl) ?_
  have dr : Below w1.heap.size w1 w1.drew := (Below.refl _ _).drew
  replace q1 := q1.below dr
  replace P1 := P1.below dr
  replace B1 := B1.trans (dr.mono B1.size)
  obtain ⟨V, hV⟩ : ∃ V, V = w1.drew := ⟨_, rfl⟩
  rw [← hV] at q1 P1 B1 ⊢
  clear hV dr
  obtain ⟨c0, c1, c2, c3⟩ := q1.p.quadP
  have hSS : (fun X : World => X.cell? ⟨w.heap.size, 0, none⟩ = some (.int .i64 cl) ∧ X.cell? ⟨w.heap.size, 1, none⟩ = some (.slice ad N cap) ∧ X.cell? ⟨w.heap.size, 2, none⟩ = some (.slice ga gn gc) ∧ X.cell? ⟨w.heap.size, 3, none⟩ = some (.slice sa sn sc)) V ∧ True := ⟨⟨c0, c1, c2, c3⟩, trivial⟩
  refine tkL (i := 0) rfl hSS ?_
  refine tkL (i := 1) rfl hSS ?_
  refine tkL (i := 4) rfl hSS ?_
  refine tkL (i := 5) rfl hSS ?_
  simp only [Act.put, List.setIfInBounds_toArray, List.set_cons_succ, List.set_cons_zero, List.getElem_toArray, List.getElem_cons_succ, List.getElem_cons_zero]
  refine tkL (i := 7) rfl hSS ?_
  refine tkL (i := 8) rfl hSS ?_
  simp only [Act.put, List.setIfInBounds_toArray, List.set_cons_succ, List.set_cons_zero, List.getElem_toArray, List.getElem_cons_succ, List.getElem_cons_zero]
  clear c0 c1 c2 c3
  refine wpAnyE_one (i := 2) (by kernel_rfl) rfl (fun Kn hK => ?_)
  go_simp
  obtain ⟨W2, hW2⟩ : ∃ W, W = V.alloc (.cells #[.int .i64 cl] 3) := ⟨_, rfl⟩
  have al : Below V.heap.size V W2 := by rw [hW2]; exact (Below.refl _ _).alloc (Nat.le_refl _) _
  have i1 : Ints W2 (some ⟨V.heap.size, 0, none⟩) 1 [cl] := by rw [hW2]; exact one_ints V cl 3
  rw [← hW2]
  replace q1 := q1.below al
  replace P1 := P1.below al
  replace B1 := B1.trans (al.mono B1.size)
  clear hSS hW2 al
  obtain ⟨c0, c1, c2, c3⟩ := q1.p.quadP
  have hSS : (fun X : World => X.cell? ⟨w.heap.size, 0, none⟩ = some (.int .i64 cl) ∧ X.cell? ⟨w.heap.size, 1, none⟩ = some (.slice ad N cap) ∧ X.cell? ⟨w.heap.size, 2, none⟩ = some (.slice ga gn gc) ∧ X.cell? ⟨w.heap.size, 3, none⟩ = some (.slice sa sn sc)) W2 ∧ True := ⟨⟨c0, c1, c2, c3⟩, trivial⟩
  (try dsimp only)
  refine hK.out _ _ ⟨hSS.1, fun _ => trivial⟩ ?_
  clear hK Kn
  (try simp only [Act.put, List.setIfInBounds_toArray, List.set_cons_succ, List.set_cons_zero, List.getElem_toArray, List.getElem_cons_succ, List.getElem_cons_zero])
  clear c0 c1 c2 c3
  refine wpAnyE_one (i := 3) (by kernel_rfl) rfl (fun Kn hK => ?_)
  go_simp
  rw [show (⟨#[99, 108, 105, 101, 110, 116, 115]⟩ : ByteArray) = ⟨([99, 108, 105, 101, 110, 116, 115] : List UInt8).toArray⟩ from rfl]
  refine (itwn_b [99, 108, 105, 101, 110, 116, 115] _ _ _ [cl] _ i1 (by decide) (by omega) (fun i => by rcases i with _ | i <;> simp <;> omega) (HT.out _ B1)).mono ?_
  rintro e w2 ⟨CV, rfl, hCV, b3⟩
  have HCV : Hid _ := hCV
  clear hCV
  replace q1 := q1.below b3
  replace P1 := P1.below b3
  replace B1 := B1.trans (b3.mono B1.size)
  clear hSS b3
  clear i1
  obtain ⟨c0, c1, c2, c3⟩ := q1.p.quadP
  have hSS : (fun X : World => X.cell? ⟨w.heap.size, 0, none⟩ = some (.int .i64 cl) ∧ X.cell? ⟨w.heap.size, 1, none⟩ = some (.slice ad N cap) ∧ X.cell? ⟨w.heap.size, 2, none⟩ = some (.slice ga gn gc) ∧ X.cell? ⟨w.heap.size, 3, none⟩ = some (.slice sa sn sc)) w2 ∧ True := ⟨⟨c0, c1, c2, c3⟩, trivial⟩
  (try dsimp only)
  refine hK.out _ _ ⟨hSS.1, fun _ => trivial⟩ ?_
  clear hK Kn
  (try simp only [Act.put, List.setIfInBounds_toArray, List.set_cons_succ, List.set_cons_zero, List.getElem_toArray, List.getElem_cons_succ, List.getElem_cons_zero])
  clear c0 c1 c2 c3
  refine wpAnyE_one (i := 6) (by kernel_rfl) rfl (fun Kn hK => ?_)
  go_simp
  rw [show (⟨#[103, 105, 118, 101, 115]⟩ : ByteArray) = ⟨([103, 105, 118, 101, 115] : List UInt8).toArray⟩ from rfl]
  refine (itwn_b [103, 105, 118, 101, 115] _ _ _ G _ P1.g (by decide) (by omega) HZG.out (HT.out _ B1)).mono ?_
  rintro e w3 ⟨GV, rfl, hGV, b3⟩
  have HGV : Hid _ := hGV
  clear hGV
  replace q1 := q1.below b3
  replace P1 := P1.below b3
  replace B1 := B1.trans (b3.mono B1.size)
  clear hSS b3
  obtain ⟨c0, c1, c2, c3⟩ := q1.p.quadP
  have hSS : (fun X : World => X.cell? ⟨w.heap.size, 0, none⟩ = some (.int .i64 cl) ∧ X.cell? ⟨w.heap.size, 1, none⟩ = some (.slice ad N cap) ∧ X.cell? ⟨w.heap.size, 2, none⟩ = some (.slice ga gn gc) ∧ X.cell? ⟨w.heap.size, 3, none⟩ = some (.slice sa sn sc)) w3 ∧ True := ⟨⟨c0, c1, c2, c3⟩, trivial⟩
  (try dsimp only)
  refine hK.out _ _ ⟨hSS.1, fun _ => trivial⟩ ?_
  clear hK Kn
  (try simp only [Act.put, List.setIfInBounds_toArray, List.set_cons_succ, List.set_cons_zero, List.getElem_toArray, List.getElem_cons_succ, List.getElem_cons_zero])
  clear c0 c1 c2 c3
  refine wpAnyE_one (i := 9) (by kernel_rfl) rfl (fun Kn hK => ?_)
  go_simp
  rw [show (⟨#[115, 116, 97, 114, 116]⟩ : ByteArray) = ⟨([115, 116, 97, 114, 116] : List UInt8).toArray⟩ from rfl]
  refine (itwn_b [115, 116, 97, 114, 116] _ _ _ S _ P1.s (by decide) (by omega) HZS.out (HT.out _ B1)).mono ?_
  rintro e w4 ⟨SV, rfl, hSV, b3⟩
  have HSV : Hid _ := hSV
  clear hSV
  replace q1 := q1.below b3
  replace P1 := P1.below b3
  replace B1 := B1.trans (b3.mono B1.size)
  clear hSS b3
  obtain ⟨c0, c1, c2, c3⟩ := q1.p.quadP
  have hSS : (fun X : World => X.cell? ⟨w.heap.size, 0, none⟩ = some (.int .i64 cl) ∧ X.cell? ⟨w.heap.size, 1, none⟩ = some (.slice ad N cap) ∧ X.cell? ⟨w.heap.size, 2, none⟩ = some (.slice ga gn gc) ∧ X.cell? ⟨w.heap.size, 3, none⟩ = some (.slice sa sn sc)) w4 ∧ True := ⟨⟨c0, c1, c2, c3⟩, trivial⟩
  (try dsimp only)
  refine hK.out _ _ ⟨hSS.1, fun _ => trivial⟩ ?_
  clear hK Kn
  (try simp only [Act.put, List.setIfInBounds_toArray, List.set_cons_succ, List.set_cons_zero, List.getElem_toArray, List.getElem_cons_succ, List.getElem_cons_zero])
  clear c0 c1 c2 c3
  refine wpAnyE_one (i := 10) (by kernel_rfl) rfl (fun Kn hK => ?_)
  go_simp
  obtain ⟨W5, hW5⟩ : ∃ W, W = w4.alloc (.cells #[.string CV, .string GV, .string SV] 9) := ⟨_, rfl⟩
  have al : Below w4.heap.size w4 W5 := by rw [hW5]; exact (Below.refl _ _).alloc (Nat.le_refl _) _
  have j5 : JT WB (.slice (some ⟨w4.heap.size, 0, none⟩) 3 3) (headT cl G S) W5 := by
    refine ⟨B1.trans (al.mono B1.size), ?_⟩
    have : (w4.alloc (.cells #[.string CV, .string GV, .string SV] 9)).ownsRow WB.heap.size 9 1 (.slice (some ⟨w4.heap.size, 0, none⟩) 3 3) 3 [.string CV, .string GV, .string SV] := World.ownsRow_lit w4 #[.string CV, .string GV, .string SV] 3 B1.size (by unfold maxLen; omega) rfl
    rw [hW5, headT, ← HCV.out, ← HGV.out, ← HSV.out]
    exact this
  rw [← hW5]
  clear hW5
  replace q1 := q1.below al
  replace P1 := P1.below al
  replace B1 := B1.trans (al.mono B1.size)
  clear hSS
  obtain ⟨c0, c1, c2, c3⟩ := q1.p.quadP
  have hSS : (fun X : World => X.cell? ⟨w.heap.size, 0, none⟩ = some (.int .i64 cl) ∧ X.cell? ⟨w.heap.size, 1, none⟩ = some (.slice ad N cap) ∧ X.cell? ⟨w.heap.size, 2, none⟩ = some (.slice ga gn gc) ∧ X.cell? ⟨w.heap.size, 3, none⟩ = some (.slice sa sn sc)) W5 ∧ True := ⟨⟨c0, c1, c2, c3⟩, trivial⟩
  (try dsimp only)
  refine hK.out _ _ ⟨hSS.1, fun _ => trivial⟩ ?_
  clear hK Kn
  (try simp only [Act.put, List.setIfInBounds_toArray, List.set_cons_succ, List.set_cons_zero, List.getElem_toArray, List.getElem_cons_succ, List.getElem_cons_zero])
  refine wpAnyE_one (i := 11) (by kernel_rfl) rfl (fun Kn hK => ?_)
  go_simp
  (try dsimp only)
  refine hK.out _ _ ⟨hSS.1, fun _ => trivial⟩ ?_
  clear hK Kn
  (try simp only [Act.put, List.setIfInBounds_toArray, List.set_cons_succ, List.set_cons_zero, List.getElem_toArray, List.getElem_cons_succ, List.getElem_cons_zero])
  refine wpAnyE_done (by kernel_rfl) ?_ _
  clear hSS al
  clear P1
  go_wp2_with fail
  go_loopw [3, 25] (fun v i wr => ∃ (k : Nat) (xs : List ByteArray), k ≤ N ∧ i = .int .i64 k ∧ xs = headT cl G S ++ bodyT (ss.take k) ∧ JT WB v xs wr) (fun _ i _ => N - (intOf i).toNat)
  case atStart => exact ⟨0, _, Nat.zero_le _, rfl, by simp [bodyT], j5⟩
  case round =>
    obtain ⟨k, xs, hk, rfl, hxs, j⟩ := hrel
    have HX : Hid _ := hxs
    have hxl : xs.length ≤ 31 := by
      have hk6 : ∀ i, i < ss.length → (ss[i]?.getD noL).x.length ≤ 6 := fun i hi => by
        have h1 := H6.out i (by have := HN.out; omega)
        obtain ⟨_, _, _, _, hLG⟩ := PB.a i hi
        rw [hLG.1]; exact h1
      have := body_len ss k hk6 (by have := HN.out; omega)
      rw [hxs, List.length_append]
      simp only [headT, List.length_cons, List.length_nil]
      omega
    clear hxs j5 q1 B1 c0 c1 c2 c3
    by_cases hlt : k < N
    · obtain ⟨ab, ao, rfl, hac, hLG⟩ := PB.a k (by rw [HN.out]; exact hlt)
      have HB : Hid (bodyT (ss.take (k + 1)) = bodyT (ss.take k) ++ actTs (ss[k]?.getD noL)) := bodyT_step (by rw [HN.out]; exact hlt)
      have h6 := H6.out k hlt
      generalize HSK : ss[k]?.getD noL = s at *
      obtain ⟨xa, xn, xc, xl⟩ := s
      have hacv : WB.cell? ⟨ab, ao + k, none⟩ = some (.slice xa xn xc) := hac
      have habs := block_lt hacv
      have hak : wr.cell? ⟨ab, ao + k, none⟩ = some (.slice xa xn xc) := (j.b.cell (p := ⟨ab, ao + k, none⟩) habs).trans hacv
      have hxn : xn ≤ 6 := h6
      have hLX : Hid (xl.length = xn) := hLG.1
      have hLL : Hid (LinesG WB xa xl) := hLG.2.1
      clear HSK hac hLG h6
      obtain ⟨m, hm⟩ : ∃ m, xs.length = m := ⟨_, rfl⟩
      have HM : Hid _ := hm
      have jo := j.o
      rw [hm] at hxl jo
      clear hm
      have zw := j.b.size
      have hlt' : (k : Int) < (N : Int) := by omega
      go_wp2_with (at_builtin; go_must (refine wpList_append_lies _ rfl (.tmp 29) (.tmp 30) 27 rfl WB.heap.size 9 i0 (.string ⟨#[]⟩) 1 16 Tryd.underlying27 hi hz0 hz1 hz2 rfl (by decide) _ _ _ rfl (jo.alloc _) ⟨wr.heap.size, 0, none⟩ 1 1 [.string ⟨#[97, 99, 116]⟩] rfl rfl (newsS _ _ _) (oneS _) (by omega) (by unfold maxLen; omega) (by omega) (by rw [World.size_alloc]; omega) _ rfl ?_); intro gg cp w6 hown hgrow hat hlt1)
      have j6 : JT WB (.slice (some ⟨gg, 0, none⟩) (m + 1) cp) (xs ++ [bT [97, 99, 116]]) w6 := j.app HM.out hown hgrow
      clear hown hgrow hat jo j hak
      obtain ⟨x6, hx6⟩ : ∃ x, x = xs ++ [bT [97, 99, 116]] := ⟨_, rfl⟩
      have HX6 : Hid _ := hx6
      rw [← hx6] at j6
      have hl6 : x6.length = m + 1 := by rw [hx6, List.length_append, HM.out]; rfl
      clear hx6
      go_wp2_with fail
      go_loopw [3, 34] (fun v i wr => ∃ (q : Nat) (ys : List ByteArray), q ≤ xn ∧ i = .int .i64 q ∧ ys = x6 ++ (xl.take q).map lineT ∧ ys.length = m + 1 + q ∧ JT WB v ys wr) (fun _ i _ => xn - (intOf i).toNat)
      case atStart => exact ⟨0, x6, Nat.zero_le _, rfl, by simp, by omega, j6⟩
      case round =>
        obtain ⟨q, ys, hq, rfl, hys, hyl, j⟩ := hrel
        have HY : Hid _ := hys
        have HYL : Hid _ := hyl
        clear hys
        by_cases hqt : q < xn
        · have HLS : Hid _ := lines_step (ls := xl) (j := q) (by rw [hLX.out]; exact hqt)
          have hqt' : (q : Int) < (xn : Int) := by omega
          obtain ⟨b, off, rfl, hc, hAt⟩ := (hLL.out.below j.b) q (by rw [hLX.out]; exact hqt)
          generalize HG : xl[q]?.getD noLV = gl at *
          clear HG
          obtain ⟨e0, e1, e2, e3, e4, e5⟩ := six_of hc
          clear hc
          obtain ⟨gk, gp, gz, ⟨fa, fn, fcap, fc, fm, fcap', fK, fC, fD⟩⟩ := gl
          obtain ⟨iC, iD, hn, hm⟩ := hAt
          simp only at e0 e1 e2 e3 e4 e5 iC iD hn hm
          have al : Below wr.heap.size wr (wr.alloc (.cells #[.int .i64 gk, .int .i64 gp, .int .i64 gz, .slice fa fn fcap, .slice fc fm fcap', .int .i64 fK] 48)) := (Below.refl _ _).alloc (Nat.le_refl _) _
          have jA := j.below al
          have iC2 := iC.below al
          have iD2 := iD.below al
          go_wp2_with fail
          refine (iatext_any gk gp gz fa fn fcap fc fm fcap' fK fC fD _ iC2 iD2 hn hm (HT.out _ jA.b)).mono ?_
          rintro e w7 ⟨rfl, b7⟩
          have j7 := jA.below b7
          have jo := j7.o
          rw [HYL.out] at jo
          have zw7 := j7.b.size
          obtain ⟨T, hT⟩ : ∃ T : ByteArray, T = ⟨(actText (gk, gp, gz, fC, fD, fK)).toArray⟩ := ⟨_, rfl⟩
          rw [← hT]
          have HTT : Hid (lineT ⟨gk, gp, gz, ⟨fa, fn, fcap, fc, fm, fcap', fK, fC, fD⟩⟩ = T) := hT.symm
          clear hT e0 e1 e2 e3 e4 e5 iC iD iC2 iD2 al jA j
          go_wp2_with (at_builtin; go_must (refine wpList_append_lies _ rfl (.tmp 38) (.tmp 41) 27 rfl WB.heap.size 9 i0 (.string ⟨#[]⟩) 1 16 Tryd.underlying27 hi hz0 hz1 hz2 rfl (by decide) _ _ _ rfl (jo.alloc _) ⟨w7.heap.size, 0, none⟩ 1 1 [.string T] rfl rfl (newsS _ _ _) (oneS _) (by omega) (by unfold maxLen; omega) (by omega) (by rw [World.size_alloc]; omega) _ rfl ?_); intro g8 c8 w8 hown hgrow hat hlt1)
          have j8 : JT WB (.slice (some ⟨g8, 0, none⟩) (m + 1 + q + 1) c8) (ys ++ [T]) w8 := j7.app HYL.out hown hgrow
          clear hown hgrow hat jo j7
          go_wp2
          go_roundw
          case rel => exact ⟨q + 1, _, by omega, by go_num, by rw [HLS.out, HTT.out, ← List.append_assoc, ← HY.out], by rw [List.length_append, HYL.out]; rfl, j8⟩
          case measure => simp [intOf]; omega
        · have hqe : q = xn := by omega
          have hqt' : ¬ (q : Int) < (xn : Int) := by omega
          have HF : Hid (ys = headT cl G S ++ bodyT (ss.take (k + 1))) := by
            show _ = _
            have e1 : xl.take q = xl := List.take_of_length_le (by rw [hLX.out]; omega)
            rw [HY.out, e1, HX6.out, HX.out, HB.out, actTs]
            simp
          clear hqe
          go_wp2
          go_roundw
          case rel => exact ⟨k + 1, ys, by omega, by go_num, HF.out, j⟩
          case measure => simp [intOf]; omega
    · have hke : k = N := by omega
      have hlt' : ¬ (k : Int) < (N : Int) := by omega
      have HF : Hid (xs = plnR cl N ss gn G sn S) := by
        show _ = _
        rw [HR.out, HX.out, plnT, List.take_of_length_le (by have := HN.out; omega)]
      clear hke
      go_wp2
      go_ret
      have jf := j.low BW
      rw [HF.out] at jf
      exact ⟨_, rfl, jf⟩

end Go.Proofs.YtmhhphpihnkfpaaDoor
namespace Go.Proofs.YtmhhphpihnkfpaaDoor
open Go.RowKit
set_option linter.unusedVariables false

/-- Chunks of three, one behind the other. -/
def three (cs : List (List Value)) : Prop := ∀ c ∈ cs, c.length = 3
theorem flat_len : ∀ (cs : List (List Value)), three cs → cs.flatten.length = cs.length * 3
  | [], _ => rfl
  | c :: cs, h => by
    have h1 := h c (by simp)
    have h2 := flat_len cs (fun d hd => h d (by simp [hd]))
    simp only [List.flatten_cons, List.length_append, h1, h2, List.length_cons]
    omega
theorem flat_get : ∀ (cs : List (List Value)) (k r : Nat), three cs → r < 3 → cs.flatten[k * 3 + r]? = (cs[k]?.getD [])[r]?
  | [], k, r, _, _ => by simp
  | c :: cs, 0, r, h, hr => by
    have h1 := h c (by simp)
    simp only [List.flatten_cons, Nat.zero_mul, Nat.zero_add, List.getElem?_cons_zero, Option.getD_some]
    rw [List.getElem?_append_left (by omega)]
  | c :: cs, k + 1, r, h, hr => by
    have h1 := h c (by simp)
    have h2 := flat_get cs k r (fun d hd => h d (by simp [hd])) hr
    simp only [List.flatten_cons, List.getElem?_cons_succ]
    rw [List.getElem?_append_right (by omega), h1, ← h2]
    congr 1
    omega
theorem flat_set : ∀ (cs : List (List Value)) (k : Nat) (x y z : Value), three cs → k < cs.length → ((cs.flatten.set (k * 3) x).set (k * 3 + 1) y).set (k * 3 + 2) z = (cs.set k [x, y, z]).flatten
  | [], k, x, y, z, _, hk => by simp at hk
  | c :: cs, 0, x, y, z, h, _ => by
    have h1 := h c (by simp)
    match c, h1 with
    | [u, v, t], _ => simp
  | c :: cs, k + 1, x, y, z, h, hk => by
    have h1 := h c (by simp)
    have h2 := flat_set cs k x y z (fun d hd => h d (by simp [hd])) (by simpa using hk)
    simp only [List.flatten_cons, List.set_cons_succ]
    rw [← h2]
    rw [List.set_append_right _ _ (by omega), List.set_append_right _ _ (by omega), List.set_append_right _ _ (by omega), h1]
    have a1 : (k + 1) * 3 - 3 = k * 3 := by omega
    have a2 : (k + 1) * 3 + 1 - 3 = k * 3 + 1 := by omega
    have a3 : (k + 1) * 3 + 2 - 3 = k * 3 + 2 := by omega
    rw [a1, a2, a3]
theorem three_rep (n : Nat) (c : List Value) (h : c.length = 3) : three (List.replicate n c) := fun d hd => by rw [List.eq_of_mem_replicate hd]; exact h
theorem three_app {a b : List (List Value)} (ha : three a) (hb : three b) : three (a ++ b) := fun d hd => by
  rcases List.mem_append.1 hd with h | h
  · exact ha d h
  · exact hb d h
theorem three_map (gs : List FV) : three (gs.map FV.cs) := fun d hd => by
  obtain ⟨g, _, rfl⟩ := List.mem_map.1 hd
  rfl

def zcs : List Value := [.slice none 0 0, .slice none 0 0, .int .i64 0]
theorem made3 (n : Nat) : (madeCells #[.slice none 0 0, .slice none 0 0, .int .i64 0] (n * 3)).toList = (List.replicate n zcs).flatten := by
  apply List.ext_getElem?
  intro j
  have hl := flat_len (List.replicate n zcs) (three_rep n zcs rfl)
  rw [List.length_replicate] at hl
  by_cases hj : j < n * 3
  · have hk : j / 3 < n := by omega
    have e := flat_get (List.replicate n zcs) (j / 3) (j % 3) (three_rep n zcs rfl) (by omega)
    have e2 : j / 3 * 3 + j % 3 = j := by omega
    rw [e2] at e
    rw [e, List.getElem?_replicate, if_pos hk]
    have hm : j % 3 < 3 := by omega
    simp only [madeCells, Option.getD_some]
    simp [hj]
    match j % 3, hm with
    | 0, _ => rfl
    | 1, _ => rfl
    | 2, _ => rfl
  · have h1 : (madeCells #[.slice none 0 0, .slice none 0 0, .int .i64 0] (n * 3)).toList.length ≤ j := by
      rw [Array.length_toList, size_madeCells]; omega
    have h2 : (List.replicate n zcs).flatten.length ≤ j := by omega
    rw [List.getElem?_eq_none h1, List.getElem?_eq_none h2]

/-- Block B holds the chunks; the forms' lists lie in blocks p i and q i, each behind those ahead of it, from lo on. -/
structure MF (W : World) (B lo : Nat) (cs : List (List Value)) (gs : List FV) (p q : Nat → Nat) : Prop where
  c : W.heap[B]? = some (.cells cs.flatten.toArray 46 (0, 0))
  t : three cs
  l : ∀ i, i < gs.length → cs[i]? = some (gs[i]?.getD noFV).cs ∧ (gs[i]?.getD noFV).a = some ⟨p i, 0, none⟩ ∧ (gs[i]?.getD noFV).c = some ⟨q i, 0, none⟩ ∧ Blk W (p i) (gs[i]?.getD noFV).C ∧ Blk W (q i) (gs[i]?.getD noFV).D ∧ (gs[i]?.getD noFV).C.length = (gs[i]?.getD noFV).n ∧ (gs[i]?.getD noFV).D.length = (gs[i]?.getD noFV).m ∧ (gs[i]?.getD noFV).n ≤ 1048576 ∧ (gs[i]?.getD noFV).m ≤ 1048576 ∧ lo ≤ p i ∧ p i < q i ∧ q i < W.heap.size ∧ ∀ j, j < i → q j < p i
  b : B < lo
  s : lo ≤ W.heap.size
theorem MF.below {W W' : World} {B lo : Nat} {cs : List (List Value)} {gs : List FV} {p q : Nat → Nat} (h : MF W B lo cs gs p q) (b : Below W.heap.size W W') : MF W' B lo cs gs p q := by
  refine ⟨by rw [b.block B (lt_of_block h.c)]; exact h.c, h.t, fun i hi => ?_, h.b, Nat.le_trans h.s b.size⟩
  obtain ⟨a1, a2, a3, a4, a5, a6, a7, a8, a9, a10, a11, a12, a13⟩ := h.l i hi
  have := b.size
  exact ⟨a1, a2, a3, a4.below b, a5.below b, a6, a7, a8, a9, a10, a11, by omega, a13⟩
theorem MF.cell {W : World} {B lo : Nat} {cs : List (List Value)} {gs : List FV} {p q : Nat → Nat} (h : MF W B lo cs gs p q) (k r : Nat) (hr : r < 3) : W.cell? ⟨B, k * 3 + r, none⟩ = (cs[k]?.getD [])[r]? := by
  have hc := h.c
  rw [← flat_get cs k r h.t hr]
  simp [World.cell?, hc]
theorem MF.free {W : World} {B lo : Nat} {cs : List (List Value)} {gs : List FV} {p q : Nat → Nat} (h : MF W B lo cs gs p q) (i : Nat) : W.frozen? ⟨B, i, none⟩ = false := by
  have hc := h.c
  simp [World.frozen?, hc]
theorem MF.g {W : World} {B lo : Nat} {cs : List (List Value)} {gs : List FV} {p q : Nat → Nat} (h : MF W B lo cs gs p q) : FormsG W (some ⟨B, 0, none⟩) gs := by
  intro i hi
  obtain ⟨a1, a2, a3, a4, a5, a6, a7, a8, a9, _⟩ := h.l i hi
  have c0 := h.cell i 0 (by omega)
  have c1 := h.cell i 1 (by omega)
  have c2 := h.cell i 2 (by omega)
  rw [a1] at c0 c1 c2
  refine ⟨B, 0, rfl, by rw [Nat.zero_add]; exact c0, by rw [Nat.zero_add]; exact c1, by rw [Nat.zero_add]; exact c2, ⟨?_, ?_, a8, a9⟩⟩
  · rw [a2, ← a6]; exact a4.ints
  · rw [a3, ← a7]; exact a5.ints

/-- One form more is laid. -/
theorem MF.step {W W1 : World} {B lo k P Q : Nat} {cs : List (List Value)} {gs : List FV} {p q : Nat → Nat} {C D : List Int} {n m : Nat} {K : Int} (h : MF W B lo cs gs p q) (hk : gs.length = k) (hkN : k < cs.length) (b : Below W.heap.size W W1) (hP : W.heap.size ≤ P) (hPQ : P < Q) (k1 : Blk W1 P C) (k2 : Blk W1 Q D) (hC : C.length = n) (hD : D.length = m) (hn : n ≤ 1048576) (hm : m ≤ 1048576) :
    MF (((W1.setCell ⟨B, k * 3, none⟩ (.slice (some ⟨P, 0, none⟩) n n)).setCell ⟨B, k * 3 + 1, none⟩ (.slice (some ⟨Q, 0, none⟩) m m)).setCell ⟨B, k * 3 + 2, none⟩ (.int .i64 K)) B lo (cs.set k [.slice (some ⟨P, 0, none⟩) n n, .slice (some ⟨Q, 0, none⟩) m m, .int .i64 K]) (gs ++ [⟨some ⟨P, 0, none⟩, n, n, some ⟨Q, 0, none⟩, m, m, K, C, D⟩]) (fun i => if i = k then P else p i) (fun i => if i = k then Q else q i) := by
  have h1 := h.below b
  have hB := lt_of_block h.c
  have hlo := h.b
  have hQl := k2.lt
  have hs : ∀ (x : Nat) (o : Option Obj), x ≠ B → W1.heap[x]? = o → (((W1.setCell ⟨B, k * 3, none⟩ (.slice (some ⟨P, 0, none⟩) n n)).setCell ⟨B, k * 3 + 1, none⟩ (.slice (some ⟨Q, 0, none⟩) m m)).setCell ⟨B, k * 3 + 2, none⟩ (.int .i64 K)).heap[x]? = o := fun x o hx ho => by
    rw [Below.heap_setCell _ _ _ _ hx, Below.heap_setCell _ _ _ _ hx, Below.heap_setCell _ _ _ _ hx]; exact ho
  refine ⟨?_, ?_, fun i hi => ?_, h.b, by rw [size_setCell, size_setCell, size_setCell]; exact h1.s⟩
  · have e1 := heap_setCell_same W1 B (k * 3) _ _ (.slice (some ⟨P, 0, none⟩) n n) h1.c
    have e2 := heap_setCell_same _ B (k * 3 + 1) _ _ (.slice (some ⟨Q, 0, none⟩) m m) e1
    have e3 := heap_setCell_same _ B (k * 3 + 2) _ _ (.int .i64 K) e2
    rw [e3]
    simp only [List.setIfInBounds_toArray]
    rw [flat_set cs k _ _ _ h.t hkN]
  · intro d hd
    rcases List.mem_or_eq_of_mem_set hd with h2 | h2
    · exact h.t d h2
    · rw [h2]; rfl
  · rw [List.length_append, hk] at hi
    simp only [List.length_cons, List.length_nil] at hi
    by_cases e : i = k
    · subst e
      rw [List.getElem?_append_right (by omega), hk]
      simp only [Nat.sub_self, List.getElem?_cons_zero, Option.getD_some, if_true]
      refine ⟨by rw [List.getElem?_set_self hkN]; rfl, trivial, trivial, hs P _ (by omega) k1, hs Q _ (by omega) k2, hC, hD, hn, hm, by have := h.s; omega, hPQ, by rw [size_setCell, size_setCell, size_setCell]; exact hQl, fun j hj => ?_⟩
      rw [if_neg (by omega)]
      obtain ⟨_, _, _, _, _, _, _, _, _, _, _, a12, _⟩ := h.l j (by omega)
      omega
    · rw [List.getElem?_append_left (by omega)]
      obtain ⟨a1, a2, a3, a4, a5, a6, a7, a8, a9, a10, a11, a12, a13⟩ := h1.l i (by omega)
      simp only [if_neg e]
      refine ⟨by rw [List.getElem?_set_ne (by omega)]; exact a1, a2, a3, hs _ _ (by omega) a4, hs _ _ (by omega) a5, a6, a7, a8, a9, a10, a11, by rw [size_setCell, size_setCell, size_setCell]; exact a12, fun j hj => ?_⟩
      rw [if_neg (by omega)]
      exact a13 j hj

/-- A copy of a form holds what the form holds. -/
def copies (fs gs : List FV) : Prop := ∀ i, i < gs.length → (gs[i]?.getD noFV).C = (fs[i]?.getD noFV).C ∧ (gs[i]?.getD noFV).D = (fs[i]?.getD noFV).D ∧ (gs[i]?.getD noFV).K = (fs[i]?.getD noFV).K ∧ (gs[i]?.getD noFV).n = (fs[i]?.getD noFV).n ∧ (gs[i]?.getD noFV).m = (fs[i]?.getD noFV).m

theorem Tryd.infoForm : (Tryd.prog.info? 46).map (fun i => (i.zero, i.size, i.bytes)) = some (some (.agg #[.slice none 0 0, .slice none 0 0, .int .i64 0]), 3, 56) := by kernel_rfl

end Go.Proofs.YtmhhphpihnkfpaaDoor
