/-
  What a site has told: the size, a copy, one held against another. Lengths at most 1048576 where one is copied.
-/
import Derived.Test.YtgiemeiilagfeaaForms
import Derived.Test.YtgiemeiilagfeaaIntSS
namespace Go.Proofs.Ytgiemeiilagfeaa
open Go.ChangeShapes Go.WideShapes Go.ChangeAt Go.RowKit Go.Joins Go.Deep
set_option linter.unusedVariables false
set_option maxRecDepth 100000

/-- One of them, and what it holds. -/
structure GV where
  h : Bool
  t : IV
  u : IV
def noG : GV := ⟨false, noI, noI⟩
def GV.cs (f : GV) : List Value := [.bool f.h, IV.v f.t, IV.v f.u]
def GM (w : World) (f : GV) : Prop := IM w f.t ∧ IM w f.u ∧ True
def GG (w : World) (f : GV) : Prop := IG w f.t ∧ IG w f.u ∧ True
def GZ (f : GV) : Prop := IS f.t ∧ IS f.u ∧ True
def GK (w : World) (lo : Nat) (f : GV) : Prop := IK w lo f.t ∧ IK w lo f.u ∧ True
def copiesG (f g : GV) : Prop := g.h = f.h ∧ copiesI f.t g.t ∧ copiesI f.u g.u ∧ True
def sameG (f g : GV) : Prop := f.h = g.h ∧ sameI f.t g.t ∧ sameI f.u g.u ∧ True
theorem GM.below {w w' : World} {f : GV} (h : GM w f) (hb : Below w.heap.size w w') : GM w' f := ⟨h.1.below hb, h.2.1.below hb, trivial⟩
theorem GG.below {w w' : World} {f : GV} (h : GG w f) (hb : Below w.heap.size w w') : GG w' f := ⟨h.1.below hb, h.2.1.below hb, trivial⟩
theorem GM.g {w : World} {f : GV} (h : GM w f) (hs : GZ f) : GG w f := ⟨(h.1).g hs.1, (h.2.1).g hs.2.1, trivial⟩
theorem GK.below {w w' : World} {lo : Nat} {f : GV} (h : GK w lo f) (hb : Below w.heap.size w w') : GK w' lo f := ⟨h.1.below hb, h.2.1.below hb, trivial⟩
theorem GK.touch {S : Nat → Prop} {w w' : World} {lo : Nat} {f : GV} (h : GK w lo f) (t : Touch S w w') (hs : ∀ k, S k → k < lo) : GK w' lo f := ⟨h.1.touch t hs, h.2.1.touch t hs, trivial⟩
theorem GK.mono {w : World} {lo lo' : Nat} {f : GV} (h : GK w lo f) (hl : lo' ≤ lo) : GK w lo' f := ⟨h.1.mono hl, h.2.1.mono hl, trivial⟩
theorem GK.g {w : World} {lo : Nat} {f : GV} (h : GK w lo f) : GG w f := ⟨h.1.g, h.2.1.g, trivial⟩

/-- What was told, as a value. -/
abbrev gtV (h : Bool) (a : Option Addr) (n cap : Nat) (c : Option Addr) (m cap' : Nat) : Value := .agg #[.bool h, .slice a n cap, .slice c m cap']

end Go.Proofs.Ytgiemeiilagfeaa
