/-
  What was done for a client: the size, a copy, one held against another. Lengths at most 1048576 where one is copied.
-/
import Derived.Test.YtpmihhbgjimpmaaGreatDoorResP
import Derived.Test.YtpmihhbgjimpmaaGreatDoorIntSS
namespace Go.Proofs.YtpmihhbgjimpmaaGreatDoor
open Go.ChangeShapes Go.WideShapes Go.ChangeAt Go.RowKit Go.Joins Go.Deep
set_option linter.unusedVariables false
set_option maxRecDepth 100000

/-- One of them, and what it holds. -/
structure DV where
  q : Int
  c : Int
  t : IV
def noD : DV := ⟨0, 0, noI⟩
def DV.cs (f : DV) : List Value := [.int .i64 f.q, .int .i64 f.c, IV.v f.t]
def DM (w : World) (f : DV) : Prop := IM w f.t ∧ True
def DG (w : World) (f : DV) : Prop := IG w f.t ∧ True
def DZ (f : DV) : Prop := IS f.t ∧ True
def DK (w : World) (lo : Nat) (f : DV) : Prop := IK w lo f.t ∧ True
def copiesD (f g : DV) : Prop := g.q = f.q ∧ g.c = f.c ∧ copiesI f.t g.t ∧ True
def sameD (f g : DV) : Prop := f.q = g.q ∧ f.c = g.c ∧ sameI f.t g.t ∧ True
theorem DM.below {w w' : World} {f : DV} (h : DM w f) (hb : Below w.heap.size w w') : DM w' f := ⟨h.1.below hb, trivial⟩
theorem DG.below {w w' : World} {f : DV} (h : DG w f) (hb : Below w.heap.size w w') : DG w' f := ⟨h.1.below hb, trivial⟩
theorem DM.g {w : World} {f : DV} (h : DM w f) (hs : DZ f) : DG w f := ⟨(h.1).g hs.1, trivial⟩
theorem DK.below {w w' : World} {lo : Nat} {f : DV} (h : DK w lo f) (hb : Below w.heap.size w w') : DK w' lo f := ⟨h.1.below hb, trivial⟩
theorem DK.touch {S : Nat → Prop} {w w' : World} {lo : Nat} {f : DV} (h : DK w lo f) (t : Touch S w w') (hs : ∀ k, S k → k < lo) : DK w' lo f := ⟨h.1.touch t hs, trivial⟩
theorem DK.mono {w : World} {lo lo' : Nat} {f : DV} (h : DK w lo f) (hl : lo' ≤ lo) : DK w lo' f := ⟨h.1.mono hl, trivial⟩
theorem DK.g {w : World} {lo : Nat} {f : DV} (h : DK w lo f) : DG w f := ⟨h.1.g, trivial⟩

/-- What was done, as a value. -/
abbrev doV (s c : Int) (a : Option Addr) (n cap : Nat) : Value := .agg #[.int .i64 s, .int .i64 c, .slice a n cap]

theorem open_cells2 {H : Type} {enc : TypeId × Value → H} {W : World} {fuel : Nat} {t : TypeId} {f0 f1 : Field} {cs : List Value} {x : DataW H × List MemPlace} (hs : Tryz.prog.underlying t = some (.struct #[f0, f1])) (hone : oneCellFields Tryz.prog #[f0, f1] = true) (hC : Tryz.prog.cellsOf t = 2)
    (hf : DataW.trod enc Tryz.prog W 0 (fun _ => true) true fuel t cs = some x) :
    ∃ v0 v1 y0 y1 n, cs = [v0, v1] ∧ DataW.trod enc Tryz.prog W 0 (fun _ => true) true n f0.type [v0] = some y0 ∧ DataW.trod enc Tryz.prog W 0 (fun _ => true) true n f1.type [v1] = some y1 := by
  obtain ⟨y0, y1, n, _, hl, h0, h1⟩ := trod_struct2 hs hf
  obtain ⟨o0, k0⟩ := hone_of hone 0 f0 rfl
  obtain ⟨o1, k1⟩ := hone_of hone 1 f1 rfl
  have hl' : cs.length = 2 := hl.trans hC
  match cs, hl' with
  | [c0, c1], _ => exact ⟨c0, c1, y0, y1, n, rfl, by simpa [o0, k0] using h0, by simpa [o1, k1] using h1⟩

end Go.Proofs.YtpmihhbgjimpmaaGreatDoor
