/-
  What came of an act, among others: one held against another. Lengths at most 1048576.
-/
import Derived.Test.YtpmihhbgjimpmaaGreatDoorDonE
namespace Go.Proofs.YtpmihhbgjimpmaaGreatDoor
open Go.ChangeShapes Go.WideShapes Go.ChangeAt Go.RowKit Go.Joins Go.Deep
set_option linter.unusedVariables false
set_option maxRecDepth 100000

/-- One of them, and what it holds. -/
structure RsV where
  c : Int
  t : IV
def noRs : RsV := ⟨0, noI⟩
def RsV.cs (f : RsV) : List Value := [.int .i64 f.c, IV.v f.t]
def RsM (w : World) (f : RsV) : Prop := IM w f.t ∧ True
def RsG (w : World) (f : RsV) : Prop := IG w f.t ∧ True
def RsZ (f : RsV) : Prop := IS f.t ∧ True
def RsK (w : World) (lo : Nat) (f : RsV) : Prop := IK w lo f.t ∧ True
def copiesRs (f g : RsV) : Prop := g.c = f.c ∧ copiesI f.t g.t ∧ True
def sameRs (f g : RsV) : Prop := f.c = g.c ∧ sameI f.t g.t ∧ True
theorem RsM.below {w w' : World} {f : RsV} (h : RsM w f) (hb : Below w.heap.size w w') : RsM w' f := ⟨h.1.below hb, trivial⟩
theorem RsG.below {w w' : World} {f : RsV} (h : RsG w f) (hb : Below w.heap.size w w') : RsG w' f := ⟨h.1.below hb, trivial⟩
theorem RsM.g {w : World} {f : RsV} (h : RsM w f) (hs : RsZ f) : RsG w f := ⟨(h.1).g hs.1, trivial⟩
theorem RsK.below {w w' : World} {lo : Nat} {f : RsV} (h : RsK w lo f) (hb : Below w.heap.size w w') : RsK w' lo f := ⟨h.1.below hb, trivial⟩
theorem RsK.touch {S : Nat → Prop} {w w' : World} {lo : Nat} {f : RsV} (h : RsK w lo f) (t : Touch S w w') (hs : ∀ k, S k → k < lo) : RsK w' lo f := ⟨h.1.touch t hs, trivial⟩
theorem RsK.mono {w : World} {lo lo' : Nat} {f : RsV} (h : RsK w lo f) (hl : lo' ≤ lo) : RsK w lo' f := ⟨h.1.mono hl, trivial⟩
theorem RsK.g {w : World} {lo : Nat} {f : RsV} (h : RsK w lo f) : RsG w f := ⟨h.1.g, trivial⟩

theorem eqRs_ex (c : Int) (ta : Option Addr) (tn tc : Nat) (tx : List Int) (c' : Int) (ta' : Option Addr) (tn' tc' : Nat) (tx' : List Int) (w : World) (h : RsG w ⟨c, ⟨ta, tn, tc, tx⟩⟩) (h' : RsG w ⟨c', ⟨ta', tn', tc', tx'⟩⟩) (hs : sameRs ⟨c, ⟨ta, tn, tc, tx⟩⟩ ⟨c', ⟨ta', tn', tc', tx'⟩⟩) :
    Calls Tryz.prog 79 #[resP c ta tn tc, resP c' ta' tn' tc'] w fun e w' => e = .returned (.bool true) ∧ Below w.heap.size w w' := by
  obtain ⟨e1, e2, -⟩ := hs
  have e1' : c = c' := e1
  have e2' : tx = tx' := e2
  have hI : Ints w ta tn tx := h.1.1
  have hI' : Ints w ta' tn' tx' := h'.1.1
  have en : tn = tn' := by rw [← hI.1, ← hI'.1, e2']
  have hz : tn ≤ 1048576 := h.1.2
  clear h h' e1 e2
  subst e1' e2' en
  exact eqR_same c ta tn tc ta' tc' tx w hI hI' hz

end Go.Proofs.YtpmihhbgjimpmaaGreatDoor
