/-
  A call among others: the size, a copy, one held against another. Lengths at most 1048576 where one is copied.
-/
import Derived.Test.YtpmihhbgjimpmaaGreatDoorCallP
import Derived.Test.YtpmihhbgjimpmaaGreatDoorIntSS
namespace Go.Proofs.YtpmihhbgjimpmaaGreatDoor
open Go.ChangeShapes Go.WideShapes Go.ChangeAt Go.RowKit Go.Joins Go.Deep
set_option linter.unusedVariables false
set_option maxRecDepth 100000

/-- One of them, and what it holds. -/
structure QV where
  x : Int
  q : Int
  c : Int
  t : IV
def noQ : QV := ⟨0, 0, 0, noI⟩
def QV.cs (f : QV) : List Value := [.int .i64 f.x, .int .i64 f.q, .int .i64 f.c, IV.v f.t]
def QM (w : World) (f : QV) : Prop := IM w f.t ∧ True
def QG (w : World) (f : QV) : Prop := IG w f.t ∧ True
def QZ (f : QV) : Prop := IS f.t ∧ True
def QK (w : World) (lo : Nat) (f : QV) : Prop := IK w lo f.t ∧ True
def copiesQ (f g : QV) : Prop := g.x = f.x ∧ g.q = f.q ∧ g.c = f.c ∧ copiesI f.t g.t ∧ True
def sameQ (f g : QV) : Prop := f.x = g.x ∧ f.q = g.q ∧ f.c = g.c ∧ sameI f.t g.t ∧ True
theorem QM.below {w w' : World} {f : QV} (h : QM w f) (hb : Below w.heap.size w w') : QM w' f := ⟨h.1.below hb, trivial⟩
theorem QG.below {w w' : World} {f : QV} (h : QG w f) (hb : Below w.heap.size w w') : QG w' f := ⟨h.1.below hb, trivial⟩
theorem QM.g {w : World} {f : QV} (h : QM w f) (hs : QZ f) : QG w f := ⟨(h.1).g hs.1, trivial⟩
theorem QK.below {w w' : World} {lo : Nat} {f : QV} (h : QK w lo f) (hb : Below w.heap.size w w') : QK w' lo f := ⟨h.1.below hb, trivial⟩
theorem QK.touch {S : Nat → Prop} {w w' : World} {lo : Nat} {f : QV} (h : QK w lo f) (t : Touch S w w') (hs : ∀ k, S k → k < lo) : QK w' lo f := ⟨h.1.touch t hs, trivial⟩
theorem QK.mono {w : World} {lo lo' : Nat} {f : QV} (h : QK w lo f) (hl : lo' ≤ lo) : QK w lo' f := ⟨h.1.mono hl, trivial⟩
theorem QK.g {w : World} {lo : Nat} {f : QV} (h : QK w lo f) : QG w f := ⟨h.1.g, trivial⟩

theorem open_cells4 {H : Type} {enc : TypeId × Value → H} {W : World} {fuel : Nat} {t : TypeId} {f0 f1 f2 f3 : Field} {cs : List Value} {x : DataW H × List MemPlace} (hs : Tryz.prog.underlying t = some (.struct #[f0, f1, f2, f3])) (hone : oneCellFields Tryz.prog #[f0, f1, f2, f3] = true) (hC : Tryz.prog.cellsOf t = 4)
    (hf : DataW.trod enc Tryz.prog W 0 (fun _ => true) true fuel t cs = some x) :
    ∃ v0 v1 v2 v3 y0 y1 y2 y3 n, cs = [v0, v1, v2, v3] ∧ DataW.trod enc Tryz.prog W 0 (fun _ => true) true n f0.type [v0] = some y0 ∧ DataW.trod enc Tryz.prog W 0 (fun _ => true) true n f1.type [v1] = some y1 ∧ DataW.trod enc Tryz.prog W 0 (fun _ => true) true n f2.type [v2] = some y2 ∧ DataW.trod enc Tryz.prog W 0 (fun _ => true) true n f3.type [v3] = some y3 := by
  obtain ⟨y0, y1, y2, y3, n, _, hl, h0, h1, h2, h3⟩ := trod_struct4 hs hf
  obtain ⟨o0, k0⟩ := hone_of hone 0 f0 rfl
  obtain ⟨o1, k1⟩ := hone_of hone 1 f1 rfl
  obtain ⟨o2, k2⟩ := hone_of hone 2 f2 rfl
  obtain ⟨o3, k3⟩ := hone_of hone 3 f3 rfl
  have hl' : cs.length = 4 := hl.trans hC
  match cs, hl' with
  | [c0, c1, c2, c3], _ => exact ⟨c0, c1, c2, c3, y0, y1, y2, y3, n, rfl, by simpa [o0, k0] using h0, by simpa [o1, k1] using h1, by simpa [o2, k2] using h2, by simpa [o3, k3] using h3⟩

theorem open_QC {H : Type} {enc : TypeId × Value → H} {W : World} {fuel : Nat} {cs : List Value} {x : DataW H × List MemPlace}
    (hf : DataW.trod enc Tryz.prog W 0 (fun _ => true) true fuel 120 cs = some x) :
    ∃ f : QV, cs = f.cs ∧ QM W f := by
  obtain ⟨v0, v1, v2, v3, y0, y1, y2, y3, k, rfl, h0, h1, h2, h3⟩ := open_cells4 Tryz.underlying120 (by kernel_rfl) (by kernel_rfl) hf
  obtain ⟨x, rfl, _⟩ := open_num h0
  obtain ⟨q, rfl, _⟩ := open_num h1
  obtain ⟨c, rfl, _⟩ := open_num h2
  obtain ⟨a, m, cap, C, rfl, hC, hm⟩ := open_row h3
  exact ⟨⟨x, q, c, ⟨a, m, cap, C⟩⟩, rfl, ⟨hC, hm⟩, trivial⟩

theorem szQ_ex (x q c : Int) (ta : Option Addr) (tn tc : Nat) (tx : List Int) (l : Int) (w : World) (h : QM w ⟨x, q, c, ⟨ta, tn, tc, tx⟩⟩) (h0 : 0 ≤ l) (hl : l ≤ 1048576) :
    Calls Tryz.prog 117 #[clV x q c ta tn tc, .int .i64 l] w fun e w' => ∃ r, e = .returned (.int .i64 r) ∧ -1 ≤ r ∧ r ≤ 1048576 ∧ (0 ≤ r → QZ ⟨x, q, c, ⟨ta, tn, tc, tx⟩⟩) ∧ Below w.heap.size w w' := by
  refine (szC_any x q c ta tn tc l w h.1.2 h0 hl).mono ?_
  rintro e w' ⟨rfl, b⟩
  refine ⟨_, rfl, leftOf_ge _ _, ?_, fun hr => ?_, b⟩
  · by_cases hh : 0 ≤ leftOf l tn
    · have := leftOf_le hh; omega
    · omega
  · have := leftOf_le hr
    exact ⟨by show tn ≤ 1048576; omega, trivial⟩

theorem toQ_ex (x q c : Int) (ta : Option Addr) (tn tc : Nat) (tx : List Int) (w : World) (h : QG w ⟨x, q, c, ⟨ta, tn, tc, tx⟩⟩) :
    Calls Tryz.prog 120 #[clV x q c ta tn tc] w fun e w' => ∃ Pt Qt, e = .returned (clV x q c Pt tn tn) ∧ Below w.heap.size w w' ∧ QK w' w.heap.size ⟨x, q, c, ⟨Pt, tn, tn, Qt⟩⟩ ∧ copiesQ ⟨x, q, c, ⟨ta, tn, tc, tx⟩⟩ ⟨x, q, c, ⟨Pt, tn, tn, Qt⟩⟩ := by
  refine (toC_any x q c ta tn tc tx w h.1.1 h.1.2).mono ?_
  rintro e w' ⟨B1, rfl, b, lB, k⟩
  exact ⟨_, tx, rfl, b, ⟨⟨B1, rfl, lB, k, h.1.1.1, h.1.2⟩, trivial⟩, rfl, rfl, rfl, ⟨rfl, rfl⟩, trivial⟩

theorem eqQ_ex (x q c : Int) (ta : Option Addr) (tn tc : Nat) (tx : List Int) (x' q' c' : Int) (ta' : Option Addr) (tn' tc' : Nat) (tx' : List Int) (w : World) (h : QG w ⟨x, q, c, ⟨ta, tn, tc, tx⟩⟩) (h' : QG w ⟨x', q', c', ⟨ta', tn', tc', tx'⟩⟩) (hs : sameQ ⟨x, q, c, ⟨ta, tn, tc, tx⟩⟩ ⟨x', q', c', ⟨ta', tn', tc', tx'⟩⟩) :
    Calls Tryz.prog 123 #[clV x q c ta tn tc, clV x' q' c' ta' tn' tc'] w fun e w' => e = .returned (.bool true) ∧ Below w.heap.size w w' := by
  obtain ⟨e1, e2, e3, e4, -⟩ := hs
  have e1' : x = x' := e1
  have e2' : q = q' := e2
  have e3' : c = c' := e3
  have e4' : tx = tx' := e4
  have hI : Ints w ta tn tx := h.1.1
  have hI' : Ints w ta' tn' tx' := h'.1.1
  have en : tn = tn' := by rw [← hI.1, ← hI'.1, e4']
  have hz : tn ≤ 1048576 := h.1.2
  clear h h' e1 e2 e3 e4
  subst e1' e2' e3' e4' en
  exact eqC_same x q c ta tn tc ta' tc' tx w hI hI' hz

end Go.Proofs.YtpmihhbgjimpmaaGreatDoor
