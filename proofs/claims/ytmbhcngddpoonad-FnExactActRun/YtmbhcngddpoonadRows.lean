/-
  No cell of these rows narrows 'for every input' (looked for: loops, veiled, ifaces, maps, wideKeys, modest, calm, conditions, laid).
  DERIVED. THE GIVEN ROWS OF THIS SEAT. 6 by the template 'for every input the law returns true; each argument reads behind the call as it read before'; 0 by the template 'total and deterministic' (their statements: YtmbhcngddpoonadTotals.lean).
  GIVEN WITH THE SEED: the statements are not yours to turn. If you find one false, say at which input.
  Laid BY PROGRAM, IN A SANDBOX (cutbox-rows.mjs): the forced cells as the released guide's own fill.sh prints them over the translation 42ae48612e137676… (all of the seat's roots in one cut). By AI agents, Wed Nov 11 2026. No macro, syntax, notation, axiom, sorry.
-/
import Derived.Test.YtmbhcngddpoonadChecked
import GoSem.Claim
import GoSem.ClaimJoined
import GoSem.ClaimMapViews
import Derived.JoinedTies
import Derived.KernelRfl
namespace Go.Proofs.Ytmbhcngddpoonad
/- THE CELL 'sum', in the pinned program and in every row, IS THE sha256 OF THE DUMP (.gsa) THAT YtmbhcngddpoonadProg.lean LOADS. Nothing in Lean hashes anything: it is a label: what it is worth is what the hold of that sum in a sandbox is worth. -/
noncomputable def Try.pinned : Pinned := { name := "ytmbhcngddpoonad", sum := "42ae48612e1376761eedb9feb457bdd0f456ab34507512f723d1861fc265175f", checked := Try.checked }
namespace Rows
def none {H : Type} : Left H := { results := [], args := [] }

/-- 'laws.FnExactFrmAt': WHATEVER THE INPUT: true; the input reads as it did. -/
def fnExactFrmAtSpec : ChangeSpec := { name := "fnExactFrmAt", fn := fun _ => fun
  | [d1, d2, d3] => { results := [.lit (.bool true)], args := [d1, d2, d3] }
  | _ => none }
def fnExactFrmAtRow : OpenClaim := { program := "ytmbhcngddpoonad", sum := "42ae48612e1376761eedb9feb457bdd0f456ab34507512f723d1861fc265175f", func := "loop.example/concord/laws.FnExactFrmAt", spec := "fnExactFrmAt", apart := false }
def FnExactFrmAtSaid : Prop := fnExactFrmAtRow.holds Try.pinned (OpenSpec.ofChange fnExactFrmAtSpec)

/-- ITS FALSE NEIGHBOUR: 'it returns false'. Refute it at one input. -/
def fnExactFrmAtWrong : ChangeSpec := { name := "fnExactFrmAt", fn := fun _ => fun
  | [d1, d2, d3] => { results := [.lit (.bool false)], args := [d1, d2, d3] }
  | _ => none }
def FnExactFrmAtWrongFalsely : Prop := fnExactFrmAtRow.holds Try.pinned (OpenSpec.ofChange fnExactFrmAtWrong)

/-- 'laws.FnExactFrmInto': WHATEVER THE INPUT: true; the input reads as it did. -/
def fnExactFrmIntoSpec : ChangeSpec := { name := "fnExactFrmInto", fn := fun _ => fun
  | [d1, d2] => { results := [.lit (.bool true)], args := [d1, d2] }
  | _ => none }
def fnExactFrmIntoRow : OpenClaim := { program := "ytmbhcngddpoonad", sum := "42ae48612e1376761eedb9feb457bdd0f456ab34507512f723d1861fc265175f", func := "loop.example/concord/laws.FnExactFrmInto", spec := "fnExactFrmInto", apart := false }
def FnExactFrmIntoSaid : Prop := fnExactFrmIntoRow.holds Try.pinned (OpenSpec.ofChange fnExactFrmIntoSpec)

/-- ITS FALSE NEIGHBOUR: 'it returns false'. Refute it at one input. -/
def fnExactFrmIntoWrong : ChangeSpec := { name := "fnExactFrmInto", fn := fun _ => fun
  | [d1, d2] => { results := [.lit (.bool false)], args := [d1, d2] }
  | _ => none }
def FnExactFrmIntoWrongFalsely : Prop := fnExactFrmIntoRow.holds Try.pinned (OpenSpec.ofChange fnExactFrmIntoWrong)

/-- 'laws.FnExactActOk': WHATEVER THE INPUT: true; the input reads as it did. -/
def fnExactActOkSpec : ChangeSpec := { name := "fnExactActOk", fn := fun _ => fun
  | [d] => { results := [.lit (.bool true)], args := [d] }
  | _ => none }
def fnExactActOkRow : OpenClaim := { program := "ytmbhcngddpoonad", sum := "42ae48612e1376761eedb9feb457bdd0f456ab34507512f723d1861fc265175f", func := "loop.example/concord/laws.FnExactActOk", spec := "fnExactActOk", apart := false }
def FnExactActOkSaid : Prop := fnExactActOkRow.holds Try.pinned (OpenSpec.ofChange fnExactActOkSpec)

/-- ITS FALSE NEIGHBOUR: 'it returns false'. Refute it at one input. -/
def fnExactActOkWrong : ChangeSpec := { name := "fnExactActOk", fn := fun _ => fun
  | [d] => { results := [.lit (.bool false)], args := [d] }
  | _ => none }
def FnExactActOkWrongFalsely : Prop := fnExactActOkRow.holds Try.pinned (OpenSpec.ofChange fnExactActOkWrong)

/-- 'laws.FnExactActRun': WHATEVER THE INPUT: true; the input reads as it did. -/
def fnExactActRunSpec : ChangeSpec := { name := "fnExactActRun", fn := fun _ => fun
  | [d1, d2, d3] => { results := [.lit (.bool true)], args := [d1, d2, d3] }
  | _ => none }
def fnExactActRunRow : OpenClaim := { program := "ytmbhcngddpoonad", sum := "42ae48612e1376761eedb9feb457bdd0f456ab34507512f723d1861fc265175f", func := "loop.example/concord/laws.FnExactActRun", spec := "fnExactActRun", unfollowed := true, recurses := true, apart := false }
def FnExactActRunSaid : Prop := fnExactActRunRow.holds Try.pinned (OpenSpec.ofChange fnExactActRunSpec)

/-- ITS FALSE NEIGHBOUR: 'it returns false'. Refute it at one input. -/
def fnExactActRunWrong : ChangeSpec := { name := "fnExactActRun", fn := fun _ => fun
  | [d1, d2, d3] => { results := [.lit (.bool false)], args := [d1, d2, d3] }
  | _ => none }
def FnExactActRunWrongFalsely : Prop := fnExactActRunRow.holds Try.pinned (OpenSpec.ofChange fnExactActRunWrong)

/-- 'laws.FnExactRowOk': WHATEVER THE INPUT: true; the input reads as it did. -/
def fnExactRowOkSpec : ChangeSpec := { name := "fnExactRowOk", fn := fun _ => fun
  | [d] => { results := [.lit (.bool true)], args := [d] }
  | _ => none }
def fnExactRowOkRow : OpenClaim := { program := "ytmbhcngddpoonad", sum := "42ae48612e1376761eedb9feb457bdd0f456ab34507512f723d1861fc265175f", func := "loop.example/concord/laws.FnExactRowOk", spec := "fnExactRowOk", apart := false }
def FnExactRowOkSaid : Prop := fnExactRowOkRow.holds Try.pinned (OpenSpec.ofChange fnExactRowOkSpec)

/-- ITS FALSE NEIGHBOUR: 'it returns false'. Refute it at one input. -/
def fnExactRowOkWrong : ChangeSpec := { name := "fnExactRowOk", fn := fun _ => fun
  | [d] => { results := [.lit (.bool false)], args := [d] }
  | _ => none }
def FnExactRowOkWrongFalsely : Prop := fnExactRowOkRow.holds Try.pinned (OpenSpec.ofChange fnExactRowOkWrong)

/-- 'laws.FnExactRowFits': WHATEVER THE INPUT: true; the input reads as it did. -/
def fnExactRowFitsSpec : ChangeSpec := { name := "fnExactRowFits", fn := fun _ => fun
  | [d1, d2, d3] => { results := [.lit (.bool true)], args := [d1, d2, d3] }
  | _ => none }
def fnExactRowFitsRow : OpenClaim := { program := "ytmbhcngddpoonad", sum := "42ae48612e1376761eedb9feb457bdd0f456ab34507512f723d1861fc265175f", func := "loop.example/concord/laws.FnExactRowFits", spec := "fnExactRowFits", apart := false }
def FnExactRowFitsSaid : Prop := fnExactRowFitsRow.holds Try.pinned (OpenSpec.ofChange fnExactRowFitsSpec)

/-- ITS FALSE NEIGHBOUR: 'it returns false'. Refute it at one input. -/
def fnExactRowFitsWrong : ChangeSpec := { name := "fnExactRowFits", fn := fun _ => fun
  | [d1, d2, d3] => { results := [.lit (.bool false)], args := [d1, d2, d3] }
  | _ => none }
def FnExactRowFitsWrongFalsely : Prop := fnExactRowFitsRow.holds Try.pinned (OpenSpec.ofChange fnExactRowFitsWrong)

/- THE SECOND FORM. 'bulk': how many values and letters a reading holds, each counted each time it is reached (what is shared counts as often as it is met; a slice's spare places count too). A statement '..UptoSaid' is the law's where the arguments, and the package variables that the reading takes, are together of bulk at most 1048576: NARROWER than '..Said'. Prove '..Said' where nothing that the law and all that it calls make is longer than what came in: it says more and counts as full. Else prove '..UptoSaid'. A law counts once. -/
mutual
def uptoBulk {H : Type} : DataW H → Nat
  | .lit (.string bytes) => bytes.length + 1
  | .lit _ => 1
  | .nil => 1
  | .ptr d => uptoBulk d + 1
  | .slice elems spare => uptoBulkAll elems + uptoBulkAll spare + 1
  | .agg parts => uptoBulkAll parts + 1
  | .iface _ d => uptoBulk d + 1
  | .map entries => uptoBulkEntries entries + 1
  | .held _ => 1
def uptoBulkAll {H : Type} : List (DataW H) → Nat
  | [] => 0
  | d :: r => uptoBulk d + uptoBulkAll r
def uptoBulkEntries {H : Type} : List (Lit × DataW H) → Nat
  | [] => 0
  | x :: r => uptoBulkEntry x + uptoBulkEntries r
def uptoBulkEntry {H : Type} : Lit × DataW H → Nat
  | (.string bytes, d) => bytes.length + uptoBulk d + 1
  | (_, d) => uptoBulk d + 1
 end
def uptoSmall : (H : Type) → List (DataW H) → Bool := fun _ ds => decide (uptoBulkAll ds ≤ 1048576)
def OpenSpec.upto (s : _root_.Go.ChangeSpec) : _root_.Go.OpenSpec := { _root_.Go.OpenSpec.ofChange s with cond := some uptoSmall }

/-- 'laws.FnExactFrmAt', WHERE WHAT IT READS IS OF BULK AT MOST 1048576: true; the input reads as it did. -/
def fnExactFrmAtUptoRow : OpenClaim := { program := "ytmbhcngddpoonad", sum := "42ae48612e1376761eedb9feb457bdd0f456ab34507512f723d1861fc265175f", func := "loop.example/concord/laws.FnExactFrmAt", spec := "fnExactFrmAt", apart := false, narrowed := true }
def FnExactFrmAtUptoSaid : Prop := fnExactFrmAtUptoRow.holds Try.pinned (OpenSpec.upto fnExactFrmAtSpec)

/-- 'laws.FnExactFrmInto', WHERE WHAT IT READS IS OF BULK AT MOST 1048576: true; the input reads as it did. -/
def fnExactFrmIntoUptoRow : OpenClaim := { program := "ytmbhcngddpoonad", sum := "42ae48612e1376761eedb9feb457bdd0f456ab34507512f723d1861fc265175f", func := "loop.example/concord/laws.FnExactFrmInto", spec := "fnExactFrmInto", apart := false, narrowed := true }
def FnExactFrmIntoUptoSaid : Prop := fnExactFrmIntoUptoRow.holds Try.pinned (OpenSpec.upto fnExactFrmIntoSpec)

/-- 'laws.FnExactActOk', WHERE WHAT IT READS IS OF BULK AT MOST 1048576: true; the input reads as it did. -/
def fnExactActOkUptoRow : OpenClaim := { program := "ytmbhcngddpoonad", sum := "42ae48612e1376761eedb9feb457bdd0f456ab34507512f723d1861fc265175f", func := "loop.example/concord/laws.FnExactActOk", spec := "fnExactActOk", apart := false, narrowed := true }
def FnExactActOkUptoSaid : Prop := fnExactActOkUptoRow.holds Try.pinned (OpenSpec.upto fnExactActOkSpec)

/-- 'laws.FnExactActRun', WHERE WHAT IT READS IS OF BULK AT MOST 1048576: true; the input reads as it did. -/
def fnExactActRunUptoRow : OpenClaim := { program := "ytmbhcngddpoonad", sum := "42ae48612e1376761eedb9feb457bdd0f456ab34507512f723d1861fc265175f", func := "loop.example/concord/laws.FnExactActRun", spec := "fnExactActRun", unfollowed := true, recurses := true, apart := false, narrowed := true }
def FnExactActRunUptoSaid : Prop := fnExactActRunUptoRow.holds Try.pinned (OpenSpec.upto fnExactActRunSpec)

/-- 'laws.FnExactRowOk', WHERE WHAT IT READS IS OF BULK AT MOST 1048576: true; the input reads as it did. -/
def fnExactRowOkUptoRow : OpenClaim := { program := "ytmbhcngddpoonad", sum := "42ae48612e1376761eedb9feb457bdd0f456ab34507512f723d1861fc265175f", func := "loop.example/concord/laws.FnExactRowOk", spec := "fnExactRowOk", apart := false, narrowed := true }
def FnExactRowOkUptoSaid : Prop := fnExactRowOkUptoRow.holds Try.pinned (OpenSpec.upto fnExactRowOkSpec)

/-- 'laws.FnExactRowFits', WHERE WHAT IT READS IS OF BULK AT MOST 1048576: true; the input reads as it did. -/
def fnExactRowFitsUptoRow : OpenClaim := { program := "ytmbhcngddpoonad", sum := "42ae48612e1376761eedb9feb457bdd0f456ab34507512f723d1861fc265175f", func := "loop.example/concord/laws.FnExactRowFits", spec := "fnExactRowFits", apart := false, narrowed := true }
def FnExactRowFitsUptoSaid : Prop := fnExactRowFitsUptoRow.holds Try.pinned (OpenSpec.upto fnExactRowFitsSpec)

end Rows
end Go.Proofs.Ytmbhcngddpoonad
