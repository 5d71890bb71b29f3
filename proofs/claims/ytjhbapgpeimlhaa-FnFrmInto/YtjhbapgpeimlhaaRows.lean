/-
  No cell of these rows narrows 'for every input' (looked for: loops, veiled, ifaces, maps, wideKeys, modest, calm, conditions, laid).
  DERIVED. THE GIVEN ROWS OF THIS SEAT. 6 by the template 'for every input the law returns true; each argument reads behind the call as it read before'; 0 by the template 'total and deterministic' (their statements: YtjhbapgpeimlhaaTotals.lean).
  GIVEN WITH THE SEED: the statements are not yours to turn. If you find one false, say at which input.
  Laid BY PROGRAM, IN A SANDBOX (cutbox-rows.mjs): the forced cells as the released guide's own fill.sh prints them over the translation d6ddc3367badf55b… (all of the seat's roots in one cut). By AI agents, Wed Nov 11 2026. No macro, syntax, notation, axiom, sorry.
-/
import Derived.Test.YtjhbapgpeimlhaaChecked
import GoSem.Claim
import GoSem.ClaimJoined
import GoSem.ClaimMapViews
import Derived.JoinedTies
import Derived.KernelRfl
namespace Go.Proofs.Ytjhbapgpeimlhaa
/- THE CELL 'sum', in the pinned program and in every row, IS THE sha256 OF THE DUMP (.gsa) THAT YtjhbapgpeimlhaaProg.lean LOADS. Nothing in Lean hashes anything: it is a label: what it is worth is what the hold of that sum in a sandbox is worth. -/
noncomputable def Try.pinned : Pinned := { name := "ytjhbapgpeimlhaa", sum := "d6ddc3367badf55b1b8e21711f696638184184eb4dff7028b59e74441bd89bd2", checked := Try.checked }
namespace Rows
def none {H : Type} : Left H := { results := [], args := [] }

/-- 'laws.FnFrmAdd': WHATEVER THE INPUT: true; the input reads as it did. -/
def fnFrmAddSpec : ChangeSpec := { name := "fnFrmAdd", fn := fun _ => fun
  | [d1, d2] => { results := [.lit (.bool true)], args := [d1, d2] }
  | _ => none }
def fnFrmAddRow : OpenClaim := { program := "ytjhbapgpeimlhaa", sum := "d6ddc3367badf55b1b8e21711f696638184184eb4dff7028b59e74441bd89bd2", func := "loop.example/concord/laws.FnFrmAdd", spec := "fnFrmAdd", apart := false }
def FnFrmAddSaid : Prop := fnFrmAddRow.holds Try.pinned (OpenSpec.ofChange fnFrmAddSpec)

/-- ITS FALSE NEIGHBOUR: 'it returns false'. Refute it at one input. -/
def fnFrmAddWrong : ChangeSpec := { name := "fnFrmAdd", fn := fun _ => fun
  | [d1, d2] => { results := [.lit (.bool false)], args := [d1, d2] }
  | _ => none }
def FnFrmAddWrongFalsely : Prop := fnFrmAddRow.holds Try.pinned (OpenSpec.ofChange fnFrmAddWrong)

/-- 'laws.FnFrmTimes': WHATEVER THE INPUT: true; the input reads as it did. -/
def fnFrmTimesSpec : ChangeSpec := { name := "fnFrmTimes", fn := fun _ => fun
  | [d1, d2] => { results := [.lit (.bool true)], args := [d1, d2] }
  | _ => none }
def fnFrmTimesRow : OpenClaim := { program := "ytjhbapgpeimlhaa", sum := "d6ddc3367badf55b1b8e21711f696638184184eb4dff7028b59e74441bd89bd2", func := "loop.example/concord/laws.FnFrmTimes", spec := "fnFrmTimes", apart := false }
def FnFrmTimesSaid : Prop := fnFrmTimesRow.holds Try.pinned (OpenSpec.ofChange fnFrmTimesSpec)

/-- ITS FALSE NEIGHBOUR: 'it returns false'. Refute it at one input. -/
def fnFrmTimesWrong : ChangeSpec := { name := "fnFrmTimes", fn := fun _ => fun
  | [d1, d2] => { results := [.lit (.bool false)], args := [d1, d2] }
  | _ => none }
def FnFrmTimesWrongFalsely : Prop := fnFrmTimesRow.holds Try.pinned (OpenSpec.ofChange fnFrmTimesWrong)

/-- 'laws.FnFrmInto': WHATEVER THE INPUT: true; the input reads as it did. -/
def fnFrmIntoSpec : ChangeSpec := { name := "fnFrmInto", fn := fun _ => fun
  | [d1, d2] => { results := [.lit (.bool true)], args := [d1, d2] }
  | _ => none }
def fnFrmIntoRow : OpenClaim := { program := "ytjhbapgpeimlhaa", sum := "d6ddc3367badf55b1b8e21711f696638184184eb4dff7028b59e74441bd89bd2", func := "loop.example/concord/laws.FnFrmInto", spec := "fnFrmInto", apart := false }
def FnFrmIntoSaid : Prop := fnFrmIntoRow.holds Try.pinned (OpenSpec.ofChange fnFrmIntoSpec)

/-- ITS FALSE NEIGHBOUR: 'it returns false'. Refute it at one input. -/
def fnFrmIntoWrong : ChangeSpec := { name := "fnFrmInto", fn := fun _ => fun
  | [d1, d2] => { results := [.lit (.bool false)], args := [d1, d2] }
  | _ => none }
def FnFrmIntoWrongFalsely : Prop := fnFrmIntoRow.holds Try.pinned (OpenSpec.ofChange fnFrmIntoWrong)

/-- 'laws.FnFrmPot': WHATEVER THE INPUT: true; the input reads as it did. -/
def fnFrmPotSpec : ChangeSpec := { name := "fnFrmPot", fn := fun _ => fun
  | [d1, d2] => { results := [.lit (.bool true)], args := [d1, d2] }
  | _ => none }
def fnFrmPotRow : OpenClaim := { program := "ytjhbapgpeimlhaa", sum := "d6ddc3367badf55b1b8e21711f696638184184eb4dff7028b59e74441bd89bd2", func := "loop.example/concord/laws.FnFrmPot", spec := "fnFrmPot", apart := false }
def FnFrmPotSaid : Prop := fnFrmPotRow.holds Try.pinned (OpenSpec.ofChange fnFrmPotSpec)

/-- ITS FALSE NEIGHBOUR: 'it returns false'. Refute it at one input. -/
def fnFrmPotWrong : ChangeSpec := { name := "fnFrmPot", fn := fun _ => fun
  | [d1, d2] => { results := [.lit (.bool false)], args := [d1, d2] }
  | _ => none }
def FnFrmPotWrongFalsely : Prop := fnFrmPotRow.holds Try.pinned (OpenSpec.ofChange fnFrmPotWrong)

/-- 'laws.FnCatPart': WHATEVER THE INPUT: true; the input reads as it did. -/
def fnCatPartSpec : ChangeSpec := { name := "fnCatPart", fn := fun _ => fun
  | [d] => { results := [.lit (.bool true)], args := [d] }
  | _ => none }
def fnCatPartRow : OpenClaim := { program := "ytjhbapgpeimlhaa", sum := "d6ddc3367badf55b1b8e21711f696638184184eb4dff7028b59e74441bd89bd2", func := "loop.example/concord/laws.FnCatPart", spec := "fnCatPart", apart := false }
def FnCatPartSaid : Prop := fnCatPartRow.holds Try.pinned (OpenSpec.ofChange fnCatPartSpec)

/-- ITS FALSE NEIGHBOUR: 'it returns false'. Refute it at one input. -/
def fnCatPartWrong : ChangeSpec := { name := "fnCatPart", fn := fun _ => fun
  | [d] => { results := [.lit (.bool false)], args := [d] }
  | _ => none }
def FnCatPartWrongFalsely : Prop := fnCatPartRow.holds Try.pinned (OpenSpec.ofChange fnCatPartWrong)

/-- 'laws.FnTrtOthers': WHATEVER THE INPUT: true; the input reads as it did. -/
def fnTrtOthersSpec : ChangeSpec := { name := "fnTrtOthers", fn := fun _ => fun
  | [d] => { results := [.lit (.bool true)], args := [d] }
  | _ => none }
def fnTrtOthersRow : OpenClaim := { program := "ytjhbapgpeimlhaa", sum := "d6ddc3367badf55b1b8e21711f696638184184eb4dff7028b59e74441bd89bd2", func := "loop.example/concord/laws.FnTrtOthers", spec := "fnTrtOthers", apart := false }
def FnTrtOthersSaid : Prop := fnTrtOthersRow.holds Try.pinned (OpenSpec.ofChange fnTrtOthersSpec)

/-- ITS FALSE NEIGHBOUR: 'it returns false'. Refute it at one input. -/
def fnTrtOthersWrong : ChangeSpec := { name := "fnTrtOthers", fn := fun _ => fun
  | [d] => { results := [.lit (.bool false)], args := [d] }
  | _ => none }
def FnTrtOthersWrongFalsely : Prop := fnTrtOthersRow.holds Try.pinned (OpenSpec.ofChange fnTrtOthersWrong)

/- THE SECOND FORM. 'bulk': how many values and letters a reading holds, each counted each time it is reached (what is shared counts as often as it is met; a slice's spare places count too). A statement '..UptoSaid' is the law's where the arguments, and the package variables that the reading takes, are together of bulk at most 1048576: NARROWER than '..Said'. Prove '..Said' where nothing that the law and all that it calls make is longer than what came in: it says more and counts as full. Else prove '..UptoSaid'. A law counts once. -/
mutual
def uptoBulk {H : Type} : DataW H → Nat
  | .lit (.string bytes) => bytes.length + 1
  | .lit _ => 1
  | .nil => 1
  | .ptr d => uptoBulk d + 1
  | .slice elems spare => uptoBulkAll elems + uptoBulkAll spare + 1
  | .agg parts => uptoBulkAll parts + 1
  | .iface _ d => uptoBulk d + 1
  | .map entries => uptoBulkEntries entries + 1
  | .held _ => 1
def uptoBulkAll {H : Type} : List (DataW H) → Nat
  | [] => 0
  | d :: r => uptoBulk d + uptoBulkAll r
def uptoBulkEntries {H : Type} : List (Lit × DataW H) → Nat
  | [] => 0
  | x :: r => uptoBulkEntry x + uptoBulkEntries r
def uptoBulkEntry {H : Type} : Lit × DataW H → Nat
  | (.string bytes, d) => bytes.length + uptoBulk d + 1
  | (_, d) => uptoBulk d + 1
 end
def uptoSmall : (H : Type) → List (DataW H) → Bool := fun _ ds => decide (uptoBulkAll ds ≤ 1048576)
def OpenSpec.upto (s : _root_.Go.ChangeSpec) : _root_.Go.OpenSpec := { _root_.Go.OpenSpec.ofChange s with cond := some uptoSmall }

/-- 'laws.FnFrmAdd', WHERE WHAT IT READS IS OF BULK AT MOST 1048576: true; the input reads as it did. -/
def fnFrmAddUptoRow : OpenClaim := { program := "ytjhbapgpeimlhaa", sum := "d6ddc3367badf55b1b8e21711f696638184184eb4dff7028b59e74441bd89bd2", func := "loop.example/concord/laws.FnFrmAdd", spec := "fnFrmAdd", apart := false, narrowed := true }
def FnFrmAddUptoSaid : Prop := fnFrmAddUptoRow.holds Try.pinned (OpenSpec.upto fnFrmAddSpec)

/-- 'laws.FnFrmTimes', WHERE WHAT IT READS IS OF BULK AT MOST 1048576: true; the input reads as it did. -/
def fnFrmTimesUptoRow : OpenClaim := { program := "ytjhbapgpeimlhaa", sum := "d6ddc3367badf55b1b8e21711f696638184184eb4dff7028b59e74441bd89bd2", func := "loop.example/concord/laws.FnFrmTimes", spec := "fnFrmTimes", apart := false, narrowed := true }
def FnFrmTimesUptoSaid : Prop := fnFrmTimesUptoRow.holds Try.pinned (OpenSpec.upto fnFrmTimesSpec)

/-- 'laws.FnFrmInto', WHERE WHAT IT READS IS OF BULK AT MOST 1048576: true; the input reads as it did. -/
def fnFrmIntoUptoRow : OpenClaim := { program := "ytjhbapgpeimlhaa", sum := "d6ddc3367badf55b1b8e21711f696638184184eb4dff7028b59e74441bd89bd2", func := "loop.example/concord/laws.FnFrmInto", spec := "fnFrmInto", apart := false, narrowed := true }
def FnFrmIntoUptoSaid : Prop := fnFrmIntoUptoRow.holds Try.pinned (OpenSpec.upto fnFrmIntoSpec)

/-- 'laws.FnFrmPot', WHERE WHAT IT READS IS OF BULK AT MOST 1048576: true; the input reads as it did. -/
def fnFrmPotUptoRow : OpenClaim := { program := "ytjhbapgpeimlhaa", sum := "d6ddc3367badf55b1b8e21711f696638184184eb4dff7028b59e74441bd89bd2", func := "loop.example/concord/laws.FnFrmPot", spec := "fnFrmPot", apart := false, narrowed := true }
def FnFrmPotUptoSaid : Prop := fnFrmPotUptoRow.holds Try.pinned (OpenSpec.upto fnFrmPotSpec)

/-- 'laws.FnCatPart', WHERE WHAT IT READS IS OF BULK AT MOST 1048576: true; the input reads as it did. -/
def fnCatPartUptoRow : OpenClaim := { program := "ytjhbapgpeimlhaa", sum := "d6ddc3367badf55b1b8e21711f696638184184eb4dff7028b59e74441bd89bd2", func := "loop.example/concord/laws.FnCatPart", spec := "fnCatPart", apart := false, narrowed := true }
def FnCatPartUptoSaid : Prop := fnCatPartUptoRow.holds Try.pinned (OpenSpec.upto fnCatPartSpec)

/-- 'laws.FnTrtOthers', WHERE WHAT IT READS IS OF BULK AT MOST 1048576: true; the input reads as it did. -/
def fnTrtOthersUptoRow : OpenClaim := { program := "ytjhbapgpeimlhaa", sum := "d6ddc3367badf55b1b8e21711f696638184184eb4dff7028b59e74441bd89bd2", func := "loop.example/concord/laws.FnTrtOthers", spec := "fnTrtOthers", apart := false, narrowed := true }
def FnTrtOthersUptoSaid : Prop := fnTrtOthersUptoRow.holds Try.pinned (OpenSpec.upto fnTrtOthersSpec)

end Rows
end Go.Proofs.Ytjhbapgpeimlhaa
