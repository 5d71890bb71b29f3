/-
  No cell of these rows narrows 'for every input' (looked for: loops, veiled, ifaces, maps, wideKeys, modest, calm, conditions, laid).
  DERIVED. THE GIVEN ROWS OF THIS SEAT. 6 by the template 'for every input the law returns true; each argument reads behind the call as it read before'; 0 by the template 'total and deterministic' (their statements: YtmbhcngddpoonaaTotals.lean).
  GIVEN WITH THE SEED: the statements are not yours to turn. If you find one false, say at which input.
  Laid BY PROGRAM, IN A SANDBOX (cutbox-rows.mjs): the forced cells as the released guide's own fill.sh prints them over the translation 7c9878aa50d01739… (all of the seat's roots in one cut). By AI agents, Wed Nov 11 2026. No macro, syntax, notation, axiom, sorry.
-/
import Derived.Test.YtmbhcngddpoonaaChecked
import GoSem.Claim
import GoSem.ClaimJoined
import GoSem.ClaimMapViews
import Derived.JoinedTies
import Derived.KernelRfl
namespace Go.Proofs.Ytmbhcngddpoonaa
/- THE CELL 'sum', in the pinned program and in every row, IS THE sha256 OF THE DUMP (.gsa) THAT YtmbhcngddpoonaaProg.lean LOADS. Nothing in Lean hashes anything: it is a label: what it is worth is what the hold of that sum in a sandbox is worth. -/
noncomputable def Try.pinned : Pinned := { name := "ytmbhcngddpoonaa", sum := "7c9878aa50d01739dbdc0a2ac408c9b6256ae5c7d497cf9e5972ea72ebc24a33", checked := Try.checked }
namespace Rows
def none {H : Type} : Left H := { results := [], args := [] }

/-- 'laws.FnExactTrtOk': WHATEVER THE INPUT: true; the input reads as it did. -/
def fnExactTrtOkSpec : ChangeSpec := { name := "fnExactTrtOk", fn := fun _ => fun
  | [d] => { results := [.lit (.bool true)], args := [d] }
  | _ => none }
def fnExactTrtOkRow : OpenClaim := { program := "ytmbhcngddpoonaa", sum := "7c9878aa50d01739dbdc0a2ac408c9b6256ae5c7d497cf9e5972ea72ebc24a33", func := "loop.example/concord/laws.FnExactTrtOk", spec := "fnExactTrtOk", apart := false }
def FnExactTrtOkSaid : Prop := fnExactTrtOkRow.holds Try.pinned (OpenSpec.ofChange fnExactTrtOkSpec)

/-- ITS FALSE NEIGHBOUR: 'it returns false'. Refute it at one input. -/
def fnExactTrtOkWrong : ChangeSpec := { name := "fnExactTrtOk", fn := fun _ => fun
  | [d] => { results := [.lit (.bool false)], args := [d] }
  | _ => none }
def FnExactTrtOkWrongFalsely : Prop := fnExactTrtOkRow.holds Try.pinned (OpenSpec.ofChange fnExactTrtOkWrong)

/-- 'laws.FnExactTrtOthers': WHATEVER THE INPUT: true; the input reads as it did. -/
def fnExactTrtOthersSpec : ChangeSpec := { name := "fnExactTrtOthers", fn := fun _ => fun
  | [d1, d2] => { results := [.lit (.bool true)], args := [d1, d2] }
  | _ => none }
def fnExactTrtOthersRow : OpenClaim := { program := "ytmbhcngddpoonaa", sum := "7c9878aa50d01739dbdc0a2ac408c9b6256ae5c7d497cf9e5972ea72ebc24a33", func := "loop.example/concord/laws.FnExactTrtOthers", spec := "fnExactTrtOthers", apart := false }
def FnExactTrtOthersSaid : Prop := fnExactTrtOthersRow.holds Try.pinned (OpenSpec.ofChange fnExactTrtOthersSpec)

/-- ITS FALSE NEIGHBOUR: 'it returns false'. Refute it at one input. -/
def fnExactTrtOthersWrong : ChangeSpec := { name := "fnExactTrtOthers", fn := fun _ => fun
  | [d1, d2] => { results := [.lit (.bool false)], args := [d1, d2] }
  | _ => none }
def FnExactTrtOthersWrongFalsely : Prop := fnExactTrtOthersRow.holds Try.pinned (OpenSpec.ofChange fnExactTrtOthersWrong)

/-- 'laws.FnExactTrtKeeps': WHATEVER THE INPUT: true; the input reads as it did. -/
def fnExactTrtKeepsSpec : ChangeSpec := { name := "fnExactTrtKeeps", fn := fun _ => fun
  | [d1, d2, d3, d4] => { results := [.lit (.bool true)], args := [d1, d2, d3, d4] }
  | _ => none }
def fnExactTrtKeepsRow : OpenClaim := { program := "ytmbhcngddpoonaa", sum := "7c9878aa50d01739dbdc0a2ac408c9b6256ae5c7d497cf9e5972ea72ebc24a33", func := "loop.example/concord/laws.FnExactTrtKeeps", spec := "fnExactTrtKeeps", apart := false }
def FnExactTrtKeepsSaid : Prop := fnExactTrtKeepsRow.holds Try.pinned (OpenSpec.ofChange fnExactTrtKeepsSpec)

/-- ITS FALSE NEIGHBOUR: 'it returns false'. Refute it at one input. -/
def fnExactTrtKeepsWrong : ChangeSpec := { name := "fnExactTrtKeeps", fn := fun _ => fun
  | [d1, d2, d3, d4] => { results := [.lit (.bool false)], args := [d1, d2, d3, d4] }
  | _ => none }
def FnExactTrtKeepsWrongFalsely : Prop := fnExactTrtKeepsRow.holds Try.pinned (OpenSpec.ofChange fnExactTrtKeepsWrong)

/-- 'laws.FnExactTrtAll': WHATEVER THE INPUT: true; the input reads as it did. -/
def fnExactTrtAllSpec : ChangeSpec := { name := "fnExactTrtAll", fn := fun _ => fun
  | [d1, d2, d3] => { results := [.lit (.bool true)], args := [d1, d2, d3] }
  | _ => none }
def fnExactTrtAllRow : OpenClaim := { program := "ytmbhcngddpoonaa", sum := "7c9878aa50d01739dbdc0a2ac408c9b6256ae5c7d497cf9e5972ea72ebc24a33", func := "loop.example/concord/laws.FnExactTrtAll", spec := "fnExactTrtAll", apart := false }
def FnExactTrtAllSaid : Prop := fnExactTrtAllRow.holds Try.pinned (OpenSpec.ofChange fnExactTrtAllSpec)

/-- ITS FALSE NEIGHBOUR: 'it returns false'. Refute it at one input. -/
def fnExactTrtAllWrong : ChangeSpec := { name := "fnExactTrtAll", fn := fun _ => fun
  | [d1, d2, d3] => { results := [.lit (.bool false)], args := [d1, d2, d3] }
  | _ => none }
def FnExactTrtAllWrongFalsely : Prop := fnExactTrtAllRow.holds Try.pinned (OpenSpec.ofChange fnExactTrtAllWrong)

/-- 'laws.FnExactTrtBounds': WHATEVER THE INPUT: true; the input reads as it did. -/
def fnExactTrtBoundsSpec : ChangeSpec := { name := "fnExactTrtBounds", fn := fun _ => fun
  | [d1, d2, d3, d4, d5, d6] => { results := [.lit (.bool true)], args := [d1, d2, d3, d4, d5, d6] }
  | _ => none }
def fnExactTrtBoundsRow : OpenClaim := { program := "ytmbhcngddpoonaa", sum := "7c9878aa50d01739dbdc0a2ac408c9b6256ae5c7d497cf9e5972ea72ebc24a33", func := "loop.example/concord/laws.FnExactTrtBounds", spec := "fnExactTrtBounds", apart := false }
def FnExactTrtBoundsSaid : Prop := fnExactTrtBoundsRow.holds Try.pinned (OpenSpec.ofChange fnExactTrtBoundsSpec)

/-- ITS FALSE NEIGHBOUR: 'it returns false'. Refute it at one input. -/
def fnExactTrtBoundsWrong : ChangeSpec := { name := "fnExactTrtBounds", fn := fun _ => fun
  | [d1, d2, d3, d4, d5, d6] => { results := [.lit (.bool false)], args := [d1, d2, d3, d4, d5, d6] }
  | _ => none }
def FnExactTrtBoundsWrongFalsely : Prop := fnExactTrtBoundsRow.holds Try.pinned (OpenSpec.ofChange fnExactTrtBoundsWrong)

/-- 'laws.FnExactRowDo': WHATEVER THE INPUT: true; the input reads as it did. -/
def fnExactRowDoSpec : ChangeSpec := { name := "fnExactRowDo", fn := fun _ => fun
  | [d1, d2, d3] => { results := [.lit (.bool true)], args := [d1, d2, d3] }
  | _ => none }
def fnExactRowDoRow : OpenClaim := { program := "ytmbhcngddpoonaa", sum := "7c9878aa50d01739dbdc0a2ac408c9b6256ae5c7d497cf9e5972ea72ebc24a33", func := "loop.example/concord/laws.FnExactRowDo", spec := "fnExactRowDo", apart := false }
def FnExactRowDoSaid : Prop := fnExactRowDoRow.holds Try.pinned (OpenSpec.ofChange fnExactRowDoSpec)

/-- ITS FALSE NEIGHBOUR: 'it returns false'. Refute it at one input. -/
def fnExactRowDoWrong : ChangeSpec := { name := "fnExactRowDo", fn := fun _ => fun
  | [d1, d2, d3] => { results := [.lit (.bool false)], args := [d1, d2, d3] }
  | _ => none }
def FnExactRowDoWrongFalsely : Prop := fnExactRowDoRow.holds Try.pinned (OpenSpec.ofChange fnExactRowDoWrong)

/- THE SECOND FORM. 'bulk': how many values and letters a reading holds, each counted each time it is reached (what is shared counts as often as it is met; a slice's spare places count too). A statement '..UptoSaid' is the law's where the arguments, and the package variables that the reading takes, are together of bulk at most 1048576: NARROWER than '..Said'. Prove '..Said' where nothing that the law and all that it calls make is longer than what came in: it says more and counts as full. Else prove '..UptoSaid'. A law counts once. -/
mutual
def uptoBulk {H : Type} : DataW H → Nat
  | .lit (.string bytes) => bytes.length + 1
  | .lit _ => 1
  | .nil => 1
  | .ptr d => uptoBulk d + 1
  | .slice elems spare => uptoBulkAll elems + uptoBulkAll spare + 1
  | .agg parts => uptoBulkAll parts + 1
  | .iface _ d => uptoBulk d + 1
  | .map entries => uptoBulkEntries entries + 1
  | .held _ => 1
def uptoBulkAll {H : Type} : List (DataW H) → Nat
  | [] => 0
  | d :: r => uptoBulk d + uptoBulkAll r
def uptoBulkEntries {H : Type} : List (Lit × DataW H) → Nat
  | [] => 0
  | x :: r => uptoBulkEntry x + uptoBulkEntries r
def uptoBulkEntry {H : Type} : Lit × DataW H → Nat
  | (.string bytes, d) => bytes.length + uptoBulk d + 1
  | (_, d) => uptoBulk d + 1
 end
def uptoSmall : (H : Type) → List (DataW H) → Bool := fun _ ds => decide (uptoBulkAll ds ≤ 1048576)
def OpenSpec.upto (s : _root_.Go.ChangeSpec) : _root_.Go.OpenSpec := { _root_.Go.OpenSpec.ofChange s with cond := some uptoSmall }

/-- 'laws.FnExactTrtOk', WHERE WHAT IT READS IS OF BULK AT MOST 1048576: true; the input reads as it did. -/
def fnExactTrtOkUptoRow : OpenClaim := { program := "ytmbhcngddpoonaa", sum := "7c9878aa50d01739dbdc0a2ac408c9b6256ae5c7d497cf9e5972ea72ebc24a33", func := "loop.example/concord/laws.FnExactTrtOk", spec := "fnExactTrtOk", apart := false, narrowed := true }
def FnExactTrtOkUptoSaid : Prop := fnExactTrtOkUptoRow.holds Try.pinned (OpenSpec.upto fnExactTrtOkSpec)

/-- 'laws.FnExactTrtOthers', WHERE WHAT IT READS IS OF BULK AT MOST 1048576: true; the input reads as it did. -/
def fnExactTrtOthersUptoRow : OpenClaim := { program := "ytmbhcngddpoonaa", sum := "7c9878aa50d01739dbdc0a2ac408c9b6256ae5c7d497cf9e5972ea72ebc24a33", func := "loop.example/concord/laws.FnExactTrtOthers", spec := "fnExactTrtOthers", apart := false, narrowed := true }
def FnExactTrtOthersUptoSaid : Prop := fnExactTrtOthersUptoRow.holds Try.pinned (OpenSpec.upto fnExactTrtOthersSpec)

/-- 'laws.FnExactTrtKeeps', WHERE WHAT IT READS IS OF BULK AT MOST 1048576: true; the input reads as it did. -/
def fnExactTrtKeepsUptoRow : OpenClaim := { program := "ytmbhcngddpoonaa", sum := "7c9878aa50d01739dbdc0a2ac408c9b6256ae5c7d497cf9e5972ea72ebc24a33", func := "loop.example/concord/laws.FnExactTrtKeeps", spec := "fnExactTrtKeeps", apart := false, narrowed := true }
def FnExactTrtKeepsUptoSaid : Prop := fnExactTrtKeepsUptoRow.holds Try.pinned (OpenSpec.upto fnExactTrtKeepsSpec)

/-- 'laws.FnExactTrtAll', WHERE WHAT IT READS IS OF BULK AT MOST 1048576: true; the input reads as it did. -/
def fnExactTrtAllUptoRow : OpenClaim := { program := "ytmbhcngddpoonaa", sum := "7c9878aa50d01739dbdc0a2ac408c9b6256ae5c7d497cf9e5972ea72ebc24a33", func := "loop.example/concord/laws.FnExactTrtAll", spec := "fnExactTrtAll", apart := false, narrowed := true }
def FnExactTrtAllUptoSaid : Prop := fnExactTrtAllUptoRow.holds Try.pinned (OpenSpec.upto fnExactTrtAllSpec)

/-- 'laws.FnExactTrtBounds', WHERE WHAT IT READS IS OF BULK AT MOST 1048576: true; the input reads as it did. -/
def fnExactTrtBoundsUptoRow : OpenClaim := { program := "ytmbhcngddpoonaa", sum := "7c9878aa50d01739dbdc0a2ac408c9b6256ae5c7d497cf9e5972ea72ebc24a33", func := "loop.example/concord/laws.FnExactTrtBounds", spec := "fnExactTrtBounds", apart := false, narrowed := true }
def FnExactTrtBoundsUptoSaid : Prop := fnExactTrtBoundsUptoRow.holds Try.pinned (OpenSpec.upto fnExactTrtBoundsSpec)

/-- 'laws.FnExactRowDo', WHERE WHAT IT READS IS OF BULK AT MOST 1048576: true; the input reads as it did. -/
def fnExactRowDoUptoRow : OpenClaim := { program := "ytmbhcngddpoonaa", sum := "7c9878aa50d01739dbdc0a2ac408c9b6256ae5c7d497cf9e5972ea72ebc24a33", func := "loop.example/concord/laws.FnExactRowDo", spec := "fnExactRowDo", apart := false, narrowed := true }
def FnExactRowDoUptoSaid : Prop := fnExactRowDoUptoRow.holds Try.pinned (OpenSpec.upto fnExactRowDoSpec)

end Rows
end Go.Proofs.Ytmbhcngddpoonaa
