/-
  No cell of these rows narrows 'for every input' (looked for: loops, veiled, ifaces, maps, wideKeys, modest, calm, conditions, laid).
  DERIVED. THE GIVEN ROWS OF THIS SEAT. 4 by the template 'for every input the law returns true; each argument reads behind the call as it read before'; 0 by the template 'total and deterministic' (their statements: YtmbhcngddpoonaeTotals.lean).
  GIVEN WITH THE SEED: the statements are not yours to turn. If you find one false, say at which input.
  Laid BY PROGRAM, IN A SANDBOX (cutbox-rows.mjs): the forced cells as the released guide's own fill.sh prints them over the translation 2b3180c4bb12f5f1… (all of the seat's roots in one cut). By AI agents, Wed Nov 11 2026. No macro, syntax, notation, axiom, sorry.
-/
import Derived.Test.YtmbhcngddpoonaeChecked
import GoSem.Claim
import GoSem.ClaimJoined
import GoSem.ClaimMapViews
import Derived.JoinedTies
import Derived.KernelRfl
namespace Go.Proofs.Ytmbhcngddpoonae
/- THE CELL 'sum', in the pinned program and in every row, IS THE sha256 OF THE DUMP (.gsa) THAT YtmbhcngddpoonaeProg.lean LOADS. Nothing in Lean hashes anything: it is a label: what it is worth is what the hold of that sum in a sandbox is worth. -/
noncomputable def Try.pinned : Pinned := { name := "ytmbhcngddpoonae", sum := "2b3180c4bb12f5f129a48737d3c474ac0e8a088ea3895a4cb5df9698692a3cc6", checked := Try.checked }
namespace Rows
def none {H : Type} : Left H := { results := [], args := [] }

/-- 'laws.FnExactCatPart': WHATEVER THE INPUT: true; the input reads as it did. -/
def fnExactCatPartSpec : ChangeSpec := { name := "fnExactCatPart", fn := fun _ => fun
  | [d] => { results := [.lit (.bool true)], args := [d] }
  | _ => none }
def fnExactCatPartRow : OpenClaim := { program := "ytmbhcngddpoonae", sum := "2b3180c4bb12f5f129a48737d3c474ac0e8a088ea3895a4cb5df9698692a3cc6", func := "loop.example/concord/laws.FnExactCatPart", spec := "fnExactCatPart", apart := false }
def FnExactCatPartSaid : Prop := fnExactCatPartRow.holds Try.pinned (OpenSpec.ofChange fnExactCatPartSpec)

/-- ITS FALSE NEIGHBOUR: 'it returns false'. Refute it at one input. -/
def fnExactCatPartWrong : ChangeSpec := { name := "fnExactCatPart", fn := fun _ => fun
  | [d] => { results := [.lit (.bool false)], args := [d] }
  | _ => none }
def FnExactCatPartWrongFalsely : Prop := fnExactCatPartRow.holds Try.pinned (OpenSpec.ofChange fnExactCatPartWrong)

/-- 'laws.FnExactCatHas': WHATEVER THE INPUT: true; the input reads as it did. -/
def fnExactCatHasSpec : ChangeSpec := { name := "fnExactCatHas", fn := fun _ => fun
  | [d1, d2] => { results := [.lit (.bool true)], args := [d1, d2] }
  | _ => none }
def fnExactCatHasRow : OpenClaim := { program := "ytmbhcngddpoonae", sum := "2b3180c4bb12f5f129a48737d3c474ac0e8a088ea3895a4cb5df9698692a3cc6", func := "loop.example/concord/laws.FnExactCatHas", spec := "fnExactCatHas", apart := false }
def FnExactCatHasSaid : Prop := fnExactCatHasRow.holds Try.pinned (OpenSpec.ofChange fnExactCatHasSpec)

/-- ITS FALSE NEIGHBOUR: 'it returns false'. Refute it at one input. -/
def fnExactCatHasWrong : ChangeSpec := { name := "fnExactCatHas", fn := fun _ => fun
  | [d1, d2] => { results := [.lit (.bool false)], args := [d1, d2] }
  | _ => none }
def FnExactCatHasWrongFalsely : Prop := fnExactCatHasRow.holds Try.pinned (OpenSpec.ofChange fnExactCatHasWrong)

/-- 'laws.FnExactCatOk': WHATEVER THE INPUT: true; the input reads as it did. -/
def fnExactCatOkSpec : ChangeSpec := { name := "fnExactCatOk", fn := fun _ => fun
  | [d] => { results := [.lit (.bool true)], args := [d] }
  | _ => none }
def fnExactCatOkRow : OpenClaim := { program := "ytmbhcngddpoonae", sum := "2b3180c4bb12f5f129a48737d3c474ac0e8a088ea3895a4cb5df9698692a3cc6", func := "loop.example/concord/laws.FnExactCatOk", spec := "fnExactCatOk", apart := false }
def FnExactCatOkSaid : Prop := fnExactCatOkRow.holds Try.pinned (OpenSpec.ofChange fnExactCatOkSpec)

/-- ITS FALSE NEIGHBOUR: 'it returns false'. Refute it at one input. -/
def fnExactCatOkWrong : ChangeSpec := { name := "fnExactCatOk", fn := fun _ => fun
  | [d] => { results := [.lit (.bool false)], args := [d] }
  | _ => none }
def FnExactCatOkWrongFalsely : Prop := fnExactCatOkRow.holds Try.pinned (OpenSpec.ofChange fnExactCatOkWrong)

/-- 'laws.FnValOk': WHATEVER THE INPUT: true; the input reads as it did. -/
def fnValOkSpec : ChangeSpec := { name := "fnValOk", fn := fun _ => fun
  | [d1, d2] => { results := [.lit (.bool true)], args := [d1, d2] }
  | _ => none }
def fnValOkRow : OpenClaim := { program := "ytmbhcngddpoonae", sum := "2b3180c4bb12f5f129a48737d3c474ac0e8a088ea3895a4cb5df9698692a3cc6", func := "loop.example/concord/laws.FnValOk", spec := "fnValOk", apart := false }
def FnValOkSaid : Prop := fnValOkRow.holds Try.pinned (OpenSpec.ofChange fnValOkSpec)

/-- ITS FALSE NEIGHBOUR: 'it returns false'. Refute it at one input. -/
def fnValOkWrong : ChangeSpec := { name := "fnValOk", fn := fun _ => fun
  | [d1, d2] => { results := [.lit (.bool false)], args := [d1, d2] }
  | _ => none }
def FnValOkWrongFalsely : Prop := fnValOkRow.holds Try.pinned (OpenSpec.ofChange fnValOkWrong)

/- THE SECOND FORM. 'bulk': how many values and letters a reading holds, each counted each time it is reached (what is shared counts as often as it is met; a slice's spare places count too). A statement '..UptoSaid' is the law's where the arguments, and the package variables that the reading takes, are together of bulk at most 1048576: NARROWER than '..Said'. Prove '..Said' where nothing that the law and all that it calls make is longer than what came in: it says more and counts as full. Else prove '..UptoSaid'. A law counts once. -/
mutual
def uptoBulk {H : Type} : DataW H → Nat
  | .lit (.string bytes) => bytes.length + 1
  | .lit _ => 1
  | .nil => 1
  | .ptr d => uptoBulk d + 1
  | .slice elems spare => uptoBulkAll elems + uptoBulkAll spare + 1
  | .agg parts => uptoBulkAll parts + 1
  | .iface _ d => uptoBulk d + 1
  | .map entries => uptoBulkEntries entries + 1
  | .held _ => 1
def uptoBulkAll {H : Type} : List (DataW H) → Nat
  | [] => 0
  | d :: r => uptoBulk d + uptoBulkAll r
def uptoBulkEntries {H : Type} : List (Lit × DataW H) → Nat
  | [] => 0
  | x :: r => uptoBulkEntry x + uptoBulkEntries r
def uptoBulkEntry {H : Type} : Lit × DataW H → Nat
  | (.string bytes, d) => bytes.length + uptoBulk d + 1
  | (_, d) => uptoBulk d + 1
 end
def uptoSmall : (H : Type) → List (DataW H) → Bool := fun _ ds => decide (uptoBulkAll ds ≤ 1048576)
def OpenSpec.upto (s : _root_.Go.ChangeSpec) : _root_.Go.OpenSpec := { _root_.Go.OpenSpec.ofChange s with cond := some uptoSmall }

/-- 'laws.FnExactCatPart', WHERE WHAT IT READS IS OF BULK AT MOST 1048576: true; the input reads as it did. -/
def fnExactCatPartUptoRow : OpenClaim := { program := "ytmbhcngddpoonae", sum := "2b3180c4bb12f5f129a48737d3c474ac0e8a088ea3895a4cb5df9698692a3cc6", func := "loop.example/concord/laws.FnExactCatPart", spec := "fnExactCatPart", apart := false, narrowed := true }
def FnExactCatPartUptoSaid : Prop := fnExactCatPartUptoRow.holds Try.pinned (OpenSpec.upto fnExactCatPartSpec)

/-- 'laws.FnExactCatHas', WHERE WHAT IT READS IS OF BULK AT MOST 1048576: true; the input reads as it did. -/
def fnExactCatHasUptoRow : OpenClaim := { program := "ytmbhcngddpoonae", sum := "2b3180c4bb12f5f129a48737d3c474ac0e8a088ea3895a4cb5df9698692a3cc6", func := "loop.example/concord/laws.FnExactCatHas", spec := "fnExactCatHas", apart := false, narrowed := true }
def FnExactCatHasUptoSaid : Prop := fnExactCatHasUptoRow.holds Try.pinned (OpenSpec.upto fnExactCatHasSpec)

/-- 'laws.FnExactCatOk', WHERE WHAT IT READS IS OF BULK AT MOST 1048576: true; the input reads as it did. -/
def fnExactCatOkUptoRow : OpenClaim := { program := "ytmbhcngddpoonae", sum := "2b3180c4bb12f5f129a48737d3c474ac0e8a088ea3895a4cb5df9698692a3cc6", func := "loop.example/concord/laws.FnExactCatOk", spec := "fnExactCatOk", apart := false, narrowed := true }
def FnExactCatOkUptoSaid : Prop := fnExactCatOkUptoRow.holds Try.pinned (OpenSpec.upto fnExactCatOkSpec)

/-- 'laws.FnValOk', WHERE WHAT IT READS IS OF BULK AT MOST 1048576: true; the input reads as it did. -/
def fnValOkUptoRow : OpenClaim := { program := "ytmbhcngddpoonae", sum := "2b3180c4bb12f5f129a48737d3c474ac0e8a088ea3895a4cb5df9698692a3cc6", func := "loop.example/concord/laws.FnValOk", spec := "fnValOk", apart := false, narrowed := true }
def FnValOkUptoSaid : Prop := fnValOkUptoRow.holds Try.pinned (OpenSpec.upto fnValOkSpec)

end Rows
end Go.Proofs.Ytmbhcngddpoonae
