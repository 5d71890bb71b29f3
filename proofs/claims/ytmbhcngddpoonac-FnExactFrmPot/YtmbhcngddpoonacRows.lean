/-
  No cell of these rows narrows 'for every input' (looked for: loops, veiled, ifaces, maps, wideKeys, modest, calm, conditions, laid).
  DERIVED. THE GIVEN ROWS OF THIS SEAT. 6 by the template 'for every input the law returns true; each argument reads behind the call as it read before'; 0 by the template 'total and deterministic' (their statements: YtmbhcngddpoonacTotals.lean).
  GIVEN WITH THE SEED: the statements are not yours to turn. If you find one false, say at which input.
  Laid BY PROGRAM, IN A SANDBOX (cutbox-rows.mjs): the forced cells as the released guide's own fill.sh prints them over the translation d14ab1ce9bff843d… (all of the seat's roots in one cut). By AI agents, Wed Nov 11 2026. No macro, syntax, notation, axiom, sorry.
-/
import Derived.Test.YtmbhcngddpoonacChecked
import GoSem.Claim
import GoSem.ClaimJoined
import GoSem.ClaimMapViews
import Derived.JoinedTies
import Derived.KernelRfl
namespace Go.Proofs.Ytmbhcngddpoonac
/- THE CELL 'sum', in the pinned program and in every row, IS THE sha256 OF THE DUMP (.gsa) THAT YtmbhcngddpoonacProg.lean LOADS. Nothing in Lean hashes anything: it is a label: what it is worth is what the hold of that sum in a sandbox is worth. -/
noncomputable def Try.pinned : Pinned := { name := "ytmbhcngddpoonac", sum := "d14ab1ce9bff843dd724291c4b2cc816a58c0cc55dfa6dc9400983a148070169", checked := Try.checked }
namespace Rows
def none {H : Type} : Left H := { results := [], args := [] }

/-- 'laws.FnExactFrmOk': WHATEVER THE INPUT: true; the input reads as it did. -/
def fnExactFrmOkSpec : ChangeSpec := { name := "fnExactFrmOk", fn := fun _ => fun
  | [d] => { results := [.lit (.bool true)], args := [d] }
  | _ => none }
def fnExactFrmOkRow : OpenClaim := { program := "ytmbhcngddpoonac", sum := "d14ab1ce9bff843dd724291c4b2cc816a58c0cc55dfa6dc9400983a148070169", func := "loop.example/concord/laws.FnExactFrmOk", spec := "fnExactFrmOk", apart := false }
def FnExactFrmOkSaid : Prop := fnExactFrmOkRow.holds Try.pinned (OpenSpec.ofChange fnExactFrmOkSpec)

/-- ITS FALSE NEIGHBOUR: 'it returns false'. Refute it at one input. -/
def fnExactFrmOkWrong : ChangeSpec := { name := "fnExactFrmOk", fn := fun _ => fun
  | [d] => { results := [.lit (.bool false)], args := [d] }
  | _ => none }
def FnExactFrmOkWrongFalsely : Prop := fnExactFrmOkRow.holds Try.pinned (OpenSpec.ofChange fnExactFrmOkWrong)

/-- 'laws.FnExactValOk': WHATEVER THE INPUT: true; the input reads as it did. -/
def fnExactValOkSpec : ChangeSpec := { name := "fnExactValOk", fn := fun _ => fun
  | [d] => { results := [.lit (.bool true)], args := [d] }
  | _ => none }
def fnExactValOkRow : OpenClaim := { program := "ytmbhcngddpoonac", sum := "d14ab1ce9bff843dd724291c4b2cc816a58c0cc55dfa6dc9400983a148070169", func := "loop.example/concord/laws.FnExactValOk", spec := "fnExactValOk", apart := false }
def FnExactValOkSaid : Prop := fnExactValOkRow.holds Try.pinned (OpenSpec.ofChange fnExactValOkSpec)

/-- ITS FALSE NEIGHBOUR: 'it returns false'. Refute it at one input. -/
def fnExactValOkWrong : ChangeSpec := { name := "fnExactValOk", fn := fun _ => fun
  | [d] => { results := [.lit (.bool false)], args := [d] }
  | _ => none }
def FnExactValOkWrongFalsely : Prop := fnExactValOkRow.holds Try.pinned (OpenSpec.ofChange fnExactValOkWrong)

/-- 'laws.FnExactArgOk': WHATEVER THE INPUT: true; the input reads as it did. -/
def fnExactArgOkSpec : ChangeSpec := { name := "fnExactArgOk", fn := fun _ => fun
  | [d] => { results := [.lit (.bool true)], args := [d] }
  | _ => none }
def fnExactArgOkRow : OpenClaim := { program := "ytmbhcngddpoonac", sum := "d14ab1ce9bff843dd724291c4b2cc816a58c0cc55dfa6dc9400983a148070169", func := "loop.example/concord/laws.FnExactArgOk", spec := "fnExactArgOk", apart := false }
def FnExactArgOkSaid : Prop := fnExactArgOkRow.holds Try.pinned (OpenSpec.ofChange fnExactArgOkSpec)

/-- ITS FALSE NEIGHBOUR: 'it returns false'. Refute it at one input. -/
def fnExactArgOkWrong : ChangeSpec := { name := "fnExactArgOk", fn := fun _ => fun
  | [d] => { results := [.lit (.bool false)], args := [d] }
  | _ => none }
def FnExactArgOkWrongFalsely : Prop := fnExactArgOkRow.holds Try.pinned (OpenSpec.ofChange fnExactArgOkWrong)

/-- 'laws.FnExactFrmPot': WHATEVER THE INPUT: true; the input reads as it did. -/
def fnExactFrmPotSpec : ChangeSpec := { name := "fnExactFrmPot", fn := fun _ => fun
  | [d] => { results := [.lit (.bool true)], args := [d] }
  | _ => none }
def fnExactFrmPotRow : OpenClaim := { program := "ytmbhcngddpoonac", sum := "d14ab1ce9bff843dd724291c4b2cc816a58c0cc55dfa6dc9400983a148070169", func := "loop.example/concord/laws.FnExactFrmPot", spec := "fnExactFrmPot", apart := false }
def FnExactFrmPotSaid : Prop := fnExactFrmPotRow.holds Try.pinned (OpenSpec.ofChange fnExactFrmPotSpec)

/-- ITS FALSE NEIGHBOUR: 'it returns false'. Refute it at one input. -/
def fnExactFrmPotWrong : ChangeSpec := { name := "fnExactFrmPot", fn := fun _ => fun
  | [d] => { results := [.lit (.bool false)], args := [d] }
  | _ => none }
def FnExactFrmPotWrongFalsely : Prop := fnExactFrmPotRow.holds Try.pinned (OpenSpec.ofChange fnExactFrmPotWrong)

/-- 'laws.FnExactFrmAdd': WHATEVER THE INPUT: true; the input reads as it did. -/
def fnExactFrmAddSpec : ChangeSpec := { name := "fnExactFrmAdd", fn := fun _ => fun
  | [d1, d2] => { results := [.lit (.bool true)], args := [d1, d2] }
  | _ => none }
def fnExactFrmAddRow : OpenClaim := { program := "ytmbhcngddpoonac", sum := "d14ab1ce9bff843dd724291c4b2cc816a58c0cc55dfa6dc9400983a148070169", func := "loop.example/concord/laws.FnExactFrmAdd", spec := "fnExactFrmAdd", apart := false }
def FnExactFrmAddSaid : Prop := fnExactFrmAddRow.holds Try.pinned (OpenSpec.ofChange fnExactFrmAddSpec)

/-- ITS FALSE NEIGHBOUR: 'it returns false'. Refute it at one input. -/
def fnExactFrmAddWrong : ChangeSpec := { name := "fnExactFrmAdd", fn := fun _ => fun
  | [d1, d2] => { results := [.lit (.bool false)], args := [d1, d2] }
  | _ => none }
def FnExactFrmAddWrongFalsely : Prop := fnExactFrmAddRow.holds Try.pinned (OpenSpec.ofChange fnExactFrmAddWrong)

/-- 'laws.FnExactFrmTimes': WHATEVER THE INPUT: true; the input reads as it did. -/
def fnExactFrmTimesSpec : ChangeSpec := { name := "fnExactFrmTimes", fn := fun _ => fun
  | [d1, d2] => { results := [.lit (.bool true)], args := [d1, d2] }
  | _ => none }
def fnExactFrmTimesRow : OpenClaim := { program := "ytmbhcngddpoonac", sum := "d14ab1ce9bff843dd724291c4b2cc816a58c0cc55dfa6dc9400983a148070169", func := "loop.example/concord/laws.FnExactFrmTimes", spec := "fnExactFrmTimes", apart := false }
def FnExactFrmTimesSaid : Prop := fnExactFrmTimesRow.holds Try.pinned (OpenSpec.ofChange fnExactFrmTimesSpec)

/-- ITS FALSE NEIGHBOUR: 'it returns false'. Refute it at one input. -/
def fnExactFrmTimesWrong : ChangeSpec := { name := "fnExactFrmTimes", fn := fun _ => fun
  | [d1, d2] => { results := [.lit (.bool false)], args := [d1, d2] }
  | _ => none }
def FnExactFrmTimesWrongFalsely : Prop := fnExactFrmTimesRow.holds Try.pinned (OpenSpec.ofChange fnExactFrmTimesWrong)

/- THE SECOND FORM. 'bulk': how many values and letters a reading holds, each counted each time it is reached (what is shared counts as often as it is met; a slice's spare places count too). A statement '..UptoSaid' is the law's where the arguments, and the package variables that the reading takes, are together of bulk at most 1048576: NARROWER than '..Said'. Prove '..Said' where nothing that the law and all that it calls make is longer than what came in: it says more and counts as full. Else prove '..UptoSaid'. A law counts once. -/
mutual
def uptoBulk {H : Type} : DataW H → Nat
  | .lit (.string bytes) => bytes.length + 1
  | .lit _ => 1
  | .nil => 1
  | .ptr d => uptoBulk d + 1
  | .slice elems spare => uptoBulkAll elems + uptoBulkAll spare + 1
  | .agg parts => uptoBulkAll parts + 1
  | .iface _ d => uptoBulk d + 1
  | .map entries => uptoBulkEntries entries + 1
  | .held _ => 1
def uptoBulkAll {H : Type} : List (DataW H) → Nat
  | [] => 0
  | d :: r => uptoBulk d + uptoBulkAll r
def uptoBulkEntries {H : Type} : List (Lit × DataW H) → Nat
  | [] => 0
  | x :: r => uptoBulkEntry x + uptoBulkEntries r
def uptoBulkEntry {H : Type} : Lit × DataW H → Nat
  | (.string bytes, d) => bytes.length + uptoBulk d + 1
  | (_, d) => uptoBulk d + 1
 end
def uptoSmall : (H : Type) → List (DataW H) → Bool := fun _ ds => decide (uptoBulkAll ds ≤ 1048576)
def OpenSpec.upto (s : _root_.Go.ChangeSpec) : _root_.Go.OpenSpec := { _root_.Go.OpenSpec.ofChange s with cond := some uptoSmall }

/-- 'laws.FnExactFrmOk', WHERE WHAT IT READS IS OF BULK AT MOST 1048576: true; the input reads as it did. -/
def fnExactFrmOkUptoRow : OpenClaim := { program := "ytmbhcngddpoonac", sum := "d14ab1ce9bff843dd724291c4b2cc816a58c0cc55dfa6dc9400983a148070169", func := "loop.example/concord/laws.FnExactFrmOk", spec := "fnExactFrmOk", apart := false, narrowed := true }
def FnExactFrmOkUptoSaid : Prop := fnExactFrmOkUptoRow.holds Try.pinned (OpenSpec.upto fnExactFrmOkSpec)

/-- 'laws.FnExactValOk', WHERE WHAT IT READS IS OF BULK AT MOST 1048576: true; the input reads as it did. -/
def fnExactValOkUptoRow : OpenClaim := { program := "ytmbhcngddpoonac", sum := "d14ab1ce9bff843dd724291c4b2cc816a58c0cc55dfa6dc9400983a148070169", func := "loop.example/concord/laws.FnExactValOk", spec := "fnExactValOk", apart := false, narrowed := true }
def FnExactValOkUptoSaid : Prop := fnExactValOkUptoRow.holds Try.pinned (OpenSpec.upto fnExactValOkSpec)

/-- 'laws.FnExactArgOk', WHERE WHAT IT READS IS OF BULK AT MOST 1048576: true; the input reads as it did. -/
def fnExactArgOkUptoRow : OpenClaim := { program := "ytmbhcngddpoonac", sum := "d14ab1ce9bff843dd724291c4b2cc816a58c0cc55dfa6dc9400983a148070169", func := "loop.example/concord/laws.FnExactArgOk", spec := "fnExactArgOk", apart := false, narrowed := true }
def FnExactArgOkUptoSaid : Prop := fnExactArgOkUptoRow.holds Try.pinned (OpenSpec.upto fnExactArgOkSpec)

/-- 'laws.FnExactFrmPot', WHERE WHAT IT READS IS OF BULK AT MOST 1048576: true; the input reads as it did. -/
def fnExactFrmPotUptoRow : OpenClaim := { program := "ytmbhcngddpoonac", sum := "d14ab1ce9bff843dd724291c4b2cc816a58c0cc55dfa6dc9400983a148070169", func := "loop.example/concord/laws.FnExactFrmPot", spec := "fnExactFrmPot", apart := false, narrowed := true }
def FnExactFrmPotUptoSaid : Prop := fnExactFrmPotUptoRow.holds Try.pinned (OpenSpec.upto fnExactFrmPotSpec)

/-- 'laws.FnExactFrmAdd', WHERE WHAT IT READS IS OF BULK AT MOST 1048576: true; the input reads as it did. -/
def fnExactFrmAddUptoRow : OpenClaim := { program := "ytmbhcngddpoonac", sum := "d14ab1ce9bff843dd724291c4b2cc816a58c0cc55dfa6dc9400983a148070169", func := "loop.example/concord/laws.FnExactFrmAdd", spec := "fnExactFrmAdd", apart := false, narrowed := true }
def FnExactFrmAddUptoSaid : Prop := fnExactFrmAddUptoRow.holds Try.pinned (OpenSpec.upto fnExactFrmAddSpec)

/-- 'laws.FnExactFrmTimes', WHERE WHAT IT READS IS OF BULK AT MOST 1048576: true; the input reads as it did. -/
def fnExactFrmTimesUptoRow : OpenClaim := { program := "ytmbhcngddpoonac", sum := "d14ab1ce9bff843dd724291c4b2cc816a58c0cc55dfa6dc9400983a148070169", func := "loop.example/concord/laws.FnExactFrmTimes", spec := "fnExactFrmTimes", apart := false, narrowed := true }
def FnExactFrmTimesUptoSaid : Prop := fnExactFrmTimesUptoRow.holds Try.pinned (OpenSpec.upto fnExactFrmTimesSpec)

end Rows
end Go.Proofs.Ytmbhcngddpoonac
