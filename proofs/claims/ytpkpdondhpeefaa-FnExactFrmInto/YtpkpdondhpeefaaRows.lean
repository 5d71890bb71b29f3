/-
  No cell of these rows narrows 'for every input' (looked for: loops, veiled, ifaces, maps, wideKeys, modest, calm, conditions, laid).
  DERIVED. THE GIVEN ROWS OF THIS SEAT. 6 by the template 'for every input the law returns true; each argument reads behind the call as it read before'; 0 by the template 'total and deterministic' (their statements: YtpkpdondhpeefaaTotals.lean).
  GIVEN WITH THE SEED: the statements are not yours to turn. If you find one false, say at which input.
  Laid BY PROGRAM, IN A SANDBOX (cutbox-rows.mjs): the forced cells as the released guide's own fill.sh prints them over the translation 67a38b16d55bf3f5… (all of the seat's roots in one cut). By AI agents, Wed Nov 11 2026. No macro, syntax, notation, axiom, sorry.
-/
import Derived.Test.YtpkpdondhpeefaaChecked
import GoSem.Claim
import GoSem.ClaimJoined
import GoSem.ClaimMapViews
import Derived.JoinedTies
import Derived.KernelRfl
namespace Go.Proofs.Ytpkpdondhpeefaa
/- THE CELL 'sum', in the pinned program and in every row, IS THE sha256 OF THE DUMP (.gsa) THAT YtpkpdondhpeefaaProg.lean LOADS. Nothing in Lean hashes anything: it is a label: what it is worth is what the hold of that sum in a sandbox is worth. -/
noncomputable def Try.pinned : Pinned := { name := "ytpkpdondhpeefaa", sum := "67a38b16d55bf3f535ad1efed8b08db27ef436c527325dc033b7390e16bcdce4", checked := Try.checked }
namespace Rows
def none {H : Type} : Left H := { results := [], args := [] }

/-- 'laws.FnExactFrmAdd': WHATEVER THE INPUT: true; the input reads as it did. -/
def fnExactFrmAddSpec : ChangeSpec := { name := "fnExactFrmAdd", fn := fun _ => fun
  | [d1, d2] => { results := [.lit (.bool true)], args := [d1, d2] }
  | _ => none }
def fnExactFrmAddRow : OpenClaim := { program := "ytpkpdondhpeefaa", sum := "67a38b16d55bf3f535ad1efed8b08db27ef436c527325dc033b7390e16bcdce4", func := "loop.example/concord/laws.FnExactFrmAdd", spec := "fnExactFrmAdd", apart := false }
def FnExactFrmAddSaid : Prop := fnExactFrmAddRow.holds Try.pinned (OpenSpec.ofChange fnExactFrmAddSpec)

/-- ITS FALSE NEIGHBOUR: 'it returns false'. Refute it at one input. -/
def fnExactFrmAddWrong : ChangeSpec := { name := "fnExactFrmAdd", fn := fun _ => fun
  | [d1, d2] => { results := [.lit (.bool false)], args := [d1, d2] }
  | _ => none }
def FnExactFrmAddWrongFalsely : Prop := fnExactFrmAddRow.holds Try.pinned (OpenSpec.ofChange fnExactFrmAddWrong)

/-- 'laws.FnExactFrmTimes': WHATEVER THE INPUT: true; the input reads as it did. -/
def fnExactFrmTimesSpec : ChangeSpec := { name := "fnExactFrmTimes", fn := fun _ => fun
  | [d1, d2] => { results := [.lit (.bool true)], args := [d1, d2] }
  | _ => none }
def fnExactFrmTimesRow : OpenClaim := { program := "ytpkpdondhpeefaa", sum := "67a38b16d55bf3f535ad1efed8b08db27ef436c527325dc033b7390e16bcdce4", func := "loop.example/concord/laws.FnExactFrmTimes", spec := "fnExactFrmTimes", apart := false }
def FnExactFrmTimesSaid : Prop := fnExactFrmTimesRow.holds Try.pinned (OpenSpec.ofChange fnExactFrmTimesSpec)

/-- ITS FALSE NEIGHBOUR: 'it returns false'. Refute it at one input. -/
def fnExactFrmTimesWrong : ChangeSpec := { name := "fnExactFrmTimes", fn := fun _ => fun
  | [d1, d2] => { results := [.lit (.bool false)], args := [d1, d2] }
  | _ => none }
def FnExactFrmTimesWrongFalsely : Prop := fnExactFrmTimesRow.holds Try.pinned (OpenSpec.ofChange fnExactFrmTimesWrong)

/-- 'laws.FnExactFrmAt': WHATEVER THE INPUT: true; the input reads as it did. -/
def fnExactFrmAtSpec : ChangeSpec := { name := "fnExactFrmAt", fn := fun _ => fun
  | [d1, d2, d3] => { results := [.lit (.bool true)], args := [d1, d2, d3] }
  | _ => none }
def fnExactFrmAtRow : OpenClaim := { program := "ytpkpdondhpeefaa", sum := "67a38b16d55bf3f535ad1efed8b08db27ef436c527325dc033b7390e16bcdce4", func := "loop.example/concord/laws.FnExactFrmAt", spec := "fnExactFrmAt", apart := false }
def FnExactFrmAtSaid : Prop := fnExactFrmAtRow.holds Try.pinned (OpenSpec.ofChange fnExactFrmAtSpec)

/-- ITS FALSE NEIGHBOUR: 'it returns false'. Refute it at one input. -/
def fnExactFrmAtWrong : ChangeSpec := { name := "fnExactFrmAt", fn := fun _ => fun
  | [d1, d2, d3] => { results := [.lit (.bool false)], args := [d1, d2, d3] }
  | _ => none }
def FnExactFrmAtWrongFalsely : Prop := fnExactFrmAtRow.holds Try.pinned (OpenSpec.ofChange fnExactFrmAtWrong)

/-- 'laws.FnExactFrmInto': WHATEVER THE INPUT: true; the input reads as it did. -/
def fnExactFrmIntoSpec : ChangeSpec := { name := "fnExactFrmInto", fn := fun _ => fun
  | [d1, d2] => { results := [.lit (.bool true)], args := [d1, d2] }
  | _ => none }
def fnExactFrmIntoRow : OpenClaim := { program := "ytpkpdondhpeefaa", sum := "67a38b16d55bf3f535ad1efed8b08db27ef436c527325dc033b7390e16bcdce4", func := "loop.example/concord/laws.FnExactFrmInto", spec := "fnExactFrmInto", apart := false }
def FnExactFrmIntoSaid : Prop := fnExactFrmIntoRow.holds Try.pinned (OpenSpec.ofChange fnExactFrmIntoSpec)

/-- ITS FALSE NEIGHBOUR: 'it returns false'. Refute it at one input. -/
def fnExactFrmIntoWrong : ChangeSpec := { name := "fnExactFrmInto", fn := fun _ => fun
  | [d1, d2] => { results := [.lit (.bool false)], args := [d1, d2] }
  | _ => none }
def FnExactFrmIntoWrongFalsely : Prop := fnExactFrmIntoRow.holds Try.pinned (OpenSpec.ofChange fnExactFrmIntoWrong)

/-- 'laws.FnExactActOk': WHATEVER THE INPUT: true; the input reads as it did. -/
def fnExactActOkSpec : ChangeSpec := { name := "fnExactActOk", fn := fun _ => fun
  | [d] => { results := [.lit (.bool true)], args := [d] }
  | _ => none }
def fnExactActOkRow : OpenClaim := { program := "ytpkpdondhpeefaa", sum := "67a38b16d55bf3f535ad1efed8b08db27ef436c527325dc033b7390e16bcdce4", func := "loop.example/concord/laws.FnExactActOk", spec := "fnExactActOk", apart := false }
def FnExactActOkSaid : Prop := fnExactActOkRow.holds Try.pinned (OpenSpec.ofChange fnExactActOkSpec)

/-- ITS FALSE NEIGHBOUR: 'it returns false'. Refute it at one input. -/
def fnExactActOkWrong : ChangeSpec := { name := "fnExactActOk", fn := fun _ => fun
  | [d] => { results := [.lit (.bool false)], args := [d] }
  | _ => none }
def FnExactActOkWrongFalsely : Prop := fnExactActOkRow.holds Try.pinned (OpenSpec.ofChange fnExactActOkWrong)

/-- 'laws.FnExactActRun': WHATEVER THE INPUT: true; the input reads as it did. -/
def fnExactActRunSpec : ChangeSpec := { name := "fnExactActRun", fn := fun _ => fun
  | [d1, d2, d3] => { results := [.lit (.bool true)], args := [d1, d2, d3] }
  | _ => none }
def fnExactActRunRow : OpenClaim := { program := "ytpkpdondhpeefaa", sum := "67a38b16d55bf3f535ad1efed8b08db27ef436c527325dc033b7390e16bcdce4", func := "loop.example/concord/laws.FnExactActRun", spec := "fnExactActRun", unfollowed := true, recurses := true, apart := false }
def FnExactActRunSaid : Prop := fnExactActRunRow.holds Try.pinned (OpenSpec.ofChange fnExactActRunSpec)

/-- ITS FALSE NEIGHBOUR: 'it returns false'. Refute it at one input. -/
def fnExactActRunWrong : ChangeSpec := { name := "fnExactActRun", fn := fun _ => fun
  | [d1, d2, d3] => { results := [.lit (.bool false)], args := [d1, d2, d3] }
  | _ => none }
def FnExactActRunWrongFalsely : Prop := fnExactActRunRow.holds Try.pinned (OpenSpec.ofChange fnExactActRunWrong)

/- THE SECOND FORM. 'bulk': how many values and letters a reading holds, each counted each time it is reached (what is shared counts as often as it is met; a slice's spare places count too). A statement '..UptoSaid' is the law's where the arguments, and the package variables that the reading takes, are together of bulk at most 1048576: NARROWER than '..Said'. Prove '..Said' where nothing that the law and all that it calls make is longer than what came in: it says more and counts as full. Else prove '..UptoSaid'. A law counts once. -/
mutual
def uptoBulk {H : Type} : DataW H → Nat
  | .lit (.string bytes) => bytes.length + 1
  | .lit _ => 1
  | .nil => 1
  | .ptr d => uptoBulk d + 1
  | .slice elems spare => uptoBulkAll elems + uptoBulkAll spare + 1
  | .agg parts => uptoBulkAll parts + 1
  | .iface _ d => uptoBulk d + 1
  | .map entries => uptoBulkEntries entries + 1
  | .held _ => 1
def uptoBulkAll {H : Type} : List (DataW H) → Nat
  | [] => 0
  | d :: r => uptoBulk d + uptoBulkAll r
def uptoBulkEntries {H : Type} : List (Lit × DataW H) → Nat
  | [] => 0
  | x :: r => uptoBulkEntry x + uptoBulkEntries r
def uptoBulkEntry {H : Type} : Lit × DataW H → Nat
  | (.string bytes, d) => bytes.length + uptoBulk d + 1
  | (_, d) => uptoBulk d + 1
 end
def uptoSmall : (H : Type) → List (DataW H) → Bool := fun _ ds => decide (uptoBulkAll ds ≤ 1048576)
def OpenSpec.upto (s : _root_.Go.ChangeSpec) : _root_.Go.OpenSpec := { _root_.Go.OpenSpec.ofChange s with cond := some uptoSmall }

/-- 'laws.FnExactFrmAdd', WHERE WHAT IT READS IS OF BULK AT MOST 1048576: true; the input reads as it did. -/
def fnExactFrmAddUptoRow : OpenClaim := { program := "ytpkpdondhpeefaa", sum := "67a38b16d55bf3f535ad1efed8b08db27ef436c527325dc033b7390e16bcdce4", func := "loop.example/concord/laws.FnExactFrmAdd", spec := "fnExactFrmAdd", apart := false, narrowed := true }
def FnExactFrmAddUptoSaid : Prop := fnExactFrmAddUptoRow.holds Try.pinned (OpenSpec.upto fnExactFrmAddSpec)

/-- 'laws.FnExactFrmTimes', WHERE WHAT IT READS IS OF BULK AT MOST 1048576: true; the input reads as it did. -/
def fnExactFrmTimesUptoRow : OpenClaim := { program := "ytpkpdondhpeefaa", sum := "67a38b16d55bf3f535ad1efed8b08db27ef436c527325dc033b7390e16bcdce4", func := "loop.example/concord/laws.FnExactFrmTimes", spec := "fnExactFrmTimes", apart := false, narrowed := true }
def FnExactFrmTimesUptoSaid : Prop := fnExactFrmTimesUptoRow.holds Try.pinned (OpenSpec.upto fnExactFrmTimesSpec)

/-- 'laws.FnExactFrmAt', WHERE WHAT IT READS IS OF BULK AT MOST 1048576: true; the input reads as it did. -/
def fnExactFrmAtUptoRow : OpenClaim := { program := "ytpkpdondhpeefaa", sum := "67a38b16d55bf3f535ad1efed8b08db27ef436c527325dc033b7390e16bcdce4", func := "loop.example/concord/laws.FnExactFrmAt", spec := "fnExactFrmAt", apart := false, narrowed := true }
def FnExactFrmAtUptoSaid : Prop := fnExactFrmAtUptoRow.holds Try.pinned (OpenSpec.upto fnExactFrmAtSpec)

/-- 'laws.FnExactFrmInto', WHERE WHAT IT READS IS OF BULK AT MOST 1048576: true; the input reads as it did. -/
def fnExactFrmIntoUptoRow : OpenClaim := { program := "ytpkpdondhpeefaa", sum := "67a38b16d55bf3f535ad1efed8b08db27ef436c527325dc033b7390e16bcdce4", func := "loop.example/concord/laws.FnExactFrmInto", spec := "fnExactFrmInto", apart := false, narrowed := true }
def FnExactFrmIntoUptoSaid : Prop := fnExactFrmIntoUptoRow.holds Try.pinned (OpenSpec.upto fnExactFrmIntoSpec)

/-- 'laws.FnExactActOk', WHERE WHAT IT READS IS OF BULK AT MOST 1048576: true; the input reads as it did. -/
def fnExactActOkUptoRow : OpenClaim := { program := "ytpkpdondhpeefaa", sum := "67a38b16d55bf3f535ad1efed8b08db27ef436c527325dc033b7390e16bcdce4", func := "loop.example/concord/laws.FnExactActOk", spec := "fnExactActOk", apart := false, narrowed := true }
def FnExactActOkUptoSaid : Prop := fnExactActOkUptoRow.holds Try.pinned (OpenSpec.upto fnExactActOkSpec)

/-- 'laws.FnExactActRun', WHERE WHAT IT READS IS OF BULK AT MOST 1048576: true; the input reads as it did. -/
def fnExactActRunUptoRow : OpenClaim := { program := "ytpkpdondhpeefaa", sum := "67a38b16d55bf3f535ad1efed8b08db27ef436c527325dc033b7390e16bcdce4", func := "loop.example/concord/laws.FnExactActRun", spec := "fnExactActRun", unfollowed := true, recurses := true, apart := false, narrowed := true }
def FnExactActRunUptoSaid : Prop := fnExactActRunUptoRow.holds Try.pinned (OpenSpec.upto fnExactActRunSpec)

end Rows
end Go.Proofs.Ytpkpdondhpeefaa
