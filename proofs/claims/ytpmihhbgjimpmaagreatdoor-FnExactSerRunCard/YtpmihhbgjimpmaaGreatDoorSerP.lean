/-
  Calls done one behind the other, over plain lists. No condition.
-/
import Derived.Test.YtpmihhbgjimpmaaGreatDoorLogS
import Derived.Test.YtpmihhbgjimpmaaGreatDoorLineSS
import Derived.Test.YtpmihhbgjimpmaaGreatDoorRunS
namespace Go.Proofs.YtpmihhbgjimpmaaGreatDoor
set_option linter.unusedVariables false

/-- One call more: what comes of it, and what the pots have then. -/
def serStep (ss : List L2V) (st : List (Int × List Int) × List Int) (f : LgV) : List (Int × List Int) × List Int :=
  (st.1 ++ [(runCode (ss[f.c.toNat]?.getD noL).n (ss[f.c.toNat]?.getD noL).x st.2.length st.2 f.t.n f.t.x, runTells (ss[f.c.toNat]?.getD noL).n (ss[f.c.toNat]?.getD noL).x st.2.length st.2 f.t.n f.t.x)], runPots (ss[f.c.toNat]?.getD noL).n (ss[f.c.toNat]?.getD noL).x st.2.length st.2 f.t.n f.t.x)
/-- All calls: what came of each, and what the pots have then. -/
def serL (ss : List L2V) (V : List Int) (fs : List LgV) : List (Int × List Int) × List Int := fs.foldl (serStep ss) ([], V)
theorem serL_zero (ss : List L2V) (V : List Int) (fs : List LgV) : serL ss V (fs.take 0) = ([], V) := by simp [serL]
theorem serL_step {ss : List L2V} {V : List Int} {fs : List LgV} {k : Nat} (hk : k < fs.length) : serL ss V (fs.take (k + 1)) = serStep ss (serL ss V (fs.take k)) (fs[k]?.getD noLg) := by
  unfold serL
  rw [List.take_add_one, List.foldl_append, List.getElem?_eq_getElem hk]
  rfl
theorem serL_len (ss : List L2V) (V : List Int) (fs : List LgV) : (serL ss V fs).1.length = fs.length := by
  have h : ∀ (fs : List LgV) (st : List (Int × List Int) × List Int), (fs.foldl (serStep ss) st).1.length = st.1.length + fs.length := by
    intro fs
    induction fs with
    | nil => intro st; simp
    | cons f fs ih => intro st; rw [List.foldl_cons, ih, serStep]; simp; omega
  simpa [serL] using h fs ([], V)

end Go.Proofs.YtpmihhbgjimpmaaGreatDoor
