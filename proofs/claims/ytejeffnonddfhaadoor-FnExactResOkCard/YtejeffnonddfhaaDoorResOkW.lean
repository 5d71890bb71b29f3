/-
  Whether a result is one that may come: both functions answer the same. Lengths at most 1048576; the library's table of powers of ten is as its text lays it.
-/
import Derived.Test.YtejeffnonddfhaaDoorTxtJ
namespace Go.Proofs.YtejeffnonddfhaaDoor
open Go.RowKit
set_option linter.unusedVariables false
set_option maxRecDepth 100000

/-- A text is not empty. -/
def fullB (l : List UInt8) : Bool := !(⟨l.toArray⟩ : ByteArray).toList.isEmpty

set_option maxHeartbeats 800000 in
theorem sresok_any (c : Int) (a : Option Addr) (n cap : Nat) (zs : List Int) (w : World) (hC : Ints w a n zs) (hn : n ≤ 1048576) :
    Calls Tryd.prog 13 #[resP c a n cap] w fun e w' => e = .returned (.bool (fullB (resText c n zs))) ∧ Below w.heap.size w w' := by
  obtain ⟨T, hTx⟩ : ∃ T : ByteArray, T = ⟨(resText c n zs).toArray⟩ := ⟨_, rfl⟩
  have HTX : Hid _ := hTx
  clear hTx
  have B0 := (Below.refl w.heap.size w).alloc (Nat.le_refl _) (.cells #[.int .i64 c, .slice a n cap] 27)
  go_enter Tryd.func13, Tryd.ntmps13
  go_wp2_with fail
  refine (stext_any _ _ _ _ zs _ (hC.alloc _) hn).mono ?_
  rintro e w1 ⟨rfl, b1⟩
  rw [← HTX.out]
  go_wp2
  go_ret
  exact ⟨by rw [fullB, ← HTX.out]; rfl, B0.trans (b1.mono B0.size)⟩

set_option maxHeartbeats 800000 in
theorem iresok_any (c : Int) (a : Option Addr) (n cap : Nat) (zs : List Int) (w : World) (hC : Ints w a n zs) (hn : n ≤ 1048576) (hT : Lib.TabBelow Tryd.prog w.heap.size w "internal/strconv.uint64pow10" .u64 Lib.pow10Tab) :
    Calls Tryd.prog 14 #[resP c a n cap] w fun e w' => e = .returned (.bool (fullB (resText c n zs))) ∧ Below w.heap.size w w' := by
  obtain ⟨T, hTx⟩ : ∃ T : ByteArray, T = ⟨(resText c n zs).toArray⟩ := ⟨_, rfl⟩
  have HTX : Hid _ := hTx
  have HT : Hid _ := hT
  clear hTx hT
  have B0 := (Below.refl w.heap.size w).alloc (Nat.le_refl _) (.cells #[.int .i64 c, .slice a n cap] 27)
  go_enter Tryd.func14, Tryd.ntmps14
  go_wp2_with fail
  refine (itext_any _ _ _ _ zs _ (hC.alloc _) hn (fun w' h' => HT.out w' (B0.trans (h'.mono B0.size)))).mono ?_
  rintro e w1 ⟨rfl, b1⟩
  rw [← HTX.out]
  go_wp2
  go_ret
  exact ⟨by rw [fullB, ← HTX.out]; rfl, B0.trans (b1.mono B0.size)⟩

end Go.Proofs.YtejeffnonddfhaaDoor
