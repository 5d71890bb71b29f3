/-
  The text of a form, as the program writes it. The library's table of powers of ten is as its text lays it.
-/
import Derived.Test.YtfkcfjkojfnfnaaDoorFTxtI
import Derived.Test.YtfkcfjkojfnfnaaDoorOpen
import Derived.Stop.LaidErr
import Derived.Lib.LaidTab
import Derived.LaidMore
import Derived.Lay
import Derived.SevenTiedAt
import Derived.Stop.Joined
import Derived.Deep.RegionHeld3
import Derived.Deep.DeepCutAuto
namespace Go.Proofs.YtfkcfjkojfnfnaaDoor.fnExactFrmText
open Go.ChangeShapes Go.WideShapes Go.ChangeAt Go.RowKit Go.Deep
set_option linter.unusedVariables false

theorem _root_.Go.Proofs.YtfkcfjkojfnfnaaDoor.Cel.three {w : World} {B : Nat} {v0 v1 v2 : Value} {t : TypeId} (h : Cel w B [v0, v1, v2] t) : w.cell? ⟨B, 0, none⟩ = some v0 ∧ w.cell? ⟨B, 1, none⟩ = some v1 ∧ w.cell? ⟨B, 2, none⟩ = some v2 := ⟨h.cell 0, h.cell 1, h.cell 2⟩

set_option maxRecDepth 100000 in
theorem iftext_any (a : Option Addr) (n cap : Nat) (c : Option Addr) (m cap' : Nat) (K : Int) (C D : List Int) (w : World) (hC : Ints w a n C) (hD : Ints w c m D) (hn : n ≤ 1048576) (hm : m ≤ 1048576) (hT : Lib.TabBelow Tryd.prog w.heap.size w "internal/strconv.uint64pow10" .u64 Lib.pow10Tab) :
    Calls Tryd.prog 8 #[formV a n cap c m cap' K] w fun e w' => e = .returned (.string ⟨(formText n m C D K).toArray⟩) ∧ Below w.heap.size w w' := by
  have q0 := Cel.new w [.slice a n cap, .slice c m cap', .int .i64 K] 25
  have b0 := (Below.refl w.heap.size w).alloc (Nat.le_refl _) (.cells #[.slice a n cap, .slice c m cap', .int .i64 K] 25)
  have HT : Hid _ := hT
  clear hT
  cases h1 : formB n m C D K
  · have HR : Hid _ := formText_no h1
    go_enter Tryd.func8, Tryd.ntmps8
    go_wp2_with fail
    refine (iok_any _ _ _ _ _ _ _ C D _ (hC.below b0) (hD.below b0) hn hm).mono ?_
    rintro e w1 ⟨rfl, b1⟩
    rw [h1]
    go_wp2
    go_ret
    exact ⟨by rw [HR.out]; rfl, b0.trans (b1.mono b0.size)⟩
  · have HR : Hid _ := formText_yes h1
    obtain ⟨e1, e2, bC, bD, K1, K2⟩ := formB_elim h1
    have H1 : Hid _ := h1
    clear h1
    subst e1 e2
    go_enter Tryd.func8, Tryd.ntmps8
    go_wp2_with fail
    refine (iok_any _ _ _ _ _ _ _ C D _ (hC.below b0) (hD.below b0) hn hm).mono ?_
    rintro e w1 ⟨rfl, b1⟩
    rw [H1.out]
    have B1 := b0.trans (b1.mono b0.size)
    obtain ⟨c0, c1, c2⟩ := (q0.below b1).three
    go_wp2_with fail
    refine (text_any _ _ _ _ _ C D _ (hC.below B1) (hD.below B1) bC bD K1 K2 (fun w' h' => HT.out w' (B1.trans (h'.mono B1.size)))).mono ?_
    rintro e w2 ⟨rfl, b2⟩
    go_wp2
    go_ret
    exact ⟨by rw [HR.out]; rfl, B1.trans (b2.mono B1.size)⟩

end Go.Proofs.YtfkcfjkojfnfnaaDoor.fnExactFrmText
