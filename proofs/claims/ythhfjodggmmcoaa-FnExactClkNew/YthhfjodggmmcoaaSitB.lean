/-
  Sites: held against another, marked, looked up again. No more than three pots and four clients.
-/
import Derived.Test.YthhfjodggmmcoaaSitA
namespace Go.Proofs.Ythhfjodggmmcoaa
open Go.RowKit
set_option linter.unusedVariables false
set_option maxRecDepth 100000

/-- What a site holds, in memory of its own. -/
structure SitX (W : World) (ba : Option Addr) (B1 bn : Nat) (Bs : List Int) (aa : Option Addr) (B2 an : Nat) (As : List Int) (da : Option Addr) (B3 dn : Nat) (f : Nat → Int × Int) : Prop where
  o1 : OwnX W ba B1 bn Bs
  o2 : OwnX W aa B2 an As
  d : DX W da B3 dn f
  n12 : 0 < bn → 0 < an → B1 ≠ B2
  n13 : 0 < bn → 0 < dn → B1 ≠ B3
  n23 : 0 < an → 0 < dn → B2 ≠ B3
  z1 : bn ≤ 3
  z2 : an ≤ 3
  z3 : dn ≤ 4
theorem SitX.touch {S : Nat → Prop} {W W' : World} {ba : Option Addr} {B1 bn : Nat} {Bs : List Int} {aa : Option Addr} {B2 an : Nat} {As : List Int} {da : Option Addr} {B3 dn : Nat} {f : Nat → Int × Int} (h : SitX W ba B1 bn Bs aa B2 an As da B3 dn f) (t : Touch S W W') (h1 : 0 < bn → ¬ S B1) (h2 : 0 < an → ¬ S B2) (h3 : 0 < dn → ¬ S B3) : SitX W' ba B1 bn Bs aa B2 an As da B3 dn f :=
  ⟨h.o1.touch t h1, h.o2.touch t h2, h.d.touch t h3, h.n12, h.n13, h.n23, h.z1, h.z2, h.z3⟩
theorem SitX.below {W W' : World} {ba : Option Addr} {B1 bn : Nat} {Bs : List Int} {aa : Option Addr} {B2 an : Nat} {As : List Int} {da : Option Addr} {B3 dn : Nat} {f : Nat → Int × Int} (h : SitX W ba B1 bn Bs aa B2 an As da B3 dn f) (b : Below W.heap.size W W') : SitX W' ba B1 bn Bs aa B2 an As da B3 dn f :=
  h.touch (S := fun _ => False) (Touch.of b) (fun _ h => h) (fun _ h => h) (fun _ h => h)
theorem SitX.alloc {W : World} {ba : Option Addr} {B1 bn : Nat} {Bs : List Int} {aa : Option Addr} {B2 an : Nat} {As : List Int} {da : Option Addr} {B3 dn : Nat} {f : Nat → Int × Int} (h : SitX W ba B1 bn Bs aa B2 an As da B3 dn f) (o : Obj) : SitX (W.alloc o) ba B1 bn Bs aa B2 an As da B3 dn f := h.below ((Below.refl _ _).alloc (Nat.le_refl _) _)

theorem Cel.six6 {w : World} {B : Nat} {x y z u v t' : Value} {t : TypeId} (h : Cel w B [x, y, z, u, v, t'] t) : w.cell? ⟨B, 0, none⟩ = some x ∧ w.cell? ⟨B, 1, none⟩ = some y ∧ w.cell? ⟨B, 2, none⟩ = some z ∧ w.cell? ⟨B, 3, none⟩ = some u ∧ w.cell? ⟨B, 4, none⟩ = some v ∧ w.cell? ⟨B, 5, none⟩ = some t' := ⟨h.cell 0, h.cell 1, h.cell 2, h.cell 3, h.cell 4, h.cell 5⟩

end Go.Proofs.Ythhfjodggmmcoaa
