import Derived.Test.YtmhhphpihnkfpaaDoorRfQ
import Derived.Test.YtmhhphpihnkfpaaDoorRdI
import Derived.Test.YtmhhphpihnkfpaaDoorOwn0
namespace Go.Proofs.YtmhhphpihnkfpaaDoor
open Go.RowKit
set_option linter.unusedVariables false
set_option maxRecDepth 100000

theorem cut_len {s m q : List UInt8} {x : UInt8} {f : Bool} (h : Lib.cut s [x] = (m, q, f)) : m.length ≤ s.length ∧ q.length ≤ s.length := by
  rw [Lib.cut] at h
  split at h
  · cases h
    rw [List.length_take, List.length_drop]
    omega
  · cases h
    exact ⟨Nat.le_refl _, Nat.zero_le _⟩
theorem times_f {s m q : List UInt8} {x : UInt8} {zs : List Int} (h : Lib.cut s [x] = (m, q, false)) : timesR x zs s = none := by rw [timesR, h]
theorem times_m {s m q : List UInt8} {x : UInt8} {zs : List Int} (h : Lib.cut s [x] = (m, q, true)) (hm : ∀ v, Lib.atoiAll m ≠ .ok v) : timesR x zs s = none := by
  rw [timesR, h]
  show (match Lib.atoiAll m, Lib.atoiAll q with | .ok z, .ok p => _ | _, _ => _) = _
  cases e : Lib.atoiAll m with
  | ok v => exact absurd e (hm v)
  | «syntax» => rfl
  | range => rfl
theorem times_q {s m q : List UInt8} {x : UInt8} {zs : List Int} {v : Int} (h : Lib.cut s [x] = (m, q, true)) (hm : Lib.atoiAll m = .ok v) (hq : ∀ v, Lib.atoiAll q ≠ .ok v) : timesR x zs s = none := by
  rw [timesR, h]
  show (match Lib.atoiAll m, Lib.atoiAll q with | .ok z, .ok p => _ | _, _ => _) = _
  rw [hm]
  cases e : Lib.atoiAll q with
  | ok v => exact absurd e (hq v)
  | «syntax» => rfl
  | range => rfl
theorem times_ok {s m q : List UInt8} {x : UInt8} {zs : List Int} {v p : Int} (h : Lib.cut s [x] = (m, q, true)) (hm : Lib.atoiAll m = .ok v) (hq : Lib.atoiAll q = .ok p) : timesR x zs s = if 0 ≤ p ∧ p < zs.length then some (zs.set p.toNat v) else none := by
  rw [timesR, h]
  show (match Lib.atoiAll m, Lib.atoiAll q with | .ok z, .ok p => _ | _, _ => _) = _
  rw [hm, hq]

end Go.Proofs.YtmhhphpihnkfpaaDoor
