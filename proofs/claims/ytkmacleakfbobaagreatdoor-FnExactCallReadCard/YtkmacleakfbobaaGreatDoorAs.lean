/-
  errors.As at an error of the program's own kind: it is found, and its code comes back; none is found in nil. The library's errors.errorType is as its text lays it.
-/
import Derived.Test.YtkmacleakfbobaaGreatDoorWalks
import Derived.WalkKit
import Derived.RowKitTokens
namespace Go.Proofs.YtkmacleakfbobaaGreatDoor
open Go.RowKit Go.Extern.Stop Go.Stop Go.Extern
set_option linter.unusedVariables false
set_option maxRecDepth 100000

theorem as_nil (t : Value) (w : World) :
    Calls Tryz.prog 24 #[.nilIface, t] w fun e w' => e = .returned (.bool false) ∧ w' = w := by
  go_enter Tryz.func24, Tryz.ntmps24
  go_wp2
  go_ret
  exact ⟨rfl, rfl⟩

/-- A type's handle. -/
abbrev hnd (t : TypeId) : Value := .pointer (some ⟨9, t, none⟩)
theorem Tryz.valueOfP (t : Addr) (w : World) : (ReflectliteValue.unpack (.iface 53 (.pointer (some t)))).run Tryz.prog w
    = .ok (.agg #[hnd 53, .pointer (some ⟨w.heap.size, 0, none⟩), .int .u64 150]) (w.alloc (.cells #[.pointer (some t)] 53)) := by kernel_rfl
theorem Tryz.typeP (a : Addr) (w : World) : (ReflectliteValue.methodAny (ReflectliteValue.valueError "reflectlite.Value.Type" 0) (fun t _ _ _ => ReflectliteType.toType t) #[.agg #[hnd 53, .pointer (some a), .int .u64 150]]).run Tryz.prog w
    = .ok (.iface 84 (.agg #[hnd 53])) w := by kernel_rfl
theorem Tryz.methodKind (h : Value) (w : World) : (Go.method 271 84 (.agg #[h]) "Kind").run Tryz.prog w = .ok (101, h) w := by kernel_rfl
theorem Tryz.kindP (w : World) : ((ReflectliteType.abiMethod fun t => (fun a : Nat => Value.int IntKind.u8 (a : Int)) <$> Rtype.kind t) #[hnd 53]).run Tryz.prog w = .ok (.int .u8 22) w := by kernel_rfl
theorem Tryz.kindF (w : World) : ((ReflectliteType.abiMethod fun t => (fun a : Nat => Value.int IntKind.u8 (a : Int)) <$> Rtype.kind t) #[hnd 48]).run Tryz.prog w = .ok (.int .u8 25) w := by kernel_rfl

theorem one_arg {m : Array Value → Sort _} (v : Value) (h1 : (v : Value) → m #[v]) (h2 : (x : Array Value) → m x) : ReflectliteValue.method.match_2 m #[v] h1 h2 = h1 v := rfl
theorem two_args {m : Array Value → Sort _} (v x : Value) (h1 : (v x : Value) → m #[v, x]) (h2 : (x : Array Value) → m x) : ReflectliteValue.set.match_3 m #[v, x] h1 h2 = h1 v x := rfl
theorem Tryz.partsP (a : Addr) (w : World) : (ReflectliteValue.parts (.agg #[hnd 53, .pointer (some a), .int .u64 150])).run Tryz.prog w = .ok (some (53, a, 150)) w := by kernel_rfl
theorem Tryz.isNilP (a p : Addr) (W : World) (ha : W.cell? a = some (.pointer (some p))) :
    (ReflectliteValue.method (ReflectliteValue.valueError "reflectlite.Value.IsNil" 0) ReflectliteValue.isNil #[.agg #[hnd 53, .pointer (some a), .int .u64 150]]).run Tryz.prog W = .ok (.bool false) W := by
  unfold ReflectliteValue.method
  rw [one_arg]
  simp only [Sem.run_bind, Tryz.partsP, Result.andThen]
  simp [ReflectliteValue.isNil, loadVar, isAgg, underlying, Tryz.underlying53, ha, Result.andThen]

theorem Tryz.methodElem (h : Value) (w : World) : (Go.method 271 84 (.agg #[h]) "Elem").run Tryz.prog w = .ok (113, .agg #[h]) w := by kernel_rfl
theorem Tryz.methodImplements (h : Value) (w : World) : (Go.method 271 84 (.agg #[h]) "Implements").run Tryz.prog w = .ok (114, .agg #[h]) w := by kernel_rfl
theorem Tryz.methodAssignableTo (h : Value) (w : World) : (Go.method 271 84 (.agg #[h]) "AssignableTo").run Tryz.prog w = .ok (111, .agg #[h]) w := by kernel_rfl
theorem Tryz.elemP (w : World) : (ReflectliteType.method ReflectliteType.elem #[.agg #[hnd 53]]).run Tryz.prog w = .ok (.iface 84 (.agg #[hnd 48])) w := by kernel_rfl
theorem Tryz.implementsF (w : World) : (ReflectliteType.relation "Implements" ReflectliteType.implements_ #[.agg #[hnd 48], .iface 84 (.agg #[hnd 37])]).run Tryz.prog w = .ok (.bool true) w := by kernel_rfl
theorem Tryz.typeOfF (v : Value) (w : World) : (ReflectliteType.typeOf #[.iface 48 v]).run Tryz.prog w = .ok (.iface 84 (.agg #[hnd 48])) w := by kernel_rfl
theorem Tryz.assignableF (w : World) : (ReflectliteType.relation "AssignableTo" ReflectliteType.assignableTo #[.agg #[hnd 48], .iface 84 (.agg #[hnd 48])]).run Tryz.prog w = .ok (.bool true) w := by kernel_rfl
theorem Tryz.valueOfF (x : Int) (w : World) : (ReflectliteValue.unpack (.iface 48 (.agg #[.int .i64 x]))).run Tryz.prog w
    = .ok (.agg #[hnd 48, .pointer (some ⟨w.heap.size, 0, none⟩), .int .u64 153]) (w.alloc (.cells #[.int .i64 x] 48)) := by kernel_rfl

theorem Tryz.elemOfP (w : World) : (Rtype.elem? 53).run Tryz.prog w = .ok (some 48) w := by kernel_rfl
theorem Tryz.mkF (p : Addr) (w : World) : (ReflectliteValue.mk 48 p ReflectliteValue.flagAddr).run Tryz.prog w = .ok (.agg #[hnd 48, .pointer (some p), .int .u64 409]) w := by kernel_rfl
theorem Tryz.elemVP (a p : Addr) (W : World) (ha : W.cell? a = some (.pointer (some p))) :
    (ReflectliteValue.method (ReflectliteValue.valueError "reflectlite.Value.Elem" 0) ReflectliteValue.elem #[.agg #[hnd 53, .pointer (some a), .int .u64 150]]).run Tryz.prog W
      = .ok (.agg #[hnd 48, .pointer (some p), .int .u64 409]) W := by
  unfold ReflectliteValue.method
  rw [one_arg]
  simp only [Sem.run_bind, Tryz.partsP, Result.andThen]
  simp [ReflectliteValue.elem, loadVar, isAgg, underlying, Tryz.underlying53, ha, Result.andThen, Tryz.elemOfP, Tryz.mkF]
theorem Tryz.partsFa (a : Addr) (w : World) : (ReflectliteValue.parts (.agg #[hnd 48, .pointer (some a), .int .u64 409])).run Tryz.prog w = .ok (some (48, a, 409)) w := by kernel_rfl
theorem Tryz.partsF (a : Addr) (w : World) : (ReflectliteValue.parts (.agg #[hnd 48, .pointer (some a), .int .u64 153])).run Tryz.prog w = .ok (some (48, a, 153)) w := by kernel_rfl
theorem Tryz.directF (w : World) : (Rtype.directlyAssignable 48 48).run Tryz.prog w = .ok true w := by kernel_rfl
theorem Tryz.sizeF (w : World) : (sizeOf 48).run Tryz.prog w = .ok 1 w := by kernel_rfl
theorem Tryz.loadVF (b : Addr) (x : Int) (W : World) (hb : W.cell? b = some (.int .i64 x)) : (loadVar 48 b).run Tryz.prog W = .ok (.agg #[.int .i64 x]) W := by
  have h1 : (loadCells b 1).run Tryz.prog W = .ok #[.int .i64 x] W := run_loadCells_list (w := W) b [.int .i64 x] (fun j v hj => by
    match j, hj with
    | 0, hj =>
      simp only [List.getElem?_cons_zero, Option.some.injEq] at hj
      subst hj
      exact hb)
  have h3 : (isAgg 48).run Tryz.prog W = .ok true W := by kernel_rfl
  unfold loadVar
  simp only [Sem.run_bind, h3, Result.andThen, if_pos, Tryz.sizeF, h1, Sem.run_pure]
theorem Tryz.storeVF (ta : Addr) (x : Int) (old : Value) (W : World) (ht : W.cell? ta = some old) (hf : W.frozen? ta = false) : (storeVar 48 ta (.agg #[.int .i64 x])).run Tryz.prog W = .ok () (W.setCell ta (.int .i64 x)) := by
  unfold storeVar
  simp [Sem.run_bind, Result.andThen, storeCells, Addr.add, Value.cells]
  rw [run_store Tryz.prog W ta _ _ (by rfl)]
  simp [ht, hf]
theorem Tryz.setF (ta b : Addr) (x : Int) (old : Value) (W : World) (hb : W.cell? b = some (.int .i64 x)) (ht : W.cell? ta = some old) (hf : W.frozen? ta = false) :
    (ReflectliteValue.set #[.agg #[hnd 48, .pointer (some ta), .int .u64 409], .agg #[hnd 48, .pointer (some b), .int .u64 153]]).run Tryz.prog W
      = .ok (.tuple #[]) (W.setCell ta (.int .i64 x)) := by
  have h1 := Tryz.loadVF b x W hb
  have h2 := Tryz.storeVF ta x old W ht hf
  unfold ReflectliteValue.set
  rw [two_args]
  simp [Sem.run_bind, Tryz.partsFa, Tryz.partsF, Result.andThen, ReflectliteValue.flagAddr, h1, Tryz.directF, h2]

end Go.Proofs.YtkmacleakfbobaaGreatDoor
