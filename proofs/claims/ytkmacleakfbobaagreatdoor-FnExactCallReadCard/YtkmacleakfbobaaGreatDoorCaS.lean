/-
  A call, as the specification reads it, of whatever length.
-/
import Derived.Test.YtkmacleakfbobaaGreatDoorCaP
import Derived.Test.YtkmacleakfbobaaGreatDoorRdI
namespace Go.Proofs.YtkmacleakfbobaaGreatDoor
open Go.RowKit
set_option linter.unusedVariables false
set_option maxRecDepth 100000

theorem callL_ne {cl sq ac : Int} {zs : List Int} : callL cl sq ac zs ≠ [] := by rw [callL]; exact fun h => by cases h
theorem ca_hit {l : List UInt8} {cl sq ac : Int} {zs : List Int} (h2 : zs.length = 2) (h : callText cl sq ac 2 zs = l) (h0 : callText cl sq ac 2 zs ≠ []) : caF l = ((cl, sq, ac, zs), true) := by
  apply caF_yes
  cases e : callOkB cl sq ac 2 zs
  · exact absurd (callText_no e) h0
  · exact ⟨e, h2, by rw [← h, callText_yes e]⟩
theorem ca_miss {l : List UInt8} (h : ∀ c, Can l c → callText c.1 c.2.1 c.2.2.1 2 c.2.2.2 ≠ l) : caF l = ((0, 0, 0, []), false) :=
  caF_no (fun c hc => h c hc (by rw [callText_yes hc.1, hc.2.2]))
theorem atC_some {ws : List (List UInt8)} {k : Nat} {x : List UInt8} (h : ws[k]? = some x) : atC ws k = if (numL x).2 = true then (numL x).1 else -1 := by rw [atC, h]

theorem l2at_any (ws : List (List UInt8)) (g n cap k : Nat) (x : List UInt8) (w : World) (hk : ws[k]? = some x) (hkn : k < n) (hx : x.length ≤ 120) (hc : w.cell? ⟨g, k, none⟩ = some (.string ⟨x.toArray⟩)) :
    Calls Tryz.prog 11 #[.slice (some ⟨g, 0, none⟩) n cap, .int .i64 k] w fun e w' => e = .returned (.int .i64 (atC ws k)) ∧ w' = w := by
  have HA : Hid _ := atC_some hk
  have hkn' : (k : Int) < (n : Int) := by omega
  have hc' : w.cell? ⟨g, 0 + k, none⟩ = some (.string ⟨x.toArray⟩) := by rw [Nat.zero_add]; exact hc
  cases hb : (numL x).2
  · have HB : Hid _ := hb
    clear hb
    go_enter Tryz.func11, Tryz.ntmps11
    go_wp2_with fail
    refine (num_any x _ hx).mono ?_
    rintro e w1 ⟨rfl, rfl⟩
    rw [HB.out]
    go_wp2
    go_ret
    exact ⟨ret_int (by rw [HA.out, HB.out]; rfl), rfl⟩
  · have HB : Hid _ := hb
    clear hb
    go_enter Tryz.func11, Tryz.ntmps11
    go_wp2_with fail
    refine (num_any x _ hx).mono ?_
    rintro e w1 ⟨rfl, rfl⟩
    rw [HB.out]
    go_wp2
    go_ret
    exact ⟨ret_int (by rw [HA.out, HB.out]; rfl), rfl⟩

end Go.Proofs.YtkmacleakfbobaaGreatDoor
