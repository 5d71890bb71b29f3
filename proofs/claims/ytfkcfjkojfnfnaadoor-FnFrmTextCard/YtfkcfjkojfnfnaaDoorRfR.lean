/-
  A word of a list's, as the program reads it. The library's strconv.Atoi and strings.Cut are taken by what they answer (ReadsN, Cuts).
-/
import Derived.Test.YtfkcfjkojfnfnaaDoorRfQ
import Derived.Test.YtfkcfjkojfnfnaaDoorRdI
import Derived.Test.YtfkcfjkojfnfnaaDoorOwn0
namespace Go.Proofs.YtfkcfjkojfnfnaaDoor
open Go.RowKit
set_option linter.unusedVariables false
set_option maxRecDepth 100000

def Cuts (w : World) : Prop := ∀ W, Below w.heap.size w W → ∀ (s : List UInt8) (x : UInt8), s.length ≤ 120 → Calls Tryd.prog 104 #[.string ⟨s.toArray⟩, .string ⟨#[x]⟩] W fun e w' =>
  e = .returned (.tuple #[.string ⟨(Lib.cut s [x]).1.toArray⟩, .string ⟨(Lib.cut s [x]).2.1.toArray⟩, .bool (Lib.cut s [x]).2.2]) ∧ Below W.heap.size W w'
theorem Cuts.below {w w' : World} (h : Cuts w) (b : Below w.heap.size w w') : Cuts w' := fun W hW => h W (b.trans (hW.mono b.size))
theorem cut_len {s m q : List UInt8} {x : UInt8} {f : Bool} (h : Lib.cut s [x] = (m, q, f)) : m.length ≤ s.length ∧ q.length ≤ s.length := by
  rw [Lib.cut] at h
  split at h
  · cases h
    rw [List.length_take, List.length_drop]
    omega
  · cases h
    exact ⟨Nat.le_refl _, Nat.zero_le _⟩
theorem times_f {s m q : List UInt8} {x : UInt8} {zs : List Int} (h : Lib.cut s [x] = (m, q, false)) : timesR x zs s = none := by rw [timesR, h]
theorem times_m {s m q : List UInt8} {x : UInt8} {zs : List Int} (h : Lib.cut s [x] = (m, q, true)) (hm : ∀ v, Lib.atoiAll m ≠ .ok v) : timesR x zs s = none := by
  rw [timesR, h]
  show (match Lib.atoiAll m, Lib.atoiAll q with | .ok z, .ok p => _ | _, _ => _) = _
  cases e : Lib.atoiAll m with
  | ok v => exact absurd e (hm v)
  | «syntax» => rfl
  | range => rfl
theorem times_q {s m q : List UInt8} {x : UInt8} {zs : List Int} {v : Int} (h : Lib.cut s [x] = (m, q, true)) (hm : Lib.atoiAll m = .ok v) (hq : ∀ v, Lib.atoiAll q ≠ .ok v) : timesR x zs s = none := by
  rw [timesR, h]
  show (match Lib.atoiAll m, Lib.atoiAll q with | .ok z, .ok p => _ | _, _ => _) = _
  rw [hm]
  cases e : Lib.atoiAll q with
  | ok v => exact absurd e (hq v)
  | «syntax» => rfl
  | range => rfl
theorem times_ok {s m q : List UInt8} {x : UInt8} {zs : List Int} {v p : Int} (h : Lib.cut s [x] = (m, q, true)) (hm : Lib.atoiAll m = .ok v) (hq : Lib.atoiAll q = .ok p) : timesR x zs s = if 0 ≤ p ∧ p < zs.length then some (zs.set p.toNat v) else none := by
  rw [timesR, h]
  show (match Lib.atoiAll m, Lib.atoiAll q with | .ok z, .ok p => _ | _, _ => _) = _
  rw [hm, hq]

set_option maxHeartbeats 3200000 in
theorem rtimes_any (x : UInt8) (s : List UInt8) (B n : Nat) (zs : List Int) (w : World) (hs : s.length ≤ 120) (hz : Blk w B zs) (hn : zs.length = n) (hn1 : n ≤ 3) (hA : ReadsN w) (hC : Cuts w) :
    Calls Tryd.prog 85 #[.string ⟨s.toArray⟩, .string ⟨#[x]⟩, .slice (some ⟨B, 0, none⟩) n n] w fun e w' =>
      (∃ ys, timesR x zs s = some ys ∧ ys.length = n ∧ e = .returned (.bool true) ∧ Touch (fun k => k = B) w w' ∧ Blk w' B ys) ∨ (timesR x zs s = none ∧ e = .returned (.bool false) ∧ Below w.heap.size w w') := by
  have HN : Hid _ := hn
  have HA : Hid _ := hA
  have HC : Hid _ := hC
  clear hn hA hC
  obtain ⟨⟨m, q, f⟩, hc⟩ : ∃ r, Lib.cut s [x] = r := ⟨_, rfl⟩
  have HCU : Hid _ := hc
  obtain ⟨lm, lq⟩ := cut_len hc
  have hm120 : m.length ≤ 120 := by omega
  have hq120 : q.length ≤ 120 := by omega
  go_enter Tryd.func85, Tryd.ntmps85
  go_wp2_with fail
  refine (HC.out w (Below.refl _ _) s x hs).mono ?_
  rintro e w1 ⟨rfl, b1⟩
  rw [hc]
  clear hc lm lq hs HC
  go_wp2_with fail
  refine (HA.out w1 b1 m hm120).mono ?_
  rintro e w2 ⟨b2, hcase⟩
  have B2 := b1.trans (b2.mono b1.size)
  clear b1 b2
  rcases hcase with ⟨v, hv, rfl⟩ | ⟨hv, z, t, bb, rfl⟩
  · have HV : Hid _ := hv
    clear hv
    go_wp2_with fail
    refine (HA.out w2 B2 q hq120).mono ?_
    rintro e w3 ⟨b3, hcase⟩
    have B3 := B2.trans (b3.mono B2.size)
    clear b3 B2
    rcases hcase with ⟨p, hp, rfl⟩ | ⟨hp, z, t, bb, rfl⟩
    · have HP : Hid _ := hp
      clear hp
      cases f with
      | false =>
        go_wp2
        go_ret
        exact Or.inr ⟨times_f HCU.out, rfl, B3⟩
      | true =>
        have HT : Hid _ := times_ok (zs := zs) HCU.out HV.out HP.out
        go_wp2_with fail
        refine (place_any _ _ _).mono ?_
        rintro e w4 ⟨rfl, rfl⟩
        by_cases hin : 0 ≤ p ∧ p < (n : Int)
        · obtain ⟨k, rfl⟩ : ∃ k : Nat, p = k := ⟨p.toNat, by omega⟩
          have hd : decide (0 ≤ (k : Int) ∧ (k : Int) < (n : Int)) = true := by simpa using hin
          rw [hd]
          have hk : k < n := by omega
          have hz3 : Blk w4 B zs := hz.below B3
          have hc := hz3.cell k (by rw [HN.out]; exact hk)
          have hf := hz3.free k
          have hs2 := hz3.set k v
          have T3 : Touch (fun j => j = B) w (w4.setCell ⟨B, k, none⟩ (.int .i64 v)) := Touch.setCell (S := fun j => j = B) (Touch.of B3) rfl _
          have HR : Hid (timesR x zs s = some (zs.set k v)) := by show _ = _; rw [HT.out, if_pos (by rw [HN.out]; exact hin)]; rfl
          clear hin hd hz hz3 HT
          go_wp2
          go_ret
          exact Or.inl ⟨_, HR.out, by rw [List.length_set]; exact HN.out, rfl, T3, hs2⟩
        · have hd : decide (0 ≤ p ∧ p < (n : Int)) = false := by simpa using hin
          rw [hd]
          have HR : Hid (timesR x zs s = none) := by show _ = _; rw [HT.out, if_neg (by rw [HN.out]; exact hin)]
          clear hin hd HT
          go_wp2
          go_ret
          exact Or.inr ⟨HR.out, rfl, B3⟩
    · have HR : Hid (timesR x zs s = none) := by
        show _ = _
        cases f with
        | false => exact times_f HCU.out
        | true => exact times_q HCU.out HV.out hp
      clear hp
      cases f with
      | false =>
        go_wp2
        go_ret
        exact Or.inr ⟨HR.out, rfl, B3⟩
      | true =>
        go_wp2
        go_ret
        exact Or.inr ⟨HR.out, rfl, B3⟩
  · have HR : Hid (timesR x zs s = none) := by
      show _ = _
      cases f with
      | false => exact times_f HCU.out
      | true => exact times_m HCU.out hv
    clear hv
    go_wp2_with fail
    refine (HA.out w2 B2 q hq120).mono ?_
    rintro e w3 ⟨b3, hcase⟩
    have B3 := B2.trans (b3.mono B2.size)
    clear b3 B2
    rcases hcase with ⟨p, hp, rfl⟩ | ⟨hp, z, t, bb, rfl⟩
    · clear hp
      cases f with
      | false =>
        go_wp2
        go_ret
        exact Or.inr ⟨HR.out, rfl, B3⟩
      | true =>
        go_wp2
        go_ret
        exact Or.inr ⟨HR.out, rfl, B3⟩
    · clear hp
      cases f with
      | false =>
        go_wp2
        go_ret
        exact Or.inr ⟨HR.out, rfl, B3⟩
      | true =>
        go_wp2
        go_ret
        exact Or.inr ⟨HR.out, rfl, B3⟩

end Go.Proofs.YtfkcfjkojfnfnaaDoor
