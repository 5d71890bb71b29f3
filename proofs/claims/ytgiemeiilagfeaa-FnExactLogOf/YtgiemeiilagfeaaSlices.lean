/-
  Slices of forms: their size, copies, one held against another.
-/
import Derived.Test.YtgiemeiilagfeaaAdd
namespace Go.Proofs.Ytgiemeiilagfeaa
open Go.RowKit
set_option linter.unusedVariables false

/-- A slice of forms that came in, of any lengths. -/
def FormsM (w : World) (ad : Option Addr) (fs : List FV) : Prop :=
  ∀ i, i < fs.length → ∃ b off, ad = some ⟨b, off, none⟩ ∧ w.cell? ⟨b, off + i * 3, none⟩ = some (.slice (fs[i]?.getD noFV).a (fs[i]?.getD noFV).n (fs[i]?.getD noFV).cap) ∧ w.cell? ⟨b, off + i * 3 + 1, none⟩ = some (.slice (fs[i]?.getD noFV).c (fs[i]?.getD noFV).m (fs[i]?.getD noFV).cap') ∧ w.cell? ⟨b, off + i * 3 + 2, none⟩ = some (.int .i64 (fs[i]?.getD noFV).K) ∧
    Ints w (fs[i]?.getD noFV).a (fs[i]?.getD noFV).n (fs[i]?.getD noFV).C ∧ Ints w (fs[i]?.getD noFV).c (fs[i]?.getD noFV).m (fs[i]?.getD noFV).D ∧ (fs[i]?.getD noFV).n ≤ maxLen ∧ (fs[i]?.getD noFV).m ≤ maxLen
theorem FormsM.below {w w' : World} {ad : Option Addr} {fs : List FV} (h : FormsM w ad fs) (hb : Below w.heap.size w w') : FormsM w' ad fs := by
  intro i hi
  obtain ⟨b, off, e, e0, e1, e2, e3, e4, e5⟩ := h i hi
  exact ⟨b, off, e, (hb.cell (p := ⟨b, off + i * 3, none⟩) (block_lt e0)).trans e0, (hb.cell (p := ⟨b, off + i * 3 + 1, none⟩) (block_lt e0)).trans e1, (hb.cell (p := ⟨b, off + i * 3 + 2, none⟩) (block_lt e0)).trans e2, e3.below hb, e4.below hb, e5⟩
theorem FormsM.g {w : World} {ad : Option Addr} {fs : List FV} (h : FormsM w ad fs) (hs : ∀ i, i < fs.length → (fs[i]?.getD noFV).n ≤ 1048576 ∧ (fs[i]?.getD noFV).m ≤ 1048576) : FormsG w ad fs := by
  intro i hi
  obtain ⟨b, off, e, e0, e1, e2, e3, e4, e5⟩ := h i hi
  exact ⟨b, off, e, e0, e1, e2, ⟨e3, e4, (hs i hi).1, (hs i hi).2⟩⟩

set_option maxHeartbeats 1600000 in
/-- Held against a slice that holds the same, form by form. -/
theorem eqFS_same (ad ae : Option Addr) (N cap cap' : Nat) (fs gs : List FV) (w : World) (hN : fs.length = N) (hM : gs.length = N) (hF : FormsG w ad fs) (hG : FormsG w ae gs) (hN1 : N ≤ 1048576)
    (hsame : ∀ i, i < N → eqF (fs[i]?.getD noFV).C (fs[i]?.getD noFV).D (fs[i]?.getD noFV).K (gs[i]?.getD noFV).C (gs[i]?.getD noFV).D (gs[i]?.getD noFV).K = true) :
    Calls Try.prog 63 #[.slice ad N cap, .slice ae N cap'] w fun e w' => e = .returned (.bool true) ∧ Below w.heap.size w w' := by
  have HN : Hid (fs.length = N) := hN
  have HM : Hid (gs.length = N) := hM
  have HS : Hid _ := hsame
  clear hN hM hsame
  go_enter Try.func63, Try.ntmps63
  go_wp2_with fail
  go_loopw [5] (fun i wr => ∃ k : Nat, k ≤ N ∧ i = .int .i64 k ∧ Below w.heap.size w wr) (fun i _ => N - (intOf i).toNat)
  case atStart => exact ⟨0, Nat.zero_le _, rfl, Below.refl _ _⟩
  case round =>
    obtain ⟨k, hk, rfl, hb⟩ := hrel
    by_cases hlt : k < N
    · obtain ⟨b, off, rfl, e0, e1, e2, e3⟩ := (hF.below hb) k (by rw [HN.out]; exact hlt)
      obtain ⟨b', off', rfl, d0, d1, d2, d3⟩ := (hG.below hb) k (by rw [HM.out]; exact hlt)
      have hs := HS.out k hlt
      generalize HG1 : fs[k]?.getD noFV = f at *
      generalize HG2 : gs[k]?.getD noFV = g at *
      clear HG1 HG2 hF hG
      obtain ⟨fa, fn, fcap, fc, fm, fcap', fK, fC, fD⟩ := f
      obtain ⟨ga, gn, gcap, gc, gm, gcap', gK, gC, gD⟩ := g
      obtain ⟨iC, iD, i1, i2⟩ := e3
      obtain ⟨jC, jD, j1, j2⟩ := d3
      simp only at e0 e1 e2 d0 d1 d2 iC iD jC jD i1 i2 j1 j2 hs
      have hlt' : (k : Int) < (N : Int) := by omega
      go_wp2_with fail
      go_region_with (first | (go_at_call 64; refine (eqF_any _ _ _ _ _ _ _ fC fD _ _ _ _ _ _ _ gC gD _ (by exact iC.below (Below.refl _ _).drew) (by exact iD.below (Below.refl _ _).drew) (by exact jC.below (Below.refl _ _).drew) (by exact jD.below (Below.refl _ _).drew) i1 i2 j1 j2).mono ?_; rintro ee w1 ⟨rfl, b1⟩))
      all_goals
        have b1' := below_of_drew b1
        go_wp2
        go_roundw
        case rel => exact ⟨k + 1, by omega, by go_num, hb.trans (b1'.mono hb.size)⟩
        case measure => simp [intOf]; omega
    · go_wp2
      go_ret
      exact ⟨rfl, hb⟩

end Go.Proofs.Ytgiemeiilagfeaa
