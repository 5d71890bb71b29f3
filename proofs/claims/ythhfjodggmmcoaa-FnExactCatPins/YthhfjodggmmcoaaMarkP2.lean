/-
  Pots that forms have are marked, in place (impl.markPots). Length at most 1048576.
-/
import Derived.Test.YthhfjodggmmcoaaCatRS
import Derived.Test.YthhfjodggmmcoaaWayT
namespace Go.Proofs.Ythhfjodggmmcoaa
open Go.RowKit Go.Deep
set_option linter.unusedVariables false
set_option maxRecDepth 100000

/-- A block of just three bools. -/
def OwnBB (W : World) (G : Nat) (f : Nat → Bool) : Prop := Cel W G [.bool (f 0), .bool (f 1), .bool (f 2)] 4
theorem OwnBB.at {W : World} {G : Nat} {f : Nat → Bool} (h : OwnBB W G f) {v : Nat} (hv : v < 3) : W.cell? ⟨G, v, none⟩ = some (.bool (f v)) ∧ W.frozen? ⟨G, v, none⟩ = false := by
  refine ⟨(Cel.cell h v).trans ?_, Cel.free h v⟩
  match v, hv with
  | 0, _ => rfl
  | 1, _ => rfl
  | 2, _ => rfl
theorem OwnBB.no {W : World} {G : Nat} {f : Nat → Bool} (h : OwnBB W G f) : ∀ o q, W.cell? ⟨G, o, none⟩ ≠ some (.int .i64 q) := fun o q e => by
  have := Cel.cell h o
  rw [e] at this
  match o with
  | 0 => simp at this
  | 1 => simp at this
  | 2 => simp at this
  | o + 3 => simp at this
theorem OwnBB.set {W : World} {G : Nat} {f : Nat → Bool} (h : OwnBB W G f) {u : Nat} (hu : u < 3) (x : Bool) : OwnBB (W.setCell ⟨G, u, none⟩ (.bool x)) G (fun v => if v = u then x else f v) := by
  have := Cel.set h u (.bool x)
  unfold OwnBB
  match u, hu with
  | 0, _ => simpa using this
  | 1, _ => simpa using this
  | 2, _ => simpa using this
theorem OwnBB.ext {W : World} {G : Nat} {f g : Nat → Bool} (h : OwnBB W G f) (e : ∀ v, v < 3 → f v = g v) : OwnBB W G g := by
  unfold OwnBB at *
  rw [← e 0 (by omega), ← e 1 (by omega), ← e 2 (by omega)]; exact h
theorem OwnBB.below {W W' : World} {G : Nat} {f : Nat → Bool} (h : OwnBB W G f) (b : Below W.heap.size W W') : OwnBB W' G f := Cel.below h b

set_option maxHeartbeats 3200000 in
theorem imarkpots_any (G cG : Nat) (r : Nat → Bool) (ad : Option Addr) (N cap : Nat) (fs : List Frm) (w : World) (hO : OwnBB w G r) (hN : fs.length = N) (hF : FormsAt w ad fs) (hfit : ∀ k, k < N → fitX 10000000 (fs[k]?.getD ([], [], 0))) (hN1 : N ≤ 1048576) :
    Calls Try.prog 77 #[.slice (some ⟨G, 0, none⟩) 3 cG, .slice ad N cap] w fun e w' => (∃ v, e = .returned v) ∧ Touch (fun k => k = G) w w' ∧ OwnBB w' G (readsF r fs) := by
  have HN : Hid (fs.length = N) := hN
  have HF : Hid (FormsAt w ad fs) := hF
  have HFT : Hid _ := hfit
  have HO : Hid (OwnBB w G r) := hO
  have lG0 := Cel.lt hO
  clear hN hF hfit hO
  go_enter Try.func77, Try.ntmps77
  go_wp2_with fail
  go_loopw [5, 6, 7, 10] (fun _ _ _ i wr => ∃ k : Nat, k ≤ N ∧ i = .int .i64 k ∧ Touch (fun k => k = G) w wr ∧ OwnBB wr G (readsF r (fs.take k))) (fun _ _ _ i _ => N - (intOf i).toNat)
  case atStart => exact ⟨0, Nat.zero_le _, rfl, Touch.refl _ _, HO.out.ext (fun v _ => by simp [readsF])⟩
  case round =>
    obtain ⟨k, hk, rfl, ht, o⟩ := hrel
    by_cases hlt : k < N
    · have hlt' : (k : Int) < N := by omega
      have hkl : k < fs.length := by rw [HN.out]; exact hlt
      have HS : Hid (∀ v, readsF r (fs.take (k + 1)) v = (readsF r (fs.take k) v || hasP (fs[k]?.getD ([], [], 0)) v)) := fun v => readsF_snoc r fs k hkl v
      have hfit := HFT.out k hlt
      obtain ⟨b, off, rfl, a', c', ca, cc, c0, c1, c2, iC, iD⟩ := (HF.out.past2 HO.out.no ht) k hkl
      generalize fs[k]?.getD ([], [], 0) = q at *
      obtain ⟨qC, qD, qK⟩ := q
      simp only at c2 iC iD
      have A : Below wr.heap.size wr (wr.alloc (.cells #[.slice a' 3 ca, .slice c' 2 cc, .int .i64 qK] 86)) := (Below.refl _ _).alloc (Nat.le_refl _) _
      have HIC : Hid (Ints (wr.alloc (.cells #[.slice a' 3 ca, .slice c' 2 cc, .int .i64 qK] 86)) a' 3 qC) := iC.below A
      have oA := o.below A
      have HNO : Hid _ := oA.no
      have o' : OwnBB (wr.alloc (.cells #[.slice a' 3 ca, .slice c' 2 cc, .int .i64 qK] 86)) G (fun v => if v < 0 then readsF r (fs.take (k + 1)) v else readsF r (fs.take k) v) := oA.ext (fun v hv => by simp)
      have tA : Touch (fun k => k = G) w (wr.alloc (.cells #[.slice a' 3 ca, .slice c' 2 cc, .int .i64 qK] 86)) := ht.trans (Touch.of A)
      have HTA : Hid _ := tA
      clear o iC iD oA tA A ht
      go_wp2_with fail
      obtain ⟨W1, hW1⟩ : ∃ W1, W1 = wr.alloc (.cells #[.slice a' 3 ca, .slice c' 2 cc, .int .i64 qK] 86) := ⟨_, rfl⟩
      rw [← hW1] at HIC HNO o' HTA ⊢
      clear hW1 c0 c1 c2
      go_loopw [6, 7, 17] (fun _ _ v w2 => ∃ u : Nat, u ≤ 3 ∧ v = .int .i64 u ∧ Touch (fun k => k = G) W1 w2 ∧ OwnBB w2 G (fun v => if v < u then readsF r (fs.take (k + 1)) v else readsF r (fs.take k) v)) (fun _ _ v _ => 3 - (intOf v).toNat)
      case atStart => exact ⟨0, by omega, rfl, Touch.refl _ _, o'⟩
      case round =>
        clear o'
        obtain ⟨u, hu, rfl, t, o⟩ := hrel
        by_cases hu3 : u < 3
        · have hu' : (u : Int) < 3 := by omega
          obtain ⟨cb, co, rfl, cv⟩ := (HIC.out.past HNO.out t).2 u hu3
          have hval : qC.getD u 0 = qC[u]?.getD 0 := by rw [List.getD_eq_getElem?_getD]
          rw [hval] at cv
          have HH : Hid (hasP (qC, qD, qK) u = (qC[u]?.getD 0 != 0)) := rfl
          generalize qC[u]?.getD 0 = z at *
          obtain ⟨g0, fz⟩ := o.at hu3
          rw [if_neg (Nat.lt_irrefl u)] at g0
          obtain ⟨bo, hbo⟩ : ∃ bo, bo = readsF r (fs.take k) u := ⟨_, rfl⟩
          have HBO : Hid _ := hbo
          rw [← hbo] at g0
          have o2 := o.set hu3 (bo || (z != 0))
          have O2 : Hid (OwnBB (wr.setCell ⟨G, u, none⟩ (.bool (bo || (z != 0)))) G (fun v => if v < u + 1 then readsF r (fs.take (k + 1)) v else readsF r (fs.take k) v)) := o2.ext (fun v hv => by
            by_cases e : v = u
            · subst e; simp only [if_true, Nat.lt_succ_self]; rw [HS.out, HH.out, HBO.out]
            · simp only [e, if_false]
              by_cases e2 : v < u
              · rw [if_pos e2, if_pos (by omega)]
              · rw [if_neg e2, if_neg (by omega)])
          have T2 : Touch (fun k => k = G) W1 (wr.setCell ⟨G, u, none⟩ (.bool (bo || (z != 0)))) := t.setCell (B := G) rfl _
          clear o2 o hbo t
          cases bo with
          | true =>
            simp only [Bool.true_or] at O2 T2
            go_wp2
            go_roundw
            case rel => exact ⟨u + 1, by omega, by go_num, T2, O2.out⟩
            case measure => simp [intOf]; omega
          | false =>
            simp only [Bool.false_or] at O2 T2
            by_cases hz : z = 0
            · have hz' : (z != 0) = false := by simp [hz]
              rw [hz'] at O2 T2
              go_wp2
              go_roundw
              case rel => exact ⟨u + 1, by omega, by go_num, T2, O2.out⟩
              case measure => simp [intOf]; omega
            · have hz' : (z != 0) = true := by simp [hz]
              rw [hz'] at O2 T2
              go_wp2
              go_roundw
              case rel => exact ⟨u + 1, by omega, by go_num, T2, O2.out⟩
              case measure => simp [intOf]; omega
        · obtain rfl : u = 3 := by omega
          have O3 : Hid (OwnBB wr G (readsF r (fs.take (k + 1)))) := o.ext (fun v hv => by simp only [hv, if_true])
          have T3 := HTA.out.trans t
          clear o t
          go_wp2
          go_roundw
          case rel => exact ⟨k + 1, by omega, by go_num, T3, O3.out⟩
          case measure => simp [intOf]; omega
    · obtain rfl : k = N := by omega
      have O3 : OwnBB wr G (readsF r fs) := by
        have : fs.take k = fs := List.take_of_length_le (by rw [HN.out]; exact Nat.le_refl _)
        rw [this] at o; exact o
      go_wp2
      go_end0
      exact ⟨⟨_, rfl⟩, ht, O3⟩

end Go.Proofs.Ythhfjodggmmcoaa
