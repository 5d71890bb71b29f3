/-
  A list of ints that was made by append (with room behind it), and may be written: marked. Lengths at most 1048576.
-/
import Derived.Test.YtmhhphpihnkfpaaDoorGrow
import Derived.Lib.SliceRun
namespace Go.Proofs.YtmhhphpihnkfpaaDoor
open Go.RowKit
set_option linter.unusedVariables false
set_option maxRecDepth 100000

/-- The first n cells of block B are zs, free to be written; there may be room behind them. -/
def OwnX (W : World) (a : Option Addr) (B n : Nat) (zs : List Int) : Prop :=
  zs.length = n ∧ (n = 0 ∨ (a = some ⟨B, 0, none⟩ ∧ ∃ cur : List Value, Cel W B cur 3 ∧ ∀ i, i < n → cur[i]? = some (.int .i64 (zs[i]?.getD 0))))
theorem OwnX.ints {W : World} {a : Option Addr} {B n : Nat} {zs : List Int} (h : OwnX W a B n zs) : Ints W a n zs := by
  refine ⟨h.1, fun i hi => ?_⟩
  rcases h.2 with h0 | ⟨rfl, cur, hc, hv⟩
  · omega
  · refine ⟨B, 0, rfl, ?_⟩
    rw [Nat.zero_add, hc.cell i, hv i hi]
    simp
theorem OwnX.below {W W' : World} {a : Option Addr} {B n : Nat} {zs : List Int} (h : OwnX W a B n zs) (b : Below W.heap.size W W') : OwnX W' a B n zs := by
  refine ⟨h.1, ?_⟩
  rcases h.2 with h0 | ⟨e, cur, hc, hv⟩
  · exact .inl h0
  · exact .inr ⟨e, cur, hc.below b, hv⟩
theorem OwnX.alloc {W : World} {a : Option Addr} {B n : Nat} {zs : List Int} (h : OwnX W a B n zs) (o : Obj) : OwnX (W.alloc o) a B n zs := h.below ((Below.refl _ _).alloc (Nat.le_refl _) _)
theorem OwnX.touch {S : Nat → Prop} {W W' : World} {a : Option Addr} {B n : Nat} {zs : List Int} (h : OwnX W a B n zs) (t : Touch S W W') (hn : 0 < n → ¬ S B) : OwnX W' a B n zs := by
  refine ⟨h.1, ?_⟩
  rcases h.2 with h0 | ⟨e, cur, hc, hv⟩
  · exact .inl h0
  · by_cases h0 : 0 < n
    · exact .inr ⟨e, cur, hc.touch t (hn h0), hv⟩
    · exact .inl (by omega)
theorem OwnX.lt {W : World} {a : Option Addr} {B n : Nat} {zs : List Int} (h : OwnX W a B n zs) (hn : 0 < n) : B < W.heap.size := by
  rcases h.2 with h0 | ⟨e, cur, hc, hv⟩
  · omega
  · exact hc.lt
theorem OwnX.setOther {W : World} {a : Option Addr} {B n X : Nat} {zs : List Int} (h : OwnX W a B n zs) (hX : 0 < n → X ≠ B) (i : Nat) (v : Value) : OwnX (W.setCell ⟨X, i, none⟩ v) a B n zs := by
  refine h.touch (S := fun k => k = X) (Touch.setCell (S := fun k => k = X) (Touch.refl _ _) rfl v) (fun h0 e => hX h0 e.symm)
theorem OwnX.nil (W : World) (a : Option Addr) (B : Nat) : OwnX W a B 0 [] := ⟨rfl, .inl rfl⟩
theorem OwnX.pos {W : World} {a : Option Addr} {B n : Nat} {zs : List Int} (h : OwnX W a B n zs) (hn : 0 < n) : a = some ⟨B, 0, none⟩ ∧ (∀ i, i < n → W.cell? ⟨B, i, none⟩ = some (.int .i64 (zs[i]?.getD 0))) ∧ ∀ i, W.frozen? ⟨B, i, none⟩ = false := by
  rcases h.2 with h0 | ⟨rfl, cur, hc, hv⟩
  · omega
  · exact ⟨rfl, fun i hi => by rw [hc.cell i, hv i hi], fun i => hc.free i⟩
theorem OwnX.set {W : World} {a : Option Addr} {B n : Nat} {zs : List Int} (h : OwnX W a B n zs) {i : Nat} (hi : i < n) (x : Int) : OwnX (W.setCell ⟨B, i, none⟩ (.int .i64 x)) a B n (zs.set i x) := by
  refine ⟨by rw [List.length_set]; exact h.1, ?_⟩
  rcases h.2 with h0 | ⟨e, cur, hc, hv⟩
  · omega
  · refine .inr ⟨e, cur.set i (.int .i64 x), hc.set _ _, fun j hj => ?_⟩
    have hl : i < cur.length := by
      have := hv i hi
      exact (List.getElem?_eq_some_iff.1 this).1
    have hz := h.1
    by_cases e : j = i
    · subst e
      rw [List.getElem?_set_self hl, List.getElem?_set_self (by omega)]; rfl
    · rw [List.getElem?_set_ne (by omega), hv j hj, List.getElem?_set_ne (by omega)]
theorem JA.ownx {w W : World} {v : Value} {xs : List Int} {n : Nat} (j : JA w v xs W) (hn : xs.length = n) : ∃ a cap B, v = .slice a n cap ∧ OwnX W a B n xs ∧ (0 < n → w.heap.size ≤ B) := by
  subst hn
  rcases j.o.2 with ⟨hv, h⟩ | ⟨g, cap', cur, rfl, hg, hh, hl, _, hs, ht⟩
  · rw [h]
    have : xs = [] := List.eq_nil_of_length_eq_zero h
    subst this
    exact ⟨none, 0, 0, hv, OwnX.nil _ _ _, fun h => by omega⟩
  · refine ⟨some ⟨g, 0, none⟩, cap', g, rfl, ⟨rfl, .inr ⟨rfl, cur.toList, by unfold Cel; simpa using hh, fun i hi => ?_⟩⟩, fun _ => hg⟩
    have h1 : (cur.toList.take (xs.length * 1))[i]? = (xs.map (Value.int .i64))[i]? := by rw [ht]
    rw [List.getElem?_take, if_pos (by omega)] at h1
    rw [h1]
    simp [hi]

set_option maxHeartbeats 400000 in
theorem markX_any (a : Option Addr) (n cap B : Nat) (zs : List Int) (k : Int) (w : World) (h : OwnX w a B n zs) (hn : n ≤ 1048576) (hk0 : 0 ≤ k) (hk : k ≤ 1000000000000000) :
    Calls Tryd.prog 27 #[.slice a n cap, .int .i64 k] w fun e w' => e = .returned (.int .i64 (k + n)) ∧ Touch (fun x => x = B ∧ 0 < n) w w' ∧ OwnX w' a B n (ramp k n) := by
  have HZ : Hid (zs.length = n) := h.1
  go_enter Tryd.func27, Tryd.ntmps27
  go_wp2_with fail
  go_loopw [1, 5] (fun kk i wr => ∃ j : Nat, j ≤ n ∧ i = .int .i64 j ∧ kk = .int .i64 (k + j) ∧ Touch (fun x => x = B ∧ 0 < n) w wr ∧ OwnX wr a B n (marked k zs j)) (fun _ i _ => n - (intOf i).toNat)
  case atStart => exact ⟨0, Nat.zero_le _, rfl, by simp, Touch.refl _ _, by rw [marked_zero]; exact h⟩
  case round =>
    obtain ⟨j, hj, rfl, rfl, ht, ho⟩ := hrel
    by_cases hlt : j < n
    · obtain ⟨rfl, hcs, hfs⟩ := ho.pos (by omega)
      have hc := hcs j hlt
      have hf := hfs j
      have R : OwnX (wr.setCell ⟨B, j, none⟩ (.int .i64 (k + j))) (some ⟨B, 0, none⟩) B n (marked k zs (j + 1)) := by
        have := ho.set hlt (k + j)
        rwa [marked_succ k zs j (by rw [HZ.out]; exact hlt)] at this
      have R2 : Touch (fun x => x = B ∧ 0 < n) w (wr.setCell ⟨B, j, none⟩ (.int .i64 (k + j))) := ht.setCell ⟨rfl, by omega⟩ _
      clear h ho hcs hfs
      go_wp2
      go_roundw
      case rel => exact ⟨j + 1, by omega, by go_num, by go_num, R2, R⟩
      case measure => simp [intOf]; omega
    · go_wp2
      go_ret
      obtain rfl : j = n := by omega
      exact ⟨rfl, ht, by rw [marked_end k zs j (by rw [HZ.out]; exact Nat.le_refl _)] at ho; exact ho⟩

end Go.Proofs.YtmhhphpihnkfpaaDoor
