/-
  Texts that the claim's last one rests on, behind one another: Own0, Own, WayI, WayC, WayA, CatRS, IntSS, Has, Part.
-/
import Derived.Test.YtacjjhfbnbmnlaaGreatDoorPackE
import Derived.Lib.SliceRun
import Derived.Test.YtacjjhfbnbmnlaaGreatDoorPackB
import Derived.Test.YtacjjhfbnbmnlaaGreatDoorPackA
import Derived.Test.YtacjjhfbnbmnlaaGreatDoorPackC
namespace Go.Proofs.YtacjjhfbnbmnlaaGreatDoor
open Go.RowKit
set_option linter.unusedVariables false
set_option maxRecDepth 100000

/-- The first n cells of block B are zs, free to be written; there may be room behind them. -/
def OwnX (W : World) (a : Option Addr) (B n : Nat) (zs : List Int) : Prop :=
  zs.length = n ∧ (n = 0 ∨ (a = some ⟨B, 0, none⟩ ∧ ∃ cur : List Value, Cel W B cur 3 ∧ ∀ i, i < n → cur[i]? = some (.int .i64 (zs[i]?.getD 0))))
theorem OwnX.ints {W : World} {a : Option Addr} {B n : Nat} {zs : List Int} (h : OwnX W a B n zs) : Ints W a n zs := by
  refine ⟨h.1, fun i hi => ?_⟩
  rcases h.2 with h0 | ⟨rfl, cur, hc, hv⟩
  · omega
  · refine ⟨B, 0, rfl, ?_⟩
    rw [Nat.zero_add, hc.cell i, hv i hi]
    simp
theorem OwnX.below {W W' : World} {a : Option Addr} {B n : Nat} {zs : List Int} (h : OwnX W a B n zs) (b : Below W.heap.size W W') : OwnX W' a B n zs := by
  refine ⟨h.1, ?_⟩
  rcases h.2 with h0 | ⟨e, cur, hc, hv⟩
  · exact .inl h0
  · exact .inr ⟨e, cur, hc.below b, hv⟩
theorem OwnX.alloc {W : World} {a : Option Addr} {B n : Nat} {zs : List Int} (h : OwnX W a B n zs) (o : Obj) : OwnX (W.alloc o) a B n zs := h.below ((Below.refl _ _).alloc (Nat.le_refl _) _)
theorem OwnX.touch {S : Nat → Prop} {W W' : World} {a : Option Addr} {B n : Nat} {zs : List Int} (h : OwnX W a B n zs) (t : Touch S W W') (hn : 0 < n → ¬ S B) : OwnX W' a B n zs := by
  refine ⟨h.1, ?_⟩
  rcases h.2 with h0 | ⟨e, cur, hc, hv⟩
  · exact .inl h0
  · by_cases h0 : 0 < n
    · exact .inr ⟨e, cur, hc.touch t (hn h0), hv⟩
    · exact .inl (by omega)
theorem OwnX.lt {W : World} {a : Option Addr} {B n : Nat} {zs : List Int} (h : OwnX W a B n zs) (hn : 0 < n) : B < W.heap.size := by
  rcases h.2 with h0 | ⟨e, cur, hc, hv⟩
  · omega
  · exact hc.lt
theorem OwnX.setOther {W : World} {a : Option Addr} {B n X : Nat} {zs : List Int} (h : OwnX W a B n zs) (hX : 0 < n → X ≠ B) (i : Nat) (v : Value) : OwnX (W.setCell ⟨X, i, none⟩ v) a B n zs := by
  refine h.touch (S := fun k => k = X) (Touch.setCell (S := fun k => k = X) (Touch.refl _ _) rfl v) (fun h0 e => hX h0 e.symm)
theorem OwnX.nil (W : World) (a : Option Addr) (B : Nat) : OwnX W a B 0 [] := ⟨rfl, .inl rfl⟩
theorem OwnX.pos {W : World} {a : Option Addr} {B n : Nat} {zs : List Int} (h : OwnX W a B n zs) (hn : 0 < n) : a = some ⟨B, 0, none⟩ ∧ (∀ i, i < n → W.cell? ⟨B, i, none⟩ = some (.int .i64 (zs[i]?.getD 0))) ∧ ∀ i, W.frozen? ⟨B, i, none⟩ = false := by
  rcases h.2 with h0 | ⟨rfl, cur, hc, hv⟩
  · omega
  · exact ⟨rfl, fun i hi => by rw [hc.cell i, hv i hi], fun i => hc.free i⟩
theorem OwnX.set {W : World} {a : Option Addr} {B n : Nat} {zs : List Int} (h : OwnX W a B n zs) {i : Nat} (hi : i < n) (x : Int) : OwnX (W.setCell ⟨B, i, none⟩ (.int .i64 x)) a B n (zs.set i x) := by
  refine ⟨by rw [List.length_set]; exact h.1, ?_⟩
  rcases h.2 with h0 | ⟨e, cur, hc, hv⟩
  · omega
  · refine .inr ⟨e, cur.set i (.int .i64 x), hc.set _ _, fun j hj => ?_⟩
    have hl : i < cur.length := by
      have := hv i hi
      exact (List.getElem?_eq_some_iff.1 this).1
    have hz := h.1
    by_cases e : j = i
    · subst e
      rw [List.getElem?_set_self hl, List.getElem?_set_self (by omega)]; rfl
    · rw [List.getElem?_set_ne (by omega), hv j hj, List.getElem?_set_ne (by omega)]
theorem JA.ownx {w W : World} {v : Value} {xs : List Int} {n : Nat} (j : JA w v xs W) (hn : xs.length = n) : ∃ a cap B, v = .slice a n cap ∧ OwnX W a B n xs ∧ (0 < n → w.heap.size ≤ B) := by
  subst hn
  rcases j.o.2 with ⟨hv, h⟩ | ⟨g, cap', cur, rfl, hg, hh, hl, _, hs, ht⟩
  · rw [h]
    have : xs = [] := List.eq_nil_of_length_eq_zero h
    subst this
    exact ⟨none, 0, 0, hv, OwnX.nil _ _ _, fun h => by omega⟩
  · refine ⟨some ⟨g, 0, none⟩, cap', g, rfl, ⟨rfl, .inr ⟨rfl, cur.toList, by unfold Cel; simpa using hh, fun i hi => ?_⟩⟩, fun _ => hg⟩
    have h1 : (cur.toList.take (xs.length * 1))[i]? = (xs.map (Value.int .i64))[i]? := by rw [ht]
    rw [List.getElem?_take, if_pos (by omega)] at h1
    rw [h1]
    simp [hi]

set_option maxHeartbeats 400000 in
theorem markX_any (a : Option Addr) (n cap B : Nat) (zs : List Int) (k : Int) (w : World) (h : OwnX w a B n zs) (hn : n ≤ 1048576) (hk0 : 0 ≤ k) (hk : k ≤ 1000000000000000) :
    Calls Tryz.prog 71 #[.slice a n cap, .int .i64 k] w fun e w' => e = .returned (.int .i64 (k + n)) ∧ Touch (fun x => x = B ∧ 0 < n) w w' ∧ OwnX w' a B n (ramp k n) := by
  have HZ : Hid (zs.length = n) := h.1
  go_enter Tryz.func71, Tryz.ntmps71
  go_wp2_with fail
  go_loopw [1, 5] (fun kk i wr => ∃ j : Nat, j ≤ n ∧ i = .int .i64 j ∧ kk = .int .i64 (k + j) ∧ Touch (fun x => x = B ∧ 0 < n) w wr ∧ OwnX wr a B n (marked k zs j)) (fun _ i _ => n - (intOf i).toNat)
  case atStart => exact ⟨0, Nat.zero_le _, rfl, by simp, Touch.refl _ _, by rw [marked_zero]; exact h⟩
  case round =>
    obtain ⟨j, hj, rfl, rfl, ht, ho⟩ := hrel
    by_cases hlt : j < n
    · obtain ⟨rfl, hcs, hfs⟩ := ho.pos (by omega)
      have hc := hcs j hlt
      have hf := hfs j
      have R : OwnX (wr.setCell ⟨B, j, none⟩ (.int .i64 (k + j))) (some ⟨B, 0, none⟩) B n (marked k zs (j + 1)) := by
        have := ho.set hlt (k + j)
        rwa [marked_succ k zs j (by rw [HZ.out]; exact hlt)] at this
      have R2 : Touch (fun x => x = B ∧ 0 < n) w (wr.setCell ⟨B, j, none⟩ (.int .i64 (k + j))) := ht.setCell ⟨rfl, by omega⟩ _
      clear h ho hcs hfs
      go_wp2
      go_roundw
      case rel => exact ⟨j + 1, by omega, by go_num, by go_num, R2, R⟩
      case measure => simp [intOf]; omega
    · go_wp2
      go_ret
      obtain rfl : j = n := by omega
      exact ⟨rfl, ht, by rw [marked_end k zs j (by rw [HZ.out]; exact Nat.le_refl _)] at ho; exact ho⟩

end Go.Proofs.YtacjjhfbnbmnlaaGreatDoor

namespace Go.Proofs.YtacjjhfbnbmnlaaGreatDoor
open Go.RowKit
set_option linter.unusedVariables false
set_option maxRecDepth 100000

set_option maxHeartbeats 400000 in
theorem addX_any (n cap B : Nat) (a c : Option Addr) (cap' : Nat) (xs ys : List Int) (M M' : Int) (w : World) (h : OwnX w a B n xs) (h' : Ints w c n ys) (hne : ∀ b o, c = some ⟨b, o, none⟩ → b ≠ B)
    (hn : n ≤ 1048576) (hM : bnd M xs) (hM' : bnd M' ys) (hb : M ≤ 2000000000000000000) (hb' : M' ≤ 2000000000000000000) :
    Calls Tryz.prog 223 #[.slice a n cap, .slice c n cap'] w fun e w' => e = .returned (.tuple #[]) ∧ Touch (fun x => x = B ∧ 0 < n) w w' ∧ OwnX w' a B n (List.zipWith (· + ·) xs ys) := by
  have HX : Hid (xs.length = n) := h.1
  have HY : Hid (ys.length = n) := h'.1
  go_enter Tryz.func223, Tryz.ntmps223
  go_wp2_with fail
  go_loopw [4, 5, 8] (fun _ _ i wr => ∃ j : Nat, j ≤ n ∧ i = .int .i64 j ∧ Touch (fun x => x = B ∧ 0 < n) w wr ∧ OwnX wr a B n (added xs ys j)) (fun _ _ i _ => n - (intOf i).toNat)
  case atStart => exact ⟨0, Nat.zero_le _, rfl, Touch.refl _ _, by rw [added_zero]; exact h⟩
  case round =>
    obtain ⟨j, hj, rfl, ht, ho⟩ := hrel
    by_cases hlt : j < n
    · obtain ⟨rfl, hcs, hfs⟩ := ho.pos (by omega)
      obtain ⟨b, off, rfl, hcell⟩ := h'.pos (by omega)
      have hck : wr.cell? ⟨b, off + j, none⟩ = some (.int .i64 (ys[j]?.getD 0)) := by
        have h0 := hcell j hlt
        have : wr.cell? ⟨b, off + j, none⟩ = w.cell? ⟨b, off + j, none⟩ := World.cell?_of_block (ht.block b (block_lt h0) (fun e => hne b off rfl e.1))
        rw [this, h0]; simp
      have hco : wr.cell? ⟨B, j, none⟩ = some (.int .i64 (xs[j]?.getD 0)) := by
        rw [hcs j hlt, added_get xs ys j (by rw [HX.out, HY.out]) (by rw [HX.out]; exact hlt)]
      have hf := hfs j
      obtain ⟨m1, m2⟩ := hM j
      obtain ⟨m3, m4⟩ := hM' j
      have R : OwnX (wr.setCell ⟨B, j, none⟩ (.int .i64 (xs[j]?.getD 0 + ys[j]?.getD 0))) (some ⟨B, 0, none⟩) B n (added xs ys (j + 1)) := by
        have := ho.set hlt (xs[j]?.getD 0 + ys[j]?.getD 0)
        rwa [added_succ xs ys j (by rw [HX.out, HY.out]) (by rw [HX.out]; exact hlt)] at this
      have R2 : Touch (fun x => x = B ∧ 0 < n) w (wr.setCell ⟨B, j, none⟩ (.int .i64 (xs[j]?.getD 0 + ys[j]?.getD 0))) := ht.setCell ⟨rfl, by omega⟩ _
      clear h ho hcell h' hM hM' hne hcs hfs
      go_wp2
      go_roundw
      case rel => exact ⟨j + 1, by omega, by go_num, R2, R⟩
      case measure => simp [intOf]; omega
    · go_wp2
      go_end0
      obtain rfl : j = n := by omega
      exact ⟨rfl, ht, by rw [added_end xs ys j (by rw [HX.out]; exact Nat.le_refl _) (by rw [HY.out]; exact Nat.le_refl _)] at ho; exact ho⟩

/-- The numbers of a slice, to be appended. -/
theorem newsI {w : World} {b off n : Nat} {zs : List Int} (h : ∀ i, i < n → w.cell? ⟨b, off + i, none⟩ = some (.int .i64 (zs.getD i 0))) (hl : zs.length = n) : ∀ j u, (zs.map (Value.int .i64))[j]? = some u → w.cell? ((⟨b, off, none⟩ : Addr).add j) = some u := fun j u hu => by
  have hj : j < n := by
    have := (List.getElem?_eq_some_iff.1 hu).1
    simpa [hl] using this
  have hadd : (⟨b, off, none⟩ : Addr).add j = ⟨b, off + j, none⟩ := by
    by_cases h0 : j = 0
    · subst h0; simp [Addr.add]
    · simp [Addr.add, h0]
  rw [hadd, h j hj]
  rw [List.getElem?_map, List.getElem?_eq_getElem (by omega)] at hu
  simp only [Option.map_some, Option.some.injEq] at hu
  rw [← hu]
  simp [hl, hj]
theorem oneI (zs : List Int) : ∀ u ∈ zs.map (Value.int .i64), u.oneCell' = true := fun u hu => by
  obtain ⟨x, _, rfl⟩ := List.mem_map.1 hu
  rfl
theorem JA.copied {w W' : World} {zs : List Int} {g cap n : Nat} (hn : zs.length = n) (hown : W'.ownsRow w.heap.size 3 1 (.slice (some ⟨g, 0, none⟩) (0 + n) cap) (0 + n) ([] ++ zs.map (Value.int .i64))) (hg : (w.alloc (.cells #[] 3)).grownBy W' (Value.ownBlock (.slice (some ⟨w.heap.size, 0, none⟩) 0 0))) :
    JA w (.slice (some ⟨g, 0, none⟩) n cap) zs W' := by
  have h0 := JA.lit w
  refine h0.own (ys := zs) ?_ hg
  rw [hn]
  simpa using hown

set_option maxHeartbeats 400000 in
theorem clone_any (a : Option Addr) (n cap : Nat) (zs : List Int) (w : World) (h : Ints w a n zs) (hn : n ≤ 1048576) (h0 : 0 < n) :
    Calls Tryz.prog 135 #[.slice a n cap] w fun e w' => ∃ v, e = .returned v ∧ JA w v zs w' := by
  have HZ : Hid (zs.length = n) := h.1
  obtain ⟨i0, hi, hz0, hz1, hz2⟩ := info_parts Tryz.infoInt
  obtain ⟨b, off, rfl, hcell⟩ := h.pos h0
  have hcl : ∀ i, i < n → (w.alloc (.cells #[] 3)).cell? ⟨b, off + i, none⟩ = some (.int .i64 (zs.getD i 0)) := fun i hi => by
    rw [((Below.refl w.heap.size w).alloc (Nat.le_refl _) _).cell (p := ⟨b, off + i, none⟩) (block_lt (hcell i hi))]; exact hcell i hi
  have HC : Hid _ := newsI hcl HZ.out
  have HL : Hid ((zs.map (Value.int .i64)).length = n * 1) := by show _ = _; rw [List.length_map, HZ.out, Nat.mul_one]
  have HJ : Hid _ := (JA.lit w).o
  clear hcl hcell h
  have hnil : ∀ w, (binOp .eql 23 (.slice (some ⟨b, off, none⟩) n cap) (.slice none 0 0)).run Tryz.prog w = .ok (.bool false) w := fun w => Go.Lib.run_eql_slice_nil w _ _ _ _ _ _ _ Tryz.underlying23
  go_enter Tryz.func135, Tryz.ntmps135
  go_wp2_with (at_builtin; go_must (refine wpList_append_lies _ rfl (.tmp 5) (.tmp 6) 23 rfl w.heap.size 3 i0 (.int .i64 0) 1 8 Tryz.underlying23 hi hz0 hz1 hz2 rfl (by decide) _ 0 [] rfl HJ.out ⟨b, off, none⟩ n cap (zs.map (Value.int .i64)) rfl HL.out HC.out (oneI _) h0 (by unfold maxLen; omega) (by omega) (by rw [World.size_alloc]; omega) _ rfl ?_); intro g cp w1 hown hgrow hat hlt1)
  have j := JA.copied HZ.out hown hgrow
  clear hown hgrow
  go_wp2
  go_ret
  exact ⟨_, rfl, j⟩

end Go.Proofs.YtacjjhfbnbmnlaaGreatDoor

namespace Go.Proofs.YtacjjhfbnbmnlaaGreatDoor
open Go.RowKit Go.Deep
set_option linter.unusedVariables false
set_option maxRecDepth 100000

set_option maxHeartbeats 1600000 in
theorem ilack_any (a : Option Addr) (cap : Nat) (c : Option Addr) (cap' : Nat) (K : Int) (C D : List Int) (w : World) (hC : Ints w a 3 C) (hD : Ints w c 2 D) (bC : bnd 10000000 C) (bD : bnd 10000000 D) (bK1 : -10000000 ≤ K) (bK2 : K ≤ 10000000) (hfit : fitX 10000000 (minusX (C, D, K))) :
    Calls Tryz.prog 216 #[formV a 3 cap c 2 cap' K] w fun e w' => ∃ B1 B2, e = .returned (formV (some ⟨B1, 0, none⟩) 3 3 (some ⟨B2, 0, none⟩) 2 2 (-K - 1)) ∧ Below w.heap.size w w' ∧ w.heap.size ≤ B1 ∧ B1 ≠ B2 ∧ w.heap.size ≤ B2 ∧ Blk w' B1 (mulL (-1) C) ∧ Blk w' B2 (mulL (-1) D) := by
  have hok : formB 3 2 (mulL (-1) C) (mulL (-1) D) (-K - 1) = true := by
    have := fit_ok hfit
    simp only [minusX] at this
    rw [show -1 * K - 1 = -K - 1 by omega] at this
    exact this
  have HOK : Hid _ := hok
  have lC : (mulL (-1) C).length = 3 := by rw [mulL_len]; exact hC.1
  have lD : (mulL (-1) D).length = 2 := by rw [mulL_len]; exact hD.1
  clear hok hfit
  have A2 : Below w.heap.size w ((w.alloc (.cells #[.slice a 3 cap, .slice c 2 cap', .int .i64 K] 127)).alloc (.cells #[.slice none 0 0, .slice none 0 0, .int .i64 0] 127)) := ((Below.refl _ _).alloc (Nat.le_refl _) _).alloc (by simp) _
  have rr := Cel.new (w.alloc (.cells #[.slice a 3 cap, .slice c 2 cap', .int .i64 K] 127)) [.slice none 0 0, .slice none 0 0, .int .i64 0] 127
  rw [World.size_alloc] at rr
  go_enter Tryz.func216, Tryz.ntmps216
  go_wp2_with fail
  refine (times_any _ _ _ _ _ C D _ _ (hC.below A2) (hD.below A2) (tim_bnd bC (by omega) (by omega)) (tim_bnd bD (by omega) (by omega)) (tim_num bK1 bK2 (by omega) (by omega))).mono ?_
  rintro e w3 ⟨B1, B2, rfl, b3, y1, y2, y3, k1, k2⟩
  rw [show (-1 : Int) * K = -K by omega]
  rw [World.size_alloc, World.size_alloc] at y1 y3
  have B3 := A2.trans (b3.mono A2.size)
  have r3 := rr.below b3
  have l1 := k1.lt
  have l2 := k2.lt
  have lr := r3.lt
  clear A2 b3 rr
  have hw : IntKind.i64.wrap (-K - 1) = -K - 1 := wrap_id (by omega) (by omega)
  have A4 : Below w3.heap.size w3 (w3.alloc (.cells #[.slice (some ⟨B1, 0, none⟩) 3 3, .slice (some ⟨B2, 0, none⟩) 2 2, .int .i64 (-K - 1)] 127)) := (Below.refl _ _).alloc (Nat.le_refl _) _
  have m1 := k1.below A4
  have m2 := k2.below A4
  have r4 := r3.below A4
  have B4 := B3.trans (A4.mono B3.size)
  clear k1 k2 r3 A4 B3
  go_wp2_with fail
  refine (orN_yes _ _ _ _ _ _ _ (mulL (-1) C) (mulL (-1) D) _ (m1.ints' lC) (m2.ints' lD) (by omega) (by omega) HOK.out).mono ?_
  rintro e w5 ⟨rfl, b5⟩
  have n1 := m1.below b5
  have n2 := m2.below b5
  have r5 := r4.below b5
  have B5 := B4.trans (b5.mono B4.size)
  obtain ⟨e0, e1, e2, e3, e4, e5⟩ := r5.trio
  have r6 := ((r5.set 0 (.slice (some ⟨B1, 0, none⟩) 3 3)).set 1 (.slice (some ⟨B2, 0, none⟩) 2 2)).set 2 (.int .i64 (-K - 1))
  simp only [List.set_cons_zero, List.set_cons_succ] at r6
  obtain ⟨h0, h1, h2, h3, h4, h5⟩ := r6.trio
  clear m1 m2 r4 B4 b5
  go_wp2
  refine bodyPost_ret (v := formV (some ⟨B1, 0, none⟩) 3 3 (some ⟨B2, 0, none⟩) 2 2 (-K - 1)) (by simp [results, Tryz.results216, go_sem, h0, h1, h2]) rfl ?_
  refine ⟨B1, B2, rfl, ?_, by omega, y2, by omega, ?_, ?_⟩
  · exact ((B5.setCell (by simp only []; omega) _).setCell (by simp only []; omega) _).setCell (by simp only []; omega) _
  · exact ((n1.setOther (by omega) _ _).setOther (by omega) _ _).setOther (by omega) _ _
  · exact ((n2.setOther (by omega) _ _).setOther (by omega) _ _).setOther (by omega) _ _

theorem way0_get {k : Nat} (hk : k < 3) : way0.pots[k]?.getD ([], [], 0) = (([0, 0, 0] : List Int).set k 1, [0, 0], 0) := by
  match k, hk with
  | 0, _ => rfl
  | 1, _ => rfl
  | 2, _ => rfl

set_option maxHeartbeats 1600000 in
theorem ipots_any (w : World) : Calls Tryz.prog 153 #[] w fun e w' => ∃ v xs, e = .returned v ∧ JV w v 3 xs way0.pots w' := by
  obtain ⟨zi, hi, hz0, hz1, hz2⟩ := info_parts Tryz.infoForm
  go_enter Tryz.func153, Tryz.ntmps153
  go_wp2_with fail
  go_loopw [1, 2, 3] (fun r _ i wr => ∃ (k : Nat) (xs : List Value), k ≤ 3 ∧ i = .int .i64 k ∧ JV w r k xs way0.pots wr) (fun _ _ i _ => 3 - (intOf i).toNat)
  case atStart => exact ⟨0, [], by omega, rfl, JV.nil w _⟩
  case round =>
    obtain ⟨k, xs, hk, rfl, j⟩ := hrel
    by_cases hlt : k < 3
    · obtain ⟨va, vc, rfl⟩ := j.isSlice
      have hlt' : (k : Int) < 3 := by omega
      have HT : Hid _ := way0_get hlt
      go_wp2_with fail
      refine (ipot_any _ _).mono ?_
      rintro ee w3 ⟨a0, n0, x0, c0, m0, y0, Z1, Z2, rfl, L1, L2, b3, o1, o2, g1, g2, g3⟩
      rw [potC_in (k : Int) k rfl (by omega)] at L1 o1
      rw [potD_in (k : Int) (by omega) (by omega)] at L2 o2
      obtain rfl : n0 = 3 := by rw [← L1]; simp
      obtain rfl : m0 = 2 := by rw [← L2]; simp
      rcases o1 with h | ⟨rfl, k1⟩
      · rw [h] at L1; cases L1
      rcases o2 with h | ⟨rfl, k2⟩
      · cases h
      have z1 := g1 (by omega)
      have z2 := g2 (by omega)
      clear g1 g2 g3
      have j3 := j.below b3
      have sz := j.b.size
      have sz3 := b3.size
      have A : Below w3.heap.size w3 (w3.alloc (.cells #[.slice (some ⟨Z1, 0, none⟩) 3 x0, .slice (some ⟨Z2, 0, none⟩) 2 y0, .int .i64 0] 127)) := (Below.refl _ _).alloc (Nat.le_refl _) _
      have j4 := j3.below A
      have k1' := k1.below A
      have k2' := k2.below A
      have n1 : (Value.slice va k vc).ownBlock ≠ some Z1 := fun e => by have := (j.own e).2; omega
      have n2 : (Value.slice va k vc).ownBlock ≠ some Z2 := fun e => by have := (j.own e).2; omega
      have l3 : (([0, 0, 0] : List Int).set k 1).length = 3 := by simp
      clear j j3
      go_wp2_with (at_builtin; go_must (refine wpList_append_lies _ rfl (.tmp 6) (.tmp 9) 133 rfl w.heap.size 127 zi _ 3 56 Tryz.underlying133 hi hz0 hz1 hz2 rfl (by decide) (.slice va k vc) k xs rfl j4.o ⟨w3.heap.size, 0, none⟩ 1 1 [.slice (some ⟨Z1, 0, none⟩) 3 x0, .slice (some ⟨Z2, 0, none⟩) 2 y0, .int .i64 0] rfl rfl (World.news_of_block (cs := #[.slice (some ⟨Z1, 0, none⟩) 3 x0, .slice (some ⟨Z2, 0, none⟩) 2 y0, .int .i64 0]) (t := 127) (fr := (0, 0)) (heap_alloc_new w3 _)) (by simp [Value.oneCell']) (by omega) (by unfold maxLen; omega) (by omega) (by rw [World.size_alloc]; omega) _ rfl ?_); intro g cp w4 hown hgrow hat hlt1)
      have j5 := j4.app hown hgrow hat rfl (k1'.ints' l3) (k2'.ints' rfl) n1 n2 (by omega) (by omega) HT.out
      clear hown hgrow hat j4 k1 k2 k1' k2'
      go_wp2
      go_roundw
      case rel => exact ⟨k + 1, _, by omega, by go_num, j5⟩
      case measure => simp [intOf]; omega
    · obtain rfl : k = 3 := by omega
      go_wp2
      go_ret
      exact ⟨_, xs, rfl, j⟩

end Go.Proofs.YtacjjhfbnbmnlaaGreatDoor

namespace Go.Proofs.YtacjjhfbnbmnlaaGreatDoor
open Go.RowKit Go.Deep
set_option linter.unusedVariables false
set_option maxRecDepth 100000

set_option maxHeartbeats 3200000 in
theorem icopied_any (a : Option Addr) (cap : Nat) (c : Option Addr) (cap' : Nat) (K : Int) (C D : List Int) (w : World) (hC : Ints w a 3 C) (hD : Ints w c 2 D) :
    Calls Tryz.prog 271 #[formV a 3 cap c 2 cap' K] w fun e w' => ∃ B1 B2 c1 c2, e = .returned (formV (some ⟨B1, 0, none⟩) 3 c1 (some ⟨B2, 0, none⟩) 2 c2 K) ∧ Below w.heap.size w w' ∧ w.heap.size ≤ B1 ∧ B1 ≠ B2 ∧ w.heap.size ≤ B2 ∧ Ints w' (some ⟨B1, 0, none⟩) 3 C ∧ Ints w' (some ⟨B2, 0, none⟩) 2 D := by
  have H1 : TimesH w a cap c cap' K ((w.alloc (Obj.cells #[Value.slice a 3 cap, Value.slice c 2 cap', Value.int IntKind.i64 K] 127)).alloc (Obj.cells #[Value.slice none 0 0, Value.slice none 0 0, Value.int IntKind.i64 0] 127)) :=
    ⟨(Cel.new w _ _).alloc _, by have := Cel.new (w.alloc (Obj.cells #[Value.slice a 3 cap, Value.slice c 2 cap', Value.int IntKind.i64 K] 127)) [.slice none 0 0, .slice none 0 0, .int .i64 0] 127; rw [World.size_alloc] at this; exact this, ((Below.refl _ _).alloc (Nat.le_refl _) _).alloc (by simp) _⟩
  go_enter Tryz.func271, Tryz.ntmps271
  go_upto_region 1 with fail
  obtain ⟨W0, hW0⟩ : ∃ w2, w2 = (w.alloc (Obj.cells #[Value.slice a 3 cap, Value.slice c 2 cap', Value.int IntKind.i64 K] 127)).alloc (Obj.cells #[Value.slice none 0 0, Value.slice none 0 0, Value.int IntKind.i64 0] 127) := ⟨_, rfl⟩
  rw [← hW0] at H1 ⊢
  clear hW0
  have KP : Hid (∀ W, Below W0.heap.size W0 W → TimesH w a cap c cap' K W) := fun W hW => H1.below hW
  have lr := H1.r.lt
  have c0 : Below W0.heap.size W0 W0.drew := (Below.refl _ _).drew
  have hSS : (W0.drew.cell? ⟨w.heap.size, 0, none⟩ = some (.slice a 3 cap) ∧ W0.drew.cell? ⟨w.heap.size, 1, none⟩ = some (.slice c 2 cap') ∧ W0.drew.cell? ⟨w.heap.size, 2, none⟩ = some (.int .i64 K)) ∧ True := ⟨(KP.out _ c0).cells, trivial⟩
  have hb0 := H1.b
  clear H1
  refine wp_region_ends (fun w' => w'.cell? ⟨w.heap.size, 0, none⟩ = some (.slice a 3 cap) ∧ w'.cell? ⟨w.heap.size, 1, none⟩ = some (.slice c 2 cap') ∧ w'.cell? ⟨w.heap.size, 2, none⟩ = some (.int .i64 K)) (fun _ => True) 9 (by kernel_rfl) ?_
  refine wpAnyE_take0 (i := 0) (v := ?v0) rfl (by kernel_rfl) (by kernel_rfl) (by kernel_rfl) (by decide) (fun _ _ _ h => h) (Or.inl ⟨by rfl, ?hy0⟩) hSS ?_
  case hy0 => (intro wz hSw; (try dsimp only at hSw); go_simp; try (with_reducible rfl))
  refine wpAnyE_take0 (i := 1) (v := ?v1) rfl (by kernel_rfl) (by kernel_rfl) (by kernel_rfl) (by decide) (fun _ _ _ h => h) (Or.inl ⟨by rfl, ?hy1⟩) hSS ?_
  case hy1 => (intro wz hSw; (try dsimp only at hSw); go_simp; try (with_reducible rfl))
  refine wpAnyE_take0 (i := 3) (v := ?v3) rfl (by kernel_rfl) (by kernel_rfl) (by kernel_rfl) (by decide) (fun _ _ _ h => h) (Or.inl ⟨by rfl, ?hy3⟩) hSS ?_
  case hy3 => (intro wz hSw; (try dsimp only at hSw); go_simp; try (with_reducible rfl))
  refine wpAnyE_take0 (i := 4) (v := ?v4) rfl (by kernel_rfl) (by kernel_rfl) (by kernel_rfl) (by decide) (fun _ _ _ h => h) (Or.inl ⟨by rfl, ?hy4⟩) hSS ?_
  case hy4 => (intro wz hSw; (try dsimp only at hSw); go_simp; try (with_reducible rfl))
  refine wpAnyE_take0 (i := 6) (v := ?v6) rfl (by kernel_rfl) (by kernel_rfl) (by kernel_rfl) (by decide) (fun _ _ _ h => h) (Or.inl ⟨by rfl, ?hy6⟩) hSS ?_
  case hy6 => (intro wz hSw; (try dsimp only at hSw); go_simp; try (with_reducible rfl))
  refine wpAnyE_take0 (i := 7) (v := ?v7) rfl (by kernel_rfl) (by kernel_rfl) (by kernel_rfl) (by decide) (fun _ _ _ h => h) (Or.inl ⟨by rfl, ?hy7⟩) hSS ?_
  case hy7 => (intro wz hSw; (try dsimp only at hSw); go_simp; try (with_reducible rfl))
  clear hSS
  have sb0 := hb0.size
  refine wpAnyE_one (i := 2) (by kernel_rfl) rfl (fun K' hK => ?_)
  go_simp
  refine (clone_any _ _ _ C _ ((hC.below hb0).below c0) (by omega) (by omega)).mono ?_
  rintro ee w1 ⟨v1, rfl, j1⟩
  have e1 := below_of_drew j1.b
  obtain ⟨a1, p1, B1, rfl, o1, g1⟩ := j1.ownx hC.1
  have i1 := o1.ints
  obtain ⟨rfl, -, -⟩ := o1.pos (by omega)
  have y1 : W0.heap.size ≤ B1 := g1 (by omega)
  have l1 := o1.lt (by omega)
  clear j1 o1 g1
  (try dsimp only)
  refine hK.out _ _ ⟨(KP.out _ e1).cells, fun _ => trivial⟩ ?_
  clear hK K'
  refine wpAnyE_one (i := 5) (by kernel_rfl) rfl (fun K' hK => ?_)
  go_simp
  refine (clone_any _ _ _ D _ ((hD.below hb0).below e1) (by omega) (by omega)).mono ?_
  rintro ee w2 ⟨v2, rfl, j2⟩
  have e2 := e1.trans (j2.b.mono e1.size)
  have i1' := i1.below j2.b
  obtain ⟨a2, p2, B2, rfl, o2, g2⟩ := j2.ownx hD.1
  have i2 := o2.ints
  obtain ⟨rfl, -, -⟩ := o2.pos (by omega)
  have y2 : w1.heap.size ≤ B2 := g2 (by omega)
  have l2 := o2.lt (by omega)
  have s1 := e1.size
  have s2 := j2.b.size
  clear j2 o2 g2 i1
  (try dsimp only)
  refine hK.out _ _ ⟨(KP.out _ e2).cells, fun _ => trivial⟩ ?_
  clear hK K'
  refine wpAnyE_one (i := 8) (by kernel_rfl) rfl (fun K' hK => ?_)
  go_simp
  refine hK.out _ _ ⟨(KP.out _ e2).cells, fun _ => trivial⟩ ?_
  clear hK K'
  have HY := KP.out _ e2
  obtain ⟨r0, r1, r2, r3, r4, r5⟩ := HY.room
  obtain ⟨s0', s1', s2', -, -, -⟩ := HY.r.trio
  have T : Touch (fun z => z = w.heap.size + 1) w2 (((w2.setCell ⟨w.heap.size + 1, 0, none⟩ (.slice (some ⟨B1, 0, none⟩) 3 p1)).setCell ⟨w.heap.size + 1, 1, none⟩ (.slice (some ⟨B2, 0, none⟩) 2 p2)).setCell ⟨w.heap.size + 1, 2, none⟩ (.int .i64 K)) := (((Touch.refl (fun z => z = w.heap.size + 1) w2).setCell rfl _).setCell rfl _).setCell rfl _
  have r6 := ((HY.r.set 0 (.slice (some ⟨B1, 0, none⟩) 3 p1)).set 1 (.slice (some ⟨B2, 0, none⟩) 2 p2)).set 2 (.int .i64 K)
  simp only [List.set_cons_zero, List.set_cons_succ] at r6
  have p6 := HY.p.touch T (fun h => by have := h; omega)
  obtain ⟨h0, h1, h2, -, -, -⟩ := r6.trio
  obtain ⟨x0, x1, x2, -, -, -⟩ := p6.trio
  refine wpAnyE_one (i := 9) (by kernel_rfl) rfl (fun K' hK => ?_)
  go_simp
  refine hK.out _ _ ⟨⟨x0, x1, x2⟩, fun h => absurd (show true = false from h) (by decide)⟩ ?_
  clear hK K'
  refine wpAnyE_done (by kernel_rfl) ?_ _
  have q1 := i1'.by T (fun b o e => by simp only [Option.some.injEq, Addr.mk.injEq, and_true] at e; omega)
  have q2 := i2.by T (fun b o e => by simp only [Option.some.injEq, Addr.mk.injEq, and_true] at e; omega)
  have BB := (hb0.trans (e2.mono hb0.size)).trans (T.below (by omega) (fun z hz => by omega))
  clear HY r0 r1 r2 r3 r4 r5 s0' s1' s2' r6 p6 x0 x1 x2 T i1' i2
  go_wp2
  refine bodyPost_ret (v := formV (some ⟨B1, 0, none⟩) 3 p1 (some ⟨B2, 0, none⟩) 2 p2 K) (by simp [results, Tryz.results271, go_sem, h0, h1, h2]) rfl ?_
  exact ⟨B1, B2, p1, p2, rfl, BB, by omega, by omega, by omega, q1, q2⟩

theorem Tryz.copiedForm (v : Value) (w : World) : (Go.method 431 127 v "loop.example/concord/impl.copied").run Tryz.prog w = .ok (271, v) w := by kernel_rfl

set_option maxHeartbeats 3200000 in
theorem icopiesBy_any (ad : Option Addr) (N cap : Nat) (fs : List Frm) (w : World) (hN : fs.length = N) (hF : FormsAt w ad fs) (hfit : ∀ k, k < N → fitX 10000000 (fs[k]?.getD ([], [], 0))) (hN1 : N ≤ 1048576) :
    Calls Tryz.prog 224 #[.slice ad N cap, .func (.methodOf 127 "loop.example/concord/impl.copied") #[] #[]] w fun e w' => ∃ v xs, e = .returned v ∧ JV w v N xs fs w' := by
  have HN : Hid (fs.length = N) := hN
  have HFT : Hid _ := hfit
  have HF : Hid (FormsAt w ad fs) := hF
  clear hN hfit hF
  obtain ⟨zi, hi, hz0, hz1, hz2⟩ := info_parts Tryz.infoForm
  have hm := Tryz.copiedForm
  go_enter Tryz.func224, Tryz.ntmps224
  go_wp2_with fail
  go_loopw [5, 7, 10] (fun r _ i wr => ∃ (k : Nat) (xs : List Value), k ≤ N ∧ i = .int .i64 k ∧ JV w r k xs fs wr) (fun _ _ i _ => N - (intOf i).toNat)
  case atStart => exact ⟨0, [], Nat.zero_le _, rfl, JV.nil w _⟩
  case round =>
    obtain ⟨k, xs, hk, rfl, j⟩ := hrel
    by_cases hlt : k < N
    · obtain ⟨va, vc, rfl⟩ := j.isSlice
      have hlt' : (k : Int) < N := by omega
      obtain ⟨b, off, rfl, a', c', ca, cc, c0, c1, c2, iC, iD⟩ := (HF.out.keep j.b) k (by rw [HN.out]; exact hlt)
      have hfit := HFT.out k hlt
      generalize HG : fs[k]?.getD ([], [], 0) = f at *
      have HT : Hid (fs[k]?.getD ([], [], 0) = f) := HG
      clear HG
      obtain ⟨fC, fD, fK⟩ := f
      have lC : fC.length = 3 := hfit.c
      have lD : fD.length = 2 := hfit.d
      simp only at c2 iC iD
      clear hfit
      have A1 : Below wr.heap.size wr (wr.alloc (.cells #[.slice a' 3 ca, .slice c' 2 cc, .int .i64 fK] 127)) := (Below.refl _ _).alloc (Nat.le_refl _) _
      go_wp2_with fail
      refine (icopied_any _ _ _ _ _ fC fD _ (iC.below A1) (iD.below A1)).mono ?_
      rintro ee w3 ⟨Z1, Z2, x0, y0, rfl, b3, z1, z2, z3, k1, k2⟩
      rw [World.size_alloc] at z1 z3
      have b3' := A1.trans (b3.mono A1.size)
      have j3 := j.below b3'
      have sz := j.b.size
      have sz3 := b3'.size
      have A : Below w3.heap.size w3 (w3.alloc (.cells #[.slice (some ⟨Z1, 0, none⟩) 3 x0, .slice (some ⟨Z2, 0, none⟩) 2 y0, .int .i64 fK] 127)) := (Below.refl _ _).alloc (Nat.le_refl _) _
      have j4 := j3.below A
      have k1' := k1.below A
      have k2' := k2.below A
      have n1 : (Value.slice va k vc).ownBlock ≠ some Z1 := fun e => by have := (j.own e).2; omega
      have n2 : (Value.slice va k vc).ownBlock ≠ some Z2 := fun e => by have := (j.own e).2; omega
      clear j j3 c0 c1 c2 iC iD A1 b3 b3'
      go_wp2_with (at_builtin; go_must (refine wpList_append_lies _ rfl (.tmp 14) (.tmp 18) 133 rfl w.heap.size 127 zi _ 3 56 Tryz.underlying133 hi hz0 hz1 hz2 rfl (by decide) (.slice va k vc) k xs rfl j4.o ⟨w3.heap.size, 0, none⟩ 1 1 [.slice (some ⟨Z1, 0, none⟩) 3 x0, .slice (some ⟨Z2, 0, none⟩) 2 y0, .int .i64 fK] rfl rfl (World.news_of_block (cs := #[.slice (some ⟨Z1, 0, none⟩) 3 x0, .slice (some ⟨Z2, 0, none⟩) 2 y0, .int .i64 fK]) (t := 127) (fr := (0, 0)) (heap_alloc_new w3 _)) (by simp [Value.oneCell']) (by omega) (by unfold maxLen; omega) (by omega) (by rw [World.size_alloc]; omega) _ rfl ?_); intro g cp w4 hown hgrow hat hlt1)
      have j5 := j4.app hown hgrow hat rfl k1' k2' n1 n2 (by omega) (by omega) HT.out
      clear hown hgrow hat j4 k1 k2 k1' k2'
      go_wp2
      go_roundw
      case rel => exact ⟨k + 1, _, by omega, by go_num, j5⟩
      case measure => simp [intOf]; omega
    · obtain rfl : k = N := by omega
      go_wp2
      go_ret
      exact ⟨_, xs, rfl, j⟩

theorem icopies_any (ad : Option Addr) (N cap : Nat) (fs : List Frm) (w : World) (hN : fs.length = N) (hF : FormsAt w ad fs) (hfit : ∀ k, k < N → fitX 10000000 (fs[k]?.getD ([], [], 0))) (hN1 : N ≤ 1048576) :
    Calls Tryz.prog 212 #[.slice ad N cap] w fun e w' => ∃ v xs, e = .returned v ∧ JV w v N xs fs w' := by
  go_enter Tryz.func212, Tryz.ntmps212
  go_wp2_with fail
  refine (icopiesBy_any _ _ _ fs _ hN hF hfit hN1).mono ?_
  rintro e w1 ⟨v, xs, rfl, j⟩
  go_wp2
  go_ret
  exact ⟨v, xs, rfl, j⟩

end Go.Proofs.YtacjjhfbnbmnlaaGreatDoor

namespace Go.Proofs.YtacjjhfbnbmnlaaGreatDoor
open Go.RowKit Go.Deep
set_option linter.unusedVariables false
set_option maxRecDepth 100000

/-- A way as a value. -/
abbrev wayV (ga : Option Addr) (ng gc : Nat) (pa : Option Addr) (cp : Nat) (ta : Option Addr) (nt tc : Nat) (st : Bool) : Value := .agg #[.slice ga ng gc, .slice pa 3 cp, .slice ta nt tc, .bool st]
theorem resYes {w w' : World} {e : Ending} {C D : List Int} {K : Int} (h : Res w w' e C D K) (hC : C.length = 3) (hD : D.length = 2) : ∃ B1 B2 c1 c2, e = .returned (formV (some ⟨B1, 0, none⟩) 3 c1 (some ⟨B2, 0, none⟩) 2 c2 K) ∧ Below w.heap.size w w' ∧ w.heap.size ≤ B1 ∧ B1 ≠ B2 ∧ w.heap.size ≤ B2 ∧ Blk w' B1 C ∧ Blk w' B2 D := by
  obtain ⟨a, n, cap, c, m, cap', B1, B2, rfl, L1, L2, b, o1, o2, g1, g2, g3⟩ := h
  obtain rfl : n = 3 := by omega
  obtain rfl : m = 2 := by omega
  rcases o1 with h | ⟨rfl, k1⟩
  · rw [h] at hC; cases hC
  rcases o2 with h | ⟨rfl, k2⟩
  · rw [h] at hD; cases hD
  exact ⟨B1, B2, cap, cap', rfl, b, g1 (by omega), g3 (by omega) (by omega), g2 (by omega), k1, k2⟩
theorem iaddX_any (a : Option Addr) (cap : Nat) (c : Option Addr) (cap' : Nat) (f : Frm) (a2 : Option Addr) (cap2 : Nat) (c2 : Option Addr) (cap2' : Nat) (g : Frm) (w : World) (hC : Ints w a 3 f.1) (hD : Ints w c 2 f.2.1) (hC2 : Ints w a2 3 g.1) (hD2 : Ints w c2 2 g.2.1) (h1 : fitX 10000000 f) (h2 : fitX 10000000 g) (h3 : fitX 10000000 (plusX f g)) :
    Calls Tryz.prog 225 #[formV a 3 cap c 2 cap' f.2.2, formV a2 3 cap2 c2 2 cap2' g.2.2] w fun e w' => ∃ B1 B2 c1 c2, e = .returned (formV (some ⟨B1, 0, none⟩) 3 c1 (some ⟨B2, 0, none⟩) 2 c2 (plusX f g).2.2) ∧ Below w.heap.size w w' ∧ w.heap.size ≤ B1 ∧ B1 ≠ B2 ∧ w.heap.size ≤ B2 ∧ Blk w' B1 (plusX f g).1 ∧ Blk w' B2 (plusX f g).2.1 := by
  have hok : addOk 3 2 f.1 f.2.1 f.2.2 3 2 g.1 g.2.1 g.2.2 = true := by
    have e3 : formB 3 2 (lin f.1 g.1 1) (lin f.2.1 g.2.1 1) (f.2.2 + 1 * g.2.2) = true := fit_ok h3
    unfold addOk
    rw [fit_ok h1, fit_ok h2, e3]; rfl
  refine (iadd_any a 3 cap c 2 cap' f.2.2 f.1 f.2.1 a2 3 cap2 c2 2 cap2' g.2.2 g.1 g.2.1 w hC hD hC2 hD2 (by omega) (by omega) (by omega) (by omega)).mono ?_
  intro e w' h
  rw [hok] at h
  exact resYes h h3.c h3.d
theorem lin_neg (xs ys : List Int) : lin xs (mulL (-1) ys) 1 = lin xs ys (-1) := by
  unfold lin mulL
  rw [List.zipWith_map_right]
  congr 1
  funext x y
  omega
def negX (k : Nat) : Frm := (mulL (-1) (([0, 0, 0] : List Int).set k 1), mulL (-1) [0, 0], -1 * 0)
theorem plus_neg (f : Frm) (k : Nat) : plusX f (negX k) = lessX f k := by
  simp only [plusX, negX, lessX, lin_neg]
  rw [show f.2.2 + 1 * (-1 * 0) = f.2.2 + -1 * 0 by omega]
theorem negX_fit {k : Nat} (hk : k < 3) : fitX 1 (negX k) := by
  have b3 : bnd 1 (mulL (-1) (([0, 0, 0] : List Int).set k 1)) := fun i => by
    match k, hk, i with
    | 0, _, 0 => simp [mulL]
    | 0, _, 1 => simp [mulL]
    | 0, _, 2 => simp [mulL]
    | 0, _, i + 3 => simp [mulL]
    | 1, _, 0 => simp [mulL]
    | 1, _, 1 => simp [mulL]
    | 1, _, 2 => simp [mulL]
    | 1, _, i + 3 => simp [mulL]
    | 2, _, 0 => simp [mulL]
    | 2, _, 1 => simp [mulL]
    | 2, _, 2 => simp [mulL]
    | 2, _, i + 3 => simp [mulL]
  have b2 : bnd 1 (mulL (-1) ([0, 0] : List Int)) := fun i => by
    match i with
    | 0 => simp [mulL]
    | 1 => simp [mulL]
    | i + 2 => simp [mulL]
  exact ⟨by simp [negX, mulL], by simp [negX, mulL], b3, b2, by simp [negX], by simp [negX]⟩
/-- Less than no pot. -/
theorem inegpot_any (k : Nat) (hk : k < 3) (a : Option Addr) (cap : Nat) (c : Option Addr) (cap' : Nat) (w : World) (hC : Ints w a 3 (([0, 0, 0] : List Int).set k 1)) (hD : Ints w c 2 [0, 0]) :
    Calls Tryz.prog 226 #[formV a 3 cap c 2 cap' 0, .int .i64 (-1)] w fun e w' => ∃ B1 B2 c1 c2, e = .returned (formV (some ⟨B1, 0, none⟩) 3 c1 (some ⟨B2, 0, none⟩) 2 c2 (negX k).2.2) ∧ Below w.heap.size w w' ∧ w.heap.size ≤ B1 ∧ B1 ≠ B2 ∧ w.heap.size ≤ B2 ∧ Blk w' B1 (negX k).1 ∧ Blk w' B2 (negX k).2.1 := by
  have h1 : formB 3 2 (([0, 0, 0] : List Int).set k 1) [0, 0] 0 = true := by
    match k, hk with
    | 0, _ => decide
    | 1, _ => decide
    | 2, _ => decide
  have h2 : formB 3 2 (negX k).1 (negX k).2.1 (negX k).2.2 = true := fit_ok ((negX_fit hk).mono (by omega))
  have hok : timOk 3 2 (([0, 0, 0] : List Int).set k 1) [0, 0] 0 (-1) = true := by
    unfold timOk
    rw [h1]
    have h2' : formB 3 2 (mulL (-1) (([0, 0, 0] : List Int).set k 1)) (mulL (-1) [0, 0]) (-1 * 0) = true := h2
    rw [h2']; rfl
  refine (itim_any a 3 cap c 2 cap' 0 _ _ (-1) w hC hD (by omega) (by omega)).mono ?_
  intro e w' h
  rw [hok] at h
  exact resYes h (negX_fit hk).c (negX_fit hk).d

set_option maxHeartbeats 3200000 in
theorem iadds_any (y : Way) (ga : Option Addr) (ng gc : Nat) (pa : Option Addr) (cp : Nat) (ta : Option Addr) (nt tc : Nat) (st : Bool) (w : World) (hp : y.pots.length = 3) (hP : FormsAt w pa y.pots) (fp : ∀ k, k < 3 → fitX 9000000 (y.pots[k]?.getD noX)) :
    Calls Tryz.prog 213 #[wayV ga ng gc pa cp ta nt tc st] w fun e w' => ∃ v xs, e = .returned v ∧ JV w v 3 xs (endW y).adds w' := by
  have HPL : Hid (y.pots.length = 3) := hp
  have HFP : Hid _ := fp
  have HP : Hid (FormsAt w pa y.pots) := hP
  clear hp fp hP
  obtain ⟨zi, hi, hz0, hz1, hz2⟩ := info_parts Tryz.infoForm
  have B0 : Below w.heap.size w (w.alloc (.cells #[.slice ga ng gc, .slice pa 3 cp, .slice ta nt tc, .bool st] 246)) := (Below.refl _ _).alloc (Nat.le_refl _) _
  have j0 : JV w (.slice none 0 0) 0 [] (endW y).adds (w.alloc (.cells #[.slice ga ng gc, .slice pa 3 cp, .slice ta nt tc, .bool st] 246)) := (JV.nil w _).below B0
  go_enter Tryz.func213, Tryz.ntmps213
  go_wp2_with fail
  go_loopw [3, 4, 5, 9] (fun r _ _ i wr => ∃ (k : Nat) (xs : List Value), k ≤ 3 ∧ i = .int .i64 k ∧ JV w r k xs (endW y).adds wr) (fun _ _ _ i _ => 3 - (intOf i).toNat)
  case atStart => exact ⟨0, [], by omega, rfl, j0⟩
  case round =>
    clear j0 B0
    obtain ⟨k, xs, hk, rfl, j⟩ := hrel
    by_cases hlt : k < 3
    · obtain ⟨va, vc, rfl⟩ := j.isSlice
      have hlt' : (k : Int) < 3 := by omega
      obtain ⟨b, off, rfl, a', c', ca, cc, c0, c1, c2, iC, iD⟩ := (HP.out.keep j.b) k (by rw [HPL.out]; exact hlt)
      have hfit : fitX 9000000 (y.pots[k]?.getD ([], [], 0)) := HFP.out k hlt
      generalize HG : y.pots[k]?.getD ([], [], 0) = f at *
      have HT : Hid ((endW y).adds[k]?.getD ([], [], 0) = lessX f k) := by
        show _ = _
        rw [show (endW y).adds = (List.range 3).map (fun v => lessX (y.pots[v]?.getD noX) v) from rfl, List.getElem?_map, List.getElem?_range hlt]
        show lessX (y.pots[k]?.getD noX) k = _
        rw [show y.pots[k]?.getD noX = f from HG]
      clear HG
      have fit1 : fitX 10000000 f := hfit.mono (by omega)
      have fit3 : fitX 10000000 (plusX f (negX k)) := (plusX_fit hfit (negX_fit hlt) (by omega)).mono (by omega)
      have fit4 : fitX 10000000 (lessX f k) := by rw [← plus_neg]; exact fit3
      have HF1 : Hid _ := fit1
      have HF3 : Hid _ := fit3
      have lC := fit4.c
      have lD := fit4.d
      have HPN : Hid (plusX f (negX k) = lessX f k) := plus_neg f k
      clear hfit fit1 fit3 fit4
      have A1 : Below wr.heap.size wr (wr.alloc (.cells #[.slice a' 3 ca, .slice c' 2 cc, .int .i64 f.2.2] 127)) := (Below.refl _ _).alloc (Nat.le_refl _) _
      have bx := Cel.new wr [.slice a' 3 ca, .slice c' 2 cc, .int .i64 f.2.2] 127
      go_upto_region 5 with fail
      have z0 : wr.heap.size < (wr.alloc (.cells #[.slice a' 3 ca, .slice c' 2 cc, .int .i64 f.2.2] 127)).heap.size := by rw [World.size_alloc]; omega
      generalize (wr.alloc (.cells #[.slice a' 3 ca, .slice c' 2 cc, .int .i64 f.2.2] 127)) = W0 at *
      have KP : Hid (∀ W, Below W0.heap.size W0 W → Cel W wr.heap.size [.slice a' 3 ca, .slice c' 2 cc, .int .i64 f.2.2] 127) := fun W hW => bx.below hW
      have KQ : Hid (∀ W, Below W0.heap.size W0 W → (W.cell? ⟨wr.heap.size, 0, none⟩ = some (.slice a' 3 ca) ∧ W.cell? ⟨wr.heap.size, 1, none⟩ = some (.slice c' 2 cc) ∧ W.cell? ⟨wr.heap.size, 2, none⟩ = some (.int .i64 f.2.2))) := fun W hW => by
        obtain ⟨n0, n1, n2, _, _, _⟩ := (KP.out W hW).trio
        exact ⟨n0, n1, n2⟩
      have jW := j.below A1
      have iC0 := iC.below A1
      have iD0 := iD.below A1
      have e0 : Below W0.heap.size W0 W0.drew := (Below.refl _ _).drew
      have hSS := And.intro (KQ.out _ e0) (True.intro)
      have OWN : Hid (∀ G : Nat, (Value.slice va k vc).ownBlock = some G → G < wr.heap.size) := fun G e => (j.own e).2
      have sw := jW.b.size
      clear bx j iC iD c0 c1 c2 A1
      refine wp_region_ends (fun w' => w'.cell? ⟨wr.heap.size, 0, none⟩ = some (.slice a' 3 ca) ∧ w'.cell? ⟨wr.heap.size, 1, none⟩ = some (.slice c' 2 cc) ∧ w'.cell? ⟨wr.heap.size, 2, none⟩ = some (.int .i64 f.2.2)) (fun _ => True) 8 (by kernel_rfl) ?_
      refine wpAnyE_take0 (i := 0) (v := ?v0) rfl (by kernel_rfl) (by kernel_rfl) (by kernel_rfl) (by decide) (fun _ _ _ h => h) (Or.inl ⟨by rfl, ?hy0⟩) hSS ?_
      case hy0 => (intro wz hSw; (try dsimp only at hSw); go_simp; try (with_reducible rfl))
      refine wpAnyE_take0 (i := 1) (v := ?v1) rfl (by kernel_rfl) (by kernel_rfl) (by kernel_rfl) (by decide) (fun _ _ _ h => h) (Or.inl ⟨by rfl, ?hy1⟩) hSS ?_
      case hy1 => (intro wz hSw; (try dsimp only at hSw); go_simp; try (with_reducible rfl))
      refine wpAnyE_take0 (i := 2) (v := ?v2) rfl (by kernel_rfl) (by kernel_rfl) (by kernel_rfl) (by decide) (fun _ _ _ h => h) (Or.inl ⟨by rfl, ?hy2⟩) hSS ?_
      case hy2 => (intro wz hSw; (try dsimp only at hSw); go_simp; try (with_reducible rfl))
      clear hSS
      refine wpAnyE_one (i := 3) (by kernel_rfl) rfl (fun K hK => ?_)
      go_simp
      refine (ipot_any _ _).mono ?_
      intro ee w1 hR
      rw [potC_in (k : Int) k rfl (by omega), potD_in (k : Int) (by omega) (by omega)] at hR
      obtain ⟨P1, P2, p1, p2, rfl, b1, -, -, -, u1, u2⟩ := resYes hR (by simp) rfl
      have e1 := below_of_drew b1
      clear hR b1
      (try dsimp only)
      refine hK.out _ _ ⟨KQ.out _ e1, fun _ => trivial⟩ ?_
      clear hK K
      refine wpAnyE_one (i := 4) (by kernel_rfl) rfl (fun K hK => ?_)
      go_simp
      refine (inegpot_any k hlt _ _ _ _ _ (u1.ints' (by simp)) (u2.ints' rfl)).mono ?_
      rintro ee w2 ⟨N1, N2, q1, q2, rfl, b2, -, -, -, v1, v2⟩
      have e2 := e1.trans (b2.mono e1.size)
      clear b2 u1 u2
      (try dsimp only)
      refine hK.out _ _ ⟨KQ.out _ e2, fun _ => trivial⟩ ?_
      clear hK K
      refine wpAnyE_one (i := 5) (by kernel_rfl) rfl (fun K hK => ?_)
      go_simp
      refine (iaddX_any _ _ _ _ f _ _ _ _ (negX k) _ (iC0.below e2) (iD0.below e2) (v1.ints' (by simp [negX, mulL])) (v2.ints' (by simp [negX, mulL])) HF1.out ((negX_fit hlt).mono (by omega)) HF3.out).mono ?_
      rw [HPN.out]
      rintro ee w3 ⟨Z1, Z2, x0, y0, rfl, b3, z1, z2, z3, k1, k2⟩
      have e3 := e2.trans (b3.mono e2.size)
      have s2 := e2.size
      have s3 := b3.size
      clear b3 v1 v2
      (try dsimp only)
      refine hK.out _ _ ⟨KQ.out _ e3, fun _ => trivial⟩ ?_
      clear hK K
      refine wpAnyE_one (i := 6) (by kernel_rfl) rfl (fun K hK => ?_)
      go_simp
      have A : Below w3.heap.size w3 (w3.alloc (.cells #[.slice (some ⟨Z1, 0, none⟩) 3 x0, .slice (some ⟨Z2, 0, none⟩) 2 y0, .int .i64 (lessX f k).2.2] 127)) := (Below.refl _ _).alloc (Nat.le_refl _) _
      have e4 := e3.trans (A.mono e3.size)
      have j4 := jW.below e4
      have k1' := k1.below A
      have k2' := k2.below A
      have n1 : (Value.slice va k vc).ownBlock ≠ some Z1 := fun e => by have := OWN.out _ e; omega
      have n2 : (Value.slice va k vc).ownBlock ≠ some Z2 := fun e => by have := OWN.out _ e; omega
      refine hK.out _ _ ⟨KQ.out _ e4, fun _ => trivial⟩ ?_
      clear hK K jW
      refine wpAnyE_one (i := 7) (by kernel_rfl) rfl (fun K hK => ?_)
      rw [if_pos (by rfl)]
      refine wp_append_lies _ (.tmp 14) (.tmp 20) 133 rfl w.heap.size 127 zi _ 3 56 Tryz.underlying133 hi hz0 hz1 hz2 rfl (by omega) (.slice va k vc) k xs (by rfl) j4.o ⟨w3.heap.size, 0, none⟩ 1 1 [.slice (some ⟨Z1, 0, none⟩) 3 x0, .slice (some ⟨Z2, 0, none⟩) 2 y0, .int .i64 (lessX f k).2.2] (by rfl) (by rfl) (World.news_of_block (cs := #[.slice (some ⟨Z1, 0, none⟩) 3 x0, .slice (some ⟨Z2, 0, none⟩) 2 y0, .int .i64 (lessX f k).2.2]) (t := 127) (fr := (0, 0)) (heap_alloc_new w3 _)) (by simp [Value.oneCell']) (by omega) (by unfold maxLen; omega) (by omega) j4.b.size _ rfl ?_
      intro g cpg w4 hown hgrow hat hltg
      have j5 := j4.app hown hgrow hat rfl (k1'.ints' lC) (k2'.ints' lD) n1 n2 (by omega) (by omega) HT.out
      have bx4 := (KP.out _ e4).grew hgrow (fun e => by have := OWN.out _ e; omega)
      obtain ⟨m0, m1, m2, -, -, -⟩ := bx4.trio
      refine hK.out _ _ ⟨⟨m0, m1, m2⟩, fun _ => trivial⟩ ?_
      clear hK K hown hgrow hat j4 k1 k2 k1' k2' n1 n2
      refine wpAnyE_one (i := 8) (by kernel_rfl) rfl (fun K hK => ?_)
      go_simp
      refine hK.out _ _ ⟨⟨m0, m1, m2⟩, fun _ => trivial⟩ ?_
      clear hK K
      refine wpAnyE_done (by kernel_rfl) ?_ _
      clear bx4 m0 m1 m2 KP KQ
      go_wp2
      go_roundw
      case rel => exact ⟨k + 1, _, by omega, by go_num, j5⟩
      case measure => simp [intOf]; omega
    · obtain rfl : k = 3 := by omega
      go_wp2
      go_ret
      exact ⟨_, xs, rfl, j⟩

end Go.Proofs.YtacjjhfbnbmnlaaGreatDoor

namespace Go.Proofs.YtacjjhfbnbmnlaaGreatDoor
open Go.RowKit Go.Deep
set_option linter.unusedVariables false
set_option maxRecDepth 100000

/-- No number of a row is too great. -/
structure RowFit (r : RowM) : Prop where
  g : ∀ k, k < r.guards.length → fitX 10000000 (r.guards[k]?.getD ([], [], 0))
  a : ∀ k, k < r.adds.length → fitX 10000000 (r.adds[k]?.getD ([], [], 0))
  t : ∀ k, k < r.tells.length → fitX 10000000 (r.tells[k]?.getD ([], [], 0))
  lg : r.guards.length ≤ 1000
  la : r.adds.length ≤ 3
  lt : r.tells.length ≤ 1000
theorem endW_fit {i : Nat} {y : Way} (h : WayOk i y) (hi : i ≤ 1000) : RowFit (endW y) := by
  refine ⟨fun k hk => h.gf k hk, fun k hk => ?_, fun k hk => h.tf k hk, ?_, ?_, ?_⟩
  · have hk3 : k < 3 := by
      have : (endW y).adds.length = 3 := by simp [endW]
      omega
    have e : (endW y).adds[k]?.getD ([], [], 0) = lessX (y.pots[k]?.getD noX) k := by
      rw [show (endW y).adds = (List.range 3).map (fun v => lessX (y.pots[v]?.getD noX) v) from rfl, List.getElem?_map, List.getElem?_range hk3]
      rfl
    rw [e, ← plus_neg]
    have h1 := h.pf k hk3
    have h6 := wb_six (n := min i 6) (by omega)
    have hp := wb_pos (min i 6)
    exact (plusX_fit h1 (negX_fit hk3) (by omega)).mono (by omega)
  · show y.guards.length ≤ 1000; have := h.gl; omega
  · simp [endW]
  · show y.tells.length ≤ 1000; have := h.tl; omega
theorem stopW_fit {i : Nat} {y : Way} (h : WayOk i y) (hi : i ≤ 1000) : RowFit (stopW y) :=
  ⟨fun k hk => h.gf k hk, fun k hk => by simp [stopW] at hk, fun k hk => by simp [stopW] at hk, by show y.guards.length ≤ 1000; have := h.gl; omega, by simp [stopW], by simp [stopW]⟩
theorem goW_fit {ls : List LV} (h6 : ls.length ≤ 6) (hall : ls.all LV.ok = true) (hD : ∀ k, k < ls.length → (ls[k]?.getD noLV).f.D.length = (ls[k]?.getD noLV).f.m) (f : Nat) : ∀ (i : Nat) (y : Way), i ≤ 12 + 7 * (7 - f) → f ≤ 7 → WayOk i y → ∀ r ∈ goW ls f i y, RowFit r := by
  induction f with
  | zero => intro i y hi _ h r hr; simp only [goW, List.mem_cons, List.not_mem_nil, or_false] at hr; subst hr; exact endW_fit h (by omega)
  | succ f ih =>
    intro i y hi hf7 h r hr
    rw [goW] at hr
    by_cases hl : i < ls.length
    · rw [if_pos hl] at hr
      have hok : (ls[i]?.getD noLV).ok = true := by
        rw [List.getElem?_eq_getElem hl]
        exact List.all_eq_true.1 hall _ (List.getElem_mem hl)
      have hDD := hD i hl
      generalize ls[i]?.getD noLV = q at *
      by_cases hk4 : q.kind = 4
      · rw [if_neg (by omega), if_neg (by omega), if_neg (by omega)] at hr
        simp only [List.mem_cons, List.not_mem_nil, or_false] at hr
        subst hr
        exact stopW_fit h (by omega)
      · obtain ⟨hsm, hkk, hz, hp⟩ := lineW (show lineB q.kind q.pot q.skip q.f.n q.f.m q.f.C q.f.D q.f.K = true from hok) hk4
        obtain ⟨f1, f2, f3⟩ := h.into (by omega) (f := q.f) hsm hDD
        rcases hkk with e | e | e
        · rw [if_pos e] at hr
          have hz' := hz e
          rcases List.mem_append.1 hr with hr | hr
          · exact ih _ _ (by omega) (by omega) (h.guard (by omega) f2) r hr
          · exact ih _ _ (by omega) (by omega) (h.guard (by omega) f3) r hr
        · rw [if_neg (by omega), if_pos e] at hr
          have hp' := hp e
          exact ih _ _ (by omega) (by omega) (h.add (by omega) (by omega) f1) r hr
        · rw [if_neg (by omega), if_neg (by omega), if_pos e] at hr
          exact ih _ _ (by omega) (by omega) (h.tell (by omega) f2) r hr
    · rw [if_neg hl] at hr
      simp only [List.mem_cons, List.not_mem_nil, or_false] at hr
      subst hr
      exact endW_fit h (by omega)

/-- What ways tell of, or add by. -/
def readsR (rs : List RowM) (v : Nat) : Bool := rs.any fun r => r.adds.any (fun f => hasP f v) || r.tells.any (fun f => hasP f v)
theorem readsR_snoc (rs : List RowM) (k : Nat) (hk : k < rs.length) (v : Nat) : readsR (rs.take (k + 1)) v = readsF (readsF (readsR (rs.take k)) (rs[k]?.getD noR).adds) (rs[k]?.getD noR).tells v := by
  rw [readsR, List.take_succ_eq_append_getElem hk, List.any_append, List.getElem?_eq_getElem hk]
  simp [readsF, readsR, Bool.or_assoc]
theorem rowsL_fit {ls : List LV} {w : World} {ad : Option Addr} (h6 : ls.length ≤ 6) (hall : ls.all LV.ok = true) (hF : LinesG w ad ls) : ∀ r ∈ rowsL ls, RowFit r :=
  goW_fit h6 hall (fun k hk => by obtain ⟨b, off, e, hc, hA⟩ := hF k hk; exact hA.D.1) 7 0 way0 (by omega) (by omega) WayOk.start

theorem OwnB.below {W W' : World} {G : Nat} {f : Nat → Bool} (h : OwnB W G f) (b : Below W.heap.size W W') : OwnB W' G f := by
  obtain ⟨cur, hc, hv⟩ := h
  exact ⟨cur, hc.below b, hv⟩

end Go.Proofs.YtacjjhfbnbmnlaaGreatDoor

namespace Go.Proofs.YtacjjhfbnbmnlaaGreatDoor
open Go.ChangeShapes Go.WideShapes Go.ChangeAt Go.RowKit Go.Joins Go.Deep
set_option linter.unusedVariables false
set_option maxRecDepth 100000

/-- A slice, and what it holds. -/
structure IV where
  a : Option Addr
  n : Nat
  cap : Nat
  x : List Int
def noI : IV := ⟨none, 0, 0, []⟩
def IV.v (s : IV) : Value := .slice s.a s.n s.cap

theorem trod_len1 {H : Type} {enc : TypeId × Value → H} {W : World} {fuel : Nat} {t e : TypeId} {cs : List Value} {x : DataW H × List MemPlace} (hS : Tryz.prog.underlying t = some (.slice e)) (hf : DataW.trod enc Tryz.prog W 0 (fun _ => true) true fuel t cs = some x) : cs.length = 1 := by
  rcases open_slice hS hf with ⟨h, _⟩ | ⟨a, len, cap, m, n, D, Pl, h, _⟩ <;> rw [h] <;> rfl

def IM (w : World) (s : IV) : Prop := Ints w s.a s.n s.x ∧ s.n ≤ maxLen
def IG (w : World) (s : IV) : Prop := Ints w s.a s.n s.x ∧ s.n ≤ 1048576
def IS (s : IV) : Prop := s.n ≤ 1048576
def IK (w : World) (lo : Nat) (s : IV) : Prop := ∃ B, s.a = some ⟨B, 0, none⟩ ∧ lo ≤ B ∧ Blk w B s.x ∧ s.x.length = s.n ∧ s.n ≤ 1048576
def copiesI (s t : IV) : Prop := t.n = s.n ∧ t.x = s.x
def sameI (s t : IV) : Prop := s.x = t.x
theorem IM.below {w w' : World} {s : IV} (h : IM w s) (hb : Below w.heap.size w w') : IM w' s := ⟨h.1.below hb, h.2⟩
theorem IG.below {w w' : World} {s : IV} (h : IG w s) (hb : Below w.heap.size w w') : IG w' s := ⟨h.1.below hb, h.2⟩
theorem IM.g {w : World} {s : IV} (h : IM w s) (hs : IS s) : IG w s := ⟨h.1, hs⟩
theorem IK.below {w w' : World} {lo : Nat} {s : IV} (h : IK w lo s) (hb : Below w.heap.size w w') : IK w' lo s := by
  obtain ⟨B, h1, h2, h3, h4⟩ := h
  exact ⟨B, h1, h2, h3.below hb, h4⟩
theorem IK.touch {S : Nat → Prop} {w w' : World} {lo : Nat} {s : IV} (h : IK w lo s) (t : Touch S w w') (hs : ∀ k, S k → k < lo) : IK w' lo s := by
  obtain ⟨B, h1, h2, h3, h4⟩ := h
  refine ⟨B, h1, h2, ?_, h4⟩
  unfold Blk at *
  rw [t.block B (lt_of_block h3) (fun hh => by have := hs _ hh; omega)]; exact h3
theorem IK.mono {w : World} {lo lo' : Nat} {s : IV} (h : IK w lo s) (hl : lo' ≤ lo) : IK w lo' s := by
  obtain ⟨B, h1, h2, h3⟩ := h
  exact ⟨B, h1, by omega, h3⟩
theorem IK.g {w : World} {lo : Nat} {s : IV} (h : IK w lo s) : IG w s := by
  obtain ⟨B, h1, h2, h3, h4, h5⟩ := h
  refine ⟨?_, h5⟩
  rw [h1, ← h4]; exact h3.ints
theorem open_I1 {H : Type} {enc : TypeId × Value → H} {W : World} {fuel : Nat} {v : Value} {y : DataW H × List MemPlace}
    (hf : DataW.trod enc Tryz.prog W 0 (fun _ => true) true fuel 23 [v] = some y) : ∃ s : IV, v = s.v ∧ IM W s := by
  obtain ⟨a, n, cap, zs, rfl, h1, h2⟩ := open_row hf
  exact ⟨⟨a, n, cap, zs⟩, rfl, h1, h2⟩
theorem szI_ex (a : Option Addr) (n cap : Nat) (x : List Int) (l : Int) (w : World) (h : IM w ⟨a, n, cap, x⟩) (h0 : 0 ≤ l) (hl : l ≤ 1048576) :
    Calls Tryz.prog 39 #[.slice a n cap, .int .i64 l] w fun e w' => ∃ r, e = .returned (.int .i64 r) ∧ -1 ≤ r ∧ r ≤ 1048576 ∧ (0 ≤ r → IS ⟨a, n, cap, x⟩) ∧ Below w.heap.size w w' := by
  refine (sz_any a n cap l w h.2 h0 hl).mono ?_
  rintro e w' ⟨rfl, rfl⟩
  refine ⟨_, rfl, leftOf_ge _ _, ?_, fun hr => ?_, Below.refl _ _⟩
  · by_cases hh : 0 ≤ leftOf l n
    · have := leftOf_le hh; omega
    · omega
  · have := leftOf_le hr
    show n ≤ 1048576
    omega
theorem toI_ex (a : Option Addr) (n cap : Nat) (x : List Int) (w : World) (h : IG w ⟨a, n, cap, x⟩) :
    Calls Tryz.prog 46 #[.slice a n cap] w fun e w' => ∃ a2 x2, e = .returned (.slice a2 n n) ∧ Below w.heap.size w w' ∧ IK w' w.heap.size ⟨a2, n, n, x2⟩ ∧ copiesI ⟨a, n, cap, x⟩ ⟨a2, n, n, x2⟩ := by
  refine (to_any a n cap x w h.1 h.2).mono ?_
  rintro e w' ⟨rfl, b, k⟩
  exact ⟨_, x, rfl, b, ⟨_, rfl, Nat.le_refl _, k, h.1.1, h.2⟩, rfl, rfl⟩
theorem eqI_ex (a : Option Addr) (n cap : Nat) (x : List Int) (c : Option Addr) (m cap' : Nat) (y : List Int) (w : World) (h : IG w ⟨a, n, cap, x⟩) (h' : IG w ⟨c, m, cap', y⟩) (hs : sameI ⟨a, n, cap, x⟩ ⟨c, m, cap', y⟩) :
    Calls Tryz.prog 53 #[.slice a n cap, .slice c m cap'] w fun e w' => e = .returned (.bool true) ∧ Below w.heap.size w w' := by
  refine (eq_any a c n m cap cap' x y w h.1 h'.1 h.2 h'.2).mono ?_
  rintro e w' ⟨rfl, b⟩
  have hs' : x = y := hs
  subst hs'
  exact ⟨by rw [eqB_refl], b⟩

/-- A slice of slices that came in. -/
def ISM (w : World) (ad : Option Addr) (ss : List IV) : Prop :=
  ∀ i, i < ss.length → ∃ b off, ad = some ⟨b, off, none⟩ ∧ w.cell? ⟨b, off + i, none⟩ = some (ss[i]?.getD noI).v ∧ IM w (ss[i]?.getD noI)
/-- One that may be copied. -/
def ISG (w : World) (ad : Option Addr) (ss : List IV) : Prop :=
  ∀ i, i < ss.length → ∃ b off, ad = some ⟨b, off, none⟩ ∧ w.cell? ⟨b, off + i, none⟩ = some (ss[i]?.getD noI).v ∧ IG w (ss[i]?.getD noI)
theorem ISM.below {w w' : World} {ad : Option Addr} {ss : List IV} (h : ISM w ad ss) (hb : Below w.heap.size w w') : ISM w' ad ss := fun i hi => by
  obtain ⟨b, off, e, hc, hr⟩ := h i hi
  exact ⟨b, off, e, by rw [hb.cell (p := ⟨b, off + i, none⟩) (block_lt hc)]; exact hc, hr.below hb⟩
theorem ISG.below {w w' : World} {ad : Option Addr} {ss : List IV} (h : ISG w ad ss) (hb : Below w.heap.size w w') : ISG w' ad ss := fun i hi => by
  obtain ⟨b, off, e, hc, hr⟩ := h i hi
  exact ⟨b, off, e, by rw [hb.cell (p := ⟨b, off + i, none⟩) (block_lt hc)]; exact hc, hr.below hb⟩
theorem ISM.g {w : World} {ad : Option Addr} {ss : List IV} (h : ISM w ad ss) (hs : ∀ i, i < ss.length → IS (ss[i]?.getD noI)) : ISG w ad ss := fun i hi => by
  obtain ⟨b, off, e, hc, hr⟩ := h i hi
  exact ⟨b, off, e, hc, hr.g (hs i hi)⟩

/-- Each holds what the other does. -/
def copiesIS (ss ts : List IV) : Prop := ∀ i, i < ts.length → copiesI (ss[i]?.getD noI) (ts[i]?.getD noI)

/-- Block B holds N slices, of which those of ts have been laid. -/
structure MI (W : World) (B N : Nat) (ts : List IV) : Prop where
  c : ∃ vs : List Value, Cel W B vs 23 ∧ vs.length = N ∧ ∀ i, i < ts.length → vs[i]? = some (ts[i]?.getD noI).v
  l : ∀ i, i < ts.length → IK W (B + 1) (ts[i]?.getD noI)
theorem MI.lt {W : World} {B N : Nat} {ts : List IV} (h : MI W B N ts) : B < W.heap.size := by
  obtain ⟨vs, h1, _⟩ := h.c
  exact h1.lt
theorem MI.below {W W' : World} {B N : Nat} {ts : List IV} (h : MI W B N ts) (b : Below W.heap.size W W') : MI W' B N ts := by
  obtain ⟨vs, h1, h2, h3⟩ := h.c
  exact ⟨⟨vs, h1.below b, h2, h3⟩, fun i hi => (h.l i hi).below b⟩
theorem MI.g {W : World} {B N : Nat} {ts : List IV} (h : MI W B N ts) : ISG W (some ⟨B, 0, none⟩) ts := fun i hi => by
  obtain ⟨vs, h1, h2, h3⟩ := h.c
  exact ⟨B, 0, rfl, by rw [Nat.zero_add, h1.cell i, h3 i hi], (h.l i hi).g⟩
theorem MI.step {W W1 : World} {B N k : Nat} {ts : List IV} {s : IV} (h : MI W B N ts) (hk : ts.length = k) (hkN : k < N) (b : Below W.heap.size W W1) (hs : IK W1 W.heap.size s) : MI (W1.setCell ⟨B, k, none⟩ s.v) B N (ts ++ [s]) := by
  have hB := h.lt
  obtain ⟨vs, h1, h2, h3⟩ := (h.below b).c
  have T : Touch (fun x => x = B) W1 (W1.setCell ⟨B, k, none⟩ s.v) := Touch.setCell (S := fun x => x = B) (Touch.refl _ _) rfl _
  refine ⟨⟨vs.set k s.v, h1.set _ _, by rw [List.length_set]; exact h2, fun i hi => ?_⟩, fun i hi => ?_⟩
  · rw [List.length_append, hk] at hi
    simp only [List.length_cons, List.length_nil] at hi
    by_cases e : i = k
    · subst e
      rw [List.getElem?_set_self (by omega), List.getElem?_append_right (by omega), hk]; simp
    · rw [List.getElem?_set_ne (by omega), List.getElem?_append_left (by omega)]
      exact h3 i (by omega)
  · rw [List.length_append, hk] at hi
    simp only [List.length_cons, List.length_nil] at hi
    by_cases e : i = k
    · subst e
      rw [List.getElem?_append_right (by omega), hk]
      simp only [Nat.sub_self, List.getElem?_cons_zero, Option.getD_some]
      exact (hs.mono (by omega)).touch T (fun x hx => by omega)
    · rw [List.getElem?_append_left (by omega)]
      exact (((h.l i (by omega)).below b)).touch T (fun x hx => by omega)

theorem Tryz.infoI : (Tryz.prog.info? 23).map (fun i => (i.zero, i.size, i.bytes)) = some (some (.slice none 0 0), 1, 24) := by kernel_rfl

end Go.Proofs.YtacjjhfbnbmnlaaGreatDoor

namespace Go.Proofs.YtacjjhfbnbmnlaaGreatDoor
open Go.RowKit
set_option linter.unusedVariables false

set_option maxHeartbeats 400000 in
theorem l4same_any (a c : Option Addr) (n m cap cap' : Nat) (xs ys : List Int) (w : World) (h : Ints w a n xs) (h' : Ints w c m ys) (hn : n ≤ 1048576) (hm : m ≤ 1048576) :
    Calls Tryz.prog 96 #[.slice a n cap, .slice c m cap'] w fun e w' => e = .returned (.bool (eqB xs ys)) ∧ Below w.heap.size w w' := by
  have hx := h.1
  have HX : Hid (xs.length = n) := hx
  have hy := h'.1
  have HY : Hid (ys.length = m) := hy
  clear hx hy
  by_cases hc : n = m
  · subst hc
    go_enter Tryz.func96, Tryz.ntmps96
    go_wp2_with fail
    go_loopw [5] (fun i wr => ∃ k : Nat, k ≤ n ∧ i = .int .i64 k ∧ Below w.heap.size w wr ∧ xs.take k = ys.take k) (fun i _ => n - (intOf i).toNat)
    case atStart => exact ⟨0, Nat.zero_le _, rfl, Below.refl _ _, rfl⟩
    case round =>
      obtain ⟨k, hk, rfl, hnx, hall⟩ := hrel
      have HA : Hid (xs.take k = ys.take k) := hall
      clear hall
      by_cases hlt : k < n
      · obtain ⟨b, off, rfl, hcell⟩ := (h.below hnx).pos (by omega)
        obtain ⟨b', off', rfl, hcell'⟩ := (h'.below hnx).pos (by omega)
        have hck := hcell k hlt
        have hck' := hcell' k hlt
        have hlt' : (k : Int) < (n : Int) := by omega
        clear hcell hcell' h h'
        go_wp2_with fail
        go_quiet (fail)
        cases he : (xs[k]?.getD 0 != ys[k]?.getD 0)
        · go_wp2
          go_roundw
          case rel => exact ⟨k + 1, by omega, by go_num, below_drewN hnx _, take_same_succ (by rw [HX.out]; exact hlt) (by rw [HY.out]; exact hlt) HA.out (by simpa using he)⟩
          case measure => simp [intOf]; omega
        · go_wp2
          go_ret
          exact ⟨ret_bool (by rw [eqB_false (k := k) (by simpa using he)]), below_drewN hnx _⟩
      · go_wp2
        go_ret
        exact ⟨ret_bool (by rw [eqB_true HX.out HY.out (by omega) HA.out]), hnx⟩
  · have hne : ((n : Int) != (m : Int)) = true := by simp; omega
    go_enter Tryz.func96, Tryz.ntmps96
    go_wp2
    go_ret
    exact ⟨ret_bool (by rw [eqB_len (by rw [HX.out, HY.out]; exact hc)]), Below.refl _ _⟩

/-- The place of a part among others, from place k on. -/
def hasFrom (part : List Int) : Nat → List (List Int) → Int
  | _, [] => -1
  | k, x :: t => if eqB x part then k else hasFrom part (k + 1) t
def hasI (ss : List IV) (part : List Int) : Int := hasFrom part 0 (ss.map IV.x)
theorem has_drop {ss : List IV} {part : List Int} {k : Nat} (h : k < ss.length) : hasFrom part k ((ss.map IV.x).drop k) = if eqB (ss[k]?.getD noI).x part then (k : Int) else hasFrom part (k + 1) ((ss.map IV.x).drop (k + 1)) := by
  have hl : k < (ss.map IV.x).length := by simpa using h
  rw [List.drop_eq_getElem_cons hl, hasFrom, List.getElem?_eq_getElem h]
  simp
theorem has_end {ss : List IV} {part : List Int} {k : Nat} (h : ss.length ≤ k) : hasFrom part k ((ss.map IV.x).drop k) = -1 := by
  rw [List.drop_eq_nil_of_le (by simpa using h)]; rfl

set_option maxHeartbeats 800000 in
theorem shas_any (ad : Option Addr) (N cap : Nat) (ss : List IV) (c : Option Addr) (m cap' : Nat) (part : List Int) (w : World) (hN : ss.length = N) (hF : ISG w ad ss) (hN1 : N ≤ 1048576) (hP : Ints w c m part) (hm : m ≤ 1048576) :
    Calls Tryz.prog 95 #[.slice ad N cap, .slice c m cap'] w fun e w' => e = .returned (.int .i64 (hasI ss part)) ∧ Below w.heap.size w w' := by
  have HN : Hid (ss.length = N) := hN
  clear hN
  go_enter Tryz.func95, Tryz.ntmps95
  go_wp2_with fail
  go_loopw [5] (fun i wr => ∃ k : Nat, k ≤ N ∧ i = .int .i64 k ∧ Below w.heap.size w wr ∧ hasI ss part = hasFrom part k ((ss.map IV.x).drop k)) (fun i _ => N - (intOf i).toNat)
  case atStart => exact ⟨0, Nat.zero_le _, rfl, Below.refl _ _, rfl⟩
  case round =>
    obtain ⟨k, hk, rfl, hb, hall⟩ := hrel
    have HA : Hid _ := hall
    clear hall
    by_cases hlt : k < N
    · obtain ⟨b, off, rfl, hc, hr⟩ := (hF.below hb) k (by rw [HN.out]; exact hlt)
      have HD : Hid _ := has_drop (ss := ss) (part := part) (k := k) (by rw [HN.out]; exact hlt)
      generalize HG : ss[k]?.getD noI = g at *
      clear HG hF
      obtain ⟨ga, gn, gcap, gx⟩ := g
      have hc' : wr.cell? ⟨b, off + k, none⟩ = some (.slice ga gn gcap) := hc
      clear hc
      cases he : eqB gx part
      · go_wp2_with fail
        refine (l4same_any _ _ _ _ _ _ gx part _ hr.1 (hP.below hb) hr.2 hm).mono ?_
        rintro e w1 ⟨rfl, b1⟩
        rw [he]
        go_wp2
        go_roundw
        case rel => exact ⟨k + 1, by omega, by go_num, hb.trans (b1.mono hb.size), by rw [HA.out, HD.out]; simp only [he]; rfl⟩
        case measure => simp [intOf]; omega
      · go_wp2_with fail
        refine (l4same_any _ _ _ _ _ _ gx part _ hr.1 (hP.below hb) hr.2 hm).mono ?_
        rintro e w1 ⟨rfl, b1⟩
        rw [he]
        go_wp2
        go_ret
        exact ⟨ret_int (by rw [HA.out, HD.out]; simp only [he]; rfl), hb.trans (b1.mono hb.size)⟩
    · go_wp2
      go_ret
      exact ⟨ret_int (by rw [HA.out, has_end (by rw [HN.out]; omega)]), hb⟩

end Go.Proofs.YtacjjhfbnbmnlaaGreatDoor

namespace Go.Proofs.YtacjjhfbnbmnlaaGreatDoor
open Go.RowKit
set_option linter.unusedVariables false

/-- The sign of the first that is not 0. -/
def sgn1 (c : Int) : Int := if 0 < c then 1 else if c < 0 then -1 else 0
theorem sgn1_vals (c : Int) : sgn1 c = 0 ∨ sgn1 c = 1 ∨ sgn1 c = -1 := by
  unfold sgn1
  split
  · simp
  · split <;> simp
def sgn : List Int → Int
  | [] => 0
  | c :: t => if sgn1 c = 0 then sgn t else sgn1 c
theorem sgn_append (xs ys : List Int) : sgn (xs ++ ys) = if sgn xs = 0 then sgn ys else sgn xs := by
  induction xs with
  | nil => simp [sgn]
  | cons c t ih =>
    simp only [List.cons_append, sgn]
    by_cases h : sgn1 c = 0
    · simp only [h, if_true]; exact ih
    · simp only [h, if_false]
theorem sgn_one (c : Int) : sgn [c] = sgn1 c := by
  simp only [sgn]
  split
  · next h => exact h.symm
  · rfl
theorem sgn_take_succ {C : List Int} {k : Nat} (h : k < C.length) : sgn (C.take (k + 1)) = if sgn (C.take k) = 0 then sgn1 (C[k]?.getD 0) else sgn (C.take k) := by
  rw [List.take_succ_eq_append_getElem h, sgn_append, List.getElem?_eq_getElem h, sgn_one]
  rfl
theorem sgn_whole {C : List Int} {k : Nat} (h : sgn (C.take k) ≠ 0) : sgn C = sgn (C.take k) := by
  have := sgn_append (C.take k) (C.drop k)
  rw [List.take_append_drop, if_neg h] at this
  exact this
theorem sgn_end {C : List Int} {k n : Nat} (hn : C.length = n) (h : n ≤ k) : sgn (C.take k) = sgn C := by rw [List.take_of_length_le (by omega)]

/-- What the list is multiplied with. -/
def sg (C : List Int) : Int := if sgn C < 0 then -1 else 1
def mulW (n : Int) (zs : List Int) : List Int := zs.map fun z => wrap64 (n * z)
def partL (C : List Int) : List Int := mulW (sg C) C
theorem mulW_len (n : Int) (zs : List Int) : (mulW n zs).length = zs.length := by simp [mulW]
theorem mulW_get {n : Int} {zs : List Int} {i : Nat} (h : i < zs.length) : (mulW n zs)[i]?.getD 0 = wrap64 (n * zs[i]?.getD 0) := by
  simp [mulW, h]
theorem part_len (C : List Int) : (partL C).length = C.length := mulW_len _ _
theorem part_step {C : List Int} {k : Nat} (h : k < C.length) : (partL C).take (k + 1) = (partL C).take k ++ [wrap64 (sgn (C.take (k + 1)) * C[k]?.getD 0)] := by
  have hl : k < (partL C).length := by rw [part_len]; exact h
  rw [List.take_succ_eq_append_getElem hl]
  congr 2
  have e : (partL C)[k] = wrap64 (sg C * C[k]?.getD 0) := by
    have := mulW_get (n := sg C) h
    rw [show mulW (sg C) C = partL C from rfl, List.getElem?_eq_getElem hl] at this
    simpa using this
  rw [e]
  by_cases hs : sgn (C.take (k + 1)) = 0
  · have h1 := sgn_take_succ h
    have h2 : sgn1 (C[k]?.getD 0) = 0 := by
      rw [hs] at h1
      by_cases h3 : sgn (C.take k) = 0
      · rw [if_pos h3] at h1; exact h1.symm
      · rw [if_neg h3] at h1; exact absurd h1.symm h3
    have h3 : C[k]?.getD 0 = 0 := by
      unfold sgn1 at h2
      split at h2
      · omega
      · split at h2 <;> omega
    rw [h3]; simp
  · have h1 := sgn_whole hs
    have : sg C = sgn (C.take (k + 1)) := by
      unfold sg
      rw [h1]
      have hv : ∀ xs : List Int, sgn xs = 0 ∨ sgn xs = 1 ∨ sgn xs = -1 := by
        intro xs
        induction xs with
        | nil => simp [sgn]
        | cons c t ih =>
          simp only [sgn]
          by_cases hc : sgn1 c = 0
          · simp only [hc, if_true]; exact ih
          · rw [if_neg hc]; exact sgn1_vals c
      rcases hv (C.take (k + 1)) with e | e | e
      · exact absurd e hs
      · rw [e]; simp
      · rw [e]; simp
    rw [this]

set_option maxHeartbeats 400000 in
theorem timesW_any (a : Option Addr) (l cap : Nat) (zs : List Int) (n : Int) (w : World) (h : Ints w a l zs) (hl : l ≤ 1048576) :
    Calls Tryz.prog 200 #[.slice a l cap, .int .i64 n] w fun e w' => e = .returned (.slice (some ⟨w.heap.size, 0, none⟩) l l) ∧ Below w.heap.size w w' ∧ Blk w' w.heap.size (mulW n zs) := by
  have HZ : Hid (zs.length = l) := h.1
  have HM : Hid ((mulW n zs).length = l) := by show (mulW n zs).length = l; simp [mulW, h.1]
  obtain ⟨i0, hi, hz0, hz1, hz2⟩ := info_parts Tryz.infoInt
  go_enter Tryz.func200, Tryz.ntmps200
  go_wp2_with (at_make; refine wpList_make_full _ rfl (.tmp 9) (.tmp 9) 23 rfl w.heap.size 3 i0 (.int .i64 0) 1 Tryz.underlying23 hi hz0 hz1 .i64 .i64 _ _ l rfl rfl rfl rfl (by rw [hz2]; omega) (by unfold maxLen; omega) (Nat.le_refl _) ?_; intro w1 hown hgrow)
  have hb1 := Blk.made w l w1 hown
  have HB : Below w.heap.size w w1 := (Below.refl _ _).grown hgrow (Nat.le_refl _) (by simp)
  clear hown hgrow hi hz0 hz1 hz2
  go_loopw [6, 7, 13] (fun _ _ i wr => ∃ k : Nat, k ≤ l ∧ i = .int .i64 k ∧ Below w.heap.size w wr ∧ Blk wr w.heap.size (upTo (mulW n zs) l k)) (fun _ _ i _ => l - (intOf i).toNat)
  case atStart => exact ⟨0, Nat.zero_le _, rfl, HB, by rw [upTo_zero]; exact hb1⟩
  case round =>
    obtain ⟨k, hk, rfl, hnx, hblk⟩ := hrel
    by_cases hlt : k < l
    · obtain ⟨b, off, rfl, hcell⟩ := (h.below hnx).pos (by omega)
      have hck := hcell k hlt
      have hco := hblk.cell k (by rw [upTo_len HM.out hk]; exact hlt)
      have hfo := hblk.free k
      have R := hblk.set k ((mulW n zs)[k]?.getD 0)
      rw [upTo_succ HM.out hlt, mulW_get (by rw [HZ.out]; exact hlt)] at R
      have R2 := hnx.setCell (p := ⟨w.heap.size, k, none⟩) (Nat.le_refl _) (.int .i64 (wrap64 (n * zs[k]?.getD 0)))
      clear hcell hb1 HB h hblk hnx
      go_wp2
      go_roundw
      case rel => exact ⟨k + 1, by omega, by go_num, R2, R⟩
      case measure => simp [intOf]; omega
    · go_wp2
      go_ret
      exact ⟨rfl, hnx, by rw [upTo_end HM.out (by omega)] at hblk; exact hblk⟩

set_option maxHeartbeats 800000 in
theorem ipart_any (a : Option Addr) (n cap : Nat) (c : Option Addr) (m cap' : Nat) (K : Int) (C : List Int) (w : World) (hC : Ints w a n C) (hn : n ≤ 1048576) :
    Calls Tryz.prog 186 #[formV a n cap c m cap' K] w fun e w' => e = .returned (.slice (some ⟨w.heap.size + 1, 0, none⟩) n n) ∧ Below w.heap.size w w' ∧ Blk w' (w.heap.size + 1) (partL C) := by
  have HC : Hid (C.length = n) := hC.1
  go_enter Tryz.func186, Tryz.ntmps186
  go_wp2_with fail
  have hC1 := hC.alloc (.cells #[.slice a n cap, .slice c m cap', .int .i64 K] 127)
  have hend : ∀ (s : Int) (w2 : World), sg C = s → Below (w.alloc (.cells #[.slice a n cap, .slice c m cap', .int .i64 K] 127)).heap.size (w.alloc (.cells #[.slice a n cap, .slice c m cap', .int .i64 K] 127)) w2 → Blk w2 (w.alloc (.cells #[.slice a n cap, .slice c m cap', .int .i64 K] 127)).heap.size (mulW s C) → Below w.heap.size w w2 ∧ Blk w2 (w.heap.size + 1) (partL C) := by
    intro s w2 hs b2 k2
    rw [World.size_alloc] at k2
    exact ⟨((Below.refl _ _).alloc (Nat.le_refl _) _).trans (b2.mono (by simp)), by unfold partL; rw [hs]; exact k2⟩
  have HE : Hid _ := hend
  clear hend
  go_loop [4, 8] (fun _ i => ∃ k : Nat, k ≤ n ∧ i = .int .i64 k ∧ sgn (C.take k) = 0) (fun _ i => n - (intOf i).toNat)
  case atStart => exact ⟨0, Nat.zero_le _, rfl, rfl⟩
  case round =>
    obtain ⟨k, hk, rfl, hs⟩ := hrel
    have HS : Hid (sgn (C.take k) = 0) := hs
    clear hs
    by_cases hlt : k < n
    · obtain ⟨b, off, rfl, hcell⟩ := hC1.pos (by omega)
      have hck := hcell k hlt
      clear hcell
      have HT : Hid (sgn (C.take (k + 1)) = sgn1 (C[k]?.getD 0)) := by
        show sgn (C.take (k + 1)) = sgn1 (C[k]?.getD 0)
        rw [sgn_take_succ (by rw [HC.out]; exact hlt), if_pos HS.out]
      by_cases h1 : 0 < C[k]?.getD 0
      · have HG : Hid (sg C = 1) := by
          show sg C = 1
          have e := HT.out
          rw [sgn1, if_pos h1] at e
          have := sgn_whole (C := C) (k := k + 1) (by rw [e]; decide)
          rw [sg, this, e]; rfl
        go_wp2_with fail
        refine (timesW_any _ _ _ C _ _ hC1 hn).mono ?_
        rintro e w2 ⟨rfl, b2, k2⟩
        go_wp2
        go_ret
        exact ⟨rfl, HE.out 1 w2 HG.out b2 k2⟩
      · by_cases h2 : C[k]?.getD 0 < 0
        · have HG : Hid (sg C = -1) := by
            show sg C = -1
            have e := HT.out
            rw [sgn1, if_neg h1, if_pos h2] at e
            have := sgn_whole (C := C) (k := k + 1) (by rw [e]; decide)
            rw [sg, this, e]; rfl
          go_wp2_with fail
          refine (timesW_any _ _ _ C _ _ hC1 hn).mono ?_
          rintro e w2 ⟨rfl, b2, k2⟩
          go_wp2
          go_ret
          exact ⟨rfl, HE.out (-1) w2 HG.out b2 k2⟩
        · have HT2 : Hid (sgn (C.take (k + 1)) = 0) := by
            show sgn (C.take (k + 1)) = 0
            rw [HT.out, sgn1, if_neg h1, if_neg h2]
          go_wp2
          go_round
          case rel => exact ⟨k + 1, by omega, by go_num, HT2.out⟩
          case measure => simp [intOf]; omega
    · have HG : Hid (sg C = 1) := by
        show sg C = 1
        have e := HS.out
        rw [sgn_end HC.out (by omega)] at e
        rw [sg, e]; rfl
      go_wp2_with fail
      refine (timesW_any _ _ _ C _ _ hC1 hn).mono ?_
      rintro e w2 ⟨rfl, b2, k2⟩
      go_wp2
      go_ret
      exact ⟨rfl, HE.out 1 w2 HG.out b2 k2⟩

set_option maxRecDepth 100000 in
set_option maxHeartbeats 1600000 in
theorem spart_new (a : Option Addr) (n cap : Nat) (c : Option Addr) (m cap' : Nat) (K : Int) (C : List Int) (w : World) (hC : Ints w a n C) (hn : n ≤ 1048576) :
    Calls Tryz.prog 94 #[formV a n cap c m cap' K] w fun e w' => ∃ a' cap2, e = .returned (.slice a' n cap2) ∧ Below w.heap.size w w' ∧ Ints w' a' n (partL C) ∧ (∀ b o, a' = some ⟨b, o, none⟩ → w.heap.size ≤ b ∧ b < w'.heap.size) := by
  have HC : Hid (C.length = n) := hC.1
  obtain ⟨i0, hi, hz0, hz1, hz2⟩ := info_parts Tryz.infoInt
  go_enter Tryz.func94, Tryz.ntmps94
  go_wp2_with fail
  obtain ⟨W, hW⟩ : ∃ W, W = w.alloc (.cells #[.slice a n cap, .slice c m cap', .int .i64 K] 127) := ⟨_, rfl⟩
  have box : Cel W w.heap.size [.slice a n cap, .slice c m cap', .int .i64 K] 127 := by rw [hW]; exact Cel.new w _ _
  have BW : Below w.heap.size w W := by rw [hW]; exact (Below.refl _ _).alloc (Nat.le_refl _) _
  have hCW : Ints W a n C := hC.below BW
  have HWS : Hid (W.heap.size = w.heap.size + 1) := by show W.heap.size = _; rw [hW, World.size_alloc]
  rw [← hW]
  clear hW hC
  go_loopw [3, 4, 5] (fun v s i wr => ∃ k : Nat, k ≤ n ∧ i = .int .i64 k ∧ s = .int .i64 (sgn (C.take k)) ∧ ∃ xs : List Int, xs.length = k ∧ xs = (partL C).take k ∧ JA W v xs wr) (fun _ _ i _ => n - (intOf i).toNat)
  case atStart => exact ⟨0, Nat.zero_le _, rfl, rfl, [], rfl, rfl, by rw [← HWS.out]; exact JA.lit W⟩
  case round =>
    obtain ⟨k, hk, rfl, rfl, xs, hxl, hxs, j⟩ := hrel
    have HL : Hid (xs.length = k) := hxl
    have HXS : Hid (xs = (partL C).take k) := hxs
    clear hxl hxs
    have jo := (j.o)
    rw [HL.out] at jo
    have hjb := j.b.size
    have g0 := (box.below j.b).cell 0
    simp only [List.getElem?_cons_zero] at g0
    by_cases hlt : k < n
    · obtain ⟨b, off, rfl, hcell⟩ := (hCW.below j.b).pos (by omega)
      have hck : wr.cell? ⟨b, off + k, none⟩ = some (.int .i64 (C[k]?.getD 0)) := by rw [hcell k hlt]; simp
      clear hcell
      have HT : Hid _ := sgn_take_succ (C := C) (k := k) (by rw [HC.out]; exact hlt)
      have HP : Hid _ := part_step (C := C) (k := k) (by rw [HC.out]; exact hlt)
      generalize HS : sgn (C.take k) = s at *
      generalize HX : C[k]?.getD 0 = x at *
      clear HS HX
      by_cases hs0 : s = 0
      · subst hs0
        by_cases h1 : 0 < x
        · have HT2 : Hid (sgn1 x = 1) := by show sgn1 x = 1; rw [sgn1, if_pos h1]
          go_wp2_with (at_builtin; go_must (refine wpList_append_lies _ rfl (.tmp 34) (.tmp 42) 23 rfl W.heap.size 3 i0 (.int .i64 0) 1 8 Tryz.underlying23 hi hz0 hz1 hz2 rfl (by decide) _ _ _ rfl (jo.alloc _) ⟨wr.heap.size, 0, none⟩ 1 1 [.int .i64 (wrap64 x)] rfl rfl (news1 _ _ _) (one1 _ _) (by omega) (by unfold maxLen; omega) (by omega) (by rw [World.size_alloc]; omega) _ rfl ?_); intro g cp w1 hown hgrow hat hlt1)
          have j2 := j.app HL.out hown hgrow
          clear hown hgrow jo j hat
          have HX2 : Hid (xs ++ [wrap64 x] = (partL C).take (k + 1)) := by show _ = _; rw [HP.out, HXS.out, HT.out, if_pos rfl, HT2.out, Int.one_mul]
          go_wp2
          go_roundw
          case rel => exact ⟨k + 1, by omega, by go_num, by rw [HT.out, if_pos rfl, HT2.out], _, by rw [List.length_append, HL.out]; rfl, HX2.out, j2⟩
          case measure => simp [intOf]; omega
        · by_cases h2 : x < 0
          · have HT2 : Hid (sgn1 x = -1) := by show sgn1 x = -1; rw [sgn1, if_neg h1, if_pos h2]
            go_wp2_with (at_builtin; go_must (refine wpList_append_lies _ rfl (.tmp 34) (.tmp 42) 23 rfl W.heap.size 3 i0 (.int .i64 0) 1 8 Tryz.underlying23 hi hz0 hz1 hz2 rfl (by decide) _ _ _ rfl (jo.alloc _) ⟨wr.heap.size, 0, none⟩ 1 1 [.int .i64 (wrap64 (-x))] rfl rfl (news1 _ _ _) (one1 _ _) (by omega) (by unfold maxLen; omega) (by omega) (by rw [World.size_alloc]; omega) _ rfl ?_); intro g cp w1 hown hgrow hat hlt1)
            have j2 := j.app HL.out hown hgrow
            clear hown hgrow jo j hat
            have HX2 : Hid (xs ++ [wrap64 (-x)] = (partL C).take (k + 1)) := by show _ = _; rw [HP.out, HXS.out, HT.out, if_pos rfl, HT2.out, Int.neg_one_mul]
            go_wp2
            go_roundw
            case rel => exact ⟨k + 1, by omega, by go_num, by rw [HT.out, if_pos rfl, HT2.out], _, by rw [List.length_append, HL.out]; rfl, HX2.out, j2⟩
            case measure => simp [intOf]; omega
          · have HT2 : Hid (sgn1 x = 0) := by show sgn1 x = 0; rw [sgn1, if_neg h1, if_neg h2]
            go_wp2_with (at_builtin; go_must (refine wpList_append_lies _ rfl (.tmp 34) (.tmp 42) 23 rfl W.heap.size 3 i0 (.int .i64 0) 1 8 Tryz.underlying23 hi hz0 hz1 hz2 rfl (by decide) _ _ _ rfl (jo.alloc _) ⟨wr.heap.size, 0, none⟩ 1 1 [.int .i64 0] rfl rfl (news1 _ _ _) (one1 _ _) (by omega) (by unfold maxLen; omega) (by omega) (by rw [World.size_alloc]; omega) _ rfl ?_); intro g cp w1 hown hgrow hat hlt1)
            have j2 := j.app HL.out hown hgrow
            clear hown hgrow jo j hat
            have HX2 : Hid (xs ++ [0] = (partL C).take (k + 1)) := by show _ = _; rw [HP.out, HXS.out, HT.out, if_pos rfl, HT2.out, Int.zero_mul, show wrap64 0 = 0 from by decide +kernel]
            go_wp2
            go_roundw
            case rel => exact ⟨k + 1, by omega, by go_num, by rw [HT.out, if_pos rfl, HT2.out], _, by rw [List.length_append, HL.out]; rfl, HX2.out, j2⟩
            case measure => simp [intOf]; omega
      · have hs1 : (s == 0) = false := by simp [hs0]
        go_wp2_with (at_builtin; go_must (refine wpList_append_lies _ rfl (.tmp 34) (.tmp 42) 23 rfl W.heap.size 3 i0 (.int .i64 0) 1 8 Tryz.underlying23 hi hz0 hz1 hz2 rfl (by decide) _ _ _ rfl (jo.alloc _) ⟨wr.heap.size, 0, none⟩ 1 1 [.int .i64 (wrap64 (s * x))] rfl rfl (news1 _ _ _) (one1 _ _) (by omega) (by unfold maxLen; omega) (by omega) (by rw [World.size_alloc]; omega) _ rfl ?_); intro g cp w1 hown hgrow hat hlt1)
        have j2 := j.app HL.out hown hgrow
        clear hown hgrow jo j hat
        have HX2 : Hid (xs ++ [wrap64 (s * x)] = (partL C).take (k + 1)) := by show _ = _; rw [HP.out, HXS.out, HT.out, if_neg hs0]
        go_wp2
        go_roundw
        case rel => exact ⟨k + 1, by omega, by go_num, by rw [HT.out, if_neg hs0], _, by rw [List.length_append, HL.out]; rfl, HX2.out, j2⟩
        case measure => simp [intOf]; omega
    · obtain rfl : k = n := by omega
      obtain ⟨a', cp, rfl, hcp, hI, hlt'⟩ := j.ints
      have HXC : Hid (xs = partL C) := by show xs = _; rw [HXS.out, List.take_of_length_le (by rw [part_len, HC.out]; exact Nat.le_refl _)]
      rw [HL.out] at hI hcp ⊢
      have jb := j.b
      clear j jo
      go_wp2
      go_ret
      exact ⟨a', cp, rfl, BW.trans (jb.mono BW.size), by rw [← HXC.out]; exact hI, fun b o e => ⟨by have := (hlt' b o e).1; have := HWS.out; omega, (hlt' b o e).2⟩⟩

theorem spart_any (a : Option Addr) (n cap : Nat) (c : Option Addr) (m cap' : Nat) (K : Int) (C : List Int) (w : World) (hC : Ints w a n C) (hn : n ≤ 1048576) :
    Calls Tryz.prog 94 #[formV a n cap c m cap' K] w fun e w' => ∃ a' cap2, e = .returned (.slice a' n cap2) ∧ Below w.heap.size w w' ∧ Ints w' a' n (partL C) ∧ (∀ b o, a' = some ⟨b, o, none⟩ → b < w'.heap.size) := by
  refine (spart_new a n cap c m cap' K C w hC hn).mono ?_
  rintro e w' ⟨a', cap2, h1, h2, h3, h4⟩
  exact ⟨a', cap2, h1, h2, h3, fun b o e => (h4 b o e).2⟩

end Go.Proofs.YtacjjhfbnbmnlaaGreatDoor

